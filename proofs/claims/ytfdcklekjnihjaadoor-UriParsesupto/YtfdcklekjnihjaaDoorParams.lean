/-
  Lists of parameters as rows of three cells each; the document's own Lists and Same.
-/
import Derived.Test.YtfdcklekjnihjaaDoorWrittenL
import Derived.Deep.QuietTactic
import Derived.BigQuiet
import Derived.Laws.StructEq
import Derived.ChangeKeysEq
namespace Go.Proofs.YtfdcklekjnihjaaDoor
open Go.RowKit Sc
set_option linter.unusedVariables false
set_option maxRecDepth 20000
set_option linter.unusedSimpArgs false

/-- Element k of the row at a holds p. -/
def ParAt (w : World) (a : Addr) (k : Nat) (p : Par) : Prop :=
  w.cell? (a.add (k * 3)) = some (.string ⟨p.name.toArray⟩) ∧ w.cell? ⟨(a.add (k * 3)).block, (a.add (k * 3)).off + 1, none⟩ = some (.string ⟨p.value.toArray⟩) ∧ w.cell? ⟨(a.add (k * 3)).block, (a.add (k * 3)).off + 2, none⟩ = some (.bool p.has)
/-- The slice v holds the parameters ps. -/
def ParsAt (w : World) (v : Value) (ps : List Par) : Prop :=
  (v = .slice none 0 0 ∧ ps = []) ∨ ∃ (a : Addr) (cap : Nat), v = .slice (some a) ps.length cap ∧ ∀ k (hk : k < ps.length), a.block < w.heap.size ∧ ParAt w a k ps[k]

theorem cell_below {B : Nat} {w w' : World} (h : Below B w w') {a : Addr} (ha : a.block < B) {v : Value} (hc : w.cell? a = some v) : w'.cell? a = some v := by
  rw [← hc]
  simp only [World.cell?]
  rw [h.block a.block ha]
theorem add_block (a : Addr) (i : Nat) : (a.add i).block = a.block := by unfold Addr.add; split <;> rfl
theorem ParAt.below {B : Nat} {w w' : World} {a : Addr} {k : Nat} {p : Par} (h : ParAt w a k p) (hb : Below B w w') (ha : a.block < B) : ParAt w' a k p :=
  ⟨cell_below hb (by rw [add_block]; exact ha) h.1, cell_below hb (by simp only [add_block]; exact ha) h.2.1, cell_below hb (by simp only [add_block]; exact ha) h.2.2⟩
theorem ParsAt.below {w w' : World} {v : Value} {ps : List Par} (h : ParsAt w v ps) (hb : Below w.heap.size w w') : ParsAt w' v ps := by
  rcases h with h | ⟨a, cap, hv, hc⟩
  · exact Or.inl h
  · exact Or.inr ⟨a, cap, hv, fun k hk => ⟨Nat.lt_of_lt_of_le (hc k hk).1 hb.size, (hc k hk).2.below hb (hc k hk).1⟩⟩
theorem ParsAt.form {w : World} {v : Value} {ps : List Par} (h : ParsAt w v ps) : ∃ a cap, v = .slice a ps.length cap := by
  rcases h with ⟨rfl, rfl⟩ | ⟨a, cap, rfl, _⟩
  · exact ⟨none, 0, rfl⟩
  · exact ⟨_, cap, rfl⟩

theorem stoodPar : Tryd.prog.stoodInHeld 66 = false := by kernel_rfl
theorem guardPar : Tryd.prog.eqGuardType Tryd.prog.depth 66 = false := by kernel_rfl
theorem fieldsPar : Tryd.prog.underlying 66 = some (.struct (Tryd.prog.fieldsOf 66)) := by kernel_rfl
theorem listPar : (Tryd.prog.fieldsOf 66).toList.map (fun f => (f.type, f.offset, f.name == "_")) = [(9, 0, false), (9, 1, false), (4, 2, false)] := by kernel_rfl
theorem plainStr : Tryd.prog.plainKey 9 = true := by kernel_rfl
theorem plainBool : Tryd.prog.plainKey 4 = true := by kernel_rfl
theorem neqPar (x y x' y' : ByteArray) (b b' : Bool) (u : World) : (binOp .neq 66 (.agg #[.string x, .string y, .bool b]) (.agg #[.string x', .string y', .bool b'])).run Tryd.prog u = .ok (.bool (!(x.toList == x'.toList && (y.toList == y'.toList && b == b')))) u := by
  rw [run_neq_struct, run_equalIn_agg _ 9999 _ _ _ fieldsPar stoodPar]
  have h := listPar
  generalize (Tryd.prog.fieldsOf 66).toList = fs at h ⊢
  have hlen : fs.length = 3 := by have := congrArg List.length h; simpa using this
  match fs, hlen, h with
  | [f0, f1, f2], _, h =>
    simp only [List.map_cons, List.map_nil, List.cons.injEq, Prod.mk.injEq, and_true, beq_eq_false_iff_ne] at h
    obtain ⟨⟨t0, o0, n0⟩, ⟨t1, o1, n1⟩, t2, o2, n2⟩ := h
    have p0 : ∀ (X Y : ByteArray) (B : Bool) (v : World), (part 9 #[.string X, .string Y, .bool B] 0).run Tryd.prog v = .ok (.string X) v := fun X Y B v => run_part_plain v plainStr rfl
    have p1 : ∀ (X Y : ByteArray) (B : Bool) (v : World), (part 9 #[.string X, .string Y, .bool B] 1).run Tryd.prog v = .ok (.string Y) v := fun X Y B v => run_part_plain v plainStr rfl
    have p2 : ∀ (X Y : ByteArray) (B : Bool) (v : World), (part 4 #[.string X, .string Y, .bool B] 2).run Tryd.prog v = .ok (.bool B) v := fun X Y B v => run_part_plain v plainBool rfl
    have q1 : ∀ (X Y : ByteArray) (v : World), (Op.equalIn 9999 9 (.string X) (.string Y)).run Tryd.prog v = .ok (X.toList == Y.toList) v := fun X Y v => run_equalIn_string v 9998 _ X Y Tryd.underlying9
    have q2 : ∀ (X Y : Bool) (v : World), (Op.equalIn 9999 4 (.bool X) (.bool Y)).run Tryd.prog v = .ok (X == Y) v := fun X Y v => run_equalIn_bool' v 9998 _ X Y Tryd.underlying4
    simp only [Op.eqFields, t0, t1, t2, o0, o1, o2, Sem.run_bind, Sem.run_ite, if_pos n0, if_pos n1, if_pos n2, p0, p1, p2, q1, q2, Result.andThen_ok]
    cases h0 : (x.toList == x'.toList) <;> cases h1 : (y.toList == y'.toList) <;> cases h2 : (b == b') <;> rfl

theorem neqPar_is (p q : Par) (u : World) : (binOp .neq 66 (.agg #[.string ⟨p.name.toArray⟩, .string ⟨p.value.toArray⟩, .bool p.has]) (.agg #[.string ⟨q.name.toArray⟩, .string ⟨q.value.toArray⟩, .bool q.has])).run Tryd.prog u = .ok (.bool (decide (p ≠ q))) u := by
  rw [neqPar]
  congr 2
  obtain ⟨a, b, c⟩ := p
  obtain ⟨a', b', c'⟩ := q
  rw [Bool.eq_iff_iff]
  simp [ByteArray.toList_eq]

set_option maxHeartbeats 1000000 in
theorem lists_len (v1 v2 : Value) (ps qs : List Par) (w : World) (h1 : ParsAt w v1 ps) (h2 : ParsAt w v2 qs) (hne : ¬ ps.length = qs.length) :
    Calls Tryd.prog 51 #[v1, v2] w fun e w' => e = .returned (.bool (decide (ps = qs))) ∧ ∃ q, w' = w.drewN q := by
  have hd : Hid (decide (ps = qs) = false) := show _ = _ by simp; intro e; exact hne (by rw [e])
  obtain ⟨a1, c1, rfl⟩ := h1.form
  obtain ⟨a2, c2, rfl⟩ := h2.form
  have hn : ((ps.length : Int) != (qs.length : Int)) = true := by simp only [bne_iff_ne, ne_eq]; omega
  clear h1 h2 hne
  go_enter Tryd.func51, Tryd.ntmps51
  go_wp2
  go_ret
  exact ⟨ret_bool hd.out.symm, 0, rfl⟩

set_option maxHeartbeats 1000000 in
theorem lists_row (a b : Addr) (c1 c2 : Nat) (ps qs : List Par) (w : World) (hlen : ps.length = qs.length) (hz : ps.length ≤ 140737488355328) (h1 : ∀ k (hk : k < ps.length), ParAt w a k ps[k]) (h2 : ∀ k (hk : k < qs.length), ParAt w b k qs[k]) :
    Calls Tryd.prog 51 #[.slice (some a) ps.length c1, .slice (some b) qs.length c2] w fun e w' => e = .returned (.bool (decide (ps = qs))) ∧ ∃ q, w' = w.drewN q := by
  have H1 : Hid _ := h1; clear h1
  have H2 : Hid _ := h2; clear h2
  obtain ⟨n, hn⟩ : ∃ n, n = ps.length := ⟨_, rfl⟩
  have hn2 : qs.length = n := by omega
  rw [← hn, hn2]
  have HN : Hid _ := hn; have HN2 : Hid _ := hn2
  have hnz : n ≤ 140737488355328 := by omega
  clear hlen hz hn hn2
  go_enter Tryd.func51, Tryd.ntmps51
  go_wp2
  go_loopw [5] (fun i wr => ∃ k q : Nat, k ≤ n ∧ i = .int .i64 k ∧ wr = w.drewN q ∧ Hid (ps.take k = qs.take k)) (fun i _ => n - (intOf i).toNat)
  case atStart => exact ⟨0, 0, by omega, rfl, rfl, rfl⟩
  case round =>
    obtain ⟨k, q, hk, rfl, rfl, heq⟩ := hrel
    by_cases hlt : k < n
    · have k1 : k < ps.length := by have := HN.out; omega
      have k2 : k < qs.length := by have := HN2.out; omega
      obtain ⟨x0, x1, x2⟩ := H1.out k k1
      obtain ⟨y0, y1, y2⟩ := H2.out k k2
      have hg := guardPar
      by_cases hpq : ps[k] = qs[k]
      · have hcmp : ∀ u, (binOp .neq 66 (.agg #[.string ⟨ps[k].name.toArray⟩, .string ⟨ps[k].value.toArray⟩, .bool ps[k].has]) (.agg #[.string ⟨qs[k].name.toArray⟩, .string ⟨qs[k].value.toArray⟩, .bool qs[k].has])).run Tryd.prog u = .ok (.bool false) u := fun u => by
          rw [neqPar_is]; simp [hpq]
        have hnx : Hid (ps.take (k + 1) = qs.take (k + 1)) := show _ = _ by
          rw [List.take_succ_eq_append_getElem k1, List.take_succ_eq_append_getElem k2, heq.out, hpq]
        clear hpq heq
        go_wp2
        go_quiet (fail)
        go_wp2
        go_roundw
        case rel => exact ⟨k + 1, q + nq, by omega, by go_num, rfl, hnx⟩
        case measure => simp [intOf]; omega
      · have hcmp : ∀ u, (binOp .neq 66 (.agg #[.string ⟨ps[k].name.toArray⟩, .string ⟨ps[k].value.toArray⟩, .bool ps[k].has]) (.agg #[.string ⟨qs[k].name.toArray⟩, .string ⟨qs[k].value.toArray⟩, .bool qs[k].has])).run Tryd.prog u = .ok (.bool true) u := fun u => by
          rw [neqPar_is]; simp [hpq]
        have hnx : Hid (decide (ps = qs) = false) := show _ = _ by
          simp only [decide_eq_false_iff_not]
          intro e
          subst e
          exact hpq rfl
        clear hpq heq
        go_wp2
        go_quiet (fail)
        go_wp2
        go_ret
        exact ⟨ret_bool hnx.out.symm, q + nq, by rw [World.drewN_drewN]⟩
    · have hd : Hid (decide (ps = qs) = true) := show _ = _ by
        have h := heq.out
        have e1 := HN.out
        have e2 := HN2.out
        rw [List.take_of_length_le (by omega), List.take_of_length_le (by omega)] at h
        simpa using h
      clear heq
      go_wp2
      go_ret
      exact ⟨ret_bool hd.out.symm, q, rfl⟩

set_option maxHeartbeats 400000 in
theorem lists_nil (a b : Option Addr) (c1 c2 : Nat) (w : World) :
    Calls Tryd.prog 51 #[.slice a 0 c1, .slice b 0 c2] w fun e w' => e = .returned (.bool true) ∧ w' = w := by
  go_enter Tryd.func51, Tryd.ntmps51
  go_wp2
  go_loop [5] (fun i => i = .int .i64 0) (fun i => 0)
  case atStart => rfl
  case round =>
    subst hrel
    go_wp2
    go_ret
    exact ⟨rfl, rfl⟩

theorem lists_any (v1 v2 : Value) (ps qs : List Par) (w : World) (hz : ps.length ≤ 140737488355328) (h1 : ParsAt w v1 ps) (h2 : ParsAt w v2 qs) :
    Calls Tryd.prog 51 #[v1, v2] w fun e w' => e = .returned (.bool (decide (ps = qs))) ∧ ∃ q, w' = w.drewN q := by
  by_cases hlen : ps.length = qs.length
  · by_cases h0 : ps = []
    · have hq : qs = [] := List.eq_nil_of_length_eq_zero (by rw [← hlen, h0]; rfl)
      obtain ⟨a1, c1, rfl⟩ := h1.form
      obtain ⟨a2, c2, rfl⟩ := h2.form
      subst h0 hq
      refine (lists_nil a1 a2 c1 c2 w).mono ?_
      rintro e w' ⟨rfl, rfl⟩
      exact ⟨rfl, 0, rfl⟩
    · have hq : qs ≠ [] := by intro e; apply h0; exact List.eq_nil_of_length_eq_zero (by rw [hlen, e]; rfl)
      rcases h1 with ⟨_, e⟩ | ⟨a, c1, rfl, r1⟩
      · exact absurd e h0
      · rcases h2 with ⟨_, e⟩ | ⟨b, c2, rfl, r2⟩
        · exact absurd e hq
        · exact lists_row a b c1 c2 ps qs w hlen hz (fun k hk => (r1 k hk).2) (fun k hk => (r2 k hk).2)
  · exact lists_len v1 v2 ps qs w h1 h2 hlen

/-- A URI's parts. -/
structure Uri where
  scheme : List UInt8
  user : List UInt8
  host : List UInt8
  port : Int
  params : List Par
  headers : List Par
deriving DecidableEq
def uriV (u : Uri) (p h : Value) : Value := .agg #[.string ⟨u.scheme.toArray⟩, .string ⟨u.user.toArray⟩, .string ⟨u.host.toArray⟩, .int .i64 u.port, p, h]

theorem ParsAt.alloc {w : World} {v : Value} {ps : List Par} (h : ParsAt w v ps) (o : Obj) : ParsAt (w.alloc o) v ps := h.below ((Below.refl _ w).alloc (Nat.le_refl _) o)

set_option maxHeartbeats 1000000 in
theorem usame_any (u v : Uri) (p h p' h' : Value) (w : World) (z1 : u.params.length ≤ 140737488355328) (z2 : u.headers.length ≤ 140737488355328) (h1 : ParsAt w p u.params) (h2 : ParsAt w h u.headers) (h3 : ParsAt w p' v.params) (h4 : ParsAt w h' v.headers) :
    Calls Tryd.prog 22 #[uriV u p h, uriV v p' h'] w fun e w' => e = .returned (.bool (decide (u = v))) ∧ Below w.heap.size w w' := by
  obtain ⟨s, us, ho, po, ps, hs⟩ := u
  obtain ⟨s', us', ho', po', ps', hs'⟩ := v
  simp only at z1 z2 h1 h2 h3 h4
  have hd : Hid (decide (Uri.mk s us ho po ps hs = Uri.mk s' us' ho' po' ps' hs') = (s == s' && (us == us' && (ho == ho' && (po == po' && (decide (ps = ps') && decide (hs = hs'))))))) := show _ = _ by
    rw [Bool.eq_iff_iff]; simp [Uri.mk.injEq]
  unfold uriV
  simp only
  have b2 : ∀ o1 o2, Below w.heap.size w ((w.alloc o1).alloc o2) := fun o1 o2 => ((Below.refl _ w).alloc (Nat.le_refl _) o1).alloc (by simp) o2
  have k1 : ∀ o1 o2, ParsAt ((w.alloc o1).alloc o2) p ps := fun o1 o2 => h1.below (b2 o1 o2)
  have k2 : ∀ o1 o2, ParsAt ((w.alloc o1).alloc o2) h hs := fun o1 o2 => h2.below (b2 o1 o2)
  have k3 : ∀ o1 o2, ParsAt ((w.alloc o1).alloc o2) p' ps' := fun o1 o2 => h3.below (b2 o1 o2)
  have k4 : ∀ o1 o2, ParsAt ((w.alloc o1).alloc o2) h' hs' := fun o1 o2 => h4.below (b2 o1 o2)
  have K1 : Hid _ := k1; have K2 : Hid _ := k2; have K3 : Hid _ := k3; have K4 : Hid _ := k4
  have B2 : Hid _ := b2
  obtain ⟨a1, c1, rfl⟩ := h1.form
  obtain ⟨a2, c2, rfl⟩ := h2.form
  obtain ⟨a3, c3, rfl⟩ := h3.form
  obtain ⟨a4, c4, rfl⟩ := h4.form
  clear k1 k2 k3 k4 b2 h1 h2 h3 h4
  by_cases e1 : s = s'
  · by_cases e2 : us = us'
    · by_cases e3 : ho = ho'
      · by_cases e4 : po = po'
        · subst e1 e2 e3 e4
          go_enter Tryd.func22, Tryd.ntmps22
          go_wp2_with fail
          refine (lists_any _ _ ps ps' _ z1 (K1.out _ _) (K3.out _ _)).mono ?_
          rintro e w1 ⟨rfl, q1, rfl⟩
          by_cases e5 : ps = ps'
          · subst e5
            rw [decide_eq_true rfl]
            go_wp2_with fail
            refine (lists_any _ _ hs hs' _ z2 ((K2.out _ _).below (below_drewN _ q1)) ((K4.out _ _).below (below_drewN _ q1))).mono ?_
            rintro e w2 ⟨rfl, q2, rfl⟩
            go_wp2
            go_ret
            exact ⟨ret_bool (by rw [hd.out]; simp), (B2.out _ _).trans ((below_drewN _ _).mono (B2.out _ _).size)⟩
          · rw [decide_eq_false e5]
            go_wp2
            go_ret
            exact ⟨ret_bool (by rw [hd.out]; simp [e5]), (B2.out _ _).trans ((below_drewN _ _).mono (B2.out _ _).size)⟩
        · go_enter Tryd.func22, Tryd.ntmps22
          go_wp2
          go_ret
          exact ⟨ret_bool (by rw [hd.out]; simp [e4]), B2.out _ _⟩
      · go_enter Tryd.func22, Tryd.ntmps22
        go_wp2
        go_ret
        exact ⟨ret_bool (by rw [hd.out]; simp [e3]), B2.out _ _⟩
    · go_enter Tryd.func22, Tryd.ntmps22
      go_wp2
      go_ret
      exact ⟨ret_bool (by rw [hd.out]; simp [e2]), B2.out _ _⟩
  · go_enter Tryd.func22, Tryd.ntmps22
    go_wp2
    go_ret
    exact ⟨ret_bool (by rw [hd.out]; simp [e1]), B2.out _ _⟩

end Go.Proofs.YtfdcklekjnihjaaDoor
