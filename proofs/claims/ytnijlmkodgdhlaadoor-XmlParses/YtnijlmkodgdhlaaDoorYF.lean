/-
  Base texts, one behind another: Unesc, WrittenL, Params, PListL, Digits, PrintL.
-/
import Derived.Test.YtnijlmkodgdhlaaDoorYE
import Derived.Deep.QuietTactic
import Derived.BigQuiet
import Derived.Test.YtnijlmkodgdhlaaDoorYB
import Derived.Laws.StructEq
import Derived.ChangeKeysEq
import Derived.Test.YtnijlmkodgdhlaaDoorYD
import Derived.Test.YtnijlmkodgdhlaaDoorYA

/-
  Contracts of hexValue and Unescape.
-/
namespace Go.Proofs.YtnijlmkodgdhlaaDoor
open Go.RowKit Sc
set_option linter.unusedVariables false
set_option maxRecDepth 20000

theorem Own.drewN {w : World} {B : Nat} {e : TypeId} {v : Value} {xs : List Value} (h : Own w B e v xs) (q : Nat) : Own (w.drewN q) B e v xs := h
theorem Below.drewN {B : Nat} {a w : World} (h : Below B a w) (q : Nat) : Below B a (w.drewN q) := ⟨h.os, h.tape, h.output, h.size, h.block⟩

/-- What a digit of sixteen is worth. -/
def hexv (c : Int) : Int := if 48 ≤ c ∧ c ≤ 57 then c - 48 else low c - 87
theorem isB_hex (c : Int) (h0 : 0 ≤ c) (h1 : c ≤ 255) : isB c 4 = decide (48 ≤ c ∧ c ≤ 57 ∨ 97 ≤ c ∧ c ≤ 102 ∨ 65 ≤ c ∧ c ≤ 70) := by
  obtain ⟨n, rfl⟩ := Int.eq_ofNat_of_zero_le h0
  have h : ∀ n : Fin 256, isB (n.val : Int) 4 = decide (48 ≤ (n.val : Int) ∧ (n.val : Int) ≤ 57 ∨ 97 ≤ (n.val : Int) ∧ (n.val : Int) ≤ 102 ∨ 65 ≤ (n.val : Int) ∧ (n.val : Int) ≤ 70) := by decide +kernel
  exact h ⟨n, by omega⟩
theorem hex_of {b : UInt8} (h : isB b.toNat 4 = true) : 48 ≤ (b.toNat : Int) ∧ (b.toNat : Int) ≤ 57 ∨ 97 ≤ (b.toNat : Int) ∧ (b.toNat : Int) ≤ 102 ∨ 65 ≤ (b.toNat : Int) ∧ (b.toNat : Int) ≤ 70 := by
  have hb := u8_bd b
  rw [isB_hex _ hb.1 hb.2] at h
  simpa using h
theorem hexv_bd {b : UInt8} (h : isB b.toNat 4 = true) : 0 ≤ hexv b.toNat ∧ hexv b.toNat ≤ 15 := by
  have := hex_of h
  unfold hexv low
  repeat' split
  all_goals omega
def hxb (x y : UInt8) : UInt8 := UInt8.ofNat (16 * hexv x.toNat + hexv y.toNat).toNat
theorem hxb_toNat {x y : UInt8} (hx : isB x.toNat 4 = true) (hy : isB y.toNat 4 = true) : ((hxb x y).toNat : Int) = 16 * hexv x.toNat + hexv y.toNat := by
  have h1 := hexv_bd hx
  have h2 := hexv_bd hy
  rw [hxb, UInt8.toNat_ofNat']
  omega

/-- What escapes stand for. -/
def une : List UInt8 → Option (List UInt8)
  | [] => some []
  | [b] => if (b.toNat : Int) = 37 then none else some [b]
  | [b, x] => if (b.toNat : Int) = 37 then none else (une [x]).map (b :: ·)
  | b :: x :: y :: r => if (b.toNat : Int) = 37 then (if isB x.toNat 4 && isB y.toNat 4 then (une r).map (hxb x y :: ·) else none) else (une (x :: y :: r)).map (b :: ·)
theorem une_plain {b : UInt8} {r : List UInt8} (h : (b.toNat : Int) ≠ 37) : une (b :: r) = (une r).map (b :: ·) := by
  match r with
  | [] => simp [une, h]
  | [x] => show (if (b.toNat : Int) = 37 then none else (une [x]).map (b :: ·)) = _; rw [if_neg h]
  | x :: y :: r => rw [une, if_neg h]
theorem une_short {b : UInt8} {r : List UInt8} (h : (b.toNat : Int) = 37) (hr : r.length < 2) : une (b :: r) = none := by
  match r, hr with
  | [], _ => simp [une, h]
  | [x], _ => rw [une, if_pos h]
  | x :: y :: r, hr => simp at hr; omega
theorem une_hex {b x y : UInt8} {r : List UInt8} (h : (b.toNat : Int) = 37) (hx : isB x.toNat 4 = true) (hy : isB y.toNat 4 = true) : une (b :: x :: y :: r) = (une r).map (hxb x y :: ·) := by
  rw [une, if_pos h, hx, hy]; rfl
theorem une_bad {b x y : UInt8} {r : List UInt8} (h : (b.toNat : Int) = 37) (hx : (isB x.toNat 4 && isB y.toNat 4) = false) : une (b :: x :: y :: r) = none := by
  rw [une, if_pos h, hx]; rfl
def unescV (l : List UInt8) : List UInt8 × Int := match une l with | some r => (r, 0) | none => ([], 12)
theorem unescV_some {l r : List UInt8} (h : une l = some r) : unescV l = (r, 0) := by rw [unescV, h]
theorem unescV_none {l : List UInt8} (h : une l = none) : unescV l = ([], 12) := by rw [unescV, h]

def UneAt (l acc rest : List UInt8) : Prop := une l = (une rest).map (acc ++ ·)
theorem uneAt0 (l : List UInt8) : UneAt l [] l := by unfold UneAt; cases une l <;> simp
theorem uneAt_end {l acc : List UInt8} (h : UneAt l acc []) : une l = some acc := by rw [h]; simp [une]
theorem uneAt_plain {l acc : List UInt8} {b : UInt8} {r : List UInt8} (h : UneAt l acc (b :: r)) (hb : (b.toNat : Int) ≠ 37) : UneAt l (acc ++ [b]) r := by
  unfold UneAt at *
  rw [h, une_plain hb]; exact map_snoc acc b (une r)
theorem uneAt_hex {l acc : List UInt8} {b x y : UInt8} {r : List UInt8} (h : UneAt l acc (b :: x :: y :: r)) (hb : (b.toNat : Int) = 37) (hx : isB x.toNat 4 = true) (hy : isB y.toNat 4 = true) : UneAt l (acc ++ [hxb x y]) r := by
  unfold UneAt at *
  rw [h, une_hex hb hx hy]; exact map_snoc acc _ (une r)
theorem uneAt_short {l acc : List UInt8} {b : UInt8} {r : List UInt8} (h : UneAt l acc (b :: r)) (hb : (b.toNat : Int) = 37) (hr : r.length < 2) : une l = none := by
  unfold UneAt at h
  rw [h, une_short hb hr]; rfl
theorem uneAt_bad {l acc : List UInt8} {b x y : UInt8} {r : List UInt8} (h : UneAt l acc (b :: x :: y :: r)) (hb : (b.toNat : Int) = 37) (hx : (isB x.toNat 4 && isB y.toNat 4) = false) : une l = none := by
  unfold UneAt at h
  rw [h, une_bad hb hx]; rfl

theorem or_hex {x y : UInt8} (hx : isB x.toNat 4 = true) (hy : isB y.toNat 4 = true) : bits BinOp.or IntKind.u8 (hexv x.toNat * 16 % 256) (hexv y.toNat) = ((hxb x y).toNat : Int) := by
  rw [hxb_toNat hx hy]
  have h1 := hexv_bd hx
  have h2 := hexv_bd hy
  obtain ⟨m, hm⟩ := Int.eq_ofNat_of_zero_le h1.1
  obtain ⟨n, hn⟩ := Int.eq_ofNat_of_zero_le h2.1
  rw [hm, hn]
  have h : ∀ m n : Fin 16, bits BinOp.or IntKind.u8 ((m.val : Int) * 16 % 256) (n.val : Int) = 16 * (m.val : Int) + (n.val : Int) := by decide +kernel
  exact h ⟨m, by omega⟩ ⟨n, by omega⟩

theorem all2 (s : ByteArray) (k : Nat) (h : k + 2 < s.size) (c : Int) : allB c (s.extract (k + 1) (k + 3)).data.toList = (isB s[k + 1].toNat c && isB s[k + 2].toNat c) := by
  have e : (s.extract (k + 1) (k + 3)).data.toList = [s[k + 1], s[k + 2]] := by
    rw [ext_list, show k + 3 - (k + 1) = 2 by omega, drop_cons s (k + 1) (by omega), drop_cons s (k + 1 + 1) (by omega)]
    rfl
  rw [e, allB]; simp

end Go.Proofs.YtnijlmkodgdhlaaDoor

/-
  What a text stands for that may be written with some signs; parameters of texts. Plain functions on lists of bytes.
-/
namespace Go.Proofs.YtnijlmkodgdhlaaDoor
open Go.RowKit Sc
set_option linter.unusedVariables false
set_option maxRecDepth 20000

def okw (keep : List UInt8) (b : UInt8) : Bool := b == 37 || (isB b.toNat 16 || hasL b keep)
def writtenV (keep l : List UInt8) : List UInt8 × Bool := if l.all (okw keep) = true then ((unescV l).1, (unescV l).2 == 0) else ([], false)
structure Par where
  name : List UInt8
  value : List UInt8
  has : Bool
deriving DecidableEq
def parCells (p : Par) : List Value := [.string ⟨p.name.toArray⟩, .string ⟨p.value.toArray⟩, .bool p.has]
def parOf (keep l : List UInt8) : Option Par :=
  if (writtenV keep (cutL 61 l).1).2 = true ∧ (writtenV keep (cutL 61 l).2.1).2 = true then some ⟨(writtenV keep (cutL 61 l).1).1, (writtenV keep (cutL 61 l).2.1).1, (cutL 61 l).2.2⟩ else none
def parsOf (keep : List UInt8) : List (List UInt8) → Option (List Par)
  | [] => some []
  | l :: ls => match parOf keep l, parsOf keep ls with
    | some p, some ps => some (p :: ps)
    | _, _ => none

theorem okw_snoc {keep : List UInt8} {s : ByteArray} {k : Nat} (hk : k < s.size) (h : (s.data.toList.take k).all (okw keep) = true) (hb : okw keep s[k] = true) : (s.data.toList.take (k + 1)).all (okw keep) = true := by
  rw [take_snoc s k hk, List.all_append, h]; simp [hb]
theorem written_bad {keep : List UInt8} {s : ByteArray} {k : Nat} (hk : k < s.size) (hb : okw keep s[k] = false) : writtenV keep s.data.toList = ([], false) := by
  have : s.data.toList.all (okw keep) = false := by
    rw [List.all_eq_false]
    refine ⟨s[k], ?_, by simp [hb]⟩
    have := getL s k hk
    exact List.mem_of_getElem? this
  rw [writtenV, this]; rfl
theorem written_all {keep l : List UInt8} (h : l.all (okw keep) = true) : writtenV keep l = ((unescV l).1, (unescV l).2 == 0) := by rw [writtenV, if_pos h]

end Go.Proofs.YtnijlmkodgdhlaaDoor

/-
  Lists of parameters as rows of three cells each; the document's own Lists and Same.
-/
namespace Go.Proofs.YtnijlmkodgdhlaaDoor
open Go.RowKit Sc
set_option linter.unusedVariables false
set_option maxRecDepth 20000
set_option linter.unusedSimpArgs false

/-- Element k of the row at a holds p. -/
def ParAt (w : World) (a : Addr) (k : Nat) (p : Par) : Prop :=
  w.cell? (a.add (k * 3)) = some (.string ⟨p.name.toArray⟩) ∧ w.cell? ⟨(a.add (k * 3)).block, (a.add (k * 3)).off + 1, none⟩ = some (.string ⟨p.value.toArray⟩) ∧ w.cell? ⟨(a.add (k * 3)).block, (a.add (k * 3)).off + 2, none⟩ = some (.bool p.has)
/-- The slice v holds the parameters ps. -/
def ParsAt (w : World) (v : Value) (ps : List Par) : Prop :=
  (v = .slice none 0 0 ∧ ps = []) ∨ ∃ (a : Addr) (cap : Nat), v = .slice (some a) ps.length cap ∧ ∀ k (hk : k < ps.length), a.block < w.heap.size ∧ ParAt w a k ps[k]

theorem cell_below {B : Nat} {w w' : World} (h : Below B w w') {a : Addr} (ha : a.block < B) {v : Value} (hc : w.cell? a = some v) : w'.cell? a = some v := by
  rw [← hc]
  simp only [World.cell?]
  rw [h.block a.block ha]
theorem add_block (a : Addr) (i : Nat) : (a.add i).block = a.block := by unfold Addr.add; split <;> rfl
theorem ParAt.below {B : Nat} {w w' : World} {a : Addr} {k : Nat} {p : Par} (h : ParAt w a k p) (hb : Below B w w') (ha : a.block < B) : ParAt w' a k p :=
  ⟨cell_below hb (by rw [add_block]; exact ha) h.1, cell_below hb (by simp only [add_block]; exact ha) h.2.1, cell_below hb (by simp only [add_block]; exact ha) h.2.2⟩
theorem ParsAt.below {w w' : World} {v : Value} {ps : List Par} (h : ParsAt w v ps) (hb : Below w.heap.size w w') : ParsAt w' v ps := by
  rcases h with h | ⟨a, cap, hv, hc⟩
  · exact Or.inl h
  · exact Or.inr ⟨a, cap, hv, fun k hk => ⟨Nat.lt_of_lt_of_le (hc k hk).1 hb.size, (hc k hk).2.below hb (hc k hk).1⟩⟩
theorem ParsAt.form {w : World} {v : Value} {ps : List Par} (h : ParsAt w v ps) : ∃ a cap, v = .slice a ps.length cap := by
  rcases h with ⟨rfl, rfl⟩ | ⟨a, cap, rfl, _⟩
  · exact ⟨none, 0, rfl⟩
  · exact ⟨_, cap, rfl⟩

theorem stoodPar : Tryd.prog.stoodInHeld 45 = false := by kernel_rfl
theorem guardPar : Tryd.prog.eqGuardType Tryd.prog.depth 45 = false := by kernel_rfl
theorem fieldsPar : Tryd.prog.underlying 45 = some (.struct (Tryd.prog.fieldsOf 45)) := by kernel_rfl
theorem listPar : (Tryd.prog.fieldsOf 45).toList.map (fun f => (f.type, f.offset, f.name == "_")) = [(9, 0, false), (9, 1, false), (4, 2, false)] := by kernel_rfl
theorem plainStr : Tryd.prog.plainKey 9 = true := by kernel_rfl
theorem plainBool : Tryd.prog.plainKey 4 = true := by kernel_rfl
theorem neqPar (x y x' y' : ByteArray) (b b' : Bool) (u : World) : (binOp .neq 45 (.agg #[.string x, .string y, .bool b]) (.agg #[.string x', .string y', .bool b'])).run Tryd.prog u = .ok (.bool (!(x.toList == x'.toList && (y.toList == y'.toList && b == b')))) u := by
  rw [run_neq_struct, run_equalIn_agg _ 9999 _ _ _ fieldsPar stoodPar]
  have h := listPar
  generalize (Tryd.prog.fieldsOf 45).toList = fs at h ⊢
  have hlen : fs.length = 3 := by have := congrArg List.length h; simpa using this
  match fs, hlen, h with
  | [f0, f1, f2], _, h =>
    simp only [List.map_cons, List.map_nil, List.cons.injEq, Prod.mk.injEq, and_true, beq_eq_false_iff_ne] at h
    obtain ⟨⟨t0, o0, n0⟩, ⟨t1, o1, n1⟩, t2, o2, n2⟩ := h
    have p0 : ∀ (X Y : ByteArray) (B : Bool) (v : World), (part 9 #[.string X, .string Y, .bool B] 0).run Tryd.prog v = .ok (.string X) v := fun X Y B v => run_part_plain v plainStr rfl
    have p1 : ∀ (X Y : ByteArray) (B : Bool) (v : World), (part 9 #[.string X, .string Y, .bool B] 1).run Tryd.prog v = .ok (.string Y) v := fun X Y B v => run_part_plain v plainStr rfl
    have p2 : ∀ (X Y : ByteArray) (B : Bool) (v : World), (part 4 #[.string X, .string Y, .bool B] 2).run Tryd.prog v = .ok (.bool B) v := fun X Y B v => run_part_plain v plainBool rfl
    have q1 : ∀ (X Y : ByteArray) (v : World), (Op.equalIn 9999 9 (.string X) (.string Y)).run Tryd.prog v = .ok (X.toList == Y.toList) v := fun X Y v => run_equalIn_string v 9998 _ X Y Tryd.underlying9
    have q2 : ∀ (X Y : Bool) (v : World), (Op.equalIn 9999 4 (.bool X) (.bool Y)).run Tryd.prog v = .ok (X == Y) v := fun X Y v => run_equalIn_bool' v 9998 _ X Y Tryd.underlying4
    simp only [Op.eqFields, t0, t1, t2, o0, o1, o2, Sem.run_bind, Sem.run_ite, if_pos n0, if_pos n1, if_pos n2, p0, p1, p2, q1, q2, Result.andThen_ok]
    cases h0 : (x.toList == x'.toList) <;> cases h1 : (y.toList == y'.toList) <;> cases h2 : (b == b') <;> rfl

theorem neqPar_is (p q : Par) (u : World) : (binOp .neq 45 (.agg #[.string ⟨p.name.toArray⟩, .string ⟨p.value.toArray⟩, .bool p.has]) (.agg #[.string ⟨q.name.toArray⟩, .string ⟨q.value.toArray⟩, .bool q.has])).run Tryd.prog u = .ok (.bool (decide (p ≠ q))) u := by
  rw [neqPar]
  congr 2
  obtain ⟨a, b, c⟩ := p
  obtain ⟨a', b', c'⟩ := q
  rw [Bool.eq_iff_iff]
  simp [ByteArray.toList_eq]

set_option maxHeartbeats 1000000 in
theorem lists_len (v1 v2 : Value) (ps qs : List Par) (w : World) (h1 : ParsAt w v1 ps) (h2 : ParsAt w v2 qs) (hne : ¬ ps.length = qs.length) :
    Calls Tryd.prog 41 #[v1, v2] w fun e w' => e = .returned (.bool (decide (ps = qs))) ∧ ∃ q, w' = w.drewN q := by
  have hd : Hid (decide (ps = qs) = false) := show _ = _ by simp; intro e; exact hne (by rw [e])
  obtain ⟨a1, c1, rfl⟩ := h1.form
  obtain ⟨a2, c2, rfl⟩ := h2.form
  have hn : ((ps.length : Int) != (qs.length : Int)) = true := by simp only [bne_iff_ne, ne_eq]; omega
  clear h1 h2 hne
  go_enter Tryd.func41, Tryd.ntmps41
  go_wp2
  go_ret
  exact ⟨ret_bool hd.out.symm, 0, rfl⟩

set_option maxHeartbeats 1000000 in
theorem lists_row (a b : Addr) (c1 c2 : Nat) (ps qs : List Par) (w : World) (hlen : ps.length = qs.length) (hz : ps.length ≤ 140737488355328) (h1 : ∀ k (hk : k < ps.length), ParAt w a k ps[k]) (h2 : ∀ k (hk : k < qs.length), ParAt w b k qs[k]) :
    Calls Tryd.prog 41 #[.slice (some a) ps.length c1, .slice (some b) qs.length c2] w fun e w' => e = .returned (.bool (decide (ps = qs))) ∧ ∃ q, w' = w.drewN q := by
  have H1 : Hid _ := h1; clear h1
  have H2 : Hid _ := h2; clear h2
  obtain ⟨n, hn⟩ : ∃ n, n = ps.length := ⟨_, rfl⟩
  have hn2 : qs.length = n := by omega
  rw [← hn, hn2]
  have HN : Hid _ := hn; have HN2 : Hid _ := hn2
  have hnz : n ≤ 140737488355328 := by omega
  clear hlen hz hn hn2
  go_enter Tryd.func41, Tryd.ntmps41
  go_wp2
  go_loopw [5] (fun i wr => ∃ k q : Nat, k ≤ n ∧ i = .int .i64 k ∧ wr = w.drewN q ∧ Hid (ps.take k = qs.take k)) (fun i _ => n - (intOf i).toNat)
  case atStart => exact ⟨0, 0, by omega, rfl, rfl, rfl⟩
  case round =>
    obtain ⟨k, q, hk, rfl, rfl, heq⟩ := hrel
    by_cases hlt : k < n
    · have k1 : k < ps.length := by have := HN.out; omega
      have k2 : k < qs.length := by have := HN2.out; omega
      obtain ⟨x0, x1, x2⟩ := H1.out k k1
      obtain ⟨y0, y1, y2⟩ := H2.out k k2
      have hg := guardPar
      by_cases hpq : ps[k] = qs[k]
      · have hcmp : ∀ u, (binOp .neq 45 (.agg #[.string ⟨ps[k].name.toArray⟩, .string ⟨ps[k].value.toArray⟩, .bool ps[k].has]) (.agg #[.string ⟨qs[k].name.toArray⟩, .string ⟨qs[k].value.toArray⟩, .bool qs[k].has])).run Tryd.prog u = .ok (.bool false) u := fun u => by
          rw [neqPar_is]; simp [hpq]
        have hnx : Hid (ps.take (k + 1) = qs.take (k + 1)) := show _ = _ by
          rw [List.take_succ_eq_append_getElem k1, List.take_succ_eq_append_getElem k2, heq.out, hpq]
        clear hpq heq
        go_wp2
        go_quiet (fail)
        go_wp2
        go_roundw
        case rel => exact ⟨k + 1, q + nq, by omega, by go_num, rfl, hnx⟩
        case measure => simp [intOf]; omega
      · have hcmp : ∀ u, (binOp .neq 45 (.agg #[.string ⟨ps[k].name.toArray⟩, .string ⟨ps[k].value.toArray⟩, .bool ps[k].has]) (.agg #[.string ⟨qs[k].name.toArray⟩, .string ⟨qs[k].value.toArray⟩, .bool qs[k].has])).run Tryd.prog u = .ok (.bool true) u := fun u => by
          rw [neqPar_is]; simp [hpq]
        have hnx : Hid (decide (ps = qs) = false) := show _ = _ by
          simp only [decide_eq_false_iff_not]
          intro e
          subst e
          exact hpq rfl
        clear hpq heq
        go_wp2
        go_quiet (fail)
        go_wp2
        go_ret
        exact ⟨ret_bool hnx.out.symm, q + nq, by rw [World.drewN_drewN]⟩
    · have hd : Hid (decide (ps = qs) = true) := show _ = _ by
        have h := heq.out
        have e1 := HN.out
        have e2 := HN2.out
        rw [List.take_of_length_le (by omega), List.take_of_length_le (by omega)] at h
        simpa using h
      clear heq
      go_wp2
      go_ret
      exact ⟨ret_bool hd.out.symm, q, rfl⟩

set_option maxHeartbeats 400000 in
theorem lists_nil (a b : Option Addr) (c1 c2 : Nat) (w : World) :
    Calls Tryd.prog 41 #[.slice a 0 c1, .slice b 0 c2] w fun e w' => e = .returned (.bool true) ∧ w' = w := by
  go_enter Tryd.func41, Tryd.ntmps41
  go_wp2
  go_loop [5] (fun i => i = .int .i64 0) (fun i => 0)
  case atStart => rfl
  case round =>
    subst hrel
    go_wp2
    go_ret
    exact ⟨rfl, rfl⟩

theorem lists_any (v1 v2 : Value) (ps qs : List Par) (w : World) (hz : ps.length ≤ 140737488355328) (h1 : ParsAt w v1 ps) (h2 : ParsAt w v2 qs) :
    Calls Tryd.prog 41 #[v1, v2] w fun e w' => e = .returned (.bool (decide (ps = qs))) ∧ ∃ q, w' = w.drewN q := by
  by_cases hlen : ps.length = qs.length
  · by_cases h0 : ps = []
    · have hq : qs = [] := List.eq_nil_of_length_eq_zero (by rw [← hlen, h0]; rfl)
      obtain ⟨a1, c1, rfl⟩ := h1.form
      obtain ⟨a2, c2, rfl⟩ := h2.form
      subst h0 hq
      refine (lists_nil a1 a2 c1 c2 w).mono ?_
      rintro e w' ⟨rfl, rfl⟩
      exact ⟨rfl, 0, rfl⟩
    · have hq : qs ≠ [] := by intro e; apply h0; exact List.eq_nil_of_length_eq_zero (by rw [hlen, e]; rfl)
      rcases h1 with ⟨_, e⟩ | ⟨a, c1, rfl, r1⟩
      · exact absurd e h0
      · rcases h2 with ⟨_, e⟩ | ⟨b, c2, rfl, r2⟩
        · exact absurd e hq
        · exact lists_row a b c1 c2 ps qs w hlen hz (fun k hk => (r1 k hk).2) (fun k hk => (r2 k hk).2)
  · exact lists_len v1 v2 ps qs w h1 h2 hlen

/-- A URI's parts. -/
structure Uri where
  scheme : List UInt8
  user : List UInt8
  host : List UInt8
  port : Int
  params : List Par
  headers : List Par
deriving DecidableEq
def uriV (u : Uri) (p h : Value) : Value := .agg #[.string ⟨u.scheme.toArray⟩, .string ⟨u.user.toArray⟩, .string ⟨u.host.toArray⟩, .int .i64 u.port, p, h]

theorem ParsAt.alloc {w : World} {v : Value} {ps : List Par} (h : ParsAt w v ps) (o : Obj) : ParsAt (w.alloc o) v ps := h.below ((Below.refl _ w).alloc (Nat.le_refl _) o)

end Go.Proofs.YtnijlmkodgdhlaaDoor

/-
  Which lists of parameters may be; which URIs. Plain functions.
-/
namespace Go.Proofs.YtnijlmkodgdhlaaDoor
open Go.RowKit Sc
set_option linter.unusedVariables false
set_option maxRecDepth 20000

def parB (p : Par) : Bool := decide (1 ≤ p.name.length) && (decide (p.name.length ≤ 64) && (decide (p.value.length ≤ 64) && (p.has || p.value.isEmpty)))
/-- Each stands alone by its name, as far as small letters tell. -/
def apartB (ps : List Par) (nm : List UInt8) : Bool := ps.all fun q => !sameB q.name nm
def listGo : List Par → List Par → Bool
  | _, [] => true
  | before, p :: ps => parB p && (apartB before p.name && listGo (before ++ [p]) ps)
def listB (ps : List Par) : Bool := decide (ps.length ≤ 16) && listGo [] ps
def checkV (u : Uri) : Int :=
  if schemeB u.scheme = false then 30 else if 64 < u.user.length then 31 else if hostB u.host = false then 32 else if u.port < 0 ∨ 65535 < u.port then 33
  else if listB u.params = false then 34 else if listB u.headers = false then 34 else if u.headers.all (·.has) = false then 34 else 0

theorem listGo_at (ps : List Par) (k : Nat) (hk : k < ps.length) : listGo (ps.take k) (ps.drop k) = (parB ps[k] && (apartB (ps.take k) ps[k].name && listGo (ps.take (k + 1)) (ps.drop (k + 1)))) := by
  rw [List.drop_eq_getElem_cons hk, listGo, List.take_succ_eq_append_getElem hk]

end Go.Proofs.YtnijlmkodgdhlaaDoor

/-
  Contracts of Digits.
-/
namespace Go.Proofs.YtnijlmkodgdhlaaDoor
open Go.RowKit Sc
set_option linter.unusedVariables false
set_option maxRecDepth 20000

def digb (n : Nat) : UInt8 := UInt8.ofNat (48 + n % 10)
/-- The digits of a number. -/
def digL (n : Nat) : List UInt8 := if n < 10 then [digb n] else digL (n / 10) ++ [digb n]
termination_by n
decreasing_by omega
theorem digL_small {n : Nat} (h : n < 10) : digL n = [digb n] := by rw [digL, if_pos h]
theorem digL_big {n : Nat} (h : ¬ n < 10) : digL n = digL (n / 10) ++ [digb n] := by rw [digL, if_neg h]
theorem digb_toNat (n : Nat) : ((digb n).toNat : Int) = 48 + (n : Int) % 10 := by
  have h : n % 10 < 10 := Nat.mod_lt _ (by decide)
  rw [digb, UInt8.toNat_ofNat']
  omega
theorem digL_len (a : Nat) : ∀ n : Nat, n < 10 ^ (a + 1) → (digL n).length ≤ a + 1 := by
  induction a with
  | zero => intro n h; rw [digL_small (by simpa using h)]; simp
  | succ a ih =>
    intro n h
    by_cases hn : n < 10
    · rw [digL_small hn]; simp
    · rw [digL_big hn, List.length_append]
      have := ih (n / 10) (by rw [Nat.pow_succ] at h; omega)
      simp; omega
theorem digL_len19 {n : Nat} (h : n ≤ 9223372036854775807) : (digL n).length ≤ 19 := digL_len 18 n (by omega)

def room0 : Array Value := (List.replicate 19 (.int .u8 0)).toArray
/-- a noughts, then the bytes. -/
def tailed (a : Nat) (l : List UInt8) : List Value := List.replicate a (.int .u8 0) ++ Lib.byteCells l
theorem tailed_len (a : Nat) (l : List UInt8) : (tailed a l).length = a + l.length := by simp [tailed, Lib.byteCells]
theorem tailed_set (a : Nat) (l : List UInt8) (b : UInt8) (ha : 1 ≤ a) : (tailed a l).set (a - 1) (.int .u8 b.toNat) = tailed (a - 1) (b :: l) := by
  obtain ⟨c, rfl⟩ : ∃ c, a = c + 1 := ⟨a - 1, by omega⟩
  have e : c + 1 - 1 = c := by omega
  rw [e, tailed, tailed, List.replicate_succ', List.append_assoc, List.set_append_right _ _ (by simp)]
  simp [Lib.byteCells]
/-- string(row[off:]) -/
theorem conv_row {P : Program} {w : World} {g e e' src dst a cap : Nat} {l : List UInt8} (hs : P.underlying src = some (.slice e)) (he : P.underlying e = some (.int .u8)) (hd : P.underlying dst = some .string)
    (h : RowIs w g e' (tailed a l)) : (convert src dst (.slice (some ⟨g, a, none⟩) l.length cap)).run P w = .ok (.string ⟨l.toArray⟩) w := by
  refine run_convert_bytes_back w src dst e _ cap l hs he hd fun j hj => ?_
  have hc := h.cell (a + j) (by rw [tailed_len]; omega)
  have e1 : (⟨g, a, none⟩ : Addr).add j = ⟨g, a + j, none⟩ := by
    unfold Addr.add
    by_cases h0 : j = 0
    · subst h0; simp
    · simp [h0]
  rw [e1, hc]
  simp [tailed, List.getElem_append_right, Lib.byteCells]

theorem pow_div {m a : Nat} (h : m < 10 ^ a) (ha : 1 ≤ a) : m / 10 < 10 ^ (a - 1) := by
  obtain ⟨c, rfl⟩ : ∃ c, a = c + 1 := ⟨a - 1, by omega⟩
  rw [Nat.pow_succ] at h
  have e : c + 1 - 1 = c := by omega
  rw [e]; omega

end Go.Proofs.YtnijlmkodgdhlaaDoor

/-
  The text of a URI. Plain functions.
-/
namespace Go.Proofs.YtnijlmkodgdhlaaDoor
open Go.RowKit Sc
set_option linter.unusedVariables false
set_option maxRecDepth 20000

def usersK : List UInt8 := [38, 61, 43, 36, 44, 59, 63, 47]
def paramsK : List UInt8 := [91, 93, 47, 58, 38, 43, 36]
def headersK : List UInt8 := [91, 93, 47, 63, 58, 43, 36]
def escL (keep l : List UInt8) : List UInt8 := esc (kpF keep) l
def pairV (keep : List UInt8) (p : Par) : List UInt8 := if p.has = true then escL keep p.name ++ [61] ++ escL keep p.value else escL keep p.name
def parsT (ps : List Par) : List UInt8 := ps.flatMap fun p => [59] ++ pairV paramsK p
def hdrT (ps : List Par) : List UInt8 := (ps.zipIdx).flatMap fun (p, i) => (if i = 0 then [63] else [38]) ++ pairV headersK p
def frontT (u : Uri) : List UInt8 := u.scheme ++ [58] ++ (if u.user = [] then [] else escL usersK u.user ++ [64]) ++ u.host ++ (if u.port = 0 then [] else [58] ++ digL u.port.toNat)
def textT (u : Uri) : List UInt8 := frontT u ++ parsT u.params ++ hdrT u.headers
def printV (u : Uri) : List UInt8 × Int := if checkV u = 0 then (textT u, 0) else ([], checkV u)

theorem parsT_snoc {ps : List Par} {k : Nat} (hk : k < ps.length) : parsT (ps.take (k + 1)) = parsT (ps.take k) ++ ([59] ++ pairV paramsK ps[k]) := by
  unfold parsT
  rw [List.take_succ_eq_append_getElem hk, List.flatMap_append]; simp
theorem hdrT_snoc {ps : List Par} {k : Nat} (hk : k < ps.length) : hdrT (ps.take (k + 1)) = hdrT (ps.take k) ++ ((if k = 0 then [63] else [38]) ++ pairV headersK ps[k]) := by
  unfold hdrT
  rw [List.take_succ_eq_append_getElem hk, List.zipIdx_append, List.flatMap_append, List.length_take, Nat.min_eq_left (by omega)]
  simp

end Go.Proofs.YtnijlmkodgdhlaaDoor
