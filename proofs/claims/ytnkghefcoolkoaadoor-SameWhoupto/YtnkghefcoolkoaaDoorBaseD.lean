/-
  Base texts, one behind another: SFind, SMet, SPars, RefPlace, SEqual.
-/
import Derived.Test.YtnkghefcoolkoaaDoorBaseB
import Derived.Test.YtnkghefcoolkoaaDoorBaseC

/-
  Contracts of package same: find, Value, binding.
-/
namespace Go.Proofs.YtnkghefcoolkoaaDoor
open Go.RowKit Sc
set_option linter.unusedVariables false
set_option maxRecDepth 20000

def parV (p : Par) : Value := .agg #[.string ⟨p.name.toArray⟩, .string ⟨p.value.toArray⟩, .bool p.has]
def findR (ps : List Par) (nm : List UInt8) : Par × Bool := match findV ps nm with | some p => (p, true) | none => (noP, false)

/-- The three cells of a parameter's block. -/
def BoxP (w : World) (b : Nat) (p : Par) : Prop :=
  w.cell? ⟨b, 0, none⟩ = some (.string ⟨p.name.toArray⟩) ∧ w.cell? ⟨b, 1, none⟩ = some (.string ⟨p.value.toArray⟩) ∧ w.cell? ⟨b, 2, none⟩ = some (.bool p.has)
theorem BoxP.below {w w' : World} {b B : Nat} {p : Par} (k : BoxP w b p) (hb : Below B w w') (hlt : b < B) : BoxP w' b p :=
  ⟨cell_below hb hlt k.1, cell_below hb hlt k.2.1, cell_below hb hlt k.2.2⟩
theorem boxP_new (w : World) (p : Par) (t : TypeId) : BoxP (w.alloc (.cells #[.string ⟨p.name.toArray⟩, .string ⟨p.value.toArray⟩, .bool p.has] t)) w.heap.size p := by
  unfold BoxP World.cell?
  simp only [heap_alloc_new]
  exact ⟨rfl, rfl, rfl⟩
theorem row3_new (w : World) (t : TypeId) : RowIs (w.alloc (.cells #[.string ⟨#[]⟩, .string ⟨#[]⟩, .bool false] t)) w.heap.size t [.string ⟨#[]⟩, .string ⟨#[]⟩, .bool false] := by
  unfold RowIs; rw [heap_alloc_new]
structure Three (w : World) (b : Nat) (v0 v1 v2 : Value) : Prop where
  c0 : w.cell? ⟨b, 0, none⟩ = some v0
  c1 : w.cell? ⟨b, 1, none⟩ = some v1
  c2 : w.cell? ⟨b, 2, none⟩ = some v2
  f0 : w.frozen? ⟨b, 0, none⟩ = false
  f1 : w.frozen? ⟨b, 1, none⟩ = false
  f2 : w.frozen? ⟨b, 2, none⟩ = false
theorem RowIs.three {w : World} {b : Nat} {e : TypeId} {v0 v1 v2 : Value} (h : RowIs w b e [v0, v1, v2]) : Three w b v0 v1 v2 :=
  ⟨h.cell 0 (by simp), h.cell 1 (by simp), h.cell 2 (by simp), h.frozen 0, h.frozen 1, h.frozen 2⟩
theorem row_store3 {w : World} {b : Nat} {e : TypeId} {u0 u1 u2 : Value} (h : RowIs w b e [u0, u1, u2]) (v0 v1 v2 : Value) :
    RowIs (((w.setCell ⟨b, 0, none⟩ v0).setCell ⟨b, 1, none⟩ v1).setCell ⟨b, 2, none⟩ v2) b e [v0, v1, v2] := by
  have := ((h.set 0 v0).set 1 v1).set 2 v2
  simpa using this
theorem store_below3 {B : Nat} {a w : World} (h : Below B a w) (b : Nat) (hb : B ≤ b) (v0 v1 v2 : Value) :
    Below B a (((w.setCell ⟨b, 0, none⟩ v0).setCell ⟨b, 1, none⟩ v1).setCell ⟨b, 2, none⟩ v2) :=
  ((h.setCell hb _).setCell hb _).setCell hb _
theorem alloc_lt (w : World) (o : Obj) : w.heap.size < (w.alloc o).heap.size := by simp
theorem box_lt {w w5 : World} {o : Obj} {b : Nat} (h : b < w.heap.size) (h5 : Below (w.alloc o).heap.size (w.alloc o) w5) : b < w5.heap.size := Nat.lt_of_lt_of_le (Nat.lt_trans h (alloc_lt w o)) h5.size
theorem row_box {w w5 : World} {o : Obj} {g : Nat} {e : TypeId} {l : List Value} (h : RowIs w g e l) (hl : g < w.heap.size) (h5 : Below (w.alloc o).heap.size (w.alloc o) w5) : RowIs w5 g e l :=
  (h.below ((Below.refl _ w).alloc (Nat.le_refl _) o) hl).below h5 (Nat.lt_trans hl (alloc_lt w o))
theorem ret_find {ps : List Par} {nm : List UInt8} {p : Par} {b : Bool} (h : findR ps nm = (p, b)) :
    Ending.returned (.tuple #[.agg #[.string ⟨p.name.toArray⟩, .string ⟨p.value.toArray⟩, .bool p.has], .bool b]) = .returned (.tuple #[parV (findR ps nm).1, .bool (findR ps nm).2]) := by rw [h]; rfl

set_option maxHeartbeats 1000000 in
set_option maxRecDepth 100000 in
theorem find_row (a : Addr) (cap : Nat) (ps : List Par) (nm : List UInt8) (w : World) (hnm : nm.length ≤ 140737488355328) (hsm : SmallP 140737488355328 ps) (hc : ∀ k (hk : k < ps.length), a.block < w.heap.size ∧ ParAt w a k ps[k]) :
    Calls Tryd.prog 22 #[.slice (some a) ps.length cap, .string ⟨nm.toArray⟩] w fun e w' => e = .returned (.tuple #[parV (findR ps nm).1, .bool (findR ps nm).2]) ∧ Below w.heap.size w w' := by
  have HC : Hid _ := hc; clear hc
  have HS : Hid _ := hsm.2
  have hz := hsm.1
  clear hsm
  obtain ⟨n, hn⟩ : ∃ n, n = ps.length := ⟨_, rfl⟩
  rw [← hn] at hz ⊢
  have HN : Hid _ := hn; clear hn
  have hr0 := row3_new w 42
  have hb0 : Below w.heap.size w (w.alloc (.cells #[.string ⟨#[]⟩, .string ⟨#[]⟩, .bool false] 42)) := (Below.refl _ w).alloc (Nat.le_refl _) _
  have hlt0 := alloc_lt w (.cells #[.string ⟨#[]⟩, .string ⟨#[]⟩, .bool false] 42)
  go_enter Tryd.func22, Tryd.ntmps22
  go_wp2_with fail
  refine (lower_list nm _ (by omega)).mono ?_
  rintro e w1 ⟨rfl, hw1⟩
  have hr1 : Hid _ := hr0.below hw1 hlt0
  have hb1 := hb0.trans (hw1.mono hb0.size)
  have hlt1 := Nat.lt_of_lt_of_le hlt0 hw1.size
  clear hr0 hb0 hlt0 hw1
  go_wp2
  go_loopw [13] (fun i wr => ∃ k : Nat, k ≤ n ∧ i = .int .i64 k ∧ Below w.heap.size w wr ∧ w.heap.size < wr.heap.size ∧ Hid (RowIs wr w.heap.size 42 [.string ⟨#[]⟩, .string ⟨#[]⟩, .bool false]) ∧ Hid (findV (ps.take k) nm = none)) (fun i _ => n - (intOf i).toNat)
  case atStart => exact ⟨0, by omega, rfl, hb1, hlt1, hr1, rfl⟩
  case round =>
    obtain ⟨k, hk, rfl, hb, hl, hr, hfn⟩ := hrel
    clear hb1 hlt1 hr1
    by_cases hlt : k < n
    · have hkl : k < ps.length := by have := HN.out; omega
      obtain ⟨hab, hpa⟩ := HC.out k hkl
      obtain ⟨c0, c1, c2⟩ := hpa.below hb hab
      have hss := HS.out ps[k] (List.getElem_mem hkl)
      have hs1 : sameB ps[k].name nm = true → Hid (findR ps nm = (ps[k], true)) := fun h => show _ = _ by rw [findR, find_hit hkl hfn.out h]
      have hs2 : sameB ps[k].name nm = false → Hid (findV (ps.take (k + 1)) nm = none) := fun h => find_snoc hkl hfn.out h
      generalize ps[k] = p at c0 c1 c2 hss hs1 hs2
      obtain ⟨pn, pv, ph⟩ := p
      simp only at c0 c1 c2 hss hs1 hs2
      clear hpa hfn
      have hB := hb.size
      go_wp2_with fail
      refine (lower_list pn _ (by omega)).mono ?_
      rintro e w2 ⟨rfl, hw2⟩
      have hbx : BoxP w2 _ ⟨pn, pv, ph⟩ := (boxP_new _ ⟨pn, pv, ph⟩ _).below hw2 (alloc_lt _ _)
      have hb2 := box_below hb hB hw2
      have hl2 := box_lt hl hw2
      have hr2 := row_box hr.out hl hw2
      clear hw2 hr hb hl c0 c1 c2 hB hab
      obtain ⟨x0, x1, x2⟩ := hbx
      simp only at x0 x1 x2
      cases hsb : sameB pn nm with
      | true =>
        have hcmp : (lowL pn == lowL nm) = true := hsb
        have hv := hs1 hsb
        clear hs1 hs2 hsb
        obtain ⟨y0, y1, y2, f0, f1, f2⟩ := hr2.three
        go_wp2
        have hr5 := row_store3 hr2 (.string ⟨pn.toArray⟩) (.string ⟨pv.toArray⟩) (.bool ph)
        have hb5 := store_below3 hb2 w.heap.size (Nat.le_refl _) (.string ⟨pn.toArray⟩) (.string ⟨pv.toArray⟩) (.bool ph)
        generalize World.setCell _ _ _ = w5 at hr5 hb5 ⊢
        obtain ⟨d0, d1, d2, _, _, _⟩ := hr5.three
        try simp only [Exit.inBlock, Exit.then]
        refine bodyPost_ret (v := .tuple #[.agg #[.string ⟨pn.toArray⟩, .string ⟨pv.toArray⟩, .bool ph], .bool true]) (by simp [results, Tryd.results22, go_sem, d0, d1, d2]; try rfl) rfl ?_
        exact ⟨ret_find hv.out, hb5⟩
      | false =>
        have hcmp : (lowL pn == lowL nm) = false := hsb
        have hf2 := hs2 hsb
        have HR2 : Hid _ := hr2
        clear hs1 hs2 hsb hr2
        go_wp2
        go_roundw
        case rel => exact ⟨k + 1, by omega, by go_num, hb2, hl2, HR2, hf2⟩
        case measure => simp [intOf]; omega
    · have hv : Hid (findR ps nm = (noP, false)) := show _ = _ by
        have := hfn.out
        rw [List.take_of_length_le (by have := HN.out; omega)] at this
        rw [findR, this]
      have hr2 := hr.out
      clear hfn hr
      obtain ⟨y0, y1, y2, f0, f1, f2⟩ := hr2.three
      go_wp2
      have hr5 := row_store3 hr2 (.string ⟨#[]⟩) (.string ⟨#[]⟩) (.bool false)
      have hb5 := store_below3 hb w.heap.size (Nat.le_refl _) (.string ⟨#[]⟩) (.string ⟨#[]⟩) (.bool false)
      generalize World.setCell _ _ _ = w5 at hr5 hb5 ⊢
      obtain ⟨d0, d1, d2, _, _, _⟩ := hr5.three
      try simp only [Exit.inBlock, Exit.then]
      refine bodyPost_ret (v := .tuple #[.agg #[.string ⟨#[]⟩, .string ⟨#[]⟩, .bool false], .bool false]) (by simp [results, Tryd.results22, go_sem, d0, d1, d2]; try rfl) rfl ?_
      exact ⟨ret_find hv.out, hb5⟩

set_option maxHeartbeats 400000 in
theorem find_nil (a : Option Addr) (cap : Nat) (nm : List UInt8) (w : World) (hnm : nm.length ≤ 140737488355328) :
    Calls Tryd.prog 22 #[.slice a 0 cap, .string ⟨nm.toArray⟩] w fun e w' => e = .returned (.tuple #[parV (findR [] nm).1, .bool (findR [] nm).2]) ∧ Below w.heap.size w w' := by
  have hr0 := row3_new w 42
  have hb0 : Below w.heap.size w (w.alloc (.cells #[.string ⟨#[]⟩, .string ⟨#[]⟩, .bool false] 42)) := (Below.refl _ w).alloc (Nat.le_refl _) _
  have hlt0 := alloc_lt w (.cells #[.string ⟨#[]⟩, .string ⟨#[]⟩, .bool false] 42)
  go_enter Tryd.func22, Tryd.ntmps22
  go_wp2_with fail
  refine (lower_list nm _ (by omega)).mono ?_
  rintro e w1 ⟨rfl, hw1⟩
  have hr1 := hr0.below hw1 hlt0
  have hb1 := hb0.trans (hw1.mono hb0.size)
  clear hr0 hb0 hlt0 hw1
  obtain ⟨y0, y1, y2, f0, f1, f2⟩ := hr1.three
  go_wp2
  go_loop [13] (fun i => i = .int .i64 0) (fun i => 0)
  case atStart => rfl
  case round =>
    subst hrel
    go_wp2
    have hr5 := row_store3 hr1 (.string ⟨#[]⟩) (.string ⟨#[]⟩) (.bool false)
    have hb5 := store_below3 hb1 w.heap.size (Nat.le_refl _) (.string ⟨#[]⟩) (.string ⟨#[]⟩) (.bool false)
    generalize World.setCell _ _ _ = w5 at hr5 hb5 ⊢
    obtain ⟨d0, d1, d2, _, _, _⟩ := hr5.three
    try simp only [Exit.inBlock, Exit.then]
    refine bodyPost_ret (v := .tuple #[.agg #[.string ⟨#[]⟩, .string ⟨#[]⟩, .bool false], .bool false]) (by simp [results, Tryd.results22, go_sem, d0, d1, d2]; try rfl) rfl ?_
    exact ⟨rfl, hb5⟩
theorem find_any (v : Value) (ps : List Par) (nm : List UInt8) (w : World) (hnm : nm.length ≤ 140737488355328) (hsm : SmallP 140737488355328 ps) (h : ParsAt w v ps) :
    Calls Tryd.prog 22 #[v, .string ⟨nm.toArray⟩] w fun e w' => e = .returned (.tuple #[parV (findR ps nm).1, .bool (findR ps nm).2]) ∧ Below w.heap.size w w' := by
  rcases h with ⟨rfl, rfl⟩ | ⟨a, cap, rfl, hc⟩
  · exact find_nil none 0 nm w hnm
  · exact find_row a cap ps nm w hnm hsm hc

set_option maxHeartbeats 400000 in
theorem binding_any (nm : List UInt8) (w : World) (hnm : nm.length ≤ 140737488355328) :
    Calls Tryd.prog 43 #[.string ⟨nm.toArray⟩] w fun e w' => e = .returned (.bool (graveB nm)) ∧ Below w.heap.size w w' := by
  obtain ⟨g, hg⟩ : ∃ g, graveB nm = g := ⟨_, rfl⟩
  have hgv := hg
  unfold graveB at hgv
  rw [hg]
  clear hg
  go_enter Tryd.func43, Tryd.ntmps43
  go_wp2_with fail
  refine (lower_list nm _ (by omega)).mono ?_
  rintro e w1 ⟨rfl, hw1⟩
  generalize lowL nm = l at hgv ⊢
  cases h1 : (l == [117, 115, 101, 114]) with
  | true =>
    have HG : Hid (true = g) := show _ = _ by rw [← hgv, h1]; rfl
    clear hgv
    go_wp2
    go_ret
    exact ⟨ret_bool HG.out, hw1⟩
  | false =>
    cases h2 : (l == [116, 116, 108]) with
    | true =>
      have HG : Hid (true = g) := show _ = _ by rw [← hgv, h1, h2]; rfl
      clear hgv
      go_wp2
      go_ret
      exact ⟨ret_bool HG.out, hw1⟩
    | false =>
      cases h3 : (l == [109, 101, 116, 104, 111, 100]) with
      | true =>
        have HG : Hid (true = g) := show _ = _ by rw [← hgv, h1, h2, h3]; rfl
        clear hgv
        go_wp2
        go_ret
        exact ⟨ret_bool HG.out, hw1⟩
      | false =>
        cases h4 : (l == [109, 97, 100, 100, 114]) with
        | true =>
          have HG : Hid (true = g) := show _ = _ by rw [← hgv, h1, h2, h3, h4]; rfl
          clear hgv
          go_wp2
          go_ret
          exact ⟨ret_bool HG.out, hw1⟩
        | false =>
          have HG : Hid (false = g) := show _ = _ by rw [← hgv, h1, h2, h3, h4]; rfl
          clear hgv
          go_wp2
          go_ret
          exact ⟨ret_bool HG.out, hw1⟩

end Go.Proofs.YtnkghefcoolkoaaDoor

/-
  Contracts of package same: Value, paramMark, headerMark, paramsMet, headersMet.
-/
namespace Go.Proofs.YtnkghefcoolkoaaDoor
open Go.RowKit Sc
set_option linter.unusedVariables false
set_option maxRecDepth 20000
set_option linter.unusedSimpArgs false

theorem stoodMark : Tryd.prog.stoodInHeld 60 = false := by kernel_rfl
theorem guardMark : Tryd.prog.eqGuardType Tryd.prog.depth 60 = false := by kernel_rfl
theorem fieldsMark : Tryd.prog.underlying 60 = some (.struct (Tryd.prog.fieldsOf 60)) := by kernel_rfl
theorem listMark : (Tryd.prog.fieldsOf 60).toList.map (fun f => (f.type, f.offset, f.name == "_")) = [(9, 0, false), (9, 1, false), (4, 2, false)] := by kernel_rfl
theorem neqMark (x y x' y' : ByteArray) (b b' : Bool) (u : World) : (binOp .neq 60 (.agg #[.string x, .string y, .bool b]) (.agg #[.string x', .string y', .bool b'])).run Tryd.prog u = .ok (.bool (!(x.toList == x'.toList && (y.toList == y'.toList && b == b')))) u := by
  rw [run_neq_struct, run_equalIn_agg _ 9999 _ _ _ fieldsMark stoodMark]
  have h := listMark
  generalize (Tryd.prog.fieldsOf 60).toList = fs at h ⊢
  have hlen : fs.length = 3 := by have := congrArg List.length h; simpa using this
  match fs, hlen, h with
  | [f0, f1, f2], _, h =>
    simp only [List.map_cons, List.map_nil, List.cons.injEq, Prod.mk.injEq, and_true, beq_eq_false_iff_ne] at h
    obtain ⟨⟨t0, o0, n0⟩, ⟨t1, o1, n1⟩, t2, o2, n2⟩ := h
    have p0 : ∀ (X Y : ByteArray) (B : Bool) (v : World), (part 9 #[.string X, .string Y, .bool B] 0).run Tryd.prog v = .ok (.string X) v := fun X Y B v => run_part_plain v plainStr rfl
    have p1 : ∀ (X Y : ByteArray) (B : Bool) (v : World), (part 9 #[.string X, .string Y, .bool B] 1).run Tryd.prog v = .ok (.string Y) v := fun X Y B v => run_part_plain v plainStr rfl
    have p2 : ∀ (X Y : ByteArray) (B : Bool) (v : World), (part 4 #[.string X, .string Y, .bool B] 2).run Tryd.prog v = .ok (.bool B) v := fun X Y B v => run_part_plain v plainBool rfl
    have q1 : ∀ (X Y : ByteArray) (v : World), (Op.equalIn 9999 9 (.string X) (.string Y)).run Tryd.prog v = .ok (X.toList == Y.toList) v := fun X Y v => run_equalIn_string v 9998 _ X Y Tryd.underlying9
    have q2 : ∀ (X Y : Bool) (v : World), (Op.equalIn 9999 4 (.bool X) (.bool Y)).run Tryd.prog v = .ok (X == Y) v := fun X Y v => run_equalIn_bool' v 9998 _ X Y Tryd.underlying4
    simp only [Op.eqFields, t0, t1, t2, o0, o1, o2, Sem.run_bind, Sem.run_ite, if_pos n0, if_pos n1, if_pos n2, p0, p1, p2, q1, q2, Result.andThen_ok]
    cases h0 : (x.toList == x'.toList) <;> cases h1 : (y.toList == y'.toList) <;> cases h2 : (b == b') <;> rfl
theorem neqMark_is (a b a' b' : List UInt8) (h h' : Bool) (u : World) : (binOp .neq 60 (.agg #[.string ⟨a.toArray⟩, .string ⟨b.toArray⟩, .bool h]) (.agg #[.string ⟨a'.toArray⟩, .string ⟨b'.toArray⟩, .bool h'])).run Tryd.prog u = .ok (.bool (!(a == a' && (b == b' && h == h')))) u := by
  rw [neqMark]
  simp [ByteArray.toList_eq]

theorem box2 {w w2 : World} {o : Obj} {p : Par} (hbx : BoxP w2 w.heap.size p) (hl : w.heap.size < w2.heap.size) : BoxP (w2.alloc o) w.heap.size p :=
  hbx.below ((Below.refl _ _).alloc (Nat.le_refl _) o) hl

set_option maxHeartbeats 1000000 in
set_option maxRecDepth 100000 in
theorem paramMark_any (pn pv : List UInt8) (ph : Bool) (w : World) (h1 : pn.length ≤ 140737488355328) (h2 : pv.length ≤ 140737488355328) :
    Calls Tryd.prog 44 #[.agg #[.string ⟨pn.toArray⟩, .string ⟨pv.toArray⟩, .bool ph]] w fun e w' => e = .returned (.agg #[.string ⟨(lowL pn).toArray⟩, .string ⟨(lowL pv).toArray⟩, .bool ph]) ∧ Below w.heap.size w w' := by
  have hbx : Hid (BoxP ((w.alloc (.cells #[.string ⟨pn.toArray⟩, .string ⟨pv.toArray⟩, .bool ph] 42)).alloc (.cells #[.string ⟨#[]⟩, .string ⟨#[]⟩, .bool false] 60)).drew w.heap.size ⟨pn, pv, ph⟩) := box2 (boxP_new w ⟨pn, pv, ph⟩ 42) (alloc_lt w _)
  have hrow : Hid (RowIs ((w.alloc (.cells #[.string ⟨pn.toArray⟩, .string ⟨pv.toArray⟩, .bool ph] 42)).alloc (.cells #[.string ⟨#[]⟩, .string ⟨#[]⟩, .bool false] 60)).drew (w.heap.size + 1) 60 [.string ⟨#[]⟩, .string ⟨#[]⟩, .bool false]) := by
    have h := row3_new (w.alloc (.cells #[.string ⟨pn.toArray⟩, .string ⟨pv.toArray⟩, .bool ph] 42)) 60
    have e : (w.alloc (.cells #[.string ⟨pn.toArray⟩, .string ⟨pv.toArray⟩, .bool ph] 42)).heap.size = w.heap.size + 1 := by simp
    rw [e] at h; exact h
  have hacc : Below w.heap.size w ((w.alloc (.cells #[.string ⟨pn.toArray⟩, .string ⟨pv.toArray⟩, .bool ph] 42)).alloc (.cells #[.string ⟨#[]⟩, .string ⟨#[]⟩, .bool false] 60)).drew := (((Below.refl _ w).alloc (Nat.le_refl _) _).alloc (by simp) _).drew
  have hlt : w.heap.size + 1 < (((w.alloc (.cells #[.string ⟨pn.toArray⟩, .string ⟨pv.toArray⟩, .bool ph] 42)).alloc (.cells #[.string ⟨#[]⟩, .string ⟨#[]⟩, .bool false] 60)).drew).heap.size := by simp [World.drew]
  obtain ⟨g0, g1, g2⟩ := hbx.out
  obtain ⟨y0, y1, y2, f0, f1, f2⟩ := hrow.out.three
  simp only at g0 g1 g2
  go_enter Tryd.func44, Tryd.ntmps44
  go_wp2
  go_region_law (go_simp; go_at_call 40; refine (lower_list _ _ (by omega)).mono ?_; rintro e w1 ⟨rfl, hw1⟩; replace hbx : Hid _ := BoxP.below hbx.out hw1 (Nat.lt_trans (Nat.lt_succ_self _) hlt); have hr1 := RowIs.below hrow.out hw1 hlt; replace hlt := Nat.lt_of_lt_of_le hlt hw1.size; clear hrow; have hrow : Hid _ := hr1; replace hacc := hacc.trans (hw1.mono hacc.size); obtain ⟨g0, g1, g2⟩ := hbx.out; obtain ⟨y0, y1, y2, f0, f1, f2⟩ := hr1.three; clear hr1 hw1)
  all_goals (
    have hr5 := row_store3 hrow.out (.string ⟨(lowL pn).toArray⟩) (.string ⟨(lowL pv).toArray⟩) (.bool ph)
    have hb5 := store_below3 hacc _ (Nat.le_succ w.heap.size) (.string ⟨(lowL pn).toArray⟩) (.string ⟨(lowL pv).toArray⟩) (.bool ph)
    go_wp2
    generalize World.setCell _ _ _ = w5 at hr5 hb5 ⊢
    obtain ⟨d0, d1, d2, _, _, _⟩ := hr5.three
    try simp only [Exit.inBlock, Exit.then]
    refine bodyPost_ret (v := .agg #[.string ⟨(lowL pn).toArray⟩, .string ⟨(lowL pv).toArray⟩, .bool ph]) (by simp [results, Tryd.results44, go_sem, d0, d1, d2]; try rfl) rfl ?_
    exact ⟨rfl, hb5⟩)

set_option maxHeartbeats 1000000 in
set_option maxRecDepth 100000 in
theorem headerMark_any (pn pv : List UInt8) (ph : Bool) (w : World) (h1 : pn.length ≤ 140737488355328) :
    Calls Tryd.prog 45 #[.agg #[.string ⟨pn.toArray⟩, .string ⟨pv.toArray⟩, .bool ph]] w fun e w' => e = .returned (.agg #[.string ⟨(lowL pn).toArray⟩, .string ⟨pv.toArray⟩, .bool ph]) ∧ Below w.heap.size w w' := by
  have hbx : Hid (BoxP ((w.alloc (.cells #[.string ⟨pn.toArray⟩, .string ⟨pv.toArray⟩, .bool ph] 42)).alloc (.cells #[.string ⟨#[]⟩, .string ⟨#[]⟩, .bool false] 60)).drew w.heap.size ⟨pn, pv, ph⟩) := box2 (boxP_new w ⟨pn, pv, ph⟩ 42) (alloc_lt w _)
  have hrow : Hid (RowIs ((w.alloc (.cells #[.string ⟨pn.toArray⟩, .string ⟨pv.toArray⟩, .bool ph] 42)).alloc (.cells #[.string ⟨#[]⟩, .string ⟨#[]⟩, .bool false] 60)).drew (w.heap.size + 1) 60 [.string ⟨#[]⟩, .string ⟨#[]⟩, .bool false]) := by
    have h := row3_new (w.alloc (.cells #[.string ⟨pn.toArray⟩, .string ⟨pv.toArray⟩, .bool ph] 42)) 60
    have e : (w.alloc (.cells #[.string ⟨pn.toArray⟩, .string ⟨pv.toArray⟩, .bool ph] 42)).heap.size = w.heap.size + 1 := by simp
    rw [e] at h; exact h
  have hacc : Below w.heap.size w ((w.alloc (.cells #[.string ⟨pn.toArray⟩, .string ⟨pv.toArray⟩, .bool ph] 42)).alloc (.cells #[.string ⟨#[]⟩, .string ⟨#[]⟩, .bool false] 60)).drew := (((Below.refl _ w).alloc (Nat.le_refl _) _).alloc (by simp) _).drew
  have hlt : w.heap.size + 1 < (((w.alloc (.cells #[.string ⟨pn.toArray⟩, .string ⟨pv.toArray⟩, .bool ph] 42)).alloc (.cells #[.string ⟨#[]⟩, .string ⟨#[]⟩, .bool false] 60)).drew).heap.size := by simp [World.drew]
  obtain ⟨g0, g1, g2⟩ := hbx.out
  obtain ⟨y0, y1, y2, f0, f1, f2⟩ := hrow.out.three
  simp only at g0 g1 g2
  go_enter Tryd.func45, Tryd.ntmps45
  go_wp2
  go_region_law (go_simp; go_at_call 40; refine (lower_list _ _ (by omega)).mono ?_; rintro e w1 ⟨rfl, hw1⟩; replace hbx : Hid _ := BoxP.below hbx.out hw1 (Nat.lt_trans (Nat.lt_succ_self _) hlt); have hr1 := RowIs.below hrow.out hw1 hlt; replace hlt := Nat.lt_of_lt_of_le hlt hw1.size; clear hrow; have hrow : Hid _ := hr1; replace hacc := hacc.trans (hw1.mono hacc.size); obtain ⟨g0, g1, g2⟩ := hbx.out; obtain ⟨y0, y1, y2, f0, f1, f2⟩ := hr1.three; clear hr1 hw1)
  all_goals (
    have hr5 := row_store3 hrow.out (.string ⟨(lowL pn).toArray⟩) (.string ⟨pv.toArray⟩) (.bool ph)
    have hb5 := store_below3 hacc _ (Nat.le_succ w.heap.size) (.string ⟨(lowL pn).toArray⟩) (.string ⟨pv.toArray⟩) (.bool ph)
    go_wp2
    generalize World.setCell _ _ _ = w5 at hr5 hb5 ⊢
    obtain ⟨d0, d1, d2, _, _, _⟩ := hr5.three
    try simp only [Exit.inBlock, Exit.then]
    refine bodyPost_ret (v := .agg #[.string ⟨(lowL pn).toArray⟩, .string ⟨pv.toArray⟩, .bool ph]) (by simp [results, Tryd.results45, go_sem, d0, d1, d2]; try rfl) rfl ?_
    exact ⟨rfl, hb5⟩)

end Go.Proofs.YtnkghefcoolkoaaDoor

/-
  Contracts of package same: paramsMet, headersMet.
-/
namespace Go.Proofs.YtnkghefcoolkoaaDoor
open Go.RowKit Sc
set_option linter.unusedVariables false
set_option maxRecDepth 20000
set_option linter.unusedSimpArgs false

theorem find_mem {ps : List Par} {nm : List UInt8} {p : Par} (h : findV ps nm = some p) : p ∈ ps ∧ sameB p.name nm = true := by
  unfold findV at h
  exact ⟨List.mem_of_find?_eq_some h, by simpa using List.find?_some h⟩
theorem okP_some {qs : List Par} {p q : Par} (h : findV qs p.name = some q) : okP qs p = (lowL p.value == lowL q.value && p.has == q.has) := by
  unfold okP
  rw [h]
  simp only [sameB]
  rw [Bool.and_comm, BEq.comm (a := lowL q.value), BEq.comm (a := q.has)]
theorem okM_some {qs : List Par} {p q : Par} (h : findV qs p.name = some q) : okM qs p = (p.value == q.value && p.has == q.has) := by
  unfold okM
  rw [h]
  simp only
  rw [BEq.comm (a := q.value), BEq.comm (a := q.has)]
/-- What 'find' answers, with its parts named. -/
theorem find_none {ps : List Par} {nm : List UInt8} (hf : findV ps nm = none) (v : Value) (w : World) (hnm : nm.length ≤ 140737488355328) (hsm : SmallP 140737488355328 ps) (h : ParsAt w v ps) :
    Calls Tryd.prog 22 #[v, .string ⟨nm.toArray⟩] w fun e w' => e = .returned (.tuple #[.agg #[.string ⟨#[]⟩, .string ⟨#[]⟩, .bool false], .bool false]) ∧ Below w.heap.size w w' := by
  have k := find_any v ps nm w hnm hsm h
  rw [findR, hf] at k
  exact k
theorem find_some {ps : List Par} {nm qn qv : List UInt8} {qh : Bool} (hf : findV ps nm = some ⟨qn, qv, qh⟩) (v : Value) (w : World) (hnm : nm.length ≤ 140737488355328) (hsm : SmallP 140737488355328 ps) (h : ParsAt w v ps) :
    Calls Tryd.prog 22 #[v, .string ⟨nm.toArray⟩] w fun e w' => e = .returned (.tuple #[.agg #[.string ⟨qn.toArray⟩, .string ⟨qv.toArray⟩, .bool qh], .bool true]) ∧ Below w.heap.size w w' := by
  have k := find_any v ps nm w hnm hsm h
  rw [findR, hf] at k
  exact k
set_option maxHeartbeats 2000000 in
set_option maxRecDepth 100000 in
theorem metParams_row (a : Addr) (cap : Nat) (v2 : Value) (ps qs : List Par) (w : World) (hsm : SmallP 140737488355328 ps) (hsq : SmallP 140737488355328 qs) (hc : ∀ k (hk : k < ps.length), a.block < w.heap.size ∧ ParAt w a k ps[k]) (h2 : ParsAt w v2 qs) :
    Calls Tryd.prog 25 #[.slice (some a) ps.length cap, v2] w fun e w' => e = .returned (.bool (ps.all (okP qs))) ∧ Below w.heap.size w w' := by
  have HC : Hid _ := hc; clear hc
  have HS : Hid _ := hsm.2
  have HQ : Hid _ := hsq
  have HQ2 : Hid _ := hsq.2
  have hz := hsm.1
  clear hsm hsq
  have K2 : Hid (∀ w', Below w.heap.size w w' → ParsAt w' v2 qs) := fun w' hb => h2.below hb
  obtain ⟨a2, k2, rfl⟩ := h2.form
  clear h2
  obtain ⟨b, hb0⟩ : ∃ b, ps.all (okP qs) = b := ⟨_, rfl⟩
  rw [hb0]
  have HB : Hid _ := hb0; clear hb0
  obtain ⟨n, hn⟩ : ∃ n, n = ps.length := ⟨_, rfl⟩
  rw [← hn] at hz ⊢
  have HN : Hid _ := hn; clear hn
  have hgm := guardMark
  go_enter Tryd.func25, Tryd.ntmps25
  go_wp2
  go_loopw [11] (fun i wr => ∃ k : Nat, k ≤ n ∧ i = .int .i64 k ∧ Below w.heap.size w wr ∧ Hid ((ps.take k).all (okP qs) = true)) (fun i _ => n - (intOf i).toNat)
  case atStart => exact ⟨0, by omega, rfl, Below.refl _ _, rfl⟩
  case round =>
    obtain ⟨k, hk, rfl, hb, hal⟩ := hrel
    by_cases hlt : k < n
    · have hkl : k < ps.length := by have := HN.out; omega
      obtain ⟨hab, hpa⟩ := HC.out k hkl
      obtain ⟨c0, c1, c2⟩ := hpa.below hb hab
      have hss := HS.out ps[k] (List.getElem_mem hkl)
      have hs1 : Hid (okP qs ps[k] = true → (ps.take (k + 1)).all (okP qs) = true) := fun h => all_snoc hkl hal.out h
      have hs2 : Hid (okP qs ps[k] = false → b = false) := fun h => by rw [← HB.out, all_bad hkl h]
      generalize ps[k] = p at c0 c1 c2 hss hs1 hs2
      obtain ⟨pn, pv, ph⟩ := p
      simp only at c0 c1 c2 hss
      clear hpa hal hab
      have hB := hb.size
      cases hf : findV qs pn with
      | none =>
        have K3 : Hid _ := fun (w' : World) (h : Below w.heap.size w w') => find_none hf (.slice a2 qs.length k2) w' hss.1 HQ.out (K2.out w' h)
        cases hg : graveB pn with
        | true =>
          have hbad : Hid (b = false) := hs2.out (by simp [okP, hf, hg])
          clear hf hs1 hs2
          go_wp2_with fail
          refine (K3.out _ (hb.alloc hB _)).mono ?_
          rintro e w2 ⟨rfl, hw2⟩
          have hl1 := Nat.lt_of_lt_of_le (alloc_lt _ _) hw2.size
          have hbx1 := (boxP_new _ ⟨pn, pv, ph⟩ _).below hw2 (alloc_lt _ _)
          have hb2 := box_below hb hB hw2
          obtain ⟨x0, x1, x2⟩ := box2 (o := .cells #[.string ⟨#[]⟩, .string ⟨#[]⟩, .bool false] 42) hbx1 hl1
          simp only at x0 x1 x2
          clear hw2 hbx1 hl1 c0 c1 c2 K3
          have hacc := hb2.alloc hb2.size (.cells #[.string ⟨#[]⟩, .string ⟨#[]⟩, .bool false] 42)
          go_wp2_with fail
          refine (binding_any pn _ hss.1).mono ?_
          rintro e w3 ⟨rfl, hw3⟩
          have hb3 := hacc.trans (hw3.mono hacc.size)
          clear x0 x1 x2 hw3 hacc
          rw [hg]
          go_wp2
          go_ret
          exact ⟨ret_bool hbad.out.symm, hb3⟩
        | false =>
          have hgo : Hid ((ps.take (k + 1)).all (okP qs) = true) := hs1.out (by simp [okP, hf, hg])
          clear hf hs1 hs2
          go_wp2_with fail
          refine (K3.out _ (hb.alloc hB _)).mono ?_
          rintro e w2 ⟨rfl, hw2⟩
          have hl1 := Nat.lt_of_lt_of_le (alloc_lt _ _) hw2.size
          have hbx1 := (boxP_new _ ⟨pn, pv, ph⟩ _).below hw2 (alloc_lt _ _)
          have hb2 := box_below hb hB hw2
          obtain ⟨x0, x1, x2⟩ := box2 (o := .cells #[.string ⟨#[]⟩, .string ⟨#[]⟩, .bool false] 42) hbx1 hl1
          simp only at x0 x1 x2
          clear hw2 hbx1 hl1 c0 c1 c2 K3
          have hacc := hb2.alloc hb2.size (.cells #[.string ⟨#[]⟩, .string ⟨#[]⟩, .bool false] 42)
          go_wp2_with fail
          refine (binding_any pn _ hss.1).mono ?_
          rintro e w3 ⟨rfl, hw3⟩
          have hb3 := (hacc.trans (hw3.mono hacc.size)).drew
          clear x0 x1 x2 hw3 hacc
          rw [hg]
          go_wp2
          go_region_law (fail)
          all_goals (
            go_wp2
            go_roundw
            case rel => exact ⟨k + 1, by omega, by go_num, hb3, hgo⟩
            case measure => simp [intOf]; omega)
      | some q =>
        obtain ⟨qn, qv, qh⟩ := q
        have hqm := find_mem hf
        have hqs := HQ2.out _ hqm.1
        have hnn : (lowL pn == lowL qn) = true := by have := hqm.2; unfold sameB at this; simpa using (by simpa using this : lowL qn = lowL pn).symm
        simp only at hqs
        clear hqm
        have K3 : Hid _ := fun (w' : World) (h : Below w.heap.size w w') => find_some hf (.slice a2 qs.length k2) w' hss.1 HQ.out (K2.out w' h)
        have hokv : Hid (okP qs ⟨pn, pv, ph⟩ = (lowL pv == lowL qv && ph == qh)) := okP_some (p := ⟨pn, pv, ph⟩) hf
        have hcmp0 := fun u => neqMark_is (lowL pn) (lowL pv) (lowL qn) (lowL qv) ph qh u
        rw [hnn, Bool.true_and] at hcmp0
        clear hf hnn
        cases hm : (lowL pv == lowL qv && ph == qh) with
        | true =>
          have hgo : Hid ((ps.take (k + 1)).all (okP qs) = true) := hs1.out (hokv.out.trans hm)
          rw [hm] at hcmp0
          have hcmp : ∀ u, _ := hcmp0
          simp only [Bool.not_true] at hcmp
          clear hs1 hs2 hokv hm hcmp0
          go_wp2_with fail
          refine (K3.out _ (hb.alloc hB _)).mono ?_
          rintro e w2 ⟨rfl, hw2⟩
          have hl1 := Nat.lt_of_lt_of_le (alloc_lt _ _) hw2.size
          have hbx1 := (boxP_new _ ⟨pn, pv, ph⟩ _).below hw2 (alloc_lt _ _)
          have hb2 := box_below hb hB hw2
          have hbx : Hid (BoxP (w2.alloc (.cells #[.string ⟨qn.toArray⟩, .string ⟨qv.toArray⟩, .bool qh] 42)).drew _ ⟨pn, pv, ph⟩) := box2 hbx1 hl1
          have hqx : Hid (BoxP (w2.alloc (.cells #[.string ⟨qn.toArray⟩, .string ⟨qv.toArray⟩, .bool qh] 42)).drew w2.heap.size ⟨qn, qv, qh⟩) := boxP_new w2 ⟨qn, qv, qh⟩ 42
          have hacc : Below w.heap.size w (w2.alloc (.cells #[.string ⟨qn.toArray⟩, .string ⟨qv.toArray⟩, .bool qh] 42)).drew := (hb2.alloc hb2.size _).drew
          have hlq : w2.heap.size < (w2.alloc (.cells #[.string ⟨qn.toArray⟩, .string ⟨qv.toArray⟩, .bool qh] 42)).drew.heap.size := alloc_lt w2 _
          have hlp := Nat.lt_trans hl1 hlq
          clear hw2 hb2 hbx1 hl1 c0 c1 c2 K3
          obtain ⟨x0, x1, x2⟩ := hbx.out
          obtain ⟨y0, y1, y2⟩ := hqx.out
          simp only at x0 x1 x2 y0 y1 y2
          go_wp2
          go_region_law (go_simp; go_at_call 44; refine (paramMark_any _ _ _ _ (by omega) (by omega)).mono ?_; rintro e w3 ⟨rfl, hw3⟩; replace hbx : Hid _ := BoxP.below hbx.out hw3 hlp; replace hqx : Hid _ := BoxP.below hqx.out hw3 hlq; replace hacc := hacc.trans (hw3.mono hacc.size); replace hlp := Nat.lt_of_lt_of_le hlp hw3.size; replace hlq := Nat.lt_of_lt_of_le hlq hw3.size; obtain ⟨x0, x1, x2⟩ := hbx.out; obtain ⟨y0, y1, y2⟩ := hqx.out; clear hw3)
          all_goals (
            go_wp2
            go_roundw
            case rel => exact ⟨k + 1, by omega, by go_num, hacc, hgo⟩
            case measure => simp [intOf]; omega)
        | false =>
          have hbad : Hid (b = false) := hs2.out (hokv.out.trans hm)
          rw [hm] at hcmp0
          have hcmp : ∀ u, _ := hcmp0
          simp only [Bool.not_false] at hcmp
          clear hs1 hs2 hokv hm hcmp0
          go_wp2_with fail
          refine (K3.out _ (hb.alloc hB _)).mono ?_
          rintro e w2 ⟨rfl, hw2⟩
          have hl1 := Nat.lt_of_lt_of_le (alloc_lt _ _) hw2.size
          have hbx1 := (boxP_new _ ⟨pn, pv, ph⟩ _).below hw2 (alloc_lt _ _)
          have hb2 := box_below hb hB hw2
          have hbx : Hid (BoxP (w2.alloc (.cells #[.string ⟨qn.toArray⟩, .string ⟨qv.toArray⟩, .bool qh] 42)).drew _ ⟨pn, pv, ph⟩) := box2 hbx1 hl1
          have hqx : Hid (BoxP (w2.alloc (.cells #[.string ⟨qn.toArray⟩, .string ⟨qv.toArray⟩, .bool qh] 42)).drew w2.heap.size ⟨qn, qv, qh⟩) := boxP_new w2 ⟨qn, qv, qh⟩ 42
          have hacc : Below w.heap.size w (w2.alloc (.cells #[.string ⟨qn.toArray⟩, .string ⟨qv.toArray⟩, .bool qh] 42)).drew := (hb2.alloc hb2.size _).drew
          have hlq : w2.heap.size < (w2.alloc (.cells #[.string ⟨qn.toArray⟩, .string ⟨qv.toArray⟩, .bool qh] 42)).drew.heap.size := alloc_lt w2 _
          have hlp := Nat.lt_trans hl1 hlq
          clear hw2 hb2 hbx1 hl1 c0 c1 c2 K3
          obtain ⟨x0, x1, x2⟩ := hbx.out
          obtain ⟨y0, y1, y2⟩ := hqx.out
          simp only at x0 x1 x2 y0 y1 y2
          go_wp2
          go_region_law (go_simp; go_at_call 44; refine (paramMark_any _ _ _ _ (by omega) (by omega)).mono ?_; rintro e w3 ⟨rfl, hw3⟩; replace hbx : Hid _ := BoxP.below hbx.out hw3 hlp; replace hqx : Hid _ := BoxP.below hqx.out hw3 hlq; replace hacc := hacc.trans (hw3.mono hacc.size); replace hlp := Nat.lt_of_lt_of_le hlp hw3.size; replace hlq := Nat.lt_of_lt_of_le hlq hw3.size; obtain ⟨x0, x1, x2⟩ := hbx.out; obtain ⟨y0, y1, y2⟩ := hqx.out; clear hw3)
          all_goals (
            go_wp2
            go_ret
            exact ⟨ret_bool hbad.out.symm, hacc⟩)
    · have hall : Hid (b = true) := show _ = _ by
        have := hal.out
        rw [List.take_of_length_le (by have := HN.out; omega)] at this
        rw [← HB.out, this]
      clear hal
      go_wp2
      go_ret
      exact ⟨ret_bool hall.out.symm, hb⟩
set_option maxHeartbeats 400000 in
theorem metParams_nil (a : Option Addr) (cap : Nat) (v2 : Value) (w : World) :
    Calls Tryd.prog 25 #[.slice a 0 cap, v2] w fun e w' => e = .returned (.bool true) ∧ Below w.heap.size w w' := by
  go_enter Tryd.func25, Tryd.ntmps25
  go_wp2
  go_loop [11] (fun i => i = .int .i64 0) (fun i => 0)
  case atStart => rfl
  case round =>
    subst hrel
    go_wp2
    go_ret
    exact ⟨rfl, Below.refl _ _⟩
theorem metParams_any (v1 v2 : Value) (ps qs : List Par) (w : World) (hsm : SmallP 140737488355328 ps) (hsq : SmallP 140737488355328 qs) (h1 : ParsAt w v1 ps) (h2 : ParsAt w v2 qs) :
    Calls Tryd.prog 25 #[v1, v2] w fun e w' => e = .returned (.bool (ps.all (okP qs))) ∧ Below w.heap.size w w' := by
  rcases h1 with ⟨rfl, rfl⟩ | ⟨a, cap, rfl, hc⟩
  · exact metParams_nil none 0 v2 w
  · exact metParams_row a cap v2 ps qs w hsm hsq hc h2

set_option maxHeartbeats 2000000 in
set_option maxRecDepth 100000 in
theorem metHeaders_row (a : Addr) (cap : Nat) (v2 : Value) (ps qs : List Par) (w : World) (hsm : SmallP 140737488355328 ps) (hsq : SmallP 140737488355328 qs) (hc : ∀ k (hk : k < ps.length), a.block < w.heap.size ∧ ParAt w a k ps[k]) (h2 : ParsAt w v2 qs) :
    Calls Tryd.prog 26 #[.slice (some a) ps.length cap, v2] w fun e w' => e = .returned (.bool (ps.all (okM qs))) ∧ Below w.heap.size w w' := by
  have HC : Hid _ := hc; clear hc
  have HS : Hid _ := hsm.2
  have HQ : Hid _ := hsq
  have HQ2 : Hid _ := hsq.2
  have hz := hsm.1
  clear hsm hsq
  have K2 : Hid (∀ w', Below w.heap.size w w' → ParsAt w' v2 qs) := fun w' hb => h2.below hb
  obtain ⟨a2, k2, rfl⟩ := h2.form
  clear h2
  obtain ⟨b, hb0⟩ : ∃ b, ps.all (okM qs) = b := ⟨_, rfl⟩
  rw [hb0]
  have HB : Hid _ := hb0; clear hb0
  obtain ⟨n, hn⟩ : ∃ n, n = ps.length := ⟨_, rfl⟩
  rw [← hn] at hz ⊢
  have HN : Hid _ := hn; clear hn
  have hgm := guardMark
  go_enter Tryd.func26, Tryd.ntmps26
  go_wp2
  go_loopw [11] (fun i wr => ∃ k : Nat, k ≤ n ∧ i = .int .i64 k ∧ Below w.heap.size w wr ∧ Hid ((ps.take k).all (okM qs) = true)) (fun i _ => n - (intOf i).toNat)
  case atStart => exact ⟨0, by omega, rfl, Below.refl _ _, rfl⟩
  case round =>
    obtain ⟨k, hk, rfl, hb, hal⟩ := hrel
    by_cases hlt : k < n
    · have hkl : k < ps.length := by have := HN.out; omega
      obtain ⟨hab, hpa⟩ := HC.out k hkl
      obtain ⟨c0, c1, c2⟩ := hpa.below hb hab
      have hss := HS.out ps[k] (List.getElem_mem hkl)
      have hs1 : Hid (okM qs ps[k] = true → (ps.take (k + 1)).all (okM qs) = true) := fun h => all_snoc hkl hal.out h
      have hs2 : Hid (okM qs ps[k] = false → b = false) := fun h => by rw [← HB.out, all_bad hkl h]
      generalize ps[k] = p at c0 c1 c2 hss hs1 hs2
      obtain ⟨pn, pv, ph⟩ := p
      simp only at c0 c1 c2 hss
      clear hpa hal hab
      have hB := hb.size
      cases hf : findV qs pn with
      | none =>
        have K3 : Hid _ := fun (w' : World) (h : Below w.heap.size w w') => find_none hf (.slice a2 qs.length k2) w' hss.1 HQ.out (K2.out w' h)
        have hbad : Hid (b = false) := hs2.out (by simp [okM, hf])
        clear hf hs1 hs2
        go_wp2_with fail
        refine (K3.out _ (hb.alloc hB _)).mono ?_
        rintro e w2 ⟨rfl, hw2⟩
        have hb2 := box_below hb hB hw2
        clear hw2 c0 c1 c2 K3
        have hacc := (hb2.alloc hb2.size (.cells #[.string ⟨#[]⟩, .string ⟨#[]⟩, .bool false] 42)).drew
        go_wp2
        go_region_law (fail)
        all_goals (
          go_wp2
          go_ret
          exact ⟨ret_bool hbad.out.symm, hacc⟩)
      | some q =>
        obtain ⟨qn, qv, qh⟩ := q
        have hqm := find_mem hf
        have hqs := HQ2.out _ hqm.1
        have hnn : (lowL pn == lowL qn) = true := by have := hqm.2; unfold sameB at this; simpa using (by simpa using this : lowL qn = lowL pn).symm
        simp only at hqs
        clear hqm
        have K3 : Hid _ := fun (w' : World) (h : Below w.heap.size w w') => find_some hf (.slice a2 qs.length k2) w' hss.1 HQ.out (K2.out w' h)
        have hokv : Hid (okM qs ⟨pn, pv, ph⟩ = (pv == qv && ph == qh)) := okM_some (p := ⟨pn, pv, ph⟩) hf
        have hcmp0 := fun u => neqMark_is (lowL pn) pv (lowL qn) qv ph qh u
        rw [hnn, Bool.true_and] at hcmp0
        clear hf hnn
        cases hm : (pv == qv && ph == qh) with
        | true =>
          have hgo : Hid ((ps.take (k + 1)).all (okM qs) = true) := hs1.out (hokv.out.trans hm)
          rw [hm] at hcmp0
          have hcmp : ∀ u, _ := hcmp0
          simp only [Bool.not_true] at hcmp
          clear hs1 hs2 hokv hm hcmp0
          go_wp2_with fail
          refine (K3.out _ (hb.alloc hB _)).mono ?_
          rintro e w2 ⟨rfl, hw2⟩
          have hl1 := Nat.lt_of_lt_of_le (alloc_lt _ _) hw2.size
          have hbx1 := (boxP_new _ ⟨pn, pv, ph⟩ _).below hw2 (alloc_lt _ _)
          have hb2 := box_below hb hB hw2
          have hbx : Hid (BoxP (w2.alloc (.cells #[.string ⟨qn.toArray⟩, .string ⟨qv.toArray⟩, .bool qh] 42)).drew _ ⟨pn, pv, ph⟩) := box2 hbx1 hl1
          have hqx : Hid (BoxP (w2.alloc (.cells #[.string ⟨qn.toArray⟩, .string ⟨qv.toArray⟩, .bool qh] 42)).drew w2.heap.size ⟨qn, qv, qh⟩) := boxP_new w2 ⟨qn, qv, qh⟩ 42
          have hacc : Below w.heap.size w (w2.alloc (.cells #[.string ⟨qn.toArray⟩, .string ⟨qv.toArray⟩, .bool qh] 42)).drew := (hb2.alloc hb2.size _).drew
          have hlq : w2.heap.size < (w2.alloc (.cells #[.string ⟨qn.toArray⟩, .string ⟨qv.toArray⟩, .bool qh] 42)).drew.heap.size := alloc_lt w2 _
          have hlp := Nat.lt_trans hl1 hlq
          clear hw2 hb2 hbx1 hl1 c0 c1 c2 K3
          obtain ⟨x0, x1, x2⟩ := hbx.out
          obtain ⟨y0, y1, y2⟩ := hqx.out
          simp only at x0 x1 x2 y0 y1 y2
          go_wp2
          go_region_law (go_simp; go_at_call 45; refine (headerMark_any _ _ _ _ (by omega)).mono ?_; rintro e w3 ⟨rfl, hw3⟩; replace hbx : Hid _ := BoxP.below hbx.out hw3 hlp; replace hqx : Hid _ := BoxP.below hqx.out hw3 hlq; replace hacc := hacc.trans (hw3.mono hacc.size); replace hlp := Nat.lt_of_lt_of_le hlp hw3.size; replace hlq := Nat.lt_of_lt_of_le hlq hw3.size; obtain ⟨x0, x1, x2⟩ := hbx.out; obtain ⟨y0, y1, y2⟩ := hqx.out; clear hw3)
          all_goals (
            go_wp2
            go_roundw
            case rel => exact ⟨k + 1, by omega, by go_num, hacc, hgo⟩
            case measure => simp [intOf]; omega)
        | false =>
          have hbad : Hid (b = false) := hs2.out (hokv.out.trans hm)
          rw [hm] at hcmp0
          have hcmp : ∀ u, _ := hcmp0
          simp only [Bool.not_false] at hcmp
          clear hs1 hs2 hokv hm hcmp0
          go_wp2_with fail
          refine (K3.out _ (hb.alloc hB _)).mono ?_
          rintro e w2 ⟨rfl, hw2⟩
          have hl1 := Nat.lt_of_lt_of_le (alloc_lt _ _) hw2.size
          have hbx1 := (boxP_new _ ⟨pn, pv, ph⟩ _).below hw2 (alloc_lt _ _)
          have hb2 := box_below hb hB hw2
          have hbx : Hid (BoxP (w2.alloc (.cells #[.string ⟨qn.toArray⟩, .string ⟨qv.toArray⟩, .bool qh] 42)).drew _ ⟨pn, pv, ph⟩) := box2 hbx1 hl1
          have hqx : Hid (BoxP (w2.alloc (.cells #[.string ⟨qn.toArray⟩, .string ⟨qv.toArray⟩, .bool qh] 42)).drew w2.heap.size ⟨qn, qv, qh⟩) := boxP_new w2 ⟨qn, qv, qh⟩ 42
          have hacc : Below w.heap.size w (w2.alloc (.cells #[.string ⟨qn.toArray⟩, .string ⟨qv.toArray⟩, .bool qh] 42)).drew := (hb2.alloc hb2.size _).drew
          have hlq : w2.heap.size < (w2.alloc (.cells #[.string ⟨qn.toArray⟩, .string ⟨qv.toArray⟩, .bool qh] 42)).drew.heap.size := alloc_lt w2 _
          have hlp := Nat.lt_trans hl1 hlq
          clear hw2 hb2 hbx1 hl1 c0 c1 c2 K3
          obtain ⟨x0, x1, x2⟩ := hbx.out
          obtain ⟨y0, y1, y2⟩ := hqx.out
          simp only at x0 x1 x2 y0 y1 y2
          go_wp2
          go_region_law (go_simp; go_at_call 45; refine (headerMark_any _ _ _ _ (by omega)).mono ?_; rintro e w3 ⟨rfl, hw3⟩; replace hbx : Hid _ := BoxP.below hbx.out hw3 hlp; replace hqx : Hid _ := BoxP.below hqx.out hw3 hlq; replace hacc := hacc.trans (hw3.mono hacc.size); replace hlp := Nat.lt_of_lt_of_le hlp hw3.size; replace hlq := Nat.lt_of_lt_of_le hlq hw3.size; obtain ⟨x0, x1, x2⟩ := hbx.out; obtain ⟨y0, y1, y2⟩ := hqx.out; clear hw3)
          all_goals (
            go_wp2
            go_ret
            exact ⟨ret_bool hbad.out.symm, hacc⟩)
    · have hall : Hid (b = true) := show _ = _ by
        have := hal.out
        rw [List.take_of_length_le (by have := HN.out; omega)] at this
        rw [← HB.out, this]
      clear hal
      go_wp2
      go_ret
      exact ⟨ret_bool hall.out.symm, hb⟩
set_option maxHeartbeats 400000 in
theorem metHeaders_nil (a : Option Addr) (cap : Nat) (v2 : Value) (w : World) :
    Calls Tryd.prog 26 #[.slice a 0 cap, v2] w fun e w' => e = .returned (.bool true) ∧ Below w.heap.size w w' := by
  go_enter Tryd.func26, Tryd.ntmps26
  go_wp2
  go_loop [11] (fun i => i = .int .i64 0) (fun i => 0)
  case atStart => rfl
  case round =>
    subst hrel
    go_wp2
    go_ret
    exact ⟨rfl, Below.refl _ _⟩
theorem metHeaders_any (v1 v2 : Value) (ps qs : List Par) (w : World) (hsm : SmallP 140737488355328 ps) (hsq : SmallP 140737488355328 qs) (h1 : ParsAt w v1 ps) (h2 : ParsAt w v2 qs) :
    Calls Tryd.prog 26 #[v1, v2] w fun e w' => e = .returned (.bool (ps.all (okM qs))) ∧ Below w.heap.size w w' := by
  rcases h1 with ⟨rfl, rfl⟩ | ⟨a, cap, rfl, hc⟩
  · exact metHeaders_nil none 0 v2 w
  · exact metHeaders_row a cap v2 ps qs w hsm hsq hc h2

end Go.Proofs.YtnkghefcoolkoaaDoor

/-
  The document's own functions of layer 4: Place, Value, grave.
-/
namespace Go.Proofs.YtnkghefcoolkoaaDoor
open Go.RowKit Sc
set_option linter.unusedVariables false
set_option maxRecDepth 20000

theorem hid {p : Prop} (h : p) : Hid p := h

set_option maxHeartbeats 1000000 in
set_option maxRecDepth 100000 in
theorem place_row (a : Addr) (cap : Nat) (ps : List Par) (nm : List UInt8) (w : World) (hnm : nm.length ≤ 140737488355328) (hsm : SmallP 140737488355328 ps) (hc : ∀ k (hk : k < ps.length), a.block < w.heap.size ∧ ParAt w a k ps[k]) :
    Calls Tryd.prog 24 #[.slice (some a) ps.length cap, .string ⟨nm.toArray⟩] w fun e w' => (∃ r : Int, e = .returned (.int .i64 r) ∧ ((r = -1 ∧ findV ps nm = none) ∨ ∃ (k : Nat) (hk : k < ps.length), r = k ∧ findV ps nm = some ps[k])) ∧ Below w.heap.size w w' := by
  have HC : Hid _ := hc; clear hc
  have HS : Hid _ := hsm.2
  have hz := hsm.1
  clear hsm
  obtain ⟨n, hn⟩ : ∃ n, n = ps.length := ⟨_, rfl⟩
  have HG : Hid (∀ r : Int, ((r = -1 ∧ findV ps nm = none) ∨ ∃ (k : Nat) (hk : k < ps.length), r = k ∧ findV ps nm = some ps[k]) → (∃ r' : Int, Ending.returned (.int .i64 r) = .returned (.int .i64 r') ∧ ((r' = -1 ∧ findV ps nm = none) ∨ ∃ (k : Nat) (hk : k < ps.length), r' = k ∧ findV ps nm = some ps[k]))) := fun r h => ⟨r, rfl, h⟩
  rw [← hn] at hz
  rw [show Value.slice (some a) ps.length cap = .slice (some a) n cap by rw [hn]]
  have HN : Hid _ := hn; clear hn
  go_enter Tryd.func24, Tryd.ntmps24
  go_wp2
  go_loopw [5] (fun i wr => ∃ k : Nat, k ≤ n ∧ i = .int .i64 k ∧ Below w.heap.size w wr ∧ Hid (findV (ps.take k) nm = none)) (fun i _ => n - (intOf i).toNat)
  case atStart => exact ⟨0, by omega, rfl, Below.refl _ _, rfl⟩
  case round =>
    obtain ⟨k, hk, rfl, hb, hfn⟩ := hrel
    by_cases hlt : k < n
    · have hkl : k < ps.length := by have := HN.out; omega
      obtain ⟨hab, hpa⟩ := HC.out k hkl
      obtain ⟨c0, c1, c2⟩ := hpa.below hb hab
      have hss := HS.out ps[k] (List.getElem_mem hkl)
      have hs1 : sameB ps[k].name nm = true → Hid (findV ps nm = some ps[k]) := fun h => find_hit hkl hfn.out h
      have hs2 : sameB ps[k].name nm = false → Hid (findV (ps.take (k + 1)) nm = none) := fun h => find_snoc hkl hfn.out h
      have HE : Hid (∀ p, p = ps[k] → findV ps nm = some p → findV ps nm = some ps[k]) := fun p e h => by rw [← e]; exact h
      clear hpa hfn hab
      have hB := hb.size
      cases hsb : sameB ps[k].name nm with
      | true =>
        have hv := hs1 hsb
        clear hs1 hs2
        go_wp2_with fail
        refine (refsame_list ps[k].name nm _ hss.1 hnm).mono ?_
        rintro e w2 ⟨rfl, hw2⟩
        rw [hsb]
        have hb2 := hb.trans (hw2.mono hB)
        clear hw2 c0 c1 c2
        go_wp2
        go_ret
        exact ⟨HG.out _ (Or.inr ⟨k, hkl, rfl, hv.out⟩), hb2⟩
      | false =>
        have hv := hs2 hsb
        clear hs1 hs2
        go_wp2_with fail
        refine (refsame_list ps[k].name nm _ hss.1 hnm).mono ?_
        rintro e w2 ⟨rfl, hw2⟩
        rw [hsb]
        have hb2 := hb.trans (hw2.mono hB)
        clear hw2 c0 c1 c2
        go_wp2
        go_roundw
        case rel => exact ⟨k + 1, by omega, by go_num, hb2, hv⟩
        case measure => simp [intOf]; omega
    · have hv : Hid (findV ps nm = none) := show _ = _ by
        have := hfn.out
        rwa [List.take_of_length_le (by have := HN.out; omega)] at this
      clear hfn
      go_wp2
      go_ret
      exact ⟨HG.out _ (Or.inl ⟨rfl, hv.out⟩), hb⟩
set_option maxHeartbeats 400000 in
theorem place_nil (a : Option Addr) (cap : Nat) (nm : List UInt8) (w : World) :
    Calls Tryd.prog 24 #[.slice a 0 cap, .string ⟨nm.toArray⟩] w fun e w' => e = .returned (.int .i64 (-1)) ∧ Below w.heap.size w w' := by
  go_enter Tryd.func24, Tryd.ntmps24
  go_wp2
  go_loop [5] (fun i => i = .int .i64 0) (fun i => 0)
  case atStart => rfl
  case round =>
    subst hrel
    go_wp2
    go_ret
    exact ⟨rfl, Below.refl _ _⟩
theorem place_any (v : Value) (ps : List Par) (nm : List UInt8) (w : World) (hnm : nm.length ≤ 140737488355328) (hsm : SmallP 140737488355328 ps) (h : ParsAt w v ps) :
    Calls Tryd.prog 24 #[v, .string ⟨nm.toArray⟩] w fun e w' => (∃ r : Int, e = .returned (.int .i64 r) ∧ ((r = -1 ∧ findV ps nm = none) ∨ ∃ (k : Nat) (hk : k < ps.length), r = k ∧ findV ps nm = some ps[k])) ∧ Below w.heap.size w w' := by
  rcases h with ⟨rfl, rfl⟩ | ⟨a, cap, rfl, hc⟩
  · refine (place_nil none 0 nm w).mono ?_
    rintro e w' ⟨rfl, hb⟩
    exact ⟨⟨-1, rfl, Or.inl ⟨rfl, rfl⟩⟩, hb⟩
  · exact place_row a cap ps nm w hnm hsm hc
/-- With nothing there. -/
theorem place_none {ps : List Par} {nm : List UInt8} (hf : findV ps nm = none) (v : Value) (w : World) (hnm : nm.length ≤ 140737488355328) (hsm : SmallP 140737488355328 ps) (h : ParsAt w v ps) :
    Calls Tryd.prog 24 #[v, .string ⟨nm.toArray⟩] w fun e w' => e = .returned (.int .i64 (-1)) ∧ Below w.heap.size w w' := by
  refine (place_any v ps nm w hnm hsm h).mono ?_
  rintro e w' ⟨⟨r, rfl, ⟨rfl, _⟩ | ⟨k, hk, _, h2⟩⟩, hb⟩
  · exact ⟨rfl, hb⟩
  · rw [hf] at h2; cases h2
/-- With something there: its place, and where that lies. -/
theorem place_some {ps : List Par} {nm : List UInt8} {q : Par} (hf : findV ps nm = some q) (v : Value) (w : World) (hnm : nm.length ≤ 140737488355328) (hsm : SmallP 140737488355328 ps) (h : ParsAt w v ps) :
    Calls Tryd.prog 24 #[v, .string ⟨nm.toArray⟩] w fun e w' => (∃ (k : Nat) (a : Addr) (cap : Nat), e = .returned (.int .i64 k) ∧ k < ps.length ∧ v = .slice (some a) ps.length cap ∧ a.block < w.heap.size ∧ ParAt w a k q) ∧ Below w.heap.size w w' := by
  refine (place_any v ps nm w hnm hsm h).mono ?_
  rintro e w' ⟨⟨r, rfl, ⟨rfl, h2⟩ | ⟨k, hk, rfl, h2⟩⟩, hb⟩
  · rw [hf] at h2; cases h2
  · rcases h with ⟨rfl, rfl⟩ | ⟨a, cap, rfl, hc⟩
    · simp at hk
    · rw [hf, Option.some.injEq] at h2
      subst h2
      exact ⟨⟨k, a, cap, rfl, hk, rfl, (hc k hk).1, (hc k hk).2⟩, hb⟩

set_option maxHeartbeats 400000 in
theorem grave_any (nm : List UInt8) (w : World) (hnm : nm.length ≤ 140737488355328) :
    Calls Tryd.prog 49 #[.string ⟨nm.toArray⟩] w fun e w' => e = .returned (.bool (graveB nm)) ∧ Below w.heap.size w w' := by
  obtain ⟨g, hg⟩ : ∃ g, graveB nm = g := ⟨_, rfl⟩
  have hgv := hg
  unfold graveB at hgv
  rw [hg]
  clear hg
  go_enter Tryd.func49, Tryd.ntmps49
  go_wp2_with fail
  refine (reflower_txt ⟨nm.toArray⟩ _ (by simpa [ByteArray.size] using hnm)).mono ?_
  rintro e w1 ⟨rfl, hw1⟩
  simp only
  generalize lowL nm = l at hgv ⊢
  cases h1 : (l == [117, 115, 101, 114]) with
  | true =>
    have HG : Hid (true = g) := show _ = _ by rw [← hgv, h1]; rfl
    clear hgv
    go_wp2
    go_ret
    exact ⟨ret_bool HG.out, hw1⟩
  | false =>
    cases h2 : (l == [116, 116, 108]) with
    | true =>
      have HG : Hid (true = g) := show _ = _ by rw [← hgv, h1, h2]; rfl
      clear hgv
      go_wp2
      go_ret
      exact ⟨ret_bool HG.out, hw1⟩
    | false =>
      cases h3 : (l == [109, 101, 116, 104, 111, 100]) with
      | true =>
        have HG : Hid (true = g) := show _ = _ by rw [← hgv, h1, h2, h3]; rfl
        clear hgv
        go_wp2
        go_ret
        exact ⟨ret_bool HG.out, hw1⟩
      | false =>
        cases h4 : (l == [109, 97, 100, 100, 114]) with
        | true =>
          have HG : Hid (true = g) := show _ = _ by rw [← hgv, h1, h2, h3, h4]; rfl
          clear hgv
          go_wp2
          go_ret
          exact ⟨ret_bool HG.out, hw1⟩
        | false =>
          have HG : Hid (false = g) := show _ = _ by rw [← hgv, h1, h2, h3, h4]; rfl
          clear hgv
          go_wp2
          go_ret
          exact ⟨ret_bool HG.out, hw1⟩

/-- What Value answers. -/
def valV (ps : List Par) (nm : List UInt8) : List UInt8 × Bool := match findV ps nm with | some p => (p.value, true) | none => ([], false)
theorem ret_val {ps : List Par} {nm t : List UInt8} {b : Bool} (h : valV ps nm = (t, b)) : Ending.returned (.tuple #[.string ⟨t.toArray⟩, .bool b]) = .returned (.tuple #[.string ⟨(valV ps nm).1.toArray⟩, .bool (valV ps nm).2]) := by rw [h]
set_option maxHeartbeats 1000000 in
theorem refvalue_any (v : Value) (ps : List Par) (nm : List UInt8) (w : World) (hnm : nm.length ≤ 140737488355328) (hsm : SmallP 140737488355328 ps) (h : ParsAt w v ps) :
    Calls Tryd.prog 11 #[v, .string ⟨nm.toArray⟩] w fun e w' => e = .returned (.tuple #[.string ⟨(valV ps nm).1.toArray⟩, .bool (valV ps nm).2]) ∧ Below w.heap.size w w' := by
  have hl := hsm.1
  cases hf : findV ps nm with
  | none =>
    have HV : Hid (valV ps nm = ([], false)) := show _ = _ by rw [valV, hf]
    have K := hid (place_none hf v w hnm hsm h)
    clear hf h hsm
    go_enter Tryd.func11, Tryd.ntmps11
    go_wp2_with fail
    refine K.out.mono ?_
    rintro e w1 ⟨rfl, hw1⟩
    go_wp2
    go_ret2
    exact ⟨ret_val HV.out, hw1⟩
  | some q =>
    have HV : Hid (valV ps nm = (q.value, true)) := show _ = _ by rw [valV, hf]
    have K := hid (place_some hf v w hnm hsm h)
    clear hf h hsm
    go_enter Tryd.func11, Tryd.ntmps11
    go_wp2_with fail
    refine K.out.mono ?_
    rintro e w1 ⟨⟨k, a, cap, rfl, hk, rfl, hab, hpa⟩, hw1⟩
    obtain ⟨c0, c1, c2⟩ := hpa.below hw1 hab
    clear hpa hab K
    go_wp2
    go_ret2
    exact ⟨ret_val HV.out, hw1⟩
set_option maxHeartbeats 1000000 in
theorem value_any (v : Value) (ps : List Par) (nm : List UInt8) (w : World) (hnm : nm.length ≤ 140737488355328) (hsm : SmallP 140737488355328 ps) (h : ParsAt w v ps) :
    Calls Tryd.prog 10 #[v, .string ⟨nm.toArray⟩] w fun e w' => e = .returned (.tuple #[.string ⟨(valV ps nm).1.toArray⟩, .bool (valV ps nm).2]) ∧ Below w.heap.size w w' := by
  have HV : Hid (valV ps nm = ((findR ps nm).1.value, (findR ps nm).2)) := show _ = _ by unfold valV findR; cases findV ps nm <;> rfl
  have hsz : (findR ps nm).1.value.length ≤ 281474976710656 := by
    unfold findR
    cases hf : findV ps nm with
    | none => simp [noP]
    | some q => have hm := hsm.2 q (by unfold findV at hf; exact List.mem_of_find?_eq_some hf); simp only; omega
  have K := hid (find_any v ps nm w hnm hsm h)
  generalize findR ps nm = r at HV hsz K
  obtain ⟨⟨qn, qv, qh⟩, b⟩ := r
  unfold parV at K
  simp only at HV hsz K
  obtain ⟨a, cap, rfl⟩ := h.form
  clear h hsm
  go_enter Tryd.func10, Tryd.ntmps10
  go_wp2_with fail
  refine K.out.mono ?_
  rintro e w1 ⟨rfl, hw1⟩
  have hx := boxP_new w1 ⟨qn, qv, qh⟩ 42
  obtain ⟨x0, x1, x2⟩ := hx
  simp only at x0 x1 x2
  have hb1 := hw1.alloc hw1.size (.cells #[.string ⟨qn.toArray⟩, .string ⟨qv.toArray⟩, .bool qh] 42)
  go_wp2_with fail
  refine (sclone_any ⟨qv.toArray⟩ _ (by simpa [ByteArray.size] using hsz)).mono ?_
  rintro e w2 ⟨rfl, hw2⟩
  have hb2 := hb1.trans (hw2.mono hb1.size)
  go_wp2
  go_ret2
  exact ⟨ret_val HV.out, hb2⟩

end Go.Proofs.YtnkghefcoolkoaaDoor

/-
  Contracts of package same: Equal.
-/
namespace Go.Proofs.YtnkghefcoolkoaaDoor
open Go.RowKit Sc
set_option linter.unusedVariables false
set_option maxRecDepth 20000
set_option linter.unusedSimpArgs false

theorem okM_okH {ps qs : List Par} (h1 : ps.all (·.has) = true) (h2 : qs.all (·.has) = true) : ps.all (okM qs) = ps.all (okH qs) := by
  rw [List.all_eq_true] at h1 h2
  rw [Bool.eq_iff_iff, List.all_eq_true, List.all_eq_true]
  have e : ∀ p ∈ ps, okM qs p = okH qs p := fun p hp => by
    unfold okM okH
    cases hf : findV qs p.name with
    | none => rfl
    | some q => simp [h1 p hp, h2 q (find_mem hf).1]
  constructor
  · intro h p hp; rw [← e p hp]; exact h p hp
  · intro h p hp; rw [e p hp]; exact h p hp
theorem equal_code {u v : Uri} (h1 : checkV u = 0) (h2 : checkV v = 0) (hp : partsB u v = true) : equalV u v = (u.params.all (okP v.params) && (v.params.all (okP u.params) && (u.headers.all (okM v.headers) && v.headers.all (okM u.headers)))) := by
  obtain ⟨_, _, _, _, _, _, _, k1⟩ := check_ok h1
  obtain ⟨_, _, _, _, _, _, _, k2⟩ := check_ok h2
  rw [okM_okH k1 k2, okM_okH k2 k1, equalV, decide_eq_true h1, decide_eq_true h2, hp]
  cases u.params.all (okP v.params) <;> cases u.headers.all (okH v.headers) <;> cases v.params.all (okP u.params) <;> cases v.headers.all (okH u.headers) <;> rfl

/-- Two URIs in their blocks, and what came in untouched. -/
structure Two (w0 w : World) (u v : Uri) (p h p' h' : Value) : Prop where
  below : Below w0.heap.size w0 w
  lt : w0.heap.size + 1 < w.heap.size
  b1 : BoxU w w0.heap.size u p h
  b2 : BoxU w (w0.heap.size + 1) v p' h'
theorem Two.step {w0 w w' : World} {u v : Uri} {p h p' h' : Value} (t : Two w0 w u v p h p' h') (hb : Below w.heap.size w w') : Two w0 w' u v p h p' h' :=
  ⟨t.below.trans (hb.mono t.below.size), Nat.lt_of_lt_of_le t.lt hb.size, t.b1.below hb (Nat.lt_trans (Nat.lt_succ_self _) t.lt), t.b2.below hb t.lt⟩
theorem Two.drew {w0 w : World} {u v : Uri} {p h p' h' : Value} (t : Two w0 w u v p h p' h') : Two w0 w.drew u v p h p' h' := ⟨t.below.drew, t.lt, t.b1, t.b2⟩
theorem two_new (w : World) (u v : Uri) (p h p' h' : Value) :
    Two w ((w.alloc (.cells #[.string ⟨u.scheme.toArray⟩, .string ⟨u.user.toArray⟩, .string ⟨u.host.toArray⟩, .int .i64 u.port, p, h] 24)).alloc (.cells #[.string ⟨v.scheme.toArray⟩, .string ⟨v.user.toArray⟩, .string ⟨v.host.toArray⟩, .int .i64 v.port, p', h'] 24)) u v p h p' h' := by
  refine ⟨((Below.refl _ w).alloc (Nat.le_refl _) _).alloc (by simp) _, by simp, ?_, ?_⟩
  · exact (box_new w u p h).below ((Below.refl _ _).alloc (Nat.le_refl _) _) (alloc_lt w _)
  · have hq := box_new (w.alloc (.cells #[.string ⟨u.scheme.toArray⟩, .string ⟨u.user.toArray⟩, .string ⟨u.host.toArray⟩, .int .i64 u.port, p, h] 24)) v p' h'
    have e : (w.alloc (.cells #[.string ⟨u.scheme.toArray⟩, .string ⟨u.user.toArray⟩, .string ⟨u.host.toArray⟩, .int .i64 u.port, p, h] 24)).heap.size = w.heap.size + 1 := by simp
    rw [e] at hq; exact hq

set_option maxHeartbeats 2000000 in
set_option maxRecDepth 100000 in
theorem equal_any (u v : Uri) (p h p' h' : Value) (w : World) (hsu : SmallU 140737488355328 u) (hsv : SmallU 140737488355328 v) (h1 : ParsAt w p u.params) (h2 : ParsAt w h u.headers) (h3 : ParsAt w p' v.params) (h4 : ParsAt w h' v.headers) :
    Calls Tryd.prog 12 #[uriV u p h, uriV v p' h'] w fun e w' => e = .returned (.bool (equalV u v)) ∧ Below w.heap.size w w' := by
  have T := hid (two_new w u v p h p' h')
  have KC1 := hid (fun w' (hb : Below w.heap.size w w') => check_any u p h w' hsu (h1.below hb) (h2.below hb))
  have KC2 := hid (fun w' (hb : Below w.heap.size w w') => check_any v p' h' w' hsv (h3.below hb) (h4.below hb))
  have KP1 := hid (fun w' (hb : Below w.heap.size w w') => metParams_any p p' u.params v.params w' hsu.2.2.2.1 hsv.2.2.2.1 (h1.below hb) (h3.below hb))
  have KP2 := hid (fun w' (hb : Below w.heap.size w w') => metParams_any p' p v.params u.params w' hsv.2.2.2.1 hsu.2.2.2.1 (h3.below hb) (h1.below hb))
  have KH1 := hid (fun w' (hb : Below w.heap.size w w') => metHeaders_any h h' u.headers v.headers w' hsu.2.2.2.2 hsv.2.2.2.2 (h2.below hb) (h4.below hb))
  have KH2 := hid (fun w' (hb : Below w.heap.size w w') => metHeaders_any h' h v.headers u.headers w' hsv.2.2.2.2 hsu.2.2.2.2 (h4.below hb) (h2.below hb))
  have hnz : ¬ checkV u = 0 → equalV u v = false := fun h => by rw [equalV, decide_eq_false h]; rfl
  have hnz2 : ¬ checkV v = 0 → equalV u v = false := fun h => by rw [equalV, decide_eq_false h]; simp
  have hpz : partsB u v = false → equalV u v = false := fun h => by rw [equalV, h]; simp
  have hok := @equal_code u v
  generalize equalV u v = r at hnz hnz2 hpz hok ⊢
  generalize u.params.all (okP v.params) = b1 at KP1 hok
  generalize v.params.all (okP u.params) = b2 at KP2 hok
  generalize u.headers.all (okM v.headers) = b3 at KH1 hok
  generalize v.headers.all (okM u.headers) = b4 at KH2 hok
  obtain ⟨n1, hn1⟩ : ∃ n, checkV u = n := ⟨_, rfl⟩
  obtain ⟨n2, hn2⟩ : ∃ n, checkV v = n := ⟨_, rfl⟩
  rw [hn1] at KC1 hnz hok
  rw [hn2] at KC2 hnz2 hok
  clear hn1 hn2
  obtain ⟨a1, c1, rfl⟩ := h1.form
  obtain ⟨a2, c2, rfl⟩ := h2.form
  obtain ⟨a3, c3, rfl⟩ := h3.form
  obtain ⟨a4, c4, rfl⟩ := h4.form
  obtain ⟨s, us, ho, po, ps, hs⟩ := u
  obtain ⟨s', us', ho', po', ps', hs'⟩ := v
  unfold uriV at KC1 KC2 ⊢
  simp only at KC1 KC2 T KP1 KP2 KH1 KH2 ⊢
  simp only [partsB] at hpz hok
  clear h1 h2 h3 h4 hsu hsv
  obtain ⟨g0, g1, g2, g3, g4, g5⟩ := T.out.b1
  obtain ⟨k0, k1, k2, k3, k4, k5⟩ := T.out.b2
  simp only at g0 g1 g2 g3 g4 g5 k0 k1 k2 k3 k4 k5
  by_cases e1 : n1 = 0
  · subst e1
    by_cases e2 : n2 = 0
    · subst e2
      clear hnz hnz2
      go_enter Tryd.func12, Tryd.ntmps12
      go_wp2_with fail
      refine (KC1.out _ T.out.below).mono ?_
      rintro e w1 ⟨rfl, hw⟩
      replace T := hid (T.out.step hw)
      clear hw g0 g1 g2 g3 g4 g5 k0 k1 k2 k3 k4 k5
      obtain ⟨g0, g1, g2, g3, g4, g5⟩ := T.out.b1
      obtain ⟨k0, k1, k2, k3, k4, k5⟩ := T.out.b2
      go_wp2_with fail
      refine (KC2.out _ T.out.below).mono ?_
      rintro e w2 ⟨rfl, hw⟩
      replace T := hid (T.out.step hw)
      clear hw g0 g1 g2 g3 g4 g5 k0 k1 k2 k3 k4 k5
      obtain ⟨g0, g1, g2, g3, g4, g5⟩ := T.out.b1
      obtain ⟨k0, k1, k2, k3, k4, k5⟩ := T.out.b2
      simp only at g0 g1 g2 g3 g4 g5 k0 k1 k2 k3 k4 k5
      by_cases f1 : s = s'
      · by_cases f2 : us = us'
        · by_cases f3 : ho = ho'
          · by_cases f4 : po = po'
            · subst f1 f2 f3 f4
              have HR := hid (hok (by simp) (by simp) (by simp))
              clear hok hpz
              go_wp2_with fail
              refine (KP1.out _ T.out.below).mono ?_
              rintro e w3 ⟨rfl, hw⟩
              replace T := hid (T.out.step hw)
              clear hw g0 g1 g2 g3 g4 g5 k0 k1 k2 k3 k4 k5
              obtain ⟨g0, g1, g2, g3, g4, g5⟩ := T.out.b1
              obtain ⟨k0, k1, k2, k3, k4, k5⟩ := T.out.b2
              simp only at g0 g1 g2 g3 g4 g5 k0 k1 k2 k3 k4 k5
              cases b1 with
              | false =>
                have HR2 := hid (HR.out)
                clear HR
                try simp only [Bool.false_and, Bool.and_false, Bool.true_and] at HR2
                go_wp2
                go_ret
                exact ⟨ret_bool HR2.out.symm, T.out.below⟩
              | true =>
                go_wp2_with fail
                refine (KP2.out _ T.out.below).mono ?_
                rintro e w4 ⟨rfl, hw⟩
                replace T := hid (T.out.step hw)
                clear hw g0 g1 g2 g3 g4 g5 k0 k1 k2 k3 k4 k5
                obtain ⟨g0, g1, g2, g3, g4, g5⟩ := T.out.b1
                obtain ⟨k0, k1, k2, k3, k4, k5⟩ := T.out.b2
                simp only at g0 g1 g2 g3 g4 g5 k0 k1 k2 k3 k4 k5
                cases b2 with
                | false =>
                  have HR2 := hid (HR.out)
                  clear HR
                  try simp only [Bool.false_and, Bool.and_false, Bool.true_and] at HR2
                  go_wp2
                  go_ret
                  exact ⟨ret_bool HR2.out.symm, T.out.below⟩
                | true =>
                  go_wp2_with fail
                  refine (KH1.out _ T.out.below).mono ?_
                  rintro e w5 ⟨rfl, hw⟩
                  replace T := hid (T.out.step hw)
                  clear hw g0 g1 g2 g3 g4 g5 k0 k1 k2 k3 k4 k5
                  obtain ⟨g0, g1, g2, g3, g4, g5⟩ := T.out.b1
                  obtain ⟨k0, k1, k2, k3, k4, k5⟩ := T.out.b2
                  simp only at g0 g1 g2 g3 g4 g5 k0 k1 k2 k3 k4 k5
                  cases b3 with
                  | false =>
                    have HR2 := hid (HR.out)
                    clear HR
                    try simp only [Bool.false_and, Bool.and_false, Bool.true_and] at HR2
                    go_wp2
                    go_ret
                    exact ⟨ret_bool HR2.out.symm, T.out.below⟩
                  | true =>
                    go_wp2_with fail
                    refine (KH2.out _ T.out.below).mono ?_
                    rintro e w6 ⟨rfl, hw⟩
                    replace T := hid (T.out.step hw)
                    clear hw g0 g1 g2 g3 g4 g5 k0 k1 k2 k3 k4 k5
                    obtain ⟨g0, g1, g2, g3, g4, g5⟩ := T.out.b1
                    obtain ⟨k0, k1, k2, k3, k4, k5⟩ := T.out.b2
                    simp only at g0 g1 g2 g3 g4 g5 k0 k1 k2 k3 k4 k5
                    cases b4 with
                    | false =>
                      have HR2 := hid (HR.out)
                      clear HR
                      try simp only [Bool.false_and, Bool.and_false, Bool.true_and] at HR2
                      go_wp2
                      go_ret
                      exact ⟨ret_bool HR2.out.symm, T.out.below⟩
                    | true =>
                      have HR2 := hid (HR.out)
                      clear HR
                      try simp only [Bool.true_and] at HR2
                      go_wp2
                      go_ret
                      exact ⟨ret_bool HR2.out.symm, T.out.below⟩
            · have HR := hid (hpz (by simp [f4]))
              clear hok hpz
              go_wp2
              go_ret
              exact ⟨ret_bool HR.out.symm, T.out.below⟩
          · have HR := hid (hpz (by simp [f3]))
            clear hok hpz
            go_wp2
            go_ret
            exact ⟨ret_bool HR.out.symm, T.out.below⟩
        · have HR := hid (hpz (by simp [f2]))
          clear hok hpz
          go_wp2
          go_ret
          exact ⟨ret_bool HR.out.symm, T.out.below⟩
      · have HR := hid (hpz (by simp [f1]))
        clear hok hpz
        go_wp2
        go_ret
        exact ⟨ret_bool HR.out.symm, T.out.below⟩
    · have HR := hid (hnz2 e2)
      have e2a : (n2 != 0) = true := by simpa using e2
      have e2b : (n2 == 0) = false := by simpa using e2
      clear hok hpz hnz hnz2
      go_enter Tryd.func12, Tryd.ntmps12
      go_wp2_with fail
      refine (KC1.out _ T.out.below).mono ?_
      rintro e w1 ⟨rfl, hw⟩
      replace T := hid (T.out.step hw)
      clear hw g0 g1 g2 g3 g4 g5 k0 k1 k2 k3 k4 k5
      obtain ⟨g0, g1, g2, g3, g4, g5⟩ := T.out.b1
      obtain ⟨k0, k1, k2, k3, k4, k5⟩ := T.out.b2
      go_wp2_with fail
      refine (KC2.out _ T.out.below).mono ?_
      rintro e w2 ⟨rfl, hw⟩
      replace T := hid (T.out.step hw)
      clear hw g0 g1 g2 g3 g4 g5 k0 k1 k2 k3 k4 k5
      obtain ⟨g0, g1, g2, g3, g4, g5⟩ := T.out.b1
      obtain ⟨k0, k1, k2, k3, k4, k5⟩ := T.out.b2
      go_wp2
      go_ret
      exact ⟨ret_bool HR.out.symm, T.out.below⟩
  · have HR := hid (hnz e1)
    have e1a : (n1 != 0) = true := by simpa using e1
    have e1b : (n1 == 0) = false := by simpa using e1
    clear hok hpz hnz hnz2
    go_enter Tryd.func12, Tryd.ntmps12
    go_wp2_with fail
    refine (KC1.out _ T.out.below).mono ?_
    rintro e w1 ⟨rfl, hw⟩
    replace T := hid (T.out.step hw)
    clear hw g0 g1 g2 g3 g4 g5 k0 k1 k2 k3 k4 k5
    obtain ⟨g0, g1, g2, g3, g4, g5⟩ := T.out.b1
    obtain ⟨k0, k1, k2, k3, k4, k5⟩ := T.out.b2
    go_wp2
    go_ret
    exact ⟨ret_bool HR.out.symm, T.out.below⟩

end Go.Proofs.YtnkghefcoolkoaaDoor
