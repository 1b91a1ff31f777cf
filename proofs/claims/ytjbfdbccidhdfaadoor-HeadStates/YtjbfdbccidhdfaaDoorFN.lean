/-
  Base texts, one behind another: UCheck, RefCheck, UMay, SFind, RefPlace.
-/
import Derived.Test.YtjbfdbccidhdfaaDoorFL
import Derived.Test.YtjbfdbccidhdfaaDoorFM
import Derived.Maps.OwnOps
import Derived.Maps.OwnSet
import Derived.Test.YtjbfdbccidhdfaaDoorFG

/-
  Contracts of package uri: fits, mayBe, allHave.
-/
namespace Go.Proofs.YtjbfdbccidhdfaaDoor
open Go.RowKit Sc Go.Maps Go.WideMaps
set_option linter.unusedVariables false
set_option maxRecDepth 20000

/-- What a map of counted names reads as. -/
def Named (D : DataW Unit) (qs : List Par) : Prop := IsMap D ∧ ∀ kl : List UInt8, D.atKey (.string kl) (.lit (.int .i64 0)) = .lit (.int .i64 (if qs.any (fun q => lowL q.name == kl) = true then 1 else 0))
theorem named0 : Named (.map []) [] := ⟨⟨[], rfl⟩, fun kl => rfl⟩
theorem any_apart (qs : List Par) (nm : List UInt8) : qs.any (fun q => lowL q.name == lowL nm) = !apartB qs nm := by
  unfold apartB sameB
  induction qs with
  | nil => rfl
  | cons q qs ih => rw [List.any_cons, List.all_cons, ih]; cases (lowL q.name == lowL nm) <;> rfl
theorem Named.at {D : DataW Unit} {qs : List Par} (h : Named D qs) (nm : List UInt8) : D.atKey (.string (lowL nm)) (.lit (.int .i64 0)) = .lit (.int .i64 (if apartB qs nm = true then 0 else 1)) := by
  rw [h.2, any_apart]
  cases apartB qs nm <;> rfl
theorem Named.put {D : DataW Unit} {qs : List Par} (h : Named D qs) (p : Par) : Named (D.put (.string (lowL p.name)) (.lit (.int .i64 1))) (qs ++ [p]) := by
  obtain ⟨es, rfl⟩ := h.1
  refine ⟨⟨_, rfl⟩, fun kl => ?_⟩
  by_cases hk : kl = lowL p.name
  · subst hk
    rw [atKey_put_same ⟨es, rfl⟩ (by trivial)]
    simp
  · rw [atKey_put_other (by intro e; exact hk (by injection e))]
    rw [h.2]
    have : (lowL p.name == kl) = false := by rw [beq_eq_false_iff_ne]; exact fun e => hk e.symm
    simp [List.any_append, this]
theorem ownsMap_below {P : Program} {k : TypeId} {R : Value → Option (DataW Unit × List MemPlace)} {w w' : World} {b n : Nat} {D : DataW Unit} (h : w.ownsMap P k R b n D) (hb : Below w.heap.size w w') : w'.ownsMap P k R b n D := by
  have hlt := h.lt
  obtain ⟨es, clock, h1, h2⟩ := h
  exact ⟨es, clock, by rw [hb.block b hlt]; exact h1, h2⟩
theorem keyed9 : Keyed Tryd.prog 9 := string_keyed Tryd.underlying9
theorem zero3i (w : World) : (zeroValue 3).run Tryd.prog w = .ok (.int .i64 0) w := by kernel_rfl

theorem box_cell {w w5 : World} {x y z : Value} {t : TypeId} (h : Below (w.alloc (.cells #[x, y, z] t)).heap.size (w.alloc (.cells #[x, y, z] t)) w5) : w5.cell? ⟨w.heap.size, 0, none⟩ = some x := by
  rw [h.cell (by simp)]
  unfold World.cell?; rw [heap_alloc_new]; rfl
theorem box_owns {P : Program} {k : TypeId} {R : Value → Option (DataW Unit × List MemPlace)} {w w5 : World} {o : Obj} {b n : Nat} {D : DataW Unit} (h : w.ownsMap P k R b n D) (h5 : Below (w.alloc o).heap.size (w.alloc o) w5) : w5.ownsMap P k R b n D := ownsMap_below (h.alloc o) h5
theorem box_below {B : Nat} {a w w5 : World} {o : Obj} (hb : Below B a w) (hB : B ≤ w.heap.size) (h5 : Below (w.alloc o).heap.size (w.alloc o) w5) : Below B a w5 := (hb.alloc hB o).trans (h5.mono (Nat.le_trans hB (by simp)))
theorem lit_inj {H : Type} {a b : Int} (h : (DataW.lit (Lit.int .i64 a) : DataW H) = DataW.lit (Lit.int .i64 b)) : a = b := by injection h with h; injection h
theorem low_key (nm : List UInt8) (h : nm.length ≤ 140737488355328) : keyOf Tryd.prog 9 (.string ⟨(lowL nm).toArray⟩) = some (.string (lowL nm)) :=
  keyOf_string_mk Tryd.underlying9 (by rw [size_list, lowL_len]; unfold maxLen; omega)

end Go.Proofs.YtjbfdbccidhdfaaDoor

/-
  The contract of the document's own Check.
-/
namespace Go.Proofs.YtjbfdbccidhdfaaDoor
open Go.RowKit Sc
set_option linter.unusedVariables false
set_option maxRecDepth 20000

/-- A URI's six cells in a block of its own. -/
def BoxU (w : World) (b : Nat) (u : Uri) (p h : Value) : Prop :=
  w.cell? ⟨b, 0, none⟩ = some (.string ⟨u.scheme.toArray⟩) ∧ w.cell? ⟨b, 1, none⟩ = some (.string ⟨u.user.toArray⟩) ∧ w.cell? ⟨b, 2, none⟩ = some (.string ⟨u.host.toArray⟩) ∧
  w.cell? ⟨b, 3, none⟩ = some (.int .i64 u.port) ∧ w.cell? ⟨b, 4, none⟩ = some p ∧ w.cell? ⟨b, 5, none⟩ = some h
theorem BoxU.below {w w' : World} {b B : Nat} {u : Uri} {p h : Value} (k : BoxU w b u p h) (hb : Below B w w') (hlt : b < B) : BoxU w' b u p h :=
  ⟨cell_below hb hlt k.1, cell_below hb hlt k.2.1, cell_below hb hlt k.2.2.1, cell_below hb hlt k.2.2.2.1, cell_below hb hlt k.2.2.2.2.1, cell_below hb hlt k.2.2.2.2.2⟩
theorem has_snoc {ps : List Par} {k : Nat} (hk : k < ps.length) (h : (ps.take k).all (·.has) = true) (hb : ps[k].has = true) : (ps.take (k + 1)).all (·.has) = true := by
  rw [List.take_succ_eq_append_getElem hk, List.all_append, h]; simp [hb]
theorem has_bad {ps : List Par} {k : Nat} (hk : k < ps.length) (hb : ps[k].has = false) : ps.all (·.has) = false := by
  rw [List.all_eq_false]; exact ⟨ps[k], List.getElem_mem hk, by simp [hb]⟩
theorem SmallP.le {B C : Nat} {ps : List Par} (h : SmallP B ps) (hBC : B ≤ C) : SmallP C ps := ⟨by have := h.1; omega, fun p hp => by have := h.2 p hp; omega⟩

end Go.Proofs.YtjbfdbccidhdfaaDoor

/-
  Contracts of package uri: mayBe, allHave, Check.
-/
namespace Go.Proofs.YtjbfdbccidhdfaaDoor
open Go.RowKit Sc
set_option linter.unusedVariables false
set_option maxRecDepth 20000

end Go.Proofs.YtjbfdbccidhdfaaDoor

/-
  Contracts of package same: find, Value, binding.
-/
namespace Go.Proofs.YtjbfdbccidhdfaaDoor
open Go.RowKit Sc
set_option linter.unusedVariables false
set_option maxRecDepth 20000

def parV (p : Par) : Value := .agg #[.string ⟨p.name.toArray⟩, .string ⟨p.value.toArray⟩, .bool p.has]
def findR (ps : List Par) (nm : List UInt8) : Par × Bool := match findV ps nm with | some p => (p, true) | none => (noP, false)

/-- The three cells of a parameter's block. -/
def BoxP (w : World) (b : Nat) (p : Par) : Prop :=
  w.cell? ⟨b, 0, none⟩ = some (.string ⟨p.name.toArray⟩) ∧ w.cell? ⟨b, 1, none⟩ = some (.string ⟨p.value.toArray⟩) ∧ w.cell? ⟨b, 2, none⟩ = some (.bool p.has)
theorem BoxP.below {w w' : World} {b B : Nat} {p : Par} (k : BoxP w b p) (hb : Below B w w') (hlt : b < B) : BoxP w' b p :=
  ⟨cell_below hb hlt k.1, cell_below hb hlt k.2.1, cell_below hb hlt k.2.2⟩
theorem boxP_new (w : World) (p : Par) (t : TypeId) : BoxP (w.alloc (.cells #[.string ⟨p.name.toArray⟩, .string ⟨p.value.toArray⟩, .bool p.has] t)) w.heap.size p := by
  unfold BoxP World.cell?
  simp only [heap_alloc_new]
  exact ⟨rfl, rfl, rfl⟩
theorem row3_new (w : World) (t : TypeId) : RowIs (w.alloc (.cells #[.string ⟨#[]⟩, .string ⟨#[]⟩, .bool false] t)) w.heap.size t [.string ⟨#[]⟩, .string ⟨#[]⟩, .bool false] := by
  unfold RowIs; rw [heap_alloc_new]
structure Three (w : World) (b : Nat) (v0 v1 v2 : Value) : Prop where
  c0 : w.cell? ⟨b, 0, none⟩ = some v0
  c1 : w.cell? ⟨b, 1, none⟩ = some v1
  c2 : w.cell? ⟨b, 2, none⟩ = some v2
  f0 : w.frozen? ⟨b, 0, none⟩ = false
  f1 : w.frozen? ⟨b, 1, none⟩ = false
  f2 : w.frozen? ⟨b, 2, none⟩ = false
theorem RowIs.three {w : World} {b : Nat} {e : TypeId} {v0 v1 v2 : Value} (h : RowIs w b e [v0, v1, v2]) : Three w b v0 v1 v2 :=
  ⟨h.cell 0 (by simp), h.cell 1 (by simp), h.cell 2 (by simp), h.frozen 0, h.frozen 1, h.frozen 2⟩
theorem row_store3 {w : World} {b : Nat} {e : TypeId} {u0 u1 u2 : Value} (h : RowIs w b e [u0, u1, u2]) (v0 v1 v2 : Value) :
    RowIs (((w.setCell ⟨b, 0, none⟩ v0).setCell ⟨b, 1, none⟩ v1).setCell ⟨b, 2, none⟩ v2) b e [v0, v1, v2] := by
  have := ((h.set 0 v0).set 1 v1).set 2 v2
  simpa using this
theorem store_below3 {B : Nat} {a w : World} (h : Below B a w) (b : Nat) (hb : B ≤ b) (v0 v1 v2 : Value) :
    Below B a (((w.setCell ⟨b, 0, none⟩ v0).setCell ⟨b, 1, none⟩ v1).setCell ⟨b, 2, none⟩ v2) :=
  ((h.setCell hb _).setCell hb _).setCell hb _
theorem box_lt {w w5 : World} {o : Obj} {b : Nat} (h : b < w.heap.size) (h5 : Below (w.alloc o).heap.size (w.alloc o) w5) : b < w5.heap.size := Nat.lt_of_lt_of_le (Nat.lt_trans h (alloc_lt w o)) h5.size
theorem row_box {w w5 : World} {o : Obj} {g : Nat} {e : TypeId} {l : List Value} (h : RowIs w g e l) (hl : g < w.heap.size) (h5 : Below (w.alloc o).heap.size (w.alloc o) w5) : RowIs w5 g e l :=
  (h.below ((Below.refl _ w).alloc (Nat.le_refl _) o) hl).below h5 (Nat.lt_trans hl (alloc_lt w o))
theorem ret_find {ps : List Par} {nm : List UInt8} {p : Par} {b : Bool} (h : findR ps nm = (p, b)) :
    Ending.returned (.tuple #[.agg #[.string ⟨p.name.toArray⟩, .string ⟨p.value.toArray⟩, .bool p.has], .bool b]) = .returned (.tuple #[parV (findR ps nm).1, .bool (findR ps nm).2]) := by rw [h]; rfl

set_option maxHeartbeats 1000000 in
set_option maxRecDepth 100000 in
theorem find_row (a : Addr) (cap : Nat) (ps : List Par) (nm : List UInt8) (w : World) (hnm : nm.length ≤ 140737488355328) (hsm : SmallP 140737488355328 ps) (hc : ∀ k (hk : k < ps.length), a.block < w.heap.size ∧ ParAt w a k ps[k]) :
    Calls Tryd.prog 75 #[.slice (some a) ps.length cap, .string ⟨nm.toArray⟩] w fun e w' => e = .returned (.tuple #[parV (findR ps nm).1, .bool (findR ps nm).2]) ∧ Below w.heap.size w w' := by
  have HC : Hid _ := hc; clear hc
  have HS : Hid _ := hsm.2
  have hz := hsm.1
  clear hsm
  obtain ⟨n, hn⟩ : ∃ n, n = ps.length := ⟨_, rfl⟩
  rw [← hn] at hz ⊢
  have HN : Hid _ := hn; clear hn
  have hr0 := row3_new w 94
  have hb0 : Below w.heap.size w (w.alloc (.cells #[.string ⟨#[]⟩, .string ⟨#[]⟩, .bool false] 94)) := (Below.refl _ w).alloc (Nat.le_refl _) _
  have hlt0 := alloc_lt w (.cells #[.string ⟨#[]⟩, .string ⟨#[]⟩, .bool false] 94)
  go_enter Tryd.func75, Tryd.ntmps75
  go_wp2_with fail
  refine (lower_list nm _ (by omega)).mono ?_
  rintro e w1 ⟨rfl, hw1⟩
  have hr1 : Hid _ := hr0.below hw1 hlt0
  have hb1 := hb0.trans (hw1.mono hb0.size)
  have hlt1 := Nat.lt_of_lt_of_le hlt0 hw1.size
  clear hr0 hb0 hlt0 hw1
  go_wp2
  go_loopw [13] (fun i wr => ∃ k : Nat, k ≤ n ∧ i = .int .i64 k ∧ Below w.heap.size w wr ∧ w.heap.size < wr.heap.size ∧ Hid (RowIs wr w.heap.size 94 [.string ⟨#[]⟩, .string ⟨#[]⟩, .bool false]) ∧ Hid (findV (ps.take k) nm = none)) (fun i _ => n - (intOf i).toNat)
  case atStart => exact ⟨0, by omega, rfl, hb1, hlt1, hr1, rfl⟩
  case round =>
    obtain ⟨k, hk, rfl, hb, hl, hr, hfn⟩ := hrel
    clear hb1 hlt1 hr1
    by_cases hlt : k < n
    · have hkl : k < ps.length := by have := HN.out; omega
      obtain ⟨hab, hpa⟩ := HC.out k hkl
      obtain ⟨c0, c1, c2⟩ := hpa.below hb hab
      have hss := HS.out ps[k] (List.getElem_mem hkl)
      have hs1 : sameB ps[k].name nm = true → Hid (findR ps nm = (ps[k], true)) := fun h => show _ = _ by rw [findR, find_hit hkl hfn.out h]
      have hs2 : sameB ps[k].name nm = false → Hid (findV (ps.take (k + 1)) nm = none) := fun h => find_snoc hkl hfn.out h
      generalize ps[k] = p at c0 c1 c2 hss hs1 hs2
      obtain ⟨pn, pv, ph⟩ := p
      simp only at c0 c1 c2 hss hs1 hs2
      clear hpa hfn
      have hB := hb.size
      go_wp2_with fail
      refine (lower_list pn _ (by omega)).mono ?_
      rintro e w2 ⟨rfl, hw2⟩
      have hbx : BoxP w2 _ ⟨pn, pv, ph⟩ := (boxP_new _ ⟨pn, pv, ph⟩ _).below hw2 (alloc_lt _ _)
      have hb2 := box_below hb hB hw2
      have hl2 := box_lt hl hw2
      have hr2 := row_box hr.out hl hw2
      clear hw2 hr hb hl c0 c1 c2 hB hab
      obtain ⟨x0, x1, x2⟩ := hbx
      simp only at x0 x1 x2
      cases hsb : sameB pn nm with
      | true =>
        have hcmp : (lowL pn == lowL nm) = true := hsb
        have hv := hs1 hsb
        clear hs1 hs2 hsb
        obtain ⟨y0, y1, y2, f0, f1, f2⟩ := hr2.three
        go_wp2
        have hr5 := row_store3 hr2 (.string ⟨pn.toArray⟩) (.string ⟨pv.toArray⟩) (.bool ph)
        have hb5 := store_below3 hb2 w.heap.size (Nat.le_refl _) (.string ⟨pn.toArray⟩) (.string ⟨pv.toArray⟩) (.bool ph)
        generalize World.setCell _ _ _ = w5 at hr5 hb5 ⊢
        obtain ⟨d0, d1, d2, _, _, _⟩ := hr5.three
        try simp only [Exit.inBlock, Exit.then]
        refine bodyPost_ret (v := .tuple #[.agg #[.string ⟨pn.toArray⟩, .string ⟨pv.toArray⟩, .bool ph], .bool true]) (by simp [results, Tryd.results75, go_sem, d0, d1, d2]; try rfl) rfl ?_
        exact ⟨ret_find hv.out, hb5⟩
      | false =>
        have hcmp : (lowL pn == lowL nm) = false := hsb
        have hf2 := hs2 hsb
        have HR2 : Hid _ := hr2
        clear hs1 hs2 hsb hr2
        go_wp2
        go_roundw
        case rel => exact ⟨k + 1, by omega, by go_num, hb2, hl2, HR2, hf2⟩
        case measure => simp [intOf]; omega
    · have hv : Hid (findR ps nm = (noP, false)) := show _ = _ by
        have := hfn.out
        rw [List.take_of_length_le (by have := HN.out; omega)] at this
        rw [findR, this]
      have hr2 := hr.out
      clear hfn hr
      obtain ⟨y0, y1, y2, f0, f1, f2⟩ := hr2.three
      go_wp2
      have hr5 := row_store3 hr2 (.string ⟨#[]⟩) (.string ⟨#[]⟩) (.bool false)
      have hb5 := store_below3 hb w.heap.size (Nat.le_refl _) (.string ⟨#[]⟩) (.string ⟨#[]⟩) (.bool false)
      generalize World.setCell _ _ _ = w5 at hr5 hb5 ⊢
      obtain ⟨d0, d1, d2, _, _, _⟩ := hr5.three
      try simp only [Exit.inBlock, Exit.then]
      refine bodyPost_ret (v := .tuple #[.agg #[.string ⟨#[]⟩, .string ⟨#[]⟩, .bool false], .bool false]) (by simp [results, Tryd.results75, go_sem, d0, d1, d2]; try rfl) rfl ?_
      exact ⟨ret_find hv.out, hb5⟩

set_option maxHeartbeats 400000 in
theorem find_nil (a : Option Addr) (cap : Nat) (nm : List UInt8) (w : World) (hnm : nm.length ≤ 140737488355328) :
    Calls Tryd.prog 75 #[.slice a 0 cap, .string ⟨nm.toArray⟩] w fun e w' => e = .returned (.tuple #[parV (findR [] nm).1, .bool (findR [] nm).2]) ∧ Below w.heap.size w w' := by
  have hr0 := row3_new w 94
  have hb0 : Below w.heap.size w (w.alloc (.cells #[.string ⟨#[]⟩, .string ⟨#[]⟩, .bool false] 94)) := (Below.refl _ w).alloc (Nat.le_refl _) _
  have hlt0 := alloc_lt w (.cells #[.string ⟨#[]⟩, .string ⟨#[]⟩, .bool false] 94)
  go_enter Tryd.func75, Tryd.ntmps75
  go_wp2_with fail
  refine (lower_list nm _ (by omega)).mono ?_
  rintro e w1 ⟨rfl, hw1⟩
  have hr1 := hr0.below hw1 hlt0
  have hb1 := hb0.trans (hw1.mono hb0.size)
  clear hr0 hb0 hlt0 hw1
  obtain ⟨y0, y1, y2, f0, f1, f2⟩ := hr1.three
  go_wp2
  go_loop [13] (fun i => i = .int .i64 0) (fun i => 0)
  case atStart => rfl
  case round =>
    subst hrel
    go_wp2
    have hr5 := row_store3 hr1 (.string ⟨#[]⟩) (.string ⟨#[]⟩) (.bool false)
    have hb5 := store_below3 hb1 w.heap.size (Nat.le_refl _) (.string ⟨#[]⟩) (.string ⟨#[]⟩) (.bool false)
    generalize World.setCell _ _ _ = w5 at hr5 hb5 ⊢
    obtain ⟨d0, d1, d2, _, _, _⟩ := hr5.three
    try simp only [Exit.inBlock, Exit.then]
    refine bodyPost_ret (v := .tuple #[.agg #[.string ⟨#[]⟩, .string ⟨#[]⟩, .bool false], .bool false]) (by simp [results, Tryd.results75, go_sem, d0, d1, d2]; try rfl) rfl ?_
    exact ⟨rfl, hb5⟩
theorem find_any (v : Value) (ps : List Par) (nm : List UInt8) (w : World) (hnm : nm.length ≤ 140737488355328) (hsm : SmallP 140737488355328 ps) (h : ParsAt w v ps) :
    Calls Tryd.prog 75 #[v, .string ⟨nm.toArray⟩] w fun e w' => e = .returned (.tuple #[parV (findR ps nm).1, .bool (findR ps nm).2]) ∧ Below w.heap.size w w' := by
  rcases h with ⟨rfl, rfl⟩ | ⟨a, cap, rfl, hc⟩
  · exact find_nil none 0 nm w hnm
  · exact find_row a cap ps nm w hnm hsm hc

end Go.Proofs.YtjbfdbccidhdfaaDoor

/-
  The document's own functions of layer 4: Place, Value, grave.
-/
namespace Go.Proofs.YtjbfdbccidhdfaaDoor
open Go.RowKit Sc
set_option linter.unusedVariables false
set_option maxRecDepth 20000


set_option maxHeartbeats 1000000 in
set_option maxRecDepth 100000 in
theorem place_row (a : Addr) (cap : Nat) (ps : List Par) (nm : List UInt8) (w : World) (hnm : nm.length ≤ 140737488355328) (hsm : SmallP 140737488355328 ps) (hc : ∀ k (hk : k < ps.length), a.block < w.heap.size ∧ ParAt w a k ps[k]) :
    Calls Tryd.prog 76 #[.slice (some a) ps.length cap, .string ⟨nm.toArray⟩] w fun e w' => (∃ r : Int, e = .returned (.int .i64 r) ∧ ((r = -1 ∧ findV ps nm = none) ∨ ∃ (k : Nat) (hk : k < ps.length), r = k ∧ findV ps nm = some ps[k])) ∧ Below w.heap.size w w' := by
  have HC : Hid _ := hc; clear hc
  have HS : Hid _ := hsm.2
  have hz := hsm.1
  clear hsm
  obtain ⟨n, hn⟩ : ∃ n, n = ps.length := ⟨_, rfl⟩
  have HG : Hid (∀ r : Int, ((r = -1 ∧ findV ps nm = none) ∨ ∃ (k : Nat) (hk : k < ps.length), r = k ∧ findV ps nm = some ps[k]) → (∃ r' : Int, Ending.returned (.int .i64 r) = .returned (.int .i64 r') ∧ ((r' = -1 ∧ findV ps nm = none) ∨ ∃ (k : Nat) (hk : k < ps.length), r' = k ∧ findV ps nm = some ps[k]))) := fun r h => ⟨r, rfl, h⟩
  rw [← hn] at hz
  rw [show Value.slice (some a) ps.length cap = .slice (some a) n cap by rw [hn]]
  have HN : Hid _ := hn; clear hn
  go_enter Tryd.func76, Tryd.ntmps76
  go_wp2
  go_loopw [5] (fun i wr => ∃ k : Nat, k ≤ n ∧ i = .int .i64 k ∧ Below w.heap.size w wr ∧ Hid (findV (ps.take k) nm = none)) (fun i _ => n - (intOf i).toNat)
  case atStart => exact ⟨0, by omega, rfl, Below.refl _ _, rfl⟩
  case round =>
    obtain ⟨k, hk, rfl, hb, hfn⟩ := hrel
    by_cases hlt : k < n
    · have hkl : k < ps.length := by have := HN.out; omega
      obtain ⟨hab, hpa⟩ := HC.out k hkl
      obtain ⟨c0, c1, c2⟩ := hpa.below hb hab
      have hss := HS.out ps[k] (List.getElem_mem hkl)
      have hs1 : sameB ps[k].name nm = true → Hid (findV ps nm = some ps[k]) := fun h => find_hit hkl hfn.out h
      have hs2 : sameB ps[k].name nm = false → Hid (findV (ps.take (k + 1)) nm = none) := fun h => find_snoc hkl hfn.out h
      have HE : Hid (∀ p, p = ps[k] → findV ps nm = some p → findV ps nm = some ps[k]) := fun p e h => by rw [← e]; exact h
      clear hpa hfn hab
      have hB := hb.size
      cases hsb : sameB ps[k].name nm with
      | true =>
        have hv := hs1 hsb
        clear hs1 hs2
        go_wp2_with fail
        refine (refsame_list ps[k].name nm _ hss.1 hnm).mono ?_
        rintro e w2 ⟨rfl, hw2⟩
        rw [hsb]
        have hb2 := hb.trans (hw2.mono hB)
        clear hw2 c0 c1 c2
        go_wp2
        go_ret
        exact ⟨HG.out _ (Or.inr ⟨k, hkl, rfl, hv.out⟩), hb2⟩
      | false =>
        have hv := hs2 hsb
        clear hs1 hs2
        go_wp2_with fail
        refine (refsame_list ps[k].name nm _ hss.1 hnm).mono ?_
        rintro e w2 ⟨rfl, hw2⟩
        rw [hsb]
        have hb2 := hb.trans (hw2.mono hB)
        clear hw2 c0 c1 c2
        go_wp2
        go_roundw
        case rel => exact ⟨k + 1, by omega, by go_num, hb2, hv⟩
        case measure => simp [intOf]; omega
    · have hv : Hid (findV ps nm = none) := show _ = _ by
        have := hfn.out
        rwa [List.take_of_length_le (by have := HN.out; omega)] at this
      clear hfn
      go_wp2
      go_ret
      exact ⟨HG.out _ (Or.inl ⟨rfl, hv.out⟩), hb⟩
set_option maxHeartbeats 400000 in
theorem place_nil (a : Option Addr) (cap : Nat) (nm : List UInt8) (w : World) :
    Calls Tryd.prog 76 #[.slice a 0 cap, .string ⟨nm.toArray⟩] w fun e w' => e = .returned (.int .i64 (-1)) ∧ Below w.heap.size w w' := by
  go_enter Tryd.func76, Tryd.ntmps76
  go_wp2
  go_loop [5] (fun i => i = .int .i64 0) (fun i => 0)
  case atStart => rfl
  case round =>
    subst hrel
    go_wp2
    go_ret
    exact ⟨rfl, Below.refl _ _⟩
theorem place_any (v : Value) (ps : List Par) (nm : List UInt8) (w : World) (hnm : nm.length ≤ 140737488355328) (hsm : SmallP 140737488355328 ps) (h : ParsAt w v ps) :
    Calls Tryd.prog 76 #[v, .string ⟨nm.toArray⟩] w fun e w' => (∃ r : Int, e = .returned (.int .i64 r) ∧ ((r = -1 ∧ findV ps nm = none) ∨ ∃ (k : Nat) (hk : k < ps.length), r = k ∧ findV ps nm = some ps[k])) ∧ Below w.heap.size w w' := by
  rcases h with ⟨rfl, rfl⟩ | ⟨a, cap, rfl, hc⟩
  · refine (place_nil none 0 nm w).mono ?_
    rintro e w' ⟨rfl, hb⟩
    exact ⟨⟨-1, rfl, Or.inl ⟨rfl, rfl⟩⟩, hb⟩
  · exact place_row a cap ps nm w hnm hsm hc
/-- With nothing there. -/
theorem place_none {ps : List Par} {nm : List UInt8} (hf : findV ps nm = none) (v : Value) (w : World) (hnm : nm.length ≤ 140737488355328) (hsm : SmallP 140737488355328 ps) (h : ParsAt w v ps) :
    Calls Tryd.prog 76 #[v, .string ⟨nm.toArray⟩] w fun e w' => e = .returned (.int .i64 (-1)) ∧ Below w.heap.size w w' := by
  refine (place_any v ps nm w hnm hsm h).mono ?_
  rintro e w' ⟨⟨r, rfl, ⟨rfl, _⟩ | ⟨k, hk, _, h2⟩⟩, hb⟩
  · exact ⟨rfl, hb⟩
  · rw [hf] at h2; cases h2
/-- With something there: its place, and where that lies. -/
theorem place_some {ps : List Par} {nm : List UInt8} {q : Par} (hf : findV ps nm = some q) (v : Value) (w : World) (hnm : nm.length ≤ 140737488355328) (hsm : SmallP 140737488355328 ps) (h : ParsAt w v ps) :
    Calls Tryd.prog 76 #[v, .string ⟨nm.toArray⟩] w fun e w' => (∃ (k : Nat) (a : Addr) (cap : Nat), e = .returned (.int .i64 k) ∧ k < ps.length ∧ v = .slice (some a) ps.length cap ∧ a.block < w.heap.size ∧ ParAt w a k q) ∧ Below w.heap.size w w' := by
  refine (place_any v ps nm w hnm hsm h).mono ?_
  rintro e w' ⟨⟨r, rfl, ⟨rfl, h2⟩ | ⟨k, hk, rfl, h2⟩⟩, hb⟩
  · rw [hf] at h2; cases h2
  · rcases h with ⟨rfl, rfl⟩ | ⟨a, cap, rfl, hc⟩
    · simp at hk
    · rw [hf, Option.some.injEq] at h2
      subst h2
      exact ⟨⟨k, a, cap, rfl, hk, rfl, (hc k hk).1, (hc k hk).2⟩, hb⟩

/-- What Value answers. -/
def valV (ps : List Par) (nm : List UInt8) : List UInt8 × Bool := match findV ps nm with | some p => (p.value, true) | none => ([], false)
theorem ret_val {ps : List Par} {nm t : List UInt8} {b : Bool} (h : valV ps nm = (t, b)) : Ending.returned (.tuple #[.string ⟨t.toArray⟩, .bool b]) = .returned (.tuple #[.string ⟨(valV ps nm).1.toArray⟩, .bool (valV ps nm).2]) := by rw [h]
set_option maxHeartbeats 1000000 in
theorem refvalue_any (v : Value) (ps : List Par) (nm : List UInt8) (w : World) (hnm : nm.length ≤ 140737488355328) (hsm : SmallP 140737488355328 ps) (h : ParsAt w v ps) :
    Calls Tryd.prog 52 #[v, .string ⟨nm.toArray⟩] w fun e w' => e = .returned (.tuple #[.string ⟨(valV ps nm).1.toArray⟩, .bool (valV ps nm).2]) ∧ Below w.heap.size w w' := by
  have hl := hsm.1
  cases hf : findV ps nm with
  | none =>
    have HV : Hid (valV ps nm = ([], false)) := show _ = _ by rw [valV, hf]
    have K := hid (place_none hf v w hnm hsm h)
    clear hf h hsm
    go_enter Tryd.func52, Tryd.ntmps52
    go_wp2_with fail
    refine K.out.mono ?_
    rintro e w1 ⟨rfl, hw1⟩
    go_wp2
    go_ret2
    exact ⟨ret_val HV.out, hw1⟩
  | some q =>
    have HV : Hid (valV ps nm = (q.value, true)) := show _ = _ by rw [valV, hf]
    have K := hid (place_some hf v w hnm hsm h)
    clear hf h hsm
    go_enter Tryd.func52, Tryd.ntmps52
    go_wp2_with fail
    refine K.out.mono ?_
    rintro e w1 ⟨⟨k, a, cap, rfl, hk, rfl, hab, hpa⟩, hw1⟩
    obtain ⟨c0, c1, c2⟩ := hpa.below hw1 hab
    clear hpa hab K
    go_wp2
    go_ret2
    exact ⟨ret_val HV.out, hw1⟩
set_option maxHeartbeats 1000000 in
theorem value_any (v : Value) (ps : List Par) (nm : List UInt8) (w : World) (hnm : nm.length ≤ 140737488355328) (hsm : SmallP 140737488355328 ps) (h : ParsAt w v ps) :
    Calls Tryd.prog 51 #[v, .string ⟨nm.toArray⟩] w fun e w' => e = .returned (.tuple #[.string ⟨(valV ps nm).1.toArray⟩, .bool (valV ps nm).2]) ∧ Below w.heap.size w w' := by
  have HV : Hid (valV ps nm = ((findR ps nm).1.value, (findR ps nm).2)) := show _ = _ by unfold valV findR; cases findV ps nm <;> rfl
  have hsz : (findR ps nm).1.value.length ≤ 281474976710656 := by
    unfold findR
    cases hf : findV ps nm with
    | none => simp [noP]
    | some q => have hm := hsm.2 q (by unfold findV at hf; exact List.mem_of_find?_eq_some hf); simp only; omega
  have K := hid (find_any v ps nm w hnm hsm h)
  generalize findR ps nm = r at HV hsz K
  obtain ⟨⟨qn, qv, qh⟩, b⟩ := r
  unfold parV at K
  simp only at HV hsz K
  obtain ⟨a, cap, rfl⟩ := h.form
  clear h hsm
  go_enter Tryd.func51, Tryd.ntmps51
  go_wp2_with fail
  refine K.out.mono ?_
  rintro e w1 ⟨rfl, hw1⟩
  have hx := boxP_new w1 ⟨qn, qv, qh⟩ 94
  obtain ⟨x0, x1, x2⟩ := hx
  simp only at x0 x1 x2
  have hb1 := hw1.alloc hw1.size (.cells #[.string ⟨qn.toArray⟩, .string ⟨qv.toArray⟩, .bool qh] 94)
  go_wp2_with fail
  refine (sclone_any ⟨qv.toArray⟩ _ (by simpa [ByteArray.size] using hsz)).mono ?_
  rintro e w2 ⟨rfl, hw2⟩
  have hb2 := hb1.trans (hw2.mono hb1.size)
  go_wp2
  go_ret2
  exact ⟨ret_val HV.out, hb2⟩

end Go.Proofs.YtjbfdbccidhdfaaDoor
