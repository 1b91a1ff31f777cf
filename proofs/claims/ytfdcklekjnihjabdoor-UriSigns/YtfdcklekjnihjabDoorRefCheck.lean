/-
  The contract of the document's own Check.
-/
import Derived.Test.YtfdcklekjnihjabDoorRefList
import Derived.Test.YtfdcklekjnihjabDoorRefWhere
namespace Go.Proofs.YtfdcklekjnihjabDoor
open Go.RowKit Sc
set_option linter.unusedVariables false
set_option maxRecDepth 20000

/-- A URI's six cells in a block of its own. -/
def BoxU (w : World) (b : Nat) (u : Uri) (p h : Value) : Prop :=
  w.cell? ⟨b, 0, none⟩ = some (.string ⟨u.scheme.toArray⟩) ∧ w.cell? ⟨b, 1, none⟩ = some (.string ⟨u.user.toArray⟩) ∧ w.cell? ⟨b, 2, none⟩ = some (.string ⟨u.host.toArray⟩) ∧
  w.cell? ⟨b, 3, none⟩ = some (.int .i64 u.port) ∧ w.cell? ⟨b, 4, none⟩ = some p ∧ w.cell? ⟨b, 5, none⟩ = some h
theorem BoxU.below {w w' : World} {b B : Nat} {u : Uri} {p h : Value} (k : BoxU w b u p h) (hb : Below B w w') (hlt : b < B) : BoxU w' b u p h :=
  ⟨cell_below hb hlt k.1, cell_below hb hlt k.2.1, cell_below hb hlt k.2.2.1, cell_below hb hlt k.2.2.2.1, cell_below hb hlt k.2.2.2.2.1, cell_below hb hlt k.2.2.2.2.2⟩
theorem box_new (w : World) (u : Uri) (p h : Value) : BoxU (w.alloc (.cells #[.string ⟨u.scheme.toArray⟩, .string ⟨u.user.toArray⟩, .string ⟨u.host.toArray⟩, .int .i64 u.port, p, h] 24)) w.heap.size u p h := by
  unfold BoxU World.cell?
  simp only [heap_alloc_new]
  exact ⟨rfl, rfl, rfl, rfl, rfl, rfl⟩
theorem has_snoc {ps : List Par} {k : Nat} (hk : k < ps.length) (h : (ps.take k).all (·.has) = true) (hb : ps[k].has = true) : (ps.take (k + 1)).all (·.has) = true := by
  rw [List.take_succ_eq_append_getElem hk, List.all_append, h]; simp [hb]
theorem has_bad {ps : List Par} {k : Nat} (hk : k < ps.length) (hb : ps[k].has = false) : ps.all (·.has) = false := by
  rw [List.all_eq_false]; exact ⟨ps[k], List.getElem_mem hk, by simp [hb]⟩
theorem SmallP.le {B C : Nat} {ps : List Par} (h : SmallP B ps) (hBC : B ≤ C) : SmallP C ps := ⟨by have := h.1; omega, fun p hp => by have := h.2 p hp; omega⟩

end Go.Proofs.YtfdcklekjnihjabDoor
