/-
  The contract of the document's own List.
-/
import Derived.Test.YtfdcklekjnihjabDoorPListL
import Derived.Test.YtfdcklekjnihjabDoorOpenUri
import Derived.Deep.RegionLaw
namespace Go.Proofs.YtfdcklekjnihjabDoor
open Go.RowKit Sc
set_option linter.unusedVariables false
set_option maxRecDepth 20000

theorem apart_snoc {ps : List Par} {j : Nat} {nm : List UInt8} (hj : j < ps.length) (h : apartB (ps.take j) nm = true) (hs : sameB ps[j].name nm = false) : apartB (ps.take (j + 1)) nm = true := by
  unfold apartB at *
  rw [List.take_succ_eq_append_getElem hj, List.all_append, h]
  simp [hs]
theorem apart_bad {ps : List Par} {j k : Nat} {nm : List UInt8} (hj : j < ps.length) (hjk : j < k) (hs : sameB ps[j].name nm = true) : apartB (ps.take k) nm = false := by
  unfold apartB
  rw [List.all_eq_false]
  refine ⟨ps[j], ?_, by simp [hs]⟩
  rw [List.mem_take_iff_getElem]
  exact ⟨j, by omega, rfl⟩
end Go.Proofs.YtfdcklekjnihjabDoor
