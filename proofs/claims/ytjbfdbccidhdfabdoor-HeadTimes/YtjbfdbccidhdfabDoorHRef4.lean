/-
  Contracts: the document's own Type and Accepts.
-/
import Derived.Test.YtjbfdbccidhdfabDoorHRef2
namespace Go.Proofs.YtjbfdbccidhdfabDoor
open Go.RowKit Sc
set_option linter.unusedVariables false
set_option maxRecDepth 20000

theorem typeT_of {s p0 : List UInt8} {ps : List (List UInt8)} (h : partsV 59 s = p0 :: ps) : typeT s = lowL (trimL p0) := by
  unfold typeT; rw [h]; rfl
theorem typeT_len (s : List UInt8) : (typeT s).length ≤ s.length := by
  obtain ⟨p0, ps, hpt⟩ := partsG_cons 59 s pl0 []
  have hpt2 : partsV 59 s = p0 :: ps := hpt
  have hm := h_mem_len 59 s p0 (by rw [hpt2]; simp)
  have := trimL_len p0
  rw [typeT_of hpt2]; simp [lowL]; omega

end Go.Proofs.YtjbfdbccidhdfabDoor
