/-
  Base texts, one behind another: RefFields, RText.
-/
import Derived.Test.YtjbfdbccidhdfabDoorFR
import Derived.Test.YtjbfdbccidhdfabDoorAText

/-
  The contract of the document's own Fields.
-/
namespace Go.Proofs.YtjbfdbccidhdfabDoor
open Go.RowKit Sc
set_option linter.unusedVariables false
set_option maxRecDepth 20000

theorem head_quo (v : List UInt8) : ((⟨v.toArray⟩ : ByteArray).size = 0 ∧ quoB v = false) ∨ (∃ h : 0 < (⟨v.toArray⟩ : ByteArray).size, ((((⟨v.toArray⟩ : ByteArray)[0]'h).toNat : Int) == 34) = quoB v) := by
  cases v with
  | nil => exact Or.inl ⟨rfl, rfl⟩
  | cons b r =>
    refine Or.inr ⟨by rw [size_list]; simp, ?_⟩
    show ((b.toNat : Int) == 34) = quoB (b :: r)
    revert b
    have : ∀ b : UInt8, ((b.toNat : Int) == 34) = (some b == some 34) := by apply byte_all; decide +kernel
    exact this

end Go.Proofs.YtjbfdbccidhdfabDoor

/-
  The contract of the document's own Text.
-/
namespace Go.Proofs.YtjbfdbccidhdfabDoor
open Go.RowKit Go.Sort Sc
set_option linter.unusedVariables false
set_option maxRecDepth 20000

end Go.Proofs.YtjbfdbccidhdfabDoor
