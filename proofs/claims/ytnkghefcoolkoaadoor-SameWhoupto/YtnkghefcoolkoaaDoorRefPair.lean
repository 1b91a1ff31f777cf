/-
  The contract of the document's own pair.
-/
import Derived.Test.YtnkghefcoolkoaaDoorBaseC
import Derived.Test.YtnkghefcoolkoaaDoorBaseE
import Derived.Test.YtnkghefcoolkoaaDoorBaseB
namespace Go.Proofs.YtnkghefcoolkoaaDoor
open Go.RowKit Sc
set_option linter.unusedVariables false
set_option maxRecDepth 20000

theorem refesc_list (s keep : List UInt8) (w : World) (hs : s.length ≤ 1048576) (hk : keep.length ≤ 64) :
    Calls Tryd.prog 30 #[.string ⟨s.toArray⟩, .string ⟨keep.toArray⟩] w fun e w' => e = .returned (.string ⟨(escL keep s).toArray⟩) ∧ Below w.heap.size w w' :=
  refescape_any ⟨s.toArray⟩ ⟨keep.toArray⟩ w (by rw [size_list]; omega) (by rw [size_list]; unfold maxLen; omega)
theorem escP_len (keep s : List UInt8) : (escL keep s).length ≤ 3 * s.length := by
  have := esc_cells_len (kpF keep) s
  rw [Lib.byteCells_length] at this
  exact this

theorem app_list (a b : List UInt8) : (⟨a.toArray⟩ : ByteArray) ++ (⟨b.toArray⟩ : ByteArray) = ⟨(a ++ b).toArray⟩ := by
  apply ByteArray.ext; simp

end Go.Proofs.YtnkghefcoolkoaaDoor
