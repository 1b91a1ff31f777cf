/-
  The library's variable holds a number in every world of the program's shape.
-/
import Derived.Test.YtagopboofmjnfaaDoorFStr
import Derived.Shelf.Vars
namespace Go.Proofs.YtagopboofmjnfaaDoor
open Go.RowKit
set_option linter.unusedVariables false
set_option maxRecDepth 20000

theorem MaxAt.shaped {w : World} (h : w.ShapedOpen Tryd.prog) : MaxAt w := by
  obtain ⟨m, hm⟩ := cell_of_shapedOpen_int (P := Tryd.prog) (g := 0) (t := 3) (zero := #[.int .i64 0]) h (of_decide_eq_true (by kernel_rfl)) (by kernel_rfl) rfl (by kernel_rfl) (by kernel_rfl) Tryd.underlying3
  exact MaxAt.of hm

end Go.Proofs.YtagopboofmjnfaaDoor
