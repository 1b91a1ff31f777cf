/-
  The contract of the document's own Where.
-/
import Derived.Test.YtfdcklekjnihjabDoorRefHost
import Derived.Test.YtfdcklekjnihjabDoorRefDig
import Derived.Test.YtfdcklekjnihjabDoorWhereL
namespace Go.Proofs.YtfdcklekjnihjabDoor
open Go.RowKit Sc
set_option linter.unusedVariables false
set_option maxRecDepth 20000

theorem ret_where {p : List UInt8 × Int × Int} {x : List UInt8} {a b : Int} (h : p = (x, a, b)) : Ending.returned (.tuple #[.string ⟨x.toArray⟩, .int .i64 a, .int .i64 b]) = .returned (.tuple #[.string ⟨p.1.toArray⟩, .int .i64 p.2.1, .int .i64 p.2.2]) := by rw [h]
end Go.Proofs.YtfdcklekjnihjabDoor
