/-
  The contract of the document's own written.
-/
import Derived.Test.YtfdcklekjnihjabDoorRefCut
import Derived.Test.YtfdcklekjnihjabDoorRefUne
import Derived.Test.YtfdcklekjnihjabDoorWrittenL
namespace Go.Proofs.YtfdcklekjnihjabDoor
open Go.RowKit Sc
set_option linter.unusedVariables false
set_option maxRecDepth 20000

theorem ret_wr {p : List UInt8 × Bool} {x : List UInt8} {b : Bool} (h : p = (x, b)) : Ending.returned (.tuple #[.string ⟨x.toArray⟩, .bool b]) = .returned (.tuple #[.string ⟨p.1.toArray⟩, .bool p.2]) := by rw [h]

end Go.Proofs.YtfdcklekjnihjabDoor
