/-
  Contracts: the document's own Seq, State and Show.
-/
import Derived.Test.YtjbfdbccidhdfabDoorHRef2
import Derived.BigQuiet
import Derived.OwnWalk
import Derived.Lib.QuietBelow
namespace Go.Proofs.YtjbfdbccidhdfabDoor
open Go.RowKit Go.Sort Sc
set_option linter.unusedVariables false
set_option maxRecDepth 20000

theorem ret_seq {R : Int × List UInt8 × Int} {n : Int} {m : List UInt8} {e : Int} (h : R = (n, m, e)) : Ending.returned (.tuple #[.int .i64 n, .string ⟨m.toArray⟩, .int .i64 e]) = .returned (.tuple #[.int .i64 R.1, .string ⟨R.2.1.toArray⟩, .int .i64 R.2.2]) := by rw [h]

end Go.Proofs.YtjbfdbccidhdfabDoor
