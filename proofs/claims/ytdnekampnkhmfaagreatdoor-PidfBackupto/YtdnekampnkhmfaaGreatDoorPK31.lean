/-
  PR4.
-/
import Derived.Test.YtdnekampnkhmfaaGreatDoorPK28
set_option linter.unusedVariables false
set_option linter.unusedSimpArgs false
set_option maxRecDepth 20000
namespace Go.Proofs.YtdnekampnkhmfaaGreatDoor
open Go.RowKit Sc
theorem box3 (w:World) (v0 v1 v2:Value) (t:TypeId):RowC3 (w.alloc (.cells #[v0,v1,v2] t)) w.heap.size v0 v1 v2:=(rc_row3 w v0 v1 v2 t).rc3
end Go.Proofs.YtdnekampnkhmfaaGreatDoor
