/-
  UBackL.
-/
import Derived.Test.YtldkidljjbkmbaaGreatDoorPX05
set_option linter.unusedVariables false
set_option linter.unusedSimpArgs false
set_option maxRecDepth 20000
namespace Go.Proofs.YtldkidljjbkmbaaGreatDoor
open Go.RowKit Sc
def hob (b:UInt8):Bool:=b==91 || (b==93 || (okc b || isB b.toNat 64))
end Go.Proofs.YtldkidljjbkmbaaGreatDoor
