/-
  Contracts: the document's own Seq, Cseq, Call and Time.
-/
import Derived.Test.YtjbfdbccidhdfabDoorHeadL
import Derived.Test.YtjbfdbccidhdfabDoorHeadStepL
import Derived.Test.YtjbfdbccidhdfabDoorFD
import Derived.Test.YtjbfdbccidhdfabDoorFB
namespace Go.Proofs.YtjbfdbccidhdfabDoor
open Go.RowKit Sc
set_option linter.unusedVariables false
set_option maxRecDepth 20000

end Go.Proofs.YtjbfdbccidhdfabDoor
