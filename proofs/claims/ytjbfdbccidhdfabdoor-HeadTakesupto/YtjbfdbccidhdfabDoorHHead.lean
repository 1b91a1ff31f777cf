/-
  The contracts of package head, together.
-/
import Derived.Test.YtjbfdbccidhdfabDoorHHead2
import Derived.Test.YtjbfdbccidhdfabDoorHHead3
import Derived.Test.YtjbfdbccidhdfabDoorHHead5
import Derived.Test.YtjbfdbccidhdfabDoorHEq
import Derived.OwnWalk
namespace Go.Proofs.YtjbfdbccidhdfabDoor

end Go.Proofs.YtjbfdbccidhdfabDoor
