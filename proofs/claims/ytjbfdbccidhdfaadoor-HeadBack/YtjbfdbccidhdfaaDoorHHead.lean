/-
  The contracts of package head, together.
-/
import Derived.Test.YtjbfdbccidhdfaaDoorHHead2
import Derived.Test.YtjbfdbccidhdfaaDoorHHead3
import Derived.Test.YtjbfdbccidhdfaaDoorHHead5
import Derived.Test.YtjbfdbccidhdfaaDoorHEq
import Derived.OwnWalk
namespace Go.Proofs.YtjbfdbccidhdfaaDoor

end Go.Proofs.YtjbfdbccidhdfaaDoor
