/-
  Which lists of parameters may be; which URIs. Plain functions.
-/
import Derived.Test.YtfdcklekjnihjaaDoorHostL
import Derived.Test.YtfdcklekjnihjaaDoorTrim
import Derived.Test.YtfdcklekjnihjaaDoorParams
namespace Go.Proofs.YtfdcklekjnihjaaDoor
open Go.RowKit Sc
set_option linter.unusedVariables false
set_option maxRecDepth 20000

def parB (p : Par) : Bool := decide (1 ≤ p.name.length) && (decide (p.name.length ≤ 64) && (decide (p.value.length ≤ 64) && (p.has || p.value.isEmpty)))
/-- Each stands alone by its name, as far as small letters tell. -/
def apartB (ps : List Par) (nm : List UInt8) : Bool := ps.all fun q => !sameB q.name nm
def listGo : List Par → List Par → Bool
  | _, [] => true
  | before, p :: ps => parB p && (apartB before p.name && listGo (before ++ [p]) ps)
def listB (ps : List Par) : Bool := decide (ps.length ≤ 16) && listGo [] ps
def checkV (u : Uri) : Int :=
  if schemeB u.scheme = false then 30 else if 64 < u.user.length then 31 else if hostB u.host = false then 32 else if u.port < 0 ∨ 65535 < u.port then 33
  else if listB u.params = false then 34 else if listB u.headers = false then 34 else if u.headers.all (·.has) = false then 34 else 0

theorem listGo_at (ps : List Par) (k : Nat) (hk : k < ps.length) : listGo (ps.take k) (ps.drop k) = (parB ps[k] && (apartB (ps.take k) ps[k].name && listGo (ps.take (k + 1)) (ps.drop (k + 1)))) := by
  rw [List.drop_eq_getElem_cons hk, listGo, List.take_succ_eq_append_getElem hk]

end Go.Proofs.YtfdcklekjnihjaaDoor
