/-
  The text of a URI. Plain functions.
-/
import Derived.Test.YtfdcklekjnihjaaDoorPListL
import Derived.Test.YtfdcklekjnihjaaDoorEscape
import Derived.Test.YtfdcklekjnihjaaDoorDigits
namespace Go.Proofs.YtfdcklekjnihjaaDoor
open Go.RowKit Sc
set_option linter.unusedVariables false
set_option maxRecDepth 20000

def usersK : List UInt8 := [38, 61, 43, 36, 44, 59, 63, 47]
def paramsK : List UInt8 := [91, 93, 47, 58, 38, 43, 36]
def headersK : List UInt8 := [91, 93, 47, 63, 58, 43, 36]
def escL (keep l : List UInt8) : List UInt8 := esc (kpF keep) l
def pairV (keep : List UInt8) (p : Par) : List UInt8 := if p.has = true then escL keep p.name ++ [61] ++ escL keep p.value else escL keep p.name
def parsT (ps : List Par) : List UInt8 := ps.flatMap fun p => [59] ++ pairV paramsK p
def hdrT (ps : List Par) : List UInt8 := (ps.zipIdx).flatMap fun (p, i) => (if i = 0 then [63] else [38]) ++ pairV headersK p
def frontT (u : Uri) : List UInt8 := u.scheme ++ [58] ++ (if u.user = [] then [] else escL usersK u.user ++ [64]) ++ u.host ++ (if u.port = 0 then [] else [58] ++ digL u.port.toNat)
def textT (u : Uri) : List UInt8 := frontT u ++ parsT u.params ++ hdrT u.headers
def printV (u : Uri) : List UInt8 × Int := if checkV u = 0 then (textT u, 0) else ([], checkV u)

theorem parsT_snoc {ps : List Par} {k : Nat} (hk : k < ps.length) : parsT (ps.take (k + 1)) = parsT (ps.take k) ++ ([59] ++ pairV paramsK ps[k]) := by
  unfold parsT
  rw [List.take_succ_eq_append_getElem hk, List.flatMap_append]; simp
theorem hdrT_snoc {ps : List Par} {k : Nat} (hk : k < ps.length) : hdrT (ps.take (k + 1)) = hdrT (ps.take k) ++ ((if k = 0 then [63] else [38]) ++ pairV headersK ps[k]) := by
  unfold hdrT
  rw [List.take_succ_eq_append_getElem hk, List.zipIdx_append, List.flatMap_append, List.length_take, Nat.min_eq_left (by omega)]
  simp

end Go.Proofs.YtfdcklekjnihjaaDoor
