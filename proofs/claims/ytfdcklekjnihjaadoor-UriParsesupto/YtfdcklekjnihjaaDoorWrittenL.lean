/-
  What a text stands for that may be written with some signs; parameters of texts. Plain functions on lists of bytes.
-/
import Derived.Test.YtfdcklekjnihjaaDoorUnesc
import Derived.Test.YtfdcklekjnihjaaDoorCutL
namespace Go.Proofs.YtfdcklekjnihjaaDoor
open Go.RowKit Sc
set_option linter.unusedVariables false
set_option maxRecDepth 20000

def okw (keep : List UInt8) (b : UInt8) : Bool := b == 37 || (isB b.toNat 16 || hasL b keep)
def writtenV (keep l : List UInt8) : List UInt8 × Bool := if l.all (okw keep) = true then ((unescV l).1, (unescV l).2 == 0) else ([], false)
structure Par where
  name : List UInt8
  value : List UInt8
  has : Bool
deriving DecidableEq
def parCells (p : Par) : List Value := [.string ⟨p.name.toArray⟩, .string ⟨p.value.toArray⟩, .bool p.has]
def parOf (keep l : List UInt8) : Option Par :=
  if (writtenV keep (cutL 61 l).1).2 = true ∧ (writtenV keep (cutL 61 l).2.1).2 = true then some ⟨(writtenV keep (cutL 61 l).1).1, (writtenV keep (cutL 61 l).2.1).1, (cutL 61 l).2.2⟩ else none
def parsOf (keep : List UInt8) : List (List UInt8) → Option (List Par)
  | [] => some []
  | l :: ls => match parOf keep l, parsOf keep ls with
    | some p, some ps => some (p :: ps)
    | _, _ => none

theorem okw_snoc {keep : List UInt8} {s : ByteArray} {k : Nat} (hk : k < s.size) (h : (s.data.toList.take k).all (okw keep) = true) (hb : okw keep s[k] = true) : (s.data.toList.take (k + 1)).all (okw keep) = true := by
  rw [take_snoc s k hk, List.all_append, h]; simp [hb]
theorem written_bad {keep : List UInt8} {s : ByteArray} {k : Nat} (hk : k < s.size) (hb : okw keep s[k] = false) : writtenV keep s.data.toList = ([], false) := by
  have : s.data.toList.all (okw keep) = false := by
    rw [List.all_eq_false]
    refine ⟨s[k], ?_, by simp [hb]⟩
    have := getL s k hk
    exact List.mem_of_getElem? this
  rw [writtenV, this]; rfl
theorem written_all {keep l : List UInt8} (h : l.all (okw keep) = true) : writtenV keep l = ((unescV l).1, (unescV l).2 == 0) := by rw [writtenV, if_pos h]

end Go.Proofs.YtfdcklekjnihjaaDoor
