/-
  Which host and port a text is, as plain functions on lists of bytes.
-/
import Derived.Test.YtfdcklekjnihjaaDoorHostL
namespace Go.Proofs.YtfdcklekjnihjaaDoor
open Go.RowKit Sc
set_option linter.unusedVariables false
set_option maxRecDepth 20000

def insN (ins : Bool) (x : UInt8) : Bool := if x = 93 then false else if x = 91 then true else ins
/-- How many bytes stand ahead of the first colon that is not between [ and ]. -/
def whereGo : Bool → List UInt8 → Nat
  | _, [] => 0
  | ins, x :: l => if ins = false ∧ x = 58 then 0 else 1 + whereGo (insN ins x) l
def portV (host l : List UInt8) (k : Nat) : List UInt8 × Int × Int :=
  if k = l.length then (host, 0, 0)
  else if (numV 65535 (l.drop (k + 1))).2 ≠ 0 ∨ (numV 65535 (l.drop (k + 1))).1 = 0 then ([], 0, 33) else (host, (numV 65535 (l.drop (k + 1))).1, 0)
def whereV (l : List UInt8) : List UInt8 × Int × Int :=
  if hostB (lowL (l.take (whereGo false l))) = true then portV (lowL (l.take (whereGo false l))) l (whereGo false l) else ([], 0, 32)

theorem whereGo_le (b : Bool) (l : List UInt8) : whereGo b l ≤ l.length := by
  induction l generalizing b with
  | nil => simp [whereGo]
  | cons x l ih =>
    rw [whereGo]
    split
    · simp
    · have := ih (insN b x); simp; omega

end Go.Proofs.YtfdcklekjnihjaaDoor
