/-
  The contract of Quote.
-/
import Derived.Test.YtfdcklekjnihjaaDoorTexts
namespace Go.Proofs.YtfdcklekjnihjaaDoor
open Go.RowKit Sc
set_option linter.unusedVariables false
set_option maxRecDepth 20000

/-- The bytes of a quoted text, between its marks. -/
def quo : List UInt8 → List UInt8
  | [] => []
  | b :: r => (if bareB b.toNat then [b] else [92, b]) ++ quo r
def hasBar (l : List UInt8) : Bool := l.any fun b => barB b.toNat
def quoteV (l : List UInt8) : List UInt8 × Int := if hasBar l then ([], 11) else (34 :: quo l ++ [34], 0)

theorem quo_append (a b : List UInt8) : quo (a ++ b) = quo a ++ quo b := by
  induction a with
  | nil => rfl
  | cons x r ih => simp only [List.cons_append, quo, ih, List.append_assoc]
theorem quo_len (l : List UInt8) : (quo l).length ≤ 2 * l.length := by
  induction l with
  | nil => simp [quo]
  | cons x r ih => simp only [quo, List.length_append, List.length_cons]; split <;> simp <;> omega
theorem quo_snoc1 (l : List UInt8) (b : UInt8) (h : bareB b.toNat = true) : quo (l ++ [b]) = quo l ++ [b] := by simp [quo_append, quo, h]
theorem quo_snoc2 (l : List UInt8) (b : UInt8) (h : bareB b.toNat = false) : quo (l ++ [b]) = quo l ++ [92] ++ [b] := by simp [quo_append, quo, h]
theorem hasBar_hit {s : ByteArray} {k : Nat} (h : k < s.size) (hb : barB s[k].toNat = true) : hasBar s.data.toList = true := by
  rw [hasBar, List.any_eq_true]
  exact ⟨s[k], List.mem_of_getElem? (getL s k h), hb⟩
theorem hasBar_snoc (l : List UInt8) (b : UInt8) : hasBar (l ++ [b]) = (hasBar l || barB b.toNat) := by simp [hasBar]

theorem ret_str {p : List UInt8 × Int} (a : List UInt8) (b : Int) (h : p = (a, b)) : Ending.returned (.tuple #[.string ⟨a.toArray⟩, .int .i64 b]) = .returned (.tuple #[.string ⟨p.1.toArray⟩, .int .i64 p.2]) := by rw [h]

theorem quo_cells1 (l : List UInt8) (b : UInt8) (h : bareB b.toNat = true) : Lib.byteCells (34 :: quo l) ++ Lib.byteCells [b] = Lib.byteCells (34 :: quo (l ++ [b])) := by
  rw [quo_snoc1 l b h, ← Lib.byteCells_append]; rfl
theorem quo_cells2 (l : List UInt8) (b : UInt8) (h : bareB b.toNat = false) : Lib.byteCells (34 :: quo l) ++ Lib.byteCells [92] ++ Lib.byteCells [b] = Lib.byteCells (34 :: quo (l ++ [b])) := by
  rw [quo_snoc2 l b h, ← Lib.byteCells_append, ← Lib.byteCells_append]; rfl
theorem quo_cells_len (l : List UInt8) : (Lib.byteCells (34 :: quo l)).length ≤ 2 * l.length + 1 := by
  rw [Lib.byteCells_length]; have := quo_len l; simp; omega

end Go.Proofs.YtfdcklekjnihjaaDoor
