/-
  Contracts of Unquote.
-/
import Derived.Test.YtfdcklekjnihjaaDoorQuote
import Derived.Test.YtfdcklekjnihjaaDoorParts
namespace Go.Proofs.YtfdcklekjnihjaaDoor
open Go.RowKit Sc
set_option linter.unusedVariables false
set_option maxRecDepth 20000

def badB (c : Int) : Bool := barB c || decide (127 < c)
/-- What stands between the marks of a quoted text, without the backslashes. -/
def unq : List UInt8 → Option (List UInt8)
  | [] => some []
  | [b] => if bareB b.toNat then some [b] else none
  | b :: c :: r => if (b.toNat : Int) = 92 then (if badB c.toNat then none else (unq r).map (c :: ·)) else if bareB b.toNat then (unq (c :: r)).map (b :: ·) else none

theorem unq_esc {b c : UInt8} {r : List UInt8} (h : (b.toNat : Int) = 92) : unq (b :: c :: r) = if badB c.toNat then none else (unq r).map (c :: ·) := by
  rw [unq, if_pos h]
theorem unq_plain {b : UInt8} {r : List UInt8} (h : (b.toNat : Int) ≠ 92 ∨ r = []) : unq (b :: r) = if bareB b.toNat then (unq r).map (b :: ·) else none := by
  cases r with
  | nil => simp [unq]
  | cons c r => rw [unq, if_neg (by rcases h with h | h; exact h; cases h)]
theorem map_snoc (acc : List UInt8) (b : UInt8) (x : Option (List UInt8)) : (x.map (b :: ·)).map (acc ++ ·) = x.map ((acc ++ [b]) ++ ·) := by
  cases x <;> simp

def unquoteV (l : List UInt8) : List UInt8 × Int :=
  if l.length < 2 ∨ l[0]?.map (·.toNat) ≠ some 34 ∨ l[l.length - 1]?.map (·.toNat) ≠ some 34 then ([], 11)
  else match unq (mid l 1 (l.length - 1)) with | some r => (r, 0) | none => ([], 11)

theorem unquoteV_some {l r : List UInt8} (h : ¬ (l.length < 2 ∨ l[0]?.map (·.toNat) ≠ some 34 ∨ l[l.length - 1]?.map (·.toNat) ≠ some 34)) (hr : unq (mid l 1 (l.length - 1)) = some r) : unquoteV l = (r, 0) := by
  rw [unquoteV, if_neg h, hr]
theorem unquoteV_none {l : List UInt8} (h : ¬ (l.length < 2 ∨ l[0]?.map (·.toNat) ≠ some 34 ∨ l[l.length - 1]?.map (·.toNat) ≠ some 34)) (hr : unq (mid l 1 (l.length - 1)) = none) : unquoteV l = ([], 11) := by
  rw [unquoteV, if_neg h, hr]
theorem unquoteV_bad {l : List UInt8} (h : l.length < 2 ∨ l[0]?.map (·.toNat) ≠ some 34 ∨ l[l.length - 1]?.map (·.toNat) ≠ some 34) : unquoteV l = ([], 11) := by
  rw [unquoteV, if_pos h]

/-- A loop's state: what is read so far is acc. -/
def UnqAt (l : List UInt8) (acc rest : List UInt8) : Prop := unq l = (unq rest).map (acc ++ ·)
theorem unqAt0 (l : List UInt8) : UnqAt l [] l := by unfold UnqAt; cases unq l <;> simp
theorem unqAt_end {l acc : List UInt8} (h : UnqAt l acc []) : unq l = some acc := by rw [h]; simp [unq]
theorem unqAt_esc {l acc : List UInt8} {b c : UInt8} {r : List UInt8} (h : UnqAt l acc (b :: c :: r)) (hb : (b.toNat : Int) = 92) (hc : badB c.toNat = false) : UnqAt l (acc ++ [c]) r := by
  unfold UnqAt at *
  rw [h, unq_esc hb, hc]; simp only [Bool.false_eq_true, if_false]; exact map_snoc acc c (unq r)
theorem unqAt_bad {l acc : List UInt8} {b c : UInt8} {r : List UInt8} (h : UnqAt l acc (b :: c :: r)) (hb : (b.toNat : Int) = 92) (hc : badB c.toNat = true) : unq l = none := by
  unfold UnqAt at h
  rw [h, unq_esc hb, hc]; rfl
theorem unqAt_bare {l acc : List UInt8} {b : UInt8} {r : List UInt8} (h : UnqAt l acc (b :: r)) (hb : (b.toNat : Int) ≠ 92 ∨ r = []) (hc : bareB b.toNat = true) : UnqAt l (acc ++ [b]) r := by
  unfold UnqAt at *
  rw [h, unq_plain hb, hc]; simp only [if_true]; exact map_snoc acc b (unq r)
theorem unqAt_not {l acc : List UInt8} {b : UInt8} {r : List UInt8} (h : UnqAt l acc (b :: r)) (hb : (b.toNat : Int) ≠ 92 ∨ r = []) (hc : bareB b.toNat = false) : unq l = none := by
  unfold UnqAt at h
  rw [h, unq_plain hb, hc]; rfl
theorem byteCells_snoc (l : List UInt8) (b : UInt8) : Lib.byteCells l ++ Lib.byteCells [b] = Lib.byteCells (l ++ [b]) := by rw [← Lib.byteCells_append]

theorem first_at {s : ByteArray} (h : 0 < s.size) : s.data.toList[0]?.map (·.toNat) = some (s[0]'h).toNat := by
  rw [getL s 0 h]; rfl
theorem last_at {s : ByteArray} (h : s.size - 1 < s.size) : s.data.toList[s.data.toList.length - 1]?.map (·.toNat) = some (s[s.size - 1]'h).toNat := by
  rw [len_data, getL s (s.size - 1) h]; rfl
theorem marks_ok {s : ByteArray} (h2 : 2 ≤ s.size) (hp0 : 0 < s.size) (hp1 : s.size - 1 < s.size) (h0 : ((s[0]'hp0).toNat : Int) = 34) (h1 : ((s[s.size - 1]'hp1).toNat : Int) = 34) :
    ¬ (s.data.toList.length < 2 ∨ s.data.toList[0]?.map (·.toNat) ≠ some 34 ∨ s.data.toList[s.data.toList.length - 1]?.map (·.toNat) ≠ some 34) := by
  rw [first_at hp0, last_at hp1, len_data]
  rintro (h | h | h)
  · omega
  · exact h (by congr 1; omega)
  · exact h (by congr 1; omega)

theorem badB_split {c : Int} (h : badB c = false) : barB c = false ∧ c ≤ 127 := by
  simp only [badB, Bool.or_eq_false_iff, decide_eq_false_iff_not] at h; exact ⟨h.1, by omega⟩

end Go.Proofs.YtfdcklekjnihjaaDoor
