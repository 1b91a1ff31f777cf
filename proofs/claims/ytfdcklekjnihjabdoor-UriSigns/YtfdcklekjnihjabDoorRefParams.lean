/-
  The contract of the document's own parameters.
-/
import Derived.Test.YtfdcklekjnihjabDoorParOwn
namespace Go.Proofs.YtfdcklekjnihjabDoor
open Go.RowKit Sc
set_option linter.unusedVariables false
set_option maxRecDepth 20000

/-- The slice v holds the texts ls. -/
def StrsAt (w : World) (v : Value) (ls : List (List UInt8)) : Prop :=
  ∃ (ao : Option Addr) (cap : Nat), v = .slice ao ls.length cap ∧ ∀ k (hk : k < ls.length), ∃ a, ao = some a ∧ a.block < w.heap.size ∧ w.cell? (a.add k) = some (.string ⟨ls[k].toArray⟩)
theorem StrsAt.below {w w' : World} {v : Value} {ls : List (List UInt8)} (h : StrsAt w v ls) (hb : Below w.heap.size w w') : StrsAt w' v ls := by
  obtain ⟨ao, cap, hv, hc⟩ := h
  refine ⟨ao, cap, hv, fun k hk => ?_⟩
  obtain ⟨a, e, ha, hcell⟩ := hc k hk
  exact ⟨a, e, Nat.lt_of_lt_of_le ha hb.size, cell_below hb (by rw [add_block]; exact ha) hcell⟩
theorem parsOf_snoc (keep : List UInt8) (ls : List (List UInt8)) (l : List UInt8) : parsOf keep (ls ++ [l]) = match parsOf keep ls, parOf keep l with | some ps, some p => some (ps ++ [p]) | _, _ => none := by
  induction ls with
  | nil =>
    rw [List.nil_append, parsOf, parsOf]
    cases parOf keep l <;> rfl
  | cons x ls ih =>
    rw [List.cons_append, parsOf, parsOf, ih]
    cases parOf keep x <;> cases parsOf keep ls <;> cases parOf keep l <;> rfl
theorem parsOf_bad {keep : List UInt8} {ls : List (List UInt8)} {k : Nat} (hk : k < ls.length) (h : parOf keep ls[k] = none) : parsOf keep ls = none := by
  induction ls generalizing k with
  | nil => simp at hk
  | cons x ls ih =>
    rw [parsOf]
    cases k with
    | zero => simp at h; rw [h]
    | succ k =>
      rw [ih (by simpa using hk) (by simpa using h)]
      cases parOf keep x <;> rfl
theorem parsOf_len {keep : List UInt8} {ls : List (List UInt8)} {ps : List Par} (h : parsOf keep ls = some ps) : ps.length = ls.length := by
  induction ls generalizing ps with
  | nil => simp [parsOf] at h; subst h; rfl
  | cons x ls ih =>
    rw [parsOf] at h
    cases hx : parOf keep x with
    | none => rw [hx] at h; simp at h
    | some p =>
      cases hl : parsOf keep ls with
      | none => rw [hx, hl] at h; simp at h
      | some qs => rw [hx, hl] at h; simp at h; subst h; simp [ih hl]
theorem parOf_some {keep l : List UInt8} (h1 : (writtenV keep (cutL 61 l).1).2 = true) (h2 : (writtenV keep (cutL 61 l).2.1).2 = true) : parOf keep l = some ⟨(writtenV keep (cutL 61 l).1).1, (writtenV keep (cutL 61 l).2.1).1, (cutL 61 l).2.2⟩ := by
  rw [parOf, if_pos ⟨h1, h2⟩]
theorem parOf_none {keep l : List UInt8} (h : ¬ ((writtenV keep (cutL 61 l).1).2 = true ∧ (writtenV keep (cutL 61 l).2.1).2 = true)) : parOf keep l = none := by
  rw [parOf, if_neg h]
def ParsRes (keep : List UInt8) (ls : List (List UInt8)) (w w' : World) (v : Value) (b : Bool) : Prop :=
  (∃ ps, parsOf keep ls = some ps ∧ b = true ∧ OwnP w' w.heap.size v ps) ∨ (parsOf keep ls = none ∧ b = false ∧ v = .slice none 0 0)

end Go.Proofs.YtfdcklekjnihjabDoor
