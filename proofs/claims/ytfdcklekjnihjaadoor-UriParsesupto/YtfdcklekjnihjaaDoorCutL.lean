/-
  Texts cut at a sign, and parted by it. Of no program.
-/
namespace Go.Proofs.YtfdcklekjnihjaaDoor

/-- What stands ahead of the first sign, behind it, and whether there is one. -/
def cutL (c : UInt8) : List UInt8 → List UInt8 × List UInt8 × Bool
  | [] => ([], [], false)
  | x :: l => if x = c then ([], l, true) else (x :: (cutL c l).1, (cutL c l).2.1, (cutL c l).2.2)
/-- The parts between any two signs. -/
def splitL (c : UInt8) : List UInt8 → List (List UInt8)
  | [] => [[]]
  | x :: l => if x = c then [] :: splitL c l else (x :: (splitL c l).headD []) :: (splitL c l).tail

def hasL (c : UInt8) (l : List UInt8) : Bool := l.contains c

theorem cutL_miss {c : UInt8} {l : List UInt8} (h : c ∉ l) : cutL c l = (l, [], false) := by
  induction l with
  | nil => rfl
  | cons x l ih =>
    simp only [List.mem_cons, not_or] at h
    rw [cutL, if_neg (fun e => h.1 e.symm), ih h.2]
theorem cutL_hit {c : UInt8} {a b : List UInt8} (h : c ∉ a) : cutL c (a ++ c :: b) = (a, b, true) := by
  induction a with
  | nil => simp [cutL]
  | cons x a ih =>
    simp only [List.mem_cons, not_or] at h
    rw [List.cons_append, cutL, if_neg (fun e => h.1 e.symm), ih h.2]
theorem cutL_has (c : UInt8) (l : List UInt8) : (cutL c l).2.2 = hasL c l := by
  unfold hasL
  induction l with
  | nil => rfl
  | cons x l ih =>
    rw [cutL]
    by_cases h : x = c
    · simp [h]
    · rw [if_neg h]; simp [ih]; intro e; exact absurd e.symm h
theorem cutL_join (c : UInt8) (l : List UInt8) : (cutL c l).2.2 = true → l = (cutL c l).1 ++ c :: (cutL c l).2.1 := by
  induction l with
  | nil => intro h; simp [cutL] at h
  | cons x l ih =>
    rw [cutL]
    by_cases h : x = c
    · simp [h]
    · rw [if_neg h]; intro h2; simp only [List.cons_append]; rw [← ih h2]
theorem cutL_not (c : UInt8) (l : List UInt8) : (cutL c l).2.2 = false → cutL c l = (l, [], false) := by
  intro h
  apply cutL_miss
  rw [cutL_has, hasL] at h
  simpa using h
theorem cutL_len (c : UInt8) (l : List UInt8) : (cutL c l).1.length ≤ l.length ∧ (cutL c l).2.1.length ≤ l.length := by
  induction l with
  | nil => simp [cutL]
  | cons x l ih =>
    rw [cutL]
    by_cases h : x = c
    · simp [h]
    · rw [if_neg h]; simp; omega
theorem splitL_cons (c : UInt8) (l : List UInt8) : ∃ p ps, splitL c l = p :: ps := by
  cases l with
  | nil => exact ⟨_, _, rfl⟩
  | cons x l => rw [splitL]; split <;> exact ⟨_, _, rfl⟩
theorem splitL_cut (c : UInt8) (l : List UInt8) : splitL c l = if (cutL c l).2.2 = true then (cutL c l).1 :: splitL c (cutL c l).2.1 else [(cutL c l).1] := by
  induction l with
  | nil => rfl
  | cons x l ih =>
    rw [splitL, cutL]
    by_cases h : x = c
    · simp [h]
    · rw [if_neg h, if_neg h]
      simp only
      rw [ih]
      split <;> simp
theorem splitL_len (c : UInt8) (l : List UInt8) : (splitL c l).length ≤ l.length + 1 := by
  induction l with
  | nil => simp [splitL]
  | cons x l ih =>
    obtain ⟨p, ps, hp⟩ := splitL_cons c l
    rw [splitL]
    split
    · simp; omega
    · rw [hp] at ih ⊢; simp at ih ⊢; omega

end Go.Proofs.YtfdcklekjnihjaaDoor
