/-
  What stands in an element, by places: plain facts.
-/
import Derived.Test.YtnijlmkodgdhlaaDoorRX12L
namespace Go.Proofs.YtnijlmkodgdhlaaDoor
open Go.RowKit Sc
set_option linter.unusedVariables false
set_option maxRecDepth 20000
set_option linter.unusedSimpArgs false

mutual
theorem elem_cap : ∀ (n d c : Nat) (s : List UInt8) (l : List Nd) (r : List UInt8), elemX n d c s = some (l, r) → c + l.length ≤ 200
  | 0, _, _, _, _, _, h => by rw [elemX] at h; cases h
  | n + 1, d, c, s, l, r, h => by
    cases s with
    | nil => simp [elemX] at h
    | cons b q =>
      rw [elemX] at h
      split at h
      · cases h
      · next hc =>
        split at h
        · cases h
        · split at h
          · cases h
          · split at h
            · simp only [Option.some.injEq, Prod.mk.injEq] at h
              rw [← h.1]
              simp only [List.length_cons, List.length_nil]
              omega
            · exact cont_cap n _ _ _ _ _ _ _ _ (by simp; omega) h
            · cases h
theorem cont_cap : ∀ (n : Nat) (x : Nd) (d c : Nat) (txt : List UInt8) (kids : List Nd) (s : List UInt8) (l : List Nd) (r : List UInt8), c + 1 + kids.length ≤ 200 → contX n x d c txt kids s = some (l, r) → c + l.length ≤ 200
  | 0, _, _, _, _, _, _, _, _, _, h => by rw [contX] at h; cases h
  | n + 1, x, d, c, txt, kids, s, l, r, hk, h => by
    rw [contX] at h
    split at h
    · cases h
    · split at h
      · split at h
        · cases h
        · split at h
          · cases hv : readX (xtrim (txt ++ s.takeWhile (· != 60))) with
            | none => rw [hv] at h; cases h
            | some t =>
              rw [hv] at h
              simp only [Option.map_some, Option.some.injEq, Prod.mk.injEq] at h
              rw [← h.1]
              simp only [List.length_cons]
              omega
          · cases h
      · split at h
        · cases h
        · next ks r3 he =>
          have h1 := elem_cap n _ _ _ _ _ he
          exact cont_cap n _ _ _ _ _ _ _ _ (by rw [List.length_append]; omega) h
end
section
variable {l : List UInt8} {k tq m d c : Nat} {x : Nd} {txt : List UInt8} {kids : List Nd}
theorem run60 (hk : k ≤ l.length) (htq : tq = runL (· != 60) l k) (hl : tq < l.length) : l[tq] = 60 := by
  obtain ⟨c, r, h1, h2⟩ := run_at hk (htq ▸ hl)
  rw [← run_drop, ← htq, List.drop_eq_getElem_cons hl] at h1
  injection h1 with h1 _
  rw [h1]
  simpa using h2
theorem cont_end (hk : k ≤ l.length) (htq : tq = runL (· != 60) l k) (hl : tq = l.length) : contX (m + 1) x d c txt kids (l.drop k) = none := by
  rw [contX, ← run_drop, ← htq, hl, List.drop_length]
theorem isAt_two (h : tq < l.length) (h6 : l[tq] = 60) : isAt l tq [60, 47] = decide ((l.drop (tq + 1)).head? = some 47) := by
  unfold isAt
  rw [List.drop_eq_getElem_cons h, h6]
  cases hd : l.drop (tq + 1) with
  | nil => simp
  | cons a b => simp
theorem cont_in (hk : k ≤ l.length) (htq : tq = runL (· != 60) l k) (hl : tq < l.length) (h : isAt l tq [60, 47] = false) :
    contX (m + 1) x d c txt kids (l.drop k) = match elemX m (d + 1) (c + 1 + kids.length) (l.drop tq) with | none => none | some (ks, r3) => contX m x d c (txt ++ (l.drop k).take (tq - k)) (kids ++ ks) r3 := by
  have h6 := run60 hk htq hl
  rw [isAt_two hl h6] at h
  rw [contX, htq, ← run_drop, ← run_take, ← htq, List.drop_eq_getElem_cons hl]
  simp only
  rw [if_neg (by simpa using h)]
  generalize elemX m (d + 1) (c + 1 + kids.length) (l[tq] :: l.drop (tq + 1)) = E
  cases E <;> rfl
/-- How the element ends. -/
def closeT (l : List UInt8) (tq : Nat) (x : Nd) (txt : List UInt8) (kids : List Nd) : Option (List Nd × List UInt8) :=
  if isAt l tq ([60, 47] ++ x.name) = false then none
  else if l[runL xblk l (tq + 2 + x.name.length)]? = some 62 then (readX (xtrim txt)).map fun t => ({ x with text := xtrim t } :: kids, l.drop (runL xblk l (tq + 2 + x.name.length) + 1))
  else none
theorem cont_out (hk : k ≤ l.length) (htq : tq = runL (· != 60) l k) (hl : tq < l.length) (h : isAt l tq [60, 47] = true) :
    contX (m + 1) x d c txt kids (l.drop k) = closeT l tq x (txt ++ (l.drop k).take (tq - k)) kids := by
  have h6 := run60 hk htq hl
  rw [isAt_two hl h6] at h
  have h7 : (l.drop (tq + 1)).head? = some 47 := by simpa using h
  obtain ⟨q, hq⟩ : ∃ q, l.drop (tq + 1) = 47 :: q := by
    cases hd : l.drop (tq + 1) with
    | nil => rw [hd] at h7; cases h7
    | cons a b => rw [hd] at h7; simp at h7; exact ⟨b, by rw [h7]⟩
  have hq2 : l.drop (tq + 2) = q := by
    have := congrArg (List.drop 1) hq
    simpa [List.drop_drop] using this
  rw [contX, htq, ← run_drop, ← run_take, ← htq, List.drop_eq_getElem_cons hl]
  simp only
  rw [if_pos h7, hq]
  simp only [List.tail_cons]
  have hi : isAt l tq ([60, 47] ++ x.name) = decide (q.take x.name.length = x.name) := by
    unfold isAt
    rw [List.drop_eq_getElem_cons hl, h6, hq]
    simp
  unfold closeT
  rw [hi]
  by_cases hn : q.take x.name.length = x.name
  · have hA : ¬ (decide (q.take x.name.length = x.name) = false) := by simp [hn]
    rw [if_neg hA]
    refine Eq.trans (if_neg (fun h => h hn)) ?_
    have hd : (q.drop x.name.length).dropWhile xblk = l.drop (runL xblk l (tq + 2 + x.name.length)) := by rw [run_drop, ← hq2, List.drop_drop]
    rw [hd]
    generalize runL xblk l (tq + 2 + x.name.length) = e
    by_cases he : l[e]? = some 62
    · rw [if_pos he, drop_get he]
      rfl
    · rw [if_neg he]
      split
      · next r3 h9 =>
        exfalso
        apply he
        have := congrArg List.head? h9
        rw [List.head?_drop] at this
        simpa using this
      · rfl
  · have hA : decide (q.take x.name.length = x.name) = false := by simp [hn]
    rw [if_pos hA]
    exact if_pos hn
end
end Go.Proofs.YtnijlmkodgdhlaaDoor
