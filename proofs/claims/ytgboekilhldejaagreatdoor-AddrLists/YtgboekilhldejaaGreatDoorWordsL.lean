/-
  Words between blanks, one behind another. Plain facts.
-/
import Derived.Test.YtgboekilhldejaaGreatDoorANext
namespace Go.Proofs.YtgboekilhldejaaGreatDoor
open Go.RowKit Sc
set_option linter.unusedVariables false
set_option maxRecDepth 20000

theorem words_skip : ∀ r : List UInt8, wordsG [] r = wordsG [] (r.dropWhile blk)
  | [] => rfl
  | b :: r => by
    cases hb : blk b with
    | true => rw [words_blank1 hb, List.dropWhile_cons, if_pos hb]; exact words_skip r
    | false => rw [List.dropWhile_cons, if_neg (by rw [hb]; simp)]
theorem words_run : ∀ (one cur rest : List UInt8), (∀ b ∈ one, blk b = false) → wordsG cur (one ++ rest) = wordsG (cur ++ one) rest
  | [], cur, rest, h => by simp
  | b :: one, cur, rest, h => by
    rw [List.cons_append, words_sign (h b (by simp)), words_run one _ rest (fun x hx => h x (by simp [hx]))]; simp
theorem words_end {cur rest : List UInt8} (hc : cur ≠ []) (h : ∀ b, rest.head? = some b → blk b = true) : wordsG cur rest = cur :: wordsG [] rest := by
  cases rest with
  | nil => rw [wordsG, if_neg hc]; rfl
  | cons b r => rw [words_blank2 (h b rfl) hc, words_blank1 (h b rfl)]
theorem drop_split {L : List UInt8} {i j : Nat} (h : i ≤ j) : L.drop i = (L.drop i).take (j - i) ++ L.drop j := by
  have := (List.take_append_drop (j - i) (L.drop i)).symm
  rwa [List.drop_drop, show i + (j - i) = j by omega] at this
theorem words_next {L : List UInt8} {k i j : Nat} (h : NextW L k i j) (hne : (L.drop i).take (j - i) ≠ []) : wordsG [] (L.drop k) = (L.drop i).take (j - i) :: wordsG [] (L.drop j) := by
  rw [words_skip, h.skip, drop_split h.le2, words_run _ _ _ h.word, List.nil_append, words_end hne h.stop]
  rw [← drop_split h.le2]
theorem words_none {L : List UInt8} {k i j : Nat} (h : NextW L k i j) (hne : (L.drop i).take (j - i) = []) : L.drop i = [] := by
  cases hd : L.drop i with
  | nil => rfl
  | cons b r =>
    exfalso
    have hb := h.head b (by rw [hd]; rfl)
    rw [hd] at hne
    have hji : j - i = 0 := by
      cases hx : j - i with
      | zero => rfl
      | succ n => rw [hx] at hne; simp at hne
    have he : j = i := by have := h.le2; omega
    have := h.stop b (by rw [he, hd]; rfl)
    rw [hb] at this; cases this
def okD (b : UInt8) : Bool := blk b || tokc b
theorem all_skip : ∀ r : List UInt8, r.all okD = (r.dropWhile blk).all okD
  | [] => rfl
  | b :: r => by
    cases hb : blk b with
    | true => rw [List.all_cons, List.dropWhile_cons, if_pos hb, ← all_skip r]; simp [okD, hb]
    | false => rw [List.dropWhile_cons, if_neg (by rw [hb]; simp)]
theorem all_word {l : List UInt8} (h : ∀ b ∈ l, blk b = false) : l.all okD = allB 8 l := by
  induction l with
  | nil => rfl
  | cons b r ih =>
    have h1 := h b (by simp)
    have h2 := ih (fun x hx => h x (by simp [hx]))
    rw [List.all_cons, h2]
    have e : okD b = tokc b := by simp [okD, h1]
    rw [e]; rfl
theorem all_next {L : List UInt8} {k i j : Nat} (h : NextW L k i j) : (L.drop k).all okD = (allB 8 ((L.drop i).take (j - i)) && (L.drop j).all okD) := by
  rw [all_skip, h.skip, drop_split h.le2, List.all_append, all_word h.word]
  rw [← drop_split h.le2]
theorem join_cons (a : List UInt8) : ∀ {x : List (List UInt8)}, x ≠ [] → joinB (a :: x) = a ++ [32] ++ joinB x
  | [], h => absurd rfl h
  | b :: x, _ => rfl
theorem join_snoc : ∀ (ws : List (List UInt8)) (w : List UInt8), joinB (ws ++ [w]) = if ws = [] then w else joinB ws ++ [32] ++ w
  | [], w => rfl
  | a :: ws, w => by
    rw [if_neg (by simp), List.cons_append, join_cons a (by simp), join_snoc ws w]
    by_cases h : ws = []
    · subst h; rfl
    · rw [if_neg h, join_cons a h]; simp
theorem join_ne : ∀ (ws : List (List UInt8)), (∀ w ∈ ws, w ≠ []) → ws ≠ [] → joinB ws ≠ []
  | [], _, h => absurd rfl h
  | [a], h, _ => by simpa [joinB] using h a (by simp)
  | a :: b :: ws, h, _ => by
    rw [join_cons a (by simp)]; simp
/-- What words says. -/
def wordsR (s : List UInt8) : List UInt8 × Bool := if s.all okD = true then (joinB (wordsG [] s), decide ((joinB (wordsG [] s)).length ≤ 64)) else ([], false)

end Go.Proofs.YtgboekilhldejaaGreatDoor
