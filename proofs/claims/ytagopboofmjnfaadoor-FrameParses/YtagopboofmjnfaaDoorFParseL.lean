/-
  Messages as package frame reads them: plain facts.
-/
import Derived.Test.YtagopboofmjnfaaDoorFFirst
namespace Go.Proofs.YtagopboofmjnfaaDoor
open Go.RowKit Sc
set_option linter.unusedVariables false
set_option maxRecDepth 20000
set_option linter.unusedSimpArgs false

-- numbers up to a bound
def valG : Int → List UInt8 → Int
  | n, [] => n
  | n, b :: r => valG (10 * n + ((b.toNat : Int) - 48)) r
theorem valG_ge : ∀ (l : List UInt8) (n : Int), 0 ≤ n → allB 1 l = true → n ≤ valG n l
  | [], n, _, _ => Int.le_refl _
  | b :: r, n, h0, h => by
    have hb := u8_bd b
    have h1 : isB b.toNat 1 = true ∧ allB 1 r = true := by unfold allB at h ⊢; simpa using h
    rw [isB_digit _ hb.1 hb.2] at h1
    have h2 := of_decide_eq_true h1.1
    have := valG_ge r (10 * n + ((b.toNat : Int) - 48)) (by omega) h1.2
    unfold valG; omega
theorem numL_is (most : Int) (hm : 9 ≤ most) : ∀ (l : List UInt8) (n : Int), 0 ≤ n → n ≤ most → allB 1 l = true → numL most n l = if valG n l ≤ most then some (valG n l) else none
  | [], n, _, hn, _ => by rw [numL, valG, if_pos hn]
  | b :: r, n, h0, hn, h => by
    have hb := u8_bd b
    have h1 : isB b.toNat 1 = true ∧ allB 1 r = true := by unfold allB at h ⊢; simpa using h
    rw [isB_digit _ hb.1 hb.2] at h1
    have h2 := of_decide_eq_true h1.1
    have hg := valG_ge r (10 * n + ((b.toNat : Int) - 48)) (by omega) h1.2
    rw [numL, valG]
    by_cases hc : (b.toNat : Int) - 48 > most ∨ n > (most - ((b.toNat : Int) - 48)) / 10
    · rw [if_pos hc, if_neg (by omega)]
    · rw [if_neg hc, numL_is most hm r _ (by omega) (by omega) h1.2]
theorem numV_is {most : Int} (hm : 9 ≤ most) (l : List UInt8) : numV most l = if l = [] ∨ allB 1 l = false then (0, 10) else if valG 0 l ≤ most then (valG 0 l, 0) else (0, 9) := by
  unfold numV
  by_cases h : l = [] ∨ allB 1 l = false
  · rw [if_pos h, if_pos h]
  · rw [if_neg h, if_neg h, numL_is most hm l 0 (by omega) (by omega) (by simp only [not_or] at h; simpa using h.2)]
    by_cases h2 : valG 0 l ≤ most
    · rw [if_pos h2, if_pos h2]
    · rw [if_neg h2, if_neg h2]
theorem numV_nonneg {most : Int} (hm : 9 ≤ most) {l : List UInt8} (h : (numV most l).2 = 0) : 0 ≤ (numV most l).1 ∧ (numV most l).1 ≤ most := by
  rw [numV_is hm] at h ⊢
  split at h
  · simp at h
  · rename_i h1
    rw [if_neg h1]
    split at h
    · rename_i h2
      rw [if_pos h2]
      simp only [not_or] at h1
      exact ⟨valG_ge l 0 (Int.le_refl _) (by simpa using h1.2), h2⟩
    · simp at h
theorem num_699 {l : List UInt8} (h : (numV 699 l).2 = 0) : numV 999 l = numV 699 l := by
  rw [numV_is (by decide)] at h ⊢
  rw [numV_is (by decide)]
  split at h
  · simp at h
  · rename_i h1
    rw [if_neg h1, if_neg h1]
    split at h
    · rename_i h2; rw [if_pos h2, if_pos (by omega)]
    · simp at h
theorem num_999 {l : List UInt8} (h : (numV 999 l).2 = 0) (h2 : (numV 999 l).1 ≤ 699) : numV 699 l = numV 999 l := by
  rw [numV_is (by decide)] at h h2 ⊢
  rw [numV_is (by decide)]
  split at h
  · simp at h
  · rename_i h1
    rw [if_neg h1] at h2
    rw [if_neg h1, if_neg h1]
    split at h
    · rename_i h3
      rw [if_pos h3] at h2
      rw [if_pos (by simpa using h2), if_pos h3]
    · simp at h

-- the first line
def statusV (l : List UInt8) : Int × Bool := if l.length ≠ 3 then (0, false) else ((numV 699 l).1, decide ((numV 699 l).2 = 0))
def startC (s : List UInt8) : Ms × Bool :=
  if (cutL 32 (cutL 32 s).2.1).2.2 = false then (noM, false)
  else if sameB (cutL 32 s).1 versionK = true then
    (⟨[], [], (statusV (cutL 32 (cutL 32 s).2.1).1).1, (cutL 32 (cutL 32 s).2.1).2.1, [], []⟩, (statusV (cutL 32 (cutL 32 s).2.1).1).2 && firstB ⟨[], [], (statusV (cutL 32 (cutL 32 s).2.1).1).1, (cutL 32 (cutL 32 s).2.1).2.1, [], []⟩)
  else if sameB (cutL 32 (cutL 32 s).2.1).2.1 versionK = true then (⟨(cutL 32 s).1, (cutL 32 (cutL 32 s).2.1).1, 0, [], [], []⟩, firstB ⟨(cutL 32 s).1, (cutL 32 (cutL 32 s).2.1).1, 0, [], [], []⟩)
  else (noM, false)
theorem first_status {st : Int} {re : List UInt8} (h : firstB ⟨[], [], st, re, [], []⟩ = true) : 100 ≤ st ∧ st ≤ 699 := by
  unfold firstB at h
  simp at h
  exact h.1
theorem first_none (b : List UInt8) : firstB ⟨[], b, 0, [], [], []⟩ = false := by
  unfold firstB
  simp
theorem cut_more {c : UInt8} {s : List UInt8} (h : (cutL c s).2.2 = false) : (cutL c (cutL c s).2.1).2.2 = false := by
  rcases idx_cases s c with ⟨h1, _⟩ | ⟨a, b, rfl, h2, _⟩
  · rw [cutL_miss h1]; rfl
  · rw [cutL_hit h2] at h; simp at h
theorem start_is (s : List UInt8) : startV s = if (startC s).2 = true then some (startC s).1 else none := by
  unfold startV startC
  have hmore := @cut_more 32 s
  generalize cutL 32 s = p at hmore
  obtain ⟨a, r, ok1⟩ := p
  simp only at hmore ⊢
  generalize cutL 32 r = q at hmore
  obtain ⟨b, c, ok⟩ := q
  simp only at hmore ⊢
  cases ok with
  | false => simp
  | true =>
    have ho : ok1 = true := by
      cases ok1 with
      | true => rfl
      | false => simp at hmore
    subst ho
    rw [if_neg (by simp)]
    simp only [Bool.true_eq_false, if_false]
    cases hs : sameB a versionK with
    | true =>
      simp only [if_true]
      unfold statusV
      by_cases hl : b.length = 3
      · have hl' : ¬ b.length ≠ 3 := by simp [hl]
        rw [if_neg hl']
        simp only
        by_cases hn : (numV 699 b).2 = 0
        · rw [num_699 hn]
          by_cases hf : firstB ⟨[], [], (numV 699 b).1, c, [], []⟩ = true
          · rw [if_pos ⟨hn, hl, hf⟩, if_pos (by simp [hn, hf])]
          · rw [if_neg (fun h => hf h.2.2), if_neg (by simp [hf])]
        · rw [if_neg (fun h => hn ?_), if_neg (by simp [hn])]
          have hst := first_status h.2.2
          rw [num_999 h.1 hst.2]; exact h.1
      · rw [if_neg (fun h => hl h.2.1), if_pos hl]; simp
    | false =>
      simp only [Bool.false_eq_true, if_false]
      cases hv : sameB c versionK with
      | true =>
        simp only [if_true]
        by_cases ha : a = []
        · subst ha; rw [first_none]; simp
        · by_cases hf : firstB ⟨a, b, 0, [], [], []⟩ = true
          · rw [if_pos ⟨ha, hf, by simp⟩, if_pos hf]
          · rw [if_neg (fun h => hf h.2.1), if_neg hf]
      | false => simp

-- headers
theorem tok_one : ∀ b : UInt8, lowb b ∈ longT.map Prod.fst → tokenB [b] = true := by apply byte_all; decide +kernel
theorem tok_longT : ∀ x ∈ longT, tokenB x.2 = true := by decide +kernel
theorem tok_long (l : List UInt8) : tokenB (longV l) = tokenB l := by
  rcases long_cases l with ⟨k, hk, h1, h2⟩ | ⟨_, h2⟩
  · rw [h2, tok_longT _ (List.getElem_mem hk)]
    have hl : l.length = 1 := by have := congrArg List.length h1; rw [lowL_len] at this; simpa using this
    match l, hl with
    | [b], _ =>
      symm
      apply tok_one
      have : lowb b = longT[k].1 := by simpa [lowL] using h1
      rw [this]
      exact List.mem_map_of_mem (List.getElem_mem hk)
  · rw [h2]
theorem blk_vis : ∀ b : UInt8, blk b = true → visc b = true := by apply byte_all; decide +kernel
theorem vis_dropW : ∀ l : List UInt8, visB (l.dropWhile blk) = visB l
  | [] => rfl
  | b :: l => by
    rw [List.dropWhile_cons]
    split
    · rename_i h; rw [vis_dropW l]; simp [visB, blk_vis b h]
    · rfl
theorem vis_rev (l : List UInt8) : visB l.reverse = visB l := by simp [visB]
theorem vis_trim (l : List UInt8) : visB (trimL l) = visB l := by
  unfold trimL
  rw [vis_rev, vis_dropW, vis_rev, vis_dropW]
def headerC (t : List UInt8) : Hdr × Bool := (⟨longV (behindL (cutL 58 t).1), trimL (cutL 58 t).2.1⟩, (cutL 58 t).2.2 && (tokenB (behindL (cutL 58 t).1) && visB (cutL 58 t).2.1))
theorem header_is (t : List UInt8) : (headerC t).2 = false ↔ ((cutL 58 t).2.2 = false ∨ tokenB (longV (behindL (cutL 58 t).1)) = false ∨ visB (trimL (cutL 58 t).2.1) = false) := by
  unfold headerC
  rw [tok_long, vis_trim]
  simp only [Bool.and_eq_false_iff]
def headersC : List Hdr → Int → List (List UInt8) → List Hdr × Int × Int
  | l, n, [] => (l, n, 0)
  | l, n, t :: ts =>
    if (headerC t).2 = false then ([], 0, 61)
    else if lengthB (headerC t).1.name = true then
      (if (numV 4096 (headerC t).1.value).2 ≠ 0 ∨ 0 ≤ n then ([], 0, 62) else headersC l (numV 4096 (headerC t).1.value).1 ts)
    else if l.length = 64 then ([], 0, 4) else headersC (l ++ [(headerC t).1]) n ts
def sizeV (rest : List UInt8) (n : Int) : Int := if n < 0 then rest.length else n
def endC (rest : List UInt8) (m : Ms) (r : List Hdr × Int × Int) : Ms × Int :=
  if r.2.2 ≠ 0 then (noM, r.2.2) else if (rest.length : Int) < sizeV rest r.2.1 then (noM, 62) else ({ m with headers := r.1, body := rest.take (sizeV rest r.2.1).toNat }, 0)
theorem hdrG_is (rest : List UInt8) : ∀ (ts : List (List UInt8)) (m : Ms) (size : Nat) (told : Bool) (n : Int), told = decide (0 ≤ n) → (size : Int) = sizeV rest n → m.headers.length ≤ 64 →
    hdrG rest m size told ts = endC rest m (headersC m.headers n ts)
  | [], m, size, told, n, ht, hs, hl => by
    rw [hdrG, headersC, endC]
    simp only [ne_eq, not_true_eq_false, if_false]
    by_cases h : rest.length < size
    · rw [if_pos h, if_pos (by omega)]
    · rw [if_neg h, if_neg (by omega), ← hs]; simp
  | t :: ts, m, size, told, n, ht, hs, hl => by
    rw [hdrG, headersC]
    by_cases h1 : (headerC t).2 = false
    · rw [if_pos ((header_is t).1 h1), if_pos h1, endC, if_pos (by decide)]
    · rw [if_neg (fun h => h1 ((header_is t).2 h)), if_neg h1]
      have e1 : (headerC t).1.name = longV (behindL (cutL 58 t).1) := rfl
      have e2 : (headerC t).1.value = trimL (cutL 58 t).2.1 := rfl
      have e3 : (headerC t).1 = ⟨longV (behindL (cutL 58 t).1), trimL (cutL 58 t).2.1⟩ := rfl
      rw [← e1, ← e2]
      cases hlb : lengthB (headerC t).1.name with
      | true =>
        rw [if_neg (by simp), if_pos rfl]
        by_cases h2 : (numV 4096 (headerC t).1.value).2 ≠ 0 ∨ told = true
        · rw [if_pos h2, if_pos (h2.imp id fun h => by rw [ht] at h; exact of_decide_eq_true h), endC, if_pos (by decide)]
        · simp only [not_or, Decidable.not_not] at h2
          have hn : ¬ (0 ≤ n) := by have := h2.2; rw [ht] at this; simpa using this
          have hnn := numV_nonneg (by decide) h2.1
          rw [if_neg (by simp [h2]), if_neg (by simp [h2.1]; omega)]
          refine hdrG_is rest ts m _ true _ (by simp [hnn.1]) ?_ hl
          rw [sizeV, if_neg (by omega)]; omega
      | false =>
        rw [if_pos (rfl : false = false), if_neg Bool.false_ne_true]
        by_cases h3 : m.headers.length = 64
        · rw [if_pos (by omega), if_pos h3, endC, if_pos (by decide)]
        · rw [if_neg (by omega), if_neg h3]
          have := hdrG_is rest ts { m with headers := m.headers ++ [(headerC t).1] } size told n ht hs (by simp; omega)
          rw [e3] at this ⊢
          exact this
theorem headers_len : ∀ (ts : List (List UInt8)) (l : List Hdr) (n : Int), l.length ≤ 64 → (headersC l n ts).1.length ≤ 64
  | [], l, n, h => h
  | t :: ts, l, n, h => by
    rw [headersC]
    split
    · simp
    · split
      · split
        · simp
        · exact headers_len ts l _ h
      · split
        · simp
        · exact headers_len ts _ n (by simp; omega)

-- the whole
theorem parse_long {s : List UInt8} (h : 4096 < s.length) : parseM s = (noM, 2) := by rw [parseM, if_pos h]
theorem parse_end {s : List UInt8} (h : ¬ 4096 < s.length) (he : (Lib.cut s crlf4).2.2 = false ∨ List.isPrefixOf crlf s = true) : parseM s = (noM, 63) := by
  rw [parseM, if_neg h]
  cases hp : List.isPrefixOf crlf s with
  | true =>
    obtain ⟨r, hr⟩ := List.isPrefixOf_iff_prefix.1 hp
    have : headV s = some ([], r) := by rw [headF_is, ← hr]; exact headF_end (line_hit r)
    rw [this]; rfl
  | false =>
    have hc : (Lib.cut s crlf4).2.2 = false := by
      rcases he with h1 | h1
      · exact h1
      · rw [hp] at h1; cases h1
    have := (head_cut s.length s [] (Nat.le_refl _) hp).1
    rw [if_neg (by rw [hc]; simp)] at this
    rw [headF_is, this]
theorem parse_lines {s a b : List UInt8} (h : ¬ 4096 < s.length) (hc : Lib.cut s crlf4 = (a, b, true)) (hp : List.isPrefixOf crlf s = false) :
    parseM s = if (startC ((linesV a).headD [])).2 = false then (noM, 60) else endC b (startC ((linesV a).headD [])).1 (headersC [] (-1) (linesV a).tail) := by
  have hh := (head_cut s.length s [] (Nat.le_refl _) hp).1
  rw [hc, if_pos rfl] at hh
  have hv : headV s = some (linesV a, b) := by rw [headF_is]; exact hh
  have hl := (lines_len a).2.1
  rw [parseM, if_neg h, hv]
  simp only
  rw [if_neg (by intro e; rw [e] at hl; simp at hl), start_is]
  cases hs : (startC ((linesV a).headD [])).2 with
  | false => simp
  | true =>
    simp only [if_true, Bool.true_eq_false, if_false]
    have hm : (startC ((linesV a).headD [])).1.headers = [] := by
      unfold startC
      split
      · rfl
      · split
        · rfl
        · split <;> rfl
    have := hdrG_is b (linesV a).tail (startC ((linesV a).headD [])).1 b.length false (-1) (by simp) (by simp [sizeV]) (by rw [hm]; simp)
    rw [this, hm]
theorem lines_ne {s a b : List UInt8} (hc : Lib.cut s crlf4 = (a, b, true)) (hp : List.isPrefixOf crlf s = false) : ∀ t ∈ Lib.split a crlf, t ≠ [] := by
  have hh := (head_cut s.length s [] (Nat.le_refl _) hp).2
  rw [hc] at hh
  exact hh rfl

end Go.Proofs.YtagopboofmjnfaaDoor
