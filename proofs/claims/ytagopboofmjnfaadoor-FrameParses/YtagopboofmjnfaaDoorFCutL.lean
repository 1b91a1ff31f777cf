/-
  Lines by cutting and splitting: plain facts.
-/
import Derived.Test.YtagopboofmjnfaaDoorFI
import Derived.Lib.SplitLaws
namespace Go.Proofs.YtagopboofmjnfaaDoor
open Go.RowKit Sc
set_option linter.unusedVariables false
set_option maxRecDepth 20000
set_option linter.unusedSimpArgs false

def crlf4 : List UInt8 := [13, 10, 13, 10]
theorem pre2_is (b : UInt8) (l : List UInt8) : List.isPrefixOf crlf (b :: l) = decide (b = 13 ∧ l.head? = some 10) := by
  cases l with
  | nil => simp [crlf, List.isPrefixOf]
  | cons c l =>
    simp only [crlf, List.isPrefixOf, List.head?_cons, Bool.and_true]
    rw [Bool.eq_iff_iff]; simp
    constructor <;> rintro ⟨a, b⟩ <;> exact ⟨a.symm, b.symm⟩
theorem pre4_no {b : UInt8} {l : List UInt8} (h : ¬ (b = 13 ∧ l.head? = some 10)) : List.isPrefixOf crlf4 (b :: l) = false := by
  cases l with
  | nil => simp [crlf4, List.isPrefixOf]
  | cons c l =>
    simp only [crlf4, List.isPrefixOf]
    simp at h
    by_cases hb : b = 13
    · have := h hb
      simp [this, Ne.symm this]
    · simp [Ne.symm hb]
theorem pre4_yes (r : List UInt8) : List.isPrefixOf crlf4 (13 :: 10 :: r) = List.isPrefixOf crlf r := by
  simp [crlf4, crlf, List.isPrefixOf]
theorem ix_step (b : UInt8) (l sub : List UInt8) : Lib.index (b :: l) sub = if List.isPrefixOf sub (b :: l) then 0 else if Lib.index l sub == -1 then -1 else Lib.index l sub + 1 := by rw [Lib.index]
theorem ix_no {b : UInt8} {l sub : List UInt8} (h : List.isPrefixOf sub (b :: l) = false) : Lib.index (b :: l) sub = if Lib.index l sub = -1 then -1 else Lib.index l sub + 1 := by
  rw [ix_step, h]
  by_cases e : Lib.index l sub = -1 <;> simp [e]
theorem ix_yes {b : UInt8} {l sub : List UInt8} (h : List.isPrefixOf sub (b :: l) = true) : Lib.index (b :: l) sub = 0 := by rw [ix_step, h]; simp

/-- Where the first line ends. -/
theorem index2_some : ∀ (s t r : List UInt8), lineV s = some (t, r) → Lib.index s crlf = (t.length : Int)
  | [], t, r, h => by simp [lineV] at h
  | b :: l, t, r, h => by
    by_cases hb : b = 13 ∧ l.head? = some 10
    · rw [lineV, if_pos hb] at h
      simp only [Option.some.injEq, Prod.mk.injEq] at h
      rw [← h.1, ix_yes (by rw [pre2_is]; exact decide_eq_true hb)]; rfl
    · rw [line_skip hb] at h
      simp only [Option.map_eq_some_iff] at h
      obtain ⟨⟨t', r'⟩, hx, he⟩ := h
      simp only [Prod.mk.injEq] at he
      have ih := index2_some l t' r' hx
      rw [← he.1, ix_no (by rw [pre2_is]; exact decide_eq_false hb), ih, if_neg (by omega)]
      simp
theorem index2_none : ∀ (s : List UInt8), lineV s = none → Lib.index s crlf = -1
  | [], h => rfl
  | b :: l, h => by
    by_cases hb : b = 13 ∧ l.head? = some 10
    · rw [lineV, if_pos hb] at h; simp at h
    · rw [line_skip hb] at h
      simp only [Option.map_eq_none_iff] at h
      rw [ix_no (by rw [pre2_is]; exact decide_eq_false hb), index2_none l h]; simp
theorem index4_none : ∀ (s : List UInt8), lineV s = none → Lib.index s crlf4 = -1
  | [], h => rfl
  | b :: l, h => by
    by_cases hb : b = 13 ∧ l.head? = some 10
    · rw [lineV, if_pos hb] at h; simp at h
    · rw [line_skip hb] at h
      simp only [Option.map_eq_none_iff] at h
      rw [ix_no (pre4_no hb), index4_none l h]; simp
theorem index4_some : ∀ (s t r : List UInt8), lineV s = some (t, r) → Lib.index s crlf4 = if List.isPrefixOf crlf r = true then (t.length : Int) else if Lib.index r crlf4 = -1 then -1 else Lib.index r crlf4 + t.length + 2
  | [], t, r, h => by simp [lineV] at h
  | b :: l, t, r, h => by
    by_cases hb : b = 13 ∧ l.head? = some 10
    · rw [lineV, if_pos hb] at h
      simp only [Option.some.injEq, Prod.mk.injEq] at h
      obtain ⟨rfl, rfl⟩ := h
      obtain ⟨rfl, hl⟩ := hb
      cases l with
      | nil => simp at hl
      | cons c l =>
        simp at hl; subst hl
        change Lib.index (13 :: 10 :: l) crlf4 = if List.isPrefixOf crlf l = true then (([] : List UInt8).length : Int) else if Lib.index l crlf4 = -1 then -1 else Lib.index l crlf4 + (([] : List UInt8).length : Int) + 2
        by_cases hp : List.isPrefixOf crlf l = true
        · rw [ix_yes (by rw [pre4_yes]; exact hp), if_pos hp]; rfl
        · rw [ix_no (by rw [pre4_yes]; exact Bool.eq_false_iff.2 hp), if_neg hp, ix_no (pre4_no (by simp))]
          by_cases e : Lib.index l crlf4 = -1
          · simp [e]
          · have := Lib.index_ge l crlf4
            rw [if_neg e, if_neg (by omega), if_neg e]
            simp; omega
    · rw [line_skip hb] at h
      simp only [Option.map_eq_some_iff] at h
      obtain ⟨⟨t', r'⟩, hx, he⟩ := h
      simp only [Prod.mk.injEq] at he
      obtain ⟨rfl, rfl⟩ := he
      have ih := index4_some l t' r' hx
      rw [ix_no (pre4_no hb), ih]
      have := Lib.index_ge r' crlf4
      by_cases hp : List.isPrefixOf crlf r' = true
      · rw [if_pos hp, if_pos hp, if_neg (by omega)]; simp
      · rw [if_neg hp, if_neg hp]
        by_cases e : Lib.index r' crlf4 = -1
        · simp [e]
        · rw [if_neg e, if_neg e, if_neg (by omega)]; simp; omega

theorem line_own : ∀ (s t r : List UInt8), lineV s = some (t, r) → lineV t = none ∧ ∀ a, lineV (t ++ 13 :: 10 :: a) = some (t, a)
  | [], t, r, h => by simp [lineV] at h
  | b :: l, t, r, h => by
    by_cases hb : b = 13 ∧ l.head? = some 10
    · rw [lineV, if_pos hb] at h
      simp only [Option.some.injEq, Prod.mk.injEq] at h
      rw [← h.1]
      exact ⟨rfl, fun a => line_hit a⟩
    · rw [line_skip hb] at h
      simp only [Option.map_eq_some_iff] at h
      obtain ⟨⟨t', r'⟩, hx, he⟩ := h
      simp only [Prod.mk.injEq] at he
      obtain ⟨rfl, rfl⟩ := he
      obtain ⟨i1, i2⟩ := line_own l t' r' hx
      have e := line_parts _ _ _ hx
      have hb2 : ¬ (b = 13 ∧ t'.head? = some 10) := by
        rintro ⟨h1, h2⟩
        apply hb
        refine ⟨h1, ?_⟩
        rw [e]
        cases t' with
        | nil => simp at h2
        | cons x t' => simpa using h2
      have hb3 : ∀ a, ¬ (b = 13 ∧ (t' ++ 13 :: 10 :: a).head? = some 10) := by
        rintro a ⟨h1, h2⟩
        cases t' with
        | nil => simp at h2
        | cons x t' => exact hb2 ⟨h1, by simpa using h2⟩
      refine ⟨by rw [line_skip hb2, i1]; rfl, fun a => ?_⟩
      rw [List.cons_append, line_skip (hb3 a), i2 a]; rfl
theorem split2_none {s : List UInt8} (h : lineV s = none) : Lib.split s crlf = [s] := by
  unfold Lib.split
  rw [Lib.count_miss (index2_none s h)]; rfl
theorem split2_some {s t r : List UInt8} (h : lineV s = some (t, r)) : Lib.split s crlf = t :: Lib.split r crlf := by
  have hi := index2_some s t r h
  have e := line_parts _ _ _ h
  have hd : s.drop (t.length + crlf.length) = r := by
    rw [e, show t.length + crlf.length = (t ++ [13, 10] : List UInt8).length by simp [crlf], show t ++ 13 :: 10 :: r = (t ++ [13, 10]) ++ r by simp]
    exact List.drop_left
  unfold Lib.split
  rw [Lib.count_hit (by simp [crlf]) hi, hd, Nat.add_comm 1, Lib.splitK, if_neg (by rw [hi]; simp), hi]
  simp only [Int.toNat_natCast, Nat.add_zero]
  rw [hd, e]; simp
/-- Cutting at the empty line. -/
theorem cut4_none {s : List UInt8} (h : lineV s = none) : Lib.cut s crlf4 = (s, [], false) := by
  unfold Lib.cut; rw [index4_none s h, if_neg (by omega)]
theorem cut4_hit {s t r : List UInt8} (h : lineV s = some (t, 13 :: 10 :: r)) : Lib.cut s crlf4 = (t, r, true) := by
  have hi := index4_some _ _ _ h
  rw [if_pos (by simp [crlf, List.isPrefixOf])] at hi
  unfold Lib.cut
  rw [hi, if_pos (by omega), line_parts _ _ _ h]
  simp only [Int.toNat_natCast]
  have e : t ++ 13 :: 10 :: 13 :: 10 :: r = (t ++ crlf4) ++ r := by simp [crlf4]
  refine Prod.ext (by simp) (Prod.ext ?_ rfl)
  show List.drop (t.length + crlf4.length) _ = r
  rw [e, ← List.length_append]; exact List.drop_left
theorem cut4_on {s t r : List UInt8} (h : lineV s = some (t, r)) (hr : List.isPrefixOf crlf r = false) : Lib.cut s crlf4 = if (Lib.cut r crlf4).2.2 = true then (t ++ 13 :: 10 :: (Lib.cut r crlf4).1, (Lib.cut r crlf4).2.1, true) else (s, [], false) := by
  have hi := index4_some _ _ _ h
  rw [if_neg (by rw [hr]; simp)] at hi
  have hg := Lib.index_ge r crlf4
  have e := line_parts _ _ _ h
  by_cases e1 : Lib.index r crlf4 = -1
  · have c1 : Lib.cut r crlf4 = (r, [], false) := by unfold Lib.cut; rw [e1, if_neg (by omega)]
    rw [c1, if_neg (by simp)]
    unfold Lib.cut
    rw [hi, if_pos e1, if_neg (by omega)]
  · rw [if_neg e1] at hi
    obtain ⟨k, hk⟩ : ∃ k : Nat, Lib.index r crlf4 = k := ⟨(Lib.index r crlf4).toNat, by omega⟩
    have c1 : Lib.cut r crlf4 = (r.take k, r.drop (k + crlf4.length), true) := by unfold Lib.cut; rw [hk, if_pos (by omega)]; simp
    rw [c1, if_pos rfl]
    unfold Lib.cut
    rw [hi, hk, if_pos (by omega)]
    have e2 : ((k : Int) + (t.length : Int) + 2).toNat = t.length + (k + 2) := by omega
    rw [e2, e]
    refine Prod.ext ?_ (Prod.ext ?_ rfl)
    · show List.take _ _ = _
      rw [List.take_length_add_append]; rfl
    · show List.drop _ _ = _
      rw [show t.length + (k + 2) + crlf4.length = t.length + (k + crlf4.length + 2) by omega, List.drop_length_add_append]; rfl
/-- The lines by cutting and splitting. -/
theorem head_cut : ∀ (n : Nat) (s : List UInt8) (l : List (List UInt8)), s.length ≤ n → List.isPrefixOf crlf s = false →
    headF l s = (if (Lib.cut s crlf4).2.2 = true then some ((Lib.split (Lib.cut s crlf4).1 crlf).foldl pushL l, (Lib.cut s crlf4).2.1) else none) ∧ ((Lib.cut s crlf4).2.2 = true → ∀ t ∈ Lib.split (Lib.cut s crlf4).1 crlf, t ≠ [])
  | n, s, l, hn, hp => by
    cases h : lineV s with
    | none => rw [headF_none h, cut4_none h]; simp
    | some x =>
      obtain ⟨t, r⟩ := x
      have e := line_parts _ _ _ h
      have ht : t ≠ [] := by
        intro h0
        rw [e, h0] at hp
        simp [crlf, List.isPrefixOf] at hp
      obtain ⟨o1, o2⟩ := line_own _ _ _ h
      rw [headF_on h ht]
      by_cases hr : List.isPrefixOf crlf r = true
      · obtain ⟨r', rfl⟩ : ∃ r', r = 13 :: 10 :: r' := by
          have := List.isPrefixOf_iff_prefix.1 hr
          obtain ⟨r', hr'⟩ := this
          exact ⟨r', by rw [← hr']; rfl⟩
        rw [cut4_hit h, headF_end (line_hit r')]
        simp only [if_true]
        rw [split2_none o1]
        exact ⟨rfl, fun _ x hx => by simp at hx; rw [hx]; exact ht⟩
      · have hr' : List.isPrefixOf crlf r = false := Bool.eq_false_iff.2 hr
        have hl : r.length < s.length := by rw [e]; simp; omega
        cases n with
        | zero => omega
        | succ n =>
          obtain ⟨i1, i2⟩ := head_cut n r (pushL l t) (by omega) hr'
          rw [i1, cut4_on h hr']
          by_cases hc : (Lib.cut r crlf4).2.2 = true
          · rw [if_pos hc, if_pos hc]
            simp only [if_true]
            rw [split2_some (o2 _), List.foldl_cons]
            refine ⟨rfl, fun _ x hx => ?_⟩
            rcases List.mem_cons.1 hx with rfl | hx
            · exact ht
            · exact i2 hc x hx
          · rw [if_neg hc, if_neg hc]; simp
theorem splitK_ne (sep : List UInt8) (k : Nat) (s : List UInt8) : Lib.splitK sep 0 k s ≠ [] := by
  cases k with
  | zero => simp [Lib.splitK]
  | succ k => unfold Lib.splitK; split <;> simp
theorem split_ne (s sep : List UInt8) : Lib.split s sep ≠ [] := splitK_ne _ _ _
theorem splitK_mem (sep : List UInt8) : ∀ (k : Nat) (s : List UInt8), ((Lib.splitK sep 0 k s).map (fun t => t.length)).sum ≤ s.length ∧ (Lib.splitK sep 0 k s).length ≤ k + 1
  | 0, s => by simp [Lib.splitK]
  | k + 1, s => by
    unfold Lib.splitK
    split
    · simp
    · have ⟨a, b⟩ := splitK_mem sep k (s.drop ((Lib.index s sep).toNat + sep.length))
      simp only [List.map_cons, List.sum_cons, List.length_cons, List.length_take, List.length_drop] at a b ⊢
      omega
theorem split2_len (s : List UInt8) : ((Lib.split s crlf).map (fun t => t.length)).sum ≤ s.length ∧ (Lib.split s crlf).length ≤ s.length + 2 := by
  have ⟨a, b⟩ := splitK_mem crlf (Lib.count s crlf) s
  have := Lib.count_le s crlf
  exact ⟨a, by unfold Lib.split; omega⟩
theorem cut4_len (s : List UInt8) : (Lib.cut s crlf4).1.length ≤ s.length ∧ (Lib.cut s crlf4).2.1.length ≤ s.length := by
  unfold Lib.cut
  split
  · simp only [List.length_take, List.length_drop]; omega
  · simp
def sumL (l : List (List UInt8)) : Nat := (l.map fun t => t.length + 3).sum
theorem sumL_app (a b : List (List UInt8)) : sumL (a ++ b) = sumL a + sumL b := by simp [sumL]
theorem push_sum (l : List (List UInt8)) (t : List UInt8) : sumL (pushL l t) ≤ sumL l + (t.length + 3) ∧ (pushL l t).length ≤ l.length + 1 ∧ l.length ≤ (pushL l t).length := by
  by_cases h : 2 ≤ l.length ∧ t.head?.any blk = true
  · rw [push_fold h.1 h.2]
    obtain ⟨a, b, rfl⟩ : ∃ a b, l = a ++ [b] := ⟨l.dropLast, l.getLast (by intro e; simp [e] at h), (List.dropLast_concat_getLast _).symm⟩
    have ht : (trimL t).length ≤ t.length := by
      unfold trimL
      rw [List.length_reverse]
      refine Nat.le_trans (List.dropWhile_sublist _).length_le ?_
      rw [List.length_reverse]
      exact (List.dropWhile_sublist _).length_le
    simp only [List.dropLast_concat, List.getLastD_concat, sumL_app, List.length_append]
    simp [sumL]; omega
  · rw [push_new h, sumL_app]
    simp [sumL]
theorem fold_sum : ∀ (ts l : List (List UInt8)), sumL (ts.foldl pushL l) ≤ sumL l + sumL ts ∧ (ts.foldl pushL l).length ≤ l.length + ts.length ∧ l.length ≤ (ts.foldl pushL l).length
  | [], l => by simp [sumL]
  | t :: ts, l => by
    obtain ⟨a, b, c⟩ := push_sum l t
    obtain ⟨d, e, f⟩ := fold_sum ts (pushL l t)
    rw [List.foldl_cons]
    have : sumL (t :: ts) = t.length + 3 + sumL ts := by simp [sumL]
    rw [this, List.length_cons]; omega
theorem sumL_mem : ∀ (l : List (List UInt8)), ∀ t ∈ l, t.length ≤ sumL l
  | [], t, h => by simp at h
  | x :: l, t, h => by
    have e : sumL (x :: l) = x.length + 3 + sumL l := by simp [sumL]
    rw [e]
    rcases List.mem_cons.1 h with rfl | h
    · omega
    · have := sumL_mem l t h; omega
theorem sumL_is (l : List (List UInt8)) : sumL l = (l.map (fun t => t.length)).sum + 3 * l.length := by
  induction l with
  | nil => rfl
  | cons x l ih => simp [sumL] at ih ⊢; omega
/-- The lines of a text, put together. -/
def linesV (s : List UInt8) : List (List UInt8) := (Lib.split s crlf).foldl pushL []
theorem lines_len (s : List UInt8) : (linesV s).length ≤ s.length + 2 ∧ 1 ≤ (linesV s).length ∧ ∀ t ∈ linesV s, t.length ≤ 4 * s.length + 6 := by
  obtain ⟨a, b⟩ := split2_len s
  obtain ⟨c, d, _⟩ := fold_sum (Lib.split s crlf) []
  have e := sumL_is (Lib.split s crlf)
  refine ⟨by unfold linesV; simp at d; omega, ?_, fun t ht => ?_⟩
  · unfold linesV
    cases h : Lib.split s crlf with
    | nil => exact absurd h (split_ne _ _)
    | cons x xs =>
      rw [List.foldl_cons]
      have := (fold_sum xs (pushL [] x)).2.2
      have h2 := push_new (l := []) (t := x) (by simp)
      rw [h2] at this ⊢
      simpa using this
  · have := sumL_mem _ t ht
    unfold linesV at this
    have e0 : sumL [] = 0 := rfl
    omega

end Go.Proofs.YtagopboofmjnfaaDoor
