/-
  Types and seconds: plain facts.
-/
import Derived.Test.YtjbfdbccidhdfaaDoorHeadL
namespace Go.Proofs.YtjbfdbccidhdfaaDoor
open Go.RowKit Sc
set_option linter.unusedVariables false
set_option maxRecDepth 20000
set_option linter.unusedSimpArgs false

def typeT (s : List UInt8) : List UInt8 := lowL (trimL ((partsV 59 s).headD []))
def typeOk (t : List UInt8) : Bool := (cutL 47 t).2.2 && (tokenB (cutL 47 t).1 && tokenB (cutL 47 t).2.1)
def typeV (s : List UInt8) : List UInt8 × Bool := (typeT s, typeOk (typeT s))
def starK : List UInt8 := [42, 47, 42]
def takesB (t : List UInt8) (r : List UInt8) : Bool := typeOk t && (typeOk (typeT r) && (typeT r == t || (typeT r == starK || typeT r == (cutL 47 t).1 ++ [47, 42])))
def acceptsB (l : List (List UInt8)) (s : List UInt8) : Bool := l.any fun r => takesB (typeT s) r

theorem slash_facts : ∀ b : UInt8, (tokc b = true ∨ b = 47) → blk b = false ∧ b ≠ 34 ∧ b ≠ 60 ∧ b ≠ 62 ∧ b ≠ 59 := by apply byte_all; decide +kernel
theorem ok_bytes {t : List UInt8} (h : typeOk t = true) : ∀ b ∈ t, tokc b = true ∨ b = 47 := by
  simp only [typeOk, Bool.and_eq_true] at h
  obtain ⟨h1, h2, h3⟩ := h
  have e := cutL_join 47 t h1
  intro b hb
  rw [e] at hb
  simp only [List.mem_append, List.mem_cons] at hb
  rcases hb with hb | rfl | hb
  · exact Or.inl ((tok_facts h2).2.2 b hb)
  · exact Or.inr rfl
  · exact Or.inl ((tok_facts h3).2.2 b hb)
/-- ' ; q=1' behind a type plays no part. -/
theorem type_more {t r : List UInt8} (h : typeOk t = true) (hl : lowL t = t) : typeT (t ++ 32 :: 59 :: r) = t := by
  have hb := ok_bytes h
  have c1 : Clo 59 (t ++ [32]) := clo_plain fun b hx => by
    rcases List.mem_append.1 hx with hx | hx
    · obtain ⟨_, n1, n2, n3, n4⟩ := slash_facts b (hb b hx)
      exact ⟨n1, n2, n3, fun e => n4 (by apply UInt8.toNat_inj.1; show b.toNat = 59; omega)⟩
    · simp at hx; subst hx; decide
  have e : (partsV 59 (t ++ 32 :: 59 :: r)).headD [] = t ++ [32] := by
    unfold partsV
    rw [show t ++ 32 :: 59 :: r = (t ++ [32]) ++ 59 :: r by simp, c1 [], List.nil_append, partsG]
    have e1 : pst pl0 ((59 : UInt8).toNat : Int) = (pl0, true) := by simp [pst, pl0]
    rw [e1]
    simp only [true_and]
    rw [if_pos (by decide)]; rfl
  unfold typeT
  rw [e, trimL_snoc, trimL_all fun b hx => (slash_facts b (hb b hx)).1, hl]
theorem type_low (s : List UInt8) : lowL (typeT s) = typeT s := by unfold typeT; exact low_low _
theorem cut_low {t a b : List UInt8} (hl : lowL t = t) (h : cutL 47 t = (a, b, true)) : lowL a = a := by
  have e := cutL_join 47 t (by rw [h])
  rw [h] at e
  simp only at e
  rw [e] at hl
  unfold lowL at hl ⊢
  rw [List.map_append] at hl
  exact (List.append_inj hl (by simp)).1
theorem star_ok : typeOk starK = true ∧ lowL starK = starK := by decide +kernel
theorem front_ok {t : List UInt8} (h : typeOk t = true) (hl : lowL t = t) : typeOk ((cutL 47 t).1 ++ [47, 42]) = true ∧ lowL ((cutL 47 t).1 ++ [47, 42]) = (cutL 47 t).1 ++ [47, 42] := by
  have h0 := h
  simp only [typeOk, Bool.and_eq_true] at h
  obtain ⟨h1, h2, h3⟩ := h
  have n47 : (47 : UInt8) ∉ (cutL 47 t).1 := fun hm => (tokc_facts 47 ((tok_facts h2).2.2 47 hm)).2.2.2.2 rfl
  have e : cutL 47 ((cutL 47 t).1 ++ [47, 42]) = ((cutL 47 t).1, [42], true) := cutL_hit n47
  have hs : tokenB [42] = true := by decide +kernel
  refine ⟨by unfold typeOk; rw [e]; simp [h2, hs], ?_⟩
  have := cut_low (t := t) (a := (cutL 47 t).1) (b := (cutL 47 t).2.1) hl (by rw [← h1])
  unfold lowL at this ⊢
  rw [List.map_append, this]; rfl
theorem takes_self {s r : List UInt8} (h : typeOk (typeT s) = true) : takesB (typeT s) (typeT s ++ 32 :: 59 :: r) = true := by
  unfold takesB; rw [type_more h (type_low s), h]; simp
theorem takes_front {s r : List UInt8} (h : typeOk (typeT s) = true) : takesB (typeT s) (((cutL 47 (typeT s)).1 ++ [47, 42]) ++ 32 :: 59 :: r) = true := by
  obtain ⟨f1, f2⟩ := front_ok h (type_low s)
  unfold takesB; rw [type_more f1 f2, h, f1]; simp
theorem takes_star {s r : List UInt8} (h : typeOk (typeT s) = true) : takesB (typeT s) (starK ++ 32 :: 59 :: r) = true := by
  unfold takesB; rw [type_more star_ok.1 star_ok.2, h, star_ok.1]; simp
theorem accepts_not {l : List (List UInt8)} {s : List UInt8} (h : typeOk (typeT s) = false) : acceptsB l s = false := by
  unfold acceptsB
  rw [List.any_eq_false]
  intro r _; simp [takesB, h]
theorem accepts_last {l : List (List UInt8)} {s r : List UInt8} (h : takesB (typeT s) r = true) : acceptsB (l ++ [r]) s = true := by
  unfold acceptsB; rw [List.any_append]; simp [h]

-- seconds
def valN (n : Int) (l : List UInt8) : Int := l.foldl (fun a b => 10 * a + ((b.toNat : Int) - 48)) n
theorem digit_bd {b : UInt8} (h : isB b.toNat 1 = true) : 48 ≤ (b.toNat : Int) ∧ (b.toNat : Int) ≤ 57 := by
  rw [isB_digit _ (by omega) (by have := b.toNat_lt; omega)] at h
  simpa using h
theorem valN_ge : ∀ (l : List UInt8) (n : Int), 0 ≤ n → allB 1 l = true → n ≤ valN n l
  | [], n, _, _ => by simp [valN]
  | b :: r, n, h0, ha => by
    have hb : isB b.toNat 1 = true ∧ allB 1 r = true := by simpa [allB] using ha
    have hd := digit_bd hb.1
    have := valN_ge r (10 * n + ((b.toNat : Int) - 48)) (by omega) hb.2
    show n ≤ valN (10 * n + ((b.toNat : Int) - 48)) r
    omega
theorem numL_val {most : Int} (hm : 9 ≤ most) : ∀ (l : List UInt8) (n : Int), 0 ≤ n → n ≤ most → allB 1 l = true → numL most n l = if valN n l ≤ most then some (valN n l) else none
  | [], n, _, hn, _ => by rw [numL, valN, List.foldl_nil, if_pos hn]
  | b :: r, n, h0, hn, ha => by
    have hb : isB b.toNat 1 = true ∧ allB 1 r = true := by simpa [allB] using ha
    have hd := digit_bd hb.1
    have hv : valN n (b :: r) = valN (10 * n + ((b.toNat : Int) - 48)) r := rfl
    rw [numL, hv]
    by_cases hc : 10 * n + ((b.toNat : Int) - 48) ≤ most
    · rw [if_neg (by rintro (c | c) <;> omega), numL_val hm r _ (by omega) hc hb.2]
    · rw [if_pos (Or.inr (by omega)), if_neg]
      have := valN_ge r (10 * n + ((b.toNat : Int) - 48)) (by omega) hb.2
      omega
theorem numV_val {most : Int} (hm : 9 ≤ most) {l : List UInt8} (hne : l ≠ []) (ha : allB 1 l = true) : numV most l = if valN 0 l ≤ most then (valN 0 l, 0) else (0, 9) := by
  unfold numV
  rw [if_neg (by simp [hne, ha]), numL_val hm l 0 (by omega) (by omega) ha]
  by_cases h : valN 0 l ≤ most
  · rw [if_pos h, if_pos h]
  · rw [if_neg h, if_neg h]
theorem valN_dig (n : Nat) : valN 0 (digL n) = n := by
  have h1 := numL_digits n n (n + 9) (Nat.le_refl _) (by omega)
  have h2 := numL_val (most := ((n + 9 : Nat) : Int)) (by omega) (digL n) 0 (by omega) (by omega) (digits_all n n (Nat.le_refl _))
  rw [h1] at h2
  split at h2
  · simpa using h2.symm
  · simp at h2
theorem valN_app (n : Int) (a b : List UInt8) : valN n (a ++ b) = valN (valN n a) b := by simp [valN]
theorem valN_noughts (k : Nat) : valN 0 (List.replicate k 48) = 0 := by
  induction k with
  | zero => rfl
  | succ k ih => rw [List.replicate_succ]; show valN (10 * 0 + (((48 : UInt8).toNat : Int) - 48)) (List.replicate k 48) = 0; exact ih
theorem time_val {l : List UInt8} (hne : trimL l ≠ []) (ha : allB 1 (trimL l) = true) : timeV l = (if valN 0 (trimL l) ≤ maxS then valN 0 (trimL l) else maxS, 0) := by
  unfold timeV
  rw [numV_val (by unfold maxS; omega) hne ha]
  by_cases h : valN 0 (trimL l) ≤ maxS
  · rw [if_pos h, if_neg (by simp), if_pos h]
  · rw [if_neg h, if_pos rfl, if_neg h]
theorem time_noughts (k n : Nat) : timeV (32 :: (List.replicate k 48 ++ digL n) ++ [9]) = (if (n : Int) ≤ maxS then (n : Int) else maxS, 0) := by
  have h9 : blk 9 = true := by decide +kernel
  have ha : allB 1 (List.replicate k 48 ++ digL n) = true := by
    unfold allB
    rw [List.all_append, Bool.and_eq_true]
    refine ⟨List.all_eq_true.2 fun b hb => ?_, digits_all n n (Nat.le_refl _)⟩
    rw [List.eq_of_mem_replicate hb]; decide +kernel
  have ht : trimL (32 :: (List.replicate k 48 ++ digL n) ++ [9]) = List.replicate k 48 ++ digL n := by
    unfold trimL
    rw [dropW_snoc 9 h9]
    show trimL (32 :: (List.replicate k 48 ++ digL n)) = _
    rw [trimL_cons, trimL_all]
    intro b hb
    exact (dig_facts b (List.all_eq_true.1 ha b hb)).2.2
  have hv : valN 0 (List.replicate k 48 ++ digL n) = n := by rw [valN_app, valN_noughts, valN_dig]
  rw [time_val (by rw [ht]; simp [digits_ne n]) (by rw [ht]; exact ha), ht, hv]
theorem time_more (n : Nat) {more : List UInt8} (hm : allB 1 more = true) : ∃ b, timeV (digL n ++ more) = (b, 0) ∧ (if (n : Int) ≤ maxS then (n : Int) else maxS) ≤ b ∧ b ≤ maxS := by
  have ha : allB 1 (digL n ++ more) = true := by
    unfold allB at hm ⊢
    rw [List.all_append, hm, Bool.and_true]; exact digits_all n n (Nat.le_refl _)
  have ht : trimL (digL n ++ more) = digL n ++ more := trimL_all fun b hb => (dig_facts b (List.all_eq_true.1 ha b hb)).2.2
  have hg : (n : Int) ≤ valN 0 (digL n ++ more) := by
    rw [valN_app, valN_dig]; exact valN_ge more n (by omega) hm
  refine ⟨_, time_val (by rw [ht]; simp [digits_ne n]) (by rw [ht]; exact ha), ?_, ?_⟩
  · rw [ht]; split <;> split <;> omega
  · rw [ht]; split <;> omega

end Go.Proofs.YtjbfdbccidhdfaaDoor
