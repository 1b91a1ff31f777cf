/-
  What is escaped is unescaped; a number's digits are its. Plain facts.
-/
import Derived.Test.YtfdcklekjnihjaaDoorUnesc
import Derived.Test.YtfdcklekjnihjaaDoorEscape
import Derived.Test.YtfdcklekjnihjaaDoorDigits
import Derived.Test.YtfdcklekjnihjaaDoorTexts
namespace Go.Proofs.YtfdcklekjnihjaaDoor
open Go.RowKit Sc
set_option linter.unusedVariables false
set_option maxRecDepth 20000

theorem hexd_hex (n : Nat) (h : n < 16) : isB (hexd n).toNat 4 = true := by
  have hh : ∀ n : Fin 16, isB ((hexd n.val).toNat : Int) 4 = true := by decide +kernel
  exact hh ⟨n, h⟩
theorem hexd_back (b : UInt8) : hxb (hexd (b.toNat / 16)) (hexd (b.toNat % 16)) = b := by
  have hh : ∀ n : Fin 256, hxb (hexd (n.val / 16)) (hexd (n.val % 16)) = UInt8.ofNat n.val := by decide +kernel
  have := hh ⟨b.toNat, b.toNat_lt⟩
  simpa using this
theorem une_esc (keep : List UInt8) : ∀ l : List UInt8, une (esc (kpF keep) l) = some l
  | [] => rfl
  | b :: r => by
    have ih := une_esc keep r
    by_cases hf : free (kpF keep) b = true
    · have h37 : (b.toNat : Int) ≠ 37 := by
        intro e
        have e' : b.toNat = 37 := by omega
        rw [free, kpF, if_pos e', e'] at hf
        exact absurd hf (by decide +kernel)
      rw [esc, if_pos hf]
      show une (b :: esc (kpF keep) r) = _
      rw [une_plain h37, ih]; rfl
    · rw [esc, if_neg hf]
      show une (37 :: hexd (b.toNat / 16) :: hexd (b.toNat % 16) :: esc (kpF keep) r) = _
      have := b.toNat_lt
      rw [une_hex (by decide) (hexd_hex _ (by omega)) (hexd_hex _ (Nat.mod_lt _ (by decide))), ih, hexd_back]; rfl

theorem numL_append (most : Int) : ∀ (a b : List UInt8) (n : Int), numL most n (a ++ b) = (numL most n a).bind fun x => numL most x b
  | [], b, n => rfl
  | c :: a, b, n => by
    simp only [List.cons_append, numL]
    split
    · rfl
    · exact numL_append most a b _
theorem numL_digits (k : Nat) : ∀ (m most : Nat), m ≤ k → m ≤ most → numL most 0 (digL m) = some (m : Int) := by
  induction k with
  | zero =>
    intro m most hk hm
    have h0 : m = 0 := by omega
    subst h0
    rw [digL_small (by omega), numL, if_neg (by rw [digb_toNat]; omega), numL, digb_toNat]
    congr 1
  | succ k ih =>
    intro m most hk hm
    by_cases h : m < 10
    · rw [digL_small h, numL, if_neg (by rw [digb_toNat]; omega), numL, digb_toNat]
      congr 1
      omega
    · rw [digL_big h, numL_append, ih (m / 10) most (by omega) (by omega)]
      show numL (most : Int) ((m / 10 : Nat) : Int) [digb m] = _
      rw [numL, if_neg (by rw [digb_toNat]; omega), numL, digb_toNat]
      congr 1
      omega
theorem digits_all (k : Nat) : ∀ m : Nat, m ≤ k → allB 1 (digL m) = true := by
  have hd : ∀ m, isB (digb m).toNat 1 = true := by
    intro m
    have hb := u8_bd (digb m)
    rw [isB_digit _ hb.1 hb.2, digb_toNat]
    simp
    omega
  induction k with
  | zero => intro m hm; rw [digL_small (by omega)]; simp [allB, hd]
  | succ k ih =>
    intro m hm
    by_cases h : m < 10
    · rw [digL_small h]; simp [allB, hd]
    · rw [digL_big h, allB_snoc, ih (m / 10) (by omega), hd]; rfl
theorem digits_ne (m : Nat) : digL m ≠ [] := by
  by_cases h : m < 10
  · rw [digL_small h]; simp
  · rw [digL_big h]; simp
theorem back_num (n : Nat) : numV n (digL n) = ((n : Int), 0) := by
  rw [numV, if_neg (by simp [digits_ne, digits_all n n (Nat.le_refl _)]), numL_digits n n n (Nat.le_refl _) (Nat.le_refl _)]


end Go.Proofs.YtfdcklekjnihjaaDoor
