/-
  The contract of the document's own Read.
-/
import Derived.Test.YtlhkembihpafaaaRefTag
namespace Go.Proofs.Ytlhkembihpafaaa
open Go.RowKit
set_option linter.unusedVariables false

/-- The sum of letters, as uint64s are summed. -/
def rs (f : Nat → UInt8) : Nat → Nat
  | 0 => 0
  | k + 1 => (rs f k + worthR (f k) * 32 ^ k % 18446744073709551616) % 18446744073709551616
theorem rs_lt (f : Nat → UInt8) (k : Nat) : rs f k < 18446744073709551616 := by
  cases k with
  | zero => show 0 < _; decide
  | succ k => exact Nat.mod_lt _ (by decide)
theorem rs_spell (f : Nat → UInt8) (a k : Nat) (ha : a < 18446744073709551616) (hf : ∀ i, i < k → f i = lt (a / 32 ^ i % 32)) : rs f k = a % 32 ^ k := by
  induction k with
  | zero => simp [rs, Nat.mod_one]
  | succ k ih =>
    have hm : a / 32 ^ k % 32 < 32 := Nat.mod_lt _ (by decide)
    rw [rs, ih (fun i hi => hf i (by omega)), hf k (by omega), worthR_lt hm]
    have h1 : a % 32 ^ (k + 1) = a % 32 ^ k + a / 32 ^ k % 32 * 32 ^ k := by
      rw [Nat.pow_succ, Nat.mod_mul, Nat.mul_comm (32 ^ k)]
    have h2 : a % 32 ^ (k + 1) ≤ a := Nat.mod_le _ _
    rw [Nat.mod_eq_of_lt (show a / 32 ^ k % 32 * 32 ^ k < 18446744073709551616 by omega), Nat.mod_eq_of_lt (by omega), h1]
theorem spell_get (n k i : Nat) (h : i < k) : (spell n k)[i]? = some (lt (n / 32 ^ i % 32)) := by
  induction k generalizing n i with
  | zero => omega
  | succ k ih =>
    cases i with
    | zero => simp [spell]
    | succ i => rw [spell, List.getElem?_cons_succ, ih _ _ (by omega), Nat.div_div_eq_div_mul, Nat.pow_succ, Nat.mul_comm]
theorem tag_get1 (a c i : Nat) (h : i < 13) : (tagL a c).getD i 0 = lt (a / 32 ^ i % 32) := by
  rw [tagL, List.getD_eq_getElem?_getD, List.getElem?_append_left (by rw [spell_len]; omega), spell_get _ _ _ h]; rfl
theorem tag_get2 (a c i : Nat) (h : i < 9) : (tagL a c).getD (13 + i) 0 = lt (c / 32 ^ i % 32) := by
  rw [tagL, List.getD_eq_getElem?_getD, List.getElem?_append_right (by rw [spell_len]; omega), spell_len, show 13 + i - 13 = i by omega, spell_get _ _ _ h]; rfl

def rsA (l : List UInt8) (k : Nat) : Nat := rs (fun i => l.getD i 0) k
def rsC (l : List UInt8) (k : Nat) : Nat := rs (fun i => l.getD (13 + i) 0) k
theorem rsA_tag {a c : Nat} (ha : a < 18446744073709551616) : rsA (tagL a c) 13 = a := by
  rw [rsA, rs_spell _ a 13 ha (fun i hi => tag_get1 a c i hi)]; omega
theorem rsC_tag {a c : Nat} (hc : c ≤ 1099511627776) : rsC (tagL a c) 9 = c := by
  rw [rsC, rs_spell _ c 9 (by omega) (fun i hi => tag_get2 a c i hi)]; omega
theorem readV_ref (l : List UInt8) (r : Option (Nat × Nat)) (h : readV l = r) : (∀ a c, r = some (a, c) → rsA l 13 = a ∧ rsC l 9 = c ∧ c ≤ 1099511627776 ∧ l = tagL a c) := by
  intro a c e
  subst e
  obtain ⟨h1, h2, h3⟩ := readV_some h
  exact ⟨by rw [h3, rsA_tag h1], by rw [h3, rsC_tag h2], h2, h3⟩
theorem readA_big' {l : List UInt8} (h : 1099511627776 < rsC l 9) : readA l = (0, 0, 10) := by
  rw [readA]
  rcases hr : readV l with _ | ⟨a, c⟩
  · rfl
  · have := readV_ref l _ hr a c rfl
    omega
theorem readA_not {l : List UInt8} (h : tagL (rsA l 13) (rsC l 9) ≠ l) : readA l = (0, 0, 10) := by
  rw [readA]
  rcases hr : readV l with _ | ⟨a, c⟩
  · rfl
  · have := readV_ref l _ hr a c rfl
    rw [this.1, this.2.1] at h
    exact absurd this.2.2.2.symm h
theorem readA_is {l : List UInt8} (hc : ¬ 1099511627776 < rsC l 9) (h : tagL (rsA l 13) (rsC l 9) = l) : readA l = ((rsA l 13 : Int), (rsC l 9 : Int), 0) := by
  have h1 := readV_tag (a := rsA l 13) (c := rsC l 9) (rs_lt _ _) (by omega)
  rw [h] at h1
  rw [readA, h1]
theorem rsA_next (l : List UInt8) (k : Nat) : rsA l (k + 1) = (rsA l k + worthR (l.getD k 0) * 32 ^ k % 18446744073709551616) % 18446744073709551616 := rfl
theorem rsC_next (l : List UInt8) (k : Nat) : rsC l (k + 1) = (rsC l k + worthR (l.getD (13 + k) 0) * 32 ^ k % 18446744073709551616) % 18446744073709551616 := rfl

theorem sum_wrap (n m k : Nat) : IntKind.u64.wrap ((n : Int) + IntKind.u64.wrap ((m : Int) * 2 ^ (5 * k))) = (((n + m * 32 ^ k % 18446744073709551616) % 18446744073709551616 : Nat) : Int) := by
  rw [Nat.mul_comm 5 k, pow5, IntKind.wrap_u64, IntKind.wrap_u64, ← Int.natCast_mul]
  generalize m * 32 ^ k = x
  omega
theorem getD_at (s : ByteArray) (k : Nat) (h : k < s.size) : s.data.toList.getD k 0 = s[k] := by
  rw [List.getD_eq_getElem?_getD, getL s k h]; rfl
theorem rtag_pos (a c : Nat) (w : World) (ha : a < 18446744073709551616) (hc : c ≤ 1099511627776) :
    Calls Try.prog 21 #[.int .u64 a, .int .i64 c] w fun e w' => e = .returned (.tuple #[.string ⟨(tagL a c).toArray⟩, .int .i64 0]) ∧ w' = w := by
  have hv : tagV a c = (tagL a c, 0) := by rw [tagV, if_pos (by omega)]; rfl
  have := rtag_any a c w ha
  rw [hv] at this
  exact this

set_option maxHeartbeats 1000000 in
theorem RRead_any (s : ByteArray) (w : World) (hs : s.size ≤ maxLen) :
    Calls Try.prog 23 #[.string s] w fun e w' => e = .returned (.tuple #[.int .u64 (readA s.data.toList).1, .int .i64 (readA s.data.toList).2.1, .int .i64 (readA s.data.toList).2.2]) ∧ w' = w := by
  unfold maxLen at hs
  by_cases h22 : s.size = 22
  · go_enter Try.func23, Try.ntmps23
    go_wp2
    go_loop [5, 7] (fun x i => ∃ (k n : Nat), k ≤ 13 ∧ i = .int .i64 k ∧ x = .int .u64 n ∧ n < 18446744073709551616 ∧ Hid (n = rsA s.data.toList k)) (fun _ i => 13 - (intOf i).toNat)
    case atStart => exact ⟨0, 0, by omega, rfl, rfl, by omega, rfl⟩
    case round =>
      obtain ⟨k, n, hk, rfl, rfl, hn, hr⟩ := hrel
      by_cases hlt : k < 13
      · have hks : k < s.size := by omega
        go_wp2_with (go_at_call 28; refine (worth_any _ _).mono ?_; rintro e w' ⟨rfl, rfl⟩)
        go_round
        case rel => exact ⟨k + 1, _, by omega, by go_num, by rw [sum_wrap], Nat.mod_lt _ (by decide), show _ = _ by rw [rsA_next, getD_at s k hks, ← hr.out]⟩
        case measure => simp [intOf]; omega
      · have hk13 : k = 13 := by omega
        subst hk13
        go_wp2
        go_loop [6, 8] (fun x i => ∃ (k c : Nat), k ≤ 9 ∧ i = .int .i64 k ∧ x = .int .u64 c ∧ c < 18446744073709551616 ∧ Hid (c = rsC s.data.toList k)) (fun _ i => 9 - (intOf i).toNat)
        case atStart => exact ⟨0, 0, by omega, rfl, rfl, by omega, rfl⟩
        case round =>
          obtain ⟨k, c, hk', rfl, rfl, hc, hr'⟩ := hrel
          by_cases hlt' : k < 9
          · have hks : 13 + k < s.size := by omega
            go_wp2_with (go_at_call 28; refine (worth_any _ _).mono ?_; rintro e w' ⟨rfl, rfl⟩)
            go_round
            case rel => exact ⟨k + 1, _, by omega, by go_num, by rw [sum_wrap], Nat.mod_lt _ (by decide), show _ = _ by rw [rsC_next, getD_at s (13 + k) hks, ← hr'.out]⟩
            case measure => simp [intOf]; omega
          · have hk9 : k = 9 := by omega
            subst hk9
            have e1 := hr.out
            have e2 := hr'.out
            by_cases hbig : 1099511627776 < c
            · have hv := readA_big' (l := s.data.toList) (by rw [← e2]; exact hbig)
              have HV : Hid _ := hv; clear hv e1 e2
              go_wp2
              go_ret3
              exact ⟨ret_read _ _ _ HV.out, rfl⟩
            · by_cases heq : tagL n c = s.data.toList
              · have hv := readA_is (l := s.data.toList) (by rw [← e2]; exact hbig) (by rw [← e1, ← e2]; exact heq)
                rw [← e1, ← e2] at hv
                have HV : Hid _ := hv; clear hv e1 e2
                have hbq : (tagL n c == s.toList) = true := by rw [ByteArray.toList_eq, heq]; simp
                clear heq
                go_wp2_with (go_at_call 21; refine (rtag_pos n c _ hn (by omega)).mono ?_; rintro e w' ⟨rfl, rfl⟩)
                go_ret3
                exact ⟨ret_read _ _ _ HV.out, rfl⟩
              · have hv := readA_not (l := s.data.toList) (by rw [← e1, ← e2]; exact heq)
                have HV : Hid _ := hv; clear hv e1 e2
                have hbq : (tagL n c == s.toList) = false := by rw [ByteArray.toList_eq]; simpa using heq
                clear heq
                go_wp2_with (go_at_call 21; refine (rtag_pos n c _ hn (by omega)).mono ?_; rintro e w' ⟨rfl, rfl⟩)
                go_ret3
                exact ⟨ret_read _ _ _ HV.out, rfl⟩
  · have hv : readA s.data.toList = (0, 0, 10) := by rw [readA, readV, if_neg (by rw [len_data]; exact h22)]
    have HV : Hid _ := hv; clear hv
    have hne : ((s.size : Int) != 22) = true := by simp; omega
    go_enter Try.func23, Try.ntmps23
    go_wp2
    go_ret3
    exact ⟨ret_read _ _ _ HV.out, rfl⟩

end Go.Proofs.Ytlhkembihpafaaa
