/-
  The walk of ClockApart.
-/
import Derived.Test.YtlhkembihpafaaaRd
import Derived.Test.YtlhkembihpafaaaAwakeClk
namespace Go.Proofs.Ytlhkembihpafaaa.clockApart
open Go.RowKit
set_option linter.unusedVariables false

theorem tag_pos (a c : Nat) (w : World) (ha : a < 18446744073709551616) (hc : c ≤ 1099511627776) :
    Calls Try.prog 20 #[.int .u64 a, .int .i64 c] w fun e w' => e = .returned (.tuple #[.string ⟨(tagL a c).toArray⟩, .int .i64 0]) ∧ Below w.heap.size w w' := by
  have hv : tagV a c = (tagL a c, 0) := by rw [tagV, if_pos (by omega)]; rfl
  have := tag_any a c w ha
  rw [hv] at this
  exact this
theorem tag_neg (a : Nat) (c : Int) (w : World) (ha : a < 18446744073709551616) (hc : ¬ (0 ≤ c ∧ c ≤ 1099511627776)) :
    Calls Try.prog 20 #[.int .u64 a, .int .i64 c] w fun e w' => e = .returned (.tuple #[.string ⟨#[]⟩, .int .i64 9]) ∧ Below w.heap.size w w' := by
  have hv : tagV a c = ([], 9) := by rw [tagV, if_neg hc]
  have := tag_any a c w ha
  rw [hv] at this
  exact this
theorem read_pos (a c : Nat) (w : World) (ha : a < 18446744073709551616) (hc : c ≤ 1099511627776) :
    Calls Try.prog 22 #[.string ⟨(tagL a c).toArray⟩] w fun e w' => e = .returned (.tuple #[.int .u64 a, .int .i64 c, .int .i64 0]) ∧ w' = w := by
  have hl : (⟨(tagL a c).toArray⟩ : ByteArray).data.toList = tagL a c := rfl
  have hz : (⟨(tagL a c).toArray⟩ : ByteArray).size ≤ maxLen := by
    rw [← len_data, hl, tagL_len]; unfold maxLen; omega
  have hv : readA (tagL a c) = ((a : Int), (c : Int), 0) := by rw [readA, readV_tag ha hc]
  have := Read_any ⟨(tagL a c).toArray⟩ w hz
  rw [hl, hv] at this
  exact this

set_option maxHeartbeats 600000 in
theorem law_walk (a0 a1 a2 a3 : Int) (w0 : (Lit.int .u64 a0).wf = true) (w1 : (Lit.int .i64 a1).wf = true) (w2 : (Lit.int .u64 a2).wf = true) (w3 : (Lit.int .i64 a3).wf = true) (w : World) :
    Calls Try.prog 8 #[.int .u64 a0, .int .i64 a1, .int .u64 a2, .int .i64 a3] w fun e w' => e = .returned (.bool true) ∧ Below w.heap.size w w' := by
  have h0 := u64_of w0
  have h2 := u64_of w2
  obtain ⟨a, rfl⟩ := Int.eq_ofNat_of_zero_le h0.1
  obtain ⟨b, rfl⟩ := Int.eq_ofNat_of_zero_le h2.1
  have ha : a < 18446744073709551616 := by omega
  have hb : b < 18446744073709551616 := by omega
  clear h0 h2 w0 w1 w2 w3
  by_cases hc : 0 ≤ a1 ∧ a1 ≤ 1099511627776
  · obtain ⟨c, rfl⟩ := Int.eq_ofNat_of_zero_le hc.1
    have hc' : c ≤ 1099511627776 := by omega
    clear hc
    by_cases hd : 0 ≤ a3 ∧ a3 ≤ 1099511627776
    · obtain ⟨d, rfl⟩ := Int.eq_ofNat_of_zero_le hd.1
      have hd' : d ≤ 1099511627776 := by omega
      clear hd
      have hl := tagL_len a c
      by_cases he : a = b ∧ c = d
      · obtain ⟨rfl, rfl⟩ := he
        go_enter Try.func8, Try.ntmps8
        go_wp2_with fail
        refine (tag_pos _ _ _ ha hc').mono ?_
        rintro e w1 ⟨rfl, k1⟩
        go_wp2_with fail
        refine (tag_pos _ _ _ ha hc').mono ?_
        rintro e w2 ⟨rfl, k2⟩
        go_wp2_with (first
          | (go_at_call 22; refine (read_pos a c _ ha hc').mono ?_; rintro e w' ⟨rfl, rfl⟩)
          | (go_at_call 15; refine (awake_any _).mono ?_; rintro e w4 ⟨rfl, h4⟩))
        go_ret
        exact ⟨rfl, (k1.trans (k2.mono k1.size)).trans (h4.mono (Nat.le_trans k1.size k2.size))⟩
      · have hne : (tagL a c == tagL b d) = false := by
          simp only [beq_eq_false_iff_ne, ne_eq]
          intro h
          exact he (tag_inj ha hc' hb hd' h)
        by_cases hab : a = b
        · have hcd : ((c : Int) == (d : Int)) = false := by simp only [beq_eq_false_iff_ne, ne_eq]; omega
          subst hab
          clear he
          go_enter Try.func8, Try.ntmps8
          go_wp2_with fail
          refine (tag_pos _ _ _ ha hc').mono ?_
          rintro e w1 ⟨rfl, k1⟩
          go_wp2_with fail
          refine (tag_pos _ _ _ ha hd').mono ?_
          rintro e w2 ⟨rfl, k2⟩
          go_wp2_with (first
            | (go_at_call 22; refine (read_pos a c _ ha hc').mono ?_; rintro e w' ⟨rfl, rfl⟩)
            | (go_at_call 15; refine (awake_any _).mono ?_; rintro e w4 ⟨rfl, h4⟩))
          go_ret
          exact ⟨rfl, (k1.trans (k2.mono k1.size)).trans (h4.mono (Nat.le_trans k1.size k2.size))⟩
        · have hab' : ((a : Int) == (b : Int)) = false := by simp only [beq_eq_false_iff_ne, ne_eq]; omega
          clear he hab
          go_enter Try.func8, Try.ntmps8
          go_wp2_with fail
          refine (tag_pos _ _ _ ha hc').mono ?_
          rintro e w1 ⟨rfl, k1⟩
          go_wp2_with fail
          refine (tag_pos _ _ _ hb hd').mono ?_
          rintro e w2 ⟨rfl, k2⟩
          go_wp2_with (first
            | (go_at_call 22; refine (read_pos a c _ ha hc').mono ?_; rintro e w' ⟨rfl, rfl⟩)
            | (go_at_call 15; refine (awake_any _).mono ?_; rintro e w4 ⟨rfl, h4⟩))
          go_ret
          exact ⟨rfl, (k1.trans (k2.mono k1.size)).trans (h4.mono (Nat.le_trans k1.size k2.size))⟩
    · have HD : Hid _ := hd; clear hd
      go_enter Try.func8, Try.ntmps8
      go_wp2_with fail
      refine (tag_pos _ _ _ ha hc').mono ?_
      rintro e w1 ⟨rfl, k1⟩
      go_wp2_with (first
        | (go_at_call 20; refine (tag_neg b a3 _ hb HD.out).mono ?_; rintro e w2 ⟨rfl, k2⟩)
        | (go_at_call 15; refine (awake_any _).mono ?_; rintro e w4 ⟨rfl, h4⟩))
      go_ret
      exact ⟨rfl, (k1.trans (k2.mono k1.size)).trans (h4.mono (Nat.le_trans k1.size k2.size))⟩
  · have HC : Hid _ := hc; clear hc
    go_enter Try.func8, Try.ntmps8
    go_wp2_with fail
    refine (tag_neg a a1 _ ha HC.out).mono ?_
    rintro e w1 ⟨rfl, k1⟩
    go_wp2_with (first
      | (go_at_call 20; refine (tag_any b a3 _ hb).mono ?_; rintro e w2 ⟨rfl, k2⟩)
      | (go_at_call 15; refine (awake_any _).mono ?_; rintro e w4 ⟨rfl, h4⟩))
    go_ret
    exact ⟨rfl, (k1.trans (k2.mono k1.size)).trans (h4.mono (Nat.le_trans k1.size k2.size))⟩

end Go.Proofs.Ytlhkembihpafaaa.clockApart
