/-
  The walk of ClockLeft.
-/
import Derived.Test.YtlhkembihpafaaaAwakeClk
namespace Go.Proofs.Ytlhkembihpafaaa.clockLeft
open Go.RowKit
set_option linter.unusedVariables false

theorem left_d (a d n : Int) (w : World) (h0 : 0 ≤ a) (h1 : a ≤ 1099511627776) (h2 : 0 ≤ d) (h3 : d ≤ 1099511627776) (hn : n = (d + 9) / 10) :
    Calls Try.prog 13 #[.int .i64 a, .int .i64 (a + d)] w fun e w' => e = .returned (.int .i64 n) ∧ w' = w := by
  have hl : leftV a (a + d) = n := by rw [leftV]; split <;> omega
  rw [← hl]
  exact left_any a (a + d) w (by omega) (by omega) (by omega) (by omega)

theorem left_same (a : Int) (w : World) (h0 : 0 ≤ a) (h1 : a ≤ 1099511627776) :
    Calls Try.prog 13 #[.int .i64 a, .int .i64 a] w fun e w' => e = .returned (.int .i64 0) ∧ w' = w := by
  have hl : leftV a a = 0 := by rw [leftV, if_pos (Int.le_refl _)]
  rw [← hl]
  exact left_any a a w (by omega) (by omega) (by omega) (by omega)

set_option maxHeartbeats 600000 in
theorem law_walk (a0 a1 : Int) (w0 : (Lit.int .i64 a0).wf = true) (w1 : (Lit.int .i64 a1).wf = true) (w : World) :
    Calls Try.prog 6 #[.int .i64 a0, .int .i64 a1] w fun e w' => e = .returned (.bool true) ∧ Below w.heap.size w w' := by
  have h0 := i64_of w0
  have h1 := i64_of w1
  by_cases hin : 0 ≤ a0 ∧ a0 ≤ 1099511627776 ∧ 0 ≤ a1 ∧ a1 ≤ 1099511627776
  · obtain ⟨c1, c2, c3, c4⟩ := hin
    obtain ⟨n, hl⟩ : ∃ n, n = (a1 + 9) / 10 := ⟨_, rfl⟩
    have k1 : a1 ≤ 10 * n := by omega
    have k2 : 10 * (n - 1) < a1 := by omega
    have k3 : 0 ≤ n ∧ n ≤ 1099511627776 := by omega
    have HL : Hid _ := hl; clear hl
    by_cases hz : a1 = 0
    · have hn0 : n = 0 := by have := HL.out; omega
      subst hz hn0
      go_enter Try.func6, Try.ntmps6
      go_wp2_with (first
        | (go_at_call 13; refine (left_same _ _ c1 c2).mono ?_; rintro e w' ⟨rfl, rfl⟩)
        | (go_at_call 15; refine (awake_any _).mono ?_; rintro e w4 ⟨rfl, h4⟩))
      go_ret
      exact ⟨rfl, h4⟩
    · have hne : (n == 0) = false := by
        have := HL.out
        simp only [beq_eq_false_iff_ne, ne_eq]
        omega
      go_enter Try.func6, Try.ntmps6
      go_wp2_with (first
        | (go_at_call 13; refine (left_d a0 a1 n _ c1 c2 c3 c4 HL.out).mono ?_; rintro e w' ⟨rfl, rfl⟩)
        | (go_at_call 15; refine (awake_any _).mono ?_; rintro e w4 ⟨rfl, h4⟩))
      all_goals go_ret
      all_goals exact ⟨rfl, h4⟩
  · by_cases c1 : 0 ≤ a0
    · by_cases c2 : a0 ≤ 1099511627776
      · by_cases c3 : 0 ≤ a1
        · have c4 : 1099511627776 < a1 := by omega
          clear hin
          go_enter Try.func6, Try.ntmps6
          go_wp2_with (go_at_call 15; refine (awake_any _).mono ?_; rintro e w4 ⟨rfl, h4⟩)
          go_ret
          exact ⟨rfl, h4⟩
        · clear hin
          go_enter Try.func6, Try.ntmps6
          go_wp2_with (go_at_call 15; refine (awake_any _).mono ?_; rintro e w4 ⟨rfl, h4⟩)
          go_ret
          exact ⟨rfl, h4⟩
      · clear hin
        go_enter Try.func6, Try.ntmps6
        go_wp2_with (go_at_call 15; refine (awake_any _).mono ?_; rintro e w4 ⟨rfl, h4⟩)
        go_ret
        exact ⟨rfl, h4⟩
    · clear hin
      go_enter Try.func6, Try.ntmps6
      go_wp2_with (go_at_call 15; refine (awake_any _).mono ?_; rintro e w4 ⟨rfl, h4⟩)
      go_ret
      exact ⟨rfl, h4⟩

end Go.Proofs.Ytlhkembihpafaaa.clockLeft
