/-
  The walk of ClockEleven.
-/
import Derived.Test.YtlhkembihpafaaaAwakeClk
namespace Go.Proofs.Ytlhkembihpafaaa.clockEleven
open Go.RowKit
set_option linter.unusedVariables false

theorem at_pos (n : Int) (w : World) (h : 1 ≤ n) (h' : n ≤ 11) :
    Calls Try.prog 16 #[.int .i64 n] w fun e w' => e = .returned (.tuple #[.int .i64 (sumV n), .bool true]) ∧ w' = w := by
  have e1 : atV n = (sumV n, true) := by rw [atV, if_pos ⟨h, h'⟩]
  have := at_any n w (by omega)
  rw [e1] at this
  exact this
theorem at_none (n : Int) (w : World) (h : ¬ (1 ≤ n ∧ n ≤ 11)) (h' : n ≤ 9223372036854775807) :
    Calls Try.prog 16 #[.int .i64 n] w fun e w' => e = .returned (.tuple #[.int .i64 0, .bool false]) ∧ w' = w := by
  have e1 : atV n = (0, false) := by rw [atV, if_neg h]
  have := at_any n w h'
  rw [e1] at this
  exact this

set_option maxHeartbeats 600000 in
theorem law_walk (a0 : Int) (w0 : (Lit.int .i64 a0).wf = true) (w : World) :
    Calls Try.prog 7 #[.int .i64 a0] w fun e w' => e = .returned (.bool true) ∧ Below w.heap.size w w' := by
  have h0 := i64_of w0
  by_cases hin : 1 ≤ a0 ∧ a0 ≤ 11
  · have hb := sumV_bd (i := a0) hin.1 (by omega)
    have hs := (sumV_small (i := a0) hin.1).2 hin.2
    by_cases h1 : a0 = 1
    · subst h1
      go_enter Try.func7, Try.ntmps7
      go_wp2_with (first
        | (go_at_call 16; refine (at_any 1 _ (by decide)).mono ?_; rintro e w' ⟨rfl, rfl⟩)
        | (go_at_call 15; refine (awake_any _).mono ?_; rintro e w4 ⟨rfl, h4⟩))
      go_ret
      exact ⟨rfl, h4⟩
    · have hne : (a0 == 1) = false := by simpa using h1
      have hb2 := sumV_bd (i := a0 - 1) (by omega) (by omega)
      have hnx := sumV_next (i := a0 - 1) (by omega)
      rw [show a0 - 1 + 1 = a0 by omega] at hnx
      have hw := waitV_bd (a0 - 1)
      have hw5 : 5 ≤ waitV (a0 - 1) := by unfold waitV; repeat' split; all_goals omega
      obtain ⟨i1, i2⟩ := hin
      go_enter Try.func7, Try.ntmps7
      go_wp2_with fail
      refine (at_pos _ _ i1 i2).mono ?_
      rintro e w' ⟨rfl, rfl⟩
      go_wp2_with (first
        | (go_at_call 16; refine (at_pos _ _ (by omega) (by omega)).mono ?_; rintro e w' ⟨rfl, rfl⟩)
        | (go_at_call 18; refine (waits_any _ _ (by omega)).mono ?_; rintro e w' ⟨rfl, rfl⟩)
        | (go_at_call 15; refine (awake_any _).mono ?_; rintro e w4 ⟨rfl, h4⟩))
      all_goals go_ret
      all_goals exact ⟨rfl, h4⟩
  · by_cases i1 : 1 ≤ a0
    · have i2 : 11 < a0 := by omega
      go_enter Try.func7, Try.ntmps7
      go_wp2_with (first
        | (go_at_call 16; refine (at_none _ _ (by omega) h0.2).mono ?_; rintro e w' ⟨rfl, rfl⟩)
        | (go_at_call 15; refine (awake_any _).mono ?_; rintro e w4 ⟨rfl, h4⟩))
      go_ret
      exact ⟨rfl, h4⟩
    · go_enter Try.func7, Try.ntmps7
      go_wp2_with (first
        | (go_at_call 16; refine (at_none _ _ (by omega) h0.2).mono ?_; rintro e w' ⟨rfl, rfl⟩)
        | (go_at_call 15; refine (awake_any _).mono ?_; rintro e w4 ⟨rfl, h4⟩))
      go_ret
      exact ⟨rfl, h4⟩

end Go.Proofs.Ytlhkembihpafaaa.clockEleven
