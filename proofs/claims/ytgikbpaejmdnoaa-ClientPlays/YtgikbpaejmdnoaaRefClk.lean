/-
  Contracts of the document's own Add, Seconds, Left, Waits and At.
-/
import Derived.Test.YtgikbpaejmdnoaaClk
namespace Go.Proofs.Ytgikbpaejmdnoaa
open Go.RowKit
set_option linter.unusedVariables false
set_option maxRecDepth 20000

set_option maxHeartbeats 400000 in
theorem rwaits_any (n : Int) (w : World) (n1 : n ≤ 9223372036854775807) :
    Calls Try.prog 44 #[.int .i64 n] w fun e w' => e = .returned (.int .i64 (waitV n)) ∧ w' = w := by
  by_cases h : n < 1
  · go_enter Try.func44, Try.ntmps44
    go_wp2
    go_ret
    exact ⟨ret_int (by rw [waitV, if_pos h]), rfl⟩
  · go_enter Try.func44, Try.ntmps44
    go_wp2
    go_loop [3, 4] (fun x i => ∃ k : Nat, (k : Int) + 1 ≤ n ∧ k ≤ 3 ∧ i = .int .i64 ((k : Int) + 1) ∧ x = .int .i64 (waitV (k + 1))) (fun _ i => 4 - (intOf i).toNat)
    case atStart => exact ⟨0, by omega, by omega, rfl, rfl⟩
    case round =>
      obtain ⟨k, hk, hk3, rfl, rfl⟩ := hrel
      by_cases hk2 : k < 3
      · by_cases hlt : (k : Int) + 1 < n
        · have hs : waitV (k + 1) < 40 ∧ 0 ≤ waitV (k + 1) ∧ 2 * waitV (k + 1) = waitV (k + 1 + 1) := by
            unfold waitV
            repeat' split
            all_goals omega
          obtain ⟨s1, s0, s2⟩ := hs
          have S2 : Hid _ := s2; clear s2
          go_wp2
          go_round
          case rel => exact ⟨k + 1, by omega, by omega, by go_num, by rw [S2.out]; go_num⟩
          case measure => simp [intOf]; omega
        · have hs : waitV (k + 1) ≤ 40 := (waitV_bd _).2
          have he : (k : Int) + 1 = n := by omega
          go_wp2
          all_goals go_ret
          all_goals (rw [he] at hs; exact ⟨ret_int (by omega), rfl⟩)
      · have hs : waitV (k + 1) = 40 := by rw [waitV]; repeat' split; all_goals omega
        have hn : Hid (waitV n = 40) := show _ = _ by rw [waitV]; repeat' split; all_goals omega
        go_wp2
        all_goals go_ret
        all_goals exact ⟨ret_int hn.out.symm, rfl⟩

set_option maxHeartbeats 400000 in
theorem rat_any (n : Int) (w : World) (n1 : n ≤ 9223372036854775807) :
    Calls Try.prog 38 #[.int .i64 n] w fun e w' => e = .returned (.tuple #[.int .i64 (atV n).1, .bool (atV n).2]) ∧ w' = w := by
  by_cases h : n < 1
  · go_enter Try.func38, Try.ntmps38
    go_wp2
    go_ret2
    exact ⟨ret_at _ _ (by rw [atV, if_neg (by omega)]), rfl⟩
  · by_cases h100 : 100 < n
    · go_enter Try.func38, Try.ntmps38
      go_wp2
      go_ret2
      exact ⟨ret_at _ _ (by rw [atV, if_neg (by omega)]), rfl⟩
    · go_enter Try.func38, Try.ntmps38
      go_wp2
      go_loop [4, 5] (fun x i => ∃ k : Nat, (k : Int) + 1 ≤ n ∧ i = .int .i64 ((k : Int) + 1) ∧ x = .int .i64 (sumV (k + 1))) (fun _ i => 102 - (intOf i).toNat)
      case atStart => exact ⟨0, by omega, rfl, rfl⟩
      case round =>
        obtain ⟨k, hk, rfl, rfl⟩ := hrel
        have hbd := sumV_bd (i := (k : Int) + 1) (by omega) (by omega)
        have hwb := waitV_bd ((k : Int) + 1)
        have hnx := sumV_next (i := (k : Int) + 1) (by omega)
        have hsm := sumV_small (i := (k : Int) + 1) (by omega)
        have HN : Hid _ := hnx; clear hnx
        by_cases hlt : (k : Int) + 1 < n
        · clear hsm
          go_wp2_with (go_at_call 44; refine (rwaits_any _ _ (by omega)).mono ?_; rintro e w' ⟨rfl, rfl⟩)
          go_round
          case rel => exact ⟨k + 1, by omega, by go_num, by rw [HN.out]; go_num⟩
          case measure => simp [intOf]; omega
        · have he : (k : Int) + 1 = n := by omega
          rw [he] at hsm
          have HS : Hid _ := hsm; clear hsm HN
          go_wp2
          all_goals go_ret2
          all_goals have hs := HS.out
          · exact ⟨ret_at _ _ (by rw [atV, if_neg (by omega)]), rfl⟩
          · exact ⟨ret_at _ _ (by rw [atV, if_pos (by omega)]), rfl⟩

end Go.Proofs.Ytgikbpaejmdnoaa
