/-
  Contracts of clock.Add, Seconds, Left, Waits and At.
-/
import Derived.Test.YtgikbpaejmdnoaaKit
namespace Go.Proofs.Ytgikbpaejmdnoaa
open Go.RowKit
set_option linter.unusedVariables false
set_option maxRecDepth 20000

def addV (t d : Int) : Int × Int := if ¬ (0 ≤ t ∧ t ≤ 1099511627776 ∧ 0 ≤ d ∧ d ≤ 1099511627776) then (0, 1) else if t + d > 1099511627776 then (0, 9) else (t + d, 0)
def secV (n : Int) : Int × Int := if 0 ≤ n ∧ n ≤ 2147483647 then (n * 10, 0) else (0, 9)
def leftV (a b : Int) : Int := if b ≤ a then 0 else (b - a + 9) / 10
def waitV (n : Int) : Int := if n < 1 then 0 else if n = 1 then 5 else if n = 2 then 10 else if n = 3 then 20 else 40
def sumV (n : Int) : Int := if n ≤ 1 then 0 else if n = 2 then 5 else if n = 3 then 15 else 40 * n - 125
def atV (n : Int) : Int × Bool := if 1 ≤ n ∧ n ≤ 11 then (sumV n, true) else (0, false)

theorem sumV_next {i : Int} (h : 1 ≤ i) : sumV i + waitV i = sumV (i + 1) := by
  unfold sumV waitV
  repeat' split
  all_goals omega
theorem waitV_bd (i : Int) : 0 ≤ waitV i ∧ waitV i ≤ 40 := by
  unfold waitV
  repeat' split
  all_goals omega
theorem sumV_small {i : Int} (h : 1 ≤ i) : sumV i < 320 ↔ i ≤ 11 := by
  unfold sumV
  repeat' split
  all_goals omega
theorem sumV_bd {i : Int} (h : 1 ≤ i) (h2 : i ≤ 101) : 0 ≤ sumV i ∧ sumV i ≤ 4000 := by
  unfold sumV
  repeat' split
  all_goals omega
theorem ret_at {p : Int × Bool} (a : Int) (b : Bool) (h : p = (a, b)) : Ending.returned (.tuple #[.int .i64 a, .bool b]) = .returned (.tuple #[.int .i64 p.1, .bool p.2]) := by rw [h]

set_option maxHeartbeats 400000 in
theorem waits_any (n : Int) (w : World) (n1 : n ≤ 9223372036854775807) :
    Calls Try.prog 41 #[.int .i64 n] w fun e w' => e = .returned (.int .i64 (waitV n)) ∧ w' = w := by
  by_cases h : n < 1
  · go_enter Try.func41, Try.ntmps41
    go_wp2
    go_ret
    exact ⟨ret_int (by rw [waitV, if_pos h]), rfl⟩
  · go_enter Try.func41, Try.ntmps41
    go_wp2
    go_loop [3, 4] (fun x i => ∃ k : Nat, (k : Int) + 1 ≤ n ∧ k ≤ 3 ∧ i = .int .i64 ((k : Int) + 1) ∧ x = .int .i64 (waitV (k + 1))) (fun _ i => 4 - (intOf i).toNat)
    case atStart => exact ⟨0, by omega, by omega, rfl, rfl⟩
    case round =>
      obtain ⟨k, hk, hk3, rfl, rfl⟩ := hrel
      by_cases hk2 : k < 3
      · by_cases hlt : (k : Int) + 1 < n
        · have hs : waitV (k + 1) < 40 ∧ 0 ≤ waitV (k + 1) ∧ waitV (k + 1) * 2 = waitV (k + 1 + 1) := by
            unfold waitV
            repeat' split
            all_goals omega
          obtain ⟨s1, s0, s2⟩ := hs
          have S2 : Hid _ := s2; clear s2
          go_wp2
          go_round
          case rel => exact ⟨k + 1, by omega, by omega, by go_num, by rw [S2.out]; go_num⟩
          case measure => simp [intOf]; omega
        · have hs : waitV (k + 1) ≤ 40 := (waitV_bd _).2
          have he : (k : Int) + 1 = n := by omega
          go_wp2
          all_goals go_ret
          all_goals (rw [he] at hs; exact ⟨ret_int (by omega), rfl⟩)
      · have hs : waitV (k + 1) = 40 := by rw [waitV]; repeat' split; all_goals omega
        have hn : Hid (waitV n = 40) := show _ = _ by rw [waitV]; repeat' split; all_goals omega
        go_wp2
        all_goals go_ret
        all_goals exact ⟨ret_int hn.out.symm, rfl⟩

set_option maxHeartbeats 400000 in
theorem at_any (n : Int) (w : World) (n1 : n ≤ 9223372036854775807) :
    Calls Try.prog 36 #[.int .i64 n] w fun e w' => e = .returned (.tuple #[.int .i64 (atV n).1, .bool (atV n).2]) ∧ w' = w := by
  by_cases h : n < 1
  · go_enter Try.func36, Try.ntmps36
    go_wp2
    go_ret2
    exact ⟨ret_at _ _ (by rw [atV, if_neg (by omega)]), rfl⟩
  · go_enter Try.func36, Try.ntmps36
    go_wp2
    go_loop [4, 5] (fun x i => ∃ k : Nat, (k : Int) + 1 ≤ n ∧ k ≤ 10 ∧ i = .int .i64 ((k : Int) + 1) ∧ x = .int .i64 (sumV (k + 1))) (fun _ i => 12 - (intOf i).toNat)
    case atStart => exact ⟨0, by omega, by omega, rfl, rfl⟩
    case round =>
      obtain ⟨k, hk, hk3, rfl, rfl⟩ := hrel
      have hbd := sumV_bd (i := (k : Int) + 1) (by omega) (by omega)
      have hwb := waitV_bd ((k : Int) + 1)
      have hnx := sumV_next (i := (k : Int) + 1) (by omega)
      have hsm := sumV_small (i := (k : Int) + 1 + 1) (by omega)
      by_cases hlt : (k : Int) + 1 < n
      · by_cases hk2 : k < 10
        · have hs : sumV (k + 1) + waitV (k + 1) < 320 := by omega
          have HN : Hid _ := hnx; clear hnx hsm
          go_wp2_with (go_at_call 41; refine (waits_any _ _ (by omega)).mono ?_; rintro e w' ⟨rfl, rfl⟩)
          go_round
          case rel => exact ⟨k + 1, by omega, by omega, by go_num, by rw [HN.out]; go_num⟩
          case measure => simp [intOf]; omega
        · have hs : 320 ≤ sumV (k + 1) + waitV (k + 1) := by omega
          have hv : Hid (atV n = (0, false)) := show _ = _ by rw [atV, if_neg (by omega)]
          clear hnx hsm
          go_wp2_with (go_at_call 41; refine (waits_any _ _ (by omega)).mono ?_; rintro e w' ⟨rfl, rfl⟩)
          go_ret2
          exact ⟨ret_at _ _ hv.out, rfl⟩
      · have he : (k : Int) + 1 = n := by omega
        have hv : Hid (atV n = (sumV n, true)) := show _ = _ by rw [atV, if_pos (by omega)]
        clear hnx hsm
        go_wp2
        go_ret2
        exact ⟨ret_at _ _ hv.out, rfl⟩

end Go.Proofs.Ytgikbpaejmdnoaa
