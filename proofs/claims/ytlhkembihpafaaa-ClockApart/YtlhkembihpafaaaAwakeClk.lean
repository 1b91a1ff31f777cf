/-
  The contract of awake: the chapter's examples hold.
-/
import Derived.Test.YtlhkembihpafaaaTag
namespace Go.Proofs.Ytlhkembihpafaaa
open Go.RowKit
set_option linter.unusedVariables false

theorem at_ex1 (w : World) : Calls Try.prog 16 #[.int .i64 11] w fun e w' => e = .returned (.tuple #[.int .i64 315, .bool true]) ∧ w' = w := at_any 11 w (by decide)
theorem at_ex2 (w : World) : Calls Try.prog 16 #[.int .i64 12] w fun e w' => e = .returned (.tuple #[.int .i64 0, .bool false]) ∧ w' = w := at_any 12 w (by decide)
theorem left_ex (w : World) : Calls Try.prog 13 #[.int .i64 0, .int .i64 11] w fun e w' => e = .returned (.int .i64 2) ∧ w' = w := left_any 0 11 w (by decide) (by decide) (by decide) (by decide)
theorem tag_ex (w : World) : Calls Try.prog 20 #[.int .u64 1, .int .i64 2] w fun e w' => e = .returned (.tuple #[.string ⟨#[98, 97, 97, 97, 97, 97, 97, 97, 97, 97, 97, 97, 97, 99, 97, 97, 97, 97, 97, 97, 97, 97]⟩, .int .i64 0]) ∧ Below w.heap.size w w' := by
  refine (tag_any 1 2 w (by decide)).mono ?_
  rintro e w' ⟨rfl, hb⟩
  have h : tagV 1 2 = ([98, 97, 97, 97, 97, 97, 97, 97, 97, 97, 97, 97, 97, 99, 97, 97, 97, 97, 97, 97, 97, 97], 0) := by decide +kernel
  rw [h]
  exact ⟨rfl, hb⟩

set_option maxHeartbeats 400000 in
theorem awake_any (w : World) : Calls Try.prog 15 #[] w fun e w' => e = .returned (.bool true) ∧ Below w.heap.size w w' := by
  go_enter Try.func15, Try.ntmps15
  go_wp2_with fail
  refine (at_ex1 _).mono ?_
  rintro e w' ⟨rfl, rfl⟩
  go_wp2_with fail
  refine (at_ex2 _).mono ?_
  rintro e w' ⟨rfl, rfl⟩
  go_wp2_with (first
    | (go_at_call 13; refine (left_ex _).mono ?_; rintro e w' ⟨rfl, rfl⟩)
    | (go_at_call 20; refine (tag_ex _).mono ?_; rintro e w1 ⟨rfl, hb1⟩))
  go_ret
  exact ⟨rfl, hb1⟩

end Go.Proofs.Ytlhkembihpafaaa
