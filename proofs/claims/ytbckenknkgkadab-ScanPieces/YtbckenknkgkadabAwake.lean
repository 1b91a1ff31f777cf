/-
  The contract of awake: the chapter's examples hold.
-/
import Derived.Test.YtbckenknkgkadabQuote
import Derived.Test.YtbckenknkgkadabEscape
import Derived.Test.YtbckenknkgkadabParts
namespace Go.Proofs.Ytbckenknkgkadab
open Go.RowKit Sc
set_option linter.unusedVariables false

theorem number_ex1 (w : World) : Calls Try.prog 15 #[.string ⟨#[48, 48, 55]⟩, .int .i64 9] w fun e w' => e = .returned (.tuple #[.int .i64 7, .int .i64 0]) ∧ w' = w := by
  refine (number_any ⟨#[48, 48, 55]⟩ 9 w (by decide) (by decide) (by decide)).mono ?_
  rintro e w' ⟨rfl, rfl⟩
  have h : numV 9 (⟨#[48, 48, 55]⟩ : ByteArray).data.toList = (7, 0) := by decide +kernel
  rw [h]
  exact ⟨rfl, rfl⟩
theorem number_ex2 (w : World) : Calls Try.prog 15 #[.string ⟨#[49, 48]⟩, .int .i64 9] w fun e w' => e = .returned (.tuple #[.int .i64 0, .int .i64 9]) ∧ w' = w := by
  refine (number_any ⟨#[49, 48]⟩ 9 w (by decide) (by decide) (by decide)).mono ?_
  rintro e w' ⟨rfl, rfl⟩
  have h : numV 9 (⟨#[49, 48]⟩ : ByteArray).data.toList = (0, 9) := by decide +kernel
  rw [h]
  exact ⟨rfl, rfl⟩
theorem quote_ex (w : World) : Calls Try.prog 11 #[.string ⟨#[97, 34, 98]⟩] w fun e w' => e = .returned (.tuple #[.string ⟨#[34, 97, 92, 34, 98, 34]⟩, .int .i64 0]) ∧ Below w.heap.size w w' := by
  refine (quote_any ⟨#[97, 34, 98]⟩ w (by decide)).mono ?_
  rintro e w' ⟨rfl, hb⟩
  have h : quoteV (⟨#[97, 34, 98]⟩ : ByteArray).data.toList = ([34, 97, 92, 34, 98, 34], 0) := by decide +kernel
  rw [h]
  exact ⟨rfl, hb⟩
theorem escape_ex (w : World) : Calls Try.prog 14 #[.string ⟨#[97, 32, 98]⟩, .string ⟨#[]⟩] w fun e w' => e = .returned (.string ⟨#[97, 37, 50, 48, 98]⟩) ∧ Below w.heap.size w w' := by
  refine (escape_any ⟨#[97, 32, 98]⟩ ⟨#[]⟩ w (by decide) (by decide)).mono ?_
  rintro e w' ⟨rfl, hb⟩
  have h : esc (kpF (⟨#[]⟩ : ByteArray).data.toList) (⟨#[97, 32, 98]⟩ : ByteArray).data.toList = [97, 37, 50, 48, 98] := by decide +kernel
  rw [h]
  exact ⟨rfl, hb⟩
theorem class_ex (w : World) : Calls Try.prog 20 #[.int .u8 102] w fun e w' => e = .returned (.int .i64 94) ∧ w' = w := by
  refine (class_any 102 w (by decide) (by decide)).mono ?_
  rintro e w' ⟨rfl, rfl⟩
  exact ⟨rfl, rfl⟩
theorem parts_ex (w : World) : Calls Try.prog 8 #[.string ⟨#[97, 44, 34, 98, 44, 99, 34, 44, 60, 100, 44, 101, 62]⟩, .int .u8 44] w fun e w' => ∃ a c, e = .returned (.slice a 3 c) ∧ Below w.heap.size w w' := by
  refine (parts_any ⟨#[97, 44, 34, 98, 44, 99, 34, 44, 60, 100, 44, 101, 62]⟩ 44 w (by decide)).mono ?_
  rintro e w' ⟨v, rfl, hown, hb⟩
  have h : (strs (partsV 44 (⟨#[97, 44, 34, 98, 44, 99, 34, 44, 60, 100, 44, 101, 62]⟩ : ByteArray).data.toList)).length = 3 := by rw [strs_length]; decide +kernel
  obtain ⟨a, c, hv⟩ := hown.form
  rw [h] at hv
  exact ⟨a, c, by rw [hv], hb⟩

set_option maxHeartbeats 400000 in
theorem awake_any (w : World) : Calls Try.prog 10 #[] w fun e w' => e = .returned (.bool true) ∧ Below w.heap.size w w' := by
  go_enter Try.func10, Try.ntmps10
  go_wp2_with fail
  refine (number_ex1 _).mono ?_
  rintro e w' ⟨rfl, rfl⟩
  go_wp2_with fail
  refine (number_ex2 _).mono ?_
  rintro e w' ⟨rfl, rfl⟩
  go_wp2_with fail
  refine (quote_ex _).mono ?_
  rintro e w1 ⟨rfl, hb1⟩
  go_wp2_with (first
    | (go_at_call 20; refine (class_ex _).mono ?_; rintro e w' ⟨rfl, rfl⟩)
    | (go_at_call 14; refine (escape_ex _).mono ?_; rintro e w2 ⟨rfl, hb2⟩)
    | (go_at_call 8; refine (parts_ex _).mono ?_; rintro e w3 ⟨a, c, rfl, hb3⟩))
  go_ret
  exact ⟨rfl, (hb1.trans (hb2.mono hb1.size)).trans (hb3.mono (Nat.le_trans hb1.size hb2.size))⟩

end Go.Proofs.Ytbckenknkgkadab
