/-
  The walk of ScanNumbers.
-/
import Derived.Test.YtbckenknkgkadaaRefDig
import Derived.Test.YtbckenknkgkadaaAwake
namespace Go.Proofs.Ytbckenknkgkadaa.scanNumbers
open Go.RowKit Sc
set_option linter.unusedVariables false

theorem i64_of {a : Int} (h : (Lit.int .i64 a).wf = true) : -9223372036854775808 ≤ a ∧ a ≤ 9223372036854775807 := by
  simpa [Lit.wf, IntKind.min, IntKind.max, IntKind.signed, IntKind.bits] using h

set_option maxHeartbeats 600000 in
theorem law_walk (a0 : ByteArray) (a1 a2 : Int) (b0 : a0.size ≤ 140737488351232) (w1 : (Lit.int .i64 a1).wf = true) (w2 : (Lit.int .i64 a2).wf = true) (w : World) :
    Calls Try.prog 6 #[.string a0, .int .i64 a1, .int .i64 a2] w fun e w' => e = .returned (.bool true) ∧ Below w.heap.size w w' := by
  have hm : a0.size ≤ maxLen := by unfold maxLen; omega
  have h1 := i64_of w1
  have h2 := i64_of w2
  by_cases hn : a2 < 0
  · go_enter Try.func6, Try.ntmps6
    go_wp2_with (first
      | (go_at_call 22; refine (number_any _ _ _ hm h1.1 h1.2).mono ?_; rintro e w' ⟨rfl, rfl⟩)
      | (go_at_call 23; refine (refnumber_any _ _ _ hm h1.1 h1.2).mono ?_; rintro e w' ⟨rfl, rfl⟩)
      | (go_at_call 24; refine (digits_neg _ _ hn).mono ?_; rintro e w' ⟨rfl, rfl⟩)
      | (go_at_call 25; refine (refdigits_neg _ _ hn).mono ?_; rintro e w' ⟨rfl, rfl⟩)
      | (go_at_call 13; refine (awake_any _).mono ?_; rintro e w4 ⟨rfl, h4⟩))
    go_ret
    exact ⟨rfl, h4⟩
  · obtain ⟨n, rfl⟩ := Int.eq_ofNat_of_zero_le (show 0 ≤ a2 by omega)
    have hnn : n ≤ 9223372036854775807 := by omega
    go_enter Try.func6, Try.ntmps6
    go_wp2_with (first
      | (go_at_call 22; refine (number_any _ _ _ hm h1.1 h1.2).mono ?_; rintro e w' ⟨rfl, rfl⟩)
      | (go_at_call 23; refine (refnumber_any _ _ _ hm h1.1 h1.2).mono ?_; rintro e w' ⟨rfl, rfl⟩)
      | (go_at_call 24; refine (digits_any n _ hnn).mono ?_; rintro e w1 ⟨rfl, hd1⟩)
      | (go_at_call 25; refine (refdigits_any n _ _ (by omega) (by omega) (by omega)).mono ?_; rintro e w' ⟨rfl, q, rfl⟩)
      | (go_at_call 13; refine (awake_any _).mono ?_; rintro e w4 ⟨rfl, h4⟩))
    go_ret
    exact ⟨rfl, (hd1.trans ((below_drewN _ q).mono hd1.size)).trans (h4.mono hd1.size)⟩

end Go.Proofs.Ytbckenknkgkadaa.scanNumbers
