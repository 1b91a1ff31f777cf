/-
  The walk of ClockTags.
-/
import Derived.Test.YtlhkembihpafaaaRefRd
import Derived.Test.YtlhkembihpafaaaAwakeClk
namespace Go.Proofs.Ytlhkembihpafaaa.clockTags
open Go.RowKit
set_option linter.unusedVariables false

set_option maxHeartbeats 600000 in
theorem law_walk (a0 a1 : Int) (a2 : ByteArray) (w0 : (Lit.int .u64 a0).wf = true) (w1 : (Lit.int .i64 a1).wf = true) (b2 : a2.size ≤ 140737488351232) (w : World) :
    Calls Try.prog 5 #[.int .u64 a0, .int .i64 a1, .string a2] w fun e w' => e = .returned (.bool true) ∧ Below w.heap.size w w' := by
  have h0 := u64_of w0
  have h1 := i64_of w1
  have hm : a2.size ≤ maxLen := by unfold maxLen; omega
  obtain ⟨a, rfl⟩ := Int.eq_ofNat_of_zero_le h0.1
  have ha : a < 18446744073709551616 := by omega
  go_enter Try.func5, Try.ntmps5
  go_wp2_with (first
    | (go_at_call 20; refine (tag_any a a1 _ ha).mono ?_; rintro e w2 ⟨rfl, h2⟩)
    | (go_at_call 21; refine (rtag_any a a1 _ ha).mono ?_; rintro e w' ⟨rfl, rfl⟩)
    | (go_at_call 22; refine (Read_any _ _ hm).mono ?_; rintro e w' ⟨rfl, rfl⟩)
    | (go_at_call 23; refine (RRead_any _ _ hm).mono ?_; rintro e w' ⟨rfl, rfl⟩)
    | (go_at_call 15; refine (awake_any _).mono ?_; rintro e w4 ⟨rfl, h4⟩))
  go_ret
  exact ⟨rfl, h2.trans (h4.mono h2.size)⟩

end Go.Proofs.Ytlhkembihpafaaa.clockTags
