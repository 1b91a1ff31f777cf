/-
  The walk of ClockWaits.
-/
import Derived.Test.YtlhkembihpafaaaRefClk
import Derived.Test.YtlhkembihpafaaaAwakeClk
namespace Go.Proofs.Ytlhkembihpafaaa.clockWaits
open Go.RowKit
set_option linter.unusedVariables false

set_option maxHeartbeats 600000 in
theorem law_walk (a0 : Int) (w0 : (Lit.int .i64 a0).wf = true) (w : World) :
    Calls Try.prog 4 #[.int .i64 a0] w fun e w' => e = .returned (.bool true) ∧ Below w.heap.size w w' := by
  have h0 := i64_of w0
  go_enter Try.func4, Try.ntmps4
  go_wp2_with (first
    | (go_at_call 16; refine (at_any _ _ h0.2).mono ?_; rintro e w' ⟨rfl, rfl⟩)
    | (go_at_call 17; refine (rat_any _ _ h0.2).mono ?_; rintro e w' ⟨rfl, rfl⟩)
    | (go_at_call 18; refine (waits_any _ _ h0.2).mono ?_; rintro e w' ⟨rfl, rfl⟩)
    | (go_at_call 19; refine (rwaits_any _ _ h0.2).mono ?_; rintro e w' ⟨rfl, rfl⟩)
    | (go_at_call 15; refine (awake_any _).mono ?_; rintro e w4 ⟨rfl, h4⟩))
  go_ret
  exact ⟨rfl, h4⟩

end Go.Proofs.Ytlhkembihpafaaa.clockWaits
