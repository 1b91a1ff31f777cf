/-
  The walk of ClockAdds.
-/
import Derived.Test.YtlhkembihpafaaaRefClk
import Derived.Test.YtlhkembihpafaaaAwakeClk
namespace Go.Proofs.Ytlhkembihpafaaa.clockAdds
open Go.RowKit
set_option linter.unusedVariables false

set_option maxHeartbeats 600000 in
theorem law_walk (a0 a1 : Int) (w0 : (Lit.int .i64 a0).wf = true) (w1 : (Lit.int .i64 a1).wf = true) (w : World) :
    Calls Try.prog 3 #[.int .i64 a0, .int .i64 a1] w fun e w' => e = .returned (.bool true) ∧ Below w.heap.size w w' := by
  have h0 := i64_of w0
  have h1 := i64_of w1
  go_enter Try.func3, Try.ntmps3
  go_wp2_with (first
    | (go_at_call 9; refine (add_any _ _ _).mono ?_; rintro e w' ⟨rfl, rfl⟩)
    | (go_at_call 10; refine (radd_any _ _ _).mono ?_; rintro e w' ⟨rfl, rfl⟩)
    | (go_at_call 11; refine (seconds_any _ _).mono ?_; rintro e w' ⟨rfl, rfl⟩)
    | (go_at_call 12; refine (rseconds_any _ _).mono ?_; rintro e w' ⟨rfl, rfl⟩)
    | (go_at_call 13; refine (left_any _ _ _ h0.1 h0.2 h1.1 h1.2).mono ?_; rintro e w' ⟨rfl, rfl⟩)
    | (go_at_call 14; refine (rleft_any _ _ _ h0.1 h0.2 h1.1 h1.2).mono ?_; rintro e w' ⟨rfl, rfl⟩)
    | (go_at_call 15; refine (awake_any _).mono ?_; rintro e w4 ⟨rfl, h4⟩))
  go_ret
  exact ⟨rfl, h4⟩

end Go.Proofs.Ytlhkembihpafaaa.clockAdds
