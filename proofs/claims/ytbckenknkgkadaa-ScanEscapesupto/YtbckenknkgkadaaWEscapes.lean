/-
  The walk of ScanEscapes, where the texts are of at most 1,048,576 bytes together.
-/
import Derived.Test.YtbckenknkgkadaaRefUne
import Derived.Test.YtbckenknkgkadaaAwake
namespace Go.Proofs.Ytbckenknkgkadaa.scanEscapes
open Go.RowKit Sc
set_option linter.unusedVariables false

theorem next {w a b : World} (h : Below w.heap.size w a) (k : Below a.heap.size a b) : Below w.heap.size w b := h.trans (k.mono h.size)

set_option maxHeartbeats 600000 in
theorem law_walk (a0 a1 : ByteArray) (b0 : a0.size ≤ 1048576) (b1 : a1.size ≤ 1048576) (w : World) :
    Calls Try.prog 8 #[.string a0, .string a1] w fun e w' => e = .returned (.bool true) ∧ Below w.heap.size w w' := by
  by_cases h200 : a1.size ≤ 200
  · go_enter Try.func8, Try.ntmps8
    go_wp2_with (first
      | (go_at_call 30; refine (unescape_any _ _ (by omega)).mono ?_; rintro e w1 ⟨rfl, h1⟩)
      | (go_at_call 31; refine (refunescape_any _ _ (by omega)).mono ?_; rintro e w2 ⟨rfl, h2⟩)
      | (go_at_call 32; refine (escape_any _ _ _ (by omega) (by omega)).mono ?_; rintro e w3 ⟨rfl, h3⟩)
      | (go_at_call 33; refine (refescape_any _ _ _ (by omega) (by unfold maxLen; omega)).mono ?_; rintro e w4 ⟨rfl, h4⟩)
      | (go_at_call 13; refine (awake_any _).mono ?_; rintro e w5 ⟨rfl, h5⟩))
    go_ret
    exact ⟨rfl, next (next (next (next h1 h2) h3) h4) h5⟩
  · go_enter Try.func8, Try.ntmps8
    go_wp2_with (go_at_call 13; refine (awake_any _).mono ?_; rintro e w5 ⟨rfl, h5⟩)
    go_ret
    exact ⟨rfl, h5⟩

end Go.Proofs.Ytbckenknkgkadaa.scanEscapes
