/-
  The walk of ScanQuotes, where the text is of at most 1,048,576 bytes.
-/
import Derived.Test.YtbckenknkgkadaaRefQuo
import Derived.Test.YtbckenknkgkadaaAwake
namespace Go.Proofs.Ytbckenknkgkadaa.scanQuotes
open Go.RowKit Sc
set_option linter.unusedVariables false

theorem next {w a b : World} (h : Below w.heap.size w a) (k : Below a.heap.size a b) : Below w.heap.size w b := h.trans (k.mono h.size)

set_option maxHeartbeats 600000 in
theorem law_walk (a0 : ByteArray) (b0 : a0.size ≤ 1048576) (w : World) :
    Calls Try.prog 7 #[.string a0] w fun e w' => e = .returned (.bool true) ∧ Below w.heap.size w w' := by
  go_enter Try.func7, Try.ntmps7
  go_wp2_with (first
    | (go_at_call 26; refine (quote_any _ _ (by omega)).mono ?_; rintro e w1 ⟨rfl, h1⟩)
    | (go_at_call 27; refine (refquote_any _ _ (by omega)).mono ?_; rintro e w2 ⟨rfl, h2⟩)
    | (go_at_call 28; refine (unquote_any _ _ (by omega)).mono ?_; rintro e w3 ⟨rfl, h3⟩)
    | (go_at_call 29; refine (refunquote_any _ _ (by omega)).mono ?_; rintro e w4 ⟨rfl, h4⟩)
    | (go_at_call 13; refine (awake_any _).mono ?_; rintro e w5 ⟨rfl, h5⟩))
  go_ret
  exact ⟨rfl, next (next (next (next h1 h2) h3) h4) h5⟩

end Go.Proofs.Ytbckenknkgkadaa.scanQuotes
