/-
  A text of one byte.
-/
import Derived.Test.YtbnmdljlfldgoaaS11L
namespace Go.Proofs.Ytbnmdljlfldgoaa
open Go.RowKit
set_option linter.unusedVariables false
set_option maxRecDepth 20000
theorem byte_of {a : Int} (h : (Lit.int .u8 a).wf = true) : 0 ≤ a ∧ a ≤ 255 := by
  simpa [Lit.wf, IntKind.min, IntKind.max, IntKind.signed, IntKind.bits] using h
theorem conv_byte (u : World) (k : Nat) (hk : k < 256) : (convert 46 9 (.slice (some ⟨u.heap.size, 0, none⟩) 1 1)).run Try.prog (u.alloc (.cells #[.int .u8 k] 5)) = .ok (.string ⟨[UInt8.ofNat k].toArray⟩) (u.alloc (.cells #[.int .u8 k] 5)) := by
  refine run_convert_bytes_back (P := Try.prog) _ 46 9 5 _ 1 [UInt8.ofNat k] Try.underlying46 Try.underlying5 Try.underlying9 fun j hj => ?_
  have : j = 0 := by simpa using hj
  subst this
  simp [Addr.add, World.cell?_alloc_new]
  omega
end Go.Proofs.Ytbnmdljlfldgoaa
