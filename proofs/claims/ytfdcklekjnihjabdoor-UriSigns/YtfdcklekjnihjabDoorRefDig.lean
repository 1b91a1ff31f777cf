/-
  Contracts of the document's own Digits and Number.
-/
import Derived.Test.YtfdcklekjnihjabDoorDigits
import Derived.Test.YtfdcklekjnihjabDoorRefClass
import Derived.Deep.QuietTactic
import Derived.BigQuiet
namespace Go.Proofs.YtfdcklekjnihjabDoor
open Go.RowKit Sc
set_option linter.unusedVariables false
set_option maxRecDepth 20000

theorem dig_ext (i : Int) (h0 : 0 ≤ i) (h1 : i < 10) : (ByteArray.mk #[48, 49, 50, 51, 52, 53, 54, 55, 56, 57]).extract i.toNat (i + 1).toNat = ⟨[digb i.toNat].toArray⟩ := by
  obtain ⟨n, rfl⟩ := Int.eq_ofNat_of_zero_le h0
  have h : ∀ n : Fin 10, (ByteArray.mk #[48, 49, 50, 51, 52, 53, 54, 55, 56, 57]).extract n.val (n.val + 1) = ⟨[digb n.val].toArray⟩ := by decide +kernel
  exact h ⟨n, by omega⟩

theorem ref_stop {most n d : Int} (h : 922337203685477580 < n ∨ most < d ∨ most - d < 10 * n) (hm : most ≤ 9223372036854775807) (hd : 0 ≤ d) : d > most ∨ n > (most - d) / 10 := by omega

end Go.Proofs.YtfdcklekjnihjabDoor
