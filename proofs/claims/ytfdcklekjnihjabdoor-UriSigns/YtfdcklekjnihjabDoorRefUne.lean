/-
  Contracts of the document's own worth and Unescape.
-/
import Derived.Test.YtfdcklekjnihjabDoorRefEsc
namespace Go.Proofs.YtfdcklekjnihjabDoor
open Go.RowKit Sc
set_option linter.unusedVariables false
set_option maxRecDepth 20000

def mtB (j : Nat) (c : Int) : Bool := ((hexd j).toNat : Int) == c || ((lowb (hexd j)).toNat : Int) == c
def wfrom : Nat → Nat → Int → Int
  | 0, _, _ => -1
  | n + 1, k, c => if mtB k c then k else wfrom n (k + 1) c
def worthV (c : Int) : Int := wfrom 16 0 c
theorem wfrom_step {k : Nat} {c : Int} (hk : k < 16) (h : mtB k c = false) : wfrom (16 - k) k c = wfrom (16 - (k + 1)) (k + 1) c := by
  rw [show 16 - k = (16 - (k + 1)) + 1 by omega, wfrom, if_neg (by simp [h])]
theorem wfrom_hit {k : Nat} {c : Int} (hk : k < 16) (h : mtB k c = true) : wfrom (16 - k) k c = k := by
  rw [show 16 - k = (16 - (k + 1)) + 1 by omega, wfrom, if_pos h]
theorem worth_hex {b : UInt8} (h : isB b.toNat 4 = true) : worthV b.toNat = hexv b.toNat := by
  have hh : ∀ n : Fin 256, isB (n.val : Int) 4 = true → worthV (n.val : Int) = hexv (n.val : Int) := by decide +kernel
  exact hh ⟨b.toNat, b.toNat_lt⟩ h
theorem worth_not {b : UInt8} (h : isB b.toNat 4 = false) : worthV b.toNat = -1 := by
  have hh : ∀ n : Fin 256, isB (n.val : Int) 4 = false → worthV (n.val : Int) = -1 := by decide +kernel
  exact hh ⟨b.toNat, b.toNat_lt⟩ h

theorem hexAt (k : Nat) (hk : k < 16) : ((ByteArray.mk #[48, 49, 50, 51, 52, 53, 54, 55, 56, 57, 65, 66, 67, 68, 69, 70])[k]'hk) = hexd k := by
  have hh : ∀ n : Fin 16, ((ByteArray.mk #[48, 49, 50, 51, 52, 53, 54, 55, 56, 57, 65, 66, 67, 68, 69, 70])[n.val]'n.isLt) = hexd n.val := by decide +kernel
  exact hh ⟨k, hk⟩
theorem byte0 (b : UInt8) : ((ByteArray.mk #[b])[0]'(Nat.one_pos)) = b := rfl

end Go.Proofs.YtfdcklekjnihjabDoor
