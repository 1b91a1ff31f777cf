/-
  Contracts of the document's own Escape, worth and Unescape.
-/
import Derived.Test.YtfdcklekjnihjabDoorUnesc
import Derived.Test.YtfdcklekjnihjabDoorLower
namespace Go.Proofs.YtfdcklekjnihjabDoor
open Go.RowKit Sc
set_option linter.unusedVariables false
set_option maxRecDepth 20000

theorem hasB_inK (keep : ByteArray) (b : UInt8) : hasB b.toNat keep = inK keep.data.toList b.toNat := by
  rw [hasB, inK]
  congr 1
  funext c
  rw [Bool.eq_iff_iff]; simp
  omega
theorem isB37 : isB 37 16 = false := by decide +kernel

/-- A new block of one cell that holds a digit of sixteen. -/
theorem one_hex (w : World) (e : TypeId) (i : Int) (n : Nat) (hi : i.toNat = n) (h : i.toNat < 16) :
    ∀ (j : Nat) (u : Value), (Lib.byteCells [hexd n])[j]? = some u → (w.alloc (.cells #[.int .u8 ((((ByteArray.mk #[48, 49, 50, 51, 52, 53, 54, 55, 56, 57, 65, 66, 67, 68, 69, 70])[i.toNat]'h).toNat : Nat) : Int)] e)).cell? ((⟨w.heap.size, 0, none⟩ : Addr).add j) = some u := by
  rw [hexi i n hi h]
  exact one_new w e _

theorem one_hexN (w : World) (e : TypeId) (n : Nat) (h : n < 16) :
    ∀ (j : Nat) (u : Value), (Lib.byteCells [hexd n])[j]? = some u → (w.alloc (.cells #[.int .u8 ((((ByteArray.mk #[48, 49, 50, 51, 52, 53, 54, 55, 56, 57, 65, 66, 67, 68, 69, 70])[n]'h).toNat : Nat) : Int)] e)).cell? ((⟨w.heap.size, 0, none⟩ : Addr).add j) = some u := by
  have := hexi (n : Int) n (by omega) (by omega)
  simp only [Int.toNat_natCast] at this
  rw [this]
  exact one_new w e _

end Go.Proofs.YtfdcklekjnihjabDoor
