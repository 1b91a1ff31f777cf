/-
  The walk of ScanParts, where the text is of at most 1,048,576 bytes.
-/
import Derived.Test.YtbckenknkgkadabRefParts
import Derived.Test.YtbckenknkgkadabRefTexts
import Derived.Test.YtbckenknkgkadabAwake
namespace Go.Proofs.Ytbckenknkgkadab.scanParts
open Go.RowKit Sc
set_option linter.unusedVariables false

theorem next {w a b : World} (h : Below w.heap.size w a) (k : Below a.heap.size a b) : Below w.heap.size w b := h.trans (k.mono h.size)
theorem below_drewN (w : World) (q : Nat) : Below w.heap.size w (w.drewN q) := ⟨rfl, rfl, rfl, Nat.le_refl _, fun _ _ => rfl⟩
theorem partsG_ne (sep : Int) : ∀ (l : List UInt8) (p : Pl) (cur : List UInt8), partsG sep p cur l ≠ []
  | [], p, cur => by simp [partsG]
  | b :: r, p, cur => by
    rw [partsG]
    split
    · simp
    · exact partsG_ne sep r _ _
theorem partsG_len (sep : Int) : ∀ (l : List UInt8) (p : Pl) (cur : List UInt8), (partsG sep p cur l).length ≤ l.length + 1
  | [], p, cur => by simp [partsG]
  | b :: r, p, cur => by
    rw [partsG]
    split
    · have := partsG_len sep r (pst p b.toNat).1 []; simp; omega
    · have := partsG_len sep r (pst p b.toNat).1 (cur ++ [b]); simp; omega

set_option maxHeartbeats 600000 in
theorem law_walk (a0 : ByteArray) (a1 : Int) (b0 : a0.size ≤ 1048576) (w1 : (Lit.int .u8 a1).wf = true) (w : World) :
    Calls Try.prog 3 #[.string a0, .int .u8 a1] w fun e w' => e = .returned (.bool true) ∧ Below w.heap.size w w' := by
  have hne : Hid (partsV a1 a0.data.toList ≠ []) := partsG_ne _ _ _ _
  have hl : Hid ((partsV a1 a0.data.toList).length ≤ 281474976710656) := by
    have := partsG_len a1 a0.data.toList pl0 []
    rw [len_data] at this
    show (partsG _ _ _ _).length ≤ _
    omega
  go_enter Try.func3, Try.ntmps3
  go_wp2_with (first
    | (go_at_call 8; refine (parts_any _ _ _ (by omega)).mono ?_; rintro e w1 ⟨v1, rfl, o1, h1⟩)
    | (go_at_call 9; refine (refparts_any _ _ _ (by omega)).mono ?_; rintro e w2 ⟨v2, rfl, o2, h2⟩)
    | (go_at_call 7; refine (texts_eq _ _ _ _ _ _ (o1.below h2) o2 hne.out hl.out).mono ?_; rintro e w3 ⟨rfl, q, rfl⟩)
    | (go_at_call 10; refine (awake_any _).mono ?_; rintro e w5 ⟨rfl, h5⟩))
  go_ret
  exact ⟨rfl, next (next (next h1 h2) (below_drewN _ q)) h5⟩

end Go.Proofs.Ytbckenknkgkadab.scanParts
