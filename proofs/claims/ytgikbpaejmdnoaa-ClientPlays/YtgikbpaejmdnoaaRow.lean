/-
  A row of cells that is known whole, cell by cell. Of no program.
-/
import Derived.Test.YtgikbpaejmdnoaaOwn
import Derived.Laws.MakeOwn
import Derived.Lib.BufferWrite
namespace Go.Proofs.Ytgikbpaejmdnoaa
open Go.RowKit
set_option linter.unusedVariables false
set_option maxRecDepth 20000

/-- Block g is a row of the cells l. -/
def RowIs (w : World) (g : Nat) (e : TypeId) (l : List Value) : Prop := w.heap[g]? = some (.cells l.toArray e (0, 0))

theorem RowIs.cell {w : World} {g : Nat} {e : TypeId} {l : List Value} (h : RowIs w g e l) (j : Nat) (hj : j < l.length) : w.cell? ⟨g, j, none⟩ = some l[j] := by
  unfold RowIs at h
  simp [World.cell?, h, hj]
theorem RowIs.frozen {w : World} {g : Nat} {e : TypeId} {l : List Value} (h : RowIs w g e l) (j : Nat) : w.frozen? ⟨g, j, none⟩ = false := by
  unfold RowIs at h
  simp [World.frozen?, h]
theorem RowIs.set {w : World} {g : Nat} {e : TypeId} {l : List Value} (h : RowIs w g e l) (j : Nat) (v : Value) : RowIs (w.setCell ⟨g, j, none⟩ v) g e (l.set j v) := by
  have := heap_setCell_same w g j l.toArray e v h
  unfold RowIs
  rw [this]
  simp
theorem RowIs.below {w w' : World} {g : Nat} {e : TypeId} {l : List Value} (h : RowIs w g e l) {B : Nat} (hb : Below B w w') (hg : g < B) : RowIs w' g e l := by
  unfold RowIs
  rw [hb.block g hg]
  exact h
theorem RowIs.own {w : World} {g : Nat} {e : TypeId} {l : List Value} (h : RowIs w g e l) (B n : Nat) (hB : B ≤ g) (hn : l.length = n) (hm : n ≤ maxLen) : Own w B e (.slice (some ⟨g, 0, none⟩) n n) l := by
  subst hn
  refine ⟨by simp, Or.inr ⟨g, l.length, l.toArray, rfl, hB, h, Nat.le_refl _, hm, by simp, by simp⟩⟩

/-- Bytes written from the head on over n noughts. -/
def filled (l : List UInt8) (n : Nat) : List Value := Lib.byteCells l ++ List.replicate (n - l.length) (.int .u8 0)
theorem filled_len (l : List UInt8) (n : Nat) (h : l.length ≤ n) : (filled l n).length = n := by simp [filled, Lib.byteCells]; omega
theorem filled_full (l : List UInt8) (n : Nat) (h : l.length = n) : filled l n = Lib.byteCells l := by simp [filled, h]
theorem filled_set (l : List UInt8) (n : Nat) (b : UInt8) (h : l.length < n) : (filled l n).set l.length (.int .u8 b.toNat) = filled (l ++ [b]) n := by
  have e : n - l.length = (n - (l.length + 1)) + 1 := by omega
  have hl : (Lib.byteCells l).length = l.length := Lib.byteCells_length l
  unfold filled
  rw [List.set_append_right _ _ (by omega), hl, Nat.sub_self, e, List.replicate_succ, List.set_cons_zero, Lib.byteCells_append, List.append_assoc, List.length_append]
  rfl
theorem made_row (w : World) (e : TypeId) (n : Nat) : RowIs (w.alloc (.cells (madeCells #[.int .u8 0] n) e)) w.heap.size e (filled [] n) := by
  unfold RowIs
  rw [heap_alloc_new]
  have : madeCells #[.int .u8 0] n = (filled [] n).toArray := by
    apply Array.ext
    · simp [size_madeCells, filled, Lib.byteCells]
    · intro i h1 h2
      simp [madeCells, filled, Lib.byteCells, Nat.mod_one]
  rw [this]

end Go.Proofs.Ytgikbpaejmdnoaa
