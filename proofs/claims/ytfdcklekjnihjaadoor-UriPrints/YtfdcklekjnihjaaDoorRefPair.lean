/-
  The contract of the document's own pair.
-/
import Derived.Test.YtfdcklekjnihjaaDoorRefCheck
import Derived.Test.YtfdcklekjnihjaaDoorRefEsc
import Derived.Test.YtfdcklekjnihjaaDoorPrintL
namespace Go.Proofs.YtfdcklekjnihjaaDoor
open Go.RowKit Sc
set_option linter.unusedVariables false
set_option maxRecDepth 20000

theorem refesc_list (s keep : List UInt8) (w : World) (hs : s.length ≤ 1048576) (hk : keep.length ≤ 64) :
    Calls Tryd.prog 38 #[.string ⟨s.toArray⟩, .string ⟨keep.toArray⟩] w fun e w' => e = .returned (.string ⟨(escL keep s).toArray⟩) ∧ Below w.heap.size w w' :=
  refescape_any ⟨s.toArray⟩ ⟨keep.toArray⟩ w (by rw [size_list]; omega) (by rw [size_list]; unfold maxLen; omega)
theorem escL_len (keep s : List UInt8) : (escL keep s).length ≤ 3 * s.length := by
  have := esc_cells_len (kpF keep) s
  rw [Lib.byteCells_length] at this
  exact this

theorem app_list (a b : List UInt8) : (⟨a.toArray⟩ : ByteArray) ++ (⟨b.toArray⟩ : ByteArray) = ⟨(a ++ b).toArray⟩ := by
  apply ByteArray.ext; simp

set_option maxHeartbeats 2000000 in
theorem pair_any (p : Par) (keep : List UInt8) (w : World) (h1 : p.name.length ≤ 1048576) (h2 : p.value.length ≤ 1048576) (hk : keep.length ≤ 64) :
    Calls Tryd.prog 40 #[.agg #[.string ⟨p.name.toArray⟩, .string ⟨p.value.toArray⟩, .bool p.has], .string ⟨keep.toArray⟩] w fun e w' => e = .returned (.string ⟨(pairV keep p).toArray⟩) ∧ Below w.heap.size w w' := by
  obtain ⟨nm, vl, hs⟩ := p
  simp only at h1 h2
  cases hs with
  | false =>
    have hv : Hid (pairV keep ⟨nm, vl, false⟩ = escL keep nm) := rfl
    have hb : ∀ o, Below w.heap.size w (w.alloc o) := fun o => (Below.refl _ w).alloc (Nat.le_refl _) o
    go_enter Tryd.func40, Tryd.ntmps40
    go_wp2_with (go_at_call 38; refine (refesc_list _ _ _ h1 hk).mono ?_; rintro e w1 ⟨rfl, hw1⟩)
    go_ret
    exact ⟨by rw [hv.out]; rfl, (hb _).trans (hw1.mono (hb _).size)⟩
  | true =>
    have hv : Hid (pairV keep ⟨nm, vl, true⟩ = escL keep nm ++ [61] ++ escL keep vl) := rfl
    have hb : ∀ o, Below w.heap.size w (w.alloc o) := fun o => (Below.refl _ w).alloc (Nat.le_refl _) o
    have l1 := escL_len keep nm
    have l2 := escL_len keep vl
    have hcv : ∀ w1, Below (w.alloc (.cells #[.string ⟨nm.toArray⟩, .string ⟨vl.toArray⟩, .bool true] 66)).drew.heap.size (w.alloc (.cells #[.string ⟨nm.toArray⟩, .string ⟨vl.toArray⟩, .bool true] 66)).drew w1 → w1.cell? ⟨w.heap.size, 1, none⟩ = some (.string ⟨vl.toArray⟩) := fun w1 hw => by
      refine cell_below hw (by simp [World.drew]) ?_
      show (w.alloc (.cells #[.string ⟨nm.toArray⟩, .string ⟨vl.toArray⟩, .bool true] 66)).cell? ⟨w.heap.size, 1, none⟩ = _
      unfold World.cell?; rw [heap_alloc_new]; rfl
    have hacc : Below w.heap.size w (w.alloc (.cells #[.string ⟨nm.toArray⟩, .string ⟨vl.toArray⟩, .bool true] 66)).drew := (hb _).drew
    have q1 : ¬ 9223372036854775807 < (escL keep nm).length + 1 := by omega
    have q2 : ¬ 9223372036854775807 < (escL keep nm).length + 1 + (escL keep vl).length := by omega
    go_enter Tryd.func40, Tryd.ntmps40
    go_wp2
    go_region_law (go_simp; go_at_call 38; refine (refesc_list _ keep _ (by first | exact h1 | exact h2) hk).mono ?_; rintro e w1 ⟨rfl, hw1⟩; have hacc := hacc.trans (hw1.mono hacc.size); try have hc1 := hcv _ hw1)
    all_goals (
      go_wp2
      go_ret
      exact ⟨by rw [hv.out, ← app_list, ← app_list]; rfl, hacc⟩)

end Go.Proofs.YtfdcklekjnihjaaDoor
