/-
  The wheel's New.
-/
import Derived.Test.YthioekmlljpbpaaWW
namespace Go.Proofs.Ythioekmlljpbpaa
open Go.RowKit Go.Maps Go.WideMaps
set_option linter.unusedVariables false
set_option maxRecDepth 20000

theorem WH.begin (w : World) : WH (w.heap.size + 1) w.heap.size w.heap.size (.slice none 0 0) (fun _ => ⟨0, (0, 0)⟩) 0 (.map []) ((w.alloc (.map #[] 0)).alloc (.cells #[.slice none 0 0, .map (some w.heap.size)] 63)) [] := by
  have hs : (w.alloc (.map #[] 0)).heap.size = w.heap.size + 1 := by simp
  refine ⟨⟨?_, ?_, fun i hi => by omega, fun i j hi => by omega, fun i hi => by omega⟩, keeps_nil _, (World.ownsMap_made w _ _ _).alloc _, fun id => ?_, fun i hi => by omega, rfl, by omega, Nat.le_refl _, fun i hi => by omega⟩
  · unfold RowIs
    rw [← hs, heap_alloc_new]
  · exact World.ownsRow_nil _ _ _ _
  · constructor
    · intro h; simp [Maps.has] at h
    · rintro ⟨i, hi, _⟩; omega
theorem makeW (u : World) : (Instr.makeMap 61 none).run Try.prog u = .ok (.map (some u.heap.size)) (u.alloc (.map #[] 0)) := by kernel_rfl
set_option maxHeartbeats 1000000 in
set_option maxRecDepth 100000 in
theorem wwnew_any (w : World) : Calls Try.prog 9 #[] w fun e w' => ∃ b, e = .returned (.pointer (some ⟨b, 0, none⟩)) ∧ WW w.heap.size b w' [] ∧ Below w.heap.size w w' := by
  have hm := makeW
  have H0 := hid ((WH.begin w).ww (by omega))
  have HB : Hid (Below w.heap.size w ((w.alloc (.map #[] 0)).alloc (.cells #[.slice none 0 0, .map (some w.heap.size)] 63))) := ((Below.refl _ w).alloc (Nat.le_refl _) _).alloc (by simp) _
  go_enter Try.func9, Try.ntmps9
  go_wp2
  go_ret
  exact ⟨_, rfl, H0.out, HB.out⟩
end Go.Proofs.Ythioekmlljpbpaa
