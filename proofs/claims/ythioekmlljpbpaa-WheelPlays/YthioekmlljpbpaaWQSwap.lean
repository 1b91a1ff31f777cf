/-
  The heap's Swap.
-/
import Derived.Test.YthioekmlljpbpaaWQLess
namespace Go.Proofs.Ythioekmlljpbpaa
open Go.RowKit
set_option linter.unusedVariables false
set_option maxRecDepth 20000

theorem cell_dr {w : World} {a : Addr} {v : Option Value} (h : w.cell? a = v) : w.drew.cell? a = v := h
set_option maxHeartbeats 4000000 in
set_option maxRecDepth 100000 in
theorem swap_any {bw m B : Nat} {v : Value} {w : World} {f : Nat → It} {n : Nat} (h : HQ bw m B v w f n) {i j : Nat} (hi : i < n) (hj : j < n) :
    Calls Try.prog 53 #[v, .int .i64 i, .int .i64 j] w fun e w' => e = .returned (.tuple #[]) ∧ HQ bw m B v w' (swapF f i j) n ∧ Chg (HS v f n) w w' := by
  obtain ⟨g, cap, rfl⟩ := h.block (by omega)
  have H4 := hid ((h.swap hi hj).drew.drew)
  have ci := h.cell i hi
  have cj := h.cell j hj
  have gi : ∀ k, k < n → (f k).blk ≠ g := fun k hk e => own_block_ne h.own (h.item k hk) (by decide) (by rw [e]; rfl)
  have fr := ownq_frozen h.own
  have o1 := ownq_set h.own i (ptrV (f j))
  have e1 : (w.setCell ⟨g, i, none⟩ (ptrV (f j))).cell? ⟨g, j, none⟩ = some (ptrV (f j)) := by
    have := own_cell o1 j (by simp [ptrs_len, hj])
    rw [List.getElem_set] at this
    rw [this, ptrs_at _ _ _ hj]
    split <;> rfl
  have o2 := ownq_set o1 j (ptrV (f i))
  have e2 := own_cell o2 i (by simp [ptrs_len, hi])
  have hsw := ptrs_swap f n hi hj
  simp only [hsw, ptrs_at _ _ _ hi, swap_l] at e2
  have it : ∀ k, k < n → RowIs ((w.setCell ⟨g, i, none⟩ (ptrV (f j))).setCell ⟨g, j, none⟩ (ptrV (f i))) (f k).blk 69 (itemL (f k) k) := fun k hk => ((h.item k hk).other (gi k hk) _).other (gi k hk) _
  have c2 := (it j hj).cell 2 (by simp [itemL])
  have fj := (h.item j hj).frozen 2
  have fi := (h.item i hi).frozen 2
  have e3 := own_cell o2 j (by simp [ptrs_len, hj])
  simp only [hsw, ptrs_at _ _ _ hj, swap_r] at e3
  have e2d := cell_dr e2
  have e3d := cell_dr e3
  obtain ⟨u3, c3⟩ : ∃ u, (((w.setCell ⟨g, i, none⟩ (ptrV (f j))).setCell ⟨g, j, none⟩ (ptrV (f i))).setCell ⟨(f j).blk, 2, none⟩ (.int .i64 i)).cell? ⟨(f i).blk, 2, none⟩ = some u := by
    by_cases e : i = j
    · subst e; exact ⟨_, ((it i hi).set 2 (.int .i64 i)).cell 2 (by simp [itemL])⟩
    · exact ⟨_, ((it i hi).other (fun e' => e (h.inj i j hi hj e')) _).cell 2 (by simp [itemL])⟩
  simp only [itemL, List.getElem_cons_zero, List.getElem_cons_succ] at c2
  have c2d := cell_dr c2
  have c3d : World.cell? (World.setCell (World.drew ((w.setCell ⟨g, i, none⟩ (ptrV (f j))).setCell ⟨g, j, none⟩ (ptrV (f i)))) ⟨(f j).blk, 2, none⟩ (.int .i64 i)) _ = _ := c3
  have C := hid (((((Chg.refl (HS (.slice (some ⟨g, 0, none⟩) n cap) f n) w).setCell (p := ⟨g, i, none⟩) (fun _ => .inl rfl) (ptrV (f j))).setCell (p := ⟨g, j, none⟩) (fun _ => .inl rfl) (ptrV (f i))).setCell (p := ⟨(f j).blk, 2, none⟩) (fun _ => .inr ⟨j, hj, rfl⟩) (.int .i64 i)).setCell (p := ⟨(f i).blk, 2, none⟩) (fun _ => .inr ⟨i, hi, rfl⟩) (.int .i64 j)).drew.drew
  have hii : (i : Int) < n := by omega
  have hjj : (j : Int) < n := by omega
  clear h o1 o2 it hsw gi
  unfold ptrV at *
  go_enter Try.func53, Try.ntmps53
  go_wp2
  go_region
  all_goals go_wp2
  all_goals go_region
  all_goals go_wp2
  all_goals go_end0
  all_goals exact ⟨rfl, H4.out, C.out⟩
end Go.Proofs.Ythioekmlljpbpaa
