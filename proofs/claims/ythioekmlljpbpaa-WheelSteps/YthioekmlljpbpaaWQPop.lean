/-
  The heap's Pop.
-/
import Derived.Test.YthioekmlljpbpaaWQPush
namespace Go.Proofs.Ythioekmlljpbpaa
open Go.RowKit
set_option linter.unusedVariables false
set_option maxRecDepth 20000

theorem own_take {w : World} {B g cap n : Nat} {e : TypeId} {xs : List Value} {x : Value} (h : Own w B e (.slice (some ⟨g, 0, none⟩) (n + 1) cap) (xs ++ [x])) (hn : xs.length = n) : Own w B e (.slice (some ⟨g, 0, none⟩) n cap) xs := by
  rcases h.2 with ⟨h2, _⟩ | ⟨g', cap', cur, hv, hb, hg, hnc, hcm, hcs, ht⟩
  · cases h2
  · simp only [Value.slice.injEq, Option.some.injEq, Addr.mk.injEq, and_true] at hv
    obtain ⟨rfl, _, rfl⟩ := hv
    refine ⟨by simp, Or.inr ⟨g, cap, cur, by rw [hn], hb, hg, by simp at hnc; omega, hcm, hcs, ?_⟩⟩
    have := congrArg (List.take (xs.length * 1)) ht
    rw [List.take_take] at this
    simp only [Nat.mul_one, List.length_append, List.length_cons, List.length_nil, List.take_left'] at this ⊢
    rw [Nat.min_eq_left (by omega)] at this
    exact this
theorem HQ.pop {bw m B g cap : Nat} {w : World} {f : Nat → It} {n : Nat} (h : HQ bw m B (.slice (some ⟨g, 0, none⟩) (n + 1) cap) w f (n + 1)) (u : Value) :
    HQ bw m B (.slice (some ⟨g, 0, none⟩) n cap) ((w.setCell ⟨g, n, none⟩ u).setCell ⟨bw, 0, none⟩ (.slice (some ⟨g, 0, none⟩) n cap)) f n := by
  have gi : ∀ k, k < n + 1 → (f k).blk ≠ g := fun k hk e => own_block_ne h.own (h.item k hk) (by decide) (by rw [e]; rfl)
  have wg : bw ≠ g := fun e => own_block_ne h.own h.wheel (by decide) (by rw [e]; rfl)
  have wi : ∀ k, k < n + 1 → bw ≠ (f k).blk := fun k hk => row_block_ne h.wheel (h.item k hk) (by decide)
  have o1 := ownq_set h.own n u
  rw [ptrs_succ, List.set_append_right _ _ (by rw [ptrs_len]; omega), ptrs_len, Nat.sub_self, List.set_cons_zero] at o1
  have o2 := own_take o1 (ptrs_len f n)
  refine ⟨(h.wheel.other wg _).set 0 _, own_other o2 (by simp [Value.ownBlock]; exact fun e => wg e.symm) _, fun k hk => ((h.item k (by omega)).other (gi k (by omega)) _).other (fun e => wi k (by omega) e.symm) _, fun i j hi hj => h.inj i j (by omega) (by omega), fun i hi => h.lo i (by omega)⟩

set_option maxHeartbeats 4000000 in
set_option maxRecDepth 100000 in
theorem qpop_any {bw m B : Nat} {v : Value} {w : World} {f : Nat → It} {n : Nat} (h : HQ bw m B v w f (n + 1)) (hn : n ≤ 1000000) :
    Calls Try.prog 54 #[.pointer (some ⟨bw, 0, none⟩)] w fun e w' => e = .returned (.iface 66 (.pointer (some ⟨(f n).blk, 0, none⟩))) ∧ ∃ v', HQ bw m B v' w' f n ∧ v'.ownBlock = v.ownBlock ∧ RowIs w' (f n).blk 69 (itemL (f n) n) ∧ Chg (HS2 bw bw v f (n + 1)) w w' := by
  obtain ⟨g, cap, rfl⟩ := h.block (by omega)
  have wg : bw ≠ g := fun e => own_block_ne h.own h.wheel (by decide) (by rw [e]; rfl)
  have cq := h.at
  have cn := h.cell n (by omega)
  unfold ptrV at cn
  have fn := ownq_frozen h.own n
  have r1 := h.wheel.other wg (.pointer none) (j := n)
  have cq1 : (w.setCell ⟨g, n, none⟩ (.pointer none)).cell? ⟨bw, 0, none⟩ = some (.slice (some ⟨g, 0, none⟩) (n + 1) cap) := r1.cell 0 (by simp)
  have fq := h.wheel.frozen 0
  have H4 := hid (h.pop (.pointer none))
  have H5 := hid (((h.item n (by omega)).other (fun e => own_block_ne h.own (h.item n (by omega)) (by decide) (by rw [e]; rfl)) (.pointer none) (g := g) (j := n)).other (row_block_ne h.wheel (h.item n (by omega)) (by decide)).symm (.slice (some ⟨g, 0, none⟩) n cap) (g := bw) (j := 0))
  have C := hid (((Chg.refl (HS2 bw bw (.slice (some ⟨g, 0, none⟩) (n + 1) cap) f (n + 1)) w).setCell (p := ⟨g, n, none⟩) (fun _ => .inr (.inr (.inl rfl))) (.pointer none)).setCell (p := ⟨bw, 0, none⟩) (fun _ => .inl rfl) (.slice (some ⟨g, 0, none⟩) n cap))
  have hnc : n + 1 ≤ cap := by
    rcases h.own.2 with ⟨h2, _⟩ | ⟨g', cap', cur, hv, hb, hg, hnc, _⟩
    · cases h2
    · simp only [Value.slice.injEq, Option.some.injEq, Addr.mk.injEq, and_true] at hv
      obtain ⟨_, h1, rfl⟩ := hv
      omega
  have hlt : (n : Int) < (n : Int) + 1 := by omega
  have hle : (n : Int) ≤ (cap : Int) := by omega
  have hle' : n ≤ cap := by omega
  clear h r1
  go_enter Try.func54, Try.ntmps54
  go_wp2
  go_ret
  exact ⟨rfl, _, H4.out, rfl, H5.out, C.out⟩
end Go.Proofs.Ythioekmlljpbpaa
