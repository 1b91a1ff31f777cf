/-
  The walk of the law WheelNobody.
-/
import Derived.Test.YthioekmlljpbpaaWNob
namespace Go.Proofs.Ythioekmlljpbpaa.wheelNobody
open Go.RowKit Go.Sort
set_option linter.unusedVariables false
set_option maxRecDepth 20000
set_option linter.unusedSimpArgs false

set_option maxHeartbeats 4000000 in
set_option maxRecDepth 100000 in
theorem law_walk (a0 a1 : Int) (u0 : (Lit.int .i64 a0).wf = true) (u1 : (Lit.int .i64 a1).wf = true) (w : World) :
    Calls Try.prog 8 #[.int .i64 a0, .int .i64 a1] w fun e w' => e = .returned (.bool true) ∧ Below w.heap.size w w' := by
  have hg := guardTm
  have hq : ∀ u, (binOp .neq 49 (.agg #[.int .i64 0, .int .i64 0]) (.agg #[.int .i64 0, .int .i64 0])).run Try.prog u = .ok (.bool false) u := fun u => by have := neqTm (0, 0) (0, 0) u; simpa using this
  obtain ⟨o1, ho1⟩ : ∃ o, o = Obj.cells #[.slice none 0 0, .map none] 63 := ⟨_, rfl⟩
  obtain ⟨o2, ho2⟩ : ∃ o, o = Obj.cells #[.pointer none, .pointer (some ⟨w.heap.size, 0, none⟩)] 23 := ⟨_, rfl⟩
  have hs1 : (w.alloc o1).heap.size = w.heap.size + 1 := by simp
  have hR1 : RowIs (w.alloc o1) w.heap.size 63 [.slice none 0 0, .map none] := by unfold RowIs; rw [heap_alloc_new, ho1]
  have hR2 : RowIs ((w.alloc o1).alloc o2) (w.heap.size + 1) 23 [.pointer none, .pointer (some ⟨w.heap.size, 0, none⟩)] := by unfold RowIs; rw [← hs1, heap_alloc_new, ho2]
  have hB : Below w.heap.size w ((w.alloc o1).alloc o2) := ((Below.refl _ w).alloc (Nat.le_refl _) o1).alloc (by simp) o2
  have HR1 := hid (hR1.below ((Below.refl _ (w.alloc o1)).alloc (Nat.le_refl _) o2) (by simp))
  have HR2 := hid hR2
  have HB := hid hB
  rw [ho1, ho2] at HR1 HR2 HB
  clear hR1 hR2 hB hs1 ho1 ho2
  go_enter Try.func8, Try.ntmps8
  go_wp2
  generalize World.alloc _ _ = W at HR1 HR2 HB ⊢
  go_loopw [15] (fun i wr => ∃ k : Nat, k ≤ 2 ∧ i = .int .i64 k ∧ Hid (RowIs wr w.heap.size 63 [.slice none 0 0, .map none]) ∧ Hid (RowIs wr (w.heap.size + 1) 23 [.pointer none, .pointer (some ⟨w.heap.size, 0, none⟩)]) ∧ Hid (Below w.heap.size w wr)) (fun i _ => 2 - (intOf i).toNat)
  case atStart => exact ⟨0, by omega, rfl, HR1, HR2, HB⟩
  case round =>
    clear HR1 HR2 HB
    obtain ⟨k, hk, rfl, HR1, HR2, HB⟩ := hrel
    by_cases hlt : k < 2
    · have hlt' : (k : Int) < 2 := by omega
      obtain ⟨p, hp, hnob⟩ : ∃ p, wr.cell? ⟨w.heap.size + 1, k, none⟩ = some p ∧ Nob wr p := by
        rcases (show k = 0 ∨ k = 1 by omega) with rfl | rfl
        · exact ⟨_, HR2.out.cell 0 (by simp), .inl rfl⟩
        · exact ⟨_, HR2.out.cell 1 (by simp), .inr ⟨_, rfl, HR1.out⟩⟩
      have l1 : w.heap.size < wr.heap.size := (Array.getElem?_eq_some_iff.1 HR1.out).1
      have l2 : w.heap.size + 1 < wr.heap.size := (Array.getElem?_eq_some_iff.1 HR2.out).1
      have KN := hid (nob_next hnob)
      have HNB := hid hnob
      clear hnob
      go_wp2_with fail
      refine KN.out.mono ?_
      rintro e w2 ⟨rfl, hb2⟩
      have hA := (Below.refl _ w2).alloc (Nat.le_refl _) (.cells #[.int .i64 0, .int .i64 0] 49)
      have hb3 := hb2.trans (hA.mono hb2.size)
      have HNB3 := HNB.out.below hb3
      have R1 := hid (HR1.out.below hb3 l1)
      have R2 := hid (HR2.out.below hb3 l2)
      have B3 := hid (HB.out.trans (hb3.mono HB.out.size))
      obtain ⟨x0, x1⟩ := two_new w2 0 0
      have K1 := hid (nob_when HNB3 a0 u0)
      have K2 := hid (nob_set HNB3 a0 a1)
      have K3 := hid (nob_stop HNB3 a0 u0)
      have K4 := hid (nob_len HNB3)
      have K5 := hid (nob_due HNB3 a1)
      clear KN HNB HNB3 hb2 hA hb3 HR1 HR2 HB hp l1 l2
      go_wp2_with (first
        | (go_at_call 10; refine K1.out.mono ?_; rintro e wx ⟨rfl, hwx⟩; rw [hwx])
        | (go_at_call 13; refine K2.out.mono ?_; rintro e wx ⟨rfl, hwx⟩; rw [hwx])
        | (go_at_call 15; refine K3.out.mono ?_; rintro e wx ⟨rfl, hwx⟩; rw [hwx])
        | (go_at_call 22; refine K4.out.mono ?_; rintro e wx ⟨rfl, hwx⟩; rw [hwx])
        | (go_at_call 18; refine K5.out.mono ?_; rintro e wy ⟨rfl, hby⟩; replace hby := hid hby))
      go_roundw
      case rel => exact ⟨k + 1, by omega, by go_num, R1.out.below hby.out (Array.getElem?_eq_some_iff.1 R1.out).1, R2.out.below hby.out (Array.getElem?_eq_some_iff.1 R2.out).1, B3.out.trans (hby.out.mono B3.out.size)⟩
      case measure => simp [intOf]; omega
    · obtain rfl : k = 2 := by omega
      clear HR1 HR2 hlt
      go_wp2_with fail
      refine (awake9_any _).mono ?_
      rintro e w9 ⟨rfl, hw9⟩
      go_wp2
      go_ret
      exact ⟨rfl, HB.out.trans (hw9.mono HB.out.size)⟩
end Go.Proofs.Ythioekmlljpbpaa.wheelNobody
