/-
  The walk of the law ClientNobody.
-/
import Derived.Test.YtgikbpaejmdnoaaSC
namespace Go.Proofs.Ytgikbpaejmdnoaa.clientNobody
open Go.RowKit Go.Sort
set_option linter.unusedVariables false
set_option maxRecDepth 20000
set_option linter.unusedSimpArgs false

set_option maxHeartbeats 2000000 in
set_option maxRecDepth 100000 in
theorem law_walk (w : World) (v0 : Value) (k0 : AqIn 140737488351232 w v0) :
    Calls Try.prog 7 #[v0] w fun e w' => e = .returned (.bool true) ∧ Below w.heap.size w w' := by
  obtain ⟨a, rfl, ka⟩ := k0
  have ra := aq_row w a
  have hb1 : Below w.heap.size w (w.alloc (objAq a)) := (Below.refl _ w).alloc (Nat.le_refl _) _
  have l1 := alloc_lt w (objAq a)
  generalize hw1 : w.alloc (objAq a) = w1 at ra hb1 l1
  obtain ⟨o1, ho1⟩ : ∃ o, o = Obj.cells #[.int .i64 0, .int .i64 0, .map none, .map none, .pointer none] 61 := ⟨_, rfl⟩
  have hR1 : RowIs (w1.alloc o1) w1.heap.size 61 [.int .i64 0, .int .i64 0, .map none, .map none, .pointer none] := by unfold RowIs; rw [heap_alloc_new, ho1]
  have hb2 : Below w1.heap.size w1 (w1.alloc o1) := (Below.refl _ w1).alloc (Nat.le_refl _) _
  have l2 := alloc_lt w1 o1
  have ra2 := ra.below hb2 l1
  have hB2 := hb1.trans (hb2.mono hb1.size)
  rw [ho1] at hR1 hb2 l2 ra2 hB2
  generalize hw2 : w1.alloc (Obj.cells #[.int .i64 0, .int .i64 0, .map none, .map none, .pointer none] 61) = w2 at hR1 hb2 l2 ra2 hB2
  obtain ⟨o2, ho2⟩ : ∃ o, o = Obj.cells #[.pointer none, .pointer (some ⟨w1.heap.size, 0, none⟩)] 23 := ⟨_, rfl⟩
  have hR2 : RowIs (w2.alloc o2) w2.heap.size 23 [.pointer none, .pointer (some ⟨w1.heap.size, 0, none⟩)] := by unfold RowIs; rw [heap_alloc_new, ho2]
  have hb3 : Below w2.heap.size w2 (w2.alloc o2) := (Below.refl _ w2).alloc (Nat.le_refl _) _
  have l3 := alloc_lt w2 o2
  have HA := hid (ra2.below hb3 (Nat.lt_trans l1 l2))
  have HR1 := hid (hR1.below hb3 l2)
  have HR2 := hid hR2
  have HB := hid (hB2.trans (hb3.mono hB2.size))
  rw [ho2] at HA HR1 HR2 HB
  clear hR1 hR2 hB2 hb1 hb2 hb3 ra ra2 ho1 ho2 l3
  unfold objAq at hw1
  go_enter Try.func7, Try.ntmps7
  unfold aqV
  go_wp2
  generalize World.alloc _ _ = W at HR1 HR2 HB HA ⊢
  go_loopw [14] (fun i wr => ∃ k : Nat, k ≤ 2 ∧ i = .int .i64 k ∧ Hid (RowIs wr w.heap.size 34 (aqCells a)) ∧ Hid (RowIs wr w1.heap.size 61 [.int .i64 0, .int .i64 0, .map none, .map none, .pointer none]) ∧ Hid (RowIs wr w2.heap.size 23 [.pointer none, .pointer (some ⟨w1.heap.size, 0, none⟩)]) ∧ Hid (Below w.heap.size w wr)) (fun i _ => 2 - (intOf i).toNat)
  case atStart => exact ⟨0, by omega, rfl, HA, HR1, HR2, HB⟩
  case round =>
    clear HR1 HR2 HB HA
    obtain ⟨k, hk, rfl, HA, HR1, HR2, HB⟩ := hrel
    by_cases hlt : k < 2
    · have hlt' : (k : Int) < 2 := by omega
      have r0 := HA.out.bl
      have r1 := HR1.out.bl
      have r2 := HR2.out.bl
      obtain ⟨p, hp, hnob⟩ : ∃ p, wr.cell? ⟨w2.heap.size, k, none⟩ = some p ∧ NoTabQ wr p := by
        rcases (show k = 0 ∨ k = 1 by omega) with rfl | rfl
        · exact ⟨_, HR2.out.cell 0 (by simp), .inl rfl⟩
        · exact ⟨_, HR2.out.cell 1 (by simp), .inr ⟨_, rfl, r1, HR1.out.cell 3 (by simp)⟩⟩
      have K1 := hid (fun z now => nob_qstart hnob z ⟨#[]⟩ ⟨#[]⟩ now)
      obtain ⟨_, x1, x2, x3, _, _, _, _, _, _⟩ := HA.out.aq
      have HNB := hid hnob
      clear hnob
      go_wp2_with fail
      refine (K1.out _ _).mono ?_
      rintro e w3 ⟨rfl, hb3⟩
      have N3 := HNB.out.below hb3
      have K2 := hid (fun x s now => nob_qresp N3 x s now)
      have K3 := hid (fun now => nob_qstep N3 now)
      have K4 := hid (fun id => nob_qlive N3 id)
      have K5 := hid (nob_qlen N3)
      have A3 := hid (HA.out.below hb3 r0)
      have R13 := hid (HR1.out.below hb3 r1)
      have R23 := hid (HR2.out.below hb3 r2)
      have B3 := hid (HB.out.trans (hb3.mono HB.out.size))
      obtain ⟨_, y1, y2, y3, _, _, _, _, _, _⟩ := A3.out.aq
      clear x1 x2 x3 K1 HNB hb3 N3 HA HR1 HR2 HB
      go_wp2_with (first
        | (go_at_call 16; refine (K2.out _ _ _).mono ?_; rintro e wx ⟨rfl, hwx⟩; rw [hwx]; clear hwx)
        | (go_at_call 15; refine (K3.out _).mono ?_; rintro e wx ⟨rfl, hwx⟩; rw [hwx]; clear hwx)
        | (go_at_call 12; refine (K4.out _).mono ?_; rintro e wx ⟨rfl, hwx⟩; rw [hwx]; clear hwx)
        | (go_at_call 11; refine K5.out.mono ?_; rintro e wx ⟨rfl, hwx⟩; rw [hwx]; clear hwx))
      go_roundw
      case rel => exact ⟨k + 1, by omega, by go_num, A3, R13, R23, B3⟩
      case measure => simp [intOf]; omega
    · obtain rfl : k = 2 := by omega
      clear HR1 HR2 hlt HA
      go_wp2_with fail
      refine (awake12_any _).mono ?_
      rintro e w9 ⟨rfl, hw9⟩
      go_wp2
      go_ret
      exact ⟨rfl, HB.out.trans (hw9.mono HB.out.size)⟩
end Go.Proofs.Ytgikbpaejmdnoaa.clientNobody
