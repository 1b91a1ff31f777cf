/-
  The walk of the law ServerNobody.
-/
import Derived.Test.YtbnmdljlfldgoaaSEq
namespace Go.Proofs.Ytbnmdljlfldgoaa.serverNobody
open Go.RowKit Go.Sort
set_option linter.unusedVariables false
set_option maxRecDepth 20000
set_option linter.unusedSimpArgs false

set_option maxHeartbeats 2000000 in
set_option maxRecDepth 100000 in
theorem law_walk (w : World) (v0 : Value) (k0 : AcIn 140737488351232 w v0) :
    Calls Try.prog 6 #[v0] w fun e w' => e = .returned (.bool true) ∧ Below w.heap.size w w' := by
  obtain ⟨a, rfl, ka⟩ := k0
  have hg := guardSe
  have hq : ∀ u, (binOp .neq 39 (.agg #[.string ⟨#[]⟩, .string ⟨#[]⟩]) (.agg #[.string ⟨#[]⟩, .string ⟨#[]⟩])).run Try.prog u = .ok (.bool false) u := fun u => by have := neqSe ([], []) ([], []) u; simpa using this
  have ra := ac_row w a
  have hb1 : Below w.heap.size w (w.alloc (objA a)) := (Below.refl _ w).alloc (Nat.le_refl _) _
  have l1 := alloc_lt w (objA a)
  generalize hw1 : w.alloc (objA a) = w1 at ra hb1 l1
  obtain ⟨o1, ho1⟩ : ∃ o, o = Obj.cells #[.int .i64 0, .int .i64 0, .map none, .map none, .pointer none] 55 := ⟨_, rfl⟩
  have hR1 : RowIs (w1.alloc o1) w1.heap.size 55 [.int .i64 0, .int .i64 0, .map none, .map none, .pointer none] := by unfold RowIs; rw [heap_alloc_new, ho1]
  have hb2 : Below w1.heap.size w1 (w1.alloc o1) := (Below.refl _ w1).alloc (Nat.le_refl _) _
  have l2 := alloc_lt w1 o1
  have ra2 := ra.below hb2 l1
  have hB2 := hb1.trans (hb2.mono hb1.size)
  rw [ho1] at hR1 hb2 l2 ra2 hB2
  generalize hw2 : w1.alloc (Obj.cells #[.int .i64 0, .int .i64 0, .map none, .map none, .pointer none] 55) = w2 at hR1 hb2 l2 ra2 hB2
  obtain ⟨o2, ho2⟩ : ∃ o, o = Obj.cells #[.pointer none, .pointer (some ⟨w1.heap.size, 0, none⟩)] 23 := ⟨_, rfl⟩
  have hR2 : RowIs (w2.alloc o2) w2.heap.size 23 [.pointer none, .pointer (some ⟨w1.heap.size, 0, none⟩)] := by unfold RowIs; rw [heap_alloc_new, ho2]
  have hb3 : Below w2.heap.size w2 (w2.alloc o2) := (Below.refl _ w2).alloc (Nat.le_refl _) _
  have l3 := alloc_lt w2 o2
  have HA := hid (ra2.below hb3 (Nat.lt_trans l1 l2))
  have HR1 := hid (hR1.below hb3 l2)
  have HR2 := hid hR2
  have HB := hid (hB2.trans (hb3.mono hB2.size))
  rw [ho2] at HA HR1 HR2 HB
  clear hR1 hR2 hB2 hb1 hb2 hb3 ra ra2 ho1 ho2 l3
  unfold objA at hw1
  go_enter Try.func6, Try.ntmps6
  unfold acV
  go_wp2
  generalize World.alloc _ _ = W at HR1 HR2 HB HA ⊢
  go_loopw [15] (fun i wr => ∃ k : Nat, k ≤ 2 ∧ i = .int .i64 k ∧ Hid (RowIs wr w.heap.size 33 (acCells a)) ∧ Hid (RowIs wr w1.heap.size 55 [.int .i64 0, .int .i64 0, .map none, .map none, .pointer none]) ∧ Hid (RowIs wr w2.heap.size 23 [.pointer none, .pointer (some ⟨w1.heap.size, 0, none⟩)]) ∧ Hid (Below w.heap.size w wr)) (fun i _ => 2 - (intOf i).toNat)
  case atStart => exact ⟨0, by omega, rfl, HA, HR1, HR2, HB⟩
  case round =>
    clear HR1 HR2 HB HA
    obtain ⟨k, hk, rfl, HA, HR1, HR2, HB⟩ := hrel
    by_cases hlt : k < 2
    · have hlt' : (k : Int) < 2 := by omega
      have r0 := HA.out.lt
      have r1 := HR1.out.lt
      have r2 := HR2.out.lt
      obtain ⟨p, hp, hnob, hpl⟩ : ∃ p, wr.cell? ⟨w2.heap.size, k, none⟩ = some p ∧ NoTab wr p ∧ ∀ b, p = .pointer (some ⟨b, 0, none⟩) → b < wr.heap.size := by
        rcases (show k = 0 ∨ k = 1 by omega) with rfl | rfl
        · exact ⟨_, HR2.out.cell 0 (by simp), .inl rfl, fun b e => by simp at e⟩
        · exact ⟨_, HR2.out.cell 1 (by simp), .inr ⟨_, rfl, HR1.out.cell 3 (by simp)⟩, fun b e => by simp at e; omega⟩
      have K1 := hid (nob_sstart hnob)
      have K2 := hid (nob_sfind hnob)
      have K3 := hid (nob_scached hnob hpl a.id)
      obtain ⟨_, x1, x2, x3, x4, x5, _⟩ := HA.out.ac
      have HNB := hid hnob
      clear hnob
      go_wp2_with (first
        | (go_at_call 17; refine (K1.out _ _ _ _).mono ?_; rintro e wx ⟨rfl, hwx⟩; rw [hwx]; clear hwx)
        | (go_at_call 13; refine (K2.out _ _ _).mono ?_; rintro e wx ⟨rfl, hwx⟩; rw [hwx]; clear hwx))
      refine K3.out.mono ?_
      rintro e w3 ⟨rfl, hb3⟩
      have hA := (Below.refl _ w3).alloc (Nat.le_refl _) (.cells #[.string ⟨#[]⟩, .string ⟨#[]⟩] 39)
      have rs0 := sv_row2 w3 (.string ⟨#[]⟩) (.string ⟨#[]⟩) 39
      generalize hw5 : w3.alloc (.cells #[.string ⟨#[]⟩, .string ⟨#[]⟩] 39) = w5 at rs0 hA
      have rs := sv_store2 rs0 (.string ⟨#[]⟩) (.string ⟨#[]⟩)
      have hb4 := sv_below2 (hb3.trans (hA.mono hb3.size)) w3.heap.size hb3.size (.string ⟨#[]⟩) (.string ⟨#[]⟩)
      obtain ⟨t0, t1, t2, t3⟩ := rs0.sv2
      generalize hw4 : (w5.setCell ⟨w3.heap.size, 0, none⟩ (.string ⟨#[]⟩)).setCell ⟨w3.heap.size, 1, none⟩ (.string ⟨#[]⟩) = w4 at hb4 rs
      have N4 := HNB.out.below hb4 hpl
      have pl4 : ∀ b, p = .pointer (some ⟨b, 0, none⟩) → b < w4.heap.size := fun b e => Nat.lt_of_lt_of_le (hpl b e) hb4.size
      have K4 := hid (nob_sanswer N4 pl4 a.id ⟨#[]⟩ ⟨#[]⟩)
      have A4 := HA.out.below hb4 r0
      obtain ⟨_, _, _, _, y4, y5, _⟩ := A4.ac
      obtain ⟨s0, s1, _, _⟩ := rs.sv2
      have R1 := HR1.out.below hb4 r1
      have R2 := HR2.out.below hb4 r2
      have B4 := HB.out.trans (hb4.mono HB.out.size)
      clear x1 x2 x3 x4 x5 K1 K2 K3 HNB hb3 hA hb4
      go_wp2_with fail
      refine K4.out.mono ?_
      rintro e w6 ⟨rfl, hb5⟩
      have N5 := N4.below hb5 pl4
      have K5 := hid (nob_sexpire N5 a.now)
      have K6 := hid (nob_slen N5)
      have A5 := hid (A4.below hb5 A4.lt)
      have R15 := hid (R1.below hb5 R1.lt)
      have R25 := hid (R2.below hb5 R2.lt)
      have B5 := hid (B4.trans (hb5.mono B4.size))
      have z5 := A5.out.ac.c5
      clear K4 A4 R1 R2 B4 hb5 N4 N5 y4 y5 s0 s1
      go_wp2_with (first
        | (go_at_call 19; refine K5.out.mono ?_; rintro e wx ⟨rfl, hwx⟩; rw [hwx]; clear hwx)
        | (go_at_call 12; refine K6.out.mono ?_; rintro e wx ⟨rfl, hwx⟩; rw [hwx]; clear hwx))
      go_roundw
      case rel => exact ⟨k + 1, by omega, by go_num, A5, R15, R25, B5⟩
      case measure => simp [intOf]; omega
    · obtain rfl : k = 2 := by omega
      clear HR1 HR2 hlt HA
      go_wp2_with fail
      refine (awake11_any _).mono ?_
      rintro e w9 ⟨rfl, hw9⟩
      go_wp2
      go_ret
      exact ⟨rfl, HB.out.trans (hw9.mono HB.out.size)⟩
end Go.Proofs.Ytbnmdljlfldgoaa.serverNobody
