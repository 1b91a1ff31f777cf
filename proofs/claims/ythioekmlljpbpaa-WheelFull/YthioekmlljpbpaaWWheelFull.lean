/-
  The walk of the law WheelFull.
-/
import Derived.Test.YthioekmlljpbpaaW9L
namespace Go.Proofs.Ythioekmlljpbpaa.wheelFull
open Go.RowKit Go.Sort
set_option linter.unusedVariables false
set_option maxRecDepth 20000
set_option linter.unusedSimpArgs false

theorem not_bad {id a : Int} (h0 : 0 ≤ id) (h1 : 0 ≤ a) (h2 : a ≤ 1099511627776) : ¬ badS id a := by unfold badS; omega
theorem full_step {a : Int} (h1 : 0 ≤ a) (h2 : a ≤ 1099511627776) (k : Nat) : setR (rowF a (min k 4096)) (k : Int) a = rowF a (min (k + 1) 4096) ∧ setE (rowF a (min k 4096)) (k : Int) a = if k < 4096 then 0 else 5 := by
  have hb := not_bad (id := (k : Int)) (by omega) h1 h2
  unfold setR setE
  rw [if_neg hb, if_neg hb]
  by_cases hk : k < 4096
  · have e : min k 4096 = k := by omega
    have e2 : min (k + 1) 4096 = k + 1 := by omega
    have hf : ¬ (whenT (rowF a k) (k : Int) = none ∧ 4096 ≤ (rowF a k).length) := by rw [rowF_len]; omega
    rw [e, e2, if_neg hf, if_neg hf, if_pos hk]
    exact ⟨rowF_set a k, rfl⟩
  · have e : min k 4096 = 4096 := by omega
    have e2 : min (k + 1) 4096 = 4096 := by omega
    have hf : whenT (rowF a 4096) (k : Int) = none ∧ 4096 ≤ (rowF a 4096).length := ⟨rowF_when fun i hi => by omega, by rw [rowF_len]; omega⟩
    rw [e, e2, if_pos hf, if_pos hf, if_neg hk]
    exact ⟨rfl, rfl⟩
theorem set_full {B b : Nat} {w : World} {a : Int} {k : Nat} (h1 : 0 ≤ a) (h2 : a ≤ 1099511627776) (hk : k ≤ 5000) (h : WW B b w (rowF a (min k 4096))) :
    Calls Try.prog 13 #[.pointer (some ⟨b, 0, none⟩), .int .i64 k, .int .i64 a] w fun e w' => e = .returned (.int .i64 (if k < 4096 then 0 else 5)) ∧ WW B b w' (rowF a (min (k + 1) 4096)) ∧ Fr B w w' := by
  obtain ⟨e1, e2⟩ := full_step h1 h2 k
  have := wwset_any h (id := (k : Int)) (a := a) (wf_small (by omega) (by omega))
  rw [e1, e2] at this
  exact this
/-- Behind the loop: the first is set again, the second is stopped, and a new one has room. -/
theorem full_end {a : Int} {j : Nat} (h1 : 0 ≤ a) (h2 : a ≤ 1099511627776) (hj : 2 ≤ j) (hj2 : j ≤ 4096) (hr : Row9 (rowF a j)) :
    setE (rowF a j) 0 0 = 0 ∧ setR (rowF a j) 0 0 = setT (rowF a j) 0 0 ∧ whenT (setT (rowF a j) 0 0) 1 = some a ∧ setE (stopT (setT (rowF a j) 0 0) 1) 5000 a = 0 := by
  have hb := not_bad (id := 0) (a := 0) (by omega) (by omega) (by omega)
  have hb2 := not_bad (id := 5000) (a := a) (by omega) h1 h2
  have hw0 : whenT (rowF a j) 0 = some a := (when_iff hr 0 a).2 (rowF_mem.2 ⟨0, by omega, rfl⟩)
  have hf : ¬ (whenT (rowF a j) 0 = none ∧ 4096 ≤ (rowF a j).length) := by rw [hw0]; simp
  have hrs := hr.set 0 0
  have hm1 : (a, 1) ∈ setT (rowF a j) 0 0 := set_mem.2 (.inr ⟨rowF_mem.2 ⟨1, by omega, rfl⟩, by simp⟩)
  have hw1 : whenT (setT (rowF a j) 0 0) 1 = some a := (when_iff hrs 1 a).2 hm1
  have hl := set_len hr 0 0
  rw [if_pos ⟨(a, 0), rowF_mem.2 ⟨0, by omega, rfl⟩, rfl⟩, rowF_len] at hl
  have hl2 := stop_len hrs 1
  rw [if_pos ⟨(a, 1), hm1, rfl⟩] at hl2
  refine ⟨?_, ?_, hw1, ?_⟩
  · unfold setE; rw [if_neg hb, if_neg hf]
  · unfold setR; rw [if_neg hb, if_neg hf]
  · unfold setE; rw [if_neg hb2, if_neg (by omega)]

set_option maxHeartbeats 4000000 in
set_option maxRecDepth 100000 in
theorem law_walk (a0 a1 : Int) (u0 : (Lit.int .u16 a0).wf = true) (u1 : (Lit.int .i64 a1).wf = true) (w : World) :
    Calls Try.prog 7 #[.int .u16 a0, .int .i64 a1] w fun e w' => e = .returned (.bool true) ∧ Below w.heap.size w w' := by
  by_cases hor : a1 < 0 ∨ 1099511627776 < a1
  · by_cases hn : a1 < 0
    · have dn : decide (a1 < 0) = true := decide_eq_true hn
      go_enter Try.func7, Try.ntmps7
      go_wp2_with (go_at_call 20; refine (awake9_any _).mono ?_; rintro e w9 ⟨rfl, hw9⟩)
      go_ret
      exact ⟨rfl, hw9⟩
    · have dn : decide (a1 < 0) = false := decide_eq_false hn
      have dm : decide (1099511627776 < a1) = true := decide_eq_true (by omega)
      clear hor
      go_enter Try.func7, Try.ntmps7
      go_wp2_with (go_at_call 20; refine (awake9_any _).mono ?_; rintro e w9 ⟨rfl, hw9⟩)
      go_ret
      exact ⟨rfl, hw9⟩
  · have h1 : 0 ≤ a1 := by omega
    have h2 : a1 ≤ 1099511627776 := by omega
    have dn : decide (a1 < 0) = false := decide_eq_false (by omega)
    have dm : decide (1099511627776 < a1) = false := decide_eq_false (by omega)
    clear hor
    obtain ⟨p0, p1⟩ : 0 ≤ a0 ∧ a0 ≤ 65535 := by
      simp [Lit.wf, IntKind.min, IntKind.max, IntKind.signed, IntKind.bits] at u0
      exact u0
    have hw0 : IntKind.i64.wrap a0 = a0 := by rw [IntKind.wrap_i64]; omega
    obtain ⟨q, hq⟩ : ∃ q : Nat, (q : Int) = a0 % 10 := ⟨(a0 % 10).toNat, by omega⟩
    have hmod : a0.tmod 10 = (q : Int) := by rw [Int.tmod_eq_emod_of_nonneg p0]; exact hq.symm
    have hq9 : q ≤ 9 := by omega
    clear hq u0
    obtain ⟨m, hm⟩ : ∃ m : Nat, m = 4090 + q := ⟨_, rfl⟩
    have hsum : (4090 : Int) + (q : Int) = (m : Int) := by omega
    have hm1 : 4090 ≤ m ∧ m ≤ 4099 := by omega
    clear hm
    go_enter Try.func7, Try.ntmps7
    go_wp2_with fail
    refine (wwnew_any _).mono ?_
    rintro e w1 ⟨b, rfl, hw1, hb1⟩
    have HW1 := hid hw1
    have HB1 := hid hb1
    clear hw1 hb1
    try rw [hsum]
    go_wp2
    go_loopw [7] (fun i wr => ∃ k : Nat, k ≤ m ∧ i = .int .i64 k ∧ Hid (WW w.heap.size b wr (rowF a1 (min k 4096))) ∧ Hid (Below w.heap.size w wr)) (fun i _ => m - (intOf i).toNat)
    case atStart => exact ⟨0, by omega, rfl, HW1, HB1⟩
    case round =>
      clear HW1 HB1
      obtain ⟨k, hk, rfl, HW, HB⟩ := hrel
      by_cases hlt : k < m
      · have hlt' : (k : Int) < (m : Int) := by omega
        have KS := hid (set_full h1 h2 (by omega) HW.out)
        by_cases h4 : k < 4096
        · have h4' : (k : Int) < 4096 := by omega
          rw [if_pos h4] at KS
          go_wp2_with fail
          refine KS.out.mono ?_
          rintro e w3 ⟨rfl, hw3, hf3⟩
          have W3 := hid hw3
          have B3 := hid (HB.out.trans hf3.below)
          clear KS HW HB hw3 hf3
          go_wp2
          go_roundw
          case rel => exact ⟨k + 1, by omega, by go_num, W3, B3⟩
          case measure => simp [intOf]; omega
        · have h4' : decide ((k : Int) < 4096) = false := decide_eq_false (by omega)
          rw [if_neg h4] at KS
          go_wp2_with fail
          refine KS.out.mono ?_
          rintro e w3 ⟨rfl, hw3, hf3⟩
          have W3 := hid hw3
          have B3 := hid (HB.out.trans hf3.below)
          clear KS HW HB hw3 hf3
          go_wp2
          go_roundw
          case rel => exact ⟨k + 1, by omega, by go_num, W3, B3⟩
          case measure => simp [intOf]; omega
      · obtain rfl : k = m := by omega
        have hlt' : decide ((k : Int) < (k : Int)) = false := by simp
        obtain ⟨j, hj⟩ : ∃ j, j = min k 4096 := ⟨_, rfl⟩
        rw [← hj] at HW
        obtain ⟨E1, E2, E3, E4⟩ := full_end h1 h2 (show 2 ≤ j by omega) (show j ≤ 4096 by omega) HW.out.row.1
        have KL := hid (wwlen_any HW.out)
        rw [rowF_len] at KL
        have K1 := hid (wwset_any HW.out (id := 0) (a := 0) (by decide))
        rw [E1, E2] at K1
        clear HW E1 E2
        by_cases h4 : 4096 ≤ k
        · have hj4 : j = 4096 := by omega
          subst hj4
          have h4' : decide ((4096 : Int) ≤ (k : Int)) = true := decide_eq_true (by omega)
          clear hj
          go_wp2_with fail
          refine KL.out.mono ?_
          rintro e wx ⟨rfl, hwx⟩
          rw [hwx]
          clear hwx KL
          go_wp2_with fail
          refine K1.out.mono ?_
          rintro e w3 ⟨rfl, hw3, hf3⟩
          have B3 := hid (HB.out.trans hf3.below)
          have K2 := hid (wwstop_any hw3 (id := 1) (by decide))
          rw [E3] at K2
          simp only [Option.isSome_some] at K2
          clear K1 hw3 hf3 HB
          go_wp2_with fail
          refine K2.out.mono ?_
          rintro e w4 ⟨rfl, hw4, hf4⟩
          have B4 := hid (B3.out.trans hf4.below)
          have K3 := hid (wwset_any hw4 (id := 5000) (a := a1) (by decide))
          rw [E4] at K3
          clear K2 hw4 hf4 B3
          go_wp2_with fail
          refine K3.out.mono ?_
          rintro e w5 ⟨rfl, hw5, hf5⟩
          have B5 := hid (B4.out.trans hf5.below)
          clear K3 hw5 hf5 B4
          go_wp2_with fail
          refine (awake9_any _).mono ?_
          rintro e w9 ⟨rfl, hw9⟩
          go_wp2
          go_ret
          exact ⟨rfl, B5.out.trans (hw9.mono B5.out.size)⟩
        · have h4' : decide ((4096 : Int) ≤ (k : Int)) = false := decide_eq_false (by omega)
          have hje : ((j : Int) == 4096) = false := by rw [beq_eq_false_iff_ne]; omega
          clear hj
          go_wp2_with fail
          refine KL.out.mono ?_
          rintro e wx ⟨rfl, hwx⟩
          rw [hwx]
          clear hwx KL
          go_wp2_with fail
          refine K1.out.mono ?_
          rintro e w3 ⟨rfl, hw3, hf3⟩
          have B3 := hid (HB.out.trans hf3.below)
          have K2 := hid (wwstop_any hw3 (id := 1) (by decide))
          rw [E3] at K2
          simp only [Option.isSome_some] at K2
          clear K1 hw3 hf3 HB
          go_wp2_with fail
          refine K2.out.mono ?_
          rintro e w4 ⟨rfl, hw4, hf4⟩
          have B4 := hid (B3.out.trans hf4.below)
          have K3 := hid (wwset_any hw4 (id := 5000) (a := a1) (by decide))
          rw [E4] at K3
          clear K2 hw4 hf4 B3
          go_wp2_with fail
          refine K3.out.mono ?_
          rintro e w5 ⟨rfl, hw5, hf5⟩
          have B5 := hid (B4.out.trans hf5.below)
          clear K3 hw5 hf5 B4
          go_wp2_with fail
          refine (awake9_any _).mono ?_
          rintro e w9 ⟨rfl, hw9⟩
          go_wp2
          go_ret
          exact ⟨rfl, B5.out.trans (hw9.mono B5.out.size)⟩
end Go.Proofs.Ythioekmlljpbpaa.wheelFull
