/-
  container/heap's up, over a heap of timers.
-/
import Derived.Test.YthioekmlljpbpaaWQM
namespace Go.Proofs.Ythioekmlljpbpaa
open Go.RowKit
set_option linter.unusedVariables false
set_option maxRecDepth 20000

set_option maxHeartbeats 4000000 in
set_option maxRecDepth 100000 in
theorem up_any {bw m B : Nat} {v : Value} {w : World} {f : Nat → It} {N : Nat} (h : HQ bw m B v w f N) {j n : Nat} (hj : j < n) (hnN : n ≤ N) (hN : N ≤ 1000000) :
    Calls Try.prog 34 #[hV bw, .int .i64 j] w fun e w' => e = .returned (.tuple #[]) ∧ ∃ f', HQ bw m B v w' f' N ∧ Re n f f' ∧ (UpOK itLt f n j → Heap itLt f' n) ∧ Chg (HS v f N) w w' := by
  unfold hV
  obtain ⟨ao, cap, rfl⟩ := h.form
  have H0 := hid h
  have HIN := hid h.inj
  clear h
  go_enter Try.func34, Try.ntmps34
  go_wp2
  go_loopw [1] (fun i wr => ∃ (k : Nat) (f' : Nat → It), k < n ∧ i = .int .i64 k ∧ Hid (HQ bw m B (.slice ao N cap) wr f' N) ∧ Hid (Re n f f') ∧ Hid (UpOK itLt f n j → UpOK itLt f' n k) ∧ Hid (Chg (HS (.slice ao N cap) f N) w wr)) (fun i _ => (intOf i).toNat)
  case atStart => exact ⟨j, f, hj, rfl, H0, Re.refl _ _, fun x => x, Chg.refl _ _⟩
  case round =>
    obtain ⟨k, f', hk, rfl, hq, hre, hup, hch⟩ := hrel
    by_cases hk0 : k = 0
    · subst hk0
      go_wp2
      go_end0
      exact ⟨rfl, f', hq.out, hre.out, fun x => up_stop (hup.out x) (.inl rfl), hch.out⟩
    · have hp := par_int (k := k) (by omega)
      have hpl := par_lt (k := k) (by omega)
      have hne : ((par k : Int) == (k : Int)) = false := by rw [beq_eq_false_iff_ne]; omega
      have hM := m_less hq.out.at
      have KL := hid (less_any hq.out (show k < N by omega) (show par k < N by omega))
      clear H0
      cases hl : itLt (f' k) (f' (par k)) with
      | false =>
        rw [hl] at KL
        go_wp2_with (go_at_call 52; refine KL.out.mono ?_; rintro e w1 ⟨rfl, hq1, hc1⟩)
        go_end0
        exact ⟨rfl, f', hq1, hre.out, fun x => up_stop (hup.out x) (.inr hl), hch.out.no hc1⟩
      | true =>
        rw [hl] at KL
        have HL := hid hl
        clear hl
        go_wp2_with (first
          | (go_at_call 52; refine KL.out.mono ?_; rintro e w1 ⟨rfl, hq1, hc1⟩; have hM2 := m_swap hq1.at; have KS := hid (swap_any hq1 (show par k < N by omega) (show k < N by omega)); replace hc1 := hid hc1; replace hq1 := hid hq1)
          | (go_at_call 53; refine KS.out.mono ?_; rintro e w2 ⟨rfl, hq2, hc2⟩))
        go_roundw
        case rel => exact ⟨par k, swapF f' (par k) k, by omega, rfl, hq2, hre.out.trans (Re.swap f' (by omega) hk), fun x => up_step it_ord (hup.out x) (by omega) hk HL.out, (hch.out.no hc1.out).step hc2 fun _ _ x => (hre.out.more hnN HIN.out).hs x⟩
        case measure => simp [intOf]; omega
end Go.Proofs.Ythioekmlljpbpaa
