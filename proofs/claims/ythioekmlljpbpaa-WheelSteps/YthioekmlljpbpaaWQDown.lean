/-
  container/heap's down, over a heap of timers.
-/
import Derived.Test.YthioekmlljpbpaaWQUp
namespace Go.Proofs.Ythioekmlljpbpaa
open Go.RowKit
set_option linter.unusedVariables false
set_option maxRecDepth 20000

/-- Where down stands: nothing is swapped yet, or all but the one at k and its children are in order. -/
def DownAt (f f' : Nat → It) (n i0 k : Nat) : Prop := (k = i0 ∧ f' = f) ∨ (i0 < k ∧ (FixOK itLt f n i0 → DownOK itLt f' n k))
def DownEnd (f f' : Nat → It) (n i0 : Nat) (b : Bool) : Prop := FixOK itLt f n i0 → (b = true → Heap itLt f' n) ∧ (b = false → f' = f ∧ UpOK itLt f n i0)
theorem DownAt.stop {f f' : Nat → It} {n i0 k : Nat} (h : DownAt f f' n i0 k) (hs : ∀ c, 0 < c → c < n → par c = k → itLt (f' c) (f' k) = false) : DownEnd f f' n i0 (decide (i0 < k)) := by
  intro hf
  rcases h with ⟨rfl, rfl⟩ | ⟨hk, hd⟩
  · simp
    exact down_stop0 hf hs
  · simp [hk]
    exact down_stop (hd hf) hs
theorem DownAt.next {f f' : Nat → It} {n i0 k j : Nat} (h : DownAt f f' n i0 k) (hj : 0 < j) (hn : j < n) (hp : par j = k) (hl : itLt (f' j) (f' k) = true) (hm : ∀ c, 0 < c → c < n → par c = k → itLt (f' c) (f' j) = false) :
    DownAt f (swapF f' k j) n i0 j := by
  have hkj : k < j := by have := par_lt hj; omega
  rcases h with ⟨rfl, rfl⟩ | ⟨hk, hd⟩
  · exact .inr ⟨hkj, fun hf => down_step it_ord hf hj hn hp hl hm⟩
  · exact .inr ⟨by omega, fun hf => down_step it_ord (hd hf).fix hj hn hp hl hm⟩
theorem kid_r (k : Nat) : par (2 * k + 2) = k := by unfold par; omega
theorem kid_l (k : Nat) : par (2 * k + 1) = k := by unfold par; omega

set_option maxHeartbeats 8000000 in
set_option maxRecDepth 100000 in
theorem down_any {bw m B : Nat} {v : Value} {w : World} {f : Nat → It} {N : Nat} (h : HQ bw m B v w f N) {i0 n : Nat} (hi : i0 ≤ n) (hnN : n ≤ N) (hN : N ≤ 1000000) :
    Calls Try.prog 33 #[hV bw, .int .i64 i0, .int .i64 n] w fun e w' => ∃ b, e = .returned (.bool b) ∧ ∃ f', HQ bw m B v w' f' N ∧ Re n f f' ∧ DownEnd f f' n i0 b ∧ Chg (HS v f N) w w' := by
  unfold hV
  obtain ⟨ao, cap, rfl⟩ := h.form
  have H0 := hid h
  have HIN := hid h.inj
  clear h
  go_enter Try.func33, Try.ntmps33
  go_wp2
  go_loopw [7] (fun i wr => ∃ (k : Nat) (f' : Nat → It), k ≤ n ∧ i0 ≤ k ∧ i = .int .i64 k ∧ Hid (HQ bw m B (.slice ao N cap) wr f' N) ∧ Hid (Re n f f') ∧ Hid (DownAt f f' n i0 k) ∧ Hid (Chg (HS (.slice ao N cap) f N) w wr)) (fun i _ => n - (intOf i).toNat)
  case atStart => exact ⟨i0, f, hi, by omega, rfl, H0, Re.refl _ _, .inl ⟨rfl, rfl⟩, Chg.refl _ _⟩
  case round =>
    obtain ⟨k, f', hk, hik, rfl, hq, hre, hda, hch⟩ := hrel
    clear H0
    by_cases hc : n ≤ 2 * k + 1
    · have hci : (n : Int) ≤ 2 * (k : Int) + 1 := by omega
      go_wp2
      go_ret
      exact ⟨_, rfl, f', hq.out, hre.out, hda.out.stop (no_child hc), hch.out⟩
    · have hci : ¬ ((n : Int) ≤ 2 * (k : Int) + 1) := by omega
      have hneg : ¬ (2 * (k : Int) + 1 < 0) := by omega
      have hkN : k < N := by omega
      have hlN : 2 * k + 1 < N := by omega
      have hln : 2 * k + 1 < n := by omega
      have hM := m_less hq.out.at
      have LE := hid (fun (w' : World) (hq' : HQ bw m B (.slice ao N cap) w' f' N) (a b : Nat) (ha : a < N) (hb : b < N) (I J : Int) (hI : I = a) (hJ : J = b) => by have k := less_any hq' ha hb; rw [← hI, ← hJ] at k; exact k)
      have SW := hid (fun (w' : World) (hq' : HQ bw m B (.slice ao N cap) w' f' N) (a b : Nat) (ha : a < N) (hb : b < N) (I J : Int) (hI : I = a) (hJ : J = b) => by have k := swap_any hq' ha hb; rw [← hI, ← hJ] at k; exact k)
      by_cases hr : 2 * k + 2 < n
      · have hri : 2 * (k : Int) + 1 + 1 < n := by omega
        cases hrl : itLt (f' (2 * k + 2)) (f' (2 * k + 1)) with
        | true =>
          have hmn := hid (child_r (f := f') (n := n) it_ord hrl)
          cases hjk : itLt (f' (2 * k + 2)) (f' k) with
          | false =>
            go_wp2_with (first
              | (go_at_call 52; refine (LE.out _ hq.out (2 * k + 2) (2 * k + 1) (by omega) (by omega) _ _ (by omega) (by omega)).mono ?_; rw [hrl]; rintro e w1 ⟨rfl, hq1, hc1⟩; have hM1 := m_less hq1.at; replace hq1 := hid hq1; replace hc1 := hid hc1)
              | (go_at_call 52; refine (LE.out _ hq1.out (2 * k + 2) k (by omega) (by omega) _ _ (by omega) rfl).mono ?_; rw [hjk]; rintro e w2 ⟨rfl, hq2, hc2⟩; have hM2 := m_swap hq2.at; replace hq2 := hid hq2; replace hc2 := hid hc2))
            go_ret
            exact ⟨_, rfl, f', hq2.out, hre.out, hda.out.stop (none_less it_ord hmn.out hjk), ((hch.out.no hc1.out).no hc2.out)⟩
          | true =>
            go_wp2_with (first
              | (go_at_call 52; refine (LE.out _ hq.out (2 * k + 2) (2 * k + 1) (by omega) (by omega) _ _ (by omega) (by omega)).mono ?_; rw [hrl]; rintro e w1 ⟨rfl, hq1, hc1⟩; have hM1 := m_less hq1.at; replace hq1 := hid hq1; replace hc1 := hid hc1)
              | (go_at_call 52; refine (LE.out _ hq1.out (2 * k + 2) k (by omega) (by omega) _ _ (by omega) rfl).mono ?_; rw [hjk]; rintro e w2 ⟨rfl, hq2, hc2⟩; have hM2 := m_swap hq2.at; replace hq2 := hid hq2; replace hc2 := hid hc2)
              | (go_at_call 53; refine (SW.out _ hq2.out k (2 * k + 2) (by omega) (by omega) _ _ rfl (by omega)).mono ?_; rintro e w3 ⟨rfl, hq3, hc3⟩))
            go_roundw
            case rel => exact ⟨2 * k + 2, swapF f' k (2 * k + 2), by omega, by omega, congrArg (Value.int .i64) (by omega), hq3, hre.out.trans (Re.swap f' (by omega) (by omega)), hda.out.next (by omega) (by omega) (kid_r k) hjk hmn.out, ((hch.out.no hc1.out).no hc2.out).step hc3 fun _ _ x => (hre.out.more hnN HIN.out).hs x⟩
            case measure => simp [intOf]; omega
        | false =>
          have hmn := hid (child_l (f := f') (n := n) it_ord hln (by rw [hrl]; simp))
          cases hjk : itLt (f' (2 * k + 1)) (f' k) with
          | false =>
            go_wp2_with (first
              | (go_at_call 52; refine (LE.out _ hq.out (2 * k + 2) (2 * k + 1) (by omega) (by omega) _ _ (by omega) (by omega)).mono ?_; rw [hrl]; rintro e w1 ⟨rfl, hq1, hc1⟩; have hM1 := m_less hq1.at; replace hq1 := hid hq1; replace hc1 := hid hc1)
              | (go_at_call 52; refine (LE.out _ hq1.out (2 * k + 1) k (by omega) (by omega) _ _ (by omega) rfl).mono ?_; rw [hjk]; rintro e w2 ⟨rfl, hq2, hc2⟩; have hM2 := m_swap hq2.at; replace hq2 := hid hq2; replace hc2 := hid hc2))
            go_ret
            exact ⟨_, rfl, f', hq2.out, hre.out, hda.out.stop (none_less it_ord hmn.out hjk), ((hch.out.no hc1.out).no hc2.out)⟩
          | true =>
            go_wp2_with (first
              | (go_at_call 52; refine (LE.out _ hq.out (2 * k + 2) (2 * k + 1) (by omega) (by omega) _ _ (by omega) (by omega)).mono ?_; rw [hrl]; rintro e w1 ⟨rfl, hq1, hc1⟩; have hM1 := m_less hq1.at; replace hq1 := hid hq1; replace hc1 := hid hc1)
              | (go_at_call 52; refine (LE.out _ hq1.out (2 * k + 1) k (by omega) (by omega) _ _ (by omega) rfl).mono ?_; rw [hjk]; rintro e w2 ⟨rfl, hq2, hc2⟩; have hM2 := m_swap hq2.at; replace hq2 := hid hq2; replace hc2 := hid hc2)
              | (go_at_call 53; refine (SW.out _ hq2.out k (2 * k + 1) (by omega) (by omega) _ _ rfl (by omega)).mono ?_; rintro e w3 ⟨rfl, hq3, hc3⟩))
            go_roundw
            case rel => exact ⟨2 * k + 1, swapF f' k (2 * k + 1), by omega, by omega, congrArg (Value.int .i64) (by omega), hq3, hre.out.trans (Re.swap f' (by omega) (by omega)), hda.out.next (by omega) (by omega) (kid_l k) hjk hmn.out, ((hch.out.no hc1.out).no hc2.out).step hc3 fun _ _ x => (hre.out.more hnN HIN.out).hs x⟩
            case measure => simp [intOf]; omega
      · have hri : ¬ (2 * (k : Int) + 1 + 1 < n) := by omega
        have hmn := hid (child_l (f := f') (n := n) it_ord hln (fun x => hr x.1))
        cases hjk : itLt (f' (2 * k + 1)) (f' k) with
        | false =>
          go_wp2_with (first
            | (go_at_call 52; refine (LE.out _ hq.out (2 * k + 1) k (by omega) (by omega) _ _ (by omega) rfl).mono ?_; rw [hjk]; rintro e w2 ⟨rfl, hq2, hc2⟩; have hM2 := m_swap hq2.at; replace hq2 := hid hq2; replace hc2 := hid hc2))
          go_ret
          exact ⟨_, rfl, f', hq2.out, hre.out, hda.out.stop (none_less it_ord hmn.out hjk), (hch.out.no hc2.out)⟩
        | true =>
          go_wp2_with (first
            | (go_at_call 52; refine (LE.out _ hq.out (2 * k + 1) k (by omega) (by omega) _ _ (by omega) rfl).mono ?_; rw [hjk]; rintro e w2 ⟨rfl, hq2, hc2⟩; have hM2 := m_swap hq2.at; replace hq2 := hid hq2; replace hc2 := hid hc2)
            | (go_at_call 53; refine (SW.out _ hq2.out k (2 * k + 1) (by omega) (by omega) _ _ rfl (by omega)).mono ?_; rintro e w3 ⟨rfl, hq3, hc3⟩))
          go_roundw
          case rel => exact ⟨2 * k + 1, swapF f' k (2 * k + 1), by omega, by omega, congrArg (Value.int .i64) (by omega), hq3, hre.out.trans (Re.swap f' (by omega) (by omega)), hda.out.next (by omega) (by omega) (kid_l k) hjk hmn.out, (hch.out.no hc2.out).step hc3 fun _ _ x => (hre.out.more hnN HIN.out).hs x⟩
          case measure => simp [intOf]; omega
end Go.Proofs.Ythioekmlljpbpaa
