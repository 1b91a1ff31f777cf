/-
  container/heap's Fix, Remove and Pop, over a heap of timers.
-/
import Derived.Test.YthioekmlljpbpaaWQHeap
namespace Go.Proofs.Ythioekmlljpbpaa
open Go.RowKit
set_option linter.unusedVariables false
set_option maxRecDepth 20000

set_option maxHeartbeats 4000000 in
set_option maxRecDepth 100000 in
theorem hfix_any {bw m B : Nat} {v : Value} {w : World} {f : Nat → It} {n : Nat} (h : HQ bw m B v w f n) {i : Nat} (hi : i < n) (hn : n ≤ 1000000) :
    Calls Try.prog 30 #[hV bw, .int .i64 i] w fun e w' => e = .returned (.tuple #[]) ∧ ∃ f', HQ bw m B v w' f' n ∧ Re n f f' ∧ (FixOK itLt f n i → Heap itLt f' n) ∧ Chg (HS v f n) w w' := by
  obtain ⟨ao, cap, rfl⟩ := h.form
  have KD := hid (down_any h (i0 := i) (n := n) (by omega) (by omega) hn)
  have KL := hid (qlen_any h hn)
  have KU := hid (fun (f' : Nat → It) (w' : World) (h' : HQ bw m B (.slice ao n cap) w' f' n) => up_any h' (j := i) (n := n) hi (by omega) hn)
  have hM := m_len h.at
  unfold hV at *
  clear h
  go_enter Try.func30, Try.ntmps30
  go_wp2_with (go_at_call 51; refine KL.out.mono ?_; rintro e w0 ⟨rfl, hw0⟩; rw [hw0]; clear hw0)
  refine KD.out.mono ?_
  rintro e w1 ⟨b, rfl, f1, hq1, hre1, hd1, hc1⟩
  cases b with
  | true =>
    go_wp2
    go_end0
    exact ⟨rfl, f1, hq1, hre1, fun x => (hd1 x).1 rfl, hc1⟩
  | false =>
    have KU1 := hid (KU.out f1 _ hq1)
    go_wp2_with (go_at_call 34; refine KU1.out.mono ?_; rintro e w2 ⟨rfl, f2, hq2, hre2, hh2, hc2⟩)
    go_end0
    exact ⟨rfl, f2, hq2, hre1.trans hre2, fun x => by obtain ⟨e, u⟩ := (hd1 x).2 rfl; subst e; exact hh2 u, hc1.step hc2 fun _ _ x => hre1.hs x⟩

theorem swap_self {α : Type} (f : Nat → α) (n : Nat) : swapF f n n = f := by
  funext k; unfold swapF; split
  · simp_all
  · rfl
theorem HQ.hs2 {bw : Nat} {v : Value} {f g : Nat → It} {n : Nat} (h : Re n f g) {k : Nat} (hk : HS v g n k) : HS2 bw bw v f n k := .inr (.inr (h.hs hk))
theorem Re.hs2 {n bw : Nat} {f g : Nat → It} {v v' : Value} (h : Re n f g) (hv : v'.ownBlock = v.ownBlock) {k : Nat} (hk : HS2 bw bw v' g n k) : HS2 bw bw v f n k := by
  rcases hk with hk | hk | hk
  · exact .inl hk
  · exact .inl hk
  · rcases h.hs hk with hk | hk
    · exact .inr (.inr (.inl (hv ▸ hk)))
    · exact .inr (.inr (.inr hk))

set_option maxHeartbeats 4000000 in
set_option maxRecDepth 100000 in
theorem hremove_any {bw m B : Nat} {v : Value} {w : World} {f : Nat → It} {n : Nat} (h : HQ bw m B v w f (n + 1)) {i : Nat} (hi : i < n + 1) (hn : n + 1 ≤ 1000000) :
    Calls Try.prog 32 #[hV bw, .int .i64 i] w fun e w' => e = .returned (.iface 66 (.pointer (some ⟨(f i).blk, 0, none⟩))) ∧ ∃ v' f', HQ bw m B v' w' f' n ∧ v'.ownBlock = v.ownBlock ∧ RowIs w' (f i).blk 69 (itemL (f i) n) ∧ Re n (swapF f i n) f' ∧ (Heap itLt f (n + 1) → Heap itLt f' n) ∧ Chg (HS2 bw bw v f (n + 1)) w w' := by
  obtain ⟨ao, cap, rfl⟩ := h.form
  have KL := hid (qlen_any h hn)
  have hM := m_len h.at
  have hMp := m_pop bw
  have KP := hid (fun (f' : Nat → It) (w' : World) (h' : HQ bw m B (.slice ao (n + 1) cap) w' f' (n + 1)) => qpop_any h' (by omega))
  have hsub : ((n : Int) + 1 - 1) = n := by omega
  by_cases hin : i = n
  · have KP0 := hid (KP.out f _ h)
    subst hin
    clear h KP
    unfold hV at *
    go_enter Try.func32, Try.ntmps32
    go_wp2_with (first
      | (go_at_call 51; refine KL.out.mono ?_; rintro e w0 ⟨rfl, hw0⟩; rw [hw0]; clear hw0)
      | (go_at_call 54; refine KP0.out.mono ?_; rintro e w5 ⟨rfl, v5, hq5, hv5, hr5, hc5⟩))
    go_ret
    exact ⟨rfl, v5, f, hq5, hv5, hr5, by rw [swap_self]; exact Re.refl _ _, fun x k h0 h1 => x k h0 (by omega), hc5⟩
  · have hne : ((n : Int) != (i : Int)) = true := by rw [bne_iff_ne]; omega
    have hil : i < n := by omega
    have KS := hid (swap_any h hi (show n < n + 1 by omega))
    have hMs := m_swap h.at
    have INJ := hid ((Re.swap f hi (show n < n + 1 by omega)).inj h.inj)
    have RS := hid (Re.swap f hi (show n < n + 1 by omega))
    have KD := hid (fun (w' : World) (h' : HQ bw m B (.slice ao (n + 1) cap) w' (swapF f i n) (n + 1)) => down_any h' (i0 := i) (n := n) (by omega) (by omega) hn)
    have KU := hid (fun (f' : Nat → It) (w' : World) (h' : HQ bw m B (.slice ao (n + 1) cap) w' f' (n + 1)) => up_any h' (j := i) (n := n) hil (by omega) hn)
    have RO := hid (fun (hh : Heap itLt f (n + 1)) => remove_ok it_ord hh hil)
    clear h
    unfold hV at *
    go_enter Try.func32, Try.ntmps32
    go_wp2_with (first
      | (go_at_call 51; refine KL.out.mono ?_; rintro e w0 ⟨rfl, hw0⟩; rw [hw0]; clear hw0)
      | (go_at_call 53; refine KS.out.mono ?_; rintro e w1 ⟨rfl, hq1, hc1⟩; have KD1 := hid (KD.out _ hq1); replace hc1 := hid hc1; clear hq1))
    refine KD1.out.mono ?_
    rintro e w2 ⟨b, rfl, f2, hq2, hre2, hd2, hc2⟩
    have C2 : Chg (HS2 bw bw (.slice ao (n + 1) cap) f (n + 1)) w w2 := (hc1.out.mono fun i hi x => .inr (.inr x)).step hc2 fun _ _ x => .inr (.inr (RS.out.hs x))
    have M2 := hre2.more (by omega) INJ.out
    have E2 : f2 n = f i := by rw [hre2.rest n (Nat.le_refl _), swap_r]
    cases b with
    | true =>
      have KP2 := hid (KP.out f2 _ hq2)
      rw [E2] at KP2
      clear hq2
      replace hd2 := hid hd2
      replace C2 := hid C2
      replace M2 := hid M2
      replace hre2 := hid hre2
      clear hc2 E2
      go_wp2_with (go_at_call 54; refine KP2.out.mono ?_; rintro e w5 ⟨rfl, v5, hq5, hv5, hr5, hc5⟩)
      go_ret
      exact ⟨rfl, v5, f2, hq5, hv5, hr5, hre2.out, fun x => (hd2.out (RO.out x)).1 rfl, C2.out.step hc5 fun _ _ x => RS.out.hs2 rfl (M2.out.hs2 rfl x)⟩
    | false =>
      have KU2 := hid (KU.out f2 _ hq2)
      clear hq2
      replace hd2 := hid hd2
      replace C2 := hid C2
      replace M2 := hid M2
      replace hre2 := hid hre2
      replace E2 := hid E2
      clear hc2
      go_wp2_with (first
        | (go_at_call 34; refine KU2.out.mono ?_; rintro e w3 ⟨rfl, f3, hq3, hre3, hh3, hc3⟩; have KP3 := hid (KP.out f3 _ hq3); rw [hre3.rest n (Nat.le_refl _), E2.out] at KP3; replace hre3 := hid hre3; replace hh3 := hid hh3; replace hc3 := hid hc3; clear hq3)
        | (go_at_call 54; refine KP3.out.mono ?_; rintro e w5 ⟨rfl, v5, hq5, hv5, hr5, hc5⟩))
      go_ret
      refine ⟨rfl, v5, f3, hq5, hv5, hr5, hre2.out.trans hre3.out, fun x => ?_, ?_⟩
      · obtain ⟨e, u⟩ := (hd2.out (RO.out x)).2 rfl
        subst e
        exact hh3.out u
      · have M3 := hre3.out.more (Nat.le_succ n) (M2.out.inj INJ.out)
        refine (C2.out.step hc3.out fun _ _ x => .inr (.inr (RS.out.hs (M2.out.hs x)))).step hc5 fun _ _ x => RS.out.hs2 rfl (M2.out.hs2 rfl (M3.hs2 rfl x))

end Go.Proofs.Ythioekmlljpbpaa
