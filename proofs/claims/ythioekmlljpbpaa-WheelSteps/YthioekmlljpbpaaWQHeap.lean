/-
  container/heap's Push, Fix, Remove and Pop, over a heap of timers.
-/
import Derived.Test.YthioekmlljpbpaaWQPop
namespace Go.Proofs.Ythioekmlljpbpaa
open Go.RowKit
set_option linter.unusedVariables false
set_option maxRecDepth 20000

/-- The blocks that Push may change: the record, the new item, the items, and a row of pointers, all from B on. -/
def HS3 (B bw b : Nat) (f : Nat → It) (n : Nat) (w : World) (k : Nat) : Prop := B ≤ k ∧ (k = bw ∨ k = b ∨ (∃ i, i < n ∧ (f i).blk = k) ∨ ∃ cs, w.heap[k]? = some (.cells cs 66 (0, 0)))
theorem HQ.hs3 {bw m B b : Nat} {v : Value} {w : World} {f : Nat → It} {n : Nat} (h : HQ bw m B v w f n) (hw : B ≤ bw) (hb : B ≤ b) {k : Nat} (hk : HS2 bw b v f n k) : HS3 B bw b f n w k := by
  rcases hk with rfl | rfl | hk | ⟨i, hi, rfl⟩
  · exact ⟨hw, .inl rfl⟩
  · exact ⟨hb, .inr (.inl rfl)⟩
  · rcases h.own.2 with ⟨h2, _⟩ | ⟨g, cap, cur, hv, hg, hh, _⟩
    · rw [h2] at hk; cases hk
    · rw [hv] at hk
      simp [Value.ownBlock] at hk
      subst hk
      exact ⟨hg, .inr (.inr (.inr ⟨cur, hh⟩))⟩
  · exact ⟨h.lo i hi, .inr (.inr (.inl ⟨i, hi, rfl⟩))⟩
theorem HQ.hs4 {bw m B b : Nat} {v v1 : Value} {w w1 : World} {f : Nat → It} {n : Nat} {t : Tm} (h : HQ bw m B v w f n) (hw : B ≤ bw) (hb : B ≤ b) (h1 : HQ bw m B v1 w1 (putF f n ⟨b, t⟩) (n + 1)) (hc : Chg (HS2 bw b v f n) w w1) :
    ∀ i, i < w.heap.size → HS v1 (putF f n ⟨b, t⟩) (n + 1) i → HS3 B bw b f n w i := by
  intro k hk hs
  by_cases h2 : HS2 bw b v f n k
  · exact h.hs3 hw hb h2
  · rcases hs with hs | ⟨i, hi, he⟩
    · rcases h1.own.2 with ⟨e2, _⟩ | ⟨g, cap, cur, hv, hg, hh, _⟩
      · rw [e2] at hs; cases hs
      · rw [hv] at hs
        simp [Value.ownBlock] at hs
        subst hs
        rw [hc.block _ hk h2] at hh
        exact ⟨hg, .inr (.inr (.inr ⟨cur, hh⟩))⟩
    · by_cases e : i = n
      · subst e; rw [put_at] at he; exact absurd (.inr (.inl he.symm)) h2
      · rw [put_ne _ _ e] at he; exact absurd (.inr (.inr (.inr ⟨i, by omega, he⟩))) h2

set_option maxHeartbeats 4000000 in
set_option maxRecDepth 100000 in
theorem hpush_any {bw m B : Nat} {v : Value} {w : World} {f : Nat → It} {n : Nat} (h : HQ bw m B v w f n) {b : Nat} {t : Tm} {p0 : Value} (hb : RowIs w b 69 [.int .i64 t.1, .int .i64 t.2, p0]) (hnb : ∀ i, i < n → (f i).blk ≠ b) (hlo : B ≤ b) (hwlo : B ≤ bw) (hn : n + 1 ≤ 1000000) (hB : B ≤ w.heap.size) :
    Calls Try.prog 31 #[hV bw, .iface 66 (.pointer (some ⟨b, 0, none⟩))] w fun e w' => e = .returned (.tuple #[]) ∧ ∃ v' f', HQ bw m B v' w' f' (n + 1) ∧ Re (n + 1) (putF f n ⟨b, t⟩) f' ∧ (Heap itLt f n → Heap itLt f' (n + 1)) ∧ Chg (HS3 B bw b f n w) w w' := by
  have K1 := hid (qpush_any h hb hnb hlo (by omega) hB)
  have H3 := hid (fun k => h.hs3 hwlo hlo (k := k))
  have H4 := hid (fun (v' : Value) (w' : World) h' hc' => h.hs4 (b := b) (t := t) (v1 := v') (w1 := w') hwlo hlo h' hc')
  have hM := m_push bw
  have KU := hid (fun (v' : Value) (w' : World) (h' : HQ bw m B v' w' (putF f n ⟨b, t⟩) (n + 1)) => up_any h' (j := n) (n := n + 1) (by omega) (by omega) hn)
  have KL := hid (fun (v' : Value) (w' : World) (h' : HQ bw m B v' w' (putF f n ⟨b, t⟩) (n + 1)) => qlen_any h' hn)
  have PU := hid (fun (hh : Heap itLt f n) => push_ok (lt := itLt) (f := f) (g := putF f n ⟨b, t⟩) hh (fun k hk => put_ne f _ (by omega)))
  have hsub : ((n : Int) + 1 - 1) = n := by omega
  unfold hV at *
  clear h hb
  go_enter Try.func31, Try.ntmps31
  go_wp2_with (first
    | (go_at_call 55; refine K1.out.mono ?_; rintro e w1 ⟨rfl, v1, hq1, hc1⟩; (obtain ⟨oa, oc, rfl⟩ := hq1.form); have hM1 := m_len hq1.at; replace hq1 := hid hq1; replace hc1 := hid hc1)
    | (go_at_call 51; refine (KL.out _ _ hq1.out).mono ?_; rintro e w2 ⟨rfl, hw2⟩; rw [hw2]; clear hw2)
    | (go_at_call 34; refine (KU.out _ _ hq1.out).mono ?_; rintro e w3 ⟨rfl, f3, hq3, hre3, hh3, hc3⟩))
  go_end0
  refine ⟨rfl, _, f3, hq3, hre3, fun x => hh3 (PU.out x), ?_⟩
  exact (hc1.out.mono fun i hi x => H3.out i x).step hc3 (H4.out _ _ hq1.out hc1.out)
end Go.Proofs.Ythioekmlljpbpaa
