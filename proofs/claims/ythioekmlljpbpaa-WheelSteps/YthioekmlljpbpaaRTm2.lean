/-
  The document's own Due, Stop and Same, over rows of timers.
-/
import Derived.Test.YthioekmlljpbpaaRTm
import Derived.Test.YthioekmlljpbpaaWDue
namespace Go.Proofs.Ythioekmlljpbpaa
open Go.RowKit
set_option linter.unusedVariables false
set_option maxRecDepth 20000

theorem TmsAt.take {w : World} {ao : Option Addr} {n cap : Nat} {ts : List Tm} (h : TmsAt w (.slice ao n cap) ts) (i : Nat) (hi : i ≤ ts.length) : TmsAt w (.slice ao i cap) (ts.take i) := by
  obtain ⟨ao', cap', hv, hcap, hr⟩ := h
  injection hv with e1 e2 e3
  subst e1; subst e3
  refine ⟨ao, cap, by rw [List.length_take, Nat.min_eq_left hi], by rw [List.length_take]; omega, fun hne => ?_⟩
  obtain ⟨g, off, cs, he, hh, hk⟩ := hr (by rintro rfl; simp at hne)
  refine ⟨g, off, cs, he, hh, fun k hk' => ?_⟩
  have hk2 : k < ts.length := by rw [List.length_take] at hk'; omega
  rw [List.getElem_take]
  exact hk k hk2
theorem TmsAt.drop {w : World} {g off n cap : Nat} {ts : List Tm} (h : TmsAt w (.slice (some ⟨g, off, none⟩) n cap) ts) (i : Nat) (hi : i ≤ ts.length) : TmsAt w (.slice (some ⟨g, off + i * 2, none⟩) (n - i) (cap - i)) (ts.drop i) := by
  obtain ⟨ao', cap', hv, hcap, hr⟩ := h
  injection hv with e1 e2 e3
  subst e1; subst e3
  refine ⟨_, cap - i, by rw [List.length_drop, e2], by rw [List.length_drop]; omega, fun hne => ?_⟩
  obtain ⟨g', off', cs, he, hh, hk⟩ := hr (by rintro rfl; simp at hne)
  injection he with he
  injection he with h1 h2
  subst h1; subst h2
  refine ⟨g, off + i * 2, cs, rfl, hh, fun k hk' => ?_⟩
  have hk2 : i + k < ts.length := by rw [List.length_drop] at hk'; omega
  rw [List.getElem_drop]
  have := hk (i + k) hk2
  rw [show off + (i + k) * 2 = off + i * 2 + k * 2 by omega] at this
  exact this

set_option maxHeartbeats 4000000 in
set_option maxRecDepth 100000 in
theorem refdue_any {w : World} {v : Value} {l : List Tm} (h : TmsAt w v l) {now : Int} (hn : l.length ≤ 1000000) :
    Calls Try.prog 16 #[v, .int .i64 now] w fun e w' => ∃ v1 v2, e = .returned (.tuple #[v1, v2]) ∧ TmsAt w' v1 (dueT l now) ∧ TmsAt w' v2 (leftT l now) ∧ Below w.heap.size w w' := by
  have HH := hid h
  obtain ⟨ao, cap, rfl, hcap, hr⟩ := h
  have HR := hid hr
  obtain ⟨n, hnn⟩ : ∃ n, n = l.length := ⟨_, rfl⟩
  rw [← hnn] at hn hcap HH ⊢
  have HN := hid hnn
  clear hr hnn
  go_enter Try.func16, Try.ntmps16
  go_wp2
  go_loopw [6] (fun i wr => ∃ k : Nat, k ≤ n ∧ i = .int .i64 k ∧ wr = w ∧ Hid (∀ t ∈ l.take k, t.1 ≤ now)) (fun i _ => n - (intOf i).toNat)
  case atStart => exact ⟨0, by omega, rfl, rfl, fun t ht => by simp at ht⟩
  case round =>
    obtain ⟨k, hk, rfl, hwr, hinv⟩ := hrel
    rw [hwr]
    clear hwr
    have hkc : (k : Int) ≤ (cap : Int) := by omega
    have hkn : (k : Int) ≤ (n : Int) := by omega
    by_cases hlt : k < n
    · have hlt' : (k : Int) < n := by omega
      have hkl : k < l.length := by rw [← HN.out]; exact hlt
      obtain ⟨g, off, cs, hao, hh, hcell⟩ := HR.out (by intro e; rw [e] at hkl; simp at hkl)
      subst hao
      have c0 := cells_at hh (hcell k hkl).1
      have GE : Hid (∀ x, l.drop k = x → ∃ r, x = l[k] :: r) := fun x e => ⟨l.drop (k + 1), e ▸ List.drop_eq_getElem_cons hkl⟩
      have TK : Hid (l.take (k + 1) = l.take k ++ [l[k]]) := List.take_succ_eq_append_getElem hkl
      clear hh hcell
      generalize l[k] = t at c0 GE TK
      by_cases htn : t.1 ≤ now
      · have hinv2 : Hid (∀ t ∈ l.take (k + 1), t.1 ≤ now) := fun t' h' => by
          rw [TK.out] at h'
          rcases List.mem_append.1 h' with h' | h'
          · exact hinv.out t' h'
          · simp at h'; subst h'; exact htn
        clear GE TK hinv HR
        go_wp2
        go_roundw
        case rel => exact ⟨k + 1, by omega, by go_num, by first | rfl | trivial, hinv2.out⟩
        case measure => simp [intOf]; omega
      · obtain ⟨e1, e2⟩ := due_stop hinv.out (fun t' r e => by obtain ⟨r', hr'⟩ := GE.out _ e; injection hr' with hr' _; subst hr'; exact htn)
        have R1 := hid (HH.out.take k (by omega))
        have R2 := hid (HH.out.drop k (by omega))
        rw [← e1] at R1
        rw [← e2] at R2
        clear GE TK hinv HR e1 e2 HH
        go_wp2
        go_region
        all_goals go_wp2
        all_goals go_ret2
        all_goals exact ⟨_, _, rfl, R1.out, R2.out, (Below.refl _ w).drew⟩
    · have hlt' : ¬ ((k : Int) < n) := by omega
      obtain rfl : k = n := by omega
      obtain ⟨e1, e2⟩ := due_stop hinv.out (fun t' r e => by rw [List.drop_eq_nil_of_le (by rw [← HN.out]; omega)] at e; cases e)
      by_cases hl0 : l = []
      · have hk0 : k = 0 := by rw [HN.out, hl0]; rfl
        subst hk0
        have E1 : Hid (dueT l now = []) := by rw [hl0]; rfl
        have E2 : Hid (leftT l now = []) := by rw [hl0]; rfl
        clear e1 e2 hinv HR HH hl0
        have T0 : ∀ (a : Option Addr) (c : Nat), TmsAt w.drew (.slice a 0 c) [] := fun a c => ⟨a, c, rfl, by simp, fun h => absurd rfl h⟩
        have hB := (Below.refl w.heap.size w).drew
        cases ao with
        | none =>
          go_wp2
          go_region
          all_goals go_wp2
          all_goals go_ret2
          all_goals exact ⟨_, _, rfl, by rw [E1.out]; exact T0 _ _, by rw [E2.out]; exact T0 _ _, hB⟩
        | some ad =>
          go_wp2
          go_region
          all_goals go_wp2
          all_goals go_ret2
          all_goals exact ⟨_, _, rfl, by rw [E1.out]; exact T0 _ _, by rw [E2.out]; exact T0 _ _, hB⟩
      · obtain ⟨g, off, cs, hao, hh, hcell⟩ := HR.out hl0
        subst hao
        have R1 := hid (HH.out.take k (by rw [← HN.out]; omega))
        rw [← e1] at R1
        have E2 : Hid (leftT l now = []) := by rw [e2]; exact List.drop_eq_nil_of_le (by rw [← HN.out]; omega)
        have T0 : ∀ (a : Option Addr) (c : Nat), TmsAt w.drew (.slice a 0 c) [] := fun a c => ⟨a, c, rfl, by simp, fun h => absurd rfl h⟩
        clear hinv HR e1 e2 HH hh hcell hl0
        by_cases hck : cap = k
        · subst hck
          go_wp2
          go_region
          all_goals go_wp2
          all_goals go_ret2
          all_goals exact ⟨_, _, rfl, R1.out, by rw [E2.out]; exact T0 _ _, (Below.refl _ w).drew⟩
        · have hck' : ¬ (cap - k = 0) := by omega
          go_wp2
          go_region
          all_goals go_wp2
          all_goals go_ret2
          all_goals exact ⟨_, _, rfl, R1.out, by rw [E2.out]; exact T0 _ _, (Below.refl _ w).drew⟩
end Go.Proofs.Ythioekmlljpbpaa
