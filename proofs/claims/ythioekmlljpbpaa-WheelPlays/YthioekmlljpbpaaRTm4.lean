/-
  The document's own Same and Ahead.
-/
import Derived.Test.YthioekmlljpbpaaRTm3
namespace Go.Proofs.Ythioekmlljpbpaa
open Go.RowKit
set_option linter.unusedVariables false
set_option maxRecDepth 20000

theorem take_more {l1 l2 : List Tm} {k : Nat} (h1 : k < l1.length) (h2 : k < l2.length) (h : l1.take k = l2.take k) (he : l1[k] = l2[k]) : l1.take (k + 1) = l2.take (k + 1) := by
  rw [List.take_succ_eq_append_getElem h1, List.take_succ_eq_append_getElem h2, h, he]

set_option maxHeartbeats 4000000 in
set_option maxRecDepth 100000 in
theorem refsame9_any {w : World} {v1 v2 : Value} {l1 l2 : List Tm} (h1 : TmsAt w v1 l1) (h2 : TmsAt w v2 l2) (hn1 : l1.length ≤ 1000000) (hn2 : l2.length ≤ 1000000) :
    Calls Try.prog 17 #[v1, v2] w fun e w' => e = .returned (.bool (decide (l1 = l2))) ∧ Below w.heap.size w w' := by
  obtain ⟨a1, c1, rfl, _, hr1⟩ := h1
  obtain ⟨a2, c2, rfl, _, hr2⟩ := h2
  have HR1 := hid hr1
  have HR2 := hid hr2
  clear hr1 hr2
  obtain ⟨n1, hnn1⟩ : ∃ n, n = l1.length := ⟨_, rfl⟩
  obtain ⟨n2, hnn2⟩ : ∃ n, n = l2.length := ⟨_, rfl⟩
  rw [← hnn1] at hn1 ⊢
  rw [← hnn2] at hn2 ⊢
  have HN1 := hid hnn1
  have HN2 := hid hnn2
  clear hnn1 hnn2
  by_cases hne : n1 = n2
  · subst hne
    have hnb : ((n1 : Int) != (n1 : Int)) = false := by simp
    go_enter Try.func17, Try.ntmps17
    go_wp2
    go_loopw [5] (fun i wr => ∃ k : Nat, k ≤ n1 ∧ i = .int .i64 k ∧ Hid (l1.take k = l2.take k) ∧ Hid (Below w.heap.size w wr)) (fun i _ => n1 - (intOf i).toNat)
    case atStart => exact ⟨0, by omega, rfl, rfl, Below.refl _ _⟩
    case round =>
      obtain ⟨k, hk, rfl, hinv, hb⟩ := hrel
      by_cases hlt : k < n1
      · have hlt' : (k : Int) < n1 := by omega
        have hk1 : k < l1.length := by rw [← HN1.out]; exact hlt
        have hk2 : k < l2.length := by rw [← HN2.out]; exact hlt
        obtain ⟨g1, o1, s1, ha1, hh1, hc1⟩ := HR1.out (by intro e; rw [e] at hk1; simp at hk1)
        obtain ⟨g2, o2, s2, ha2, hh2, hc2⟩ := HR2.out (by intro e; rw [e] at hk2; simp at hk2)
        subst ha1
        subst ha2
        rw [← hb.out.block g1 (Array.getElem?_eq_some_iff.1 hh1).1] at hh1
        rw [← hb.out.block g2 (Array.getElem?_eq_some_iff.1 hh2).1] at hh2
        have x0 := cells_at hh1 (hc1 k hk1).1
        have x1 := cells_at hh1 (hc1 k hk1).2
        have y0 := cells_at hh2 (hc2 k hk2).1
        have y1 := cells_at hh2 (hc2 k hk2).2
        have x0d : wr.drew.cell? _ = _ := x0
        have x1d : wr.drew.cell? _ = _ := x1
        have y0d : wr.drew.cell? _ = _ := y0
        have y1d : wr.drew.cell? _ = _ := y1
        have MO := hid (fun e => take_more hk1 hk2 hinv.out e)
        have NE : Hid (¬ l1[k] = l2[k] → ¬ l1 = l2) := fun hx e => hx (by subst e; rfl)
        clear hh1 hh2 hc1 hc2
        generalize l1[k] = t1 at x0 x1 x0d x1d MO NE
        generalize l2[k] = t2 at y0 y1 y0d y1d MO NE
        have hq := neqTm t1 t2
        by_cases he : t1 = t2
        · have hde : decide (t1 = t2) = true := decide_eq_true he
          rw [hde] at hq
          have MO2 := hid (MO.out he)
          clear MO NE hinv HR1 HR2 hde he
          go_wp2
          go_region
          all_goals (
            go_wp2
            go_roundw
            case rel => exact ⟨k + 1, by omega, by go_num, MO2.out, hb.out.drew⟩
            case measure => simp [intOf]; omega)
        · have hde : decide (t1 = t2) = false := decide_eq_false he
          rw [hde] at hq
          have hl : Hid (decide (l1 = l2) = false) := decide_eq_false (NE.out he)
          clear MO NE hinv HR1 HR2 hde he
          go_wp2
          go_region
          all_goals (
            go_wp2
            go_ret
            exact ⟨by rw [hl.out]; rfl, hb.out.drew⟩)
      · have hlt' : ¬ ((k : Int) < n1) := by omega
        obtain rfl : k = n1 := by omega
        have hl : Hid (decide (l1 = l2) = true) := decide_eq_true (by have := hinv.out; rwa [List.take_of_length_le (by rw [← HN1.out]; omega), List.take_of_length_le (by rw [← HN2.out]; omega)] at this)
        clear hinv HR1 HR2
        go_wp2
        go_ret
        exact ⟨by rw [hl.out]; rfl, hb.out⟩
  · have hnb : ((n1 : Int) != (n2 : Int)) = true := by rw [bne_iff_ne]; omega
    have hl : Hid (decide (l1 = l2) = false) := decide_eq_false (fun e => hne (by rw [HN1.out, HN2.out, e]))
    clear HR1 HR2
    go_enter Try.func17, Try.ntmps17
    go_wp2
    go_ret
    exact ⟨by rw [hl.out]; rfl, Below.refl _ _⟩

set_option maxHeartbeats 4000000 in
set_option maxRecDepth 100000 in
theorem refahead_any (a b : Tm) (w : World) :
    Calls Try.prog 23 #[.agg #[.int .i64 a.1, .int .i64 a.2], .agg #[.int .i64 b.1, .int .i64 b.2]] w fun e w' => e = .returned (.bool (ahd a b)) ∧ Below w.heap.size w w' := by
  obtain ⟨a1, a2⟩ := a
  obtain ⟨b1, b2⟩ := b
  have hB := ((Below.refl w.heap.size w).alloc (Nat.le_refl _) (.cells #[.int .i64 a1, .int .i64 a2] 49)).alloc (by simp) (.cells #[.int .i64 b1, .int .i64 b2] 49)
  by_cases h1 : a1 < b1
  · have e : ahd (a1, a2) (b1, b2) = true := by rw [ahd_iff]; exact .inl h1
    have HE := hid e
    clear e
    go_enter Try.func23, Try.ntmps23
    go_wp2
    go_ret
    exact ⟨by rw [HE.out]; rfl, hB⟩
  · by_cases h2 : a1 = b1
    · subst h2
      have e : ahd (a1, a2) (a1, b2) = decide (a2 < b2) := by rw [Bool.eq_iff_iff, ahd_iff]; simp
      have HE := hid e
      clear e
      go_enter Try.func23, Try.ntmps23
      go_wp2
      go_ret
      exact ⟨by rw [HE.out]; rfl, hB⟩
    · have e : ahd (a1, a2) (b1, b2) = false := by rw [ahd_not]; rintro (h | h); exact h1 h; exact h2 h.1
      have h2b : (a1 == b1) = false := by rw [beq_eq_false_iff_ne]; exact h2
      have HE := hid e
      clear e
      go_enter Try.func23, Try.ntmps23
      go_wp2
      go_ret
      exact ⟨by rw [HE.out]; rfl, hB⟩
end Go.Proofs.Ythioekmlljpbpaa
