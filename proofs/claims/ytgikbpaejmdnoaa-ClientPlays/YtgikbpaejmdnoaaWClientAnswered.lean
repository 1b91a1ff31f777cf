/-
  The walk of the law ClientAnswered.
-/
import Derived.Test.YtgikbpaejmdnoaaSC
namespace Go.Proofs.Ytgikbpaejmdnoaa
open Go.RowKit Go.Sort
set_option linter.unusedVariables false
set_option maxRecDepth 20000
set_option linter.unusedSimpArgs false

theorem str_ofq (a : ByteArray) : ∃ l : List UInt8, a = ⟨l.toArray⟩ := ⟨a.data.toList, by apply ByteArray.ext; simp⟩
theorem tq_one {m last : Int} {c : Cq} (hg : GoodQ c) (h1 : 1 ≤ c.id) (h2 : c.id ≤ last) (hm : 1 ≤ m) (hm2 : m ≤ 200) : TqOK ⟨m, last, [c]⟩ :=
  ⟨by simp, fun x hx => by simp at hx; subst hx; exact ⟨h1, h2⟩, by simp, by simp; omega, ⟨hm, hm2⟩, by simp; omega, fun x hx => by simp at hx; subst hx; exact hg⟩
theorem next_one (c : Cq) : nextQ [c] [c].length = ((0 : Nat) : Int) := by simp [nextQ]
theorem step_late1 {m last now : Int} {c : Cq} (h : now < atQ c) : stepA ⟨m, last, [c]⟩ now = (⟨m, last, [c]⟩, []) := stepA_late (k := 0) (by simp) (next_one c) h
theorem start_q1 {m now : Int} (hm : 1 ≤ m) (br to tx : List UInt8) (h0 : 0 ≤ now) (h1 : now ≤ 1099511627136) : startQ ⟨m, 0, []⟩ br now to tx = (⟨m, 1, [⟨1, br, now, 1, -1, to, tx⟩]⟩, 1, 0) := by
  rw [startq_new (by omega) (by simp) (by simp; omega)]
  rfl
namespace clientAnswered
/-- Less than 320 ticks behind its beginning a transaction still waits. -/
theorem waits_on {m last now : Int} (hm : 1 ≤ m) (hm2 : m ≤ 200) : ∀ n (c : Cq), GoodQ c → c.rest < 0 → 1 ≤ c.id → c.id ≤ last → leftQ c ≤ n → now < c.begun + 320 → ∃ k, 1 ≤ k ∧ k ≤ 11 ∧ (stepA ⟨m, last, [c]⟩ now).1 = ⟨m, last, [{ c with times := k }]⟩
  | n, c, hg, hr, h1, h2, hn, hb => by
    by_cases hl : now < atQ c
    · rw [step_late1 hl]
      exact ⟨c.times, hg.t0, hg.t1, rfl⟩
    · have ht : c.times ≤ 10 := by
        by_cases ht : c.times ≤ 10
        · exact ht
        · have := (atQ_last (c := c) hr (by omega)).1
          omega
      match n with
      | 0 => have := (leftQ_pos hg).1; omega
      | n + 1 =>
        have hok := tq_one (m := m) hg h1 h2 hm hm2
        rw [stepA_do hok (k := 0) (by simp) (next_one c) hl]
        simp only [List.getElem_cons_zero]
        rw [oneq_again hr ((again_iff hg hr).2 ht)]
        simp only [List.take_zero, List.nil_append, Nat.zero_add, List.drop_succ_cons, List.drop_zero, List.append_nil]
        have hg' : GoodQ { c with times := c.times + 1 } := ⟨hg.b0, hg.b1, by have := hg.t0; simp only; omega, by simp only; omega, hg.r0, hg.r1⟩
        exact waits_on hm hm2 n { c with times := c.times + 1 } hg' hr h1 h2 (by
          unfold leftQ at hn ⊢
          rw [if_pos hr] at hn
          simp only
          rw [if_pos hr]
          have := hg.t1
          omega) hb
def cW (br : List UInt8) (now k r : Int) : Cq := ⟨1, br, now, k, r, [], []⟩
theorem resp_1 {br : List UInt8} {now k n s : Int} (h0 : 0 ≤ n) (h1 : n ≤ 1099511627456) (hs : 200 ≤ s) (hs2 : s ≤ 699) : respQ ⟨1, 1, [cW br now k (-1)]⟩ br s n = (⟨1, 1, [cW br now k (n + 50)]⟩, 1, true, 0) := by
  rw [respq_last (k := 0) (by omega) (by simp) (by simp) (by omega) (by simp [isQ, cW])]
  simp [cW]
theorem resp_2 {br : List UInt8} {now k n s : Int} (h0 : 0 ≤ n) (h1 : n ≤ 1099511627456) (hs : 200 ≤ s) (hs2 : s ≤ 699) : respQ ⟨1, 1, [cW br now k (n + 50)]⟩ br s n = (⟨1, 1, [cW br now k (n + 50)]⟩, 0, false, 6) := by
  rw [respq_none (by omega) (fun c hc => by
    simp at hc; subst hc
    show (br == br && decide (n + 50 < 0)) = false
    rw [show decide (n + 50 < 0) = false from decide_eq_false (by omega)]; simp)]
theorem gone_1 {br : List UInt8} {now k n : Int} (hg : GoodQ (cW br now k (n + 50))) (h0 : 0 ≤ n) : stepA ⟨1, 1, [cW br now k (n + 50)]⟩ (n + 50) = (⟨1, 1, []⟩, []) := by
  have hr : ¬ (cW br now k (n + 50)).rest < 0 := by simp [cW]; omega
  have ha : atQ (cW br now k (n + 50)) = n + 50 := atQ_rest hr
  have hok : TqOK ⟨1, 1, [cW br now k (n + 50)]⟩ := tq_one hg (by simp [cW]) (by simp [cW]) (by omega) (by omega)
  rw [stepA_do hok (k := 0) (by simp) (next_one _) (by simp only [List.getElem_cons_zero]; omega)]
  simp only [List.getElem_cons_zero]
  rw [oneq_rest hr]
  simp only [List.take_zero, List.nil_append, Nat.zero_add, List.drop_succ_cons, List.drop_zero]
  rw [stepA_none rfl]
theorem late_1 {br : List UInt8} {now k n : Int} (h0 : 0 ≤ n) : stepA ⟨1, 1, [cW br now k (n + 50)]⟩ (n + 50 - 1) = (⟨1, 1, [cW br now k (n + 50)]⟩, []) := by
  refine step_late1 ?_
  rw [atQ_rest (by simp [cW]; omega)]
  simp only [cW]; omega
theorem live_1 {br : List UInt8} {now k n : Int} (h0 : 0 ≤ n) : liveQ ⟨1, 1, [cW br now k (n + 50)]⟩ 1 = false := by
  simp [liveQ, cW]; omega
set_option maxHeartbeats 2000000 in
set_option maxRecDepth 100000 in
theorem law_walk (a0 : ByteArray) (a1 a2 a3 : Int) (b0 : a0.size ≤ 140737488351232) (u1 : (Lit.int .i64 a1).wf = true) (u2 : (Lit.int .u16 a2).wf = true) (u3 : (Lit.int .i64 a3).wf = true) (w : World) :
    Calls Try.prog 5 #[.string a0, .int .i64 a1, .int .u16 a2, .int .i64 a3] w fun e w' => e = .returned (.bool true) ∧ Below w.heap.size w w' := by
  obtain ⟨br, rfl⟩ := str_ofq a0
  rw [sq_size] at b0
  by_cases hbad : a1 < 0 ∨ 1099511627136 < a1 ∨ a3 < 200 ∨ 699 < a3
  · have KW := hid (awake12_any w)
    by_cases h1 : a1 < 0
    · clear hbad u1 u2 u3
      go_enter Try.func5, Try.ntmps5
      go_wp2_with (go_at_call 9; refine KW.out.mono ?_; rintro e w9 ⟨rfl, hw9⟩; replace hw9 := hid hw9)
      go_ret
      exact ⟨rfl, hw9.out⟩
    by_cases h2 : 1099511627136 < a1
    · clear hbad u1 u2 u3
      go_enter Try.func5, Try.ntmps5
      go_wp2_with (go_at_call 9; refine KW.out.mono ?_; rintro e w9 ⟨rfl, hw9⟩; replace hw9 := hid hw9)
      go_ret
      exact ⟨rfl, hw9.out⟩
    by_cases h3 : a3 < 200
    · clear hbad u1 u2 u3
      go_enter Try.func5, Try.ntmps5
      go_wp2_with (go_at_call 9; refine KW.out.mono ?_; rintro e w9 ⟨rfl, hw9⟩; replace hw9 := hid hw9)
      go_ret
      exact ⟨rfl, hw9.out⟩
    have h4 : 699 < a3 := by omega
    clear hbad u1 u2 u3
    go_enter Try.func5, Try.ntmps5
    go_wp2_with (go_at_call 9; refine KW.out.mono ?_; rintro e w9 ⟨rfl, hw9⟩; replace hw9 := hid hw9)
    go_ret
    exact ⟨rfl, hw9.out⟩
  have n1 : ¬ a1 < 0 := by omega
  have n2 : ¬ 1099511627136 < a1 := by omega
  have n3 : ¬ a3 < 200 := by omega
  have n4 : ¬ 699 < a3 := by omega
  clear hbad
  have hu : 0 ≤ a2 ∧ a2 ≤ 65535 := by simpa [Lit.wf, IntKind.min, IntKind.max, IntKind.signed, IntKind.bits] using u2
  obtain ⟨p1, p2⟩ := hu
  obtain ⟨d, hd⟩ : ∃ d : Int, a2 % 320 = d := ⟨_, rfl⟩
  have hd0 : 0 ≤ d := by omega
  have hd1 : d < 320 := by omega
  have hM : a2.tmod 320 = d := by rw [Int.tmod_eq_emod_of_nonneg p1]; exact hd
  have q1 : 0 ≤ a1 + d := by omega
  have q2 : a1 + d ≤ 1099511627456 := by omega
  have hg : ∀ k r : Int, 1 ≤ k → k ≤ 11 → -1 ≤ r → r ≤ 1099511627776 → GoodQ (cW br a1 k r) := fun k r h1 h2 h3 h4 => ⟨by simp [cW]; omega, by simp [cW]; omega, h1, h2, h3, h4⟩
  have hl : br.length ≤ 281474976710656 := by omega
  obtain ⟨k, hk1, hk2, hst⟩ := waits_on (m := 1) (last := 1) (now := a1 + d) (by omega) (by omega) 11 (cW br a1 1 (-1)) (hg 1 (-1) (by omega) (by omega) (by omega) (by omega)) (by simp [cW]) (by simp [cW]) (by simp [cW]) (by simp [leftQ, cW]) (by simp [cW]; omega)
  obtain ⟨o1, ho1⟩ : ∃ o, stepA ⟨1, 1, [cW br a1 1 (-1)]⟩ (a1 + d) = (⟨1, 1, [cW br a1 k (-1)]⟩, o) := ⟨_, Prod.ext hst rfl⟩
  have HG := hid (hg k (a1 + d + 50) hk1 hk2 (by omega) (by omega))
  clear hg hst u1 u2 u3 hd
  go_enter Try.func5, Try.ntmps5
  go_wp2_with fail
  refine (qnew_ok w (most := 1) (by decide) (by decide)).mono ?_
  rintro e w1 ⟨bt, rfl, T1, B1⟩
  go_wp2_with fail
  refine (qstart_is T1 (br := br) (to := []) (tx := []) hl (by decide) (by decide) (by decide) (start_q1 (by omega) br [] [] (by omega) (by omega))).mono ?_
  rintro e w2 ⟨rfl, T2, F2⟩
  have B2 := B1.trans F2.below
  clear T1 F2 B1
  go_wp2_with fail
  refine (qstep_is T2 ho1).mono ?_
  rintro e w3 ⟨oa, oc, rfl, _, T3, F3⟩
  have B3 := B2.trans F3.below
  clear T2 F3 B2
  go_wp2_with fail
  refine (qresp_is T3 (br := br) hl (resp_1 q1 q2 (by omega) (by omega))).mono ?_
  rintro e w4 ⟨rfl, T4, F4⟩
  have B4 := B3.trans F4.below
  clear T3 F4 B3
  go_wp2_with fail
  refine (tabq_live T4 (id := 1) (by decide)).mono ?_
  rintro e w5 ⟨rfl, hb5⟩
  have T5 := T4.below hb5
  have B5 := B4.trans (hb5.mono B4.size)
  rw [live_1 q1]
  clear T4 hb5 B4
  go_wp2_with fail
  refine (qresp_is T5 (br := br) hl (resp_2 q1 q2 (by omega) (by omega))).mono ?_
  rintro e w6 ⟨rfl, T6, F6⟩
  have B6 := B5.trans F6.below
  clear T5 F6 B5
  go_wp2_with fail
  refine (qstep_is T6 (late_1 q1)).mono ?_
  rintro e w7 ⟨oa, oc, rfl, _, T7, F7⟩
  have B7 := B6.trans F7.below
  clear T6 F7 B6
  have KL := hid (tabq_len T7)
  simp only [List.length_cons, List.length_nil] at KL
  go_wp2_with (go_at_call 11; refine KL.out.mono ?_; rintro e w9 ⟨rfl, hw9⟩; rw [hw9]; clear hw9)
  refine (qstep_is T7 (gone_1 HG.out q1)).mono ?_
  rintro e w8 ⟨oa, oc, rfl, _, T8, F8⟩
  have B8 := hid (B7.trans F8.below)
  clear T7 F8 B7 KL
  have KL := hid (tabq_len T8)
  simp only [List.length_nil] at KL
  have KW := hid (awake12_any w8)
  clear T8
  go_wp2_with (first
    | (go_at_call 11; refine KL.out.mono ?_; rintro e w9 ⟨rfl, hw9⟩; rw [hw9]; clear hw9)
    | (go_at_call 9; refine KW.out.mono ?_; rintro e w9 ⟨rfl, hw9⟩; replace hw9 := hid hw9))
  go_ret
  exact ⟨rfl, B8.out.trans (hw9.out.mono B8.out.size)⟩
end clientAnswered
end Go.Proofs.Ytgikbpaejmdnoaa
