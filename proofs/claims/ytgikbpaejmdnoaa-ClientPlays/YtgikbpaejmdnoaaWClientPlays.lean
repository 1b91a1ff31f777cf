/-
  The walk of the law ClientPlays.
-/
import Derived.Test.YtgikbpaejmdnoaaPDoesQ
import Derived.Lib.QuietBelow
import Derived.BigQuiet
namespace Go.Proofs.Ytgikbpaejmdnoaa.clientPlays
open Go.RowKit Go.Sort
set_option linter.unusedVariables false
set_option maxRecDepth 20000
set_option linter.unusedSimpArgs false

set_option maxHeartbeats 4000000 in
set_option maxRecDepth 100000 in
theorem law_walk (w : World) (a0 : Int) (v1 : Value) (w0 : (Lit.int .i64 a0).wf = true) (k1 : AqsIn 140737488351232 w v1) :
    Calls Try.prog 3 #[.int .i64 a0, v1] w fun e w' => e = .returned (.bool true) ∧ Below w.heap.size w w' := by
  obtain ⟨acts, hat, hao⟩ := k1
  have HI := hid hat
  have HO := hid hao
  obtain ⟨ao, cap, rfl, _⟩ := hat
  obtain ⟨n, hnn⟩ : ∃ n, n = acts.length := ⟨_, rfl⟩
  rw [← hnn] at HI ⊢
  have HN := hid hnn
  clear hnn hao
  have KW := hid awake12_any
  by_cases hbad : a0 < 1 ∨ 200 < a0
  · have KN := hid (qnew_bad w hbad)
    by_cases h1 : a0 < 1
    · clear hbad
      go_enter Try.func3, Try.ntmps3
      go_wp2_with (first
        | (go_at_call 8; refine KN.out.mono ?_; rintro e wx ⟨rfl, hwx⟩; rw [hwx]; clear hwx)
        | (go_at_call 9; refine (KW.out _).mono ?_; rintro e w9 ⟨rfl, hw9⟩; replace hw9 := hid hw9))
      go_ret
      exact ⟨rfl, hw9.out⟩
    · have h2 : 200 < a0 := by omega
      clear hbad
      go_enter Try.func3, Try.ntmps3
      go_wp2_with (first
        | (go_at_call 8; refine KN.out.mono ?_; rintro e wx ⟨rfl, hwx⟩; rw [hwx]; clear hwx)
        | (go_at_call 9; refine (KW.out _).mono ?_; rintro e w9 ⟨rfl, hw9⟩; replace hw9 := hid hw9))
      go_ret
      exact ⟨rfl, hw9.out⟩
  have n1 : ¬ a0 < 1 := by omega
  have n2 : ¬ 200 < a0 := by omega
  clear hbad
  go_enter Try.func3, Try.ntmps3
  go_wp2_with fail
  refine (qnew_ok w (most := a0) (by omega) (by omega)).mono ?_
  rintro e wa ⟨bt, rfl, T1, B1⟩
  have hb2 : Below wa.heap.size wa (wa.alloc (.cells #[.int .i64 a0, .int .i64 0, .slice none 0 0] 31)) := (Below.refl _ wa).alloc (Nat.le_refl _) _
  have BO : Hid (∃ t v, Bq w.heap.size bt wa.heap.size (wa.alloc (.cells #[.int .i64 a0, .int .i64 0, .slice none 0 0] 31)) t v ∧ t.last ≤ 0) := ⟨⟨a0, 0, []⟩, .slice none 0 0, ⟨⟨_, T1.below hb2⟩, sv_row3 wa _ _ _ _, OwnQ.nil _ _, B1.size⟩, by simp⟩
  have HB := hid (B1.trans (hb2.mono B1.size))
  clear T1 B1 hb2
  go_wp2
  generalize wa.alloc _ = W at BO HB ⊢
  go_loopw [8] (fun i wr => ∃ k : Nat, k ≤ n ∧ k ≤ 50 ∧ i = .int .i64 k ∧ Hid (∃ t v, Bq w.heap.size bt wa.heap.size wr t v ∧ t.last ≤ k) ∧ Hid (Below w.heap.size w wr)) (fun i _ => n - (intOf i).toNat)
  case atStart => exact ⟨0, by omega, by omega, rfl, BO, HB⟩
  case round =>
    clear BO HB
    obtain ⟨k, hk, hk5, rfl, BO, HB⟩ := hrel
    by_cases hlt : k < n
    case neg =>
      have hlt' : decide ((k : Int) < (n : Int)) = false := decide_eq_false (by omega)
      clear BO
      go_wp2_with fail
      refine (KW.out _).mono ?_
      rintro e w9 ⟨rfl, hw9⟩
      go_wp2
      go_ret
      exact ⟨rfl, HB.out.trans (hw9.mono HB.out.size)⟩
    have hlt' : (k : Int) < (n : Int) := by omega
    by_cases h5 : k < 50
    case neg =>
      have h5' : decide ((k : Int) < 50) = false := decide_eq_false (by omega)
      clear BO
      go_wp2_with fail
      refine (KW.out _).mono ?_
      rintro e w9 ⟨rfl, hw9⟩
      go_wp2
      go_ret
      exact ⟨rfl, HB.out.trans (hw9.mono HB.out.size)⟩
    have h5' : (k : Int) < 50 := by omega
    have hkl : k < acts.length := by rw [← HN.out]; exact hlt
    obtain ⟨ao', cap', hv', hc⟩ := HI.out
    injection hv' with e1 e2 e3
    subst e1
    obtain ⟨ad, ha, hlt2, c0, cc⟩ := hc k hkl
    subst ha
    have c0 := aqcell_below HB.out (by rw [aqadd_block]; exact hlt2) c0
    obtain ⟨c1, c2, c3, c4⟩ := cc.below HB.out (by rw [aqadd_block]; exact hlt2)
    have ka := HO.out _ (List.getElem_mem hkl)
    clear hc e2 e3 hlt2 cc
    generalize acts[k] = a at ka c0 c1 c2 c3 c4
    obtain ⟨t, v, hBo, htl⟩ := BO.out
    have hBd := hBo.below (Below.refl _ wr).drew
    have KD := hid (doesq_any hBd ka (by omega))
    unfold aqV at KD
    have hsz1 : w.heap.size ≤ wr.heap.size := HB.out.size
    clear BO hBo hBd
    go_wp2
    replace c0 : wr.drew.cell? _ = _ := c0
    replace c1 : wr.drew.cell? _ = _ := c1
    replace c2 : wr.drew.cell? _ = _ := c2
    replace c3 : wr.drew.cell? _ = _ := c3
    replace c4 : wr.drew.cell? _ = _ := c4
    have NX : Hid (∀ (w2 : World) (t' : Tq) (v' : Value), Bq w.heap.size bt wa.heap.size w2 t' v' → ∃ oa oc, v' = .slice oa t'.l.length oc) := fun w2 t' v' h => h.own.form
    have NL : Hid (∀ (w2 : World) (t' : Tq) (v' : Value), Bq w.heap.size bt wa.heap.size w2 t' v' → Calls Try.prog 11 #[.pointer (some ⟨bt, 0, none⟩)] w2 fun e w' => e = .returned (.int .i64 t'.l.length) ∧ w' = w2) := fun w2 t' v' h => by
      obtain ⟨U, hT⟩ := h.tab
      exact tabq_len hT
    have hnl : ∀ x : Int, (x != x) = false := fun x => by simp
    go_region_law (first
      | (go_simp; go_at_call 10; refine KD.out.mono ?_; rintro e w2 ⟨rfl, ⟨t', v', B2, hl2, hm2⟩, hw2⟩; (obtain ⟨oa, oc, hv2⟩ := NX.out _ _ _ B2); subst hv2; have y2 := B2.row.sv3.c2; have HB2 := hid B2; have HW2 := hid hw2; clear B2 hw2 hm2)
      | (go_simp; go_at_call 11; refine (NL.out _ _ _ HB2.out).mono ?_; rintro e wx ⟨rfl, hwx⟩; rw [hwx]; clear hwx))
    all_goals (
      have HBW := hid ((show Below w.heap.size w wr.drew from HB.out.drew).trans HW2.out.below)
      have hn2 : t'.l.length ≤ 1000000 := by
        obtain ⟨U, hT⟩ := HB2.out.tab
        have := hT.1.len
        have := hT.1.most.2
        omega
      have BO2 := hid (And.intro HB2.out hl2)
      clear KD c0 c1 c2 c3 c4 y2 HW2 HB2 NX NL hl2
      go_wp2
      go_loopw [9] (fun i wq => ∃ j : Nat, j ≤ 7 ∧ i = .int .i64 j ∧ Hid (Below w2.heap.size w2 wq)) (fun i _ => 7 - (intOf i).toNat)
      case atStart => exact ⟨0, by omega, rfl, Below.refl _ _⟩
      case round =>
        obtain ⟨j, hj, rfl, hbq⟩ := hrel
        have B3 := BO2.out.1.below hbq.out
        by_cases hj7 : j < 7
        · have hj7' : (j : Int) ≤ 6 := by omega
          have hjw : (Lit.int .i64 (j : Int)).wf = true := by simp [Lit.wf, IntKind.min, IntKind.max, IntKind.signed, IntKind.bits]; omega
          obtain ⟨r0, r1, r2, _, _, _⟩ := B3.row.sv3
          obtain ⟨U, hT⟩ := B3.tab
          have KL := hid (fun (d : Nat) (os : Array Obj) => Calls.regrown_of (tabq_live (hT.below (below_regrown _ d os)) (id := j) hjw))
          have KR := hid (fun (d : Nat) (os : Array Obj) => Calls.regrown_of (refliveq_any (t := t') (B3.own.below (below_regrown _ d os)) (id := j) hn2))
          unfold tqV at KR
          generalize liveQ t' j = lb at KL KR
          have hlb : (lb != lb) = false := by simp
          clear hT hjw B3
          go_wp2
          replace r0 := cell_regrown r0
          replace r1 := cell_regrown r1
          replace r2 := cell_regrown r2
          refine wp_region_quiet_below followsQ (by kernel_rfl) ?_
          repeat (go_big_quiet_step (first | with_reducible exact KL.out _ _ | with_reducible exact KR.out _ _))
          refine wpQuiet_nil ?_
          intro _ hw'
          obtain ⟨⟨dq, osq⟩, hw''⟩ := hw'
          subst hw''
          have hq := below_regrown wr dq osq
          generalize grow _ _ = wx at hq ⊢
          have HBX := hid (hbq.out.trans (hq.mono hbq.out.size))
          clear hq r0 r1 r2 KL KR
          go_wp2
          go_roundw
          case rel => exact ⟨j + 1, by omega, by go_num, HBX.out⟩
          case measure => simp [intOf]; omega
        · have hj7' : ¬ ((j : Int) ≤ 6) := by omega
          have HB3 := hid (HBW.out.trans (hbq.out.mono HBW.out.size))
          have BO3 : Hid (∃ t v, Bq w.heap.size bt wa.heap.size wr t v ∧ t.last ≤ ((k + 1 : Nat) : Int)) := ⟨_, _, B3, by have := BO2.out.2; push_cast; omega⟩
          clear B3 BO2
          go_wp2
          go_roundw
          case rel => exact ⟨k + 1, by omega, by omega, by go_num, BO3, HB3⟩
          case measure => simp [intOf]; omega)
end Go.Proofs.Ytgikbpaejmdnoaa.clientPlays
