/-
  The walk of the law WheelPlays.
-/
import Derived.Test.YthioekmlljpbpaaW9L
namespace Go.Proofs.Ythioekmlljpbpaa.wheelPlays
open Go.RowKit Go.Sort
set_option linter.unusedVariables false
set_option maxRecDepth 20000
set_option linter.unusedSimpArgs false

theorem TmsAt.fr {B : Nat} {w w' : World} {v : Value} {ts : List Tm} (h : TmsAt w v ts) (hf : Fr B w w') : TmsAt w' v ts := by
  obtain ⟨ao, cap, hv, hcap, hr⟩ := h
  refine ⟨ao, cap, hv, hcap, fun hne => ?_⟩
  obtain ⟨g, off, cs, he, hh, hk⟩ := hr hne
  exact ⟨g, off, cs, he, hf.keep g _ _ _ hh (by decide) (by decide) (by decide), hk⟩
theorem whenV_form (l : List Tm) (id : Int) : ∃ x y, whenV l id = .tuple #[.int .i64 x, .bool y] := by
  unfold whenV
  cases whenT l id with
  | none => exact ⟨0, false, rfl⟩
  | some a => exact ⟨a, true, rfl⟩
theorem stop_is (l : List Tm) (id : Int) : decide ((stopT l id).length < l.length) = (whenT l id).isSome := by
  cases h : whenT l id with
  | none => exact decide_eq_false fun x => stop_less.1 x h
  | some a => exact decide_eq_true (stop_less.2 (by rw [h]; simp))

set_option maxHeartbeats 4000000 in
set_option maxRecDepth 100000 in
theorem law_walk (w : World) (v0 : Value) (k0 : ActsIn 140737488351232 w v0) :
    Calls Try.prog 3 #[v0] w fun e w' => e = .returned (.bool true) ∧ Below w.heap.size w w' := by
  obtain ⟨acts, hat⟩ := k0
  have HI := hid hat
  obtain ⟨ao, cap, rfl, _⟩ := hat
  obtain ⟨n, hnn⟩ : ∃ n, n = acts.length := ⟨_, rfl⟩
  rw [← hnn] at HI ⊢
  have HN := hid hnn
  clear hnn
  go_enter Try.func3, Try.ntmps3
  go_wp2_with fail
  refine (wwnew_any _).mono ?_
  rintro e w1 ⟨b, rfl, hw1, hb1⟩
  have HW1 := hid hw1
  have HB1 := hid hb1
  clear hw1 hb1
  go_wp2
  go_loopw [5, 4] (fun i vl wr => ∃ (k : Nat) (l : List Tm), k ≤ n ∧ k ≤ 100 ∧ i = .int .i64 k ∧ Hid (WW w.heap.size b wr l) ∧ Hid (TmsAt wr vl l) ∧ l.length ≤ k ∧ Hid (Below w.heap.size w wr)) (fun i _ _ => n - (intOf i).toNat)
  case atStart => exact ⟨0, [], by omega, by omega, rfl, HW1, TmsAt.nil _, by simp, HB1⟩
  case round =>
    clear HW1 HB1
    obtain ⟨k, l, hk, hk5, rfl, HW, HT, hll, HB⟩ := hrel
    by_cases hlt : k < n
    case neg =>
      have hlt' : decide ((k : Int) < (n : Int)) = false := decide_eq_false (by omega)
      clear HW HT
      go_wp2_with fail
      refine (awake9_any _).mono ?_
      rintro e w9 ⟨rfl, hw9⟩
      go_wp2
      go_ret
      exact ⟨rfl, HB.out.trans (hw9.mono HB.out.size)⟩
    have hlt' : (k : Int) < (n : Int) := by omega
    by_cases h5 : k < 100
    case neg =>
      have h5' : decide ((k : Int) < 100) = false := decide_eq_false (by omega)
      clear HW HT
      go_wp2_with fail
      refine (awake9_any _).mono ?_
      rintro e w9 ⟨rfl, hw9⟩
      go_wp2
      go_ret
      exact ⟨rfl, HB.out.trans (hw9.mono HB.out.size)⟩
    have h5' : (k : Int) < 100 := by omega
    have hkl : k < acts.length := by rw [← HN.out]; exact hlt
    obtain ⟨ao', cap', hv', hc⟩ := HI.out
    injection hv' with e1 e2 e3
    subst e1
    obtain ⟨ad, ha, hlt2, ⟨wf0, wf1, wf2⟩, c0, c1, c2⟩ := hc k hkl
    subst ha
    have c0 := ocell_below HB.out (by rw [oadd_block]; exact hlt2) c0
    have c1 := ocell_below HB.out (by simp only [oadd_block]; exact hlt2) c1
    have c2 := ocell_below HB.out (by simp only [oadd_block]; exact hlt2) c2
    clear hc e2 e3 hlt2
    generalize acts[k] = t at wf0 wf1 wf2 c0 c1 c2
    obtain ⟨kd, id, at'⟩ := t
    simp only at wf0 wf1 wf2 c0 c1 c2
    obtain ⟨o, ho⟩ : ∃ o, o = Obj.cells #[.int .i64 kd, .int .i64 id, .int .i64 at'] 27 := ⟨_, rfl⟩
    have hr0 : RowIs (wr.alloc o) wr.heap.size 27 [.int .i64 kd, .int .i64 id, .int .i64 at'] := by unfold RowIs; rw [heap_alloc_new, ho]
    have hlt0 : wr.heap.size < (wr.alloc o).heap.size := by simp
    have HW1 := hid (HW.out.new o)
    have HT1 := hid (HT.out.below ((Below.refl _ _).alloc (Nat.le_refl _) o))
    have HB1 := hid (HB.out.alloc HB.out.size o)
    have HROW := hid HW.out.row.1
    rw [ho] at hr0 HW1 HT1 HB1 hlt0
    clear ho HW HT HB
    have HR1 := hid hr0
    have d0 : (wr.alloc (Obj.cells #[.int .i64 kd, .int .i64 id, .int .i64 at'] 27)).cell? ⟨wr.heap.size, 0, none⟩ = some (.int .i64 kd) := hr0.cell 0 (by simp)
    have d1 : (wr.alloc (Obj.cells #[.int .i64 kd, .int .i64 id, .int .i64 at'] 27)).cell? ⟨wr.heap.size, 1, none⟩ = some (.int .i64 id) := hr0.cell 1 (by simp)
    have d2 : (wr.alloc (Obj.cells #[.int .i64 kd, .int .i64 id, .int .i64 at'] 27)).cell? ⟨wr.heap.size, 2, none⟩ = some (.int .i64 at') := hr0.cell 2 (by simp)
    have KW := hid (wwhen_any HW1.out (id := id) wf1)
    have KR := hid (refwhen_any HT1.out (id := id) (by omega))
    obtain ⟨x, y, hxy⟩ := whenV_form l id
    rw [hxy] at KW KR
    have hx : (x != x) = false := by simp
    have hy : (y != y) = false := by simp
    clear hxy hr0
    go_wp2_with fail
    refine KW.out.mono ?_
    rintro e wx ⟨rfl, hwx⟩
    rw [hwx]
    clear hwx KW c0 c1 c2
    go_wp2_with fail
    refine KR.out.mono ?_
    rintro e wx ⟨rfl, hwx⟩
    rw [hwx]
    clear hwx KR
    by_cases hk0 : kd = 0
    · subst hk0
      have KS := hid (refset_any HT1.out (id := id) (a := at') (by omega))
      generalize hE : setE l id at' = er at KS
      have HE := hid hE
      clear hE
      go_wp2_with fail
      refine KS.out.mono ?_
      rintro e w4 ⟨v1, rfl, hT4, hb4⟩
      have HW4 := HW1.out.below hb4
      have R4 := HR1.out.below hb4 hlt0
      have B4 := hid (HB1.out.trans (hb4.mono HB1.out.size))
      have KQ := hid (wwset_any HW4 (id := id) (a := at') wf1)
      rw [HE.out] at KQ
      have f1 : w4.cell? ⟨wr.heap.size, 1, none⟩ = some (.int .i64 id) := R4.cell 1 (by simp)
      have f2 : w4.cell? ⟨wr.heap.size, 2, none⟩ = some (.int .i64 at') := R4.cell 2 (by simp)
      have HT4 := hid hT4
      have her : (er != er) = false := by simp
      clear KS d0 d1 d2 HW1 HT1 HB1 HR1 R4 hb4 hT4
      go_wp2_with fail
      refine KQ.out.mono ?_
      rintro e w5 ⟨rfl, hw5, hf5⟩
      have HW5 := hid hw5
      have HT5 := hid (TmsAt.fr HT4.out hf5)
      have B5 := hid (B4.out.trans hf5.below)
      have HL : Hid ((setR l id at').length ≤ k + 1) := Nat.le_trans (setR_len HROW.out id at') (by omega)
      clear KQ f1 f2 HT4 B4 hw5 hf5
      generalize setR l id at' = LL at HW5 HT5 HL
      have KSH := hid (shows_any HW5.out HT5.out)
      go_wp2_with fail
      refine KSH.out.mono ?_
      rintro e w6 ⟨rfl, hb6⟩
      have HW6 := hid (HW5.out.below hb6)
      have HT6 := hid (HT5.out.below hb6)
      have B6 := hid (B5.out.trans (hb6.mono B5.out.size))
      clear KSH HW5 HT5 B5 hb6
      go_wp2
      go_roundw
      case rel => exact ⟨k + 1, LL, by omega, by omega, by go_num, HW6, HT6, HL.out, B6⟩
      case measure => simp [intOf]; omega
    · have hk0' : (kd == 0) = false := by rw [beq_eq_false_iff_ne]; exact hk0
      by_cases hk1 : kd = 1
      · subst hk1
        have KS := hid (refstop_any HT1.out (id := id) (by omega))
        rw [stop_is] at KS
        generalize hE : (whenT l id).isSome = er at KS
        have HE := hid hE
        clear hE
        go_wp2_with fail
        refine KS.out.mono ?_
        rintro e w4 ⟨v1, rfl, hT4, hb4⟩
        have HW4 := HW1.out.below hb4
        have R4 := HR1.out.below hb4 hlt0
        have B4 := hid (HB1.out.trans (hb4.mono HB1.out.size))
        have KQ := hid (wwstop_any HW4 (id := id) wf1)
        rw [HE.out] at KQ
        have f1 : w4.cell? ⟨wr.heap.size, 1, none⟩ = some (.int .i64 id) := R4.cell 1 (by simp)
        have HT4 := hid hT4.at
        have her : (er != er) = false := by simp
        clear KS d0 d1 d2 HW1 HT1 HB1 HR1 R4 hb4 hT4
        go_wp2_with fail
        refine KQ.out.mono ?_
        rintro e w5 ⟨rfl, hw5, hf5⟩
        have HW5 := hid hw5
        have HT5 := hid (TmsAt.fr HT4.out hf5)
        have B5 := hid (B4.out.trans hf5.below)
        have HL : Hid ((stopT l id).length ≤ k + 1) := Nat.le_trans (List.length_filter_le _ _) (by omega)
        clear KQ f1 HT4 B4 hw5 hf5
        generalize stopT l id = LL at HW5 HT5 HL
        have KSH := hid (shows_any HW5.out HT5.out)
        go_wp2_with fail
        refine KSH.out.mono ?_
        rintro e w6 ⟨rfl, hb6⟩
        have HW6 := hid (HW5.out.below hb6)
        have HT6 := hid (HT5.out.below hb6)
        have B6 := hid (B5.out.trans (hb6.mono B5.out.size))
        clear KSH HW5 HT5 B5 hb6
        go_wp2
        go_roundw
        case rel => exact ⟨k + 1, LL, by omega, by omega, by go_num, HW6, HT6, HL.out, B6⟩
        case measure => simp [intOf]; omega
      · have hk1' : (kd == 1) = false := by rw [beq_eq_false_iff_ne]; exact hk1
        have KS := hid (refdue_any HT1.out (now := at') (by omega))
        have hdl := due_len l at'
        go_wp2_with fail
        refine KS.out.mono ?_
        rintro e w4 ⟨v1, v2, rfl, hT4, hT4b, hb4⟩
        have HW4 := HW1.out.below hb4
        have R4 := HR1.out.below hb4 hlt0
        have B4 := hid (HB1.out.trans (hb4.mono HB1.out.size))
        have KQ := hid (wwdue_any HW4 (now := at'))
        have f2 : w4.cell? ⟨wr.heap.size, 2, none⟩ = some (.int .i64 at') := R4.cell 2 (by simp)
        have HT4 := hid hT4
        have HT4b := hid hT4b
        clear KS d0 d1 d2 HW1 HT1 HB1 HR1 R4 hb4 hT4 hT4b
        generalize dueT l at' = dd at KQ HT4 hdl
        generalize leftT l at' = LL at KQ HT4b hdl
        go_wp2_with fail
        refine KQ.out.mono ?_
        rintro e w5' ⟨va, rfl, ho5, hw5, hf5⟩
        have KE := hid (refsame9_any ho5.at (TmsAt.fr HT4.out hf5) (by omega) (by omega))
        simp only [decide_true] at KE
        have B5' := hid (B4.out.trans hf5.below)
        have HW5' := hid hw5
        have HT5' := hid (TmsAt.fr HT4b.out hf5)
        clear KQ f2 HT4 HT4b B4 hw5 hf5 ho5
        go_wp2_with fail
        refine KE.out.mono ?_
        rintro e w5 ⟨rfl, hb5⟩
        have HW5 := hid (HW5'.out.below hb5)
        have HT5 := hid (HT5'.out.below hb5)
        have B5 := hid (B5'.out.trans (hb5.mono B5'.out.size))
        have HL : Hid (LL.length ≤ k + 1) := by show _ ≤ _; omega
        clear KE HW5' HT5' B5' hb5 hdl
        have KSH := hid (shows_any HW5.out HT5.out)
        go_wp2_with fail
        refine KSH.out.mono ?_
        rintro e w6 ⟨rfl, hb6⟩
        have HW6 := hid (HW5.out.below hb6)
        have HT6 := hid (HT5.out.below hb6)
        have B6 := hid (B5.out.trans (hb6.mono B5.out.size))
        clear KSH HW5 HT5 B5 hb6
        go_wp2
        go_roundw
        case rel => exact ⟨k + 1, LL, by omega, by omega, by go_num, HW6, HT6, HL.out, B6⟩
        case measure => simp [intOf]; omega
end Go.Proofs.Ythioekmlljpbpaa.wheelPlays
