/-
  The walk of the law WheelAgain.
-/
import Derived.Test.YthioekmlljpbpaaW9L
namespace Go.Proofs.Ythioekmlljpbpaa.wheelAgain
open Go.RowKit Go.Sort
set_option linter.unusedVariables false
set_option maxRecDepth 20000
set_option linter.unusedSimpArgs false

set_option maxHeartbeats 4000000 in
set_option maxRecDepth 100000 in
theorem law_walk (w : World) (v0 : Value) (a1 a2 : Int) (a3 : Bool) (k0 : IntsIn 140737488351232 w v0) (u1 : (Lit.int .u64 a1).wf = true) (u2 : (Lit.int .i64 a2).wf = true) :
    Calls Try.prog 6 #[v0, .int .u64 a1, .int .i64 a2, .bool a3] w fun e w' => e = .returned (.bool true) ∧ Below w.heap.size w w' := by
  obtain ⟨ats, hat⟩ := k0
  have KF := hid (filled_any hat)
  obtain ⟨hrow, hlen⟩ := fillL_row ats
  have hok := fillL_ok ats
  obtain ⟨ao, cap, rfl, _⟩ := hat
  generalize ats.length = na at KF ⊢
  generalize fillL ats = L at KF hrow hlen hok
  obtain ⟨p0, p1⟩ : 0 ≤ a1 ∧ a1 ≤ 18446744073709551615 := by
    simp [Lit.wf, IntKind.min, IntKind.max, IntKind.signed, IntKind.bits] at u1
    exact u1
  obtain ⟨q, hq⟩ : ∃ q, q = a1 % 97 := ⟨_, rfl⟩
  have hq0 : 0 ≤ q := by omega
  have hq1 : q < 97 := by omega
  have hmod : a1.tmod 97 = q := by rw [Int.tmod_eq_emod_of_nonneg p0]; exact hq.symm
  have hwq : IntKind.i64.wrap q = q := by rw [IntKind.wrap_i64]; omega
  have hwu : IntKind.u64.wrap q = q := by simp [IntKind.wrap, IntKind.signed, IntKind.bits]; omega
  clear hq u1 p0 p1
  have hwf : (Lit.int .i64 q).wf = true := wf_small hq0 (by omega)
  by_cases hbad : badS q a2
  · have hE : setE L q a2 = 1 := if_pos hbad
    have hor : a2 < 0 ∨ 1099511627776 < a2 := by unfold badS at hbad; omega
    go_enter Try.func6, Try.ntmps6
    go_wp2_with fail
    refine KF.out.mono ?_
    rintro e w1 ⟨b, rfl, hw1, hb1⟩
    have KS := hid (wwset_any hw1 (id := q) (a := a2) hwf)
    rw [hE] at KS
    clear KF hbad hE hw1
    go_wp2_with fail
    refine KS.out.mono ?_
    rintro e w2 ⟨rfl, hw2, hf2⟩
    have B2 := hid (hb1.trans hf2.below)
    clear KS hw2 hf2 hb1
    by_cases hn : a2 < 0
    · have dn : decide (a2 < 0) = true := decide_eq_true hn
      go_wp2_with (go_at_call 20; refine (awake9_any _).mono ?_; rintro e w9 ⟨rfl, hw9⟩)
      go_ret
      exact ⟨rfl, B2.out.trans (hw9.mono B2.out.size)⟩
    · have dn : decide (a2 < 0) = false := decide_eq_false hn
      have dm : decide (1099511627776 < a2) = true := decide_eq_true (by omega)
      clear hor
      go_wp2_with (go_at_call 20; refine (awake9_any _).mono ?_; rintro e w9 ⟨rfl, hw9⟩)
      go_ret
      exact ⟨rfl, B2.out.trans (hw9.mono B2.out.size)⟩
  · have hful : ¬ (whenT L q = none ∧ 4096 ≤ L.length) := fun x => by omega
    have hE : setE L q a2 = 0 := by unfold setE; rw [if_neg hbad, if_neg hful]
    have hR : setR L q a2 = setT L q a2 := by unfold setR; rw [if_neg hbad, if_neg hful]
    have ha0 : 0 ≤ a2 ∧ a2 ≤ 1099511627776 := by unfold badS at hbad; omega
    have HSA : Hid (∀ t ∈ setT L q a2, t.1 ≤ 1099511627776) := fun t ht => by
      rcases set_mem.1 ht with rfl | ⟨ht, _⟩
      · exact ha0.2
      · exact (hok t ht).2.2.2
    have HSB : Hid (∀ t ∈ setT L q a2, t.2 = q → t.1 = a2) := fun t ht e => by
      rcases set_mem.1 ht with rfl | ⟨_, hne⟩
      · rfl
      · exact absurd e hne
    have HSC := hid (cnt_set L q a2)
    have HSL : (setT L q a2).length ≤ 501 := by have := set_len hrow q a2; omega
    have HWS : Hid (whenT (setT L q a2) q = some a2) := (when_iff (hrow.set q a2) q a2).2 (set_mem.2 (.inl rfl))
    go_enter Try.func6, Try.ntmps6
    go_wp2_with fail
    refine KF.out.mono ?_
    rintro e w1 ⟨b, rfl, hw1, hb1⟩
    have KS := hid (wwset_any hw1 (id := q) (a := a2) hwf)
    rw [hE, hR] at KS
    clear KF hbad hE hR hw1 hful hrow hok
    generalize setT L q a2 = S at KS HSA HSB HSC HSL HWS
    go_wp2_with fail
    refine KS.out.mono ?_
    rintro e w2 ⟨rfl, hw2, hf2⟩
    have B2 := hid (hb1.trans hf2.below)
    clear KS hf2 hb1
    cases a3 with
    | false =>
      obtain ⟨R, hRS⟩ : ∃ R, R = S := ⟨_, rfl⟩
      rw [← hRS] at HSA HSB HSC HSL hw2
      clear hRS HWS
      have HRA := HSA
      have HRB := HSB
      have HRC := HSC
      have HRL := HSL
      have HWR := hid hw2
      have HBS := B2
      clear HSA HSB HSC HSL hw2 B2
      have KD := hid (wwdue_any HWR.out (now := 1099511627776))
      rw [(due_all HRA.out).1, (due_all HRA.out).2] at KD
      clear HWR
      go_wp2_with fail
      refine KD.out.mono ?_
      rintro e w5 ⟨va, rfl, ho5, hw5, hf5⟩
      have B5 := hid (HBS.out.trans hf5.below)
      have HT5 := hid ho5.at
      have HW5 := hid hw5
      obtain ⟨oa, oc, hva⟩ := ho5.form
      obtain ⟨nd, hnd⟩ : ∃ nd, nd = R.length := ⟨_, rfl⟩
      rw [← hnd] at hva HRL
      subst hva
      have HND := hid hnd
      clear hnd ho5 hw5 hf5 HBS KD
      go_wp2
      go_loopw [11, 48] (fun nn i wr => ∃ k : Nat, k ≤ nd ∧ i = .int .i64 k ∧ nn = .int .i64 (cntT (R.take k) q) ∧ Hid (Below w5.heap.size w5 wr)) (fun _ i _ => nd - (intOf i).toNat)
      case atStart => exact ⟨0, by omega, rfl, by rw [List.take_zero]; rfl, Below.refl _ _⟩
      case round =>
        obtain ⟨k, hk, rfl, rfl, HB⟩ := hrel
        have hcl : cntT (R.take k) q ≤ k := by unfold cntT; exact Nat.le_trans (List.length_filter_le _ _) (by rw [List.length_take]; omega)
        by_cases hlt : k < nd
        · have hlt' : (k : Int) < (nd : Int) := by omega
          have hkd : k < R.length := by rw [← HND.out]; exact hlt
          have HT := HT5.out.below HB.out
          obtain ⟨ao', cap', hv', _, hr⟩ := HT
          injection hv' with e1 e2 e3
          subst e1
          obtain ⟨g, off, cs, hao, hh, hcell⟩ := hr (by intro e; rw [e] at hkd; simp at hkd)
          subst hao
          have c0 := cells_at hh (hcell k hkd).1
          have c1 := cells_at hh (hcell k hkd).2
          have hat := HRB.out _ (List.getElem_mem hkd)
          have hsn : cntT (R.take (k + 1)) q = cntT (R.take k) q + if R[k].2 = q then 1 else 0 := by rw [List.take_succ_eq_append_getElem hkd, cnt_snoc]
          clear hcell hh hr e2 e3
          generalize R[k] = t at c0 c1 hat hsn
          have cc := two_new wr t.1 t.2
          have HB2 := hid (HB.out.alloc HB.out.size (.cells #[.int .i64 t.1, .int .i64 t.2] 49))
          obtain ⟨x0, x1⟩ := cc
          obtain ⟨c1', hc1⟩ : ∃ c1', c1' = cntT (R.take k) q := ⟨_, rfl⟩
          rw [← hc1] at hsn hcl ⊢
          clear hc1
          by_cases hq2 : t.2 = q
          · have hqb : (t.2 == q) = true := by rw [beq_iff_eq]; exact hq2
            have hne : (t.1 != a2) = false := by rw [hat hq2]; simp
            rw [if_pos hq2] at hsn
            have HSN := hid hsn
            clear hsn hat hq2
            go_wp2
            go_roundw
            case rel => exact ⟨k + 1, by omega, by go_num, by rw [HSN.out]; go_num, HB2⟩
            case measure => simp [intOf]; omega
          · have hqb : (t.2 == q) = false := by rw [beq_eq_false_iff_ne]; exact hq2
            rw [if_neg hq2, Nat.add_zero] at hsn
            have HSN := hid hsn
            clear hsn hat hq2
            go_wp2
            go_roundw
            case rel => exact ⟨k + 1, by omega, by go_num, by rw [HSN.out]; rfl, HB2⟩
            case measure => simp [intOf]; omega
        · obtain rfl : k = nd := by omega
          have hlt' : decide ((k : Int) < (k : Int)) = false := by simp
          have htk : cntT (R.take k) q = 1 := by rw [HND.out, List.take_length]; exact HRC.out
          have KL := hid (wwlen_any (HW5.out.below HB.out))
          have BW := hid (B5.out.trans (HB.out.mono B5.out.size))
          rw [htk]
          simp only [List.length_nil] at KL
          clear htk hcl HB HW5 HT5
          go_wp2_with (first
            | (go_at_call 22; refine KL.out.mono ?_; rintro e wx ⟨rfl, hwx⟩; rw [hwx])
            | (go_at_call 20; refine (awake9_any _).mono ?_; rintro e w9 ⟨rfl, hw9⟩))
          go_ret
          exact ⟨rfl, BW.out.trans (hw9.mono BW.out.size)⟩
    | true =>
      have K1 := hid (wwstop_any hw2 (id := q) hwf)
      rw [HWS.out] at K1
      simp only [Option.isSome_some] at K1
      clear hw2
      have hn2 : whenT (stopT S q) q = none := (when_none q).2 fun t ht => (stop_mem.1 ht).2
      go_wp2_with fail
      refine K1.out.mono ?_
      rintro e w3 ⟨rfl, hw3, hf3⟩
      have B3 := hid (B2.out.trans hf3.below)
      have K2 := hid (wwstop_any hw3 (id := q) hwf)
      rw [hn2] at K2
      simp only [Option.isSome_none] at K2
      clear K1 hf3 hw3 B2 hn2 HWS
      go_wp2_with fail
      refine K2.out.mono ?_
      rintro e w4 ⟨rfl, hw4, hf4⟩
      have HBS := hid (B3.out.trans hf4.below)
      have HRA : Hid (∀ t ∈ stopT (stopT S q) q, t.1 ≤ 1099511627776) := fun t ht => HSA.out t (stop_mem.1 (stop_mem.1 ht).1).1
      have HRB : Hid (∀ t ∈ stopT (stopT S q) q, t.2 = q → t.1 = a2) := fun t ht e => absurd e (stop_mem.1 ht).2
      have HRC := hid (cnt_stop (stopT S q) q)
      have HRL : (stopT (stopT S q) q).length ≤ 501 := Nat.le_trans (Nat.le_trans (List.length_filter_le _ _) (List.length_filter_le _ _)) HSL
      have HWR := hid hw4
      clear K2 hf4 hw4 B3 HSA HSB HSC HSL
      generalize stopT (stopT S q) q = R at HRA HRB HRC HRL HWR
      have KD := hid (wwdue_any HWR.out (now := 1099511627776))
      rw [(due_all HRA.out).1, (due_all HRA.out).2] at KD
      clear HWR
      go_wp2_with fail
      refine KD.out.mono ?_
      rintro e w5 ⟨va, rfl, ho5, hw5, hf5⟩
      have B5 := hid (HBS.out.trans hf5.below)
      have HT5 := hid ho5.at
      have HW5 := hid hw5
      obtain ⟨oa, oc, hva⟩ := ho5.form
      obtain ⟨nd, hnd⟩ : ∃ nd, nd = R.length := ⟨_, rfl⟩
      rw [← hnd] at hva HRL
      subst hva
      have HND := hid hnd
      clear hnd ho5 hw5 hf5 HBS KD
      go_wp2
      go_loopw [11, 48] (fun nn i wr => ∃ k : Nat, k ≤ nd ∧ i = .int .i64 k ∧ nn = .int .i64 (cntT (R.take k) q) ∧ Hid (Below w5.heap.size w5 wr)) (fun _ i _ => nd - (intOf i).toNat)
      case atStart => exact ⟨0, by omega, rfl, by rw [List.take_zero]; rfl, Below.refl _ _⟩
      case round =>
        obtain ⟨k, hk, rfl, rfl, HB⟩ := hrel
        have hcl : cntT (R.take k) q ≤ k := by unfold cntT; exact Nat.le_trans (List.length_filter_le _ _) (by rw [List.length_take]; omega)
        by_cases hlt : k < nd
        · have hlt' : (k : Int) < (nd : Int) := by omega
          have hkd : k < R.length := by rw [← HND.out]; exact hlt
          have HT := HT5.out.below HB.out
          obtain ⟨ao', cap', hv', _, hr⟩ := HT
          injection hv' with e1 e2 e3
          subst e1
          obtain ⟨g, off, cs, hao, hh, hcell⟩ := hr (by intro e; rw [e] at hkd; simp at hkd)
          subst hao
          have c0 := cells_at hh (hcell k hkd).1
          have c1 := cells_at hh (hcell k hkd).2
          have hat := HRB.out _ (List.getElem_mem hkd)
          have hsn : cntT (R.take (k + 1)) q = cntT (R.take k) q + if R[k].2 = q then 1 else 0 := by rw [List.take_succ_eq_append_getElem hkd, cnt_snoc]
          clear hcell hh hr e2 e3
          generalize R[k] = t at c0 c1 hat hsn
          have cc := two_new wr t.1 t.2
          have HB2 := hid (HB.out.alloc HB.out.size (.cells #[.int .i64 t.1, .int .i64 t.2] 49))
          obtain ⟨x0, x1⟩ := cc
          obtain ⟨c1', hc1⟩ : ∃ c1', c1' = cntT (R.take k) q := ⟨_, rfl⟩
          rw [← hc1] at hsn hcl ⊢
          clear hc1
          by_cases hq2 : t.2 = q
          · have hqb : (t.2 == q) = true := by rw [beq_iff_eq]; exact hq2
            have hne : (t.1 != a2) = false := by rw [hat hq2]; simp
            rw [if_pos hq2] at hsn
            have HSN := hid hsn
            clear hsn hat hq2
            go_wp2
            go_roundw
            case rel => exact ⟨k + 1, by omega, by go_num, by rw [HSN.out]; go_num, HB2⟩
            case measure => simp [intOf]; omega
          · have hqb : (t.2 == q) = false := by rw [beq_eq_false_iff_ne]; exact hq2
            rw [if_neg hq2, Nat.add_zero] at hsn
            have HSN := hid hsn
            clear hsn hat hq2
            go_wp2
            go_roundw
            case rel => exact ⟨k + 1, by omega, by go_num, by rw [HSN.out]; rfl, HB2⟩
            case measure => simp [intOf]; omega
        · obtain rfl : k = nd := by omega
          have hlt' : decide ((k : Int) < (k : Int)) = false := by simp
          have htk : cntT (R.take k) q = 0 := by rw [HND.out, List.take_length]; exact HRC.out
          have KL := hid (wwlen_any (HW5.out.below HB.out))
          have BW := hid (B5.out.trans (HB.out.mono B5.out.size))
          rw [htk]
          simp only [List.length_nil] at KL
          clear htk hcl HB HW5 HT5
          go_wp2_with (first
            | (go_at_call 22; refine KL.out.mono ?_; rintro e wx ⟨rfl, hwx⟩; rw [hwx])
            | (go_at_call 20; refine (awake9_any _).mono ?_; rintro e w9 ⟨rfl, hw9⟩))
          go_ret
          exact ⟨rfl, BW.out.trans (hw9.mono BW.out.size)⟩
end Go.Proofs.Ythioekmlljpbpaa.wheelAgain
