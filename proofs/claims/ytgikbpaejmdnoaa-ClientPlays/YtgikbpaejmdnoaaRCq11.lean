/-
  The document's own Step (layer 12).
-/
import Derived.Test.YtgikbpaejmdnoaaRE
namespace Go.Proofs.Ytgikbpaejmdnoaa
open Go.RowKit Go.Sort
set_option linter.unusedVariables false
set_option maxRecDepth 20000
set_option linter.unusedSimpArgs false

set_option maxHeartbeats 8000000 in
set_option maxRecDepth 100000 in
theorem refstepq_any {w : World} {B : Nat} {v : Value} {t : Tq} (h : OwnQ w B v t.l) (hB : B ≤ w.heap.size) {now : Int} (hok : ∀ c ∈ t.l, CqOK c) (hn : t.l.length ≤ 1000000) :
    Calls Try.prog 22 #[tqV t v, .int .i64 now] w fun e w' => StepRes (stepQ now 100000 t []) B w w' e := by
  obtain ⟨i0, hi, hz0, hz1, hz2⟩ := info_parts infoCq
  obtain ⟨i1, hq, hp0, hp1, hp2⟩ := info_parts infoDu
  obtain ⟨most, last, l⟩ := t
  simp only at h hn hok ⊢
  obtain ⟨oa, cap, rfl⟩ := h.form
  have hb1 : Below w.heap.size w (w.alloc (objQ ⟨most, last, l⟩ (.slice oa l.length cap))) := (Below.refl _ w).alloc (Nat.le_refl _) _
  have hl1 := alloc_lt w (objQ ⟨most, last, l⟩ (.slice oa l.length cap))
  have hbx := sv_row3 w (.int .i64 most) (.int .i64 last) (.slice oa l.length cap) 31
  unfold objQ at hb1 hl1
  simp only at hb1 hl1
  generalize hw1 : w.alloc (.cells #[.int .i64 most, .int .i64 last, .slice oa l.length cap] 31) = w1 at hb1 hbx hl1
  have hr0 := sv_row3 w1 (.int .i64 0) (.int .i64 0) (.slice none 0 0) 31
  have hb2 : Below w1.heap.size w1 (w1.alloc (.cells #[.int .i64 0, .int .i64 0, .slice none 0 0] 31)) := (Below.refl _ w1).alloc (Nat.le_refl _) _
  have hl2 := alloc_lt w1 (.cells #[.int .i64 0, .int .i64 0, .slice none 0 0] 31)
  generalize hw2 : w1.alloc (.cells #[.int .i64 0, .int .i64 0, .slice none 0 0] 31) = w2 at hb2 hr0 hl2
  have hB2 := hb1.trans (hb2.mono hb1.size)
  have S0 : Hid (StQ w B w.heap.size w1.heap.size w2 ⟨most, last, l⟩ (.slice oa l.length cap) (.slice none 0 0) []) := ⟨hbx.below hb2 hl1, hr0, h.below hB2, OwnD.nil _ _, hB2⟩
  have hle4 : w.heap.size ≤ w1.heap.size := by omega
  have hne4 : w1.heap.size ≠ w.heap.size := by omega
  generalize hR : stepQ now 100000 ⟨most, last, l⟩ [] = R
  have HR := hid hR
  have HOK := hid hok
  clear hr0 hB2 hb1 hb2 h hbx hR hok
  go_enter Try.func22, Try.ntmps22
  unfold tqV
  go_wp2
  go_loopw [7, 6] (fun i vo wr => ∃ (j : Nat) (l' : List Cq) (v' : Value) (out : List Du), j ≤ 100000 ∧ i = .int .i64 j ∧ Hid (StQ w B w.heap.size w1.heap.size wr ⟨most, last, l'⟩ v' vo out) ∧ Hid (∀ c ∈ l', CqOK c) ∧ Hid (l'.length ≤ 1000000) ∧ Hid (out.length ≤ j) ∧ Hid (stepQ now (100000 - j) ⟨most, last, l'⟩ out = R)) (fun i _ _ => 100000 - (intOf i).toNat)
  case atStart => exact ⟨0, l, .slice oa l.length cap, [], by omega, rfl, S0.out, HOK.out, hn, by simp [Hid], HR.out⟩
  case round =>
    obtain ⟨j, l', v', out, hj, rfl, hS, hok', hln, hol, hst⟩ := hrel
    obtain ⟨oa', cap', hv'⟩ := hS.out.own.form
    subst hv'
    clear S0 HR HOK
    by_cases hlt : j < 100000
    · have hlt' : (j : Int) < 100000 := by omega
      obtain ⟨m, hm⟩ : ∃ m, 100000 - j = m + 1 := ⟨99999 - j, by omega⟩
      rw [hm] at hst
      have HM := hid (show j + m = 99999 by omega)
      clear hm hj hlt hn
      have KN := hid (refnext_any (t := ⟨most, last, l'⟩) hS.out.own hok'.out hln.out)
      unfold tqV at KN
      obtain ⟨b0, b1, b2, _, _, _⟩ := hS.out.box.sv3
      simp only at KN b0 b1 b2
      go_wp2_with fail
      refine KN.out.mono ?_
      rintro e wa ⟨rfl, hba⟩
      have HS := hid (hS.out.below hba)
      clear hS hba KN b0 b1 b2 hlt'
      have hbd := nextQ_bd l' l'.length
      by_cases hneg : nextQ l' l'.length < 0
      · have HV : Hid (R = _) := hst.out.symm.trans (stepq_none (t := ⟨most, last, l'⟩) hneg)
        generalize nextQ l' l'.length = kk at hneg ⊢
        clear hst hbd
        obtain ⟨b0, b1, b2, _, _, _⟩ := HS.out.box.sv3
        obtain ⟨y0, y1, y2, f0, f1, f2⟩ := HS.out.res.sv3
        have KEEP := hid (HS.out.fin hle4)
        simp only at b0 b1 b2 KEEP
        clear HS
        go_wp2
        generalize World.setCell _ _ _ = wA at KEEP ⊢
        obtain ⟨hrA, hoA, hdA, hbA⟩ := KEEP.out
        obtain ⟨d0, d1, d2, _, _, _⟩ := hrA.sv3
        try simp only [Exit.inBlock, Exit.then]
        refine bodyPost_ret (v := .tuple #[.agg #[.int .i64 most, .int .i64 last, .slice oa' l'.length cap'], u6]) (by simp [results, Try.results22, go_sem, d0, d1, d2]; try rfl) rfl ?_
        rw [HV.out]
        exact ⟨_, _, rfl, hoA, hdA, hbA⟩
      obtain ⟨k, hk⟩ : ∃ k : Nat, nextQ l' l'.length = k := ⟨(nextQ l' l'.length).toNat, by omega⟩
      have hkl : k < l'.length := by omega
      have hkl' : (k : Int) < (l'.length : Int) := by omega
      have hk0 : ¬ ((k : Int) < 0) := by omega
      rw [hk]
      obtain ⟨_, hnil⟩ | ⟨g, cap9, hv, _, hg, hcap, hat⟩ := HS.out.own.get
      · exfalso; simp only at hnil; rw [hnil] at hkl; simp at hkl
      injection hv with ha hl hc
      subst ha; subst hc
      simp only at hcap hat
      have HK := hid (hat k hkl)
      have KA := hid (fun (u : World) => at_re (w := u) (hok'.out _ (List.getElem_mem hkl)))
      have LATE := hid (fun x => stepq_late (now := now) (n := m) (t := ⟨most, last, l'⟩) (out := out) hkl hk x)
      have DO := hid (fun x => stepq_do (now := now) (n := m) (t := ⟨most, last, l'⟩) (out := out) hkl hk x)
      have ONE := hid (oneQ_ok (t := ⟨most, last, l'⟩) hkl hok'.out)
      have CK := hid (hok'.out _ (List.getElem_mem hkl))
      simp only at HK KA LATE DO ONE CK
      clear hat hbd hneg hk
      generalize l'[k] = c at HK KA LATE DO ONE CK
      obtain ⟨c0, c1, c2, c3, c4, c5, c6⟩ := HK.out
      obtain ⟨b0, b1, b2, _, _, _⟩ := HS.out.box.sv3
      simp only at b0 b1 b2
      unfold cqV at KA
      go_wp2_with fail
      refine (KA.out _).mono ?_
      rintro e wb ⟨rfl, hbb⟩
      have HKb := hid (HK.out.below hbb hg)
      replace HS := hid (HS.out.below hbb)
      have hgb : g < wb.heap.size := Nat.lt_of_lt_of_le hg hbb.size
      clear c0 c1 c2 c3 c4 c5 c6 b0 b1 b2 hbb HK hg
      by_cases hlate : now < atQ c
      · have HV : Hid (R = _) := hst.out.symm.trans (LATE.out hlate)
        have hlate' : atQ c > now := hlate
        generalize atQ c = ac at hlate hlate' ⊢
        clear hst LATE DO ONE KA HKb
        obtain ⟨b0, b1, b2, _, _, _⟩ := HS.out.box.sv3
        obtain ⟨y0, y1, y2, f0, f1, f2⟩ := HS.out.res.sv3
        have KEEP := hid (HS.out.fin hle4)
        simp only at b0 b1 b2 KEEP
        clear HS
        go_wp2
        generalize World.setCell _ _ _ = wA at KEEP ⊢
        obtain ⟨hrA, hoA, hdA, hbA⟩ := KEEP.out
        obtain ⟨d0, d1, d2, _, _, _⟩ := hrA.sv3
        try simp only [Exit.inBlock, Exit.then]
        refine bodyPost_ret (v := .tuple #[.agg #[.int .i64 most, .int .i64 last, .slice (some ⟨g, 0, none⟩) l'.length cap'], u6]) (by simp [results, Try.results22, go_sem, d0, d1, d2]; try rfl) rfl ?_
        rw [HV.out]
        exact ⟨_, _, rfl, hoA, hdA, hbA⟩
      have hst2 := hid (hst.out.symm.trans (DO.out (by first | exact hlate | omega)))
      clear hst LATE DO
      have hnl : ¬ (atQ c > now) := hlate
      obtain ⟨c0, c1, c2, c3, c4, c5, c6⟩ := HKb.out
      obtain ⟨b0, b1, b2, _, _, _⟩ := HS.out.box.sv3
      simp only at b0 b1 b2
      have hbC : Below wb.heap.size wb (wb.alloc (.cells #[.int .i64 c.id, .string ⟨c.br.toArray⟩, .int .i64 c.begun, .int .i64 c.times, .int .i64 c.rest, .string ⟨c.to.toArray⟩, .string ⟨c.tx.toArray⟩] 78)) := (Below.refl _ wb).alloc (Nat.le_refl _) _
      have hlC := alloc_lt wb (.cells #[.int .i64 c.id, .string ⟨c.br.toArray⟩, .int .i64 c.begun, .int .i64 c.times, .int .i64 c.rest, .string ⟨c.to.toArray⟩, .string ⟨c.tx.toArray⟩] 78)
      have hC : OwnQ (wb.alloc (.cells #[.int .i64 c.id, .string ⟨c.br.toArray⟩, .int .i64 c.begun, .int .i64 c.times, .int .i64 c.rest, .string ⟨c.to.toArray⟩, .string ⟨c.tx.toArray⟩] 78)) 0 (.slice (some ⟨wb.heap.size, 0, none⟩) 1 1) [c] := OwnQ.one wb 0 (Nat.zero_le _) c
      have HSc := hid (HS.out.below hbC)
      generalize hwc : wb.alloc (.cells #[.int .i64 c.id, .string ⟨c.br.toArray⟩, .int .i64 c.begun, .int .i64 c.times, .int .i64 c.rest, .string ⟨c.to.toArray⟩, .string ⟨c.tx.toArray⟩] 78) = wc at hbC hlC hC HSc
      have hbE : Below wc.heap.size wc (wc.alloc (.cells #[] 78)) := (Below.refl _ wc).alloc (Nat.le_refl _) _
      have x2e := (HSc.out.below hbE).box.sv3.c2
      have OE := OwnQ.empty wc wc.heap.size (Nat.le_refl _)
      have NEW := OwnQ.takeNews (HSc.out.below hbE).own k
      have hkc : (k : Int) ≤ (cap' : Int) := by omega
      have hkln : (l'.take k).length = k := by rw [List.length_take]; omega
      have hkm := hid (show k ≤ 1000000 by have := hln.out; omega)
      try simp only at x2e NEW
      have hwb := HS.out.bel.size
      clear HS
      go_wp2_with (at_builtin; (refine wp_appQs _ rfl (.tmp 36) (.tmp 40) 29 rfl wc.heap.size i0 _ Try.underlying29 hi hz0 hz1 hz2 rfl _ [] rfl OE ⟨g, 0, none⟩ k cap' (l'.take k) rfl hkln NEW (by have := hkm.out; simp; omega) (by simp) ?_; intro v5 w5 hown5 hgr5; have hb5 := hbE.grown hgr5 (by simp) (fun k hk => (World.ownsRow.lt OE k hk).1); clear hgr5 c0 c1 c2 c3 c4 c5 c6 b0 b1 b2 x2e NEW OE hbE; rw [List.nil_append] at hown5))
      have HS5 := hid (HSc.out.below hb5)
      have HC5 := hid (hC.below hb5)
      have h5s := hb5.size
      have HL5 := hid hown5
      have hAB := atQ_bd CK.out
      have hCB := CK.out.b0
      have hCC := CK.out.b1
      have hCT := CK.out.t0
      have hCU := CK.out.t1
      clear hown5 hb5 hC HSc hbC
      have KC := hid (fun (d : Nat) (os : Array Obj) => Calls.regrown_of (KA.out (grow (redrawn w5 d) os)))
      obtain ⟨e0, e1, e2, e3, e4, e5, e6, e7⟩ := HC5.out.at1
      replace e0 := cell_regrown e0
      replace e1 := cell_regrown e1
      replace e2 := cell_regrown e2
      replace e3 := cell_regrown e3
      replace e4 := cell_regrown e4
      replace e5 := cell_regrown e5
      replace e6 := cell_regrown e6
      clear e7
      by_cases hrest : c.rest < 0
      · have hrest' : decide (c.rest < 0) = true := decide_eq_true hrest
        by_cases h320 : atQ c - c.begun < 320
        · have h320' : decide (atQ c - c.begun < 320) = true := decide_eq_true h320
          refine wp_region_quiet_below follows12 (by kernel_rfl) ?_
          repeat (go_big_quiet_step (with_reducible exact KC.out _ _))
          refine wpQuiet_nil ?_
          intro _ hw'
          obtain ⟨⟨dq, osq⟩, hw''⟩ := hw'
          subst hw''
          have hq6 := below_regrown w5 dq osq
          generalize grow _ _ = w6 at hq6 ⊢
          have HS6 := hid (HS5.out.below hq6)
          have HC6 := hid (HC5.out.below hq6)
          have HL6 := hid (HL5.out.below hq6)
          have h6s : wc.heap.size ≤ w6.heap.size := Nat.le_trans h5s hq6.size
          clear HS5 HC5 HL5 hq6 e0 e1 e2 e3 e4 e5 e6 KC KA
          obtain ⟨e0, e1, e2, e3, e4, e5, e6, e7⟩ := HC6.out.at1
          have hvb : (Value.slice (some ⟨g, 0, none⟩) l'.length cap').ownBlock ≠ some wb.heap.size := by intro e; simp [Value.ownBlock] at e; omega
          go_wp2_with (first | (at_builtin; (refine wp_appQs _ rfl (.tmp 65) (.tmp 67) 29 rfl wc.heap.size i0 _ Try.underlying29 hi hz0 hz1 hz2 rfl _ (l'.take k) rfl (OwnQ.alloc HL8.out _) ⟨_, 0, none⟩ 1 1 [({ c with times := c.times + 1 } : Cq)] rfl rfl (cq_new_s _ _ _ _ _) (by have := hkm.out; have := hkln; show (l'.take k).length + 1 ≤ 4000000; omega) (Nat.le_trans h8s (by simp)) ?_; intro v9 w9 hown9 hgr9; have hb98 := (Below.refl _ (w7.setCell ⟨wb.heap.size, 3, none⟩ (.int .i64 (c.times + 1)))).alloc (Nat.le_refl _) (.cells #[.int .i64 c.id, .string ⟨c.br.toArray⟩, .int .i64 c.begun, .int .i64 (c.times + 1), .int .i64 c.rest, .string ⟨c.to.toArray⟩, .string ⟨c.tx.toArray⟩] 78); have hL98 := OwnQ.alloc HL8.out (.cells #[.int .i64 c.id, .string ⟨c.br.toArray⟩, .int .i64 c.begun, .int .i64 (c.times + 1), .int .i64 c.rest, .string ⟨c.to.toArray⟩, .string ⟨c.tx.toArray⟩] 78); have HS9 := hid ((HS8.out.below hb98).grow hL98 (own_ne hL98 (Nat.lt_trans hgb hlC)) (Nat.le_trans hwb (Nat.le_of_lt hlC)) hgr9); clear hb98 hL98; have HL9 := hid hown9; have h9s : wc.heap.size ≤ w9.heap.size := Nat.le_trans h8s (Nat.le_trans (by simp) hgr9.size); clear hgr9 hown9 HS8 HL8 h8s HS7 HC7 HL7 e0 e1 e2 e3 e4 e5 e6 e7)) | (at_builtin; (refine wp_appDs _ rfl (.tmp 53) (.tmp 59) 67 rfl w.heap.size i1 _ Try.underlying67 hq hp0 hp1 hp2 rfl _ out rfl (HS6.out.outo.alloc _) ⟨_, 0, none⟩ 1 1 [⟨c.id, false, c.to, c.tx⟩] rfl rfl (du_new _ _ _) (by have := hol.out; have := HM.out; simp; omega) (Nat.le_trans HS6.out.bel.size (by simp)) ?_; intro v7 w7 hown7 hgr7; have HS7 := hid (HS6.out.due hown7 hgr7); have HC7 := hid (HS6.out.kept (vo' := v7) HC6.out hgr7); have HL7 := hid (HS6.out.kept (vo' := v7) HL6.out hgr7); have h7s : wc.heap.size ≤ w7.heap.size := Nat.le_trans h6s (Nat.le_trans (by simp) hgr7.size); clear hown7 hgr7 e0 e1 e2 e3 e4 e5 e6 e7 HS6 HC6 HL6; (obtain ⟨e0, e1, e2, e3, e4, e5, e6, e7⟩ := HC7.out.at1); have HS8 := hid (HS7.out.touch (i := 3) (.int .i64 (c.times + 1)) HC7.out hwb hvb); have HL8 := hid (show OwnQ (w7.setCell ⟨wb.heap.size, 3, none⟩ (.int .i64 (c.times + 1))) wc.heap.size v5 (l'.take k) from row_touch HL7.out (own_ne2 HL7.out hlC)); have h8s : wc.heap.size ≤ (w7.setCell ⟨wb.heap.size, 3, none⟩ (.int .i64 (c.times + 1))).heap.size := by simpa using h7s)))
          have hst3 := hst2.out
          rw [oneq_again (c := c) (by omega) (by omega)] at hst3
          have HST := hid hst3
          have one3 := ONE.out
          rw [oneq_again (c := c) (by omega) (by omega)] at one3
          simp only at one3
          have HONE := hid one3
          clear hst3 one3 hst2 ONE
          have hgC : g < wc.heap.size := Nat.lt_trans hgb hlC
          have hwC : w.heap.size ≤ wc.heap.size := Nat.le_trans hwb (Nat.le_of_lt hlC)
          have HOKP : Hid (TP.Ok ⟨{ w9 with drawn := w9.drawn + 1 }, w.heap.size, most, last, g, cap', l', k, v9, (l'.take k ++ [({ c with times := c.times + 1 } : Cq)]), wc.heap.size, [(0, .agg #[.int .i64 most, .int .i64 last, .slice oa l.length cap]), (1, .int .i64 now), (2, .pointer (some ⟨w.heap.size, 0, none⟩)), (3, undef), (4, .pointer (some ⟨w1.heap.size, 0, none⟩)), (6, v7), (7, .int .i64 j), (8, .int .i64 k), (10, v9), (90, undef), (91, undef)]⟩) := tp_ok HS9.out HL9.out hgC hwC h9s hkl hcap hln.out (by have := hln.out; rw [List.length_append, hkln]; show k + 1 ≤ 1000000; omega) (by intro e he; simp at he; rcases he with rfl | rfl | rfl | rfl | rfl | rfl | rfl | rfl | rfl | rfl | rfl <;> simp) (by simp) (by simp) (by simp)
          refine wp_region_name ?_
          intro ops hops
          have hlow : lowB .any ops = true := by rw [hops]; kernel_rfl
          have osz : ops.size = 13 := by rw [hops]; rfl
          have o0 := congrArg (fun x : Array Oper => x[0]?) hops
          have o1 := congrArg (fun x : Array Oper => x[1]?) hops
          have o2 := congrArg (fun x : Array Oper => x[2]?) hops
          have o3 := congrArg (fun x : Array Oper => x[3]?) hops
          have o4 := congrArg (fun x : Array Oper => x[4]?) hops
          have o5 := congrArg (fun x : Array Oper => x[5]?) hops
          have o6 := congrArg (fun x : Array Oper => x[6]?) hops
          have o7 := congrArg (fun x : Array Oper => x[7]?) hops
          have o8 := congrArg (fun x : Array Oper => x[8]?) hops
          have o9 := congrArg (fun x : Array Oper => x[9]?) hops
          have o10 := congrArg (fun x : Array Oper => x[10]?) hops
          have o11 := congrArg (fun x : Array Oper => x[11]?) hops
          have o12 := congrArg (fun x : Array Oper => x[12]?) hops
          simp only [List.getElem?_toArray, List.getElem?_cons_zero, List.getElem?_cons_succ] at o0 o1 o2 o3 o4 o5 o6 o7 o8 o9 o10 o11 o12
          clear hops
          have SO : TOps ops := ⟨osz, ⟨_, o0, rfl, rfl, rfl⟩, ⟨_, o1, rfl, rfl, rfl⟩, ⟨_, o2, rfl, rfl, rfl⟩, ⟨_, o3, rfl, rfl, rfl⟩, ⟨_, o4, rfl, rfl, rfl⟩, ⟨_, o5, rfl, rfl, rfl⟩, ⟨_, o6, rfl, rfl, rfl⟩, ⟨_, o7, rfl, rfl, rfl⟩, ⟨_, o8, rfl, rfl, rfl⟩, ⟨_, o9, rfl, rfl, rfl⟩, ⟨_, o10, rfl, rfl, rfl⟩, ⟨_, o11, rfl, rfl, rfl⟩, ⟨_, o12, rfl, rfl, rfl⟩, ⟨_, o1, { on := 0, ground := .data }, by simp, rfl, rfl⟩, ⟨_, o3, { on := 2, ground := .data }, by simp, rfl, rfl⟩, ⟨_, o6, { on := 5, ground := .data }, by simp, rfl, rfl⟩, ⟨_, o8, { on := 7, ground := .data }, by simp, rfl, rfl⟩, ⟨_, o9, { on := 6, ground := .data }, by simp, rfl, rfl⟩, ⟨_, o9, { on := 8, ground := .data }, by simp, rfl, rfl⟩, ⟨_, o10, { on := 4, ground := .data }, by simp, rfl, rfl⟩, ⟨_, o10, { on := 9, ground := .data }, by simp, rfl, rfl⟩, ⟨_, o11, { on := 1, ground := .data }, by simp, rfl, rfl⟩, ⟨_, o11, { on := 3, ground := .data }, by simp, rfl, rfl⟩, ⟨_, o11, { on := 10, ground := .data }, by simp, rfl, rfl⟩, ⟨_, o12, { on := 11, ground := .data }, by simp, rfl, rfl⟩⟩
          clear o0 o1 o2 o3 o4 o5 o6 o7 o8 o9 o10 o11 o12
          refine wp_region_inv follows12 (fun L a w' => ∃ x, TI ⟨{ w9 with drawn := w9.drawn + 1 }, w.heap.size, most, last, g, cap', l', k, v9, (l'.take k ++ [({ c with times := c.times + 1 } : Cq)]), wc.heap.size, [(0, .agg #[.int .i64 most, .int .i64 last, .slice oa l.length cap]), (1, .int .i64 now), (2, .pointer (some ⟨w.heap.size, 0, none⟩)), (3, undef), (4, .pointer (some ⟨w1.heap.size, 0, none⟩)), (6, v7), (7, .int .i64 j), (8, .int .i64 k), (10, v9), (90, undef), (91, undef)]⟩ ops L a w' x) ?_ ?_ ?_
          · exact ⟨(undef, w9), TI.begin rfl rfl (by intro e he; simp at he; rcases he with rfl | rfl | rfl | rfl | rfl | rfl | rfl | rfl | rfl | rfl | rfl <;> rfl) _⟩
          · rintro L a w9 hs hr ⟨x, hI⟩
            have all := fun i (hi : i < ops.size) => all_listed hlow hs hr i hi
            rw [osz] at all
            have HN := hid (tp_end (k := k) (base := [(0, .agg #[.int .i64 most, .int .i64 last, .slice oa l.length cap]), (1, .int .i64 now), (2, .pointer (some ⟨w.heap.size, 0, none⟩)), (3, undef), (4, .pointer (some ⟨w1.heap.size, 0, none⟩)), (6, v7), (7, .int .i64 j), (8, .int .i64 k), (10, v9), (90, undef), (91, undef)]) HS9.out HL9.out hgC hwC (Nat.le_trans hB hwC) hne4 (hI.rel (all 10 (by decide))))
            have hwd := hI.wd
            rw [if_pos (all 12 (by decide))] at hwd
            rw [← hwd] at HN
            have k0 := hI.base (0, _) (by simp; rfl)
            have k1 := hI.base (1, _) (by simp; rfl)
            have k2 := hI.base (2, _) (by simp; rfl)
            have k3 := hI.base (3, _) (by simp; rfl)
            have k4 := hI.base (4, _) (by simp; rfl)
            have k6 := hI.base (6, _) (by simp; rfl)
            have k7 := hI.base (7, _) (by simp; rfl)
            have k90 := hI.base (90, _) (by simp; rfl)
            have k91 := hI.base (91, _) (by simp; rfl)
            simp only at k0 k1 k2 k3 k4 k6 k7 k90 k91
            have ha := act_list hI.sz hI.df
            have hla : (List.range 92).map (fun s => a.eval (.tmp s)) = [a.eval (.tmp 0), a.eval (.tmp 1), a.eval (.tmp 2), a.eval (.tmp 3), a.eval (.tmp 4), a.eval (.tmp 5), a.eval (.tmp 6), a.eval (.tmp 7), a.eval (.tmp 8), a.eval (.tmp 9), a.eval (.tmp 10), a.eval (.tmp 11), a.eval (.tmp 12), a.eval (.tmp 13), a.eval (.tmp 14), a.eval (.tmp 15), a.eval (.tmp 16), a.eval (.tmp 17), a.eval (.tmp 18), a.eval (.tmp 19), a.eval (.tmp 20), a.eval (.tmp 21), a.eval (.tmp 22), a.eval (.tmp 23), a.eval (.tmp 24), a.eval (.tmp 25), a.eval (.tmp 26), a.eval (.tmp 27), a.eval (.tmp 28), a.eval (.tmp 29), a.eval (.tmp 30), a.eval (.tmp 31), a.eval (.tmp 32), a.eval (.tmp 33), a.eval (.tmp 34), a.eval (.tmp 35), a.eval (.tmp 36), a.eval (.tmp 37), a.eval (.tmp 38), a.eval (.tmp 39), a.eval (.tmp 40), a.eval (.tmp 41), a.eval (.tmp 42), a.eval (.tmp 43), a.eval (.tmp 44), a.eval (.tmp 45), a.eval (.tmp 46), a.eval (.tmp 47), a.eval (.tmp 48), a.eval (.tmp 49), a.eval (.tmp 50), a.eval (.tmp 51), a.eval (.tmp 52), a.eval (.tmp 53), a.eval (.tmp 54), a.eval (.tmp 55), a.eval (.tmp 56), a.eval (.tmp 57), a.eval (.tmp 58), a.eval (.tmp 59), a.eval (.tmp 60), a.eval (.tmp 61), a.eval (.tmp 62), a.eval (.tmp 63), a.eval (.tmp 64), a.eval (.tmp 65), a.eval (.tmp 66), a.eval (.tmp 67), a.eval (.tmp 68), a.eval (.tmp 69), a.eval (.tmp 70), a.eval (.tmp 71), a.eval (.tmp 72), a.eval (.tmp 73), a.eval (.tmp 74), a.eval (.tmp 75), a.eval (.tmp 76), a.eval (.tmp 77), a.eval (.tmp 78), a.eval (.tmp 79), a.eval (.tmp 80), a.eval (.tmp 81), a.eval (.tmp 82), a.eval (.tmp 83), a.eval (.tmp 84), a.eval (.tmp 85), a.eval (.tmp 86), a.eval (.tmp 87), a.eval (.tmp 88), a.eval (.tmp 89), a.eval (.tmp 90), a.eval (.tmp 91)] := rfl
            rw [hla, k0, k1, k2, k3, k4, k6, k7, k90, k91] at ha
            clear k0 k1 k2 k3 k4 k6 k7 k90 k91 hwd hI all hr hs hlow SO HOKP hla
            generalize a.eval (.tmp 5) = z5 at ha
            generalize a.eval (.tmp 8) = z8 at ha
            generalize a.eval (.tmp 9) = z9 at ha
            generalize a.eval (.tmp 10) = z10 at ha
            generalize a.eval (.tmp 11) = z11 at ha
            generalize a.eval (.tmp 12) = z12 at ha
            generalize a.eval (.tmp 13) = z13 at ha
            generalize a.eval (.tmp 14) = z14 at ha
            generalize a.eval (.tmp 15) = z15 at ha
            generalize a.eval (.tmp 16) = z16 at ha
            generalize a.eval (.tmp 17) = z17 at ha
            generalize a.eval (.tmp 18) = z18 at ha
            generalize a.eval (.tmp 19) = z19 at ha
            generalize a.eval (.tmp 20) = z20 at ha
            generalize a.eval (.tmp 21) = z21 at ha
            generalize a.eval (.tmp 22) = z22 at ha
            generalize a.eval (.tmp 23) = z23 at ha
            generalize a.eval (.tmp 24) = z24 at ha
            generalize a.eval (.tmp 25) = z25 at ha
            generalize a.eval (.tmp 26) = z26 at ha
            generalize a.eval (.tmp 27) = z27 at ha
            generalize a.eval (.tmp 28) = z28 at ha
            generalize a.eval (.tmp 29) = z29 at ha
            generalize a.eval (.tmp 30) = z30 at ha
            generalize a.eval (.tmp 31) = z31 at ha
            generalize a.eval (.tmp 32) = z32 at ha
            generalize a.eval (.tmp 33) = z33 at ha
            generalize a.eval (.tmp 34) = z34 at ha
            generalize a.eval (.tmp 35) = z35 at ha
            generalize a.eval (.tmp 36) = z36 at ha
            generalize a.eval (.tmp 37) = z37 at ha
            generalize a.eval (.tmp 38) = z38 at ha
            generalize a.eval (.tmp 39) = z39 at ha
            generalize a.eval (.tmp 40) = z40 at ha
            generalize a.eval (.tmp 41) = z41 at ha
            generalize a.eval (.tmp 42) = z42 at ha
            generalize a.eval (.tmp 43) = z43 at ha
            generalize a.eval (.tmp 44) = z44 at ha
            generalize a.eval (.tmp 45) = z45 at ha
            generalize a.eval (.tmp 46) = z46 at ha
            generalize a.eval (.tmp 47) = z47 at ha
            generalize a.eval (.tmp 48) = z48 at ha
            generalize a.eval (.tmp 49) = z49 at ha
            generalize a.eval (.tmp 50) = z50 at ha
            generalize a.eval (.tmp 51) = z51 at ha
            generalize a.eval (.tmp 52) = z52 at ha
            generalize a.eval (.tmp 53) = z53 at ha
            generalize a.eval (.tmp 54) = z54 at ha
            generalize a.eval (.tmp 55) = z55 at ha
            generalize a.eval (.tmp 56) = z56 at ha
            generalize a.eval (.tmp 57) = z57 at ha
            generalize a.eval (.tmp 58) = z58 at ha
            generalize a.eval (.tmp 59) = z59 at ha
            generalize a.eval (.tmp 60) = z60 at ha
            generalize a.eval (.tmp 61) = z61 at ha
            generalize a.eval (.tmp 62) = z62 at ha
            generalize a.eval (.tmp 63) = z63 at ha
            generalize a.eval (.tmp 64) = z64 at ha
            generalize a.eval (.tmp 65) = z65 at ha
            generalize a.eval (.tmp 66) = z66 at ha
            generalize a.eval (.tmp 67) = z67 at ha
            generalize a.eval (.tmp 68) = z68 at ha
            generalize a.eval (.tmp 69) = z69 at ha
            generalize a.eval (.tmp 70) = z70 at ha
            generalize a.eval (.tmp 71) = z71 at ha
            generalize a.eval (.tmp 72) = z72 at ha
            generalize a.eval (.tmp 73) = z73 at ha
            generalize a.eval (.tmp 74) = z74 at ha
            generalize a.eval (.tmp 75) = z75 at ha
            generalize a.eval (.tmp 76) = z76 at ha
            generalize a.eval (.tmp 77) = z77 at ha
            generalize a.eval (.tmp 78) = z78 at ha
            generalize a.eval (.tmp 79) = z79 at ha
            generalize a.eval (.tmp 80) = z80 at ha
            generalize a.eval (.tmp 81) = z81 at ha
            generalize a.eval (.tmp 82) = z82 at ha
            generalize a.eval (.tmp 83) = z83 at ha
            generalize a.eval (.tmp 84) = z84 at ha
            generalize a.eval (.tmp 85) = z85 at ha
            generalize a.eval (.tmp 86) = z86 at ha
            generalize a.eval (.tmp 87) = z87 at ha
            generalize a.eval (.tmp 88) = z88 at ha
            generalize a.eval (.tmp 89) = z89 at ha
            subst ha
            have hjb : j < 100000 := by have := HM.out; omega
            go_wp2
            go_roundw
            case rel => exact ⟨j + 1, (l'.take k ++ [({ c with times := c.times + 1 } : Cq)]) ++ l'.drop (k + 1), x.1, out ++ [(⟨c.id, false, c.to, c.tx⟩ : Du)], by have := HM.out; omega, by go_num, HN.out, HONE.out.1, Nat.le_trans HONE.out.2.1 hln.out, (by have := hol.out; show List.length _ ≤ _; (try simp); omega), (by show stepQ _ _ _ _ = _; rw [show 100000 - (j + 1) = m by have := HM.out; omega]; simpa using HST.out.symm)⟩
            case measure => have := HM.out; simp [intOf]; omega
          · intro L a w9 i hs hi hI
            exact regt_steps SO _ HOKP.out _ L a w9 i hs hi hI
        · have h320' : decide (atQ c - c.begun < 320) = false := decide_eq_false h320
          refine wp_region_quiet_below follows12 (by kernel_rfl) ?_
          repeat (go_big_quiet_step (with_reducible exact KC.out _ _))
          refine wpQuiet_nil ?_
          intro _ hw'
          obtain ⟨⟨dq, osq⟩, hw''⟩ := hw'
          subst hw''
          have hq6 := below_regrown w5 dq osq
          generalize grow _ _ = w6 at hq6 ⊢
          have HS6 := hid (HS5.out.below hq6)
          have HC6 := hid (HC5.out.below hq6)
          have HL6 := hid (HL5.out.below hq6)
          have h6s : wc.heap.size ≤ w6.heap.size := Nat.le_trans h5s hq6.size
          clear HS5 HC5 HL5 hq6 e0 e1 e2 e3 e4 e5 e6 KC KA
          obtain ⟨e0, e1, e2, e3, e4, e5, e6, e7⟩ := HC6.out.at1
          go_wp2_with (at_builtin; (refine wp_appDs _ rfl (.tmp 72) (.tmp 76) 67 rfl w.heap.size i1 _ Try.underlying67 hq hp0 hp1 hp2 rfl _ out rfl (HS6.out.outo.alloc _) ⟨_, 0, none⟩ 1 1 [⟨c.id, true, [], []⟩] rfl rfl (du_new _ _ _) (by have := hol.out; have := HM.out; simp; omega) (Nat.le_trans HS6.out.bel.size (by simp)) ?_; intro v7 w7 hown7 hgr7; have HS7 := hid (HS6.out.due hown7 hgr7); have HC7 := hid (HS6.out.kept (vo' := v7) HC6.out hgr7); have HL7 := hid (HS6.out.kept (vo' := v7) HL6.out hgr7); have h7s : wc.heap.size ≤ w7.heap.size := Nat.le_trans h6s (Nat.le_trans (by simp) hgr7.size); clear hown7 hgr7 e0 e1 e2 e3 e4 e5 e6 e7 HS6 HC6 HL6; (obtain ⟨e0, e1, e2, e3, e4, e5, e6, e7⟩ := HC7.out.at1)))
          have hst3 := hst2.out
          rw [oneq_over (c := c) (by omega) (by omega)] at hst3
          have HST := hid hst3
          have one3 := ONE.out
          rw [oneq_over (c := c) (by omega) (by omega)] at one3
          simp only at one3
          have HONE := hid one3
          clear hst3 one3 hst2 ONE e0 e1 e2 e3 e4 e5 e6 e7
          have hgC : g < wc.heap.size := Nat.lt_trans hgb hlC
          have hwC : w.heap.size ≤ wc.heap.size := Nat.le_trans hwb (Nat.le_of_lt hlC)
          have HOKP : Hid (TP.Ok ⟨{ w7 with drawn := w7.drawn + 1 }, w.heap.size, most, last, g, cap', l', k, v5, (l'.take k), wc.heap.size, [(0, .agg #[.int .i64 most, .int .i64 last, .slice oa l.length cap]), (1, .int .i64 now), (2, .pointer (some ⟨w.heap.size, 0, none⟩)), (3, undef), (4, .pointer (some ⟨w1.heap.size, 0, none⟩)), (6, v7), (7, .int .i64 j), (8, .int .i64 k), (10, v5), (90, undef), (91, undef)]⟩) := tp_ok HS7.out HL7.out hgC hwC h7s hkl hcap hln.out (by rw [hkln]; exact hkm.out) (by intro e he; simp at he; rcases he with rfl | rfl | rfl | rfl | rfl | rfl | rfl | rfl | rfl | rfl | rfl <;> simp) (by simp) (by simp) (by simp)
          refine wp_region_name ?_
          intro ops hops
          have hlow : lowB .any ops = true := by rw [hops]; kernel_rfl
          have osz : ops.size = 13 := by rw [hops]; rfl
          have o0 := congrArg (fun x : Array Oper => x[0]?) hops
          have o1 := congrArg (fun x : Array Oper => x[1]?) hops
          have o2 := congrArg (fun x : Array Oper => x[2]?) hops
          have o3 := congrArg (fun x : Array Oper => x[3]?) hops
          have o4 := congrArg (fun x : Array Oper => x[4]?) hops
          have o5 := congrArg (fun x : Array Oper => x[5]?) hops
          have o6 := congrArg (fun x : Array Oper => x[6]?) hops
          have o7 := congrArg (fun x : Array Oper => x[7]?) hops
          have o8 := congrArg (fun x : Array Oper => x[8]?) hops
          have o9 := congrArg (fun x : Array Oper => x[9]?) hops
          have o10 := congrArg (fun x : Array Oper => x[10]?) hops
          have o11 := congrArg (fun x : Array Oper => x[11]?) hops
          have o12 := congrArg (fun x : Array Oper => x[12]?) hops
          simp only [List.getElem?_toArray, List.getElem?_cons_zero, List.getElem?_cons_succ] at o0 o1 o2 o3 o4 o5 o6 o7 o8 o9 o10 o11 o12
          clear hops
          have SO : TOps ops := ⟨osz, ⟨_, o0, rfl, rfl, rfl⟩, ⟨_, o1, rfl, rfl, rfl⟩, ⟨_, o2, rfl, rfl, rfl⟩, ⟨_, o3, rfl, rfl, rfl⟩, ⟨_, o4, rfl, rfl, rfl⟩, ⟨_, o5, rfl, rfl, rfl⟩, ⟨_, o6, rfl, rfl, rfl⟩, ⟨_, o7, rfl, rfl, rfl⟩, ⟨_, o8, rfl, rfl, rfl⟩, ⟨_, o9, rfl, rfl, rfl⟩, ⟨_, o10, rfl, rfl, rfl⟩, ⟨_, o11, rfl, rfl, rfl⟩, ⟨_, o12, rfl, rfl, rfl⟩, ⟨_, o1, { on := 0, ground := .data }, by simp, rfl, rfl⟩, ⟨_, o3, { on := 2, ground := .data }, by simp, rfl, rfl⟩, ⟨_, o6, { on := 5, ground := .data }, by simp, rfl, rfl⟩, ⟨_, o8, { on := 7, ground := .data }, by simp, rfl, rfl⟩, ⟨_, o9, { on := 6, ground := .data }, by simp, rfl, rfl⟩, ⟨_, o9, { on := 8, ground := .data }, by simp, rfl, rfl⟩, ⟨_, o10, { on := 4, ground := .data }, by simp, rfl, rfl⟩, ⟨_, o10, { on := 9, ground := .data }, by simp, rfl, rfl⟩, ⟨_, o11, { on := 1, ground := .data }, by simp, rfl, rfl⟩, ⟨_, o11, { on := 3, ground := .data }, by simp, rfl, rfl⟩, ⟨_, o11, { on := 10, ground := .data }, by simp, rfl, rfl⟩, ⟨_, o12, { on := 11, ground := .data }, by simp, rfl, rfl⟩⟩
          clear o0 o1 o2 o3 o4 o5 o6 o7 o8 o9 o10 o11 o12
          refine wp_region_inv follows12 (fun L a w' => ∃ x, TI ⟨{ w7 with drawn := w7.drawn + 1 }, w.heap.size, most, last, g, cap', l', k, v5, (l'.take k), wc.heap.size, [(0, .agg #[.int .i64 most, .int .i64 last, .slice oa l.length cap]), (1, .int .i64 now), (2, .pointer (some ⟨w.heap.size, 0, none⟩)), (3, undef), (4, .pointer (some ⟨w1.heap.size, 0, none⟩)), (6, v7), (7, .int .i64 j), (8, .int .i64 k), (10, v5), (90, undef), (91, undef)]⟩ ops L a w' x) ?_ ?_ ?_
          · exact ⟨(undef, w7), TI.begin rfl rfl (by intro e he; simp at he; rcases he with rfl | rfl | rfl | rfl | rfl | rfl | rfl | rfl | rfl | rfl | rfl <;> rfl) _⟩
          · rintro L a w9 hs hr ⟨x, hI⟩
            have all := fun i (hi : i < ops.size) => all_listed hlow hs hr i hi
            rw [osz] at all
            have HN := hid (tp_end (k := k) (base := [(0, .agg #[.int .i64 most, .int .i64 last, .slice oa l.length cap]), (1, .int .i64 now), (2, .pointer (some ⟨w.heap.size, 0, none⟩)), (3, undef), (4, .pointer (some ⟨w1.heap.size, 0, none⟩)), (6, v7), (7, .int .i64 j), (8, .int .i64 k), (10, v5), (90, undef), (91, undef)]) HS7.out HL7.out hgC hwC (Nat.le_trans hB hwC) hne4 (hI.rel (all 10 (by decide))))
            have hwd := hI.wd
            rw [if_pos (all 12 (by decide))] at hwd
            rw [← hwd] at HN
            have k0 := hI.base (0, _) (by simp; rfl)
            have k1 := hI.base (1, _) (by simp; rfl)
            have k2 := hI.base (2, _) (by simp; rfl)
            have k3 := hI.base (3, _) (by simp; rfl)
            have k4 := hI.base (4, _) (by simp; rfl)
            have k6 := hI.base (6, _) (by simp; rfl)
            have k7 := hI.base (7, _) (by simp; rfl)
            have k90 := hI.base (90, _) (by simp; rfl)
            have k91 := hI.base (91, _) (by simp; rfl)
            simp only at k0 k1 k2 k3 k4 k6 k7 k90 k91
            have ha := act_list hI.sz hI.df
            have hla : (List.range 92).map (fun s => a.eval (.tmp s)) = [a.eval (.tmp 0), a.eval (.tmp 1), a.eval (.tmp 2), a.eval (.tmp 3), a.eval (.tmp 4), a.eval (.tmp 5), a.eval (.tmp 6), a.eval (.tmp 7), a.eval (.tmp 8), a.eval (.tmp 9), a.eval (.tmp 10), a.eval (.tmp 11), a.eval (.tmp 12), a.eval (.tmp 13), a.eval (.tmp 14), a.eval (.tmp 15), a.eval (.tmp 16), a.eval (.tmp 17), a.eval (.tmp 18), a.eval (.tmp 19), a.eval (.tmp 20), a.eval (.tmp 21), a.eval (.tmp 22), a.eval (.tmp 23), a.eval (.tmp 24), a.eval (.tmp 25), a.eval (.tmp 26), a.eval (.tmp 27), a.eval (.tmp 28), a.eval (.tmp 29), a.eval (.tmp 30), a.eval (.tmp 31), a.eval (.tmp 32), a.eval (.tmp 33), a.eval (.tmp 34), a.eval (.tmp 35), a.eval (.tmp 36), a.eval (.tmp 37), a.eval (.tmp 38), a.eval (.tmp 39), a.eval (.tmp 40), a.eval (.tmp 41), a.eval (.tmp 42), a.eval (.tmp 43), a.eval (.tmp 44), a.eval (.tmp 45), a.eval (.tmp 46), a.eval (.tmp 47), a.eval (.tmp 48), a.eval (.tmp 49), a.eval (.tmp 50), a.eval (.tmp 51), a.eval (.tmp 52), a.eval (.tmp 53), a.eval (.tmp 54), a.eval (.tmp 55), a.eval (.tmp 56), a.eval (.tmp 57), a.eval (.tmp 58), a.eval (.tmp 59), a.eval (.tmp 60), a.eval (.tmp 61), a.eval (.tmp 62), a.eval (.tmp 63), a.eval (.tmp 64), a.eval (.tmp 65), a.eval (.tmp 66), a.eval (.tmp 67), a.eval (.tmp 68), a.eval (.tmp 69), a.eval (.tmp 70), a.eval (.tmp 71), a.eval (.tmp 72), a.eval (.tmp 73), a.eval (.tmp 74), a.eval (.tmp 75), a.eval (.tmp 76), a.eval (.tmp 77), a.eval (.tmp 78), a.eval (.tmp 79), a.eval (.tmp 80), a.eval (.tmp 81), a.eval (.tmp 82), a.eval (.tmp 83), a.eval (.tmp 84), a.eval (.tmp 85), a.eval (.tmp 86), a.eval (.tmp 87), a.eval (.tmp 88), a.eval (.tmp 89), a.eval (.tmp 90), a.eval (.tmp 91)] := rfl
            rw [hla, k0, k1, k2, k3, k4, k6, k7, k90, k91] at ha
            clear k0 k1 k2 k3 k4 k6 k7 k90 k91 hwd hI all hr hs hlow SO HOKP hla
            generalize a.eval (.tmp 5) = z5 at ha
            generalize a.eval (.tmp 8) = z8 at ha
            generalize a.eval (.tmp 9) = z9 at ha
            generalize a.eval (.tmp 10) = z10 at ha
            generalize a.eval (.tmp 11) = z11 at ha
            generalize a.eval (.tmp 12) = z12 at ha
            generalize a.eval (.tmp 13) = z13 at ha
            generalize a.eval (.tmp 14) = z14 at ha
            generalize a.eval (.tmp 15) = z15 at ha
            generalize a.eval (.tmp 16) = z16 at ha
            generalize a.eval (.tmp 17) = z17 at ha
            generalize a.eval (.tmp 18) = z18 at ha
            generalize a.eval (.tmp 19) = z19 at ha
            generalize a.eval (.tmp 20) = z20 at ha
            generalize a.eval (.tmp 21) = z21 at ha
            generalize a.eval (.tmp 22) = z22 at ha
            generalize a.eval (.tmp 23) = z23 at ha
            generalize a.eval (.tmp 24) = z24 at ha
            generalize a.eval (.tmp 25) = z25 at ha
            generalize a.eval (.tmp 26) = z26 at ha
            generalize a.eval (.tmp 27) = z27 at ha
            generalize a.eval (.tmp 28) = z28 at ha
            generalize a.eval (.tmp 29) = z29 at ha
            generalize a.eval (.tmp 30) = z30 at ha
            generalize a.eval (.tmp 31) = z31 at ha
            generalize a.eval (.tmp 32) = z32 at ha
            generalize a.eval (.tmp 33) = z33 at ha
            generalize a.eval (.tmp 34) = z34 at ha
            generalize a.eval (.tmp 35) = z35 at ha
            generalize a.eval (.tmp 36) = z36 at ha
            generalize a.eval (.tmp 37) = z37 at ha
            generalize a.eval (.tmp 38) = z38 at ha
            generalize a.eval (.tmp 39) = z39 at ha
            generalize a.eval (.tmp 40) = z40 at ha
            generalize a.eval (.tmp 41) = z41 at ha
            generalize a.eval (.tmp 42) = z42 at ha
            generalize a.eval (.tmp 43) = z43 at ha
            generalize a.eval (.tmp 44) = z44 at ha
            generalize a.eval (.tmp 45) = z45 at ha
            generalize a.eval (.tmp 46) = z46 at ha
            generalize a.eval (.tmp 47) = z47 at ha
            generalize a.eval (.tmp 48) = z48 at ha
            generalize a.eval (.tmp 49) = z49 at ha
            generalize a.eval (.tmp 50) = z50 at ha
            generalize a.eval (.tmp 51) = z51 at ha
            generalize a.eval (.tmp 52) = z52 at ha
            generalize a.eval (.tmp 53) = z53 at ha
            generalize a.eval (.tmp 54) = z54 at ha
            generalize a.eval (.tmp 55) = z55 at ha
            generalize a.eval (.tmp 56) = z56 at ha
            generalize a.eval (.tmp 57) = z57 at ha
            generalize a.eval (.tmp 58) = z58 at ha
            generalize a.eval (.tmp 59) = z59 at ha
            generalize a.eval (.tmp 60) = z60 at ha
            generalize a.eval (.tmp 61) = z61 at ha
            generalize a.eval (.tmp 62) = z62 at ha
            generalize a.eval (.tmp 63) = z63 at ha
            generalize a.eval (.tmp 64) = z64 at ha
            generalize a.eval (.tmp 65) = z65 at ha
            generalize a.eval (.tmp 66) = z66 at ha
            generalize a.eval (.tmp 67) = z67 at ha
            generalize a.eval (.tmp 68) = z68 at ha
            generalize a.eval (.tmp 69) = z69 at ha
            generalize a.eval (.tmp 70) = z70 at ha
            generalize a.eval (.tmp 71) = z71 at ha
            generalize a.eval (.tmp 72) = z72 at ha
            generalize a.eval (.tmp 73) = z73 at ha
            generalize a.eval (.tmp 74) = z74 at ha
            generalize a.eval (.tmp 75) = z75 at ha
            generalize a.eval (.tmp 76) = z76 at ha
            generalize a.eval (.tmp 77) = z77 at ha
            generalize a.eval (.tmp 78) = z78 at ha
            generalize a.eval (.tmp 79) = z79 at ha
            generalize a.eval (.tmp 80) = z80 at ha
            generalize a.eval (.tmp 81) = z81 at ha
            generalize a.eval (.tmp 82) = z82 at ha
            generalize a.eval (.tmp 83) = z83 at ha
            generalize a.eval (.tmp 84) = z84 at ha
            generalize a.eval (.tmp 85) = z85 at ha
            generalize a.eval (.tmp 86) = z86 at ha
            generalize a.eval (.tmp 87) = z87 at ha
            generalize a.eval (.tmp 88) = z88 at ha
            generalize a.eval (.tmp 89) = z89 at ha
            subst ha
            have hjb : j < 100000 := by have := HM.out; omega
            go_wp2
            go_roundw
            case rel => exact ⟨j + 1, (l'.take k) ++ l'.drop (k + 1), x.1, out ++ [(⟨c.id, true, [], []⟩ : Du)], by have := HM.out; omega, by go_num, HN.out, HONE.out.1, Nat.le_trans HONE.out.2.1 hln.out, (by have := hol.out; show List.length _ ≤ _; (try simp); omega), (by show stepQ _ _ _ _ = _; rw [show 100000 - (j + 1) = m by have := HM.out; omega]; simpa using HST.out.symm)⟩
            case measure => have := HM.out; simp [intOf]; omega
          · intro L a w9 i hs hi hI
            exact regt_steps SO _ HOKP.out _ L a w9 i hs hi hI
      · have hrest' : decide (c.rest < 0) = false := decide_eq_false hrest
        refine wp_region_quiet_below follows12 (by kernel_rfl) ?_
        repeat (go_big_quiet_step (with_reducible exact KC.out _ _))
        refine wpQuiet_nil ?_
        intro _ hw'
        obtain ⟨⟨dq, osq⟩, hw''⟩ := hw'
        subst hw''
        have hq6 := below_regrown w5 dq osq
        generalize grow _ _ = w6 at hq6 ⊢
        have HS6 := hid (HS5.out.below hq6)
        have HC6 := hid (HC5.out.below hq6)
        have HL6 := hid (HL5.out.below hq6)
        have h6s : wc.heap.size ≤ w6.heap.size := Nat.le_trans h5s hq6.size
        clear HS5 HC5 HL5 hq6 e0 e1 e2 e3 e4 e5 e6 KC KA
        obtain ⟨e0, e1, e2, e3, e4, e5, e6, e7⟩ := HC6.out.at1
        go_wp2
        have hst3 := hst2.out
        rw [oneq_rest (c := c) (by omega)] at hst3
        have HST := hid hst3
        have one3 := ONE.out
        rw [oneq_rest (c := c) (by omega)] at one3
        simp only at one3
        have HONE := hid one3
        clear hst3 one3 hst2 ONE e0 e1 e2 e3 e4 e5 e6 e7
        have hgC : g < wc.heap.size := Nat.lt_trans hgb hlC
        have hwC : w.heap.size ≤ wc.heap.size := Nat.le_trans hwb (Nat.le_of_lt hlC)
        have HOKP : Hid (TP.Ok ⟨{ w6 with drawn := w6.drawn + 1 }, w.heap.size, most, last, g, cap', l', k, v5, (l'.take k), wc.heap.size, [(0, .agg #[.int .i64 most, .int .i64 last, .slice oa l.length cap]), (1, .int .i64 now), (2, .pointer (some ⟨w.heap.size, 0, none⟩)), (3, undef), (4, .pointer (some ⟨w1.heap.size, 0, none⟩)), (6, u6), (7, .int .i64 j), (8, .int .i64 k), (10, v5), (90, undef), (91, undef)]⟩) := tp_ok HS6.out HL6.out hgC hwC h6s hkl hcap hln.out (by rw [hkln]; exact hkm.out) (by intro e he; simp at he; rcases he with rfl | rfl | rfl | rfl | rfl | rfl | rfl | rfl | rfl | rfl | rfl <;> simp) (by simp) (by simp) (by simp)
        refine wp_region_name ?_
        intro ops hops
        have hlow : lowB .any ops = true := by rw [hops]; kernel_rfl
        have osz : ops.size = 13 := by rw [hops]; rfl
        have o0 := congrArg (fun x : Array Oper => x[0]?) hops
        have o1 := congrArg (fun x : Array Oper => x[1]?) hops
        have o2 := congrArg (fun x : Array Oper => x[2]?) hops
        have o3 := congrArg (fun x : Array Oper => x[3]?) hops
        have o4 := congrArg (fun x : Array Oper => x[4]?) hops
        have o5 := congrArg (fun x : Array Oper => x[5]?) hops
        have o6 := congrArg (fun x : Array Oper => x[6]?) hops
        have o7 := congrArg (fun x : Array Oper => x[7]?) hops
        have o8 := congrArg (fun x : Array Oper => x[8]?) hops
        have o9 := congrArg (fun x : Array Oper => x[9]?) hops
        have o10 := congrArg (fun x : Array Oper => x[10]?) hops
        have o11 := congrArg (fun x : Array Oper => x[11]?) hops
        have o12 := congrArg (fun x : Array Oper => x[12]?) hops
        simp only [List.getElem?_toArray, List.getElem?_cons_zero, List.getElem?_cons_succ] at o0 o1 o2 o3 o4 o5 o6 o7 o8 o9 o10 o11 o12
        clear hops
        have SO : TOps ops := ⟨osz, ⟨_, o0, rfl, rfl, rfl⟩, ⟨_, o1, rfl, rfl, rfl⟩, ⟨_, o2, rfl, rfl, rfl⟩, ⟨_, o3, rfl, rfl, rfl⟩, ⟨_, o4, rfl, rfl, rfl⟩, ⟨_, o5, rfl, rfl, rfl⟩, ⟨_, o6, rfl, rfl, rfl⟩, ⟨_, o7, rfl, rfl, rfl⟩, ⟨_, o8, rfl, rfl, rfl⟩, ⟨_, o9, rfl, rfl, rfl⟩, ⟨_, o10, rfl, rfl, rfl⟩, ⟨_, o11, rfl, rfl, rfl⟩, ⟨_, o12, rfl, rfl, rfl⟩, ⟨_, o1, { on := 0, ground := .data }, by simp, rfl, rfl⟩, ⟨_, o3, { on := 2, ground := .data }, by simp, rfl, rfl⟩, ⟨_, o6, { on := 5, ground := .data }, by simp, rfl, rfl⟩, ⟨_, o8, { on := 7, ground := .data }, by simp, rfl, rfl⟩, ⟨_, o9, { on := 6, ground := .data }, by simp, rfl, rfl⟩, ⟨_, o9, { on := 8, ground := .data }, by simp, rfl, rfl⟩, ⟨_, o10, { on := 4, ground := .data }, by simp, rfl, rfl⟩, ⟨_, o10, { on := 9, ground := .data }, by simp, rfl, rfl⟩, ⟨_, o11, { on := 1, ground := .data }, by simp, rfl, rfl⟩, ⟨_, o11, { on := 3, ground := .data }, by simp, rfl, rfl⟩, ⟨_, o11, { on := 10, ground := .data }, by simp, rfl, rfl⟩, ⟨_, o12, { on := 11, ground := .data }, by simp, rfl, rfl⟩⟩
        clear o0 o1 o2 o3 o4 o5 o6 o7 o8 o9 o10 o11 o12
        refine wp_region_inv follows12 (fun L a w' => ∃ x, TI ⟨{ w6 with drawn := w6.drawn + 1 }, w.heap.size, most, last, g, cap', l', k, v5, (l'.take k), wc.heap.size, [(0, .agg #[.int .i64 most, .int .i64 last, .slice oa l.length cap]), (1, .int .i64 now), (2, .pointer (some ⟨w.heap.size, 0, none⟩)), (3, undef), (4, .pointer (some ⟨w1.heap.size, 0, none⟩)), (6, u6), (7, .int .i64 j), (8, .int .i64 k), (10, v5), (90, undef), (91, undef)]⟩ ops L a w' x) ?_ ?_ ?_
        · exact ⟨(undef, w6), TI.begin rfl rfl (by intro e he; simp at he; rcases he with rfl | rfl | rfl | rfl | rfl | rfl | rfl | rfl | rfl | rfl | rfl <;> rfl) _⟩
        · rintro L a w9 hs hr ⟨x, hI⟩
          have all := fun i (hi : i < ops.size) => all_listed hlow hs hr i hi
          rw [osz] at all
          have HN := hid (tp_end (k := k) (base := [(0, .agg #[.int .i64 most, .int .i64 last, .slice oa l.length cap]), (1, .int .i64 now), (2, .pointer (some ⟨w.heap.size, 0, none⟩)), (3, undef), (4, .pointer (some ⟨w1.heap.size, 0, none⟩)), (6, u6), (7, .int .i64 j), (8, .int .i64 k), (10, v5), (90, undef), (91, undef)]) HS6.out HL6.out hgC hwC (Nat.le_trans hB hwC) hne4 (hI.rel (all 10 (by decide))))
          have hwd := hI.wd
          rw [if_pos (all 12 (by decide))] at hwd
          rw [← hwd] at HN
          have k0 := hI.base (0, _) (by simp; rfl)
          have k1 := hI.base (1, _) (by simp; rfl)
          have k2 := hI.base (2, _) (by simp; rfl)
          have k3 := hI.base (3, _) (by simp; rfl)
          have k4 := hI.base (4, _) (by simp; rfl)
          have k6 := hI.base (6, _) (by simp; rfl)
          have k7 := hI.base (7, _) (by simp; rfl)
          have k90 := hI.base (90, _) (by simp; rfl)
          have k91 := hI.base (91, _) (by simp; rfl)
          simp only at k0 k1 k2 k3 k4 k6 k7 k90 k91
          have ha := act_list hI.sz hI.df
          have hla : (List.range 92).map (fun s => a.eval (.tmp s)) = [a.eval (.tmp 0), a.eval (.tmp 1), a.eval (.tmp 2), a.eval (.tmp 3), a.eval (.tmp 4), a.eval (.tmp 5), a.eval (.tmp 6), a.eval (.tmp 7), a.eval (.tmp 8), a.eval (.tmp 9), a.eval (.tmp 10), a.eval (.tmp 11), a.eval (.tmp 12), a.eval (.tmp 13), a.eval (.tmp 14), a.eval (.tmp 15), a.eval (.tmp 16), a.eval (.tmp 17), a.eval (.tmp 18), a.eval (.tmp 19), a.eval (.tmp 20), a.eval (.tmp 21), a.eval (.tmp 22), a.eval (.tmp 23), a.eval (.tmp 24), a.eval (.tmp 25), a.eval (.tmp 26), a.eval (.tmp 27), a.eval (.tmp 28), a.eval (.tmp 29), a.eval (.tmp 30), a.eval (.tmp 31), a.eval (.tmp 32), a.eval (.tmp 33), a.eval (.tmp 34), a.eval (.tmp 35), a.eval (.tmp 36), a.eval (.tmp 37), a.eval (.tmp 38), a.eval (.tmp 39), a.eval (.tmp 40), a.eval (.tmp 41), a.eval (.tmp 42), a.eval (.tmp 43), a.eval (.tmp 44), a.eval (.tmp 45), a.eval (.tmp 46), a.eval (.tmp 47), a.eval (.tmp 48), a.eval (.tmp 49), a.eval (.tmp 50), a.eval (.tmp 51), a.eval (.tmp 52), a.eval (.tmp 53), a.eval (.tmp 54), a.eval (.tmp 55), a.eval (.tmp 56), a.eval (.tmp 57), a.eval (.tmp 58), a.eval (.tmp 59), a.eval (.tmp 60), a.eval (.tmp 61), a.eval (.tmp 62), a.eval (.tmp 63), a.eval (.tmp 64), a.eval (.tmp 65), a.eval (.tmp 66), a.eval (.tmp 67), a.eval (.tmp 68), a.eval (.tmp 69), a.eval (.tmp 70), a.eval (.tmp 71), a.eval (.tmp 72), a.eval (.tmp 73), a.eval (.tmp 74), a.eval (.tmp 75), a.eval (.tmp 76), a.eval (.tmp 77), a.eval (.tmp 78), a.eval (.tmp 79), a.eval (.tmp 80), a.eval (.tmp 81), a.eval (.tmp 82), a.eval (.tmp 83), a.eval (.tmp 84), a.eval (.tmp 85), a.eval (.tmp 86), a.eval (.tmp 87), a.eval (.tmp 88), a.eval (.tmp 89), a.eval (.tmp 90), a.eval (.tmp 91)] := rfl
          rw [hla, k0, k1, k2, k3, k4, k6, k7, k90, k91] at ha
          clear k0 k1 k2 k3 k4 k6 k7 k90 k91 hwd hI all hr hs hlow SO HOKP hla
          generalize a.eval (.tmp 5) = z5 at ha
          generalize a.eval (.tmp 8) = z8 at ha
          generalize a.eval (.tmp 9) = z9 at ha
          generalize a.eval (.tmp 10) = z10 at ha
          generalize a.eval (.tmp 11) = z11 at ha
          generalize a.eval (.tmp 12) = z12 at ha
          generalize a.eval (.tmp 13) = z13 at ha
          generalize a.eval (.tmp 14) = z14 at ha
          generalize a.eval (.tmp 15) = z15 at ha
          generalize a.eval (.tmp 16) = z16 at ha
          generalize a.eval (.tmp 17) = z17 at ha
          generalize a.eval (.tmp 18) = z18 at ha
          generalize a.eval (.tmp 19) = z19 at ha
          generalize a.eval (.tmp 20) = z20 at ha
          generalize a.eval (.tmp 21) = z21 at ha
          generalize a.eval (.tmp 22) = z22 at ha
          generalize a.eval (.tmp 23) = z23 at ha
          generalize a.eval (.tmp 24) = z24 at ha
          generalize a.eval (.tmp 25) = z25 at ha
          generalize a.eval (.tmp 26) = z26 at ha
          generalize a.eval (.tmp 27) = z27 at ha
          generalize a.eval (.tmp 28) = z28 at ha
          generalize a.eval (.tmp 29) = z29 at ha
          generalize a.eval (.tmp 30) = z30 at ha
          generalize a.eval (.tmp 31) = z31 at ha
          generalize a.eval (.tmp 32) = z32 at ha
          generalize a.eval (.tmp 33) = z33 at ha
          generalize a.eval (.tmp 34) = z34 at ha
          generalize a.eval (.tmp 35) = z35 at ha
          generalize a.eval (.tmp 36) = z36 at ha
          generalize a.eval (.tmp 37) = z37 at ha
          generalize a.eval (.tmp 38) = z38 at ha
          generalize a.eval (.tmp 39) = z39 at ha
          generalize a.eval (.tmp 40) = z40 at ha
          generalize a.eval (.tmp 41) = z41 at ha
          generalize a.eval (.tmp 42) = z42 at ha
          generalize a.eval (.tmp 43) = z43 at ha
          generalize a.eval (.tmp 44) = z44 at ha
          generalize a.eval (.tmp 45) = z45 at ha
          generalize a.eval (.tmp 46) = z46 at ha
          generalize a.eval (.tmp 47) = z47 at ha
          generalize a.eval (.tmp 48) = z48 at ha
          generalize a.eval (.tmp 49) = z49 at ha
          generalize a.eval (.tmp 50) = z50 at ha
          generalize a.eval (.tmp 51) = z51 at ha
          generalize a.eval (.tmp 52) = z52 at ha
          generalize a.eval (.tmp 53) = z53 at ha
          generalize a.eval (.tmp 54) = z54 at ha
          generalize a.eval (.tmp 55) = z55 at ha
          generalize a.eval (.tmp 56) = z56 at ha
          generalize a.eval (.tmp 57) = z57 at ha
          generalize a.eval (.tmp 58) = z58 at ha
          generalize a.eval (.tmp 59) = z59 at ha
          generalize a.eval (.tmp 60) = z60 at ha
          generalize a.eval (.tmp 61) = z61 at ha
          generalize a.eval (.tmp 62) = z62 at ha
          generalize a.eval (.tmp 63) = z63 at ha
          generalize a.eval (.tmp 64) = z64 at ha
          generalize a.eval (.tmp 65) = z65 at ha
          generalize a.eval (.tmp 66) = z66 at ha
          generalize a.eval (.tmp 67) = z67 at ha
          generalize a.eval (.tmp 68) = z68 at ha
          generalize a.eval (.tmp 69) = z69 at ha
          generalize a.eval (.tmp 70) = z70 at ha
          generalize a.eval (.tmp 71) = z71 at ha
          generalize a.eval (.tmp 72) = z72 at ha
          generalize a.eval (.tmp 73) = z73 at ha
          generalize a.eval (.tmp 74) = z74 at ha
          generalize a.eval (.tmp 75) = z75 at ha
          generalize a.eval (.tmp 76) = z76 at ha
          generalize a.eval (.tmp 77) = z77 at ha
          generalize a.eval (.tmp 78) = z78 at ha
          generalize a.eval (.tmp 79) = z79 at ha
          generalize a.eval (.tmp 80) = z80 at ha
          generalize a.eval (.tmp 81) = z81 at ha
          generalize a.eval (.tmp 82) = z82 at ha
          generalize a.eval (.tmp 83) = z83 at ha
          generalize a.eval (.tmp 84) = z84 at ha
          generalize a.eval (.tmp 85) = z85 at ha
          generalize a.eval (.tmp 86) = z86 at ha
          generalize a.eval (.tmp 87) = z87 at ha
          generalize a.eval (.tmp 88) = z88 at ha
          generalize a.eval (.tmp 89) = z89 at ha
          subst ha
          have hjb : j < 100000 := by have := HM.out; omega
          go_wp2
          go_roundw
          case rel => exact ⟨j + 1, (l'.take k) ++ l'.drop (k + 1), x.1, out, by have := HM.out; omega, by go_num, HN.out, HONE.out.1, Nat.le_trans HONE.out.2.1 hln.out, (by have := hol.out; show List.length _ ≤ _; (try simp); omega), (by show stepQ _ _ _ _ = _; rw [show 100000 - (j + 1) = m by have := HM.out; omega]; simpa using HST.out.symm)⟩
          case measure => have := HM.out; simp [intOf]; omega
        · intro L a w9 i hs hi hI
          exact regt_steps SO _ HOKP.out _ L a w9 i hs hi hI
    · have hj0 : j = 100000 := by omega
      subst hj0
      have HS := hid hS.out
      have HV : Hid (R = (⟨most, last, l'⟩, out)) := hst.out.symm
      clear hS hst
      have hjl : ¬ (((100000 : Nat) : Int) < 100000) := by omega
      obtain ⟨b0, b1, b2, _, _, _⟩ := HS.out.box.sv3
      obtain ⟨y0, y1, y2, f0, f1, f2⟩ := HS.out.res.sv3
      have KEEP := hid (HS.out.fin hle4)
      simp only at b0 b1 b2 KEEP
      clear HS
      go_wp2
      generalize World.setCell _ _ _ = wA at KEEP ⊢
      obtain ⟨hrA, hoA, hdA, hbA⟩ := KEEP.out
      obtain ⟨d0, d1, d2, _, _, _⟩ := hrA.sv3
      try simp only [Exit.inBlock, Exit.then]
      refine bodyPost_ret (v := .tuple #[.agg #[.int .i64 most, .int .i64 last, .slice oa' l'.length cap'], u6]) (by simp [results, Try.results22, go_sem, d0, d1, d2]; try rfl) rfl ?_
      rw [HV.out]
      exact ⟨_, _, rfl, hoA, hdA, hbA⟩
end Go.Proofs.Ytgikbpaejmdnoaa
