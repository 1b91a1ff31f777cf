/-
  The walk of the law ViaSpread.
-/
import Derived.Test.YtpcgomfiihhpcaaDoorVAwake
import Derived.Test.YtpcgomfiihhpcaaDoorVSame
import Derived.Test.YtpcgomfiihhpcaaDoorVSpreadM
import Derived.Deep.CutRange
namespace Go.Proofs.YtpcgomfiihhpcaaDoor.viaSpread
open Go.RowKit Go.Sort Sc
set_option linter.unusedVariables false
set_option maxRecDepth 20000

theorem rec_new (w : World) (t : TypeId) (ht : t = 45) : RecM w (w.alloc (.cells #[.string ⟨#[]⟩, .string ⟨#[]⟩, .int .i64 0, .string ⟨#[]⟩, .slice none 0 0, .string ⟨#[]⟩] t)) w.heap.size [] (.slice none 0 0) := by
  subst ht
  exact ⟨(Below.refl _ w).alloc (Nat.le_refl _) _, by unfold RowIs; rw [heap_alloc_new], OwnH.nil _ _, Nat.le_refl _, alloc_lt _ _⟩

set_option maxHeartbeats 4000000 in
set_option maxRecDepth 100000 in
theorem law_walk (w : World) (v0 : Value) (a1 : Int) (k0 : HopsIn 140737488351232 w v0) (u1 : (Lit.int .u64 a1).wf = true) :
    Calls Tryd.prog 8 #[v0, .int .u64 a1] w fun e w' => e = .returned (.bool true) ∧ Below w.heap.size w w' := by
  obtain ⟨i0, hi, hz0, hz1, hz2⟩ := info_parts info9
  obtain ⟨j0, hj, hy0, hy1, hy2⟩ := info_parts infoHdr
  obtain ⟨cs, hat, hlen, hsm0⟩ := k0
  obtain ⟨p1, p2⟩ := u64_of u1
  have HSM : Hid (∀ c ∈ cs, SmallV 140737488355328 c.h) := fun c hc => (hsm0 c hc).le (by omega)
  obtain ⟨n, hn⟩ : ∃ n, n = cs.length := ⟨_, rfl⟩
  have HE := hid (fun k (hk : k < cs.length) => hat.tri k hk)
  have HAT := hid hat
  obtain ⟨c1, e1, he1⟩ := hat.form
  rw [← hn] at he1 hlen
  have HN := hid hn
  clear hat hn hsm0
  subst he1
  by_cases hn1 : n < 1
  case pos =>
    have hn1' : (n : Int) < 1 := by omega
    go_enter Tryd.func8, Tryd.ntmps8
    go_wp2_with (go_at_call 9; refine (awake7_any _).mono ?_; rintro e w9 ⟨rfl, hw9⟩)
    go_ret
    exact ⟨rfl, hw9⟩
  have hn1' : ¬ ((n : Int) < 1) := by omega
  have hn1d : decide ((n : Int) < 1) = false := decide_eq_false hn1'
  by_cases hn2 : n ≤ 16
  case neg =>
    have hn2' : (16 : Int) < n := by omega
    go_enter Tryd.func8, Tryd.ntmps8
    go_wp2_with (go_at_call 9; refine (awake7_any _).mono ?_; rintro e w9 ⟨rfl, hw9⟩)
    go_ret
    exact ⟨rfl, hw9⟩
  have hn2' : ¬ ((16 : Int) < n) := by omega
  have hn2d : decide ((16 : Int) < (n : Int)) = false := decide_eq_false hn2'
  go_enter Tryd.func8, Tryd.ntmps8
  go_wp2
  go_loopw [5, 7] (fun x i wr => ∃ (k : Nat) (ts : List (List UInt8)) (hv : Value), k ≤ n ∧ i = .int .i64 k ∧ Hid (ts.length = k) ∧ Hid (ts = ((cs.take k).map HopC.h).map textH) ∧ Hid (∀ c ∈ cs.take k, checkH c.h = 0) ∧ Hid (Own wr w.heap.size 9 x (strs ts)) ∧ Hid (RecM w wr w.heap.size (ts.map fun t => ⟨viaK, t⟩) hv)) (fun _ i _ => n - (intOf i).toNat)
  case atStart => exact ⟨0, [], .slice none 0 0, by omega, rfl, hid rfl, hid (by simp), hid (by simp), hid (Own.nil _ _ _), hid (rec_new w _ rfl)⟩
  case round =>
    obtain ⟨k, ts, hv, hkn, rfl, htk, hts, hck, hown, hrec⟩ := hrel
    obtain ⟨xa, xc, hxe⟩ := hown.out.form
    rw [strs_length, htk.out] at hxe
    subst hxe
    obtain ⟨ya, yc, hye⟩ := hrec.out.own.hdrsAt.form
    rw [List.length_map, htk.out] at hye
    subst hye
    by_cases hlt : k < n
    · have hkl : k < cs.length := by have := HN.out; omega
      obtain ⟨ad, cap, e1, hab, hei⟩ := HE.out k hkl
      simp only [Value.slice.injEq] at e1
      obtain ⟨rfl, hcut, rfl⟩ := e1
      clear hcut
      have htake : cs.take (k + 1) = cs.take k ++ [cs[k]] := List.take_succ_eq_append_getElem hkl
      have hss := HSM.out _ (List.getElem_mem hkl)
      have hatk := HAT.out.2 _ (List.getElem_mem hkl)
      have KP := hid (fun w' (hb' : Below w.heap.size w w') => vprint_any cs[k] w' hss (hatk.below hb'))
      have HTAKE := hid htake
      have hbw := hrec.out.below
      have HEI := hid (fun w' (hb' : Below w.heap.size w w') => hei.below hb' hab)
      clear hei hss htake
      generalize cs[k] = c at KP HEI hatk HTAKE
      obtain ⟨x, q⟩ := c
      obtain ⟨b3, j3, r3⟩ := hatk.1.form
      simp only at r3
      subst r3
      clear hatk
      obtain ⟨x0, x1, x2⟩ := HEI.out _ hbw
      simp only at KP x0 x1 x2
      by_cases hok : checkH x = 0
      · have hpr : printH x = (textH x, 0) := by rw [printH, if_pos hok]
        rw [hpr] at KP
        have hts2 : Hid (ts ++ [textH x] = ((cs.take (k + 1)).map HopC.h).map textH) := show _ = _ by rw [HTAKE.out, hts.out]; simp
        have hck2 : Hid (∀ c ∈ cs.take (k + 1), checkH c.h = 0) := fun c hc => by
          rw [HTAKE.out] at hc
          rcases List.mem_append.1 hc with hc | hc
          · exact hck.out c hc
          · simp at hc; subst hc; exact hok
        generalize textH x = tx at KP hts2
        clear hpr hok hts hck HTAKE
        obtain ⟨ho, po, ps⟩ := x
        unfold hpV at KP
        simp only at KP x0 x1 x2 HEI
        go_wp2_with fail
        refine (KP.out _ hbw).mono ?_
        rintro e w2 ⟨rfl, hw2⟩
        have HR2 := hid (hrec.out.step hw2)
        have HO2 := hid (hown.out.below hw2)
        have hb2 := HR2.out.below
        obtain ⟨z0, z1, z2⟩ := HEI.out _ hb2
        simp only at z0 z1 z2
        clear KP x0 x1 x2 HEI hrec hown hw2 hbw
        by_cases l1 : ps.length ≤ 100
        case neg =>
          have l1' : (100 : Int) < (ps.length : Int) := by omega
          go_wp2_with (go_at_call 9; refine (awake7_any _).mono ?_; rintro e w9 ⟨rfl, hw9⟩)
          go_ret
          exact ⟨rfl, hb2.trans (hw9.mono hb2.size)⟩
        have l1' : ¬ ((100 : Int) < (ps.length : Int)) := by omega
        have l1d : decide ((100 : Int) < (ps.length : Int)) = false := decide_eq_false l1'
        have hB2 := hb2.size
        have hA := hid (fun o => (Below.refl _ w2).alloc (Nat.le_refl _) o)
        have HOX := hid (fun o => HO2.out.below (hA.out o))
        have HRX := hid (fun o => HR2.out.step (hA.out o))
        have HNT := hid (one_new w2 9 (.string ⟨tx.toArray⟩))
        go_wp2_with (first
          | (at_builtin; refine wp_appS _ rfl (.tmp 51) (.tmp 53) 56 rfl w.heap.size 9 i0 (.string .empty) Tryd.underlying56 hi hz0 hz1 hz2 rfl _ ts rfl (HOX.out _) ⟨_, 0, none⟩ 1 tx rfl (by exact HNT.out) (by have := htk.out; omega) w (HRX.out _).below (by simp; omega) ?_; intro v5 w5 hown5 hgr5 hb5 hB5; have HR5 := hid ((HRX.out _).kept (HOX.out _) hgr5 hb5); have HO5 := hid hown5; (obtain ⟨ta, tc, hte⟩ := hown5.form); simp only [strs_length, List.length_append, List.length_cons, List.length_nil, Nat.zero_add] at hte; subst hte; have g4 := HR5.out.row.cell 4 (by simp); simp only [List.getElem_cons_succ, List.getElem_cons_zero] at g4; have hA5 := hid (fun o => (Below.refl _ w5).alloc (Nat.le_refl _) o); have HOY := hid (fun o => HO5.out.below (hA5.out o)); have HRY := hid (fun o => HR5.out.step (hA5.out o)); have HNH := hid (new_hdr w5 ⟨viaK, tx⟩ 47); clear hown5 hgr5)
          | (at_builtin; refine wp_appH _ rfl (.tmp 56) (.tmp 59) 43 rfl w.heap.size j0 _ Tryd.underlying43 hj hy0 hy1 hy2 rfl _ _ rfl (HRY.out _).own ⟨_, 0, none⟩ 1 ⟨viaK, tx⟩ rfl (by exact HNH.out) (by have := htk.out; simp; omega) w (HRY.out _).below (by simp; omega) ?_; intro v6 w6 hown6 hb6 hgr6 hB6; have HR6 := hid ((HRY.out _).app hgr6 hb6 hown6); have HO6 := hid ((HRY.out _).texts (HOY.out _) hgr6 hown6); have hrow6 := (HRY.out _).rowH hgr6; have g4 := hrow6.cell 4 (by simp); have f4 := hrow6.frozen 4; simp only [List.getElem_cons_succ, List.getElem_cons_zero] at g4; (obtain ⟨oa, oc, hoe⟩ := hown6.hdrsAt.form); simp only [List.length_append, List.length_map, List.length_cons, List.length_nil, Nat.zero_add] at hoe; subst hoe; clear hown6 hgr6 hrow6))
        go_roundw
        case rel => exact ⟨k + 1, ts ++ [tx], _, by omega, by go_num, hid (by have := htk.out; simp; omega), hts2, hck2, HO6, hid (by rw [List.map_append]; exact HR6.out)⟩
        case measure => simp [intOf]; omega
      · have hpr : printH x = ([], checkH x) := by rw [printH, if_neg hok]
        rw [hpr] at KP
        have hne : (checkH x != 0) = true := by simpa using hok
        generalize checkH x = cv at KP hne
        clear hpr hok hts hck HTAKE
        obtain ⟨ho, po, ps⟩ := x
        unfold hpV at KP
        simp only at KP x0 x1 x2 HEI
        go_wp2_with fail
        refine (KP.out _ hbw).mono ?_
        rintro e w2 ⟨rfl, hw2⟩
        have hb2 := (hrec.out.step hw2).below
        obtain ⟨z0, z1, z2⟩ := HEI.out _ hb2
        simp only at z0 z1 z2
        clear KP x0 x1 x2 HEI hrec hown hw2 hbw
        by_cases l1 : ps.length ≤ 100
        case neg =>
          have l1' : (100 : Int) < (ps.length : Int) := by omega
          go_wp2_with (go_at_call 9; refine (awake7_any _).mono ?_; rintro e w9 ⟨rfl, hw9⟩)
          go_ret
          exact ⟨rfl, hb2.trans (hw9.mono hb2.size)⟩
        have l1' : ¬ ((100 : Int) < (ps.length : Int)) := by omega
        have l1d : decide ((100 : Int) < (ps.length : Int)) = false := decide_eq_false l1'
        go_wp2_with (go_at_call 9; refine (awake7_any _).mono ?_; rintro e w9 ⟨rfl, hw9⟩)
        go_ret
        exact ⟨rfl, hb2.trans (hw9.mono hb2.size)⟩
    · have hke : n = k := by omega
      subst hke
      have hcs : cs.take n = cs := List.take_of_length_le (by have := HN.out; omega)
      have hts2 : ts = (cs.map HopC.h).map textH := by rw [hts.out, hcs]
      have hck2 : ∀ c ∈ cs, checkH c.h = 0 := by have := hck.out; rw [hcs] at this; exact this
      have hal : (cs.map HopC.h).length = n := by rw [List.length_map]; exact HN.out.symm
      have hvne : cs.map HopC.h ≠ [] := by intro e; rw [e] at hal; simp at hal; omega
      have hvck : ∀ v ∈ cs.map HopC.h, checkH v = 0 := fun v hv => by simp at hv; obtain ⟨c, hc, rfl⟩ := hv; exact hck2 c hc
      obtain ⟨c, hc⟩ : ∃ c : Nat, (c : Int) = a1 % ((n : Int) + 1) := ⟨(a1 % ((n : Int) + 1)).toNat, Int.toNat_of_nonneg (Int.emod_nonneg _ (by omega))⟩
      have hcn : c ≤ n := by have := Int.emod_lt_of_pos a1 (show 0 < (n : Int) + 1 by omega); omega
      have hrem : a1 % ((n : Int) + 1) = (c : Int) := hc.symm
      have hrem2 : a1.tmod ((n : Int) + 1) = (c : Int) := by rw [Int.tmod_eq_emod_of_nonneg p1]; exact hc.symm
      have q1 : IntKind.u64.wrap ((n : Int) + 1) = (n : Int) + 1 := by simp [IntKind.wrap, IntKind.signed, IntKind.bits]; omega
      have q2 : IntKind.u64.wrap (c : Int) = (c : Int) := by simp [IntKind.wrap, IntKind.signed, IntKind.bits]; omega
      have q3 : IntKind.i64.wrap (c : Int) = (c : Int) := by simp [IntKind.wrap, IntKind.signed, IntKind.bits]; omega
      have q4 : IntKind.i64.wrap ((n : Int) + 1) = (n : Int) + 1 := by simp [IntKind.wrap, IntKind.signed, IntKind.bits]; omega
      have q5 : (((n : Int) + 1) == 0) = false := by simp; omega
      have S1 := spread_one hvne (by omega) hvck
      have S2 := spread_two hvne (by omega) hvck c (by omega)
      rw [← hts2] at S1 S2
      have htsl : ∀ t ∈ ts, t.length ≤ 4000 := fun t ht => by rw [hts2] at ht; simp at ht; obtain ⟨c, hc, rfl⟩ := ht; exact textH_small (hck2 c hc)
      have htn := htk.out
      have htne : ts ≠ [] := by intro e; rw [e] at htn; simp at htn; omega
      have m1 := small_one (ts := ts) (by omega) htsl
      have m2 := small_two (ts := ts) (by omega) htsl c
      have K1 := hid (fun hv w' (h : HdrsAt w' hv _) => vlist_ok _ hv _ w' S1 m1.1 m1.2 h)
      have K2 := hid (fun hv w' (h : HdrsAt w' hv _) => vlist_ok _ hv _ w' S2 m2.1 m2.2 h)
      rw [hal] at K1 K2
      obtain ⟨g, tc, hxe, hcells⟩ := own_strs hown.out htne
      rw [htn] at hxe
      simp only [Value.slice.injEq] at hxe
      obtain ⟨hxa, _, hxc⟩ := hxe
      subst hxa hxc
      have hgl : g < wr.heap.size := World.block_lt_of_cell? wr ⟨g, 0, none⟩ (hcells 0 (by omega))
      have HCL := hid (fun w' (hb : Below wr.heap.size wr w') j (hj : j < ts.length) => cell_below (a := ⟨g, j, none⟩) hb hgl (hcells j hj))
      have hcap : n ≤ xc := by
        rcases hown.out.2 with ⟨e, _⟩ | ⟨g', cap', cur, e, _, _, h1, _⟩
        · simp at e
        · simp only [Value.slice.injEq, Option.some.injEq, Addr.mk.injEq] at e
          rw [strs_length, htn] at h1
          omega
      have KG1 := hid (fun (h0 : 0 < c) w' (hb : Below wr.heap.size wr w') => glue_take (n := n) (cap := xc) (HCL.out w' hb) (by omega) htsl c h0 (by omega))
      have KG2 := hid (fun (h0 : c < n) w' (hb : Below wr.heap.size wr w') => glue_drop (n := n) (cap := xc - c) (HCL.out w' hb) (by omega) htsl c (by omega))
      rw [htn] at KG2
      have HTW : Hid (twoH ts c = toH :: ((if 0 < c then [⟨viaU, joinT [44] (ts.take c)⟩] else []) ++ (if c < n then [⟨viaS, joinT [32, 44, 32] (ts.drop c)⟩] else []))) := show _ = _ by rw [← htn]; rfl
      have HRN := hid (rec_two wr)
      have HREC := hid hrec.out
      have hbw := hrec.out.below
      have HVS := hid (show (cs.map HopC.h).length = n from hal)
      generalize hvs : cs.map HopC.h = vs at K1 K2 HVS hts2 S1 S2 hvne hvck hal
      have HVE := hid hvs
      clear hvs
      clear hcs hts hck hts2 hck2 hal hvne hvck hc S1 S2 htsl htne m1 m2 htn hown hcells hrec
      generalize joinT [44] (ts.take c) = J1 at KG1 HTW
      generalize joinT [32, 44, 32] (ts.drop c) = J2 at KG2 HTW
      generalize twoH ts c = TH at K2 HTW
      go_upto_if 73 with fail
      obtain ⟨W, hW⟩ : ∃ W, W = (wr.alloc (.cells #[.string ⟨#[84, 111]⟩, .string ⟨#[120]⟩] 47)).alloc (.cells #[.string ⟨#[]⟩, .string ⟨#[]⟩, .int .i64 0, .string ⟨#[]⟩, .slice (some ⟨wr.heap.size, 0, none⟩) 1 1, .string ⟨#[]⟩] 45) := ⟨_, rfl⟩
      rw [← hW] at HRN ⊢
      clear hW
      go_cut [10] from 73 to 83 (fun s10 wx => s10 = .int .i64 c ∧ ∃ v, Hid (RecM wr wx (wr.heap.size + 1) ([toH] ++ (if 0 < c then [⟨viaU, J1⟩] else [])) v))
      case first =>
        by_cases h0 : 0 < c
        · have h0' : (0 : Int) < (c : Int) := by omega
          go_wp2
          have HDA := hid (HRN.out.step ((Below.refl _ _).drew))
          have hcx : c ≤ xc := by omega
          have x4 := HDA.out.row.cell 4 (by simp)
          simp only [List.getElem_cons_succ, List.getElem_cons_zero] at x4
          go_region_law (first
            | (refine step_appH rfl (.tmp 75) (.tmp 81) 43 rfl wr.heap.size j0 _ Tryd.underlying43 hj hy0 hy1 hy2 rfl _ [toH] rfl (HXA.out _).own ⟨_, 0, none⟩ 1 ⟨viaU, J1⟩ rfl (by exact HHA.out) (by first | omega | simp) wr (HXA.out _).below (HXA.out _).below.size ?_; intro v5 w5 hown5 hb5 hgr5 hB5; have HA := hid ((HXA.out _).app hgr5 hb5 hown5); have hrow5 := (HXA.out _).rowH hgr5; have g4 := hrow5.cell 4 (by simp); have f4 := hrow5.frozen 4; simp only [List.getElem_cons_succ, List.getElem_cons_zero] at g4; (obtain ⟨oa, oc, hoe⟩ := hown5.hdrsAt.form); simp only [List.length_append, List.length_cons, List.length_nil, Nat.zero_add] at hoe; subst hoe; clear hown5 hgr5 hrow5)
            | (go_simp; go_at_call 24; refine (KG1.out h0 _ HDA.out.below).mono ?_; rintro e w4 ⟨rfl, hw4⟩; have HFA := hid (HDA.out.step hw4); have g4 := HFA.out.row.cell 4 (by simp); simp only [List.getElem_cons_succ, List.getElem_cons_zero] at g4; have HXA := hid (fun o => HFA.out.step ((Below.refl _ w4).alloc (Nat.le_refl _) o)); have HHA := hid (new_hdr w4 ⟨viaU, J1⟩ 47); have g4a := fun o => (HXA.out o).row.cell 4 (by simp); simp only [List.getElem_cons_succ, List.getElem_cons_zero] at g4a))
          all_goals (
            go_wp2_with fail
            go_meet
            case rel => exact ⟨rfl, _, hid (by rw [if_pos h0]; exact HA.out)⟩)

        · have h0' : ¬ ((0 : Int) < (c : Int)) := by omega
          have h0d : decide ((0 : Int) < (c : Int)) = false := decide_eq_false h0'
          go_wp2
          go_meet
          case rel => exact ⟨rfl, _, hid (by rw [if_neg h0]; exact (by simpa using HRN.out))⟩
      case rest =>
        obtain ⟨rfl, va, HM1⟩ := hcut
        obtain ⟨oa, oc, hoe⟩ := HM1.out.own.hdrsAt.form
        subst hoe
        obtain ⟨HA1, hHA1⟩ : ∃ l, l = [toH] ++ (if 0 < c then [⟨viaU, J1⟩] else []) := ⟨_, rfl⟩
        rw [← hHA1] at HM1
        have HHA := hid hHA1
        have hla : HA1.length ≤ 2 := by rw [hHA1]; split <;> simp
        clear hHA1
        go_upto_if 87 with fail
        go_cut [10] from 87 to 97 (fun s10 wx => s10 = .int .i64 c ∧ ∃ v, Hid (RecM wr wx (wr.heap.size + 1) (HA1 ++ (if c < n then [⟨viaS, J2⟩] else [])) v))
        case first =>
          by_cases h0 : c < n
          · have h0' : (c : Int) < (n : Int) := by omega
            have hxn : ¬ (xc = c) := by omega
            go_wp2
            have HDB := hid (HM1.out.step ((Below.refl _ _).drew))
            have hcx : c ≤ xc := by omega
            have x4 := HDB.out.row.cell 4 (by simp)
            simp only [List.getElem_cons_succ, List.getElem_cons_zero] at x4
            go_region_law (first
              | (refine step_appH rfl (.tmp 89) (.tmp 95) 43 rfl wr.heap.size j0 _ Tryd.underlying43 hj hy0 hy1 hy2 rfl _ HA1 rfl (HXB.out _).own ⟨_, 0, none⟩ 1 ⟨viaS, J2⟩ rfl (by exact HHB.out) (by first | omega | simp) wr (HXB.out _).below (HXB.out _).below.size ?_; intro v5 w5 hown5 hb5 hgr5 hB5; have HB := hid ((HXB.out _).app hgr5 hb5 hown5); have hrow5 := (HXB.out _).rowH hgr5; have g4 := hrow5.cell 4 (by simp); have f4 := hrow5.frozen 4; simp only [List.getElem_cons_succ, List.getElem_cons_zero] at g4; (obtain ⟨oa, oc, hoe⟩ := hown5.hdrsAt.form); simp only [List.length_append, List.length_cons, List.length_nil, Nat.zero_add] at hoe; subst hoe; clear hown5 hgr5 hrow5)
              | (go_simp; go_at_call 24; refine (KG2.out h0 _ HDB.out.below).mono ?_; rintro e w4 ⟨rfl, hw4⟩; have HFB := hid (HDB.out.step hw4); have g4 := HFB.out.row.cell 4 (by simp); simp only [List.getElem_cons_succ, List.getElem_cons_zero] at g4; have HXB := hid (fun o => HFB.out.step ((Below.refl _ w4).alloc (Nat.le_refl _) o)); have HHB := hid (new_hdr w4 ⟨viaS, J2⟩ 47); have g4a := fun o => (HXB.out o).row.cell 4 (by simp); simp only [List.getElem_cons_succ, List.getElem_cons_zero] at g4a))
            all_goals (
              go_wp2_with fail
              go_meet
              case rel => exact ⟨rfl, _, hid (by rw [if_pos h0]; exact HB.out)⟩)

          · have h0' : ¬ ((c : Int) < (n : Int)) := by omega
            have h0d : decide ((c : Int) < (n : Int)) = false := decide_eq_false h0'
            go_wp2
            go_meet
            case rel => exact ⟨rfl, _, hid (by rw [if_neg h0]; exact (by simpa using HM1.out))⟩
        case rest =>
          obtain ⟨rfl, vb, HM2⟩ := hcut
          obtain ⟨ob, od, hoe⟩ := HM2.out.own.hdrsAt.form
          subst hoe
          have HT2 : Hid (HA1 ++ (if c < n then [⟨viaS, J2⟩] else []) = TH) := show _ = _ by rw [HHA.out, HTW.out]; simp
          rw [HT2.out] at HM2
          generalize TH.length = thn at HM2
          have hbc := HM2.out.below
          have HRM := hid (HREC.out.row.below hbc HREC.out.hi)
          have HHM := hid (HREC.out.own.hdrsAt.below hbc)
          clear HM1 HREC HRN HCL KG1 KG2 HTW HHA HT2
          have z0 := HRM.out.cell 0 (by simp)
          have z1 := HRM.out.cell 1 (by simp)
          have z2 := HRM.out.cell 2 (by simp)
          have z3 := HRM.out.cell 3 (by simp)
          have z4 := HRM.out.cell 4 (by simp)
          have z5 := HRM.out.cell 5 (by simp)
          simp only [List.getElem_cons_succ, List.getElem_cons_zero] at z0 z1 z2 z3 z4 z5
          go_wp2_with fail
          refine (K1.out _ _ HHM.out).mono ?_
          rintro e w6 ⟨a6, c6, cs6, rfl, hm6, hp6, hw6⟩
          have HRN6 := hid (HM2.out.row.below hw6 HM2.out.hi)
          have HHN := hid (HM2.out.own.hdrsAt.below hw6)
          have P6 := hid hp6
          have HM6 := hid hm6
          have hb6 := (hbw.trans (hbc.mono hbw.size)).trans (hw6.mono (Nat.le_trans hbw.size hbc.size))
          clear z0 z1 z2 z3 z4 z5 K1 HHM HRM HM2 hbc hbw hw6 hp6 hm6
          have z0 := HRN6.out.cell 0 (by simp)
          have z1 := HRN6.out.cell 1 (by simp)
          have z2 := HRN6.out.cell 2 (by simp)
          have z3 := HRN6.out.cell 3 (by simp)
          have z4 := HRN6.out.cell 4 (by simp)
          have z5 := HRN6.out.cell 5 (by simp)
          simp only [List.getElem_cons_succ, List.getElem_cons_zero] at z0 z1 z2 z3 z4 z5
          go_wp2_with fail
          refine (K2.out _ _ HHN.out).mono ?_
          rintro e w7 ⟨a7, c7, cs7, rfl, hm7, hp7, hw7⟩
          have P7 := hid hp7
          have HM7 := hid hm7
          have P6' := hid (P6.out.below hw7)
          have hb7 := hb6.trans (hw7.mono hb6.size)
          have hl6 : cs6.length ≤ 1048576 := by have h1 := congrArg List.length HM6.out; have h2 := HVS.out; rw [List.length_map] at h1; omega
          have hl7 : cs7.length ≤ 1048576 := by have h1 := congrArg List.length HM7.out; have h2 := HVS.out; rw [List.length_map] at h1; omega
          have HS6 : Hid (∀ c ∈ cs6, SmallV 140737488355328 c.h) := fun x hx => by
            have h1 : x.h ∈ cs6.map HopC.h := List.mem_map_of_mem hx
            rw [HM6.out, ← HVE.out] at h1
            simp only [List.mem_map] at h1
            obtain ⟨y, hy, e⟩ := h1
            rw [← e]; exact HSM.out y hy
          have HS7 : Hid (∀ c ∈ cs7, SmallV 140737488355328 c.h) := fun x hx => by
            have h1 : x.h ∈ cs7.map HopC.h := List.mem_map_of_mem hx
            rw [HM7.out, ← HVE.out] at h1
            simp only [List.mem_map] at h1
            obtain ⟨y, hy, e⟩ := h1
            rw [← e]; exact HSM.out y hy
          have HE6 := hid (HM6.out.trans HVE.out.symm)
          have HE7 := hid (HM7.out.trans HVE.out.symm)
          clear z0 z1 z2 z3 z4 z5 K2 HHN HRN6 P6 hb6 hw7 hp7 hm7 HM6 HM7
          go_wp2_with fail
          refine (vall_any _ _ cs6 cs _ hl6 HS6.out HE6.out P6'.out (HAT.out.below hb7)).mono ?_
          rintro e w8 ⟨rfl, hw8⟩
          have hb8 := hb7.trans (hw8.mono hb7.size)
          have P7' := hid (P7.out.below hw8)
          clear P6' P7 hb7 hw8
          go_wp2_with fail
          refine (vall_any _ _ cs7 cs _ hl7 HS7.out HE7.out P7'.out (HAT.out.below hb8)).mono ?_
          rintro e wA ⟨rfl, hwA⟩
          have hbA := hb8.trans (hwA.mono hb8.size)
          clear P7' hb8 hwA
          go_wp2_with (go_at_call 9; refine (awake7_any _).mono ?_; rintro e w9 ⟨rfl, hw9⟩)
          go_ret
          exact ⟨rfl, hbA.trans (hw9.mono hbA.size)⟩


end Go.Proofs.YtpcgomfiihhpcaaDoor.viaSpread
