/-
  The walk of the law ServerPlays.
-/
import Derived.Test.YtbnmdljlfldgoaaPDoes
import Derived.Lib.QuietBelow
import Derived.BigQuiet
namespace Go.Proofs.Ytbnmdljlfldgoaa.serverPlays
open Go.RowKit Go.Sort
set_option linter.unusedVariables false
set_option maxRecDepth 20000
set_option linter.unusedSimpArgs false

theorem follows11 : Try.prog.follows .mixedOrders = true := by kernel_rfl
set_option maxHeartbeats 2000000 in
set_option maxRecDepth 100000 in
theorem law_walk (w : World) (a0 : Int) (v1 : Value) (w0 : (Lit.int .i64 a0).wf = true) (k1 : AcsIn 140737488351232 w v1) :
    Calls Try.prog 3 #[.int .i64 a0, v1] w fun e w' => e = .returned (.bool true) ∧ Below w.heap.size w w' := by
  obtain ⟨acts, hat, hao⟩ := k1
  have HI := hid hat
  have HO := hid hao
  obtain ⟨ao, cap, rfl, _⟩ := hat
  obtain ⟨n, hnn⟩ : ∃ n, n = acts.length := ⟨_, rfl⟩
  rw [← hnn] at HI ⊢
  have HN := hid hnn
  clear hnn hao
  have KW := hid awake11_any
  by_cases hbad : a0 < 1 ∨ 200 < a0
  · have KN := hid (snew_bad w hbad)
    by_cases h1 : a0 < 1
    · clear hbad
      go_enter Try.func3, Try.ntmps3
      go_wp2_with (first
        | (go_at_call 9; refine KN.out.mono ?_; rintro e wx ⟨rfl, hwx⟩; rw [hwx]; clear hwx)
        | (go_at_call 10; refine (KW.out _).mono ?_; rintro e w9 ⟨rfl, hw9⟩; replace hw9 := hid hw9))
      go_ret
      exact ⟨rfl, hw9.out⟩
    · have h2 : 200 < a0 := by omega
      clear hbad
      go_enter Try.func3, Try.ntmps3
      go_wp2_with (first
        | (go_at_call 9; refine KN.out.mono ?_; rintro e wx ⟨rfl, hwx⟩; rw [hwx]; clear hwx)
        | (go_at_call 10; refine (KW.out _).mono ?_; rintro e w9 ⟨rfl, hw9⟩; replace hw9 := hid hw9))
      go_ret
      exact ⟨rfl, hw9.out⟩
  have n1 : ¬ a0 < 1 := by omega
  have n2 : ¬ 200 < a0 := by omega
  clear hbad
  go_enter Try.func3, Try.ntmps3
  go_wp2_with fail
  refine (snew_ok w (most := a0) (by omega) (by omega)).mono ?_
  rintro e wa ⟨bt, rfl, T1, B1⟩
  have hb2 : Below wa.heap.size wa (wa.alloc (.cells #[.int .i64 a0, .int .i64 0, .slice none 0 0] 31)) := (Below.refl _ wa).alloc (Nat.le_refl _) _
  have BO : Hid (∃ t v, Bo w.heap.size bt wa.heap.size (wa.alloc (.cells #[.int .i64 a0, .int .i64 0, .slice none 0 0] 31)) t v ∧ t.last ≤ 0) := ⟨⟨a0, 0, []⟩, .slice none 0 0, ⟨T1.below hb2, sv_row3 wa _ _ _ _, OwnC.nil _ _, B1.size⟩, by simp⟩
  have HB := hid (B1.trans (hb2.mono B1.size))
  clear T1 B1 hb2
  go_wp2
  generalize wa.alloc _ = W at BO HB ⊢
  go_loopw [8] (fun i wr => ∃ k : Nat, k ≤ n ∧ k ≤ 60 ∧ i = .int .i64 k ∧ Hid (∃ t v, Bo w.heap.size bt wa.heap.size wr t v ∧ t.last ≤ k) ∧ Hid (Below w.heap.size w wr)) (fun i _ => n - (intOf i).toNat)
  case atStart => exact ⟨0, by omega, by omega, rfl, BO, HB⟩
  case round =>
    clear BO HB
    obtain ⟨k, hk, hk5, rfl, BO, HB⟩ := hrel
    by_cases hlt : k < n
    case neg =>
      have hlt' : decide ((k : Int) < (n : Int)) = false := decide_eq_false (by omega)
      clear BO
      go_wp2_with fail
      refine (KW.out _).mono ?_
      rintro e w9 ⟨rfl, hw9⟩
      go_wp2
      go_ret
      exact ⟨rfl, HB.out.trans (hw9.mono HB.out.size)⟩
    have hlt' : (k : Int) < (n : Int) := by omega
    by_cases h5 : k < 60
    case neg =>
      have h5' : decide ((k : Int) < 60) = false := decide_eq_false (by omega)
      clear BO
      go_wp2_with fail
      refine (KW.out _).mono ?_
      rintro e w9 ⟨rfl, hw9⟩
      go_wp2
      go_ret
      exact ⟨rfl, HB.out.trans (hw9.mono HB.out.size)⟩
    have h5' : (k : Int) < 60 := by omega
    have hkl : k < acts.length := by rw [← HN.out]; exact hlt
    obtain ⟨ao', cap', hv', hc⟩ := HI.out
    injection hv' with e1 e2 e3
    subst e1
    obtain ⟨ad, ha, hlt2, c0, cc⟩ := hc k hkl
    subst ha
    have c0 := accell_below HB.out (by rw [acadd_block]; exact hlt2) c0
    obtain ⟨c1, c2, c3, c4, c5, c6⟩ := cc.below HB.out (by rw [acadd_block]; exact hlt2)
    have ka := HO.out _ (List.getElem_mem hkl)
    clear hc e2 e3 hlt2 cc
    generalize acts[k] = a at ka c0 c1 c2 c3 c4 c5 c6
    have la : ∀ {l : List UInt8}, l.length ≤ 140737488351232 → l.length ≤ 281474976710656 := fun h => by omega
    obtain ⟨t, v, hBo, htl⟩ := BO.out
    have ra := ac_row wr a
    have hb1 : Below wr.heap.size wr (wr.alloc (objA a)) := (Below.refl _ wr).alloc (Nat.le_refl _) _
    have hB1 := hBo.below hb1
    have HB1 := hid (HB.out.trans (hb1.mono HB.out.size))
    generalize hw1 : wr.alloc (objA a) = w1 at ra hb1 hB1 HB1
    unfold objA at hw1
    obtain ⟨x0, x1, x2, x3, x4, x5, x6⟩ := ra.ac
    have hsz1 : w.heap.size ≤ w1.heap.size := HB1.out.size
    have hB1d := hB1.below (Below.refl _ w1).drew
    have hba := ra.lt
    -- does: both keep the same
    have KD := hid (does_any hB1d ka (by omega))
    unfold acV at KD
    clear BO hBo hB1 hB1d hb1 HB
    go_wp2
    clear c0 c1 c2 c3 c4 c5 c6
    have NX : Hid (∀ (w2 : World) (t' : Tb) (v' : Value), Bo w.heap.size bt wa.heap.size w2 t' v' → ∃ oa oc, v' = .slice oa t'.l.length oc) := fun w2 t' v' h => h.own.form
    have hnl : ∀ x : Int, (x != x) = false := fun x => by simp
    go_region_law (first
      | (go_simp; go_at_call 11; refine KD.out.mono ?_; rintro e w2 ⟨rfl, ⟨t', v', B2, hl2, hm2⟩, hw2⟩; (obtain ⟨oa, oc, hv2⟩ := NX.out _ _ _ B2); subst hv2; have y2 := B2.row.sv3.c2; have HB2 := hid B2; have HW2 := hid hw2; clear B2 hw2 hm2)
      | (go_simp; go_at_call 12; refine (tab_len HB2.out.tab).mono ?_; rintro e wx ⟨rfl, hwx⟩; rw [hwx]; clear hwx))
    all_goals (
      have B2 := HB2.out
      have ra2 : RowIs w2 wr.heap.size 33 (acCells a) := HW2.out.row (show RowIs w1.drew wr.heap.size 33 (acCells a) from ra) (by decide) (by decide) (by decide) (by decide) (by decide)
      have HBW := hid ((show Below w.heap.size w w1.drew from HB1.out.drew).trans HW2.out.below)
      have KF := hid (tab_find B2.tab (br := a.br) (hop := a.hop) (me := a.me) (la ka.br) (la ka.hop) (la ka.me))
      have hn2 : t'.l.length ≤ 1000000 := by have := B2.tab.1.len; have := B2.tab.1.most.2; omega
      have cF := hid (fun (d : Nat) (os : Array Obj) => Calls.regrown_of (reffind_any (t := t') (B2.own.below (below_regrown w2 d os)) (br := a.br) (hop := a.hop) (me := a.me) hn2))
      unfold tbV at cF
      obtain ⟨r0, r1, r2, _, _, _⟩ := B2.row.sv3
      obtain ⟨g0, g1, g2, g3, g4, g5, g6⟩ := ra2.ac
      unfold findV at KF
      generalize findT t'.l a.br a.hop a.me = fp at KF cF
      obtain ⟨f1, f2⟩ := fp
      simp only at KF cF
      clear KD x0 x1 x2 x3 x4 x5 x6 y2
      go_wp2_with (go_at_call 13; refine KF.out.mono ?_; rintro e wx ⟨rfl, hwx⟩; rw [hwx]; clear hwx)
      replace r0 := cell_regrown r0
      replace r1 := cell_regrown r1
      replace r2 := cell_regrown r2
      replace g1 := cell_regrown g1
      replace g2 := cell_regrown g2
      replace g3 := cell_regrown g3
      clear g0 g4 g5 g6
      refine wp_region_quiet_below follows11 (by kernel_rfl) ?_
      repeat (go_big_quiet_step (with_reducible exact cF.out _ _))
      refine wpQuiet_nil ?_
      intro _ hw'
      obtain ⟨⟨dq, osq⟩, hw''⟩ := hw'
      subst hw''
      have hq := below_regrown w2 dq osq
      generalize grow _ _ = w3 at hq ⊢
      clear r0 r1 r2 g1 g2 g3 cF KF
      have B3 := B2.below hq
      have ra3 := ra2.below hq ra2.lt
      have HBW3 := HBW.out.trans (hq.mono HBW.out.size)
      have KC := hid (tab_cached B3.tab (id := a.id) ka.id)
      have KR := hid (fun (u : World) (hu : Below w3.heap.size w3 u) => refcached_any (t := t') (B3.own.below hu) (id := a.id) hn2)
      unfold cachedV sentV at KC
      unfold tbV sentV at KR
      generalize cachedT t' a.id = cp at KC KR
      obtain ⟨⟨s1, s2⟩, yb⟩ := cp
      simp only at KC KR
      have g4 := ra3.ac.c4
      go_wp2_with fail
      refine KC.out.mono ?_
      rintro e w4 ⟨rfl, hb4⟩
      have hb5 : Below w4.heap.size w4 (w4.alloc (.cells #[.string ⟨s1.toArray⟩, .string ⟨s2.toArray⟩] 39)) := (Below.refl _ w4).alloc (Nat.le_refl _) _
      have rs5 := sv_row2 w4 (.string ⟨s1.toArray⟩) (.string ⟨s2.toArray⟩) 39
      generalize hw5 : w4.alloc (.cells #[.string ⟨s1.toArray⟩, .string ⟨s2.toArray⟩] 39) = w5 at hb5 rs5
      have hb35 := hb4.trans (hb5.mono hb4.size)
      have B5 := B3.below hb35
      have ra5 := ra3.below hb35 ra3.lt
      have HBW5 := HBW3.trans (hb35.mono HBW3.size)
      have hg := guardSe
      have hqq : ∀ u, (binOp .neq 39 (.agg #[.string ⟨s1.toArray⟩, .string ⟨s2.toArray⟩]) (.agg #[.string ⟨s1.toArray⟩, .string ⟨s2.toArray⟩])).run Try.prog u = .ok (.bool false) u := fun u => by have := neqSe (s1, s2) (s1, s2) u; simpa using this
      have hd5 : Below w5.heap.size w5 w5.drew := (Below.refl _ _).drew
      have hz5 : Below w5.heap.size w5 (w5.alloc (.cells #[.string ⟨#[]⟩, .string ⟨#[]⟩] 39)).drew := ((Below.refl _ w5).alloc (Nat.le_refl _) _).drew
      have lz5 : w5.heap.size < (w5.alloc (.cells #[.string ⟨#[]⟩, .string ⟨#[]⟩] 39)).drew.heap.size := alloc_lt w5 _
      have rz := sv_row2 w5 (.string ⟨#[]⟩) (.string ⟨#[]⟩) 39
      obtain ⟨r0, r1, r2, _, _, _⟩ := (show RowIs w5.drew _ _ _ from B5.row).sv3
      have g4' : w5.drew.cell? ⟨wr.heap.size, 4, none⟩ = some (.int .i64 a.id) := ra5.ac.c4
      have B7 := B5.below hz5
      obtain ⟨m0, m1, m2, _, _, _⟩ := B7.row.sv3
      have g4z := (ra5.below hz5 ra5.lt).ac.c4
      have K1 := hid (KR.out w5.drew (hb35.drew))
      have K2 := hid (KR.out (w5.alloc (.cells #[.string ⟨#[]⟩, .string ⟨#[]⟩] 39)).drew (hb35.trans (hz5.mono hb35.size)))
      have hbr5 : wa.heap.size < w5.heap.size := B5.row.lt
      have hba5 : wr.heap.size < w5.heap.size := ra5.lt
      have hsn5 : w4.heap.size < w5.heap.size := rs5.lt
      have NA : Hid (∀ w6 : World, Below w5.drew.heap.size w5.drew w6 → Row2 (w6.alloc (.cells #[.string ⟨s1.toArray⟩, .string ⟨s2.toArray⟩] 39)) w4.heap.size (.string ⟨s1.toArray⟩) (.string ⟨s2.toArray⟩) ∧ Row2 (w6.alloc (.cells #[.string ⟨s1.toArray⟩, .string ⟨s2.toArray⟩] 39)) w6.heap.size (.string ⟨s1.toArray⟩) (.string ⟨s2.toArray⟩) ∧ Bo w.heap.size bt wa.heap.size (w6.alloc (.cells #[.string ⟨s1.toArray⟩, .string ⟨s2.toArray⟩] 39)) t' (.slice oa t'.l.length oc) ∧ Below w.heap.size w (w6.alloc (.cells #[.string ⟨s1.toArray⟩, .string ⟨s2.toArray⟩] 39))) := fun w6 h6 => by
        have hb : Below w5.heap.size w5 (w6.alloc (.cells #[.string ⟨s1.toArray⟩, .string ⟨s2.toArray⟩] 39)) := (hd5.trans h6).alloc (hd5.trans h6).size _
        exact ⟨(rs5.below hb rs5.lt).sv2, (sv_row2 w6 _ _ _).sv2, B5.below hb, HBW5.trans (hb.mono HBW5.size)⟩
      have NB : Hid (∀ w6 : World, Below (w5.alloc (.cells #[.string ⟨#[]⟩, .string ⟨#[]⟩] 39)).drew.heap.size (w5.alloc (.cells #[.string ⟨#[]⟩, .string ⟨#[]⟩] 39)).drew w6 → Row2 w6 w5.heap.size (.string ⟨#[]⟩) (.string ⟨#[]⟩) ∧ Row2 ((w6.setCell ⟨w5.heap.size, 0, none⟩ (.string ⟨s1.toArray⟩)).setCell ⟨w5.heap.size, 1, none⟩ (.string ⟨s2.toArray⟩)) w4.heap.size (.string ⟨s1.toArray⟩) (.string ⟨s2.toArray⟩) ∧ Row2 ((w6.setCell ⟨w5.heap.size, 0, none⟩ (.string ⟨s1.toArray⟩)).setCell ⟨w5.heap.size, 1, none⟩ (.string ⟨s2.toArray⟩)) w5.heap.size (.string ⟨s1.toArray⟩) (.string ⟨s2.toArray⟩) ∧ Bo w.heap.size bt wa.heap.size ((w6.setCell ⟨w5.heap.size, 0, none⟩ (.string ⟨s1.toArray⟩)).setCell ⟨w5.heap.size, 1, none⟩ (.string ⟨s2.toArray⟩)) t' (.slice oa t'.l.length oc) ∧ Below w.heap.size w ((w6.setCell ⟨w5.heap.size, 0, none⟩ (.string ⟨s1.toArray⟩)).setCell ⟨w5.heap.size, 1, none⟩ (.string ⟨s2.toArray⟩))) := fun w6 h6 => by
        have hr6 : RowIs w6 w5.heap.size 39 [.string ⟨#[]⟩, .string ⟨#[]⟩] := (show RowIs (w5.alloc (.cells #[.string ⟨#[]⟩, .string ⟨#[]⟩] 39)).drew w5.heap.size _ _ from rz).below h6 lz5
        have hb0 : Below w5.heap.size w5 w6 := hz5.trans (h6.mono (Nat.le_of_lt lz5))
        have hb := sv_below2 hb0 w5.heap.size (Nat.le_refl _) (.string ⟨s1.toArray⟩) (.string ⟨s2.toArray⟩)
        exact ⟨hr6.sv2, (rs5.below hb rs5.lt).sv2, (sv_store2 hr6 _ _).sv2, B5.below hb, HBW5.trans (hb.mono HBW5.size)⟩
      have hff : (f2 != f2) = false := by simp
      have hyy : (yb != yb) = false := by simp
      have hf1 : (f1 != f1) = false := by simp
      clear hb4 hb5 rs5 hb35 B5 ra5 HBW5 hd5 hz5 lz5 rz B7 KC KR B2 B3 ra2 ra3 HBW3 HBW HB2 HW2 hq ra g4
      go_wp2
      go_region_law (first
        | (go_simp; go_at_call 16; refine K1.out.mono ?_; rintro e w6 ⟨rfl, hb6⟩; (obtain ⟨⟨p0, p1, _, _⟩, ⟨q0, q1, _, _⟩, hBF, hBL⟩ := NA.out w6 hb6); replace hBF := hid hBF; replace hBL := hid hBL; clear hb6; generalize hwF : w6.alloc (.cells #[.string ⟨s1.toArray⟩, .string ⟨s2.toArray⟩] 39) = wF at p0 p1 q0 q1 hBF hBL)
        | (go_simp; go_at_call 16; refine K2.out.mono ?_; rintro e w6 ⟨rfl, hb6⟩; (obtain ⟨⟨i0, i1, i2, i3⟩, ⟨p0, p1, _, _⟩, ⟨q0, q1, _, _⟩, hBF, hBL⟩ := NB.out w6 hb6); replace hBF := hid hBF; replace hBL := hid hBL; clear hb6; generalize hwF : (w6.setCell ⟨w5.heap.size, 0, none⟩ (.string ⟨s1.toArray⟩)).setCell ⟨w5.heap.size, 1, none⟩ (.string ⟨s2.toArray⟩) = wF at p0 p1 q0 q1 hBF hBL))
      all_goals (
        clear K1 K2 NA NB r0 r1 r2 g4' m0 m1 m2 g4z
        go_wp2
        go_roundw
        case rel => exact ⟨k + 1, by omega, by omega, by go_num, ⟨t', _, hBF.out, by omega⟩, hBL⟩
        case measure => simp [intOf]; omega))
end Go.Proofs.Ytbnmdljlfldgoaa.serverPlays
