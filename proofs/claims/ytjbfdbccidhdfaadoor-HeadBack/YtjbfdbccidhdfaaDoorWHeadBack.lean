/-
  The walk of the law HeadBack.
-/
import Derived.Test.YtjbfdbccidhdfaaDoorHOnceL
import Derived.Deep.CutRange
namespace Go.Proofs.YtjbfdbccidhdfaaDoor.headBack
open Go.RowKit Go.Sort Sc
set_option linter.unusedVariables false
set_option maxRecDepth 20000

set_option maxHeartbeats 4000000 in
set_option maxRecDepth 100000 in
theorem law_walk (w : World) (a0 : Int) (a1 : ByteArray) (v2 v3 : Value) (u0 : (Lit.int .i64 a0).wf = true) (b1 : a1.size ≤ 140737488351232) (k2 : EvIn 140737488351232 w v2) (k3 : SttIn 140737488351232 v3) :
    Calls Tryd.prog 7 #[.int .i64 a0, .string a1, v2, v3] w fun e w' => e = .returned (.bool true) ∧ Below w.heap.size w w' := by
  obtain ⟨m, rfl⟩ : ∃ l : List UInt8, a1 = ⟨l.toArray⟩ := ⟨a1.data.toList, by simp⟩
  rw [size_list] at b1
  obtain ⟨p1, p2⟩ := i64_of u0
  obtain ⟨⟨x, q⟩, rfl, hatx, hsx0⟩ := k2
  obtain ⟨y, rfl, hy1, hy2, hwf⟩ := k3
  have hsx := hsx0.le (show 140737488351232 ≤ 140737488355328 by omega)
  have K1 := hid (fun w' => hcseq_any a0 m w' p1 p2 (by omega))
  have KP := hid (fun w' (hb : Below w.heap.size w w') => hevprint_any ⟨x, q⟩ w' (hsx0.le (show 140737488351232 ≤ 140737488355328 by omega)) (hatx.below hb))
  have KS := hid (fun w' => hshow_any y w' (by omega) (by omega) hwf)
  have HAT := hid (fun w' (hb : Below w.heap.size w w') => hatx.below hb)
  have HSE : Hid (∀ t, cseqV a0 m = (t, 0) → t.length ≤ 8192 ∧ seqV t = (a0, m, 0)) := fun t h => by
    refine ⟨?_, seq_back h⟩
    unfold cseqV at h
    split at h
    · simp at h
    · rename_i hc
      simp only [not_or, Bool.not_eq_false] at hc
      have h1 := (tok_facts hc.2.2).2.1
      have h2 := digL_len19 (n := a0.toNat) (by omega)
      simp only [Prod.mk.injEq, and_true] at h
      subst h
      simp only [List.length_append, List.length_cons, List.length_nil]; omega
  have HEV : Hid (∀ t, evPrint x = (t, 0) → t.length ≤ 8192 ∧ eventV t = (x, 0) ∧ SmallE 140737488355328 x ∧ evIs x x = true) := fun t h => by
    unfold evPrint at h
    split at h
    · rename_i hb
      simp only [Prod.mk.injEq, and_true] at h
      subst h
      exact ⟨evT_small hb, event_back hb, (ev_ok_small hb).le (by omega), by unfold evIs; simp⟩
    · simp at h
  have HST : Hid (∀ t, sttShow y = (t, 0) → t.length ≤ 8192 ∧ stateV t = (y, 0)) := fun t h => by
    unfold sttShow at h
    split at h
    · rename_i hb
      simp only [Prod.mk.injEq, and_true] at h
      subst h
      exact ⟨sttT_small hb, stt_back hb⟩
    · simp at h
  have hbx := boxE_new w x q
  have hb0 : Below w.heap.size w (w.alloc (objE x q)) := (Below.refl _ w).alloc (Nat.le_refl _) _
  have hlt := alloc_lt w (objE x q)
  have hby := boxS_new (w.alloc (objE x q)) y
  have hb1 : Below w.heap.size w ((w.alloc (objE x q)).alloc (objS y)) := hb0.alloc hb0.size _
  have hbz := hbx.below ((Below.refl _ (w.alloc (objE x q))).alloc (Nat.le_refl _) (objS y)) hlt
  have hlty := alloc_lt (w.alloc (objE x q)) (objS y)
  have hltx := Nat.lt_trans hlt hlty
  have hs1 : (w.alloc (objE x q)).heap.size = w.heap.size + 1 := by simp
  rw [hs1] at hby hlty
  clear hbx hb0 hlt
  obtain ⟨a3, c3, hq⟩ := hatx.1.form
  simp only at hq KP HAT
  subst hq
  clear hatx hsx hsx0 hy1 hy2 hwf
  have hg := guardStt
  have hcmp : ∀ u, (binOp .neq 50 (.agg #[.string ⟨y.name.toArray⟩, .int .i64 y.expires, .string ⟨y.reason.toArray⟩]) (.agg #[.string ⟨y.name.toArray⟩, .int .i64 y.expires, .string ⟨y.reason.toArray⟩])).run Tryd.prog u = .ok (.bool false) u := fun u => by
    have h := neqStt y y u
    simp only [decide_true, Bool.not_true] at h
    exact h
  have HX := hid hbz
  have HY := hid hby
  clear hbz hby hs1
  obtain ⟨t1, e1, hc1⟩ : ∃ t e, cseqV a0 m = (t, e) := ⟨_, _, rfl⟩
  obtain ⟨t2, e2, hc2⟩ : ∃ t e, evPrint x = (t, e) := ⟨_, _, rfl⟩
  obtain ⟨t3, e3, hc3⟩ : ∃ t e, sttShow y = (t, e) := ⟨_, _, rfl⟩
  rw [hc1] at K1
  rw [hc2] at KP
  rw [hc3] at KS
  have H1 : Hid (e1 = 0 → t1.length ≤ 8192 ∧ seqV t1 = (a0, m, 0)) := fun h => HSE.out t1 (by rw [hc1, h])
  have H2 : Hid (e2 = 0 → t2.length ≤ 8192 ∧ eventV t2 = (x, 0) ∧ SmallE 140737488355328 x ∧ evIs x x = true) := fun h => HEV.out t2 (by rw [hc2, h])
  have H3 : Hid (e3 = 0 → t3.length ≤ 8192 ∧ stateV t3 = (y, 0)) := fun h => HST.out t3 (by rw [hc3, h])
  clear HSE HEV HST hc1 hc2 hc3
  obtain ⟨xn, xp⟩ := x
  obtain ⟨yn, yx, yr⟩ := y
  unfold evV sttV
  unfold evV at KP
  unfold sttV at KS
  unfold objE objS at HX HY hb1 hltx hlty
  simp only at K1 KP KS HX HY hb1 hltx hlty hcmp ⊢
  go_enter Tryd.func7, Tryd.ntmps7
  go_wp2_with fail
  refine (K1.out _).mono ?_
  rintro e w1 ⟨rfl, hw1⟩
  generalize World.alloc (World.alloc w _) _ = W0 at HX HY hb1 hltx hlty hw1
  clear K1
  go_upto_if 25 with fail
  go_cut [8] from 11 to 43 (fun s8 wx => s8 = .bool false ∧ Below W0.heap.size W0 wx)
  case first =>
    by_cases h0 : e1 = 0
    · obtain ⟨hl, hsq⟩ := H1.out h0
      subst h0
      have KQ := hid (fun w' => hseq_any t1 w' (by omega))
      rw [hsq] at KQ
      simp only at KQ
      clear hsq
      have z1 : (a0 != a0) = false := by simp
      have z2 : (m != m) = false := by simp
      go_wp2_with fail
      refine (KQ.out _).mono ?_
      rintro e w2 ⟨rfl, hw2⟩
      have hb2 := hw1.trans (hw2.mono hw1.size)
      clear hw2
      go_wp2
      go_meet
      case rel => exact ⟨rfl, hb2⟩
    · have h0b : (e1 == 0) = false := by simpa using h0
      go_wp2
      go_meet
      case rel => exact ⟨rfl, hw1⟩
  case rest =>
    obtain ⟨rfl, hbc⟩ := hcut
    clear H1 hw1
    have HXc := hid (BoxE.below HX.out hbc hltx)
    obtain ⟨x0, x1⟩ := HXc.out
    simp only at x0 x1
    have hbw := hb1.trans (hbc.mono hb1.size)
    go_wp2_with fail
    refine (KP.out _ hbw).mono ?_
    rintro e w3 ⟨rfl, hw3⟩
    have hb3 := hbc.trans (hw3.mono hbc.size)
    clear x0 x1 HXc hw3 hbc hbw KP
    have HX3 := hid (BoxE.below HX.out hb3 hltx)
    obtain ⟨x0, x1⟩ := HX3.out
    simp only at x0 x1
    by_cases h0 : e2 = 0
    case neg =>
      have h0b : (e2 == 0) = false := by simpa using h0
      clear H2
      have HYc := hid (BoxS.below HY.out hb3 hlty)
      obtain ⟨y0, y1, y2⟩ := HYc.out
      simp only at y0 y1 y2
      go_wp2_with fail
      refine (KS.out _).mono ?_
      rintro e w7 ⟨rfl, hw7⟩
      have hb7 := hb3.trans (hw7.mono hb3.size)
      have HY7 := hid (BoxS.below HY.out hb7 hlty)
      clear y0 y1 y2 HYc hw7 hb3 KS x0 x1 HX3
      obtain ⟨y0, y1, y2⟩ := HY7.out
      simp only at y0 y1 y2
      by_cases h3 : e3 = 0
      · obtain ⟨hl3, hst⟩ := H3.out h3
        subst h3
        have KT := hid (fun w' => hstate_any t3 w' (by omega))
        rw [hst] at KT
        unfold sttV at KT
        simp only at KT
        clear hst H3
        go_wp2_with fail
        refine (KT.out _).mono ?_
        rintro e w8 ⟨rfl, hw8⟩
        have hb8 := hb7.trans (hw8.mono hb7.size)
        have hA8 : ∀ o, Below w8.heap.size w8 (w8.alloc o) := fun o => (Below.refl _ w8).alloc (Nat.le_refl _) o
        have HB8 := hid (fun o => hb8.trans ((hA8 o).mono hb8.size))
        have HY8 := fun o => BoxS.below HY.out (HB8.out o) hlty
        clear y0 y1 y2 HY7 hw8 hb8 hA8 KT
        have y0 := fun o => (HY8 o).1
        have y1 := fun o => (HY8 o).2.1
        have y2 := fun o => (HY8 o).2.2
        simp only at y0 y1 y2
        have HBW := hid (fun o => hb1.trans ((HB8.out o).mono hb1.size))
        clear HY8
        go_wp2_with (go_at_call 17; refine (awake8_any _).mono ?_; rintro e w9 ⟨rfl, hw9⟩)
        go_ret
        exact ⟨rfl, (HBW.out _).trans (hw9.mono (HBW.out _).size)⟩
      · have h3b : (e3 == 0) = false := by simpa using h3
        have hbW := hb1.trans (hb7.mono hb1.size)
        go_wp2_with (go_at_call 17; refine (awake8_any _).mono ?_; rintro e w9 ⟨rfl, hw9⟩)
        go_ret
        exact ⟨rfl, hbW.trans (hw9.mono hbW.size)⟩

    obtain ⟨hl, hev, hse, hiss⟩ := H2.out h0
    subst h0
    clear H2
    by_cases hp : xp.length ≤ 100
    case neg =>
      have hp' : decide ((xp.length : Int) ≤ 100) = false := decide_eq_false (by omega)
      have HYc := hid (BoxS.below HY.out hb3 hlty)
      obtain ⟨y0, y1, y2⟩ := HYc.out
      simp only at y0 y1 y2
      go_wp2_with fail
      refine (KS.out _).mono ?_
      rintro e w7 ⟨rfl, hw7⟩
      have hb7 := hb3.trans (hw7.mono hb3.size)
      have HY7 := hid (BoxS.below HY.out hb7 hlty)
      clear y0 y1 y2 HYc hw7 hb3 KS x0 x1 HX3
      obtain ⟨y0, y1, y2⟩ := HY7.out
      simp only at y0 y1 y2
      by_cases h3 : e3 = 0
      · obtain ⟨hl3, hst⟩ := H3.out h3
        subst h3
        have KT := hid (fun w' => hstate_any t3 w' (by omega))
        rw [hst] at KT
        unfold sttV at KT
        simp only at KT
        clear hst H3
        go_wp2_with fail
        refine (KT.out _).mono ?_
        rintro e w8 ⟨rfl, hw8⟩
        have hb8 := hb7.trans (hw8.mono hb7.size)
        have hA8 : ∀ o, Below w8.heap.size w8 (w8.alloc o) := fun o => (Below.refl _ w8).alloc (Nat.le_refl _) o
        have HB8 := hid (fun o => hb8.trans ((hA8 o).mono hb8.size))
        have HY8 := fun o => BoxS.below HY.out (HB8.out o) hlty
        clear y0 y1 y2 HY7 hw8 hb8 hA8 KT
        have y0 := fun o => (HY8 o).1
        have y1 := fun o => (HY8 o).2.1
        have y2 := fun o => (HY8 o).2.2
        simp only at y0 y1 y2
        have HBW := hid (fun o => hb1.trans ((HB8.out o).mono hb1.size))
        clear HY8
        go_wp2_with (go_at_call 17; refine (awake8_any _).mono ?_; rintro e w9 ⟨rfl, hw9⟩)
        go_ret
        exact ⟨rfl, (HBW.out _).trans (hw9.mono (HBW.out _).size)⟩
      · have h3b : (e3 == 0) = false := by simpa using h3
        have hbW := hb1.trans (hb7.mono hb1.size)
        go_wp2_with (go_at_call 17; refine (awake8_any _).mono ?_; rintro e w9 ⟨rfl, hw9⟩)
        go_ret
        exact ⟨rfl, hbW.trans (hw9.mono hbW.size)⟩

    have hp' : (xp.length : Int) ≤ 100 := by omega
    have KR := hid (fun w' => readE hev w' (by omega))
    have KM := hid (fun q q' w' (k1 : EvC.At w' ⟨⟨xn, xp⟩, q⟩) (k2 : EvC.At w' ⟨⟨xn, xp⟩, q'⟩) => evsame_any ⟨⟨xn, xp⟩, q⟩ ⟨⟨xn, xp⟩, q'⟩ w' (by simp only; omega) k1 k2)
    have KI := hid (fun q q' w' (k1 : EvC.At w' ⟨⟨xn, xp⟩, q⟩) (k2 : EvC.At w' ⟨⟨xn, xp⟩, q'⟩) => hevis_any ⟨⟨xn, xp⟩, q⟩ ⟨⟨xn, xp⟩, q'⟩ w' hse hse k1 k2)
    simp only at KI
    rw [hiss] at KI
    unfold evV at KR KM KI
    simp only [decide_true] at KR KM KI
    clear hev hse hiss
    go_wp2_with fail
    refine (KR.out _).mono ?_
    rintro e w4 ⟨a5, c5, rfl, hat4, hw4⟩
    have hB := (Below.refl _ w4).alloc (Nat.le_refl _) (objE ⟨xn, xp⟩ (.slice a5 xp.length c5))
    have hltB := alloc_lt w4 (objE ⟨xn, xp⟩ (.slice a5 xp.length c5))
    have HZ4 := hid (boxE_new w4 ⟨xn, xp⟩ (.slice a5 xp.length c5))
    unfold objE at hB hltB HZ4
    simp only at hB hltB HZ4
    have hb4 := (hb3.trans (hw4.mono hb3.size)).trans (hB.mono (Nat.le_trans hb3.size hw4.size))
    have HATZ := hid (hat4.below hB)
    clear hat4 hw4 hB x0 x1 HX3 hb3 KR
    have HX4 := hid (BoxE.below HX.out hb4 hltx)
    obtain ⟨x0, x1⟩ := HX4.out
    simp only at x0 x1
    have HATX := hid (HAT.out _ (hb1.trans (hb4.mono hb1.size)))
    go_wp2_with fail
    refine (KM.out _ _ _ HATX.out HATZ.out).mono ?_
    rintro e w5 ⟨rfl, hw5⟩
    have hb5 := hb4.trans (hw5.mono hb4.size)
    have HZ5 := hid (BoxE.below HZ4.out hw5 hltB)
    have HATZ5 := hid (HATZ.out.below hw5)
    clear x0 x1 HX4 HATX HATZ HZ4 hb4 hw5 KM hltB
    have HX5 := hid (BoxE.below HX.out hb5 hltx)
    obtain ⟨x0, x1⟩ := HX5.out
    obtain ⟨z0, z1⟩ := HZ5.out
    simp only at x0 x1 z0 z1
    have HATX := hid (HAT.out _ (hb1.trans (hb5.mono hb1.size)))
    go_wp2_with fail
    refine (KI.out _ _ _ HATX.out HATZ5.out).mono ?_
    rintro e w6 ⟨rfl, hw6⟩
    have hb3 := hb5.trans (hw6.mono hb5.size)
    clear x0 x1 z0 z1 HX5 HZ5 HATX HATZ5 hb5 hw6 KI
    have x0 := trivial
    have x1 := trivial
    have HX3 := hid trivial
    have HYc := hid (BoxS.below HY.out hb3 hlty)
    obtain ⟨y0, y1, y2⟩ := HYc.out
    simp only at y0 y1 y2
    go_wp2_with fail
    refine (KS.out _).mono ?_
    rintro e w7 ⟨rfl, hw7⟩
    have hb7 := hb3.trans (hw7.mono hb3.size)
    have HY7 := hid (BoxS.below HY.out hb7 hlty)
    clear y0 y1 y2 HYc hw7 hb3 KS x0 x1 HX3
    obtain ⟨y0, y1, y2⟩ := HY7.out
    simp only at y0 y1 y2
    by_cases h3 : e3 = 0
    · obtain ⟨hl3, hst⟩ := H3.out h3
      subst h3
      have KT := hid (fun w' => hstate_any t3 w' (by omega))
      rw [hst] at KT
      unfold sttV at KT
      simp only at KT
      clear hst H3
      go_wp2_with fail
      refine (KT.out _).mono ?_
      rintro e w8 ⟨rfl, hw8⟩
      have hb8 := hb7.trans (hw8.mono hb7.size)
      have hA8 : ∀ o, Below w8.heap.size w8 (w8.alloc o) := fun o => (Below.refl _ w8).alloc (Nat.le_refl _) o
      have HB8 := hid (fun o => hb8.trans ((hA8 o).mono hb8.size))
      have HY8 := fun o => BoxS.below HY.out (HB8.out o) hlty
      clear y0 y1 y2 HY7 hw8 hb8 hA8 KT
      have y0 := fun o => (HY8 o).1
      have y1 := fun o => (HY8 o).2.1
      have y2 := fun o => (HY8 o).2.2
      simp only at y0 y1 y2
      have HBW := hid (fun o => hb1.trans ((HB8.out o).mono hb1.size))
      clear HY8
      go_wp2_with (go_at_call 17; refine (awake8_any _).mono ?_; rintro e w9 ⟨rfl, hw9⟩)
      go_ret
      exact ⟨rfl, (HBW.out _).trans (hw9.mono (HBW.out _).size)⟩
    · have h3b : (e3 == 0) = false := by simpa using h3
      have hbW := hb1.trans (hb7.mono hb1.size)
      go_wp2_with (go_at_call 17; refine (awake8_any _).mono ?_; rintro e w9 ⟨rfl, hw9⟩)
      go_ret
      exact ⟨rfl, hbW.trans (hw9.mono hbW.size)⟩


end Go.Proofs.YtjbfdbccidhdfaaDoor.headBack
