/-
  The walk of the law HeadEvents.
-/
import Derived.Test.YtjbfdbccidhdfaaDoorHAwake
namespace Go.Proofs.YtjbfdbccidhdfaaDoor.headEvents
open Go.RowKit Go.Sort Sc
set_option linter.unusedVariables false
set_option maxRecDepth 20000

theorem rreadE {txt : List UInt8} {v : Ev} {n : Int} (h : eventV txt = (v, n)) (w : World) (hs : txt.length ≤ 1048576) :
    Calls Tryd.prog 19 #[.string ⟨txt.toArray⟩] w fun e w' => ∃ a3 k3, e = .returned (.tuple #[evV v (.slice a3 v.params.length k3), .int .i64 n]) ∧ EvC.At w' ⟨v, .slice a3 v.params.length k3⟩ ∧ Below w.heap.size w w' := by
  have k := revent_any txt w hs
  rw [h] at k
  refine k.mono ?_
  rintro e w' ⟨⟨q, rfl, o3⟩, hb⟩
  obtain ⟨a3, k3, e3⟩ := o3.parsAt.form
  have c3 := o3.cap
  simp only at e3 o3
  subst e3
  exact ⟨a3, k3, rfl, ⟨o3.parsAt, c3⟩, hb⟩
theorem ev_small (s : List UInt8) : (eventV s).1.params.length ≤ 140737488355328 := by
  by_cases h : (eventV s).2 = 0
  · have := (event_small (show eventV s = ((eventV s).1, 0) by rw [← h])).2.1
    omega
  · unfold eventV at h ⊢
    split
    · simp [noE]
    · rename_i hc; rw [if_neg hc] at h; exact absurd rfl h

set_option maxHeartbeats 2000000 in
set_option maxRecDepth 100000 in
theorem law_walk (w : World) (a0 : ByteArray) (v1 v2 : Value) (b0 : a0.size ≤ 1048576) (k1 : EvIn 1048576 w v1) (k2 : EvIn 1048576 w v2) :
    Calls Tryd.prog 4 #[.string a0, v1, v2] w fun e w' => e = .returned (.bool true) ∧ Below w.heap.size w w' := by
  obtain ⟨s, rfl⟩ : ∃ l : List UInt8, a0 = ⟨l.toArray⟩ := ⟨a0.data.toList, by simp⟩
  rw [size_list] at b0
  obtain ⟨⟨x, q⟩, rfl, hatx, hsx0⟩ := k1
  obtain ⟨⟨y, q'⟩, rfl, haty, hsy0⟩ := k2
  have hsx := hsx0.le (show 1048576 ≤ 140737488355328 by omega)
  have hsy := hsy0.le (show 1048576 ≤ 140737488355328 by omega)
  have KP := hid (fun w' (hb : Below w.heap.size w w') => hevprint_any ⟨x, q⟩ w' hsx (hatx.below hb))
  have KRP := hid (fun w' (hb : Below w.heap.size w w') => revprint_any ⟨x, q⟩ w' hsx0 (hatx.below hb))
  have KI := hid (fun w' (hb : Below w.heap.size w w') => hevis_any ⟨x, q⟩ ⟨y, q'⟩ w' hsx hsy (hatx.below hb) (haty.below hb))
  have KRI := hid (fun w' (hb : Below w.heap.size w w') => revis_any ⟨x, q⟩ ⟨y, q'⟩ w' hsx hsy (hatx.below hb) (haty.below hb))
  have hbx := boxE_new w x q
  have hb0 : Below w.heap.size w (w.alloc (objE x q)) := (Below.refl _ w).alloc (Nat.le_refl _) _
  have hlt := alloc_lt w (objE x q)
  have hby := boxE_new (w.alloc (objE x q)) y q'
  have hb1 : Below w.heap.size w ((w.alloc (objE x q)).alloc (objE y q')) := hb0.alloc hb0.size _
  have hbz := hbx.below ((Below.refl _ (w.alloc (objE x q))).alloc (Nat.le_refl _) (objE y q')) hlt
  have hlt2 := alloc_lt (w.alloc (objE x q)) (objE y q')
  have hs1 : (w.alloc (objE x q)).heap.size = w.heap.size + 1 := by simp
  rw [hs1] at hby hlt2
  clear hbx hb0
  obtain ⟨a3, c3, hq⟩ := hatx.1.form
  obtain ⟨a4, c4, hq'⟩ := haty.1.form
  simp only at hq hq' KP KRP KI KRI
  subst hq hq'
  clear hatx haty hsx hsy hsx0 hsy0
  generalize evPrint x = RP at KP KRP
  generalize evIs x y = RI at KI KRI
  obtain ⟨t2, e2⟩ := RP
  obtain ⟨xn, xp⟩ := x
  obtain ⟨yn, yp⟩ := y
  unfold evV at KP KRP KI KRI ⊢
  unfold objE at hby hb1 hbz hlt hlt2 hs1
  simp only at KP KRP KI KRI hby hb1 hbz hlt hlt2 hs1 ⊢
  have HX := hid hbz
  have HY := hid hby
  have hltx := Nat.lt_trans hlt (show _ < _ from (by simp : (w.alloc (.cells #[.string ⟨xn.toArray⟩, .slice a3 xp.length c3] 40)).heap.size < ((w.alloc (.cells #[.string ⟨xn.toArray⟩, .slice a3 xp.length c3] 40)).alloc (.cells #[.string ⟨yn.toArray⟩, .slice a4 yp.length c4] 40)).heap.size))
  clear hbz hby hs1 hlt
  obtain ⟨x0, x1⟩ := HX.out
  obtain ⟨y0, y1⟩ := HY.out
  simp only at x0 x1 y0 y1
  by_cases l1 : xp.length ≤ 100
  case neg =>
    have l1' : (100 : Int) < (xp.length : Int) := by omega
    clear KP KRP KI KRI
    go_enter Tryd.func4, Tryd.ntmps4
    go_wp2_with (go_at_call 17; refine (awake8_any _).mono ?_; rintro e w9 ⟨rfl, hw9⟩)
    go_ret
    exact ⟨rfl, hb1.trans (hw9.mono hb1.size)⟩
  have l1' : ¬ ((100 : Int) < (xp.length : Int)) := by omega
  have l1d : decide ((100 : Int) < (xp.length : Int)) = false := decide_eq_false l1'
  by_cases l2 : yp.length ≤ 100
  case neg =>
    have l2' : (100 : Int) < (yp.length : Int) := by omega
    clear KP KRP KI KRI
    go_enter Tryd.func4, Tryd.ntmps4
    go_wp2_with (go_at_call 17; refine (awake8_any _).mono ?_; rintro e w9 ⟨rfl, hw9⟩)
    go_ret
    exact ⟨rfl, hb1.trans (hw9.mono hb1.size)⟩
  have l2' : ¬ ((100 : Int) < (yp.length : Int)) := by omega
  have l2d : decide ((100 : Int) < (yp.length : Int)) = false := decide_eq_false l2'
  by_cases l3 : s.length ≤ 5000
  case neg =>
    have l3' : (5000 : Int) < (s.length : Int) := by omega
    clear KP KRP KI KRI
    go_enter Tryd.func4, Tryd.ntmps4
    go_wp2_with (go_at_call 17; refine (awake8_any _).mono ?_; rintro e w9 ⟨rfl, hw9⟩)
    go_ret
    exact ⟨rfl, hb1.trans (hw9.mono hb1.size)⟩
  have l3' : ¬ ((5000 : Int) < (s.length : Int)) := by omega
  have l3d : decide ((5000 : Int) < (s.length : Int)) = false := decide_eq_false l3'
  have hes := ev_small s
  obtain ⟨ev, en, hev⟩ : ∃ ev en, eventV s = (ev, en) := ⟨_, _, rfl⟩
  rw [hev] at hes
  simp only at hes
  have K1 := hid (fun w' => readE hev w' (by omega))
  have K2 := hid (fun w' => rreadE hev w' (by omega))
  have KS := hid (fun q q' w' (k1 : EvC.At w' ⟨ev, q⟩) (k2 : EvC.At w' ⟨ev, q'⟩) => evsame_any ⟨ev, q⟩ ⟨ev, q'⟩ w' hes k1 k2)
  clear hev hes
  obtain ⟨zn, zp⟩ := ev
  unfold evV at K1 K2 KS
  simp only [decide_true] at K1 K2 KS
  have z1 : (en == en) = true := by simp
  have z2 : (t2 == t2) = true := by simp
  have z3 : (e2 == e2) = true := by simp
  have z4 : (RI == RI) = true := by simp
  go_enter Tryd.func4, Tryd.ntmps4
  go_wp2_with fail
  refine (K1.out _).mono ?_
  rintro e w1 ⟨a5, c5, rfl, hat1, hw1⟩
  have hA := (Below.refl _ w1).alloc (Nat.le_refl _) (objE ⟨zn, zp⟩ (.slice a5 zp.length c5))
  have hltA := alloc_lt w1 (objE ⟨zn, zp⟩ (.slice a5 zp.length c5))
  have HZ1 := hid (boxE_new w1 ⟨zn, zp⟩ (.slice a5 zp.length c5))
  unfold objE at hA hltA HZ1
  simp only at hA hltA HZ1
  have hw1' := hw1.trans (hA.mono hw1.size)
  have HX1 := hid (BoxE.below HX.out hw1' hltx)
  have HY1 := hid (BoxE.below HY.out hw1' hlt2)
  have hb2 := hb1.trans (hw1'.mono hb1.size)
  have hltx1 := Nat.lt_of_lt_of_le hltx hw1'.size
  have hlty1 := Nat.lt_of_lt_of_le hlt2 hw1'.size
  have HAT1 := hid (hat1.below hA)
  clear HX HY hb1 hltx hlt2 hw1 hw1' hat1 hA x0 x1 y0 y1 K1
  go_wp2_with fail
  refine (K2.out _).mono ?_
  rintro e w3 ⟨a6, c6, rfl, hat3, hw3⟩
  have hB := (Below.refl _ w3).alloc (Nat.le_refl _) (objE ⟨zn, zp⟩ (.slice a6 zp.length c6))
  have hltB := alloc_lt w3 (objE ⟨zn, zp⟩ (.slice a6 zp.length c6))
  have HQ3 := hid (boxE_new w3 ⟨zn, zp⟩ (.slice a6 zp.length c6))
  unfold objE at hB hltB HQ3
  simp only at hB hltB HQ3
  have hw3' := hw3.trans (hB.mono hw3.size)
  have HX3 := hid (BoxE.below HX1.out hw3' hltx1)
  have HY3 := hid (BoxE.below HY1.out hw3' hlty1)
  have HZ3 := hid (BoxE.below HZ1.out hw3' hltA)
  have hb3 := hb2.trans (hw3'.mono hb2.size)
  have hltx3 := Nat.lt_of_lt_of_le hltx1 hw3'.size
  have hlty3 := Nat.lt_of_lt_of_le hlty1 hw3'.size
  have hltz3 := Nat.lt_of_lt_of_le hltA hw3'.size
  have HAT3 := hid (HAT1.out.below hw3')
  have HATQ := hid (hat3.below hB)
  clear HX1 HY1 HZ1 hb2 hltx1 hlty1 hltA hw3 hw3' hat3 hB K2 HAT1
  obtain ⟨x0, x1⟩ := HX3.out
  simp only at x0 x1
  go_wp2_with fail
  refine (KP.out _ hb3).mono ?_
  rintro e w4 ⟨rfl, hw4⟩
  have HX4 := hid (BoxE.below HX3.out hw4 hltx3)
  have HY4 := hid (BoxE.below HY3.out hw4 hlty3)
  have HZ4 := hid (BoxE.below HZ3.out hw4 hltz3)
  have HQ4 := hid (BoxE.below HQ3.out hw4 hltB)
  have hb4 := hb3.trans (hw4.mono hb3.size)
  have hltx4 := Nat.lt_of_lt_of_le hltx3 hw4.size
  have hlty4 := Nat.lt_of_lt_of_le hlty3 hw4.size
  have hltz4 := Nat.lt_of_lt_of_le hltz3 hw4.size
  have hltq4 := Nat.lt_of_lt_of_le hltB hw4.size
  have HAT4 := hid (HAT3.out.below hw4)
  have HATQ4 := hid (HATQ.out.below hw4)
  clear HX3 HY3 HZ3 HQ3 hb3 hltx3 hlty3 hltz3 hltB hw4 HAT3 HATQ x0 x1 KP
  obtain ⟨x0, x1⟩ := HX4.out
  simp only at x0 x1
  go_wp2_with fail
  refine (KRP.out _ hb4).mono ?_
  rintro e w5 ⟨rfl, hw5⟩
  have HX5 := BoxE.below HX4.out hw5 hltx4
  have HY5 := BoxE.below HY4.out hw5 hlty4
  have HZ5 := BoxE.below HZ4.out hw5 hltz4
  have HQ5 := BoxE.below HQ4.out hw5 hltq4
  have hb5 := hb4.trans (hw5.mono hb4.size)
  have HAT5 := hid (HAT4.out.below hw5)
  have HATQ5 := hid (HATQ4.out.below hw5)
  clear HX4 HY4 HZ4 HQ4 hb4 hltx4 hlty4 hltz4 hltq4 hw5 HAT4 HATQ4 x0 x1 KRP
  obtain ⟨x0, x1⟩ := HX5
  obtain ⟨y0, y1⟩ := HY5
  obtain ⟨p0, p1⟩ := HZ5
  obtain ⟨q0, q1⟩ := HQ5
  simp only at x0 x1 y0 y1 p0 p1 q0 q1
  go_wp2
  replace x0 := cell_regrown x0
  replace x1 := cell_regrown x1
  replace y0 := cell_regrown y0
  replace y1 := cell_regrown y1
  replace p0 := cell_regrown p0
  replace p1 := cell_regrown p1
  replace q0 := cell_regrown q0
  replace q1 := cell_regrown q1
  have c1' := hid (fun (d : Nat) (os : Array Obj) => Calls.regrown_of (KS.out _ _ (grow (redrawn w5 d) os) (HAT5.out.below (below_regrown w5 d os)) (HATQ5.out.below (below_regrown w5 d os))))
  have c2' := hid (fun (d : Nat) (os : Array Obj) => Calls.regrown_of (KI.out (grow (redrawn w5 d) os) (below_re5 hb5 d os)))
  have c3' := hid (fun (d : Nat) (os : Array Obj) => Calls.regrown_of (KRI.out (grow (redrawn w5 d) os) (below_re5 hb5 d os)))
  have c4' := hid (fun (d : Nat) (os : Array Obj) => Calls.regrown_of (awake8_any (grow (redrawn w5 d) os)))
  clear KS KI KRI
  refine wp_region_quiet_below followsMixed5 (by kernel_rfl) ?_
  repeat (go_big_quiet_step (first | with_reducible exact c1'.out _ _ | with_reducible exact c2'.out _ _ | with_reducible exact c3'.out _ _ | with_reducible exact c4'.out _ _))
  refine wpQuiet_nil ?_
  intro _ hw'
  obtain ⟨⟨dq, osq⟩, hw''⟩ := hw'
  subst hw''
  go_wp2
  go_ret
  exact ⟨rfl, below_re5 hb5 dq osq⟩

end Go.Proofs.YtjbfdbccidhdfaaDoor.headEvents
