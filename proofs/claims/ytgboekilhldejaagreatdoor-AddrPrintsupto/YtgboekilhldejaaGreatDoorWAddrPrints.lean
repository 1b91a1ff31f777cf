/-
  The walk of the law AddrPrints.
-/
import Derived.Test.YtgboekilhldejaaGreatDoorAAwake
import Derived.Test.YtgboekilhldejaaGreatDoorRCheckA
namespace Go.Proofs.YtgboekilhldejaaGreatDoor.addrPrints
open Go.RowKit Go.Sort Sc
set_option linter.unusedVariables false
set_option maxRecDepth 20000

set_option maxHeartbeats 2000000 in
set_option maxRecDepth 100000 in
theorem law_walk (w : World) (v0 : Value) (k0 : AddrIn 1048576 w v0) :
    Calls Tryz.prog 4 #[v0] w fun e w' => e = .returned (.bool true) ∧ Below w.heap.size w w' := by
  obtain ⟨⟨⟨d, ⟨us, uu, uh, up, upp, uhh⟩, ps⟩, p, h, q⟩, rfl, hat, hsm0⟩ := k0
  have hsm := hsm0.le (show 1048576 ≤ 140737488355328 by omega)
  have KP := hid (fun w' (hb : Below w.heap.size w w') => aprint_any ⟨⟨d, ⟨us, uu, uh, up, upp, uhh⟩, ps⟩, p, h, q⟩ w' hsm (hat.below hb))
  have KRP := hid (fun w' (hb : Below w.heap.size w w') => rprintA_any ⟨⟨d, ⟨us, uu, uh, up, upp, uhh⟩, ps⟩, p, h, q⟩ w' hsm0 (hat.below hb))
  have KC := hid (fun w' (hb : Below w.heap.size w w') => acheck_any ⟨⟨d, ⟨us, uu, uh, up, upp, uhh⟩, ps⟩, p, h, q⟩ w' hsm (hat.below hb))
  have KRC := hid (fun w' (hb : Below w.heap.size w w') => rcheckA_any ⟨⟨d, ⟨us, uu, uh, up, upp, uhh⟩, ps⟩, p, h, q⟩ w' hsm0 (hat.below hb))
  have KG := hid (fun w' (hb : Below w.heap.size w w') => tag_any ⟨⟨d, ⟨us, uu, uh, up, upp, uhh⟩, ps⟩, p, h, q⟩ w' hsm.2.2 (hat.below hb))
  have KRG := hid (fun w' (hb : Below w.heap.size w w') => rtag_any ⟨⟨d, ⟨us, uu, uh, up, upp, uhh⟩, ps⟩, p, h, q⟩ w' hsm.2.2 (hat.below hb))
  have hbx := boxA_new w ⟨d, ⟨us, uu, uh, up, upp, uhh⟩, ps⟩ p h q
  have hb0 : Below w.heap.size w (w.alloc (objA ⟨d, ⟨us, uu, uh, up, upp, uhh⟩, ps⟩ p h q)) := (Below.refl _ w).alloc (Nat.le_refl _) _
  have hlt := alloc_lt w (objA ⟨d, ⟨us, uu, uh, up, upp, uhh⟩, ps⟩ p h q)
  have HBX := hid hbx
  clear hbx
  obtain ⟨h1, h2, h3, hcap⟩ := hat
  simp only at h1 h2 h3
  obtain ⟨a1, c1, rfl⟩ := h1.form
  obtain ⟨a2, c2, rfl⟩ := h2.form
  obtain ⟨a3, c3, rfl⟩ := h3.form
  clear h1 h2 h3 hcap hsm0 hsm
  unfold adrV at KP KRP KC KRC KG KRG ⊢
  unfold objA at hb0 hlt HBX
  simp only at KP KRP KC KRC KG KRG HBX hb0 hlt ⊢
  generalize printA _ = pv at KP KRP
  obtain ⟨pt, pn⟩ := pv
  generalize checkA _ = cv at KC KRC
  generalize (valV ps [116, 97, 103]).1 = tv at KG KRG
  simp only at KP KRP
  obtain ⟨x0, x1, x2, x3, x4, x5, x6, x7⟩ := HBX.out
  simp only at x0 x1 x2 x3 x4 x5 x6 x7
  by_cases l1 : ps.length ≤ 100
  case neg =>
    have l1' : (100 : Int) < (ps.length : Int) := by omega
    clear KP KRP KC KRC KG KRG
    go_enter Tryz.func4, Tryz.ntmps4
    go_wp2_with (go_at_call 7; refine (awake5_any _).mono ?_; rintro e w9 ⟨rfl, hw9⟩)
    go_ret
    exact ⟨rfl, hb0.trans (hw9.mono hb0.size)⟩
  have l1' : ¬ ((100 : Int) < (ps.length : Int)) := by omega
  by_cases l2 : upp.length ≤ 100
  case neg =>
    have l2' : (100 : Int) < (upp.length : Int) := by omega
    clear KP KRP KC KRC KG KRG
    go_enter Tryz.func4, Tryz.ntmps4
    go_wp2_with (go_at_call 7; refine (awake5_any _).mono ?_; rintro e w9 ⟨rfl, hw9⟩)
    go_ret
    exact ⟨rfl, hb0.trans (hw9.mono hb0.size)⟩
  have l2' : ¬ ((100 : Int) < (upp.length : Int)) := by omega
  by_cases l3 : uhh.length ≤ 100
  case neg =>
    have l3' : (100 : Int) < (uhh.length : Int) := by omega
    clear KP KRP KC KRC KG KRG
    go_enter Tryz.func4, Tryz.ntmps4
    go_wp2_with (go_at_call 7; refine (awake5_any _).mono ?_; rintro e w9 ⟨rfl, hw9⟩)
    go_ret
    exact ⟨rfl, hb0.trans (hw9.mono hb0.size)⟩
  have l3' : ¬ ((100 : Int) < (uhh.length : Int)) := by omega
  go_enter Tryz.func4, Tryz.ntmps4
  go_wp2_with fail
  refine (KP.out _ hb0).mono ?_
  rintro e w2 ⟨rfl, hw2⟩
  have HB2 := hid (BoxA.below HBX.out hw2 hlt)
  have hb2 := hb0.trans (hw2.mono hb0.size)
  have hlt2 := Nat.lt_of_lt_of_le hlt hw2.size
  clear HBX hw2 hb0 hlt x0 x1 x2 x3 x4 x5 x6 x7 KP
  obtain ⟨x0, x1, x2, x3, x4, x5, x6, x7⟩ := HB2.out
  simp only at x0 x1 x2 x3 x4 x5 x6 x7
  go_wp2_with fail
  refine (KRP.out _ hb2).mono ?_
  rintro e w3 ⟨rfl, hw3⟩
  have HB3 := BoxA.below HB2.out hw3 hlt2
  have hb3 := hb2.trans (hw3.mono hb2.size)
  clear HB2 hw3 hb2 hlt2 x0 x1 x2 x3 x4 x5 x6 x7 KRP
  obtain ⟨x0, x1, x2, x3, x4, x5, x6, x7⟩ := HB3
  simp only at x0 x1 x2 x3 x4 x5 x6 x7
  have ep : (pt == pt) = true := by simp
  have en : (pn == pn) = true := by simp
  have ec : (cv == cv) = true := by simp
  have et : (tv == tv) = true := by simp
  go_wp2
  replace x0 := cell_regrown x0
  replace x1 := cell_regrown x1
  replace x2 := cell_regrown x2
  replace x3 := cell_regrown x3
  replace x4 := cell_regrown x4
  replace x5 := cell_regrown x5
  replace x6 := cell_regrown x6
  replace x7 := cell_regrown x7
  have c1' := hid (fun (d : Nat) (os : Array Obj) => Calls.regrown_of (KC.out (grow (redrawn w3 d) os) (below_re5 hb3 d os)))
  have c2' := hid (fun (d : Nat) (os : Array Obj) => Calls.regrown_of (KRC.out (grow (redrawn w3 d) os) (below_re5 hb3 d os)))
  have c3' := hid (fun (d : Nat) (os : Array Obj) => Calls.regrown_of (KG.out (grow (redrawn w3 d) os) (below_re5 hb3 d os)))
  have c4' := hid (fun (d : Nat) (os : Array Obj) => Calls.regrown_of (KRG.out (grow (redrawn w3 d) os) (below_re5 hb3 d os)))
  have c5' := hid (fun (d : Nat) (os : Array Obj) => Calls.regrown_of (awake5_any (grow (redrawn w3 d) os)))
  clear KC KRC KG KRG
  refine wp_region_quiet_below followsMixed5 (by kernel_rfl) ?_
  repeat (go_big_quiet_step (first | with_reducible exact c1'.out _ _ | with_reducible exact c2'.out _ _ | with_reducible exact c3'.out _ _ | with_reducible exact c4'.out _ _ | with_reducible exact c5'.out _ _))
  refine wpQuiet_nil ?_
  intro _ hw'
  obtain ⟨⟨dq, osq⟩, hw''⟩ := hw'
  subst hw''
  go_wp2
  go_ret
  exact ⟨rfl, below_re5 hb3 dq osq⟩

end Go.Proofs.YtgboekilhldejaaGreatDoor.addrPrints
