/-
  The walk of the law ViaPrints.
-/
import Derived.Test.YtpcgomfiihhpcaaDoorVAwake
import Derived.Test.YtpcgomfiihhpcaaDoorRVia
namespace Go.Proofs.YtpcgomfiihhpcaaDoor.viaPrints
open Go.RowKit Go.Sort Sc
set_option linter.unusedVariables false
set_option maxRecDepth 20000

set_option maxHeartbeats 2000000 in
set_option maxRecDepth 100000 in
theorem law_walk (w : World) (v0 : Value) (k0 : HopIn 1048576 w v0) :
    Calls Tryd.prog 3 #[v0] w fun e w' => e = .returned (.bool true) ∧ Below w.heap.size w w' := by
  obtain ⟨⟨⟨ho, po, ps⟩, q⟩, rfl, hat, hsm0⟩ := k0
  have hsm := hsm0.le (show 1048576 ≤ 140737488355328 by omega)
  have KP := hid (fun w' (hb : Below w.heap.size w w') => vprint_any ⟨⟨ho, po, ps⟩, q⟩ w' hsm (hat.below hb))
  have KRP := hid (fun w' (hb : Below w.heap.size w w') => rvprint_any ⟨⟨ho, po, ps⟩, q⟩ w' hsm0 (hat.below hb))
  have KC := hid (fun w' (hb : Below w.heap.size w w') => vcheck_any ⟨⟨ho, po, ps⟩, q⟩ w' hsm (hat.below hb))
  have KRC := hid (fun w' (hb : Below w.heap.size w w') => rvcheck_any ⟨⟨ho, po, ps⟩, q⟩ w' hsm0 (hat.below hb))
  have KB := hid (fun w' (hb : Below w.heap.size w w') => vbranch_any ⟨⟨ho, po, ps⟩, q⟩ w' hsm (hat.below hb))
  have KRB := hid (fun w' (hb : Below w.heap.size w w') => rvbranch_any ⟨⟨ho, po, ps⟩, q⟩ w' hsm (hat.below hb))
  have KY := hid (fun w' (hb : Below w.heap.size w w') => vby_any ⟨⟨ho, po, ps⟩, q⟩ w' hsm (hat.below hb))
  have KRY := hid (fun w' (hb : Below w.heap.size w w') => rvby_any ⟨⟨ho, po, ps⟩, q⟩ w' hsm (hat.below hb))
  have hbx := boxV_new w ⟨ho, po, ps⟩ q
  have hb0 : Below w.heap.size w (w.alloc (objV ⟨ho, po, ps⟩ q)) := (Below.refl _ w).alloc (Nat.le_refl _) _
  have hlt := alloc_lt w (objV ⟨ho, po, ps⟩ q)
  have HBX := hid hbx
  clear hbx
  obtain ⟨h3, hcap⟩ := hat
  simp only at h3
  obtain ⟨a3, c3, rfl⟩ := h3.form
  clear h3 hcap hsm0 hsm
  unfold hpV at KP KRP KC KRC KB KRB KY KRY ⊢
  unfold objV at hb0 hlt HBX
  simp only at KP KRP KC KRC KB KRB KY KRY HBX hb0 hlt ⊢
  generalize printH _ = pv at KP KRP
  obtain ⟨pt, pn⟩ := pv
  generalize checkH _ = cv at KC KRC
  generalize brV ps = bv at KB KRB
  obtain ⟨bt, bb⟩ := bv
  generalize whoH _ = yv at KY KRY
  simp only at KP KRP KB KRB
  obtain ⟨x0, x1, x2⟩ := HBX.out
  simp only at x0 x1 x2
  by_cases l1 : ps.length ≤ 100
  case neg =>
    have l1' : (100 : Int) < (ps.length : Int) := by omega
    clear KP KRP KC KRC KB KRB KY KRY
    go_enter Tryd.func3, Tryd.ntmps3
    go_wp2_with (go_at_call 9; refine (awake7_any _).mono ?_; rintro e w9 ⟨rfl, hw9⟩)
    go_ret
    exact ⟨rfl, hb0.trans (hw9.mono hb0.size)⟩
  have l1' : ¬ ((100 : Int) < (ps.length : Int)) := by omega
  have l1d : decide ((100 : Int) < (ps.length : Int)) = false := decide_eq_false l1'
  go_enter Tryd.func3, Tryd.ntmps3
  go_wp2_with fail
  refine (KP.out _ hb0).mono ?_
  rintro e w2 ⟨rfl, hw2⟩
  have HB2 := hid (BoxV.below HBX.out hw2 hlt)
  have hb2 := hb0.trans (hw2.mono hb0.size)
  have hlt2 := Nat.lt_of_lt_of_le hlt hw2.size
  clear HBX hw2 hb0 hlt x0 x1 x2 KP
  obtain ⟨x0, x1, x2⟩ := HB2.out
  simp only at x0 x1 x2
  go_wp2_with fail
  refine (KRP.out _ hb2).mono ?_
  rintro e w3 ⟨rfl, hw3⟩
  have HB3 := hid (BoxV.below HB2.out hw3 hlt2)
  have hb3 := hb2.trans (hw3.mono hb2.size)
  have hlt3 := Nat.lt_of_lt_of_le hlt2 hw3.size
  clear HB2 hw3 hb2 hlt2 x0 x1 x2 KRP
  obtain ⟨x0, x1, x2⟩ := HB3.out
  simp only at x0 x1 x2
  go_wp2_with fail
  refine (KB.out _ hb3).mono ?_
  rintro e w4 ⟨rfl, hw4⟩
  have HB4 := hid (BoxV.below HB3.out hw4 hlt3)
  have hb4 := hb3.trans (hw4.mono hb3.size)
  have hlt4 := Nat.lt_of_lt_of_le hlt3 hw4.size
  clear HB3 hw4 hb3 hlt3 x0 x1 x2 KB
  obtain ⟨x0, x1, x2⟩ := HB4.out
  simp only at x0 x1 x2
  go_wp2_with fail
  refine (KRB.out _ hb4).mono ?_
  rintro e w5 ⟨rfl, hw5⟩
  have HB5 := BoxV.below HB4.out hw5 hlt4
  have hb5 := hb4.trans (hw5.mono hb4.size)
  clear HB4 hw5 hb4 hlt4 x0 x1 x2 KRB
  obtain ⟨x0, x1, x2⟩ := HB5
  simp only at x0 x1 x2
  have ep : (pt == pt) = true := by simp
  have en : (pn == pn) = true := by simp
  have ec : (cv == cv) = true := by simp
  have et : (bt == bt) = true := by simp
  have eb : (bb == bb) = true := by simp
  have ey : (yv == yv) = true := by simp
  go_wp2
  replace x0 := cell_regrown x0
  replace x1 := cell_regrown x1
  replace x2 := cell_regrown x2
  have c1' := hid (fun (d : Nat) (os : Array Obj) => Calls.regrown_of (KC.out (grow (redrawn w5 d) os) (below_re5 hb5 d os)))
  have c2' := hid (fun (d : Nat) (os : Array Obj) => Calls.regrown_of (KRC.out (grow (redrawn w5 d) os) (below_re5 hb5 d os)))
  have c3' := hid (fun (d : Nat) (os : Array Obj) => Calls.regrown_of (KY.out (grow (redrawn w5 d) os) (below_re5 hb5 d os)))
  have c4' := hid (fun (d : Nat) (os : Array Obj) => Calls.regrown_of (KRY.out (grow (redrawn w5 d) os) (below_re5 hb5 d os)))
  have c5' := hid (fun (d : Nat) (os : Array Obj) => Calls.regrown_of (awake7_any (grow (redrawn w5 d) os)))
  clear KC KRC KY KRY
  refine wp_region_quiet_below followsMixed5 (by kernel_rfl) ?_
  repeat (go_big_quiet_step (first | with_reducible exact c1'.out _ _ | with_reducible exact c2'.out _ _ | with_reducible exact c3'.out _ _ | with_reducible exact c4'.out _ _ | with_reducible exact c5'.out _ _))
  refine wpQuiet_nil ?_
  intro _ hw'
  obtain ⟨⟨dq, osq⟩, hw''⟩ := hw'
  subst hw''
  go_wp2
  go_ret
  exact ⟨rfl, below_re5 hb5 dq osq⟩

end Go.Proofs.YtpcgomfiihhpcaaDoor.viaPrints
