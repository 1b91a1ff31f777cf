/-
  The walk of the law ViaBack.
-/
import Derived.Test.YtpcgomfiihhpcaaDoorVAwake
import Derived.Test.YtpcgomfiihhpcaaDoorVSame
namespace Go.Proofs.YtpcgomfiihhpcaaDoor.viaBack
open Go.RowKit Sc
set_option linter.unusedVariables false
set_option maxRecDepth 20000

set_option maxHeartbeats 2000000 in
set_option maxRecDepth 100000 in
theorem law_walk (w : World) (v0 : Value) (k0 : HopIn 140737488351232 w v0) :
    Calls Tryd.prog 6 #[v0] w fun e w' => e = .returned (.bool true) ∧ Below w.heap.size w w' := by
  obtain ⟨⟨⟨ho, po, ps⟩, q⟩, rfl, hat, hsm0⟩ := k0
  have hsm := hsm0.le (show 140737488351232 ≤ 140737488355328 by omega)
  have KP := hid (fun w' (hb : Below w.heap.size w w') => vprint_any ⟨⟨ho, po, ps⟩, q⟩ w' hsm (hat.below hb))
  have KAT := hid (fun w' (hb : Below w.heap.size w w') => hat.below hb)
  have hpl := hsm.2.1.1
  have hbx := boxV_new w ⟨ho, po, ps⟩ q
  have hb0 : Below w.heap.size w (w.alloc (objV ⟨ho, po, ps⟩ q)) := (Below.refl _ w).alloc (Nat.le_refl _) _
  have hlt := alloc_lt w (objV ⟨ho, po, ps⟩ q)
  have HBX := hid hbx
  clear hbx
  obtain ⟨h3, hcap⟩ := hat
  simp only at h3 hpl
  obtain ⟨a3, c3, rfl⟩ := h3.form
  clear h3 hcap hsm0 hsm
  unfold hpV at KP ⊢
  unfold objV at hb0 hlt HBX
  simp only at KP HBX hb0 hlt ⊢
  obtain ⟨x0, x1, x2⟩ := HBX.out
  simp only at x0 x1 x2
  by_cases l1 : ps.length ≤ 100
  case neg =>
    have l1' : (100 : Int) < (ps.length : Int) := by omega
    clear KP KAT
    go_enter Tryd.func6, Tryd.ntmps6
    go_wp2_with (go_at_call 9; refine (awake7_any _).mono ?_; rintro e w9 ⟨rfl, hw9⟩)
    go_ret
    exact ⟨rfl, hb0.trans (hw9.mono hb0.size)⟩
  have l1' : ¬ ((100 : Int) < (ps.length : Int)) := by omega
  by_cases hok : checkH ⟨ho, po, ps⟩ = 0
  · have hpv : printH ⟨ho, po, ps⟩ = (textH ⟨ho, po, ps⟩, 0) := by rw [printH, if_pos hok]
    rw [hpv] at KP
    have hln := textH_small hok
    have KR := hid (fun w' => readV (parse_textH hok) w' (by omega))
    have KS := hid (fun (q' : Value) w' (k1 : HopC.At w' ⟨⟨ho, po, ps⟩, .slice a3 ps.length c3⟩) (k2 : HopC.At w' ⟨⟨ho, po, ps⟩, q'⟩) => vsame_any ⟨⟨ho, po, ps⟩, .slice a3 ps.length c3⟩ ⟨⟨ho, po, ps⟩, q'⟩ w' hpl k1 k2)
    unfold hpV at KR KS
    simp only [decide_true] at KP KR KS
    generalize textH _ = tx at KP KR hln
    clear hok hpv
    go_enter Tryd.func6, Tryd.ntmps6
    go_wp2_with fail
    refine (KP.out _ hb0).mono ?_
    rintro e w2 ⟨rfl, hw2⟩
    have HB2 := hid (BoxV.below HBX.out hw2 hlt)
    have hb2 := hb0.trans (hw2.mono hb0.size)
    have hlt2 := Nat.lt_of_lt_of_le hlt hw2.size
    clear HBX hw2 hb0 hlt x0 x1 x2 KP
    go_wp2_with fail
    refine (KR.out _).mono ?_
    rintro e w3 ⟨b3, j3, rfl, hat3, hw3⟩
    have HB3 := hid (BoxV.below HB2.out hw3 hlt2)
    have hb3 := hb2.trans (hw3.mono hb2.size)
    have hlt3 := Nat.lt_of_lt_of_le hlt2 hw3.size
    have HA3 := hid hat3
    clear HB2 hw3 hb2 hlt2 KR hat3
    have hall : ∀ o, BoxV (w3.alloc o) w.heap.size ⟨ho, po, ps⟩ (.slice a3 ps.length c3) := fun o => HB3.out.below ((Below.refl _ w3).alloc (Nat.le_refl _) o) hlt3
    have x0 := fun o => (hall o).1
    have x1 := fun o => (hall o).2.1
    have x2 := fun o => (hall o).2.2
    simp only at x0 x1 x2
    have HBO := hid (fun o => hb3.alloc hb3.size o)
    have HA4 := hid (fun o => HA3.out.below ((Below.refl _ w3).alloc (Nat.le_refl _) o))
    clear hall HB3 HA3 hb3
    go_wp2_with fail
    refine (KS.out _ _ (KAT.out _ (HBO.out _)) (HA4.out _)).mono ?_
    rintro e w4 ⟨rfl, hw4⟩
    have hb4 := (HBO.out _).trans (hw4.mono (HBO.out _).size)
    go_wp2_with (go_at_call 9; refine (awake7_any _).mono ?_; rintro e w9 ⟨rfl, hw9⟩)
    go_ret
    exact ⟨rfl, hb4.trans (hw9.mono hb4.size)⟩
  · have hpv : printH ⟨ho, po, ps⟩ = ([], checkH ⟨ho, po, ps⟩) := by rw [printH, if_neg hok]
    rw [hpv] at KP
    generalize checkH _ = cv at KP hok
    simp only at KP
    have hne : (cv != 0) = true := by simpa using hok
    clear hpv
    go_enter Tryd.func6, Tryd.ntmps6
    go_wp2_with fail
    refine (KP.out _ hb0).mono ?_
    rintro e w2 ⟨rfl, hw2⟩
    have hb2 := hb0.trans (hw2.mono hb0.size)
    clear HBX hw2 hb0 hlt x0 x1 x2 KP
    go_wp2_with (go_at_call 9; refine (awake7_any _).mono ?_; rintro e w9 ⟨rfl, hw9⟩)
    go_ret
    exact ⟨rfl, hb2.trans (hw9.mono hb2.size)⟩

end Go.Proofs.YtpcgomfiihhpcaaDoor.viaBack
