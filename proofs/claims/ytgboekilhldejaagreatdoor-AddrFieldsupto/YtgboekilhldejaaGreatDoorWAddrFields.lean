/-
  The walk of the law AddrFields.
-/
import Derived.Test.YtgboekilhldejaaGreatDoorAAwake
import Derived.Test.YtgboekilhldejaaGreatDoorRefFields
import Derived.Test.YtgboekilhldejaaGreatDoorRText
namespace Go.Proofs.YtgboekilhldejaaGreatDoor.addrFields
open Go.RowKit Sc
set_option linter.unusedVariables false
set_option maxRecDepth 20000

theorem fields_len (ls : List (List UInt8)) : (fieldsV ls).1.length ≤ 16 := by
  unfold fieldsV
  split
  · simp
  · rename_i h
    cases hf : fieldsG [] ls with
    | none => simp
    | some ps =>
      have := (fields_may ls [] ps rfl hf).2
      simp at this ⊢; omega
theorem lists_b (v1 v2 : Value) (ps : List Par) (w : World) (hz : ps.length ≤ 16) (h1 : ParsAt w v1 ps) (h2 : ParsAt w v2 ps) :
    Calls Tryz.prog 12 #[v1, v2] w fun e w' => e = .returned (.bool true) ∧ Below w.heap.size w w' := by
  refine (lists_any v1 v2 ps ps w (by omega) h1 h2).mono ?_
  rintro e w' ⟨rfl, q, rfl⟩
  exact ⟨by simp, below_drewN w q⟩

set_option maxHeartbeats 1000000 in
set_option maxRecDepth 100000 in
theorem law_walk (w : World) (v0 v1 : Value) (k0 : StrsIn 1048576 w v0) (k1 : ParsIn 1048576 w v1) :
    Calls Tryz.prog 3 #[v0, v1] w fun e w' => e = .returned (.bool true) ∧ Below w.heap.size w w' := by
  obtain ⟨ls, hv, hll, hl⟩ := k0
  obtain ⟨ps, hp, hcap, hsm⟩ := k1
  have hsl : SmallP 140737488355328 ps := ⟨by have := hsm.1; omega, fun p h => by have := hsm.2 p h; omega⟩
  have KF := hid (fun w' (hb : Below w.heap.size w w') => afields_any v0 ls w' hl (hv.below hb))
  have KG := hid (fun w' (hb : Below w.heap.size w w') => reffields_any v0 ls w' hl (hv.below hb))
  have KT := hid (fun w' (hb : Below w.heap.size w w') => atext_any v1 ps w' hsl (hp.below hb) hcap)
  have KU := hid (fun w' (hb : Below w.heap.size w w') => rtext_any v1 ps w' hsm (hp.below hb) hcap)
  have hfl := fields_len ls
  obtain ⟨a1, c1, rfl⟩ := hp.form
  obtain ⟨a0, c0, rfl⟩ : ∃ a c, v0 = .slice a ls.length c := by obtain ⟨ao, cap, e, _⟩ := hv; exact ⟨ao, cap, e⟩
  generalize textV ps = tv at KT KU
  obtain ⟨tt, tn⟩ := tv
  unfold FieldsRes at KF KG
  generalize fieldsV ls = fr at KF KG hfl
  obtain ⟨fp, fm⟩ := fr
  simp only at KT KU KF KG hfl
  clear hv hl hp hcap hsm hsl
  by_cases l1 : ps.length ≤ 100
  case neg =>
    have l1' : (100 : Int) < (ps.length : Int) := by omega
    clear KF KG KT KU
    go_enter Tryz.func3, Tryz.ntmps3
    go_wp2_with (go_at_call 7; refine (awake5_any _).mono ?_; rintro e w9 ⟨rfl, hw9⟩)
    go_ret
    exact ⟨rfl, hw9⟩
  have l1' : ¬ ((100 : Int) < (ps.length : Int)) := by omega
  go_enter Tryz.func3, Tryz.ntmps3
  go_wp2_with fail
  refine (KF.out _ (Below.refl _ _)).mono ?_
  rintro e w1 ⟨fv, fn, rfl, ⟨hfn, hfo⟩, hw1⟩
  obtain ⟨xa, xc, hxe⟩ := hfo.parsAt.form
  subst hxe hfn
  have P1 := hid hfo.parsAt
  clear KF hfo
  go_wp2_with fail
  refine (KG.out _ hw1).mono ?_
  rintro e w2 ⟨gv, gn, rfl, ⟨hgn, hgo⟩, hw2⟩
  obtain ⟨ya, yc, hye⟩ := hgo.parsAt.form
  subst hye hgn
  have P2 := hid hgo.parsAt
  have P1b := hid (P1.out.below hw2)
  have hb2 := hw1.trans (hw2.mono hw1.size)
  clear KG hgo P1 hw1 hw2
  go_wp2_with fail
  refine (KT.out _ hb2).mono ?_
  rintro e w3 ⟨rfl, hw3⟩
  have P1c := hid (P1b.out.below hw3)
  have P2c := hid (P2.out.below hw3)
  have hb3 := hb2.trans (hw3.mono hb2.size)
  clear KT P1b P2 hb2 hw3
  go_wp2_with fail
  refine (KU.out _ hb3).mono ?_
  rintro e w4 ⟨rfl, hw4⟩
  have P1d := hid (P1c.out.below hw4)
  have P2d := hid (P2c.out.below hw4)
  have hb4 := hb3.trans (hw4.mono hb3.size)
  clear KU P1c P2c hb3 hw4
  go_wp2_with fail
  refine (lists_b _ _ fp _ hfl P1d.out P2d.out).mono ?_
  rintro e w5 ⟨rfl, hw5⟩
  have hb5 := hb4.trans (hw5.mono hb4.size)
  clear P1d P2d hb4 hw5
  go_wp2_with (go_at_call 7; refine (awake5_any _).mono ?_; rintro e w9 ⟨rfl, hw9⟩)
  go_ret
  exact ⟨rfl, hb5.trans (hw9.mono hb5.size)⟩

end Go.Proofs.YtgboekilhldejaaGreatDoor.addrFields
