/-
  The walk of the law AddrBack.
-/
import Derived.Test.YtgboekilhldejaaDoorAAwake
namespace Go.Proofs.YtgboekilhldejaaDoor.addrBack
open Go.RowKit Sc
set_option linter.unusedVariables false
set_option maxRecDepth 20000

theorem noA_small {a : Adr} (h : checkA a = 0) : a.uri.params.length ≤ 140737488355328 ∧ a.uri.headers.length ≤ 140737488355328 ∧ a.params.length ≤ 140737488355328 := by
  obtain ⟨_, _, k3, k4, _⟩ := checkA_ok h
  obtain ⟨_, _, _, _, _, k6, k7, _⟩ := check_ok k3
  have h1 := (listB_ok k6).1
  have h2 := (listB_ok k7).1
  omega

set_option maxHeartbeats 2000000 in
set_option maxRecDepth 100000 in
theorem law_walk (w : World) (v0 : Value) (k0 : AddrIn 140737488351232 w v0) :
    Calls Tryd.prog 3 #[v0] w fun e w' => e = .returned (.bool true) ∧ Below w.heap.size w w' := by
  obtain ⟨⟨⟨d, ⟨us, uu, uh, up, upp, uhh⟩, ps⟩, p, h, q⟩, rfl, hat, hsm0⟩ := k0
  have hsm := hsm0.le (show 140737488351232 ≤ 140737488355328 by omega)
  have KP := hid (fun w' (hb : Below w.heap.size w w') => aprint_any ⟨⟨d, ⟨us, uu, uh, up, upp, uhh⟩, ps⟩, p, h, q⟩ w' hsm (hat.below hb))
  have KAT := hid (fun w' (hb : Below w.heap.size w w') => hat.below hb)
  have hbx := boxA_new w ⟨d, ⟨us, uu, uh, up, upp, uhh⟩, ps⟩ p h q
  have hb0 : Below w.heap.size w (w.alloc (objA ⟨d, ⟨us, uu, uh, up, upp, uhh⟩, ps⟩ p h q)) := (Below.refl _ w).alloc (Nat.le_refl _) _
  have hlt := alloc_lt w (objA ⟨d, ⟨us, uu, uh, up, upp, uhh⟩, ps⟩ p h q)
  have HBX := hid hbx
  clear hbx
  obtain ⟨h1, h2, h3, hcap⟩ := hat
  simp only at h1 h2 h3
  obtain ⟨a1, c1, rfl⟩ := h1.form
  obtain ⟨a2, c2, rfl⟩ := h2.form
  obtain ⟨a3, c3, rfl⟩ := h3.form
  clear h1 h2 h3 hcap hsm0 hsm
  unfold adrV at KP ⊢
  unfold objA at hb0 hlt HBX
  simp only at KP HBX hb0 hlt ⊢
  obtain ⟨x0, x1, x2, x3, x4, x5, x6, x7⟩ := HBX.out
  simp only at x0 x1 x2 x3 x4 x5 x6 x7
  by_cases l1 : ps.length ≤ 100
  case neg =>
    have l1' : (100 : Int) < (ps.length : Int) := by omega
    clear KP KAT
    go_enter Tryd.func3, Tryd.ntmps3
    go_wp2_with (go_at_call 5; refine (awake5_any _).mono ?_; rintro e w9 ⟨rfl, hw9⟩)
    go_ret
    exact ⟨rfl, hb0.trans (hw9.mono hb0.size)⟩
  have l1' : ¬ ((100 : Int) < (ps.length : Int)) := by omega
  by_cases l2 : upp.length ≤ 100
  case neg =>
    have l2' : (100 : Int) < (upp.length : Int) := by omega
    clear KP KAT
    go_enter Tryd.func3, Tryd.ntmps3
    go_wp2_with (go_at_call 5; refine (awake5_any _).mono ?_; rintro e w9 ⟨rfl, hw9⟩)
    go_ret
    exact ⟨rfl, hb0.trans (hw9.mono hb0.size)⟩
  have l2' : ¬ ((100 : Int) < (upp.length : Int)) := by omega
  by_cases l3 : uhh.length ≤ 100
  case neg =>
    have l3' : (100 : Int) < (uhh.length : Int) := by omega
    clear KP KAT
    go_enter Tryd.func3, Tryd.ntmps3
    go_wp2_with (go_at_call 5; refine (awake5_any _).mono ?_; rintro e w9 ⟨rfl, hw9⟩)
    go_ret
    exact ⟨rfl, hb0.trans (hw9.mono hb0.size)⟩
  have l3' : ¬ ((100 : Int) < (uhh.length : Int)) := by omega
  by_cases hok : checkA ⟨d, ⟨us, uu, uh, up, upp, uhh⟩, ps⟩ = 0
  · have hpv : printA ⟨d, ⟨us, uu, uh, up, upp, uhh⟩, ps⟩ = (textA ⟨d, ⟨us, uu, uh, up, upp, uhh⟩, ps⟩, 0) := by rw [printA, if_pos hok]
    rw [hpv] at KP
    have hln := textA_small hok
    have KR := hid (fun w' => readA (parse_textA hok) w' (by omega))
    have KS := hid (fun (p' h' q' : Value) w' (k1 : AdrC.At w' ⟨⟨d, ⟨us, uu, uh, up, upp, uhh⟩, ps⟩, .slice a1 upp.length c1, .slice a2 uhh.length c2, .slice a3 ps.length c3⟩) (k2 : AdrC.At w' ⟨⟨d, ⟨us, uu, uh, up, upp, uhh⟩, ps⟩, p', h', q'⟩) => asame_any ⟨⟨d, ⟨us, uu, uh, up, upp, uhh⟩, ps⟩, .slice a1 upp.length c1, .slice a2 uhh.length c2, .slice a3 ps.length c3⟩ ⟨⟨d, ⟨us, uu, uh, up, upp, uhh⟩, ps⟩, p', h', q'⟩ w' (by simp only; omega) (by simp only; omega) (by simp only; omega) k1 k2)
    unfold adrV at KR KS
    simp only [decide_true] at KP KR KS
    generalize textA _ = tx at KP KR hln
    clear hok hpv
    go_enter Tryd.func3, Tryd.ntmps3
    go_wp2_with fail
    refine (KP.out _ hb0).mono ?_
    rintro e w2 ⟨rfl, hw2⟩
    have HB2 := hid (BoxA.below HBX.out hw2 hlt)
    have hb2 := hb0.trans (hw2.mono hb0.size)
    have hlt2 := Nat.lt_of_lt_of_le hlt hw2.size
    clear HBX hw2 hb0 hlt x0 x1 x2 x3 x4 x5 x6 x7 KP
    go_wp2_with fail
    refine (KR.out _).mono ?_
    rintro e w3 ⟨b1, j1, b2, j2, b3, j3, rfl, hat3, hw3⟩
    have HB3 := hid (BoxA.below HB2.out hw3 hlt2)
    have hb3 := hb2.trans (hw3.mono hb2.size)
    have hlt3 := Nat.lt_of_lt_of_le hlt2 hw3.size
    have HA3 := hid hat3
    clear HB2 hw3 hb2 hlt2 KR hat3
    have hall : ∀ o, BoxA (w3.alloc o) w.heap.size ⟨d, ⟨us, uu, uh, up, upp, uhh⟩, ps⟩ (.slice a1 upp.length c1) (.slice a2 uhh.length c2) (.slice a3 ps.length c3) := fun o => HB3.out.below ((Below.refl _ w3).alloc (Nat.le_refl _) o) hlt3
    have x0 := fun o => (hall o).1
    have x1 := fun o => (hall o).2.1
    have x2 := fun o => (hall o).2.2.1
    have x3 := fun o => (hall o).2.2.2.1
    have x4 := fun o => (hall o).2.2.2.2.1
    have x5 := fun o => (hall o).2.2.2.2.2.1
    have x6 := fun o => (hall o).2.2.2.2.2.2.1
    have x7 := fun o => (hall o).2.2.2.2.2.2.2
    simp only at x0 x1 x2 x3 x4 x5 x6 x7
    have HBO := hid (fun o => hb3.alloc hb3.size o)
    have HA4 := hid (fun o => HA3.out.below ((Below.refl _ w3).alloc (Nat.le_refl _) o))
    clear hall HB3 HA3 hb3
    go_wp2_with fail
    refine (KS.out _ _ _ _ (KAT.out _ (HBO.out _)) (HA4.out _)).mono ?_
    rintro e w4 ⟨rfl, hw4⟩
    have hb4 := (HBO.out _).trans (hw4.mono (HBO.out _).size)
    go_wp2_with (go_at_call 5; refine (awake5_any _).mono ?_; rintro e w9 ⟨rfl, hw9⟩)
    go_ret
    exact ⟨rfl, hb4.trans (hw9.mono hb4.size)⟩
  · have hpv : printA ⟨d, ⟨us, uu, uh, up, upp, uhh⟩, ps⟩ = ([], checkA ⟨d, ⟨us, uu, uh, up, upp, uhh⟩, ps⟩) := by rw [printA, if_neg hok]
    rw [hpv] at KP
    generalize checkA _ = cv at KP hok
    simp only at KP
    have hne : (cv != 0) = true := by simpa using hok
    clear hpv
    go_enter Tryd.func3, Tryd.ntmps3
    go_wp2_with fail
    refine (KP.out _ hb0).mono ?_
    rintro e w2 ⟨rfl, hw2⟩
    have hb2 := hb0.trans (hw2.mono hb0.size)
    clear HBX hw2 hb0 hlt x0 x1 x2 x3 x4 x5 x6 x7 KP
    go_wp2_with (go_at_call 5; refine (awake5_any _).mono ?_; rintro e w9 ⟨rfl, hw9⟩)
    go_ret
    exact ⟨rfl, hb2.trans (hw9.mono hb2.size)⟩

end Go.Proofs.YtgboekilhldejaaDoor.addrBack
