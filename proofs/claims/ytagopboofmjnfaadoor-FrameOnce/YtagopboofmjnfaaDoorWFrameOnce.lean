/-
  The walk of the law FrameOnce.
-/
import Derived.Test.YtagopboofmjnfaaDoorFLaw6
namespace Go.Proofs.YtagopboofmjnfaaDoor.frameOnce
open Go.RowKit Go.Sort Sc
set_option linter.unusedVariables false
set_option maxRecDepth 20000

set_option maxHeartbeats 4000000 in
set_option maxRecDepth 100000 in
theorem law_walk (w : World) (v0 : Value) (k0 : BytesIn 140737488351232 w v0) (hmx : MaxAt w) :
    Calls Tryd.prog 7 #[v0] w fun e w' => e = .returned (.bool true) ∧ Below w.heap.size w w' := by
  obtain ⟨l, hat, hl⟩ := k0
  have hcv := conv_bytes hat
  obtain ⟨a0, c0, rfl⟩ := hat.form
  clear hat
  obtain ⟨m, er, hpv⟩ : ∃ m er, parseM l = (m, er) := ⟨_, _, rfl⟩
  have K1 := hid (fun w' (hb : Below w.heap.size w w') => parse_is hpv w' (hmx.below hb) (by omega))
  have KW := hid (fun w' (hb : Below w.heap.size w w') => awake6_any w' (hmx.below hb))
  by_cases he : er = 0
  · subst he
    have hck := parseM_checked hpv
    obtain ⟨hsm, h64⟩ := parseM_small hpv
    have K2 := hid (fun v w' (h : HdrsAt w' v m.headers) => fprint_any m v w' hsm h)
    have KC := hid (fun v w' (h : HdrsAt w' v m.headers) => fcheck_any m v w' hsm h)
    have KS := hid (fun v v' w' (h : HdrsAt w' v m.headers) (h' : HdrsAt w' v' m.headers) => rsame_any m v v' w' (by omega) h h')
    rw [hck] at KC
    have hpr : printM m = if 4096 < (textM m).length then ([], 2) else (textM m, 0) := by rw [printM, if_neg (by simp [hck])]
    have hpt := fun h4 => parse_textM hck [] h4
    rw [List.append_nil] at hpt
    have K3 := hid (fun (h4 : (textM m).length ≤ 4096) w' (hb : Below w.heap.size w w') => parse_is (hpt (by simpa using h4)) w' (hmx.below hb) (by omega))
    generalize textM m = T at hpr K3 hpt
    clear hpv hsm hck hmx hpt
    generalize printM m = P at K2 hpr
    have HPR := hid hpr
    clear hpr
    obtain ⟨me, ta, st, re, hs, bo⟩ := m
    unfold msgV at K1 K2 K3 KC KS
    simp only at K1 K2 K3 KC KS h64
    obtain ⟨n, hn⟩ : ∃ n, n = hs.length := ⟨_, rfl⟩
    rw [← hn] at K1 K3 h64
    clear hn
    go_enter Tryd.func7, Tryd.ntmps7
    go_wp2_with fail
    refine (K1.out _ (Below.refl _ _)).mono ?_
    rintro e w1 ⟨a1, c1, rfl, hat1, hw1⟩
    have HX1 := hid (boxM_new w1 ⟨me, ta, st, re, hs, bo⟩ (.slice a1 n c1))
    have hA := (Below.refl _ w1).alloc (Nat.le_refl _) (objM ⟨me, ta, st, re, hs, bo⟩ (.slice a1 n c1))
    have hltA := alloc_lt w1 (objM ⟨me, ta, st, re, hs, bo⟩ (.slice a1 n c1))
    have HATA := hid (hat1.below hA)
    have hbA := hw1.trans (hA.mono hw1.size)
    unfold objM at HX1 hA hltA HATA hbA
    simp only at HX1 hA hltA HATA hbA
    clear K1 hat1 hcv
    obtain ⟨x0, x1, x2, x3, x4, x5⟩ := HX1.out
    simp only at x0 x1 x2 x3 x4 x5
    go_wp2_with fail
    refine (K2.out _ _ HATA.out).mono ?_
    rintro e w2 ⟨rfl, hw2⟩
    have HX2 := hid (BoxM.below HX1.out hw2 hltA)
    have hlt2 := Nat.lt_of_lt_of_le hltA hw2.size
    have HAT2 := hid (HATA.out.below hw2)
    have hb2 := hbA.trans (hw2.mono hbA.size)
    clear HX1 hA hltA HATA hbA hw2 x0 x1 x2 x3 x4 x5 K2
    obtain ⟨x0, x1, x2, x3, x4, x5⟩ := HX2.out
    simp only at x0 x1 x2 x3 x4 x5
    by_cases h4 : 4096 < T.length
    · rw [if_pos h4] at HPR
      rw [HPR.out]
      clear HPR K3
      go_wp2_with (go_at_call 10; refine (KW.out _ hb2).mono ?_; rintro e w7 ⟨rfl, hw7⟩)
      go_ret
      exact ⟨rfl, hb2.trans (hw7.mono hb2.size)⟩
    · rw [if_neg h4] at HPR
      rw [HPR.out]
      have K4 := hid (K3.out (by omega))
      clear HPR K3
      go_wp2_with fail
      refine (K4.out _ hb2).mono ?_
      rintro e w3 ⟨a3, c3, rfl, hat3, hw3⟩
      have HX3 := hid (BoxM.below HX2.out hw3 hlt2)
      have hlt3 := Nat.lt_of_lt_of_le hlt2 hw3.size
      have HAT3 := hid (HAT2.out.below hw3)
      have hb3 := hb2.trans (hw3.mono hb2.size)
      have HY3 := hid (boxM_new w3 ⟨me, ta, st, re, hs, bo⟩ (.slice a3 n c3))
      have hB := (Below.refl _ w3).alloc (Nat.le_refl _) (objM ⟨me, ta, st, re, hs, bo⟩ (.slice a3 n c3))
      have hltB := alloc_lt w3 (objM ⟨me, ta, st, re, hs, bo⟩ (.slice a3 n c3))
      have HXB := hid (BoxM.below HX3.out hB hlt3)
      have HATB := hid (HAT3.out.below hB)
      have HAT4 := hid (hat3.below hB)
      have hbB := hb3.trans (hB.mono hb3.size)
      unfold objM at HY3 hB hltB HXB HATB HAT4 hbB
      simp only at HY3 hB hltB HXB HATB HAT4 hbB
      clear HX2 HX3 HAT2 HAT3 hat3 hw3 hb2 hb3 K4 x0 x1 x2 x3 x4 x5
      obtain ⟨x0, x1, x2, x3, x4, x5⟩ := HXB.out
      obtain ⟨y0, y1, y2, y3, y4, y5⟩ := HY3.out
      simp only at x0 x1 x2 x3 x4 x5 y0 y1 y2 y3 y4 y5
      go_wp2_with fail
      refine (KC.out _ _ HATB.out).mono ?_
      rintro e w5 ⟨rfl, hw5⟩
      have HX5 := hid (BoxM.below HXB.out hw5 (Nat.lt_trans hlt3 hltB))
      have HY5 := hid (BoxM.below HY3.out hw5 hltB)
      have HATX := hid (HATB.out.below hw5)
      have HATY := hid (HAT4.out.below hw5)
      have hb5 := hbB.trans (hw5.mono hbB.size)
      clear HXB HY3 HATB HAT4 hbB hw5 hB x0 x1 x2 x3 x4 x5 y0 y1 y2 y3 y4 y5 KC
      obtain ⟨x0, x1, x2, x3, x4, x5⟩ := HX5.out
      obtain ⟨y0, y1, y2, y3, y4, y5⟩ := HY5.out
      simp only at x0 x1 x2 x3 x4 x5 y0 y1 y2 y3 y4 y5
      go_wp2_with fail
      refine (KS.out _ _ _ HATX.out HATY.out).mono ?_
      rintro e w6 ⟨rfl, hw6⟩
      have hb6 := hb5.trans (hw6.mono hb5.size)
      clear hb5 hw6 KS HATX HATY x0 x1 x2 x3 x4 x5 y0 y1 y2 y3 y4 y5
      go_wp2_with (go_at_call 10; refine (KW.out _ hb6).mono ?_; rintro e w7 ⟨rfl, hw7⟩)
      go_ret
      exact ⟨rfl, hb6.trans (hw7.mono hb6.size)⟩
  · have hu := parseM_none hpv he
    subst hu
    have hn : (er != 0) = true := by simpa using he
    have hn2 : (er == 0) = false := by simpa using he
    unfold msgV noM at K1
    simp only [List.length_nil] at K1
    clear hpv he hmx
    go_enter Tryd.func7, Tryd.ntmps7
    go_wp2_with fail
    refine (K1.out _ (Below.refl _ _)).mono ?_
    rintro e w1 ⟨a1, c1, rfl, hat1, hw1⟩
    have HX1 := hid (boxM_new w1 noM (.slice a1 0 c1))
    have hA := (Below.refl _ w1).alloc (Nat.le_refl _) (objM noM (.slice a1 0 c1))
    have hbA := hw1.trans (hA.mono hw1.size)
    unfold objM noM at hA hbA HX1
    simp only at hA hbA HX1
    obtain ⟨x0, x1, x2, x3, x4, x5⟩ := HX1.out
    simp only at x0 x1 x2 x3 x4 x5
    clear hat1 K1 hA HX1
    go_wp2_with (go_at_call 10; refine (KW.out _ hbA).mono ?_; rintro e w7 ⟨rfl, hw7⟩)
    go_ret
    exact ⟨rfl, hbA.trans (hw7.mono hbA.size)⟩

end Go.Proofs.YtagopboofmjnfaaDoor.frameOnce
