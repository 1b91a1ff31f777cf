/-
  The walk of the law FrameBack.
-/
import Derived.Test.YtagopboofmjnfaaDoorFLaw6
namespace Go.Proofs.YtagopboofmjnfaaDoor.frameBack
open Go.RowKit Go.Sort Sc
set_option linter.unusedVariables false
set_option maxRecDepth 20000

set_option maxHeartbeats 4000000 in
set_option maxRecDepth 100000 in
theorem law_walk (w : World) (v0 v1 : Value) (k0 : MsgGot 140737488351232 w v0) (k1 : BytesIn 140737488351232 w v1) (hmx : MaxAt w) :
    Calls Tryd.prog 6 #[v0, v1] w fun e w' => e = .returned (.bool true) ∧ Below w.heap.size w w' := by
  obtain ⟨m, h, rfl, hat, hsm0, hcnt, _⟩ := k0
  obtain ⟨l, hatl, hl⟩ := k1
  have hsm := hsm0.le (C := 140737488355328) (by omega)
  clear hsm0
  obtain ⟨a, c, rfl⟩ := hat.form
  obtain ⟨a0, c0, rfl⟩ := hatl.form
  have HCV := hid (fun (w' : World) (hb : Below w.heap.size w w') => conv_bytes (hatl.below hb))
  have KM := hid (fun w' (hb : Below w.heap.size w w') => small_many m _ w' hsm hcnt (hat.below hb))
  have KW := hid (fun w' (hb : Below w.heap.size w w') => awake6_any w' (hmx.below hb))
  have KP := hid (fun w' (hb : Below w.heap.size w w') => fprint_any m _ w' hsm (hat.below hb))
  have KS := hid (fun v' w' (hb : Below w.heap.size w w') (h' : HdrsAt w' v' m.headers) => rsame_any m _ v' w' hcnt (hat.below hb) h')
  have hpb : (printM m).2 ≠ 0 → (printM m).1 = [] := by
    intro hne
    unfold printM at hne ⊢
    split
    · rfl
    · split
      · rfl
      · rename_i h1 h2; rw [if_neg h1, if_neg h2] at hne; simp at hne
  have hpg : (printM m).2 = 0 → checkM m = 0 ∧ (printM m).1 = textM m ∧ (textM m).length ≤ 4096 := by
    intro h0
    unfold printM at h0 ⊢
    split at h0
    · rename_i h1; exact absurd h0 h1
    · rename_i h1
      split at h0
      · simp at h0
      · rename_i h2
        rw [if_neg h1, if_neg h2]
        exact ⟨by simpa using h1, rfl, by omega⟩
  have K3 := hid (fun (h0 : (printM m).2 = 0) (bh : List UInt8) (h4 : (printM m).1.length + bh.length ≤ 4096) w' (hb : Below w.heap.size w w') => by
    obtain ⟨g1, g2, g3⟩ := hpg h0
    rw [g2] at h4
    have := parse_is (parse_textM g1 bh h4) w' (hmx.below hb) (by rw [List.length_append]; omega)
    rw [← g2] at this
    exact this)
  have HLT : Hid ((printM m).2 = 0 → (printM m).1.length ≤ 4096) := fun h0 => by
    obtain ⟨g1, g2, g3⟩ := hpg h0
    rw [g2]; exact g3
  have HPB := hid hpb
  have HX0 := hid (boxM_new w m (.slice a m.headers.length c))
  have hb0 : Below w.heap.size w (w.alloc (objM m (.slice a m.headers.length c))) := (Below.refl _ w).alloc (Nat.le_refl _) _
  have hlt0 := alloc_lt w (objM m (.slice a m.headers.length c))
  clear hpb hpg hat hatl hmx hsm
  generalize printM m = P at KP K3 HLT HPB
  obtain ⟨T, er⟩ := P
  simp only at KP K3 HLT HPB
  obtain ⟨me, ta, st, re, hs, bo⟩ := m
  unfold msgV at KM KP KS K3 ⊢
  unfold objM at HX0 hb0 hlt0
  simp only at KM KP KS K3 HX0 hb0 hlt0 hcnt ⊢
  obtain ⟨n, hn⟩ : ∃ n, n = hs.length := ⟨_, rfl⟩
  rw [← hn] at KM KP KS K3 HX0 hb0 hlt0 hcnt ⊢
  clear hn
  obtain ⟨x0, x1, x2, x3, x4, x5⟩ := HX0.out
  simp only at x0 x1 x2 x3 x4 x5
  go_enter Tryd.func6, Tryd.ntmps6
  go_wp2_with fail
  refine (KM.out _ hb0).mono ?_
  rintro e w1 ⟨⟨sb, rfl⟩, hw1⟩
  have HX1 := hid (BoxM.below HX0.out hw1 hlt0)
  have hb1 := hb0.trans (hw1.mono hb0.size)
  have hlt1 := Nat.lt_of_lt_of_le hlt0 hw1.size
  clear HX0 hb0 hlt0 hw1 x0 x1 x2 x3 x4 x5 KM
  obtain ⟨x0, x1, x2, x3, x4, x5⟩ := HX1.out
  simp only at x0 x1 x2 x3 x4 x5
  cases sb with
  | false =>
    go_wp2_with (go_at_call 10; refine (KW.out _ hb1).mono ?_; rintro e w7 ⟨rfl, hw7⟩)
    go_ret
    exact ⟨rfl, hb1.trans (hw7.mono hb1.size)⟩
  | true =>
    go_wp2_with fail
    refine (KP.out _ hb1).mono ?_
    rintro e w2 ⟨rfl, hw2⟩
    have HX2 := hid (BoxM.below HX1.out hw2 hlt1)
    have hb2 := hb1.trans (hw2.mono hb1.size)
    have hlt2 := Nat.lt_of_lt_of_le hlt1 hw2.size
    clear HX1 hb1 hlt1 hw2 x0 x1 x2 x3 x4 x5 KP
    obtain ⟨x0, x1, x2, x3, x4, x5⟩ := HX2.out
    simp only at x0 x1 x2 x3 x4 x5
    by_cases he : er = 0
    case neg =>
      have hn : (er != 0) = true := by simpa using he
      obtain rfl := HPB.out he
      clear HPB HLT K3
      go_wp2_with (go_at_call 10; refine (KW.out _ hb2).mono ?_; rintro e w7 ⟨rfl, hw7⟩)
      go_ret
      exact ⟨rfl, hb2.trans (hw7.mono hb2.size)⟩
    subst he
    have hT := HLT.out rfl
    have zT := size_list T
    clear HPB HLT
    by_cases hlong : (4096 : Int) - (T.length : Int) < (l.length : Int)
    · have K4 := hid (K3.out rfl [] (by simp; omega))
      rw [List.append_nil] at K4
      have hcv := conv_bytes (w := w2) (v := .slice none 0 0) (l := []) (Or.inl ⟨rfl, rfl⟩)
      have happ : (⟨T.toArray⟩ : ByteArray) ++ ⟨#[]⟩ = ⟨T.toArray⟩ := by
        have := ByteArray.mk_append_mk T []
        rw [List.append_nil] at this
        exact this
      have hq : ¬ 9223372036854775807 < T.length := by omega
      clear K3 HCV
      go_wp2_with fail
      refine (K4.out _ hb2).mono ?_
      rintro e w3 ⟨a3, c3, rfl, hat3, hw3⟩
      have HX3 := hid (BoxM.below HX2.out hw3 hlt2)
      have hlt3 := Nat.lt_of_lt_of_le hlt2 hw3.size
      have hb3 := hb2.trans (hw3.mono hb2.size)
      have HY3 := hid (boxM_new w3 ⟨me, ta, st, re, hs, bo⟩ (.slice a3 n c3))
      have hB := (Below.refl _ w3).alloc (Nat.le_refl _) (objM ⟨me, ta, st, re, hs, bo⟩ (.slice a3 n c3))
      have HXB := hid (BoxM.below HX3.out hB hlt3)
      have HAT4 := hid (hat3.below hB)
      have hbB := hb3.trans (hB.mono hb3.size)
      unfold objM at HY3 hB HXB HAT4 hbB
      simp only at HY3 hB HXB HAT4 hbB
      clear HX2 HX3 hat3 hw3 hb2 hb3 K4 x0 x1 x2 x3 x4 x5
      obtain ⟨x0, x1, x2, x3, x4, x5⟩ := HXB.out
      obtain ⟨y0, y1, y2, y3, y4, y5⟩ := HY3.out
      simp only at x0 x1 x2 x3 x4 x5 y0 y1 y2 y3 y4 y5
      go_wp2_with fail
      refine (KS.out _ _ hbB HAT4.out).mono ?_
      rintro e w6 ⟨rfl, hw6⟩
      have hb6 := hbB.trans (hw6.mono hbB.size)
      clear hbB hw6 KS HAT4 x0 x1 x2 x3 x4 x5 y0 y1 y2 y3 y4 y5
      go_wp2_with (go_at_call 10; refine (KW.out _ hb6).mono ?_; rintro e w7 ⟨rfl, hw7⟩)
      go_ret
      exact ⟨rfl, hb6.trans (hw7.mono hb6.size)⟩
    · have K4 := hid (K3.out rfl l (by omega))
      have hcv := HCV.out _ hb2
      have happ : (⟨T.toArray⟩ : ByteArray) ++ ⟨l.toArray⟩ = ⟨(T ++ l).toArray⟩ := by
        rw [ByteArray.mk_append_mk]
      have hq : ¬ 9223372036854775807 < T.length + l.length := by omega
      rw [← happ] at K4
      clear K3 HCV
      go_wp2_with fail
      refine (K4.out _ hb2).mono ?_
      rintro e w3 ⟨a3, c3, rfl, hat3, hw3⟩
      have HX3 := hid (BoxM.below HX2.out hw3 hlt2)
      have hlt3 := Nat.lt_of_lt_of_le hlt2 hw3.size
      have hb3 := hb2.trans (hw3.mono hb2.size)
      have HY3 := hid (boxM_new w3 ⟨me, ta, st, re, hs, bo⟩ (.slice a3 n c3))
      have hB := (Below.refl _ w3).alloc (Nat.le_refl _) (objM ⟨me, ta, st, re, hs, bo⟩ (.slice a3 n c3))
      have HXB := hid (BoxM.below HX3.out hB hlt3)
      have HAT4 := hid (hat3.below hB)
      have hbB := hb3.trans (hB.mono hb3.size)
      unfold objM at HY3 hB HXB HAT4 hbB
      simp only at HY3 hB HXB HAT4 hbB
      clear HX2 HX3 hat3 hw3 hb2 hb3 K4 x0 x1 x2 x3 x4 x5
      obtain ⟨x0, x1, x2, x3, x4, x5⟩ := HXB.out
      obtain ⟨y0, y1, y2, y3, y4, y5⟩ := HY3.out
      simp only at x0 x1 x2 x3 x4 x5 y0 y1 y2 y3 y4 y5
      go_wp2_with fail
      refine (KS.out _ _ hbB HAT4.out).mono ?_
      rintro e w6 ⟨rfl, hw6⟩
      have hb6 := hbB.trans (hw6.mono hbB.size)
      clear hbB hw6 KS HAT4 x0 x1 x2 x3 x4 x5 y0 y1 y2 y3 y4 y5
      go_wp2_with (go_at_call 10; refine (KW.out _ hb6).mono ?_; rintro e w7 ⟨rfl, hw7⟩)
      go_ret
      exact ⟨rfl, hb6.trans (hw7.mono hb6.size)⟩

end Go.Proofs.YtagopboofmjnfaaDoor.frameBack
