/-
  The walk of the law FrameFinds.
-/
import Derived.Test.YtagopboofmjnfaaDoorFLaw6
import Derived.Test.YtagopboofmjnfaaDoorRAll
import Derived.Deep.RegionHeld3
namespace Go.Proofs.YtagopboofmjnfaaDoor.frameFinds
open Go.RowKit Go.Sort Sc
set_option linter.unusedVariables false
set_option maxRecDepth 20000

set_option maxHeartbeats 2000000 in
set_option maxRecDepth 100000 in
theorem law_walk (w : World) (v0 : Value) (a1 : ByteArray) (k0 : MsgGot 140737488351232 w v0) (b1 : a1.size ≤ 140737488351232) (hmx : MaxAt w) :
    Calls Tryd.prog 5 #[v0, .string a1] w fun e w' => e = .returned (.bool true) ∧ Below w.heap.size w w' := by
  obtain ⟨m, h, rfl, hat, hsm0, hcnt, _⟩ := k0
  have hsm := hsm0.le (C := 140737488355328) (by omega)
  clear hsm0
  obtain ⟨nm, rfl⟩ : ∃ l : List UInt8, a1 = ⟨l.toArray⟩ := ⟨a1.data.toList, by simp⟩
  rw [size_list] at b1
  have hnl : nm.length ≤ 140737488355328 := by omega
  obtain ⟨a, c, rfl⟩ := hat.form
  have KM := hid (fun w' (hb : Below w.heap.size w w') => small_many m _ w' hsm hcnt (hat.below hb))
  have KW := hid (fun w' (hb : Below w.heap.size w w') => awake6_any w' (hmx.below hb))
  have K1 := hid (fun w' (hb : Below w.heap.size w w') => fone_any m _ nm w' hsm hcnt hnl (hat.below hb))
  have K2 := hid (fun w' (hb : Below w.heap.size w w') => rone_any m _ nm w' hsm hcnt hnl (hat.below hb))
  have K3 := hid (fun w' (hb : Below w.heap.size w w') => fall_any m _ nm w' hsm hcnt hnl (hat.below hb))
  have K4 := hid (fun w' (hb : Below w.heap.size w w') => rall_any m _ nm w' hsm hcnt hnl (hat.below hb))
  have hal := allK_len m.headers nm m.headers.length
  rw [allK_end m nm (Nat.le_refl _)] at hal
  have K5 := hid (fun B1 B2 v1 v2 w' h1 h2 => texts_any B1 B2 v1 v2 (allV m nm) w' h1 h2 (by omega))
  have HX0 := hid (boxM_new w m (.slice a m.headers.length c))
  have hb0 : Below w.heap.size w (w.alloc (objM m (.slice a m.headers.length c))) := (Below.refl _ w).alloc (Nat.le_refl _) _
  have hlt0 := alloc_lt w (objM m (.slice a m.headers.length c))
  clear hat hmx hsm hal
  generalize oneV m nm = R at K1 K2
  generalize allV m nm = Q at K3 K4 K5
  obtain ⟨ov, ob⟩ := R
  simp only at K1 K2
  obtain ⟨me, ta, st, re, hs, bo⟩ := m
  unfold msgV at KM K1 K2 K3 K4 ⊢
  unfold objM at HX0 hb0 hlt0
  simp only at KM K1 K2 K3 K4 HX0 hb0 hlt0 hcnt ⊢
  obtain ⟨n, hn⟩ : ∃ n, n = hs.length := ⟨_, rfl⟩
  rw [← hn] at KM K1 K2 K3 K4 HX0 hb0 hlt0 hcnt ⊢
  clear hn
  obtain ⟨x0, x1, x2, x3, x4, x5⟩ := HX0.out
  simp only at x0 x1 x2 x3 x4 x5
  go_enter Tryd.func5, Tryd.ntmps5
  go_wp2_with fail
  refine (KM.out _ hb0).mono ?_
  rintro e w1 ⟨⟨sb, rfl⟩, hw1⟩
  have HX1 := hid (BoxM.below HX0.out hw1 hlt0)
  have hb1 := hb0.trans (hw1.mono hb0.size)
  have hlt1 := Nat.lt_of_lt_of_le hlt0 hw1.size
  clear HX0 hb0 hlt0 hw1 x0 x1 x2 x3 x4 x5 KM
  obtain ⟨x0, x1, x2, x3, x4, x5⟩ := HX1.out
  simp only at x0 x1 x2 x3 x4 x5
  cases sb with
  | false =>
    clear K1 K2 K3 K4 K5
    go_wp2_with (go_at_call 10; refine (KW.out _ hb1).mono ?_; rintro e w7 ⟨rfl, hw7⟩)
    go_ret
    exact ⟨rfl, hb1.trans (hw7.mono hb1.size)⟩
  | true =>
    go_wp2_with fail
    refine (K1.out _ hb1).mono ?_
    rintro e w2 ⟨rfl, hw2⟩
    have HX2 := hid (BoxM.below HX1.out hw2 hlt1)
    have hb2 := hb1.trans (hw2.mono hb1.size)
    have hlt2 := Nat.lt_of_lt_of_le hlt1 hw2.size
    clear HX1 hb1 hlt1 hw2 x0 x1 x2 x3 x4 x5 K1
    obtain ⟨x0, x1, x2, x3, x4, x5⟩ := HX2.out
    simp only at x0 x1 x2 x3 x4 x5
    go_wp2_with fail
    refine (K2.out _ hb2).mono ?_
    rintro e w3 ⟨rfl, hw3⟩
    have HX3 := hid (BoxM.below HX2.out hw3 hlt2)
    have hb3 := hb2.trans (hw3.mono hb2.size)
    have hlt : w.heap.size < w3.drew.heap.size := Nat.lt_of_lt_of_le hlt2 hw3.size
    clear HX2 hb2 hlt2 hw3 x0 x1 x2 x3 x4 x5 K2
    have hbx := hid (show BoxM w3.drew w.heap.size ⟨me, ta, st, re, hs, bo⟩ (.slice a n c) from HX3.out)
    have hacc := hb3.drew
    obtain ⟨x0, x1, x2, x3, x4, x5⟩ := HX3.out
    simp only at x0 x1 x2 x3 x4 x5
    clear HX3 hb3
    go_wp2
    go_region_held3 (fun w' => w'.cell? ⟨w.heap.size, 0, none⟩ = some (.string ⟨me.toArray⟩) ∧ w'.cell? ⟨w.heap.size, 1, none⟩ = some (.string ⟨ta.toArray⟩) ∧ w'.cell? ⟨w.heap.size, 2, none⟩ = some (.int .i64 st) ∧ w'.cell? ⟨w.heap.size, 3, none⟩ = some (.string ⟨re.toArray⟩) ∧ w'.cell? ⟨w.heap.size, 4, none⟩ = some (.slice a n c) ∧ w'.cell? ⟨w.heap.size, 5, none⟩ = some (.string ⟨bo.toArray⟩)) (go_keep) (first
      | (go_at_call 23; refine (K3.out _ hacc).mono ?_; rintro e w4 ⟨v4, rfl, ho4, hw4⟩; have O4 := hid ho4; have hbx := hid (BoxM.below (b := w.heap.size) (m := ⟨me, ta, st, re, hs, bo⟩) (h := .slice a n c) hbx.out hw4 hlt); have hacc := hacc.trans (hw4.mono hacc.size); have hlt := Nat.lt_of_lt_of_le hlt hw4.size; clear x0 x1 x2 x3 x4 x5; obtain ⟨x0, x1, x2, x3, x4, x5⟩ := hbx.out; simp only at x0 x1 x2 x3 x4 x5; clear hw4 ho4)
      | (go_at_call 24; refine (K4.out _ hacc).mono ?_; rintro e w5 ⟨v5, rfl, ho5, hw5⟩; have O5 := hid ho5; replace O4 := hid (O4.out.below hw5); have hbx := hid (BoxM.below (b := w.heap.size) (m := ⟨me, ta, st, re, hs, bo⟩) (h := .slice a n c) hbx.out hw5 hlt); have hacc := hacc.trans (hw5.mono hacc.size); have hlt := Nat.lt_of_lt_of_le hlt hw5.size; clear x0 x1 x2 x3 x4 x5; obtain ⟨x0, x1, x2, x3, x4, x5⟩ := hbx.out; simp only at x0 x1 x2 x3 x4 x5; clear hw5 ho5)
      | (go_at_call 22; refine (K5.out _ _ _ _ _ O4.out O5.out).mono ?_; rintro e w6 ⟨rfl, hw6⟩; have hbx := hid (BoxM.below (b := w.heap.size) (m := ⟨me, ta, st, re, hs, bo⟩) (h := .slice a n c) hbx.out hw6 hlt); have hacc := hacc.trans (hw6.mono hacc.size); have hlt := Nat.lt_of_lt_of_le hlt hw6.size; clear x0 x1 x2 x3 x4 x5; obtain ⟨x0, x1, x2, x3, x4, x5⟩ := hbx.out; simp only at x0 x1 x2 x3 x4 x5; clear hw6)
      | (go_at_call 10; refine (KW.out _ hacc).mono ?_; rintro e w7 ⟨rfl, hw7⟩; have hbx := hid (BoxM.below (b := w.heap.size) (m := ⟨me, ta, st, re, hs, bo⟩) (h := .slice a n c) hbx.out hw7 hlt); have hacc := hacc.trans (hw7.mono hacc.size); have hlt := Nat.lt_of_lt_of_le hlt hw7.size; clear x0 x1 x2 x3 x4 x5; obtain ⟨x0, x1, x2, x3, x4, x5⟩ := hbx.out; simp only at x0 x1 x2 x3 x4 x5; clear hw7))
    all_goals (
      go_wp2
      go_ret
      exact ⟨rfl, hacc⟩)

end Go.Proofs.YtagopboofmjnfaaDoor.frameFinds
