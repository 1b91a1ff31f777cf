/-
  The walk of the law FramePrints.
-/
import Derived.Test.YtagopboofmjnfaaDoorFLaw6
import Derived.Test.YtagopboofmjnfaaDoorRPrint6
import Derived.Test.YtagopboofmjnfaaDoorRLong
import Derived.Test.YtagopboofmjnfaaDoorFLong
import Derived.Deep.RegionHeld3
namespace Go.Proofs.YtagopboofmjnfaaDoor.framePrints
open Go.RowKit Go.Sort Sc
set_option linter.unusedVariables false
set_option maxRecDepth 20000

set_option maxHeartbeats 2000000 in
set_option maxRecDepth 100000 in
theorem law_walk (w : World) (v0 : Value) (a1 : ByteArray) (k0 : MsgGot 140737488351232 w v0) (b1 : a1.size ≤ 140737488351232) (hmx : MaxAt w) :
    Calls Tryd.prog 3 #[v0, .string a1] w fun e w' => e = .returned (.bool true) ∧ Below w.heap.size w w' := by
  obtain ⟨m, h, rfl, hat, hsm0, hcnt, _⟩ := k0
  have hsm := hsm0.le (C := 140737488355328) (by omega)
  clear hsm0
  obtain ⟨nm, rfl⟩ : ∃ l : List UInt8, a1 = ⟨l.toArray⟩ := ⟨a1.data.toList, by simp⟩
  rw [size_list] at b1
  have hnl : nm.length ≤ 140737488355328 := by omega
  obtain ⟨a, c, rfl⟩ := hat.form
  have KM := hid (fun w' (hb : Below w.heap.size w w') => small_many m _ w' hsm hcnt (hat.below hb))
  have KW := hid (fun w' (hb : Below w.heap.size w w') => awake6_any w' (hmx.below hb))
  have K1 := hid (fun w' (hb : Below w.heap.size w w') => fprint_any m _ w' hsm (hat.below hb))
  have K2 := hid (fun w' (hb : Below w.heap.size w w') => rprint_any m _ w' hsm (hat.below hb))
  have K3 := hid (fun w' (hb : Below w.heap.size w w') => fcheck_any m _ w' hsm (hat.below hb))
  have K4 := hid (fun w' (hb : Below w.heap.size w w') => rcheck_any m _ w' hsm (hat.below hb))
  have K5 := hid (fun w' => flong_list nm w' hnl)
  have K6 := hid (fun w' => rlong_list nm w' hnl)
  have HX0 := hid (boxM_new w m (.slice a m.headers.length c))
  have hb0 : Below w.heap.size w (w.alloc (objM m (.slice a m.headers.length c))) := (Below.refl _ w).alloc (Nat.le_refl _) _
  have hlt0 := alloc_lt w (objM m (.slice a m.headers.length c))
  clear hat hmx hsm
  generalize printM m = R at K1 K2
  generalize checkM m = cv at K3 K4
  generalize longV nm = lv at K5 K6
  obtain ⟨ov, ob⟩ := R
  simp only at K1 K2
  obtain ⟨me, ta, st, re, hs, bo⟩ := m
  unfold msgV at KM K1 K2 K3 K4 ⊢
  unfold objM at HX0 hb0 hlt0
  simp only at KM K1 K2 K3 K4 HX0 hb0 hlt0 hcnt ⊢
  obtain ⟨n, hn⟩ : ∃ n, n = hs.length := ⟨_, rfl⟩
  rw [← hn] at KM K1 K2 K3 K4 HX0 hb0 hlt0 hcnt ⊢
  clear hn
  obtain ⟨x0, x1, x2, x3, x4, x5⟩ := HX0.out
  simp only at x0 x1 x2 x3 x4 x5
  go_enter Tryd.func3, Tryd.ntmps3
  go_wp2_with fail
  refine (KM.out _ hb0).mono ?_
  rintro e w1 ⟨⟨sb, rfl⟩, hw1⟩
  have HX1 := hid (BoxM.below HX0.out hw1 hlt0)
  have hb1 := hb0.trans (hw1.mono hb0.size)
  have hlt1 := Nat.lt_of_lt_of_le hlt0 hw1.size
  clear HX0 hb0 hlt0 hw1 x0 x1 x2 x3 x4 x5 KM
  obtain ⟨x0, x1, x2, x3, x4, x5⟩ := HX1.out
  simp only at x0 x1 x2 x3 x4 x5
  cases sb with
  | false =>
    clear K1 K2 K3 K4 K5 K6
    go_wp2_with (go_at_call 10; refine (KW.out _ hb1).mono ?_; rintro e w7 ⟨rfl, hw7⟩)
    go_ret
    exact ⟨rfl, hb1.trans (hw7.mono hb1.size)⟩
  | true =>
    go_wp2_with fail
    refine (K1.out _ hb1).mono ?_
    rintro e w2 ⟨rfl, hw2⟩
    have HX2 := hid (BoxM.below HX1.out hw2 hlt1)
    have hb2 := hb1.trans (hw2.mono hb1.size)
    have hlt2 := Nat.lt_of_lt_of_le hlt1 hw2.size
    clear HX1 hb1 hlt1 hw2 x0 x1 x2 x3 x4 x5 K1
    obtain ⟨x0, x1, x2, x3, x4, x5⟩ := HX2.out
    simp only at x0 x1 x2 x3 x4 x5
    go_wp2_with fail
    refine (K2.out _ hb2).mono ?_
    rintro e w3 ⟨rfl, hw3⟩
    have HX3 := hid (BoxM.below HX2.out hw3 hlt2)
    have hb3 := hb2.trans (hw3.mono hb2.size)
    have hlt : w.heap.size < w3.drew.heap.size := Nat.lt_of_lt_of_le hlt2 hw3.size
    clear HX2 hb2 hlt2 hw3 x0 x1 x2 x3 x4 x5 K2
    have hbx := hid (show BoxM w3.drew w.heap.size ⟨me, ta, st, re, hs, bo⟩ (.slice a n c) from HX3.out)
    have hacc := hb3.drew
    obtain ⟨x0, x1, x2, x3, x4, x5⟩ := HX3.out
    simp only at x0 x1 x2 x3 x4 x5
    clear HX3 hb3
    go_wp2
    go_region_held3 (fun w' => w'.cell? ⟨w.heap.size, 0, none⟩ = some (.string ⟨me.toArray⟩) ∧ w'.cell? ⟨w.heap.size, 1, none⟩ = some (.string ⟨ta.toArray⟩) ∧ w'.cell? ⟨w.heap.size, 2, none⟩ = some (.int .i64 st) ∧ w'.cell? ⟨w.heap.size, 3, none⟩ = some (.string ⟨re.toArray⟩) ∧ w'.cell? ⟨w.heap.size, 4, none⟩ = some (.slice a n c) ∧ w'.cell? ⟨w.heap.size, 5, none⟩ = some (.string ⟨bo.toArray⟩)) (go_keep) (first
      | (go_at_call 13; refine (K3.out _ hacc).mono ?_; rintro e w4 ⟨rfl, hw4⟩; have hbx := hid (BoxM.below (b := w.heap.size) (m := ⟨me, ta, st, re, hs, bo⟩) (h := .slice a n c) hbx.out hw4 hlt); have hacc := hacc.trans (hw4.mono hacc.size); have hlt := Nat.lt_of_lt_of_le hlt hw4.size; clear x0 x1 x2 x3 x4 x5; obtain ⟨x0, x1, x2, x3, x4, x5⟩ := hbx.out; simp only at x0 x1 x2 x3 x4 x5; clear hw4)
      | (go_at_call 14; refine (K4.out _ hacc).mono ?_; rintro e w5 ⟨rfl, hw5⟩; have hbx := hid (BoxM.below (b := w.heap.size) (m := ⟨me, ta, st, re, hs, bo⟩) (h := .slice a n c) hbx.out hw5 hlt); have hacc := hacc.trans (hw5.mono hacc.size); have hlt := Nat.lt_of_lt_of_le hlt hw5.size; clear x0 x1 x2 x3 x4 x5; obtain ⟨x0, x1, x2, x3, x4, x5⟩ := hbx.out; simp only at x0 x1 x2 x3 x4 x5; clear hw5)
      | (go_at_call 15; refine (K5.out _).mono ?_; rintro e w6 ⟨rfl, hw6⟩; have hbx := hid (BoxM.below (b := w.heap.size) (m := ⟨me, ta, st, re, hs, bo⟩) (h := .slice a n c) hbx.out hw6 hlt); have hacc := hacc.trans (hw6.mono hacc.size); have hlt := Nat.lt_of_lt_of_le hlt hw6.size; clear x0 x1 x2 x3 x4 x5; obtain ⟨x0, x1, x2, x3, x4, x5⟩ := hbx.out; simp only at x0 x1 x2 x3 x4 x5; clear hw6)
      | (go_at_call 16; refine (K6.out _).mono ?_; rintro e w7 ⟨rfl, hw7⟩; have hbx := hid (BoxM.below (b := w.heap.size) (m := ⟨me, ta, st, re, hs, bo⟩) (h := .slice a n c) hbx.out hw7 hlt); have hacc := hacc.trans (hw7.mono hacc.size); have hlt := Nat.lt_of_lt_of_le hlt hw7.size; clear x0 x1 x2 x3 x4 x5; obtain ⟨x0, x1, x2, x3, x4, x5⟩ := hbx.out; simp only at x0 x1 x2 x3 x4 x5; clear hw7)
      | (go_at_call 10; refine (KW.out _ hacc).mono ?_; rintro e w8 ⟨rfl, hw8⟩; have hbx := hid (BoxM.below (b := w.heap.size) (m := ⟨me, ta, st, re, hs, bo⟩) (h := .slice a n c) hbx.out hw8 hlt); have hacc := hacc.trans (hw8.mono hacc.size); have hlt := Nat.lt_of_lt_of_le hlt hw8.size; clear x0 x1 x2 x3 x4 x5; obtain ⟨x0, x1, x2, x3, x4, x5⟩ := hbx.out; simp only at x0 x1 x2 x3 x4 x5; clear hw8))
    all_goals (
      go_wp2
      go_ret
      exact ⟨rfl, hacc⟩)

end Go.Proofs.YtagopboofmjnfaaDoor.framePrints
