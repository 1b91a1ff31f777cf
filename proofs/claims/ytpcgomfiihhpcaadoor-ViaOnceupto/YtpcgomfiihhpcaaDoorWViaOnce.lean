/-
  The walk of the law ViaOnce.
-/
import Derived.Test.YtpcgomfiihhpcaaDoorVAwake
import Derived.Test.YtpcgomfiihhpcaaDoorVSame
namespace Go.Proofs.YtpcgomfiihhpcaaDoor.viaOnce
open Go.RowKit Sc
set_option linter.unusedVariables false
set_option maxRecDepth 20000

set_option maxHeartbeats 4000000 in
set_option maxRecDepth 100000 in
theorem law_walk (a0 : ByteArray) (b0 : a0.size ≤ 1048576) (w : World) :
    Calls Tryd.prog 7 #[.string a0] w fun e w' => e = .returned (.bool true) ∧ Below w.heap.size w w' := by
  have hs0 : a0 = ⟨a0.data.toList.toArray⟩ := by apply ByteArray.ext; simp
  have hl := len_data a0
  generalize a0.data.toList = s at hs0 hl
  subst hs0
  rw [← hl] at b0
  clear hl
  obtain ⟨x, er, hpv⟩ : ∃ x er, parseH s = (x, er) := ⟨_, _, rfl⟩
  have K1 := hid (fun w' => readV hpv w' b0)
  by_cases he : er = 0
  · subst he
    have hok := parseH_checked hpv
    have hsm := smallV_ok hok
    have hpr : printH x = (textH x, 0) := by rw [printH, if_pos hok]
    have hln := textH_small hok
    have K2 := hid (fun q w' (k : HopC.At w' ⟨x, q⟩) => vprint_any ⟨x, q⟩ w' hsm k)
    have K3 := hid (fun w' => readV (parse_textH hok) w' (by omega))
    have K4 := hid (fun q q' w' (k1 : HopC.At w' ⟨x, q⟩) (k2 : HopC.At w' ⟨x, q'⟩) => vsame_any ⟨x, q⟩ ⟨x, q'⟩ w' hsm.2.1.1 k1 k2)
    have K5 := hid (fun q w' (k : HopC.At w' ⟨x, q⟩) => vcheck_any ⟨x, q⟩ w' hsm k)
    simp only at K2 K5
    rw [hpr] at K2
    rw [hok] at K5
    generalize textH x = tx at K2 K3 hln
    clear hsm hpr hok hpv b0
    obtain ⟨ho, po, ps⟩ := x
    unfold hpV at K1 K2 K3 K4 K5
    simp only [decide_true] at K1 K2 K3 K4 K5
    go_enter Tryd.func7, Tryd.ntmps7
    go_wp2_with fail
    refine (K1.out _).mono ?_
    rintro e w1 ⟨a3, c3, rfl, hat1, hw1⟩
    have hx1 := hid (boxV_new w1 ⟨ho, po, ps⟩ (.slice a3 ps.length c3))
    have hA := (Below.refl _ w1).alloc (Nat.le_refl _) (objV ⟨ho, po, ps⟩ (.slice a3 ps.length c3))
    have hlt1 := alloc_lt w1 (objV ⟨ho, po, ps⟩ (.slice a3 ps.length c3))
    have P1 := hid hat1
    unfold objV at hx1 hA hlt1
    simp only at hx1 hA hlt1
    clear K1 hat1
    go_wp2_with fail
    refine (K2.out _ _ (P1.out.below hA)).mono ?_
    rintro e w2 ⟨rfl, hw2⟩
    have hb12 : Below w1.heap.size w1 w2 := hA.trans (hw2.mono hA.size)
    have hx2 := hid (BoxV.below hx1.out hw2 hlt1)
    have hlt2 : w1.heap.size < w2.heap.size := Nat.lt_of_lt_of_le hlt1 hw2.size
    clear hx1 hA hlt1 hw2
    go_wp2_with fail
    refine (K3.out _).mono ?_
    rintro e w3 ⟨b3, j3, rfl, hat3, hw3⟩
    have hb13 : Below w1.heap.size w1 w3 := hb12.trans (hw3.mono hb12.size)
    have hx3 := hid (BoxV.below hx2.out hw3 hlt2)
    have hlt3 : w1.heap.size < w3.heap.size := Nat.lt_of_lt_of_le hlt2 hw3.size
    have hB := (Below.refl _ w3).alloc (Nat.le_refl _) (objV ⟨ho, po, ps⟩ (.slice b3 ps.length j3))
    have hltB := alloc_lt w3 (objV ⟨ho, po, ps⟩ (.slice b3 ps.length j3))
    unfold objV at hB hltB
    simp only at hB hltB
    have P3 := hid (hat3.below hB)
    have hb14 : Below w1.heap.size w1 _ := hb13.trans (hB.mono hb13.size)
    have hx4 := hid (BoxV.below hx3.out hB hlt3)
    have hlt4 := Nat.lt_trans hlt3 hltB
    obtain ⟨g0, g1, g2⟩ := hx4.out
    simp only at g0 g1 g2
    clear hb12 hx2 hlt2 hw3 hat3 K3 hx3 hlt3 hltB hb13
    go_wp2_with fail
    refine (K4.out _ _ _ (P1.out.below hb14) P3.out).mono ?_
    rintro e w5 ⟨rfl, hw5⟩
    have hb15 : Below w1.heap.size w1 w5 := hb14.trans (hw5.mono hb14.size)
    have hx5 := BoxV.below hx4.out hw5 hlt4
    clear g0 g1 g2 hx4 hw5 K4 P3 hB hb14
    obtain ⟨g0, g1, g2⟩ := hx5
    simp only at g0 g1 g2
    go_wp2_with fail
    refine (K5.out _ _ (P1.out.below hb15)).mono ?_
    rintro e w6 ⟨rfl, hw6⟩
    have hb16 : Below w1.heap.size w1 w6 := hb15.trans (hw6.mono hb15.size)
    have hb : Below w.heap.size w w6 := hw1.trans (hb16.mono hw1.size)
    clear g0 g1 g2 P1 hb15 hb16 hw6 hw1 K5
    go_wp2_with (go_at_call 9; refine (awake7_any _).mono ?_; rintro e w7 ⟨rfl, hw7⟩)
    go_ret
    exact ⟨rfl, hb.trans (hw7.mono hb.size)⟩
  · have hu := parseH_none hpv he
    subst hu
    have hn : (er != 0) = true := by simpa using he
    have hn2 : (er == 0) = false := by simpa using he
    unfold hpV at K1
    simp only [noH] at K1
    clear hpv he b0
    go_enter Tryd.func7, Tryd.ntmps7
    go_wp2_with fail
    refine (K1.out _).mono ?_
    rintro e w1 ⟨a3, c3, rfl, hat1, hw1⟩
    have hbo : ∀ o, Below w.heap.size w (w1.alloc o) := fun o => hw1.alloc hw1.size o
    clear hat1 K1
    go_wp2_with (go_at_call 9; refine (awake7_any _).mono ?_; rintro e w7 ⟨rfl, hw7⟩)
    go_ret
    exact ⟨rfl, (hbo _).trans (hw7.mono (hbo _).size)⟩

end Go.Proofs.YtpcgomfiihhpcaaDoor.viaOnce
