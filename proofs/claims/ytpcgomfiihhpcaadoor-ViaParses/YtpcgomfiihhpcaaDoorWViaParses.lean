/-
  The walk of the law ViaParses.
-/
import Derived.Test.YtpcgomfiihhpcaaDoorVAwake
import Derived.Test.YtpcgomfiihhpcaaDoorRVParse
import Derived.Test.YtpcgomfiihhpcaaDoorVSame
namespace Go.Proofs.YtpcgomfiihhpcaaDoor.viaParses
open Go.RowKit Sc
set_option linter.unusedVariables false
set_option maxRecDepth 20000

theorem rreadV {txt : List UInt8} {v : Hop} {n : Int} (h : parseH txt = (v, n)) (w : World) (hs : txt.length ≤ 1048576) :
    Calls Tryd.prog 19 #[.string ⟨txt.toArray⟩] w fun e w' => ∃ a3 k3, e = .returned (.tuple #[hpV v (.slice a3 v.params.length k3), .int .i64 n]) ∧ HopC.At w' ⟨v, .slice a3 v.params.length k3⟩ ∧ Below w.heap.size w w' := by
  have k := rvparse_any txt w hs
  rw [h] at k
  refine k.mono ?_
  rintro e w' ⟨⟨q, rfl, o3⟩, hb⟩
  obtain ⟨a3, k3, e3⟩ := o3.parsAt.form
  have c3 := o3.cap
  simp only at e3 o3
  subst e3
  exact ⟨a3, k3, rfl, ⟨o3.parsAt, c3⟩, hb⟩

set_option maxHeartbeats 1000000 in
set_option maxRecDepth 100000 in
theorem law_walk (a0 : ByteArray) (b0 : a0.size ≤ 140737488351232) (w : World) :
    Calls Tryd.prog 4 #[.string a0] w fun e w' => e = .returned (.bool true) ∧ Below w.heap.size w w' := by
  by_cases h5 : a0.size ≤ 5000
  case neg =>
    have h5' : (5000 : Int) < (a0.size : Int) := by omega
    go_enter Tryd.func4, Tryd.ntmps4
    go_wp2_with (go_at_call 9; refine (awake7_any _).mono ?_; rintro e w7 ⟨rfl, hw7⟩)
    go_ret
    exact ⟨rfl, hw7⟩
  have h5' : ¬ ((5000 : Int) < (a0.size : Int)) := by omega
  have hs0 : a0 = ⟨a0.data.toList.toArray⟩ := by apply ByteArray.ext; simp
  have hl := len_data a0
  have hsm := @parseH_small a0.data.toList
  obtain ⟨x, er, hpv⟩ : ∃ x er, parseH a0.data.toList = (x, er) := ⟨_, _, rfl⟩
  rw [hpv] at hsm
  simp only at hsm
  have K1 := hid (fun w' => readV hpv w' (by omega))
  have K3 := hid (fun w' => rreadV hpv w' (by omega))
  rw [← hs0] at K1 K3
  have K4 := hid (fun q q' w' (k1 : HopC.At w' ⟨x, q⟩) (k2 : HopC.At w' ⟨x, q'⟩) => vsame_any ⟨x, q⟩ ⟨x, q'⟩ w' hsm.2.1.1 k1 k2)
  clear hsm hpv hs0 hl
  obtain ⟨ho, po, ps⟩ := x
  unfold hpV at K1 K3 K4
  simp only [decide_true] at K1 K3 K4
  have een : (er == er) = true := by simp
  go_enter Tryd.func4, Tryd.ntmps4
  go_wp2_with fail
  refine (K1.out _).mono ?_
  rintro e w1 ⟨a3, c3, rfl, hat1, hw1⟩
  have hx1 := hid (boxV_new w1 ⟨ho, po, ps⟩ (.slice a3 ps.length c3))
  have hA := (Below.refl _ w1).alloc (Nat.le_refl _) (objV ⟨ho, po, ps⟩ (.slice a3 ps.length c3))
  have hlt1 := alloc_lt w1 (objV ⟨ho, po, ps⟩ (.slice a3 ps.length c3))
  have P1 := hid hat1
  unfold objV at hx1 hA hlt1
  simp only at hx1 hA hlt1
  clear K1 hat1
  go_wp2_with fail
  refine (K3.out _).mono ?_
  rintro e w3 ⟨b3, j3, rfl, hat3, hw3⟩
  have hb13 : Below w1.heap.size w1 w3 := hA.trans (hw3.mono hA.size)
  have hx3 := hid (BoxV.below hx1.out hw3 hlt1)
  have hlt3 : w1.heap.size < w3.heap.size := Nat.lt_of_lt_of_le hlt1 hw3.size
  have P3 := hid hat3
  have hB := (Below.refl _ w3).alloc (Nat.le_refl _) (objV ⟨ho, po, ps⟩ (.slice b3 ps.length j3))
  unfold objV at hB
  simp only at hB
  have hx4 := BoxV.below hx3.out hB hlt3
  obtain ⟨g0, g1, g2⟩ := hx4
  simp only at g0 g1 g2
  have hb14 := hb13.trans (hB.mono hb13.size)
  have P3' := hid (P3.out.below hB)
  clear hx1 hA hlt1 hw3 hat3 K3 hx3 hlt3 P3 hB hb13
  go_wp2_with fail
  refine (K4.out _ _ _ (P1.out.below hb14) P3'.out).mono ?_
  rintro e w5 ⟨rfl, hw5⟩
  have hb15 : Below w1.heap.size w1 w5 := hb14.trans (hw5.mono hb14.size)
  have hb : Below w.heap.size w w5 := hw1.trans (hb15.mono hw1.size)
  clear g0 g1 g2 P1 P3' hb14 hb15 hw5 hw1 K4
  go_wp2_with (go_at_call 9; refine (awake7_any _).mono ?_; rintro e w7 ⟨rfl, hw7⟩)
  go_ret
  exact ⟨rfl, hb.trans (hw7.mono hb.size)⟩

end Go.Proofs.YtpcgomfiihhpcaaDoor.viaParses
