/-
  The walk of the law AddrParses.
-/
import Derived.Test.YtgboekilhldejaaGreatDoorAOnceL
import Derived.Test.YtgboekilhldejaaGreatDoorRParseA
namespace Go.Proofs.YtgboekilhldejaaGreatDoor.addrParses
open Go.RowKit Sc
set_option linter.unusedVariables false
set_option maxRecDepth 20000

theorem small_parsed (s : List UInt8) : SmallA 140737488355328 (parseA s).1 := by
  by_cases h : (parseA s).2 = 0
  · exact smallA_ok (parseA_checked (show parseA s = ((parseA s).1, 0) by rw [← h]))
  · have := parseA_none (show parseA s = ((parseA s).1, (parseA s).2) from rfl) h
    rw [this]
    exact ⟨by simp [noA], ⟨by simp [noA, noU], by simp [noA, noU], by simp [noA, noU], ⟨by simp [noA, noU], by simp [noA, noU]⟩, ⟨by simp [noA, noU], by simp [noA, noU]⟩⟩, ⟨by simp [noA], by simp [noA]⟩⟩
theorem rreadA {txt : List UInt8} {a : Adr} {n : Int} (h : parseA txt = (a, n)) (w : World) (hs : txt.length ≤ 1048576) :
    Calls Tryz.prog 20 #[.string ⟨txt.toArray⟩] w fun e w' => ∃ a1 k1 a2 k2 a3 k3, e = .returned (.tuple #[adrV a (.slice a1 a.uri.params.length k1) (.slice a2 a.uri.headers.length k2) (.slice a3 a.params.length k3), .int .i64 n]) ∧ AdrC.At w' ⟨a, .slice a1 a.uri.params.length k1, .slice a2 a.uri.headers.length k2, .slice a3 a.params.length k3⟩ ∧ Below w.heap.size w w' := by
  have k := rparseA_any txt w hs
  rw [h] at k
  refine k.mono ?_
  rintro e w' ⟨⟨p, hh, q, rfl, o1, o2, o3⟩, hb⟩
  obtain ⟨a1, k1, e1⟩ := o1.parsAt.form
  obtain ⟨a2, k2, e2⟩ := o2.parsAt.form
  obtain ⟨a3, k3, e3⟩ := o3.parsAt.form
  have c3 := o3.cap
  simp only at e1 e2 e3 o1 o2 o3
  subst e1 e2 e3
  exact ⟨a1, k1, a2, k2, a3, k3, rfl, ⟨o1.parsAt, o2.parsAt, o3.parsAt, c3⟩, hb⟩

set_option maxHeartbeats 1000000 in
set_option maxRecDepth 100000 in
theorem law_walk (a0 : ByteArray) (b0 : a0.size ≤ 140737488351232) (w : World) :
    Calls Tryz.prog 5 #[.string a0] w fun e w' => e = .returned (.bool true) ∧ Below w.heap.size w w' := by
  by_cases h5 : a0.size ≤ 5000
  case neg =>
    have h5' : (5000 : Int) < (a0.size : Int) := by omega
    go_enter Tryz.func5, Tryz.ntmps5
    go_wp2_with (go_at_call 7; refine (awake5_any _).mono ?_; rintro e w7 ⟨rfl, hw7⟩)
    go_ret
    exact ⟨rfl, hw7⟩
  have h5' : ¬ ((5000 : Int) < (a0.size : Int)) := by omega
  have hs0 : a0 = ⟨a0.data.toList.toArray⟩ := by apply ByteArray.ext; simp
  have hl := len_data a0
  have hsm := small_parsed a0.data.toList
  obtain ⟨x, er, hpv⟩ : ∃ x er, parseA a0.data.toList = (x, er) := ⟨_, _, rfl⟩
  rw [hpv] at hsm
  simp only at hsm
  have K1 := hid (fun w' => readA hpv w' (by omega))
  have K3 := hid (fun w' => rreadA hpv w' (by omega))
  rw [← hs0] at K1 K3
  have K4 := hid (fun p h q p' h' q' w' (k1 : AdrC.At w' ⟨x, p, h, q⟩) (k2 : AdrC.At w' ⟨x, p', h', q'⟩) => asame_any ⟨x, p, h, q⟩ ⟨x, p', h', q'⟩ w' hsm.2.1.2.2.2.1.1 hsm.2.1.2.2.2.2.1 hsm.2.2.1 k1 k2)
  clear hsm hpv hs0 hl
  obtain ⟨d, ⟨us, uu, uh, up, upp, uhh⟩, ps⟩ := x
  unfold adrV at K1 K3 K4
  simp only [decide_true] at K1 K3 K4
  have een : (er == er) = true := by simp
  go_enter Tryz.func5, Tryz.ntmps5
  go_wp2_with fail
  refine (K1.out _).mono ?_
  rintro e w1 ⟨a1, c1, a2, c2, a3, c3, rfl, hat1, hw1⟩
  have hx1 := hid (boxA_new w1 ⟨d, ⟨us, uu, uh, up, upp, uhh⟩, ps⟩ (.slice a1 upp.length c1) (.slice a2 uhh.length c2) (.slice a3 ps.length c3))
  have hA := (Below.refl _ w1).alloc (Nat.le_refl _) (objA ⟨d, ⟨us, uu, uh, up, upp, uhh⟩, ps⟩ (.slice a1 upp.length c1) (.slice a2 uhh.length c2) (.slice a3 ps.length c3))
  have hlt1 := alloc_lt w1 (objA ⟨d, ⟨us, uu, uh, up, upp, uhh⟩, ps⟩ (.slice a1 upp.length c1) (.slice a2 uhh.length c2) (.slice a3 ps.length c3))
  have P1 := hid hat1
  unfold objA at hx1 hA hlt1
  simp only at hx1 hA hlt1
  clear K1 hat1
  go_wp2_with fail
  refine (K3.out _).mono ?_
  rintro e w3 ⟨b1, j1, b2, j2, b3, j3, rfl, hat3, hw3⟩
  have hb13 : Below w1.heap.size w1 w3 := hA.trans (hw3.mono hA.size)
  have hx3 := hid (BoxA.below hx1.out hw3 hlt1)
  have hlt3 : w1.heap.size < w3.heap.size := Nat.lt_of_lt_of_le hlt1 hw3.size
  have P3 := hid hat3
  have hB := (Below.refl _ w3).alloc (Nat.le_refl _) (objA ⟨d, ⟨us, uu, uh, up, upp, uhh⟩, ps⟩ (.slice b1 upp.length j1) (.slice b2 uhh.length j2) (.slice b3 ps.length j3))
  unfold objA at hB
  simp only at hB
  have hx4 := BoxA.below hx3.out hB hlt3
  obtain ⟨g0, g1, g2, g3, g4, g5, g6, g7⟩ := hx4
  simp only at g0 g1 g2 g3 g4 g5 g6 g7
  have hb14 := hb13.trans (hB.mono hb13.size)
  have P3' := hid (P3.out.below hB)
  clear hx1 hA hlt1 hw3 hat3 K3 hx3 hlt3 P3 hB hb13
  go_wp2_with fail
  refine (K4.out _ _ _ _ _ _ _ (P1.out.below hb14) P3'.out).mono ?_
  rintro e w5 ⟨rfl, hw5⟩
  have hb15 : Below w1.heap.size w1 w5 := hb14.trans (hw5.mono hb14.size)
  have hb : Below w.heap.size w w5 := hw1.trans (hb15.mono hw1.size)
  clear g0 g1 g2 g3 g4 g5 g6 g7 P1 P3' hb14 hb15 hw5 hw1 K4
  go_wp2_with (go_at_call 7; refine (awake5_any _).mono ?_; rintro e w7 ⟨rfl, hw7⟩)
  go_ret
  exact ⟨rfl, hb.trans (hw7.mono hb.size)⟩

end Go.Proofs.YtgboekilhldejaaGreatDoor.addrParses
