/-
  The walk of the law AddrOnce.
-/
import Derived.Test.YtgboekilhldejaaDoorAAwake
namespace Go.Proofs.YtgboekilhldejaaDoor
open Go.RowKit Sc
set_option linter.unusedVariables false
set_option maxRecDepth 20000

theorem tail_none {d u r : List UInt8} {a : Adr} {n : Int} (h : tailV d u r = (a, n)) (hn : n ≠ 0) : a = noA := by
  unfold tailV at h
  split at h
  · exact (Prod.mk.inj h).1.symm
  · split at h
    · exact (Prod.mk.inj h).1.symm
    · split at h
      · exact (Prod.mk.inj h).1.symm
      · exact absurd (Prod.mk.inj h).2.symm hn
theorem parseA_none {s : List UInt8} {a : Adr} {n : Int} (h : parseA s = (a, n)) (hn : n ≠ 0) : a = noA := by
  unfold parseA parseT at h
  split at h
  · split at h
    · exact (Prod.mk.inj h).1.symm
    · split at h
      · exact (Prod.mk.inj h).1.symm
      · exact tail_none h hn
  · split at h
    · exact (Prod.mk.inj h).1.symm
    · exact tail_none h hn
theorem small_may : ∀ (ps b : List Par), mayGo b ps = true → ∀ p ∈ ps, p.name.length ≤ 140737488355328 ∧ p.value.length ≤ 140737488355328
  | [], b, h, p, hp => by simp at hp
  | q :: ps, b, h, p, hp => by
    rw [mayGo, Bool.and_eq_true] at h
    rcases List.mem_cons.1 hp with rfl | hp
    · obtain ⟨m1, _, m3, _, _⟩ := may_facts h.1
      obtain ⟨_, t2, _⟩ := tok_facts m1
      omega
    · exact small_may ps _ h.2 p hp
theorem smallP_ok {ps : List Par} (h : listB ps = true) : SmallP 140737488355328 ps := by
  have hl := listB_ok h
  refine ⟨by have := hl.1; omega, fun p hp => ?_⟩
  have := parB_ok (hl.2 p hp)
  omega
theorem smallU_ok {u : Uri} (h : checkV u = 0) : SmallU 140737488355328 u := by
  obtain ⟨k1, k2, k3, k4, k5, k6, k7, k8⟩ := check_ok h
  have hl1 := schemeB_ok k1
  have hl3 := hostB_ok k3
  exact ⟨by omega, by omega, by omega, smallP_ok k6, smallP_ok k7⟩
theorem smallA_ok {a : Adr} (h : checkA a = 0) : SmallA 140737488355328 a := by
  obtain ⟨k1, _, k3, k4, k5⟩ := checkA_ok h
  exact ⟨by omega, smallU_ok k3, by omega, small_may _ _ k5⟩

end Go.Proofs.YtgboekilhldejaaDoor
namespace Go.Proofs.YtgboekilhldejaaDoor.addrOnce
open Go.RowKit Sc
set_option linter.unusedVariables false

set_option maxHeartbeats 4000000 in
set_option maxRecDepth 100000 in
theorem law_walk (a0 : ByteArray) (b0 : a0.size ≤ 1048576) (w : World) :
    Calls Tryd.prog 4 #[.string a0] w fun e w' => e = .returned (.bool true) ∧ Below w.heap.size w w' := by
  have hs0 : a0 = ⟨a0.data.toList.toArray⟩ := by apply ByteArray.ext; simp
  have hl := len_data a0
  generalize a0.data.toList = s at hs0 hl
  subst hs0
  rw [← hl] at b0
  clear hl
  obtain ⟨x, er, hpv⟩ : ∃ x er, parseA s = (x, er) := ⟨_, _, rfl⟩
  have K1 := hid (fun w' => readA hpv w' b0)
  by_cases he : er = 0
  · subst he
    have hok := parseA_checked hpv
    have hsm := smallA_ok hok
    have hpr : printA x = (textA x, 0) := by rw [printA, if_pos hok]
    have hln := textA_small hok
    have K2 := hid (fun p h q w' (k : AdrC.At w' ⟨x, p, h, q⟩) => aprint_any ⟨x, p, h, q⟩ w' hsm k)
    have K3 := hid (fun w' => readA (parse_textA hok) w' (by omega))
    have K4 := hid (fun p h q p' h' q' w' (k1 : AdrC.At w' ⟨x, p, h, q⟩) (k2 : AdrC.At w' ⟨x, p', h', q'⟩) => asame_any ⟨x, p, h, q⟩ ⟨x, p', h', q'⟩ w' hsm.2.1.2.2.2.1.1 hsm.2.1.2.2.2.2.1 hsm.2.2.1 k1 k2)
    simp only at K2
    rw [hpr] at K2
    generalize textA x = tx at K2 K3 hln
    clear hsm hpr hok hpv b0
    obtain ⟨d, ⟨us, uu, uh, up, upp, uhh⟩, ps⟩ := x
    unfold adrV at K1 K2 K3 K4
    simp only [decide_true] at K1 K2 K3 K4
    go_enter Tryd.func4, Tryd.ntmps4
    go_wp2_with fail
    refine (K1.out _).mono ?_
    rintro e w1 ⟨a1, c1, a2, c2, a3, c3, rfl, hat1, hw1⟩
    have hx1 := hid (boxA_new w1 ⟨d, ⟨us, uu, uh, up, upp, uhh⟩, ps⟩ (.slice a1 upp.length c1) (.slice a2 uhh.length c2) (.slice a3 ps.length c3))
    have hA := (Below.refl _ w1).alloc (Nat.le_refl _) (objA ⟨d, ⟨us, uu, uh, up, upp, uhh⟩, ps⟩ (.slice a1 upp.length c1) (.slice a2 uhh.length c2) (.slice a3 ps.length c3))
    have hlt1 := alloc_lt w1 (objA ⟨d, ⟨us, uu, uh, up, upp, uhh⟩, ps⟩ (.slice a1 upp.length c1) (.slice a2 uhh.length c2) (.slice a3 ps.length c3))
    have P1 := hid hat1
    unfold objA at hx1 hA hlt1
    simp only at hx1 hA hlt1
    clear K1 hat1
    go_wp2_with fail
    refine (K2.out _ _ _ _ (P1.out.below hA)).mono ?_
    rintro e w2 ⟨rfl, hw2⟩
    have hb12 : Below w1.heap.size w1 w2 := hA.trans (hw2.mono hA.size)
    have hx2 := hid (BoxA.below hx1.out hw2 hlt1)
    have hlt2 : w1.heap.size < w2.heap.size := Nat.lt_of_lt_of_le hlt1 hw2.size
    clear hx1 hA hlt1 hw2
    go_wp2_with fail
    refine (K3.out _).mono ?_
    rintro e w3 ⟨b1, j1, b2, j2, b3, j3, rfl, hat3, hw3⟩
    have hb13 : Below w1.heap.size w1 w3 := hb12.trans (hw3.mono hb12.size)
    have hx3 := hid (BoxA.below hx2.out hw3 hlt2)
    have hlt3 : w1.heap.size < w3.heap.size := Nat.lt_of_lt_of_le hlt2 hw3.size
    have P3 := hid hat3
    have hy3 := hid (boxA_new w3 ⟨d, ⟨us, uu, uh, up, upp, uhh⟩, ps⟩ (.slice b1 upp.length j1) (.slice b2 uhh.length j2) (.slice b3 ps.length j3))
    have hB := (Below.refl _ w3).alloc (Nat.le_refl _) (objA ⟨d, ⟨us, uu, uh, up, upp, uhh⟩, ps⟩ (.slice b1 upp.length j1) (.slice b2 uhh.length j2) (.slice b3 ps.length j3))
    have hltB := alloc_lt w3 (objA ⟨d, ⟨us, uu, uh, up, upp, uhh⟩, ps⟩ (.slice b1 upp.length j1) (.slice b2 uhh.length j2) (.slice b3 ps.length j3))
    unfold objA at hy3 hB hltB
    simp only at hy3 hB hltB
    clear hb12 hx2 hlt2 hw3 hat3 K3
    go_wp2_with fail
    refine (K2.out _ _ _ _ (P3.out.below hB)).mono ?_
    rintro e w4 ⟨rfl, hw4⟩
    have hb34 : Below w3.heap.size w3 w4 := hB.trans (hw4.mono hB.size)
    have hx4 := BoxA.below hx3.out hb34 hlt3
    have hy4 := BoxA.below hy3.out hw4 hltB
    have hb14 : Below w1.heap.size w1 w4 := hb13.trans (hb34.mono hb13.size)
    obtain ⟨g0, g1, g2, g3, g4, g5, g6, g7⟩ := hx4
    obtain ⟨i0, i1, i2, i3, i4, i5, i6, i7⟩ := hy4
    simp only at g0 g1 g2 g3 g4 g5 g6 g7 i0 i1 i2 i3 i4 i5 i6 i7
    have P3' := hid (P3.out.below hb34)
    clear hb13 hx3 hlt3 P3 hy3 hB hltB hw4 hb34 K2
    go_wp2_with fail
    refine (K4.out _ _ _ _ _ _ _ (P1.out.below hb14) P3'.out).mono ?_
    rintro e w5 ⟨rfl, hw5⟩
    have hb15 : Below w1.heap.size w1 w5 := hb14.trans (hw5.mono hb14.size)
    have hb : Below w.heap.size w w5 := hw1.trans (hb15.mono hw1.size)
    clear g0 g1 g2 g3 g4 g5 g6 g7 i0 i1 i2 i3 i4 i5 i6 i7 P1 P3' hb14 hb15 hw5 hw1 K4
    go_wp2_with (go_at_call 5; refine (awake5_any _).mono ?_; rintro e w7 ⟨rfl, hw7⟩)
    go_ret
    exact ⟨rfl, hb.trans (hw7.mono hb.size)⟩
  · have hu := parseA_none hpv he
    subst hu
    have hn : (er != 0) = true := by simpa using he
    have hn2 : (er == 0) = false := by simpa using he
    unfold adrV at K1
    simp only [noA, noU] at K1
    clear hpv he b0
    go_enter Tryd.func4, Tryd.ntmps4
    go_wp2_with fail
    refine (K1.out _).mono ?_
    rintro e w1 ⟨a1, c1, a2, c2, a3, c3, rfl, hat1, hw1⟩
    have hbo : ∀ o, Below w.heap.size w (w1.alloc o) := fun o => hw1.alloc hw1.size o
    clear hat1 K1
    go_wp2_with (go_at_call 5; refine (awake5_any _).mono ?_; rintro e w7 ⟨rfl, hw7⟩)
    go_ret
    exact ⟨rfl, (hbo _).trans (hw7.mono (hbo _).size)⟩

end Go.Proofs.YtgboekilhldejaaDoor.addrOnce
