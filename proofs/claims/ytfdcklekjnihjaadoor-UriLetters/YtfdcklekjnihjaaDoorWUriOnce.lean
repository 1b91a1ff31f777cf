/-
  The walk of the law UriOnce.
-/
import Derived.Test.YtfdcklekjnihjaaDoorWUriBack
namespace Go.Proofs.YtfdcklekjnihjaaDoor
open Go.RowKit Sc
set_option linter.unusedVariables false
set_option maxRecDepth 20000

theorem parse_none {s : List UInt8} {u : Uri} {er : Int} (h : parseV s = (u, er)) (he : er ≠ 0) : u = noU := by
  have e1 := congrArg Prod.fst h
  have e2 := congrArg Prod.snd h
  simp only at e1 e2
  unfold parseV at e1 e2
  split at e1
  · exact e1.symm
  rw [if_neg (by assumption)] at e2
  split at e1
  · exact e1.symm
  rw [if_neg (by assumption)] at e2
  unfold bothV at e1 e2
  split at e1
  · exact e1.symm
  rw [if_neg (by assumption)] at e2
  unfold endV at e1 e2
  split at e1
  · exact e1.symm
  rw [if_neg (by assumption)] at e2
  exact absurd e2.symm he
theorem small_list {ps : List Par} (h : listB ps = true) : SmallP 140737488355328 ps := by
  have hl := listB_ok h
  refine ⟨by have := hl.1; omega, fun p hp => ?_⟩
  have := parB_ok (hl.2 p hp)
  omega
theorem small_ok {u : Uri} (h : checkV u = 0) : SmallU 140737488355328 u := by
  obtain ⟨k1, k2, k3, k4, k5, k6, k7, k8⟩ := check_ok h
  have hl1 := schemeB_ok k1
  have hl3 := hostB_ok k3
  exact ⟨by omega, by omega, by omega, small_list k6, small_list k7⟩

end Go.Proofs.YtfdcklekjnihjaaDoor
namespace Go.Proofs.YtfdcklekjnihjaaDoor.uriOnce
open Go.RowKit Sc
set_option linter.unusedVariables false

set_option maxHeartbeats 4000000 in
set_option maxRecDepth 100000 in
theorem law_walk (a0 : ByteArray) (b0 : a0.size ≤ 1048576) (w : World) :
    Calls Tryd.prog 7 #[.string a0] w fun e w' => e = .returned (.bool true) ∧ Below w.heap.size w w' := by
  have hs0 : a0 = ⟨a0.data.toList.toArray⟩ := by apply ByteArray.ext; simp
  have hl := len_data a0
  generalize a0.data.toList = s at hs0 hl
  subst hs0
  rw [← hl] at b0
  clear hl
  obtain ⟨u, er, hpv⟩ : ∃ u er, parseV s = (u, er) := ⟨_, _, rfl⟩
  have K1 : Hid _ := fun w' => parseC hpv w' b0
  by_cases he : er = 0
  · subst he
    have hok := parse_checked hpv
    have hsm := small_ok hok
    have hpr : printV u = (textT u, 0) := by rw [printV, if_pos hok]
    have K2 : Hid _ := fun p h w' (k1 : ParsAt w' p u.params) (k2 : ParsAt w' h u.headers) => print_any u p h w' hsm k1 k2
    rw [hpr] at K2
    have K3 : Hid _ := fun w' => parseC (parse_text hok) w' (textT_len hok)
    have K4 : Hid _ := fun p h p' h' w' (k1 : ParsAt w' p u.params) (k2 : ParsAt w' h u.headers) (k3 : ParsAt w' p' u.params) (k4 : ParsAt w' h' u.headers) => usame_any u u p h p' h' w' hsm.2.2.2.1.1 hsm.2.2.2.2.1 k1 k2 k3 k4
    have K5 : Hid _ := fun p h w' (k1 : ParsAt w' p u.params) (k2 : ParsAt w' h u.headers) => check_any u p h w' hsm k1 k2
    rw [hok] at K5
    simp only [decide_true] at K2 K4
    clear hsm hpr hok hpv b0
    unfold uriV at K2 K4 K5
    go_enter Tryd.func7, Tryd.ntmps7
    go_wp2_with fail
    refine (K1.out _).mono ?_
    rintro e w1 ⟨a1, k1, a2, k2, rfl, ho1, ho2, hw1⟩
    have hx1 : Hid _ := box_new w1 u (.slice a1 u.params.length k1) (.slice a2 u.headers.length k2)
    have hA : Below w1.heap.size w1 (w1.alloc (.cells #[.string ⟨u.scheme.toArray⟩, .string ⟨u.user.toArray⟩, .string ⟨u.host.toArray⟩, .int .i64 u.port, .slice a1 u.params.length k1, .slice a2 u.headers.length k2] 31)) := (Below.refl _ w1).alloc (Nat.le_refl _) _
    have hlt1 : w1.heap.size < (w1.alloc (.cells #[.string ⟨u.scheme.toArray⟩, .string ⟨u.user.toArray⟩, .string ⟨u.host.toArray⟩, .int .i64 u.port, .slice a1 u.params.length k1, .slice a2 u.headers.length k2] 31)).heap.size := by simp
    have P1 : Hid (ParsAt w1 (.slice a1 u.params.length k1) u.params) := ho1.parsAt
    have P2 : Hid (ParsAt w1 (.slice a2 u.headers.length k2) u.headers) := ho2.parsAt
    clear ho1 ho2 K1
    go_wp2_with fail
    refine (K2.out _ _ _ (P1.out.below hA) (P2.out.below hA)).mono ?_
    rintro e w2 ⟨rfl, hw2⟩
    have hb12 : Below w1.heap.size w1 w2 := hA.trans (hw2.mono hA.size)
    have hx2 : Hid _ := BoxU.below hx1.out hw2 hlt1
    have hlt2 : w1.heap.size < w2.heap.size := Nat.lt_of_lt_of_le hlt1 hw2.size
    clear hx1 hA hlt1 hw2
    go_wp2_with fail
    refine (K3.out _).mono ?_
    rintro e w3 ⟨a3, k3, a4, k4, rfl, ho3, ho4, hw3⟩
    have hb13 : Below w1.heap.size w1 w3 := hb12.trans (hw3.mono hb12.size)
    have hx3 : Hid _ := BoxU.below hx2.out hw3 hlt2
    have hlt3 : w1.heap.size < w3.heap.size := Nat.lt_of_lt_of_le hlt2 hw3.size
    have P3 : Hid (ParsAt w3 (.slice a3 u.params.length k3) u.params) := ho3.parsAt
    have P4 : Hid (ParsAt w3 (.slice a4 u.headers.length k4) u.headers) := ho4.parsAt
    have hy3 : Hid _ := box_new w3 u (.slice a3 u.params.length k3) (.slice a4 u.headers.length k4)
    have hB : Below w3.heap.size w3 (w3.alloc (.cells #[.string ⟨u.scheme.toArray⟩, .string ⟨u.user.toArray⟩, .string ⟨u.host.toArray⟩, .int .i64 u.port, .slice a3 u.params.length k3, .slice a4 u.headers.length k4] 31)) := (Below.refl _ w3).alloc (Nat.le_refl _) _
    have hltB : w3.heap.size < (w3.alloc (.cells #[.string ⟨u.scheme.toArray⟩, .string ⟨u.user.toArray⟩, .string ⟨u.host.toArray⟩, .int .i64 u.port, .slice a3 u.params.length k3, .slice a4 u.headers.length k4] 31)).heap.size := by simp
    clear hb12 hx2 hlt2 hw3 ho3 ho4 K3
    go_wp2_with fail
    refine (K2.out _ _ _ (P3.out.below hB) (P4.out.below hB)).mono ?_
    rintro e w4 ⟨rfl, hw4⟩
    have hb34 : Below w3.heap.size w3 w4 := hB.trans (hw4.mono hB.size)
    have hx4 : Hid _ := BoxU.below hx3.out hb34 hlt3
    have hy4 : Hid _ := BoxU.below hy3.out hw4 hltB
    have hlt4 : w1.heap.size < w4.heap.size := Nat.lt_of_lt_of_le hlt3 hb34.size
    have hb14 : Below w1.heap.size w1 w4 := hb13.trans (hb34.mono hb13.size)
    obtain ⟨g0, g1, g2, g3, g4, g5⟩ := hx4.out
    obtain ⟨j0, j1, j2, j3, j4, j5⟩ := hy4.out
    have P3' : Hid _ := P3.out.below hb34
    have P4' : Hid _ := P4.out.below hb34
    clear hb13 hx3 hlt3 P3 P4 hy3 hB hltB hw4 hb34 K2
    go_wp2_with fail
    refine (K4.out _ _ _ _ _ (P1.out.below hb14) (P2.out.below hb14) P3'.out P4'.out).mono ?_
    rintro e w5 ⟨rfl, hw5⟩
    have hb15 : Below w1.heap.size w1 w5 := hb14.trans (hw5.mono hb14.size)
    have hx5 : Hid _ := BoxU.below hx4.out hw5 hlt4
    clear g0 g1 g2 g3 g4 g5 j0 j1 j2 j3 j4 j5 hx4 hy4 P3' P4' hb14 hlt4 hw5 K4
    obtain ⟨g0, g1, g2, g3, g4, g5⟩ := hx5.out
    go_wp2_with fail
    refine (K5.out _ _ _ (P1.out.below hb15) (P2.out.below hb15)).mono ?_
    rintro e w6 ⟨rfl, hw6⟩
    have hb16 : Below w.heap.size w w6 := (hw1.trans (hb15.mono hw1.size)).trans (hw6.mono (Nat.le_trans hw1.size hb15.size))
    clear g0 g1 g2 g3 g4 g5 hx5 P1 P2 hb15 hw1 hw6 K5
    go_wp2_with (go_at_call 15; refine (awake_any _).mono ?_; rintro e w7 ⟨rfl, hw7⟩)
    go_ret
    exact ⟨rfl, hb16.trans (hw7.mono hb16.size)⟩
  · have hu := parse_none hpv he
    subst hu
    have hn : (er != 0) = true := by simpa using he
    have hn2 : (er == 0) = false := by simpa using he
    simp only [noU] at K1
    clear hpv he b0
    go_enter Tryd.func7, Tryd.ntmps7
    go_wp2_with fail
    refine (K1.out _).mono ?_
    rintro e w1 ⟨a1, k1, a2, k2, rfl, ho1, ho2, hw1⟩
    have hbo : ∀ o, Below w.heap.size w (w1.alloc o) := fun o => hw1.alloc hw1.size o
    clear ho1 ho2 K1
    go_wp2_with (go_at_call 15; refine (awake_any _).mono ?_; rintro e w7 ⟨rfl, hw7⟩)
    go_ret
    exact ⟨rfl, (hbo _).trans (hw7.mono (hbo _).size)⟩

end Go.Proofs.YtfdcklekjnihjaaDoor.uriOnce
