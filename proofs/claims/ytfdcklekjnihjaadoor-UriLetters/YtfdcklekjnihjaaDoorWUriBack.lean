/-
  The walk of the law UriBack.
-/
import Derived.Test.YtfdcklekjnihjaaDoorAwakeUri
import Derived.Test.YtfdcklekjnihjaaDoorBaseB
import Derived.Test.YtfdcklekjnihjaaDoorBaseC
namespace Go.Proofs.YtfdcklekjnihjaaDoor
open Go.RowKit Sc
set_option linter.unusedVariables false
set_option maxRecDepth 20000

theorem textT_len {u : Uri} (h : checkV u = 0) : (textT u).length ≤ 1048576 := by
  obtain ⟨k1, k2, k3, k4, k5, k6, k7, k8⟩ := check_ok h
  have hl1 := schemeB_ok k1
  have hl3 := hostB_ok k3
  have hpl := listB_ok k6
  have hhl := listB_ok k7
  have el := escLn usersK u.user
  have dl := digL_len19 (n := u.port.toNat) (by omega)
  have pl := wrT_len [59] [59] paramsK u.params (by simp) (by simp) hpl.2
  have hl := wrT_len [63] [38] headersK u.headers (by simp) (by simp) hhl.2
  rw [wrT_pars] at pl
  rw [wrT_hdr] at hl
  have h1 := hpl.1
  have h2 := hhl.1
  have hf : (frontT u).length ≤ 400 := by
    unfold frontT
    simp only [List.length_append]
    have e1 : (if u.user = [] then ([] : List UInt8) else escL usersK u.user ++ [64]).length ≤ 200 := by
      split
      · simp
      · simp; omega
    have e2 : (if u.port = 0 then ([] : List UInt8) else [58] ++ digL u.port.toNat).length ≤ 20 := by
      split
      · simp
      · simp; omega
    simp only [List.length_singleton]
    omega
  unfold textT
  rw [List.length_append, List.length_append]
  omega

end Go.Proofs.YtfdcklekjnihjaaDoor
namespace Go.Proofs.YtfdcklekjnihjaaDoor.uriBack
open Go.RowKit Sc
set_option linter.unusedVariables false

set_option maxHeartbeats 2000000 in
set_option maxRecDepth 100000 in
theorem law_walk (w : World) (v0 : Value) (k0 : UriIn 140737488351232 w v0) :
    Calls Tryd.prog 6 #[v0] w fun e w' => e = .returned (.bool true) ∧ Below w.heap.size w w' := by
  obtain ⟨u, p, h, rfl, hp, hh, hsm0, hwf⟩ := k0
  have hsm : SmallU 140737488355328 u := ⟨by have := hsm0.1; omega, by have := hsm0.2.1; omega, by have := hsm0.2.2.1; omega, hsm0.2.2.2.1.le (by omega), hsm0.2.2.2.2.le (by omega)⟩
  have hbox := box_new w u p h
  have hbw : Below w.heap.size w (w.alloc (.cells #[.string ⟨u.scheme.toArray⟩, .string ⟨u.user.toArray⟩, .string ⟨u.host.toArray⟩, .int .i64 u.port, p, h] 31)) := (Below.refl _ w).alloc (Nat.le_refl _) _
  have hws : w.heap.size < (w.alloc (.cells #[.string ⟨u.scheme.toArray⟩, .string ⟨u.user.toArray⟩, .string ⟨u.host.toArray⟩, .int .i64 u.port, p, h] 31)).heap.size := by simp
  have K1 : Hid _ := fun w' hb => print_any u p h w' hsm (hp.below hb) (hh.below hb)
  by_cases hok : checkV u = 0
  · have hpv : printV u = (textT u, 0) := by rw [printV, if_pos hok]
    rw [hpv] at K1
    have K2 : Hid _ := fun w' => parseC (parse_text hok) w' (textT_len hok)
    have K3 : Hid _ := fun w' p' h' (hb : Below w.heap.size w w') (k1 : ParsAt w' p' u.params) (k2 : ParsAt w' h' u.headers) => usame_any u u p h p' h' w' hsm.2.2.2.1.1 hsm.2.2.2.2.1 (hp.below hb) (hh.below hb) k1 k2
    simp only [decide_true] at K1 K3
    clear hsm hsm0 hp hh hpv hok
    unfold uriV at K1 K3 ⊢
    go_enter Tryd.func6, Tryd.ntmps6
    go_wp2_with fail
    refine (K1.out _ hbw).mono ?_
    rintro e w2 ⟨rfl, hw2⟩
    have hb2 := hbw.trans (hw2.mono hbw.size)
    have hx2 : Hid _ := hbox.below hw2 hws
    have hs2 : w.heap.size < w2.heap.size := Nat.lt_of_lt_of_le hws hw2.size
    clear hbox hbw hws hw2 K1
    go_wp2_with fail
    refine (K2.out _).mono ?_
    rintro e w3 ⟨a1, k1, a2, k2, rfl, ho1, ho2, hw3⟩
    have hb3 := hb2.trans (hw3.mono hb2.size)
    have hs3 : w.heap.size < w3.heap.size := Nat.lt_of_lt_of_le hs2 hw3.size
    have hx3 : Hid _ := BoxU.below hx2.out hw3 hs2
    have hall : ∀ o, BoxU (w3.alloc o) w.heap.size u p h := fun o => BoxU.below hx3.out ((Below.refl _ w3).alloc (Nat.le_refl _) o) hs3
    have g0 := fun o => (hall o).1
    have g1 := fun o => (hall o).2.1
    have g2 := fun o => (hall o).2.2.1
    have g3 := fun o => (hall o).2.2.2.1
    have g4 := fun o => (hall o).2.2.2.2.1
    have g5 := fun o => (hall o).2.2.2.2.2
    have HO1 : Hid (∀ o, ParsAt (w3.alloc o) (.slice a1 u.params.length k1) u.params) := fun o => ParsAt.alloc ho1.parsAt o
    have HO2 : Hid (∀ o, ParsAt (w3.alloc o) (.slice a2 u.headers.length k2) u.headers) := fun o => ParsAt.alloc ho2.parsAt o
    have hbo : ∀ o, Below w.heap.size w (w3.alloc o) := fun o => hb3.alloc hb3.size o
    have HBO : Hid _ := hbo
    clear hall hx2 hx3 hb2 hs2 hs3 hw3 ho1 ho2 hb3 hbo K2
    go_wp2_with fail
    refine (K3.out _ _ _ (HBO.out _) (HO1.out _) (HO2.out _)).mono ?_
    rintro e w4 ⟨rfl, hw4⟩
    have hb4 := (HBO.out _).trans (hw4.mono (HBO.out _).size)
    go_wp2_with (go_at_call 15; refine (awake_any _).mono ?_; rintro e w5 ⟨rfl, hw5⟩)
    go_ret
    exact ⟨rfl, hb4.trans (hw5.mono hb4.size)⟩
  · have hpv : printV u = ([], checkV u) := by rw [printV, if_neg hok]
    rw [hpv] at K1
    have hn : (checkV u != 0) = true := by simpa using hok
    have hn2 : (checkV u == 0) = false := by simpa using hok
    clear hsm hsm0 hp hh hpv hok
    simp only at K1
    unfold uriV at K1 ⊢
    go_enter Tryd.func6, Tryd.ntmps6
    go_wp2_with fail
    refine (K1.out _ hbw).mono ?_
    rintro e w2 ⟨rfl, hw2⟩
    have hb2 := hbw.trans (hw2.mono hbw.size)
    clear hbox hbw hws hw2 K1
    go_wp2_with (go_at_call 15; refine (awake_any _).mono ?_; rintro e w5 ⟨rfl, hw5⟩)
    go_ret
    exact ⟨rfl, hb2.trans (hw5.mono hb2.size)⟩

end Go.Proofs.YtfdcklekjnihjaaDoor.uriBack
