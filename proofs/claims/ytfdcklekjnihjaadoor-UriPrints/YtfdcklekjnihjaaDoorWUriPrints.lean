/-
  The walk of the law UriPrints.
-/
import Derived.Test.YtfdcklekjnihjaaDoorAwakeUri
import Derived.Test.YtfdcklekjnihjaaDoorRefPrint
import Derived.Test.YtfdcklekjnihjaaDoorOpenUri
namespace Go.Proofs.YtfdcklekjnihjaaDoor.uriPrints
open Go.RowKit Sc
set_option linter.unusedVariables false
set_option maxRecDepth 20000

set_option maxHeartbeats 2000000 in
set_option maxRecDepth 100000 in
theorem law_walk (w : World) (v0 : Value) (k0 : UriIn 140737488351232 w v0) :
    Calls Tryd.prog 4 #[v0] w fun e w' => e = .returned (.bool true) ∧ Below w.heap.size w w' := by
  obtain ⟨u, p, h, rfl, hp, hh, hsm0, hwf⟩ := k0
  have hsm : SmallU 140737488355328 u := ⟨by have := hsm0.1; omega, by have := hsm0.2.1; omega, by have := hsm0.2.2.1; omega, hsm0.2.2.2.1.le (by omega), hsm0.2.2.2.2.le (by omega)⟩
  have hbox := box_new w u p h
  have hbw : Below w.heap.size w (w.alloc (.cells #[.string ⟨u.scheme.toArray⟩, .string ⟨u.user.toArray⟩, .string ⟨u.host.toArray⟩, .int .i64 u.port, p, h] 31)) := (Below.refl _ w).alloc (Nat.le_refl _) _
  have hws : w.heap.size < (w.alloc (.cells #[.string ⟨u.scheme.toArray⟩, .string ⟨u.user.toArray⟩, .string ⟨u.host.toArray⟩, .int .i64 u.port, p, h] 31)).heap.size := by simp
  have K1 : Hid _ := fun w' hb => print_any u p h w' hsm (hp.below hb) (hh.below hb)
  have K2 : Hid _ := fun w' hb => refprint_any u p h w' hsm (hp.below hb) (hh.below hb)
  have K3 : Hid _ := fun w' hb => check_any u p h w' hsm (hp.below hb) (hh.below hb)
  have K4 : Hid _ := fun w' hb => refcheck_any u p h w' hsm (hp.below hb) (hh.below hb)
  obtain ⟨t, er, hpv⟩ : ∃ t er, printV u = (t, er) := ⟨_, _, rfl⟩
  rw [hpv] at K1 K2
  obtain ⟨ck, hck⟩ : ∃ ck, checkV u = ck := ⟨_, rfl⟩
  rw [hck] at K3 K4
  simp only at K1 K2
  clear hsm hsm0 hp hh hpv hck
  unfold uriV at K1 K2 K3 K4 ⊢
  go_enter Tryd.func4, Tryd.ntmps4
  go_wp2_with fail
  refine (K1.out _ hbw).mono ?_
  rintro e w2 ⟨rfl, hw2⟩
  have hb2 := hbw.trans (hw2.mono hbw.size)
  have hx2 := hbox.below hw2 hws
  have hs2 : w.heap.size < w2.heap.size := Nat.lt_of_lt_of_le hws hw2.size
  clear hbox hbw hws hw2
  obtain ⟨g0, g1, g2, g3, g4, g5⟩ := hx2
  have hx2 : Hid (BoxU w2 w.heap.size u p h) := ⟨g0, g1, g2, g3, g4, g5⟩
  go_wp2_with fail
  refine (K2.out _ hb2).mono ?_
  rintro e w3 ⟨rfl, hw3⟩
  have hb3 := hb2.trans (hw3.mono hb2.size)
  have hx3 := hx2.out.below hw3 hs2
  have hlt : w.heap.size < w3.drew.heap.size := Nat.lt_of_lt_of_le hs2 hw3.size
  clear hx2 hb2 hs2 hw3 g0 g1 g2 g3 g4 g5
  obtain ⟨g0, g1, g2, g3, g4, g5⟩ := hx3
  have hbx : Hid (BoxU w3.drew w.heap.size u p h) := ⟨g0, g1, g2, g3, g4, g5⟩
  have hacc := hb3.drew
  clear hb3
  go_wp2
  go_region_law (go_simp; first
    | (go_at_call 18; refine (K3.out _ hacc).mono ?_; rintro e w4 ⟨rfl, hw4⟩; have hbx : Hid _ := BoxU.below hbx.out hw4 hlt; have hacc := hacc.trans (hw4.mono hacc.size); have hlt := Nat.lt_of_lt_of_le hlt hw4.size; obtain ⟨g0, g1, g2, g3, g4, g5⟩ := hbx.out; clear hw4)
    | (go_at_call 19; refine (K4.out _ hacc).mono ?_; rintro e w5 ⟨rfl, hw5⟩; have hbx : Hid _ := BoxU.below hbx.out hw5 hlt; have hacc := hacc.trans (hw5.mono hacc.size); have hlt := Nat.lt_of_lt_of_le hlt hw5.size; obtain ⟨g0, g1, g2, g3, g4, g5⟩ := hbx.out; clear hw5)
    | (go_at_call 15; refine (awake_any _).mono ?_; rintro e w6 ⟨rfl, hw6⟩; have hacc := hacc.trans (hw6.mono hacc.size)))
  all_goals (
    go_wp2
    go_ret
    exact ⟨rfl, hacc⟩)

end Go.Proofs.YtfdcklekjnihjaaDoor.uriPrints
