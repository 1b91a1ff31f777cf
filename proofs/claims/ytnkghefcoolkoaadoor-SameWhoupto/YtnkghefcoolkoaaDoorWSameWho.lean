/-
  The walk of the law SameWho.
-/
import Derived.Test.YtnkghefcoolkoaaDoorBaseF
import Derived.Test.YtnkghefcoolkoaaDoorRefWho
import Derived.Test.YtnkghefcoolkoaaDoorBaseC
import Derived.Lib.QuietBelow
import Derived.BigQuiet
namespace Go.Proofs.YtnkghefcoolkoaaDoor.sameWho
open Go.RowKit Go.Sort Sc
set_option linter.unusedVariables false
set_option maxRecDepth 20000
set_option linter.unusedSimpArgs false

theorem uri_bulk {H : Type} {enc : TypeId × Value → H} {W : World} {sp : Nat → Bool} {r : Reach} {b0 : Nat} {v : Value} {d : DataW H} {p : List MemPlace} (hv : Value.okWide Tryd.prog W r b0 24 v) (h : DataW.Trod enc Tryd.prog W 0 sp true 24 v d p) : 5 ≤ Rows.uptoBulk d := by
  obtain ⟨u, pv, hv', dp, dh, rfl, _, _, rfl, _, _, _⟩ := open_uri hv h
  simp only [Rows.uptoBulk, Rows.uptoBulkAll]
  omega
theorem small_up {u : Uri} (h : SmallU 1048576 u) : SmallU 140737488355328 u := ⟨by have := h.1; omega, by have := h.2.1; omega, by have := h.2.2.1; omega, h.2.2.2.1.le (by omega), h.2.2.2.2.le (by omega)⟩

set_option maxHeartbeats 1000000 in
set_option maxRecDepth 100000 in
theorem law_walk (w : World) (v0 : Value) (a1 : ByteArray) (k0 : UriIn 1048576 w v0) (b1 : a1.size + 4 ≤ 1048576) :
    Calls Tryd.prog 4 #[v0, .string a1] w fun e w' => e = .returned (.bool true) ∧ Below w.heap.size w w' := by
  obtain ⟨l, rfl⟩ : ∃ l : List UInt8, a1 = ⟨l.toArray⟩ := ⟨a1.data.toList, (back a1).symm⟩
  rw [size_list] at b1
  obtain ⟨u, p, h, rfl, h1, h2, hsu0, _⟩ := k0
  have hsu := small_up hsu0
  have hbox := box_new w u p h
  have hb : Below w.heap.size w (w.alloc (.cells #[.string ⟨u.scheme.toArray⟩, .string ⟨u.user.toArray⟩, .string ⟨u.host.toArray⟩, .int .i64 u.port, p, h] 24)) := (Below.refl _ w).alloc (Nat.le_refl _) _
  have hlt := alloc_lt w (.cells #[.string ⟨u.scheme.toArray⟩, .string ⟨u.user.toArray⟩, .string ⟨u.host.toArray⟩, .int .i64 u.port, p, h] 24)
  have K1 := hid (fun w' (hb : Below w.heap.size w w') => who_any u p h w' hsu (h1.below hb) (h2.below hb))
  have K2 := hid (fun w' (hb : Below w.heap.size w w') => refwho_any u p h w' hsu (h1.below hb) (h2.below hb))
  have K3 := hid (fun w' => samehost_any l w' b1)
  have K4 := hid (fun w' => refhost_who l w' b1)
  obtain ⟨t, n, hw⟩ : ∃ t n, whoV u = (t, n) := ⟨_, _, rfl⟩
  rw [hw] at K1 K2
  obtain ⟨s, m, hh⟩ : ∃ s m, hostV l = (s, m) := ⟨_, _, rfl⟩
  rw [hh] at K3 K4
  simp only at K1 K2 K3 K4
  obtain ⟨a1, c1, rfl⟩ := h1.form
  obtain ⟨a2, c2, rfl⟩ := h2.form
  unfold uriV at K1 K2 ⊢
  clear h1 h2 hsu hsu0 hw hh
  obtain ⟨g0, g1, g2, g3, g4, g5⟩ := hbox
  have HX : Hid (BoxU _ w.heap.size u _ _) := ⟨g0, g1, g2, g3, g4, g5⟩
  go_enter Tryd.func4, Tryd.ntmps4
  go_wp2_with fail
  refine (K1.out _ hb).mono ?_
  rintro e w1 ⟨rfl, hw⟩
  clear g0 g1 g2 g3 g4 g5
  replace hb := hb.trans (hw.mono hb.size)
  obtain ⟨g0, g1, g2, g3, g4, g5⟩ := HX.out.below hw hlt
  clear hw HX hlt
  go_wp2_with fail
  refine (K2.out _ hb).mono ?_
  rintro e w2 ⟨rfl, hw⟩
  clear g0 g1 g2 g3 g4 g5
  replace hb := hb.trans (hw.mono hb.size)
  clear hw
  go_wp2_with fail
  refine (K3.out _).mono ?_
  rintro e w3 ⟨rfl, hw⟩
  replace hb := hb.trans (hw.mono hb.size)
  clear hw
  go_wp2_with fail
  refine (K4.out _).mono ?_
  rintro e w4 ⟨rfl, hw⟩
  replace hb := hb.trans (hw.mono hb.size)
  clear hw K1 K2 K3 K4
  go_wp2_with fail
  refine (awake4_any _).mono ?_
  rintro e w5 ⟨rfl, hw⟩
  replace hb := hb.trans (hw.mono hb.size)
  clear hw
  go_wp2
  go_ret
  exact ⟨rfl, hb⟩

end Go.Proofs.YtnkghefcoolkoaaDoor.sameWho
