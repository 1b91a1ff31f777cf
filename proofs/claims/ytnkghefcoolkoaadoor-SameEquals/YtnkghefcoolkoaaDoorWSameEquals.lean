/-
  The walk of the law SameEquals.
-/
import Derived.Test.YtnkghefcoolkoaaDoorBaseF
import Derived.Test.YtnkghefcoolkoaaDoorRefEqual
import Derived.Test.YtnkghefcoolkoaaDoorBaseC
import Derived.Lib.QuietBelow
import Derived.BigQuiet
namespace Go.Proofs.YtnkghefcoolkoaaDoor.sameEquals
open Go.RowKit Go.Sort Sc
set_option linter.unusedVariables false
set_option maxRecDepth 20000
set_option linter.unusedSimpArgs false

theorem small_in {u : Uri} (h : SmallU 140737488351232 u) : SmallU 140737488355328 u := ⟨by have := h.1; omega, by have := h.2.1; omega, by have := h.2.2.1; omega, h.2.2.2.1.le (by omega), h.2.2.2.2.le (by omega)⟩
theorem followsMixed : Tryd.prog.follows .mixedOrders = true := by kernel_rfl
theorem below_re {w W : World} (h : Below w.heap.size w W) (d : Nat) (os : Array Obj) : Below w.heap.size w (grow (redrawn W d) os) := h.trans ((below_regrown W d os).mono h.size)

set_option maxHeartbeats 600000 in
set_option maxRecDepth 100000 in
theorem law_walk (w : World) (v0 v1 : Value) (a2 : ByteArray) (k0 : UriIn 140737488351232 w v0) (k1 : UriIn 140737488351232 w v1) (b2 : a2.size ≤ 140737488351232) :
    Calls Tryd.prog 3 #[v0, v1, .string a2] w fun e w' => e = .returned (.bool true) ∧ Below w.heap.size w w' := by
  obtain ⟨nm, rfl⟩ : ∃ nm : List UInt8, a2 = ⟨nm.toArray⟩ := ⟨a2.data.toList, (back a2).symm⟩
  rw [size_list] at b2
  obtain ⟨u, p, h, rfl, h1, h2, hsu0, _⟩ := k0
  obtain ⟨v, p', h', rfl, h3, h4, hsv0, _⟩ := k1
  have hsu := small_in hsu0
  have hsv := small_in hsv0
  clear hsu0 hsv0
  have T := hid (two_new w u v p h p' h')
  have KE := hid (fun w' (hb : Below w.heap.size w w') => equal_any u v p h p' h' w' hsu hsv (h1.below hb) (h2.below hb) (h3.below hb) (h4.below hb))
  have KR := hid (fun w' (hb : Below w.heap.size w w') => refequal_any u v p h p' h' w' hsu hsv (h1.below hb) (h2.below hb) (h3.below hb) (h4.below hb))
  have KV := hid (fun w' (hb : Below w.heap.size w w') => value_any p u.params nm w' (by omega) hsu.2.2.2.1 (h1.below hb))
  have KW := hid (fun w' (hb : Below w.heap.size w w') => refvalue_any p u.params nm w' (by omega) hsu.2.2.2.1 (h1.below hb))
  obtain ⟨r, hr⟩ : ∃ r, equalV u v = r := ⟨_, rfl⟩
  rw [hr] at KE KR
  obtain ⟨t, b, hv⟩ : ∃ t b, valV u.params nm = (t, b) := ⟨_, _, rfl⟩
  rw [hv] at KV KW
  simp only at KV KW
  have hbb : (b == b) = true := by simp
  have hrr : (r == r) = true := by simp
  clear hr hv
  obtain ⟨a1, c1, rfl⟩ := h1.form
  obtain ⟨a2, c2, rfl⟩ := h2.form
  obtain ⟨a3, c3, rfl⟩ := h3.form
  obtain ⟨a4, c4, rfl⟩ := h4.form
  unfold uriV at KE KR ⊢
  clear h1 h2 h3 h4 hsu hsv
  obtain ⟨g0, g1, g2, g3, g4, g5⟩ := T.out.b1
  obtain ⟨k0, k1, k2, k3, k4, k5⟩ := T.out.b2
  by_cases hlen : 200 < u.params.length
  · go_enter Tryd.func3, Tryd.ntmps3
    go_wp2_with fail
    refine (awake4_any _).mono ?_
    rintro e w1 ⟨rfl, hw⟩
    replace T := hid (T.out.step hw)
    clear hw
    go_wp2
    go_ret
    exact ⟨rfl, T.out.below⟩
  · go_enter Tryd.func3, Tryd.ntmps3
    go_wp2_with fail
    refine (KV.out _ T.out.below).mono ?_
    rintro e w1 ⟨rfl, hw⟩
    replace T := hid (T.out.step hw)
    clear hw g0 g1 g2 g3 g4 g5 k0 k1 k2 k3 k4 k5
    obtain ⟨g0, g1, g2, g3, g4, g5⟩ := T.out.b1
    obtain ⟨k0, k1, k2, k3, k4, k5⟩ := T.out.b2
    go_wp2_with fail
    refine (KW.out _ T.out.below).mono ?_
    rintro e W ⟨rfl, hw⟩
    replace T := hid (T.out.step hw)
    clear hw g0 g1 g2 g3 g4 g5 k0 k1 k2 k3 k4 k5
    obtain ⟨g0, g1, g2, g3, g4, g5⟩ := T.out.b1
    obtain ⟨k0, k1, k2, k3, k4, k5⟩ := T.out.b2
    go_wp2
    replace g0 := cell_regrown g0
    replace g1 := cell_regrown g1
    replace g2 := cell_regrown g2
    replace g3 := cell_regrown g3
    replace g4 := cell_regrown g4
    replace g5 := cell_regrown g5
    replace k0 := cell_regrown k0
    replace k1 := cell_regrown k1
    replace k2 := cell_regrown k2
    replace k3 := cell_regrown k3
    replace k4 := cell_regrown k4
    replace k5 := cell_regrown k5
    have cE := hid (fun (d : Nat) (os : Array Obj) => Calls.regrown_of (KE.out (grow (redrawn W d) os) (below_re T.out.below d os)))
    have cR := hid (fun (d : Nat) (os : Array Obj) => Calls.regrown_of (KR.out (grow (redrawn W d) os) (below_re T.out.below d os)))
    have cW := hid (fun (d : Nat) (os : Array Obj) => Calls.regrown_of (awake4_any (grow (redrawn W d) os)))
    clear KE KR KV KW
    refine wp_region_quiet_below followsMixed (by kernel_rfl) ?_
    repeat (go_big_quiet_step (first | with_reducible exact cE.out _ _ | with_reducible exact cR.out _ _ | with_reducible exact cW.out _ _))
    refine wpQuiet_nil ?_
    intro _ hw'
    obtain ⟨⟨dq, osq⟩, hw''⟩ := hw'
    subst hw''
    go_wp2
    go_ret
    exact ⟨rfl, below_re T.out.below dq osq⟩

end Go.Proofs.YtnkghefcoolkoaaDoor.sameEquals
