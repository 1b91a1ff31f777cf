/-
  The walk of the law SameTurns.
-/
import Derived.Test.YtnkghefcoolkoaaDoorBaseF
import Derived.Test.YtnkghefcoolkoaaDoorBaseC
import Derived.Lib.QuietBelow
import Derived.BigQuiet
namespace Go.Proofs.YtnkghefcoolkoaaDoor.sameTurns
open Go.RowKit Go.Sort Sc
set_option linter.unusedVariables false
set_option maxRecDepth 20000
set_option linter.unusedSimpArgs false

theorem small_in {u : Uri} (h : SmallU 140737488351232 u) : SmallU 140737488355328 u := ⟨by have := h.1; omega, by have := h.2.1; omega, by have := h.2.2.1; omega, h.2.2.2.1.le (by omega), h.2.2.2.2.le (by omega)⟩
theorem followsMixed : Tryd.prog.follows .mixedOrders = true := by kernel_rfl
theorem below_re {w W : World} (h : Below w.heap.size w W) (d : Nat) (os : Array Obj) : Below w.heap.size w (grow (redrawn W d) os) := h.trans ((below_regrown W d os).mono h.size)

set_option maxHeartbeats 600000 in
set_option maxRecDepth 100000 in
theorem law_walk (w : World) (v0 v1 : Value) (k0 : UriIn 140737488351232 w v0) (k1 : UriIn 140737488351232 w v1) :
    Calls Tryd.prog 5 #[v0, v1] w fun e w' => e = .returned (.bool true) ∧ Below w.heap.size w w' := by
  obtain ⟨u, p, h, rfl, h1, h2, hsu0, _⟩ := k0
  obtain ⟨v, p', h', rfl, h3, h4, hsv0, _⟩ := k1
  have hsu := small_in hsu0
  have hsv := small_in hsv0
  clear hsu0 hsv0
  have T := hid (two_new w u v p h p' h')
  have KAA := hid (fun w' (hb : Below w.heap.size w w') => equal_any u u p h p h w' hsu hsu (h1.below hb) (h2.below hb) (h1.below hb) (h2.below hb))
  have KAB := hid (fun w' (hb : Below w.heap.size w w') => equal_any u v p h p' h' w' hsu hsv (h1.below hb) (h2.below hb) (h3.below hb) (h4.below hb))
  have KBA := hid (fun w' (hb : Below w.heap.size w w') => equal_any v u p' h' p h w' hsv hsu (h3.below hb) (h4.below hb) (h1.below hb) (h2.below hb))
  have KC := hid (fun w' (hb : Below w.heap.size w w') => check_any u p h w' hsu (h1.below hb) (h2.below hb))
  rw [equal_self] at KAA
  rw [equal_comm v u] at KBA
  obtain ⟨n, hn⟩ : ∃ n, checkV u = n := ⟨_, rfl⟩
  rw [hn] at KAA KC
  obtain ⟨r, hr⟩ : ∃ r, equalV u v = r := ⟨_, rfl⟩
  rw [hr] at KAB KBA
  obtain ⟨m, hm⟩ : ∃ m, decide (n = 0) = m := ⟨_, rfl⟩
  have hm2 : (n == 0) = m := by rw [← hm]; rfl
  rw [hm] at KAA
  have hmm : (m == m) = true := by simp
  have hrr : (r == r) = true := by simp
  clear hn hr hm
  obtain ⟨a1, c1, rfl⟩ := h1.form
  obtain ⟨a2, c2, rfl⟩ := h2.form
  obtain ⟨a3, c3, rfl⟩ := h3.form
  obtain ⟨a4, c4, rfl⟩ := h4.form
  unfold uriV at KAA KAB KBA KC ⊢
  clear h1 h2 h3 h4 hsu hsv
  go_enter Tryd.func5, Tryd.ntmps5
  go_wp2
  generalize World.alloc _ _ = W at T ⊢
  obtain ⟨g0, g1, g2, g3, g4, g5⟩ := T.out.b1
  obtain ⟨k0, k1, k2, k3, k4, k5⟩ := T.out.b2
  replace g0 := cell_regrown g0
  replace g1 := cell_regrown g1
  replace g2 := cell_regrown g2
  replace g3 := cell_regrown g3
  replace g4 := cell_regrown g4
  replace g5 := cell_regrown g5
  replace k0 := cell_regrown k0
  replace k1 := cell_regrown k1
  replace k2 := cell_regrown k2
  replace k3 := cell_regrown k3
  replace k4 := cell_regrown k4
  replace k5 := cell_regrown k5
  have cAA := hid (fun (d : Nat) (os : Array Obj) => Calls.regrown_of (KAA.out (grow (redrawn W d) os) (below_re T.out.below d os)))
  have cAB := hid (fun (d : Nat) (os : Array Obj) => Calls.regrown_of (KAB.out (grow (redrawn W d) os) (below_re T.out.below d os)))
  have cBA := hid (fun (d : Nat) (os : Array Obj) => Calls.regrown_of (KBA.out (grow (redrawn W d) os) (below_re T.out.below d os)))
  have cC := hid (fun (d : Nat) (os : Array Obj) => Calls.regrown_of (KC.out (grow (redrawn W d) os) (below_re T.out.below d os)))
  have cW := hid (fun (d : Nat) (os : Array Obj) => Calls.regrown_of (awake4_any (grow (redrawn W d) os)))
  clear KAA KAB KBA KC
  refine wp_region_quiet_below followsMixed (by kernel_rfl) ?_
  repeat (go_big_quiet_step (first | with_reducible exact cAA.out _ _ | with_reducible exact cAB.out _ _ | with_reducible exact cBA.out _ _ | with_reducible exact cC.out _ _ | with_reducible exact cW.out _ _))
  refine wpQuiet_nil ?_
  intro _ hw'
  obtain ⟨⟨dq, osq⟩, hw''⟩ := hw'
  subst hw''
  go_wp2
  go_ret
  exact ⟨rfl, below_re T.out.below dq osq⟩

end Go.Proofs.YtnkghefcoolkoaaDoor.sameTurns
