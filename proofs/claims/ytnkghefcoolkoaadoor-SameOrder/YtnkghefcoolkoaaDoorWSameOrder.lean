/-
  The walk of the law SameOrder.
-/
import Derived.Test.YtnkghefcoolkoaaDoorBaseF
import Derived.Test.YtnkghefcoolkoaaDoorTurned
import Derived.Test.YtnkghefcoolkoaaDoorBaseC
import Derived.Lib.QuietBelow
import Derived.BigQuiet
namespace Go.Proofs.YtnkghefcoolkoaaDoor.sameOrder
open Go.RowKit Go.Sort Sc
set_option linter.unusedVariables false
set_option maxRecDepth 20000
set_option linter.unusedSimpArgs false

theorem small_in {u : Uri} (h : SmallU 140737488351232 u) : SmallU 140737488355328 u := ⟨by have := h.1; omega, by have := h.2.1; omega, by have := h.2.2.1; omega, h.2.2.2.1.le (by omega), h.2.2.2.2.le (by omega)⟩
theorem followsMixed : Tryd.prog.follows .mixedOrders = true := by kernel_rfl
theorem below_re {w W : World} (h : Below w.heap.size w W) (d : Nat) (os : Array Obj) : Below w.heap.size w (grow (redrawn W d) os) := h.trans ((below_regrown W d os).mono h.size)
theorem small_turn {u : Uri} (h : SmallU 140737488355328 u) : SmallU 140737488355328 (turnU u) := ⟨h.1, h.2.1, h.2.2.1, ⟨by have := h.2.2.2.1.1; simpa [turnU] using this, fun q hq => h.2.2.2.1.2 q (by simpa [turnU] using hq)⟩, ⟨by have := h.2.2.2.2.1; simpa [turnU] using this, fun q hq => h.2.2.2.2.2 q (by simpa [turnU] using hq)⟩⟩
/-- Two URIs in their blocks, and a third block behind them. -/
structure Tri (w0 w : World) (u v : Uri) (p h p' h' : Value) (l : List Value) : Prop where
  two : Two w0 w u v p h p' h'
  lt : w0.heap.size + 1 + 1 < w.heap.size
  row : RowIs w (w0.heap.size + 1 + 1) 24 l
theorem Tri.step {w0 w w' : World} {u v : Uri} {p h p' h' : Value} {l : List Value} (t : Tri w0 w u v p h p' h' l) (hb : Below w.heap.size w w') : Tri w0 w' u v p h p' h' l :=
  ⟨t.two.step hb, Nat.lt_of_lt_of_le t.lt hb.size, t.row.below hb t.lt⟩
theorem Tri.drew {w0 w : World} {u v : Uri} {p h p' h' : Value} {l : List Value} (t : Tri w0 w u v p h p' h' l) : Tri w0 w.drew u v p h p' h' l := ⟨t.two.drew, t.lt, t.row⟩
theorem tri_new (w : World) (u v : Uri) (p h p' h' : Value) :
    Tri w (((w.alloc (.cells #[.string ⟨u.scheme.toArray⟩, .string ⟨u.user.toArray⟩, .string ⟨u.host.toArray⟩, .int .i64 u.port, p, h] 24)).alloc (.cells #[.string ⟨v.scheme.toArray⟩, .string ⟨v.user.toArray⟩, .string ⟨v.host.toArray⟩, .int .i64 v.port, p', h'] 24)).alloc (.cells #[.string ⟨u.scheme.toArray⟩, .string ⟨u.user.toArray⟩, .string ⟨u.host.toArray⟩, .int .i64 u.port, p, h] 24)) u v p h p' h' [.string ⟨u.scheme.toArray⟩, .string ⟨u.user.toArray⟩, .string ⟨u.host.toArray⟩, .int .i64 u.port, p, h] := by
  refine ⟨(two_new w u v p h p' h').step ((Below.refl _ _).alloc (Nat.le_refl _) _), by simp, ?_⟩
  have e : ((w.alloc (.cells #[.string ⟨u.scheme.toArray⟩, .string ⟨u.user.toArray⟩, .string ⟨u.host.toArray⟩, .int .i64 u.port, p, h] 24)).alloc (.cells #[.string ⟨v.scheme.toArray⟩, .string ⟨v.user.toArray⟩, .string ⟨v.host.toArray⟩, .int .i64 v.port, p', h'] 24)).heap.size = w.heap.size + 1 + 1 := by simp
  unfold RowIs
  rw [← e, heap_alloc_new]
/-- The third block, with two cells written. -/
theorem Tri.store {w0 w : World} {u v : Uri} {p h p' h' : Value} (t : Tri w0 w u v p h p' h' [.string ⟨u.scheme.toArray⟩, .string ⟨u.user.toArray⟩, .string ⟨u.host.toArray⟩, .int .i64 u.port, p, h]) (p2 h2 : Value) :
    Two w0 ((w.setCell ⟨w0.heap.size + 1 + 1, 4, none⟩ p2).setCell ⟨w0.heap.size + 1 + 1, 5, none⟩ h2) u v p h p' h' ∧ BoxU ((w.setCell ⟨w0.heap.size + 1 + 1, 4, none⟩ p2).setCell ⟨w0.heap.size + 1 + 1, 5, none⟩ h2) (w0.heap.size + 1 + 1) (turnU u) p2 h2 := by
  have hb1 : Below (w0.heap.size + 1 + 1) w (w.setCell ⟨w0.heap.size + 1 + 1, 4, none⟩ p2) := (Below.refl (w0.heap.size + 1 + 1) w).setCell (show w0.heap.size + 1 + 1 ≤ (⟨w0.heap.size + 1 + 1, 4, none⟩ : Addr).block from Nat.le_refl _) _
  have hb : Below (w0.heap.size + 1 + 1) w ((w.setCell ⟨w0.heap.size + 1 + 1, 4, none⟩ p2).setCell ⟨w0.heap.size + 1 + 1, 5, none⟩ h2) := hb1.setCell (show w0.heap.size + 1 + 1 ≤ (⟨w0.heap.size + 1 + 1, 5, none⟩ : Addr).block from Nat.le_refl _) _
  have hr := (t.row.set 4 p2).set 5 h2
  refine ⟨⟨(t.two.below).trans (hb.mono (by omega)), by simpa using t.two.lt, t.two.b1.below hb (by omega), t.two.b2.below hb (by omega)⟩, ?_⟩
  exact ⟨hr.cell 0 (by simp), hr.cell 1 (by simp), hr.cell 2 (by simp), hr.cell 3 (by simp), hr.cell 4 (by simp), hr.cell 5 (by simp)⟩
theorem own_two {w : World} {B : Nat} {v : Value} {ps : List Par} (h : OwnP w B v ps) {b : Nat} (hb : b < B) (v0 v1 : Value) : OwnP ((w.setCell ⟨b, 4, none⟩ v0).setCell ⟨b, 5, none⟩ v1) B v ps := ownsRow_setCell_below (ownsRow_setCell_below h hb _) hb _

set_option maxHeartbeats 600000 in
set_option maxRecDepth 100000 in
theorem law_walk (w : World) (v0 v1 : Value) (k0 : UriIn 140737488351232 w v0) (k1 : UriIn 140737488351232 w v1) :
    Calls Tryd.prog 6 #[v0, v1] w fun e w' => e = .returned (.bool true) ∧ Below w.heap.size w w' := by
  obtain ⟨u, p, h, rfl, h1, h2, hsu0, _⟩ := k0
  obtain ⟨v, p', h', rfl, h3, h4, hsv0, _⟩ := k1
  have hsu := small_in hsu0
  have hsv := small_in hsv0
  clear hsu0 hsv0
  have T := hid (two_new w u v p h p' h')
  have R := hid (tri_new w u v p h p' h')
  have KE := hid (fun w' (hb : Below w.heap.size w w') => equal_any u v p h p' h' w' hsu hsv (h1.below hb) (h2.below hb) (h3.below hb) (h4.below hb))
  have KC := hid (fun w' (hb : Below w.heap.size w w') => check_any u p h w' hsu (h1.below hb) (h2.below hb))
  have KF := hid (fun w' (p2 h2 : Value) (hb : Below w.heap.size w w') => equal_any (turnU u) v p2 h2 p' h' w' (small_turn hsu) hsv)
  have KG := hid (fun w' (p2 h2 : Value) (hb : Below w.heap.size w w') => equal_any u (turnU u) p h p2 h2 w' hsu (small_turn hsu) (h1.below hb))
  have HP2 := hid (fun w' (hb : Below w.heap.size w w') => h2.below hb)
  have HP3 := hid (fun w' (hb : Below w.heap.size w w') => h3.below hb)
  have HP4 := hid (fun w' (hb : Below w.heap.size w w') => h4.below hb)
  rw [equal_turn] at KF
  obtain ⟨n, hn⟩ : ∃ n, checkV u = n := ⟨_, rfl⟩
  have hself := @equal_turned u
  rw [hn] at KC hself
  obtain ⟨r, hr⟩ : ∃ r, equalV u v = r := ⟨_, rfl⟩
  rw [hr] at KE KF
  obtain ⟨y, hy⟩ : ∃ y, equalV u (turnU u) = y := ⟨_, rfl⟩
  rw [hy] at KG hself
  have hrr : (r == r) = true := by simp
  clear hn hr hy
  have KT1 := hid (fun w' (hz : u.params.length ≤ 200) (hb : Below w.heap.size w w') => turned_any p u.params w' hz (h1.below hb))
  have KT2 := hid (fun w' (hz : u.headers.length ≤ 200) (hb : Below w.heap.size w w') => turned_any h u.headers w' hz (h2.below hb))
  obtain ⟨a1, c1, rfl⟩ := h1.form
  obtain ⟨a2, c2, rfl⟩ := h2.form
  obtain ⟨a3, c3, rfl⟩ := h3.form
  obtain ⟨a4, c4, rfl⟩ := h4.form
  unfold uriV at KE KC KF KG ⊢
  simp only [turnU] at KF KG
  clear h1 h2 h3 h4 hsu hsv
  obtain ⟨g0, g1, g2, g3, g4, g5⟩ := T.out.b1
  obtain ⟨k0, k1, k2, k3, k4, k5⟩ := T.out.b2
  by_cases hl1 : 200 < u.params.length
  · clear R
    go_enter Tryd.func6, Tryd.ntmps6
    go_wp2_with fail
    refine (awake4_any _).mono ?_
    rintro e w1 ⟨rfl, hw⟩
    replace T := hid (T.out.step hw)
    clear hw
    go_wp2
    go_ret
    exact ⟨rfl, T.out.below⟩
  · by_cases hl2 : 200 < u.headers.length
    · clear R
      go_enter Tryd.func6, Tryd.ntmps6
      go_wp2_with fail
      refine (awake4_any _).mono ?_
      rintro e w1 ⟨rfl, hw⟩
      replace T := hid (T.out.step hw)
      clear hw
      go_wp2
      go_ret
      exact ⟨rfl, T.out.below⟩
    · have hq1 : u.params.length ≤ 200 := by omega
      have hq2 : u.headers.length ≤ 200 := by omega
      replace R := hid R.out.drew
      obtain ⟨x0, x1, x2, x3, x4, x5⟩ := R.out.two.b1
      obtain ⟨z0, z1, z2, z3, z4, z5, f0, f1, f2, f3, f4, f5⟩ := R.out.row.six
      go_enter Tryd.func6, Tryd.ntmps6
      go_wp2
      go_region_law (go_simp; first
        | (go_at_call_of 19 (Value.slice a1 u.params.length c1); refine (KT1.out _ hq1 R.out.two.below).mono ?_; rintro e wj ⟨a5, c5, rfl, ho, hw⟩; have O1 := hid (OwnP.mono ho R.out.lt); replace R := hid (R.out.step hw); obtain ⟨x0, x1, x2, x3, x4, x5⟩ := R.out.two.b1; obtain ⟨z0, z1, z2, z3, z4, z5, f0, f1, f2, f3, f4, f5⟩ := R.out.row.six; clear hw ho)
        | (go_at_call_of 19 (Value.slice a2 u.headers.length c2); refine (KT2.out _ hq2 R.out.two.below).mono ?_; rintro e wk ⟨a6, c6, rfl, ho, hw⟩; replace O1 := hid (OwnP.below O1.out hw); have O2 := hid (OwnP.mono ho R.out.lt); replace R := hid (R.out.step hw); obtain ⟨x0, x1, x2, x3, x4, x5⟩ := R.out.two.b1; obtain ⟨z0, z1, z2, z3, z4, z5, f0, f1, f2, f3, f4, f5⟩ := R.out.row.six; clear hw ho))
      all_goals (
        go_simp
        go_wp2
        obtain ⟨T7, B7⟩ := R.out.store (.slice a5 u.params.length c5) (.slice a6 u.headers.length c6)
        have P7 := (own_two O1.out (Nat.lt_succ_self _) (.slice a5 u.params.length c5) (.slice a6 u.headers.length c6)).parsAt
        have Q7 := (own_two O2.out (Nat.lt_succ_self _) (.slice a5 u.params.length c5) (.slice a6 u.headers.length c6)).parsAt
        generalize World.setCell _ _ _ = W at T7 B7 P7 Q7 ⊢
        clear T R O1 O2 g0 g1 g2 g3 g4 g5 k0 k1 k2 k3 k4 k5
        have T := hid T7
        obtain ⟨g0, g1, g2, g3, g4, g5⟩ := T.out.b1
        obtain ⟨k0, k1, k2, k3, k4, k5⟩ := T.out.b2
        replace g0 := cell_regrown g0
        replace g1 := cell_regrown g1
        replace g2 := cell_regrown g2
        replace g3 := cell_regrown g3
        replace g4 := cell_regrown g4
        replace g5 := cell_regrown g5
        replace k0 := cell_regrown k0
        replace k1 := cell_regrown k1
        replace k2 := cell_regrown k2
        replace k3 := cell_regrown k3
        replace k4 := cell_regrown k4
        replace k5 := cell_regrown k5
        obtain ⟨m0, m1, m2, m3, m4, m5⟩ := B7
        simp only [turnU] at m0 m1 m2 m3
        replace m0 := cell_regrown m0
        replace m1 := cell_regrown m1
        replace m2 := cell_regrown m2
        replace m3 := cell_regrown m3
        replace m4 := cell_regrown m4
        replace m5 := cell_regrown m5
        have cE := hid (fun (d : Nat) (os : Array Obj) => Calls.regrown_of (KE.out (grow (redrawn W d) os) (below_re T.out.below d os)))
        have cC := hid (fun (d : Nat) (os : Array Obj) => Calls.regrown_of (KC.out (grow (redrawn W d) os) (below_re T.out.below d os)))
        have cW := hid (fun (d : Nat) (os : Array Obj) => Calls.regrown_of (awake4_any (grow (redrawn W d) os)))
        have cF := hid (fun (d : Nat) (os : Array Obj) => Calls.regrown_of (KF.out (grow (redrawn W d) os) _ _ (below_re T.out.below d os) (P7.below (below_regrown W d os)) (Q7.below (below_regrown W d os)) (HP3.out _ (below_re T.out.below d os)) (HP4.out _ (below_re T.out.below d os))))
        have cG := hid (fun (d : Nat) (os : Array Obj) => Calls.regrown_of (KG.out (grow (redrawn W d) os) _ _ (below_re T.out.below d os) (HP2.out _ (below_re T.out.below d os)) (P7.below (below_regrown W d os)) (Q7.below (below_regrown W d os))))
        clear KE KC KF KG P7 Q7 T7 KT1 KT2 HP2 HP3 HP4
        by_cases hn : n = 0
        · have hy := hself hn
          subst hy
          have hn1 : (n != 0) = false := by simp [hn]
          have hn2 : (n == 0) = true := by simp [hn]
          clear hself hn
          refine wp_region_quiet_below followsMixed (by kernel_rfl) ?_
          repeat (go_big_quiet_step (first | with_reducible exact cE.out _ _ | with_reducible exact cF.out _ _ | with_reducible exact cC.out _ _ | with_reducible exact cG.out _ _ | with_reducible exact cW.out _ _))
          refine wpQuiet_nil ?_
          intro _ hw'
          obtain ⟨⟨dq, osq⟩, hw''⟩ := hw'
          subst hw''
          go_wp2
          go_ret
          exact ⟨rfl, below_re T.out.below dq osq⟩
        · have hn1 : (n != 0) = true := by simpa using hn
          have hn2 : (n == 0) = false := by simpa using hn
          clear hself
          refine wp_region_quiet_below followsMixed (by kernel_rfl) ?_
          repeat (go_big_quiet_step (first | with_reducible exact cE.out _ _ | with_reducible exact cF.out _ _ | with_reducible exact cC.out _ _ | with_reducible exact cG.out _ _ | with_reducible exact cW.out _ _))
          refine wpQuiet_nil ?_
          intro _ hw'
          obtain ⟨⟨dq, osq⟩, hw''⟩ := hw'
          subst hw''
          go_wp2
          go_ret
          exact ⟨rfl, below_re T.out.below dq osq⟩)

end Go.Proofs.YtnkghefcoolkoaaDoor.sameOrder
