/-
  The document's own functions of layer 4: Equal.
-/
import Derived.Test.YtnkghefcoolkoaaDoorRefHalf
namespace Go.Proofs.YtnkghefcoolkoaaDoor
open Go.RowKit Sc
set_option linter.unusedVariables false
set_option maxRecDepth 20000
set_option linter.unusedSimpArgs false

theorem equal_ref {u v : Uri} (h1 : checkV u = 0) (h2 : checkV v = 0) (hp : partsB u v = true) : equalV u v = ((u.params.all (okP v.params) && u.headers.all (okH v.headers)) && (v.params.all (okP u.params) && v.headers.all (okH u.headers))) := by
  rw [equalV, decide_eq_true h1, decide_eq_true h2, hp]
  cases u.params.all (okP v.params) <;> cases u.headers.all (okH v.headers) <;> cases v.params.all (okP u.params) <;> cases v.headers.all (okH u.headers) <;> rfl

set_option maxHeartbeats 2000000 in
set_option maxRecDepth 100000 in
theorem refequal_any (u v : Uri) (p h p' h' : Value) (w : World) (hsu : SmallU 140737488355328 u) (hsv : SmallU 140737488355328 v) (h1 : ParsAt w p u.params) (h2 : ParsAt w h u.headers) (h3 : ParsAt w p' v.params) (h4 : ParsAt w h' v.headers) :
    Calls Tryd.prog 13 #[uriV u p h, uriV v p' h'] w fun e w' => e = .returned (.bool (equalV u v)) ∧ Below w.heap.size w w' := by
  have T := hid (two_new w u v p h p' h')
  have KC1 := hid (fun w' (hb : Below w.heap.size w w') => refcheck_any u p h w' hsu (h1.below hb) (h2.below hb))
  have KC2 := hid (fun w' (hb : Below w.heap.size w w') => refcheck_any v p' h' w' hsv (h3.below hb) (h4.below hb))
  have KF1 := hid (fun w' (hb : Below w.heap.size w w') => half_any u v p h p' h' w' hsu hsv (h1.below hb) (h2.below hb) (h3.below hb) (h4.below hb))
  have KF2 := hid (fun w' (hb : Below w.heap.size w w') => half_any v u p' h' p h w' hsv hsu (h3.below hb) (h4.below hb) (h1.below hb) (h2.below hb))
  have hnz : ¬ checkV u = 0 → equalV u v = false := fun h => by rw [equalV, decide_eq_false h]; rfl
  have hnz2 : ¬ checkV v = 0 → equalV u v = false := fun h => by rw [equalV, decide_eq_false h]; simp
  have hpz : partsB u v = false → equalV u v = false := fun h => by rw [equalV, h]; simp
  have hok := @equal_ref u v
  generalize equalV u v = r at hnz hnz2 hpz hok ⊢
  generalize (u.params.all (okP v.params) && u.headers.all (okH v.headers)) = b1 at KF1 hok
  generalize (v.params.all (okP u.params) && v.headers.all (okH u.headers)) = b2 at KF2 hok
  obtain ⟨n1, hn1⟩ : ∃ n, checkV u = n := ⟨_, rfl⟩
  obtain ⟨n2, hn2⟩ : ∃ n, checkV v = n := ⟨_, rfl⟩
  rw [hn1] at KC1 hnz hok
  rw [hn2] at KC2 hnz2 hok
  clear hn1 hn2
  obtain ⟨a1, c1, rfl⟩ := h1.form
  obtain ⟨a2, c2, rfl⟩ := h2.form
  obtain ⟨a3, c3, rfl⟩ := h3.form
  obtain ⟨a4, c4, rfl⟩ := h4.form
  obtain ⟨s, us, ho, po, ps, hs⟩ := u
  obtain ⟨s', us', ho', po', ps', hs'⟩ := v
  unfold uriV at KC1 KC2 KF1 KF2 ⊢
  simp only at KC1 KC2 T KF1 KF2 ⊢
  simp only [partsB] at hpz hok
  clear h1 h2 h3 h4 hsu hsv
  obtain ⟨g0, g1, g2, g3, g4, g5⟩ := T.out.b1
  obtain ⟨k0, k1, k2, k3, k4, k5⟩ := T.out.b2
  simp only at g0 g1 g2 g3 g4 g5 k0 k1 k2 k3 k4 k5
  by_cases e1 : n1 = 0
  · subst e1
    by_cases e2 : n2 = 0
    · subst e2
      clear hnz hnz2
      go_enter Tryd.func13, Tryd.ntmps13
      go_wp2_with fail
      refine (KC1.out _ T.out.below).mono ?_
      rintro e w1 ⟨rfl, hw⟩
      replace T := hid (T.out.step hw)
      clear hw g0 g1 g2 g3 g4 g5 k0 k1 k2 k3 k4 k5
      obtain ⟨g0, g1, g2, g3, g4, g5⟩ := T.out.b1
      obtain ⟨k0, k1, k2, k3, k4, k5⟩ := T.out.b2
      go_wp2_with fail
      refine (KC2.out _ T.out.below).mono ?_
      rintro e w2 ⟨rfl, hw⟩
      replace T := hid (T.out.step hw)
      clear hw g0 g1 g2 g3 g4 g5 k0 k1 k2 k3 k4 k5
      obtain ⟨g0, g1, g2, g3, g4, g5⟩ := T.out.b1
      obtain ⟨k0, k1, k2, k3, k4, k5⟩ := T.out.b2
      simp only at g0 g1 g2 g3 g4 g5 k0 k1 k2 k3 k4 k5
      by_cases f1 : s = s'
      · by_cases f2 : us = us'
        · by_cases f3 : ho = ho'
          · by_cases f4 : po = po'
            · subst f1 f2 f3 f4
              have HR := hid (hok (by simp) (by simp) (by simp))
              clear hok hpz
              go_wp2_with fail
              refine (KF1.out _ T.out.below).mono ?_
              rintro e w3 ⟨rfl, hw⟩
              replace T := hid (T.out.step hw)
              clear hw g0 g1 g2 g3 g4 g5 k0 k1 k2 k3 k4 k5
              obtain ⟨g0, g1, g2, g3, g4, g5⟩ := T.out.b1
              obtain ⟨k0, k1, k2, k3, k4, k5⟩ := T.out.b2
              simp only at g0 g1 g2 g3 g4 g5 k0 k1 k2 k3 k4 k5
              cases b1 with
              | false =>
                have HR2 := hid (HR.out)
                clear HR
                try simp only [Bool.false_and, Bool.and_false, Bool.true_and] at HR2
                go_wp2
                go_ret
                exact ⟨ret_bool HR2.out.symm, T.out.below⟩
              | true =>
                go_wp2_with fail
                refine (KF2.out _ T.out.below).mono ?_
                rintro e w4 ⟨rfl, hw⟩
                replace T := hid (T.out.step hw)
                clear hw g0 g1 g2 g3 g4 g5 k0 k1 k2 k3 k4 k5
                obtain ⟨g0, g1, g2, g3, g4, g5⟩ := T.out.b1
                obtain ⟨k0, k1, k2, k3, k4, k5⟩ := T.out.b2
                simp only at g0 g1 g2 g3 g4 g5 k0 k1 k2 k3 k4 k5
                cases b2 with
                | false =>
                  have HR2 := hid (HR.out)
                  clear HR
                  try simp only [Bool.false_and, Bool.and_false, Bool.true_and] at HR2
                  go_wp2
                  go_ret
                  exact ⟨ret_bool HR2.out.symm, T.out.below⟩
                | true =>
                  have HR2 := hid (HR.out)
                  clear HR
                  try simp only [Bool.true_and] at HR2
                  go_wp2
                  go_ret
                  exact ⟨ret_bool HR2.out.symm, T.out.below⟩
            · have HR := hid (hpz (by simp [f4]))
              clear hok hpz
              go_wp2
              go_ret
              exact ⟨ret_bool HR.out.symm, T.out.below⟩
          · have HR := hid (hpz (by simp [f3]))
            clear hok hpz
            go_wp2
            go_ret
            exact ⟨ret_bool HR.out.symm, T.out.below⟩
        · have HR := hid (hpz (by simp [f2]))
          clear hok hpz
          go_wp2
          go_ret
          exact ⟨ret_bool HR.out.symm, T.out.below⟩
      · have HR := hid (hpz (by simp [f1]))
        clear hok hpz
        go_wp2
        go_ret
        exact ⟨ret_bool HR.out.symm, T.out.below⟩
    · have HR := hid (hnz2 e2)
      have e2a : (n2 != 0) = true := by simpa using e2
      have e2b : (n2 == 0) = false := by simpa using e2
      clear hok hpz hnz hnz2
      go_enter Tryd.func13, Tryd.ntmps13
      go_wp2_with fail
      refine (KC1.out _ T.out.below).mono ?_
      rintro e w1 ⟨rfl, hw⟩
      replace T := hid (T.out.step hw)
      clear hw g0 g1 g2 g3 g4 g5 k0 k1 k2 k3 k4 k5
      obtain ⟨g0, g1, g2, g3, g4, g5⟩ := T.out.b1
      obtain ⟨k0, k1, k2, k3, k4, k5⟩ := T.out.b2
      go_wp2_with fail
      refine (KC2.out _ T.out.below).mono ?_
      rintro e w2 ⟨rfl, hw⟩
      replace T := hid (T.out.step hw)
      clear hw g0 g1 g2 g3 g4 g5 k0 k1 k2 k3 k4 k5
      obtain ⟨g0, g1, g2, g3, g4, g5⟩ := T.out.b1
      obtain ⟨k0, k1, k2, k3, k4, k5⟩ := T.out.b2
      go_wp2
      go_ret
      exact ⟨ret_bool HR.out.symm, T.out.below⟩
  · have HR := hid (hnz e1)
    have e1a : (n1 != 0) = true := by simpa using e1
    have e1b : (n1 == 0) = false := by simpa using e1
    clear hok hpz hnz hnz2
    go_enter Tryd.func13, Tryd.ntmps13
    go_wp2_with fail
    refine (KC1.out _ T.out.below).mono ?_
    rintro e w1 ⟨rfl, hw⟩
    replace T := hid (T.out.step hw)
    clear hw g0 g1 g2 g3 g4 g5 k0 k1 k2 k3 k4 k5
    obtain ⟨g0, g1, g2, g3, g4, g5⟩ := T.out.b1
    obtain ⟨k0, k1, k2, k3, k4, k5⟩ := T.out.b2
    go_wp2
    go_ret
    exact ⟨ret_bool HR.out.symm, T.out.below⟩

end Go.Proofs.YtnkghefcoolkoaaDoor
