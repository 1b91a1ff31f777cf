/-
  The walk of the law SamePlain.
-/
import Derived.Test.YtnkghefcoolkoaaDoorBaseF
import Derived.Test.YtnkghefcoolkoaaDoorBaseC
import Derived.Lib.QuietBelow
import Derived.BigQuiet
namespace Go.Proofs.YtnkghefcoolkoaaDoor.samePlain
open Go.RowKit Go.Sort Sc
set_option linter.unusedVariables false
set_option maxRecDepth 20000
set_option linter.unusedSimpArgs false

theorem small_in {u : Uri} (h : SmallU 140737488351232 u) : SmallU 140737488355328 u := ⟨by have := h.1; omega, by have := h.2.1; omega, by have := h.2.2.1; omega, h.2.2.2.1.le (by omega), h.2.2.2.2.le (by omega)⟩
theorem followsMixed : Tryd.prog.follows .mixedOrders = true := by kernel_rfl
theorem below_re {w W : World} (h : Below w.heap.size w W) (d : Nat) (os : Array Obj) : Below w.heap.size w (grow (redrawn W d) os) := h.trans ((below_regrown W d os).mono h.size)
theorem print_bare_ne {u v : Uri} (h : ¬ checkV (bareU u) = 0) : equalV (bareU u) (bareU v) = false := by rw [equalV, decide_eq_false h]; rfl
theorem print_bare_ne2 {u v : Uri} (h : ¬ checkV (bareU v) = 0) : equalV (bareU u) (bareU v) = false := by rw [equal_comm]; exact print_bare_ne h
theorem small_bare {u : Uri} (h : SmallU 140737488355328 u) : SmallU 140737488355328 (bareU u) := ⟨h.1, h.2.1, h.2.2.1, ⟨by simp [bareU], by simp [bareU]⟩, ⟨by simp [bareU], by simp [bareU]⟩⟩
theorem nilP (w : World) : ParsAt w (.slice none 0 0) [] := Or.inl ⟨rfl, rfl⟩

set_option maxHeartbeats 600000 in
set_option maxRecDepth 100000 in
theorem law_walk (w : World) (v0 v1 : Value) (k0 : UriIn 140737488351232 w v0) (k1 : UriIn 140737488351232 w v1) :
    Calls Tryd.prog 7 #[v0, v1] w fun e w' => e = .returned (.bool true) ∧ Below w.heap.size w w' := by
  obtain ⟨u, p, h, rfl, h1, h2, hsu0, _⟩ := k0
  obtain ⟨v, p', h', rfl, h3, h4, hsv0, _⟩ := k1
  have hsu := small_in hsu0
  have hsv := small_in hsv0
  clear hsu0 hsv0
  have T := hid (two_new w (bareU u) (bareU v) (.slice none 0 0) (.slice none 0 0) (.slice none 0 0) (.slice none 0 0))
  have KA := hid (fun w' => print_any (bareU u) (.slice none 0 0) (.slice none 0 0) w' (small_bare hsu) (nilP w') (nilP w'))
  have KB := hid (fun w' => print_any (bareU v) (.slice none 0 0) (.slice none 0 0) w' (small_bare hsv) (nilP w') (nilP w'))
  have KE := hid (fun w' => equal_any (bareU u) (bareU v) (.slice none 0 0) (.slice none 0 0) (.slice none 0 0) (.slice none 0 0) w' (small_bare hsu) (small_bare hsv) (nilP w') (nilP w') (nilP w') (nilP w'))
  have hne1 := @print_bare_ne u v
  have hne2 := @print_bare_ne2 u v
  have heq := @equal_bare u v
  unfold printV at KA KB
  generalize textT (bareU u) = s at KA heq
  generalize textT (bareU v) = t at KB heq
  generalize equalV (bareU u) (bareU v) = r at KE hne1 hne2 heq
  generalize checkV (bareU u) = n at KA hne1 heq
  generalize checkV (bareU v) = m at KB hne2 heq
  obtain ⟨a1, c1, rfl⟩ := h1.form
  obtain ⟨a2, c2, rfl⟩ := h2.form
  obtain ⟨a3, c3, rfl⟩ := h3.form
  obtain ⟨a4, c4, rfl⟩ := h4.form
  obtain ⟨sc, us, ho, po, ps, hs⟩ := u
  obtain ⟨sc', us', ho', po', ps', hs'⟩ := v
  unfold uriV at KA KB KE ⊢
  simp only [bareU] at KA KB KE T ⊢
  clear h1 h2 h3 h4 hsu hsv
  obtain ⟨g0, g1, g2, g3, g4, g5⟩ := T.out.b1
  obtain ⟨k0, k1, k2, k3, k4, k5⟩ := T.out.b2
  simp only at g0 g1 g2 g3 g4 g5 k0 k1 k2 k3 k4 k5
  by_cases hn : n = 0
  · by_cases hm : m = 0
    · rw [if_pos hn] at KA
      rw [if_pos hm] at KB
      have hst := heq hn hm
      subst hst
      clear hne1 hne2 heq hn hm
      obtain ⟨x, hx⟩ : ∃ x, (s == t) = x := ⟨_, rfl⟩
      rw [hx] at KE
      have hxx : (x == x) = true := by simp
      simp only at KA KB
      go_enter Tryd.func7, Tryd.ntmps7
      go_wp2_with fail
      refine (KA.out _).mono ?_
      rintro e w1 ⟨rfl, hw⟩
      replace T := hid (T.out.step hw)
      clear hw g0 g1 g2 g3 g4 g5 k0 k1 k2 k3 k4 k5
      obtain ⟨g0, g1, g2, g3, g4, g5⟩ := T.out.b1
      obtain ⟨k0, k1, k2, k3, k4, k5⟩ := T.out.b2
      go_wp2_with fail
      refine (KB.out _).mono ?_
      rintro e w2 ⟨rfl, hw⟩
      replace T := hid (T.out.step hw)
      clear hw g0 g1 g2 g3 g4 g5 k0 k1 k2 k3 k4 k5
      obtain ⟨g0, g1, g2, g3, g4, g5⟩ := T.out.b1
      obtain ⟨k0, k1, k2, k3, k4, k5⟩ := T.out.b2
      go_wp2_with fail
      refine (KE.out _).mono ?_
      rintro e w3 ⟨rfl, hw⟩
      replace T := hid (T.out.step hw)
      clear hw g0 g1 g2 g3 g4 g5 k0 k1 k2 k3 k4 k5
      obtain ⟨g0, g1, g2, g3, g4, g5⟩ := T.out.b1
      obtain ⟨k0, k1, k2, k3, k4, k5⟩ := T.out.b2
      go_wp2_with fail
      refine (awake4_any _).mono ?_
      rintro e w4 ⟨rfl, hw⟩
      replace T := hid (T.out.step hw)
      clear hw
      go_wp2
      go_ret
      exact ⟨rfl, T.out.below⟩
    · have hm1 : (m != 0) = true := by simpa using hm
      have hm2 : (m == 0) = false := by simpa using hm
      have hr := hne2 hm
      subst hr
      rw [if_pos hn] at KA
      rw [if_neg hm] at KB
      simp only at KA KB
      clear hne1 hne2 heq hn hm
      go_enter Tryd.func7, Tryd.ntmps7
      go_wp2_with fail
      refine (KA.out _).mono ?_
      rintro e w1 ⟨rfl, hw⟩
      replace T := hid (T.out.step hw)
      clear hw g0 g1 g2 g3 g4 g5 k0 k1 k2 k3 k4 k5
      obtain ⟨g0, g1, g2, g3, g4, g5⟩ := T.out.b1
      obtain ⟨k0, k1, k2, k3, k4, k5⟩ := T.out.b2
      go_wp2_with fail
      refine (KB.out _).mono ?_
      rintro e w2 ⟨rfl, hw⟩
      replace T := hid (T.out.step hw)
      clear hw g0 g1 g2 g3 g4 g5 k0 k1 k2 k3 k4 k5
      obtain ⟨g0, g1, g2, g3, g4, g5⟩ := T.out.b1
      obtain ⟨k0, k1, k2, k3, k4, k5⟩ := T.out.b2
      go_wp2_with fail
      refine (KE.out _).mono ?_
      rintro e w3 ⟨rfl, hw⟩
      replace T := hid (T.out.step hw)
      clear hw g0 g1 g2 g3 g4 g5 k0 k1 k2 k3 k4 k5
      obtain ⟨g0, g1, g2, g3, g4, g5⟩ := T.out.b1
      obtain ⟨k0, k1, k2, k3, k4, k5⟩ := T.out.b2
      go_wp2_with fail
      refine (awake4_any _).mono ?_
      rintro e w4 ⟨rfl, hw⟩
      replace T := hid (T.out.step hw)
      clear hw
      go_wp2
      go_ret
      exact ⟨rfl, T.out.below⟩
  · have hn1 : (n != 0) = true := by simpa using hn
    have hn2 : (n == 0) = false := by simpa using hn
    have hr := hne1 hn
    subst hr
    rw [if_neg hn] at KA
    simp only at KA
    obtain ⟨kb, hkb⟩ : ∃ kb : List UInt8 × Int, (if m = 0 then (t, 0) else ([], m)) = kb := ⟨_, rfl⟩
    rw [hkb] at KB
    obtain ⟨t2, m2⟩ := kb
    simp only at KB
    clear hne1 hne2 heq hn hkb
    go_enter Tryd.func7, Tryd.ntmps7
    go_wp2_with fail
    refine (KA.out _).mono ?_
    rintro e w1 ⟨rfl, hw⟩
    replace T := hid (T.out.step hw)
    clear hw g0 g1 g2 g3 g4 g5 k0 k1 k2 k3 k4 k5
    obtain ⟨g0, g1, g2, g3, g4, g5⟩ := T.out.b1
    obtain ⟨k0, k1, k2, k3, k4, k5⟩ := T.out.b2
    go_wp2_with fail
    refine (KB.out _).mono ?_
    rintro e w2 ⟨rfl, hw⟩
    replace T := hid (T.out.step hw)
    clear hw g0 g1 g2 g3 g4 g5 k0 k1 k2 k3 k4 k5
    obtain ⟨g0, g1, g2, g3, g4, g5⟩ := T.out.b1
    obtain ⟨k0, k1, k2, k3, k4, k5⟩ := T.out.b2
    go_wp2_with fail
    refine (KE.out _).mono ?_
    rintro e w3 ⟨rfl, hw⟩
    replace T := hid (T.out.step hw)
    clear hw g0 g1 g2 g3 g4 g5 k0 k1 k2 k3 k4 k5
    obtain ⟨g0, g1, g2, g3, g4, g5⟩ := T.out.b1
    obtain ⟨k0, k1, k2, k3, k4, k5⟩ := T.out.b2
    go_wp2_with fail
    refine (awake4_any _).mono ?_
    rintro e w4 ⟨rfl, hw⟩
    replace T := hid (T.out.step hw)
    clear hw
    go_wp2
    go_ret
    exact ⟨rfl, T.out.below⟩

end Go.Proofs.YtnkghefcoolkoaaDoor.samePlain
