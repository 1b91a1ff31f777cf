/-
  The walk of the law SameOwn.
-/
import Derived.Test.YtnkghefcoolkoaaDoorBaseF
import Derived.Test.YtnkghefcoolkoaaDoorBaseC
import Derived.Lib.QuietBelow
import Derived.BigQuiet
namespace Go.Proofs.YtnkghefcoolkoaaDoor.sameOwn
open Go.RowKit Go.Sort Sc
set_option linter.unusedVariables false
set_option maxRecDepth 20000
set_option linter.unusedSimpArgs false

theorem small_in {u : Uri} (h : SmallU 140737488351232 u) : SmallU 140737488355328 u := ⟨by have := h.1; omega, by have := h.2.1; omega, by have := h.2.2.1; omega, h.2.2.2.1.le (by omega), h.2.2.2.2.le (by omega)⟩
theorem followsMixed : Tryd.prog.follows .mixedOrders = true := by kernel_rfl
theorem below_re {w W : World} (h : Below w.heap.size w W) (d : Nat) (os : Array Obj) : Below w.heap.size w (grow (redrawn W d) os) := h.trans ((below_regrown W d os).mono h.size)
theorem who_zero {u : Uri} {t : List UInt8} {n : Int} (h : whoV u = (t, n)) (hn : n = 0) : checkV u = 0 ∧ u.user ≠ [] ∧ t = whoT u := by
  subst hn
  unfold whoV at h
  by_cases hc : checkV u = 0
  · rw [if_neg (by simp [hc])] at h
    by_cases hu : u.user = []
    · rw [if_pos hu] at h; simp at h
    · rw [if_neg hu] at h; simp at h; exact ⟨hc, hu, h.symm⟩
  · rw [if_pos hc] at h; simp at h; exact absurd h.2 hc
theorem who_bad {u : Uri} {t : List UInt8} {n : Int} (h : whoV u = (t, n)) (hn : n ≠ 0) : t = [] := by
  unfold whoV at h
  split at h
  · simp at h; exact h.1
  · split at h
    · simp at h; exact h.1
    · simp at h; exact absurd h.2.symm hn
theorem whoPres {u : Uri} (hsm : SmallU 140737488355328 u) (h : checkV u = 0) (hu : u.user ≠ []) (w : World) :
    Calls Tryd.prog 14 #[.agg #[.string ⟨#[112, 114, 101, 115]⟩, .string ⟨u.user.toArray⟩, .string ⟨u.host.toArray⟩, .int .i64 0, .slice none 0 0, .slice none 0 0]] w fun e w' => e = .returned (.tuple #[.string ⟨(whoT u).toArray⟩, .int .i64 0]) ∧ Below w.heap.size w w' := by
  have k := who_any (nameU [112, 114, 101, 115] u) (.slice none 0 0) (.slice none 0 0) w (small_name [112, 114, 101, 115] (by decide) hsm) (Or.inl ⟨rfl, rfl⟩) (Or.inl ⟨rfl, rfl⟩)
  rw [who_name (by decide +kernel) h hu] at k
  exact k
theorem hostWho {u : Uri} (h : checkV u = 0) (hu : u.user ≠ []) (w : World) :
    Calls Tryd.prog 16 #[.string ⟨(whoT u).toArray⟩] w fun e w' => e = .returned (.tuple #[.string ⟨u.host.toArray⟩, .int .i64 0]) ∧ Below w.heap.size w w' := by
  have k := samehost_any (whoT u) w (by have := whoT_len h; omega)
  rw [host_who h hu] at k
  exact k

set_option maxHeartbeats 600000 in
set_option maxRecDepth 100000 in
theorem law_walk (w : World) (v0 v1 : Value) (k0 : UriIn 140737488351232 w v0) (k1 : UriIn 140737488351232 w v1) :
    Calls Tryd.prog 8 #[v0, v1] w fun e w' => e = .returned (.bool true) ∧ Below w.heap.size w w' := by
  obtain ⟨u, p, h, rfl, h1, h2, hsu0, _⟩ := k0
  obtain ⟨v, p', h', rfl, h3, h4, hsv0, _⟩ := k1
  have hsu := small_in hsu0
  have hsv := small_in hsv0
  clear hsu0 hsv0
  have T := hid (two_new w u v p h p' h')
  have KA := hid (fun w' (hb : Below w.heap.size w w') => who_any u p h w' hsu (h1.below hb) (h2.below hb))
  have KB := hid (fun w' (hb : Below w.heap.size w w') => who_any v p' h' w' hsv (h3.below hb) (h4.below hb))
  obtain ⟨s, n, hs⟩ : ∃ s n, whoV u = (s, n) := ⟨_, _, rfl⟩
  obtain ⟨t, m, ht⟩ : ∃ t m, whoV v = (t, m) := ⟨_, _, rfl⟩
  rw [hs] at KA
  rw [ht] at KB
  simp only at KA KB
  obtain ⟨a1, c1, rfl⟩ := h1.form
  obtain ⟨a2, c2, rfl⟩ := h2.form
  obtain ⟨a3, c3, rfl⟩ := h3.form
  obtain ⟨a4, c4, rfl⟩ := h4.form
  unfold uriV at KA KB ⊢
  clear h1 h2 h3 h4 hsv
  obtain ⟨g0, g1, g2, g3, g4, g5⟩ := T.out.b1
  obtain ⟨k0, k1, k2, k3, k4, k5⟩ := T.out.b2
  by_cases hn : n = 0
  · subst hn
    by_cases hm : m = 0
    · subst hm
      obtain ⟨cu, uu, rfl⟩ := who_zero hs rfl
      obtain ⟨cv, uv, rfl⟩ := who_zero ht rfl
      have KP := hid (@whoPres u hsu cu uu)
      have KH := hid (@hostWho u cu uu)
      have hin := who_inj cu uu cv uv
      obtain ⟨x, hx⟩ : ∃ x, (u.user == v.user) = x := ⟨_, rfl⟩
      obtain ⟨y, hy⟩ : ∃ y, (u.host == v.host) = y := ⟨_, rfl⟩
      have hst : (whoT u == whoT v) = (x && y) := by rw [hin, ← hx, ← hy, Bool.eq_iff_iff]; simp
      generalize whoT u = s at KA KP KH hst
      generalize whoT v = t at KB hst
      clear hin cu uu cv uv hs ht hsu
      cases x <;> cases y <;> simp only [Bool.and_true, Bool.and_false] at hst
      all_goals (
        go_enter Tryd.func8, Tryd.ntmps8
        go_wp2_with fail
        refine (KA.out _ T.out.below).mono ?_
        rintro e w1 ⟨rfl, hw⟩
        replace T := hid (T.out.step hw)
        clear hw g0 g1 g2 g3 g4 g5 k0 k1 k2 k3 k4 k5
        obtain ⟨g0, g1, g2, g3, g4, g5⟩ := T.out.b1
        obtain ⟨k0, k1, k2, k3, k4, k5⟩ := T.out.b2
        go_wp2_with fail
        refine (KB.out _ T.out.below).mono ?_
        rintro e w2 ⟨rfl, hw⟩
        replace T := hid (T.out.step hw)
        clear hw g0 g1 g2 g3 g4 g5 k0 k1 k2 k3 k4 k5
        obtain ⟨g0, g1, g2, g3, g4, g5⟩ := T.out.b1
        obtain ⟨k0, k1, k2, k3, k4, k5⟩ := T.out.b2
        have hnew := box_new w2 (nameU [112, 114, 101, 115] u) (.slice none 0 0) (.slice none 0 0)
        simp only [nameU] at hnew
        have T2 := hid (T.out.step ((Below.refl _ w2).alloc (Nat.le_refl _) (.cells #[.string ⟨#[112, 114, 101, 115]⟩, .string ⟨u.user.toArray⟩, .string ⟨u.host.toArray⟩, .int .i64 0, .slice none 0 0, .slice none 0 0] 24)))
        obtain ⟨q0, q1, q2, q3, q4, q5⟩ := hnew
        go_wp2_with fail
        refine (KP.out _).mono ?_
        rintro e w3 ⟨rfl, hw⟩
        clear T q0 q1 q2 q3 q4 q5 g0 g1 g2 g3 g4 g5 k0 k1 k2 k3 k4 k5
        have T := hid (T2.out.step hw)
        clear T2 hw
        go_wp2_with fail
        refine (KH.out _).mono ?_
        rintro e w4 ⟨rfl, hw⟩
        replace T := hid (T.out.step hw)
        clear hw
        obtain ⟨g0, g1, g2, g3, g4, g5⟩ := T.out.b1
        obtain ⟨k0, k1, k2, k3, k4, k5⟩ := T.out.b2
        go_wp2_with fail
        refine (awake4_any _).mono ?_
        rintro e w5 ⟨rfl, hw⟩
        replace T := hid (T.out.step hw)
        clear hw
        go_wp2
        go_ret
        exact ⟨rfl, T.out.below⟩)
    · have hm1 : (m != 0) = true := by simpa using hm
      have hm2 : (m == 0) = false := by simpa using hm
      clear hs ht hsu
      go_enter Tryd.func8, Tryd.ntmps8
      go_wp2_with fail
      refine (KA.out _ T.out.below).mono ?_
      rintro e w1 ⟨rfl, hw⟩
      replace T := hid (T.out.step hw)
      clear hw g0 g1 g2 g3 g4 g5 k0 k1 k2 k3 k4 k5
      obtain ⟨g0, g1, g2, g3, g4, g5⟩ := T.out.b1
      obtain ⟨k0, k1, k2, k3, k4, k5⟩ := T.out.b2
      go_wp2_with fail
      refine (KB.out _ T.out.below).mono ?_
      rintro e w2 ⟨rfl, hw⟩
      replace T := hid (T.out.step hw)
      clear hw g0 g1 g2 g3 g4 g5 k0 k1 k2 k3 k4 k5
      obtain ⟨g0, g1, g2, g3, g4, g5⟩ := T.out.b1
      obtain ⟨k0, k1, k2, k3, k4, k5⟩ := T.out.b2
      go_wp2_with fail
      refine (awake4_any _).mono ?_
      rintro e w3 ⟨rfl, hw⟩
      replace T := hid (T.out.step hw)
      clear hw
      go_wp2
      go_ret
      exact ⟨rfl, T.out.below⟩
  · have hn1 : (n != 0) = true := by simpa using hn
    have hn2 : (n == 0) = false := by simpa using hn
    obtain rfl := who_bad hs hn
    clear hs ht hsu
    go_enter Tryd.func8, Tryd.ntmps8
    go_wp2_with fail
    refine (KA.out _ T.out.below).mono ?_
    rintro e w1 ⟨rfl, hw⟩
    replace T := hid (T.out.step hw)
    clear hw g0 g1 g2 g3 g4 g5 k0 k1 k2 k3 k4 k5
    obtain ⟨g0, g1, g2, g3, g4, g5⟩ := T.out.b1
    obtain ⟨k0, k1, k2, k3, k4, k5⟩ := T.out.b2
    go_wp2_with fail
    refine (KB.out _ T.out.below).mono ?_
    rintro e w2 ⟨rfl, hw⟩
    replace T := hid (T.out.step hw)
    clear hw g0 g1 g2 g3 g4 g5 k0 k1 k2 k3 k4 k5
    obtain ⟨g0, g1, g2, g3, g4, g5⟩ := T.out.b1
    obtain ⟨k0, k1, k2, k3, k4, k5⟩ := T.out.b2
    go_wp2_with fail
    refine (awake4_any _).mono ?_
    rintro e w3 ⟨rfl, hw⟩
    replace T := hid (T.out.step hw)
    clear hw
    go_wp2
    go_ret
    exact ⟨rfl, T.out.below⟩

end Go.Proofs.YtnkghefcoolkoaaDoor.sameOwn
