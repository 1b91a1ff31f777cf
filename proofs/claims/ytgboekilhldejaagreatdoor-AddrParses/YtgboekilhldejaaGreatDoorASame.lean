/-
  Contracts: the document's own Same of addresses; package addr's Tag.
-/
import Derived.Test.YtgboekilhldejaaGreatDoorACheck
import Derived.Test.YtgboekilhldejaaGreatDoorBaseB
namespace Go.Proofs.YtgboekilhldejaaGreatDoor
open Go.RowKit Sc
set_option linter.unusedVariables false
set_option maxRecDepth 20000

theorem adr_eq (a b : Adr) : decide (a = b) = (a.display == b.display && (decide (a.uri = b.uri) && decide (a.params = b.params))) := by
  obtain ⟨d, u, p⟩ := a
  obtain ⟨d', u', p'⟩ := b
  rw [Bool.eq_iff_iff]; simp [Adr.mk.injEq]

set_option maxHeartbeats 1000000 in
set_option maxRecDepth 100000 in
theorem asame_any (c c' : AdrC) (w : World) (z1 : c.a.uri.params.length ≤ 140737488355328) (z2 : c.a.uri.headers.length ≤ 140737488355328) (z3 : c.a.params.length ≤ 140737488355328) (h : c.At w) (h' : c'.At w) :
    Calls Tryz.prog 21 #[adrV c.a c.p c.h c.q, adrV c'.a c'.p c'.h c'.q] w fun e w' => e = .returned (.bool (decide (c.a = c'.a))) ∧ Below w.heap.size w w' := by
  obtain ⟨a, p, hh, q⟩ := c
  obtain ⟨a', p', hh', q'⟩ := c'
  obtain ⟨h1, h2, h3, _⟩ := h
  obtain ⟨k1, k2, k3, _⟩ := h'
  simp only at h1 h2 h3 k1 k2 k3 z1 z2 z3 ⊢
  have hd := adr_eq a a'
  have KU := hid (fun w' (hb : Below w.heap.size w w') => usame_any a.uri a'.uri p hh p' hh' w' z1 z2 (h1.below hb) (h2.below hb) (k1.below hb) (k2.below hb))
  have KL := hid (fun w' (hb : Below w.heap.size w w') => lists_any q q' a.params a'.params w' z3 (h3.below hb) (k3.below hb))
  have hbx := boxA_new w a p hh q
  have hb0 : Below w.heap.size w (w.alloc (objA a p hh q)) := (Below.refl _ w).alloc (Nat.le_refl _) _
  have hlt := alloc_lt w (objA a p hh q)
  have hby := boxA_new (w.alloc (objA a p hh q)) a' p' hh' q'
  have hb1 : Below w.heap.size w ((w.alloc (objA a p hh q)).alloc (objA a' p' hh' q')) := hb0.alloc hb0.size _
  have hbz := hbx.below ((Below.refl _ (w.alloc (objA a p hh q))).alloc (Nat.le_refl _) (objA a' p' hh' q')) hlt
  have hlt2 := alloc_lt (w.alloc (objA a p hh q)) (objA a' p' hh' q')
  have hs1 : (w.alloc (objA a p hh q)).heap.size = w.heap.size + 1 := by simp
  rw [hs1] at hby hlt2
  clear hbx hb0
  obtain ⟨a1, c1, rfl⟩ := h1.form
  obtain ⟨a2, c2, rfl⟩ := h2.form
  obtain ⟨a3, c3, rfl⟩ := h3.form
  obtain ⟨a4, c4, rfl⟩ := k1.form
  obtain ⟨a5, c5, rfl⟩ := k2.form
  obtain ⟨a6, c6, rfl⟩ := k3.form
  clear h1 h2 h3 k1 k2 k3 z1 z2 z3
  generalize decide (a = a') = R at hd ⊢
  generalize decide (a.uri = a'.uri) = ru at hd KU
  generalize decide (a.params = a'.params) = rp at hd KL
  obtain ⟨d, u, ps⟩ := a
  obtain ⟨us, uu, uh, up, upp, uhh⟩ := u
  obtain ⟨d', u', ps'⟩ := a'
  obtain ⟨us', uu', uh', up', upp', uhh'⟩ := u'
  unfold adrV
  unfold uriV at KU
  unfold objA at hb1 hbz hby hlt hlt2 hs1
  simp only at KU KL hb1 hbz hby hlt hlt2 hd hs1 ⊢
  have HZ := hid hbz
  have HY := hid hby
  have HD := hid hd
  clear hbz hby hd hs1
  obtain ⟨x0, x1, x2, x3, x4, x5, x6, x7⟩ := HZ.out
  obtain ⟨y0, y1, y2, y3, y4, y5, y6, y7⟩ := HY.out
  simp only at x0 x1 x2 x3 x4 x5 x6 x7 y0 y1 y2 y3 y4 y5 y6 y7
  by_cases hdd : d = d'
  · subst hdd
    go_enter Tryz.func21, Tryz.ntmps21
    go_wp2_with fail
    refine (KU.out _ hb1).mono ?_
    rintro e w2 ⟨rfl, hw2⟩
    have HZ2 := hid (BoxA.below HZ.out hw2 (Nat.lt_trans hlt (by simp)))
    have HY2 := hid (BoxA.below HY.out hw2 hlt2)
    have hb2 := hb1.trans (hw2.mono hb1.size)
    clear x0 x1 x2 x3 x4 x5 x6 x7 y0 y1 y2 y3 y4 y5 y6 y7 HZ HY hw2 KU hb1 hlt hlt2
    obtain ⟨x0, x1, x2, x3, x4, x5, x6, x7⟩ := HZ2.out
    obtain ⟨y0, y1, y2, y3, y4, y5, y6, y7⟩ := HY2.out
    simp only at x0 x1 x2 x3 x4 x5 x6 x7 y0 y1 y2 y3 y4 y5 y6 y7
    cases ru with
    | false =>
      go_wp2
      go_ret
      exact ⟨ret_bool (by rw [HD.out]; simp), hb2⟩
    | true =>
      go_wp2_with fail
      refine (KL.out _ hb2).mono ?_
      rintro e w3 ⟨rfl, q3, rfl⟩
      go_wp2
      go_ret
      exact ⟨ret_bool (by rw [HD.out]; simp), hb2.trans ((below_drewN _ _).mono hb2.size)⟩
  · go_enter Tryz.func21, Tryz.ntmps21
    go_wp2
    go_ret
    exact ⟨ret_bool (by rw [HD.out]; simp [hdd]), hb1⟩

end Go.Proofs.YtgboekilhldejaaGreatDoor
