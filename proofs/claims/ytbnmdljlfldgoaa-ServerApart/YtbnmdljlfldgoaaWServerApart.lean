/-
  The walk of the law ServerApart.
-/
import Derived.Test.YtbnmdljlfldgoaaS11L
namespace Go.Proofs.Ytbnmdljlfldgoaa.serverApart
open Go.RowKit Go.Sort
set_option linter.unusedVariables false
set_option maxRecDepth 20000
set_option linter.unusedSimpArgs false

def cA (t : Ac) (n : Int) : Cl := ⟨n, t.br, t.hop, t.me, 320, false, [], []⟩
theorem two_same {a b : Ac} (h1 : (a.br == b.br) = true) (h2 : (a.hop == b.hop) = true) (h3 : (a.me == b.me) = true) : startT ⟨2, 1, [cA a 1]⟩ b.br b.hop b.me 0 = (⟨2, 1, [cA a 1]⟩, 0, 7) := by
  rw [start_two (by decide) (by simp [findT, isC, cA, h1, h2, h3])]
theorem two_other {a b : Ac} (h : ((a.br == b.br) && ((a.hop == b.hop) && (a.me == b.me))) = false) : startT ⟨2, 1, [cA a 1]⟩ b.br b.hop b.me 0 = (⟨2, 2, [cA a 1, cA b 2]⟩, 2, 0) := by
  rw [start_new (by decide) (by simp only [findT, isC, cA, List.find?_cons, h]; simp) (by simp)]
  rfl
theorem find_a (a : Ac) (l : List Cl) : findT (cA a 1 :: l) a.br a.hop a.me = (1, true) := by simp [findT, isC, cA]
set_option maxHeartbeats 2000000 in
set_option maxRecDepth 100000 in
theorem law_walk (w : World) (v0 v1 : Value) (k0 : AcIn 140737488351232 w v0) (k1 : AcIn 140737488351232 w v1) :
    Calls Try.prog 7 #[v0, v1] w fun e w' => e = .returned (.bool true) ∧ Below w.heap.size w w' := by
  obtain ⟨a, rfl, ka⟩ := k0
  obtain ⟨b, rfl, kb⟩ := k1
  have la : ∀ {l : List UInt8}, l.length ≤ 140737488351232 → l.length ≤ 281474976710656 := fun h => by omega
  have ra := ac_row w a
  have hb1 : Below w.heap.size w (w.alloc (objA a)) := (Below.refl _ w).alloc (Nat.le_refl _) _
  have l1 := alloc_lt w (objA a)
  generalize hw1 : w.alloc (objA a) = w1 at ra hb1 l1
  have rb := ac_row w1 b
  have hb2 : Below w1.heap.size w1 (w1.alloc (objA b)) := (Below.refl _ w1).alloc (Nat.le_refl _) _
  have l2 := alloc_lt w1 (objA b)
  generalize hw2 : w1.alloc (objA b) = w2 at rb hb2 l2
  have ra2 := ra.below hb2 l1
  have hB2 := hb1.trans (hb2.mono hb1.size)
  unfold objA at hw1 hw2
  go_enter Try.func7, Try.ntmps7
  unfold acV
  go_wp2_with fail
  refine (snew_ok w2 (most := 2) (by decide) (by decide)).mono ?_
  rintro e w3 ⟨bt, rfl, T3, B3⟩
  have ra3 := ra2.below B3 (Nat.lt_trans l1 l2)
  have rb3 := rb.below B3 l2
  obtain ⟨_, x1, x2, x3, _, _, _⟩ := ra3.ac
  have hB3 := hB2.trans (B3.mono hB2.size)
  have hs : w.heap.size ≤ w2.heap.size := by omega
  clear ra ra2 rb hb1 hb2 hB2 B3
  go_wp2_with fail
  refine (start_is T3 (br := a.br) (hop := a.hop) (me := a.me) (la ka.br) (la ka.hop) (la ka.me) (by decide) (start_first (by decide) _ _ _ (by decide) (by decide))).mono ?_
  rintro e w4 ⟨rfl, T4, F4⟩
  have ra4 := F4.ac ra3
  have rb4 := F4.ac rb3
  have hB4 := hB3.trans (F4.below.mono hs)
  clear ra3 rb3 F4 hB3 T3 x1 x2 x3
  obtain ⟨_, y1, y2, y3, _, _, _⟩ := rb4.ac
  cases hq : ((a.br == b.br) && ((a.hop == b.hop) && (a.me == b.me)))
  · have KS := hid (start_is T4 (br := b.br) (hop := b.hop) (me := b.me) (now := 0) (la kb.br) (la kb.hop) (la kb.me) (by simp) (two_other hq))
    clear T4
    go_wp2_with fail
    refine KS.out.mono ?_
    rintro e w5 ⟨rfl, T5, F5⟩
    have ra5 := F5.ac ra4
    have rb5 := F5.ac rb4
    have HB5 := hid (hB4.trans (F5.below.mono hs))
    clear KS ra4 rb4 F5 hB4 y1 y2 y3
    have KF := hid (tab_find T5 (la ka.br) (la ka.hop) (la ka.me))
    simp only [find_a] at KF
    unfold findV at KF
    obtain ⟨_, x1, x2, x3, _, _, _⟩ := ra5.ac
    obtain ⟨_, y1, y2, y3, _, _, _⟩ := rb5.ac
    have KW := hid (awake11_any w5)
    clear T5 ra5 rb5
    cases h1 : a.br == b.br
    · go_wp2_with (first
        | (go_at_call 13; refine KF.out.mono ?_; rintro e wx ⟨rfl, hwx⟩; rw [hwx]; clear hwx)
        | (go_at_call 10; refine KW.out.mono ?_; rintro e w9 ⟨rfl, hw9⟩; replace hw9 := hid hw9))
      go_ret
      exact ⟨rfl, HB5.out.trans (hw9.out.mono HB5.out.size)⟩
    · cases h2 : a.hop == b.hop
      · go_wp2_with (first
          | (go_at_call 13; refine KF.out.mono ?_; rintro e wx ⟨rfl, hwx⟩; rw [hwx]; clear hwx)
          | (go_at_call 10; refine KW.out.mono ?_; rintro e w9 ⟨rfl, hw9⟩; replace hw9 := hid hw9))
        go_ret
        exact ⟨rfl, HB5.out.trans (hw9.out.mono HB5.out.size)⟩
      · have h3 : (a.me == b.me) = false := by simpa [h1, h2] using hq
        go_wp2_with (first
          | (go_at_call 13; refine KF.out.mono ?_; rintro e wx ⟨rfl, hwx⟩; rw [hwx]; clear hwx)
          | (go_at_call 10; refine KW.out.mono ?_; rintro e w9 ⟨rfl, hw9⟩; replace hw9 := hid hw9))
        go_ret
        exact ⟨rfl, HB5.out.trans (hw9.out.mono HB5.out.size)⟩
  · obtain ⟨h1, h2, h3⟩ : (a.br == b.br) = true ∧ (a.hop == b.hop) = true ∧ (a.me == b.me) = true := by simpa using hq
    have KS := hid (start_is T4 (br := b.br) (hop := b.hop) (me := b.me) (now := 0) (la kb.br) (la kb.hop) (la kb.me) (by simp) (two_same h1 h2 h3))
    clear T4 hq
    go_wp2_with fail
    refine KS.out.mono ?_
    rintro e w5 ⟨rfl, T5, F5⟩
    have ra5 := F5.ac ra4
    have rb5 := F5.ac rb4
    have HB5 := hid (hB4.trans (F5.below.mono hs))
    clear KS ra4 rb4 F5 hB4 y1 y2 y3
    have KF := hid (tab_find T5 (la ka.br) (la ka.hop) (la ka.me))
    simp only [find_a] at KF
    unfold findV at KF
    obtain ⟨_, x1, x2, x3, _, _, _⟩ := ra5.ac
    obtain ⟨_, y1, y2, y3, _, _, _⟩ := rb5.ac
    have KW := hid (awake11_any w5)
    clear T5 ra5 rb5
    go_wp2_with (first
      | (go_at_call 13; refine KF.out.mono ?_; rintro e wx ⟨rfl, hwx⟩; rw [hwx]; clear hwx)
      | (go_at_call 10; refine KW.out.mono ?_; rintro e w9 ⟨rfl, hw9⟩; replace hw9 := hid hw9))
    go_ret
    exact ⟨rfl, HB5.out.trans (hw9.out.mono HB5.out.size)⟩
end Go.Proofs.Ytbnmdljlfldgoaa.serverApart
