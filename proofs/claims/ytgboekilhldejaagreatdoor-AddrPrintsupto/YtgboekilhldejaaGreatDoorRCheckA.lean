/-
  The contracts of the document's own Check, Print and Tag of addresses.
-/
import Derived.Test.YtgboekilhldejaaGreatDoorRText
import Derived.Test.YtgboekilhldejaaGreatDoorACheck
import Derived.Test.YtgboekilhldejaaGreatDoorBaseC
import Derived.Test.YtgboekilhldejaaGreatDoorBaseL
namespace Go.Proofs.YtgboekilhldejaaGreatDoor
open Go.RowKit Sc
set_option linter.unusedVariables false
set_option maxRecDepth 20000

set_option maxHeartbeats 400000 in
theorem rtag_any (c : AdrC) (w : World) (hsm : SmallP 140737488355328 c.a.params) (hat : c.At w) :
    Calls Tryz.prog 18 #[adrV c.a c.p c.h c.q] w fun e w' => e = .returned (.string ⟨(valV c.a.params [116, 97, 103]).1.toArray⟩) ∧ Below w.heap.size w w' := by
  obtain ⟨a, p, h, q⟩ := c
  obtain ⟨h1, h2, h3, hcap⟩ := hat
  simp only at h1 h2 h3 hcap hsm ⊢
  have KV := hid (fun w' (hb : Below w.heap.size w w') => refvalue_any q a.params [116, 97, 103] w' (by decide) hsm (h3.below hb))
  have hbx := boxA_new w a p h q
  have hb0 : Below w.heap.size w (w.alloc (objA a p h q)) := (Below.refl _ w).alloc (Nat.le_refl _) _
  obtain ⟨a1, c1, rfl⟩ := h1.form
  obtain ⟨a2, c2, rfl⟩ := h2.form
  obtain ⟨a3, c3, rfl⟩ := h3.form
  clear h1 h2 h3 hsm hcap
  obtain ⟨d, u, ps⟩ := a
  obtain ⟨us, uu, uh, up, upp, uhh⟩ := u
  unfold adrV
  unfold objA at hb0 hbx
  simp only at KV hb0 hbx ⊢
  generalize valV ps [116, 97, 103] = vv at KV ⊢
  obtain ⟨vt, vb⟩ := vv
  simp only at KV ⊢
  obtain ⟨x0, x1, x2, x3, x4, x5, x6, x7⟩ := hbx
  simp only at x0 x1 x2 x3 x4 x5 x6 x7
  go_enter Tryz.func18, Tryz.ntmps18
  go_wp2_with fail
  refine (KV.out _ hb0).mono ?_
  rintro e w1 ⟨rfl, hw1⟩
  go_wp2
  go_ret
  exact ⟨rfl, hb0.trans (hw1.mono hb0.size)⟩

set_option maxHeartbeats 1000000 in
set_option maxRecDepth 100000 in
theorem rcheckA_any (c : AdrC) (w : World) (hsm : SmallA 1048576 c.a) (hat : c.At w) :
    Calls Tryz.prog 16 #[adrV c.a c.p c.h c.q] w fun e w' => e = .returned (.int .i64 (checkA c.a)) ∧ Below w.heap.size w w' := by
  obtain ⟨a, p, h, q⟩ := c
  obtain ⟨h1, h2, h3, hcap⟩ := hat
  simp only at h1 h2 h3 hcap hsm ⊢
  have hsl := hsm.le (show 1048576 ≤ 140737488355328 by omega)
  have KQ := hid (fun w' => refquote_list a.display w' hsm.1)
  have KC := hid (fun w' (hb : Below w.heap.size w w') => refcheck_any a.uri p h w' hsl.2.1 (h1.below hb) (h2.below hb))
  have KT := hid (fun w' (hb : Below w.heap.size w w') => rtext_any q a.params w' hsm.2.2 (h3.below hb) hcap)
  have e1 := hid (@checkA_1 a)
  have e2 := hid (@checkA_2 a)
  have e3 := hid (@checkA_3 a)
  have hdl := hsm.1
  have hqn := quote_num a.display
  have hqb : quotB a.display = (decide (a.display.length ≤ 64) && !hasBar a.display) := rfl
  have hbx := boxA_new w a p h q
  have hb0 : Below w.heap.size w (w.alloc (objA a p h q)) := (Below.refl _ w).alloc (Nat.le_refl _) _
  have hlt := alloc_lt w (objA a p h q)
  have HBX := hid hbx
  clear hbx
  obtain ⟨a1, c1, rfl⟩ := h1.form
  obtain ⟨a2, c2, rfl⟩ := h2.form
  obtain ⟨a3, c3, rfl⟩ := h3.form
  clear h1 h2 h3 hsm hcap hsl
  obtain ⟨d, u, ps⟩ := a
  obtain ⟨us, uu, uh, up, upp, uhh⟩ := u
  unfold adrV
  unfold uriV at KC
  unfold objA at hb0 hlt HBX
  simp only at KQ KC KT e1 e2 e3 HBX hb0 hlt hdl hqn hqb ⊢
  generalize checkA _ = r at e1 e2 e3 ⊢
  obtain ⟨x0, x1, x2, x3, x4, x5, x6, x7⟩ := HBX.out
  simp only at x0 x1 x2 x3 x4 x5 x6 x7
  generalize quotB d = qb at hqb e1 e2 e3
  generalize quoteV d = qv at KQ hqn
  obtain ⟨qt, qn⟩ := qv
  simp only at KQ hqn
  generalize hasBar d = hbar at hqn hqb
  generalize checkV _ = cv at KC e2 e3
  generalize textV ps = tv at KT e3
  obtain ⟨tt, tn⟩ := tv
  simp only at KT e3
  have HQN := hid hqn
  have HQB := hid hqb
  clear hqn hqb
  go_enter Tryz.func16, Tryz.ntmps16
  go_wp2_with fail
  refine (KQ.out _).mono ?_
  rintro e w1 ⟨rfl, hw1⟩
  have HB1 := hid (BoxA.below HBX.out hw1 hlt)
  have hb1 := hb0.trans (hw1.mono hb0.size)
  have hlt1 := Nat.lt_of_lt_of_le hlt hw1.size
  clear HBX hw1 hb0 hlt x0 x1 x2 x3 x4 x5 x6 x7 KQ
  obtain ⟨x0, x1, x2, x3, x4, x5, x6, x7⟩ := HB1.out
  simp only at x0 x1 x2 x3 x4 x5 x6 x7
  by_cases h64 : d.length ≤ 64
  case neg =>
    have hv := hid (e1.out (by rw [HQB.out]; simp; omega))
    have h64' : (64 : Int) < (d.length : Int) := by omega
    clear e1 e2 e3 HQN HQB
    go_wp2
    go_ret
    exact ⟨ret_int hv.out.symm, hb1⟩
  have h64' : ¬ ((64 : Int) < (d.length : Int)) := by omega
  cases hbar with
  | true =>
    have hq : qn = 11 := HQN.out
    subst hq
    have hv := hid (e1.out (by rw [HQB.out]; simp))
    clear e1 e2 e3 HQN HQB
    go_wp2
    go_ret
    exact ⟨ret_int hv.out.symm, hb1⟩
  | false =>
    have hq : qn = 0 := HQN.out
    subst hq
    have hqt : Hid (qb = true) := show _ = _ by rw [HQB.out]; simp [h64]
    clear HQN HQB e1
    go_wp2_with fail
    refine (KC.out _ hb1).mono ?_
    rintro e w2 ⟨rfl, hw2⟩
    have HB2 := hid (BoxA.below HB1.out hw2 hlt1)
    have hb2 := hb1.trans (hw2.mono hb1.size)
    have hlt2 := Nat.lt_of_lt_of_le hlt1 hw2.size
    clear HB1 hw2 hb1 hlt1 x0 x1 x2 x3 x4 x5 x6 x7
    obtain ⟨x0, x1, x2, x3, x4, x5, x6, x7⟩ := HB2.out
    simp only at x0 x1 x2 x3 x4 x5 x6 x7
    by_cases hc : cv = 0
    · have hv := hid (e3.out hqt.out hc)
      subst hc
      clear e2 e3 KC
      go_wp2_with fail
      refine (KT.out _ hb2).mono ?_
      rintro e w3 ⟨rfl, hw3⟩
      go_wp2
      go_ret
      exact ⟨ret_int hv.out.symm, hb2.trans (hw3.mono hb2.size)⟩
    · have hv := hid (e2.out hqt.out hc)
      have hne : (cv != 0) = true := by simpa using hc
      clear e2 e3 hc
      go_wp2_with fail
      refine (KC.out _ hb2).mono ?_
      rintro e w3 ⟨rfl, hw3⟩
      go_wp2
      go_ret
      exact ⟨ret_int hv.out.symm, hb2.trans (hw3.mono hb2.size)⟩

theorem ang4 (b c : List UInt8) : ((((⟨#[60]⟩ : ByteArray) ++ ⟨b.toArray⟩) ++ ⟨#[62]⟩) ++ ⟨c.toArray⟩) = ⟨([60] ++ b ++ [62] ++ c).toArray⟩ := by
  have e : ∀ x : UInt8, (⟨#[x]⟩ : ByteArray) = ⟨[x].toArray⟩ := fun _ => rfl
  rw [e 60, e 62, ByteArray.mk_append_mk, ByteArray.mk_append_mk, ByteArray.mk_append_mk]
theorem ang6 (a b c : List UInt8) : ((⟨a.toArray⟩ : ByteArray) ++ ⟨#[32]⟩) ++ ((((⟨#[60]⟩ : ByteArray) ++ ⟨b.toArray⟩) ++ ⟨#[62]⟩) ++ ⟨c.toArray⟩) = ⟨((a ++ [32]) ++ ([60] ++ b ++ [62] ++ c)).toArray⟩ := by
  rw [ang4]
  have e : ∀ x : UInt8, (⟨#[x]⟩ : ByteArray) = ⟨[x].toArray⟩ := fun _ => rfl
  rw [e 32, ByteArray.mk_append_mk, ByteArray.mk_append_mk]

set_option maxHeartbeats 1000000 in
set_option maxRecDepth 100000 in
theorem rprintA_any (c : AdrC) (w : World) (hsm : SmallA 1048576 c.a) (hat : c.At w) :
    Calls Tryz.prog 14 #[adrV c.a c.p c.h c.q] w fun e w' => e = .returned (.tuple #[.string ⟨(printA c.a).1.toArray⟩, .int .i64 (printA c.a).2]) ∧ Below w.heap.size w w' := by
  obtain ⟨a, p, h, q⟩ := c
  obtain ⟨h1, h2, h3, hcap⟩ := hat
  simp only at h1 h2 h3 hcap hsm ⊢
  have KA := hid (fun w' (hb : Below w.heap.size w w') => rcheckA_any ⟨a, p, h, q⟩ w' hsm ⟨h1.below hb, h2.below hb, h3.below hb, hcap⟩)
  have hbx := boxA_new w a p h q
  have hb0 : Below w.heap.size w (w.alloc (objA a p h q)) := (Below.refl _ w).alloc (Nat.le_refl _) _
  have hlt := alloc_lt w (objA a p h q)
  have HBX := hid hbx
  clear hbx
  by_cases hok : checkA a = 0
  · have HP : Hid (printA a = (textA a, 0)) := show _ = _ by rw [printA, if_pos hok]
    obtain ⟨k1, k2, k3, k4, k5⟩ := checkA_ok hok
    have hpv : printV a.uri = (textT a.uri, 0) := by rw [printV, if_pos k3]
    have htv := text_good k4 k5
    have t2 := textT_small k3
    have t3 := parsA_small a.params [] k5
    have hqv : quoteV a.display = (34 :: quo a.display ++ [34], 0) := by rw [quoteV, k2]; rfl
    have t4 := quo_len a.display
    have hsl := hsm.le (show 1048576 ≤ 140737488355328 by omega)
    have KQ := hid (fun w' => refquote_list a.display w' hsm.1)
    have KU := hid (fun w' (hb : Below w.heap.size w w') => refprint_any a.uri p h w' hsl.2.1 (h1.below hb) (h2.below hb))
    have KT := hid (fun w' (hb : Below w.heap.size w w') => rtext_any q a.params w' hsm.2.2 (h3.below hb) hcap)
    simp only at KA
    rw [hok] at KA
    rw [hpv] at KU
    rw [htv] at KT
    rw [hqv] at KQ
    have HT : Hid (textA a = (if a.display = [] then [] else (34 :: quo a.display ++ [34]) ++ [32]) ++ ([60] ++ textT a.uri ++ [62] ++ parsA a.params)) := show _ = _ from rfl
    obtain ⟨a1, c1, rfl⟩ := h1.form
    obtain ⟨a2, c2, rfl⟩ := h2.form
    obtain ⟨a3, c3, rfl⟩ := h3.form
    clear h1 h2 h3 hsm hcap hok hpv htv hqv k2 k3 k5 hsl
    generalize textA a = T at HP HT
    generalize printA a = R at HP ⊢
    obtain ⟨d, u, ps⟩ := a
    obtain ⟨us, uu, uh, up, upp, uhh⟩ := u
    unfold adrV at KA ⊢
    unfold uriV at KU
    unfold objA at hb0 hlt HBX
    simp only at KQ KA KU KT HT HBX hb0 hlt k1 t2 t3 t4 k4 ⊢
    generalize textT _ = ut at KU HT t2
    generalize parsA ps = pt at KT HT t3
    obtain ⟨qd, hqd⟩ : ∃ qd, qd = 34 :: quo d ++ [34] := ⟨_, rfl⟩
    have hql : qd.length ≤ 130 := by rw [hqd]; simp; omega
    rw [← hqd] at KQ HT
    clear hqd t4
    obtain ⟨x0, x1, x2, x3, x4, x5, x6, x7⟩ := HBX.out
    simp only at x0 x1 x2 x3 x4 x5 x6 x7
    go_enter Tryz.func14, Tryz.ntmps14
    go_wp2_with fail
    refine (KA.out _ hb0).mono ?_
    rintro e w1 ⟨rfl, hw1⟩
    have HB1 := hid (BoxA.below HBX.out hw1 hlt)
    have hb1 := hb0.trans (hw1.mono hb0.size)
    have hlt1 := Nat.lt_of_lt_of_le hlt hw1.size
    clear HBX hw1 hb0 hlt x0 x1 x2 x3 x4 x5 x6 x7 KA
    obtain ⟨x0, x1, x2, x3, x4, x5, x6, x7⟩ := HB1.out
    simp only at x0 x1 x2 x3 x4 x5 x6 x7
    go_wp2_with fail
    refine (KU.out _ hb1).mono ?_
    rintro e w2 ⟨rfl, hw2⟩
    have HB2 := hid (BoxA.below HB1.out hw2 hlt1)
    have hb2 := hb1.trans (hw2.mono hb1.size)
    have hlt2 := Nat.lt_of_lt_of_le hlt1 hw2.size
    clear HB1 hw2 hb1 hlt1 x0 x1 x2 x3 x4 x5 x6 x7 KU
    obtain ⟨x0, x1, x2, x3, x4, x5, x6, x7⟩ := HB2.out
    simp only at x0 x1 x2 x3 x4 x5 x6 x7
    go_wp2_with fail
    refine (KT.out _ hb2).mono ?_
    rintro e w3 ⟨rfl, hw3⟩
    have HB3 := hid (BoxA.below HB2.out hw3 hlt2)
    have hb3 := hb2.trans (hw3.mono hb2.size)
    have hlt3 := Nat.lt_of_lt_of_le hlt2 hw3.size
    clear HB2 hw3 hb2 hlt2 x0 x1 x2 x3 x4 x5 x6 x7 KT
    obtain ⟨x0, x1, x2, x3, x4, x5, x6, x7⟩ := HB3.out
    simp only at x0 x1 x2 x3 x4 x5 x6 x7
    cases hie : d.isEmpty with
    | true =>
      have HT2 : Hid (R = ([60] ++ ut ++ [62] ++ pt, 0)) := show _ = _ by rw [HP.out, HT.out, if_pos (by simpa using hie)]; rfl
      clear HP HT KQ
      go_wp2
      go_ret2
      exact ⟨by rw [HT2.out, ← ang4]; rfl, hb3⟩
    | false =>
      have HT2 : Hid (R = ((qd ++ [32]) ++ ([60] ++ ut ++ [62] ++ pt), 0)) := show _ = _ by rw [HP.out, HT.out, if_neg (by intro h; rw [h] at hie; cases hie)]
      clear HP HT
      go_wp2_with fail
      refine (KQ.out _).mono ?_
      rintro e w4 ⟨rfl, hw4⟩
      go_wp2
      go_ret2
      exact ⟨by rw [HT2.out, ← ang6]; rfl, hb3.trans (hw4.mono hb3.size)⟩
  · have HP : Hid (printA a = ([], checkA a)) := show _ = _ by rw [printA, if_neg hok]
    have hne : (checkA a != 0) = true := by simpa using hok
    generalize printA a = R at HP ⊢
    simp only at KA
    generalize checkA a = cv at KA HP hne
    obtain ⟨a1, c1, rfl⟩ := h1.form
    obtain ⟨a2, c2, rfl⟩ := h2.form
    obtain ⟨a3, c3, rfl⟩ := h3.form
    clear h1 h2 h3 hsm hcap hok
    obtain ⟨d, u, ps⟩ := a
    obtain ⟨us, uu, uh, up, upp, uhh⟩ := u
    unfold adrV at KA ⊢
    unfold objA at hb0 hlt HBX
    simp only at KA HBX hb0 hlt ⊢
    obtain ⟨x0, x1, x2, x3, x4, x5, x6, x7⟩ := HBX.out
    simp only at x0 x1 x2 x3 x4 x5 x6 x7
    go_enter Tryz.func14, Tryz.ntmps14
    go_wp2_with fail
    refine (KA.out _ hb0).mono ?_
    rintro e w1 ⟨rfl, hw1⟩
    have HB1 := hid (BoxA.below HBX.out hw1 hlt)
    have hb1 := hb0.trans (hw1.mono hb0.size)
    clear HBX hw1 hb0 hlt x0 x1 x2 x3 x4 x5 x6 x7
    obtain ⟨x0, x1, x2, x3, x4, x5, x6, x7⟩ := HB1.out
    simp only at x0 x1 x2 x3 x4 x5 x6 x7
    go_wp2_with fail
    refine (KA.out _ hb1).mono ?_
    rintro e w2 ⟨rfl, hw2⟩
    go_wp2
    go_ret2
    exact ⟨by rw [HP.out]; rfl, hb1.trans (hw2.mono hb1.size)⟩

end Go.Proofs.YtgboekilhldejaaGreatDoor
