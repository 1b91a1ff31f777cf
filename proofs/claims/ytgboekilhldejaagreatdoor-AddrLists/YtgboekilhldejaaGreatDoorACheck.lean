/-
  Contracts: package addr's Check, Print, Tag; the document's own Same.
-/
import Derived.Test.YtgboekilhldejaaGreatDoorAText
import Derived.Test.YtgboekilhldejaaGreatDoorBaseM
import Derived.Test.YtgboekilhldejaaGreatDoorBaseB
namespace Go.Proofs.YtgboekilhldejaaGreatDoor
open Go.RowKit Sc
set_option linter.unusedVariables false
set_option maxRecDepth 20000

/-- The eight cells of an address' block. -/
def BoxA (w : World) (b : Nat) (a : Adr) (p h q : Value) : Prop :=
  w.cell? ⟨b, 0, none⟩ = some (.string ⟨a.display.toArray⟩) ∧ w.cell? ⟨b, 1, none⟩ = some (.string ⟨a.uri.scheme.toArray⟩) ∧ w.cell? ⟨b, 2, none⟩ = some (.string ⟨a.uri.user.toArray⟩) ∧ w.cell? ⟨b, 3, none⟩ = some (.string ⟨a.uri.host.toArray⟩) ∧
  w.cell? ⟨b, 4, none⟩ = some (.int .i64 a.uri.port) ∧ w.cell? ⟨b, 5, none⟩ = some p ∧ w.cell? ⟨b, 6, none⟩ = some h ∧ w.cell? ⟨b, 7, none⟩ = some q
theorem BoxA.below {w w' : World} {b B : Nat} {a : Adr} {p h q : Value} (k : BoxA w b a p h q) (hb : Below B w w') (hlt : b < B) : BoxA w' b a p h q :=
  ⟨cell_below hb hlt k.1, cell_below hb hlt k.2.1, cell_below hb hlt k.2.2.1, cell_below hb hlt k.2.2.2.1, cell_below hb hlt k.2.2.2.2.1, cell_below hb hlt k.2.2.2.2.2.1, cell_below hb hlt k.2.2.2.2.2.2.1, cell_below hb hlt k.2.2.2.2.2.2.2⟩
def objA (a : Adr) (p h q : Value) : Obj := .cells #[.string ⟨a.display.toArray⟩, .string ⟨a.uri.scheme.toArray⟩, .string ⟨a.uri.user.toArray⟩, .string ⟨a.uri.host.toArray⟩, .int .i64 a.uri.port, p, h, q] 39
theorem boxA_new (w : World) (a : Adr) (p h q : Value) : BoxA (w.alloc (objA a p h q)) w.heap.size a p h q := by
  unfold BoxA World.cell? objA
  simp only [heap_alloc_new]
  exact ⟨rfl, rfl, rfl, rfl, rfl, rfl, rfl, rfl⟩
theorem textT_small {u : Uri} (h : checkV u = 0) : (textT u).length ≤ 14000 := by
  obtain ⟨k1, k2, k3, k4, k5, k6, k7, k8⟩ := check_ok h
  have hl1 := schemeB_ok k1
  have hl3 := hostB_ok k3
  have hpl := listB_ok k6
  have hhl := listB_ok k7
  have el := escLn usersK u.user
  have dl := digL_len19 (n := u.port.toNat) (by omega)
  have pl := wrT_len [59] [59] paramsK u.params (by simp) (by simp) hpl.2
  have hl := wrT_len [63] [38] headersK u.headers (by simp) (by simp) hhl.2
  rw [wrT_pars] at pl
  rw [wrT_hdr] at hl
  have h1 := hpl.1
  have h2 := hhl.1
  have hf : (frontT u).length ≤ 400 := by
    unfold frontT
    simp only [List.length_append]
    have e1 : (if u.user = [] then ([] : List UInt8) else escL usersK u.user ++ [64]).length ≤ 200 := by
      split
      · simp
      · simp; omega
    have e2 : (if u.port = 0 then ([] : List UInt8) else [58] ++ digL u.port.toNat).length ≤ 20 := by
      split
      · simp
      · simp; omega
    simp only [List.length_singleton]
    omega
  unfold textT
  rw [List.length_append, List.length_append]
  omega
theorem quot_iff (d : List UInt8) : quotB d = false ↔ (64 < d.length ∨ hasBar d = true) := by
  unfold quotB
  cases hasBar d <;> simp
theorem checkA_1 {a : Adr} (h : quotB a.display = false) : checkA a = 50 := by rw [checkA, if_pos ((quot_iff _).1 h)]
theorem checkA_2 {a : Adr} (h : quotB a.display = true) (h2 : checkV a.uri ≠ 0) : checkA a = checkV a.uri := by rw [checkA, if_neg (fun k => by rw [(quot_iff _).2 k] at h; cases h), if_pos h2]
theorem checkA_3 {a : Adr} (h : quotB a.display = true) (h2 : checkV a.uri = 0) : checkA a = (textV a.params).2 := by rw [checkA, if_neg (fun k => by rw [(quot_iff _).2 k] at h; cases h), if_neg (by simp [h2])]

set_option maxHeartbeats 1000000 in
set_option maxRecDepth 100000 in
theorem acheck_any (c : AdrC) (w : World) (hsm : SmallA 140737488355328 c.a) (hat : c.At w) :
    Calls Tryz.prog 15 #[adrV c.a c.p c.h c.q] w fun e w' => e = .returned (.int .i64 (checkA c.a)) ∧ Below w.heap.size w w' := by
  obtain ⟨a, p, h, q⟩ := c
  obtain ⟨h1, h2, h3, hcap⟩ := hat
  simp only at h1 h2 h3 hcap hsm ⊢
  have KQ := hid (fun w' => quotable_any a.display w' hsm.1)
  have KC := hid (fun w' (hb : Below w.heap.size w w') => check_any a.uri p h w' hsm.2.1 (h1.below hb) (h2.below hb))
  have KT := hid (fun w' (hb : Below w.heap.size w w') => atext_any q a.params w' hsm.2.2 (h3.below hb) hcap)
  have e1 := hid (@checkA_1 a)
  have e2 := hid (@checkA_2 a)
  have e3 := hid (@checkA_3 a)
  have hbx := boxA_new w a p h q
  have hb0 : Below w.heap.size w (w.alloc (objA a p h q)) := (Below.refl _ w).alloc (Nat.le_refl _) _
  have hlt := alloc_lt w (objA a p h q)
  have HBX := hid hbx
  clear hbx
  obtain ⟨a1, c1, rfl⟩ := h1.form
  obtain ⟨a2, c2, rfl⟩ := h2.form
  obtain ⟨a3, c3, rfl⟩ := h3.form
  clear h1 h2 h3 hsm hcap
  obtain ⟨d, u, ps⟩ := a
  obtain ⟨us, uu, uh, up, upp, uhh⟩ := u
  unfold adrV
  unfold uriV at KC
  unfold objA at hb0 hlt HBX
  simp only at KQ KC KT e1 e2 e3 HBX hb0 hlt ⊢
  generalize checkA _ = r at e1 e2 e3 ⊢
  obtain ⟨x0, x1, x2, x3, x4, x5, x6, x7⟩ := HBX.out
  simp only at x0 x1 x2 x3 x4 x5 x6 x7
  generalize quotB d = qb at KQ e1 e2 e3
  generalize checkV _ = cv at KC e2 e3
  generalize textV ps = tv at KT e3
  obtain ⟨tt, tn⟩ := tv
  simp only at KT e3
  go_enter Tryz.func15, Tryz.ntmps15
  go_wp2_with fail
  refine (KQ.out _).mono ?_
  rintro e w1 ⟨rfl, hw1⟩
  have HB1 := hid (BoxA.below HBX.out hw1 hlt)
  have hb1 := hb0.trans (hw1.mono hb0.size)
  have hlt1 := Nat.lt_of_lt_of_le hlt hw1.size
  clear HBX hw1 hb0 hlt x0 x1 x2 x3 x4 x5 x6 x7 KQ
  obtain ⟨x0, x1, x2, x3, x4, x5, x6, x7⟩ := HB1.out
  simp only at x0 x1 x2 x3 x4 x5 x6 x7
  cases qb with
  | false =>
    have hv := hid (e1.out rfl)
    clear e1 e2 e3
    go_wp2
    go_ret
    exact ⟨ret_int hv.out.symm, hb1⟩
  | true =>
    go_wp2_with fail
    refine (KC.out _ hb1).mono ?_
    rintro e w2 ⟨rfl, hw2⟩
    have HB2 := hid (BoxA.below HB1.out hw2 hlt1)
    have hb2 := hb1.trans (hw2.mono hb1.size)
    clear HB1 hw2 hb1 hlt1 x0 x1 x2 x3 x4 x5 x6 x7 KC
    obtain ⟨x0, x1, x2, x3, x4, x5, x6, x7⟩ := HB2.out
    simp only at x0 x1 x2 x3 x4 x5 x6 x7
    by_cases hc : cv = 0
    · have hv := hid (e3.out (by simp) hc)
      subst hc
      clear e1 e2 e3
      go_wp2_with fail
      refine (KT.out _ hb2).mono ?_
      rintro e w3 ⟨rfl, hw3⟩
      go_wp2
      go_ret
      exact ⟨ret_int hv.out.symm, hb2.trans (hw3.mono hb2.size)⟩
    · have hv := hid (e2.out (by simp) hc)
      have hne : (cv != 0) = true := by simpa using hc
      clear e1 e2 e3 hc
      go_wp2
      go_ret
      exact ⟨ret_int hv.out.symm, hb2⟩

theorem dispT_len {d : List UInt8} (h : d.length ≤ 64) : (dispT d).length ≤ 131 := by
  unfold dispT
  split
  · simp
  · have := quo_len d; simp; omega
theorem textA_small {a : Adr} (h : checkA a = 0) : (textA a).length ≤ 18000 := by
  obtain ⟨k1, k2, k3, k4, k5⟩ := checkA_ok h
  have t1 := dispT_len k1
  have t2 := textT_small k3
  have t3 := parsA_small a.params [] k5
  unfold textA
  simp only [List.length_append, List.length_cons, List.length_nil]
  omega
theorem glue5 (a b c : List UInt8) : ((((⟨a.toArray⟩ : ByteArray) ++ ⟨#[60]⟩) ++ ⟨b.toArray⟩) ++ ⟨#[62]⟩) ++ ⟨c.toArray⟩ = ⟨(a ++ ([60] ++ b ++ [62] ++ c)).toArray⟩ := by
  have e : ∀ x : UInt8, (⟨#[x]⟩ : ByteArray) = ⟨[x].toArray⟩ := fun _ => rfl
  rw [e 60, e 62, ByteArray.mk_append_mk, ByteArray.mk_append_mk, ByteArray.mk_append_mk, ByteArray.mk_append_mk]
  congr 2
  simp

set_option maxHeartbeats 1000000 in
set_option maxRecDepth 100000 in
theorem aprint_any (c : AdrC) (w : World) (hsm : SmallA 140737488355328 c.a) (hat : c.At w) :
    Calls Tryz.prog 13 #[adrV c.a c.p c.h c.q] w fun e w' => e = .returned (.tuple #[.string ⟨(printA c.a).1.toArray⟩, .int .i64 (printA c.a).2]) ∧ Below w.heap.size w w' := by
  obtain ⟨a, p, h, q⟩ := c
  obtain ⟨h1, h2, h3, hcap⟩ := hat
  simp only at h1 h2 h3 hcap hsm ⊢
  have KA := hid (fun w' (hb : Below w.heap.size w w') => acheck_any ⟨a, p, h, q⟩ w' hsm ⟨h1.below hb, h2.below hb, h3.below hb, hcap⟩)
  have hbx := boxA_new w a p h q
  have hb0 : Below w.heap.size w (w.alloc (objA a p h q)) := (Below.refl _ w).alloc (Nat.le_refl _) _
  have hlt := alloc_lt w (objA a p h q)
  have HBX := hid hbx
  clear hbx
  by_cases hok : checkA a = 0
  · have HP : Hid (printA a = (textA a, 0)) := show _ = _ by rw [printA, if_pos hok]
    obtain ⟨k1, k2, k3, k4, k5⟩ := checkA_ok hok
    have hpv : printV a.uri = (textT a.uri, 0) := by rw [printV, if_pos k3]
    have htv := text_good k4 k5
    have t2 := textT_small k3
    have t3 := parsA_small a.params [] k5
    have hqv : quoteV a.display = (34 :: quo a.display ++ [34], 0) := by rw [quoteV, k2]; rfl
    have t4 := quo_len a.display
    have KQ := hid (fun w' => quoted_any a.display w' (by omega))
    have KU := hid (fun w' (hb : Below w.heap.size w w') => print_any a.uri p h w' hsm.2.1 (h1.below hb) (h2.below hb))
    have KT := hid (fun w' (hb : Below w.heap.size w w') => atext_any q a.params w' hsm.2.2 (h3.below hb) hcap)
    simp only at KA
    rw [hok] at KA
    rw [hpv] at KU
    rw [htv] at KT
    rw [hqv] at KQ
    have HT : Hid (textA a = (if a.display = [] then [] else (34 :: quo a.display ++ [34]) ++ [32]) ++ ([60] ++ textT a.uri ++ [62] ++ parsA a.params)) := show _ = _ from rfl
    obtain ⟨a1, c1, rfl⟩ := h1.form
    obtain ⟨a2, c2, rfl⟩ := h2.form
    obtain ⟨a3, c3, rfl⟩ := h3.form
    clear h1 h2 h3 hsm hcap hok hpv htv hqv k2 k3 k5
    generalize textA a = T at HP HT
    generalize printA a = R at HP ⊢
    obtain ⟨d, u, ps⟩ := a
    obtain ⟨us, uu, uh, up, upp, uhh⟩ := u
    unfold adrV at KA ⊢
    unfold uriV at KU
    unfold objA at hb0 hlt HBX
    simp only at KQ KA KU KT HT HBX hb0 hlt k1 t2 t3 t4 k4 ⊢
    generalize textT _ = ut at KU HT t2
    generalize parsA ps = pt at KT HT t3
    obtain ⟨qd, hqd⟩ : ∃ qd, qd = 34 :: quo d ++ [34] := ⟨_, rfl⟩
    have hql : qd.length ≤ 130 := by rw [hqd]; simp; omega
    rw [← hqd] at KQ HT
    clear hqd t4
    obtain ⟨x0, x1, x2, x3, x4, x5, x6, x7⟩ := HBX.out
    simp only at x0 x1 x2 x3 x4 x5 x6 x7
    go_enter Tryz.func13, Tryz.ntmps13
    go_wp2_with fail
    refine (KA.out _ hb0).mono ?_
    rintro e w1 ⟨rfl, hw1⟩
    have HB1 := hid (BoxA.below HBX.out hw1 hlt)
    have hb1 := hb0.trans (hw1.mono hb0.size)
    have hlt1 := Nat.lt_of_lt_of_le hlt hw1.size
    clear HBX hw1 hb0 hlt x0 x1 x2 x3 x4 x5 x6 x7 KA
    obtain ⟨x0, x1, x2, x3, x4, x5, x6, x7⟩ := HB1.out
    simp only at x0 x1 x2 x3 x4 x5 x6 x7
    cases hie : d.isEmpty with
    | true =>
      have HT2 : Hid (R = (([] : List UInt8) ++ ([60] ++ ut ++ [62] ++ pt), 0)) := show _ = _ by rw [HP.out, HT.out, if_pos (by simpa using hie)]
      clear HP HT KQ
      go_wp2_with fail
      refine (KU.out _ hb1).mono ?_
      rintro e w2 ⟨rfl, hw2⟩
      have HB2 := hid (BoxA.below HB1.out hw2 hlt1)
      have hb2 := hb1.trans (hw2.mono hb1.size)
      clear HB1 hw2 hb1 hlt1 x0 x1 x2 x3 x4 x5 x6 x7 KU
      obtain ⟨x0, x1, x2, x3, x4, x5, x6, x7⟩ := HB2.out
      simp only at x0 x1 x2 x3 x4 x5 x6 x7
      go_wp2_with fail
      refine (KT.out _ hb2).mono ?_
      rintro e w3 ⟨rfl, hw3⟩
      go_wp2
      go_ret2
      exact ⟨by rw [HT2.out, ← glue5]; rfl, hb2.trans (hw3.mono hb2.size)⟩
    | false =>
      have HT2 : Hid (R = ((qd ++ [32]) ++ ([60] ++ ut ++ [62] ++ pt), 0)) := show _ = _ by rw [HP.out, HT.out, if_neg (by intro h; rw [h] at hie; cases hie)]
      clear HP HT
      go_wp2_with fail
      refine (KQ.out _).mono ?_
      rintro e w0 ⟨rfl, hw0⟩
      have HB0 := hid (BoxA.below HB1.out hw0 hlt1)
      have hb0 := hb1.trans (hw0.mono hb1.size)
      have hlt0 := Nat.lt_of_lt_of_le hlt1 hw0.size
      clear HB1 hw0 hb1 hlt1 x0 x1 x2 x3 x4 x5 x6 x7 KQ
      obtain ⟨x0, x1, x2, x3, x4, x5, x6, x7⟩ := HB0.out
      simp only at x0 x1 x2 x3 x4 x5 x6 x7
      go_wp2_with fail
      refine (KU.out _ hb0).mono ?_
      rintro e w2 ⟨rfl, hw2⟩
      have HB2 := hid (BoxA.below HB0.out hw2 hlt0)
      have hb2 := hb0.trans (hw2.mono hb0.size)
      clear HB0 hw2 hb0 hlt0 x0 x1 x2 x3 x4 x5 x6 x7 KU
      obtain ⟨x0, x1, x2, x3, x4, x5, x6, x7⟩ := HB2.out
      simp only at x0 x1 x2 x3 x4 x5 x6 x7
      go_wp2_with fail
      refine (KT.out _ hb2).mono ?_
      rintro e w3 ⟨rfl, hw3⟩
      go_wp2
      go_ret2
      exact ⟨by rw [HT2.out, ← glue5, ← ByteArray.mk_append_mk]; rfl, hb2.trans (hw3.mono hb2.size)⟩
  · have HP : Hid (printA a = ([], checkA a)) := show _ = _ by rw [printA, if_neg hok]
    have hne : (checkA a != 0) = true := by simpa using hok
    generalize printA a = R at HP ⊢
    simp only at KA
    generalize checkA a = cv at KA HP hne
    obtain ⟨a1, c1, rfl⟩ := h1.form
    obtain ⟨a2, c2, rfl⟩ := h2.form
    obtain ⟨a3, c3, rfl⟩ := h3.form
    clear h1 h2 h3 hsm hcap hok
    obtain ⟨d, u, ps⟩ := a
    obtain ⟨us, uu, uh, up, upp, uhh⟩ := u
    unfold adrV at KA ⊢
    unfold objA at hb0 hlt HBX
    simp only at KA HBX hb0 hlt ⊢
    obtain ⟨x0, x1, x2, x3, x4, x5, x6, x7⟩ := HBX.out
    simp only at x0 x1 x2 x3 x4 x5 x6 x7
    go_enter Tryz.func13, Tryz.ntmps13
    go_wp2_with fail
    refine (KA.out _ hb0).mono ?_
    rintro e w1 ⟨rfl, hw1⟩
    go_wp2
    go_ret2
    exact ⟨by rw [HP.out]; rfl, hb0.trans (hw1.mono hb0.size)⟩

end Go.Proofs.YtgboekilhldejaaGreatDoor
