/-
  Contracts: package via's Check, Print.
-/
import Derived.Test.YtpcgomfiihhpcaaDoorVOwn
import Derived.Test.YtpcgomfiihhpcaaDoorFL
import Derived.Test.YtpcgomfiihhpcaaDoorAText
import Derived.Test.YtpcgomfiihhpcaaDoorFD
namespace Go.Proofs.YtpcgomfiihhpcaaDoor
open Go.RowKit Sc
set_option linter.unusedVariables false
set_option maxRecDepth 20000

theorem digits_nat (n : Int) (w : World) (h0 : 0 ≤ n) (h1 : n ≤ 9223372036854775807) :
    Calls Tryd.prog 25 #[.int .i64 n] w fun e w' => e = .returned (.string ⟨(digL n.toNat).toArray⟩) ∧ Below w.heap.size w w' := by
  have k := digits_any n.toNat w (by omega)
  rw [Int.toNat_of_nonneg h0] at k
  exact k
theorem vglue0 (b c : List UInt8) : (((⟨#[83, 73, 80, 47, 50, 46, 48, 47, 85, 68, 80, 32]⟩ : ByteArray) ++ ⟨b.toArray⟩) ++ ⟨#[]⟩) ++ ⟨c.toArray⟩ = ⟨(protoK ++ [32] ++ (b ++ []) ++ c).toArray⟩ := by
  have e : (⟨#[83, 73, 80, 47, 50, 46, 48, 47, 85, 68, 80, 32]⟩ : ByteArray) = ⟨(protoK ++ [32]).toArray⟩ := rfl
  have e0 : (⟨#[]⟩ : ByteArray) = ⟨([] : List UInt8).toArray⟩ := rfl
  rw [e, e0, ByteArray.mk_append_mk, ByteArray.mk_append_mk, ByteArray.mk_append_mk]
  simp
theorem vglue1 (b d c : List UInt8) : (((⟨#[83, 73, 80, 47, 50, 46, 48, 47, 85, 68, 80, 32]⟩ : ByteArray) ++ ⟨b.toArray⟩) ++ ((⟨#[58]⟩ : ByteArray) ++ ⟨d.toArray⟩)) ++ ⟨c.toArray⟩ = ⟨(protoK ++ [32] ++ (b ++ ([58] ++ d)) ++ c).toArray⟩ := by
  have e : (⟨#[83, 73, 80, 47, 50, 46, 48, 47, 85, 68, 80, 32]⟩ : ByteArray) = ⟨(protoK ++ [32]).toArray⟩ := rfl
  have e0 : (⟨#[58]⟩ : ByteArray) = ⟨[58].toArray⟩ := rfl
  rw [e, e0, ByteArray.mk_append_mk, ByteArray.mk_append_mk, ByteArray.mk_append_mk, ByteArray.mk_append_mk]
  simp
theorem vglue0r (b c : List UInt8) : ((⟨#[83, 73, 80, 47, 50, 46, 48, 47, 85, 68, 80, 32]⟩ : ByteArray) ++ ⟨b.toArray⟩) ++ ⟨c.toArray⟩ = ⟨(protoK ++ [32] ++ (b ++ []) ++ c).toArray⟩ := by
  have e : (⟨#[83, 73, 80, 47, 50, 46, 48, 47, 85, 68, 80, 32]⟩ : ByteArray) = ⟨(protoK ++ [32]).toArray⟩ := rfl
  rw [e, ByteArray.mk_append_mk, ByteArray.mk_append_mk]
  simp
theorem rglue1 (b d c : List UInt8) : ((((⟨#[83, 73, 80, 47, 50, 46, 48, 47, 85, 68, 80, 32]⟩ : ByteArray) ++ ⟨b.toArray⟩) ++ (⟨#[58]⟩ : ByteArray)) ++ ⟨d.toArray⟩) ++ ⟨c.toArray⟩ = ⟨(protoK ++ [32] ++ (b ++ ([58] ++ d)) ++ c).toArray⟩ := by
  have e : (⟨#[83, 73, 80, 47, 50, 46, 48, 47, 85, 68, 80, 32]⟩ : ByteArray) = ⟨(protoK ++ [32]).toArray⟩ := rfl
  have e0 : (⟨#[58]⟩ : ByteArray) = ⟨[58].toArray⟩ := rfl
  rw [e, e0, ByteArray.mk_append_mk, ByteArray.mk_append_mk, ByteArray.mk_append_mk, ByteArray.mk_append_mk]
  simp

set_option maxHeartbeats 1000000 in
set_option maxRecDepth 100000 in
theorem vcheck_any (c : HopC) (w : World) (hsm : SmallV 140737488355328 c.h) (hat : c.At w) :
    Calls Tryd.prog 14 #[hpV c.h c.q] w fun e w' => e = .returned (.int .i64 (checkH c.h)) ∧ Below w.heap.size w w' := by
  obtain ⟨a, q⟩ := c
  obtain ⟨h3, hcap⟩ := hat
  simp only at h3 hcap hsm ⊢
  have KH := hid (fun w' => host_list a.host w' (by have := hsm.1; omega))
  have KT := hid (fun w' (hb : Below w.heap.size w w') => atext_any q a.params w' hsm.2.1 (h3.below hb) hcap)
  have e1 := hid (@checkH_1 a)
  have e2 := hid (@checkH_2 a)
  have e3 := hid (@checkH_3 a)
  have hbx := boxV_new w a q
  have hb0 : Below w.heap.size w (w.alloc (objV a q)) := (Below.refl _ w).alloc (Nat.le_refl _) _
  have hlt := alloc_lt w (objV a q)
  have HBX := hid hbx
  clear hbx
  obtain ⟨a3, c3, rfl⟩ := h3.form
  clear h3 hsm hcap
  obtain ⟨ho, po, ps⟩ := a
  unfold hpV
  unfold objV at hb0 hlt HBX
  simp only at KH KT e1 e2 e3 HBX hb0 hlt ⊢
  generalize checkH _ = r at e1 e2 e3 ⊢
  obtain ⟨x0, x1, x2⟩ := HBX.out
  simp only at x0 x1 x2
  generalize hostB ho = hb at KH e1 e2 e3
  generalize textV ps = tv at KT e3
  obtain ⟨tt, tn⟩ := tv
  simp only at KT e3
  go_enter Tryd.func14, Tryd.ntmps14
  go_wp2_with fail
  refine (KH.out _).mono ?_
  rintro e w1 ⟨rfl, hw1⟩
  have HB1 := hid (BoxV.below HBX.out hw1 hlt)
  have hb1 := hb0.trans (hw1.mono hb0.size)
  clear HBX hw1 hb0 hlt x0 x1 x2 KH
  obtain ⟨x0, x1, x2⟩ := HB1.out
  simp only at x0 x1 x2
  cases hb with
  | false =>
    have hv := hid (e1.out rfl)
    clear e1 e2 e3
    go_wp2
    go_ret
    exact ⟨ret_int hv.out.symm, hb1⟩
  | true =>
    by_cases p1 : po < 0
    · have hv := hid (e2.out rfl (Or.inl p1))
      have d1 : decide (po < 0) = true := decide_eq_true p1
      clear e1 e2 e3
      go_wp2
      go_ret
      exact ⟨ret_int hv.out.symm, hb1⟩
    · have d1 : decide (po < 0) = false := decide_eq_false p1
      by_cases p2 : 65535 < po
      · have hv := hid (e2.out rfl (Or.inr p2))
        have d2 : decide (65535 < po) = true := decide_eq_true p2
        clear e1 e2 e3
        go_wp2
        go_ret
        exact ⟨ret_int hv.out.symm, hb1⟩
      · have hv := hid (e3.out rfl (by omega) (by omega))
        have d2 : decide (65535 < po) = false := decide_eq_false p2
        clear e1 e2 e3
        go_wp2_with fail
        refine (KT.out _ hb1).mono ?_
        rintro e w3 ⟨rfl, hw3⟩
        go_wp2
        go_ret
        exact ⟨ret_int hv.out.symm, hb1.trans (hw3.mono hb1.size)⟩

set_option maxHeartbeats 1000000 in
set_option maxRecDepth 100000 in
theorem vprint_any (c : HopC) (w : World) (hsm : SmallV 140737488355328 c.h) (hat : c.At w) :
    Calls Tryd.prog 10 #[hpV c.h c.q] w fun e w' => e = .returned (.tuple #[.string ⟨(printH c.h).1.toArray⟩, .int .i64 (printH c.h).2]) ∧ Below w.heap.size w w' := by
  obtain ⟨a, q⟩ := c
  obtain ⟨h3, hcap⟩ := hat
  simp only at h3 hcap hsm ⊢
  have KA := hid (fun w' (hb : Below w.heap.size w w') => vcheck_any ⟨a, q⟩ w' hsm ⟨h3.below hb, hcap⟩)
  have hbx := boxV_new w a q
  have hb0 : Below w.heap.size w (w.alloc (objV a q)) := (Below.refl _ w).alloc (Nat.le_refl _) _
  have hlt := alloc_lt w (objV a q)
  have HBX := hid hbx
  clear hbx
  by_cases hok : checkH a = 0
  · have HP : Hid (printH a = (textH a, 0)) := show _ = _ by rw [printH, if_pos hok]
    obtain ⟨k1, k2, k3, k4, k5⟩ := checkH_ok hok
    have htv := text_good k4 k5
    have t1 := hostB_ok k1
    have t3 := parsA_small a.params [] k5
    have t4 := digL_len19 (n := a.port.toNat) (by omega)
    have KD := hid (fun w' => digits_nat a.port w' k2 (by omega))
    have KT := hid (fun w' (hb : Below w.heap.size w w') => atext_any q a.params w' hsm.2.1 (h3.below hb) hcap)
    simp only at KA
    rw [hok] at KA
    rw [htv] at KT
    have HT : Hid (textH a = protoK ++ [32] ++ (a.host ++ portT a.port) ++ parsA a.params) := show _ = _ from rfl
    have HPT : Hid (portT a.port = if a.port = 0 then [] else [58] ++ digL a.port.toNat) := show _ = _ from rfl
    obtain ⟨a3, c3, rfl⟩ := h3.form
    clear h3 hsm hcap hok htv k1 k5
    generalize textH a = T at HP HT
    generalize printH a = R at HP ⊢
    obtain ⟨ho, po, ps⟩ := a
    unfold hpV at KA ⊢
    unfold objV at hb0 hlt HBX
    simp only at KA KD KT HT HPT HBX hb0 hlt t1 t3 t4 k2 k3 k4 ⊢
    generalize parsA ps = pt at KT HT t3
    generalize digL po.toNat = dl at KD HPT t4
    obtain ⟨x0, x1, x2⟩ := HBX.out
    simp only at x0 x1 x2
    go_enter Tryd.func10, Tryd.ntmps10
    go_wp2_with fail
    refine (KA.out _ hb0).mono ?_
    rintro e w1 ⟨rfl, hw1⟩
    have HB1 := hid (BoxV.below HBX.out hw1 hlt)
    have hb1 := hb0.trans (hw1.mono hb0.size)
    have hlt1 := Nat.lt_of_lt_of_le hlt hw1.size
    clear HBX hw1 hb0 hlt x0 x1 x2 KA
    obtain ⟨x0, x1, x2⟩ := HB1.out
    simp only at x0 x1 x2
    by_cases hp : po = 0
    · have HT2 : Hid (R = (protoK ++ [32] ++ (ho ++ []) ++ pt, 0)) := show _ = _ by rw [HP.out, HT.out, HPT.out, if_pos hp]
      subst hp
      clear HP HT HPT KD
      go_wp2_with fail
      refine (KT.out _ hb1).mono ?_
      rintro e w2 ⟨rfl, hw2⟩
      have HB2 := hid (BoxV.below HB1.out hw2 hlt1)
      have hb2 := hb1.trans (hw2.mono hb1.size)
      clear HB1 hw2 hb1 hlt1 x0 x1 x2 KT
      obtain ⟨x0, x1, x2⟩ := HB2.out
      simp only at x0 x1 x2
      go_wp2
      go_ret2
      exact ⟨by rw [HT2.out, ← vglue0]; rfl, hb2⟩
    · have HT2 : Hid (R = (protoK ++ [32] ++ (ho ++ ([58] ++ dl)) ++ pt, 0)) := show _ = _ by rw [HP.out, HT.out, HPT.out, if_neg hp]
      have hpn : (po != 0) = true := by simpa using hp
      clear HP HT HPT
      go_wp2_with fail
      refine (KD.out _).mono ?_
      rintro e w2 ⟨rfl, hw2⟩
      have HB2 := hid (BoxV.below HB1.out hw2 hlt1)
      have hb2 := hb1.trans (hw2.mono hb1.size)
      have hlt2 := Nat.lt_of_lt_of_le hlt1 hw2.size
      clear HB1 hw2 hb1 hlt1 x0 x1 x2 KD
      obtain ⟨x0, x1, x2⟩ := HB2.out
      simp only at x0 x1 x2
      go_wp2_with fail
      refine (KT.out _ hb2).mono ?_
      rintro e w3 ⟨rfl, hw3⟩
      have HB3 := hid (BoxV.below HB2.out hw3 hlt2)
      have hb3 := hb2.trans (hw3.mono hb2.size)
      clear HB2 hw3 hb2 hlt2 x0 x1 x2 KT
      obtain ⟨x0, x1, x2⟩ := HB3.out
      simp only at x0 x1 x2
      go_wp2
      go_ret2
      exact ⟨by rw [HT2.out, ← vglue1]; rfl, hb3⟩
  · have HP : Hid (printH a = ([], checkH a)) := show _ = _ by rw [printH, if_neg hok]
    have hne : (checkH a != 0) = true := by simpa using hok
    generalize printH a = R at HP ⊢
    simp only at KA
    generalize checkH a = cv at KA HP hne
    obtain ⟨a3, c3, rfl⟩ := h3.form
    clear h3 hsm hcap hok
    obtain ⟨ho, po, ps⟩ := a
    unfold hpV at KA ⊢
    unfold objV at hb0 hlt HBX
    simp only at KA HBX hb0 hlt ⊢
    obtain ⟨x0, x1, x2⟩ := HBX.out
    simp only at x0 x1 x2
    go_enter Tryd.func10, Tryd.ntmps10
    go_wp2_with fail
    refine (KA.out _ hb0).mono ?_
    rintro e w1 ⟨rfl, hw1⟩
    go_wp2
    go_ret2
    exact ⟨by rw [HP.out]; rfl, hb0.trans (hw1.mono hb0.size)⟩

end Go.Proofs.YtpcgomfiihhpcaaDoor
