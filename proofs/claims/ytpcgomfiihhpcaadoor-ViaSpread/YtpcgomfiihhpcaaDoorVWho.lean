/-
  Contracts: Branch and By, of package via and the document's own.
-/
import Derived.Test.YtpcgomfiihhpcaaDoorVCheck
import Derived.Test.YtpcgomfiihhpcaaDoorRVia
import Derived.Test.YtpcgomfiihhpcaaDoorFU
import Derived.Test.YtpcgomfiihhpcaaDoorFN
import Derived.BigQuiet
namespace Go.Proofs.YtpcgomfiihhpcaaDoor
open Go.RowKit Sc
set_option linter.unusedVariables false
set_option maxRecDepth 20000

theorem valV_len {ps : List Par} (h : SmallP 140737488355328 ps) (nm : List UInt8) : (valV ps nm).1.length ≤ 140737488355328 := by
  unfold valV
  cases hf : findV ps nm with
  | none => simp
  | some p => exact (h.2 p (List.mem_of_find?_eq_some hf)).2
theorem ret_sv {R : List UInt8 × Bool} {x : List UInt8} {b : Bool} (h : R = (x, b)) : Ending.returned (.tuple #[.string ⟨x.toArray⟩, .bool b]) = .returned (.tuple #[.string ⟨R.1.toArray⟩, .bool R.2]) := by rw [h]
theorem cookie_of (s : List UInt8) (w : World) :
    Calls Tryd.prog 30 #[.string ⟨s.toArray⟩, .string ⟨#[122, 57, 104, 71, 52, 98, 75]⟩] w fun e w' => e = .returned (.bool (List.isPrefixOf cookieK s)) ∧ w' = w := sh_HasPrefix ⟨s.toArray⟩ ⟨#[122, 57, 104, 71, 52, 98, 75]⟩ w
theorem take_ext (l : List UInt8) (k : Nat) : (⟨l.toArray⟩ : ByteArray).extract 0 k = ⟨(l.take k).toArray⟩ := by
  apply ByteArray.ext
  simp
theorem digits_i64 (n : Int) (w : World) (h0 : -9223372036854775808 ≤ n) (h1 : n ≤ 9223372036854775807) :
    Calls Tryd.prog 25 #[.int .i64 n] w fun e w' => e = .returned (.string ⟨(digI n).toArray⟩) ∧ Below w.heap.size w w' := by
  unfold digI
  by_cases h : n < 0
  · rw [if_pos h]; exact (digits_neg n w h).mono fun e w' k => ⟨k.1, by rw [k.2]; exact Below.refl _ _⟩
  · rw [if_neg h]; exact digits_nat n w (by omega) h1
theorem refdigits_i64 (n : Int) (w : World) (h0 : -9223372036854775808 ≤ n) (h1 : n ≤ 9223372036854775807) :
    Calls Tryd.prog 27 #[.int .i64 n] w fun e w' => e = .returned (.string ⟨(digI n).toArray⟩) ∧ Below w.heap.size w w' := by
  unfold digI
  by_cases h : n < 0
  · rw [if_pos h]; exact (refdigits_neg n w h).mono fun e w' k => ⟨k.1, by rw [k.2]; exact Below.refl _ _⟩
  · rw [if_neg h]; exact refdigits_nat n w (by omega) h1

set_option maxHeartbeats 1000000 in
set_option maxRecDepth 100000 in
theorem vbranch_any (c : HopC) (w : World) (hsm : SmallV 140737488355328 c.h) (hat : c.At w) :
    Calls Tryd.prog 12 #[hpV c.h c.q] w fun e w' => e = .returned (.tuple #[.string ⟨(brV c.h.params).1.toArray⟩, .bool (brV c.h.params).2]) ∧ Below w.heap.size w w' := by
  obtain ⟨a, q⟩ := c
  obtain ⟨h3, hcap⟩ := hat
  simp only at h3 hcap hsm ⊢
  have KV := hid (fun w' (hb : Below w.heap.size w w') => value_any q a.params branchK w' (by decide) hsm.2.1 (h3.below hb))
  have hvl := valV_len hsm.2.1 branchK
  have hbv : brV a.params = brOf (valV a.params branchK).1 := rfl
  have hbx := boxV_new w a q
  have hb0 : Below w.heap.size w (w.alloc (objV a q)) := (Below.refl _ w).alloc (Nat.le_refl _) _
  obtain ⟨a3, c3, rfl⟩ := h3.form
  clear h3 hsm hcap
  obtain ⟨ho, po, ps⟩ := a
  unfold hpV
  unfold objV at hb0 hbx
  simp only at KV hb0 hbx hbv hvl ⊢
  generalize brV ps = R at hbv ⊢
  generalize valV ps branchK = vv at KV hbv hvl
  obtain ⟨vt, vb⟩ := vv
  simp only at KV hbv hvl
  have HR := hid hbv
  clear hbv
  obtain ⟨x0, x1, x2⟩ := hbx
  simp only at x0 x1 x2
  unfold branchK at KV
  go_enter Tryd.func12, Tryd.ntmps12
  go_wp2_with fail
  refine (KV.out _ hb0).mono ?_
  rintro e w1 ⟨rfl, hw1⟩
  have hb1 := hb0.trans (hw1.mono hb0.size)
  clear KV hw1 x0 x1 x2 hb0
  by_cases h7 : vt.length = 7
  · have HV := hid (HR.out.trans (br_seven h7))
    have h7' : ((vt.length : Int) == 7) = true := by simp; omega
    clear HR
    go_wp2
    go_ret2
    exact ⟨by rw [HV.out]; rfl, hb1⟩
  · have h7' : ((vt.length : Int) == 7) = false := by simp; omega
    have KP := hid (fun w' => cookie_of vt w')
    cases hpf : List.isPrefixOf cookieK vt with
    | false =>
      rw [hpf] at KP
      have HV := hid (HR.out.trans (br_no hpf))
      clear HR hpf
      go_wp2_with fail
      refine (KP.out _).mono ?_
      rintro e w2 ⟨rfl, rfl⟩
      go_wp2
      go_ret2
      exact ⟨by rw [HV.out]; rfl, hb1⟩
    | true =>
      rw [hpf] at KP
      have HV := hid (HR.out.trans (br_yes h7 hpf))
      clear HR hpf
      go_wp2_with fail
      refine (KP.out _).mono ?_
      rintro e w2 ⟨rfl, rfl⟩
      go_wp2
      go_ret2
      exact ⟨ret_sv HV.out, hb1⟩

set_option maxHeartbeats 1000000 in
set_option maxRecDepth 100000 in
theorem rvbranch_any (c : HopC) (w : World) (hsm : SmallV 140737488355328 c.h) (hat : c.At w) :
    Calls Tryd.prog 13 #[hpV c.h c.q] w fun e w' => e = .returned (.tuple #[.string ⟨(brV c.h.params).1.toArray⟩, .bool (brV c.h.params).2]) ∧ Below w.heap.size w w' := by
  obtain ⟨a, q⟩ := c
  obtain ⟨h3, hcap⟩ := hat
  simp only at h3 hcap hsm ⊢
  have KV := hid (fun w' (hb : Below w.heap.size w w') => refvalue_any q a.params branchK w' (by decide) hsm.2.1 (h3.below hb))
  have hvl := valV_len hsm.2.1 branchK
  have hbv : brV a.params = brOf (valV a.params branchK).1 := rfl
  have hbx := boxV_new w a q
  have hb0 : Below w.heap.size w (w.alloc (objV a q)) := (Below.refl _ w).alloc (Nat.le_refl _) _
  obtain ⟨a3, c3, rfl⟩ := h3.form
  clear h3 hsm hcap
  obtain ⟨ho, po, ps⟩ := a
  unfold hpV
  unfold objV at hb0 hbx
  simp only at KV hb0 hbx hbv hvl ⊢
  generalize brV ps = R at hbv ⊢
  generalize valV ps branchK = vv at KV hbv hvl
  obtain ⟨vt, vb⟩ := vv
  simp only at KV hbv hvl
  have HR := hid hbv
  clear hbv
  obtain ⟨x0, x1, x2⟩ := hbx
  simp only at x0 x1 x2
  unfold branchK at KV
  go_enter Tryd.func13, Tryd.ntmps13
  go_wp2_with fail
  refine (KV.out _ hb0).mono ?_
  rintro e w1 ⟨rfl, hw1⟩
  have hb1 := hb0.trans (hw1.mono hb0.size)
  clear KV hw1 x0 x1 x2 hb0
  by_cases h7 : vt.length ≤ 7
  · have HV := hid (HR.out.trans (br_short h7))
    have h7' : (vt.length : Int) ≤ 7 := by omega
    clear HR
    go_wp2
    go_ret2
    exact ⟨by rw [HV.out]; rfl, hb1⟩
  · have h7' : ¬ ((vt.length : Int) ≤ 7) := by omega
    have d7 : decide ((vt.length : Int) ≤ 7) = false := decide_eq_false h7'
    have hx := take_ext vt 7
    have hg := hid (@br_good vt h7)
    have hb := hid (@br_not vt)
    generalize vt.take 7 = tk at hx hg hb
    by_cases hc : tk = cookieK
    · have HV := hid (HR.out.trans (hg.out hc))
      unfold cookieK at hc
      subst hc
      clear HR hg hb
      go_wp2
      go_ret2
      exact ⟨ret_sv HV.out, hb1⟩
    · have HV := hid (HR.out.trans (hb.out hc))
      have hne : (tk == [122, 57, 104, 71, 52, 98, 75]) = false := beq_eq_false_iff_ne.2 hc
      have hne2 : (tk != [122, 57, 104, 71, 52, 98, 75]) = true := bne_iff_ne.2 hc
      clear HR hc hg hb
      go_wp2
      go_ret2
      exact ⟨ret_sv (x := []) HV.out, hb1⟩

end Go.Proofs.YtpcgomfiihhpcaaDoor
