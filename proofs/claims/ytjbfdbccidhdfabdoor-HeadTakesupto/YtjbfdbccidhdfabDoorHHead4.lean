/-
  Contracts: package head's Call, mayGive, lasting, mayShow and Show.
-/
import Derived.Test.YtjbfdbccidhdfabDoorHHead1
import Derived.Test.YtjbfdbccidhdfabDoorHRef5
import Derived.Test.YtjbfdbccidhdfabDoorFN
namespace Go.Proofs.YtjbfdbccidhdfabDoor
open Go.RowKit Go.Sort Sc
set_option linter.unusedVariables false
set_option maxRecDepth 20000
set_option linter.unusedSimpArgs false

/-- May a text be a state's reason? -/
def mgB (re : List UInt8) : Bool := re.isEmpty || tokenB re
set_option maxHeartbeats 400000 in
theorem hmaygive_any (re : List UInt8) (w : World) (hs : re.length ≤ 140737488355328) :
    Calls Tryd.prog 29 #[.string ⟨re.toArray⟩] w fun e w' => e = .returned (.bool (mgB re)) ∧ w' = w := by
  have KK := hid (fun w' => token_list re w' hs)
  have HV : Hid (mgB re = (re.isEmpty || tokenB re)) := show _ = _ from rfl
  generalize mgB re = R at HV ⊢
  generalize tokenB re = tk at HV KK
  cases hem : re.isEmpty with
  | true =>
    have he : (re == []) = true := by simpa using hem
    have HR : Hid (R = true) := show _ = _ by rw [HV.out, hem]; rfl
    clear HV
    go_enter Tryd.func29, Tryd.ntmps29
    go_wp2
    go_ret
    exact ⟨ret_bool HR.out.symm, rfl⟩
  | false =>
    have he : (re == []) = false := by cases re with | nil => simp at hem | cons a b => rfl
    have HR : Hid (R = tk) := show _ = _ by rw [HV.out, hem]; rfl
    clear HV
    go_enter Tryd.func29, Tryd.ntmps29
    go_wp2_with fail
    refine (KK.out _).mono ?_
    rintro e w1 ⟨rfl, hw1⟩
    rw [hw1]
    go_wp2
    go_ret
    exact ⟨ret_bool HR.out.symm, rfl⟩

/-- The seconds that parameters tell. -/
def lastV (ps : List Par) : Int × Int := if (valV ps expiresK).2 = false then (-1, 0) else timeV (valV ps expiresK).1
set_option maxHeartbeats 400000 in
theorem hlasting_any (q : Value) (ps : List Par) (w : World) (hsm : SmallP 140737488355328 ps) (h : ParsAt w q ps) (hl : (valV ps expiresK).1.length ≤ 140737488355328) :
    Calls Tryd.prog 28 #[q] w fun e w' => e = .returned (.tuple #[.int .i64 (lastV ps).1, .int .i64 (lastV ps).2]) ∧ Below w.heap.size w w' := by
  have KV := hid (fun w' (hb : Below w.heap.size w w') => value_any q ps expiresK w' (by decide) hsm (h.below hb))
  have HV : Hid (lastV ps = if (valV ps expiresK).2 = false then (-1, 0) else timeV (valV ps expiresK).1) := show _ = _ from rfl
  generalize lastV ps = R at HV ⊢
  obtain ⟨a3, c3, rfl⟩ := h.form
  clear h hsm
  generalize valV ps expiresK = vv at HV KV hl
  obtain ⟨xt, xb⟩ := vv
  simp only at HV KV hl
  unfold expiresK at KV
  have KT := hid (fun w' => htime_any xt w' hl)
  generalize timeV xt = tv at HV KT
  obtain ⟨tn, te⟩ := tv
  simp only at KT
  go_enter Tryd.func28, Tryd.ntmps28
  go_wp2_with fail
  refine (KV.out _ (Below.refl _ _)).mono ?_
  rintro e w1 ⟨rfl, hw1⟩
  cases xb with
  | false =>
    have HR : Hid (R = (-1, 0)) := show _ = _ by rw [HV.out]; rfl
    clear HV
    go_wp2
    go_ret2
    exact ⟨by rw [HR.out]; rfl, hw1⟩
  | true =>
    have HR : Hid (R = (tn, te)) := show _ = _ by rw [HV.out]; rfl
    clear HV
    go_wp2_with fail
    refine (KT.out _).mono ?_
    rintro e w2 ⟨rfl, hw2⟩
    go_wp2
    go_ret2
    exact ⟨by rw [HR.out]; rfl, hw1.trans (hw2.mono hw1.size)⟩

theorem mayS_no1 {v : Stt} (h : tokenB v.name = false) : sttB v = false := by simp [sttB, h]
theorem mayS_no2 {v : Stt} (h : (v.name == lowL v.name) = false) : sttB v = false := by
  have : (lowL v.name == v.name) = false := by rw [beq_eq_false_iff_ne] at h ⊢; exact fun e => h e.symm
  simp [sttB, this]
theorem mayS_no3 {v : Stt} (h : ¬ (-1 ≤ v.expires)) : sttB v = false := by
  rw [sttB, decide_eq_false (fun c => h c.1)]; simp
theorem mayS_no4 {v : Stt} (h : ¬ (v.expires ≤ 2147483647)) : sttB v = false := by
  have hm : (maxS : Int) = 2147483647 := rfl
  rw [sttB, decide_eq_false (fun c => h (hm ▸ c.2))]; simp
theorem mayS_yes {v : Stt} (h1 : tokenB v.name = true) (h2 : (v.name == lowL v.name) = true) (h3 : -1 ≤ v.expires) (h4 : v.expires ≤ 2147483647) : sttB v = mgB v.reason := by
  have e : lowL v.name = v.name := (eq_of_beq h2).symm
  have hm : (maxS : Int) = 2147483647 := rfl
  rw [sttB, h1, e, decide_eq_true ⟨h3, by rw [hm]; exact h4⟩]
  simp [mgB]

theorem hglue1 (a r : List UInt8) : (⟨a.toArray⟩ : ByteArray) ++ ((⟨#[59, 114, 101, 97, 115, 111, 110, 61]⟩ : ByteArray) ++ ⟨r.toArray⟩) = ⟨(a ++ ([59] ++ reasonK ++ [61] ++ r) ++ []).toArray⟩ := by
  have e : (⟨#[59, 114, 101, 97, 115, 111, 110, 61]⟩ : ByteArray) = ⟨([59] ++ reasonK ++ [61]).toArray⟩ := rfl
  rw [e, ByteArray.mk_append_mk, ByteArray.mk_append_mk]; simp
theorem hglue2 (a d : List UInt8) : (⟨a.toArray⟩ : ByteArray) ++ ((⟨#[59, 101, 120, 112, 105, 114, 101, 115, 61]⟩ : ByteArray) ++ ⟨d.toArray⟩) = ⟨(a ++ [] ++ ([59] ++ expiresK ++ [61] ++ d)).toArray⟩ := by
  have e : (⟨#[59, 101, 120, 112, 105, 114, 101, 115, 61]⟩ : ByteArray) = ⟨([59] ++ expiresK ++ [61]).toArray⟩ := rfl
  rw [e, ByteArray.mk_append_mk, ByteArray.mk_append_mk]; simp
theorem hglue3 (a r d : List UInt8) : ((⟨a.toArray⟩ : ByteArray) ++ ((⟨#[59, 114, 101, 97, 115, 111, 110, 61]⟩ : ByteArray) ++ ⟨r.toArray⟩)) ++ ((⟨#[59, 101, 120, 112, 105, 114, 101, 115, 61]⟩ : ByteArray) ++ ⟨d.toArray⟩) = ⟨(a ++ ([59] ++ reasonK ++ [61] ++ r) ++ ([59] ++ expiresK ++ [61] ++ d)).toArray⟩ := by
  rw [hglue1]
  have e2 : (⟨#[59, 101, 120, 112, 105, 114, 101, 115, 61]⟩ : ByteArray) = ⟨([59] ++ expiresK ++ [61]).toArray⟩ := rfl
  rw [e2, ByteArray.mk_append_mk, ByteArray.mk_append_mk]; simp
theorem sttB_facts {v : Stt} (h : sttB v = true) : v.name.length ≤ 64 ∧ v.reason.length ≤ 64 ∧ -1 ≤ v.expires ∧ v.expires ≤ 2147483647 := by
  have hm : (maxS : Int) = 2147483647 := rfl
  simp only [sttB, Bool.and_eq_true, Bool.or_eq_true, beq_iff_eq, decide_eq_true_eq, List.isEmpty_iff] at h
  obtain ⟨h1, h2, ⟨h3, h4⟩, h5⟩ := h
  refine ⟨(tok_facts h1).2.1, ?_, h3, by rw [← hm]; exact h4⟩
  rcases h5 with h5 | h5
  · rw [h5]; simp
  · exact (tok_facts h5).2.1

end Go.Proofs.YtjbfdbccidhdfabDoor
