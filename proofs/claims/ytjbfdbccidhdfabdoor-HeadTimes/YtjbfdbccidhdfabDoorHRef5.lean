/-
  The contract of the document's own Show of states.
-/
import Derived.Test.YtjbfdbccidhdfabDoorHRef2
import Derived.BigQuiet
import Derived.Lib.QuietBelow
namespace Go.Proofs.YtjbfdbccidhdfabDoor
open Go.RowKit Go.Sort Sc
set_option linter.unusedVariables false
set_option maxRecDepth 20000

theorem stt_no1 {v : Stt} (h : tokenB v.name = false) : sttShow v = ([], 82) := by rw [sttShow, if_neg]; simp [sttB, h]
theorem stt_no2 {v : Stt} (h : (lowL v.name == v.name) = false) : sttShow v = ([], 82) := by rw [sttShow, if_neg]; simp [sttB, h]
theorem stt_no3 {v : Stt} (h : v.expires < -1) : sttShow v = ([], 82) := by rw [sttShow, if_neg]; simp only [sttB, Bool.and_eq_true, decide_eq_true_eq]; omega
theorem stt_no4 {v : Stt} (h : 2147483647 < v.expires) : sttShow v = ([], 82) := by rw [sttShow, if_neg]; have hm : (maxS : Int) = 2147483647 := rfl; simp only [sttB, Bool.and_eq_true, decide_eq_true_eq]; omega
theorem stt_no5 {v : Stt} (h : v.reason ≠ []) (h2 : tokenB v.reason = false) : sttShow v = ([], 82) := by
  rw [sttShow, if_neg]
  have : v.reason.isEmpty = false := by cases hr : v.reason with | nil => exact absurd hr h | cons a b => rfl
  simp [sttB, h2, this]
theorem stt_yes {v : Stt} (h1 : tokenB v.name = true) (h2 : (lowL v.name == v.name) = true) (h3 : ¬ v.expires < -1) (h4 : ¬ 2147483647 < v.expires) (h5 : v.reason = [] ∨ tokenB v.reason = true) : sttShow v = (sttT v, 0) := by
  rw [sttShow, if_pos]
  have hm : (maxS : Int) = 2147483647 := rfl
  simp only [sttB, h1, h2, Bool.true_and, Bool.and_eq_true, decide_eq_true_eq, Bool.or_eq_true, List.isEmpty_iff]
  exact ⟨by omega, h5⟩
theorem showglue0 (a : List UInt8) : (⟨a.toArray⟩ : ByteArray) = ⟨(a ++ [] ++ []).toArray⟩ := by simp
theorem showglue1 (a r : List UInt8) : ((⟨a.toArray⟩ : ByteArray) ++ (⟨#[59, 114, 101, 97, 115, 111, 110, 61]⟩ : ByteArray)) ++ ⟨r.toArray⟩ = ⟨(a ++ ([59] ++ reasonK ++ [61] ++ r) ++ []).toArray⟩ := by
  have e : (⟨#[59, 114, 101, 97, 115, 111, 110, 61]⟩ : ByteArray) = ⟨([59] ++ reasonK ++ [61]).toArray⟩ := rfl
  rw [e, ByteArray.mk_append_mk, ByteArray.mk_append_mk]; simp
theorem showglue2 (a d : List UInt8) : ((⟨a.toArray⟩ : ByteArray) ++ (⟨#[59, 101, 120, 112, 105, 114, 101, 115, 61]⟩ : ByteArray)) ++ ⟨d.toArray⟩ = ⟨(a ++ [] ++ ([59] ++ expiresK ++ [61] ++ d)).toArray⟩ := by
  have e : (⟨#[59, 101, 120, 112, 105, 114, 101, 115, 61]⟩ : ByteArray) = ⟨([59] ++ expiresK ++ [61]).toArray⟩ := rfl
  rw [e, ByteArray.mk_append_mk, ByteArray.mk_append_mk]; simp
theorem showglue3 (a r d : List UInt8) : ((((⟨a.toArray⟩ : ByteArray) ++ (⟨#[59, 114, 101, 97, 115, 111, 110, 61]⟩ : ByteArray)) ++ ⟨r.toArray⟩) ++ (⟨#[59, 101, 120, 112, 105, 114, 101, 115, 61]⟩ : ByteArray)) ++ ⟨d.toArray⟩ = ⟨(a ++ ([59] ++ reasonK ++ [61] ++ r) ++ ([59] ++ expiresK ++ [61] ++ d)).toArray⟩ := by
  have e : (⟨#[59, 114, 101, 97, 115, 111, 110, 61]⟩ : ByteArray) = ⟨([59] ++ reasonK ++ [61]).toArray⟩ := rfl
  have e2 : (⟨#[59, 101, 120, 112, 105, 114, 101, 115, 61]⟩ : ByteArray) = ⟨([59] ++ expiresK ++ [61]).toArray⟩ := rfl
  rw [e, e2, ByteArray.mk_append_mk, ByteArray.mk_append_mk, ByteArray.mk_append_mk, ByteArray.mk_append_mk]; simp
theorem h_below {P : Program} {f : FuncId} {args : Array Value} {w : World} {v : Value} (h : Calls P f args w fun e w' => e = .returned v ∧ w' = w) : Calls P f args w fun e w' => e = .returned v ∧ Below w.heap.size w w' := h.mono fun _ _ ⟨he, hw⟩ => ⟨he, by rw [hw]; exact Below.refl _ _⟩

end Go.Proofs.YtjbfdbccidhdfabDoor
