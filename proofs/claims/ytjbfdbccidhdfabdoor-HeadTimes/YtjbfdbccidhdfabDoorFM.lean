/-
  Base texts, one behind another: RefHost, RefWhere, RefList.
-/
import Derived.Test.YtjbfdbccidhdfabDoorFC
import Derived.Test.YtjbfdbccidhdfabDoorFH
import Derived.Test.YtjbfdbccidhdfabDoorFD
import Derived.Test.YtjbfdbccidhdfabDoorFG
import Derived.Test.YtjbfdbccidhdfabDoorFF
import Derived.Deep.RegionLaw

/-
  Contracts of the document's own Scheme and Host.
-/
namespace Go.Proofs.YtjbfdbccidhdfabDoor
open Go.RowKit Sc
set_option linter.unusedVariables false
set_option maxRecDepth 20000

theorem lab_empty {t : ByteArray} (h : t.size = 0) : labB t.data.toList = false := by
  unfold labB; rw [len_data]; simp [h]
theorem lab_cls {t : ByteArray} (h : allB 64 t.data.toList = false) : labB t.data.toList = false := by
  unfold labB; simp [h]
theorem lab_first {t : ByteArray} (hp : 0 < t.size) (h : t[0] = 45) : labB t.data.toList = false := by
  unfold labB; rw [getD_s t 0 hp, h]; simp
theorem lab_last {t : ByteArray} (hp : t.size - 1 < t.size) (h : t[t.size - 1] = 45) : labB t.data.toList = false := by
  unfold labB; rw [len_data, getD_s t _ hp, h]; simp
theorem lab_fine {t : ByteArray} (hp : 0 < t.size) (ha : allB 64 t.data.toList = true) (h : ¬ t[0] = 45) (hq : t.size - 1 < t.size) (h2 : ¬ t[t.size - 1] = 45) : labB t.data.toList = true := by
  unfold labB
  rw [len_data, getD_s t 0 hp, getD_s t _ hq, ha]
  simp [h, h2]; omega

def labAll (ps : List (List UInt8)) : Bool := ps.all labB
theorem labAll_snoc {ps : List (List UInt8)} {k : Nat} (hk : k < ps.length) (h : labAll (ps.take k) = true) (hb : labB ps[k] = true) : labAll (ps.take (k + 1)) = true := by
  unfold labAll at *
  rw [List.take_succ_eq_append_getElem hk, List.all_append, h]
  simp [hb]
theorem labAll_bad {ps : List (List UInt8)} {k : Nat} (hk : k < ps.length) (hb : labB ps[k] = false) : labAll ps = false := by
  unfold labAll
  rw [List.all_eq_false]
  exact ⟨ps[k], List.getElem_mem hk, by simp [hb]⟩

end Go.Proofs.YtjbfdbccidhdfabDoor

/-
  The contract of the document's own Where.
-/
namespace Go.Proofs.YtjbfdbccidhdfabDoor
open Go.RowKit Sc
set_option linter.unusedVariables false
set_option maxRecDepth 20000

theorem ret_where {p : List UInt8 × Int × Int} {x : List UInt8} {a b : Int} (h : p = (x, a, b)) : Ending.returned (.tuple #[.string ⟨x.toArray⟩, .int .i64 a, .int .i64 b]) = .returned (.tuple #[.string ⟨p.1.toArray⟩, .int .i64 p.2.1, .int .i64 p.2.2]) := by rw [h]
end Go.Proofs.YtjbfdbccidhdfabDoor

/-
  The contract of the document's own List.
-/
namespace Go.Proofs.YtjbfdbccidhdfabDoor
open Go.RowKit Sc
set_option linter.unusedVariables false
set_option maxRecDepth 20000

theorem apart_snoc {ps : List Par} {j : Nat} {nm : List UInt8} (hj : j < ps.length) (h : apartB (ps.take j) nm = true) (hs : sameB ps[j].name nm = false) : apartB (ps.take (j + 1)) nm = true := by
  unfold apartB at *
  rw [List.take_succ_eq_append_getElem hj, List.all_append, h]
  simp [hs]
theorem apart_bad {ps : List Par} {j k : Nat} {nm : List UInt8} (hj : j < ps.length) (hjk : j < k) (hs : sameB ps[j].name nm = true) : apartB (ps.take k) nm = false := by
  unfold apartB
  rw [List.all_eq_false]
  refine ⟨ps[j], ?_, by simp [hs]⟩
  rw [List.mem_take_iff_getElem]
  exact ⟨j, by omega, rfl⟩
end Go.Proofs.YtjbfdbccidhdfabDoor
