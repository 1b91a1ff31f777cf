/-
  Contracts of the document's own Scheme and Host.
-/
import Derived.Test.YtfdcklekjnihjabDoorRefCut
import Derived.Test.YtfdcklekjnihjabDoorRefTexts
import Derived.Test.YtfdcklekjnihjabDoorHostL
namespace Go.Proofs.YtfdcklekjnihjabDoor
open Go.RowKit Sc
set_option linter.unusedVariables false
set_option maxRecDepth 20000

theorem lab_empty {t : ByteArray} (h : t.size = 0) : labB t.data.toList = false := by
  unfold labB; rw [len_data]; simp [h]
theorem lab_cls {t : ByteArray} (h : allB 64 t.data.toList = false) : labB t.data.toList = false := by
  unfold labB; simp [h]
theorem lab_first {t : ByteArray} (hp : 0 < t.size) (h : t[0] = 45) : labB t.data.toList = false := by
  unfold labB; rw [getD_s t 0 hp, h]; simp
theorem lab_last {t : ByteArray} (hp : t.size - 1 < t.size) (h : t[t.size - 1] = 45) : labB t.data.toList = false := by
  unfold labB; rw [len_data, getD_s t _ hp, h]; simp
theorem lab_fine {t : ByteArray} (hp : 0 < t.size) (ha : allB 64 t.data.toList = true) (h : ¬ t[0] = 45) (hq : t.size - 1 < t.size) (h2 : ¬ t[t.size - 1] = 45) : labB t.data.toList = true := by
  unfold labB
  rw [len_data, getD_s t 0 hp, getD_s t _ hq, ha]
  simp [h, h2]; omega

def labAll (ps : List (List UInt8)) : Bool := ps.all labB
theorem labAll_snoc {ps : List (List UInt8)} {k : Nat} (hk : k < ps.length) (h : labAll (ps.take k) = true) (hb : labB ps[k] = true) : labAll (ps.take (k + 1)) = true := by
  unfold labAll at *
  rw [List.take_succ_eq_append_getElem hk, List.all_append, h]
  simp [hb]
theorem labAll_bad {ps : List (List UInt8)} {k : Nat} (hk : k < ps.length) (hb : labB ps[k] = false) : labAll ps = false := by
  unfold labAll
  rw [List.all_eq_false]
  exact ⟨ps[k], List.getElem_mem hk, by simp [hb]⟩

end Go.Proofs.YtfdcklekjnihjabDoor
