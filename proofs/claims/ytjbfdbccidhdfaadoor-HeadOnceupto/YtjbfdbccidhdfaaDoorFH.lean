/-
  Base texts, one behind another: StrLib, RefTexts.
-/
import Derived.Test.YtjbfdbccidhdfaaDoorFC
import Derived.Test.YtjbfdbccidhdfaaDoorFA
import Derived.Lib.Bytealg
import Derived.Lib.CountLaws
import Derived.Laws.Entries
import Derived.Deep.QuietTactic
import Derived.BigQuiet

/-
  Contracts of strings.HasPrefix, HasSuffix, Index, IndexByte, Cut, Count and Split, at a sign of one byte.
-/
namespace Go.Proofs.YtjbfdbccidhdfaaDoor
open Go.RowKit Sc
set_option linter.unusedVariables false
set_option maxRecDepth 20000

theorem idx_cases (l : List UInt8) (c : UInt8) : (c ∉ l ∧ Lib.indexByte l c = -1) ∨ ∃ a b, l = a ++ c :: b ∧ c ∉ a ∧ Lib.indexByte l c = (a.length : Int) := by
  induction l with
  | nil => exact .inl ⟨by simp, rfl⟩
  | cons x l ih =>
    by_cases h : x = c
    · subst h; exact .inr ⟨[], l, rfl, by simp, by simp [Lib.indexByte]⟩
    · have hb : (x == c) = false := by simpa using h
      rcases ih with ⟨h1, h2⟩ | ⟨a, b, h1, h2, h3⟩
      · exact .inl ⟨by rw [List.mem_cons, not_or]; exact ⟨fun e => h e.symm, h1⟩, by simp [Lib.indexByte, hb, h2]⟩
      · refine .inr ⟨x :: a, b, by rw [h1]; rfl, by rw [List.mem_cons, not_or]; exact ⟨fun e => h e.symm, h2⟩, ?_⟩
        rw [Lib.indexByte, hb, h3]
        have : ((a.length : Int) == -1) = false := by rw [beq_eq_false_iff_ne]; omega
        simp [this]

set_option maxHeartbeats 400000 in
theorem slIndexByte_any (s : ByteArray) (c : UInt8) (w : World) :
    Calls Tryd.prog 105 #[.string s, .int .u8 c.toNat] w fun e w' => e = .returned (.int .i64 (Lib.indexByte s.data.toList c)) ∧ w' = w := by
  have hc : (c.toNat : Int).toNat.toUInt8 = c := by simp
  go_enter Tryd.func105, Tryd.ntmps105
  go_wp2
  rw [run_callFunc_extern Tryd.func110 (by kernel_rfl) (by kernel_rfl) (by kernel_rfl) (e := Extern.BytealgIndexByte.indexByte) (by kernel_rfl), Lib.run_indexByteString, hc]
  simp only [Result.andThen]
  rw [Oper.upon_value]
  go_wp2
  go_ret
  exact ⟨rfl, rfl⟩

set_option maxHeartbeats 400000 in
theorem strIndexByte_any (s : ByteArray) (c : UInt8) (w : World) :
    Calls Tryd.prog 94 #[.string s, .int .u8 c.toNat] w fun e w' => e = .returned (.int .i64 (Lib.indexByte s.data.toList c)) ∧ w' = w := by
  go_enter Tryd.func94, Tryd.ntmps94
  go_wp2_with (go_at_call 105; refine (slIndexByte_any _ _ _).mono ?_; rintro e w' ⟨rfl, rfl⟩)
  go_ret
  exact ⟨rfl, rfl⟩

set_option maxHeartbeats 1000000 in
theorem slIndex_any (s : ByteArray) (c : UInt8) (w : World) :
    Calls Tryd.prog 93 #[.string s, .string ⟨#[c]⟩] w fun e w' => e = .returned (.int .i64 (Lib.indexByte s.data.toList c)) ∧ w' = w := by
  have h0 : (ByteArray.mk #[c]).size = 1 := rfl
  by_cases hs : s = ⟨#[c]⟩
  · subst hs
    have hv : Hid (Lib.indexByte (ByteArray.mk #[c]).data.toList c = 0) := show _ = _ by simp [Lib.indexByte]
    go_enter Tryd.func93, Tryd.ntmps93
    go_wp2
    go_ret
    exact ⟨ret_int hv.out.symm, rfl⟩
  · have hne : ([c] == s.toList) = false := by
      rw [beq_eq_false_iff_ne]
      intro e
      apply hs
      rw [ByteArray.toList_eq] at e
      apply ByteArray.ext
      exact (Array.toList_inj.1 (show s.data.toList = (#[c] : Array UInt8).toList from e.symm))
    go_enter Tryd.func93, Tryd.ntmps93
    go_wp2_with (go_at_call 105; refine (slIndexByte_any _ c _).mono ?_; rintro e w' ⟨rfl, rfl⟩)
    go_ret
    exact ⟨rfl, rfl⟩

set_option maxHeartbeats 400000 in
theorem strIndex_any (s : ByteArray) (c : UInt8) (w : World) :
    Calls Tryd.prog 117 #[.string s, .string ⟨#[c]⟩] w fun e w' => e = .returned (.int .i64 (Lib.indexByte s.data.toList c)) ∧ w' = w := by
  go_enter Tryd.func117, Tryd.ntmps117
  go_wp2_with (go_at_call 93; refine (slIndex_any _ c _).mono ?_; rintro e w' ⟨rfl, rfl⟩)
  go_ret
  exact ⟨rfl, rfl⟩

theorem cut_data (s : ByteArray) {a b : List UInt8} {c : UInt8} (h : s.data.toList = a ++ c :: b) : s.extract 0 a.length = ⟨a.toArray⟩ ∧ s.extract (a.length + 1) s.size = ⟨b.toArray⟩ ∧ s.size = a.length + 1 + b.length := by
  have hl := len_data s
  rw [h] at hl
  simp at hl
  refine ⟨?_, ?_, by omega⟩
  · rw [ext_list, h]; simp
  · rw [ext_list, h, List.drop_append, List.drop_eq_nil_of_le (by omega), ← hl]
    have e : a.length + 1 - a.length = 1 := by omega
    have e2 : a.length + (b.length + 1) - (a.length + 1) = b.length := by omega
    rw [e, e2]; simp

set_option maxHeartbeats 1000000 in
theorem slCut_any (s : ByteArray) (c : UInt8) (w : World) (hs : s.size ≤ 9223372036854775807) :
    Calls Tryd.prog 78 #[.string s, .string ⟨#[c]⟩] w fun e w' => e = .returned (.tuple #[.string ⟨(cutL c s.data.toList).1.toArray⟩, .string ⟨(cutL c s.data.toList).2.1.toArray⟩, .bool (cutL c s.data.toList).2.2]) ∧ ∃ q, w' = w.drewN q := by
  have h0 : (ByteArray.mk #[c]).size = 1 := rfl
  rcases idx_cases s.data.toList c with ⟨h1, h2⟩ | ⟨a, b, h1, h2, h3⟩
  · have hv : Hid (cutL c s.data.toList = (s.data.toList, [], false)) := cutL_miss h1
    clear h1
    go_enter Tryd.func78, Tryd.ntmps78
    go_wp2_with (go_at_call 93; refine (slIndex_any _ c _).mono ?_; rintro e w' ⟨rfl, rfl⟩; rw [h2])
    go_ret3
    exact ⟨ret_cut hv.out, 0, rfl⟩
  · obtain ⟨e1, e2, e3⟩ := cut_data s h1
    have hv : Hid (cutL c s.data.toList = (a, b, true)) := show _ = _ by rw [h1]; exact cutL_hit h2
    have E1 : Hid _ := e1
    rw [e3] at e2
    have E2 : Hid _ := e2
    clear e1 e2 h1 h2
    have hk : a.length < s.size := by omega
    have hwr : IntKind.i64.wrap ((a.length : Int) + 1) = ((a.length + 1 : Nat) : Int) := by
      simp [IntKind.wrap, IntKind.bits, IntKind.signed]; omega
    go_enter Tryd.func78, Tryd.ntmps78
    go_wp2_with (go_at_call 93; refine (slIndex_any _ c _).mono ?_; rintro e w' ⟨rfl, rfl⟩; rw [h3])
    go_quiet (fail)
    go_wp2
    go_ret3
    exact ⟨ret_cut (by rw [hv.out, E1.out, E2.out]), nq, rfl⟩

set_option maxHeartbeats 400000 in
theorem strCut_any (s : ByteArray) (c : UInt8) (w : World) (hs : s.size ≤ 9223372036854775807) :
    Calls Tryd.prog 58 #[.string s, .string ⟨#[c]⟩] w fun e w' => e = .returned (.tuple #[.string ⟨(cutL c s.data.toList).1.toArray⟩, .string ⟨(cutL c s.data.toList).2.1.toArray⟩, .bool (cutL c s.data.toList).2.2]) ∧ ∃ q, w' = w.drewN q := by
  go_enter Tryd.func58, Tryd.ntmps58
  go_wp2_with (go_at_call 78; refine (slCut_any _ c _ hs).mono ?_; rintro e w' ⟨rfl, q, rfl⟩)
  go_ret3
  exact ⟨rfl, q, rfl⟩

set_option maxHeartbeats 400000 in
theorem strCount_any (s : ByteArray) (c : UInt8) (w : World) :
    Calls Tryd.prog 116 #[.string s, .string ⟨#[c]⟩] w fun e w' => e = .returned (.int .i64 (Lib.countByte s.data.toList c)) ∧ w' = w := by
  have h0 : (ByteArray.mk #[c]).size = 1 := rfl
  go_enter Tryd.func116, Tryd.ntmps116
  go_wp2
  rw [run_callFunc_extern Tryd.func120 (by kernel_rfl) (by kernel_rfl) (by kernel_rfl) (e := Extern.BytealgCount.count) (by kernel_rfl), Lib.run_countString]
  simp only [Result.andThen]
  rw [Oper.upon_value]
  go_wp2
  go_ret
  exact ⟨rfl, rfl⟩

def startsB (c : UInt8) (l : List UInt8) : Bool := l.getD 0 0 == c
def endsB (c : UInt8) (l : List UInt8) : Bool := l.getD (l.length - 1) 0 == c
set_option maxHeartbeats 400000 in
theorem slPrefix_any (s : ByteArray) (c : UInt8) (w : World) (h0c : (0 == c) = false) :
    Calls Tryd.prog 99 #[.string s, .string ⟨#[c]⟩] w fun e w' => e = .returned (.bool (startsB c s.data.toList)) ∧ w' = w := by
  have h0 : (ByteArray.mk #[c]).size = 1 := rfl
  by_cases hs : 1 ≤ s.size
  · have e1 : Hid ((s.extract 0 1).toList = [s.data.toList.getD 0 0]) := show _ = _ by
      rw [ByteArray.toList_eq, ext_list]
      have hl := len_data s
      cases hd : s.data.toList with
      | nil => rw [hd] at hl; simp at hl; omega
      | cons x l => simp
    go_enter Tryd.func99, Tryd.ntmps99
    go_wp2
    go_ret
    refine ⟨ret_bool ?_, rfl⟩
    rw [e1.out, startsB]
    simp
  · have hl : Hid (startsB c s.data.toList = false) := show _ = _ by
      rw [List.eq_nil_of_length_eq_zero (l := s.data.toList) (by rw [len_data]; omega)]; exact h0c
    go_enter Tryd.func99, Tryd.ntmps99
    go_wp2
    go_ret
    exact ⟨ret_bool hl.out.symm, rfl⟩
set_option maxHeartbeats 400000 in
theorem strPrefix_any (s : ByteArray) (c : UInt8) (w : World) (h0c : (0 == c) = false) :
    Calls Tryd.prog 84 #[.string s, .string ⟨#[c]⟩] w fun e w' => e = .returned (.bool (startsB c s.data.toList)) ∧ w' = w := by
  go_enter Tryd.func84, Tryd.ntmps84
  go_wp2_with (go_at_call 99; refine (slPrefix_any _ c _ h0c).mono ?_; rintro e w' ⟨rfl, rfl⟩)
  go_ret
  exact ⟨rfl, rfl⟩
set_option maxHeartbeats 400000 in
theorem slSuffix_any (s : ByteArray) (c : UInt8) (w : World) (h0c : (0 == c) = false) (hs : s.size ≤ 9223372036854775807) :
    Calls Tryd.prog 114 #[.string s, .string ⟨#[c]⟩] w fun e w' => e = .returned (.bool (endsB c s.data.toList)) ∧ w' = w := by
  have h0 : (ByteArray.mk #[c]).size = 1 := rfl
  by_cases hs : 1 ≤ s.size
  · have e1 : Hid ((s.extract (s.size - 1) s.size).toList = [s.data.toList.getD (s.size - 1) 0]) := show _ = _ by
      rw [ByteArray.toList_eq, ext_list]
      have hl := len_data s
      have e : s.size - (s.size - 1) = 1 := by omega
      rw [e, List.drop_eq_getElem_cons (by omega), List.getD_eq_getElem?_getD, List.getElem?_eq_getElem (by omega)]
      simp
    have hwr : IntKind.i64.wrap ((s.size : Int) - 1) = ((s.size - 1 : Nat) : Int) := by
      simp [IntKind.wrap, IntKind.bits, IntKind.signed]; omega
    go_enter Tryd.func114, Tryd.ntmps114
    go_wp2
    go_ret
    refine ⟨ret_bool ?_, rfl⟩
    rw [e1.out, endsB, len_data]
    simp
  · have hl : Hid (endsB c s.data.toList = false) := show _ = _ by
      rw [List.eq_nil_of_length_eq_zero (l := s.data.toList) (by rw [len_data]; omega)]; exact h0c
    go_enter Tryd.func114, Tryd.ntmps114
    go_wp2
    go_ret
    exact ⟨ret_bool hl.out.symm, rfl⟩
set_option maxHeartbeats 400000 in
theorem strSuffix_any (s : ByteArray) (c : UInt8) (w : World) (h0c : (0 == c) = false) (hs : s.size ≤ 9223372036854775807) :
    Calls Tryd.prog 112 #[.string s, .string ⟨#[c]⟩] w fun e w' => e = .returned (.bool (endsB c s.data.toList)) ∧ w' = w := by
  go_enter Tryd.func112, Tryd.ntmps112
  go_wp2_with (go_at_call 114; refine (slSuffix_any _ c _ h0c hs).mono ?_; rintro e w' ⟨rfl, rfl⟩)
  go_ret
  exact ⟨rfl, rfl⟩

end Go.Proofs.YtjbfdbccidhdfaaDoor

/-
  The contract of the document's own Texts, of two equal lists.
-/
namespace Go.Proofs.YtjbfdbccidhdfaaDoor
open Go.RowKit Sc
set_option linter.unusedVariables false
set_option maxRecDepth 20000

theorem own_strs {w : World} {B e : Nat} {v : Value} {ps : List (List UInt8)} (h : Own w B e v (strs ps)) (hne : ps ≠ []) :
    ∃ g cap, v = .slice (some ⟨g, 0, none⟩) ps.length cap ∧ ∀ j (hj : j < ps.length), w.cell? ⟨g, j, none⟩ = some (.string ⟨(ps[j]).toArray⟩) := by
  rcases h.2 with ⟨rfl, hn⟩ | ⟨g, cap, cur, rfl, hb, hg, _⟩
  · rw [strs_length] at hn
    exact absurd (List.eq_nil_of_length_eq_zero hn) hne
  · refine ⟨g, cap, by rw [strs_length], fun j hj => ?_⟩
    have := World.ownsRow.cells h (g := g) rfl j (.string ⟨(ps[j]).toArray⟩) (by simp [strs, hj])
    unfold Addr.add at this
    by_cases h0 : j = 0
    · subst h0; simpa using this
    · simpa [h0] using this

end Go.Proofs.YtjbfdbccidhdfaaDoor
