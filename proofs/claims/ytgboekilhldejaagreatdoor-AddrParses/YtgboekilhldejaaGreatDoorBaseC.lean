/-
  Base texts, one behind another: StrLib, StrSplit, RefTexts, RefHost, UHost, UWhere, OpenUri, RefList, UCheck, RefDig, RefWhere, RefCheck, UMay.
-/
import Derived.Test.YtgboekilhldejaaGreatDoorBaseB
import Derived.Test.YtgboekilhldejaaGreatDoorBaseA
import Derived.Lib.Bytealg
import Derived.Lib.CountLaws
import Derived.Laws.Entries
import Derived.Deep.QuietTactic
import Derived.BigQuiet
import Derived.Deep.Slices
import Derived.ChangeArms
import Derived.Deep.RegionLaw
import Derived.Maps.OwnOps
import Derived.Maps.OwnSet

/-
  Contracts of strings.HasPrefix, HasSuffix, Index, IndexByte, Cut, Count and Split, at a sign of one byte.
-/
namespace Go.Proofs.YtgboekilhldejaaGreatDoor
open Go.RowKit Sc
set_option linter.unusedVariables false
set_option maxRecDepth 20000

theorem idx_cases (l : List UInt8) (c : UInt8) : (c ∉ l ∧ Lib.indexByte l c = -1) ∨ ∃ a b, l = a ++ c :: b ∧ c ∉ a ∧ Lib.indexByte l c = (a.length : Int) := by
  induction l with
  | nil => exact .inl ⟨by simp, rfl⟩
  | cons x l ih =>
    by_cases h : x = c
    · subst h; exact .inr ⟨[], l, rfl, by simp, by simp [Lib.indexByte]⟩
    · have hb : (x == c) = false := by simpa using h
      rcases ih with ⟨h1, h2⟩ | ⟨a, b, h1, h2, h3⟩
      · exact .inl ⟨by rw [List.mem_cons, not_or]; exact ⟨fun e => h e.symm, h1⟩, by simp [Lib.indexByte, hb, h2]⟩
      · refine .inr ⟨x :: a, b, by rw [h1]; rfl, by rw [List.mem_cons, not_or]; exact ⟨fun e => h e.symm, h2⟩, ?_⟩
        rw [Lib.indexByte, hb, h3]
        have : ((a.length : Int) == -1) = false := by rw [beq_eq_false_iff_ne]; omega
        simp [this]

set_option maxHeartbeats 400000 in
theorem slIndexByte_any (s : ByteArray) (c : UInt8) (w : World) :
    Calls Tryz.prog 126 #[.string s, .int .u8 c.toNat] w fun e w' => e = .returned (.int .i64 (Lib.indexByte s.data.toList c)) ∧ w' = w := by
  have hc : (c.toNat : Int).toNat.toUInt8 = c := by simp
  go_enter Tryz.func126, Tryz.ntmps126
  go_wp2
  rw [run_callFunc_extern Tryz.func141 (by kernel_rfl) (by kernel_rfl) (by kernel_rfl) (e := Extern.BytealgIndexByte.indexByte) (by kernel_rfl), Lib.run_indexByteString, hc]
  simp only [Result.andThen]
  rw [Oper.upon_value]
  go_wp2
  go_ret
  exact ⟨rfl, rfl⟩

set_option maxHeartbeats 400000 in
theorem strIndexByte_any (s : ByteArray) (c : UInt8) (w : World) :
    Calls Tryz.prog 121 #[.string s, .int .u8 c.toNat] w fun e w' => e = .returned (.int .i64 (Lib.indexByte s.data.toList c)) ∧ w' = w := by
  go_enter Tryz.func121, Tryz.ntmps121
  go_wp2_with (go_at_call 126; refine (slIndexByte_any _ _ _).mono ?_; rintro e w' ⟨rfl, rfl⟩)
  go_ret
  exact ⟨rfl, rfl⟩

set_option maxHeartbeats 1000000 in
theorem slIndex_any (s : ByteArray) (c : UInt8) (w : World) :
    Calls Tryz.prog 115 #[.string s, .string ⟨#[c]⟩] w fun e w' => e = .returned (.int .i64 (Lib.indexByte s.data.toList c)) ∧ w' = w := by
  have h0 : (ByteArray.mk #[c]).size = 1 := rfl
  by_cases hs : s = ⟨#[c]⟩
  · subst hs
    have hv : Hid (Lib.indexByte (ByteArray.mk #[c]).data.toList c = 0) := show _ = _ by simp [Lib.indexByte]
    go_enter Tryz.func115, Tryz.ntmps115
    go_wp2
    go_ret
    exact ⟨ret_int hv.out.symm, rfl⟩
  · have hne : ([c] == s.toList) = false := by
      rw [beq_eq_false_iff_ne]
      intro e
      apply hs
      rw [ByteArray.toList_eq] at e
      apply ByteArray.ext
      exact (Array.toList_inj.1 (show s.data.toList = (#[c] : Array UInt8).toList from e.symm))
    go_enter Tryz.func115, Tryz.ntmps115
    go_wp2_with (go_at_call 126; refine (slIndexByte_any _ c _).mono ?_; rintro e w' ⟨rfl, rfl⟩)
    go_ret
    exact ⟨rfl, rfl⟩

set_option maxHeartbeats 400000 in
theorem strIndex_any (s : ByteArray) (c : UInt8) (w : World) :
    Calls Tryz.prog 133 #[.string s, .string ⟨#[c]⟩] w fun e w' => e = .returned (.int .i64 (Lib.indexByte s.data.toList c)) ∧ w' = w := by
  go_enter Tryz.func133, Tryz.ntmps133
  go_wp2_with (go_at_call 115; refine (slIndex_any _ c _).mono ?_; rintro e w' ⟨rfl, rfl⟩)
  go_ret
  exact ⟨rfl, rfl⟩

theorem cut_data (s : ByteArray) {a b : List UInt8} {c : UInt8} (h : s.data.toList = a ++ c :: b) : s.extract 0 a.length = ⟨a.toArray⟩ ∧ s.extract (a.length + 1) s.size = ⟨b.toArray⟩ ∧ s.size = a.length + 1 + b.length := by
  have hl := len_data s
  rw [h] at hl
  simp at hl
  refine ⟨?_, ?_, by omega⟩
  · rw [ext_list, h]; simp
  · rw [ext_list, h, List.drop_append, List.drop_eq_nil_of_le (by omega), ← hl]
    have e : a.length + 1 - a.length = 1 := by omega
    have e2 : a.length + (b.length + 1) - (a.length + 1) = b.length := by omega
    rw [e, e2]; simp

set_option maxHeartbeats 1000000 in
theorem slCut_any (s : ByteArray) (c : UInt8) (w : World) (hs : s.size ≤ 9223372036854775807) :
    Calls Tryz.prog 94 #[.string s, .string ⟨#[c]⟩] w fun e w' => e = .returned (.tuple #[.string ⟨(cutL c s.data.toList).1.toArray⟩, .string ⟨(cutL c s.data.toList).2.1.toArray⟩, .bool (cutL c s.data.toList).2.2]) ∧ ∃ q, w' = w.drewN q := by
  have h0 : (ByteArray.mk #[c]).size = 1 := rfl
  rcases idx_cases s.data.toList c with ⟨h1, h2⟩ | ⟨a, b, h1, h2, h3⟩
  · have hv : Hid (cutL c s.data.toList = (s.data.toList, [], false)) := cutL_miss h1
    clear h1
    go_enter Tryz.func94, Tryz.ntmps94
    go_wp2_with (go_at_call 115; refine (slIndex_any _ c _).mono ?_; rintro e w' ⟨rfl, rfl⟩; rw [h2])
    go_ret3
    exact ⟨ret_cut hv.out, 0, rfl⟩
  · obtain ⟨e1, e2, e3⟩ := cut_data s h1
    have hv : Hid (cutL c s.data.toList = (a, b, true)) := show _ = _ by rw [h1]; exact cutL_hit h2
    have E1 : Hid _ := e1
    rw [e3] at e2
    have E2 : Hid _ := e2
    clear e1 e2 h1 h2
    have hk : a.length < s.size := by omega
    have hwr : IntKind.i64.wrap ((a.length : Int) + 1) = ((a.length + 1 : Nat) : Int) := by
      simp [IntKind.wrap, IntKind.bits, IntKind.signed]; omega
    go_enter Tryz.func94, Tryz.ntmps94
    go_wp2_with (go_at_call 115; refine (slIndex_any _ c _).mono ?_; rintro e w' ⟨rfl, rfl⟩; rw [h3])
    go_quiet (fail)
    go_wp2
    go_ret3
    exact ⟨ret_cut (by rw [hv.out, E1.out, E2.out]), nq, rfl⟩

set_option maxHeartbeats 400000 in
theorem strCut_any (s : ByteArray) (c : UInt8) (w : World) (hs : s.size ≤ 9223372036854775807) :
    Calls Tryz.prog 53 #[.string s, .string ⟨#[c]⟩] w fun e w' => e = .returned (.tuple #[.string ⟨(cutL c s.data.toList).1.toArray⟩, .string ⟨(cutL c s.data.toList).2.1.toArray⟩, .bool (cutL c s.data.toList).2.2]) ∧ ∃ q, w' = w.drewN q := by
  go_enter Tryz.func53, Tryz.ntmps53
  go_wp2_with (go_at_call 94; refine (slCut_any _ c _ hs).mono ?_; rintro e w' ⟨rfl, q, rfl⟩)
  go_ret3
  exact ⟨rfl, q, rfl⟩

set_option maxHeartbeats 400000 in
theorem strCount_any (s : ByteArray) (c : UInt8) (w : World) :
    Calls Tryz.prog 132 #[.string s, .string ⟨#[c]⟩] w fun e w' => e = .returned (.int .i64 (Lib.countByte s.data.toList c)) ∧ w' = w := by
  have h0 : (ByteArray.mk #[c]).size = 1 := rfl
  go_enter Tryz.func132, Tryz.ntmps132
  go_wp2
  rw [run_callFunc_extern Tryz.func145 (by kernel_rfl) (by kernel_rfl) (by kernel_rfl) (e := Extern.BytealgCount.count) (by kernel_rfl), Lib.run_countString]
  simp only [Result.andThen]
  rw [Oper.upon_value]
  go_wp2
  go_ret
  exact ⟨rfl, rfl⟩

def startsB (c : UInt8) (l : List UInt8) : Bool := l.getD 0 0 == c
def endsB (c : UInt8) (l : List UInt8) : Bool := l.getD (l.length - 1) 0 == c
set_option maxHeartbeats 400000 in
theorem slPrefix_any (s : ByteArray) (c : UInt8) (w : World) (h0c : (0 == c) = false) :
    Calls Tryz.prog 95 #[.string s, .string ⟨#[c]⟩] w fun e w' => e = .returned (.bool (startsB c s.data.toList)) ∧ w' = w := by
  have h0 : (ByteArray.mk #[c]).size = 1 := rfl
  by_cases hs : 1 ≤ s.size
  · have e1 : Hid ((s.extract 0 1).toList = [s.data.toList.getD 0 0]) := show _ = _ by
      rw [ByteArray.toList_eq, ext_list]
      have hl := len_data s
      cases hd : s.data.toList with
      | nil => rw [hd] at hl; simp at hl; omega
      | cons x l => simp
    go_enter Tryz.func95, Tryz.ntmps95
    go_wp2
    go_ret
    refine ⟨ret_bool ?_, rfl⟩
    rw [e1.out, startsB]
    simp
  · have hl : Hid (startsB c s.data.toList = false) := show _ = _ by
      rw [List.eq_nil_of_length_eq_zero (l := s.data.toList) (by rw [len_data]; omega)]; exact h0c
    go_enter Tryz.func95, Tryz.ntmps95
    go_wp2
    go_ret
    exact ⟨ret_bool hl.out.symm, rfl⟩
set_option maxHeartbeats 400000 in
theorem strPrefix_any (s : ByteArray) (c : UInt8) (w : World) (h0c : (0 == c) = false) :
    Calls Tryz.prog 54 #[.string s, .string ⟨#[c]⟩] w fun e w' => e = .returned (.bool (startsB c s.data.toList)) ∧ w' = w := by
  go_enter Tryz.func54, Tryz.ntmps54
  go_wp2_with (go_at_call 95; refine (slPrefix_any _ c _ h0c).mono ?_; rintro e w' ⟨rfl, rfl⟩)
  go_ret
  exact ⟨rfl, rfl⟩
set_option maxHeartbeats 400000 in
theorem slSuffix_any (s : ByteArray) (c : UInt8) (w : World) (h0c : (0 == c) = false) (hs : s.size ≤ 9223372036854775807) :
    Calls Tryz.prog 130 #[.string s, .string ⟨#[c]⟩] w fun e w' => e = .returned (.bool (endsB c s.data.toList)) ∧ w' = w := by
  have h0 : (ByteArray.mk #[c]).size = 1 := rfl
  by_cases hs : 1 ≤ s.size
  · have e1 : Hid ((s.extract (s.size - 1) s.size).toList = [s.data.toList.getD (s.size - 1) 0]) := show _ = _ by
      rw [ByteArray.toList_eq, ext_list]
      have hl := len_data s
      have e : s.size - (s.size - 1) = 1 := by omega
      rw [e, List.drop_eq_getElem_cons (by omega), List.getD_eq_getElem?_getD, List.getElem?_eq_getElem (by omega)]
      simp
    have hwr : IntKind.i64.wrap ((s.size : Int) - 1) = ((s.size - 1 : Nat) : Int) := by
      simp [IntKind.wrap, IntKind.bits, IntKind.signed]; omega
    go_enter Tryz.func130, Tryz.ntmps130
    go_wp2
    go_ret
    refine ⟨ret_bool ?_, rfl⟩
    rw [e1.out, endsB, len_data]
    simp
  · have hl : Hid (endsB c s.data.toList = false) := show _ = _ by
      rw [List.eq_nil_of_length_eq_zero (l := s.data.toList) (by rw [len_data]; omega)]; exact h0c
    go_enter Tryz.func130, Tryz.ntmps130
    go_wp2
    go_ret
    exact ⟨ret_bool hl.out.symm, rfl⟩
set_option maxHeartbeats 400000 in
theorem strSuffix_any (s : ByteArray) (c : UInt8) (w : World) (h0c : (0 == c) = false) (hs : s.size ≤ 9223372036854775807) :
    Calls Tryz.prog 116 #[.string s, .string ⟨#[c]⟩] w fun e w' => e = .returned (.bool (endsB c s.data.toList)) ∧ w' = w := by
  go_enter Tryz.func116, Tryz.ntmps116
  go_wp2_with (go_at_call 130; refine (slSuffix_any _ c _ h0c hs).mono ?_; rintro e w' ⟨rfl, rfl⟩)
  go_ret
  exact ⟨rfl, rfl⟩

end Go.Proofs.YtgboekilhldejaaGreatDoor

/-
  The contract of strings.Split, at a sign of one byte.
-/
namespace Go.Proofs.YtgboekilhldejaaGreatDoor
open Go.RowKit Sc
set_option linter.unusedVariables false
set_option maxRecDepth 20000

theorem splitL_count (c : UInt8) (l : List UInt8) : (splitL c l).length = Lib.countByte l c + 1 := by
  unfold Lib.countByte
  induction l with
  | nil => rfl
  | cons x l ih =>
    obtain ⟨p, ps, hp⟩ := splitL_cons c l
    rw [splitL]
    rw [hp] at ih ⊢
    by_cases h : x = c
    · rw [if_pos h, h, List.count_cons_self]; simp at ih ⊢; omega
    · rw [if_neg h, List.count_cons_of_ne h]; simpa using ih
/-- Texts written from the head on over n empty ones. -/
def filledS (ps : List (List UInt8)) (n : Nat) : List Value := strs ps ++ List.replicate (n - ps.length) (.string .empty)
theorem filledS_len (ps : List (List UInt8)) (n : Nat) (h : ps.length ≤ n) : (filledS ps n).length = n := by simp [filledS, strs]; omega
theorem filledS_full (ps : List (List UInt8)) (n : Nat) (h : ps.length = n) : filledS ps n = strs ps := by simp [filledS, h]
theorem filledS_set (ps : List (List UInt8)) (n : Nat) (p : List UInt8) (h : ps.length < n) : (filledS ps n).set ps.length (.string ⟨p.toArray⟩) = filledS (ps ++ [p]) n := by
  have e : n - ps.length = (n - (ps.length + 1)) + 1 := by omega
  have hl : (strs ps).length = ps.length := strs_length ps
  unfold filledS
  rw [List.set_append_right _ _ (by omega), hl, Nat.sub_self, e, List.replicate_succ, List.set_cons_zero, strs_append, List.append_assoc, List.length_append]
  rfl
theorem made_rowS (w : World) (e : TypeId) (n : Nat) : RowIs (w.alloc (.cells (madeCells #[.string .empty] n) e)) w.heap.size e (filledS [] n) := by
  unfold RowIs
  rw [heap_alloc_new]
  have : madeCells #[.string .empty] n = (filledS [] n).toArray := by
    apply Array.ext
    · simp [size_madeCells, filledS, strs]
    · intro i h1 h2
      simp [madeCells, filledS, strs, Nat.mod_one]
  rw [this]

set_option maxHeartbeats 1000000 in
theorem genSplit_any (l0 : List UInt8) (c : UInt8) (w : World) (hs : l0.length ≤ 1048576) :
    Calls Tryz.prog 117 #[.string ⟨l0.toArray⟩, .string ⟨#[c]⟩, .int .i64 0, .int .i64 (-1)] w fun e w' => ∃ v, e = .returned v ∧ Own w' w.heap.size 9 v (strs (splitL c l0)) ∧ Below w.heap.size w w' := by
  obtain ⟨i0, hi, hz0, hz1, hz2⟩ := info_parts info9
  have h0 : (ByteArray.mk #[c]).size = 1 := rfl
  have hz : (⟨l0.toArray⟩ : ByteArray).size = l0.length := size_list l0
  obtain ⟨N, hN⟩ : ∃ N, N = (splitL c l0).length := ⟨_, rfl⟩
  have hN1 : N ≤ l0.length + 1 := by rw [hN]; exact splitL_len c l0
  have hcn : (Lib.countByte l0 c : Int) = (N : Int) - 1 := by rw [hN, splitL_count]; omega
  have hN0 : 1 ≤ N := by rw [hN, splitL_count]; omega
  have hmk : ∀ u : World, (Instr.makeSlice 22 (.int .i64 (N : Int)) (.int .i64 (N : Int))).run Tryz.prog u =
      .ok (.slice (some ⟨u.heap.size, 0, none⟩) N N) (u.alloc (.cells (madeCells #[.string .empty] N) 9)) := fun u => by
    have h := run_make (P := Tryz.prog) u 22 9 i0 (.string .empty) Tryz.underlying22 hi hz0 .i64 .i64 (N : Int) (N : Int) (by omega) (Int.le_refl _) (by rw [hz2]; omega) (by omega)
    simpa [hz1, Value.cells] using h
  have hr0 : Hid (RowIs (w.alloc (.cells (madeCells #[.string .empty] N) 9)) w.heap.size 9 (filledS [] N)) := made_rowS w _ _
  have hw1 : IntKind.i64.wrap ((N : Int) - 1 + 1) = (N : Int) := by
    simp [IntKind.wrap, IntKind.bits, IntKind.signed]; omega
  have hNs : Hid _ := hN
  clear hN
  go_enter Tryz.func117, Tryz.ntmps117
  go_wp2_with (go_at_call 132; refine (strCount_any _ c _).mono ?_; rintro e w' ⟨rfl, rfl⟩; rw [hcn])
  clear hmk
  go_loopw [0, 10] (fun x i wr => ∃ (r : List UInt8) (ps : List (List UInt8)), x = .string ⟨r.toArray⟩ ∧ i = .int .i64 ps.length ∧ Hid (splitL c l0 = ps ++ splitL c r) ∧ r.length ≤ l0.length ∧ Hid (RowIs wr w'.heap.size 9 (filledS ps N)) ∧ Below w'.heap.size w' wr) (fun _ i _ => N - (intOf i).toNat)
  case atStart => exact ⟨l0, [], rfl, rfl, show _ = _ from rfl, Nat.le_refl _, hr0, (Below.refl _ _).alloc (Nat.le_refl _) _⟩
  case round =>
    clear hr0 hcn hw1 hz
    obtain ⟨r, ps, rfl, rfl, hsp, hrl, hr, hb⟩ := hrel
    have hz : (⟨r.toArray⟩ : ByteArray).size = r.length := size_list r
    have hln : N = ps.length + (splitL c r).length := by rw [hNs.out, hsp.out, List.length_append]
    have hln1 : 1 ≤ (splitL c r).length := by rw [splitL_count]; omega
    have hf := hr.out.frozen ps.length
    obtain ⟨x, hc⟩ : ∃ x, wr.cell? ⟨w'.heap.size, ps.length, none⟩ = some x := ⟨_, hr.out.cell ps.length (by rw [filledS_len _ _ (by omega)]; omega)⟩
    by_cases hlt : ps.length < N - 1
    · have hin : c ∈ r := by
        apply Classical.byContradiction
        intro hno
        rw [splitL_cut, cutL_miss hno] at hln
        simp at hln; omega
      rcases idx_cases r c with ⟨h1, _⟩ | ⟨a, b, h1, h2, h3⟩
      · exact absurd hin h1
      · have hd : (⟨r.toArray⟩ : ByteArray).data.toList = a ++ c :: b := h1
        obtain ⟨e1, e2, e3⟩ := cut_data ⟨r.toArray⟩ hd
        rw [hz] at e3
        have hcut : cutL c r = (a, b, true) := by rw [h1]; exact cutL_hit h2
        have hsp2 : Hid (splitL c l0 = (ps ++ [a]) ++ splitL c b) := show _ = _ by
          have := splitL_next hsp.out (by rw [hcut]); rw [hcut] at this; exact this
        have hr' : Hid (RowIs (wr.setCell ⟨w'.heap.size, ps.length, none⟩ (.string ⟨a.toArray⟩)) w'.heap.size 9 (filledS (ps ++ [a]) N)) := by
          have h := hr.out.set ps.length (.string ⟨a.toArray⟩)
          rw [filledS_set ps N a (by omega)] at h
          exact h
        have hwr : IntKind.i64.wrap ((a.length : Int) + 1) = ((a.length + 1 : Nat) : Int) := by
          simp [IntKind.wrap, IntKind.bits, IntKind.signed]; omega
        have h3' : Lib.indexByte (⟨r.toArray⟩ : ByteArray).data.toList c = (a.length : Int) := h3
        rw [hz, e3] at e2
        clear hd hcut hin h1 h2 hsp hr hln hln1
        go_wp2_with (go_at_call 133; refine (strIndex_any _ c _).mono ?_; rintro e w2 ⟨rfl, rfl⟩; rw [h3'])
        go_roundw
        case rel => exact ⟨b, ps ++ [a], by first | rfl | rw [e2], by simp, hsp2, by omega, hr', hb.setCell (Nat.le_refl _) _⟩
        case measure => simp [intOf]; omega
    · have hone : splitL c r = [r] := by
        have : (splitL c r).length = 1 := by omega
        rw [splitL_count, Lib.countByte] at this
        exact splitL_cut c r ▸ (by
          have hno : c ∉ r := List.count_eq_zero.1 (by omega)
          rw [cutL_miss hno]; rfl)
      have hr' : Hid (Own (wr.setCell ⟨w'.heap.size, ps.length, none⟩ (.string ⟨r.toArray⟩)) w'.heap.size 9 (.slice (some ⟨w'.heap.size, 0, none⟩) N N) (strs (splitL c l0))) := by
        have h := hr.out.set ps.length (.string ⟨r.toArray⟩)
        rw [filledS_set ps N r (by omega), filledS_full _ _ (by rw [List.length_append, hln, hone])] at h
        rw [hsp.out, hone]
        exact h.own _ N (Nat.le_refl _) (by rw [strs_length, List.length_append, hln, hone]) (by unfold maxLen; omega)
      have hN2 : ps.length + 1 = N := by rw [hone] at hln; simp at hln; omega
      clear hone hr hsp hln hln1
      go_wp2
      go_ret
      exact ⟨_, rfl, by first | exact hr'.out | (have := hr'.out; simpa [hN2] using this), hb.setCell (Nat.le_refl _) _⟩

set_option maxHeartbeats 400000 in
theorem strSplit_any (s : ByteArray) (c : UInt8) (w : World) (hs : s.size ≤ 1048576) :
    Calls Tryz.prog 102 #[.string s, .string ⟨#[c]⟩] w fun e w' => ∃ v, e = .returned v ∧ Own w' w.heap.size 9 v (strs (splitL c s.data.toList)) ∧ Below w.heap.size w w' := by
  have hs0 : s = ⟨s.data.toList.toArray⟩ := by apply ByteArray.ext; simp
  have hl := len_data s
  generalize s.data.toList = l0 at hs0 hl ⊢
  subst hs0
  rw [← hl] at hs
  go_enter Tryz.func102, Tryz.ntmps102
  go_wp2_with (go_at_call 117; refine (genSplit_any _ c _ hs).mono ?_; rintro e w' ⟨v, rfl, hown, hb⟩)
  go_ret
  exact ⟨_, rfl, hown, hb⟩

end Go.Proofs.YtgboekilhldejaaGreatDoor

/-
  The contract of the document's own Texts, of two equal lists.
-/
namespace Go.Proofs.YtgboekilhldejaaGreatDoor
open Go.RowKit Sc
set_option linter.unusedVariables false
set_option maxRecDepth 20000

theorem own_strs {w : World} {B e : Nat} {v : Value} {ps : List (List UInt8)} (h : Own w B e v (strs ps)) (hne : ps ≠ []) :
    ∃ g cap, v = .slice (some ⟨g, 0, none⟩) ps.length cap ∧ ∀ j (hj : j < ps.length), w.cell? ⟨g, j, none⟩ = some (.string ⟨(ps[j]).toArray⟩) := by
  rcases h.2 with ⟨rfl, hn⟩ | ⟨g, cap, cur, rfl, hb, hg, _⟩
  · rw [strs_length] at hn
    exact absurd (List.eq_nil_of_length_eq_zero hn) hne
  · refine ⟨g, cap, by rw [strs_length], fun j hj => ?_⟩
    have := World.ownsRow.cells h (g := g) rfl j (.string ⟨(ps[j]).toArray⟩) (by simp [strs, hj])
    unfold Addr.add at this
    by_cases h0 : j = 0
    · subst h0; simpa using this
    · simpa [h0] using this

end Go.Proofs.YtgboekilhldejaaGreatDoor

/-
  Contracts of the document's own Scheme and Host.
-/
namespace Go.Proofs.YtgboekilhldejaaGreatDoor
open Go.RowKit Sc
set_option linter.unusedVariables false
set_option maxRecDepth 20000

set_option maxHeartbeats 400000 in
theorem refscheme_any (s : ByteArray) (w : World) :
    Calls Tryz.prog 76 #[.string s] w fun e w' => e = .returned (.bool (schemeB s.data.toList)) ∧ w' = w := by
  have hb : schemeB s.data.toList = (s.toList == [115, 105, 112] || (s.toList == [115, 105, 112, 115] || s.toList == [112, 114, 101, 115])) := by rw [ByteArray.toList_eq]; rfl
  have HB : Hid _ := hb; clear hb
  cases h1 : (s.toList == [115, 105, 112]) <;> cases h2 : (s.toList == [115, 105, 112, 115]) <;> cases h3 : (s.toList == [112, 114, 101, 115])
  all_goals (
    rw [h1, h2, h3] at HB
    go_enter Tryz.func76, Tryz.ntmps76
    go_wp2
    go_ret
    exact ⟨ret_bool HB.out.symm, rfl⟩)

theorem lab_empty {t : ByteArray} (h : t.size = 0) : labB t.data.toList = false := by
  unfold labB; rw [len_data]; simp [h]
theorem lab_cls {t : ByteArray} (h : allB 64 t.data.toList = false) : labB t.data.toList = false := by
  unfold labB; simp [h]
theorem lab_first {t : ByteArray} (hp : 0 < t.size) (h : t[0] = 45) : labB t.data.toList = false := by
  unfold labB; rw [getD_s t 0 hp, h]; simp
theorem lab_last {t : ByteArray} (hp : t.size - 1 < t.size) (h : t[t.size - 1] = 45) : labB t.data.toList = false := by
  unfold labB; rw [len_data, getD_s t _ hp, h]; simp
theorem lab_fine {t : ByteArray} (hp : 0 < t.size) (ha : allB 64 t.data.toList = true) (h : ¬ t[0] = 45) (hq : t.size - 1 < t.size) (h2 : ¬ t[t.size - 1] = 45) : labB t.data.toList = true := by
  unfold labB
  rw [len_data, getD_s t 0 hp, getD_s t _ hq, ha]
  simp [h, h2]; omega

def labAll (ps : List (List UInt8)) : Bool := ps.all labB
theorem labAll_snoc {ps : List (List UInt8)} {k : Nat} (hk : k < ps.length) (h : labAll (ps.take k) = true) (hb : labB ps[k] = true) : labAll (ps.take (k + 1)) = true := by
  unfold labAll at *
  rw [List.take_succ_eq_append_getElem hk, List.all_append, h]
  simp [hb]
theorem labAll_bad {ps : List (List UInt8)} {k : Nat} (hk : k < ps.length) (hb : labB ps[k] = false) : labAll ps = false := by
  unfold labAll
  rw [List.all_eq_false]
  exact ⟨ps[k], List.getElem_mem hk, by simp [hb]⟩

set_option maxHeartbeats 2000000 in
set_option maxRecDepth 100000 in
theorem refhost_any (s : ByteArray) (w : World) (hs : s.size ≤ 140737488355328) :
    Calls Tryz.prog 62 #[.string s] w fun e w' => e = .returned (.bool (hostB s.data.toList)) ∧ Below w.heap.size w w' := by
  have hl := len_data s
  by_cases h0 : s.size = 0
  · have hv : Hid (hostB s.data.toList = false) := host_short (by omega)
    clear hl
    go_enter Tryz.func62, Tryz.ntmps62
    go_wp2
    go_ret
    exact ⟨ret_bool hv.out.symm, Below.refl _ _⟩
  have hne : ((s.size : Int) == 0) = false := by simpa using h0
  by_cases h64 : 64 < s.size
  · have hv : Hid (hostB s.data.toList = false) := host_long (by omega)
    clear hl
    go_enter Tryz.func62, Tryz.ntmps62
    go_wp2
    go_ret
    exact ⟨ret_bool hv.out.symm, Below.refl _ _⟩
  by_cases hlow : (lowL s.data.toList == s.data.toList) = true
  · have hlq : (lowL s.data.toList == s.toList) = true := by rw [ByteArray.toList_eq]; exact hlow
    have hpos : 0 < s.size := by omega
    by_cases hbr : s[0]'hpos = 91
    · have hb1 : (((s[0]'hpos).toNat : Int) == 91) = true := by rw [hbr]; rfl
      have hv : Hid (hostB s.data.toList = brkB s.data.toList) := host_brk (by omega) (by omega) hlow (by rw [getD_s s 0 (by omega)]; exact hbr)
      clear hlow hl hbr
      go_enter Tryz.func62, Tryz.ntmps62
      go_wp2_with (go_at_call 63; refine (reflower_txt _ _ hs).mono ?_; rintro e w1 ⟨rfl, hw1⟩)
      clear hlq hb1
      go_loop [3, 4] (fun x i => ∃ k n : Nat, 1 ≤ k ∧ (k + 1 ≤ s.size ∨ k = 1) ∧ n ≤ k ∧ i = .int .i64 k ∧ x = .int .i64 n ∧ Hid ((mid s.data.toList 1 k).all okc = true) ∧ Hid ((mid s.data.toList 1 k).count 58 = n)) (fun _ i => s.size - (intOf i).toNat)
      case atStart => exact ⟨1, 0, by omega, by omega, by omega, rfl, rfl, show _ = _ by simp [mid], show _ = _ by simp [mid]⟩
      case round =>
        obtain ⟨k, n, hk1, hk, hnk, rfl, rfl, hall, hcnt⟩ := hrel
        by_cases hlt : k + 1 < s.size
        · have hbd := u8_bd s[k]
          have hms := mid_snoc s 1 k hk1 (by omega)
          by_cases h58 : s[k] = 58
          · have e58 : ((s[k].toNat : Int) == 58) = true := by rw [h58]; rfl
            have ha2 : Hid ((mid s.data.toList 1 (k + 1)).all okc = true) := show _ = _ by rw [hms, List.all_append, hall.out, h58]; decide
            have hc2 : Hid ((mid s.data.toList 1 (k + 1)).count 58 = n + 1) := show _ = _ by rw [hms, List.count_append, hcnt.out, h58]; rfl
            clear hms h58 hall hcnt
            go_wp2
            go_round
            case rel => exact ⟨k + 1, n + 1, by omega, by omega, by omega, by go_num, by go_num, ha2, hc2⟩
            case measure => simp [intOf]; omega
          · have e58 : ((s[k].toNat : Int) == 58) = false := u8_ne h58
            have hc2 : Hid ((mid s.data.toList 1 (k + 1)).count 58 = n) := show _ = _ by
              rw [hms, List.count_append, hcnt.out]
              have : List.count 58 [s[k]] = 0 := List.count_eq_zero.2 (by simp; intro e; exact h58 e.symm)
              omega
            by_cases h46 : s[k] = 46
            · have e46 : ((s[k].toNat : Int) != 46) = false := by rw [h46]; rfl
              have ha2 : Hid ((mid s.data.toList 1 (k + 1)).all okc = true) := show _ = _ by rw [hms, List.all_append, hall.out, h46]; decide
              clear hms h58 h46 hall hcnt
              go_wp2
              go_round
              case rel => exact ⟨k + 1, n, by omega, by omega, by omega, by go_num, by go_num, ha2, hc2⟩
              case measure => simp [intOf]; omega
            · have e46 : ((s[k].toNat : Int) != 46) = true := by
                have := u8_ne h46
                simp only [bne, Bool.not_eq_true']; exact this
              by_cases hx : isB s[k].toNat 4 = true
              · have ha2 : Hid ((mid s.data.toList 1 (k + 1)).all okc = true) := show _ = _ by rw [hms, List.all_append, hall.out]; simp [okc, hx]
                have hx2 : (bits BinOp.and IntKind.i64 (cls s[k].toNat) 4 == 0) = false := by simpa [isB] using hx
                clear hms h58 h46 hall hcnt hx
                go_wp2_with (go_at_call 58; refine (refclass_any _ _ hbd.1 hbd.2).mono ?_; rintro e w' ⟨rfl, rfl⟩)
                go_round
                case rel => exact ⟨k + 1, n, by omega, by omega, by omega, by go_num, by go_num, ha2, hc2⟩
                case measure => simp [intOf]; omega
              · have hx2 : (bits BinOp.and IntKind.i64 (cls s[k].toNat) 4 == 0) = true := by simpa [isB] using hx
                have hbad : Hid (brkB s.data.toList = false) := brk_bad hk1 hlt (by
                  simp only [okc, Bool.or_eq_false_iff, beq_eq_false_iff_ne, ne_eq]
                  exact ⟨h58, h46, by simpa using hx⟩)
                clear hms h58 h46 hall hcnt hx hc2
                go_wp2_with (go_at_call 58; refine (refclass_any _ _ hbd.1 hbd.2).mono ?_; rintro e w' ⟨rfl, rfl⟩)
                go_ret
                exact ⟨ret_bool (by rw [hv.out, hbad.out]), hw1⟩
        · by_cases h4 : 4 ≤ s.size
          · have hke : k = s.size - 1 := by omega
            have hks : k < s.size := by omega
            by_cases hla : s[k] = 93
            · have ela : ((s[s.size - 1].toNat : Int) == 93) = true := by subst hke; rw [hla]; rfl
              have hend : Hid (brkB s.data.toList = decide (2 ≤ n)) := brk_end h4 hke hall.out hcnt.out (by rw [getD_s s k hks, hla])
              clear hla hall hcnt
              go_wp2
              all_goals go_ret
              all_goals exact ⟨ret_bool (by rw [hv.out, hend.out]; simp; omega), hw1⟩
            · have ela : ((s[s.size - 1].toNat : Int) == 93) = false := by subst hke; exact u8_ne hla
              have hend : Hid (brkB s.data.toList = false) := brk_last hke (by rw [getD_s s k hks]; exact hla)
              clear hla hall hcnt
              go_wp2
              all_goals go_ret
              all_goals exact ⟨ret_bool (by rw [hv.out, hend.out]), hw1⟩
          · have hend : Hid (brkB s.data.toList = false) := brk_short h4
            clear hall hcnt
            go_wp2
            all_goals go_ret
            all_goals exact ⟨ret_bool (by rw [hv.out, hend.out]), hw1⟩
    · have hb1 : (((s[0]'hpos).toNat : Int) == 91) = false := u8_ne hbr
      have hv : Hid (hostB s.data.toList = labAll (splitL 46 s.data.toList)) := host_lab (by omega) (by omega) hlow (by rw [getD_s s 0 hpos]; exact hbr)
      have hmem := splitL_mem_len 46 s.data.toList
      have hcnt := splitL_len 46 s.data.toList
      rw [hl] at hmem hcnt
      obtain ⟨p0, ps0, hp0⟩ := splitL_cons 46 s.data.toList
      have hnil : splitL 46 s.data.toList ≠ [] := by rw [hp0]; simp
      clear hlow hl hbr hp0
      have HM : Hid _ := hmem; clear hmem
      have HN : Hid _ := hnil; clear hnil
      have HC : Hid _ := hcnt; clear hcnt
      go_enter Tryz.func62, Tryz.ntmps62
      go_wp2_with (first
        | (go_at_call 63; refine (reflower_txt _ _ hs).mono ?_; rintro e w1 ⟨rfl, hw1⟩)
        | (go_at_call 91; refine (split3_any s 46 _ (by omega)).mono ?_; rintro e w2 ⟨v, rfl, hown, hw2⟩))
      clear hlq hb1
      have hw3 := hw1.trans (hw2.mono hw1.size)
      generalize splitL 46 s.data.toList = ps at hv hown HM HN HC
      have hpl := HC.out
      obtain ⟨g, cap, rfl, hcells⟩ := own_strs hown HN.out
      have HK : Hid _ := hcells; clear hcells hown HN HC hw1 hw2
      go_loop [6] (fun i => ∃ k : Nat, k ≤ ps.length ∧ i = .int .i64 k ∧ Hid (labAll (ps.take k) = true)) (fun i => ps.length - (intOf i).toNat)
      case atStart => exact ⟨0, by omega, rfl, rfl⟩
      case round =>
        obtain ⟨k, hk, rfl, hlab⟩ := hrel
        by_cases hlt : k < ps.length
        · have hc := HK.out k hlt
          have hpm := HM.out ps[k] (List.getElem_mem hlt)
          obtain ⟨t, ht⟩ : ∃ t : ByteArray, t = ⟨ps[k].toArray⟩ := ⟨_, rfl⟩
          have htl : t.data.toList = ps[k] := by rw [ht]
          rw [← ht] at hc
          rw [← htl, len_data] at hpm
          have hbad : labB t.data.toList = false → Hid (labAll ps = false) := fun h => labAll_bad hlt (by rw [← htl]; exact h)
          have hgood : labB t.data.toList = true → Hid (labAll (ps.take (k + 1)) = true) := fun h => labAll_snoc hlt hlab.out (by rw [← htl]; exact h)
          clear ht htl
          have htm : t.size ≤ maxLen := by unfold maxLen; omega
          by_cases hz : t.size = 0
          · have hE := isE_true hz
            have hb := hbad (lab_empty hz)
            clear hbad hgood hlab
            go_wp2
            go_ret
            exact ⟨ret_bool (by rw [hv.out, hb.out]), hw3⟩
          · have hp : 0 < t.size := by omega
            have hq : t.size - 1 < t.size := by omega
            have hE := isE_false hp
            by_cases ha : allB 64 t.data.toList = true
            · by_cases hf : t[0] = 45
              · have ef : ((t[0].toNat : Int) == 45) = true := by rw [hf]; rfl
                have hb := hbad (lab_first hp hf)
                clear hbad hgood hlab hf
                go_wp2_with (go_at_call 99; refine (refall_any _ _ _ htm).mono ?_; rintro e w' ⟨rfl, rfl⟩)
                go_ret
                exact ⟨ret_bool (by rw [hv.out, hb.out]), hw3⟩
              · have ef : ((t[0].toNat : Int) == 45) = false := u8_ne hf
                by_cases hg : t[t.size - 1] = 45
                · have eg : ((t[t.size - 1].toNat : Int) == 45) = true := by rw [hg]; rfl
                  have hb := hbad (lab_last hq hg)
                  clear hbad hgood hlab hf hg
                  go_wp2_with (go_at_call 99; refine (refall_any _ _ _ htm).mono ?_; rintro e w' ⟨rfl, rfl⟩)
                  go_ret
                  exact ⟨ret_bool (by rw [hv.out, hb.out]), hw3⟩
                · have eg : ((t[t.size - 1].toNat : Int) == 45) = false := u8_ne hg
                  have hb := hgood (lab_fine hp ha hf hq hg)
                  clear hbad hgood hlab hf hg
                  go_wp2_with (go_at_call 99; refine (refall_any _ _ _ htm).mono ?_; rintro e w' ⟨rfl, rfl⟩)
                  go_round
                  case rel => exact ⟨k + 1, by omega, by go_num, hb⟩
                  case measure => simp [intOf]; omega
            · have ha' : allB 64 t.data.toList = false := by simpa using ha
              have hb := hbad (lab_cls ha')
              clear hbad hgood hlab ha
              go_wp2_with (go_at_call 99; refine (refall_any _ _ _ htm).mono ?_; rintro e w' ⟨rfl, rfl⟩)
              go_ret
              exact ⟨ret_bool (by rw [hv.out, hb.out]), hw3⟩
        · have he : ps.take k = ps := List.take_of_length_le (by omega)
          have hb : Hid (labAll ps = true) := show _ = _ by rw [← hlab.out, he]
          clear hlab
          go_wp2
          go_ret
          exact ⟨ret_bool (by rw [hv.out, hb.out]), hw3⟩
  · have hlow' : (lowL s.data.toList == s.data.toList) = false := by simpa using hlow
    have hlq : (lowL s.data.toList == s.toList) = false := by rw [ByteArray.toList_eq]; exact hlow'
    have hv : Hid (hostB s.data.toList = false) := host_caps hlow'
    clear hlow hlow' hl
    go_enter Tryz.func62, Tryz.ntmps62
    go_wp2_with (go_at_call 63; refine (reflower_txt _ _ hs).mono ?_; rintro e w1 ⟨rfl, hw1⟩)
    go_ret
    exact ⟨ret_bool hv.out.symm, hw1⟩

end Go.Proofs.YtgboekilhldejaaGreatDoor

/-
  Contracts of package uri: Scheme, label, numbered, Host.
-/
namespace Go.Proofs.YtgboekilhldejaaGreatDoor
open Go.RowKit Sc
set_option linter.unusedVariables false
set_option maxRecDepth 20000

set_option maxHeartbeats 400000 in
theorem scheme_any (s : ByteArray) (w : World) :
    Calls Tryz.prog 72 #[.string s] w fun e w' => e = .returned (.bool (schemeB s.data.toList)) ∧ w' = w := by
  have hb : schemeB s.data.toList = (s.toList == [115, 105, 112] || (s.toList == [115, 105, 112, 115] || s.toList == [112, 114, 101, 115])) := by rw [ByteArray.toList_eq]; rfl
  have HB : Hid _ := hb; clear hb
  cases h1 : (s.toList == [115, 105, 112]) <;> cases h2 : (s.toList == [115, 105, 112, 115]) <;> cases h3 : (s.toList == [112, 114, 101, 115])
  all_goals (
    rw [h1, h2, h3] at HB
    go_enter Tryz.func72, Tryz.ntmps72
    go_wp2
    go_ret
    exact ⟨ret_bool HB.out.symm, rfl⟩)
theorem scheme_list (l : List UInt8) (w : World) :
    Calls Tryz.prog 72 #[.string ⟨l.toArray⟩] w fun e w' => e = .returned (.bool (schemeB l)) ∧ w' = w := scheme_any ⟨l.toArray⟩ w

theorem labB_eq (p : List UInt8) : labB p = (decide (1 ≤ p.length) && (allB 64 p && (!startsB 45 p && !endsB 45 p))) := rfl
set_option maxHeartbeats 400000 in
theorem label_any (t : ByteArray) (w : World) (ht : t.size ≤ maxLen) :
    Calls Tryz.prog 103 #[.string t] w fun e w' => e = .returned (.bool (labB t.data.toList)) ∧ w' = w := by
  have hm : t.size ≤ 9223372036854775807 := ht
  have hv := labB_eq t.data.toList
  rw [len_data] at hv
  by_cases hz : t.size = 0
  · have hE := isE_true hz
    have HV : Hid (labB t.data.toList = false) := show _ = _ by rw [hv]; simp [hz]
    clear hv
    go_enter Tryz.func103, Tryz.ntmps103
    go_wp2
    go_ret
    exact ⟨ret_bool HV.out.symm, rfl⟩
  · have hp : 0 < t.size := by omega
    have hE := isE_false hp
    have hd : decide (1 ≤ t.size) = true := decide_eq_true hp
    rw [hd, Bool.true_and] at hv
    cases ha : allB 64 t.data.toList
    · have HV : Hid (labB t.data.toList = false) := show _ = _ by rw [hv, ha]; rfl
      clear hv
      go_enter Tryz.func103, Tryz.ntmps103
      go_wp2_with (go_at_call 46; refine (all_any _ _ _ ht).mono ?_; rintro e w' ⟨rfl, rfl⟩; rw [ha])
      go_ret
      exact ⟨ret_bool HV.out.symm, rfl⟩
    · cases hf : startsB 45 t.data.toList
      · have HV : Hid (labB t.data.toList = !endsB 45 t.data.toList) := show _ = _ by rw [hv, ha, hf]; rfl
        clear hv
        go_enter Tryz.func103, Tryz.ntmps103
        go_wp2_with (first
          | (go_at_call 46; refine (all_any _ _ _ ht).mono ?_; rintro e w' ⟨rfl, rfl⟩; rw [ha])
          | (go_at_call 54; refine (strPrefix_any _ 45 _ rfl).mono ?_; rintro e w' ⟨rfl, rfl⟩; rw [hf])
          | (go_at_call 116; refine (strSuffix_any _ 45 _ rfl hm).mono ?_; rintro e w' ⟨rfl, rfl⟩))
        go_ret
        exact ⟨ret_bool HV.out.symm, rfl⟩
      · have HV : Hid (labB t.data.toList = false) := show _ = _ by rw [hv, ha, hf]; rfl
        clear hv
        go_enter Tryz.func103, Tryz.ntmps103
        go_wp2_with (first
          | (go_at_call 46; refine (all_any _ _ _ ht).mono ?_; rintro e w' ⟨rfl, rfl⟩; rw [ha])
          | (go_at_call 54; refine (strPrefix_any _ 45 _ rfl).mono ?_; rintro e w' ⟨rfl, rfl⟩; rw [hf]))
        go_ret
        exact ⟨ret_bool HV.out.symm, rfl⟩

set_option maxHeartbeats 1000000 in
theorem numbered_any (s : ByteArray) (w : World) (hs : s.size ≤ maxLen) :
    Calls Tryz.prog 101 #[.string s] w fun e w' => e = .returned (.bool (brkB s.data.toList)) ∧ w' = w := by
  have hm : s.size ≤ 9223372036854775807 := hs
  by_cases h4 : 4 ≤ s.size
  · cases he : endsB 93 s.data.toList
    · have HV : Hid (brkB s.data.toList = false) := brk_last rfl (by
        rw [endsB, len_data] at he; simpa using he)
      go_enter Tryz.func101, Tryz.ntmps101
      go_wp2_with (go_at_call 116; refine (strSuffix_any _ 93 _ rfl hm).mono ?_; rintro e w' ⟨rfl, rfl⟩; rw [he])
      go_ret
      exact ⟨ret_bool HV.out.symm, rfl⟩
    · have hla : Hid (s.data.toList.getD (s.size - 1) 0 = 93) := show _ = _ by rw [endsB, len_data] at he; simpa using he
      go_enter Tryz.func101, Tryz.ntmps101
      go_wp2_with (go_at_call 116; refine (strSuffix_any _ 93 _ rfl hm).mono ?_; rintro e w' ⟨rfl, rfl⟩; rw [he])
      go_loop [3, 4] (fun x i => ∃ k n : Nat, 1 ≤ k ∧ k + 1 ≤ s.size ∧ n ≤ k ∧ i = .int .i64 k ∧ x = .int .i64 n ∧ Hid ((mid s.data.toList 1 k).all okc = true) ∧ Hid ((mid s.data.toList 1 k).count 58 = n)) (fun _ i => s.size - (intOf i).toNat)
      case atStart => exact ⟨1, 0, by omega, by omega, by omega, rfl, rfl, show _ = _ by simp [mid], show _ = _ by simp [mid]⟩
      case round =>
        obtain ⟨k, n, hk1, hk, hnk, rfl, rfl, hall, hcnt⟩ := hrel
        by_cases hlt : k + 1 < s.size
        · have hbd := u8_bd s[k]
          have hms := mid_snoc s 1 k hk1 (by omega)
          by_cases h58 : s[k] = 58
          · have e58 : ((s[k].toNat : Int) == 58) = true := by rw [h58]; rfl
            have ha2 : Hid ((mid s.data.toList 1 (k + 1)).all okc = true) := show _ = _ by rw [hms, List.all_append, hall.out, h58]; decide
            have hc2 : Hid ((mid s.data.toList 1 (k + 1)).count 58 = n + 1) := show _ = _ by rw [hms, List.count_append, hcnt.out, h58]; rfl
            clear hms h58 hall hcnt
            go_wp2
            go_round
            case rel => exact ⟨k + 1, n + 1, by omega, by omega, by omega, by go_num, by go_num, ha2, hc2⟩
            case measure => simp [intOf]; omega
          · have e58 : ((s[k].toNat : Int) == 58) = false := u8_ne h58
            have hc2 : Hid ((mid s.data.toList 1 (k + 1)).count 58 = n) := show _ = _ by
              rw [hms, List.count_append, hcnt.out]
              have : List.count 58 [s[k]] = 0 := List.count_eq_zero.2 (by simp; intro e; exact h58 e.symm)
              omega
            by_cases h46 : s[k] = 46
            · have e46 : ((s[k].toNat : Int) != 46) = false := by rw [h46]; rfl
              have ha2 : Hid ((mid s.data.toList 1 (k + 1)).all okc = true) := show _ = _ by rw [hms, List.all_append, hall.out, h46]; decide
              clear hms h58 h46 hall hcnt
              go_wp2
              go_round
              case rel => exact ⟨k + 1, n, by omega, by omega, by omega, by go_num, by go_num, ha2, hc2⟩
              case measure => simp [intOf]; omega
            · have e46 : ((s[k].toNat : Int) != 46) = true := by
                have := u8_ne h46
                simp only [bne, Bool.not_eq_true']; exact this
              by_cases hx : isB s[k].toNat 4 = true
              · have ha2 : Hid ((mid s.data.toList 1 (k + 1)).all okc = true) := show _ = _ by rw [hms, List.all_append, hall.out]; simp [okc, hx]
                have hx2 : (bits BinOp.and IntKind.i64 (cls s[k].toNat) 4 == 0) = false := by simpa [isB] using hx
                clear hms h58 h46 hall hcnt hx
                go_wp2_with (go_at_call 108; refine (class_any _ _ hbd.1 hbd.2).mono ?_; rintro e w' ⟨rfl, rfl⟩)
                go_round
                case rel => exact ⟨k + 1, n, by omega, by omega, by omega, by go_num, by go_num, ha2, hc2⟩
                case measure => simp [intOf]; omega
              · have hx2 : (bits BinOp.and IntKind.i64 (cls s[k].toNat) 4 == 0) = true := by simpa [isB] using hx
                have hbad : Hid (brkB s.data.toList = false) := brk_bad hk1 hlt (by
                  simp only [okc, Bool.or_eq_false_iff, beq_eq_false_iff_ne, ne_eq]
                  exact ⟨h58, h46, by simpa using hx⟩)
                clear hms h58 h46 hall hcnt hx hc2
                go_wp2_with (go_at_call 108; refine (class_any _ _ hbd.1 hbd.2).mono ?_; rintro e w' ⟨rfl, rfl⟩)
                go_ret
                exact ⟨ret_bool hbad.out.symm, rfl⟩
        · have hke : k = s.size - 1 := by omega
          have hend : Hid (brkB s.data.toList = decide (2 ≤ n)) := brk_end h4 hke hall.out hcnt.out (by rw [hke]; exact hla.out)
          clear hall hcnt hla
          go_wp2
          all_goals go_ret
          all_goals exact ⟨ret_bool (by rw [hend.out]; simp; omega), rfl⟩
  · have HV : Hid (brkB s.data.toList = false) := brk_short h4
    go_enter Tryz.func101, Tryz.ntmps101
    go_wp2
    go_ret
    exact ⟨ret_bool HV.out.symm, rfl⟩

theorem host_lab0 {l : List UInt8} (h2 : l.length ≤ 64) (h : (lowL l == l) = true) (hb : startsB 91 l = false) : hostB l = labAll (splitL 46 l) := by
  have hb' : ¬ l.getD 0 0 = 91 := by simpa [startsB] using hb
  cases l with
  | nil => rfl
  | cons x l => exact host_lab (by simp) h2 h hb'
theorem host_brk0 {l : List UInt8} (h2 : l.length ≤ 64) (h : (lowL l == l) = true) (hb : startsB 91 l = true) : hostB l = brkB l := by
  have hb' : l.getD 0 0 = 91 := by simpa [startsB] using hb
  cases l with
  | nil => simp at hb'
  | cons x l => exact host_brk (by simp) h2 h hb'

set_option maxHeartbeats 2000000 in
theorem host_any (s : ByteArray) (w : World) (hs : s.size ≤ 140737488355328) :
    Calls Tryz.prog 73 #[.string s] w fun e w' => e = .returned (.bool (hostB s.data.toList)) ∧ Below w.heap.size w w' := by
  have hl := len_data s
  by_cases h64 : 64 < s.size
  · have hv : Hid (hostB s.data.toList = false) := host_long (by omega)
    clear hl
    go_enter Tryz.func73, Tryz.ntmps73
    go_wp2
    go_ret
    exact ⟨ret_bool hv.out.symm, Below.refl _ _⟩
  have hsm : s.size ≤ maxLen := by unfold maxLen; omega
  cases hlow : (s.data.toList == lowL s.data.toList)
  · have hlq : (s.toList == lowL s.data.toList) = false := by rw [ByteArray.toList_eq, hlow]
    have hv : Hid (hostB s.data.toList = false) := host_caps (by rw [← hlow]; exact Bool.beq_comm)
    clear hlow hl
    go_enter Tryz.func73, Tryz.ntmps73
    go_wp2_with (go_at_call 85; refine (lower_txt _ _ (by omega)).mono ?_; rintro e w1 ⟨rfl, hw1⟩)
    go_ret
    exact ⟨ret_bool hv.out.symm, hw1⟩
  · have hlq : (s.toList == lowL s.data.toList) = true := by rw [ByteArray.toList_eq, hlow]
    have hlow' : (lowL s.data.toList == s.data.toList) = true := by rw [← hlow]; exact Bool.beq_comm
    cases hst : startsB 91 s.data.toList
    · have hv : Hid (hostB s.data.toList = labAll (splitL 46 s.data.toList)) := host_lab0 (by omega) hlow' hst
      have hmem := splitL_mem_len 46 s.data.toList
      have hcnt := splitL_len 46 s.data.toList
      rw [hl] at hmem hcnt
      obtain ⟨p0, ps0, hp0⟩ := splitL_cons 46 s.data.toList
      have hnil : splitL 46 s.data.toList ≠ [] := by rw [hp0]; simp
      clear hlow hlow' hl hp0
      have HM : Hid _ := hmem; clear hmem
      have HN : Hid _ := hnil; clear hnil
      have HC : Hid _ := hcnt; clear hcnt
      go_enter Tryz.func73, Tryz.ntmps73
      go_wp2_with (first
        | (go_at_call 85; refine (lower_txt _ _ (by omega)).mono ?_; rintro e w1 ⟨rfl, hw1⟩)
        | (go_at_call 54; refine (strPrefix_any _ 91 _ rfl).mono ?_; rintro e w' ⟨rfl, rfl⟩; rw [hst])
        | (go_at_call 102; refine (strSplit_any s 46 _ (by omega)).mono ?_; rintro e w2 ⟨v, rfl, hown, hw2⟩; obtain ⟨g, cap, rfl, hcells⟩ := own_strs hown HN.out))
      clear hlq hst
      have hw3 := hw1.trans (hw2.mono hw1.size)
      generalize splitL 46 s.data.toList = ps at hv hcells HM HN HC
      have hpl := HC.out
      have HK : Hid _ := hcells; clear hcells hown HN HC hw1 hw2
      go_loop [21] (fun i => ∃ k : Nat, k ≤ ps.length ∧ i = .int .i64 k ∧ Hid (labAll (ps.take k) = true)) (fun i => ps.length - (intOf i).toNat)
      case atStart => exact ⟨0, by omega, rfl, rfl⟩
      case round =>
        obtain ⟨k, hk, rfl, hlab⟩ := hrel
        by_cases hlt : k < ps.length
        · have hc := HK.out k hlt
          have hpm := HM.out ps[k] (List.getElem_mem hlt)
          obtain ⟨t, ht⟩ : ∃ t : ByteArray, t = ⟨ps[k].toArray⟩ := ⟨_, rfl⟩
          have htl : t.data.toList = ps[k] := by rw [ht]
          rw [← ht] at hc
          rw [← htl, len_data] at hpm
          have htm : t.size ≤ maxLen := by unfold maxLen; omega
          cases hb : labB t.data.toList
          · have hbad : Hid (labAll ps = false) := labAll_bad hlt (by rw [← htl]; exact hb)
            clear ht htl hlab
            go_wp2_with (go_at_call 103; refine (label_any _ _ htm).mono ?_; rintro e w' ⟨rfl, rfl⟩; rw [hb])
            go_ret
            exact ⟨ret_bool (by rw [hv.out, hbad.out]), hw3⟩
          · have hgood : Hid (labAll (ps.take (k + 1)) = true) := labAll_snoc hlt hlab.out (by rw [← htl]; exact hb)
            clear ht htl hlab
            go_wp2_with (go_at_call 103; refine (label_any _ _ htm).mono ?_; rintro e w' ⟨rfl, rfl⟩; rw [hb])
            go_round
            case rel => exact ⟨k + 1, by omega, by go_num, hgood⟩
            case measure => simp [intOf]; omega
        · have he : ps.take k = ps := List.take_of_length_le (by omega)
          have hb : Hid (labAll ps = true) := show _ = _ by rw [← hlab.out, he]
          clear hlab
          go_wp2
          go_ret
          exact ⟨ret_bool (by rw [hv.out, hb.out]), hw3⟩
    · have hv : Hid (hostB s.data.toList = brkB s.data.toList) := host_brk0 (by omega) hlow' hst
      clear hlow hlow' hl
      go_enter Tryz.func73, Tryz.ntmps73
      go_wp2_with (first
        | (go_at_call 85; refine (lower_txt _ _ (by omega)).mono ?_; rintro e w1 ⟨rfl, hw1⟩)
        | (go_at_call 54; refine (strPrefix_any _ 91 _ rfl).mono ?_; rintro e w' ⟨rfl, rfl⟩; rw [hst])
        | (go_at_call 101; refine (numbered_any s _ hsm).mono ?_; rintro e w' ⟨rfl, rfl⟩))
      go_ret
      exact ⟨ret_bool hv.out.symm, hw1⟩

end Go.Proofs.YtgboekilhldejaaGreatDoor

/-
  Contracts of package uri: cutPort, Where.
-/
namespace Go.Proofs.YtgboekilhldejaaGreatDoor
open Go.RowKit Sc
set_option linter.unusedVariables false
set_option maxRecDepth 20000

/-- A text cut at its first colon outside of brackets. -/
def portCut (l : List UInt8) : List UInt8 × List UInt8 × Bool := (l.take (whereGo false l), l.drop (whereGo false l + 1), decide (whereGo false l < l.length))

set_option maxHeartbeats 1000000 in
theorem cutPort_any (s : ByteArray) (w : World) (hs : s.size ≤ maxLen) :
    Calls Tryz.prog 123 #[.string s] w fun e w' => e = .returned (.tuple #[.string ⟨(portCut s.data.toList).1.toArray⟩, .string ⟨(portCut s.data.toList).2.1.toArray⟩, .bool (portCut s.data.toList).2.2]) ∧ ∃ q, w' = w.drewN q := by
  unfold maxLen at hs
  go_enter Tryz.func123, Tryz.ntmps123
  go_wp2
  go_loop [5, 9] (fun x i => ∃ (k : Nat) (b : Bool), k ≤ s.size ∧ i = .int .i64 k ∧ x = .bool b ∧ Hid (whereGo false s.data.toList = k + whereGo b (s.data.toList.drop k))) (fun _ i => s.size - (intOf i).toNat)
  case atStart => exact ⟨0, false, by omega, rfl, rfl, show _ = _ by simp⟩
  case round =>
    obtain ⟨k, b, hk, rfl, rfl, hgo⟩ := hrel
    by_cases hlt : k < s.size
    · by_cases hst : b = false ∧ s[k] = 58
      · obtain ⟨rfl, h58⟩ := hst
        have hat : whereGo false s.data.toList = k := by
          rw [hgo.out, drop_cons s k hlt, whereGo, if_pos ⟨rfl, h58⟩]; omega
        have hv : Hid (portCut s.data.toList = (s.data.toList.take k, s.data.toList.drop (k + 1), true)) := show _ = _ by
          rw [portCut, hat, len_data, decide_eq_true hlt]
        have e1 : Hid ((s.extract 0 k).data.toList = s.data.toList.take k) := show _ = _ by rw [ext_list]; simp
        have e2 : Hid ((s.extract (k + 1) s.size).data.toList = s.data.toList.drop (k + 1)) := show _ = _ by
          rw [ext_list, List.take_of_length_le (by rw [List.length_drop, len_data]; omega)]
        have e91 : ((s[k].toNat : Int) == 91) = false := u8_ne (b := 91) (by rw [h58]; decide)
        have e93 : ((s[k].toNat : Int) == 93) = false := u8_ne (b := 93) (by rw [h58]; decide)
        have e58 : ((s[k].toNat : Int) == 58) = true := by rw [h58]; rfl
        have hwr : IntKind.i64.wrap ((k : Int) + 1) = ((k + 1 : Nat) : Int) := by
          simp [IntKind.wrap, IntKind.bits, IntKind.signed]; omega
        clear hgo hat h58
        go_wp2
        go_quiet (fail)
        go_wp2
        go_ret3
        exact ⟨ret_cut (by rw [hv.out, e1.out, e2.out]), nq, rfl⟩
      · have hgo2 : Hid (whereGo false s.data.toList = (k + 1) + whereGo (insN b s[k]) (s.data.toList.drop (k + 1))) := show _ = _ by
          rw [hgo.out, drop_cons s k hlt, whereGo, if_neg hst]; omega
        have hins : insN b s[k] = if s[k] = 93 then false else if s[k] = 91 then true else b := rfl
        by_cases h91 : s[k] = 91
        · have e91 : ((s[k].toNat : Int) == 91) = true := by rw [h91]; rfl
          rw [hins, if_neg (by rw [h91]; decide), if_pos h91] at hgo2
          clear hst h91 hins hgo
          go_wp2
          go_round
          case rel => exact ⟨k + 1, true, by omega, by go_num, rfl, hgo2⟩
          case measure => simp [intOf]; omega
        · have e91 : ((s[k].toNat : Int) == 91) = false := u8_ne (b := 91) h91
          by_cases h93 : s[k] = 93
          · have e93 : ((s[k].toNat : Int) == 93) = true := by rw [h93]; rfl
            rw [hins, if_pos h93] at hgo2
            clear hst h91 h93 hins hgo
            go_wp2
            go_round
            case rel => exact ⟨k + 1, false, by omega, by go_num, rfl, hgo2⟩
            case measure => simp [intOf]; omega
          · have e93 : ((s[k].toNat : Int) == 93) = false := u8_ne (b := 93) h93
            rw [hins, if_neg h93, if_neg h91] at hgo2
            by_cases h58 : s[k] = 58
            · have e58 : ((s[k].toNat : Int) == 58) = true := by rw [h58]; rfl
              have hb : b = true := by
                cases b with
                | true => rfl
                | false => exact absurd ⟨rfl, h58⟩ hst
              subst hb
              clear hst h91 h93 h58 hins hgo
              go_wp2
              go_round
              case rel => exact ⟨k + 1, true, by omega, by go_num, rfl, hgo2⟩
              case measure => simp [intOf]; omega
            · have e58 : ((s[k].toNat : Int) == 58) = false := u8_ne (b := 58) h58
              clear hst h91 h93 h58 hins hgo
              go_wp2
              go_round
              case rel => exact ⟨k + 1, b, by omega, by go_num, rfl, hgo2⟩
              case measure => simp [intOf]; omega
    · have hv : Hid (portCut s.data.toList = (s.data.toList, [], false)) := show _ = _ by
        have hat : whereGo false s.data.toList = s.data.toList.length := by
          rw [hgo.out, drop_all s k (by omega), len_data]; simp [whereGo]; omega
        rw [portCut, hat, List.take_length, List.drop_of_length_le (by omega)]
        simp
      clear hgo
      go_wp2
      go_ret3
      exact ⟨ret_cut hv.out, 0, rfl⟩

theorem lower_list (l : List UInt8) (w : World) (hs : l.length ≤ 281474976710656) :
    Calls Tryz.prog 85 #[.string ⟨l.toArray⟩] w fun e w' => e = .returned (.string ⟨(lowL l).toArray⟩) ∧ Below w.heap.size w w' :=
  lower_txt ⟨l.toArray⟩ w (by rw [size_list]; exact hs)
theorem host_list (l : List UInt8) (w : World) (hs : l.length ≤ 140737488355328) :
    Calls Tryz.prog 73 #[.string ⟨l.toArray⟩] w fun e w' => e = .returned (.bool (hostB l)) ∧ Below w.heap.size w w' :=
  host_any ⟨l.toArray⟩ w (by rw [size_list]; exact hs)
theorem number_list (l : List UInt8) (most : Int) (w : World) (hs : l.length ≤ 9223372036854775807) (hm0 : -9223372036854775808 ≤ most) (hm1 : most ≤ 9223372036854775807) :
    Calls Tryz.prog 124 #[.string ⟨l.toArray⟩, .int .i64 most] w fun e w' => e = .returned (.tuple #[.int .i64 (numV most l).1, .int .i64 (numV most l).2]) ∧ w' = w :=
  number_any ⟨l.toArray⟩ most w (by rw [size_list]; exact hs) hm0 hm1
theorem ret_where' {p : List UInt8 × Int × Int} {x : List UInt8} {a b : Int} (h : p = (x, a, b)) : Ending.returned (.tuple #[.string ⟨x.toArray⟩, .int .i64 a, .int .i64 b]) = .returned (.tuple #[.string ⟨p.1.toArray⟩, .int .i64 p.2.1, .int .i64 p.2.2]) := by rw [h]

set_option maxHeartbeats 2000000 in
theorem where_any (s : ByteArray) (w : World) (hs : s.size ≤ 140737488355328) :
    Calls Tryz.prog 111 #[.string s] w fun e w' => e = .returned (.tuple #[.string ⟨(whereV s.data.toList).1.toArray⟩, .int .i64 (whereV s.data.toList).2.1, .int .i64 (whereV s.data.toList).2.2]) ∧ Below w.heap.size w w' := by
  have hm : s.size ≤ maxLen := by unfold maxLen; omega
  have hl := len_data s
  obtain ⟨k, hat⟩ : ∃ k, whereGo false s.data.toList = k := ⟨_, rfl⟩
  have hkl : k ≤ s.size := by rw [← hat, ← hl]; exact whereGo_le _ _
  obtain ⟨a, ha⟩ : ∃ a, s.data.toList.take k = a := ⟨_, rfl⟩
  obtain ⟨b, hb⟩ : ∃ b, s.data.toList.drop (k + 1) = b := ⟨_, rfl⟩
  have hal : a.length ≤ s.size := by rw [← ha, List.length_take]; omega
  have hbl : b.length ≤ s.size := by rw [← hb, List.length_drop]; omega
  have hll : (lowL a).length ≤ 140737488355328 := by rw [lowL_len]; omega
  have hpc : portCut s.data.toList = (a, b, decide (k < s.size)) := by rw [portCut, hat, ha, hb, hl]
  have HV : Hid (whereV s.data.toList = if hostB (lowL a) = true then (if k = s.size then (lowL a, 0, 0) else if (numV 65535 b).2 ≠ 0 ∨ (numV 65535 b).1 = 0 then ([], 0, 33) else (lowL a, (numV 65535 b).1, 0)) else ([], 0, 32)) := show _ = _ by
    rw [whereV, hat, ha, portV, hb, hl]
  have h0 := cutPort_any s w hm
  rw [hpc] at h0
  clear hpc ha hb hat hl
  go_enter Tryz.func111, Tryz.ntmps111
  go_wp2_with fail
  refine h0.mono ?_
  rintro e w0 ⟨rfl, q, rfl⟩
  have hw0 := below_drewN w q
  clear h0
  generalize w.drewN q = w0 at hw0 ⊢
  have fin : ∀ {w1 w2 : World}, Below w0.heap.size w0 w1 → Below w1.heap.size w1 w2 → Below w.heap.size w w2 := fun h1 h2 => (hw0.trans (h1.mono hw0.size)).trans (h2.mono (Nat.le_trans hw0.size h1.size))
  have FIN : Hid _ := @fin
  clear fin
  cases hh : hostB (lowL a) with
  | false =>
    rw [hh] at HV
    go_wp2_with (first
      | (go_at_call 85; refine (lower_list a _ (by omega)).mono ?_; rintro e w1 ⟨rfl, hw1⟩)
      | (go_at_call 73; refine (host_list _ _ hll).mono ?_; rintro e w2 ⟨rfl, hw2⟩; rw [hh]))
    go_ret3
    exact ⟨ret_where' (x := []) (by rw [HV.out]; rfl), FIN.out hw1 hw2⟩
  | true =>
    rw [hh, if_pos rfl] at HV
    by_cases hk : k < s.size
    · have hd : decide (k < s.size) = true := decide_eq_true hk
      rw [if_neg (by omega)] at HV
      rw [hd]
      obtain ⟨n, hn⟩ : ∃ n, (numV 65535 b).1 = n := ⟨_, rfl⟩
      obtain ⟨e, he⟩ : ∃ e, (numV 65535 b).2 = e := ⟨_, rfl⟩
      rw [hn, he] at HV
      by_cases he0 : e = 0
      · subst he0
        by_cases hn0 : n = 0
        · subst hn0
          go_wp2_with (first
            | (go_at_call 85; refine (lower_list a _ (by omega)).mono ?_; rintro e w1 ⟨rfl, hw1⟩)
            | (go_at_call 73; refine (host_list _ _ hll).mono ?_; rintro e w2 ⟨rfl, hw2⟩; rw [hh])
            | (go_at_call 124; refine (number_list b 65535 _ (by omega) (by omega) (by omega)).mono ?_; rintro e w' ⟨rfl, rfl⟩; rw [hn, he]))
          go_ret3
          exact ⟨ret_where' (x := []) (by rw [HV.out]; simp), FIN.out hw1 hw2⟩
        · have hnn : (n == 0) = false := by simpa using hn0
          go_wp2_with (first
            | (go_at_call 85; refine (lower_list a _ (by omega)).mono ?_; rintro e w1 ⟨rfl, hw1⟩)
            | (go_at_call 73; refine (host_list _ _ hll).mono ?_; rintro e w2 ⟨rfl, hw2⟩; rw [hh])
            | (go_at_call 124; refine (number_list b 65535 _ (by omega) (by omega) (by omega)).mono ?_; rintro e w' ⟨rfl, rfl⟩; rw [hn, he]))
          go_ret3
          exact ⟨ret_where' (by rw [HV.out]; simp [hn0]), FIN.out hw1 hw2⟩
      · have hen : (e != 0) = true := by simpa using he0
        have hen2 : (e == 0) = false := by simpa using he0
        go_wp2_with (first
          | (go_at_call 85; refine (lower_list a _ (by omega)).mono ?_; rintro e w1 ⟨rfl, hw1⟩)
          | (go_at_call 73; refine (host_list _ _ hll).mono ?_; rintro e w2 ⟨rfl, hw2⟩; rw [hh])
          | (go_at_call 124; refine (number_list b 65535 _ (by omega) (by omega) (by omega)).mono ?_; rintro e w' ⟨rfl, rfl⟩; rw [hn, he]))
        go_ret3
        exact ⟨ret_where' (x := []) (by rw [HV.out]; simp [he0]), FIN.out hw1 hw2⟩
    · have hd : decide (k < s.size) = false := decide_eq_false hk
      rw [if_pos (by omega)] at HV
      rw [hd]
      go_wp2_with (first
        | (go_at_call 85; refine (lower_list a _ (by omega)).mono ?_; rintro e w1 ⟨rfl, hw1⟩)
        | (go_at_call 73; refine (host_list _ _ hll).mono ?_; rintro e w2 ⟨rfl, hw2⟩; rw [hh]))
      go_ret3
      exact ⟨ret_where' (by rw [HV.out]), FIN.out hw1 hw2⟩

end Go.Proofs.YtgboekilhldejaaGreatDoor

/-
  A URI that comes in, opened: its texts, its port, its two lists of parameters.
-/
namespace Go.Proofs.YtgboekilhldejaaGreatDoor
open Go.RowKit Go.ChangeShapes Go.WideShapes Go.Deep
set_option linter.unusedVariables false
set_option maxRecDepth 20000

def parD {H : Type} (p : Par) : DataW H := .agg [.lit (.string p.name), .lit (.string p.value), .lit (.bool p.has)]
def ParD {H : Type} (d : DataW H) (ps : List Par) : Prop := (d = .nil ∧ ps = []) ∨ ∃ sp, d = .slice (ps.map parD) sp
theorem cellsPar : Tryz.prog.cellsOf 59 = 3 := by kernel_rfl
theorem cellsUri : Tryz.prog.cellsOf 37 = 6 := by kernel_rfl
theorem cellsStr : Tryz.prog.cellsOf 9 = 1 := by kernel_rfl
theorem cellsBool : Tryz.prog.cellsOf 4 = 1 := by kernel_rfl
theorem cellsInt : Tryz.prog.cellsOf 3 = 1 := by kernel_rfl
theorem cellsPars : Tryz.prog.cellsOf 23 = 1 := by kernel_rfl
theorem back (s : ByteArray) : (⟨s.data.toList.toArray⟩ : ByteArray) = s := by apply ByteArray.ext; simp

section
variable {H : Type} {enc : TypeId × Value → H} {W : World} {sp : Nat → Bool}

theorem open_par {fuel : Nat} {cs : List Value} {x : DataW H × List MemPlace} (h : DataW.trod enc Tryz.prog W 0 sp true fuel 59 cs = some x) :
    ∃ p : Par, cs = parCells p ∧ x.1 = parD p := by
  obtain ⟨xs, n, _, rfl, hl, hlen, hf⟩ := DataW.trod_struct Tryz.underlying59 h
  rw [cellsPar] at hl
  match cs, hl, xs, hlen with
  | [c0, c1, c2], _, [y0, y1, y2], _ =>
    have f0 := hf 0 _ rfl
    have f1 := hf 1 _ rfl
    have f2 := hf 2 _ rfl
    simp [cellsStr, cellsBool] at f0 f1 f2
    obtain ⟨s0, e0, rfl, _⟩ := DataW.trod_string Tryz.underlying9 f0
    obtain ⟨s1, e1, rfl, _⟩ := DataW.trod_string Tryz.underlying9 f1
    obtain ⟨b2, e2, rfl⟩ := DataW.trod_bool Tryz.underlying4 f2
    simp only [List.cons.injEq, and_true] at e0 e1 e2
    subst e0 e1 e2
    exact ⟨⟨s0.data.toList, s1.data.toList, b2⟩, by simp [parCells], rfl⟩

theorem open_pars {fuel : Nat} {cs : List Value} {x : DataW H × List MemPlace} (h : DataW.trod enc Tryz.prog W 0 sp true fuel 23 cs = some x) :
    ∃ (v : Value) (ps : List Par), cs = [v] ∧ ParsAt W v ps ∧ ParD x.1 ps := by
  rcases open_slice Tryz.underlying23 h with ⟨rfl, rfl⟩ | ⟨a, len, cap, m, n, D, Pl, rfl, _, hlc, hcm, hm, rfl, hall⟩
  · exact ⟨_, [], rfl, Or.inl ⟨rfl, rfl⟩, Or.inl ⟨rfl, rfl⟩⟩
  · have hlm : len ≤ m := by rw [hm]; split <;> omega
    have each : ∀ i, i < len → ∃ p : Par, D i = parD p ∧ (a.block < W.heap.size ∧ ParAt W a i p) := by
      intro i hi
      obtain ⟨cs', h1, h2⟩ := hall i (by omega)
      obtain ⟨p, rfl, hd⟩ := open_par h2
      rw [cellsPar] at h1
      obtain ⟨_, _, hc⟩ := World.cells?_some h1
      have c0 := hc 0 (by omega)
      have c1 := hc 1 (by omega)
      have c2 := hc 2 (by omega)
      refine ⟨p, hd, ?_, ?_, ?_, ?_⟩
      · have hc0 : W.cell? (a.add (i * 3)) = some (.string ⟨p.name.toArray⟩) := by simpa [Addr.add, parCells] using c0
        have : (a.add (i * 3)).block < W.heap.size := by
          unfold World.cell? at hc0
          cases hh : W.heap[(a.add (i * 3)).block]? with
          | none => simp [hh] at hc0
          | some o => exact (Array.getElem?_eq_some_iff.1 hh).1
        rwa [add_block] at this
      · simpa [Addr.add, parCells] using c0
      · simpa [Addr.add, parCells] using c1
      · simpa [Addr.add, parCells] using c2
    obtain ⟨f, hf⟩ := @choose_lt Par ⟨⟨[], [], false⟩⟩ len _ each
    refine ⟨_, (List.range len).map f, rfl, Or.inr ⟨a, cap, by simp, fun k hk => ?_⟩, Or.inr ⟨(List.range (m - len)).map fun j => D (len + j), ?_⟩⟩
    · simp at hk
      simpa using (hf k hk).2
    · simp only [List.map_map]
      congr 1
      apply List.map_congr_left
      intro i hi
      exact (hf i (by simpa using hi)).1

theorem open_uri {r : Reach} {b0 : Nat} {v : Value} {d : DataW H} {p : List MemPlace} (hv : Value.okWide Tryz.prog W r b0 37 v) (h : DataW.Trod enc Tryz.prog W 0 sp true 37 v d p) :
    ∃ (u : Uri) (pv hv' : Value) (dp dh : DataW H), v = uriV u pv hv' ∧ ParsAt W pv u.params ∧ ParsAt W hv' u.headers ∧
      d = .agg [.lit (.string u.scheme), .lit (.string u.user), .lit (.string u.host), .lit (.int .i64 u.port), dp, dh] ∧ ParD dp u.params ∧ ParD dh u.headers ∧ (Lit.int .i64 u.port).wf = true := by
  obtain ⟨cs, rfl, hsz⟩ := okWide_struct Tryz.underlying37 hv
  obtain ⟨fuel, hf0⟩ := h
  obtain ⟨xs, n, _, hx, hl, hlen, hf⟩ := DataW.trod_struct Tryz.underlying37 hf0
  rw [cellsUri] at hsz
  obtain ⟨l⟩ := cs
  match l, hsz, xs, hlen with
  | [c0, c1, c2, c3, c4, c5], _, [y0, y1, y2, y3, y4, y5], _ =>
    have f0 := hf 0 _ rfl
    have f1 := hf 1 _ rfl
    have f2 := hf 2 _ rfl
    have f3 := hf 3 _ rfl
    have f4 := hf 4 _ rfl
    have f5 := hf 5 _ rfl
    simp [cellsStr, cellsInt, cellsPars, Value.cells] at f0 f1 f2 f3 f4 f5
    obtain ⟨s0, e0, rfl, _⟩ := DataW.trod_string Tryz.underlying9 f0
    obtain ⟨s1, e1, rfl, _⟩ := DataW.trod_string Tryz.underlying9 f1
    obtain ⟨s2, e2, rfl, _⟩ := DataW.trod_string Tryz.underlying9 f2
    obtain ⟨i3, e3, rfl, w3⟩ := DataW.trod_int Tryz.underlying3 f3
    obtain ⟨v4, p4, e4, a4, d4⟩ := open_pars f4
    obtain ⟨v5, p5, e5, a5, d5⟩ := open_pars f5
    simp only [List.cons.injEq, and_true] at e0 e1 e2 e3 e4 e5
    subst e0 e1 e2 e3 e4 e5
    simp only [Prod.mk.injEq] at hx
    exact ⟨⟨s0.data.toList, s1.data.toList, s2.data.toList, i3, p4, p5⟩, c4, c5, y4.1, y5.1, by simp [uriV], a4, a5, by simpa using hx.1, d4, d5, w3⟩

/-- No text and no list of it is longer than B. -/
def SmallP (B : Nat) (ps : List Par) : Prop := ps.length ≤ B ∧ ∀ p ∈ ps, p.name.length ≤ B ∧ p.value.length ≤ B
def SmallU (B : Nat) (u : Uri) : Prop := u.scheme.length ≤ B ∧ u.user.length ≤ B ∧ u.host.length ≤ B ∧ SmallP B u.params ∧ SmallP B u.headers
/-- A URI that came in. -/
def UriIn (B : Nat) (W : World) (v : Value) : Prop :=
  ∃ (u : Uri) (pv hv : Value), v = uriV u pv hv ∧ ParsAt W pv u.params ∧ ParsAt W hv u.headers ∧ SmallU B u ∧ (Lit.int .i64 u.port).wf = true

theorem bytesPar : Tryz.prog.bytesOf 59 = 40 := by kernel_rfl
theorem par_weights (p : Par) : (parD (H := H) p).weights Tryz.prog 59 = [p.name.length, p.value.length] := by
  simp [parD, DataW.weights, Tryz.underlying59, DataW.weightsEach]
theorem pars_weights (ps : List Par) : ∀ p ∈ ps, p.name.length ∈ DataW.weightsAll Tryz.prog 59 (ps.map (parD (H := H))) ∧ p.value.length ∈ DataW.weightsAll Tryz.prog 59 (ps.map (parD (H := H))) := by
  induction ps with
  | nil => simp
  | cons q ps ih =>
    intro p hp
    simp only [List.map_cons, DataW.weightsAll, List.mem_append]
    rcases List.mem_cons.1 hp with rfl | hp
    · exact ⟨Or.inl (by rw [par_weights]; simp), Or.inl (by rw [par_weights]; simp)⟩
    · exact ⟨Or.inr (ih p hp).1, Or.inr (ih p hp).2⟩
theorem small_said {B : Nat} {d : DataW H} {ps : List Par} (hd : ParD d ps) (hz : ∀ n ∈ d.weights Tryz.prog 23, n ≤ B) : SmallP B ps := by
  rcases hd with ⟨rfl, rfl⟩ | ⟨sp, rfl⟩
  · exact ⟨by simp, by simp⟩
  · simp only [DataW.weights, Tryz.underlying23, bytesPar] at hz
    refine ⟨?_, fun p hp => ⟨?_, ?_⟩⟩
    · have := hz _ (List.mem_cons_self ..)
      simp at this; omega
    · exact hz _ (List.mem_cons_of_mem _ (List.mem_append.2 (Or.inl (pars_weights ps p hp).1)))
    · exact hz _ (List.mem_cons_of_mem _ (List.mem_append.2 (Or.inl (pars_weights ps p hp).2)))
theorem uri_said {B : Nat} {r : Reach} {b0 : Nat} {v : Value} {d : DataW H} {p : List MemPlace} (hv : Value.okWide Tryz.prog W r b0 37 v) (h : DataW.Trod enc Tryz.prog W 0 sp true 37 v d p)
    (hz : ∀ n ∈ d.weights Tryz.prog 37, n ≤ B) : UriIn B W v := by
  obtain ⟨u, pv, hv', dp, dh, rfl, a1, a2, rfl, d1, d2, wf⟩ := open_uri hv h
  simp only [DataW.weights, Tryz.underlying37, List.map_cons, List.map_nil, DataW.weightsEach] at hz
  refine ⟨u, pv, hv', rfl, a1, a2, ⟨hz _ (by simp), hz _ (by simp), hz _ (by simp), small_said d1 fun n hn => hz n (by simp [hn]), small_said d2 fun n hn => hz n (by simp [hn])⟩, wf⟩
theorem bulk_pars (ps : List Par) : (∀ p ∈ ps, p.name.length + p.value.length + 1 ≤ Rows.uptoBulkAll (ps.map (parD (H := H)))) ∧ ps.length ≤ Rows.uptoBulkAll (ps.map (parD (H := H))) := by
  induction ps with
  | nil => simp
  | cons q ps ih =>
    simp only [List.map_cons, Rows.uptoBulkAll, parD, Rows.uptoBulk] at ih ⊢
    refine ⟨fun p hp => ?_, by simp; omega⟩
    rcases List.mem_cons.1 hp with rfl | hp
    · omega
    · have := ih.1 p hp; omega
theorem small_upto {B : Nat} {d : DataW H} {ps : List Par} (hd : ParD d ps) (hz : Rows.uptoBulk d ≤ B) : SmallP B ps := by
  rcases hd with ⟨rfl, rfl⟩ | ⟨sp, rfl⟩
  · exact ⟨by simp, by simp⟩
  · simp only [Rows.uptoBulk] at hz
    have hb := bulk_pars (H := H) ps
    exact ⟨by omega, fun p hp => by have := hb.1 p hp; omega⟩
theorem uri_upto {B : Nat} {r : Reach} {b0 : Nat} {v : Value} {d : DataW H} {p : List MemPlace} (hv : Value.okWide Tryz.prog W r b0 37 v) (h : DataW.Trod enc Tryz.prog W 0 sp true 37 v d p)
    (hz : Rows.uptoBulk d ≤ B) : UriIn B W v := by
  obtain ⟨u, pv, hv', dp, dh, rfl, a1, a2, rfl, d1, d2, wf⟩ := open_uri hv h
  simp only [Rows.uptoBulkAll, Rows.uptoBulk] at hz
  exact ⟨u, pv, hv', rfl, a1, a2, ⟨by omega, by omega, by omega, small_upto d1 (by omega), small_upto d2 (by omega)⟩, wf⟩

end
end Go.Proofs.YtgboekilhldejaaGreatDoor

/-
  The contract of the document's own List.
-/
namespace Go.Proofs.YtgboekilhldejaaGreatDoor
open Go.RowKit Sc
set_option linter.unusedVariables false
set_option maxRecDepth 20000

theorem apart_snoc {ps : List Par} {j : Nat} {nm : List UInt8} (hj : j < ps.length) (h : apartB (ps.take j) nm = true) (hs : sameB ps[j].name nm = false) : apartB (ps.take (j + 1)) nm = true := by
  unfold apartB at *
  rw [List.take_succ_eq_append_getElem hj, List.all_append, h]
  simp [hs]
theorem apart_bad {ps : List Par} {j k : Nat} {nm : List UInt8} (hj : j < ps.length) (hjk : j < k) (hs : sameB ps[j].name nm = true) : apartB (ps.take k) nm = false := by
  unfold apartB
  rw [List.all_eq_false]
  refine ⟨ps[j], ?_, by simp [hs]⟩
  rw [List.mem_take_iff_getElem]
  exact ⟨j, by omega, rfl⟩
theorem refsame_list (a b : List UInt8) (w : World) (ha : a.length ≤ 140737488355328) (hb : b.length ≤ 140737488355328) :
    Calls Tryz.prog 100 #[.string ⟨a.toArray⟩, .string ⟨b.toArray⟩] w fun e w' => e = .returned (.bool (sameB a b)) ∧ Below w.heap.size w w' :=
  refsame_any ⟨a.toArray⟩ ⟨b.toArray⟩ w (by simp [ByteArray.size]; omega) (by simp [ByteArray.size]; omega)

set_option maxHeartbeats 2000000 in
set_option maxRecDepth 100000 in
theorem list_row (a : Addr) (cap : Nat) (ps : List Par) (w : World) (hsm : SmallP 140737488355328 ps) (hc : ∀ k (hk : k < ps.length), a.block < w.heap.size ∧ ParAt w a k ps[k]) (h16 : ps.length ≤ 16) :
    Calls Tryz.prog 77 #[.slice (some a) ps.length cap] w fun e w' => e = .returned (.bool (listB ps)) ∧ Below w.heap.size w w' := by
  have hv : Hid (listB ps = listGo [] ps) := show _ = _ by rw [listB, decide_eq_true h16]; rfl
  have HC : Hid _ := hc; clear hc
  have HS : Hid _ := hsm.2; clear hsm
  obtain ⟨n, hn⟩ : ∃ n, n = ps.length := ⟨_, rfl⟩
  rw [← hn] at h16 ⊢
  have HN : Hid _ := hn; clear hn
  go_enter Tryz.func77, Tryz.ntmps77
  go_wp2
  go_loopw [3] (fun i wr => ∃ k : Nat, k ≤ n ∧ i = .int .i64 k ∧ Below w.heap.size w wr ∧ Hid (listGo [] ps = listGo (ps.take k) (ps.drop k))) (fun i _ => n - (intOf i).toNat)
  case atStart => exact ⟨0, by omega, rfl, Below.refl _ _, show _ = _ by simp⟩
  case round =>
    obtain ⟨k, hk, rfl, hb, hgo⟩ := hrel
    by_cases hlt : k < n
    · have hkl : k < ps.length := by have := HN.out; omega
      obtain ⟨hab, hpa⟩ := HC.out k hkl
      obtain ⟨c0, c1, c2⟩ := hpa.below hb hab
      have hss := HS.out ps[k] (List.getElem_mem hkl)
      have hat := listGo_at ps k hkl
      generalize ps[k] = p at c0 c1 c2 hss hat
      obtain ⟨nm, vl, hs⟩ := p
      simp only at c0 c1 c2 hss hat
      have HA : Hid _ := hat; clear hat hpa
      by_cases h1 : 1 ≤ nm.length
      · by_cases h2 : nm.length ≤ 64
        · by_cases h3 : vl.length ≤ 64
          · by_cases h4 : hs = true ∨ vl = []
            · have hpb : parB ⟨nm, vl, hs⟩ = true := by
                simp [parB]
                refine ⟨by omega, h2, h3, ?_⟩
                rcases h4 with h | h
                · exact Or.inl h
                · exact Or.inr h
              rw [hpb, Bool.true_and] at HA
              have h4' : hs = true ∨ (hs = false ∧ vl.isEmpty = true) := by
                cases hs with
                | true => exact Or.inl rfl
                | false => right; rcases h4 with h | h <;> simp_all
              clear hpb h4
              have hcell : ∀ o1 o2 o3, (wr.alloc (.cells #[.string o1, o2, o3] 59)).cell? ⟨wr.heap.size, 0, none⟩ = some (.string o1) := fun o1 o2 o3 => by unfold World.cell?; rw [heap_alloc_new]; rfl
              have hb3 : ∀ o, Below w.heap.size w (wr.alloc o) := fun o => hb.alloc hb.size o
              have hsz3 : ∀ o, wr.heap.size < (wr.alloc o).heap.size := fun o => by simp
              rcases h4' with rfl | ⟨rfl, hie⟩
              all_goals (
                go_wp2
                have hcell' := hcell ⟨nm.toArray⟩ (.string ⟨vl.toArray⟩)
                generalize hw3 : wr.alloc (Obj.cells #[Value.string ⟨nm.toArray⟩, Value.string ⟨vl.toArray⟩, _] 59) = w3
                have hcl : w3.cell? ⟨wr.heap.size, 0, none⟩ = some (.string ⟨nm.toArray⟩) := by rw [← hw3]; exact hcell' _
                have hbw : Below w.heap.size w w3 := by rw [← hw3]; exact hb3 _
                have hsw : wr.heap.size < w3.heap.size := by rw [← hw3]; exact hsz3 _
                have HCL : Hid _ := hcl
                clear hcell hcell' hb3 hsz3 hw3 c0 c1 c2 hb hcl
                go_loopw [5] (fun i wr2 => ∃ j : Nat, j ≤ k ∧ i = .int .i64 j ∧ Below w3.heap.size w3 wr2 ∧ Hid (apartB (ps.take j) nm = true)) (fun i _ => k - (intOf i).toNat)
                case atStart => exact ⟨0, by omega, rfl, Below.refl _ _, rfl⟩
                case round =>
                  obtain ⟨j, hj, rfl, hb4, hap⟩ := hrel
                  have hbx := hbw.trans (hb4.mono hbw.size)
                  by_cases hjk : j < k
                  · have hjl : j < ps.length := by omega
                    obtain ⟨d0, d1, d2⟩ := (HC.out j hjl).2.below hbx hab
                    have hcl2 := cell_below hb4 hsw HCL.out
                    have hsj := (HS.out ps[j] (List.getElem_mem hjl)).1
                    have hjn : (j : Int) < (n : Int) := by omega
                    cases hsm : sameB ps[j].name nm with
                    | true =>
                      have hbad : Hid (listB ps = false) := show _ = _ by
                        rw [hv.out, hgo.out, HA.out, apart_bad hjl hjk hsm]; rfl
                      clear hap hgo HA
                      go_wp2
                      go_region_law (go_simp; go_at_call 100; refine (refsame_list _ _ _ hsj hss.1).mono ?_; rintro e w5 ⟨rfl, h5⟩)
                      all_goals (
                        go_wp2
                        go_ret
                        exact ⟨ret_bool hbad.out.symm, hbx.drew.trans (h5.mono hbx.size)⟩)
                    | false =>
                      have hap2 : Hid (apartB (ps.take (j + 1)) nm = true) := apart_snoc hjl hap.out hsm
                      clear hap
                      go_wp2
                      go_region_law (go_simp; go_at_call 100; refine (refsame_list _ _ _ hsj hss.1).mono ?_; rintro e w5 ⟨rfl, h5⟩)
                      all_goals (
                        go_wp2
                        go_roundw
                        case rel => exact ⟨j + 1, by omega, by go_num, hb4.drew.trans (h5.mono hb4.size), hap2⟩
                        case measure => simp [intOf]; omega)
                  · have hjk' : j = k := by omega
                    subst hjk'
                    have hgo2 : Hid (listGo [] ps = listGo (ps.take (j + 1)) (ps.drop (j + 1))) := show _ = _ by
                      rw [hgo.out, HA.out, hap.out, Bool.true_and]
                    clear hap hgo HA
                    go_wp2
                    go_roundw
                    case rel => exact ⟨j + 1, by omega, by go_num, hbx, hgo2⟩
                    case measure => simp [intOf]; omega)
            · have hbad : Hid (listB ps = false) := show _ = _ by
                have : parB ⟨nm, vl, hs⟩ = false := by simp [parB] at h4 ⊢; intro _ _ _; exact ⟨h4.1, h4.2⟩
                rw [hv.out, hgo.out, HA.out, this]; rfl
              obtain ⟨h4a, h4b⟩ : hs = false ∧ ¬ vl = [] := by
                cases hs with
                | true => exact absurd (Or.inl rfl) h4
                | false => exact ⟨rfl, fun e => h4 (Or.inr e)⟩
              subst h4a
              have hie : vl.isEmpty = false := by simpa using h4b
              clear h4 hgo HA h4b
              go_wp2
              go_ret
              exact ⟨ret_bool hbad.out.symm, hb.alloc hb.size _⟩
          · have hbad : Hid (listB ps = false) := show _ = _ by
              have : parB ⟨nm, vl, hs⟩ = false := by simp [parB]; intro _ _ h; exact absurd h h3
              rw [hv.out, hgo.out, HA.out, this]; rfl
            clear hgo HA
            go_wp2
            go_ret
            exact ⟨ret_bool hbad.out.symm, hb.alloc hb.size _⟩
        · have hbad : Hid (listB ps = false) := show _ = _ by
            have : parB ⟨nm, vl, hs⟩ = false := by simp [parB]; intro _ h; exact absurd h h2
            rw [hv.out, hgo.out, HA.out, this]; rfl
          clear hgo HA
          go_wp2
          go_ret
          exact ⟨ret_bool hbad.out.symm, hb.alloc hb.size _⟩
      · have hbad : Hid (listB ps = false) := show _ = _ by
          have : parB ⟨nm, vl, hs⟩ = false := by simp [parB]; intro h; omega
          rw [hv.out, hgo.out, HA.out, this]; rfl
        clear hgo HA
        go_wp2
        go_ret
        exact ⟨ret_bool hbad.out.symm, hb.alloc hb.size _⟩
    · have hd : Hid (listB ps = true) := show _ = _ by
        have e := HN.out
        rw [hv.out, hgo.out, List.drop_of_length_le (by omega)]; rfl
      clear hgo
      go_wp2
      go_ret
      exact ⟨ret_bool hd.out.symm, hb⟩

set_option maxHeartbeats 400000 in
theorem list_long (a : Option Addr) (cap : Nat) (ps : List Par) (w : World) (h16 : ¬ ps.length ≤ 16) :
    Calls Tryz.prog 77 #[.slice a ps.length cap] w fun e w' => e = .returned (.bool (listB ps)) ∧ Below w.heap.size w w' := by
  have hv : Hid (listB ps = false) := show _ = _ by rw [listB, decide_eq_false h16]; rfl
  go_enter Tryz.func77, Tryz.ntmps77
  go_wp2
  go_ret
  exact ⟨ret_bool hv.out.symm, Below.refl _ _⟩
set_option maxHeartbeats 400000 in
theorem list_nil (a : Option Addr) (cap : Nat) (w : World) :
    Calls Tryz.prog 77 #[.slice a 0 cap] w fun e w' => e = .returned (.bool true) ∧ w' = w := by
  go_enter Tryz.func77, Tryz.ntmps77
  go_wp2
  go_loop [3] (fun i => i = .int .i64 0) (fun i => 0)
  case atStart => rfl
  case round =>
    subst hrel
    go_wp2
    go_ret
    exact ⟨rfl, rfl⟩
theorem list_any (v : Value) (ps : List Par) (w : World) (hsm : SmallP 140737488355328 ps) (h : ParsAt w v ps) :
    Calls Tryz.prog 77 #[v] w fun e w' => e = .returned (.bool (listB ps)) ∧ Below w.heap.size w w' := by
  by_cases h16 : ps.length ≤ 16
  · rcases h with ⟨rfl, rfl⟩ | ⟨a, cap, rfl, hc⟩
    · refine (list_nil none 0 w).mono ?_
      rintro e w' ⟨rfl, rfl⟩
      exact ⟨rfl, Below.refl _ _⟩
    · exact list_row a cap ps w hsm hc h16
  · obtain ⟨a, cap, rfl⟩ := h.form
    exact list_long a cap ps w h16

end Go.Proofs.YtgboekilhldejaaGreatDoor

/-
  Contracts of package uri: fits, mayBe, allHave.
-/
namespace Go.Proofs.YtgboekilhldejaaGreatDoor
open Go.RowKit Sc Go.Maps Go.WideMaps
set_option linter.unusedVariables false
set_option maxRecDepth 20000

set_option maxHeartbeats 1000000 in
theorem fits_any (nm vl : List UInt8) (hs : Bool) (w : World) (h1 : nm.length ≤ 140737488355328) (h2 : vl.length ≤ 140737488355328) :
    Calls Tryz.prog 104 #[.agg #[.string ⟨nm.toArray⟩, .string ⟨vl.toArray⟩, .bool hs]] w fun e w' => e = .returned (.bool (parB ⟨nm, vl, hs⟩)) ∧ Below w.heap.size w w' := by
  have hv : parB ⟨nm, vl, hs⟩ = (decide (1 ≤ nm.length) && (decide (nm.length ≤ 64) && (decide (vl.length ≤ 64) && (hs || vl.isEmpty)))) := rfl
  have z1 := size_list nm
  have z2 := size_list vl
  by_cases c1 : 1 ≤ nm.length
  · have e1 : nm.isEmpty = false := by cases nm with | nil => simp at c1 | cons => rfl
    by_cases c2 : nm.length ≤ 64
    · by_cases c3 : vl.length ≤ 64
      · have HV : Hid (parB ⟨nm, vl, hs⟩ = (hs || vl.isEmpty)) := show _ = _ by rw [hv, decide_eq_true c1, decide_eq_true c2, decide_eq_true c3]; rfl
        clear hv
        cases hs
        all_goals (
          go_enter Tryz.func104, Tryz.ntmps104
          go_wp2
          go_ret
          exact ⟨ret_bool HV.out.symm, (Below.refl _ _).alloc (Nat.le_refl _) _⟩)
      · have HV : Hid (parB ⟨nm, vl, hs⟩ = false) := show _ = _ by rw [hv, decide_eq_true c1, decide_eq_true c2, decide_eq_false c3]; rfl
        clear hv
        go_enter Tryz.func104, Tryz.ntmps104
        go_wp2
        go_ret
        exact ⟨ret_bool HV.out.symm, (Below.refl _ _).alloc (Nat.le_refl _) _⟩
    · have HV : Hid (parB ⟨nm, vl, hs⟩ = false) := show _ = _ by rw [hv, decide_eq_true c1, decide_eq_false c2]; rfl
      clear hv
      go_enter Tryz.func104, Tryz.ntmps104
      go_wp2
      go_ret
      exact ⟨ret_bool HV.out.symm, (Below.refl _ _).alloc (Nat.le_refl _) _⟩
  · have e1 : nm.isEmpty = true := by cases nm with | nil => rfl | cons => simp at c1
    have HV : Hid (parB ⟨nm, vl, hs⟩ = false) := show _ = _ by rw [hv, decide_eq_false c1]; rfl
    clear hv
    go_enter Tryz.func104, Tryz.ntmps104
    go_wp2
    go_ret
    exact ⟨ret_bool HV.out.symm, (Below.refl _ _).alloc (Nat.le_refl _) _⟩

/-- What a map of counted names reads as. -/
def Named (D : DataW Unit) (qs : List Par) : Prop := IsMap D ∧ ∀ kl : List UInt8, D.atKey (.string kl) (.lit (.int .i64 0)) = .lit (.int .i64 (if qs.any (fun q => lowL q.name == kl) = true then 1 else 0))
theorem named0 : Named (.map []) [] := ⟨⟨[], rfl⟩, fun kl => rfl⟩
theorem any_apart (qs : List Par) (nm : List UInt8) : qs.any (fun q => lowL q.name == lowL nm) = !apartB qs nm := by
  unfold apartB sameB
  induction qs with
  | nil => rfl
  | cons q qs ih => rw [List.any_cons, List.all_cons, ih]; cases (lowL q.name == lowL nm) <;> rfl
theorem Named.at {D : DataW Unit} {qs : List Par} (h : Named D qs) (nm : List UInt8) : D.atKey (.string (lowL nm)) (.lit (.int .i64 0)) = .lit (.int .i64 (if apartB qs nm = true then 0 else 1)) := by
  rw [h.2, any_apart]
  cases apartB qs nm <;> rfl
theorem Named.put {D : DataW Unit} {qs : List Par} (h : Named D qs) (p : Par) : Named (D.put (.string (lowL p.name)) (.lit (.int .i64 1))) (qs ++ [p]) := by
  obtain ⟨es, rfl⟩ := h.1
  refine ⟨⟨_, rfl⟩, fun kl => ?_⟩
  by_cases hk : kl = lowL p.name
  · subst hk
    rw [atKey_put_same ⟨es, rfl⟩ (by trivial)]
    simp
  · rw [atKey_put_other (by intro e; exact hk (by injection e))]
    rw [h.2]
    have : (lowL p.name == kl) = false := by rw [beq_eq_false_iff_ne]; exact fun e => hk e.symm
    simp [List.any_append, this]
theorem ownsMap_below {P : Program} {k : TypeId} {R : Value → Option (DataW Unit × List MemPlace)} {w w' : World} {b n : Nat} {D : DataW Unit} (h : w.ownsMap P k R b n D) (hb : Below w.heap.size w w') : w'.ownsMap P k R b n D := by
  have hlt := h.lt
  obtain ⟨es, clock, h1, h2⟩ := h
  exact ⟨es, clock, by rw [hb.block b hlt]; exact h1, h2⟩
theorem keyed9 : Keyed Tryz.prog 9 := string_keyed Tryz.underlying9
theorem zero3i (w : World) : (zeroValue 3).run Tryz.prog w = .ok (.int .i64 0) w := by kernel_rfl

theorem box_cell {w w5 : World} {x y z : Value} {t : TypeId} (h : Below (w.alloc (.cells #[x, y, z] t)).heap.size (w.alloc (.cells #[x, y, z] t)) w5) : w5.cell? ⟨w.heap.size, 0, none⟩ = some x := by
  rw [h.cell (by simp)]
  unfold World.cell?; rw [heap_alloc_new]; rfl
theorem box_owns {P : Program} {k : TypeId} {R : Value → Option (DataW Unit × List MemPlace)} {w w5 : World} {o : Obj} {b n : Nat} {D : DataW Unit} (h : w.ownsMap P k R b n D) (h5 : Below (w.alloc o).heap.size (w.alloc o) w5) : w5.ownsMap P k R b n D := ownsMap_below (h.alloc o) h5
theorem box_below {B : Nat} {a w w5 : World} {o : Obj} (hb : Below B a w) (hB : B ≤ w.heap.size) (h5 : Below (w.alloc o).heap.size (w.alloc o) w5) : Below B a w5 := (hb.alloc hB o).trans (h5.mono (Nat.le_trans hB (by simp)))
theorem lit_inj {H : Type} {a b : Int} (h : (DataW.lit (Lit.int .i64 a) : DataW H) = DataW.lit (Lit.int .i64 b)) : a = b := by injection h with h; injection h
theorem makeHint (n : Int) (u : World) : (Instr.makeMap 118 (some (.int .i64 n))).run Tryz.prog u = .ok (.map (some u.heap.size)) (u.alloc (.map #[] 0)) := by kernel_rfl
theorem low_key (nm : List UInt8) (h : nm.length ≤ 140737488355328) : keyOf Tryz.prog 9 (.string ⟨(lowL nm).toArray⟩) = some (.string (lowL nm)) :=
  keyOf_string_mk Tryz.underlying9 (by rw [size_list, lowL_len]; unfold maxLen; omega)

set_option maxHeartbeats 2000000 in
set_option maxRecDepth 100000 in
theorem mayBe_row (a : Addr) (cap : Nat) (ps : List Par) (w : World) (hsm : SmallP 140737488355328 ps) (hc : ∀ k (hk : k < ps.length), a.block < w.heap.size ∧ ParAt w a k ps[k]) (h16 : ps.length ≤ 16) :
    Calls Tryz.prog 74 #[.slice (some a) ps.length cap] w fun e w' => e = .returned (.bool (listB ps)) ∧ Below w.heap.size w w' := by
  have hv : Hid (listB ps = listGo [] ps) := show _ = _ by rw [listB, decide_eq_true h16]; rfl
  have HC : Hid _ := hc; clear hc
  have HS : Hid _ := hsm.2; clear hsm
  obtain ⟨n, hn⟩ : ∃ n, n = ps.length := ⟨_, rfl⟩
  rw [← hn] at h16 ⊢
  have HN : Hid _ := hn; clear hn
  have hmm := makeHint n
  go_enter Tryz.func74, Tryz.ntmps74
  go_wp2
  clear hmm
  go_loopw [15] (fun i wr => ∃ (k : Nat) (D : DataW Unit), k ≤ n ∧ i = .int .i64 k ∧ Hid (wr.ownsMap Tryz.prog 9 (plainElem Tryz.prog 3) w.heap.size k D) ∧ Hid (Named D (ps.take k)) ∧ Below w.heap.size w wr ∧ Hid (listGo [] ps = listGo (ps.take k) (ps.drop k))) (fun i _ => n - (intOf i).toNat)
  case atStart => exact ⟨0, .map [], by omega, rfl, World.ownsMap_made _ _ _ _, named0, (Below.refl _ _).alloc (Nat.le_refl _) _, show _ = _ by simp⟩
  case round =>
    obtain ⟨k, D, hk, rfl, hown, hnam, hb, hgo⟩ := hrel
    by_cases hlt : k < n
    · have hkl : k < ps.length := by have := HN.out; omega
      obtain ⟨hab, hpa⟩ := HC.out k hkl
      obtain ⟨c0, c1, c2⟩ := hpa.below hb hab
      have hss := HS.out ps[k] (List.getElem_mem hkl)
      have hat := listGo_at ps k hkl
      have htk : Hid (ps.take (k + 1) = ps.take k ++ [ps[k]]) := List.take_succ_eq_append_getElem hkl
      generalize ps[k] = p at c0 c1 c2 hss hat htk
      obtain ⟨nm, vl, hs⟩ := p
      simp only at c0 c1 c2 hss hat
      have HA : Hid _ := hat; clear hat hpa
      cases hp : parB ⟨nm, vl, hs⟩ with
      | false =>
        have hbad : Hid (listB ps = false) := show _ = _ by rw [hv.out, hgo.out, HA.out, hp]; rfl
        clear hgo HA hown hnam htk
        go_wp2_with (go_at_call 104; refine (fits_any nm vl hs _ hss.1 hss.2).mono ?_; rintro e w5 ⟨rfl, h5⟩; rw [hp])
        go_ret
        exact ⟨ret_bool hbad.out.symm, (hb.alloc hb.size _).trans (h5.mono (Nat.le_trans hb.size (by simp)))⟩
      | true =>
        rw [hp, Bool.true_and] at HA
        have hkey := low_key nm hss.1
        have hat := hnam.out.at nm
        cases hap : apartB (ps.take k) nm with
        | false =>
          have hbad : Hid (listB ps = false) := show _ = _ by rw [hv.out, hgo.out, HA.out, hap]; rfl
          rw [hap] at hat
          have HAT : Hid _ := hat
          clear hat
          clear hgo HA htk
          have hB := hb.size
          go_wp2_with (first
            | (go_at_call 104; refine (fits_any nm vl hs _ hss.1 hss.2).mono ?_; rintro e w5 ⟨rfl, h5⟩; rw [hp]; have hcl := box_cell h5; have hown5 : Hid _ := box_owns hown.out h5; have hb5 := box_below hb hB h5; clear h5 hown)
            | (go_at_call 85; refine (lower_list nm _ (by omega)).mono ?_; rintro e w6 ⟨rfl, h6⟩; have hownL := ownsMap_below hown5.out h6; have hb6 := hb5.trans (h6.mono hb5.size); clear h6 hown5 hcl)
            | (at_lookup; refine wpList_lookup_own_int _ rfl _ _ 118 rfl 9 3 .i64 keyed9 Tryz.underlying118 Tryz.underlying3 (zero3i _) w.heap.size _ _ rfl hownL _ _ rfl hkey ?_; intro c hc1 hwc; obtain rfl : c = 1 := lit_inj (hc1.symm.trans HAT.out); have hownU := hownL; clear hownL HAT hc1)
            | (at_mapUpdate; refine wpList_mapUpdate_own _ rfl _ _ _ 118 rfl 9 3 keyed9 Tryz.underlying118 _ w.heap.size k _ rfl hownU (by unfold maxLen; omega) _ _ _ rfl rfl hkey (.lit (.int .i64 2)) [] (plainElem_int Tryz.underlying3 (by decide)) ?_; intro w7 hown7 hgr; have hownM := hown7; have hb7 := hb6.grown hgr hb6.size (fun j hj => by cases hj; exact Nat.le_refl _); clear hownU hown7 hgr)
            | (at_lookup; refine wpList_lookup_own_int _ rfl _ _ 118 rfl 9 3 .i64 keyed9 Tryz.underlying118 Tryz.underlying3 (zero3i _) w.heap.size _ _ rfl hownM _ _ rfl hkey ?_; intro c hc1 hwc; obtain rfl : c = 2 := lit_inj (hc1.symm.trans (atKey_put_same hnam.out.1 (by trivial) _ _))))
          go_ret
          exact ⟨ret_bool hbad.out.symm, hb7⟩
        | true =>
          have hgo2 : Hid (listGo [] ps = listGo (ps.take (k + 1)) (ps.drop (k + 1))) := show _ = _ by rw [hgo.out, HA.out, hap]; rfl
          have hnam2 : Hid (Named (D.put (.string (lowL nm)) (.lit (.int .i64 1))) (ps.take (k + 1))) := by
            show Named _ _
            rw [htk.out]; exact hnam.out.put ⟨nm, vl, hs⟩
          rw [hap] at hat
          have HAT : Hid _ := hat
          clear hat
          clear hgo HA htk
          have hB := hb.size
          go_wp2_with (first
            | (go_at_call 104; refine (fits_any nm vl hs _ hss.1 hss.2).mono ?_; rintro e w5 ⟨rfl, h5⟩; rw [hp]; have hcl := box_cell h5; have hown5 : Hid _ := box_owns hown.out h5; have hb5 := box_below hb hB h5; clear h5 hown)
            | (go_at_call 85; refine (lower_list nm _ (by omega)).mono ?_; rintro e w6 ⟨rfl, h6⟩; have hownL := ownsMap_below hown5.out h6; have hb6 := hb5.trans (h6.mono hb5.size); clear h6 hown5 hcl)
            | (at_lookup; refine wpList_lookup_own_int _ rfl _ _ 118 rfl 9 3 .i64 keyed9 Tryz.underlying118 Tryz.underlying3 (zero3i _) w.heap.size _ _ rfl hownL _ _ rfl hkey ?_; intro c hc1 hwc; obtain rfl : c = 0 := lit_inj (hc1.symm.trans HAT.out); have hownU := hownL; clear hownL HAT hc1)
            | (at_mapUpdate; refine wpList_mapUpdate_own _ rfl _ _ _ 118 rfl 9 3 keyed9 Tryz.underlying118 _ w.heap.size k _ rfl hownU (by unfold maxLen; omega) _ _ _ rfl rfl hkey (.lit (.int .i64 1)) [] (plainElem_int Tryz.underlying3 (by decide)) ?_; intro w7 hown7 hgr; have hownM := hown7; have hownK : Hid _ := hown7; have hb7 := hb6.grown hgr hb6.size (fun j hj => by cases hj; exact Nat.le_refl _); clear hownU hown7 hgr)
            | (at_lookup; refine wpList_lookup_own_int _ rfl _ _ 118 rfl 9 3 .i64 keyed9 Tryz.underlying118 Tryz.underlying3 (zero3i _) w.heap.size _ _ rfl hownM _ _ rfl hkey ?_; intro c hc1 hwc; obtain rfl : c = 1 := lit_inj (hc1.symm.trans (atKey_put_same hnam.out.1 (by trivial) _ _)); clear hc1 hownM))
          go_roundw
          case rel => exact ⟨k + 1, _, by omega, by go_num, hownK, hnam2, hb7, hgo2⟩
          case measure => simp [intOf]; omega
    · have hd : Hid (listB ps = true) := show _ = _ by
        have e := HN.out
        rw [hv.out, hgo.out, List.drop_of_length_le (by omega)]; rfl
      clear hgo hown hnam
      go_wp2
      go_ret
      exact ⟨ret_bool hd.out.symm, hb⟩

end Go.Proofs.YtgboekilhldejaaGreatDoor

/-
  Contracts of the document's own Digits and Number.
-/
namespace Go.Proofs.YtgboekilhldejaaGreatDoor
open Go.RowKit Sc
set_option linter.unusedVariables false
set_option maxRecDepth 20000

set_option maxHeartbeats 400000 in
theorem refdigits_neg (n : Int) (w : World) (hn : n < 0) :
    Calls Tryz.prog 70 #[.int .i64 n] w fun e w' => e = .returned (.string ⟨#[]⟩) ∧ w' = w := by
  go_enter Tryz.func70, Tryz.ntmps70
  go_wp2_with fail
  go_ret
  exact ⟨rfl, rfl⟩

theorem dig_ext (i : Int) (h0 : 0 ≤ i) (h1 : i < 10) : (ByteArray.mk #[48, 49, 50, 51, 52, 53, 54, 55, 56, 57]).extract i.toNat (i + 1).toNat = ⟨[digb i.toNat].toArray⟩ := by
  obtain ⟨n, rfl⟩ := Int.eq_ofNat_of_zero_le h0
  have h : ∀ n : Fin 10, (ByteArray.mk #[48, 49, 50, 51, 52, 53, 54, 55, 56, 57]).extract n.val (n.val + 1) = ⟨[digb n.val].toArray⟩ := by decide +kernel
  exact h ⟨n, by omega⟩

set_option maxHeartbeats 600000 in
theorem refdigits_any (k : Nat) : ∀ (n : Int) (w : World), n ≤ k → 0 ≤ n → n ≤ 9223372036854775807 →
    Calls Tryz.prog 70 #[.int .i64 n] w fun e w' => e = .returned (.string ⟨(digL n.toNat).toArray⟩) ∧ ∃ q, w' = w.drewN q := by
  induction k with
  | zero =>
    intro n w hk h0 h1
    have hn : n = 0 := by omega
    subst hn
    go_enter Tryz.func70, Tryz.ntmps70
    go_wp2_with fail
    go_ret
    exact ⟨by rw [digL_small (by omega)]; rfl, 0, rfl⟩
  | succ k ih =>
    intro n w hk h0 h1
    by_cases hn : n < 10
    · have hE : Hid ((ByteArray.mk #[48, 49, 50, 51, 52, 53, 54, 55, 56, 57]).extract n.toNat (n + 1).toNat = ⟨(digL n.toNat).toArray⟩) := by
        show _ = _; rw [dig_ext n h0 hn, digL_small (by omega)]
      go_enter Tryz.func70, Tryz.ntmps70
      go_wp2_with fail
      go_ret
      exact ⟨by rw [← hE.out]; rfl, 0, rfl⟩
    · have hq0 : 0 ≤ n / 10 := by omega
      have hi := fun w => ih (n / 10) w (by omega) hq0 (by omega)
      have HI : Hid (∀ w : World, Calls Tryz.prog 70 #[.int .i64 (n / 10)] w fun e w' => e = .returned (.string ⟨(digL (n / 10).toNat).toArray⟩) ∧ ∃ q, w' = w.drewN q) := hi
      clear hi ih
      have e1 : IntKind.i64.wrap (n.tdiv 10) = n / 10 := by rw [Int.tdiv_eq_ediv_of_nonneg h0]; simp [IntKind.wrap, IntKind.signed, IntKind.bits]; omega
      have e2 : n.tmod 10 = n % 10 := Int.tmod_eq_emod_of_nonneg h0
      have e3 : IntKind.i64.wrap (n % 10 + 1) = n % 10 + 1 := by simp [IntKind.wrap, IntKind.signed, IntKind.bits]; omega
      have e4 : IntKind.i64.wrap (n % 10) = n % 10 := by simp [IntKind.wrap, IntKind.signed, IntKind.bits]; omega
      have g1 : 0 ≤ n % 10 := by omega
      have e5 : (ByteArray.mk #[48, 49, 50, 51, 52, 53, 54, 55, 56, 57]).extract (n % 10).toNat (n % 10 + 1).toNat = ⟨[digb (n % 10).toNat].toArray⟩ := dig_ext _ g1 (by omega)
      have g5 : (digL (n / 10).toNat).length + 1 ≤ 9223372036854775807 := by have := digL_len19 (n := (n / 10).toNat) (by omega); omega
      have hE : Hid ((ByteArray.mk (digL (n / 10).toNat).toArray) ++ ⟨[digb (n % 10).toNat].toArray⟩ = ⟨(digL n.toNat).toArray⟩) := by
        show _ = _
        rw [ByteArray.mk_append_mk, digL_big (n := n.toNat) (by omega)]
        have a1 : n.toNat / 10 = (n / 10).toNat := by omega
        have a2 : digb (n % 10).toNat = digb n.toNat := by unfold digb; congr 2; omega
        rw [a1, a2]
      have g2 : n % 10 < 10 := by omega
      have g3 : n % 10 ≤ n % 10 + 1 := by omega
      have g4 : n % 10 + 1 ≤ 10 := by omega
      go_enter Tryz.func70, Tryz.ntmps70
      go_wp2_with fail
      go_quiet ((go_at_call 70; exact Calls.quiet_of (HI.out _)))
      clear e1 e2 e3 e4 e5
      go_wp2_with fail
      go_ret
      exact ⟨by rw [← hE.out]; rfl, nq, rfl⟩


theorem ref_stop {most n d : Int} (h : 922337203685477580 < n ∨ most < d ∨ most - d < 10 * n) (hm : most ≤ 9223372036854775807) (hd : 0 ≤ d) : d > most ∨ n > (most - d) / 10 := by omega

set_option maxHeartbeats 600000 in
theorem refnumber_any (s : ByteArray) (most : Int) (w : World) (hs : s.size ≤ maxLen) (hm0 : -9223372036854775808 ≤ most) (hm1 : most ≤ 9223372036854775807) :
    Calls Tryz.prog 114 #[.string s, .int .i64 most] w fun e w' => e = .returned (.tuple #[.int .i64 (numV most s.data.toList).1, .int .i64 (numV most s.data.toList).2]) ∧ w' = w := by
  have hs0 := hs
  unfold maxLen at hs
  by_cases he : s.size = 0
  · have hE := isE_true he
    have hv : numV most s.data.toList = (0, 10) := by
      have : s.data.toList = [] := List.eq_nil_of_length_eq_zero (by rw [len_data, he])
      rw [numV, if_pos (Or.inl this)]
    have HV : Hid (numV most s.data.toList = (0, 10)) := hv; clear hv
    go_enter Tryz.func114, Tryz.ntmps114
    go_wp2
    go_ret2
    exact ⟨ret_pair 0 10 HV.out, rfl⟩
  have hE := isE_false (s := s) (by omega)
  have hne := data_ne (s := s) (by omega)
  by_cases ha : allB 1 s.data.toList = true
  · have hdig : Hid (∀ k (hk : k < s.size), 48 ≤ (s[k].toNat : Int) ∧ (s[k].toNat : Int) ≤ 57) := fun k hk => digit_at ha k hk
    have HV : Hid (numV most s.data.toList = match numL most 0 s.data.toList with | some n => (n, 0) | none => (0, 9)) := by
      show _ = _
      rw [numV, if_neg (by simp [hne, ha])]
      rfl
    clear hne
    go_enter Tryz.func114, Tryz.ntmps114
    go_wp2_with (go_at_call 99; refine (refall_any _ _ _ hs0).mono ?_; rintro e w' ⟨rfl, rfl⟩)
    go_loop [6, 7] (fun n i => ∃ (k : Nat) (m : Int), k ≤ s.size ∧ i = .int .i64 k ∧ n = .int .i64 m ∧ 0 ≤ m ∧ m ≤ 9223372036854775807 ∧ Hid (numL most 0 s.data.toList = numL most m (s.data.toList.drop k))) (fun _ i => s.size - (intOf i).toNat)
    case atStart => exact ⟨0, 0, Nat.zero_le _, rfl, rfl, by omega, by omega, rfl⟩
    case round =>
      obtain ⟨k, m, hk, rfl, rfl, hm0', hm1', hnum⟩ := hrel
      by_cases hlt : k < s.size
      · have hd := hdig.out k hlt
        by_cases h0 : 922337203685477580 < m
        · have HS : Hid (numL most m (s.data.toList.drop k) = none) := numL_stop hlt (ref_stop (Or.inl h0) hm1 (by omega))
          go_wp2
          go_ret2
          exact ⟨ret_pair 0 9 (by rw [HV.out, hnum.out, HS.out]), rfl⟩
        · by_cases h1 : most < (s[k].toNat : Int) - 48
          · have HS : Hid (numL most m (s.data.toList.drop k) = none) := numL_stop hlt (ref_stop (Or.inr (Or.inl h1)) hm1 (by omega))
            go_wp2
            go_ret2
            exact ⟨ret_pair 0 9 (by rw [HV.out, hnum.out, HS.out]), rfl⟩
          · by_cases h2 : most - ((s[k].toNat : Int) - 48) < 10 * m
            · have HS : Hid (numL most m (s.data.toList.drop k) = none) := numL_stop hlt (ref_stop (Or.inr (Or.inr h2)) hm1 (by omega))
              go_wp2
              go_ret2
              exact ⟨ret_pair 0 9 (by rw [HV.out, hnum.out, HS.out]), rfl⟩
            · have hst := numL_go (most := most) (n := m) hlt (by omega)
              have HS : Hid (numL most m (s.data.toList.drop k) = numL most (10 * m + ((s[k].toNat : Int) - 48)) (s.data.toList.drop (k + 1))) := hst
              clear hst
              go_wp2
              go_round
              case rel => exact ⟨k + 1, 10 * m + ((s[k].toNat : Int) - 48), by omega, by go_num, by go_num, by omega, by omega, show _ = _ by rw [hnum.out, HS.out]⟩
              case measure => simp [intOf]; omega
      · have HD : Hid (s.data.toList.drop k = []) := drop_all s k (by omega)
        go_wp2
        go_ret2
        exact ⟨ret_pair m 0 (by rw [HV.out, hnum.out, HD.out]; rfl), rfl⟩
  · have ha' : allB 1 s.data.toList = false := by simpa using ha
    have HV : Hid (numV most s.data.toList = (0, 10)) := by show _ = _; rw [numV, if_pos (Or.inr ha')]
    clear ha hne
    go_enter Tryz.func114, Tryz.ntmps114
    go_wp2_with (go_at_call 99; refine (refall_any _ _ _ hs0).mono ?_; rintro e w' ⟨rfl, rfl⟩)
    go_ret2
    exact ⟨ret_pair 0 10 HV.out, rfl⟩

end Go.Proofs.YtgboekilhldejaaGreatDoor

/-
  The contract of the document's own Where.
-/
namespace Go.Proofs.YtgboekilhldejaaGreatDoor
open Go.RowKit Sc
set_option linter.unusedVariables false
set_option maxRecDepth 20000

theorem ret_where {p : List UInt8 × Int × Int} {x : List UInt8} {a b : Int} (h : p = (x, a, b)) : Ending.returned (.tuple #[.string ⟨x.toArray⟩, .int .i64 a, .int .i64 b]) = .returned (.tuple #[.string ⟨p.1.toArray⟩, .int .i64 p.2.1, .int .i64 p.2.2]) := by rw [h]
theorem reflower_cut (s : ByteArray) (k : Nat) (w : World) (hs : s.size ≤ 140737488355328) (hk : k ≤ s.size) :
    Calls Tryz.prog 63 #[.string (s.extract 0 k)] w fun e w' => e = .returned (.string ⟨(lowL (s.data.toList.take k)).toArray⟩) ∧ Below w.heap.size w w' := by
  have h := reflower_txt (s.extract 0 k) w (by rw [ByteArray.size_extract]; omega)
  have e1 : (s.extract 0 k).data.toList = s.data.toList.take k := by rw [ext_list]; simp
  rw [e1] at h
  exact h
theorem refhost_list (l : List UInt8) (w : World) (hs : l.length ≤ 140737488355328) :
    Calls Tryz.prog 62 #[.string ⟨l.toArray⟩] w fun e w' => e = .returned (.bool (hostB l)) ∧ Below w.heap.size w w' :=
  refhost_any ⟨l.toArray⟩ w (by rw [size_list]; exact hs)
theorem refnumber_tail (s : ByteArray) (k : Nat) (most : Int) (w : World) (hs : s.size ≤ 140737488355328) (hm0 : -9223372036854775808 ≤ most) (hm1 : most ≤ 9223372036854775807) :
    Calls Tryz.prog 114 #[.string (s.extract k s.size), .int .i64 most] w fun e w' => e = .returned (.tuple #[.int .i64 (numV most (s.data.toList.drop k)).1, .int .i64 (numV most (s.data.toList.drop k)).2]) ∧ w' = w := by
  have h := refnumber_any (s.extract k s.size) most w (by rw [ByteArray.size_extract]; unfold maxLen; omega) hm0 hm1
  have e1 : (s.extract k s.size).data.toList = s.data.toList.drop k := by rw [ext_list, List.take_of_length_le (by rw [List.length_drop, len_data]; omega)]
  rw [e1] at h
  exact h

set_option maxHeartbeats 2000000 in
set_option maxRecDepth 100000 in
theorem refwhere_any (s : ByteArray) (w : World) (hs : s.size ≤ 140737488355328) :
    Calls Tryz.prog 92 #[.string s] w fun e w' => e = .returned (.tuple #[.string ⟨(whereV s.data.toList).1.toArray⟩, .int .i64 (whereV s.data.toList).2.1, .int .i64 (whereV s.data.toList).2.2]) ∧ Below w.heap.size w w' := by
  go_enter Tryz.func92, Tryz.ntmps92
  go_wp2
  go_loop [5, 6] (fun i x => ∃ (k : Nat) (b : Bool), k ≤ s.size ∧ i = .int .i64 k ∧ x = .bool b ∧ Hid (whereGo false s.data.toList = k + whereGo b (s.data.toList.drop k))) (fun i _ => s.size - (intOf i).toNat)
  case atStart => exact ⟨0, false, by omega, rfl, rfl, show _ = _ by simp⟩
  case round =>
    obtain ⟨k, b, hk, rfl, rfl, hgo⟩ := hrel
    by_cases hstop : k < s.size ∧ ¬ (b = false ∧ s.data.toList.getD k 0 = 58)
    · obtain ⟨hlt, hst⟩ := hstop
      rw [getD_s s k hlt] at hst
      have hgo2 : Hid (whereGo false s.data.toList = (k + 1) + whereGo (insN b s[k]) (s.data.toList.drop (k + 1))) := show _ = _ by
        rw [hgo.out, drop_cons s k hlt, whereGo, if_neg hst]; omega
      have e58 : b = true ∨ ((s[k].toNat : Int) != 58) = true := by
        cases b with
        | true => exact Or.inl rfl
        | false =>
          right
          have := u8_ne (a := s[k]) (b := 58) (fun e => hst ⟨rfl, e⟩)
          simp only [bne, Bool.not_eq_true']; exact this
      clear hgo hst
      have hins : insN b s[k] = if s[k] = 93 then false else if s[k] = 91 then true else b := rfl
      by_cases h93 : s[k] = 93
      · have e93 : ((s[k].toNat : Int) == 93) = true := by rw [h93]; rfl
        have e91 : ((s[k].toNat : Int) == 91) = false := u8_ne (b := 91) (by rw [h93]; decide)
        rw [hins, if_pos h93] at hgo2
        clear h93 hins
        rcases e58 with rfl | e58
        all_goals (
          first | cases b | skip
          all_goals (
            go_wp2
            go_round
            case rel => exact ⟨k + 1, false, by omega, by go_num, rfl, hgo2⟩
            case measure => simp [intOf]; omega))
      · have e93 : ((s[k].toNat : Int) == 93) = false := u8_ne (b := 93) h93
        by_cases h91 : s[k] = 91
        · have e91 : ((s[k].toNat : Int) == 91) = true := by rw [h91]; rfl
          rw [hins, if_neg h93, if_pos h91] at hgo2
          clear h93 h91 hins
          rcases e58 with rfl | e58
          all_goals (
            first | cases b | skip
            all_goals (
              go_wp2
              go_round
              case rel => exact ⟨k + 1, true, by omega, by go_num, rfl, hgo2⟩
              case measure => simp [intOf]; omega))
        · have e91 : ((s[k].toNat : Int) == 91) = false := u8_ne (b := 91) h91
          rw [hins, if_neg h93, if_neg h91] at hgo2
          clear h93 h91 hins
          rcases e58 with rfl | e58
          all_goals (
            first | cases b | skip
            all_goals (
              go_wp2
              go_round
              case rel => exact ⟨k + 1, _, by omega, by go_num, rfl, hgo2⟩
              case measure => simp [intOf]; omega))
    · have hat : whereGo false s.data.toList = k := by
        rw [hgo.out]
        by_cases hlt : k < s.size
        · have : b = false ∧ s.data.toList.getD k 0 = 58 := by
            by_cases h : b = false ∧ s.data.toList.getD k 0 = 58
            · exact h
            · exact absurd ⟨hlt, h⟩ hstop
          rw [getD_s s k hlt] at this
          rw [drop_cons s k hlt, whereGo, if_pos this]; omega
        · rw [drop_all s k (by omega)]; simp [whereGo]
      have hend : (k = s.size) ∨ (k < s.size ∧ b = false ∧ s.data.toList.getD k 0 = 58) := by
        by_cases hlt : k < s.size
        · right
          by_cases h : b = false ∧ s.data.toList.getD k 0 = 58
          · exact ⟨hlt, h⟩
          · exact absurd ⟨hlt, h⟩ hstop
        · left; omega
      have HV : Hid (whereV s.data.toList = if hostB (lowL (s.data.toList.take k)) = true then portV (lowL (s.data.toList.take k)) s.data.toList k else ([], 0, 32)) := show _ = _ by rw [whereV, hat]
      have hll : (lowL (s.data.toList.take k)).length ≤ 140737488355328 := by
        rw [lowL, List.length_map, List.length_take, len_data]; omega
      clear hstop hgo hat
      rcases hend with he | ⟨hlt, rfl, h58⟩
      · have hke : ((k : Int) == (s.size : Int)) = true := by simp only [beq_iff_eq]; omega
        have hge : s.size ≤ k := by omega
        have HE : Hid _ := he; clear he
        cases hh : hostB (lowL (s.data.toList.take k)) with
        | false =>
          rw [hh] at HV
          go_wp2_with (first
            | (go_at_call 63; refine (reflower_cut s k _ hs (by omega)).mono ?_; rintro e w1 ⟨rfl, hw1⟩)
            | (go_at_call 62; refine (refhost_list _ _ hll).mono ?_; rintro e w2 ⟨rfl, hw2⟩))
          go_ret3
          exact ⟨ret_where (x := []) (by rw [HV.out]; rfl), hw1.trans (hw2.mono hw1.size)⟩
        | true =>
          rw [hh, if_pos rfl] at HV
          go_wp2_with (first
            | (go_at_call 63; refine (reflower_cut s k _ hs (by omega)).mono ?_; rintro e w1 ⟨rfl, hw1⟩)
            | (go_at_call 62; refine (refhost_list _ _ hll).mono ?_; rintro e w2 ⟨rfl, hw2⟩))
          go_ret3
          exact ⟨ret_where (by rw [HV.out, portV, if_pos (by rw [len_data]; exact HE.out)]), hw1.trans (hw2.mono hw1.size)⟩
      · rw [getD_s s k hlt] at h58
        have e58 : ((s[k].toNat : Int) != 58) = false := by rw [h58]; rfl
        have hke : ((k : Int) == (s.size : Int)) = false := by simp only [beq_eq_false_iff_ne, ne_eq]; omega
        clear h58
        cases hh : hostB (lowL (s.data.toList.take k)) with
        | false =>
          rw [hh] at HV
          go_wp2_with (first
            | (go_at_call 63; refine (reflower_cut s k _ hs (by omega)).mono ?_; rintro e w1 ⟨rfl, hw1⟩)
            | (go_at_call 62; refine (refhost_list _ _ hll).mono ?_; rintro e w2 ⟨rfl, hw2⟩))
          go_ret3
          exact ⟨ret_where (x := []) (by rw [HV.out]; rfl), hw1.trans (hw2.mono hw1.size)⟩
        | true =>
          rw [hh, if_pos rfl, portV, if_neg (by rw [len_data]; omega)] at HV
          obtain ⟨n, hn⟩ : ∃ n, (numV 65535 (s.data.toList.drop (k + 1))).1 = n := ⟨_, rfl⟩
          obtain ⟨e, he⟩ : ∃ e, (numV 65535 (s.data.toList.drop (k + 1))).2 = e := ⟨_, rfl⟩
          rw [hn, he] at HV
          by_cases hbad : e ≠ 0 ∨ n = 0
          · rw [if_pos hbad] at HV
            by_cases he0 : e = 0
            · have hn0 : n = 0 := by
                rcases hbad with h | h
                · exact absurd he0 h
                · exact h
              subst he0 hn0
              clear hbad
              go_wp2_with (first
                | (go_at_call 63; refine (reflower_cut s k _ hs (by omega)).mono ?_; rintro e w1 ⟨rfl, hw1⟩)
                | (go_at_call 114; refine (refnumber_tail s (k + 1) 65535 _ hs (by omega) (by omega)).mono ?_; rintro e w' ⟨rfl, rfl⟩; rw [hn, he])
                | (go_at_call 62; refine (refhost_list _ _ hll).mono ?_; rintro e w2 ⟨rfl, hw2⟩))
              go_ret3
              exact ⟨ret_where (x := []) (by rw [HV.out]), hw1.trans (hw2.mono hw1.size)⟩
            · have hen : (e != 0) = true := by simpa using he0
              clear hbad he0
              go_wp2_with (first
                | (go_at_call 63; refine (reflower_cut s k _ hs (by omega)).mono ?_; rintro e w1 ⟨rfl, hw1⟩)
                | (go_at_call 114; refine (refnumber_tail s (k + 1) 65535 _ hs (by omega) (by omega)).mono ?_; rintro e w' ⟨rfl, rfl⟩; rw [hn, he])
                | (go_at_call 62; refine (refhost_list _ _ hll).mono ?_; rintro e w2 ⟨rfl, hw2⟩))
              go_ret3
              exact ⟨ret_where (x := []) (by rw [HV.out]), hw1.trans (hw2.mono hw1.size)⟩
          · rw [if_neg hbad] at HV
            have hen : e = 0 := by
              by_cases h : e = 0
              · exact h
              · exact absurd (Or.inl h) hbad
            have hnn : (n == 0) = false := by
              simp only [beq_eq_false_iff_ne, ne_eq]
              intro h; exact hbad (Or.inr h)
            subst hen
            clear hbad
            go_wp2_with (first
              | (go_at_call 63; refine (reflower_cut s k _ hs (by omega)).mono ?_; rintro e w1 ⟨rfl, hw1⟩)
              | (go_at_call 114; refine (refnumber_tail s (k + 1) 65535 _ hs (by omega) (by omega)).mono ?_; rintro e w' ⟨rfl, rfl⟩; rw [hn, he])
              | (go_at_call 62; refine (refhost_list _ _ hll).mono ?_; rintro e w2 ⟨rfl, hw2⟩))
            go_ret3
            exact ⟨ret_where (by rw [HV.out]), hw1.trans (hw2.mono hw1.size)⟩

end Go.Proofs.YtgboekilhldejaaGreatDoor

/-
  The contract of the document's own Check.
-/
namespace Go.Proofs.YtgboekilhldejaaGreatDoor
open Go.RowKit Sc
set_option linter.unusedVariables false
set_option maxRecDepth 20000

/-- A URI's six cells in a block of its own. -/
def BoxU (w : World) (b : Nat) (u : Uri) (p h : Value) : Prop :=
  w.cell? ⟨b, 0, none⟩ = some (.string ⟨u.scheme.toArray⟩) ∧ w.cell? ⟨b, 1, none⟩ = some (.string ⟨u.user.toArray⟩) ∧ w.cell? ⟨b, 2, none⟩ = some (.string ⟨u.host.toArray⟩) ∧
  w.cell? ⟨b, 3, none⟩ = some (.int .i64 u.port) ∧ w.cell? ⟨b, 4, none⟩ = some p ∧ w.cell? ⟨b, 5, none⟩ = some h
theorem BoxU.below {w w' : World} {b B : Nat} {u : Uri} {p h : Value} (k : BoxU w b u p h) (hb : Below B w w') (hlt : b < B) : BoxU w' b u p h :=
  ⟨cell_below hb hlt k.1, cell_below hb hlt k.2.1, cell_below hb hlt k.2.2.1, cell_below hb hlt k.2.2.2.1, cell_below hb hlt k.2.2.2.2.1, cell_below hb hlt k.2.2.2.2.2⟩
theorem box_new (w : World) (u : Uri) (p h : Value) : BoxU (w.alloc (.cells #[.string ⟨u.scheme.toArray⟩, .string ⟨u.user.toArray⟩, .string ⟨u.host.toArray⟩, .int .i64 u.port, p, h] 37)) w.heap.size u p h := by
  unfold BoxU World.cell?
  simp only [heap_alloc_new]
  exact ⟨rfl, rfl, rfl, rfl, rfl, rfl⟩
theorem refscheme_list (l : List UInt8) (w : World) :
    Calls Tryz.prog 76 #[.string ⟨l.toArray⟩] w fun e w' => e = .returned (.bool (schemeB l)) ∧ w' = w := refscheme_any ⟨l.toArray⟩ w
theorem has_snoc {ps : List Par} {k : Nat} (hk : k < ps.length) (h : (ps.take k).all (·.has) = true) (hb : ps[k].has = true) : (ps.take (k + 1)).all (·.has) = true := by
  rw [List.take_succ_eq_append_getElem hk, List.all_append, h]; simp [hb]
theorem has_bad {ps : List Par} {k : Nat} (hk : k < ps.length) (hb : ps[k].has = false) : ps.all (·.has) = false := by
  rw [List.all_eq_false]; exact ⟨ps[k], List.getElem_mem hk, by simp [hb]⟩
theorem SmallP.le {B C : Nat} {ps : List Par} (h : SmallP B ps) (hBC : B ≤ C) : SmallP C ps := ⟨by have := h.1; omega, fun p hp => by have := h.2 p hp; omega⟩

set_option maxHeartbeats 2000000 in
set_option maxRecDepth 100000 in
theorem refcheck_any (u : Uri) (p h : Value) (w : World) (hsm : SmallU 140737488355328 u) (hp : ParsAt w p u.params) (hh : ParsAt w h u.headers) :
    Calls Tryz.prog 39 #[uriV u p h] w fun e w' => e = .returned (.int .i64 (checkV u)) ∧ Below w.heap.size w w' := by
  obtain ⟨s1, s2, s3, s4, s5⟩ := hsm
  have hcv : checkV u = checkV u := rfl
  conv at hcv => rhs; unfold checkV
  have hbox := box_new w u p h
  have hbw : Below w.heap.size w (w.alloc (.cells #[.string ⟨u.scheme.toArray⟩, .string ⟨u.user.toArray⟩, .string ⟨u.host.toArray⟩, .int .i64 u.port, p, h] 37)) := (Below.refl _ w).alloc (Nat.le_refl _) _
  have hws : w.heap.size < (w.alloc (.cells #[.string ⟨u.scheme.toArray⟩, .string ⟨u.user.toArray⟩, .string ⟨u.host.toArray⟩, .int .i64 u.port, p, h] 37)).heap.size := by simp
  unfold uriV
  cases e1 : schemeB u.scheme with
  | false =>
    rw [e1] at hcv; simp at hcv
    have HV : Hid _ := hcv; clear hcv
    go_enter Tryz.func39, Tryz.ntmps39
    go_wp2_with (go_at_call 76; refine (refscheme_list _ _).mono ?_; rintro e w' ⟨rfl, rfl⟩)
    go_ret
    exact ⟨ret_int HV.out.symm, hbw⟩
  | true =>
    rw [e1, if_neg (by simp)] at hcv
    by_cases e2 : 64 < u.user.length
    · rw [if_pos e2] at hcv
      have HV : Hid _ := hcv; clear hcv
      go_enter Tryz.func39, Tryz.ntmps39
      go_wp2_with (go_at_call 76; refine (refscheme_list _ _).mono ?_; rintro e w' ⟨rfl, rfl⟩)
      go_ret
      exact ⟨ret_int HV.out.symm, hbw⟩
    · rw [if_neg e2] at hcv
      go_enter Tryz.func39, Tryz.ntmps39
      go_wp2_with (go_at_call 76; refine (refscheme_list _ _).mono ?_; rintro e w' ⟨rfl, rfl⟩)
      refine (refhost_list _ _ s3).mono ?_
      rintro e w2 ⟨rfl, hw2⟩
      have hb2 := hbw.trans (hw2.mono hbw.size)
      have hx2 := hbox.below hw2 hws
      have hs2 : w.heap.size < w2.heap.size := Nat.lt_of_lt_of_le hws hw2.size
      obtain ⟨g0, g1, g2, g3, g4, g5⟩ := hx2
      have hx2 : Hid (BoxU w2 w.heap.size u p h) := ⟨g0, g1, g2, g3, g4, g5⟩
      clear hbox hbw hws hw2
      cases e3 : hostB u.host with
      | false =>
        rw [e3, if_pos rfl] at hcv
        have HV : Hid _ := hcv; clear hcv
        go_wp2
        go_ret
        exact ⟨ret_int HV.out.symm, hb2⟩
      | true =>
        rw [e3, if_neg (by simp)] at hcv
        by_cases e4 : u.port < 0 ∨ 65535 < u.port
        · rw [if_pos e4] at hcv
          have HV : Hid _ := hcv; clear hcv
          by_cases e5 : u.port < 0
          · clear e4
            go_wp2
            go_ret
            exact ⟨ret_int HV.out.symm, hb2⟩
          · have e6 : 65535 < u.port := by omega
            clear e4
            go_wp2
            go_ret
            exact ⟨ret_int HV.out.symm, hb2⟩
        · rw [if_neg e4] at hcv
          have e5 : 0 ≤ u.port := by omega
          have e6 : u.port ≤ 65535 := by omega
          clear e4
          go_wp2_with fail
          refine (list_any _ u.params _ s4 (hp.below hb2)).mono ?_
          rintro e w3 ⟨rfl, hw3⟩
          have hb3 := hb2.trans (hw3.mono hb2.size)
          have hx3 := hx2.out.below hw3 hs2
          have hs3 : w.heap.size < w3.heap.size := Nat.lt_of_lt_of_le hs2 hw3.size
          clear g0 g1 g2 g3 g4 g5 hx2 hb2 hw3
          obtain ⟨g0, g1, g2, g3, g4, g5⟩ := hx3
          have hx3 : Hid (BoxU w3 w.heap.size u p h) := ⟨g0, g1, g2, g3, g4, g5⟩
          cases e7 : listB u.params with
          | false =>
            rw [e7, if_pos rfl] at hcv
            have HV : Hid _ := hcv; clear hcv
            go_wp2
            go_ret
            exact ⟨ret_int HV.out.symm, hb3⟩
          | true =>
            rw [e7, if_neg (by simp)] at hcv
            go_wp2_with fail
            refine (list_any _ u.headers _ s5 (hh.below hb3)).mono ?_
            rintro e w4 ⟨rfl, hw4⟩
            have hb4 := hb3.trans (hw4.mono hb3.size)
            have hx4 := hx3.out.below hw4 hs3
            clear g0 g1 g2 g3 g4 g5 hx3 hb3 hw4 hs2
            obtain ⟨g0, g1, g2, g3, g4, g5⟩ := hx4
            cases e8 : listB u.headers with
            | false =>
              rw [e8, if_pos rfl] at hcv
              have HV : Hid _ := hcv; clear hcv
              go_wp2
              go_ret
              exact ⟨ret_int HV.out.symm, hb4⟩
            | true =>
              rw [e8, if_neg (by simp)] at hcv
              have HV : Hid _ := hcv; clear hcv
              have h4 := hh.below hb4
              have h16 : u.headers.length ≤ 140737488355328 := s5.1
              obtain ⟨n, hn⟩ : ∃ n, n = u.headers.length := ⟨_, rfl⟩
              rcases h4 with ⟨rfl, hnil⟩ | ⟨a, cap, rfl, hc⟩
              · have hall : Hid (checkV u = 0) := show _ = _ by rw [HV.out, hnil]; rfl
                go_wp2
                go_loop [3] (fun i => i = .int .i64 0) (fun i => 0)
                case atStart => rfl
                case round =>
                  subst hrel
                  go_wp2
                  go_ret
                  exact ⟨ret_int hall.out.symm, hb4⟩
              · have HC : Hid _ := hc; clear hc
                rw [← hn] at h16 g5 ⊢
                go_wp2
                go_loop [3] (fun i => ∃ k : Nat, k ≤ n ∧ i = .int .i64 k ∧ Hid ((u.headers.take k).all (·.has) = true)) (fun i => n - (intOf i).toNat)
                case atStart => exact ⟨0, by omega, rfl, rfl⟩
                case round =>
                  obtain ⟨k, hk, rfl, hal⟩ := hrel
                  by_cases hlt : k < n
                  · have hkl : k < u.headers.length := by omega
                    obtain ⟨c0, c1, c2⟩ := (HC.out k hkl).2
                    cases hhas : u.headers[k].has with
                    | true =>
                      have hal2 : Hid ((u.headers.take (k + 1)).all (·.has) = true) := has_snoc hkl hal.out hhas
                      rw [hhas] at c2
                      clear hal
                      go_wp2
                      go_round
                      case rel => exact ⟨k + 1, by omega, by go_num, hal2⟩
                      case measure => simp [intOf]; omega
                    | false =>
                      have hbad : Hid (checkV u = 34) := show _ = _ by rw [HV.out, has_bad hkl hhas]; rfl
                      rw [hhas] at c2
                      clear hal
                      go_wp2
                      go_ret
                      exact ⟨ret_int hbad.out.symm, hb4⟩
                  · have hall : Hid (checkV u = 0) := show _ = _ by
                      have := hal.out
                      rw [List.take_of_length_le (by omega)] at this
                      rw [HV.out, this]; rfl
                    clear hal
                    go_wp2
                    go_ret
                    exact ⟨ret_int hall.out.symm, hb4⟩

end Go.Proofs.YtgboekilhldejaaGreatDoor

/-
  Contracts of package uri: mayBe, allHave, Check.
-/
namespace Go.Proofs.YtgboekilhldejaaGreatDoor
open Go.RowKit Sc
set_option linter.unusedVariables false
set_option maxRecDepth 20000

set_option maxHeartbeats 400000 in
theorem mayBe_long (a : Option Addr) (cap : Nat) (ps : List Par) (w : World) (h16 : ¬ ps.length ≤ 16) :
    Calls Tryz.prog 74 #[.slice a ps.length cap] w fun e w' => e = .returned (.bool (listB ps)) ∧ Below w.heap.size w w' := by
  have hv : Hid (listB ps = false) := show _ = _ by rw [listB, decide_eq_false h16]; rfl
  go_enter Tryz.func74, Tryz.ntmps74
  go_wp2
  go_ret
  exact ⟨ret_bool hv.out.symm, Below.refl _ _⟩
set_option maxHeartbeats 400000 in
theorem mayBe_nil (a : Option Addr) (cap : Nat) (w : World) :
    Calls Tryz.prog 74 #[.slice a 0 cap] w fun e w' => e = .returned (.bool true) ∧ Below w.heap.size w w' := by
  have hmm := makeHint 0
  go_enter Tryz.func74, Tryz.ntmps74
  go_wp2
  go_loop [15] (fun i => i = .int .i64 0) (fun i => 0)
  case atStart => rfl
  case round =>
    subst hrel
    go_wp2
    go_ret
    exact ⟨rfl, (Below.refl _ _).alloc (Nat.le_refl _) _⟩
theorem mayBe_any (v : Value) (ps : List Par) (w : World) (hsm : SmallP 140737488355328 ps) (h : ParsAt w v ps) :
    Calls Tryz.prog 74 #[v] w fun e w' => e = .returned (.bool (listB ps)) ∧ Below w.heap.size w w' := by
  by_cases h16 : ps.length ≤ 16
  · rcases h with ⟨rfl, rfl⟩ | ⟨a, cap, rfl, hc⟩
    · exact mayBe_nil none 0 w
    · exact mayBe_row a cap ps w hsm hc h16
  · obtain ⟨a, cap, rfl⟩ := h.form
    exact mayBe_long a cap ps w h16

set_option maxHeartbeats 1000000 in
theorem allHave_row (a : Addr) (cap : Nat) (ps : List Par) (w : World) (h16 : ps.length ≤ 140737488355328) (hc : ∀ k (hk : k < ps.length), a.block < w.heap.size ∧ ParAt w a k ps[k]) :
    Calls Tryz.prog 75 #[.slice (some a) ps.length cap] w fun e w' => e = .returned (.bool (ps.all (·.has))) ∧ Below w.heap.size w w' := by
  have HC : Hid _ := hc; clear hc
  obtain ⟨b, hb0⟩ : ∃ b, ps.all (·.has) = b := ⟨_, rfl⟩
  rw [hb0]
  have HB : Hid _ := hb0; clear hb0
  obtain ⟨n, hn⟩ : ∃ n, n = ps.length := ⟨_, rfl⟩
  rw [← hn] at h16 ⊢
  have HN : Hid _ := hn; clear hn
  go_enter Tryz.func75, Tryz.ntmps75
  go_wp2
  go_loopw [7] (fun i wr => ∃ k : Nat, k ≤ n ∧ i = .int .i64 k ∧ Below w.heap.size w wr ∧ Hid ((ps.take k).all (·.has) = true)) (fun i _ => n - (intOf i).toNat)
  case atStart => exact ⟨0, by omega, rfl, Below.refl _ _, rfl⟩
  case round =>
    obtain ⟨k, hk, rfl, hb, hal⟩ := hrel
    by_cases hlt : k < n
    · have hkl : k < ps.length := by have := HN.out; omega
      obtain ⟨hab, hpa⟩ := HC.out k hkl
      obtain ⟨c0, c1, c2⟩ := hpa.below hb hab
      cases hhas : ps[k].has with
      | true =>
        have hal2 : Hid ((ps.take (k + 1)).all (·.has) = true) := has_snoc hkl hal.out hhas
        rw [hhas] at c2
        clear hal hpa
        go_wp2
        go_roundw
        case rel => exact ⟨k + 1, by omega, by go_num, hb.alloc hb.size _, hal2⟩
        case measure => simp [intOf]; omega
      | false =>
        have hbad : Hid (b = false) := show _ = _ by rw [← HB.out, has_bad hkl hhas]
        rw [hhas] at c2
        clear hal hpa
        go_wp2
        go_ret
        exact ⟨ret_bool hbad.out.symm, hb.alloc hb.size _⟩
    · have hall : Hid (b = true) := show _ = _ by
        have := hal.out
        rw [List.take_of_length_le (by have := HN.out; omega)] at this
        rw [← HB.out, this]
      clear hal
      go_wp2
      go_ret
      exact ⟨ret_bool hall.out.symm, hb⟩
set_option maxHeartbeats 400000 in
theorem allHave_nil (a : Option Addr) (cap : Nat) (w : World) :
    Calls Tryz.prog 75 #[.slice a 0 cap] w fun e w' => e = .returned (.bool true) ∧ Below w.heap.size w w' := by
  go_enter Tryz.func75, Tryz.ntmps75
  go_wp2
  go_loop [7] (fun i => i = .int .i64 0) (fun i => 0)
  case atStart => rfl
  case round =>
    subst hrel
    go_wp2
    go_ret
    exact ⟨rfl, Below.refl _ _⟩
theorem allHave_any (v : Value) (ps : List Par) (w : World) (h16 : ps.length ≤ 140737488355328) (h : ParsAt w v ps) :
    Calls Tryz.prog 75 #[v] w fun e w' => e = .returned (.bool (ps.all (·.has))) ∧ Below w.heap.size w w' := by
  rcases h with ⟨rfl, rfl⟩ | ⟨a, cap, rfl, hc⟩
  · exact allHave_nil none 0 w
  · exact allHave_row a cap ps w h16 hc

set_option maxHeartbeats 2000000 in
set_option maxRecDepth 100000 in
theorem check_any (u : Uri) (p h : Value) (w : World) (hsm : SmallU 140737488355328 u) (hp : ParsAt w p u.params) (hh : ParsAt w h u.headers) :
    Calls Tryz.prog 38 #[uriV u p h] w fun e w' => e = .returned (.int .i64 (checkV u)) ∧ Below w.heap.size w w' := by
  obtain ⟨s1, s2, s3, s4, s5⟩ := hsm
  have hcv : checkV u = checkV u := rfl
  conv at hcv => rhs; unfold checkV
  have hbox := box_new w u p h
  have hbw : Below w.heap.size w (w.alloc (.cells #[.string ⟨u.scheme.toArray⟩, .string ⟨u.user.toArray⟩, .string ⟨u.host.toArray⟩, .int .i64 u.port, p, h] 37)) := (Below.refl _ w).alloc (Nat.le_refl _) _
  have hws : w.heap.size < (w.alloc (.cells #[.string ⟨u.scheme.toArray⟩, .string ⟨u.user.toArray⟩, .string ⟨u.host.toArray⟩, .int .i64 u.port, p, h] 37)).heap.size := by simp
  unfold uriV
  cases e1 : schemeB u.scheme with
  | false =>
    rw [e1] at hcv; simp at hcv
    have HV : Hid _ := hcv; clear hcv
    go_enter Tryz.func38, Tryz.ntmps38
    go_wp2_with (go_at_call 72; refine (scheme_list _ _).mono ?_; rintro e w' ⟨rfl, rfl⟩; rw [e1])
    go_ret
    exact ⟨ret_int HV.out.symm, hbw⟩
  | true =>
    rw [e1, if_neg (by simp)] at hcv
    by_cases e2 : 64 < u.user.length
    · rw [if_pos e2] at hcv
      have HV : Hid _ := hcv; clear hcv
      go_enter Tryz.func38, Tryz.ntmps38
      go_wp2_with (go_at_call 72; refine (scheme_list _ _).mono ?_; rintro e w' ⟨rfl, rfl⟩; rw [e1])
      go_ret
      exact ⟨ret_int HV.out.symm, hbw⟩
    · rw [if_neg e2] at hcv
      go_enter Tryz.func38, Tryz.ntmps38
      go_wp2_with (go_at_call 72; refine (scheme_list _ _).mono ?_; rintro e w' ⟨rfl, rfl⟩; rw [e1])
      refine (host_list _ _ s3).mono ?_
      rintro e w2 ⟨rfl, hw2⟩
      have hb2 := hbw.trans (hw2.mono hbw.size)
      have hx2 := hbox.below hw2 hws
      have hs2 : w.heap.size < w2.heap.size := Nat.lt_of_lt_of_le hws hw2.size
      obtain ⟨g0, g1, g2, g3, g4, g5⟩ := hx2
      have hx2 : Hid (BoxU w2 w.heap.size u p h) := ⟨g0, g1, g2, g3, g4, g5⟩
      clear hbox hbw hws hw2
      cases e3 : hostB u.host with
      | false =>
        rw [e3, if_pos rfl] at hcv
        have HV : Hid _ := hcv; clear hcv
        go_wp2
        go_ret
        exact ⟨ret_int HV.out.symm, hb2⟩
      | true =>
        rw [e3, if_neg (by simp)] at hcv
        by_cases e4 : u.port < 0 ∨ 65535 < u.port
        · rw [if_pos e4] at hcv
          have HV : Hid _ := hcv; clear hcv
          by_cases e5 : u.port < 0
          · clear e4
            go_wp2
            go_ret
            exact ⟨ret_int HV.out.symm, hb2⟩
          · have e6 : 65535 < u.port := by omega
            clear e4
            go_wp2
            go_ret
            exact ⟨ret_int HV.out.symm, hb2⟩
        · rw [if_neg e4] at hcv
          have e5 : 0 ≤ u.port := by omega
          have e6 : u.port ≤ 65535 := by omega
          clear e4
          go_wp2_with fail
          refine (mayBe_any _ u.params _ s4 (hp.below hb2)).mono ?_
          rintro e w3 ⟨rfl, hw3⟩
          have hb3 := hb2.trans (hw3.mono hb2.size)
          have hx3 := hx2.out.below hw3 hs2
          have hs3 : w.heap.size < w3.heap.size := Nat.lt_of_lt_of_le hs2 hw3.size
          clear g0 g1 g2 g3 g4 g5 hx2 hb2 hw3
          obtain ⟨g0, g1, g2, g3, g4, g5⟩ := hx3
          have hx3 : Hid (BoxU w3 w.heap.size u p h) := ⟨g0, g1, g2, g3, g4, g5⟩
          cases e7 : listB u.params with
          | false =>
            rw [e7, if_pos rfl] at hcv
            have HV : Hid _ := hcv; clear hcv
            go_wp2
            go_ret
            exact ⟨ret_int HV.out.symm, hb3⟩
          | true =>
            rw [e7, if_neg (by simp)] at hcv
            go_wp2_with fail
            refine (mayBe_any _ u.headers _ s5 (hh.below hb3)).mono ?_
            rintro e w4 ⟨rfl, hw4⟩
            have hb4 := hb3.trans (hw4.mono hb3.size)
            have hx4 := hx3.out.below hw4 hs3
            clear g0 g1 g2 g3 g4 g5 hx3 hb3 hw4 hs2
            obtain ⟨g0, g1, g2, g3, g4, g5⟩ := hx4
            cases e8 : listB u.headers with
            | false =>
              rw [e8, if_pos rfl] at hcv
              have HV : Hid _ := hcv; clear hcv
              go_wp2
              go_ret
              exact ⟨ret_int HV.out.symm, hb4⟩
            | true =>
              rw [e8, if_neg (by simp)] at hcv
              have HV : Hid _ := hcv; clear hcv
              have h16 : u.headers.length ≤ 140737488355328 := s5.1
              go_wp2_with fail
              refine (allHave_any _ u.headers _ h16 (hh.below hb4)).mono ?_
              rintro e w5 ⟨rfl, hw5⟩
              have hb5 := hb4.trans (hw5.mono hb4.size)
              cases e9 : u.headers.all (·.has) with
              | false =>
                have hbad : Hid (checkV u = 34) := show _ = _ by rw [HV.out, e9]; rfl
                clear HV
                go_wp2
                go_ret
                exact ⟨ret_int hbad.out.symm, hb5⟩
              | true =>
                have hall : Hid (checkV u = 0) := show _ = _ by rw [HV.out, e9]; rfl
                clear HV
                go_wp2
                go_ret
                exact ⟨ret_int hall.out.symm, hb5⟩

end Go.Proofs.YtgboekilhldejaaGreatDoor
