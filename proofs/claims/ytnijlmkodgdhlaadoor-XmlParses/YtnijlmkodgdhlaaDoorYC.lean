/-
  Base texts, one behind another: StrLib, RefClass.
-/
import Derived.Test.YtnijlmkodgdhlaaDoorYB
import Derived.Lib.Bytealg
import Derived.Lib.CountLaws
import Derived.Laws.Entries
import Derived.Test.YtnijlmkodgdhlaaDoorYA

/-
  Contracts of strings.HasPrefix, HasSuffix, Index, IndexByte, Cut, Count and Split, at a sign of one byte.
-/
namespace Go.Proofs.YtnijlmkodgdhlaaDoor
open Go.RowKit Sc
set_option linter.unusedVariables false
set_option maxRecDepth 20000

theorem idx_cases (l : List UInt8) (c : UInt8) : (c ∉ l ∧ Lib.indexByte l c = -1) ∨ ∃ a b, l = a ++ c :: b ∧ c ∉ a ∧ Lib.indexByte l c = (a.length : Int) := by
  induction l with
  | nil => exact .inl ⟨by simp, rfl⟩
  | cons x l ih =>
    by_cases h : x = c
    · subst h; exact .inr ⟨[], l, rfl, by simp, by simp [Lib.indexByte]⟩
    · have hb : (x == c) = false := by simpa using h
      rcases ih with ⟨h1, h2⟩ | ⟨a, b, h1, h2, h3⟩
      · exact .inl ⟨by rw [List.mem_cons, not_or]; exact ⟨fun e => h e.symm, h1⟩, by simp [Lib.indexByte, hb, h2]⟩
      · refine .inr ⟨x :: a, b, by rw [h1]; rfl, by rw [List.mem_cons, not_or]; exact ⟨fun e => h e.symm, h2⟩, ?_⟩
        rw [Lib.indexByte, hb, h3]
        have : ((a.length : Int) == -1) = false := by rw [beq_eq_false_iff_ne]; omega
        simp [this]

set_option maxHeartbeats 400000 in
theorem slIndexByte_any (s : ByteArray) (c : UInt8) (w : World) :
    Calls Tryd.prog 80 #[.string s, .int .u8 c.toNat] w fun e w' => e = .returned (.int .i64 (Lib.indexByte s.data.toList c)) ∧ w' = w := by
  have hc : (c.toNat : Int).toNat.toUInt8 = c := by simp
  go_enter Tryd.func80, Tryd.ntmps80
  go_wp2
  rw [run_callFunc_extern Tryd.func91 (by kernel_rfl) (by kernel_rfl) (by kernel_rfl) (e := Extern.BytealgIndexByte.indexByte) (by kernel_rfl), Lib.run_indexByteString, hc]
  simp only [Result.andThen]
  rw [Oper.upon_value]
  go_wp2
  go_ret
  exact ⟨rfl, rfl⟩

set_option maxHeartbeats 400000 in
theorem strIndexByte_any (s : ByteArray) (c : UInt8) (w : World) :
    Calls Tryd.prog 64 #[.string s, .int .u8 c.toNat] w fun e w' => e = .returned (.int .i64 (Lib.indexByte s.data.toList c)) ∧ w' = w := by
  go_enter Tryd.func64, Tryd.ntmps64
  go_wp2_with (go_at_call 80; refine (slIndexByte_any _ _ _).mono ?_; rintro e w' ⟨rfl, rfl⟩)
  go_ret
  exact ⟨rfl, rfl⟩

set_option maxHeartbeats 1000000 in
theorem slIndex_any (s : ByteArray) (c : UInt8) (w : World) :
    Calls Tryd.prog 106 #[.string s, .string ⟨#[c]⟩] w fun e w' => e = .returned (.int .i64 (Lib.indexByte s.data.toList c)) ∧ w' = w := by
  have h0 : (ByteArray.mk #[c]).size = 1 := rfl
  by_cases hs : s = ⟨#[c]⟩
  · subst hs
    have hv : Hid (Lib.indexByte (ByteArray.mk #[c]).data.toList c = 0) := show _ = _ by simp [Lib.indexByte]
    go_enter Tryd.func106, Tryd.ntmps106
    go_wp2
    go_ret
    exact ⟨ret_int hv.out.symm, rfl⟩
  · have hne : ([c] == s.toList) = false := by
      rw [beq_eq_false_iff_ne]
      intro e
      apply hs
      rw [ByteArray.toList_eq] at e
      apply ByteArray.ext
      exact (Array.toList_inj.1 (show s.data.toList = (#[c] : Array UInt8).toList from e.symm))
    go_enter Tryd.func106, Tryd.ntmps106
    go_wp2_with (go_at_call 80; refine (slIndexByte_any _ c _).mono ?_; rintro e w' ⟨rfl, rfl⟩)
    go_ret
    exact ⟨rfl, rfl⟩

set_option maxHeartbeats 400000 in
theorem strIndex_any (s : ByteArray) (c : UInt8) (w : World) :
    Calls Tryd.prog 105 #[.string s, .string ⟨#[c]⟩] w fun e w' => e = .returned (.int .i64 (Lib.indexByte s.data.toList c)) ∧ w' = w := by
  go_enter Tryd.func105, Tryd.ntmps105
  go_wp2_with (go_at_call 106; refine (slIndex_any _ c _).mono ?_; rintro e w' ⟨rfl, rfl⟩)
  go_ret
  exact ⟨rfl, rfl⟩

theorem cut_data (s : ByteArray) {a b : List UInt8} {c : UInt8} (h : s.data.toList = a ++ c :: b) : s.extract 0 a.length = ⟨a.toArray⟩ ∧ s.extract (a.length + 1) s.size = ⟨b.toArray⟩ ∧ s.size = a.length + 1 + b.length := by
  have hl := len_data s
  rw [h] at hl
  simp at hl
  refine ⟨?_, ?_, by omega⟩
  · rw [ext_list, h]; simp
  · rw [ext_list, h, List.drop_append, List.drop_eq_nil_of_le (by omega), ← hl]
    have e : a.length + 1 - a.length = 1 := by omega
    have e2 : a.length + (b.length + 1) - (a.length + 1) = b.length := by omega
    rw [e, e2]; simp

set_option maxHeartbeats 1000000 in
theorem slCut_any (s : ByteArray) (c : UInt8) (w : World) (hs : s.size ≤ 9223372036854775807) :
    Calls Tryd.prog 104 #[.string s, .string ⟨#[c]⟩] w fun e w' => e = .returned (.tuple #[.string ⟨(cutL c s.data.toList).1.toArray⟩, .string ⟨(cutL c s.data.toList).2.1.toArray⟩, .bool (cutL c s.data.toList).2.2]) ∧ ∃ q, w' = w.drewN q := by
  have h0 : (ByteArray.mk #[c]).size = 1 := rfl
  rcases idx_cases s.data.toList c with ⟨h1, h2⟩ | ⟨a, b, h1, h2, h3⟩
  · have hv : Hid (cutL c s.data.toList = (s.data.toList, [], false)) := cutL_miss h1
    clear h1
    go_enter Tryd.func104, Tryd.ntmps104
    go_wp2_with (go_at_call 106; refine (slIndex_any _ c _).mono ?_; rintro e w' ⟨rfl, rfl⟩; rw [h2])
    go_ret3
    exact ⟨ret_cut hv.out, 0, rfl⟩
  · obtain ⟨e1, e2, e3⟩ := cut_data s h1
    have hv : Hid (cutL c s.data.toList = (a, b, true)) := show _ = _ by rw [h1]; exact cutL_hit h2
    have E1 : Hid _ := e1
    rw [e3] at e2
    have E2 : Hid _ := e2
    clear e1 e2 h1 h2
    have hk : a.length < s.size := by omega
    have hwr : IntKind.i64.wrap ((a.length : Int) + 1) = ((a.length + 1 : Nat) : Int) := by
      simp [IntKind.wrap, IntKind.bits, IntKind.signed]; omega
    go_enter Tryd.func104, Tryd.ntmps104
    go_wp2_with (go_at_call 106; refine (slIndex_any _ c _).mono ?_; rintro e w' ⟨rfl, rfl⟩; rw [h3])
    go_quiet (fail)
    go_wp2
    go_ret3
    exact ⟨ret_cut (by rw [hv.out, E1.out, E2.out]), nq, rfl⟩

set_option maxHeartbeats 400000 in
theorem strCut_any (s : ByteArray) (c : UInt8) (w : World) (hs : s.size ≤ 9223372036854775807) :
    Calls Tryd.prog 101 #[.string s, .string ⟨#[c]⟩] w fun e w' => e = .returned (.tuple #[.string ⟨(cutL c s.data.toList).1.toArray⟩, .string ⟨(cutL c s.data.toList).2.1.toArray⟩, .bool (cutL c s.data.toList).2.2]) ∧ ∃ q, w' = w.drewN q := by
  go_enter Tryd.func101, Tryd.ntmps101
  go_wp2_with (go_at_call 104; refine (slCut_any _ c _ hs).mono ?_; rintro e w' ⟨rfl, q, rfl⟩)
  go_ret3
  exact ⟨rfl, q, rfl⟩

def startsB (c : UInt8) (l : List UInt8) : Bool := l.getD 0 0 == c
def endsB (c : UInt8) (l : List UInt8) : Bool := l.getD (l.length - 1) 0 == c
set_option maxHeartbeats 400000 in
theorem slPrefix_any (s : ByteArray) (c : UInt8) (w : World) (h0c : (0 == c) = false) :
    Calls Tryd.prog 94 #[.string s, .string ⟨#[c]⟩] w fun e w' => e = .returned (.bool (startsB c s.data.toList)) ∧ w' = w := by
  have h0 : (ByteArray.mk #[c]).size = 1 := rfl
  by_cases hs : 1 ≤ s.size
  · have e1 : Hid ((s.extract 0 1).toList = [s.data.toList.getD 0 0]) := show _ = _ by
      rw [ByteArray.toList_eq, ext_list]
      have hl := len_data s
      cases hd : s.data.toList with
      | nil => rw [hd] at hl; simp at hl; omega
      | cons x l => simp
    go_enter Tryd.func94, Tryd.ntmps94
    go_wp2
    go_ret
    refine ⟨ret_bool ?_, rfl⟩
    rw [e1.out, startsB]
    simp
  · have hl : Hid (startsB c s.data.toList = false) := show _ = _ by
      rw [List.eq_nil_of_length_eq_zero (l := s.data.toList) (by rw [len_data]; omega)]; exact h0c
    go_enter Tryd.func94, Tryd.ntmps94
    go_wp2
    go_ret
    exact ⟨ret_bool hl.out.symm, rfl⟩
set_option maxHeartbeats 400000 in
theorem strPrefix_any (s : ByteArray) (c : UInt8) (w : World) (h0c : (0 == c) = false) :
    Calls Tryd.prog 98 #[.string s, .string ⟨#[c]⟩] w fun e w' => e = .returned (.bool (startsB c s.data.toList)) ∧ w' = w := by
  go_enter Tryd.func98, Tryd.ntmps98
  go_wp2_with (go_at_call 94; refine (slPrefix_any _ c _ h0c).mono ?_; rintro e w' ⟨rfl, rfl⟩)
  go_ret
  exact ⟨rfl, rfl⟩
end Go.Proofs.YtnijlmkodgdhlaaDoor

/-
  Contracts of the document's own has, Class and All.
-/
namespace Go.Proofs.YtnijlmkodgdhlaaDoor
open Go.RowKit Sc
set_option linter.unusedVariables false
set_option maxRecDepth 20000

def hasB (c : Int) (s : ByteArray) : Bool := s.data.toList.any fun b => (b.toNat : Int) == c
theorem hasB_hit {c : Int} {s : ByteArray} {k : Nat} (h : k < s.size) (hb : (s[k].toNat : Int) = c) : hasB c s = true := by
  rw [hasB, List.any_eq_true]
  exact ⟨s[k], List.mem_of_getElem? (getL s k h), by simp [hb]⟩

set_option maxHeartbeats 400000 in
theorem has_any (s : ByteArray) (c : Int) (w : World) (hs : s.size ≤ maxLen) :
    Calls Tryd.prog 51 #[.string s, .int .u8 c] w fun e w' => e = .returned (.bool (hasB c s)) ∧ w' = w := by
  unfold maxLen at hs
  go_enter Tryd.func51, Tryd.ntmps51
  go_wp2
  go_loop [5] (fun i => ∃ k : Nat, k ≤ s.size ∧ i = .int .i64 k ∧ Hid ((s.data.toList.take k).any (fun b => (b.toNat : Int) == c) = false)) (fun i => s.size - (intOf i).toNat)
  case atStart => exact ⟨0, Nat.zero_le _, rfl, rfl⟩
  case round =>
    obtain ⟨k, hk, rfl, hall⟩ := hrel
    by_cases hlt : k < s.size
    · by_cases hb : (s[k].toNat : Int) = c
      · have hb' : ((s[k].toNat : Int) == c) = true := by simpa using hb
        have HH : Hid (hasB c s = true) := hasB_hit hlt hb
        clear hb
        go_wp2
        go_ret
        exact ⟨ret_bool HH.out.symm, rfl⟩
      · have hb' : ((s[k].toNat : Int) == c) = false := by simpa using hb
        clear hb
        go_wp2
        go_round
        case rel => exact ⟨k + 1, by omega, by go_num, show _ = _ by rw [take_snoc s k hlt, List.any_append, hall.out]; simpa using hb'⟩
        case measure => simp [intOf]; omega
    · go_wp2
      go_ret
      exact ⟨ret_bool (by rw [hasB, ← hall.out, take_all s k (by omega)]), rfl⟩

theorem of256 {p : Int → Prop} (h : ∀ n : Fin 256, p (n.val : Int)) (c : Int) (h0 : 0 ≤ c) (h1 : c ≤ 255) : p c := by
  obtain ⟨n, rfl⟩ := Int.eq_ofNat_of_zero_le h0
  exact h ⟨n, by omega⟩

def bDg (c : Int) : Bool := decide (48 ≤ c ∧ c ≤ 57)
theorem hasDg (c : Int) (w : World) (h0 : 0 ≤ c) (h1 : c ≤ 255) : Calls Tryd.prog 51 #[.string ⟨#[48, 49, 50, 51, 52, 53, 54, 55, 56, 57]⟩, .int .u8 c] w fun e w' => e = .returned (.bool (bDg c)) ∧ w' = w := by
  have h : hasB c ⟨#[48, 49, 50, 51, 52, 53, 54, 55, 56, 57]⟩ = bDg c := of256 (p := fun c => hasB c ⟨#[48, 49, 50, 51, 52, 53, 54, 55, 56, 57]⟩ = bDg c) (by decide +kernel) c h0 h1
  rw [← h]
  exact has_any _ c w (by decide)
def bLe (c : Int) : Bool := decide (97 ≤ c ∧ c ≤ 122 ∨ 65 ≤ c ∧ c ≤ 90)
theorem hasLe (c : Int) (w : World) (h0 : 0 ≤ c) (h1 : c ≤ 255) : Calls Tryd.prog 51 #[.string ⟨#[97, 98, 99, 100, 101, 102, 103, 104, 105, 106, 107, 108, 109, 110, 111, 112, 113, 114, 115, 116, 117, 118, 119, 120, 121, 122, 65, 66, 67, 68, 69, 70, 71, 72, 73, 74, 75, 76, 77, 78, 79, 80, 81, 82, 83, 84, 85, 86, 87, 88, 89, 90]⟩, .int .u8 c] w fun e w' => e = .returned (.bool (bLe c)) ∧ w' = w := by
  have h : hasB c ⟨#[97, 98, 99, 100, 101, 102, 103, 104, 105, 106, 107, 108, 109, 110, 111, 112, 113, 114, 115, 116, 117, 118, 119, 120, 121, 122, 65, 66, 67, 68, 69, 70, 71, 72, 73, 74, 75, 76, 77, 78, 79, 80, 81, 82, 83, 84, 85, 86, 87, 88, 89, 90]⟩ = bLe c := of256 (p := fun c => hasB c ⟨#[97, 98, 99, 100, 101, 102, 103, 104, 105, 106, 107, 108, 109, 110, 111, 112, 113, 114, 115, 116, 117, 118, 119, 120, 121, 122, 65, 66, 67, 68, 69, 70, 71, 72, 73, 74, 75, 76, 77, 78, 79, 80, 81, 82, 83, 84, 85, 86, 87, 88, 89, 90]⟩ = bLe c) (by decide +kernel) c h0 h1
  rw [← h]
  exact has_any _ c w (by decide)
def bHx (c : Int) : Bool := decide (48 ≤ c ∧ c ≤ 57 ∨ 97 ≤ c ∧ c ≤ 102 ∨ 65 ≤ c ∧ c ≤ 70)
theorem hasHx (c : Int) (w : World) (h0 : 0 ≤ c) (h1 : c ≤ 255) : Calls Tryd.prog 51 #[.string ⟨#[48, 49, 50, 51, 52, 53, 54, 55, 56, 57, 97, 98, 99, 100, 101, 102, 65, 66, 67, 68, 69, 70]⟩, .int .u8 c] w fun e w' => e = .returned (.bool (bHx c)) ∧ w' = w := by
  have h : hasB c ⟨#[48, 49, 50, 51, 52, 53, 54, 55, 56, 57, 97, 98, 99, 100, 101, 102, 65, 66, 67, 68, 69, 70]⟩ = bHx c := of256 (p := fun c => hasB c ⟨#[48, 49, 50, 51, 52, 53, 54, 55, 56, 57, 97, 98, 99, 100, 101, 102, 65, 66, 67, 68, 69, 70]⟩ = bHx c) (by decide +kernel) c h0 h1
  rw [← h]
  exact has_any _ c w (by decide)
def bTk (c : Int) : Bool := decide (48 ≤ c ∧ c ≤ 57 ∨ 97 ≤ c ∧ c ≤ 122 ∨ 65 ≤ c ∧ c ≤ 90 ∨ c = 45 ∨ c = 46 ∨ c = 33 ∨ c = 37 ∨ c = 42 ∨ c = 95 ∨ c = 43 ∨ c = 96 ∨ c = 39 ∨ c = 126)
theorem hasTk (c : Int) (w : World) (h0 : 0 ≤ c) (h1 : c ≤ 255) : Calls Tryd.prog 51 #[.string ⟨#[48, 49, 50, 51, 52, 53, 54, 55, 56, 57, 97, 98, 99, 100, 101, 102, 103, 104, 105, 106, 107, 108, 109, 110, 111, 112, 113, 114, 115, 116, 117, 118, 119, 120, 121, 122, 65, 66, 67, 68, 69, 70, 71, 72, 73, 74, 75, 76, 77, 78, 79, 80, 81, 82, 83, 84, 85, 86, 87, 88, 89, 90, 45, 46, 33, 37, 42, 95, 43, 96, 39, 126]⟩, .int .u8 c] w fun e w' => e = .returned (.bool (bTk c)) ∧ w' = w := by
  have h : hasB c ⟨#[48, 49, 50, 51, 52, 53, 54, 55, 56, 57, 97, 98, 99, 100, 101, 102, 103, 104, 105, 106, 107, 108, 109, 110, 111, 112, 113, 114, 115, 116, 117, 118, 119, 120, 121, 122, 65, 66, 67, 68, 69, 70, 71, 72, 73, 74, 75, 76, 77, 78, 79, 80, 81, 82, 83, 84, 85, 86, 87, 88, 89, 90, 45, 46, 33, 37, 42, 95, 43, 96, 39, 126]⟩ = bTk c := of256 (p := fun c => hasB c ⟨#[48, 49, 50, 51, 52, 53, 54, 55, 56, 57, 97, 98, 99, 100, 101, 102, 103, 104, 105, 106, 107, 108, 109, 110, 111, 112, 113, 114, 115, 116, 117, 118, 119, 120, 121, 122, 65, 66, 67, 68, 69, 70, 71, 72, 73, 74, 75, 76, 77, 78, 79, 80, 81, 82, 83, 84, 85, 86, 87, 88, 89, 90, 45, 46, 33, 37, 42, 95, 43, 96, 39, 126]⟩ = bTk c) (by decide +kernel) c h0 h1
  rw [← h]
  exact has_any _ c w (by decide)
def bPl (c : Int) : Bool := decide (48 ≤ c ∧ c ≤ 57 ∨ 97 ≤ c ∧ c ≤ 122 ∨ 65 ≤ c ∧ c ≤ 90 ∨ c = 45 ∨ c = 95 ∨ c = 46 ∨ c = 33 ∨ c = 126 ∨ c = 42 ∨ c = 39 ∨ c = 40 ∨ c = 41)
theorem hasPl (c : Int) (w : World) (h0 : 0 ≤ c) (h1 : c ≤ 255) : Calls Tryd.prog 51 #[.string ⟨#[48, 49, 50, 51, 52, 53, 54, 55, 56, 57, 97, 98, 99, 100, 101, 102, 103, 104, 105, 106, 107, 108, 109, 110, 111, 112, 113, 114, 115, 116, 117, 118, 119, 120, 121, 122, 65, 66, 67, 68, 69, 70, 71, 72, 73, 74, 75, 76, 77, 78, 79, 80, 81, 82, 83, 84, 85, 86, 87, 88, 89, 90, 45, 95, 46, 33, 126, 42, 39, 40, 41]⟩, .int .u8 c] w fun e w' => e = .returned (.bool (bPl c)) ∧ w' = w := by
  have h : hasB c ⟨#[48, 49, 50, 51, 52, 53, 54, 55, 56, 57, 97, 98, 99, 100, 101, 102, 103, 104, 105, 106, 107, 108, 109, 110, 111, 112, 113, 114, 115, 116, 117, 118, 119, 120, 121, 122, 65, 66, 67, 68, 69, 70, 71, 72, 73, 74, 75, 76, 77, 78, 79, 80, 81, 82, 83, 84, 85, 86, 87, 88, 89, 90, 45, 95, 46, 33, 126, 42, 39, 40, 41]⟩ = bPl c := of256 (p := fun c => hasB c ⟨#[48, 49, 50, 51, 52, 53, 54, 55, 56, 57, 97, 98, 99, 100, 101, 102, 103, 104, 105, 106, 107, 108, 109, 110, 111, 112, 113, 114, 115, 116, 117, 118, 119, 120, 121, 122, 65, 66, 67, 68, 69, 70, 71, 72, 73, 74, 75, 76, 77, 78, 79, 80, 81, 82, 83, 84, 85, 86, 87, 88, 89, 90, 45, 95, 46, 33, 126, 42, 39, 40, 41]⟩ = bPl c) (by decide +kernel) c h0 h1
  rw [← h]
  exact has_any _ c w (by decide)
def bHo (c : Int) : Bool := decide (48 ≤ c ∧ c ≤ 57 ∨ 97 ≤ c ∧ c ≤ 122 ∨ 65 ≤ c ∧ c ≤ 90 ∨ c = 45 ∨ c = 46)
theorem hasHo (c : Int) (w : World) (h0 : 0 ≤ c) (h1 : c ≤ 255) : Calls Tryd.prog 51 #[.string ⟨#[48, 49, 50, 51, 52, 53, 54, 55, 56, 57, 97, 98, 99, 100, 101, 102, 103, 104, 105, 106, 107, 108, 109, 110, 111, 112, 113, 114, 115, 116, 117, 118, 119, 120, 121, 122, 65, 66, 67, 68, 69, 70, 71, 72, 73, 74, 75, 76, 77, 78, 79, 80, 81, 82, 83, 84, 85, 86, 87, 88, 89, 90, 45, 46]⟩, .int .u8 c] w fun e w' => e = .returned (.bool (bHo c)) ∧ w' = w := by
  have h : hasB c ⟨#[48, 49, 50, 51, 52, 53, 54, 55, 56, 57, 97, 98, 99, 100, 101, 102, 103, 104, 105, 106, 107, 108, 109, 110, 111, 112, 113, 114, 115, 116, 117, 118, 119, 120, 121, 122, 65, 66, 67, 68, 69, 70, 71, 72, 73, 74, 75, 76, 77, 78, 79, 80, 81, 82, 83, 84, 85, 86, 87, 88, 89, 90, 45, 46]⟩ = bHo c := of256 (p := fun c => hasB c ⟨#[48, 49, 50, 51, 52, 53, 54, 55, 56, 57, 97, 98, 99, 100, 101, 102, 103, 104, 105, 106, 107, 108, 109, 110, 111, 112, 113, 114, 115, 116, 117, 118, 119, 120, 121, 122, 65, 66, 67, 68, 69, 70, 71, 72, 73, 74, 75, 76, 77, 78, 79, 80, 81, 82, 83, 84, 85, 86, 87, 88, 89, 90, 45, 46]⟩ = bHo c) (by decide +kernel) c h0 h1
  rw [← h]
  exact has_any _ c w (by decide)
set_option maxHeartbeats 400000 in
theorem refclass0 (c : Int) (w : World) (h0 : 0 ≤ c) (h1 : c ≤ 255) (h : 48 ≤ c ∧ c ≤ 57) :
    Calls Tryd.prog 33 #[.int .u8 c] w fun e w' => e = .returned (.int .i64 (cls c)) ∧ w' = w := by
  have tDg : bDg c = true := decide_eq_true (by omega)
  have tLe : bLe c = false := decide_eq_false (by omega)
  have tHx : bHx c = true := decide_eq_true (by omega)
  have tTk : bTk c = true := decide_eq_true (by omega)
  have tPl : bPl c = true := decide_eq_true (by omega)
  have tHo : bHo c = true := decide_eq_true (by omega)
  have hv : Hid (cls c = 93) := by show _ = _; unfold cls low sgn; (repeat' split) <;> omega
  have e32 : (c == 32) = false := by simp; omega
  have e9 : (c == 9) = false := by simp; omega
  clear h
  go_enter Tryd.func33, Tryd.ntmps33
  go_wp2_with fail
  refine (hasDg _ _ h0 h1).mono ?_
  rintro e w' ⟨rfl, rfl⟩
  go_wp2_with fail
  refine (hasLe _ _ h0 h1).mono ?_
  rintro e w' ⟨rfl, rfl⟩
  go_wp2_with fail
  refine (hasHx _ _ h0 h1).mono ?_
  rintro e w' ⟨rfl, rfl⟩
  go_wp2_with fail
  refine (hasTk _ _ h0 h1).mono ?_
  rintro e w' ⟨rfl, rfl⟩
  go_wp2_with fail
  refine (hasPl _ _ h0 h1).mono ?_
  rintro e w' ⟨rfl, rfl⟩
  go_wp2_with fail
  refine (hasHo _ _ h0 h1).mono ?_
  rintro e w' ⟨rfl, rfl⟩
  go_wp2
  go_ret
  exact ⟨ret_int hv.out.symm, rfl⟩

set_option maxHeartbeats 400000 in
theorem refclass1 (c : Int) (w : World) (h0 : 0 ≤ c) (h1 : c ≤ 255) (h : 97 ≤ c ∧ c ≤ 102 ∨ 65 ≤ c ∧ c ≤ 70) :
    Calls Tryd.prog 33 #[.int .u8 c] w fun e w' => e = .returned (.int .i64 (cls c)) ∧ w' = w := by
  have tDg : bDg c = false := decide_eq_false (by omega)
  have tLe : bLe c = true := decide_eq_true (by omega)
  have tHx : bHx c = true := decide_eq_true (by omega)
  have tTk : bTk c = true := decide_eq_true (by omega)
  have tPl : bPl c = true := decide_eq_true (by omega)
  have tHo : bHo c = true := decide_eq_true (by omega)
  have hv : Hid (cls c = 94) := by show _ = _; unfold cls low sgn; (repeat' split) <;> omega
  have e32 : (c == 32) = false := by simp; omega
  have e9 : (c == 9) = false := by simp; omega
  clear h
  go_enter Tryd.func33, Tryd.ntmps33
  go_wp2_with fail
  refine (hasDg _ _ h0 h1).mono ?_
  rintro e w' ⟨rfl, rfl⟩
  go_wp2_with fail
  refine (hasLe _ _ h0 h1).mono ?_
  rintro e w' ⟨rfl, rfl⟩
  go_wp2_with fail
  refine (hasHx _ _ h0 h1).mono ?_
  rintro e w' ⟨rfl, rfl⟩
  go_wp2_with fail
  refine (hasTk _ _ h0 h1).mono ?_
  rintro e w' ⟨rfl, rfl⟩
  go_wp2_with fail
  refine (hasPl _ _ h0 h1).mono ?_
  rintro e w' ⟨rfl, rfl⟩
  go_wp2_with fail
  refine (hasHo _ _ h0 h1).mono ?_
  rintro e w' ⟨rfl, rfl⟩
  go_wp2
  go_ret
  exact ⟨ret_int hv.out.symm, rfl⟩

set_option maxHeartbeats 400000 in
theorem refclass2 (c : Int) (w : World) (h0 : 0 ≤ c) (h1 : c ≤ 255) (h : 103 ≤ c ∧ c ≤ 122 ∨ 71 ≤ c ∧ c ≤ 90) :
    Calls Tryd.prog 33 #[.int .u8 c] w fun e w' => e = .returned (.int .i64 (cls c)) ∧ w' = w := by
  have tDg : bDg c = false := decide_eq_false (by omega)
  have tLe : bLe c = true := decide_eq_true (by omega)
  have tHx : bHx c = false := decide_eq_false (by omega)
  have tTk : bTk c = true := decide_eq_true (by omega)
  have tPl : bPl c = true := decide_eq_true (by omega)
  have tHo : bHo c = true := decide_eq_true (by omega)
  have hv : Hid (cls c = 90) := by show _ = _; unfold cls low sgn; (repeat' split) <;> omega
  have e32 : (c == 32) = false := by simp; omega
  have e9 : (c == 9) = false := by simp; omega
  clear h
  go_enter Tryd.func33, Tryd.ntmps33
  go_wp2_with fail
  refine (hasDg _ _ h0 h1).mono ?_
  rintro e w' ⟨rfl, rfl⟩
  go_wp2_with fail
  refine (hasLe _ _ h0 h1).mono ?_
  rintro e w' ⟨rfl, rfl⟩
  go_wp2_with fail
  refine (hasHx _ _ h0 h1).mono ?_
  rintro e w' ⟨rfl, rfl⟩
  go_wp2_with fail
  refine (hasTk _ _ h0 h1).mono ?_
  rintro e w' ⟨rfl, rfl⟩
  go_wp2_with fail
  refine (hasPl _ _ h0 h1).mono ?_
  rintro e w' ⟨rfl, rfl⟩
  go_wp2_with fail
  refine (hasHo _ _ h0 h1).mono ?_
  rintro e w' ⟨rfl, rfl⟩
  go_wp2
  go_ret
  exact ⟨ret_int hv.out.symm, rfl⟩

set_option maxHeartbeats 400000 in
theorem refclass3 (c : Int) (w : World) (h0 : 0 ≤ c) (h1 : c ≤ 255) (h : c = 45 ∨ c = 46) :
    Calls Tryd.prog 33 #[.int .u8 c] w fun e w' => e = .returned (.int .i64 (cls c)) ∧ w' = w := by
  have tDg : bDg c = false := decide_eq_false (by omega)
  have tLe : bLe c = false := decide_eq_false (by omega)
  have tHx : bHx c = false := decide_eq_false (by omega)
  have tTk : bTk c = true := decide_eq_true (by omega)
  have tPl : bPl c = true := decide_eq_true (by omega)
  have tHo : bHo c = true := decide_eq_true (by omega)
  have hv : Hid (cls c = 88) := by show _ = _; unfold cls low sgn; (repeat' split) <;> omega
  have e32 : (c == 32) = false := by simp; omega
  have e9 : (c == 9) = false := by simp; omega
  clear h
  go_enter Tryd.func33, Tryd.ntmps33
  go_wp2_with fail
  refine (hasDg _ _ h0 h1).mono ?_
  rintro e w' ⟨rfl, rfl⟩
  go_wp2_with fail
  refine (hasLe _ _ h0 h1).mono ?_
  rintro e w' ⟨rfl, rfl⟩
  go_wp2_with fail
  refine (hasHx _ _ h0 h1).mono ?_
  rintro e w' ⟨rfl, rfl⟩
  go_wp2_with fail
  refine (hasTk _ _ h0 h1).mono ?_
  rintro e w' ⟨rfl, rfl⟩
  go_wp2_with fail
  refine (hasPl _ _ h0 h1).mono ?_
  rintro e w' ⟨rfl, rfl⟩
  go_wp2_with fail
  refine (hasHo _ _ h0 h1).mono ?_
  rintro e w' ⟨rfl, rfl⟩
  go_wp2
  go_ret
  exact ⟨ret_int hv.out.symm, rfl⟩

set_option maxHeartbeats 400000 in
theorem refclass4 (c : Int) (w : World) (h0 : 0 ≤ c) (h1 : c ≤ 255) (h : c = 33 ∨ c = 126 ∨ c = 42 ∨ c = 95 ∨ c = 39) :
    Calls Tryd.prog 33 #[.int .u8 c] w fun e w' => e = .returned (.int .i64 (cls c)) ∧ w' = w := by
  have tDg : bDg c = false := decide_eq_false (by omega)
  have tLe : bLe c = false := decide_eq_false (by omega)
  have tHx : bHx c = false := decide_eq_false (by omega)
  have tTk : bTk c = true := decide_eq_true (by omega)
  have tPl : bPl c = true := decide_eq_true (by omega)
  have tHo : bHo c = false := decide_eq_false (by omega)
  have hv : Hid (cls c = 24) := by show _ = _; unfold cls low sgn; (repeat' split) <;> omega
  have e32 : (c == 32) = false := by simp; omega
  have e9 : (c == 9) = false := by simp; omega
  clear h
  go_enter Tryd.func33, Tryd.ntmps33
  go_wp2_with fail
  refine (hasDg _ _ h0 h1).mono ?_
  rintro e w' ⟨rfl, rfl⟩
  go_wp2_with fail
  refine (hasLe _ _ h0 h1).mono ?_
  rintro e w' ⟨rfl, rfl⟩
  go_wp2_with fail
  refine (hasHx _ _ h0 h1).mono ?_
  rintro e w' ⟨rfl, rfl⟩
  go_wp2_with fail
  refine (hasTk _ _ h0 h1).mono ?_
  rintro e w' ⟨rfl, rfl⟩
  go_wp2_with fail
  refine (hasPl _ _ h0 h1).mono ?_
  rintro e w' ⟨rfl, rfl⟩
  go_wp2_with fail
  refine (hasHo _ _ h0 h1).mono ?_
  rintro e w' ⟨rfl, rfl⟩
  go_wp2
  go_ret
  exact ⟨ret_int hv.out.symm, rfl⟩

set_option maxHeartbeats 400000 in
theorem refclass5 (c : Int) (w : World) (h0 : 0 ≤ c) (h1 : c ≤ 255) (h : c = 37 ∨ c = 43 ∨ c = 96) :
    Calls Tryd.prog 33 #[.int .u8 c] w fun e w' => e = .returned (.int .i64 (cls c)) ∧ w' = w := by
  have tDg : bDg c = false := decide_eq_false (by omega)
  have tLe : bLe c = false := decide_eq_false (by omega)
  have tHx : bHx c = false := decide_eq_false (by omega)
  have tTk : bTk c = true := decide_eq_true (by omega)
  have tPl : bPl c = false := decide_eq_false (by omega)
  have tHo : bHo c = false := decide_eq_false (by omega)
  have hv : Hid (cls c = 8) := by show _ = _; unfold cls low sgn; (repeat' split) <;> omega
  have e32 : (c == 32) = false := by simp; omega
  have e9 : (c == 9) = false := by simp; omega
  clear h
  go_enter Tryd.func33, Tryd.ntmps33
  go_wp2_with fail
  refine (hasDg _ _ h0 h1).mono ?_
  rintro e w' ⟨rfl, rfl⟩
  go_wp2_with fail
  refine (hasLe _ _ h0 h1).mono ?_
  rintro e w' ⟨rfl, rfl⟩
  go_wp2_with fail
  refine (hasHx _ _ h0 h1).mono ?_
  rintro e w' ⟨rfl, rfl⟩
  go_wp2_with fail
  refine (hasTk _ _ h0 h1).mono ?_
  rintro e w' ⟨rfl, rfl⟩
  go_wp2_with fail
  refine (hasPl _ _ h0 h1).mono ?_
  rintro e w' ⟨rfl, rfl⟩
  go_wp2_with fail
  refine (hasHo _ _ h0 h1).mono ?_
  rintro e w' ⟨rfl, rfl⟩
  go_wp2
  go_ret
  exact ⟨ret_int hv.out.symm, rfl⟩

set_option maxHeartbeats 400000 in
theorem refclass6 (c : Int) (w : World) (h0 : 0 ≤ c) (h1 : c ≤ 255) (h : c = 40 ∨ c = 41) :
    Calls Tryd.prog 33 #[.int .u8 c] w fun e w' => e = .returned (.int .i64 (cls c)) ∧ w' = w := by
  have tDg : bDg c = false := decide_eq_false (by omega)
  have tLe : bLe c = false := decide_eq_false (by omega)
  have tHx : bHx c = false := decide_eq_false (by omega)
  have tTk : bTk c = false := decide_eq_false (by omega)
  have tPl : bPl c = true := decide_eq_true (by omega)
  have tHo : bHo c = false := decide_eq_false (by omega)
  have hv : Hid (cls c = 16) := by show _ = _; unfold cls low sgn; (repeat' split) <;> omega
  have e32 : (c == 32) = false := by simp; omega
  have e9 : (c == 9) = false := by simp; omega
  clear h
  go_enter Tryd.func33, Tryd.ntmps33
  go_wp2_with fail
  refine (hasDg _ _ h0 h1).mono ?_
  rintro e w' ⟨rfl, rfl⟩
  go_wp2_with fail
  refine (hasLe _ _ h0 h1).mono ?_
  rintro e w' ⟨rfl, rfl⟩
  go_wp2_with fail
  refine (hasHx _ _ h0 h1).mono ?_
  rintro e w' ⟨rfl, rfl⟩
  go_wp2_with fail
  refine (hasTk _ _ h0 h1).mono ?_
  rintro e w' ⟨rfl, rfl⟩
  go_wp2_with fail
  refine (hasPl _ _ h0 h1).mono ?_
  rintro e w' ⟨rfl, rfl⟩
  go_wp2_with fail
  refine (hasHo _ _ h0 h1).mono ?_
  rintro e w' ⟨rfl, rfl⟩
  go_wp2
  go_ret
  exact ⟨ret_int hv.out.symm, rfl⟩

set_option maxHeartbeats 400000 in
theorem refclass7 (c : Int) (w : World) (h0 : 0 ≤ c) (h1 : c ≤ 255) (h : c = 32 ∨ c = 9) :
    Calls Tryd.prog 33 #[.int .u8 c] w fun e w' => e = .returned (.int .i64 (cls c)) ∧ w' = w := by
  have tDg : bDg c = false := decide_eq_false (by omega)
  have tLe : bLe c = false := decide_eq_false (by omega)
  have tHx : bHx c = false := decide_eq_false (by omega)
  have tTk : bTk c = false := decide_eq_false (by omega)
  have tPl : bPl c = false := decide_eq_false (by omega)
  have tHo : bHo c = false := decide_eq_false (by omega)
  have hv : Hid (cls c = 32) := by show _ = _; unfold cls low sgn; (repeat' split) <;> omega
  rcases h with h | h
  all_goals
    subst h
    go_enter Tryd.func33, Tryd.ntmps33
    go_wp2_with fail
    refine (hasDg _ _ h0 h1).mono ?_
    rintro e w' ⟨rfl, rfl⟩
    go_wp2_with fail
    refine (hasLe _ _ h0 h1).mono ?_
    rintro e w' ⟨rfl, rfl⟩
    go_wp2_with fail
    refine (hasHx _ _ h0 h1).mono ?_
    rintro e w' ⟨rfl, rfl⟩
    go_wp2_with fail
    refine (hasTk _ _ h0 h1).mono ?_
    rintro e w' ⟨rfl, rfl⟩
    go_wp2_with fail
    refine (hasPl _ _ h0 h1).mono ?_
    rintro e w' ⟨rfl, rfl⟩
    go_wp2_with fail
    refine (hasHo _ _ h0 h1).mono ?_
    rintro e w' ⟨rfl, rfl⟩
    go_wp2
    go_ret
    exact ⟨ret_int hv.out.symm, rfl⟩

set_option maxHeartbeats 400000 in
theorem refclass8 (c : Int) (w : World) (h0 : 0 ≤ c) (h1 : c ≤ 255) (h : ¬ (48 ≤ c ∧ c ≤ 57) ∧ ¬ (97 ≤ c ∧ c ≤ 122 ∨ 65 ≤ c ∧ c ≤ 90) ∧ c ≠ 45 ∧ c ≠ 46 ∧ c ≠ 33 ∧ c ≠ 37 ∧ c ≠ 42 ∧ c ≠ 95 ∧ c ≠ 43 ∧ c ≠ 96 ∧ c ≠ 39 ∧ c ≠ 126 ∧ c ≠ 40 ∧ c ≠ 41 ∧ c ≠ 32 ∧ c ≠ 9) :
    Calls Tryd.prog 33 #[.int .u8 c] w fun e w' => e = .returned (.int .i64 (cls c)) ∧ w' = w := by
  have tDg : bDg c = false := decide_eq_false (by omega)
  have tLe : bLe c = false := decide_eq_false (by omega)
  have tHx : bHx c = false := decide_eq_false (by omega)
  have tTk : bTk c = false := decide_eq_false (by omega)
  have tPl : bPl c = false := decide_eq_false (by omega)
  have tHo : bHo c = false := decide_eq_false (by omega)
  have hv : Hid (cls c = 0) := by show _ = _; unfold cls low sgn; (repeat' split) <;> omega
  have e32 : (c == 32) = false := by simp; omega
  have e9 : (c == 9) = false := by simp; omega
  clear h
  go_enter Tryd.func33, Tryd.ntmps33
  go_wp2_with fail
  refine (hasDg _ _ h0 h1).mono ?_
  rintro e w' ⟨rfl, rfl⟩
  go_wp2_with fail
  refine (hasLe _ _ h0 h1).mono ?_
  rintro e w' ⟨rfl, rfl⟩
  go_wp2_with fail
  refine (hasHx _ _ h0 h1).mono ?_
  rintro e w' ⟨rfl, rfl⟩
  go_wp2_with fail
  refine (hasTk _ _ h0 h1).mono ?_
  rintro e w' ⟨rfl, rfl⟩
  go_wp2_with fail
  refine (hasPl _ _ h0 h1).mono ?_
  rintro e w' ⟨rfl, rfl⟩
  go_wp2_with fail
  refine (hasHo _ _ h0 h1).mono ?_
  rintro e w' ⟨rfl, rfl⟩
  go_wp2
  go_ret
  exact ⟨ret_int hv.out.symm, rfl⟩

theorem refclass_any (c : Int) (w : World) (h0 : 0 ≤ c) (h1 : c ≤ 255) :
    Calls Tryd.prog 33 #[.int .u8 c] w fun e w' => e = .returned (.int .i64 (cls c)) ∧ w' = w := by
  by_cases a0 : 48 ≤ c ∧ c ≤ 57
  · exact refclass0 c w h0 h1 a0
  by_cases a1 : 97 ≤ c ∧ c ≤ 102 ∨ 65 ≤ c ∧ c ≤ 70
  · exact refclass1 c w h0 h1 a1
  by_cases a2 : 103 ≤ c ∧ c ≤ 122 ∨ 71 ≤ c ∧ c ≤ 90
  · exact refclass2 c w h0 h1 a2
  by_cases a3 : c = 45 ∨ c = 46
  · exact refclass3 c w h0 h1 a3
  by_cases a4 : c = 33 ∨ c = 126 ∨ c = 42 ∨ c = 95 ∨ c = 39
  · exact refclass4 c w h0 h1 a4
  by_cases a5 : c = 37 ∨ c = 43 ∨ c = 96
  · exact refclass5 c w h0 h1 a5
  by_cases a6 : c = 40 ∨ c = 41
  · exact refclass6 c w h0 h1 a6
  by_cases a7 : c = 32 ∨ c = 9
  · exact refclass7 c w h0 h1 a7
  exact refclass8 c w h0 h1 (by omega)

end Go.Proofs.YtnijlmkodgdhlaaDoor
