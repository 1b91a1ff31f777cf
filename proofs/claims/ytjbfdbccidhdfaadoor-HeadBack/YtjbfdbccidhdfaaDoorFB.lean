/-
  Base texts, one behind another: RefClass, Lower.
-/
import Derived.Test.YtjbfdbccidhdfaaDoorFA

/-
  Contracts of the document's own has, Class and All.
-/
namespace Go.Proofs.YtjbfdbccidhdfaaDoor
open Go.RowKit Sc
set_option linter.unusedVariables false
set_option maxRecDepth 20000

def hasB (c : Int) (s : ByteArray) : Bool := s.data.toList.any fun b => (b.toNat : Int) == c
theorem hasB_hit {c : Int} {s : ByteArray} {k : Nat} (h : k < s.size) (hb : (s[k].toNat : Int) = c) : hasB c s = true := by
  rw [hasB, List.any_eq_true]
  exact ⟨s[k], List.mem_of_getElem? (getL s k h), by simp [hb]⟩

set_option maxHeartbeats 400000 in
theorem has_any (s : ByteArray) (c : Int) (w : World) (hs : s.size ≤ maxLen) :
    Calls Tryd.prog 64 #[.string s, .int .u8 c] w fun e w' => e = .returned (.bool (hasB c s)) ∧ w' = w := by
  unfold maxLen at hs
  go_enter Tryd.func64, Tryd.ntmps64
  go_wp2
  go_loop [5] (fun i => ∃ k : Nat, k ≤ s.size ∧ i = .int .i64 k ∧ Hid ((s.data.toList.take k).any (fun b => (b.toNat : Int) == c) = false)) (fun i => s.size - (intOf i).toNat)
  case atStart => exact ⟨0, Nat.zero_le _, rfl, rfl⟩
  case round =>
    obtain ⟨k, hk, rfl, hall⟩ := hrel
    by_cases hlt : k < s.size
    · by_cases hb : (s[k].toNat : Int) = c
      · have hb' : ((s[k].toNat : Int) == c) = true := by simpa using hb
        have HH : Hid (hasB c s = true) := hasB_hit hlt hb
        clear hb
        go_wp2
        go_ret
        exact ⟨ret_bool HH.out.symm, rfl⟩
      · have hb' : ((s[k].toNat : Int) == c) = false := by simpa using hb
        clear hb
        go_wp2
        go_round
        case rel => exact ⟨k + 1, by omega, by go_num, show _ = _ by rw [take_snoc s k hlt, List.any_append, hall.out]; simpa using hb'⟩
        case measure => simp [intOf]; omega
    · go_wp2
      go_ret
      exact ⟨ret_bool (by rw [hasB, ← hall.out, take_all s k (by omega)]), rfl⟩

theorem of256 {p : Int → Prop} (h : ∀ n : Fin 256, p (n.val : Int)) (c : Int) (h0 : 0 ≤ c) (h1 : c ≤ 255) : p c := by
  obtain ⟨n, rfl⟩ := Int.eq_ofNat_of_zero_le h0
  exact h ⟨n, by omega⟩

def bDg (c : Int) : Bool := decide (48 ≤ c ∧ c ≤ 57)
theorem hasDg (c : Int) (w : World) (h0 : 0 ≤ c) (h1 : c ≤ 255) : Calls Tryd.prog 64 #[.string ⟨#[48, 49, 50, 51, 52, 53, 54, 55, 56, 57]⟩, .int .u8 c] w fun e w' => e = .returned (.bool (bDg c)) ∧ w' = w := by
  have h : hasB c ⟨#[48, 49, 50, 51, 52, 53, 54, 55, 56, 57]⟩ = bDg c := of256 (p := fun c => hasB c ⟨#[48, 49, 50, 51, 52, 53, 54, 55, 56, 57]⟩ = bDg c) (by decide +kernel) c h0 h1
  rw [← h]
  exact has_any _ c w (by decide)
def bLe (c : Int) : Bool := decide (97 ≤ c ∧ c ≤ 122 ∨ 65 ≤ c ∧ c ≤ 90)
theorem hasLe (c : Int) (w : World) (h0 : 0 ≤ c) (h1 : c ≤ 255) : Calls Tryd.prog 64 #[.string ⟨#[97, 98, 99, 100, 101, 102, 103, 104, 105, 106, 107, 108, 109, 110, 111, 112, 113, 114, 115, 116, 117, 118, 119, 120, 121, 122, 65, 66, 67, 68, 69, 70, 71, 72, 73, 74, 75, 76, 77, 78, 79, 80, 81, 82, 83, 84, 85, 86, 87, 88, 89, 90]⟩, .int .u8 c] w fun e w' => e = .returned (.bool (bLe c)) ∧ w' = w := by
  have h : hasB c ⟨#[97, 98, 99, 100, 101, 102, 103, 104, 105, 106, 107, 108, 109, 110, 111, 112, 113, 114, 115, 116, 117, 118, 119, 120, 121, 122, 65, 66, 67, 68, 69, 70, 71, 72, 73, 74, 75, 76, 77, 78, 79, 80, 81, 82, 83, 84, 85, 86, 87, 88, 89, 90]⟩ = bLe c := of256 (p := fun c => hasB c ⟨#[97, 98, 99, 100, 101, 102, 103, 104, 105, 106, 107, 108, 109, 110, 111, 112, 113, 114, 115, 116, 117, 118, 119, 120, 121, 122, 65, 66, 67, 68, 69, 70, 71, 72, 73, 74, 75, 76, 77, 78, 79, 80, 81, 82, 83, 84, 85, 86, 87, 88, 89, 90]⟩ = bLe c) (by decide +kernel) c h0 h1
  rw [← h]
  exact has_any _ c w (by decide)
def bHx (c : Int) : Bool := decide (48 ≤ c ∧ c ≤ 57 ∨ 97 ≤ c ∧ c ≤ 102 ∨ 65 ≤ c ∧ c ≤ 70)
theorem hasHx (c : Int) (w : World) (h0 : 0 ≤ c) (h1 : c ≤ 255) : Calls Tryd.prog 64 #[.string ⟨#[48, 49, 50, 51, 52, 53, 54, 55, 56, 57, 97, 98, 99, 100, 101, 102, 65, 66, 67, 68, 69, 70]⟩, .int .u8 c] w fun e w' => e = .returned (.bool (bHx c)) ∧ w' = w := by
  have h : hasB c ⟨#[48, 49, 50, 51, 52, 53, 54, 55, 56, 57, 97, 98, 99, 100, 101, 102, 65, 66, 67, 68, 69, 70]⟩ = bHx c := of256 (p := fun c => hasB c ⟨#[48, 49, 50, 51, 52, 53, 54, 55, 56, 57, 97, 98, 99, 100, 101, 102, 65, 66, 67, 68, 69, 70]⟩ = bHx c) (by decide +kernel) c h0 h1
  rw [← h]
  exact has_any _ c w (by decide)
def bTk (c : Int) : Bool := decide (48 ≤ c ∧ c ≤ 57 ∨ 97 ≤ c ∧ c ≤ 122 ∨ 65 ≤ c ∧ c ≤ 90 ∨ c = 45 ∨ c = 46 ∨ c = 33 ∨ c = 37 ∨ c = 42 ∨ c = 95 ∨ c = 43 ∨ c = 96 ∨ c = 39 ∨ c = 126)
theorem hasTk (c : Int) (w : World) (h0 : 0 ≤ c) (h1 : c ≤ 255) : Calls Tryd.prog 64 #[.string ⟨#[48, 49, 50, 51, 52, 53, 54, 55, 56, 57, 97, 98, 99, 100, 101, 102, 103, 104, 105, 106, 107, 108, 109, 110, 111, 112, 113, 114, 115, 116, 117, 118, 119, 120, 121, 122, 65, 66, 67, 68, 69, 70, 71, 72, 73, 74, 75, 76, 77, 78, 79, 80, 81, 82, 83, 84, 85, 86, 87, 88, 89, 90, 45, 46, 33, 37, 42, 95, 43, 96, 39, 126]⟩, .int .u8 c] w fun e w' => e = .returned (.bool (bTk c)) ∧ w' = w := by
  have h : hasB c ⟨#[48, 49, 50, 51, 52, 53, 54, 55, 56, 57, 97, 98, 99, 100, 101, 102, 103, 104, 105, 106, 107, 108, 109, 110, 111, 112, 113, 114, 115, 116, 117, 118, 119, 120, 121, 122, 65, 66, 67, 68, 69, 70, 71, 72, 73, 74, 75, 76, 77, 78, 79, 80, 81, 82, 83, 84, 85, 86, 87, 88, 89, 90, 45, 46, 33, 37, 42, 95, 43, 96, 39, 126]⟩ = bTk c := of256 (p := fun c => hasB c ⟨#[48, 49, 50, 51, 52, 53, 54, 55, 56, 57, 97, 98, 99, 100, 101, 102, 103, 104, 105, 106, 107, 108, 109, 110, 111, 112, 113, 114, 115, 116, 117, 118, 119, 120, 121, 122, 65, 66, 67, 68, 69, 70, 71, 72, 73, 74, 75, 76, 77, 78, 79, 80, 81, 82, 83, 84, 85, 86, 87, 88, 89, 90, 45, 46, 33, 37, 42, 95, 43, 96, 39, 126]⟩ = bTk c) (by decide +kernel) c h0 h1
  rw [← h]
  exact has_any _ c w (by decide)
def bPl (c : Int) : Bool := decide (48 ≤ c ∧ c ≤ 57 ∨ 97 ≤ c ∧ c ≤ 122 ∨ 65 ≤ c ∧ c ≤ 90 ∨ c = 45 ∨ c = 95 ∨ c = 46 ∨ c = 33 ∨ c = 126 ∨ c = 42 ∨ c = 39 ∨ c = 40 ∨ c = 41)
theorem hasPl (c : Int) (w : World) (h0 : 0 ≤ c) (h1 : c ≤ 255) : Calls Tryd.prog 64 #[.string ⟨#[48, 49, 50, 51, 52, 53, 54, 55, 56, 57, 97, 98, 99, 100, 101, 102, 103, 104, 105, 106, 107, 108, 109, 110, 111, 112, 113, 114, 115, 116, 117, 118, 119, 120, 121, 122, 65, 66, 67, 68, 69, 70, 71, 72, 73, 74, 75, 76, 77, 78, 79, 80, 81, 82, 83, 84, 85, 86, 87, 88, 89, 90, 45, 95, 46, 33, 126, 42, 39, 40, 41]⟩, .int .u8 c] w fun e w' => e = .returned (.bool (bPl c)) ∧ w' = w := by
  have h : hasB c ⟨#[48, 49, 50, 51, 52, 53, 54, 55, 56, 57, 97, 98, 99, 100, 101, 102, 103, 104, 105, 106, 107, 108, 109, 110, 111, 112, 113, 114, 115, 116, 117, 118, 119, 120, 121, 122, 65, 66, 67, 68, 69, 70, 71, 72, 73, 74, 75, 76, 77, 78, 79, 80, 81, 82, 83, 84, 85, 86, 87, 88, 89, 90, 45, 95, 46, 33, 126, 42, 39, 40, 41]⟩ = bPl c := of256 (p := fun c => hasB c ⟨#[48, 49, 50, 51, 52, 53, 54, 55, 56, 57, 97, 98, 99, 100, 101, 102, 103, 104, 105, 106, 107, 108, 109, 110, 111, 112, 113, 114, 115, 116, 117, 118, 119, 120, 121, 122, 65, 66, 67, 68, 69, 70, 71, 72, 73, 74, 75, 76, 77, 78, 79, 80, 81, 82, 83, 84, 85, 86, 87, 88, 89, 90, 45, 95, 46, 33, 126, 42, 39, 40, 41]⟩ = bPl c) (by decide +kernel) c h0 h1
  rw [← h]
  exact has_any _ c w (by decide)
def bHo (c : Int) : Bool := decide (48 ≤ c ∧ c ≤ 57 ∨ 97 ≤ c ∧ c ≤ 122 ∨ 65 ≤ c ∧ c ≤ 90 ∨ c = 45 ∨ c = 46)
theorem hasHo (c : Int) (w : World) (h0 : 0 ≤ c) (h1 : c ≤ 255) : Calls Tryd.prog 64 #[.string ⟨#[48, 49, 50, 51, 52, 53, 54, 55, 56, 57, 97, 98, 99, 100, 101, 102, 103, 104, 105, 106, 107, 108, 109, 110, 111, 112, 113, 114, 115, 116, 117, 118, 119, 120, 121, 122, 65, 66, 67, 68, 69, 70, 71, 72, 73, 74, 75, 76, 77, 78, 79, 80, 81, 82, 83, 84, 85, 86, 87, 88, 89, 90, 45, 46]⟩, .int .u8 c] w fun e w' => e = .returned (.bool (bHo c)) ∧ w' = w := by
  have h : hasB c ⟨#[48, 49, 50, 51, 52, 53, 54, 55, 56, 57, 97, 98, 99, 100, 101, 102, 103, 104, 105, 106, 107, 108, 109, 110, 111, 112, 113, 114, 115, 116, 117, 118, 119, 120, 121, 122, 65, 66, 67, 68, 69, 70, 71, 72, 73, 74, 75, 76, 77, 78, 79, 80, 81, 82, 83, 84, 85, 86, 87, 88, 89, 90, 45, 46]⟩ = bHo c := of256 (p := fun c => hasB c ⟨#[48, 49, 50, 51, 52, 53, 54, 55, 56, 57, 97, 98, 99, 100, 101, 102, 103, 104, 105, 106, 107, 108, 109, 110, 111, 112, 113, 114, 115, 116, 117, 118, 119, 120, 121, 122, 65, 66, 67, 68, 69, 70, 71, 72, 73, 74, 75, 76, 77, 78, 79, 80, 81, 82, 83, 84, 85, 86, 87, 88, 89, 90, 45, 46]⟩ = bHo c) (by decide +kernel) c h0 h1
  rw [← h]
  exact has_any _ c w (by decide)
set_option maxHeartbeats 400000 in
theorem refclass0 (c : Int) (w : World) (h0 : 0 ≤ c) (h1 : c ≤ 255) (h : 48 ≤ c ∧ c ≤ 57) :
    Calls Tryd.prog 38 #[.int .u8 c] w fun e w' => e = .returned (.int .i64 (cls c)) ∧ w' = w := by
  have tDg : bDg c = true := decide_eq_true (by omega)
  have tLe : bLe c = false := decide_eq_false (by omega)
  have tHx : bHx c = true := decide_eq_true (by omega)
  have tTk : bTk c = true := decide_eq_true (by omega)
  have tPl : bPl c = true := decide_eq_true (by omega)
  have tHo : bHo c = true := decide_eq_true (by omega)
  have hv : Hid (cls c = 93) := by show _ = _; unfold cls low sgn; (repeat' split) <;> omega
  have e32 : (c == 32) = false := by simp; omega
  have e9 : (c == 9) = false := by simp; omega
  clear h
  go_enter Tryd.func38, Tryd.ntmps38
  go_wp2_with fail
  refine (hasDg _ _ h0 h1).mono ?_
  rintro e w' ⟨rfl, rfl⟩
  go_wp2_with fail
  refine (hasLe _ _ h0 h1).mono ?_
  rintro e w' ⟨rfl, rfl⟩
  go_wp2_with fail
  refine (hasHx _ _ h0 h1).mono ?_
  rintro e w' ⟨rfl, rfl⟩
  go_wp2_with fail
  refine (hasTk _ _ h0 h1).mono ?_
  rintro e w' ⟨rfl, rfl⟩
  go_wp2_with fail
  refine (hasPl _ _ h0 h1).mono ?_
  rintro e w' ⟨rfl, rfl⟩
  go_wp2_with fail
  refine (hasHo _ _ h0 h1).mono ?_
  rintro e w' ⟨rfl, rfl⟩
  go_wp2
  go_ret
  exact ⟨ret_int hv.out.symm, rfl⟩

set_option maxHeartbeats 400000 in
theorem refclass1 (c : Int) (w : World) (h0 : 0 ≤ c) (h1 : c ≤ 255) (h : 97 ≤ c ∧ c ≤ 102 ∨ 65 ≤ c ∧ c ≤ 70) :
    Calls Tryd.prog 38 #[.int .u8 c] w fun e w' => e = .returned (.int .i64 (cls c)) ∧ w' = w := by
  have tDg : bDg c = false := decide_eq_false (by omega)
  have tLe : bLe c = true := decide_eq_true (by omega)
  have tHx : bHx c = true := decide_eq_true (by omega)
  have tTk : bTk c = true := decide_eq_true (by omega)
  have tPl : bPl c = true := decide_eq_true (by omega)
  have tHo : bHo c = true := decide_eq_true (by omega)
  have hv : Hid (cls c = 94) := by show _ = _; unfold cls low sgn; (repeat' split) <;> omega
  have e32 : (c == 32) = false := by simp; omega
  have e9 : (c == 9) = false := by simp; omega
  clear h
  go_enter Tryd.func38, Tryd.ntmps38
  go_wp2_with fail
  refine (hasDg _ _ h0 h1).mono ?_
  rintro e w' ⟨rfl, rfl⟩
  go_wp2_with fail
  refine (hasLe _ _ h0 h1).mono ?_
  rintro e w' ⟨rfl, rfl⟩
  go_wp2_with fail
  refine (hasHx _ _ h0 h1).mono ?_
  rintro e w' ⟨rfl, rfl⟩
  go_wp2_with fail
  refine (hasTk _ _ h0 h1).mono ?_
  rintro e w' ⟨rfl, rfl⟩
  go_wp2_with fail
  refine (hasPl _ _ h0 h1).mono ?_
  rintro e w' ⟨rfl, rfl⟩
  go_wp2_with fail
  refine (hasHo _ _ h0 h1).mono ?_
  rintro e w' ⟨rfl, rfl⟩
  go_wp2
  go_ret
  exact ⟨ret_int hv.out.symm, rfl⟩

set_option maxHeartbeats 400000 in
theorem refclass2 (c : Int) (w : World) (h0 : 0 ≤ c) (h1 : c ≤ 255) (h : 103 ≤ c ∧ c ≤ 122 ∨ 71 ≤ c ∧ c ≤ 90) :
    Calls Tryd.prog 38 #[.int .u8 c] w fun e w' => e = .returned (.int .i64 (cls c)) ∧ w' = w := by
  have tDg : bDg c = false := decide_eq_false (by omega)
  have tLe : bLe c = true := decide_eq_true (by omega)
  have tHx : bHx c = false := decide_eq_false (by omega)
  have tTk : bTk c = true := decide_eq_true (by omega)
  have tPl : bPl c = true := decide_eq_true (by omega)
  have tHo : bHo c = true := decide_eq_true (by omega)
  have hv : Hid (cls c = 90) := by show _ = _; unfold cls low sgn; (repeat' split) <;> omega
  have e32 : (c == 32) = false := by simp; omega
  have e9 : (c == 9) = false := by simp; omega
  clear h
  go_enter Tryd.func38, Tryd.ntmps38
  go_wp2_with fail
  refine (hasDg _ _ h0 h1).mono ?_
  rintro e w' ⟨rfl, rfl⟩
  go_wp2_with fail
  refine (hasLe _ _ h0 h1).mono ?_
  rintro e w' ⟨rfl, rfl⟩
  go_wp2_with fail
  refine (hasHx _ _ h0 h1).mono ?_
  rintro e w' ⟨rfl, rfl⟩
  go_wp2_with fail
  refine (hasTk _ _ h0 h1).mono ?_
  rintro e w' ⟨rfl, rfl⟩
  go_wp2_with fail
  refine (hasPl _ _ h0 h1).mono ?_
  rintro e w' ⟨rfl, rfl⟩
  go_wp2_with fail
  refine (hasHo _ _ h0 h1).mono ?_
  rintro e w' ⟨rfl, rfl⟩
  go_wp2
  go_ret
  exact ⟨ret_int hv.out.symm, rfl⟩

set_option maxHeartbeats 400000 in
theorem refclass3 (c : Int) (w : World) (h0 : 0 ≤ c) (h1 : c ≤ 255) (h : c = 45 ∨ c = 46) :
    Calls Tryd.prog 38 #[.int .u8 c] w fun e w' => e = .returned (.int .i64 (cls c)) ∧ w' = w := by
  have tDg : bDg c = false := decide_eq_false (by omega)
  have tLe : bLe c = false := decide_eq_false (by omega)
  have tHx : bHx c = false := decide_eq_false (by omega)
  have tTk : bTk c = true := decide_eq_true (by omega)
  have tPl : bPl c = true := decide_eq_true (by omega)
  have tHo : bHo c = true := decide_eq_true (by omega)
  have hv : Hid (cls c = 88) := by show _ = _; unfold cls low sgn; (repeat' split) <;> omega
  have e32 : (c == 32) = false := by simp; omega
  have e9 : (c == 9) = false := by simp; omega
  clear h
  go_enter Tryd.func38, Tryd.ntmps38
  go_wp2_with fail
  refine (hasDg _ _ h0 h1).mono ?_
  rintro e w' ⟨rfl, rfl⟩
  go_wp2_with fail
  refine (hasLe _ _ h0 h1).mono ?_
  rintro e w' ⟨rfl, rfl⟩
  go_wp2_with fail
  refine (hasHx _ _ h0 h1).mono ?_
  rintro e w' ⟨rfl, rfl⟩
  go_wp2_with fail
  refine (hasTk _ _ h0 h1).mono ?_
  rintro e w' ⟨rfl, rfl⟩
  go_wp2_with fail
  refine (hasPl _ _ h0 h1).mono ?_
  rintro e w' ⟨rfl, rfl⟩
  go_wp2_with fail
  refine (hasHo _ _ h0 h1).mono ?_
  rintro e w' ⟨rfl, rfl⟩
  go_wp2
  go_ret
  exact ⟨ret_int hv.out.symm, rfl⟩

set_option maxHeartbeats 400000 in
theorem refclass4 (c : Int) (w : World) (h0 : 0 ≤ c) (h1 : c ≤ 255) (h : c = 33 ∨ c = 126 ∨ c = 42 ∨ c = 95 ∨ c = 39) :
    Calls Tryd.prog 38 #[.int .u8 c] w fun e w' => e = .returned (.int .i64 (cls c)) ∧ w' = w := by
  have tDg : bDg c = false := decide_eq_false (by omega)
  have tLe : bLe c = false := decide_eq_false (by omega)
  have tHx : bHx c = false := decide_eq_false (by omega)
  have tTk : bTk c = true := decide_eq_true (by omega)
  have tPl : bPl c = true := decide_eq_true (by omega)
  have tHo : bHo c = false := decide_eq_false (by omega)
  have hv : Hid (cls c = 24) := by show _ = _; unfold cls low sgn; (repeat' split) <;> omega
  have e32 : (c == 32) = false := by simp; omega
  have e9 : (c == 9) = false := by simp; omega
  clear h
  go_enter Tryd.func38, Tryd.ntmps38
  go_wp2_with fail
  refine (hasDg _ _ h0 h1).mono ?_
  rintro e w' ⟨rfl, rfl⟩
  go_wp2_with fail
  refine (hasLe _ _ h0 h1).mono ?_
  rintro e w' ⟨rfl, rfl⟩
  go_wp2_with fail
  refine (hasHx _ _ h0 h1).mono ?_
  rintro e w' ⟨rfl, rfl⟩
  go_wp2_with fail
  refine (hasTk _ _ h0 h1).mono ?_
  rintro e w' ⟨rfl, rfl⟩
  go_wp2_with fail
  refine (hasPl _ _ h0 h1).mono ?_
  rintro e w' ⟨rfl, rfl⟩
  go_wp2_with fail
  refine (hasHo _ _ h0 h1).mono ?_
  rintro e w' ⟨rfl, rfl⟩
  go_wp2
  go_ret
  exact ⟨ret_int hv.out.symm, rfl⟩

set_option maxHeartbeats 400000 in
theorem refclass5 (c : Int) (w : World) (h0 : 0 ≤ c) (h1 : c ≤ 255) (h : c = 37 ∨ c = 43 ∨ c = 96) :
    Calls Tryd.prog 38 #[.int .u8 c] w fun e w' => e = .returned (.int .i64 (cls c)) ∧ w' = w := by
  have tDg : bDg c = false := decide_eq_false (by omega)
  have tLe : bLe c = false := decide_eq_false (by omega)
  have tHx : bHx c = false := decide_eq_false (by omega)
  have tTk : bTk c = true := decide_eq_true (by omega)
  have tPl : bPl c = false := decide_eq_false (by omega)
  have tHo : bHo c = false := decide_eq_false (by omega)
  have hv : Hid (cls c = 8) := by show _ = _; unfold cls low sgn; (repeat' split) <;> omega
  have e32 : (c == 32) = false := by simp; omega
  have e9 : (c == 9) = false := by simp; omega
  clear h
  go_enter Tryd.func38, Tryd.ntmps38
  go_wp2_with fail
  refine (hasDg _ _ h0 h1).mono ?_
  rintro e w' ⟨rfl, rfl⟩
  go_wp2_with fail
  refine (hasLe _ _ h0 h1).mono ?_
  rintro e w' ⟨rfl, rfl⟩
  go_wp2_with fail
  refine (hasHx _ _ h0 h1).mono ?_
  rintro e w' ⟨rfl, rfl⟩
  go_wp2_with fail
  refine (hasTk _ _ h0 h1).mono ?_
  rintro e w' ⟨rfl, rfl⟩
  go_wp2_with fail
  refine (hasPl _ _ h0 h1).mono ?_
  rintro e w' ⟨rfl, rfl⟩
  go_wp2_with fail
  refine (hasHo _ _ h0 h1).mono ?_
  rintro e w' ⟨rfl, rfl⟩
  go_wp2
  go_ret
  exact ⟨ret_int hv.out.symm, rfl⟩

set_option maxHeartbeats 400000 in
theorem refclass6 (c : Int) (w : World) (h0 : 0 ≤ c) (h1 : c ≤ 255) (h : c = 40 ∨ c = 41) :
    Calls Tryd.prog 38 #[.int .u8 c] w fun e w' => e = .returned (.int .i64 (cls c)) ∧ w' = w := by
  have tDg : bDg c = false := decide_eq_false (by omega)
  have tLe : bLe c = false := decide_eq_false (by omega)
  have tHx : bHx c = false := decide_eq_false (by omega)
  have tTk : bTk c = false := decide_eq_false (by omega)
  have tPl : bPl c = true := decide_eq_true (by omega)
  have tHo : bHo c = false := decide_eq_false (by omega)
  have hv : Hid (cls c = 16) := by show _ = _; unfold cls low sgn; (repeat' split) <;> omega
  have e32 : (c == 32) = false := by simp; omega
  have e9 : (c == 9) = false := by simp; omega
  clear h
  go_enter Tryd.func38, Tryd.ntmps38
  go_wp2_with fail
  refine (hasDg _ _ h0 h1).mono ?_
  rintro e w' ⟨rfl, rfl⟩
  go_wp2_with fail
  refine (hasLe _ _ h0 h1).mono ?_
  rintro e w' ⟨rfl, rfl⟩
  go_wp2_with fail
  refine (hasHx _ _ h0 h1).mono ?_
  rintro e w' ⟨rfl, rfl⟩
  go_wp2_with fail
  refine (hasTk _ _ h0 h1).mono ?_
  rintro e w' ⟨rfl, rfl⟩
  go_wp2_with fail
  refine (hasPl _ _ h0 h1).mono ?_
  rintro e w' ⟨rfl, rfl⟩
  go_wp2_with fail
  refine (hasHo _ _ h0 h1).mono ?_
  rintro e w' ⟨rfl, rfl⟩
  go_wp2
  go_ret
  exact ⟨ret_int hv.out.symm, rfl⟩

set_option maxHeartbeats 400000 in
theorem refclass7 (c : Int) (w : World) (h0 : 0 ≤ c) (h1 : c ≤ 255) (h : c = 32 ∨ c = 9) :
    Calls Tryd.prog 38 #[.int .u8 c] w fun e w' => e = .returned (.int .i64 (cls c)) ∧ w' = w := by
  have tDg : bDg c = false := decide_eq_false (by omega)
  have tLe : bLe c = false := decide_eq_false (by omega)
  have tHx : bHx c = false := decide_eq_false (by omega)
  have tTk : bTk c = false := decide_eq_false (by omega)
  have tPl : bPl c = false := decide_eq_false (by omega)
  have tHo : bHo c = false := decide_eq_false (by omega)
  have hv : Hid (cls c = 32) := by show _ = _; unfold cls low sgn; (repeat' split) <;> omega
  rcases h with h | h
  all_goals
    subst h
    go_enter Tryd.func38, Tryd.ntmps38
    go_wp2_with fail
    refine (hasDg _ _ h0 h1).mono ?_
    rintro e w' ⟨rfl, rfl⟩
    go_wp2_with fail
    refine (hasLe _ _ h0 h1).mono ?_
    rintro e w' ⟨rfl, rfl⟩
    go_wp2_with fail
    refine (hasHx _ _ h0 h1).mono ?_
    rintro e w' ⟨rfl, rfl⟩
    go_wp2_with fail
    refine (hasTk _ _ h0 h1).mono ?_
    rintro e w' ⟨rfl, rfl⟩
    go_wp2_with fail
    refine (hasPl _ _ h0 h1).mono ?_
    rintro e w' ⟨rfl, rfl⟩
    go_wp2_with fail
    refine (hasHo _ _ h0 h1).mono ?_
    rintro e w' ⟨rfl, rfl⟩
    go_wp2
    go_ret
    exact ⟨ret_int hv.out.symm, rfl⟩

set_option maxHeartbeats 400000 in
theorem refclass8 (c : Int) (w : World) (h0 : 0 ≤ c) (h1 : c ≤ 255) (h : ¬ (48 ≤ c ∧ c ≤ 57) ∧ ¬ (97 ≤ c ∧ c ≤ 122 ∨ 65 ≤ c ∧ c ≤ 90) ∧ c ≠ 45 ∧ c ≠ 46 ∧ c ≠ 33 ∧ c ≠ 37 ∧ c ≠ 42 ∧ c ≠ 95 ∧ c ≠ 43 ∧ c ≠ 96 ∧ c ≠ 39 ∧ c ≠ 126 ∧ c ≠ 40 ∧ c ≠ 41 ∧ c ≠ 32 ∧ c ≠ 9) :
    Calls Tryd.prog 38 #[.int .u8 c] w fun e w' => e = .returned (.int .i64 (cls c)) ∧ w' = w := by
  have tDg : bDg c = false := decide_eq_false (by omega)
  have tLe : bLe c = false := decide_eq_false (by omega)
  have tHx : bHx c = false := decide_eq_false (by omega)
  have tTk : bTk c = false := decide_eq_false (by omega)
  have tPl : bPl c = false := decide_eq_false (by omega)
  have tHo : bHo c = false := decide_eq_false (by omega)
  have hv : Hid (cls c = 0) := by show _ = _; unfold cls low sgn; (repeat' split) <;> omega
  have e32 : (c == 32) = false := by simp; omega
  have e9 : (c == 9) = false := by simp; omega
  clear h
  go_enter Tryd.func38, Tryd.ntmps38
  go_wp2_with fail
  refine (hasDg _ _ h0 h1).mono ?_
  rintro e w' ⟨rfl, rfl⟩
  go_wp2_with fail
  refine (hasLe _ _ h0 h1).mono ?_
  rintro e w' ⟨rfl, rfl⟩
  go_wp2_with fail
  refine (hasHx _ _ h0 h1).mono ?_
  rintro e w' ⟨rfl, rfl⟩
  go_wp2_with fail
  refine (hasTk _ _ h0 h1).mono ?_
  rintro e w' ⟨rfl, rfl⟩
  go_wp2_with fail
  refine (hasPl _ _ h0 h1).mono ?_
  rintro e w' ⟨rfl, rfl⟩
  go_wp2_with fail
  refine (hasHo _ _ h0 h1).mono ?_
  rintro e w' ⟨rfl, rfl⟩
  go_wp2
  go_ret
  exact ⟨ret_int hv.out.symm, rfl⟩

theorem refclass_any (c : Int) (w : World) (h0 : 0 ≤ c) (h1 : c ≤ 255) :
    Calls Tryd.prog 38 #[.int .u8 c] w fun e w' => e = .returned (.int .i64 (cls c)) ∧ w' = w := by
  by_cases a0 : 48 ≤ c ∧ c ≤ 57
  · exact refclass0 c w h0 h1 a0
  by_cases a1 : 97 ≤ c ∧ c ≤ 102 ∨ 65 ≤ c ∧ c ≤ 70
  · exact refclass1 c w h0 h1 a1
  by_cases a2 : 103 ≤ c ∧ c ≤ 122 ∨ 71 ≤ c ∧ c ≤ 90
  · exact refclass2 c w h0 h1 a2
  by_cases a3 : c = 45 ∨ c = 46
  · exact refclass3 c w h0 h1 a3
  by_cases a4 : c = 33 ∨ c = 126 ∨ c = 42 ∨ c = 95 ∨ c = 39
  · exact refclass4 c w h0 h1 a4
  by_cases a5 : c = 37 ∨ c = 43 ∨ c = 96
  · exact refclass5 c w h0 h1 a5
  by_cases a6 : c = 40 ∨ c = 41
  · exact refclass6 c w h0 h1 a6
  by_cases a7 : c = 32 ∨ c = 9
  · exact refclass7 c w h0 h1 a7
  exact refclass8 c w h0 h1 (by omega)

set_option maxHeartbeats 400000 in
theorem refall_any (s : ByteArray) (class_ : Int) (w : World) (hs : s.size ≤ maxLen) :
    Calls Tryd.prog 65 #[.string s, .int .i64 class_] w fun e w' => e = .returned (.bool (allB class_ s.data.toList)) ∧ w' = w := by
  unfold maxLen at hs
  go_enter Tryd.func65, Tryd.ntmps65
  go_wp2
  go_loop [5] (fun i => ∃ k : Nat, k ≤ s.size ∧ i = .int .i64 k ∧ Hid (allB class_ (s.data.toList.take k) = true)) (fun i => s.size - (intOf i).toNat)
  case atStart => exact ⟨0, Nat.zero_le _, rfl, rfl⟩
  case round =>
    obtain ⟨k, hk, rfl, hall⟩ := hrel
    by_cases hlt : k < s.size
    · have hbd := u8_bd s[k]
      by_cases hb : isB s[k].toNat class_ = true
      · have hz : (bits BinOp.and IntKind.i64 (cls s[k].toNat) class_ == 0) = false := by simpa [isB] using hb
        have HB : Hid (isB s[k].toNat class_ = true) := hb
        clear hb
        go_wp2_with (go_at_call 38; refine (refclass_any _ _ hbd.1 hbd.2).mono ?_; rintro e w' ⟨rfl, rfl⟩)
        go_round
        case rel => exact ⟨k + 1, by omega, by go_num, show _ = _ by rw [take_snoc s k hlt, allB_snoc, hall.out, HB.out]; rfl⟩
        case measure => simp [intOf]; omega
      · have hb' : isB s[k].toNat class_ = false := by simpa using hb
        have hz : (bits BinOp.and IntKind.i64 (cls s[k].toNat) class_ == 0) = true := by simpa [isB] using hb'
        clear hb
        have HB : Hid (isB s[k].toNat class_ = false) := hb'
        clear hb'
        go_wp2_with (go_at_call 38; refine (refclass_any _ _ hbd.1 hbd.2).mono ?_; rintro e w' ⟨rfl, rfl⟩)
        go_ret
        exact ⟨ret_bool (allB_hit hlt HB.out).symm, rfl⟩
    · go_wp2
      go_ret
      exact ⟨ret_bool (by rw [← hall.out, take_all s k (by omega)]), rfl⟩

end Go.Proofs.YtjbfdbccidhdfaaDoor

/-
  Contracts of Token, Lower, Trim and Same, and of the document's own.
-/
namespace Go.Proofs.YtjbfdbccidhdfaaDoor
open Go.RowKit Sc
set_option linter.unusedVariables false
set_option maxRecDepth 20000

def tokenB (l : List UInt8) : Bool := decide (1 ≤ l.length) && decide (l.length ≤ 64) && allB 8 l

set_option maxHeartbeats 400000 in
theorem token_any (s : ByteArray) (w : World) (hs : s.size ≤ maxLen) :
    Calls Tryd.prog 36 #[.string s] w fun e w' => e = .returned (.bool (tokenB s.data.toList)) ∧ w' = w := by
  have hl := len_data s
  by_cases h0 : s.size = 0
  · have hE := isE_true h0
    have HT : Hid (tokenB s.data.toList = false) := by show _ = _; simp [tokenB, hl, h0]
    clear hl
    go_enter Tryd.func36, Tryd.ntmps36
    go_wp2
    go_ret
    exact ⟨ret_bool HT.out.symm, rfl⟩
  · have hE := isE_false (s := s) (by omega)
    by_cases h1 : s.size ≤ 64
    · have HT : Hid (tokenB s.data.toList = allB 8 s.data.toList) := by
        show _ = _
        have e1 : decide (1 ≤ s.size) = true := decide_eq_true (by omega)
        have e2 : decide (s.size ≤ 64) = true := decide_eq_true h1
        rw [tokenB, hl, e1, e2]; rfl
      clear hl
      go_enter Tryd.func36, Tryd.ntmps36
      go_wp2_with (go_at_call 63; refine (all_any _ _ _ hs).mono ?_; rintro e w' ⟨rfl, rfl⟩)
      go_ret
      exact ⟨ret_bool HT.out.symm, rfl⟩
    · have HT : Hid (tokenB s.data.toList = false) := by
        show _ = _
        have e2 : decide (s.size ≤ 64) = false := decide_eq_false h1
        rw [tokenB, hl, e2]; simp
      clear hl
      go_enter Tryd.func36, Tryd.ntmps36
      go_wp2
      go_ret
      exact ⟨ret_bool HT.out.symm, rfl⟩

set_option maxHeartbeats 400000 in
theorem reftoken_any (s : ByteArray) (w : World) (hs : s.size ≤ maxLen) :
    Calls Tryd.prog 40 #[.string s] w fun e w' => e = .returned (.bool (tokenB s.data.toList)) ∧ w' = w := by
  have hl := len_data s
  by_cases h0 : s.size = 0
  · have HT : Hid (tokenB s.data.toList = false) := by show _ = _; simp [tokenB, hl, h0]
    clear hl
    go_enter Tryd.func40, Tryd.ntmps40
    go_wp2
    go_ret
    exact ⟨ret_bool HT.out.symm, rfl⟩
  · by_cases h1 : s.size ≤ 64
    · have HT : Hid (tokenB s.data.toList = allB 8 s.data.toList) := by
        show _ = _
        have e1 : decide (1 ≤ s.size) = true := decide_eq_true (by omega)
        have e2 : decide (s.size ≤ 64) = true := decide_eq_true h1
        rw [tokenB, hl, e1, e2]; rfl
      clear hl
      go_enter Tryd.func40, Tryd.ntmps40
      go_wp2_with (go_at_call 65; refine (refall_any _ _ _ hs).mono ?_; rintro e w' ⟨rfl, rfl⟩)
      go_ret
      exact ⟨ret_bool HT.out.symm, rfl⟩
    · have HT : Hid (tokenB s.data.toList = false) := by
        show _ = _
        have e2 : decide (s.size ≤ 64) = false := decide_eq_false h1
        rw [tokenB, hl, e2]; simp
      clear hl
      go_enter Tryd.func40, Tryd.ntmps40
      go_wp2
      go_ret
      exact ⟨ret_bool HT.out.symm, rfl⟩

def lowb (b : UInt8) : UInt8 := if 65 ≤ b.toNat ∧ b.toNat ≤ 90 then b + 32 else b
def lowL (l : List UInt8) : List UInt8 := l.map lowb
theorem lowb_toNat (b : UInt8) : ((lowb b).toNat : Int) = low b.toNat := by
  have h : ∀ n : Fin 256, ((lowb (UInt8.ofNat n.val)).toNat : Int) = low n.val := by decide +kernel
  have := h ⟨b.toNat, b.toNat_lt⟩
  simpa using this
theorem lowL_len (l : List UInt8) : (lowL l).length = l.length := by simp [lowL]
theorem lowL_snoc (l : List UInt8) (b : UInt8) : lowL (l ++ [b]) = lowL l ++ [lowb b] := by simp [lowL]

set_option maxHeartbeats 400000 in
theorem lower_txt (s : ByteArray) (w : World) (hs : s.size ≤ 281474976710656) :
    Calls Tryd.prog 55 #[.string s] w fun e w' => e = .returned (.string ⟨(lowL s.data.toList).toArray⟩) ∧ Below w.heap.size w w' := by
  obtain ⟨i0, hi, hz0, hz1, hz2⟩ := info_parts info5
  have hmk : ∀ u : World, (Instr.makeSlice 89 (.int .i64 (s.size : Int)) (.int .i64 (s.size : Int))).run Tryd.prog u =
      .ok (.slice (some ⟨u.heap.size, 0, none⟩) s.size s.size) (u.alloc (.cells (madeCells #[.int .u8 0] s.size) 5)) := fun u => by
    have h := run_make (P := Tryd.prog) u 89 5 i0 (.int .u8 0) Tryd.underlying89 hi hz0 .i64 .i64 (s.size : Int) (s.size : Int) (by omega) (Int.le_refl _) (by rw [hz2]; omega) (by omega)
    simpa [hz1, Value.cells] using h
  have hr0 : Hid (RowIs (w.alloc (.cells (madeCells #[.int .u8 0] s.size) 5)) w.heap.size 5 (filled [] s.size)) := made_row w _ _
  go_enter Tryd.func55, Tryd.ntmps55
  go_wp2
  clear hmk
  go_loopw [10] (fun i wr => ∃ k : Nat, k ≤ s.size ∧ i = .int .i64 k ∧ Hid (RowIs wr w.heap.size 5 (filled (lowL (s.data.toList.take k)) s.size)) ∧ Below w.heap.size w wr) (fun i _ => s.size - (intOf i).toNat)
  case atStart => exact ⟨0, Nat.zero_le _, rfl, hr0, (Below.refl _ _).alloc (Nat.le_refl _) _⟩
  case round =>
    clear hr0
    obtain ⟨k, hk, rfl, hr, hb⟩ := hrel
    have hlk : Hid ((lowL (s.data.toList.take k)).length = k) := by show _ = _; rw [lowL_len, List.length_take, len_data]; omega
    by_cases hlt : k < s.size
    · have hbd := u8_bd s[k]
      obtain ⟨x, hc⟩ : ∃ x, wr.cell? ⟨w.heap.size, k, none⟩ = some x := ⟨_, hr.out.cell k (by rw [filled_len _ _ (by rw [hlk.out]; omega)]; exact hlt)⟩
      have hf := hr.out.frozen k
      have hr' : Hid (RowIs (wr.setCell ⟨w.heap.size, k, none⟩ (.int .u8 (low s[k].toNat))) w.heap.size 5 (filled (lowL (s.data.toList.take (k + 1))) s.size)) := by
        have h := hr.out.set k (.int .u8 (lowb s[k]).toNat)
        have h2 := filled_set (lowL (s.data.toList.take k)) s.size (lowb s[k]) (by rw [hlk.out]; exact hlt)
        rw [hlk.out] at h2
        rw [h2, lowb_toNat, ← lowL_snoc, ← take_snoc s k hlt] at h
        exact h
      go_wp2_with (go_at_call 77; refine (lower_any _ _ hbd.1 hbd.2).mono ?_; rintro e w' ⟨rfl, rfl⟩)
      go_roundw
      case rel => exact ⟨k + 1, by omega, by go_num, hr', hb.setCell (Nat.le_refl _) _⟩
      case measure => simp [intOf]; omega
    · have hta := take_all s k (by omega)
      have hr2 := hr.out
      rw [hta, filled_full _ _ (by rw [lowL_len, len_data])] at hr2
      have hown := hr2.own w.heap.size s.size (Nat.le_refl _) (by rw [Lib.byteCells_length, lowL_len, len_data]) (by unfold maxLen; omega)
      have hcv := conv_own (P := Tryd.prog) _ Tryd.underlying89 Tryd.underlying5 Tryd.underlying9 hown
      clear hta hr2 hown hr hlk
      go_wp2
      go_ret
      exact ⟨rfl, hb⟩

theorem low_cells1 (l : List UInt8) (b : UInt8) : Lib.byteCells (lowL l) ++ [.int .u8 (low b.toNat)] = Lib.byteCells (lowL (l ++ [b])) := by
  rw [lowL_snoc, Lib.byteCells_append, ← lowb_toNat]; rfl

set_option maxHeartbeats 400000 in
theorem reflower_txt (s : ByteArray) (w : World) (hs : s.size ≤ 140737488355328) :
    Calls Tryd.prog 56 #[.string s] w fun e w' => e = .returned (.string ⟨(lowL s.data.toList).toArray⟩) ∧ Below w.heap.size w w' := by
  obtain ⟨i0, hi, hz0, hz1, hz2⟩ := info_parts info5
  go_enter Tryd.func56, Tryd.ntmps56
  go_wp2
  go_loopw [3, 4] (fun v i wr => ∃ k : Nat, k ≤ s.size ∧ i = .int .i64 k ∧ Own wr w.heap.size 5 v (Lib.byteCells (lowL (s.data.toList.take k))) ∧ Below w.heap.size w wr ∧ w.heap.size ≤ wr.heap.size) (fun _ i _ => s.size - (intOf i).toNat)
  case atStart => exact ⟨0, Nat.zero_le _, rfl, Own.nil _ _ _, Below.refl _ _, Nat.le_refl _⟩
  case round =>
    obtain ⟨k, hk, rfl, hown, hb, hB⟩ := hrel
    have hlen : (Lib.byteCells (lowL (s.data.toList.take k))).length ≤ k := by rw [Lib.byteCells_length, lowL_len]; exact List.length_take_le _ _
    by_cases hlt : k < s.size
    · have hbd := u8_bd s[k]
      have hcs := low_cells1 (s.data.toList.take k) s[k]
      rw [← take_snoc s k hlt] at hcs
      by_cases hup : 65 ≤ (s[k].toNat : Int) ∧ (s[k].toNat : Int) ≤ 90
      · have e : low s[k].toNat = (s[k].toNat : Int) - 65 + 97 := by rw [low, if_pos hup]; omega
        rw [e] at hcs
        have HC : Hid (Lib.byteCells (lowL (List.take k s.data.toList)) ++ [Value.int IntKind.u8 ((s[k].toNat : Int) - 65 + 97)] = Lib.byteCells (lowL (List.take (k + 1) s.data.toList))) := hcs
        obtain ⟨hu1, hu2⟩ := hup
        clear hcs e
        go_wp2_with (at_builtin; refine wp_app _ rfl (.tmp 21) (.tmp 27) 89 rfl w.heap.size 5 i0 (.int .u8 0) 1 Tryd.underlying89 hi hz0 hz1 hz2 rfl _ _ rfl (hown.alloc _) ⟨_, 0, none⟩ 1 1 [.int .u8 ((s[k].toNat : Int) - 65 + 97)] rfl rfl (by exact one_new _ _ _) (by intro u hu; simp at hu; subst hu; rfl) (by unfold maxLen; omega) (by omega) w (hb.alloc hB _) (by simp; omega) ?_; intro v3 w3 hown3 hb3 hB3)
        rw [HC.out] at hown3
        go_wp2
        go_roundw
        case rel => exact ⟨k + 1, by omega, by go_num, hown3, hb3, hB3⟩
        case measure => simp [intOf]; omega
      · have e : low s[k].toNat = (s[k].toNat : Int) := by rw [low, if_neg hup]
        rw [e] at hcs
        have HC : Hid (Lib.byteCells (lowL (List.take k s.data.toList)) ++ [Value.int IntKind.u8 (s[k].toNat : Int)] = Lib.byteCells (lowL (List.take (k + 1) s.data.toList))) := hcs
        clear hcs e
        by_cases hu1 : 65 ≤ (s[k].toNat : Int)
        all_goals
          go_wp2_with (at_builtin; refine wp_app _ rfl (.tmp 29) (.tmp 33) 89 rfl w.heap.size 5 i0 (.int .u8 0) 1 Tryd.underlying89 hi hz0 hz1 hz2 rfl _ _ rfl (hown.alloc _) ⟨_, 0, none⟩ 1 1 [.int .u8 (s[k].toNat : Int)] rfl rfl (by exact one_new _ _ _) (by intro u hu; simp at hu; subst hu; rfl) (by unfold maxLen; omega) (by omega) w (hb.alloc hB _) (by simp; omega) ?_; intro v3 w3 hown3 hb3 hB3)
          rw [HC.out] at hown3
          go_wp2
          go_roundw
          case rel => exact ⟨k + 1, by omega, by go_num, hown3, hb3, hB3⟩
          case measure => simp [intOf]; omega
    · have hta := take_all s k (by omega)
      rw [hta] at hown
      have hcv := conv_own (P := Tryd.prog) _ Tryd.underlying89 Tryd.underlying5 Tryd.underlying9 hown
      clear hta hlen
      go_wp2
      go_ret
      exact ⟨rfl, hb⟩

end Go.Proofs.YtjbfdbccidhdfaaDoor
