/-
  Contracts of the document's own has, Class and All.
-/
import Derived.Test.YtfdcklekjnihjaaDoorTexts
namespace Go.Proofs.YtfdcklekjnihjaaDoor
open Go.RowKit Sc
set_option linter.unusedVariables false
set_option maxRecDepth 20000

def hasB (c : Int) (s : ByteArray) : Bool := s.data.toList.any fun b => (b.toNat : Int) == c
theorem hasB_hit {c : Int} {s : ByteArray} {k : Nat} (h : k < s.size) (hb : (s[k].toNat : Int) = c) : hasB c s = true := by
  rw [hasB, List.any_eq_true]
  exact ⟨s[k], List.mem_of_getElem? (getL s k h), by simp [hb]⟩

set_option maxHeartbeats 400000 in
theorem has_any (s : ByteArray) (c : Int) (w : World) (hs : s.size ≤ maxLen) :
    Calls Tryd.prog 58 #[.string s, .int .u8 c] w fun e w' => e = .returned (.bool (hasB c s)) ∧ w' = w := by
  unfold maxLen at hs
  go_enter Tryd.func58, Tryd.ntmps58
  go_wp2
  go_loop [5] (fun i => ∃ k : Nat, k ≤ s.size ∧ i = .int .i64 k ∧ Hid ((s.data.toList.take k).any (fun b => (b.toNat : Int) == c) = false)) (fun i => s.size - (intOf i).toNat)
  case atStart => exact ⟨0, Nat.zero_le _, rfl, rfl⟩
  case round =>
    obtain ⟨k, hk, rfl, hall⟩ := hrel
    by_cases hlt : k < s.size
    · by_cases hb : (s[k].toNat : Int) = c
      · have hb' : ((s[k].toNat : Int) == c) = true := by simpa using hb
        have HH : Hid (hasB c s = true) := hasB_hit hlt hb
        clear hb
        go_wp2
        go_ret
        exact ⟨ret_bool HH.out.symm, rfl⟩
      · have hb' : ((s[k].toNat : Int) == c) = false := by simpa using hb
        clear hb
        go_wp2
        go_round
        case rel => exact ⟨k + 1, by omega, by go_num, show _ = _ by rw [take_snoc s k hlt, List.any_append, hall.out]; simpa using hb'⟩
        case measure => simp [intOf]; omega
    · go_wp2
      go_ret
      exact ⟨ret_bool (by rw [hasB, ← hall.out, take_all s k (by omega)]), rfl⟩

theorem of256 {p : Int → Prop} (h : ∀ n : Fin 256, p (n.val : Int)) (c : Int) (h0 : 0 ≤ c) (h1 : c ≤ 255) : p c := by
  obtain ⟨n, rfl⟩ := Int.eq_ofNat_of_zero_le h0
  exact h ⟨n, by omega⟩

def bDg (c : Int) : Bool := decide (48 ≤ c ∧ c ≤ 57)
theorem hasDg (c : Int) (w : World) (h0 : 0 ≤ c) (h1 : c ≤ 255) : Calls Tryd.prog 58 #[.string ⟨#[48, 49, 50, 51, 52, 53, 54, 55, 56, 57]⟩, .int .u8 c] w fun e w' => e = .returned (.bool (bDg c)) ∧ w' = w := by
  have h : hasB c ⟨#[48, 49, 50, 51, 52, 53, 54, 55, 56, 57]⟩ = bDg c := of256 (p := fun c => hasB c ⟨#[48, 49, 50, 51, 52, 53, 54, 55, 56, 57]⟩ = bDg c) (by decide +kernel) c h0 h1
  rw [← h]
  exact has_any _ c w (by decide)
def bLe (c : Int) : Bool := decide (97 ≤ c ∧ c ≤ 122 ∨ 65 ≤ c ∧ c ≤ 90)
theorem hasLe (c : Int) (w : World) (h0 : 0 ≤ c) (h1 : c ≤ 255) : Calls Tryd.prog 58 #[.string ⟨#[97, 98, 99, 100, 101, 102, 103, 104, 105, 106, 107, 108, 109, 110, 111, 112, 113, 114, 115, 116, 117, 118, 119, 120, 121, 122, 65, 66, 67, 68, 69, 70, 71, 72, 73, 74, 75, 76, 77, 78, 79, 80, 81, 82, 83, 84, 85, 86, 87, 88, 89, 90]⟩, .int .u8 c] w fun e w' => e = .returned (.bool (bLe c)) ∧ w' = w := by
  have h : hasB c ⟨#[97, 98, 99, 100, 101, 102, 103, 104, 105, 106, 107, 108, 109, 110, 111, 112, 113, 114, 115, 116, 117, 118, 119, 120, 121, 122, 65, 66, 67, 68, 69, 70, 71, 72, 73, 74, 75, 76, 77, 78, 79, 80, 81, 82, 83, 84, 85, 86, 87, 88, 89, 90]⟩ = bLe c := of256 (p := fun c => hasB c ⟨#[97, 98, 99, 100, 101, 102, 103, 104, 105, 106, 107, 108, 109, 110, 111, 112, 113, 114, 115, 116, 117, 118, 119, 120, 121, 122, 65, 66, 67, 68, 69, 70, 71, 72, 73, 74, 75, 76, 77, 78, 79, 80, 81, 82, 83, 84, 85, 86, 87, 88, 89, 90]⟩ = bLe c) (by decide +kernel) c h0 h1
  rw [← h]
  exact has_any _ c w (by decide)
def bHx (c : Int) : Bool := decide (48 ≤ c ∧ c ≤ 57 ∨ 97 ≤ c ∧ c ≤ 102 ∨ 65 ≤ c ∧ c ≤ 70)
theorem hasHx (c : Int) (w : World) (h0 : 0 ≤ c) (h1 : c ≤ 255) : Calls Tryd.prog 58 #[.string ⟨#[48, 49, 50, 51, 52, 53, 54, 55, 56, 57, 97, 98, 99, 100, 101, 102, 65, 66, 67, 68, 69, 70]⟩, .int .u8 c] w fun e w' => e = .returned (.bool (bHx c)) ∧ w' = w := by
  have h : hasB c ⟨#[48, 49, 50, 51, 52, 53, 54, 55, 56, 57, 97, 98, 99, 100, 101, 102, 65, 66, 67, 68, 69, 70]⟩ = bHx c := of256 (p := fun c => hasB c ⟨#[48, 49, 50, 51, 52, 53, 54, 55, 56, 57, 97, 98, 99, 100, 101, 102, 65, 66, 67, 68, 69, 70]⟩ = bHx c) (by decide +kernel) c h0 h1
  rw [← h]
  exact has_any _ c w (by decide)
def bTk (c : Int) : Bool := decide (48 ≤ c ∧ c ≤ 57 ∨ 97 ≤ c ∧ c ≤ 122 ∨ 65 ≤ c ∧ c ≤ 90 ∨ c = 45 ∨ c = 46 ∨ c = 33 ∨ c = 37 ∨ c = 42 ∨ c = 95 ∨ c = 43 ∨ c = 96 ∨ c = 39 ∨ c = 126)
theorem hasTk (c : Int) (w : World) (h0 : 0 ≤ c) (h1 : c ≤ 255) : Calls Tryd.prog 58 #[.string ⟨#[48, 49, 50, 51, 52, 53, 54, 55, 56, 57, 97, 98, 99, 100, 101, 102, 103, 104, 105, 106, 107, 108, 109, 110, 111, 112, 113, 114, 115, 116, 117, 118, 119, 120, 121, 122, 65, 66, 67, 68, 69, 70, 71, 72, 73, 74, 75, 76, 77, 78, 79, 80, 81, 82, 83, 84, 85, 86, 87, 88, 89, 90, 45, 46, 33, 37, 42, 95, 43, 96, 39, 126]⟩, .int .u8 c] w fun e w' => e = .returned (.bool (bTk c)) ∧ w' = w := by
  have h : hasB c ⟨#[48, 49, 50, 51, 52, 53, 54, 55, 56, 57, 97, 98, 99, 100, 101, 102, 103, 104, 105, 106, 107, 108, 109, 110, 111, 112, 113, 114, 115, 116, 117, 118, 119, 120, 121, 122, 65, 66, 67, 68, 69, 70, 71, 72, 73, 74, 75, 76, 77, 78, 79, 80, 81, 82, 83, 84, 85, 86, 87, 88, 89, 90, 45, 46, 33, 37, 42, 95, 43, 96, 39, 126]⟩ = bTk c := of256 (p := fun c => hasB c ⟨#[48, 49, 50, 51, 52, 53, 54, 55, 56, 57, 97, 98, 99, 100, 101, 102, 103, 104, 105, 106, 107, 108, 109, 110, 111, 112, 113, 114, 115, 116, 117, 118, 119, 120, 121, 122, 65, 66, 67, 68, 69, 70, 71, 72, 73, 74, 75, 76, 77, 78, 79, 80, 81, 82, 83, 84, 85, 86, 87, 88, 89, 90, 45, 46, 33, 37, 42, 95, 43, 96, 39, 126]⟩ = bTk c) (by decide +kernel) c h0 h1
  rw [← h]
  exact has_any _ c w (by decide)
def bPl (c : Int) : Bool := decide (48 ≤ c ∧ c ≤ 57 ∨ 97 ≤ c ∧ c ≤ 122 ∨ 65 ≤ c ∧ c ≤ 90 ∨ c = 45 ∨ c = 95 ∨ c = 46 ∨ c = 33 ∨ c = 126 ∨ c = 42 ∨ c = 39 ∨ c = 40 ∨ c = 41)
theorem hasPl (c : Int) (w : World) (h0 : 0 ≤ c) (h1 : c ≤ 255) : Calls Tryd.prog 58 #[.string ⟨#[48, 49, 50, 51, 52, 53, 54, 55, 56, 57, 97, 98, 99, 100, 101, 102, 103, 104, 105, 106, 107, 108, 109, 110, 111, 112, 113, 114, 115, 116, 117, 118, 119, 120, 121, 122, 65, 66, 67, 68, 69, 70, 71, 72, 73, 74, 75, 76, 77, 78, 79, 80, 81, 82, 83, 84, 85, 86, 87, 88, 89, 90, 45, 95, 46, 33, 126, 42, 39, 40, 41]⟩, .int .u8 c] w fun e w' => e = .returned (.bool (bPl c)) ∧ w' = w := by
  have h : hasB c ⟨#[48, 49, 50, 51, 52, 53, 54, 55, 56, 57, 97, 98, 99, 100, 101, 102, 103, 104, 105, 106, 107, 108, 109, 110, 111, 112, 113, 114, 115, 116, 117, 118, 119, 120, 121, 122, 65, 66, 67, 68, 69, 70, 71, 72, 73, 74, 75, 76, 77, 78, 79, 80, 81, 82, 83, 84, 85, 86, 87, 88, 89, 90, 45, 95, 46, 33, 126, 42, 39, 40, 41]⟩ = bPl c := of256 (p := fun c => hasB c ⟨#[48, 49, 50, 51, 52, 53, 54, 55, 56, 57, 97, 98, 99, 100, 101, 102, 103, 104, 105, 106, 107, 108, 109, 110, 111, 112, 113, 114, 115, 116, 117, 118, 119, 120, 121, 122, 65, 66, 67, 68, 69, 70, 71, 72, 73, 74, 75, 76, 77, 78, 79, 80, 81, 82, 83, 84, 85, 86, 87, 88, 89, 90, 45, 95, 46, 33, 126, 42, 39, 40, 41]⟩ = bPl c) (by decide +kernel) c h0 h1
  rw [← h]
  exact has_any _ c w (by decide)
def bHo (c : Int) : Bool := decide (48 ≤ c ∧ c ≤ 57 ∨ 97 ≤ c ∧ c ≤ 122 ∨ 65 ≤ c ∧ c ≤ 90 ∨ c = 45 ∨ c = 46)
theorem hasHo (c : Int) (w : World) (h0 : 0 ≤ c) (h1 : c ≤ 255) : Calls Tryd.prog 58 #[.string ⟨#[48, 49, 50, 51, 52, 53, 54, 55, 56, 57, 97, 98, 99, 100, 101, 102, 103, 104, 105, 106, 107, 108, 109, 110, 111, 112, 113, 114, 115, 116, 117, 118, 119, 120, 121, 122, 65, 66, 67, 68, 69, 70, 71, 72, 73, 74, 75, 76, 77, 78, 79, 80, 81, 82, 83, 84, 85, 86, 87, 88, 89, 90, 45, 46]⟩, .int .u8 c] w fun e w' => e = .returned (.bool (bHo c)) ∧ w' = w := by
  have h : hasB c ⟨#[48, 49, 50, 51, 52, 53, 54, 55, 56, 57, 97, 98, 99, 100, 101, 102, 103, 104, 105, 106, 107, 108, 109, 110, 111, 112, 113, 114, 115, 116, 117, 118, 119, 120, 121, 122, 65, 66, 67, 68, 69, 70, 71, 72, 73, 74, 75, 76, 77, 78, 79, 80, 81, 82, 83, 84, 85, 86, 87, 88, 89, 90, 45, 46]⟩ = bHo c := of256 (p := fun c => hasB c ⟨#[48, 49, 50, 51, 52, 53, 54, 55, 56, 57, 97, 98, 99, 100, 101, 102, 103, 104, 105, 106, 107, 108, 109, 110, 111, 112, 113, 114, 115, 116, 117, 118, 119, 120, 121, 122, 65, 66, 67, 68, 69, 70, 71, 72, 73, 74, 75, 76, 77, 78, 79, 80, 81, 82, 83, 84, 85, 86, 87, 88, 89, 90, 45, 46]⟩ = bHo c) (by decide +kernel) c h0 h1
  rw [← h]
  exact has_any _ c w (by decide)
set_option maxHeartbeats 400000 in
theorem refclass0 (c : Int) (w : World) (h0 : 0 ≤ c) (h1 : c ≤ 255) (h : 48 ≤ c ∧ c ≤ 57) :
    Calls Tryd.prog 32 #[.int .u8 c] w fun e w' => e = .returned (.int .i64 (cls c)) ∧ w' = w := by
  have tDg : bDg c = true := decide_eq_true (by omega)
  have tLe : bLe c = false := decide_eq_false (by omega)
  have tHx : bHx c = true := decide_eq_true (by omega)
  have tTk : bTk c = true := decide_eq_true (by omega)
  have tPl : bPl c = true := decide_eq_true (by omega)
  have tHo : bHo c = true := decide_eq_true (by omega)
  have hv : Hid (cls c = 93) := by show _ = _; unfold cls low sgn; (repeat' split) <;> omega
  have e32 : (c == 32) = false := by simp; omega
  have e9 : (c == 9) = false := by simp; omega
  clear h
  go_enter Tryd.func32, Tryd.ntmps32
  go_wp2_with fail
  refine (hasDg _ _ h0 h1).mono ?_
  rintro e w' ⟨rfl, rfl⟩
  go_wp2_with fail
  refine (hasLe _ _ h0 h1).mono ?_
  rintro e w' ⟨rfl, rfl⟩
  go_wp2_with fail
  refine (hasHx _ _ h0 h1).mono ?_
  rintro e w' ⟨rfl, rfl⟩
  go_wp2_with fail
  refine (hasTk _ _ h0 h1).mono ?_
  rintro e w' ⟨rfl, rfl⟩
  go_wp2_with fail
  refine (hasPl _ _ h0 h1).mono ?_
  rintro e w' ⟨rfl, rfl⟩
  go_wp2_with fail
  refine (hasHo _ _ h0 h1).mono ?_
  rintro e w' ⟨rfl, rfl⟩
  go_wp2
  go_ret
  exact ⟨ret_int hv.out.symm, rfl⟩

set_option maxHeartbeats 400000 in
theorem refclass1 (c : Int) (w : World) (h0 : 0 ≤ c) (h1 : c ≤ 255) (h : 97 ≤ c ∧ c ≤ 102 ∨ 65 ≤ c ∧ c ≤ 70) :
    Calls Tryd.prog 32 #[.int .u8 c] w fun e w' => e = .returned (.int .i64 (cls c)) ∧ w' = w := by
  have tDg : bDg c = false := decide_eq_false (by omega)
  have tLe : bLe c = true := decide_eq_true (by omega)
  have tHx : bHx c = true := decide_eq_true (by omega)
  have tTk : bTk c = true := decide_eq_true (by omega)
  have tPl : bPl c = true := decide_eq_true (by omega)
  have tHo : bHo c = true := decide_eq_true (by omega)
  have hv : Hid (cls c = 94) := by show _ = _; unfold cls low sgn; (repeat' split) <;> omega
  have e32 : (c == 32) = false := by simp; omega
  have e9 : (c == 9) = false := by simp; omega
  clear h
  go_enter Tryd.func32, Tryd.ntmps32
  go_wp2_with fail
  refine (hasDg _ _ h0 h1).mono ?_
  rintro e w' ⟨rfl, rfl⟩
  go_wp2_with fail
  refine (hasLe _ _ h0 h1).mono ?_
  rintro e w' ⟨rfl, rfl⟩
  go_wp2_with fail
  refine (hasHx _ _ h0 h1).mono ?_
  rintro e w' ⟨rfl, rfl⟩
  go_wp2_with fail
  refine (hasTk _ _ h0 h1).mono ?_
  rintro e w' ⟨rfl, rfl⟩
  go_wp2_with fail
  refine (hasPl _ _ h0 h1).mono ?_
  rintro e w' ⟨rfl, rfl⟩
  go_wp2_with fail
  refine (hasHo _ _ h0 h1).mono ?_
  rintro e w' ⟨rfl, rfl⟩
  go_wp2
  go_ret
  exact ⟨ret_int hv.out.symm, rfl⟩

set_option maxHeartbeats 400000 in
theorem refclass2 (c : Int) (w : World) (h0 : 0 ≤ c) (h1 : c ≤ 255) (h : 103 ≤ c ∧ c ≤ 122 ∨ 71 ≤ c ∧ c ≤ 90) :
    Calls Tryd.prog 32 #[.int .u8 c] w fun e w' => e = .returned (.int .i64 (cls c)) ∧ w' = w := by
  have tDg : bDg c = false := decide_eq_false (by omega)
  have tLe : bLe c = true := decide_eq_true (by omega)
  have tHx : bHx c = false := decide_eq_false (by omega)
  have tTk : bTk c = true := decide_eq_true (by omega)
  have tPl : bPl c = true := decide_eq_true (by omega)
  have tHo : bHo c = true := decide_eq_true (by omega)
  have hv : Hid (cls c = 90) := by show _ = _; unfold cls low sgn; (repeat' split) <;> omega
  have e32 : (c == 32) = false := by simp; omega
  have e9 : (c == 9) = false := by simp; omega
  clear h
  go_enter Tryd.func32, Tryd.ntmps32
  go_wp2_with fail
  refine (hasDg _ _ h0 h1).mono ?_
  rintro e w' ⟨rfl, rfl⟩
  go_wp2_with fail
  refine (hasLe _ _ h0 h1).mono ?_
  rintro e w' ⟨rfl, rfl⟩
  go_wp2_with fail
  refine (hasHx _ _ h0 h1).mono ?_
  rintro e w' ⟨rfl, rfl⟩
  go_wp2_with fail
  refine (hasTk _ _ h0 h1).mono ?_
  rintro e w' ⟨rfl, rfl⟩
  go_wp2_with fail
  refine (hasPl _ _ h0 h1).mono ?_
  rintro e w' ⟨rfl, rfl⟩
  go_wp2_with fail
  refine (hasHo _ _ h0 h1).mono ?_
  rintro e w' ⟨rfl, rfl⟩
  go_wp2
  go_ret
  exact ⟨ret_int hv.out.symm, rfl⟩

set_option maxHeartbeats 400000 in
theorem refclass3 (c : Int) (w : World) (h0 : 0 ≤ c) (h1 : c ≤ 255) (h : c = 45 ∨ c = 46) :
    Calls Tryd.prog 32 #[.int .u8 c] w fun e w' => e = .returned (.int .i64 (cls c)) ∧ w' = w := by
  have tDg : bDg c = false := decide_eq_false (by omega)
  have tLe : bLe c = false := decide_eq_false (by omega)
  have tHx : bHx c = false := decide_eq_false (by omega)
  have tTk : bTk c = true := decide_eq_true (by omega)
  have tPl : bPl c = true := decide_eq_true (by omega)
  have tHo : bHo c = true := decide_eq_true (by omega)
  have hv : Hid (cls c = 88) := by show _ = _; unfold cls low sgn; (repeat' split) <;> omega
  have e32 : (c == 32) = false := by simp; omega
  have e9 : (c == 9) = false := by simp; omega
  clear h
  go_enter Tryd.func32, Tryd.ntmps32
  go_wp2_with fail
  refine (hasDg _ _ h0 h1).mono ?_
  rintro e w' ⟨rfl, rfl⟩
  go_wp2_with fail
  refine (hasLe _ _ h0 h1).mono ?_
  rintro e w' ⟨rfl, rfl⟩
  go_wp2_with fail
  refine (hasHx _ _ h0 h1).mono ?_
  rintro e w' ⟨rfl, rfl⟩
  go_wp2_with fail
  refine (hasTk _ _ h0 h1).mono ?_
  rintro e w' ⟨rfl, rfl⟩
  go_wp2_with fail
  refine (hasPl _ _ h0 h1).mono ?_
  rintro e w' ⟨rfl, rfl⟩
  go_wp2_with fail
  refine (hasHo _ _ h0 h1).mono ?_
  rintro e w' ⟨rfl, rfl⟩
  go_wp2
  go_ret
  exact ⟨ret_int hv.out.symm, rfl⟩

set_option maxHeartbeats 400000 in
theorem refclass4 (c : Int) (w : World) (h0 : 0 ≤ c) (h1 : c ≤ 255) (h : c = 33 ∨ c = 126 ∨ c = 42 ∨ c = 95 ∨ c = 39) :
    Calls Tryd.prog 32 #[.int .u8 c] w fun e w' => e = .returned (.int .i64 (cls c)) ∧ w' = w := by
  have tDg : bDg c = false := decide_eq_false (by omega)
  have tLe : bLe c = false := decide_eq_false (by omega)
  have tHx : bHx c = false := decide_eq_false (by omega)
  have tTk : bTk c = true := decide_eq_true (by omega)
  have tPl : bPl c = true := decide_eq_true (by omega)
  have tHo : bHo c = false := decide_eq_false (by omega)
  have hv : Hid (cls c = 24) := by show _ = _; unfold cls low sgn; (repeat' split) <;> omega
  have e32 : (c == 32) = false := by simp; omega
  have e9 : (c == 9) = false := by simp; omega
  clear h
  go_enter Tryd.func32, Tryd.ntmps32
  go_wp2_with fail
  refine (hasDg _ _ h0 h1).mono ?_
  rintro e w' ⟨rfl, rfl⟩
  go_wp2_with fail
  refine (hasLe _ _ h0 h1).mono ?_
  rintro e w' ⟨rfl, rfl⟩
  go_wp2_with fail
  refine (hasHx _ _ h0 h1).mono ?_
  rintro e w' ⟨rfl, rfl⟩
  go_wp2_with fail
  refine (hasTk _ _ h0 h1).mono ?_
  rintro e w' ⟨rfl, rfl⟩
  go_wp2_with fail
  refine (hasPl _ _ h0 h1).mono ?_
  rintro e w' ⟨rfl, rfl⟩
  go_wp2_with fail
  refine (hasHo _ _ h0 h1).mono ?_
  rintro e w' ⟨rfl, rfl⟩
  go_wp2
  go_ret
  exact ⟨ret_int hv.out.symm, rfl⟩

set_option maxHeartbeats 400000 in
theorem refclass5 (c : Int) (w : World) (h0 : 0 ≤ c) (h1 : c ≤ 255) (h : c = 37 ∨ c = 43 ∨ c = 96) :
    Calls Tryd.prog 32 #[.int .u8 c] w fun e w' => e = .returned (.int .i64 (cls c)) ∧ w' = w := by
  have tDg : bDg c = false := decide_eq_false (by omega)
  have tLe : bLe c = false := decide_eq_false (by omega)
  have tHx : bHx c = false := decide_eq_false (by omega)
  have tTk : bTk c = true := decide_eq_true (by omega)
  have tPl : bPl c = false := decide_eq_false (by omega)
  have tHo : bHo c = false := decide_eq_false (by omega)
  have hv : Hid (cls c = 8) := by show _ = _; unfold cls low sgn; (repeat' split) <;> omega
  have e32 : (c == 32) = false := by simp; omega
  have e9 : (c == 9) = false := by simp; omega
  clear h
  go_enter Tryd.func32, Tryd.ntmps32
  go_wp2_with fail
  refine (hasDg _ _ h0 h1).mono ?_
  rintro e w' ⟨rfl, rfl⟩
  go_wp2_with fail
  refine (hasLe _ _ h0 h1).mono ?_
  rintro e w' ⟨rfl, rfl⟩
  go_wp2_with fail
  refine (hasHx _ _ h0 h1).mono ?_
  rintro e w' ⟨rfl, rfl⟩
  go_wp2_with fail
  refine (hasTk _ _ h0 h1).mono ?_
  rintro e w' ⟨rfl, rfl⟩
  go_wp2_with fail
  refine (hasPl _ _ h0 h1).mono ?_
  rintro e w' ⟨rfl, rfl⟩
  go_wp2_with fail
  refine (hasHo _ _ h0 h1).mono ?_
  rintro e w' ⟨rfl, rfl⟩
  go_wp2
  go_ret
  exact ⟨ret_int hv.out.symm, rfl⟩

set_option maxHeartbeats 400000 in
theorem refclass6 (c : Int) (w : World) (h0 : 0 ≤ c) (h1 : c ≤ 255) (h : c = 40 ∨ c = 41) :
    Calls Tryd.prog 32 #[.int .u8 c] w fun e w' => e = .returned (.int .i64 (cls c)) ∧ w' = w := by
  have tDg : bDg c = false := decide_eq_false (by omega)
  have tLe : bLe c = false := decide_eq_false (by omega)
  have tHx : bHx c = false := decide_eq_false (by omega)
  have tTk : bTk c = false := decide_eq_false (by omega)
  have tPl : bPl c = true := decide_eq_true (by omega)
  have tHo : bHo c = false := decide_eq_false (by omega)
  have hv : Hid (cls c = 16) := by show _ = _; unfold cls low sgn; (repeat' split) <;> omega
  have e32 : (c == 32) = false := by simp; omega
  have e9 : (c == 9) = false := by simp; omega
  clear h
  go_enter Tryd.func32, Tryd.ntmps32
  go_wp2_with fail
  refine (hasDg _ _ h0 h1).mono ?_
  rintro e w' ⟨rfl, rfl⟩
  go_wp2_with fail
  refine (hasLe _ _ h0 h1).mono ?_
  rintro e w' ⟨rfl, rfl⟩
  go_wp2_with fail
  refine (hasHx _ _ h0 h1).mono ?_
  rintro e w' ⟨rfl, rfl⟩
  go_wp2_with fail
  refine (hasTk _ _ h0 h1).mono ?_
  rintro e w' ⟨rfl, rfl⟩
  go_wp2_with fail
  refine (hasPl _ _ h0 h1).mono ?_
  rintro e w' ⟨rfl, rfl⟩
  go_wp2_with fail
  refine (hasHo _ _ h0 h1).mono ?_
  rintro e w' ⟨rfl, rfl⟩
  go_wp2
  go_ret
  exact ⟨ret_int hv.out.symm, rfl⟩

set_option maxHeartbeats 400000 in
theorem refclass7 (c : Int) (w : World) (h0 : 0 ≤ c) (h1 : c ≤ 255) (h : c = 32 ∨ c = 9) :
    Calls Tryd.prog 32 #[.int .u8 c] w fun e w' => e = .returned (.int .i64 (cls c)) ∧ w' = w := by
  have tDg : bDg c = false := decide_eq_false (by omega)
  have tLe : bLe c = false := decide_eq_false (by omega)
  have tHx : bHx c = false := decide_eq_false (by omega)
  have tTk : bTk c = false := decide_eq_false (by omega)
  have tPl : bPl c = false := decide_eq_false (by omega)
  have tHo : bHo c = false := decide_eq_false (by omega)
  have hv : Hid (cls c = 32) := by show _ = _; unfold cls low sgn; (repeat' split) <;> omega
  rcases h with h | h
  all_goals
    subst h
    go_enter Tryd.func32, Tryd.ntmps32
    go_wp2_with fail
    refine (hasDg _ _ h0 h1).mono ?_
    rintro e w' ⟨rfl, rfl⟩
    go_wp2_with fail
    refine (hasLe _ _ h0 h1).mono ?_
    rintro e w' ⟨rfl, rfl⟩
    go_wp2_with fail
    refine (hasHx _ _ h0 h1).mono ?_
    rintro e w' ⟨rfl, rfl⟩
    go_wp2_with fail
    refine (hasTk _ _ h0 h1).mono ?_
    rintro e w' ⟨rfl, rfl⟩
    go_wp2_with fail
    refine (hasPl _ _ h0 h1).mono ?_
    rintro e w' ⟨rfl, rfl⟩
    go_wp2_with fail
    refine (hasHo _ _ h0 h1).mono ?_
    rintro e w' ⟨rfl, rfl⟩
    go_wp2
    go_ret
    exact ⟨ret_int hv.out.symm, rfl⟩

set_option maxHeartbeats 400000 in
theorem refclass8 (c : Int) (w : World) (h0 : 0 ≤ c) (h1 : c ≤ 255) (h : ¬ (48 ≤ c ∧ c ≤ 57) ∧ ¬ (97 ≤ c ∧ c ≤ 122 ∨ 65 ≤ c ∧ c ≤ 90) ∧ c ≠ 45 ∧ c ≠ 46 ∧ c ≠ 33 ∧ c ≠ 37 ∧ c ≠ 42 ∧ c ≠ 95 ∧ c ≠ 43 ∧ c ≠ 96 ∧ c ≠ 39 ∧ c ≠ 126 ∧ c ≠ 40 ∧ c ≠ 41 ∧ c ≠ 32 ∧ c ≠ 9) :
    Calls Tryd.prog 32 #[.int .u8 c] w fun e w' => e = .returned (.int .i64 (cls c)) ∧ w' = w := by
  have tDg : bDg c = false := decide_eq_false (by omega)
  have tLe : bLe c = false := decide_eq_false (by omega)
  have tHx : bHx c = false := decide_eq_false (by omega)
  have tTk : bTk c = false := decide_eq_false (by omega)
  have tPl : bPl c = false := decide_eq_false (by omega)
  have tHo : bHo c = false := decide_eq_false (by omega)
  have hv : Hid (cls c = 0) := by show _ = _; unfold cls low sgn; (repeat' split) <;> omega
  have e32 : (c == 32) = false := by simp; omega
  have e9 : (c == 9) = false := by simp; omega
  clear h
  go_enter Tryd.func32, Tryd.ntmps32
  go_wp2_with fail
  refine (hasDg _ _ h0 h1).mono ?_
  rintro e w' ⟨rfl, rfl⟩
  go_wp2_with fail
  refine (hasLe _ _ h0 h1).mono ?_
  rintro e w' ⟨rfl, rfl⟩
  go_wp2_with fail
  refine (hasHx _ _ h0 h1).mono ?_
  rintro e w' ⟨rfl, rfl⟩
  go_wp2_with fail
  refine (hasTk _ _ h0 h1).mono ?_
  rintro e w' ⟨rfl, rfl⟩
  go_wp2_with fail
  refine (hasPl _ _ h0 h1).mono ?_
  rintro e w' ⟨rfl, rfl⟩
  go_wp2_with fail
  refine (hasHo _ _ h0 h1).mono ?_
  rintro e w' ⟨rfl, rfl⟩
  go_wp2
  go_ret
  exact ⟨ret_int hv.out.symm, rfl⟩

theorem refclass_any (c : Int) (w : World) (h0 : 0 ≤ c) (h1 : c ≤ 255) :
    Calls Tryd.prog 32 #[.int .u8 c] w fun e w' => e = .returned (.int .i64 (cls c)) ∧ w' = w := by
  by_cases a0 : 48 ≤ c ∧ c ≤ 57
  · exact refclass0 c w h0 h1 a0
  by_cases a1 : 97 ≤ c ∧ c ≤ 102 ∨ 65 ≤ c ∧ c ≤ 70
  · exact refclass1 c w h0 h1 a1
  by_cases a2 : 103 ≤ c ∧ c ≤ 122 ∨ 71 ≤ c ∧ c ≤ 90
  · exact refclass2 c w h0 h1 a2
  by_cases a3 : c = 45 ∨ c = 46
  · exact refclass3 c w h0 h1 a3
  by_cases a4 : c = 33 ∨ c = 126 ∨ c = 42 ∨ c = 95 ∨ c = 39
  · exact refclass4 c w h0 h1 a4
  by_cases a5 : c = 37 ∨ c = 43 ∨ c = 96
  · exact refclass5 c w h0 h1 a5
  by_cases a6 : c = 40 ∨ c = 41
  · exact refclass6 c w h0 h1 a6
  by_cases a7 : c = 32 ∨ c = 9
  · exact refclass7 c w h0 h1 a7
  exact refclass8 c w h0 h1 (by omega)

set_option maxHeartbeats 400000 in
theorem refall_any (s : ByteArray) (class_ : Int) (w : World) (hs : s.size ≤ maxLen) :
    Calls Tryd.prog 34 #[.string s, .int .i64 class_] w fun e w' => e = .returned (.bool (allB class_ s.data.toList)) ∧ w' = w := by
  unfold maxLen at hs
  go_enter Tryd.func34, Tryd.ntmps34
  go_wp2
  go_loop [5] (fun i => ∃ k : Nat, k ≤ s.size ∧ i = .int .i64 k ∧ Hid (allB class_ (s.data.toList.take k) = true)) (fun i => s.size - (intOf i).toNat)
  case atStart => exact ⟨0, Nat.zero_le _, rfl, rfl⟩
  case round =>
    obtain ⟨k, hk, rfl, hall⟩ := hrel
    by_cases hlt : k < s.size
    · have hbd := u8_bd s[k]
      by_cases hb : isB s[k].toNat class_ = true
      · have hz : (bits BinOp.and IntKind.i64 (cls s[k].toNat) class_ == 0) = false := by simpa [isB] using hb
        have HB : Hid (isB s[k].toNat class_ = true) := hb
        clear hb
        go_wp2_with (go_at_call 32; refine (refclass_any _ _ hbd.1 hbd.2).mono ?_; rintro e w' ⟨rfl, rfl⟩)
        go_round
        case rel => exact ⟨k + 1, by omega, by go_num, show _ = _ by rw [take_snoc s k hlt, allB_snoc, hall.out, HB.out]; rfl⟩
        case measure => simp [intOf]; omega
      · have hb' : isB s[k].toNat class_ = false := by simpa using hb
        have hz : (bits BinOp.and IntKind.i64 (cls s[k].toNat) class_ == 0) = true := by simpa [isB] using hb'
        clear hb
        have HB : Hid (isB s[k].toNat class_ = false) := hb'
        clear hb'
        go_wp2_with (go_at_call 32; refine (refclass_any _ _ hbd.1 hbd.2).mono ?_; rintro e w' ⟨rfl, rfl⟩)
        go_ret
        exact ⟨ret_bool (allB_hit hlt HB.out).symm, rfl⟩
    · go_wp2
      go_ret
      exact ⟨ret_bool (by rw [← hall.out, take_all s k (by omega)]), rfl⟩

end Go.Proofs.YtfdcklekjnihjaaDoor
