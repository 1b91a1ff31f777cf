/-
  Contracts of All, Number and Quote.
-/
import Derived.Test.YtfdcklekjnihjaaDoorBytes
import Derived.Test.YtfdcklekjnihjaaDoorOwn
namespace Go.Proofs.YtfdcklekjnihjaaDoor
open Go.RowKit Sc
set_option linter.unusedVariables false
set_option maxRecDepth 20000

def allB (class_ : Int) (l : List UInt8) : Bool := l.all fun b => isB b.toNat class_

theorem allB_snoc (class_ : Int) (l : List UInt8) (b : UInt8) : allB class_ (l ++ [b]) = (allB class_ l && isB b.toNat class_) := by simp [allB]
theorem allB_hit {class_ : Int} {s : ByteArray} {k : Nat} (h : k < s.size) (hb : isB s[k].toNat class_ = false) : allB class_ s.data.toList = false := by
  rw [allB, List.all_eq_false]
  exact ⟨s[k], List.mem_of_getElem? (getL s k h), by simp [hb]⟩

set_option maxHeartbeats 400000 in
theorem all_any (s : ByteArray) (class_ : Int) (w : World) (hs : s.size ≤ maxLen) :
    Calls Tryd.prog 53 #[.string s, .int .i64 class_] w fun e w' => e = .returned (.bool (allB class_ s.data.toList)) ∧ w' = w := by
  unfold maxLen at hs
  go_enter Tryd.func53, Tryd.ntmps53
  go_wp2
  go_loop [5, 8] (fun _ i => ∃ k : Nat, k ≤ s.size ∧ i = .int .i64 k ∧ Hid (allB class_ (s.data.toList.take k) = true)) (fun _ i => s.size - (intOf i).toNat)
  case atStart => exact ⟨0, Nat.zero_le _, rfl, rfl⟩
  case round =>
    obtain ⟨k, hk, rfl, hall⟩ := hrel
    by_cases hlt : k < s.size
    · have hbd := u8_bd s[k]
      by_cases hb : isB s[k].toNat class_ = true
      · go_wp2_with (go_at_call 59; refine (is_any _ _ _ hbd.1 hbd.2).mono ?_; rintro e w' ⟨rfl, rfl⟩)
        go_round
        case rel => exact ⟨k + 1, by omega, by go_num, show _ = _ by rw [take_snoc s k hlt, allB_snoc, hall.out, hb]; rfl⟩
        case measure => simp [intOf]; omega
      · have hb' : isB s[k].toNat class_ = false := by simpa using hb
        clear hb
        go_wp2_with (go_at_call 59; refine (is_any _ _ _ hbd.1 hbd.2).mono ?_; rintro e w' ⟨rfl, rfl⟩)
        go_ret
        exact ⟨ret_bool (allB_hit hlt hb').symm, rfl⟩
    · go_wp2
      go_ret
      exact ⟨ret_bool (by rw [← hall.out, take_all s k (by omega)]), rfl⟩

/-- What Number reads: the digits' number, if it stays up to most. -/
def numL (most : Int) : Int → List UInt8 → Option Int
  | n, [] => some n
  | n, b :: r => if (b.toNat : Int) - 48 > most ∨ n > (most - ((b.toNat : Int) - 48)) / 10 then none else numL most (10 * n + ((b.toNat : Int) - 48)) r
def numV (most : Int) (l : List UInt8) : Int × Int :=
  if l = [] ∨ allB 1 l = false then (0, 10) else match numL most 0 l with | some n => (n, 0) | none => (0, 9)

theorem isB_digit (c : Int) (h0 : 0 ≤ c) (h1 : c ≤ 255) : isB c 1 = decide (48 ≤ c ∧ c ≤ 57) := by
  obtain ⟨n, rfl⟩ := Int.eq_ofNat_of_zero_le h0
  have h : ∀ n : Fin 256, isB (n.val : Int) 1 = decide (48 ≤ (n.val : Int) ∧ (n.val : Int) ≤ 57) := by decide +kernel
  exact h ⟨n, by omega⟩
theorem digit_at {s : ByteArray} (h : allB 1 s.data.toList = true) (k : Nat) (hk : k < s.size) : 48 ≤ (s[k].toNat : Int) ∧ (s[k].toNat : Int) ≤ 57 := by
  have hb := u8_bd s[k]
  have := (List.all_eq_true.1 h) s[k] (List.mem_of_getElem? (getL s k hk))
  rw [isB_digit _ hb.1 hb.2] at this
  simpa using this
theorem numL_stop {most n : Int} {s : ByteArray} {k : Nat} (hk : k < s.size) (h : (s[k].toNat : Int) - 48 > most ∨ n > (most - ((s[k].toNat : Int) - 48)) / 10) : numL most n (s.data.toList.drop k) = none := by
  rw [drop_cons s k hk, numL, if_pos h]
theorem numL_go {most n : Int} {s : ByteArray} {k : Nat} (hk : k < s.size) (h : ¬ ((s[k].toNat : Int) - 48 > most ∨ n > (most - ((s[k].toNat : Int) - 48)) / 10)) :
    numL most n (s.data.toList.drop k) = numL most (10 * n + ((s[k].toNat : Int) - 48)) (s.data.toList.drop (k + 1)) := by
  rw [drop_cons s k hk, numL, if_neg h]

set_option maxHeartbeats 400000 in
theorem number_any (s : ByteArray) (most : Int) (w : World) (hs : s.size ≤ maxLen) (hm0 : -9223372036854775808 ≤ most) (hm1 : most ≤ 9223372036854775807) :
    Calls Tryd.prog 25 #[.string s, .int .i64 most] w fun e w' => e = .returned (.tuple #[.int .i64 (numV most s.data.toList).1, .int .i64 (numV most s.data.toList).2]) ∧ w' = w := by
  have hs0 := hs
  unfold maxLen at hs
  by_cases he : s.size = 0
  · have hE := isE_true he
    have hv : numV most s.data.toList = (0, 10) := by
      have : s.data.toList = [] := List.eq_nil_of_length_eq_zero (by rw [len_data, he])
      rw [numV, if_pos (Or.inl this)]
    have HV : Hid _ := hv; clear hv
    go_enter Tryd.func25, Tryd.ntmps25
    go_wp2
    go_ret2
    exact ⟨ret_pair 0 10 HV.out, rfl⟩
  have hE := isE_false (s := s) (by omega)
  have hne := data_ne (s := s) (by omega)
  by_cases ha : allB 1 s.data.toList = true
  · have hdig : Hid (∀ k (hk : k < s.size), 48 ≤ (s[k].toNat : Int) ∧ (s[k].toNat : Int) ≤ 57) := fun k hk => digit_at ha k hk
    have HV : Hid (numV most s.data.toList = match numL most 0 s.data.toList with | some n => (n, 0) | none => (0, 9)) := by
      show _ = _
      rw [numV, if_neg (by simp [hne, ha])]
    clear hne
    go_enter Tryd.func25, Tryd.ntmps25
    go_wp2_with (go_at_call 53; refine (all_any _ _ _ hs0).mono ?_; rintro e w' ⟨rfl, rfl⟩)
    go_loop [6, 18] (fun n i => ∃ (k : Nat) (m : Int), k ≤ s.size ∧ i = .int .i64 k ∧ n = .int .i64 m ∧ 0 ≤ m ∧ m ≤ 9223372036854775807 ∧ Hid (numL most 0 s.data.toList = numL most m (s.data.toList.drop k))) (fun _ i => s.size - (intOf i).toNat)
    case atStart => exact ⟨0, 0, Nat.zero_le _, rfl, rfl, by omega, by omega, rfl⟩
    case round =>
      obtain ⟨k, m, hk, rfl, rfl, hm0', hm1', hnum⟩ := hrel
      by_cases hlt : k < s.size
      · have hd := hdig.out k hlt
        by_cases h1 : most < (s[k].toNat : Int) - 48
        · have hst := numL_stop (most := most) (n := m) hlt (Or.inl (by omega))
          have HS : Hid _ := hst; clear hst
          go_wp2
          go_ret2
          exact ⟨ret_pair 0 9 (by rw [HV.out, hnum.out, HS.out]), rfl⟩
        · by_cases h2 : (most - ((s[k].toNat : Int) - 48)) / 10 < m
          · have hst := numL_stop (most := most) (n := m) hlt (Or.inr (by omega))
            have HS : Hid _ := hst; clear hst
            go_wp2
            go_ret2
            exact ⟨ret_pair 0 9 (by rw [HV.out, hnum.out, HS.out]), rfl⟩
          · have hst := numL_go (most := most) (n := m) hlt (by omega)
            have HS : Hid _ := hst; clear hst
            go_wp2
            go_round
            case rel => exact ⟨k + 1, 10 * m + ((s[k].toNat : Int) - 48), by omega, by go_num, by go_num, by omega, by omega, show _ = _ by rw [hnum.out, HS.out]⟩
            case measure => simp [intOf]; omega
      · have hdr := drop_all s k (by omega)
        have HD : Hid _ := hdr; clear hdr
        go_wp2
        go_ret2
        exact ⟨ret_pair m 0 (by rw [HV.out, hnum.out, HD.out]; rfl), rfl⟩
  · have ha' : allB 1 s.data.toList = false := by simpa using ha
    have hv : numV most s.data.toList = (0, 10) := by rw [numV, if_pos (Or.inr ha')]
    have HV : Hid _ := hv; clear hv ha hne
    go_enter Tryd.func25, Tryd.ntmps25
    go_wp2_with (go_at_call 53; refine (all_any _ _ _ hs0).mono ?_; rintro e w' ⟨rfl, rfl⟩)
    go_ret2
    exact ⟨ret_pair 0 10 HV.out, rfl⟩

end Go.Proofs.YtfdcklekjnihjaaDoor
