/-
  Contracts of the document's own Digits and Number.
-/
import Derived.Test.YtfdcklekjnihjaaDoorDigits
import Derived.Test.YtfdcklekjnihjaaDoorRefClass
import Derived.Deep.QuietTactic
import Derived.BigQuiet
namespace Go.Proofs.YtfdcklekjnihjaaDoor
open Go.RowKit Sc
set_option linter.unusedVariables false
set_option maxRecDepth 20000

set_option maxHeartbeats 400000 in
theorem refdigits_neg (n : Int) (w : World) (hn : n < 0) :
    Calls Tryd.prog 39 #[.int .i64 n] w fun e w' => e = .returned (.string ⟨#[]⟩) ∧ w' = w := by
  go_enter Tryd.func39, Tryd.ntmps39
  go_wp2_with fail
  go_ret
  exact ⟨rfl, rfl⟩

theorem dig_ext (i : Int) (h0 : 0 ≤ i) (h1 : i < 10) : (ByteArray.mk #[48, 49, 50, 51, 52, 53, 54, 55, 56, 57]).extract i.toNat (i + 1).toNat = ⟨[digb i.toNat].toArray⟩ := by
  obtain ⟨n, rfl⟩ := Int.eq_ofNat_of_zero_le h0
  have h : ∀ n : Fin 10, (ByteArray.mk #[48, 49, 50, 51, 52, 53, 54, 55, 56, 57]).extract n.val (n.val + 1) = ⟨[digb n.val].toArray⟩ := by decide +kernel
  exact h ⟨n, by omega⟩

set_option maxHeartbeats 600000 in
theorem refdigits_any (k : Nat) : ∀ (n : Int) (w : World), n ≤ k → 0 ≤ n → n ≤ 9223372036854775807 →
    Calls Tryd.prog 39 #[.int .i64 n] w fun e w' => e = .returned (.string ⟨(digL n.toNat).toArray⟩) ∧ ∃ q, w' = w.drewN q := by
  induction k with
  | zero =>
    intro n w hk h0 h1
    have hn : n = 0 := by omega
    subst hn
    go_enter Tryd.func39, Tryd.ntmps39
    go_wp2_with fail
    go_ret
    exact ⟨by rw [digL_small (by omega)]; rfl, 0, rfl⟩
  | succ k ih =>
    intro n w hk h0 h1
    by_cases hn : n < 10
    · have hE : Hid ((ByteArray.mk #[48, 49, 50, 51, 52, 53, 54, 55, 56, 57]).extract n.toNat (n + 1).toNat = ⟨(digL n.toNat).toArray⟩) := by
        show _ = _; rw [dig_ext n h0 hn, digL_small (by omega)]
      go_enter Tryd.func39, Tryd.ntmps39
      go_wp2_with fail
      go_ret
      exact ⟨by rw [← hE.out]; rfl, 0, rfl⟩
    · have hq0 : 0 ≤ n / 10 := by omega
      have hi := fun w => ih (n / 10) w (by omega) hq0 (by omega)
      have HI : Hid (∀ w : World, Calls Tryd.prog 39 #[.int .i64 (n / 10)] w fun e w' => e = .returned (.string ⟨(digL (n / 10).toNat).toArray⟩) ∧ ∃ q, w' = w.drewN q) := hi
      clear hi ih
      have e1 : IntKind.i64.wrap (n.tdiv 10) = n / 10 := by rw [Int.tdiv_eq_ediv_of_nonneg h0]; simp [IntKind.wrap, IntKind.signed, IntKind.bits]; omega
      have e2 : n.tmod 10 = n % 10 := Int.tmod_eq_emod_of_nonneg h0
      have e3 : IntKind.i64.wrap (n % 10 + 1) = n % 10 + 1 := by simp [IntKind.wrap, IntKind.signed, IntKind.bits]; omega
      have e4 : IntKind.i64.wrap (n % 10) = n % 10 := by simp [IntKind.wrap, IntKind.signed, IntKind.bits]; omega
      have g1 : 0 ≤ n % 10 := by omega
      have e5 : (ByteArray.mk #[48, 49, 50, 51, 52, 53, 54, 55, 56, 57]).extract (n % 10).toNat (n % 10 + 1).toNat = ⟨[digb (n % 10).toNat].toArray⟩ := dig_ext _ g1 (by omega)
      have g5 : (digL (n / 10).toNat).length + 1 ≤ 9223372036854775807 := by have := digL_len19 (n := (n / 10).toNat) (by omega); omega
      have hE : Hid ((ByteArray.mk (digL (n / 10).toNat).toArray) ++ ⟨[digb (n % 10).toNat].toArray⟩ = ⟨(digL n.toNat).toArray⟩) := by
        show _ = _
        rw [ByteArray.mk_append_mk, digL_big (n := n.toNat) (by omega)]
        have a1 : n.toNat / 10 = (n / 10).toNat := by omega
        have a2 : digb (n % 10).toNat = digb n.toNat := by unfold digb; congr 2; omega
        rw [a1, a2]
      have g2 : n % 10 < 10 := by omega
      have g3 : n % 10 ≤ n % 10 + 1 := by omega
      have g4 : n % 10 + 1 ≤ 10 := by omega
      go_enter Tryd.func39, Tryd.ntmps39
      go_wp2_with fail
      go_quiet ((go_at_call 39; exact Calls.quiet_of (HI.out _)))
      clear e1 e2 e3 e4 e5
      go_wp2_with fail
      go_ret
      exact ⟨by rw [← hE.out]; rfl, nq, rfl⟩


theorem ref_stop {most n d : Int} (h : 922337203685477580 < n ∨ most < d ∨ most - d < 10 * n) (hm : most ≤ 9223372036854775807) (hd : 0 ≤ d) : d > most ∨ n > (most - d) / 10 := by omega

set_option maxHeartbeats 600000 in
theorem refnumber_any (s : ByteArray) (most : Int) (w : World) (hs : s.size ≤ maxLen) (hm0 : -9223372036854775808 ≤ most) (hm1 : most ≤ 9223372036854775807) :
    Calls Tryd.prog 27 #[.string s, .int .i64 most] w fun e w' => e = .returned (.tuple #[.int .i64 (numV most s.data.toList).1, .int .i64 (numV most s.data.toList).2]) ∧ w' = w := by
  have hs0 := hs
  unfold maxLen at hs
  by_cases he : s.size = 0
  · have hE := isE_true he
    have hv : numV most s.data.toList = (0, 10) := by
      have : s.data.toList = [] := List.eq_nil_of_length_eq_zero (by rw [len_data, he])
      rw [numV, if_pos (Or.inl this)]
    have HV : Hid (numV most s.data.toList = (0, 10)) := hv; clear hv
    go_enter Tryd.func27, Tryd.ntmps27
    go_wp2
    go_ret2
    exact ⟨ret_pair 0 10 HV.out, rfl⟩
  have hE := isE_false (s := s) (by omega)
  have hne := data_ne (s := s) (by omega)
  by_cases ha : allB 1 s.data.toList = true
  · have hdig : Hid (∀ k (hk : k < s.size), 48 ≤ (s[k].toNat : Int) ∧ (s[k].toNat : Int) ≤ 57) := fun k hk => digit_at ha k hk
    have HV : Hid (numV most s.data.toList = match numL most 0 s.data.toList with | some n => (n, 0) | none => (0, 9)) := by
      show _ = _
      rw [numV, if_neg (by simp [hne, ha])]
      rfl
    clear hne
    go_enter Tryd.func27, Tryd.ntmps27
    go_wp2_with (go_at_call 34; refine (refall_any _ _ _ hs0).mono ?_; rintro e w' ⟨rfl, rfl⟩)
    go_loop [6, 7] (fun n i => ∃ (k : Nat) (m : Int), k ≤ s.size ∧ i = .int .i64 k ∧ n = .int .i64 m ∧ 0 ≤ m ∧ m ≤ 9223372036854775807 ∧ Hid (numL most 0 s.data.toList = numL most m (s.data.toList.drop k))) (fun _ i => s.size - (intOf i).toNat)
    case atStart => exact ⟨0, 0, Nat.zero_le _, rfl, rfl, by omega, by omega, rfl⟩
    case round =>
      obtain ⟨k, m, hk, rfl, rfl, hm0', hm1', hnum⟩ := hrel
      by_cases hlt : k < s.size
      · have hd := hdig.out k hlt
        by_cases h0 : 922337203685477580 < m
        · have HS : Hid (numL most m (s.data.toList.drop k) = none) := numL_stop hlt (ref_stop (Or.inl h0) hm1 (by omega))
          go_wp2
          go_ret2
          exact ⟨ret_pair 0 9 (by rw [HV.out, hnum.out, HS.out]), rfl⟩
        · by_cases h1 : most < (s[k].toNat : Int) - 48
          · have HS : Hid (numL most m (s.data.toList.drop k) = none) := numL_stop hlt (ref_stop (Or.inr (Or.inl h1)) hm1 (by omega))
            go_wp2
            go_ret2
            exact ⟨ret_pair 0 9 (by rw [HV.out, hnum.out, HS.out]), rfl⟩
          · by_cases h2 : most - ((s[k].toNat : Int) - 48) < 10 * m
            · have HS : Hid (numL most m (s.data.toList.drop k) = none) := numL_stop hlt (ref_stop (Or.inr (Or.inr h2)) hm1 (by omega))
              go_wp2
              go_ret2
              exact ⟨ret_pair 0 9 (by rw [HV.out, hnum.out, HS.out]), rfl⟩
            · have hst := numL_go (most := most) (n := m) hlt (by omega)
              have HS : Hid (numL most m (s.data.toList.drop k) = numL most (10 * m + ((s[k].toNat : Int) - 48)) (s.data.toList.drop (k + 1))) := hst
              clear hst
              go_wp2
              go_round
              case rel => exact ⟨k + 1, 10 * m + ((s[k].toNat : Int) - 48), by omega, by go_num, by go_num, by omega, by omega, show _ = _ by rw [hnum.out, HS.out]⟩
              case measure => simp [intOf]; omega
      · have HD : Hid (s.data.toList.drop k = []) := drop_all s k (by omega)
        go_wp2
        go_ret2
        exact ⟨ret_pair m 0 (by rw [HV.out, hnum.out, HD.out]; rfl), rfl⟩
  · have ha' : allB 1 s.data.toList = false := by simpa using ha
    have HV : Hid (numV most s.data.toList = (0, 10)) := by show _ = _; rw [numV, if_pos (Or.inr ha')]
    clear ha hne
    go_enter Tryd.func27, Tryd.ntmps27
    go_wp2_with (go_at_call 34; refine (refall_any _ _ _ hs0).mono ?_; rintro e w' ⟨rfl, rfl⟩)
    go_ret2
    exact ⟨ret_pair 0 10 HV.out, rfl⟩

end Go.Proofs.YtfdcklekjnihjaaDoor
