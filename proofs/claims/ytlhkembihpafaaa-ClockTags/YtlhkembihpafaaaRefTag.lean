/-
  Contracts of the document's own spelled, Tag, worth and Read.
-/
import Derived.Test.YtlhkembihpafaaaRd
namespace Go.Proofs.Ytlhkembihpafaaa
open Go.RowKit
set_option linter.unusedVariables false

theorem lett_ext (m : Nat) (h : m < 32) : lettA.extract m (m + 1) = ⟨[lt m].toArray⟩ := by
  have : ∀ m : Fin 32, lettA.extract m.val (m.val + 1) = ⟨[lt m.val].toArray⟩ := by decide +kernel
  exact this ⟨m, h⟩

set_option maxHeartbeats 1000000 in
theorem spelled_any (n k : Nat) (w : World) (hn : n < 18446744073709551616) (hk : k ≤ 13) :
    Calls Try.prog 26 #[.int .u64 n, .int .i64 k] w fun e w' => e = .returned (.string ⟨(spell n k).toArray⟩) ∧ w' = w := by
  go_enter Try.func26, Try.ntmps26
  go_wp2
  go_loop [0, 5, 6] (fun x s i => ∃ (j m : Nat) (l : List UInt8), j ≤ k ∧ i = .int .i64 j ∧ x = .int .u64 m ∧ s = .string ⟨l.toArray⟩ ∧ m < 18446744073709551616 ∧ Hid (m = n / 32 ^ j) ∧ Hid (l = spell n j) ∧ l.length = j) (fun _ _ i => k - (intOf i).toNat)
  case atStart => exact ⟨0, n, [], by omega, rfl, rfl, rfl, hn, show _ = _ by simp, rfl, rfl⟩
  case round =>
    obtain ⟨j, m, l, hj, rfl, rfl, rfl, hm, hme, hl, hlen⟩ := hrel
    by_cases hlt : j < k
    · have htm : ((m : Int)).tmod 32 = ((m % 32 : Nat) : Int) := rfl
      have hm32 : m % 32 < 32 := Nat.mod_lt _ (by decide)
      have hex := lett_ext (m % 32) hm32
      unfold lettA at hex
      have hsn := spell_snoc n j
      rw [← hme.out, ← hl.out] at hsn
      have HS : Hid _ := hsn; clear hsn
      go_wp2
      go_round
      case rel => exact ⟨j + 1, m / 32, l ++ [lt (m % 32)], by omega, by go_num, by go_num, by rw [← app_bytes], by omega, show _ = _ by rw [hme.out, Nat.div_div_eq_div_mul, Nat.pow_succ], show _ = _ by rw [HS.out], by simp [hlen]⟩
      case measure => simp [intOf]; omega
    · have he : j = k := by omega
      subst he
      go_wp2
      go_ret
      exact ⟨by rw [hl.out]; rfl, rfl⟩

set_option maxHeartbeats 400000 in
theorem rtag_any (draw : Nat) (count : Int) (w : World) (hd : draw < 18446744073709551616) :
    Calls Try.prog 21 #[.int .u64 draw, .int .i64 count] w fun e w' => e = .returned (.tuple #[.string ⟨(tagV draw count).1.toArray⟩, .int .i64 (tagV draw count).2]) ∧ w' = w := by
  by_cases h1 : 0 ≤ count ∧ count ≤ 1099511627776
  · obtain ⟨c, rfl⟩ : ∃ c : Nat, count = c := ⟨count.toNat, by omega⟩
    have hv : tagV draw c = (tagL draw c, 0) := by rw [tagV, if_pos h1]; rfl
    have HV : Hid _ := hv; clear hv
    have hc : c ≤ 1099511627776 := by omega
    clear h1
    go_enter Try.func21, Try.ntmps21
    go_wp2_with fail
    refine (spelled_any draw 13 _ hd (by omega)).mono ?_
    rintro e w1 ⟨rfl, rfl⟩
    go_wp2_with fail
    refine (spelled_any c 9 _ (by omega) (by omega)).mono ?_
    rintro e w2 ⟨rfl, rfl⟩
    have l1 := spell_len draw 13
    have l2 := spell_len c 9
    go_wp2
    go_ret2
    refine ⟨?_, rfl⟩
    rw [HV.out]
    exact ret_two (by rw [app_bytes]; rfl) rfl
  · have hv : tagV draw count = ([], 9) := by rw [tagV, if_neg h1]
    have HV : Hid _ := hv; clear hv
    go_enter Try.func21, Try.ntmps21
    go_wp2
    all_goals first
      | (go_ret2; exact ⟨by rw [HV.out]; rfl, rfl⟩)
      | (exfalso; omega)

/-- worth's answer. -/
def worthR (c : UInt8) : Nat := if worthV c < 0 then 32 else (worthV c).toNat
theorem worthR_lt {m : Nat} (h : m < 32) : worthR (lt m) = m := by
  rw [worthR, worth_lt m h, if_neg (by omega)]; simp
theorem worthR_none {c : UInt8} (h : ∀ j, j < 32 → lt j ≠ c) : worthR c = 32 := by
  rcases worth_cases c with hw | ⟨m, hm, _, hc⟩
  · rw [worthR, hw]; rfl
  · exact absurd hc.symm (h m hm)
theorem worthR_le (c : UInt8) : worthR c ≤ 32 := by
  rcases worth_cases c with hw | ⟨m, hm, _, hc⟩
  · rw [worthR, hw]; decide
  · rw [hc, worthR_lt hm]; omega

set_option maxHeartbeats 1000000 in
theorem worth_any (b : UInt8) (w : World) :
    Calls Try.prog 28 #[.int .u8 b.toNat] w fun e w' => e = .returned (.int .u64 (worthR b)) ∧ w' = w := by
  have hbd := u8_bd b
  go_enter Try.func28, Try.ntmps28
  go_wp2
  go_loop [3] (fun i => ∃ k : Nat, k ≤ 32 ∧ i = .int .i64 k ∧ Hid (∀ j, j < k → lt j ≠ b)) (fun i => 32 - (intOf i).toNat)
  case atStart => exact ⟨0, by omega, rfl, fun j h => absurd h (by omega)⟩
  case round =>
    obtain ⟨k, hk, rfl, hno⟩ := hrel
    by_cases hlt : k < 32
    · have hget := lett_get k hlt
      unfold lettA at hget
      by_cases he : lt k = b
      · have hR : Hid (worthR b = k) := show _ = _ by rw [← he, worthR_lt hlt]
        have heq : (((lt k).toNat : Int) == (b.toNat : Int)) = true := by rw [he]; simp
        clear he
        go_wp2
        go_ret
        exact ⟨ret_int (by rw [hR.out]), rfl⟩
      · have heq : (((lt k).toNat : Int) == (b.toNat : Int)) = false := by
          simp only [beq_eq_false_iff_ne, ne_eq]
          intro h; exact he (UInt8.toNat_inj.1 (by omega))
        have hno2 : Hid (∀ j, j < k + 1 → lt j ≠ b) := fun j hj => by
          by_cases e : j = k
          · subst e; exact he
          · exact hno.out j (by omega)
        clear he hno
        go_wp2
        go_round
        case rel => exact ⟨k + 1, by omega, by go_num, hno2⟩
        case measure => simp [intOf]; omega
    · have he : k = 32 := by omega
      subst he
      have hR : Hid (worthR b = 32) := worthR_none hno.out
      clear hno
      go_wp2
      go_ret
      exact ⟨ret_int (by rw [hR.out]; rfl), rfl⟩

end Go.Proofs.Ytlhkembihpafaaa
