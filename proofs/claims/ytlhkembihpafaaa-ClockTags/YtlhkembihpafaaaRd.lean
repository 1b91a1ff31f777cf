/-
  Contracts of clock.read and Read.
-/
import Derived.Test.YtlhkembihpafaaaTag
import Derived.Laws.Bits64b
namespace Go.Proofs.Ytlhkembihpafaaa
open Go.RowKit
set_option linter.unusedVariables false

def rdN : Option Nat → Int
  | some n => n
  | none => 0
theorem rdN_some (n : Nat) : rdN (some n) = n := rfl
def rdV (l : List UInt8) : Int × Bool := (rdN (rd 0 0 l), (rd 0 0 l).isSome)
theorem ret_rd {p : Int × Bool} (a : Int) (b : Bool) (h : p = (a, b)) : Ending.returned (.tuple #[.int .u64 a, .bool b]) = .returned (.tuple #[.int .u64 p.1, .bool p.2]) := by rw [h]

theorem pow5 (k : Nat) : (2 : Int) ^ (k * 5) = ((32 ^ k : Nat) : Int) := by
  have : 2 ^ (k * 5) = 32 ^ k := by rw [Nat.mul_comm, Nat.pow_mul]
  rw [← this]; simp
theorem shl_fit {d k : Nat} (h : d * 32 ^ k < 18446744073709551616) : IntKind.u64.wrap ((d : Int) * 2 ^ (k * 5)) = ((d * 32 ^ k : Nat) : Int) := by
  rw [pow5, IntKind.wrap_u64, ← Int.natCast_mul]; omega
theorem shl_cut {d k : Nat} (hk : k ≤ 12) : IntKind.u64.wrap ((d : Int) * 2 ^ (k * 5)) / 2 ^ (k * 5) = ((d % (18446744073709551616 / 32 ^ k) : Nat) : Int) := by
  obtain ⟨q, hq⟩ := dvd64 hk
  have hp : 0 < 32 ^ k := Nat.pow_pos (by decide)
  have e1 : 18446744073709551616 / 32 ^ k = q := by rw [hq, Nat.mul_div_cancel _ hp]
  have e2 : (18446744073709551616 : Int) = ((q * 32 ^ k : Nat) : Int) := by rw [← hq]; rfl
  rw [pow5, IntKind.wrap_u64, ← Int.natCast_mul, e2, ← Int.natCast_emod, ← Int.natCast_ediv, Nat.mul_mod_mul_right, Nat.mul_div_cancel _ hp, e1]
theorem shl_back_fit {d k : Nat} (hk : k ≤ 12) (h : d * 32 ^ k < 18446744073709551616) : (IntKind.u64.wrap ((d : Int) * 2 ^ (k * 5)) / 2 ^ (k * 5) != (d : Int)) = false := by
  obtain ⟨q, hq⟩ := dvd64 hk
  have hp : 0 < 32 ^ k := Nat.pow_pos (by decide)
  rw [shl_cut hk, hq, Nat.mul_div_cancel _ hp, Nat.mod_eq_of_lt (by rw [hq] at h; exact Nat.lt_of_mul_lt_mul_right h)]
  simp
theorem shl_back_not {d k : Nat} (hk : k ≤ 12) (h : ¬ d * 32 ^ k < 18446744073709551616) : (IntKind.u64.wrap ((d : Int) * 2 ^ (k * 5)) / 2 ^ (k * 5) != (d : Int)) = true := by
  obtain ⟨q, hq⟩ := dvd64 hk
  have hp : 0 < 32 ^ k := Nat.pow_pos (by decide)
  have hq0 : 0 < q := by
    rcases Nat.eq_zero_or_pos q with h0 | h0
    · subst h0; omega
    · exact h0
  have hle : q ≤ d := by
    rw [hq] at h
    exact Nat.le_of_mul_le_mul_right (by omega) hp
  have := Nat.mod_lt d hq0
  rw [shl_cut hk, hq, Nat.mul_div_cancel _ hp]
  simp; omega
theorem or_fit {n d k : Nat} (hn : n < 32 ^ k) (hn2 : n < 18446744073709551616) (h : d * 32 ^ k < 18446744073709551616) :
    bits BinOp.or IntKind.u64 (n : Int) (IntKind.u64.wrap ((d : Int) * 2 ^ (k * 5))) = ((n + d * 32 ^ k : Nat) : Int) := by
  have e : 32 ^ k = 2 ^ (5 * k) := by rw [Nat.pow_mul]
  rw [shl_fit h, bits_or_u64_nat _ _ hn2 h, Nat.or_comm, Nat.add_comm, Nat.mul_comm, e, ← Nat.two_pow_add_eq_or_of_lt (by rw [← e]; exact hn)]

set_option maxHeartbeats 1000000 in
theorem read_any (s : ByteArray) (w : World) (hs : s.size ≤ 13) :
    Calls Try.prog 27 #[.string s] w fun e w' => e = .returned (.tuple #[.int .u64 (rdV s.data.toList).1, .bool (rdV s.data.toList).2]) ∧ w' = w := by
  go_enter Try.func27, Try.ntmps27
  go_wp2
  go_loop [4, 11] (fun x i => ∃ k n : Nat, k ≤ s.size ∧ i = .int .i64 k ∧ x = .int .u64 n ∧ n < 18446744073709551616 ∧ Hid (n < 32 ^ k) ∧ Hid (rd 0 0 s.data.toList = rd k n (s.data.toList.drop k))) (fun _ i => s.size - (intOf i).toNat)
  case atStart => exact ⟨0, 0, by omega, rfl, rfl, by omega, show 0 < 32 ^ 0 by decide, show _ = _ by simp⟩
  case round =>
    obtain ⟨k, n, hk, rfl, rfl, hn, hnk, hrd⟩ := hrel
    by_cases hlt : k < s.size
    · have hdr := drop_cons s k hlt
      have hbd := u8_bd s[k]
      have hix : ((s[k].toNat : Int)).toNat.toUInt8 = s[k] := by simp
      rcases worth_cases s[k] with hw | ⟨d, hd, hw, -⟩
      · have hst : rd k n (s.data.toList.drop k) = none := by rw [hdr, rd, hw]; rfl
        have HS : Hid _ := hst; clear hst hdr
        unfold worthV at hw
        have hw2 : Lib.indexByte [97, 98, 99, 100, 101, 102, 103, 104, 105, 106, 107, 108, 109, 110, 111, 112, 113, 114, 115, 116, 117, 118, 119, 120, 121, 122, 50, 51, 52, 53, 54, 55] s[k] = -1 := hw
        clear hw
        go_wp2_with (go_at_call 31; refine (indexByte_any _ _ _).mono ?_; rintro e w' ⟨rfl, rfl⟩; rw [hix])
        go_ret2
        exact ⟨ret_rd _ _ (by rw [rdV, hrd.out, HS.out]; rfl), rfl⟩
      · have hst : rd k n (s.data.toList.drop k) = if d * 32 ^ k < 18446744073709551616 then rd (k + 1) (n + d * 32 ^ k) (s.data.toList.drop (k + 1)) else none := by rw [hdr, rd, hw, if_neg (by omega), Int.toNat_natCast]
        have HS : Hid _ := hst; clear hst hdr
        unfold worthV at hw
        have hw2 : Lib.indexByte [97, 98, 99, 100, 101, 102, 103, 104, 105, 106, 107, 108, 109, 110, 111, 112, 113, 114, 115, 116, 117, 118, 119, 120, 121, 122, 50, 51, 52, 53, 54, 55] s[k] = d := hw
        clear hw
        by_cases hfit : d * 32 ^ k < 18446744073709551616
        · have hq := shl_back_fit (d := d) (k := k) (by omega) hfit
          have hor := or_fit hnk.out hn hfit
          rw [if_pos hfit] at HS
          have hb2 : Hid (n + d * 32 ^ k < 18446744073709551616) := by
            obtain ⟨q, hq⟩ := dvd64 (i := k) (by omega)
            have h1 : d < q := by rw [hq] at hfit; exact Nat.lt_of_mul_lt_mul_right hfit
            have h2 : (d + 1) * 32 ^ k ≤ q * 32 ^ k := Nat.mul_le_mul_right _ h1
            rw [← hq, Nat.add_mul] at h2
            have := hnk.out
            show _ < _
            omega
          have hb3 : Hid (n + d * 32 ^ k < 32 ^ (k + 1)) := by
            have h2 : (d + 1) * 32 ^ k ≤ 32 * 32 ^ k := Nat.mul_le_mul_right _ hd
            rw [Nat.add_mul] at h2
            have := hnk.out
            show _ < _
            rw [Nat.pow_succ]; omega
          have HF : Hid _ := hfit; clear hfit
          generalize hx : n + d * 32 ^ k = nx at HS hor hb2 hb3
          have HX : Hid _ := hx; clear hx
          go_wp2_with (go_at_call 31; refine (indexByte_any _ _ _).mono ?_; rintro e w' ⟨rfl, rfl⟩; rw [hix])
          go_round
          case rel => exact ⟨k + 1, nx, by omega, by go_num, rfl, hb2.out, hb3, show _ = _ by rw [hrd.out, HS.out]⟩
          case measure => simp [intOf]; omega
        · have hq := shl_back_not (d := d) (k := k) (by omega) hfit
          rw [if_neg hfit] at HS
          clear hfit
          go_wp2_with (go_at_call 31; refine (indexByte_any _ _ _).mono ?_; rintro e w' ⟨rfl, rfl⟩; rw [hix])
          go_ret2
          exact ⟨ret_rd _ _ (by rw [rdV, hrd.out, HS.out]; rfl), rfl⟩
    · have hdr := drop_all s k (by omega)
      have HD : Hid _ := hdr; clear hdr
      go_wp2
      go_ret2
      exact ⟨ret_rd _ _ (by rw [rdV, hrd.out, HD.out]; rfl), rfl⟩

def readA (l : List UInt8) : Int × Int × Int := match readV l with | some (a, c) => ((a : Int), (c : Int), 0) | none => (0, 0, 10)
theorem ret_read {p : Int × Int × Int} (a b c : Int) (h : p = (a, b, c)) : Ending.returned (.tuple #[.int .u64 a, .int .i64 b, .int .i64 c]) = .returned (.tuple #[.int .u64 p.1, .int .i64 p.2.1, .int .i64 p.2.2]) := by rw [h]

theorem readA_some {l : List UInt8} {a c : Nat} (hl : l.length = 22) (h1 : rd 0 0 (l.take 13) = some a) (h2 : rd 0 0 (l.drop 13) = some c) (hc : c ≤ 1099511627776) : readA l = ((a : Int), (c : Int), 0) := by
  rw [readA, readV, if_pos hl, h1, h2]; simp [hc]
theorem readA_big {l : List UInt8} {a c : Nat} (hl : l.length = 22) (h1 : rd 0 0 (l.take 13) = some a) (h2 : rd 0 0 (l.drop 13) = some c) (hc : ¬ c ≤ 1099511627776) : readA l = (0, 0, 10) := by
  rw [readA, readV, if_pos hl, h1, h2]; simp [hc]
theorem readA_none1 {l : List UInt8} (hl : l.length = 22) (h1 : rd 0 0 (l.take 13) = none) : readA l = (0, 0, 10) := by
  rw [readA, readV, if_pos hl, h1]
theorem readA_none2 {l : List UInt8} {a : Nat} (hl : l.length = 22) (h1 : rd 0 0 (l.take 13) = some a) (h2 : rd 0 0 (l.drop 13) = none) : readA l = (0, 0, 10) := by
  rw [readA, readV, if_pos hl, h1, h2]
theorem read_first (s : ByteArray) (w : World) (h22 : s.size = 22) (r : Option Nat) (hr : rd 0 0 (s.data.toList.take 13) = r) :
    Calls Try.prog 27 #[.string (s.extract 0 13)] w fun e w' => e = .returned (.tuple #[.int .u64 (rdN r), .bool r.isSome]) ∧ w' = w := by
  have hz : (s.extract 0 13).size ≤ 13 := by rw [ByteArray.size_extract]; omega
  refine (read_any _ w hz).mono ?_
  rintro e w' ⟨rfl, rfl⟩
  have e1 : rdV (s.extract 0 13).data.toList = (rdN r, r.isSome) := by
    rw [rdV, ext_list]; simp only [List.drop_zero, Nat.sub_zero]; rw [hr]
  rw [e1]
  exact ⟨rfl, rfl⟩
theorem read_second (s : ByteArray) (w : World) (h22 : s.size = 22) (r : Option Nat) (hr : rd 0 0 (s.data.toList.drop 13) = r) :
    Calls Try.prog 27 #[.string (s.extract 13 22)] w fun e w' => e = .returned (.tuple #[.int .u64 (rdN r), .bool r.isSome]) ∧ w' = w := by
  have hz : (s.extract 13 22).size ≤ 13 := by rw [ByteArray.size_extract]; omega
  refine (read_any _ w hz).mono ?_
  rintro e w' ⟨rfl, rfl⟩
  have e1 : rdV (s.extract 13 22).data.toList = (rdN r, r.isSome) := by
    rw [rdV, ext_list, List.take_of_length_le (by rw [List.length_drop, len_data]; omega), hr]
  rw [e1]
  exact ⟨rfl, rfl⟩
theorem rd_lt (s : ByteArray) (h22 : s.size = 22) {c : Nat} (h : rd 0 0 (s.data.toList.drop 13) = some c) : c < 18446744073709551616 := by
  obtain ⟨_, _, _, _, h4⟩ := rd_back _ 0 0 c (by rw [List.length_drop, len_data]; omega) (by simp) (by omega) h
  exact h4

set_option maxHeartbeats 1000000 in
theorem Read_any (s : ByteArray) (w : World) (hs : s.size ≤ maxLen) :
    Calls Try.prog 22 #[.string s] w fun e w' => e = .returned (.tuple #[.int .u64 (readA s.data.toList).1, .int .i64 (readA s.data.toList).2.1, .int .i64 (readA s.data.toList).2.2]) ∧ w' = w := by
  unfold maxLen at hs
  by_cases h22 : s.size = 22
  · have hl : s.data.toList.length = 22 := by rw [len_data, h22]
    have HL : Hid _ := hl; clear hl
    rcases hx : rd 0 0 (s.data.toList.take 13) with _ | a
    · have hv := readA_none1 HL.out hx
      have HV : Hid _ := hv; clear hv
      have HX : Hid _ := hx; clear hx
      go_enter Try.func22, Try.ntmps22
      go_wp2_with (go_at_call 27; refine (read_first s _ h22 none HX.out).mono ?_; rintro e w' ⟨rfl, rfl⟩)
      go_ret3
      exact ⟨ret_read _ _ _ HV.out, rfl⟩
    · rcases hy : rd 0 0 (s.data.toList.drop 13) with _ | c
      · have hv := readA_none2 HL.out hx hy
        have HV : Hid _ := hv; clear hv
        have HX : Hid _ := hx; clear hx
        have HY : Hid _ := hy; clear hy
        go_enter Try.func22, Try.ntmps22
        go_wp2_with fail
        refine (read_first s _ h22 (some a) HX.out).mono ?_
        rintro e w' ⟨rfl, rfl⟩
        go_wp2_with (go_at_call 27; refine (read_second s _ h22 none HY.out).mono ?_; rintro e w' ⟨rfl, rfl⟩)
        go_ret3
        exact ⟨ret_read _ _ _ HV.out, rfl⟩
      · have hc := rd_lt s h22 hy
        have HX : Hid _ := hx; clear hx
        have HY : Hid _ := hy; clear hy
        go_enter Try.func22, Try.ntmps22
        go_wp2_with fail
        refine (read_first s _ h22 (some a) HX.out).mono ?_
        rintro e w' ⟨rfl, rfl⟩
        rw [rdN_some]
        go_wp2_with (go_at_call 27; refine (read_second s _ h22 (some c) HY.out).mono ?_; rintro e w' ⟨rfl, rfl⟩; rw [rdN_some])
        all_goals go_ret3
        · exact ⟨ret_read _ _ _ (readA_big HL.out HX.out HY.out (by omega)), rfl⟩
        · exact ⟨ret_read _ _ _ (readA_some HL.out HX.out HY.out (by omega)), rfl⟩
  · have hv : readA s.data.toList = (0, 0, 10) := by rw [readA, readV, if_neg (by rw [len_data]; exact h22)]
    have HV : Hid _ := hv; clear hv
    have hne : ((s.size : Int) != 22) = true := by simp; omega
    go_enter Try.func22, Try.ntmps22
    go_wp2
    go_ret3
    exact ⟨ret_read _ _ _ HV.out, rfl⟩

end Go.Proofs.Ytlhkembihpafaaa
