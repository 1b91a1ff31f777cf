/-
  Contracts of clock.write and Tag.
-/
import Derived.Test.YtlhkembihpafaaaBuilder
import Derived.Test.YtlhkembihpafaaaSpell
import Derived.Test.YtlhkembihpafaaaClk
namespace Go.Proofs.Ytlhkembihpafaaa
open Go.RowKit
set_option linter.unusedVariables false

theorem zeroBld (u : World) : Sem.run Try.prog (zeroValue 55) u = .ok (.agg #[.pointer none, .slice none 0 0]) u := by kernel_rfl

theorem lett_get (m : Nat) (h : m < lettA.size) : lettA[m] = lt m := by
  have := getL lettA m h
  rw [lt, List.getD_eq_getElem?_getD, this]; rfl

set_option maxHeartbeats 1000000 in
theorem write_any (n k : Nat) (w : World) (hn : n < 18446744073709551616) (hk : k ≤ 13) (hk0 : 1 ≤ k) :
    Calls Try.prog 25 #[.int .u64 n, .int .i64 k] w fun e w' => e = .returned (.string ⟨(spell n k).toArray⟩) ∧ Below w.heap.size w w' := by
  have hz := zeroBld
  go_enter Try.func25, Try.ntmps25
  go_wp2
  clear hz
  have h0 := Lib.IsBuilderF.of (Lib.fresh_isBuilder 55 5 w)
  have H0 : Hid _ := h0; clear h0
  go_loopw [0, 7] (fun x i wr => ∃ j m : Nat, j ≤ k ∧ i = .int .i64 j ∧ x = .int .u64 m ∧ m < 18446744073709551616 ∧ Hid (m = n / 32 ^ j) ∧ Hid (IsBld wr w.heap.size w.heap.size (spell n j)) ∧ Below w.heap.size w wr) (fun _ i _ => k - (intOf i).toNat)
  case atStart => exact ⟨0, n, by omega, rfl, rfl, hn, show _ = _ by simp, H0, (Below.refl _ _).alloc (Nat.le_refl _) _⟩
  case round =>
    clear H0
    obtain ⟨j, m, hj, rfl, rfl, hm, hme, hbl, hb⟩ := hrel
    have htm : ((m : Int)).tmod 32 = ((m % 32 : Nat) : Int) := rfl
    by_cases hlt : j < k
    · have hsn := spell_snoc n j
      rw [← hme.out] at hsn
      have HS : Hid _ := hsn; clear hsn
      go_wp2_with fail
      refine (writeByte_any w.heap.size w.heap.size _ _ _ hbl.out (by rw [Lib.byteCells_length, spell_len]; omega) hb.size).mono ?_
      rintro e w1 ⟨rfl, hbl1, hb1, -⟩
      have hbl2 : Hid (IsBld w1 w.heap.size w.heap.size (spell n (j + 1))) := by
        rw [HS.out]
        refine Or.inr ?_
        rw [Lib.byteCells_append]
        have hms : m % 32 < lettA.size := show m % 32 < 32 from Nat.mod_lt _ (by decide)
        have e1 : Lib.byteCells [lt (m % 32)] = [.int .u8 (lettA[m % 32]'hms).toNat] := by rw [lett_get]; rfl
        rw [e1]
        exact hbl1
      clear hbl hbl1
      have hb2 := hb.trans hb1
      go_wp2
      go_roundw
      case rel => exact ⟨j + 1, m / 32, by omega, by go_num, by go_num, by omega, show _ = _ by rw [hme.out, Nat.div_div_eq_div_mul, Nat.pow_succ], hbl2, hb2⟩
      case measure => simp [intOf]; omega
    · have he : j = k := by omega
      subst he
      have hne : spell n j ≠ [] := by
        intro h
        have := spell_len n j
        rw [h] at this
        simp at this; omega
      have HN : Hid _ := hne; clear hne
      go_wp2_with (go_at_call 30; refine (bldString w.heap.size w.heap.size _ _ hbl.out HN.out).mono ?_; rintro e w1 ⟨rfl, -, hb1, -⟩)
      go_ret
      exact ⟨rfl, hb.trans hb1⟩

theorem app_bytes (a b : List UInt8) : (⟨a.toArray⟩ : ByteArray) ++ (⟨b.toArray⟩ : ByteArray) = ⟨(a ++ b).toArray⟩ := by
  apply ByteArray.ext; simp
theorem ret_str2 {a b : List UInt8} {x y : Int} (h : a = b) (h' : x = y) : Ending.returned (.tuple #[.string ⟨a.toArray⟩, .int .i64 x]) = .returned (.tuple #[.string ⟨b.toArray⟩, .int .i64 y]) := by rw [h, h']

/-- Tag's answer. -/
def tagV (draw : Nat) (count : Int) : List UInt8 × Int := if 0 ≤ count ∧ count ≤ 1099511627776 then (tagL draw count.toNat, 0) else ([], 9)

set_option maxHeartbeats 400000 in
theorem tag_any (draw : Nat) (count : Int) (w : World) (hd : draw < 18446744073709551616) :
    Calls Try.prog 20 #[.int .u64 draw, .int .i64 count] w fun e w' => e = .returned (.tuple #[.string ⟨(tagV draw count).1.toArray⟩, .int .i64 (tagV draw count).2]) ∧ Below w.heap.size w w' := by
  by_cases h1 : 0 ≤ count ∧ count ≤ 1099511627776
  · obtain ⟨c, rfl⟩ : ∃ c : Nat, count = c := ⟨count.toNat, by omega⟩
    have hv : tagV draw c = (tagL draw c, 0) := by rw [tagV, if_pos h1]; rfl
    have HV : Hid _ := hv; clear hv
    have e1 : decide (0 ≤ (c : Int) ∧ (c : Int) ≤ 1099511627776) = true := by simpa using h1
    have hc : c ≤ 1099511627776 := by omega
    clear h1
    go_enter Try.func20, Try.ntmps20
    go_wp2_with (go_at_call 24; refine (isTick_any _ _).mono ?_; rintro e w' ⟨rfl, rfl⟩; rw [e1])
    refine (write_any draw 13 _ hd (by omega) (by omega)).mono ?_
    rintro e w1 ⟨rfl, hb1⟩
    go_wp2_with fail
    refine (write_any c 9 _ (by omega) (by omega) (by omega)).mono ?_
    rintro e w2 ⟨rfl, hb2⟩
    have hb3 := hb1.trans (hb2.mono hb1.size)
    have l1 := spell_len draw 13
    have l2 := spell_len c 9
    go_wp2
    go_ret2
    refine ⟨?_, hb3⟩
    rw [HV.out]
    exact ret_two (by rw [app_bytes]; rfl) rfl
  · have e1 : decide (0 ≤ count ∧ count ≤ 1099511627776) = false := by simpa using h1
    have hv : tagV draw count = ([], 9) := by rw [tagV, if_neg h1]
    have HV : Hid _ := hv; clear hv h1
    go_enter Try.func20, Try.ntmps20
    go_wp2_with (go_at_call 24; refine (isTick_any _ _).mono ?_; rintro e w' ⟨rfl, rfl⟩; rw [e1])
    go_ret2
    exact ⟨by rw [HV.out]; rfl, Below.refl _ _⟩

end Go.Proofs.Ytlhkembihpafaaa
