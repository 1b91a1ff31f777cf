/-
  Contracts of the document's own worth and Unescape.
-/
import Derived.Test.YtfdcklekjnihjaaDoorRefEsc
namespace Go.Proofs.YtfdcklekjnihjaaDoor
open Go.RowKit Sc
set_option linter.unusedVariables false
set_option maxRecDepth 20000

def mtB (j : Nat) (c : Int) : Bool := ((hexd j).toNat : Int) == c || ((lowb (hexd j)).toNat : Int) == c
def wfrom : Nat → Nat → Int → Int
  | 0, _, _ => -1
  | n + 1, k, c => if mtB k c then k else wfrom n (k + 1) c
def worthV (c : Int) : Int := wfrom 16 0 c
theorem wfrom_step {k : Nat} {c : Int} (hk : k < 16) (h : mtB k c = false) : wfrom (16 - k) k c = wfrom (16 - (k + 1)) (k + 1) c := by
  rw [show 16 - k = (16 - (k + 1)) + 1 by omega, wfrom, if_neg (by simp [h])]
theorem wfrom_hit {k : Nat} {c : Int} (hk : k < 16) (h : mtB k c = true) : wfrom (16 - k) k c = k := by
  rw [show 16 - k = (16 - (k + 1)) + 1 by omega, wfrom, if_pos h]
theorem worth_hex {b : UInt8} (h : isB b.toNat 4 = true) : worthV b.toNat = hexv b.toNat := by
  have hh : ∀ n : Fin 256, isB (n.val : Int) 4 = true → worthV (n.val : Int) = hexv (n.val : Int) := by decide +kernel
  exact hh ⟨b.toNat, b.toNat_lt⟩ h
theorem worth_not {b : UInt8} (h : isB b.toNat 4 = false) : worthV b.toNat = -1 := by
  have hh : ∀ n : Fin 256, isB (n.val : Int) 4 = false → worthV (n.val : Int) = -1 := by decide +kernel
  exact hh ⟨b.toNat, b.toNat_lt⟩ h

theorem hexAt (k : Nat) (hk : k < 16) : ((ByteArray.mk #[48, 49, 50, 51, 52, 53, 54, 55, 56, 57, 65, 66, 67, 68, 69, 70])[k]'hk) = hexd k := by
  have hh : ∀ n : Fin 16, ((ByteArray.mk #[48, 49, 50, 51, 52, 53, 54, 55, 56, 57, 65, 66, 67, 68, 69, 70])[n.val]'n.isLt) = hexd n.val := by decide +kernel
  exact hh ⟨k, hk⟩
theorem low1 (k : Nat) (hk : k < 16) (w : World) :
    Calls Tryd.prog 26 #[.string ((ByteArray.mk #[48, 49, 50, 51, 52, 53, 54, 55, 56, 57, 65, 66, 67, 68, 69, 70]).extract k (k + 1))] w fun e w' => e = .returned (.string ⟨#[lowb (hexd k)]⟩) ∧ Below w.heap.size w w' := by
  have hh : ∀ n : Fin 16, (ByteArray.mk #[48, 49, 50, 51, 52, 53, 54, 55, 56, 57, 65, 66, 67, 68, 69, 70]).extract n.val (n.val + 1) = ⟨#[hexd n.val]⟩ := by decide +kernel
  rw [hh ⟨k, hk⟩]
  exact reflower_txt ⟨#[hexd k]⟩ w (by simp [ByteArray.size])

theorem byte0 (b : UInt8) : ((ByteArray.mk #[b])[0]'(Nat.one_pos)) = b := rfl

set_option maxHeartbeats 1000000 in
theorem worth_any (c : Int) (w : World) :
    Calls Tryd.prog 74 #[.int .u8 c] w fun e w' => e = .returned (.int .i64 (worthV c)) ∧ Below w.heap.size w w' := by
  go_enter Tryd.func74, Tryd.ntmps74
  go_wp2
  go_loopw [3] (fun i wr => ∃ k : Nat, k ≤ 16 ∧ i = .int .i64 k ∧ Below w.heap.size w wr ∧ Hid (worthV c = wfrom (16 - k) k c)) (fun i _ => 16 - (intOf i).toNat)
  case atStart => exact ⟨0, Nat.zero_le _, rfl, Below.refl _ _, rfl⟩
  case round =>
    obtain ⟨k, hk, rfl, hb, hw⟩ := hrel
    by_cases hlt : k < 16
    · have hx := hexAt k hlt
      have hy := byte0 (lowb (hexd k))
      by_cases h1 : ((hexd k).toNat : Int) = c
      · have h1' : (((hexd k).toNat : Int) == c) = true := by simpa using h1
        have hv : Hid (worthV c = k) := by show _ = _; rw [hw.out, wfrom_hit hlt (by simp [mtB, h1'])]
        clear h1 hw
        go_wp2
        go_ret
        exact ⟨ret_int hv.out.symm, hb⟩
      · have h1' : (((hexd k).toNat : Int) == c) = false := by simpa using h1
        by_cases h2 : ((lowb (hexd k)).toNat : Int) = c
        · have h2' : (((lowb (hexd k)).toNat : Int) == c) = true := by simpa using h2
          have hv : Hid (worthV c = k) := by show _ = _; rw [hw.out, wfrom_hit hlt (by simp [mtB, h2'])]
          clear h1 h2 hw
          go_wp2_with (go_at_call 26; refine (low1 k hlt _).mono ?_; rintro e w2 ⟨rfl, hb2⟩)
          go_ret
          exact ⟨ret_int hv.out.symm, hb.trans (hb2.mono hb.size)⟩
        · have h2' : (((lowb (hexd k)).toNat : Int) == c) = false := by simpa using h2
          have hw' : Hid (worthV c = wfrom (16 - (k + 1)) (k + 1) c) := by show _ = _; rw [hw.out, wfrom_step hlt (by simp [mtB, h1', h2'])]
          clear h1 h2 hw
          go_wp2_with (go_at_call 26; refine (low1 k hlt _).mono ?_; rintro e w2 ⟨rfl, hb2⟩)
          go_roundw
          case rel => exact ⟨k + 1, by omega, by go_num, hb.trans (hb2.mono hb.size), hw'⟩
          case measure => simp [intOf]; omega
    · have hk16 : k = 16 := by omega
      subst hk16
      go_wp2
      go_ret
      exact ⟨ret_int hw.out.symm, hb⟩

set_option maxHeartbeats 2000000 in
theorem refunescape_any (s : ByteArray) (w : World) (hs : s.size ≤ 140737488355328) :
    Calls Tryd.prog 65 #[.string s] w fun e w' => e = .returned (.tuple #[.string ⟨(unescV s.data.toList).1.toArray⟩, .int .i64 (unescV s.data.toList).2]) ∧ Below w.heap.size w w' := by
  obtain ⟨i0, hi, hz0, hz1, hz2⟩ := info_parts info5
  go_enter Tryd.func65, Tryd.ntmps65
  go_wp2_with fail
  go_loopw [4, 5] (fun v i wr => ∃ (k : Nat) (acc : List UInt8), k ≤ s.size ∧ i = .int .i64 k ∧ acc.length ≤ k ∧ Own wr w.heap.size 5 v (Lib.byteCells acc) ∧ Below w.heap.size w wr ∧ w.heap.size ≤ wr.heap.size ∧
      Hid (UneAt s.data.toList acc (s.data.toList.drop k))) (fun _ i _ => s.size - (intOf i).toNat)
  case atStart => exact ⟨0, [], Nat.zero_le _, rfl, Nat.le_refl _, Own.nil _ _ _, Below.refl _ _, Nat.le_refl _, show UneAt _ _ _ by rw [List.drop_zero]; exact uneAt0 _⟩
  case round =>
    obtain ⟨k, acc, hk, rfl, hac, hown, hb, hB, hu⟩ := hrel
    by_cases hlt : k < s.size
    · have hu' := hu.out
      rw [drop_cons s k hlt] at hu'
      by_cases h37 : (s[k].toNat : Int) = 37
      · have c1 : ((s[k].toNat : Int) != 37) = false := by simp [h37]
        by_cases hsh : k + 2 < s.size
        · rw [drop_cons s (k + 1) (by omega), drop_cons s (k + 1 + 1) (by omega)] at hu'
          by_cases hx1 : isB s[k + 1].toNat 4 = true
          · by_cases hx2 : isB s[k + 2].toNat 4 = true
            · have hn : Hid (UneAt s.data.toList (acc ++ [hxb s[k + 1] s[k + 2]]) (s.data.toList.drop (k + 1 + 1 + 1))) := uneAt_hex hu' h37 hx1 hx2
              have hw1 := worth_hex hx1
              have hw2 := worth_hex hx2
              have hd1 := hexv_bd hx1
              have hd2 := hexv_bd hx2
              have hv := hxb_toNat hx1 hx2
              clear hu hu' h37
              go_wp2_with (go_at_call 74; refine (worth_any _ _).mono ?_; rintro e w5 ⟨rfl, h5⟩; replace hown := hown.below h5; replace hb := hb.trans (h5.mono hB); replace hB := Nat.le_trans hB h5.size; clear h5)
              replace hown := hown.drew
              replace hb := hb.drew
              have q1 : IntKind.i64.wrap ((k : Int) + 1) = (k : Int) + 1 := by simp [IntKind.wrap, IntKind.signed, IntKind.bits]; omega
              have q2 : IntKind.i64.wrap ((k : Int) + 2) = (k : Int) + 2 := by simp [IntKind.wrap, IntKind.signed, IntKind.bits]; omega
              have q3 : ((k : Int) + 1).toNat = k + 1 := by omega
              have q4 : ((k : Int) + 2).toNat = k + 2 := by omega
              have q5 : (0 : Int) ≤ (k : Int) + 1 := by omega
              have q6 : (k : Int) + 1 < (s.size : Int) := by omega
              have q7 : (0 : Int) ≤ (k : Int) + 2 := by omega
              have q8 : (k : Int) + 2 < (s.size : Int) := by omega
              have m1 : IntKind.i64.wrap (16 * hexv s[k + 1].toNat) = 16 * hexv s[k + 1].toNat := by simp [IntKind.wrap, IntKind.signed, IntKind.bits]; omega
              have m2 : IntKind.i64.wrap (16 * hexv s[k + 1].toNat + hexv s[k + 2].toNat) = 16 * hexv s[k + 1].toNat + hexv s[k + 2].toNat := by simp [IntKind.wrap, IntKind.signed, IntKind.bits]; omega
              have m3 : IntKind.u8.wrap (16 * hexv s[k + 1].toNat + hexv s[k + 2].toNat) = ((hxb s[k + 1] s[k + 2]).toNat : Int) := by rw [hv]; simp [IntKind.wrap, IntKind.signed, IntKind.bits]; omega
              clear hv
              go_region_law (first | (refine step_app rfl (.tmp 43) (.tmp 57) 45 rfl w.heap.size 5 i0 (.int .u8 0) 1 Tryd.underlying45 hi hz0 hz1 hz2 rfl _ _ rfl (by exact hown.alloc _) ⟨_, 0, none⟩ 1 1 (Lib.byteCells [hxb s[k + 1] s[k + 2]]) rfl rfl (by exact one_new _ _ _) (byteCells_one _) (by rw [Lib.byteCells_length]; unfold maxLen; omega) (by rw [Lib.byteCells_length]; omega) w (by exact hb.alloc hB _) (by simp; omega) ?_; intro v3 w3 hown3 hb3 hB3) | (go_simp; go_at_call 74; refine (worth_any _ _).mono ?_; rintro e w5 ⟨rfl, h5⟩; replace hown := hown.below h5; replace hb := hb.trans (h5.mono hB); replace hB := Nat.le_trans hB h5.size; clear h5))
              all_goals
                rw [byteCells_snoc] at hown3
                go_wp2
                go_roundw
                case rel => exact ⟨k + 1 + 1 + 1, _, by omega, by go_num, by simp; omega, hown3, hb3, hB3, hn⟩
                case measure => simp [intOf]; omega
            · have hx2' : isB s[k + 2].toNat 4 = false := by simpa using hx2
              have hv : Hid (unescV s.data.toList = ([], 12)) := unescV_none (uneAt_bad hu' h37 (by rw [hx1, hx2']; rfl))
              have hw1 := worth_hex hx1
              have hw2 := worth_not hx2'
              have hd1 := hexv_bd hx1
              clear hu hu' h37 hx1 hx2 hx2'
              go_wp2_with (go_at_call 74; refine (worth_any _ _).mono ?_; rintro e w5 ⟨rfl, h5⟩; replace hown := hown.below h5; replace hb := hb.trans (h5.mono hB); replace hB := Nat.le_trans hB h5.size; clear h5)
              go_ret2
              exact ⟨ret_str [] 12 hv.out, hb⟩
          · have hx1' : isB s[k + 1].toNat 4 = false := by simpa using hx1
            have hv : Hid (unescV s.data.toList = ([], 12)) := unescV_none (uneAt_bad hu' h37 (by rw [hx1']; rfl))
            have hw1 := worth_not hx1'
            clear hu hu' h37 hx1 hx1'
            go_wp2_with (go_at_call 74; refine (worth_any _ _).mono ?_; rintro e w5 ⟨rfl, h5⟩; replace hown := hown.below h5; replace hb := hb.trans (h5.mono hB); replace hB := Nat.le_trans hB h5.size; clear h5)
            go_ret2
            exact ⟨ret_str [] 12 hv.out, hb⟩
        · have hv : Hid (unescV s.data.toList = ([], 12)) := unescV_none (uneAt_short hu' h37 (by rw [List.length_drop, len_data]; omega))
          clear hu hu' h37
          go_wp2
          go_ret2
          exact ⟨ret_str [] 12 hv.out, hb⟩
      · have c1 : ((s[k].toNat : Int) != 37) = true := by simp [h37]
        have hn : Hid (UneAt s.data.toList (acc ++ [s[k]]) (s.data.toList.drop (k + 1))) := uneAt_plain hu' h37
        clear hu hu' h37
        go_wp2_with (at_builtin; refine wp_app _ rfl (.tmp 14) (.tmp 18) 45 rfl w.heap.size 5 i0 (.int .u8 0) 1 Tryd.underlying45 hi hz0 hz1 hz2 rfl _ _ rfl (by exact hown.alloc _) ⟨_, 0, none⟩ 1 1 (Lib.byteCells [s[k]]) rfl rfl (by exact one_new _ _ _) (byteCells_one _) (by rw [Lib.byteCells_length]; unfold maxLen; omega) (by rw [Lib.byteCells_length]; omega) w (by exact hb.alloc hB _) (by simp; omega) ?_; intro v3 w3 hown3 hb3 hB3)
        rw [byteCells_snoc] at hown3
        go_wp2
        go_roundw
        case rel => exact ⟨k + 1, _, by omega, by go_num, by simp; omega, hown3, hb3, hB3, hn⟩
        case measure => simp [intOf]; omega
    · have hu' := hu.out
      rw [drop_all s k (by omega)] at hu'
      have hv : Hid (unescV s.data.toList = (acc, 0)) := unescV_some (uneAt_end hu')
      have hcv := conv_own (P := Tryd.prog) _ Tryd.underlying45 Tryd.underlying5 Tryd.underlying9 hown
      clear hu hu'
      go_wp2
      go_ret2
      exact ⟨ret_str acc 0 hv.out, hb⟩

end Go.Proofs.YtfdcklekjnihjaaDoor
