/-
  Base texts, one behind another: RefEsc, RefUne, RefWritten, ParOwn, RefParams, UMean, UPrint, URest, UParse, SWho, SHost.
-/
import Derived.Test.YtnkghefcoolkoaaDoorBaseB
import Derived.Test.YtnkghefcoolkoaaDoorBaseA
import Derived.Test.YtnkghefcoolkoaaDoorBaseC
import Derived.Test.YtnkghefcoolkoaaDoorBaseD

/-
  Contracts of the document's own Escape, worth and Unescape.
-/
namespace Go.Proofs.YtnkghefcoolkoaaDoor
open Go.RowKit Sc
set_option linter.unusedVariables false
set_option maxRecDepth 20000

theorem hasB_inK (keep : ByteArray) (b : UInt8) : hasB b.toNat keep = inK keep.data.toList b.toNat := by
  rw [hasB, inK]
  congr 1
  funext c
  rw [Bool.eq_iff_iff]; simp
  omega
theorem isB37 : isB 37 16 = false := by decide +kernel

/-- A new block of one cell that holds a digit of sixteen. -/
theorem one_hex (w : World) (e : TypeId) (i : Int) (n : Nat) (hi : i.toNat = n) (h : i.toNat < 16) :
    ∀ (j : Nat) (u : Value), (Lib.byteCells [hexd n])[j]? = some u → (w.alloc (.cells #[.int .u8 ((((ByteArray.mk #[48, 49, 50, 51, 52, 53, 54, 55, 56, 57, 65, 66, 67, 68, 69, 70])[i.toNat]'h).toNat : Nat) : Int)] e)).cell? ((⟨w.heap.size, 0, none⟩ : Addr).add j) = some u := by
  rw [hexi i n hi h]
  exact one_new w e _

theorem one_hexN (w : World) (e : TypeId) (n : Nat) (h : n < 16) :
    ∀ (j : Nat) (u : Value), (Lib.byteCells [hexd n])[j]? = some u → (w.alloc (.cells #[.int .u8 ((((ByteArray.mk #[48, 49, 50, 51, 52, 53, 54, 55, 56, 57, 65, 66, 67, 68, 69, 70])[n]'h).toNat : Nat) : Int)] e)).cell? ((⟨w.heap.size, 0, none⟩ : Addr).add j) = some u := by
  have := hexi (n : Int) n (by omega) (by omega)
  simp only [Int.toNat_natCast] at this
  rw [this]
  exact one_new w e _

set_option maxHeartbeats 2000000 in
theorem refescape_any (s keep : ByteArray) (w : World) (hs : 3 * s.size ≤ 140737488355328) (hk : keep.size ≤ maxLen) :
    Calls Tryd.prog 30 #[.string s, .string keep] w fun e w' => e = .returned (.string ⟨(esc (kpF keep.data.toList) s.data.toList).toArray⟩) ∧ Below w.heap.size w w' := by
  obtain ⟨i0, hi, hz0, hz1, hz2⟩ := info_parts info5
  go_enter Tryd.func30, Tryd.ntmps30
  go_wp2
  go_loopw [5, 6] (fun v i wr => ∃ k : Nat, k ≤ s.size ∧ i = .int .i64 k ∧ Own wr w.heap.size 5 v (Lib.byteCells (esc (kpF keep.data.toList) (s.data.toList.take k))) ∧ Below w.heap.size w wr ∧ w.heap.size ≤ wr.heap.size) (fun _ i _ => s.size - (intOf i).toNat)
  case atStart => exact ⟨0, Nat.zero_le _, rfl, Own.nil _ _ _, Below.refl _ _, Nat.le_refl _⟩
  case round =>
    obtain ⟨k, hk', rfl, hown, hb, hB⟩ := hrel
    have hlen : (Lib.byteCells (esc (kpF keep.data.toList) (s.data.toList.take k))).length ≤ 3 * k := by
      have := esc_cells_len (kpF keep.data.toList) (s.data.toList.take k); have := List.length_take_le k s.data.toList; omega
    by_cases hlt : k < s.size
    · have hbd := u8_bd s[k]
      by_cases hfree : free (kpF keep.data.toList) s[k] = true
      · have hcs := esc_cells1 (kpF keep.data.toList) (s.data.toList.take k) s[k] hfree
        rw [← take_snoc s k hlt] at hcs
        have HC : Hid _ := hcs; clear hcs
        have h37 : ((s[k].toNat : Int) != 37) = true := by
          by_cases e : (s[k].toNat : Int) = 37
          · have e' : s[k].toNat = 37 := by omega
            rw [free, e', kpF] at hfree; simp [isB37] at hfree
          · simpa using e
        by_cases hpl : isB s[k].toNat 16 = true
        · have hz : (bits BinOp.and IntKind.i64 (cls s[k].toNat) 16 != 0) = true := by have := hpl; rw [isB] at this; exact this
          clear hfree hpl
          go_wp2_with (first
            | (go_at_call 51; refine (refclass_any _ _ hbd.1 hbd.2).mono ?_; rintro e w' ⟨rfl, rfl⟩)
            | (go_at_call 52; refine (has_any _ _ _ hk).mono ?_; rintro e w' ⟨rfl, rfl⟩)
            | (at_builtin; refine wp_app _ rfl (.tmp 37) (.tmp 41) 62 rfl w.heap.size 5 i0 (.int .u8 0) 1 Tryd.underlying62 hi hz0 hz1 hz2 rfl _ _ rfl (by exact hown.alloc _) ⟨_, 0, none⟩ 1 1 (Lib.byteCells [s[k]]) rfl rfl (by first | exact one_hexN _ _ _ (by omega) | exact one_new _ _ _) (byteCells_one _) (by unfold maxLen; omega) (by omega) w (by exact hb.alloc hB _) (by simp; omega) ?_; intro v3 w3 hown3 hb3 hB3))
          rw [HC.out] at hown3
          go_wp2
          go_roundw
          case rel => exact ⟨k + 1, by omega, by go_num, hown3, hb3, hB3⟩
          case measure => simp [intOf]; omega
        · have hpl' : isB s[k].toNat 16 = false := by simpa using hpl
          have hz : (bits BinOp.and IntKind.i64 (cls s[k].toNat) 16 != 0) = false := by have := hpl'; rw [isB] at this; exact this
          have hh : hasB s[k].toNat keep = true := by
            rw [hasB_inK]; rw [free, hpl', kpF, if_neg (by simp at h37; omega)] at hfree; simpa using hfree
          clear hfree hpl hpl'
          go_wp2_with (first
            | (go_at_call 51; refine (refclass_any _ _ hbd.1 hbd.2).mono ?_; rintro e w' ⟨rfl, rfl⟩)
            | (go_at_call 52; refine (has_any _ _ _ hk).mono ?_; rintro e w' ⟨rfl, rfl⟩)
            | (at_builtin; refine wp_app _ rfl (.tmp 37) (.tmp 41) 62 rfl w.heap.size 5 i0 (.int .u8 0) 1 Tryd.underlying62 hi hz0 hz1 hz2 rfl _ _ rfl (by exact hown.alloc _) ⟨_, 0, none⟩ 1 1 (Lib.byteCells [s[k]]) rfl rfl (by first | exact one_hexN _ _ _ (by omega) | exact one_new _ _ _) (byteCells_one _) (by unfold maxLen; omega) (by omega) w (by exact hb.alloc hB _) (by simp; omega) ?_; intro v3 w3 hown3 hb3 hB3))
          rw [HC.out] at hown3
          go_wp2
          go_roundw
          case rel => exact ⟨k + 1, by omega, by go_num, hown3, hb3, hB3⟩
          case measure => simp [intOf]; omega
      · have hfree' : free (kpF keep.data.toList) s[k] = false := by simpa using hfree
        have hcs := esc_cells3 (kpF keep.data.toList) (s.data.toList.take k) s[k] hfree'
        rw [← take_snoc s k hlt] at hcs
        have HC : Hid (Lib.byteCells (esc (kpF keep.data.toList) (s.data.toList.take k)) ++ Lib.byteCells [37] ++ Lib.byteCells [hexd (s[k].toNat / 16)] ++ Lib.byteCells [hexd (s[k].toNat % 16)] = Lib.byteCells (esc (kpF keep.data.toList) (s.data.toList.take (k + 1)))) := by
          show _ = _; rw [← hcs, List.append_assoc, List.append_assoc]; rfl
        clear hcs hfree
        have hA : (0 : Int) ≤ (s[k].toNat : Int) / 16 := by omega
        have hB' : (s[k].toNat : Int) / 16 < 16 := by omega
        have hD : (0 : Int) ≤ (s[k].toNat : Int) % 16 := by omega
        have hE : (s[k].toNat : Int) % 16 < 16 := by omega
        by_cases h37 : (s[k].toNat : Int) = 37
        · have h37' : ((s[k].toNat : Int) != 37) = false := by simp [h37]
          clear h37 hfree'
          go_wp2_with (first
            | (at_builtin; refine wp_app _ rfl (.tmp 43) (.tmp 44) 62 rfl w.heap.size 5 i0 (.int .u8 0) 1 Tryd.underlying62 hi hz0 hz1 hz2 rfl _ _ rfl (by exact hown.alloc _) ⟨_, 0, none⟩ 1 1 (Lib.byteCells [37]) rfl rfl (by first | exact one_hexN _ _ _ (by omega) | exact one_new _ _ _) (byteCells_one _) (by unfold maxLen; omega) (by omega) w (by exact hb.alloc hB _) (by simp; omega) ?_; intro v1 w1 hown1 hb1 hB1)
            | (at_builtin; refine wp_app _ rfl (.tmp 46) (.tmp 50) 62 rfl w.heap.size 5 i0 (.int .u8 0) 1 Tryd.underlying62 hi hz0 hz1 hz2 rfl _ _ rfl (by exact hown1.alloc _) ⟨_, 0, none⟩ 1 1 (Lib.byteCells [hexd (s[k].toNat / 16)]) rfl rfl (by first | exact one_hexN _ _ _ (by omega) | exact one_new _ _ _) (byteCells_one _) (by simp [Lib.byteCells] at hlen ⊢; unfold maxLen; omega) (by simp [Lib.byteCells] at hlen ⊢; omega) w (by exact hb1.alloc hB1 _) (by simp; omega) ?_; intro v2 w2 hown2 hb2 hB2)
            | (at_builtin; refine wp_app _ rfl (.tmp 52) (.tmp 56) 62 rfl w.heap.size 5 i0 (.int .u8 0) 1 Tryd.underlying62 hi hz0 hz1 hz2 rfl _ _ rfl (by exact hown2.alloc _) ⟨_, 0, none⟩ 1 1 (Lib.byteCells [hexd (s[k].toNat % 16)]) rfl rfl (by first | exact one_hexN _ _ _ (by omega) | exact one_new _ _ _) (byteCells_one _) (by simp [Lib.byteCells] at hlen ⊢; unfold maxLen; omega) (by simp [Lib.byteCells] at hlen ⊢; omega) w (by exact hb2.alloc hB2 _) (by simp; omega) ?_; intro v3 w3 hown3 hb3 hB3))
          rw [HC.out] at hown3
          go_wp2
          go_roundw
          case rel => exact ⟨k + 1, by omega, by go_num, hown3, hb3, hB3⟩
          case measure => simp [intOf]; omega
        · have h37' : ((s[k].toNat : Int) != 37) = true := by simp [h37]
          have hpl' : isB s[k].toNat 16 = false := by rw [free] at hfree'; simp at hfree'; exact hfree'.1
          have hz : (bits BinOp.and IntKind.i64 (cls s[k].toNat) 16 != 0) = false := by have := hpl'; rw [isB] at this; exact this
          have hh : hasB s[k].toNat keep = false := by
            rw [hasB_inK]; rw [free, hpl', kpF, if_neg (by omega)] at hfree'; simpa using hfree'
          clear h37 hfree' hpl'
          go_wp2_with (first
            | (go_at_call 51; refine (refclass_any _ _ hbd.1 hbd.2).mono ?_; rintro e w' ⟨rfl, rfl⟩)
            | (go_at_call 52; refine (has_any _ _ _ hk).mono ?_; rintro e w' ⟨rfl, rfl⟩)
            | (at_builtin; refine wp_app _ rfl (.tmp 43) (.tmp 44) 62 rfl w.heap.size 5 i0 (.int .u8 0) 1 Tryd.underlying62 hi hz0 hz1 hz2 rfl _ _ rfl (by exact hown.alloc _) ⟨_, 0, none⟩ 1 1 (Lib.byteCells [37]) rfl rfl (by first | exact one_hexN _ _ _ (by omega) | exact one_new _ _ _) (byteCells_one _) (by unfold maxLen; omega) (by omega) w (by exact hb.alloc hB _) (by simp; omega) ?_; intro v1 w1 hown1 hb1 hB1)
            | (at_builtin; refine wp_app _ rfl (.tmp 46) (.tmp 50) 62 rfl w.heap.size 5 i0 (.int .u8 0) 1 Tryd.underlying62 hi hz0 hz1 hz2 rfl _ _ rfl (by exact hown1.alloc _) ⟨_, 0, none⟩ 1 1 (Lib.byteCells [hexd (s[k].toNat / 16)]) rfl rfl (by first | exact one_hexN _ _ _ (by omega) | exact one_new _ _ _) (byteCells_one _) (by simp [Lib.byteCells] at hlen ⊢; unfold maxLen; omega) (by simp [Lib.byteCells] at hlen ⊢; omega) w (by exact hb1.alloc hB1 _) (by simp; omega) ?_; intro v2 w2 hown2 hb2 hB2)
            | (at_builtin; refine wp_app _ rfl (.tmp 52) (.tmp 56) 62 rfl w.heap.size 5 i0 (.int .u8 0) 1 Tryd.underlying62 hi hz0 hz1 hz2 rfl _ _ rfl (by exact hown2.alloc _) ⟨_, 0, none⟩ 1 1 (Lib.byteCells [hexd (s[k].toNat % 16)]) rfl rfl (by first | exact one_hexN _ _ _ (by omega) | exact one_new _ _ _) (byteCells_one _) (by simp [Lib.byteCells] at hlen ⊢; unfold maxLen; omega) (by simp [Lib.byteCells] at hlen ⊢; omega) w (by exact hb2.alloc hB2 _) (by simp; omega) ?_; intro v3 w3 hown3 hb3 hB3))
          rw [HC.out] at hown3
          go_wp2
          go_roundw
          case rel => exact ⟨k + 1, by omega, by go_num, hown3, hb3, hB3⟩
          case measure => simp [intOf]; omega
    · have hta := take_all s k (by omega)
      rw [hta] at hown
      have hcv := conv_own (P := Tryd.prog) _ Tryd.underlying62 Tryd.underlying5 Tryd.underlying9 hown
      clear hta hlen
      go_wp2
      go_ret
      exact ⟨rfl, hb⟩

end Go.Proofs.YtnkghefcoolkoaaDoor

/-
  Contracts of the document's own worth and Unescape.
-/
namespace Go.Proofs.YtnkghefcoolkoaaDoor
open Go.RowKit Sc
set_option linter.unusedVariables false
set_option maxRecDepth 20000

def mtB (j : Nat) (c : Int) : Bool := ((hexd j).toNat : Int) == c || ((lowb (hexd j)).toNat : Int) == c
def wfrom : Nat → Nat → Int → Int
  | 0, _, _ => -1
  | n + 1, k, c => if mtB k c then k else wfrom n (k + 1) c
def worthV (c : Int) : Int := wfrom 16 0 c
theorem wfrom_step {k : Nat} {c : Int} (hk : k < 16) (h : mtB k c = false) : wfrom (16 - k) k c = wfrom (16 - (k + 1)) (k + 1) c := by
  rw [show 16 - k = (16 - (k + 1)) + 1 by omega, wfrom, if_neg (by simp [h])]
theorem wfrom_hit {k : Nat} {c : Int} (hk : k < 16) (h : mtB k c = true) : wfrom (16 - k) k c = k := by
  rw [show 16 - k = (16 - (k + 1)) + 1 by omega, wfrom, if_pos h]
theorem worth_hex {b : UInt8} (h : isB b.toNat 4 = true) : worthV b.toNat = hexv b.toNat := by
  have hh : ∀ n : Fin 256, isB (n.val : Int) 4 = true → worthV (n.val : Int) = hexv (n.val : Int) := by decide +kernel
  exact hh ⟨b.toNat, b.toNat_lt⟩ h
theorem worth_not {b : UInt8} (h : isB b.toNat 4 = false) : worthV b.toNat = -1 := by
  have hh : ∀ n : Fin 256, isB (n.val : Int) 4 = false → worthV (n.val : Int) = -1 := by decide +kernel
  exact hh ⟨b.toNat, b.toNat_lt⟩ h

theorem hexAt (k : Nat) (hk : k < 16) : ((ByteArray.mk #[48, 49, 50, 51, 52, 53, 54, 55, 56, 57, 65, 66, 67, 68, 69, 70])[k]'hk) = hexd k := by
  have hh : ∀ n : Fin 16, ((ByteArray.mk #[48, 49, 50, 51, 52, 53, 54, 55, 56, 57, 65, 66, 67, 68, 69, 70])[n.val]'n.isLt) = hexd n.val := by decide +kernel
  exact hh ⟨k, hk⟩
theorem low1 (k : Nat) (hk : k < 16) (w : World) :
    Calls Tryd.prog 57 #[.string ((ByteArray.mk #[48, 49, 50, 51, 52, 53, 54, 55, 56, 57, 65, 66, 67, 68, 69, 70]).extract k (k + 1))] w fun e w' => e = .returned (.string ⟨#[lowb (hexd k)]⟩) ∧ Below w.heap.size w w' := by
  have hh : ∀ n : Fin 16, (ByteArray.mk #[48, 49, 50, 51, 52, 53, 54, 55, 56, 57, 65, 66, 67, 68, 69, 70]).extract n.val (n.val + 1) = ⟨#[hexd n.val]⟩ := by decide +kernel
  rw [hh ⟨k, hk⟩]
  exact reflower_txt ⟨#[hexd k]⟩ w (by simp [ByteArray.size])

theorem byte0 (b : UInt8) : ((ByteArray.mk #[b])[0]'(Nat.one_pos)) = b := rfl

set_option maxHeartbeats 1000000 in
theorem worth_any (c : Int) (w : World) :
    Calls Tryd.prog 87 #[.int .u8 c] w fun e w' => e = .returned (.int .i64 (worthV c)) ∧ Below w.heap.size w w' := by
  go_enter Tryd.func87, Tryd.ntmps87
  go_wp2
  go_loopw [3] (fun i wr => ∃ k : Nat, k ≤ 16 ∧ i = .int .i64 k ∧ Below w.heap.size w wr ∧ Hid (worthV c = wfrom (16 - k) k c)) (fun i _ => 16 - (intOf i).toNat)
  case atStart => exact ⟨0, Nat.zero_le _, rfl, Below.refl _ _, rfl⟩
  case round =>
    obtain ⟨k, hk, rfl, hb, hw⟩ := hrel
    by_cases hlt : k < 16
    · have hx := hexAt k hlt
      have hy := byte0 (lowb (hexd k))
      by_cases h1 : ((hexd k).toNat : Int) = c
      · have h1' : (((hexd k).toNat : Int) == c) = true := by simpa using h1
        have hv : Hid (worthV c = k) := by show _ = _; rw [hw.out, wfrom_hit hlt (by simp [mtB, h1'])]
        clear h1 hw
        go_wp2
        go_ret
        exact ⟨ret_int hv.out.symm, hb⟩
      · have h1' : (((hexd k).toNat : Int) == c) = false := by simpa using h1
        by_cases h2 : ((lowb (hexd k)).toNat : Int) = c
        · have h2' : (((lowb (hexd k)).toNat : Int) == c) = true := by simpa using h2
          have hv : Hid (worthV c = k) := by show _ = _; rw [hw.out, wfrom_hit hlt (by simp [mtB, h2'])]
          clear h1 h2 hw
          go_wp2_with (go_at_call 57; refine (low1 k hlt _).mono ?_; rintro e w2 ⟨rfl, hb2⟩)
          go_ret
          exact ⟨ret_int hv.out.symm, hb.trans (hb2.mono hb.size)⟩
        · have h2' : (((lowb (hexd k)).toNat : Int) == c) = false := by simpa using h2
          have hw' : Hid (worthV c = wfrom (16 - (k + 1)) (k + 1) c) := by show _ = _; rw [hw.out, wfrom_step hlt (by simp [mtB, h1', h2'])]
          clear h1 h2 hw
          go_wp2_with (go_at_call 57; refine (low1 k hlt _).mono ?_; rintro e w2 ⟨rfl, hb2⟩)
          go_roundw
          case rel => exact ⟨k + 1, by omega, by go_num, hb.trans (hb2.mono hb.size), hw'⟩
          case measure => simp [intOf]; omega
    · have hk16 : k = 16 := by omega
      subst hk16
      go_wp2
      go_ret
      exact ⟨ret_int hw.out.symm, hb⟩

set_option maxHeartbeats 2000000 in
theorem refunescape_any (s : ByteArray) (w : World) (hs : s.size ≤ 140737488355328) :
    Calls Tryd.prog 76 #[.string s] w fun e w' => e = .returned (.tuple #[.string ⟨(unescV s.data.toList).1.toArray⟩, .int .i64 (unescV s.data.toList).2]) ∧ Below w.heap.size w w' := by
  obtain ⟨i0, hi, hz0, hz1, hz2⟩ := info_parts info5
  go_enter Tryd.func76, Tryd.ntmps76
  go_wp2_with fail
  go_loopw [4, 5] (fun v i wr => ∃ (k : Nat) (acc : List UInt8), k ≤ s.size ∧ i = .int .i64 k ∧ acc.length ≤ k ∧ Own wr w.heap.size 5 v (Lib.byteCells acc) ∧ Below w.heap.size w wr ∧ w.heap.size ≤ wr.heap.size ∧
      Hid (UneAt s.data.toList acc (s.data.toList.drop k))) (fun _ i _ => s.size - (intOf i).toNat)
  case atStart => exact ⟨0, [], Nat.zero_le _, rfl, Nat.le_refl _, Own.nil _ _ _, Below.refl _ _, Nat.le_refl _, show UneAt _ _ _ by rw [List.drop_zero]; exact uneAt0 _⟩
  case round =>
    obtain ⟨k, acc, hk, rfl, hac, hown, hb, hB, hu⟩ := hrel
    by_cases hlt : k < s.size
    · have hu' := hu.out
      rw [drop_cons s k hlt] at hu'
      by_cases h37 : (s[k].toNat : Int) = 37
      · have c1 : ((s[k].toNat : Int) != 37) = false := by simp [h37]
        by_cases hsh : k + 2 < s.size
        · rw [drop_cons s (k + 1) (by omega), drop_cons s (k + 1 + 1) (by omega)] at hu'
          by_cases hx1 : isB s[k + 1].toNat 4 = true
          · by_cases hx2 : isB s[k + 2].toNat 4 = true
            · have hn : Hid (UneAt s.data.toList (acc ++ [hxb s[k + 1] s[k + 2]]) (s.data.toList.drop (k + 1 + 1 + 1))) := uneAt_hex hu' h37 hx1 hx2
              have hw1 := worth_hex hx1
              have hw2 := worth_hex hx2
              have hd1 := hexv_bd hx1
              have hd2 := hexv_bd hx2
              have hv := hxb_toNat hx1 hx2
              clear hu hu' h37
              go_wp2_with (go_at_call 87; refine (worth_any _ _).mono ?_; rintro e w5 ⟨rfl, h5⟩; replace hown := hown.below h5; replace hb := hb.trans (h5.mono hB); replace hB := Nat.le_trans hB h5.size; clear h5)
              replace hown := hown.drew
              replace hb := hb.drew
              have q1 : IntKind.i64.wrap ((k : Int) + 1) = (k : Int) + 1 := by simp [IntKind.wrap, IntKind.signed, IntKind.bits]; omega
              have q2 : IntKind.i64.wrap ((k : Int) + 2) = (k : Int) + 2 := by simp [IntKind.wrap, IntKind.signed, IntKind.bits]; omega
              have q3 : ((k : Int) + 1).toNat = k + 1 := by omega
              have q4 : ((k : Int) + 2).toNat = k + 2 := by omega
              have q5 : (0 : Int) ≤ (k : Int) + 1 := by omega
              have q6 : (k : Int) + 1 < (s.size : Int) := by omega
              have q7 : (0 : Int) ≤ (k : Int) + 2 := by omega
              have q8 : (k : Int) + 2 < (s.size : Int) := by omega
              have m1 : IntKind.i64.wrap (16 * hexv s[k + 1].toNat) = 16 * hexv s[k + 1].toNat := by simp [IntKind.wrap, IntKind.signed, IntKind.bits]; omega
              have m2 : IntKind.i64.wrap (16 * hexv s[k + 1].toNat + hexv s[k + 2].toNat) = 16 * hexv s[k + 1].toNat + hexv s[k + 2].toNat := by simp [IntKind.wrap, IntKind.signed, IntKind.bits]; omega
              have m3 : IntKind.u8.wrap (16 * hexv s[k + 1].toNat + hexv s[k + 2].toNat) = ((hxb s[k + 1] s[k + 2]).toNat : Int) := by rw [hv]; simp [IntKind.wrap, IntKind.signed, IntKind.bits]; omega
              clear hv
              go_region_law (first | (refine step_app rfl (.tmp 43) (.tmp 57) 62 rfl w.heap.size 5 i0 (.int .u8 0) 1 Tryd.underlying62 hi hz0 hz1 hz2 rfl _ _ rfl (by exact hown.alloc _) ⟨_, 0, none⟩ 1 1 (Lib.byteCells [hxb s[k + 1] s[k + 2]]) rfl rfl (by exact one_new _ _ _) (byteCells_one _) (by rw [Lib.byteCells_length]; unfold maxLen; omega) (by rw [Lib.byteCells_length]; omega) w (by exact hb.alloc hB _) (by simp; omega) ?_; intro v3 w3 hown3 hb3 hB3) | (go_simp; go_at_call 87; refine (worth_any _ _).mono ?_; rintro e w5 ⟨rfl, h5⟩; replace hown := hown.below h5; replace hb := hb.trans (h5.mono hB); replace hB := Nat.le_trans hB h5.size; clear h5))
              all_goals
                rw [byteCells_snoc] at hown3
                go_wp2
                go_roundw
                case rel => exact ⟨k + 1 + 1 + 1, _, by omega, by go_num, by simp; omega, hown3, hb3, hB3, hn⟩
                case measure => simp [intOf]; omega
            · have hx2' : isB s[k + 2].toNat 4 = false := by simpa using hx2
              have hv : Hid (unescV s.data.toList = ([], 12)) := unescV_none (uneAt_bad hu' h37 (by rw [hx1, hx2']; rfl))
              have hw1 := worth_hex hx1
              have hw2 := worth_not hx2'
              have hd1 := hexv_bd hx1
              clear hu hu' h37 hx1 hx2 hx2'
              go_wp2_with (go_at_call 87; refine (worth_any _ _).mono ?_; rintro e w5 ⟨rfl, h5⟩; replace hown := hown.below h5; replace hb := hb.trans (h5.mono hB); replace hB := Nat.le_trans hB h5.size; clear h5)
              go_ret2
              exact ⟨ret_str [] 12 hv.out, hb⟩
          · have hx1' : isB s[k + 1].toNat 4 = false := by simpa using hx1
            have hv : Hid (unescV s.data.toList = ([], 12)) := unescV_none (uneAt_bad hu' h37 (by rw [hx1']; rfl))
            have hw1 := worth_not hx1'
            clear hu hu' h37 hx1 hx1'
            go_wp2_with (go_at_call 87; refine (worth_any _ _).mono ?_; rintro e w5 ⟨rfl, h5⟩; replace hown := hown.below h5; replace hb := hb.trans (h5.mono hB); replace hB := Nat.le_trans hB h5.size; clear h5)
            go_ret2
            exact ⟨ret_str [] 12 hv.out, hb⟩
        · have hv : Hid (unescV s.data.toList = ([], 12)) := unescV_none (uneAt_short hu' h37 (by rw [List.length_drop, len_data]; omega))
          clear hu hu' h37
          go_wp2
          go_ret2
          exact ⟨ret_str [] 12 hv.out, hb⟩
      · have c1 : ((s[k].toNat : Int) != 37) = true := by simp [h37]
        have hn : Hid (UneAt s.data.toList (acc ++ [s[k]]) (s.data.toList.drop (k + 1))) := uneAt_plain hu' h37
        clear hu hu' h37
        go_wp2_with (at_builtin; refine wp_app _ rfl (.tmp 14) (.tmp 18) 62 rfl w.heap.size 5 i0 (.int .u8 0) 1 Tryd.underlying62 hi hz0 hz1 hz2 rfl _ _ rfl (by exact hown.alloc _) ⟨_, 0, none⟩ 1 1 (Lib.byteCells [s[k]]) rfl rfl (by exact one_new _ _ _) (byteCells_one _) (by rw [Lib.byteCells_length]; unfold maxLen; omega) (by rw [Lib.byteCells_length]; omega) w (by exact hb.alloc hB _) (by simp; omega) ?_; intro v3 w3 hown3 hb3 hB3)
        rw [byteCells_snoc] at hown3
        go_wp2
        go_roundw
        case rel => exact ⟨k + 1, _, by omega, by go_num, by simp; omega, hown3, hb3, hB3, hn⟩
        case measure => simp [intOf]; omega
    · have hu' := hu.out
      rw [drop_all s k (by omega)] at hu'
      have hv : Hid (unescV s.data.toList = (acc, 0)) := unescV_some (uneAt_end hu')
      have hcv := conv_own (P := Tryd.prog) _ Tryd.underlying62 Tryd.underlying5 Tryd.underlying9 hown
      clear hu hu'
      go_wp2
      go_ret2
      exact ⟨ret_str acc 0 hv.out, hb⟩

end Go.Proofs.YtnkghefcoolkoaaDoor

/-
  The contract of the document's own written.
-/
namespace Go.Proofs.YtnkghefcoolkoaaDoor
open Go.RowKit Sc
set_option linter.unusedVariables false
set_option maxRecDepth 20000

theorem ret_wr {p : List UInt8 × Bool} {x : List UInt8} {b : Bool} (h : p = (x, b)) : Ending.returned (.tuple #[.string ⟨x.toArray⟩, .bool b]) = .returned (.tuple #[.string ⟨p.1.toArray⟩, .bool p.2]) := by rw [h]

set_option maxHeartbeats 1000000 in
theorem written_any (s keep : ByteArray) (w : World) (hs : s.size ≤ 140737488355328) (hk : keep.size ≤ maxLen) :
    Calls Tryd.prog 59 #[.string s, .string keep] w fun e w' => e = .returned (.tuple #[.string ⟨(writtenV keep.data.toList s.data.toList).1.toArray⟩, .bool (writtenV keep.data.toList s.data.toList).2]) ∧ Below w.heap.size w w' := by
  go_enter Tryd.func59, Tryd.ntmps59
  go_wp2
  go_loop [6] (fun i => ∃ k : Nat, k ≤ s.size ∧ i = .int .i64 k ∧ Hid ((s.data.toList.take k).all (okw keep.data.toList) = true)) (fun i => s.size - (intOf i).toNat)
  case atStart => exact ⟨0, by omega, rfl, rfl⟩
  case round =>
    obtain ⟨k, hk', rfl, hall⟩ := hrel
    by_cases hlt : k < s.size
    · have hbd := u8_bd s[k]
      by_cases h37 : s[k] = 37
      · have e37 : ((s[k].toNat : Int) != 37) = false := by rw [h37]; rfl
        have ha : Hid ((s.data.toList.take (k + 1)).all (okw keep.data.toList) = true) := okw_snoc hlt hall.out (by simp [okw, h37])
        clear h37 hall
        go_wp2
        go_round
        case rel => exact ⟨k + 1, by omega, by go_num, ha⟩
        case measure => simp [intOf]; omega
      · have e37 : ((s[k].toNat : Int) != 37) = true := by
          have := u8_ne (b := 37) h37
          simp only [bne, Bool.not_eq_true']; exact this
        by_cases hx : isB s[k].toNat 16 = true
        · have hx2 : (bits BinOp.and IntKind.i64 (cls s[k].toNat) 16 == 0) = false := by simpa [isB] using hx
          have ha : Hid ((s.data.toList.take (k + 1)).all (okw keep.data.toList) = true) := okw_snoc hlt hall.out (by simp [okw, hx])
          clear h37 hall hx
          go_wp2_with (go_at_call 51; refine (refclass_any _ _ hbd.1 hbd.2).mono ?_; rintro e w' ⟨rfl, rfl⟩)
          go_round
          case rel => exact ⟨k + 1, by omega, by go_num, ha⟩
          case measure => simp [intOf]; omega
        · have hx2 : (bits BinOp.and IntKind.i64 (cls s[k].toNat) 16 == 0) = true := by simpa [isB] using hx
          by_cases hh : hasL s[k] keep.data.toList = true
          · have ha : Hid ((s.data.toList.take (k + 1)).all (okw keep.data.toList) = true) := okw_snoc hlt hall.out (by simp [okw, hh])
            clear h37 hall hx
            go_wp2_with (first
              | (go_at_call 51; refine (refclass_any _ _ hbd.1 hbd.2).mono ?_; rintro e w' ⟨rfl, rfl⟩)
              | (go_at_call 58; refine (has3_any keep s[k] _ hk).mono ?_; rintro e w' ⟨rfl, rfl⟩))
            go_round
            case rel => exact ⟨k + 1, by omega, by go_num, ha⟩
            case measure => simp [intOf]; omega
          · have hh' : hasL s[k] keep.data.toList = false := by simpa using hh
            have hb : Hid (writtenV keep.data.toList s.data.toList = ([], false)) := written_bad hlt (by
              simp only [okw, Bool.or_eq_false_iff, beq_eq_false_iff_ne, ne_eq]
              exact ⟨h37, by simpa using hx, hh'⟩)
            clear h37 hall hx hh
            go_wp2_with (first
              | (go_at_call 51; refine (refclass_any _ _ hbd.1 hbd.2).mono ?_; rintro e w' ⟨rfl, rfl⟩)
              | (go_at_call 58; refine (has3_any keep s[k] _ hk).mono ?_; rintro e w' ⟨rfl, rfl⟩))
            go_ret2
            exact ⟨ret_wr (x := []) hb.out, Below.refl _ _⟩
    · rw [take_all s k (by omega)] at hall
      have hv := written_all hall.out
      have HV : Hid _ := hv; clear hv hall
      go_wp2_with (go_at_call 76; refine (refunescape_any _ _ hs).mono ?_; rintro e w1 ⟨rfl, hw1⟩)
      all_goals go_ret2
      all_goals exact ⟨ret_wr HV.out, hw1⟩

end Go.Proofs.YtnkghefcoolkoaaDoor

/-
  Rows of parameters that a call made itself; the contract of the document's own parameters.
-/
namespace Go.Proofs.YtnkghefcoolkoaaDoor
open Go.RowKit Sc
set_option linter.unusedVariables false
set_option maxRecDepth 20000

def parsCells (ps : List Par) : List Value := ps.flatMap parCells
theorem parsCells_len (ps : List Par) : (parsCells ps).length = ps.length * 3 := by
  induction ps with
  | nil => rfl
  | cons p ps ih => simp [parsCells, parCells] at ih ⊢; omega
theorem parsCells_get (ps : List Par) (k : Nat) (hk : k < ps.length) : (parsCells ps)[k * 3]? = some (.string ⟨ps[k].name.toArray⟩) ∧ (parsCells ps)[k * 3 + 1]? = some (.string ⟨ps[k].value.toArray⟩) ∧ (parsCells ps)[k * 3 + 2]? = some (.bool ps[k].has) := by
  induction ps generalizing k with
  | nil => simp at hk
  | cons p ps ih =>
    have e : parsCells (p :: ps) = parCells p ++ parsCells ps := rfl
    cases k with
    | zero => rw [e]; simp [parCells]
    | succ k =>
      have := ih k (by simpa using hk)
      rw [e, show (k + 1) * 3 = k * 3 + 3 by omega]
      simpa [parCells] using this
/-- The slice v owns the parameters ps, in a block from B on. -/
def OwnP (w : World) (B : Nat) (v : Value) (ps : List Par) : Prop := w.ownsRow B 42 3 v ps.length (parsCells ps)
theorem OwnP.nil (w : World) (B : Nat) : OwnP w B (.slice none 0 0) [] := World.ownsRow_nil _ _ _ _
theorem OwnP.alloc {w : World} {B : Nat} {v : Value} {ps : List Par} (h : OwnP w B v ps) (o : Obj) : OwnP (w.alloc o) B v ps := World.ownsRow.alloc h o
theorem OwnP.below {w w' : World} {B : Nat} {v : Value} {ps : List Par} (h : OwnP w B v ps) (hb : Below w.heap.size w w') : OwnP w' B v ps := by
  obtain ⟨h1, h2⟩ := h
  refine ⟨h1, ?_⟩
  rcases h2 with h2 | ⟨g, cap, cur, hv, hg, hh, r⟩
  · exact Or.inl h2
  · exact Or.inr ⟨g, cap, cur, hv, hg, by rw [hb.block g (Array.getElem?_eq_some_iff.1 hh).1]; exact hh, r⟩
theorem OwnP.parsAt {w : World} {B : Nat} {v : Value} {ps : List Par} (h : OwnP w B v ps) : ParsAt w v ps := by
  have h0 := h
  rcases h.2 with ⟨rfl, hn⟩ | ⟨g, cap, cur, rfl, hb, hg, r⟩
  · exact Or.inl ⟨rfl, List.eq_nil_of_length_eq_zero hn⟩
  · refine Or.inr ⟨⟨g, 0, none⟩, cap, rfl, fun k hk => ⟨(Array.getElem?_eq_some_iff.1 hg).1, ?_⟩⟩
    obtain ⟨c0, c1, c2⟩ := parsCells_get ps k hk
    have a0 := World.ownsRow.cells h0 (g := g) rfl (k * 3) _ c0
    have a1 := World.ownsRow.cells h0 (g := g) rfl (k * 3 + 1) _ c1
    have a2 := World.ownsRow.cells h0 (g := g) rfl (k * 3 + 2) _ c2
    have e : ∀ j, (⟨g, 0, none⟩ : Addr).add j = ⟨g, j, none⟩ := fun j => by unfold Addr.add; split <;> simp_all
    rw [e] at a0 a1 a2
    unfold ParAt
    rw [e]
    exact ⟨a0, a1, a2⟩
theorem infoPar : (Tryd.prog.info? 42).map (fun i => (i.zero, i.size, i.bytes)) = some (some (.agg #[.string .empty, .string .empty, .bool false]), 3, 40) := by kernel_rfl

/-- append of one parameter. -/
theorem wp_appP {P : Program} (w : World) {ops : Array Oper} {rest : List Oper} {o : Oper} {a : Act} {Q : Exit → Act → World → Prop} (hgd : o.guard = none)
    (s x : Operand) (t : TypeId) (ho : o.op = Op.call { callee := Callee.builtin Builtin.append, args := #[s, x], argTypes := #[t, t] }) (B : Nat) (i : TypeInfo)
    (z : Value) (ht : P.underlying t = some (TypeDesc.slice 42)) (hi : P.info? 42 = some i) (hz : i.zero = some z) (hsize : i.size = 3) (hby : i.bytes = 40) (hzs : z.cells.size = 3)
    (v : Value) (ps : List Par) (hs : a.eval s = v) (hown : OwnP w B v ps) (ad : Addr) (c : Nat) (p : Par) (hx : a.eval x = Value.slice (some ad) 1 c)
    (hnews : ∀ (j : Nat) (u : Value), (parCells p)[j]? = some u → w.cell? (ad.add j) = some u)
    (hlen : ps.length ≤ 2000000) (w0 : World) (hb : Below B w0 w) (hB : B ≤ w.heap.size)
    (h : ∀ (v' : Value) (w' : World), OwnP w' B v' (ps ++ [p]) → Below B w0 w' → B ≤ w'.heap.size → wpList P ops Q rest (a.put o.dst v') w') : wpList P ops Q (o :: rest) a w := by
  refine wpList_append_own w hgd s x t ho B 42 i z 3 40 ht hi hz hsize hby hzs (by decide) v ps.length (parsCells ps) hs hown ad 1 c (parCells p) hx rfl hnews (by intro u hu; simp [parCells] at hu; rcases hu with rfl | rfl | rfl <;> rfl) (by unfold maxLen; omega) (by omega) hB ?_
  intro v' w' hown' hgr _
  refine h v' w' ?_ (hb.grown hgr hB (fun k hk => (World.ownsRow.lt hown k hk).1)) (Nat.le_trans hB hgr.size)
  unfold OwnP
  have e : parsCells (ps ++ [p]) = parsCells ps ++ parCells p := by simp [parsCells]
  rw [e, List.length_append]
  exact hown'

end Go.Proofs.YtnkghefcoolkoaaDoor

/-
  The contract of the document's own parameters.
-/
namespace Go.Proofs.YtnkghefcoolkoaaDoor
open Go.RowKit Sc
set_option linter.unusedVariables false
set_option maxRecDepth 20000

/-- The slice v holds the texts ls. -/
def StrsAt (w : World) (v : Value) (ls : List (List UInt8)) : Prop :=
  ∃ (ao : Option Addr) (cap : Nat), v = .slice ao ls.length cap ∧ ∀ k (hk : k < ls.length), ∃ a, ao = some a ∧ a.block < w.heap.size ∧ w.cell? (a.add k) = some (.string ⟨ls[k].toArray⟩)
theorem StrsAt.below {w w' : World} {v : Value} {ls : List (List UInt8)} (h : StrsAt w v ls) (hb : Below w.heap.size w w') : StrsAt w' v ls := by
  obtain ⟨ao, cap, hv, hc⟩ := h
  refine ⟨ao, cap, hv, fun k hk => ?_⟩
  obtain ⟨a, e, ha, hcell⟩ := hc k hk
  exact ⟨a, e, Nat.lt_of_lt_of_le ha hb.size, cell_below hb (by rw [add_block]; exact ha) hcell⟩
theorem parsOf_snoc (keep : List UInt8) (ls : List (List UInt8)) (l : List UInt8) : parsOf keep (ls ++ [l]) = match parsOf keep ls, parOf keep l with | some ps, some p => some (ps ++ [p]) | _, _ => none := by
  induction ls with
  | nil =>
    rw [List.nil_append, parsOf, parsOf]
    cases parOf keep l <;> rfl
  | cons x ls ih =>
    rw [List.cons_append, parsOf, parsOf, ih]
    cases parOf keep x <;> cases parsOf keep ls <;> cases parOf keep l <;> rfl
theorem parsOf_bad {keep : List UInt8} {ls : List (List UInt8)} {k : Nat} (hk : k < ls.length) (h : parOf keep ls[k] = none) : parsOf keep ls = none := by
  induction ls generalizing k with
  | nil => simp at hk
  | cons x ls ih =>
    rw [parsOf]
    cases k with
    | zero => simp at h; rw [h]
    | succ k =>
      rw [ih (by simpa using hk) (by simpa using h)]
      cases parOf keep x <;> rfl
theorem parsOf_len {keep : List UInt8} {ls : List (List UInt8)} {ps : List Par} (h : parsOf keep ls = some ps) : ps.length = ls.length := by
  induction ls generalizing ps with
  | nil => simp [parsOf] at h; subst h; rfl
  | cons x ls ih =>
    rw [parsOf] at h
    cases hx : parOf keep x with
    | none => rw [hx] at h; simp at h
    | some p =>
      cases hl : parsOf keep ls with
      | none => rw [hx, hl] at h; simp at h
      | some qs => rw [hx, hl] at h; simp at h; subst h; simp [ih hl]
theorem written_list (s keep : List UInt8) (w : World) (hs : s.length ≤ 1048576) (hk : keep.length ≤ 64) :
    Calls Tryd.prog 59 #[.string ⟨s.toArray⟩, .string ⟨keep.toArray⟩] w fun e w' => e = .returned (.tuple #[.string ⟨(writtenV keep s).1.toArray⟩, .bool (writtenV keep s).2]) ∧ Below w.heap.size w w' :=
  written_any ⟨s.toArray⟩ ⟨keep.toArray⟩ w (by rw [size_list]; omega) (by rw [size_list]; unfold maxLen; omega)
theorem parOf_some {keep l : List UInt8} (h1 : (writtenV keep (cutL 61 l).1).2 = true) (h2 : (writtenV keep (cutL 61 l).2.1).2 = true) : parOf keep l = some ⟨(writtenV keep (cutL 61 l).1).1, (writtenV keep (cutL 61 l).2.1).1, (cutL 61 l).2.2⟩ := by
  rw [parOf, if_pos ⟨h1, h2⟩]
theorem parOf_none {keep l : List UInt8} (h : ¬ ((writtenV keep (cutL 61 l).1).2 = true ∧ (writtenV keep (cutL 61 l).2.1).2 = true)) : parOf keep l = none := by
  rw [parOf, if_neg h]
def ParsRes (keep : List UInt8) (ls : List (List UInt8)) (w w' : World) (v : Value) (b : Bool) : Prop :=
  (∃ ps, parsOf keep ls = some ps ∧ b = true ∧ OwnP w' w.heap.size v ps) ∨ (parsOf keep ls = none ∧ b = false ∧ v = .slice none 0 0)

set_option maxHeartbeats 2000000 in
set_option maxRecDepth 100000 in
theorem params_any (v : Value) (ls : List (List UInt8)) (keep : List UInt8) (w : World) (hk : keep.length ≤ 64) (hn : ls.length ≤ 1048577) (hl : ∀ l ∈ ls, l.length ≤ 1048576) (hv : StrsAt w v ls) :
    Calls Tryd.prog 62 #[v, .string ⟨keep.toArray⟩] w fun e w' => ∃ v' b, e = .returned (.tuple #[v', .bool b]) ∧ ParsRes keep ls w w' v' b ∧ Below w.heap.size w w' := by
  obtain ⟨i0, hi, hz0, hz1, hz2⟩ := info_parts infoPar
  obtain ⟨ao, cap, rfl, hc⟩ := hv
  have HC : Hid _ := hc; clear hc
  have HL : Hid _ := hl; clear hl
  obtain ⟨n, hn'⟩ : ∃ n, n = ls.length := ⟨_, rfl⟩
  rw [← hn'] at hn ⊢
  have HN : Hid _ := hn'; clear hn'
  go_enter Tryd.func62, Tryd.ntmps62
  go_wp2
  go_loopw [6, 7] (fun x i wr => ∃ (k : Nat) (ps : List Par), k ≤ n ∧ i = .int .i64 k ∧ Hid (parsOf keep (ls.take k) = some ps) ∧ ps.length = k ∧ OwnP wr w.heap.size x ps ∧ Below w.heap.size w wr ∧ w.heap.size ≤ wr.heap.size) (fun _ i _ => n - (intOf i).toNat)
  case atStart => exact ⟨0, [], by omega, rfl, rfl, rfl, OwnP.nil _ _, Below.refl _ _, Nat.le_refl _⟩
  case round =>
    obtain ⟨k, ps, hkn, rfl, hps, hpl, hown, hb, hB⟩ := hrel
    by_cases hlt : k < n
    · have hkl : k < ls.length := by have := HN.out; omega
      obtain ⟨a, hao, hab, hcell⟩ := HC.out k hkl
      have hcell2 := cell_below hb (by rw [add_block]; exact hab) hcell
      have hll := HL.out _ (List.getElem_mem hkl)
      have hcl := cutL_len 61 ls[k]
      subst hao
      clear hcell
      go_wp2_with fail
      refine (cut3_list ls[k] 61 _ (by omega)).mono ?_
      rintro e w' ⟨rfl, q, rfl⟩
      have hown1 := hown.below (below_drewN _ q)
      have hb1 := hb.trans ((below_drewN _ q).mono hB)
      go_wp2_with fail
      refine (written_list (cutL 61 ls[k]).1 keep _ (by omega) hk).mono ?_
      rintro e w3 ⟨rfl, hw3⟩
      have hown3 := hown1.below hw3
      have hb3 := hb1.trans (hw3.mono hb1.size)
      go_wp2_with fail
      refine (written_list (cutL 61 ls[k]).2.1 keep _ (by omega) hk).mono ?_
      rintro e w4 ⟨rfl, hw4⟩
      have hown4 := hown3.below hw4
      have hb4 := hb3.trans (hw4.mono hb3.size)
      have hB4 := hb4.size
      clear hown hown1 hown3 hb hb1 hb3 hw3 hw4 hB hcell2
      have hsn : parsOf keep (ls.take (k + 1)) = match parsOf keep (ls.take k), parOf keep ls[k] with | some ps, some p => some (ps ++ [p]) | _, _ => none := by
        rw [List.take_succ_eq_append_getElem hkl, parsOf_snoc]
      rw [hps.out] at hsn
      have hpbad := @parsOf_bad keep ls k hkl
      have hpsome := @parOf_some keep ls[k]
      have hpnone := @parOf_none keep ls[k]
      generalize cutL 61 ls[k] = c3 at hpsome hpnone ⊢
      obtain ⟨ca, cb, cc⟩ := c3
      simp only at hpsome hpnone ⊢
      generalize writtenV keep ca = wa at hpsome hpnone ⊢
      generalize writtenV keep cb = wb at hpsome hpnone ⊢
      obtain ⟨na, ha⟩ := wa
      obtain ⟨nb, hbb⟩ := wb
      simp only at hpsome hpnone ⊢
      have HPB : Hid _ := hpbad; clear hpbad
      have HPN : Hid _ := hpnone; clear hpnone
      have HPS : Hid _ := hpsome; clear hpsome
      have HSN : Hid _ := hsn; clear hsn
      cases ha with
      | false =>
        have hnone : Hid (parsOf keep ls = none) := HPB.out (HPN.out (by simp))
        go_wp2
        go_ret2
        first | exact ⟨.slice none 0 0, false, rfl, Or.inr ⟨hnone.out, rfl, rfl⟩, hb4⟩ | exact ⟨.slice none 0 0, Or.inl ⟨rfl, Or.inr ⟨hnone.out, rfl, rfl⟩, hb4⟩⟩
      | true =>
        cases hbb with
        | false =>
          have hnone : Hid (parsOf keep ls = none) := HPB.out (HPN.out (by simp))
          go_wp2
          go_ret2
          first | exact ⟨.slice none 0 0, false, rfl, Or.inr ⟨hnone.out, rfl, rfl⟩, hb4⟩ | exact ⟨.slice none 0 0, Or.inl ⟨rfl, Or.inr ⟨hnone.out, rfl, rfl⟩, hb4⟩⟩
        | true =>
          have hsn2 : Hid (parsOf keep (ls.take (k + 1)) = some (ps ++ [⟨na, nb, cc⟩])) := show _ = _ by rw [HSN.out, HPS.out rfl rfl]
          have hnew : ∀ (j : Nat) (u : Value), (parCells ⟨na, nb, cc⟩)[j]? = some u → (w4.alloc (.cells #[.string ⟨na.toArray⟩, .string ⟨nb.toArray⟩, .bool cc] 42)).cell? ((⟨w4.heap.size, 0, none⟩ : Addr).add j) = some u := by
            intro j u hj
            have e : (⟨w4.heap.size, 0, none⟩ : Addr).add j = ⟨w4.heap.size, j, none⟩ := by unfold Addr.add; split <;> simp_all
            rw [e]
            unfold World.cell?
            rw [heap_alloc_new]
            simpa [parCells] using hj
          have HNW : Hid _ := hnew; clear hnew HSN HPS HPN HPB
          go_wp2_with (at_builtin; refine wp_appP _ rfl (.tmp 48) (.tmp 53) 22 rfl w.heap.size i0 _ Tryd.underlying22 hi hz0 hz1 hz2 rfl _ ps rfl (hown4.alloc _) ⟨w4.heap.size, 0, none⟩ 1 ⟨na, nb, cc⟩ rfl (by exact HNW.out) (by omega) w (hb4.alloc hB4 _) (by simp; omega) ?_; intro v5 w5 hown5 hb5 hB5)
          go_wp2
          go_roundw
          case rel => exact ⟨k + 1, ps ++ [⟨na, nb, cc⟩], by omega, by go_num, hsn2, by simp; omega, hown5, hb5, hB5⟩
          case measure => simp [intOf]; omega
    · have hend : Hid (parsOf keep ls = some ps) := show _ = _ by
        have h := hps.out
        have e := HN.out
        rw [List.take_of_length_le (by omega)] at h; exact h
      clear hps
      go_wp2
      go_ret2
      first | exact ⟨_, _, rfl, Or.inl ⟨ps, hend.out, rfl, hown⟩, hb⟩ | exact ⟨_, Or.inr ⟨rfl, Or.inl ⟨ps, hend.out, rfl, hown⟩, hb⟩⟩

end Go.Proofs.YtnkghefcoolkoaaDoor

/-
  Contracts of package uri: meaning, fields, cutUser.
-/
namespace Go.Proofs.YtnkghefcoolkoaaDoor
open Go.RowKit Sc
set_option linter.unusedVariables false
set_option maxRecDepth 20000

theorem idx_neg {keep : List UInt8} {b : UInt8} (h : hasL b keep = false) : Lib.indexByte keep b = -1 := by
  rcases idx_cases keep b with ⟨_, h2⟩ | ⟨a, c, h1, _, _⟩
  · exact h2
  · exfalso
    unfold hasL at h
    rw [h1] at h; simp at h
theorem idx_pos {keep : List UInt8} {b : UInt8} (h : hasL b keep = true) : 0 ≤ Lib.indexByte keep b := by
  rcases idx_cases keep b with ⟨h1, _⟩ | ⟨a, c, _, _, h3⟩
  · unfold hasL at h; simp [h1] at h
  · omega

set_option maxHeartbeats 1000000 in
theorem meaning_any (s keep : ByteArray) (w : World) (hs : s.size ≤ 140737488355328) (hk : keep.size ≤ maxLen) :
    Calls Tryd.prog 73 #[.string s, .string keep] w fun e w' => e = .returned (.tuple #[.string ⟨(writtenV keep.data.toList s.data.toList).1.toArray⟩, .bool (writtenV keep.data.toList s.data.toList).2]) ∧ Below w.heap.size w w' := by
  go_enter Tryd.func73, Tryd.ntmps73
  go_wp2
  go_loop [12] (fun i => ∃ k : Nat, k ≤ s.size ∧ i = .int .i64 k ∧ Hid ((s.data.toList.take k).all (okw keep.data.toList) = true)) (fun i => s.size - (intOf i).toNat)
  case atStart => exact ⟨0, by omega, rfl, rfl⟩
  case round =>
    obtain ⟨k, hk', rfl, hall⟩ := hrel
    by_cases hlt : k < s.size
    · have hbd := u8_bd s[k]
      by_cases h37 : s[k] = 37
      · have e37 : ((s[k].toNat : Int) != 37) = false := by rw [h37]; rfl
        have e37' : ((s[k].toNat : Int) == 37) = true := by rw [h37]; rfl
        have ha : Hid ((s.data.toList.take (k + 1)).all (okw keep.data.toList) = true) := okw_snoc hlt hall.out (by simp [okw, h37])
        clear h37 hall
        go_wp2
        go_round
        case rel => exact ⟨k + 1, by omega, by go_num, ha⟩
        case measure => simp [intOf]; omega
      · have e37 : ((s[k].toNat : Int) != 37) = true := by
          have := u8_ne (b := 37) h37
          simp only [bne, Bool.not_eq_true']; exact this
        by_cases hx : isB s[k].toNat 16 = true
        · have hx2 : (bits BinOp.and IntKind.i64 (cls s[k].toNat) 16 == 0) = false := by simpa [isB] using hx
          have ha : Hid ((s.data.toList.take (k + 1)).all (okw keep.data.toList) = true) := okw_snoc hlt hall.out (by simp [okw, hx])
          clear h37 hall hx
          go_wp2_with (go_at_call 79; refine (class_any _ _ hbd.1 hbd.2).mono ?_; rintro e w' ⟨rfl, rfl⟩)
          go_round
          case rel => exact ⟨k + 1, by omega, by go_num, ha⟩
          case measure => simp [intOf]; omega
        · have hx2 : (bits BinOp.and IntKind.i64 (cls s[k].toNat) 16 == 0) = true := by simpa [isB] using hx
          by_cases hh : hasL s[k] keep.data.toList = true
          · have ha : Hid ((s.data.toList.take (k + 1)).all (okw keep.data.toList) = true) := okw_snoc hlt hall.out (by simp [okw, hh])
            have hix := idx_pos hh
            clear h37 hall hx
            go_wp2_with (first
              | (go_at_call 79; refine (class_any _ _ hbd.1 hbd.2).mono ?_; rintro e w' ⟨rfl, rfl⟩)
              | (go_at_call 83; refine (strIndexByte_any keep s[k] _).mono ?_; rintro e w' ⟨rfl, rfl⟩))
            go_round
            case rel => exact ⟨k + 1, by omega, by go_num, ha⟩
            case measure => simp [intOf]; omega
          · have hh' : hasL s[k] keep.data.toList = false := by simpa using hh
            have hix := idx_neg hh'
            have hb : Hid (writtenV keep.data.toList s.data.toList = ([], false)) := written_bad hlt (by
              simp only [okw, Bool.or_eq_false_iff, beq_eq_false_iff_ne, ne_eq]
              exact ⟨h37, by simpa using hx, hh'⟩)
            clear h37 hall hx hh
            go_wp2_with (first
              | (go_at_call 79; refine (class_any _ _ hbd.1 hbd.2).mono ?_; rintro e w' ⟨rfl, rfl⟩)
              | (go_at_call 83; refine (strIndexByte_any keep s[k] _).mono ?_; rintro e w' ⟨rfl, rfl⟩; rw [hix]))
            go_ret2
            exact ⟨ret_wr (x := []) hb.out, Below.refl _ _⟩
    · rw [take_all s k (by omega)] at hall
      have hv := written_all hall.out
      have HV : Hid _ := hv; clear hv hall
      go_wp2_with (go_at_call 84; refine (unescape_any _ _ hs).mono ?_; rintro e w1 ⟨rfl, hw1⟩)
      all_goals go_ret2
      all_goals exact ⟨ret_wr HV.out, hw1⟩

theorem parsOf_snoc_some {keep : List UInt8} {ls : List (List UInt8)} {l : List UInt8} {ps : List Par} {p : Par} (h1 : parsOf keep ls = some ps) (h2 : parOf keep l = some p) : parsOf keep (ls ++ [l]) = some (ps ++ [p]) := by
  rw [parsOf_snoc, h1, h2]
theorem meaning_list (s keep : List UInt8) (w : World) (hs : s.length ≤ 1048576) (hk : keep.length ≤ 64) :
    Calls Tryd.prog 73 #[.string ⟨s.toArray⟩, .string ⟨keep.toArray⟩] w fun e w' => e = .returned (.tuple #[.string ⟨(writtenV keep s).1.toArray⟩, .bool (writtenV keep s).2]) ∧ Below w.heap.size w w' :=
  meaning_any ⟨s.toArray⟩ ⟨keep.toArray⟩ w (by rw [size_list]; omega) (by rw [size_list]; unfold maxLen; omega)
theorem strCut_list (r : List UInt8) (c : UInt8) (w : World) (hs : r.length ≤ 9223372036854775807) :
    Calls Tryd.prog 53 #[.string ⟨r.toArray⟩, .string ⟨#[c]⟩] w fun e w' => e = .returned (.tuple #[.string ⟨(cutL c r).1.toArray⟩, .string ⟨(cutL c r).2.1.toArray⟩, .bool (cutL c r).2.2]) ∧ ∃ q, w' = w.drewN q :=
  strCut_any ⟨r.toArray⟩ c w (by rw [size_list]; exact hs)

set_option maxHeartbeats 2000000 in
set_option maxRecDepth 100000 in
theorem fields_any (v : Value) (ls : List (List UInt8)) (keep : List UInt8) (w : World) (hk : keep.length ≤ 64) (hn : ls.length ≤ 1048577) (hl : ∀ l ∈ ls, l.length ≤ 1048576) (hv : StrsAt w v ls) :
    Calls Tryd.prog 75 #[v, .string ⟨keep.toArray⟩] w fun e w' => ∃ v' b, e = .returned (.tuple #[v', .bool b]) ∧ ParsRes keep ls w w' v' b ∧ Below w.heap.size w w' := by
  obtain ⟨i0, hi, hz0, hz1, hz2⟩ := info_parts infoPar
  obtain ⟨ao, cap, rfl, hc⟩ := hv
  have HC : Hid _ := hc; clear hc
  have HL : Hid _ := hl; clear hl
  obtain ⟨n, hn'⟩ : ∃ n, n = ls.length := ⟨_, rfl⟩
  rw [← hn'] at hn ⊢
  have HN : Hid _ := hn'; clear hn'
  go_enter Tryd.func75, Tryd.ntmps75
  go_wp2
  go_loopw [6, 17] (fun x i wr => ∃ (k : Nat) (ps : List Par), k ≤ n ∧ i = .int .i64 k ∧ Hid (parsOf keep (ls.take k) = some ps) ∧ ps.length = k ∧ OwnP wr w.heap.size x ps ∧ Below w.heap.size w wr ∧ w.heap.size ≤ wr.heap.size) (fun _ i _ => n - (intOf i).toNat)
  case atStart => exact ⟨0, [], by omega, rfl, rfl, rfl, OwnP.nil _ _, Below.refl _ _, Nat.le_refl _⟩
  case round =>
    obtain ⟨k, ps, hkn, rfl, hps, hpl, hown, hb, hB⟩ := hrel
    by_cases hlt : k < n
    · have hkl : k < ls.length := by have := HN.out; omega
      obtain ⟨a, hao, hab, hcell⟩ := HC.out k hkl
      have hcell2 := cell_below hb (by rw [add_block]; exact hab) hcell
      have hll := HL.out _ (List.getElem_mem hkl)
      have hcl := cutL_len 61 ls[k]
      subst hao
      clear hcell
      go_wp2_with fail
      refine (strCut_list ls[k] 61 _ (by omega)).mono ?_
      rintro e w' ⟨rfl, q, rfl⟩
      have hown1 := hown.below (below_drewN _ q)
      have hb1 := hb.trans ((below_drewN _ q).mono hB)
      go_wp2_with fail
      refine (meaning_list (cutL 61 ls[k]).1 keep _ (by omega) hk).mono ?_
      rintro e w3 ⟨rfl, hw3⟩
      have hown3 := hown1.below hw3
      have hb3 := hb1.trans (hw3.mono hb1.size)
      have hB3 := hb3.size
      have hsn : ∀ p, parOf keep ls[k] = some p → parsOf keep (ls.take (k + 1)) = some (ps ++ [p]) := fun p h => by
        rw [List.take_succ_eq_append_getElem hkl]; exact parsOf_snoc_some hps.out h
      have hpbad := @parsOf_bad keep ls k hkl
      have hpsome := @parOf_some keep ls[k]
      have hpnone := @parOf_none keep ls[k]
      clear hown hown1 hb hb1 hw3 hB hcell2
      have hlb : (cutL 61 ls[k]).2.1.length ≤ 1048576 := by omega
      generalize cutL 61 ls[k] = c3 at hpsome hpnone hlb ⊢
      obtain ⟨ca, cb, cc⟩ := c3
      simp only at hpsome hpnone hlb ⊢
      obtain ⟨wb, hwb⟩ : ∃ wb, writtenV keep cb = wb := ⟨_, rfl⟩
      rw [hwb] at hpsome hpnone
      generalize writtenV keep ca = wa at hpsome hpnone ⊢
      obtain ⟨na, ha⟩ := wa
      obtain ⟨nb, hbb⟩ := wb
      simp only at hpsome hpnone ⊢
      have HPB : Hid _ := hpbad; clear hpbad
      have HPN : Hid _ := hpnone; clear hpnone
      have HPS : Hid _ := hpsome; clear hpsome
      have HSN : Hid _ := hsn; clear hsn
      cases ha with
      | false =>
        have hnone : Hid (parsOf keep ls = none) := HPB.out (HPN.out (by simp))
        go_wp2
        go_ret2
        first | exact ⟨.slice none 0 0, false, rfl, Or.inr ⟨hnone.out, rfl, rfl⟩, hb3⟩ | exact ⟨.slice none 0 0, Or.inl ⟨rfl, Or.inr ⟨hnone.out, rfl, rfl⟩, hb3⟩⟩
      | true =>
        go_wp2_with fail
        refine (meaning_list cb keep _ hlb hk).mono ?_
        rw [hwb]
        rintro e w4 ⟨rfl, hw4⟩
        have hown4 := hown3.below hw4
        have hb4 := hb3.trans (hw4.mono hb3.size)
        have hB4 := hb4.size
        clear hown3 hb3 hw4 hB3 hwb
        cases hbb with
        | false =>
          have hnone : Hid (parsOf keep ls = none) := HPB.out (HPN.out (by simp))
          go_wp2
          go_ret2
          first | exact ⟨.slice none 0 0, false, rfl, Or.inr ⟨hnone.out, rfl, rfl⟩, hb4⟩ | exact ⟨.slice none 0 0, Or.inl ⟨rfl, Or.inr ⟨hnone.out, rfl, rfl⟩, hb4⟩⟩
        | true =>
          have hsn2 : Hid (parsOf keep (ls.take (k + 1)) = some (ps ++ [⟨na, nb, cc⟩])) := HSN.out _ (HPS.out (by simp) (by simp))
          have hnew : ∀ (j : Nat) (u : Value), (parCells ⟨na, nb, cc⟩)[j]? = some u → (w4.alloc (.cells #[.string ⟨na.toArray⟩, .string ⟨nb.toArray⟩, .bool cc] 42)).cell? ((⟨w4.heap.size, 0, none⟩ : Addr).add j) = some u := by
            intro j u hj
            have e : (⟨w4.heap.size, 0, none⟩ : Addr).add j = ⟨w4.heap.size, j, none⟩ := by unfold Addr.add; split <;> simp_all
            rw [e]
            unfold World.cell?
            rw [heap_alloc_new]
            simpa [parCells] using hj
          have HNW : Hid _ := hnew; clear hnew HSN HPS HPN HPB
          go_wp2_with (at_builtin; refine wp_appP _ rfl (.tmp 43) (.tmp 48) 22 rfl w.heap.size i0 _ Tryd.underlying22 hi hz0 hz1 hz2 rfl _ ps rfl (hown4.alloc _) ⟨w4.heap.size, 0, none⟩ 1 ⟨na, nb, cc⟩ rfl (by exact HNW.out) (by omega) w (hb4.alloc hB4 _) (by simp; omega) ?_; intro v5 w5 hown5 hb5 hB5)
          go_wp2
          go_roundw
          case rel => exact ⟨k + 1, ps ++ [⟨na, nb, cc⟩], by omega, by go_num, hsn2, by simp; omega, hown5, hb5, hB5⟩
          case measure => simp [intOf]; omega
    · have hend : Hid (parsOf keep ls = some ps) := show _ = _ by
        have h := hps.out
        have e := HN.out
        rw [List.take_of_length_le (by omega)] at h; exact h
      clear hps
      go_wp2
      go_ret2
      first | exact ⟨_, _, rfl, Or.inl ⟨ps, hend.out, rfl, hown⟩, hb⟩ | exact ⟨_, Or.inr ⟨rfl, Or.inl ⟨ps, hend.out, rfl, hown⟩, hb⟩⟩

theorem ret_user {p : List UInt8 × List UInt8 × Int} {x y : List UInt8} {b : Int} (h : p = (x, y, b)) : Ending.returned (.tuple #[.string ⟨x.toArray⟩, .string ⟨y.toArray⟩, .int .i64 b]) = .returned (.tuple #[.string ⟨p.1.toArray⟩, .string ⟨p.2.1.toArray⟩, .int .i64 p.2.2]) := by rw [h]
theorem usersK_arr : (⟨#[38, 61, 43, 36, 44, 59, 63, 47]⟩ : ByteArray) = ⟨usersK.toArray⟩ := rfl

set_option maxHeartbeats 1000000 in
theorem cutUser_any (s : List UInt8) (w : World) (hs : s.length ≤ 1048576) :
    Calls Tryd.prog 54 #[.string ⟨s.toArray⟩] w fun e w' => e = .returned (.tuple #[.string ⟨(userV s).1.toArray⟩, .string ⟨(userV s).2.1.toArray⟩, .int .i64 (userV s).2.2]) ∧ Below w.heap.size w w' := by
  have hcl := cutL_len 64 s
  have hv : userV s = userV s := rfl
  conv at hv => rhs; unfold userV
  go_enter Tryd.func54, Tryd.ntmps54
  go_wp2_with fail
  refine (strCut_list s 64 _ (by omega)).mono ?_
  rintro e w0 ⟨rfl, q, rfl⟩
  have hw0 := below_drewN w q
  generalize w.drewN q = w0 at hw0 ⊢
  have hl1 : (cutL 64 s).1.length ≤ 1048576 := by omega
  clear hcl
  generalize cutL 64 s = c at hv hl1 ⊢
  obtain ⟨ca, cb, cc⟩ := c
  simp only at hv hl1 ⊢
  cases cc with
  | false =>
    have HV : Hid (userV s = ([], s, 0)) := show _ = _ by rw [hv]; rfl
    clear hv
    go_wp2
    go_ret3
    exact ⟨ret_user (x := []) HV.out, hw0⟩
  | true =>
    rw [if_pos rfl] at hv
    have hm := meaning_list ca usersK w0 hl1 (by decide)
    go_wp2_with fail
    refine hm.mono ?_
    rintro e w1 ⟨rfl, hw1⟩
    have hb := hw0.trans (hw1.mono hw0.size)
    clear hm hw1
    generalize writtenV usersK ca = t at hv ⊢
    obtain ⟨t1, tb⟩ := t
    simp only at hv ⊢
    cases tb with
    | false =>
      have HV : Hid (userV s = ([], [], 31)) := show _ = _ by rw [hv]; simp
      clear hv
      go_wp2
      go_ret3
      exact ⟨ret_user (x := []) (y := []) HV.out, hb⟩
    | true =>
      have z := size_list t1
      by_cases h0 : t1 = []
      · subst h0
        have HV : Hid (userV s = ([], [], 31)) := show _ = _ by rw [hv]; simp
        clear hv
        go_wp2
        go_ret3
        exact ⟨ret_user (x := []) (y := []) HV.out, hb⟩
      · have he : t1.isEmpty = false := by simpa using h0
        by_cases h64 : 64 < t1.length
        · have HV : Hid (userV s = ([], [], 31)) := show _ = _ by rw [hv, if_pos (Or.inr (Or.inr h64))]
          clear hv
          go_wp2
          go_ret3
          exact ⟨ret_user (x := []) (y := []) HV.out, hb⟩
        · have HV : Hid (userV s = (t1, cb, 0)) := show _ = _ by rw [hv, if_neg (by simp [h0]; omega)]
          clear hv
          go_wp2
          go_ret3
          exact ⟨ret_user HV.out, hb⟩

end Go.Proofs.YtnkghefcoolkoaaDoor

/-
  Contracts of package uri: written, Print.
-/
namespace Go.Proofs.YtnkghefcoolkoaaDoor
open Go.RowKit Sc
set_option linter.unusedVariables false
set_option maxRecDepth 20000

theorem esc_list (s keep : List UInt8) (w : World) (hs : s.length ≤ 1048576) (hk : keep.length ≤ 64) :
    Calls Tryd.prog 37 #[.string ⟨s.toArray⟩, .string ⟨keep.toArray⟩] w fun e w' => e = .returned (.string ⟨(escL keep s).toArray⟩) ∧ Below w.heap.size w w' :=
  escape_any ⟨s.toArray⟩ ⟨keep.toArray⟩ w (by rw [size_list]; omega) (by rw [size_list]; omega)
theorem digits_int (n : Int) (w : World) (h0 : 0 ≤ n) (h1 : n ≤ 65535) :
    Calls Tryd.prog 38 #[.int .i64 n] w fun e w' => e = .returned (.string ⟨(digL n.toNat).toArray⟩) ∧ Below w.heap.size w w' := by
  have h := digits_any n.toNat w (by omega)
  have e : ((n.toNat : Nat) : Int) = n := by omega
  rw [e] at h
  exact h
theorem escLn (keep s : List UInt8) : (escL keep s).length ≤ 3 * s.length := by
  have := esc_cells_len (kpF keep) s
  rw [Lib.byteCells_length] at this
  exact this
theorem appL (a b : List UInt8) : (⟨a.toArray⟩ : ByteArray) ++ (⟨b.toArray⟩ : ByteArray) = ⟨(a ++ b).toArray⟩ := by
  apply ByteArray.ext; simp

/-- A list's text: one text ahead of its first parameter, another ahead of each other one. -/
def wrT (f n keep : List UInt8) (ps : List Par) : List UInt8 := (ps.zipIdx).flatMap fun (p, i) => (if i = 0 then f else n) ++ pairV keep p
theorem wrT_snoc {f n keep : List UInt8} {ps : List Par} {k : Nat} (hk : k < ps.length) : wrT f n keep (ps.take (k + 1)) = wrT f n keep (ps.take k) ++ ((if k = 0 then f else n) ++ pairV keep ps[k]) := by
  unfold wrT
  rw [List.take_succ_eq_append_getElem hk, List.zipIdx_append, List.flatMap_append, List.length_take, Nat.min_eq_left (by omega)]
  simp
theorem wrT_hdr (ps : List Par) : wrT [63] [38] headersK ps = hdrT ps := rfl
theorem wrT_pars (ps : List Par) : wrT [59] [59] paramsK ps = parsT ps := by
  unfold wrT parsT
  have key : ∀ (m : Nat) (qs : List Par), ((qs.zipIdx m).flatMap fun (p, i) => (if i = 0 then ([59] : List UInt8) else [59]) ++ pairV paramsK p) = qs.flatMap fun p => [59] ++ pairV paramsK p := by
    intro m qs
    induction qs generalizing m with
    | nil => rfl
    | cons q qs ih =>
      rw [List.zipIdx_cons, List.flatMap_cons, ih (m + 1), List.flatMap_cons]
      simp
  exact key 0 ps
theorem pairVn (keep : List UInt8) (p : Par) (h : parB p = true) : (pairV keep p).length ≤ 400 := by
  have hp := parB_ok h
  have l1 := escLn keep p.name
  have l2 := escLn keep p.value
  unfold pairV
  split
  · simp; omega
  · omega
theorem wrT_len (f n keep : List UInt8) (ps : List Par) (hf : f.length ≤ 1) (hn : n.length ≤ 1) (hp : ∀ p ∈ ps, parB p = true) : (wrT f n keep ps).length ≤ 401 * ps.length := by
  have key : ∀ k, k ≤ ps.length → (wrT f n keep (ps.take k)).length ≤ 401 * k := by
    intro k
    induction k with
    | zero => intro _; simp [wrT]
    | succ k ih =>
      intro hk
      have h1 := ih (by omega)
      have h2 := pairVn keep ps[k] (hp _ (List.getElem_mem (by omega)))
      rw [wrT_snoc (by omega), List.length_append, List.length_append]
      split <;> omega
  have := key ps.length (Nat.le_refl _)
  rwa [List.take_length] at this

set_option maxHeartbeats 2000000 in
set_option maxRecDepth 100000 in
theorem wr_row (a : Addr) (cap : Nat) (ps : List Par) (f n keep : List UInt8) (w : World) (h16 : ps.length ≤ 16) (hp : ∀ p ∈ ps, parB p = true) (hf : f.length ≤ 1) (hn : n.length ≤ 1) (hkp : keep.length ≤ 64) (hc : ∀ k (hk : k < ps.length), a.block < w.heap.size ∧ ParAt w a k ps[k]) :
    Calls Tryd.prog 39 #[.slice (some a) ps.length cap, .string ⟨f.toArray⟩, .string ⟨n.toArray⟩, .string ⟨keep.toArray⟩] w fun e w' => e = .returned (.string ⟨(wrT f n keep ps).toArray⟩) ∧ Below w.heap.size w w' := by
  have HC : Hid _ := hc; clear hc
  have HP : Hid _ := hp; clear hp
  obtain ⟨m, hm⟩ : ∃ m, m = ps.length := ⟨_, rfl⟩
  rw [← hm] at h16 ⊢
  have HN : Hid _ := hm; clear hm
  go_enter Tryd.func39, Tryd.ntmps39
  go_wp2
  go_loopw [9, 10, 16] (fun x y i wr => ∃ (k : Nat) (l g : List UInt8), k ≤ m ∧ i = .int .i64 k ∧ x = .string ⟨l.toArray⟩ ∧ y = .string ⟨g.toArray⟩ ∧ l.length ≤ 401 * k ∧ g.length ≤ 1 ∧ Hid (g = if k = 0 then f else n) ∧ Hid (l = wrT f n keep (ps.take k)) ∧ Below w.heap.size w wr) (fun _ _ i _ => m - (intOf i).toNat)
  case atStart => exact ⟨0, [], f, by omega, rfl, rfl, rfl, by simp, hf, rfl, rfl, Below.refl _ _⟩
  case round =>
    obtain ⟨k, l, g, hk, rfl, rfl, rfl, hll, hgl, hg, hle, hb⟩ := hrel
    by_cases hlt : k < m
    · have hkl : k < ps.length := by have := HN.out; omega
      obtain ⟨hab, hpa⟩ := HC.out k hkl
      obtain ⟨c0, c1, c2⟩ := hpa.below hb hab
      have hpb := HP.out _ (List.getElem_mem hkl)
      have hpo := parB_ok hpb
      have hpl := pairVn keep _ hpb
      have hsn : Hid (wrT f n keep (ps.take (k + 1)) = l ++ (g ++ pairV keep ps[k])) := show _ = _ by rw [wrT_snoc hkl, hle.out, hg.out]
      generalize ps[k] = p at c0 c1 c2 hpo hpl hsn
      obtain ⟨nm, vl, hs⟩ := p
      simp only at c0 c1 c2 hpo
      have l1 := escLn keep nm
      have l2 := escLn keep vl
      have hB := hb.size
      clear hpb hpa hle hg
      have hbx : ∀ o, Below w.heap.size w (wr.alloc o) := fun o => hb.alloc hB o
      cases hs with
      | false =>
        have hpv : pairV keep ⟨nm, vl, false⟩ = escL keep nm := rfl
        rw [hpv] at hsn hpl
        have hcl : ∀ o1 o2 w5, Below (wr.alloc (.cells #[o1, o2, .bool false] 42)).heap.size (wr.alloc (.cells #[o1, o2, .bool false] 42)) w5 → w5.cell? ⟨wr.heap.size, 2, none⟩ = some (.bool false) := fun o1 o2 w5 h => by
          rw [h.cell (by simp)]; unfold World.cell?; rw [heap_alloc_new]; rfl
        go_wp2_with (go_at_call 37; refine (esc_list nm keep _ (by omega) hkp).mono ?_; rintro e w5 ⟨rfl, h5⟩; have hc5 := hcl _ _ _ h5; have hb5 := box_below hb hB h5; clear h5 hcl hbx)
        go_roundw
        case rel => exact ⟨k + 1, l ++ (g ++ escL keep nm), n, by omega, by go_num, by rw [← appL, ← appL], rfl, by simp; omega, hn, show _ = _ from (if_neg (by omega)).symm, hsn.out.symm, hb5⟩
        case measure => simp [intOf]; omega
      | true =>
        have hpv : pairV keep ⟨nm, vl, true⟩ = escL keep nm ++ [61] ++ escL keep vl := rfl
        rw [hpv] at hsn hpl
        simp only [List.length_append] at hpl
        have hcl : ∀ o1 o2 w5, Below (wr.alloc (.cells #[o1, o2, .bool true] 42)).heap.size (wr.alloc (.cells #[o1, o2, .bool true] 42)) w5 → w5.cell? ⟨wr.heap.size, 1, none⟩ = some o2 ∧ w5.cell? ⟨wr.heap.size, 2, none⟩ = some (.bool true) := fun o1 o2 w5 h => by
          constructor <;> (rw [h.cell (by simp)]; unfold World.cell?; rw [heap_alloc_new]; rfl)
        go_wp2_with fail
        refine (esc_list nm keep _ (by omega) hkp).mono ?_
        rintro e w5 ⟨rfl, h5⟩
        obtain ⟨hc5, hd5⟩ := hcl _ _ _ h5
        have hb5 := box_below hb hB h5
        clear h5 hcl hbx
        go_wp2_with fail
        refine (esc_list vl keep _ (by omega) hkp).mono ?_
        rintro e w6 ⟨rfl, h6⟩
        have hb6 := hb5.trans (h6.mono hb5.size)
        clear h6 hc5 hd5
        go_wp2
        go_roundw
        case rel => exact ⟨k + 1, l ++ (g ++ (escL keep nm ++ [61] ++ escL keep vl)), n, by omega, by go_num, by first | (simp only [← appL, ByteArray.append_assoc]; rfl) | (simp only [← appL, ByteArray.append_assoc]), rfl, by simp; omega, hn, show _ = _ from (if_neg (by omega)).symm, hsn.out.symm, hb6⟩
        case measure => simp [intOf]; omega
    · have hd : Hid (wrT f n keep ps = l) := show _ = _ by
        rw [hle.out, List.take_of_length_le (by have := HN.out; omega)]
      clear hle hg
      go_wp2
      go_ret
      exact ⟨by rw [hd.out]; rfl, hb⟩

set_option maxHeartbeats 400000 in
theorem wr_nil (a : Option Addr) (cap : Nat) (f n keep : List UInt8) (w : World) :
    Calls Tryd.prog 39 #[.slice a 0 cap, .string ⟨f.toArray⟩, .string ⟨n.toArray⟩, .string ⟨keep.toArray⟩] w fun e w' => e = .returned (.string ⟨#[]⟩) ∧ Below w.heap.size w w' := by
  go_enter Tryd.func39, Tryd.ntmps39
  go_wp2
  go_loop [9, 16] (fun x i => x = .string ⟨#[]⟩ ∧ i = .int .i64 0) (fun _ i => 0)
  case atStart => exact ⟨rfl, rfl⟩
  case round =>
    obtain ⟨rfl, rfl⟩ := hrel
    go_wp2
    go_ret
    exact ⟨rfl, Below.refl _ _⟩
theorem wr_any (v : Value) (ps : List Par) (f n keep : List UInt8) (w : World) (h16 : ps.length ≤ 16) (hp : ∀ p ∈ ps, parB p = true) (hf : f.length ≤ 1) (hn : n.length ≤ 1) (hkp : keep.length ≤ 64) (h : ParsAt w v ps) :
    Calls Tryd.prog 39 #[v, .string ⟨f.toArray⟩, .string ⟨n.toArray⟩, .string ⟨keep.toArray⟩] w fun e w' => e = .returned (.string ⟨(wrT f n keep ps).toArray⟩) ∧ Below w.heap.size w w' := by
  rcases h with ⟨rfl, rfl⟩ | ⟨a, cap, rfl, hc⟩
  · exact wr_nil none 0 f n keep w
  · exact wr_row a cap ps f n keep w h16 hp hf hn hkp hc

theorem ret_prt {p : List UInt8 × Int} {x : List UInt8} {a : Int} (h : p = (x, a)) : Ending.returned (.tuple #[.string ⟨x.toArray⟩, .int .i64 a]) = .returned (.tuple #[.string ⟨p.1.toArray⟩, .int .i64 p.2]) := by rw [h]
theorem ret_prb {p : List UInt8 × Int} {b : ByteArray} {x : List UInt8} {a : Int} (h : p = (x, a)) (hb : b = ⟨x.toArray⟩) : Ending.returned (.tuple #[.string b, .int .i64 a]) = .returned (.tuple #[.string ⟨p.1.toArray⟩, .int .i64 p.2]) := by rw [h, hb]

set_option maxHeartbeats 1000000 in
theorem print_bad (u : Uri) (p h : Value) (w : World) (hsm : SmallU 140737488355328 u) (hp : ParsAt w p u.params) (hh : ParsAt w h u.headers) (hne : ¬ checkV u = 0) :
    Calls Tryd.prog 20 #[uriV u p h] w fun e w' => e = .returned (.tuple #[.string ⟨(printV u).1.toArray⟩, .int .i64 (printV u).2]) ∧ Below w.heap.size w w' := by
  have hv : Hid (printV u = ([], checkV u)) := show _ = _ by rw [printV, if_neg hne]
  have hn : (checkV u != 0) = true := by simpa using hne
  have hn2 : (checkV u == 0) = false := by simpa using hne
  have hbw : Below w.heap.size w (w.alloc (.cells #[.string ⟨u.scheme.toArray⟩, .string ⟨u.user.toArray⟩, .string ⟨u.host.toArray⟩, .int .i64 u.port, p, h] 24)) := (Below.refl _ w).alloc (Nat.le_refl _) _
  clear hne
  unfold uriV
  go_enter Tryd.func20, Tryd.ntmps20
  go_wp2_with fail
  refine (check_any u p h _ hsm (hp.below hbw) (hh.below hbw)).mono ?_
  rintro e w2 ⟨rfl, hw2⟩
  go_wp2
  go_ret2
  exact ⟨ret_prt (x := []) hv.out, hbw.trans (hw2.mono hbw.size)⟩

theorem parK : (⟨#[91, 93, 47, 58, 38, 43, 36]⟩ : ByteArray) = ⟨paramsK.toArray⟩ := rfl
theorem hdrK : (⟨#[91, 93, 47, 63, 58, 43, 36]⟩ : ByteArray) = ⟨headersK.toArray⟩ := rfl

set_option maxHeartbeats 4000000 in
set_option maxRecDepth 100000 in
theorem print_ok (u : Uri) (p h : Value) (w : World) (hsm : SmallU 140737488355328 u) (hp : ParsAt w p u.params) (hh : ParsAt w h u.headers) (hok : checkV u = 0) :
    Calls Tryd.prog 20 #[uriV u p h] w fun e w' => e = .returned (.tuple #[.string ⟨(printV u).1.toArray⟩, .int .i64 (printV u).2]) ∧ Below w.heap.size w w' := by
  have hv : Hid (printV u = (textT u, 0)) := show _ = _ by rw [printV, if_pos hok]
  obtain ⟨k1, k2, k3, k4, k5, k6, k7, k8⟩ := check_ok hok
  have hl1 := schemeB_ok k1
  have hl3 := hostB_ok k3
  have hpl := listB_ok k6
  have hhl := listB_ok k7
  have hbox := box_new w u p h
  have hbw : Below w.heap.size w (w.alloc (.cells #[.string ⟨u.scheme.toArray⟩, .string ⟨u.user.toArray⟩, .string ⟨u.host.toArray⟩, .int .i64 u.port, p, h] 24)) := (Below.refl _ w).alloc (Nat.le_refl _) _
  have hws : w.heap.size < (w.alloc (.cells #[.string ⟨u.scheme.toArray⟩, .string ⟨u.user.toArray⟩, .string ⟨u.host.toArray⟩, .int .i64 u.port, p, h] 24)).heap.size := by simp
  have el := escLn usersK u.user
  have dl := digL_len19 (n := u.port.toNat) (by omega)
  have pl := wrT_len [59] [59] paramsK u.params (by simp) (by simp) hpl.2
  have hl := wrT_len [63] [38] headersK u.headers (by simp) (by simp) hhl.2
  have W1 : ∀ w', Below w.heap.size w w' → Calls Tryd.prog 39 #[p, .string ⟨#[59]⟩, .string ⟨#[59]⟩, .string ⟨#[91, 93, 47, 58, 38, 43, 36]⟩] w' fun e w'' => e = .returned (.string ⟨(wrT [59] [59] paramsK u.params).toArray⟩) ∧ Below w'.heap.size w' w'' := fun w' hb =>
    wr_any p u.params [59] [59] paramsK w' hpl.1 hpl.2 (by simp) (by simp) (by decide) (hp.below hb)
  have W2 : ∀ w', Below w.heap.size w w' → Calls Tryd.prog 39 #[h, .string ⟨#[63]⟩, .string ⟨#[38]⟩, .string ⟨#[91, 93, 47, 63, 58, 43, 36]⟩] w' fun e w'' => e = .returned (.string ⟨(wrT [63] [38] headersK u.headers).toArray⟩) ∧ Below w'.heap.size w' w'' := fun w' hb =>
    wr_any h u.headers [63] [38] headersK w' hhl.1 hhl.2 (by simp) (by simp) (by decide) (hh.below hb)
  have hfin : textT u = frontT u ++ wrT [59] [59] paramsK u.params ++ wrT [63] [38] headersK u.headers := by rw [wrT_pars, wrT_hdr]; rfl
  have HFIN : Hid _ := hfin; clear hfin
  have hp16 := hpl.1
  have hh16 := hhl.1
  clear k1 k3 k6 k7 k8 hpl hhl
  generalize wrT [59] [59] paramsK u.params = T1 at pl W1 HFIN
  generalize wrT [63] [38] headersK u.headers = T2 at hl W2 HFIN
  have WW1 : Hid _ := W1; clear W1
  have WW2 : Hid _ := W2; clear W2
  unfold uriV
  go_enter Tryd.func20, Tryd.ntmps20
  go_wp2_with fail
  refine (check_any u p h _ hsm (hp.below hbw) (hh.below hbw)).mono ?_
  rintro e w2 ⟨rfl, hw2⟩
  rw [hok]
  have hb2 := hbw.trans (hw2.mono hbw.size)
  have hx2 := hbox.below hw2 hws
  have hs2 : w.heap.size < w2.heap.size := Nat.lt_of_lt_of_le hws hw2.size
  obtain ⟨g0, g1, g2, g3, g4, g5⟩ := hx2
  have hx2 : Hid (BoxU w2 w.heap.size u p h) := ⟨g0, g1, g2, g3, g4, g5⟩
  clear hbox hbw hws hw2 hok hp hh
  by_cases eu : u.user = []
  · have hue : u.user.isEmpty = true := by simp [eu]
    by_cases ep : u.port = 0
    · have hpe : (u.port != 0) = false := by simp [ep]
      have hpe2 : (u.port == 0) = true := by simp [ep]
      have hfr : Hid (frontT u = u.scheme ++ [58] ++ u.host) := show _ = _ by simp [frontT, eu, ep]
      clear eu ep
      go_wp2_with fail
      refine (WW1.out _ hb2).mono ?_
      rintro e w3 ⟨rfl, hw3⟩
      have hb3 := hb2.trans (hw3.mono hb2.size)
      have hx3 := hx2.out.below hw3 hs2
      clear g0 g1 g2 g3 g4 g5 hx2 hs2 hw3
      obtain ⟨g0, g1, g2, g3, g4, g5⟩ := hx3
      go_wp2_with fail
      refine (WW2.out _ hb3).mono ?_
      rintro e w4 ⟨rfl, hw4⟩
      have hb4 := hb3.trans (hw4.mono hb3.size)
      clear hw4
      go_wp2
      go_ret2
      exact ⟨ret_prb hv.out (by rw [HFIN.out, hfr.out]; simp only [← appL, ByteArray.append_assoc]), hb4⟩
    · have hpe : (u.port != 0) = true := by simpa using ep
      have hpe2 : (u.port == 0) = false := by simpa using ep
      have hfr : Hid (frontT u = u.scheme ++ [58] ++ u.host ++ ([58] ++ digL u.port.toNat)) := show _ = _ by simp [frontT, eu, ep]
      clear eu ep
      go_wp2_with fail
      refine (digits_int u.port _ k4 k5).mono ?_
      rintro e wd ⟨rfl, hwd⟩
      have hbd := hb2.trans (hwd.mono hb2.size)
      have hxd := hx2.out.below hwd hs2
      have hsd : w.heap.size < wd.heap.size := Nat.lt_of_lt_of_le hs2 hwd.size
      clear g0 g1 g2 g3 g4 g5 hx2 hs2 hwd
      obtain ⟨g0, g1, g2, g3, g4, g5⟩ := hxd
      have hxd : Hid (BoxU wd w.heap.size u p h) := ⟨g0, g1, g2, g3, g4, g5⟩
      go_wp2_with fail
      refine (WW1.out _ hbd).mono ?_
      rintro e w3 ⟨rfl, hw3⟩
      have hb3 := hbd.trans (hw3.mono hbd.size)
      have hx3 := hxd.out.below hw3 hsd
      clear g0 g1 g2 g3 g4 g5 hxd hsd hw3
      obtain ⟨g0, g1, g2, g3, g4, g5⟩ := hx3
      go_wp2_with fail
      refine (WW2.out _ hb3).mono ?_
      rintro e w4 ⟨rfl, hw4⟩
      have hb4 := hb3.trans (hw4.mono hb3.size)
      clear hw4
      go_wp2
      go_ret2
      exact ⟨ret_prb hv.out (by rw [HFIN.out, hfr.out]; simp only [← appL, ByteArray.append_assoc]), hb4⟩
  · have hue : u.user.isEmpty = false := by simpa using eu
    have hes := fun w' => esc_list u.user usersK w' (by omega) (by decide)
    have HES : Hid _ := hes; clear hes
    by_cases ep : u.port = 0
    · have hpe : (u.port != 0) = false := by simp [ep]
      have hpe2 : (u.port == 0) = true := by simp [ep]
      have hfr : Hid (frontT u = u.scheme ++ [58] ++ (escL usersK u.user ++ [64]) ++ u.host) := show _ = _ by simp [frontT, eu, ep]
      clear eu ep
      go_wp2_with fail
      refine (HES.out _).mono ?_
      rintro e we ⟨rfl, hwe⟩
      have hbe := hb2.trans (hwe.mono hb2.size)
      have hxe := hx2.out.below hwe hs2
      have hse : w.heap.size < we.heap.size := Nat.lt_of_lt_of_le hs2 hwe.size
      clear g0 g1 g2 g3 g4 g5 hx2 hs2 hwe
      obtain ⟨g0, g1, g2, g3, g4, g5⟩ := hxe
      have hxe : Hid (BoxU we w.heap.size u p h) := ⟨g0, g1, g2, g3, g4, g5⟩
      go_wp2_with fail
      refine (WW1.out _ hbe).mono ?_
      rintro e w3 ⟨rfl, hw3⟩
      have hb3 := hbe.trans (hw3.mono hbe.size)
      have hx3 := hxe.out.below hw3 hse
      clear g0 g1 g2 g3 g4 g5 hxe hse hw3
      obtain ⟨g0, g1, g2, g3, g4, g5⟩ := hx3
      go_wp2_with fail
      refine (WW2.out _ hb3).mono ?_
      rintro e w4 ⟨rfl, hw4⟩
      have hb4 := hb3.trans (hw4.mono hb3.size)
      clear hw4
      go_wp2
      go_ret2
      exact ⟨ret_prb hv.out (by rw [HFIN.out, hfr.out]; simp only [← appL, ByteArray.append_assoc]), hb4⟩
    · have hpe : (u.port != 0) = true := by simpa using ep
      have hpe2 : (u.port == 0) = false := by simpa using ep
      have hfr : Hid (frontT u = u.scheme ++ [58] ++ (escL usersK u.user ++ [64]) ++ u.host ++ ([58] ++ digL u.port.toNat)) := show _ = _ by simp [frontT, eu, ep]
      clear eu ep
      go_wp2_with fail
      refine (HES.out _).mono ?_
      rintro e we ⟨rfl, hwe⟩
      have hbe := hb2.trans (hwe.mono hb2.size)
      have hxe := hx2.out.below hwe hs2
      have hse : w.heap.size < we.heap.size := Nat.lt_of_lt_of_le hs2 hwe.size
      clear g0 g1 g2 g3 g4 g5 hx2 hs2 hwe
      obtain ⟨g0, g1, g2, g3, g4, g5⟩ := hxe
      have hxe : Hid (BoxU we w.heap.size u p h) := ⟨g0, g1, g2, g3, g4, g5⟩
      go_wp2_with fail
      refine (digits_int u.port _ k4 k5).mono ?_
      rintro e wd ⟨rfl, hwd⟩
      have hbd := hbe.trans (hwd.mono hbe.size)
      have hxd := hxe.out.below hwd hse
      have hsd : w.heap.size < wd.heap.size := Nat.lt_of_lt_of_le hse hwd.size
      clear g0 g1 g2 g3 g4 g5 hxe hse hwd
      obtain ⟨g0, g1, g2, g3, g4, g5⟩ := hxd
      have hxd : Hid (BoxU wd w.heap.size u p h) := ⟨g0, g1, g2, g3, g4, g5⟩
      go_wp2_with fail
      refine (WW1.out _ hbd).mono ?_
      rintro e w3 ⟨rfl, hw3⟩
      have hb3 := hbd.trans (hw3.mono hbd.size)
      have hx3 := hxd.out.below hw3 hsd
      clear g0 g1 g2 g3 g4 g5 hxd hsd hw3
      obtain ⟨g0, g1, g2, g3, g4, g5⟩ := hx3
      go_wp2_with fail
      refine (WW2.out _ hb3).mono ?_
      rintro e w4 ⟨rfl, hw4⟩
      have hb4 := hb3.trans (hw4.mono hb3.size)
      clear hw4
      go_wp2
      go_ret2
      exact ⟨ret_prb hv.out (by rw [HFIN.out, hfr.out]; simp only [← appL, ByteArray.append_assoc]), hb4⟩

theorem print_any (u : Uri) (p h : Value) (w : World) (hsm : SmallU 140737488355328 u) (hp : ParsAt w p u.params) (hh : ParsAt w h u.headers) :
    Calls Tryd.prog 20 #[uriV u p h] w fun e w' => e = .returned (.tuple #[.string ⟨(printV u).1.toArray⟩, .int .i64 (printV u).2]) ∧ Below w.heap.size w w' := by
  by_cases hok : checkV u = 0
  · exact print_ok u p h w hsm hp hh hok
  · exact print_bad u p h w hsm hp hh hok

end Go.Proofs.YtnkghefcoolkoaaDoor

/-
  Contracts of package uri: readRest, Parse.
-/
namespace Go.Proofs.YtnkghefcoolkoaaDoor
open Go.RowKit Sc
set_option linter.unusedVariables false
set_option maxRecDepth 20000

def zeroU : List Value := [.string ⟨#[]⟩, .string ⟨#[]⟩, .string ⟨#[]⟩, .int .i64 0, .slice none 0 0, .slice none 0 0]
theorem rowU_new (w : World) : RowIs (w.alloc (.cells #[.string ⟨#[]⟩, .string ⟨#[]⟩, .string ⟨#[]⟩, .int .i64 0, .slice none 0 0, .slice none 0 0] 24)) w.heap.size 24 zeroU := by
  unfold RowIs; rw [heap_alloc_new]; rfl
/-- The six cells of a URI's block. -/
structure Six (w : World) (b : Nat) (v0 v1 v2 v3 v4 v5 : Value) : Prop where
  c0 : w.cell? ⟨b, 0, none⟩ = some v0
  c1 : w.cell? ⟨b, 1, none⟩ = some v1
  c2 : w.cell? ⟨b, 2, none⟩ = some v2
  c3 : w.cell? ⟨b, 3, none⟩ = some v3
  c4 : w.cell? ⟨b, 4, none⟩ = some v4
  c5 : w.cell? ⟨b, 5, none⟩ = some v5
  f0 : w.frozen? ⟨b, 0, none⟩ = false
  f1 : w.frozen? ⟨b, 1, none⟩ = false
  f2 : w.frozen? ⟨b, 2, none⟩ = false
  f3 : w.frozen? ⟨b, 3, none⟩ = false
  f4 : w.frozen? ⟨b, 4, none⟩ = false
  f5 : w.frozen? ⟨b, 5, none⟩ = false
theorem RowIs.six {w : World} {b : Nat} {e : TypeId} {v0 v1 v2 v3 v4 v5 : Value} (h : RowIs w b e [v0, v1, v2, v3, v4, v5]) : Six w b v0 v1 v2 v3 v4 v5 :=
  ⟨h.cell 0 (by simp), h.cell 1 (by simp), h.cell 2 (by simp), h.cell 3 (by simp), h.cell 4 (by simp), h.cell 5 (by simp), h.frozen 0, h.frozen 1, h.frozen 2, h.frozen 3, h.frozen 4, h.frozen 5⟩

theorem row_store {w : World} {b : Nat} {e : TypeId} {u0 u1 u2 u3 u4 u5 : Value} (h : RowIs w b e [u0, u1, u2, u3, u4, u5]) (v0 v1 v2 v3 v4 v5 : Value) :
    RowIs ((((((w.setCell ⟨b, 0, none⟩ v0).setCell ⟨b, 1, none⟩ v1).setCell ⟨b, 2, none⟩ v2).setCell ⟨b, 3, none⟩ v3).setCell ⟨b, 4, none⟩ v4).setCell ⟨b, 5, none⟩ v5) b e [v0, v1, v2, v3, v4, v5] := by
  have := (((((h.set 0 v0).set 1 v1).set 2 v2).set 3 v3).set 4 v4).set 5 v5
  simpa using this
theorem store_below {B : Nat} {a w : World} (h : Below B a w) (b : Nat) (hb : B ≤ b) (v0 v1 v2 v3 v4 v5 : Value) :
    Below B a ((((((w.setCell ⟨b, 0, none⟩ v0).setCell ⟨b, 1, none⟩ v1).setCell ⟨b, 2, none⟩ v2).setCell ⟨b, 3, none⟩ v3).setCell ⟨b, 4, none⟩ v4).setCell ⟨b, 5, none⟩ v5) :=
  (((((h.setCell hb _).setCell hb _).setCell hb _).setCell hb _).setCell hb _).setCell hb _
theorem OwnP.mono {w : World} {B C : Nat} {v : Value} {ps : List Par} (h : OwnP w B v ps) (hc : C ≤ B) : OwnP w C v ps := by
  obtain ⟨h1, h2⟩ := h
  refine ⟨h1, ?_⟩
  rcases h2 with h2 | ⟨g, cap, cur, hv, hg, r⟩
  · exact Or.inl h2
  · exact Or.inr ⟨g, cap, cur, hv, Nat.le_trans hc hg, r⟩
theorem OwnP.store {w : World} {B : Nat} {v : Value} {ps : List Par} (h : OwnP w B v ps) {b : Nat} (hb : b < B) (v0 v1 v2 v3 v4 v5 : Value) :
    OwnP ((((((w.setCell ⟨b, 0, none⟩ v0).setCell ⟨b, 1, none⟩ v1).setCell ⟨b, 2, none⟩ v2).setCell ⟨b, 3, none⟩ v3).setCell ⟨b, 4, none⟩ v4).setCell ⟨b, 5, none⟩ v5) B v ps :=
  ownsRow_setCell_below (ownsRow_setCell_below (ownsRow_setCell_below (ownsRow_setCell_below (ownsRow_setCell_below (ownsRow_setCell_below h hb _) hb _) hb _) hb _) hb _) hb _
theorem add_at (g o k : Nat) : (⟨g, o, none⟩ : Addr).add k = ⟨g, o + k, none⟩ := by unfold Addr.add; split <;> simp_all
theorem strs_none (w : World) (ao : Option Addr) (cap : Nat) : StrsAt w (.slice ao 0 cap) [] := ⟨ao, cap, rfl, fun k hk => by simp at hk⟩
theorem strs_tail {w2 w3 : World} {g cap : Nat} {p0 : List UInt8} {ps : List (List UInt8)} (HC : ∀ j (hj : j < (p0 :: ps).length), w2.cell? ⟨g, j, none⟩ = some (.string ⟨((p0 :: ps)[j]).toArray⟩)) (hg : g < w2.heap.size) (hb : Below w2.heap.size w2 w3) :
    StrsAt w3 (.slice (some ⟨g, 1, none⟩) ps.length cap) ps := by
  refine ⟨_, _, rfl, fun k hk => ⟨_, rfl, Nat.lt_of_lt_of_le hg hb.size, ?_⟩⟩
  have h := HC (k + 1) (by simpa using hk)
  rw [add_at, hb.cell (by exact hg), Nat.add_comm 1 k, h]
  simp
theorem strs_all {w2 : World} {g cap : Nat} {p0 : List UInt8} {ps : List (List UInt8)} (HC : ∀ j (hj : j < (p0 :: ps).length), w2.cell? ⟨g, j, none⟩ = some (.string ⟨((p0 :: ps)[j]).toArray⟩)) (hg : g < w2.heap.size) :
    StrsAt w2 (.slice (some ⟨g, 0, none⟩) (ps.length + 1) cap) (p0 :: ps) := by
  refine ⟨_, _, rfl, fun k hk => ⟨_, rfl, hg, ?_⟩⟩
  rw [add_at, Nat.zero_add]; exact HC k hk
theorem fields_of (v : Value) (ls : List (List UInt8)) (keep : List UInt8) (w : World) (hk : keep.length ≤ 64) (hn : ls.length ≤ 1048577) (hl : ∀ l ∈ ls, l.length ≤ 1048576) (hv : StrsAt w v ls) :
    Calls Tryd.prog 75 #[v, .string ⟨keep.toArray⟩] w fun e w' => ∃ v' b, e = .returned (.tuple #[v', .bool b]) ∧ ((∃ ps, parsOf keep ls = some ps ∧ b = true ∧ OwnP w' w.heap.size v' ps) ∨ (parsOf keep ls = none ∧ b = false ∧ v' = .slice none 0 0)) ∧ Below w.heap.size w w' := fields_any v ls keep w hk hn hl hv
theorem rest_of {s ca cb p0 wh : List UInt8} {cc : Bool} {ps0 : List (List UInt8)} {wp we : Int} (h1 : cutL 63 s = (ca, cb, cc)) (h2 : splitL 59 ca = p0 :: ps0) (h3 : whereV p0 = (wh, wp, we)) :
    restV s = if we ≠ 0 then (noU, we) else fillV (wh, wp, we) (parsOf paramsK ps0) (headsV cc cb) := by
  unfold restV
  simp only [h1, h2, h3, List.headD_cons, List.tail_cons]
theorem strCut_of {r a b : List UInt8} {f : Bool} {c : UInt8} (h : cutL c r = (a, b, f)) (w : World) (hs : r.length ≤ 9223372036854775807) :
    Calls Tryd.prog 53 #[.string ⟨r.toArray⟩, .string ⟨#[c]⟩] w fun e w' => e = .returned (.tuple #[.string ⟨a.toArray⟩, .string ⟨b.toArray⟩, .bool f]) ∧ Below w.heap.size w w' := by
  have k := strCut_list r c w hs
  rw [h] at k
  refine k.mono ?_
  rintro e w' ⟨rfl, q, rfl⟩
  exact ⟨rfl, below_drewN w q⟩
theorem strSplit_of {l p0 : List UInt8} {ps : List (List UInt8)} {c : UInt8} (h : splitL c l = p0 :: ps) (w : World) (hs : l.length ≤ 1048576) :
    Calls Tryd.prog 65 #[.string ⟨l.toArray⟩, .string ⟨#[c]⟩] w fun e w' => ∃ g cap, e = .returned (.slice (some ⟨g, 0, none⟩) (ps.length + 1) cap) ∧ ps.length + 1 ≤ cap ∧ g < w'.heap.size ∧ (∀ j (hj : j < (p0 :: ps).length), w'.cell? ⟨g, j, none⟩ = some (.string ⟨((p0 :: ps)[j]).toArray⟩)) ∧ Below w.heap.size w w' := by
  have k := strSplit_any ⟨l.toArray⟩ c w (by rw [size_list]; exact hs)
  refine k.mono ?_
  rintro e w' ⟨v, rfl, hown, hb⟩
  have hown2 : Own w' w.heap.size 9 v (strs (p0 :: ps)) := by rw [← h]; exact hown
  obtain ⟨g, cap, rfl, hc⟩ := own_strs hown2 (by simp)
  have hcap : ps.length + 1 ≤ cap ∧ g < w'.heap.size := by
    rcases hown2.2 with ⟨e, _⟩ | ⟨g', cap', cur, e, hB, hg, h1, h2, h3, h4⟩
    · simp at e
    · simp only [Value.slice.injEq, Option.some.injEq, Addr.mk.injEq] at e
      obtain ⟨⟨rfl, _⟩, _, rfl⟩ := e
      rw [strs_length] at h1
      refine ⟨h1, ?_⟩
      apply Classical.byContradiction
      intro hge
      rw [Array.getElem?_eq_none (by omega)] at hg
      cases hg
  exact ⟨g, cap, rfl, hcap.1, hcap.2, hc, hb⟩
theorem where_of {l wh : List UInt8} {wp we : Int} (h : whereV l = (wh, wp, we)) (w : World) (hs : l.length ≤ 1048576) :
    Calls Tryd.prog 74 #[.string ⟨l.toArray⟩] w fun e w' => e = .returned (.tuple #[.string ⟨wh.toArray⟩, .int .i64 wp, .int .i64 we]) ∧ Below w.heap.size w w' := by
  have k := where_any ⟨l.toArray⟩ w (by rw [size_list]; omega)
  have k2 : Calls Tryd.prog 74 #[.string ⟨l.toArray⟩] w fun e w' => e = .returned (.tuple #[.string ⟨(whereV l).1.toArray⟩, .int .i64 (whereV l).2.1, .int .i64 (whereV l).2.2]) ∧ Below w.heap.size w w' := k
  rw [h] at k2
  exact k2

set_option maxHeartbeats 2000000 in
set_option maxRecDepth 100000 in
theorem readRest_any (s : List UInt8) (w : World) (hs : s.length ≤ 1048576) :
    Calls Tryd.prog 55 #[.string ⟨s.toArray⟩] w fun e w' => ∃ p h, e = .returned (.tuple #[uriV (restV s).1 p h, .int .i64 (restV s).2]) ∧ OwnP w' w.heap.size p (restV s).1.params ∧ OwnP w' w.heap.size h (restV s).1.headers ∧ Below w.heap.size w w' := by
  have hcl := cutL_len 63 s
  obtain ⟨ca, cb, cc, hcut⟩ : ∃ ca cb cc, cutL 63 s = (ca, cb, cc) := ⟨_, _, _, rfl⟩
  obtain ⟨p0, ps0, hp0⟩ := splitL_cons 59 ca
  obtain ⟨wh, wp, we, hwv⟩ : ∃ wh wp we, whereV p0 = (wh, wp, we) := ⟨_, _, _, rfl⟩
  have hv := rest_of hcut hp0 hwv
  rw [hcut] at hcl
  simp only at hcl
  have hmem := splitL_mem_len 59 ca
  have hcnt := splitL_len 59 ca
  rw [hp0] at hmem hcnt
  have hp0l := hmem p0 (by simp)
  have HM : Hid _ := hmem; clear hmem
  have hcnt2 : ps0.length ≤ 1048576 := by simp at hcnt; omega
  clear hcnt
  have hr0 := rowU_new w
  have hb0 : Below w.heap.size w (w.alloc (.cells #[.string ⟨#[]⟩, .string ⟨#[]⟩, .string ⟨#[]⟩, .int .i64 0, .slice none 0 0, .slice none 0 0] 24)) := (Below.refl _ w).alloc (Nat.le_refl _) _
  have hlt0 : w.heap.size < (w.alloc (.cells #[.string ⟨#[]⟩, .string ⟨#[]⟩, .string ⟨#[]⟩, .int .i64 0, .slice none 0 0, .slice none 0 0] 24)).heap.size := by simp
  have KC := fun w' => strCut_of hcut w' (by omega)
  have KS := fun w' => strSplit_of hp0 w' (by omega)
  have KW := fun w' => where_of hwv w' (by omega)
  have HKC : Hid _ := KC; clear KC
  have HKS : Hid _ := KS; clear KS
  have HKW : Hid _ := KW; clear KW
  clear hcut hp0 hwv
  have HV : Hid _ := hv; clear hv
  go_enter Tryd.func55, Tryd.ntmps55
  go_wp2_with fail
  refine (HKC.out _).mono ?_
  rintro e w1 ⟨rfl, hw1⟩
  have hr1 := hr0.below hw1 hlt0
  have hb1 := hb0.trans (hw1.mono hb0.size)
  have hlt1 := Nat.lt_of_lt_of_le hlt0 hw1.size
  clear hr0 hb0 hlt0 hw1
  go_wp2_with fail
  refine (HKS.out _).mono ?_
  rintro e w2 ⟨g, cap, rfl, hcap, hgl, hcells, hw2⟩
  have hg0 := hcells 0 (by simp)
  simp only [List.getElem_cons_zero] at hg0
  have hr2 := hr1.below hw2 hlt1
  have hb2 := hb1.trans (hw2.mono hb1.size)
  have hlt2 := Nat.lt_of_lt_of_le hlt1 hw2.size
  clear hr1 hb1 hlt1 hw2
  have HC : Hid _ := hcells; clear hcells
  go_wp2_with fail
  refine (HKW.out _).mono ?_
  rintro e w3 ⟨rfl, hw3⟩
  have hr3 := hr2.below hw3 hlt2
  have hb3 := hb2.trans (hw3.mono hb2.size)
  have hlt3 := Nat.lt_of_lt_of_le hlt2 hw3.size
  have HSA : Hid (StrsAt w3 (.slice (some ⟨g, 1, none⟩) ps0.length (cap - 1)) ps0) := strs_tail HC.out hgl hw3
  have HSB : Hid (ps0 = [] → StrsAt w3 (.slice (some ⟨g, 0, none⟩) ps0.length 0) ps0) := fun h => by subst h; exact strs_none _ _ _
  have HMT : Hid (∀ l ∈ ps0, l.length ≤ 1048576) := fun l hl => by have := HM.out l (by simp [hl]); omega
  clear hw3 hgl
  clear hr2 hb2 hlt2 HKC HKS HKW hg0
  obtain ⟨c0, c1, c2, c3, c4, c5, f0, f1, f2, f3, f4, f5⟩ := hr3.six
  by_cases hwe : we = 0
  · subst hwe
    have hvv : Hid (restV s = fillV (wh, wp, 0) (parsOf paramsK ps0) (headsV cc cb)) := show _ = _ by rw [HV.out, if_neg (by simp)]
    clear HV
    obtain ⟨q0, qs0, hq0⟩ := splitL_cons 38 cb
    have hmem := splitL_mem_len 38 cb
    have hcnt := splitL_len 38 cb
    rw [hq0] at hmem hcnt
    have HQM : Hid (∀ l ∈ q0 :: qs0, l.length ≤ 1048576) := fun l hl => by have := hmem l hl; omega
    have hqn : (q0 :: qs0).length ≤ 1048577 := by omega
    have KS := fun w' => strSplit_of hq0 w' (by omega)
    have HKS : Hid _ := KS
    have hhv : headsV true cb = parsOf headersK (q0 :: qs0) := by rw [headsV, if_pos rfl, hq0]
    have HHV : Hid _ := hhv
    clear KS hmem hcnt hq0 hhv
    go_wp2_with fail
    all_goals (
      refine (fields_of _ ps0 paramsK w3 (by decide) (by omega) HMT.out ?hstr).mono ?_
      case hstr => first | with_reducible exact HSA.out | exact HSB.out (List.eq_nil_of_length_eq_zero (by omega))
      rintro e w4 ⟨v1, b1, rfl, hres, hw4⟩
      have hr4 := hr3.below hw4 hlt3
      have hb4 := hb3.trans (hw4.mono hb3.size)
      have hlt4 := Nat.lt_of_lt_of_le hlt3 hw4.size
      clear c0 c1 c2 c3 c4 c5 f0 f1 f2 f3 f4 f5 hw4
      obtain ⟨c0, c1, c2, c3, c4, c5, f0, f1, f2, f3, f4, f5⟩ := hr4.six
      rcases hres with ⟨ps1, hp1, rfl, hown1⟩ | ⟨hp1, rfl, rfl⟩
      · obtain ⟨a1, k1, rfl⟩ := hown1.parsAt.form
        have hown1' : Hid (OwnP w4 (w.heap.size + 1) (.slice a1 ps1.length k1) ps1) := OwnP.mono hown1 (by omega)
        clear hown1
        cases cc with
        | false =>
          have hvv2 : Hid (restV s = (⟨[], [], wh, wp, ps1, []⟩, 0)) := show _ = _ by rw [hvv.out, hp1]; rfl
          clear hp1 hvv
          go_wp2
          have hr5 := row_store hr4 (.string ⟨#[]⟩) (.string ⟨#[]⟩) (.string ⟨wh.toArray⟩) (.int .i64 wp) (.slice a1 ps1.length k1) (.slice none 0 0)
          have hb5 := store_below hb4 w.heap.size (Nat.le_refl _) (.string ⟨#[]⟩) (.string ⟨#[]⟩) (.string ⟨wh.toArray⟩) (.int .i64 wp) (.slice a1 ps1.length k1) (.slice none 0 0)
          have ho5 := (OwnP.store hown1'.out (Nat.lt_succ_self _) (.string ⟨#[]⟩) (.string ⟨#[]⟩) (.string ⟨wh.toArray⟩) (.int .i64 wp) (.slice a1 ps1.length k1) (.slice none 0 0)).mono (Nat.le_succ w.heap.size)
          generalize World.setCell _ _ _ = w5 at hr5 hb5 ho5 ⊢
          obtain ⟨d0, d1, d2, d3, d4, d5, _, _, _, _, _, _⟩ := hr5.six
          try simp only [Exit.inBlock, Exit.then]
          refine bodyPost_ret (v := .tuple #[.agg #[.string ⟨#[]⟩, .string ⟨#[]⟩, .string ⟨wh.toArray⟩, .int .i64 wp, (.slice a1 ps1.length k1), .slice none 0 0], .int .i64 0]) (by simp [results, Tryd.results55, go_sem, d0, d1, d2, d3, d4, d5]; try rfl) rfl ?_
          exact ⟨(.slice a1 ps1.length k1), .slice none 0 0, by rw [hvv2.out]; rfl, by rw [hvv2.out]; exact ho5, by rw [hvv2.out]; exact OwnP.nil _ _, hb5⟩
        | true =>
          rw [HHV.out, hp1] at hvv
          go_wp2_with fail
          refine (HKS.out _).mono ?_
          rintro e w5 ⟨g2, cap2, rfl, hcap2, hgl2, hcells2, hw5⟩
          have hr5 := hr4.below hw5 hlt4
          have hb5 := hb4.trans (hw5.mono hb4.size)
          have hlt5 := Nat.lt_of_lt_of_le hlt4 hw5.size
          have ho5 : Hid _ := OwnP.below hown1'.out hw5
          have hs5 : Hid (StrsAt w5 (.slice (some ⟨g2, 0, none⟩) (qs0.length + 1) cap2) (q0 :: qs0)) := strs_all hcells2 hgl2
          clear hcells2 hw5 hgl2 hown1' HKS
          go_wp2_with fail
          have hst := fields_of _ (q0 :: qs0) headersK w5 (by decide) hqn HQM.out hs5.out
          refine hst.mono ?_
          clear hst
          rintro e w6 ⟨v2, b2, rfl, hres2, hw6⟩
          have hr6 := hr5.below hw6 hlt5
          have hb6 := hb5.trans (hw6.mono hb5.size)
          have ho6 : Hid _ := OwnP.below ho5.out hw6
          clear c0 c1 c2 c3 c4 c5 f0 f1 f2 f3 f4 f5 ho5 hs5 hw6
          obtain ⟨c0, c1, c2, c3, c4, c5, f0, f1, f2, f3, f4, f5⟩ := hr6.six
          rcases hres2 with ⟨ps2, hp2, rfl, hown2⟩ | ⟨hp2, rfl, rfl⟩
          · obtain ⟨a2, k2, rfl⟩ := hown2.parsAt.form
            have hown2' : Hid (OwnP w6 (w.heap.size + 1) (.slice a2 ps2.length k2) ps2) := OwnP.mono hown2 (by omega)
            have hvv2 : Hid (restV s = (⟨[], [], wh, wp, ps1, ps2⟩, 0)) := show _ = _ by rw [hvv.out, hp2]; rfl
            clear hp1 hvv hp2 HHV hown2
            go_wp2
            have hr7 := row_store hr6 (.string ⟨#[]⟩) (.string ⟨#[]⟩) (.string ⟨wh.toArray⟩) (.int .i64 wp) (.slice a1 ps1.length k1) (.slice a2 ps2.length k2)
            have hb7 := store_below hb6 w.heap.size (Nat.le_refl _) (.string ⟨#[]⟩) (.string ⟨#[]⟩) (.string ⟨wh.toArray⟩) (.int .i64 wp) (.slice a1 ps1.length k1) (.slice a2 ps2.length k2)
            have ho7 := (OwnP.store ho6.out (Nat.lt_succ_self _) (.string ⟨#[]⟩) (.string ⟨#[]⟩) (.string ⟨wh.toArray⟩) (.int .i64 wp) (.slice a1 ps1.length k1) (.slice a2 ps2.length k2)).mono (Nat.le_succ w.heap.size)
            have hq7 := (OwnP.store hown2'.out (Nat.lt_succ_self _) (.string ⟨#[]⟩) (.string ⟨#[]⟩) (.string ⟨wh.toArray⟩) (.int .i64 wp) (.slice a1 ps1.length k1) (.slice a2 ps2.length k2)).mono (Nat.le_succ w.heap.size)
            generalize World.setCell _ _ _ = w7 at hr7 hb7 ho7 hq7 ⊢
            obtain ⟨d0, d1, d2, d3, d4, d5, _, _, _, _, _, _⟩ := hr7.six
            try simp only [Exit.inBlock, Exit.then]
            refine bodyPost_ret (v := .tuple #[.agg #[.string ⟨#[]⟩, .string ⟨#[]⟩, .string ⟨wh.toArray⟩, .int .i64 wp, (.slice a1 ps1.length k1), (.slice a2 ps2.length k2)], .int .i64 0]) (by simp [results, Tryd.results55, go_sem, d0, d1, d2, d3, d4, d5]; try rfl) rfl ?_
            exact ⟨(.slice a1 ps1.length k1), (.slice a2 ps2.length k2), by rw [hvv2.out]; rfl, by rw [hvv2.out]; exact ho7, by rw [hvv2.out]; exact hq7, hb7⟩
          · have hvv2 : Hid (restV s = (noU, 34)) := show _ = _ by rw [hvv.out, hp2]; rfl
            clear hp1 hvv hp2 HHV
            go_wp2
            have hr7 := row_store hr6 (.string ⟨#[]⟩) (.string ⟨#[]⟩) (.string ⟨#[]⟩) (.int .i64 0) (.slice none 0 0) (.slice none 0 0)
            have hb7 := store_below hb6 w.heap.size (Nat.le_refl _) (.string ⟨#[]⟩) (.string ⟨#[]⟩) (.string ⟨#[]⟩) (.int .i64 0) (.slice none 0 0) (.slice none 0 0)
            generalize World.setCell _ _ _ = w7 at hr7 hb7 ⊢
            obtain ⟨d0, d1, d2, d3, d4, d5, _, _, _, _, _, _⟩ := hr7.six
            try simp only [Exit.inBlock, Exit.then]
            refine bodyPost_ret (v := .tuple #[.agg #[.string ⟨#[]⟩, .string ⟨#[]⟩, .string ⟨#[]⟩, .int .i64 0, .slice none 0 0, .slice none 0 0], .int .i64 34]) (by simp [results, Tryd.results55, go_sem, d0, d1, d2, d3, d4, d5]; try rfl) rfl ?_
            exact ⟨.slice none 0 0, .slice none 0 0, by rw [hvv2.out]; rfl, by rw [hvv2.out]; exact OwnP.nil _ _, by rw [hvv2.out]; exact OwnP.nil _ _, hb7⟩
      · have hvv2 : Hid (restV s = (noU, 34)) := show _ = _ by rw [hvv.out, hp1]; rfl
        clear hp1 hvv
        go_wp2
        have hr5 := row_store hr4 (.string ⟨#[]⟩) (.string ⟨#[]⟩) (.string ⟨#[]⟩) (.int .i64 0) (.slice none 0 0) (.slice none 0 0)
        have hb5 := store_below hb4 w.heap.size (Nat.le_refl _) (.string ⟨#[]⟩) (.string ⟨#[]⟩) (.string ⟨#[]⟩) (.int .i64 0) (.slice none 0 0) (.slice none 0 0)
        generalize World.setCell _ _ _ = w5 at hr5 hb5 ⊢
        obtain ⟨d0, d1, d2, d3, d4, d5, _, _, _, _, _, _⟩ := hr5.six
        try simp only [Exit.inBlock, Exit.then]
        refine bodyPost_ret (v := .tuple #[.agg #[.string ⟨#[]⟩, .string ⟨#[]⟩, .string ⟨#[]⟩, .int .i64 0, .slice none 0 0, .slice none 0 0], .int .i64 34]) (by simp [results, Tryd.results55, go_sem, d0, d1, d2, d3, d4, d5]; try rfl) rfl ?_
        exact ⟨.slice none 0 0, .slice none 0 0, by rw [hvv2.out]; rfl, by rw [hvv2.out]; exact OwnP.nil _ _, by rw [hvv2.out]; exact OwnP.nil _ _, hb5⟩)
  · have hwe1 : (we != 0) = true := by simpa using hwe
    have hwe2 : (we == 0) = false := by simpa using hwe
    have hvv : Hid (restV s = (noU, we)) := show _ = _ by rw [HV.out, if_pos hwe]
    clear HV
    go_wp2
    have hr4 := row_store hr3 (.string ⟨#[]⟩) (.string ⟨#[]⟩) (.string ⟨#[]⟩) (.int .i64 0) (.slice none 0 0) (.slice none 0 0)
    have hb4 := store_below hb3 w.heap.size (Nat.le_refl _) (.string ⟨#[]⟩) (.string ⟨#[]⟩) (.string ⟨#[]⟩) (.int .i64 0) (.slice none 0 0) (.slice none 0 0)
    generalize World.setCell _ _ _ = w4 at hr4 hb4 ⊢
    obtain ⟨d0, d1, d2, d3, d4, d5, _, _, _, _, _, _⟩ := hr4.six
    try simp only [Exit.inBlock, Exit.then]
    refine bodyPost_ret (v := .tuple #[.agg #[.string ⟨#[]⟩, .string ⟨#[]⟩, .string ⟨#[]⟩, .int .i64 0, .slice none 0 0, .slice none 0 0], .int .i64 we]) (by simp [results, Tryd.results55, go_sem, d0, d1, d2, d3, d4, d5]; try rfl) rfl ?_
    exact ⟨.slice none 0 0, .slice none 0 0, by rw [hvv.out]; rfl, by rw [hvv.out]; exact OwnP.nil _ _, by rw [hvv.out]; exact OwnP.nil _ _, hb4⟩

end Go.Proofs.YtnkghefcoolkoaaDoor

/-
  The contract of package uri's Parse.
-/
namespace Go.Proofs.YtnkghefcoolkoaaDoor
open Go.RowKit Sc
set_option linter.unusedVariables false
set_option maxRecDepth 20000

theorem une_len : ∀ (n : Nat) (l r : List UInt8), l.length ≤ n → une l = some r → r.length ≤ l.length
  | 0, [], r, _, h => by simp [une] at h; subst h; simp
  | 0, _ :: _, r, hn, h => by simp at hn
  | n + 1, [], r, _, h => by simp [une] at h; subst h; simp
  | n + 1, b :: l, r, hn, h => by
    by_cases h37 : (b.toNat : Int) = 37
    · rcases l with _ | ⟨x, _ | ⟨y, l⟩⟩
      · rw [une_short h37 (by simp)] at h; cases h
      · rw [une_short h37 (by simp)] at h; cases h
      · cases hx : isB x.toNat 4 && isB y.toNat 4
        · rw [une_bad h37 hx] at h; cases h
        · rw [Bool.and_eq_true] at hx
          rw [une_hex h37 hx.1 hx.2] at h
          cases hu : une l with
          | none => rw [hu] at h; cases h
          | some r' =>
            rw [hu] at h
            simp at h
            subst h
            have := une_len n l r' (by simp at hn; omega) hu
            simp; omega
    · rw [une_plain h37] at h
      cases hu : une l with
      | none => rw [hu] at h; cases h
      | some r' =>
        rw [hu] at h
        simp at h
        subst h
        have := une_len n l r' (by simp at hn; omega) hu
        simp; omega
theorem written_len (keep l : List UInt8) : (writtenV keep l).1.length ≤ l.length := by
  unfold writtenV
  split
  · unfold unescV
    cases hu : une l with
    | none => simp
    | some r => exact une_len l.length l r (Nat.le_refl _) hu
  · simp
theorem parOf_len {keep l : List UInt8} {p : Par} (h : parOf keep l = some p) : p.name.length ≤ l.length ∧ p.value.length ≤ l.length := by
  unfold parOf at h
  split at h
  · simp at h
    subst h
    have c := cutL_len 61 l
    have a := written_len keep (cutL 61 l).1
    have b := written_len keep (cutL 61 l).2.1
    exact ⟨by simp only; omega, by simp only; omega⟩
  · cases h
theorem parsOf_small {keep : List UInt8} {N : Nat} : ∀ (ls : List (List UInt8)) (ps : List Par), parsOf keep ls = some ps → (∀ l ∈ ls, l.length ≤ N) → ∀ p ∈ ps, p.name.length ≤ N ∧ p.value.length ≤ N
  | [], ps, h, _, p, hp => by simp [parsOf] at h; subst h; simp at hp
  | l :: ls, ps, h, hl, p, hp => by
    rw [parsOf] at h
    cases h1 : parOf keep l with
    | none => rw [h1] at h; simp at h
    | some q =>
      cases h2 : parsOf keep ls with
      | none => rw [h1, h2] at h; simp at h
      | some qs =>
        rw [h1, h2] at h
        simp at h
        subst h
        rcases List.mem_cons.1 hp with rfl | hp
        · have := parOf_len h1
          have := hl l (by simp)
          omega
        · exact parsOf_small ls qs h2 (fun x hx => hl x (by simp [hx])) p hp
theorem smallP_of {keep : List UInt8} {ls : List (List UInt8)} {ps : List Par} (h : parsOf keep ls = some ps) (hn : ls.length ≤ 1048577) (hl : ∀ l ∈ ls, l.length ≤ 1048576) : SmallP 140737488355328 ps := by
  refine ⟨by rw [parsOf_len h]; omega, fun p hp => ?_⟩
  have := parsOf_small ls ps h hl p hp
  omega
theorem smallP_nil : SmallP 140737488355328 [] := ⟨by simp, fun p hp => by simp at hp⟩
theorem where_len (l : List UInt8) : (whereV l).1.length ≤ l.length := by
  unfold whereV portV
  have : (lowL (l.take (whereGo false l))).length ≤ l.length := by rw [lowL_len]; exact List.length_take_le' _ _
  split
  · split
    · exact this
    · split
      · simp
      · exact this
  · simp
theorem rest_small {s : List UInt8} (hs : s.length ≤ 1048576) : (restV s).1.host.length ≤ 1048576 ∧ SmallP 140737488355328 (restV s).1.params ∧ SmallP 140737488355328 (restV s).1.headers := by
  have hc := cutL_len 63 s
  obtain ⟨ca, cb, cc, hcut⟩ : ∃ ca cb cc, cutL 63 s = (ca, cb, cc) := ⟨_, _, _, rfl⟩
  obtain ⟨p0, ps0, hp0⟩ := splitL_cons 59 ca
  obtain ⟨wh, wp, we, hwv⟩ : ∃ wh wp we, whereV p0 = (wh, wp, we) := ⟨_, _, _, rfl⟩
  rw [hcut] at hc
  simp only at hc
  have hm := splitL_mem_len 59 ca
  have hn := splitL_len 59 ca
  have hwl := where_len p0
  rw [hwv] at hwl
  rw [hp0] at hm hn
  have hp0l := hm p0 (by simp)
  have hnone : noU.host.length ≤ 1048576 ∧ SmallP 140737488355328 noU.params ∧ SmallP 140737488355328 noU.headers := ⟨by simp [noU], smallP_nil, smallP_nil⟩
  rw [rest_of hcut hp0 hwv]
  split
  · exact hnone
  · cases h1 : parsOf paramsK ps0 with
    | none => exact hnone
    | some ps =>
      have s1 := smallP_of h1 (by simp at hn; omega) (fun l hl => by have := hm l (by simp [hl]); omega)
      cases h2 : headsV cc cb with
      | none => exact hnone
      | some qs =>
        refine ⟨by show wh.length ≤ _; simp only at hwl; omega, s1, ?_⟩
        show SmallP _ qs
        unfold headsV at h2
        split at h2
        · have hm2 := splitL_mem_len 38 cb
          have hn2 := splitL_len 38 cb
          exact smallP_of h2 (by omega) (fun l hl => by have := hm2 l hl; omega)
        · simp at h2; subst h2; exact smallP_nil
theorem user_small (s : List UInt8) : (userV s).1.length ≤ 64 := by
  unfold userV
  split
  · split
    · simp
    · rename_i h
      simp only [not_or] at h
      have := h.2.2
      simp only at this ⊢
      omega
  · simp
theorem user_rest (s : List UInt8) : (userV s).2.1.length ≤ s.length := by
  have hc := cutL_len 64 s
  unfold userV
  split
  · split
    · simp
    · exact hc.2
  · simp
theorem parseV_of {s ca cb us rs : List UInt8} {cc : Bool} {ue : Int} (h1 : cutL 58 s = (ca, cb, cc)) (h2 : userV cb = (us, rs, ue)) :
    parseV s = if cc = false ∨ schemeB (lowL ca) = false then (noU, 30) else if ue ≠ 0 then (noU, ue) else bothV (lowL ca) us (restV rs) := by
  unfold parseV
  simp only [h1, h2]
theorem cutUser_of {s us rs : List UInt8} {ue : Int} (h : userV s = (us, rs, ue)) (w : World) (hs : s.length ≤ 1048576) :
    Calls Tryd.prog 54 #[.string ⟨s.toArray⟩] w fun e w' => e = .returned (.tuple #[.string ⟨us.toArray⟩, .string ⟨rs.toArray⟩, .int .i64 ue]) ∧ Below w.heap.size w w' := by
  have k := cutUser_any s w hs
  rw [h] at k
  exact k

theorem RowIs.alloc {w : World} {g : Nat} {e : TypeId} {l : List Value} (h : RowIs w g e l) (o : Obj) : RowIs (w.alloc o) g e l :=
  h.below ((Below.refl _ w).alloc (Nat.le_refl _) o) (Array.getElem?_eq_some_iff.1 h).1
theorem readRest_of {rs : List UInt8} {u : Uri} {re : Int} (h : restV rs = (u, re)) (w : World) (hs : rs.length ≤ 1048576) :
    Calls Tryd.prog 55 #[.string ⟨rs.toArray⟩] w fun e w' => ∃ p h, e = .returned (.tuple #[uriV u p h, .int .i64 re]) ∧ OwnP w' w.heap.size p u.params ∧ OwnP w' w.heap.size h u.headers ∧ Below w.heap.size w w' := by
  have k := readRest_any rs w hs
  rw [h] at k
  exact k

set_option maxHeartbeats 2000000 in
set_option maxRecDepth 100000 in
theorem parse_any (s : List UInt8) (w : World) (hs : s.length ≤ 1048576) :
    Calls Tryd.prog 31 #[.string ⟨s.toArray⟩] w fun e w' => ∃ p h, e = .returned (.tuple #[uriV (parseV s).1 p h, .int .i64 (parseV s).2]) ∧ OwnP w' w.heap.size p (parseV s).1.params ∧ OwnP w' w.heap.size h (parseV s).1.headers ∧ Below w.heap.size w w' := by
  have hcl := cutL_len 58 s
  obtain ⟨ca, cb, cc, hcut⟩ : ∃ ca cb cc, cutL 58 s = (ca, cb, cc) := ⟨_, _, _, rfl⟩
  obtain ⟨us, rs, ue, hus⟩ : ∃ us rs ue, userV cb = (us, rs, ue) := ⟨_, _, _, rfl⟩
  have hv := parseV_of hcut hus
  rw [hcut] at hcl
  simp only at hcl
  have hul := user_small cb
  have hrl := user_rest cb
  rw [hus] at hul hrl
  simp only at hul hrl
  have hr0 := rowU_new w
  have hb0 : Below w.heap.size w (w.alloc (.cells #[.string ⟨#[]⟩, .string ⟨#[]⟩, .string ⟨#[]⟩, .int .i64 0, .slice none 0 0, .slice none 0 0] 24)) := (Below.refl _ w).alloc (Nat.le_refl _) _
  have hlt0 : w.heap.size < (w.alloc (.cells #[.string ⟨#[]⟩, .string ⟨#[]⟩, .string ⟨#[]⟩, .int .i64 0, .slice none 0 0, .slice none 0 0] 24)).heap.size := by simp
  have HKC : Hid _ := fun w' => strCut_of hcut w' (by omega)
  have HKU : Hid _ := fun w' => cutUser_of hus w' (by omega)
  clear hcut hus
  have HV : Hid _ := hv; clear hv
  have hll : (lowL ca).length ≤ 1048576 := by rw [lowL_len]; omega
  go_enter Tryd.func31, Tryd.ntmps31
  go_wp2_with fail
  refine (HKC.out _).mono ?_
  rintro e w1 ⟨rfl, hw1⟩
  have hr1 := hr0.below hw1 hlt0
  have hb1 := hb0.trans (hw1.mono hb0.size)
  have hlt1 := Nat.lt_of_lt_of_le hlt0 hw1.size
  clear hr0 hb0 hlt0 hw1 HKC
  go_wp2_with fail
  refine (lower_list ca _ (by omega)).mono ?_
  rintro e w2 ⟨rfl, hw2⟩
  have hr2 := hr1.below hw2 hlt1
  have hb2 := hb1.trans (hw2.mono hb1.size)
  have hlt2 := Nat.lt_of_lt_of_le hlt1 hw2.size
  clear hr1 hb1 hlt1 hw2
  obtain ⟨c0, c1, c2, c3, c4, c5, f0, f1, f2, f3, f4, f5⟩ := hr2.six
  cases cc with
  | false =>
    have hvv : Hid (parseV s = (noU, 30)) := show _ = _ by rw [HV.out, if_pos (Or.inl rfl)]
    clear HV HKU
    go_wp2
    have hr7 := row_store hr2 (.string ⟨#[]⟩) (.string ⟨#[]⟩) (.string ⟨#[]⟩) (.int .i64 0) (.slice none 0 0) (.slice none 0 0)
    have hb7 := store_below hb2 w.heap.size (Nat.le_refl _) (.string ⟨#[]⟩) (.string ⟨#[]⟩) (.string ⟨#[]⟩) (.int .i64 0) (.slice none 0 0) (.slice none 0 0)
    generalize World.setCell _ _ _ = w7 at hr7 hb7 ⊢
    obtain ⟨d0, d1, d2, d3, d4, d5, _, _, _, _, _, _⟩ := hr7.six
    try simp only [Exit.inBlock, Exit.then]
    refine bodyPost_ret (v := .tuple #[.agg #[.string ⟨#[]⟩, .string ⟨#[]⟩, .string ⟨#[]⟩, .int .i64 0, .slice none 0 0, .slice none 0 0], .int .i64 30]) (by simp [results, Tryd.results31, go_sem, d0, d1, d2, d3, d4, d5]; try rfl) rfl ?_
    exact ⟨.slice none 0 0, .slice none 0 0, by rw [hvv.out]; rfl, by rw [hvv.out]; exact OwnP.nil _ _, by rw [hvv.out]; exact OwnP.nil _ _, hb7⟩
  | true =>
    cases hsc : schemeB (lowL ca) with
    | false =>
      have hvv : Hid (parseV s = (noU, 30)) := show _ = _ by rw [HV.out, if_pos (Or.inr hsc)]
      clear HV HKU
      go_wp2_with (go_at_call 33; refine (scheme_list _ _).mono ?_; rintro e w' ⟨rfl, rfl⟩; rw [hsc])
      have hr7 := row_store hr2 (.string ⟨#[]⟩) (.string ⟨#[]⟩) (.string ⟨#[]⟩) (.int .i64 0) (.slice none 0 0) (.slice none 0 0)
      have hb7 := store_below hb2 w.heap.size (Nat.le_refl _) (.string ⟨#[]⟩) (.string ⟨#[]⟩) (.string ⟨#[]⟩) (.int .i64 0) (.slice none 0 0) (.slice none 0 0)
      generalize World.setCell _ _ _ = w7 at hr7 hb7 ⊢
      obtain ⟨d0, d1, d2, d3, d4, d5, _, _, _, _, _, _⟩ := hr7.six
      try simp only [Exit.inBlock, Exit.then]
      refine bodyPost_ret (v := .tuple #[.agg #[.string ⟨#[]⟩, .string ⟨#[]⟩, .string ⟨#[]⟩, .int .i64 0, .slice none 0 0, .slice none 0 0], .int .i64 30]) (by simp [results, Tryd.results31, go_sem, d0, d1, d2, d3, d4, d5]; try rfl) rfl ?_
      exact ⟨.slice none 0 0, .slice none 0 0, by rw [hvv.out]; rfl, by rw [hvv.out]; exact OwnP.nil _ _, by rw [hvv.out]; exact OwnP.nil _ _, hb7⟩
    | true =>
      rw [if_neg (by simp [hsc])] at HV
      go_wp2_with (first
        | (go_at_call 33; refine (scheme_list _ _).mono ?_; rintro e w' ⟨rfl, rfl⟩; rw [hsc])
        | (go_at_call 54; fail))
      refine (HKU.out _).mono ?_
      rintro e w3 ⟨rfl, hw3⟩
      have hr3 := hr2.below hw3 hlt2
      have hb3 := hb2.trans (hw3.mono hb2.size)
      have hlt3 := Nat.lt_of_lt_of_le hlt2 hw3.size
      clear hr2 hb2 hlt2 hw3 HKU c0 c1 c2 c3 c4 c5 f0 f1 f2 f3 f4 f5
      obtain ⟨c0, c1, c2, c3, c4, c5, f0, f1, f2, f3, f4, f5⟩ := hr3.six
      by_cases hue : ue = 0
      · subst hue
        rw [if_neg (by simp)] at HV
        have hrs : rs.length ≤ 1048576 := by omega
        obtain ⟨sm1, sm2, sm3⟩ := rest_small hrs
        obtain ⟨u, re, hre⟩ : ∃ u re, restV rs = (u, re) := ⟨_, _, rfl⟩
        rw [hre] at HV sm1 sm2 sm3
        simp only at sm1 sm2 sm3
        obtain ⟨u0, u1, u2, u3, u4, u5⟩ := u
        simp only at sm1 sm2 sm3
        have HKR : Hid _ := fun w' => readRest_of hre w' hrs
        clear hre
        go_wp2_with fail
        refine (HKR.out _).mono ?_
        rintro e w4 ⟨p, h, rfl, hop, hoh, hw4⟩
        obtain ⟨a1, k1, rfl⟩ := hop.parsAt.form
        obtain ⟨a2, k2, rfl⟩ := hoh.parsAt.form
        unfold uriV
        simp only
        have hr4 := hr3.below hw4 hlt3
        have hb4 := hb3.trans (hw4.mono hb3.size)
        have hlt4 := Nat.lt_of_lt_of_le hlt3 hw4.size
        have ho1 : Hid (OwnP w4 (w.heap.size + 1) (.slice a1 u4.length k1) u4) := OwnP.mono hop (by omega)
        have ho2 : Hid (OwnP w4 (w.heap.size + 1) (.slice a2 u5.length k2) u5) := OwnP.mono hoh (by omega)
        clear hr3 hb3 hlt3 hw4 HKR c0 c1 c2 c3 c4 c5 f0 f1 f2 f3 f4 f5 hop hoh
        obtain ⟨c0, c1, c2, c3, c4, c5, f0, f1, f2, f3, f4, f5⟩ := hr4.six
        by_cases hre : re = 0
        · subst hre
          obtain ⟨u', hu'⟩ : ∃ u' : Uri, u' = ⟨lowL ca, us, u2, u3, u4, u5⟩ := ⟨_, rfl⟩
          have HV2 : Hid (parseV s = endV u') := show _ = _ by rw [HV.out, bothV, if_neg (by simp), hu']
          have hsm : SmallU 140737488355328 u' := by rw [hu']; exact ⟨by show (lowL ca).length ≤ _; omega, by show us.length ≤ _; omega, by show u2.length ≤ _; omega, sm2, sm3⟩
          have e4 : u'.params = u4 := by rw [hu']
          have e5 : u'.headers = u5 := by rw [hu']
          have hbox := box_new w4 u' (.slice a1 u4.length k1) (.slice a2 u5.length k2)
          have hp4 := ho1.out.parsAt
          have hh4 := ho2.out.parsAt
          rw [← e4] at hp4
          rw [← e5] at hh4
          have HCK : Hid _ := fun w' hb => check_any u' (.slice a1 u'.params.length k1) (.slice a2 u'.headers.length k2) w' hsm (hp4.below hb) (hh4.below hb)
          rw [e4, e5] at HCK
          unfold uriV at HCK
          rw [hu'] at hbox
          have hv' : Hid (∀ c, checkV u' = c → parseV s = if c ≠ 0 then (noU, c) else (⟨lowL ca, us, u2, u3, u4, u5⟩, 0)) := fun c hc => by rw [HV2.out, endV, hc, hu']
          obtain ⟨ck, hck⟩ : ∃ ck, checkV u' = ck := ⟨_, rfl⟩
          have hvc := hv'.out ck hck
          rw [hck, hu'] at HCK
          simp only at HCK
          have HVC : Hid _ := hvc
          clear hvc hv' HV HV2 hp4 hh4 e4 e5 hsm hck hu' u'
          go_wp2_with fail
          have hbA : Below w4.heap.size w4 (w4.alloc (.cells #[.string ⟨(lowL ca).toArray⟩, .string ⟨us.toArray⟩, .string ⟨u2.toArray⟩, .int .i64 u3, .slice a1 u4.length k1, .slice a2 u5.length k2] 24)) := (Below.refl _ w4).alloc (Nat.le_refl _) _
          refine (HCK.out _ hbA).mono ?_
          rintro e w5 ⟨rfl, hw5⟩
          have hbx : w4.heap.size < (w4.alloc (.cells #[.string ⟨(lowL ca).toArray⟩, .string ⟨us.toArray⟩, .string ⟨u2.toArray⟩, .int .i64 u3, .slice a1 u4.length k1, .slice a2 u5.length k2] 24)).heap.size := by simp
          obtain ⟨g0, g1, g2, g3, g4, g5⟩ := hbox.below hw5 hbx
          simp only at g0 g1 g2 g3 g4 g5
          have hb45 : Below w4.heap.size w4 w5 := hbA.trans (hw5.mono hbA.size)
          have hr5 := hr4.below hb45 hlt4
          have hb5 := hb4.trans (hb45.mono hb4.size)
          have p5 : Hid (OwnP w5 (w.heap.size + 1) (.slice a1 u4.length k1) u4) := ho1.out.below hb45
          have q5 : Hid (OwnP w5 (w.heap.size + 1) (.slice a2 u5.length k2) u5) := ho2.out.below hb45
          clear hw5 hb45 hbA hbx hbox HCK hr4 ho1 ho2 c0 c1 c2 c3 c4 c5 f0 f1 f2 f3 f4 f5
          obtain ⟨c0, c1, c2, c3, c4, c5, f0, f1, f2, f3, f4, f5⟩ := hr5.six
          by_cases hck : ck = 0
          · subst hck
            have hvv : Hid (parseV s = (⟨lowL ca, us, u2, u3, u4, u5⟩, 0)) := show _ = _ by rw [HVC.out, if_neg (by simp)]
            clear HVC
            go_wp2
            have hr7 := row_store hr5 (.string ⟨(lowL ca).toArray⟩) (.string ⟨us.toArray⟩) (.string ⟨u2.toArray⟩) (.int .i64 u3) (.slice a1 u4.length k1) (.slice a2 u5.length k2)
            have hb7 := store_below hb5 w.heap.size (Nat.le_refl _) (.string ⟨(lowL ca).toArray⟩) (.string ⟨us.toArray⟩) (.string ⟨u2.toArray⟩) (.int .i64 u3) (.slice a1 u4.length k1) (.slice a2 u5.length k2)
            have p7 := (OwnP.store p5.out (Nat.lt_succ_self _) (.string ⟨(lowL ca).toArray⟩) (.string ⟨us.toArray⟩) (.string ⟨u2.toArray⟩) (.int .i64 u3) (.slice a1 u4.length k1) (.slice a2 u5.length k2)).mono (Nat.le_succ w.heap.size)
            have q7 := (OwnP.store q5.out (Nat.lt_succ_self _) (.string ⟨(lowL ca).toArray⟩) (.string ⟨us.toArray⟩) (.string ⟨u2.toArray⟩) (.int .i64 u3) (.slice a1 u4.length k1) (.slice a2 u5.length k2)).mono (Nat.le_succ w.heap.size)
            generalize World.setCell _ _ _ = w7 at hr7 hb7 p7 q7 ⊢
            obtain ⟨d0, d1, d2, d3, d4, d5, _, _, _, _, _, _⟩ := hr7.six
            try simp only [Exit.inBlock, Exit.then]
            refine bodyPost_ret (v := .tuple #[.agg #[.string ⟨(lowL ca).toArray⟩, .string ⟨us.toArray⟩, .string ⟨u2.toArray⟩, .int .i64 u3, .slice a1 u4.length k1, .slice a2 u5.length k2], .int .i64 0]) (by simp [results, Tryd.results31, go_sem, d0, d1, d2, d3, d4, d5]; try rfl) rfl ?_
            exact ⟨_, _, by rw [hvv.out]; rfl, by rw [hvv.out]; exact p7, by rw [hvv.out]; exact q7, hb7⟩
          · have hue1 : (ck != 0) = true := by simpa using hck
            have hue2 : (ck == 0) = false := by simpa using hck
            have hvv : Hid (parseV s = (noU, ck)) := show _ = _ by rw [HVC.out, if_pos hck]
            clear HVC
            go_wp2
            have hr7 := row_store hr5 (.string ⟨#[]⟩) (.string ⟨#[]⟩) (.string ⟨#[]⟩) (.int .i64 0) (.slice none 0 0) (.slice none 0 0)
            have hb7 := store_below hb5 w.heap.size (Nat.le_refl _) (.string ⟨#[]⟩) (.string ⟨#[]⟩) (.string ⟨#[]⟩) (.int .i64 0) (.slice none 0 0) (.slice none 0 0)
            generalize World.setCell _ _ _ = w7 at hr7 hb7 ⊢
            obtain ⟨d0, d1, d2, d3, d4, d5, _, _, _, _, _, _⟩ := hr7.six
            try simp only [Exit.inBlock, Exit.then]
            refine bodyPost_ret (v := .tuple #[.agg #[.string ⟨#[]⟩, .string ⟨#[]⟩, .string ⟨#[]⟩, .int .i64 0, .slice none 0 0, .slice none 0 0], .int .i64 ck]) (by simp [results, Tryd.results31, go_sem, d0, d1, d2, d3, d4, d5]; try rfl) rfl ?_
            exact ⟨.slice none 0 0, .slice none 0 0, by rw [hvv.out]; rfl, by rw [hvv.out]; exact OwnP.nil _ _, by rw [hvv.out]; exact OwnP.nil _ _, hb7⟩
        · have hue1 : (re != 0) = true := by simpa using hre
          have hue2 : (re == 0) = false := by simpa using hre
          have hvv : Hid (parseV s = (noU, re)) := show _ = _ by rw [HV.out, bothV, if_pos hre]
          clear HV
          go_wp2
          have hr7 := (row_store hr4 (.string ⟨#[]⟩) (.string ⟨#[]⟩) (.string ⟨#[]⟩) (.int .i64 0) (.slice none 0 0) (.slice none 0 0)).alloc (.cells #[.string ⟨u0.toArray⟩, .string ⟨u1.toArray⟩, .string ⟨u2.toArray⟩, .int .i64 u3, .slice a1 u4.length k1, .slice a2 u5.length k2] 24)
          have hb6 := store_below hb4 w.heap.size (Nat.le_refl _) (.string ⟨#[]⟩) (.string ⟨#[]⟩) (.string ⟨#[]⟩) (.int .i64 0) (.slice none 0 0) (.slice none 0 0)
          have hb7 := hb6.alloc hb6.size (.cells #[.string ⟨u0.toArray⟩, .string ⟨u1.toArray⟩, .string ⟨u2.toArray⟩, .int .i64 u3, .slice a1 u4.length k1, .slice a2 u5.length k2] 24)
          clear hb6
          generalize World.alloc _ _ = w7 at hr7 hb7 ⊢
          obtain ⟨d0, d1, d2, d3, d4, d5, _, _, _, _, _, _⟩ := hr7.six
          try simp only [Exit.inBlock, Exit.then]
          refine bodyPost_ret (v := .tuple #[.agg #[.string ⟨#[]⟩, .string ⟨#[]⟩, .string ⟨#[]⟩, .int .i64 0, .slice none 0 0, .slice none 0 0], .int .i64 re]) (by simp [results, Tryd.results31, go_sem, d0, d1, d2, d3, d4, d5]; try rfl) rfl ?_
          exact ⟨.slice none 0 0, .slice none 0 0, by rw [hvv.out]; rfl, by rw [hvv.out]; exact OwnP.nil _ _, by rw [hvv.out]; exact OwnP.nil _ _, hb7⟩
      · have hue1 : (ue != 0) = true := by simpa using hue
        have hue2 : (ue == 0) = false := by simpa using hue
        have hvv : Hid (parseV s = (noU, ue)) := show _ = _ by rw [HV.out, if_pos hue]
        clear HV
        go_wp2
        have hr7 := row_store hr3 (.string ⟨#[]⟩) (.string ⟨#[]⟩) (.string ⟨#[]⟩) (.int .i64 0) (.slice none 0 0) (.slice none 0 0)
        have hb7 := store_below hb3 w.heap.size (Nat.le_refl _) (.string ⟨#[]⟩) (.string ⟨#[]⟩) (.string ⟨#[]⟩) (.int .i64 0) (.slice none 0 0) (.slice none 0 0)
        generalize World.setCell _ _ _ = w7 at hr7 hb7 ⊢
        obtain ⟨d0, d1, d2, d3, d4, d5, _, _, _, _, _, _⟩ := hr7.six
        try simp only [Exit.inBlock, Exit.then]
        refine bodyPost_ret (v := .tuple #[.agg #[.string ⟨#[]⟩, .string ⟨#[]⟩, .string ⟨#[]⟩, .int .i64 0, .slice none 0 0, .slice none 0 0], .int .i64 ue]) (by simp [results, Tryd.results31, go_sem, d0, d1, d2, d3, d4, d5]; try rfl) rfl ?_
        exact ⟨.slice none 0 0, .slice none 0 0, by rw [hvv.out]; rfl, by rw [hvv.out]; exact OwnP.nil _ _, by rw [hvv.out]; exact OwnP.nil _ _, hb7⟩

end Go.Proofs.YtnkghefcoolkoaaDoor

/-
  Contracts of package same: Who, Host; strings.TrimPrefix of sip: ahead of a text.
-/
namespace Go.Proofs.YtnkghefcoolkoaaDoor
open Go.RowKit Sc
set_option linter.unusedVariables false
set_option maxRecDepth 20000
set_option linter.unusedSimpArgs false

def sip4 : List UInt8 := [115, 105, 112, 58]
set_option maxHeartbeats 400000 in
theorem slPrefix4 (s : ByteArray) (w : World) (h4 : 4 ≤ s.size) (he : (s.extract 0 4).toList = [115, 105, 112, 58]) :
    Calls Tryd.prog 71 #[.string s, .string ⟨#[115, 105, 112, 58]⟩] w fun e w' => e = .returned (.bool true) ∧ w' = w := by
  have h0 : (ByteArray.mk #[115, 105, 112, 58]).size = 4 := rfl
  have HE := hid he
  clear he
  go_enter Tryd.func71, Tryd.ntmps71
  go_wp2
  go_ret
  refine ⟨ret_bool ?_, rfl⟩
  rw [HE.out]
  simp
set_option maxHeartbeats 400000 in
theorem slTrim4 (s : ByteArray) (w : World) (h4 : 4 ≤ s.size) (he : (s.extract 0 4).toList = [115, 105, 112, 58]) :
    Calls Tryd.prog 50 #[.string s, .string ⟨#[115, 105, 112, 58]⟩] w fun e w' => e = .returned (.string (s.extract 4 s.size)) ∧ w' = w := by
  have h0 : (ByteArray.mk #[115, 105, 112, 58]).size = 4 := rfl
  have K := hid (slPrefix4 s w h4 he)
  clear he
  go_enter Tryd.func50, Tryd.ntmps50
  go_wp2_with fail
  refine K.out.mono ?_
  rintro e w1 ⟨rfl, rfl⟩
  go_wp2
  go_ret
  exact ⟨rfl, rfl⟩
theorem size_app4 (l : List UInt8) : (ByteArray.mk ([115, 105, 112, 58] ++ l).toArray).size = l.length + 4 := by rw [size_list]; simp
set_option maxHeartbeats 400000 in
theorem trim4_of (s : ByteArray) (l : List UInt8) (w : World) (h4 : 4 ≤ s.size) (e1 : (s.extract 0 4).toList = [115, 105, 112, 58]) (e2 : s.extract 4 s.size = ⟨l.toArray⟩) :
    Calls Tryd.prog 29 #[.string s, .string ⟨#[115, 105, 112, 58]⟩] w fun e w' => e = .returned (.string ⟨l.toArray⟩) ∧ w' = w := by
  have K := hid (slTrim4 s w h4 e1)
  rw [e2] at K
  clear e1 e2
  go_enter Tryd.func29, Tryd.ntmps29
  go_wp2_with fail
  refine K.out.mono ?_
  rintro e w1 ⟨rfl, rfl⟩
  go_wp2
  go_ret
  exact ⟨rfl, rfl⟩
theorem trim4_any (l : List UInt8) (w : World) :
    Calls Tryd.prog 29 #[.string ⟨([115, 105, 112, 58] ++ l).toArray⟩, .string ⟨#[115, 105, 112, 58]⟩] w fun e w' => e = .returned (.string ⟨l.toArray⟩) ∧ w' = w := by
  have h4 : 4 ≤ (ByteArray.mk ([115, 105, 112, 58] ++ l).toArray).size := by rw [size_app4]; exact Nat.le_add_left _ _
  have e1 : ((ByteArray.mk ([115, 105, 112, 58] ++ l).toArray).extract 0 4).toList = [115, 105, 112, 58] := by
    rw [ByteArray.toList_eq, ext_list]; simp
  have e2 : (ByteArray.mk ([115, 105, 112, 58] ++ l).toArray).extract 4 (ByteArray.mk ([115, 105, 112, 58] ++ l).toArray).size = ⟨l.toArray⟩ := by
    rw [size_app4, ext_list]; simp
  exact trim4_of _ l w h4 e1 e2
theorem ret_who {r : List UInt8 × Int} {t : List UInt8} {n : Int} (h : r = (t, n)) : Ending.returned (.tuple #[.string ⟨t.toArray⟩, .int .i64 n]) = .returned (.tuple #[.string ⟨r.1.toArray⟩, .int .i64 r.2]) := by rw [h]
theorem small_name {u : Uri} (sch : List UInt8) (hs : sch.length ≤ 4) (h : SmallU 140737488355328 u) : SmallU 140737488355328 (nameU sch u) :=
  ⟨by simp only [nameU]; omega, h.2.1, h.2.2.1, ⟨by simp [nameU], by simp [nameU]⟩, ⟨by simp [nameU], by simp [nameU]⟩⟩
theorem printName {u : Uri} (hsm : SmallU 140737488355328 u) (h : checkV u = 0) (hu : u.user ≠ []) (w : World) :
    Calls Tryd.prog 20 #[.agg #[.string ⟨#[115, 105, 112]⟩, .string ⟨u.user.toArray⟩, .string ⟨u.host.toArray⟩, .int .i64 0, .slice none 0 0, .slice none 0 0]] w fun e w' => e = .returned (.tuple #[.string ⟨([115, 105, 112, 58] ++ whoT u).toArray⟩, .int .i64 0]) ∧ Below w.heap.size w w' := by
  have k := print_any (nameU sipK u) (.slice none 0 0) (.slice none 0 0) w (small_name sipK (by decide) hsm) (Or.inl ⟨rfl, rfl⟩) (Or.inl ⟨rfl, rfl⟩)
  rw [print_name h hu] at k
  exact k

set_option maxHeartbeats 1000000 in
set_option maxRecDepth 100000 in
theorem who_any (u : Uri) (p h : Value) (w : World) (hsm : SmallU 140737488355328 u) (hp : ParsAt w p u.params) (hh : ParsAt w h u.headers) :
    Calls Tryd.prog 14 #[uriV u p h] w fun e w' => e = .returned (.tuple #[.string ⟨(whoV u).1.toArray⟩, .int .i64 (whoV u).2]) ∧ Below w.heap.size w w' := by
  have hbox := box_new w u p h
  have hbw : Below w.heap.size w (w.alloc (.cells #[.string ⟨u.scheme.toArray⟩, .string ⟨u.user.toArray⟩, .string ⟨u.host.toArray⟩, .int .i64 u.port, p, h] 24)) := (Below.refl _ w).alloc (Nat.le_refl _) _
  have hws := alloc_lt w (.cells #[.string ⟨u.scheme.toArray⟩, .string ⟨u.user.toArray⟩, .string ⟨u.host.toArray⟩, .int .i64 u.port, p, h] 24)
  have K1 := hid (fun w' (hb : Below w.heap.size w w') => check_any u p h w' hsm (hp.below hb) (hh.below hb))
  have K2 := hid (@printName u hsm)
  obtain ⟨a1, c1, rfl⟩ := hp.form
  obtain ⟨a2, c2, rfl⟩ := hh.form
  have hwv : whoV u = whoV u := rfl
  conv at hwv => rhs; unfold whoV
  obtain ⟨n, hn⟩ : ∃ n, checkV u = n := ⟨_, rfl⟩
  rw [hn] at K1 K2 hwv
  clear hn hp hh hsm
  unfold uriV at K1 ⊢
  by_cases e1 : n = 0
  · subst e1
    rw [if_neg (by simp)] at hwv
    by_cases eu : u.user = []
    · have hue : u.user.isEmpty = true := by simp [eu]
      rw [if_pos eu] at hwv
      have HV := hid hwv
      clear hwv eu K2
      go_enter Tryd.func14, Tryd.ntmps14
      go_wp2_with fail
      refine (K1.out _ hbw).mono ?_
      rintro e w2 ⟨rfl, hw2⟩
      have hb2 := hbw.trans (hw2.mono hbw.size)
      obtain ⟨g0, g1, g2, g3, g4, g5⟩ := hbox.below hw2 hws
      clear hbox hbw hws hw2
      go_wp2
      go_ret2
      exact ⟨ret_who HV.out, hb2⟩
    · have hue : u.user.isEmpty = false := by simpa using eu
      rw [if_neg eu] at hwv
      have HV := hid hwv
      have K3 := hid (fun w' => K2.out rfl eu w')
      clear hwv eu K2
      go_enter Tryd.func14, Tryd.ntmps14
      go_wp2_with fail
      refine (K1.out _ hbw).mono ?_
      rintro e w2 ⟨rfl, hw2⟩
      have hb2 := hbw.trans (hw2.mono hbw.size)
      obtain ⟨g0, g1, g2, g3, g4, g5⟩ := hbox.below hw2 hws
      clear hbox hbw hws hw2
      go_wp2_with fail
      refine (K3.out _).mono ?_
      rintro e w3 ⟨rfl, hw3⟩
      have hb3 := hb2.trans (hw3.mono hb2.size)
      clear g0 g1 g2 g3 g4 g5 hw3 hb2
      have K4 := hid (trim4_any (whoT u) w3)
      generalize ([115, 105, 112, 58] ++ whoT u).toArray = sa at K4 ⊢
      go_wp2_with fail
      refine K4.out.mono ?_
      rintro e w4 ⟨rfl, rfl⟩
      go_wp2
      go_ret2
      exact ⟨ret_who HV.out, hb3⟩
  · have e1a : (n != 0) = true := by simpa using e1
    have e1b : (n == 0) = false := by simpa using e1
    rw [if_pos e1] at hwv
    have HV := hid hwv
    clear hwv K2
    go_enter Tryd.func14, Tryd.ntmps14
    go_wp2_with fail
    refine (K1.out _ hbw).mono ?_
    rintro e w2 ⟨rfl, hw2⟩
    have hb2 := hbw.trans (hw2.mono hbw.size)
    clear hbox hbw hws hw2
    go_wp2
    go_ret2
    exact ⟨ret_who HV.out, hb2⟩

end Go.Proofs.YtnkghefcoolkoaaDoor

/-
  Contracts of package same: Host.
-/
namespace Go.Proofs.YtnkghefcoolkoaaDoor
open Go.RowKit Sc
set_option linter.unusedVariables false
set_option maxRecDepth 20000
set_option linter.unusedSimpArgs false

theorem small_of_check {u : Uri} (h : checkV u = 0) : SmallU 140737488355328 u := by
  obtain ⟨k1, k2, k3, k4, k5, k6, k7, k8⟩ := check_ok h
  have e1 := schemeB_ok k1
  have e3 := hostB_ok k3
  obtain ⟨e4, e5⟩ := listB_ok k6
  obtain ⟨e6, e7⟩ := listB_ok k7
  refine ⟨by omega, by omega, by omega, ⟨by omega, fun p hp => ?_⟩, ⟨by omega, fun p hp => ?_⟩⟩
  · have := parB_ok (e5 p hp); omega
  · have := parB_ok (e7 p hp); omega
theorem host_bad {l : List UInt8} {u : Uri} {er : Int} (h : parseV ([115, 105, 112, 58] ++ l) = (u, er)) (he : er ≠ 0) : hostV l = ([], er) := by
  rw [hostV, h]; simp only; rw [if_pos he]
theorem host_yes {l t : List UInt8} {u : Uri} (h : parseV ([115, 105, 112, 58] ++ l) = (u, 0)) (hw : whoV u = (l, 0)) : hostV l = (u.host, 0) := by
  rw [hostV, h]; simp only; rw [if_neg (by simp), if_pos hw]
theorem host_no {l : List UInt8} {u : Uri} (h : parseV ([115, 105, 112, 58] ++ l) = (u, 0)) (hw : ¬ whoV u = (l, 0)) : hostV l = ([], 31) := by
  rw [hostV, h]; simp only; rw [if_neg (by simp), if_neg hw]
theorem parse4 {l : List UInt8} {u : Uri} {er : Int} (h : parseV ([115, 105, 112, 58] ++ l) = (u, er)) (w : World) (hs : l.length + 4 ≤ 1048576) :
    Calls Tryd.prog 31 #[.string (⟨#[115, 105, 112, 58]⟩ ++ ⟨l.toArray⟩)] w fun e w' => ∃ a1 k1 a2 k2, e = .returned (.tuple #[.agg #[.string ⟨u.scheme.toArray⟩, .string ⟨u.user.toArray⟩, .string ⟨u.host.toArray⟩, .int .i64 u.port, .slice a1 u.params.length k1, .slice a2 u.headers.length k2], .int .i64 er]) ∧ ParsAt w' (.slice a1 u.params.length k1) u.params ∧ ParsAt w' (.slice a2 u.headers.length k2) u.headers ∧ Below w.heap.size w w' := by
  have k := parse_any ([115, 105, 112, 58] ++ l) w (by simp; omega)
  rw [h, ← appL] at k
  refine k.mono ?_
  rintro e w' ⟨p, q, rfl, hp, hq, hb⟩
  have hp2 := hp.parsAt
  have hq2 := hq.parsAt
  obtain ⟨a1, k1, e1⟩ := hp2.form
  obtain ⟨a2, k2, e2⟩ := hq2.form
  simp only at e1 e2 hp2 hq2
  subst e1 e2
  exact ⟨a1, k1, a2, k2, rfl, hp2, hq2, hb⟩
set_option maxHeartbeats 1000000 in
set_option maxRecDepth 100000 in
theorem samehost_any (l : List UInt8) (w : World) (hs : l.length + 4 ≤ 1048576) :
    Calls Tryd.prog 16 #[.string ⟨l.toArray⟩] w fun e w' => e = .returned (.tuple #[.string ⟨(hostV l).1.toArray⟩, .int .i64 (hostV l).2]) ∧ Below w.heap.size w w' := by
  obtain ⟨u, er, hpv⟩ : ∃ u er, parseV ([115, 105, 112, 58] ++ l) = (u, er) := ⟨_, _, rfl⟩
  have K1 := hid (parse4 hpv w hs)
  by_cases her : er = 0
  · subst her
    have hcz := parse_checked hpv
    have hsm := small_of_check hcz
    obtain ⟨t, n, hwv⟩ : ∃ t n, whoV u = (t, n) := ⟨_, _, rfl⟩
    have K2 := hid (fun (w' : World) (p h : Value) => who_any u p h w' hsm)
    rw [hwv] at K2
    unfold uriV at K2
    simp only at K2
    by_cases hn : n = 0
    · subst hn
      by_cases ht : t = l
      · subst ht
        have HV := hid (host_yes (t := t) hpv hwv)
        clear hpv hwv hcz hsm
        go_enter Tryd.func16, Tryd.ntmps16
        go_wp2_with fail
        refine K1.out.mono ?_
        rintro e w1 ⟨a1, k1, a2, k2, rfl, hp, hq, hw1⟩
        have hb1 := hw1.alloc hw1.size (.cells #[.string ⟨u.scheme.toArray⟩, .string ⟨u.user.toArray⟩, .string ⟨u.host.toArray⟩, .int .i64 u.port, .slice a1 u.params.length k1, .slice a2 u.headers.length k2] 24)
        have hx := box_new w1 u (.slice a1 u.params.length k1) (.slice a2 u.headers.length k2)
        have hlx := alloc_lt w1 (.cells #[.string ⟨u.scheme.toArray⟩, .string ⟨u.user.toArray⟩, .string ⟨u.host.toArray⟩, .int .i64 u.port, .slice a1 u.params.length k1, .slice a2 u.headers.length k2] 24)
        have HX := hid hx
        have HP := hid (hp.alloc (.cells #[.string ⟨u.scheme.toArray⟩, .string ⟨u.user.toArray⟩, .string ⟨u.host.toArray⟩, .int .i64 u.port, .slice a1 u.params.length k1, .slice a2 u.headers.length k2] 24))
        have HQ := hid (hq.alloc (.cells #[.string ⟨u.scheme.toArray⟩, .string ⟨u.user.toArray⟩, .string ⟨u.host.toArray⟩, .int .i64 u.port, .slice a1 u.params.length k1, .slice a2 u.headers.length k2] 24))
        obtain ⟨g0, g1, g2, g3, g4, g5⟩ := hx
        clear hp hq hw1 K1
        go_wp2_with fail
        refine (K2.out _ _ _ HP.out HQ.out).mono ?_
        rintro e w2 ⟨rfl, hw2⟩
        have hb2 := hb1.trans (hw2.mono hb1.size)
        clear g0 g1 g2 g3 g4 g5
        obtain ⟨g0, g1, g2, g3, g4, g5⟩ := HX.out.below hw2 hlx
        clear hw2 HP HQ HX hlx
        go_wp2
        go_ret2
        exact ⟨ret_who HV.out, hb2⟩
      · have HV := hid (host_no hpv (by rw [hwv]; simp [ht]))
        have ht2 : (t == l) = false := by simpa using ht
        clear hpv hwv hcz hsm
        go_enter Tryd.func16, Tryd.ntmps16
        go_wp2_with fail
        refine K1.out.mono ?_
        rintro e w1 ⟨a1, k1, a2, k2, rfl, hp, hq, hw1⟩
        have hb1 := hw1.alloc hw1.size (.cells #[.string ⟨u.scheme.toArray⟩, .string ⟨u.user.toArray⟩, .string ⟨u.host.toArray⟩, .int .i64 u.port, .slice a1 u.params.length k1, .slice a2 u.headers.length k2] 24)
        have hx := box_new w1 u (.slice a1 u.params.length k1) (.slice a2 u.headers.length k2)
        have HP := hid (hp.alloc (.cells #[.string ⟨u.scheme.toArray⟩, .string ⟨u.user.toArray⟩, .string ⟨u.host.toArray⟩, .int .i64 u.port, .slice a1 u.params.length k1, .slice a2 u.headers.length k2] 24))
        have HQ := hid (hq.alloc (.cells #[.string ⟨u.scheme.toArray⟩, .string ⟨u.user.toArray⟩, .string ⟨u.host.toArray⟩, .int .i64 u.port, .slice a1 u.params.length k1, .slice a2 u.headers.length k2] 24))
        obtain ⟨g0, g1, g2, g3, g4, g5⟩ := hx
        clear hp hq hw1 K1
        go_wp2_with fail
        refine (K2.out _ _ _ HP.out HQ.out).mono ?_
        rintro e w2 ⟨rfl, hw2⟩
        have hb2 := hb1.trans (hw2.mono hb1.size)
        clear g0 g1 g2 g3 g4 g5 hw2 HP HQ
        go_wp2
        go_ret2
        exact ⟨ret_who HV.out, hb2⟩
    · have HV := hid (host_no hpv (by rw [hwv]; simp [hn]))
      have hn1 : (n != 0) = true := by simpa using hn
      have hn2 : (n == 0) = false := by simpa using hn
      clear hpv hwv hcz hsm
      go_enter Tryd.func16, Tryd.ntmps16
      go_wp2_with fail
      refine K1.out.mono ?_
      rintro e w1 ⟨a1, k1, a2, k2, rfl, hp, hq, hw1⟩
      have hb1 := hw1.alloc hw1.size (.cells #[.string ⟨u.scheme.toArray⟩, .string ⟨u.user.toArray⟩, .string ⟨u.host.toArray⟩, .int .i64 u.port, .slice a1 u.params.length k1, .slice a2 u.headers.length k2] 24)
      have hx := box_new w1 u (.slice a1 u.params.length k1) (.slice a2 u.headers.length k2)
      have HP := hid (hp.alloc (.cells #[.string ⟨u.scheme.toArray⟩, .string ⟨u.user.toArray⟩, .string ⟨u.host.toArray⟩, .int .i64 u.port, .slice a1 u.params.length k1, .slice a2 u.headers.length k2] 24))
      have HQ := hid (hq.alloc (.cells #[.string ⟨u.scheme.toArray⟩, .string ⟨u.user.toArray⟩, .string ⟨u.host.toArray⟩, .int .i64 u.port, .slice a1 u.params.length k1, .slice a2 u.headers.length k2] 24))
      obtain ⟨g0, g1, g2, g3, g4, g5⟩ := hx
      clear hp hq hw1 K1
      go_wp2_with fail
      refine (K2.out _ _ _ HP.out HQ.out).mono ?_
      rintro e w2 ⟨rfl, hw2⟩
      have hb2 := hb1.trans (hw2.mono hb1.size)
      clear g0 g1 g2 g3 g4 g5 hw2 HP HQ
      go_wp2
      go_ret2
      exact ⟨ret_who HV.out, hb2⟩
  · have HV := hid (host_bad hpv her)
    have he1 : (er != 0) = true := by simpa using her
    have he2 : (er == 0) = false := by simpa using her
    clear hpv
    go_enter Tryd.func16, Tryd.ntmps16
    go_wp2_with fail
    refine K1.out.mono ?_
    rintro e w1 ⟨a1, k1, a2, k2, rfl, hp, hq, hw1⟩
    have hb1 := hw1.alloc hw1.size (.cells #[.string ⟨u.scheme.toArray⟩, .string ⟨u.user.toArray⟩, .string ⟨u.host.toArray⟩, .int .i64 u.port, .slice a1 u.params.length k1, .slice a2 u.headers.length k2] 24)
    clear hp hq hw1 K1
    go_wp2
    go_ret2
    exact ⟨ret_who HV.out, hb1⟩

end Go.Proofs.YtnkghefcoolkoaaDoor
