/-
  Contracts of the document's own Escape, worth and Unescape.
-/
import Derived.Test.YtfdcklekjnihjaaDoorUnesc
import Derived.Test.YtfdcklekjnihjaaDoorLower
namespace Go.Proofs.YtfdcklekjnihjaaDoor
open Go.RowKit Sc
set_option linter.unusedVariables false
set_option maxRecDepth 20000

theorem hasB_inK (keep : ByteArray) (b : UInt8) : hasB b.toNat keep = inK keep.data.toList b.toNat := by
  rw [hasB, inK]
  congr 1
  funext c
  rw [Bool.eq_iff_iff]; simp
  omega
theorem isB37 : isB 37 16 = false := by decide +kernel

/-- A new block of one cell that holds a digit of sixteen. -/
theorem one_hex (w : World) (e : TypeId) (i : Int) (n : Nat) (hi : i.toNat = n) (h : i.toNat < 16) :
    ∀ (j : Nat) (u : Value), (Lib.byteCells [hexd n])[j]? = some u → (w.alloc (.cells #[.int .u8 ((((ByteArray.mk #[48, 49, 50, 51, 52, 53, 54, 55, 56, 57, 65, 66, 67, 68, 69, 70])[i.toNat]'h).toNat : Nat) : Int)] e)).cell? ((⟨w.heap.size, 0, none⟩ : Addr).add j) = some u := by
  rw [hexi i n hi h]
  exact one_new w e _

theorem one_hexN (w : World) (e : TypeId) (n : Nat) (h : n < 16) :
    ∀ (j : Nat) (u : Value), (Lib.byteCells [hexd n])[j]? = some u → (w.alloc (.cells #[.int .u8 ((((ByteArray.mk #[48, 49, 50, 51, 52, 53, 54, 55, 56, 57, 65, 66, 67, 68, 69, 70])[n]'h).toNat : Nat) : Int)] e)).cell? ((⟨w.heap.size, 0, none⟩ : Addr).add j) = some u := by
  have := hexi (n : Int) n (by omega) (by omega)
  simp only [Int.toNat_natCast] at this
  rw [this]
  exact one_new w e _

set_option maxHeartbeats 2000000 in
theorem refescape_any (s keep : ByteArray) (w : World) (hs : 3 * s.size ≤ 140737488355328) (hk : keep.size ≤ maxLen) :
    Calls Tryd.prog 38 #[.string s, .string keep] w fun e w' => e = .returned (.string ⟨(esc (kpF keep.data.toList) s.data.toList).toArray⟩) ∧ Below w.heap.size w w' := by
  obtain ⟨i0, hi, hz0, hz1, hz2⟩ := info_parts info5
  go_enter Tryd.func38, Tryd.ntmps38
  go_wp2
  go_loopw [5, 6] (fun v i wr => ∃ k : Nat, k ≤ s.size ∧ i = .int .i64 k ∧ Own wr w.heap.size 5 v (Lib.byteCells (esc (kpF keep.data.toList) (s.data.toList.take k))) ∧ Below w.heap.size w wr ∧ w.heap.size ≤ wr.heap.size) (fun _ i _ => s.size - (intOf i).toNat)
  case atStart => exact ⟨0, Nat.zero_le _, rfl, Own.nil _ _ _, Below.refl _ _, Nat.le_refl _⟩
  case round =>
    obtain ⟨k, hk', rfl, hown, hb, hB⟩ := hrel
    have hlen : (Lib.byteCells (esc (kpF keep.data.toList) (s.data.toList.take k))).length ≤ 3 * k := by
      have := esc_cells_len (kpF keep.data.toList) (s.data.toList.take k); have := List.length_take_le k s.data.toList; omega
    by_cases hlt : k < s.size
    · have hbd := u8_bd s[k]
      by_cases hfree : free (kpF keep.data.toList) s[k] = true
      · have hcs := esc_cells1 (kpF keep.data.toList) (s.data.toList.take k) s[k] hfree
        rw [← take_snoc s k hlt] at hcs
        have HC : Hid _ := hcs; clear hcs
        have h37 : ((s[k].toNat : Int) != 37) = true := by
          by_cases e : (s[k].toNat : Int) = 37
          · have e' : s[k].toNat = 37 := by omega
            rw [free, e', kpF] at hfree; simp [isB37] at hfree
          · simpa using e
        by_cases hpl : isB s[k].toNat 16 = true
        · have hz : (bits BinOp.and IntKind.i64 (cls s[k].toNat) 16 != 0) = true := by have := hpl; rw [isB] at this; exact this
          clear hfree hpl
          go_wp2_with (first
            | (go_at_call 32; refine (refclass_any _ _ hbd.1 hbd.2).mono ?_; rintro e w' ⟨rfl, rfl⟩)
            | (go_at_call 58; refine (has_any _ _ _ hk).mono ?_; rintro e w' ⟨rfl, rfl⟩)
            | (at_builtin; refine wp_app _ rfl (.tmp 37) (.tmp 41) 45 rfl w.heap.size 5 i0 (.int .u8 0) 1 Tryd.underlying45 hi hz0 hz1 hz2 rfl _ _ rfl (by exact hown.alloc _) ⟨_, 0, none⟩ 1 1 (Lib.byteCells [s[k]]) rfl rfl (by first | exact one_hexN _ _ _ (by omega) | exact one_new _ _ _) (byteCells_one _) (by unfold maxLen; omega) (by omega) w (by exact hb.alloc hB _) (by simp; omega) ?_; intro v3 w3 hown3 hb3 hB3))
          rw [HC.out] at hown3
          go_wp2
          go_roundw
          case rel => exact ⟨k + 1, by omega, by go_num, hown3, hb3, hB3⟩
          case measure => simp [intOf]; omega
        · have hpl' : isB s[k].toNat 16 = false := by simpa using hpl
          have hz : (bits BinOp.and IntKind.i64 (cls s[k].toNat) 16 != 0) = false := by have := hpl'; rw [isB] at this; exact this
          have hh : hasB s[k].toNat keep = true := by
            rw [hasB_inK]; rw [free, hpl', kpF, if_neg (by simp at h37; omega)] at hfree; simpa using hfree
          clear hfree hpl hpl'
          go_wp2_with (first
            | (go_at_call 32; refine (refclass_any _ _ hbd.1 hbd.2).mono ?_; rintro e w' ⟨rfl, rfl⟩)
            | (go_at_call 58; refine (has_any _ _ _ hk).mono ?_; rintro e w' ⟨rfl, rfl⟩)
            | (at_builtin; refine wp_app _ rfl (.tmp 37) (.tmp 41) 45 rfl w.heap.size 5 i0 (.int .u8 0) 1 Tryd.underlying45 hi hz0 hz1 hz2 rfl _ _ rfl (by exact hown.alloc _) ⟨_, 0, none⟩ 1 1 (Lib.byteCells [s[k]]) rfl rfl (by first | exact one_hexN _ _ _ (by omega) | exact one_new _ _ _) (byteCells_one _) (by unfold maxLen; omega) (by omega) w (by exact hb.alloc hB _) (by simp; omega) ?_; intro v3 w3 hown3 hb3 hB3))
          rw [HC.out] at hown3
          go_wp2
          go_roundw
          case rel => exact ⟨k + 1, by omega, by go_num, hown3, hb3, hB3⟩
          case measure => simp [intOf]; omega
      · have hfree' : free (kpF keep.data.toList) s[k] = false := by simpa using hfree
        have hcs := esc_cells3 (kpF keep.data.toList) (s.data.toList.take k) s[k] hfree'
        rw [← take_snoc s k hlt] at hcs
        have HC : Hid (Lib.byteCells (esc (kpF keep.data.toList) (s.data.toList.take k)) ++ Lib.byteCells [37] ++ Lib.byteCells [hexd (s[k].toNat / 16)] ++ Lib.byteCells [hexd (s[k].toNat % 16)] = Lib.byteCells (esc (kpF keep.data.toList) (s.data.toList.take (k + 1)))) := by
          show _ = _; rw [← hcs, List.append_assoc, List.append_assoc]; rfl
        clear hcs hfree
        have hA : (0 : Int) ≤ (s[k].toNat : Int) / 16 := by omega
        have hB' : (s[k].toNat : Int) / 16 < 16 := by omega
        have hD : (0 : Int) ≤ (s[k].toNat : Int) % 16 := by omega
        have hE : (s[k].toNat : Int) % 16 < 16 := by omega
        by_cases h37 : (s[k].toNat : Int) = 37
        · have h37' : ((s[k].toNat : Int) != 37) = false := by simp [h37]
          clear h37 hfree'
          go_wp2_with (first
            | (at_builtin; refine wp_app _ rfl (.tmp 43) (.tmp 44) 45 rfl w.heap.size 5 i0 (.int .u8 0) 1 Tryd.underlying45 hi hz0 hz1 hz2 rfl _ _ rfl (by exact hown.alloc _) ⟨_, 0, none⟩ 1 1 (Lib.byteCells [37]) rfl rfl (by first | exact one_hexN _ _ _ (by omega) | exact one_new _ _ _) (byteCells_one _) (by unfold maxLen; omega) (by omega) w (by exact hb.alloc hB _) (by simp; omega) ?_; intro v1 w1 hown1 hb1 hB1)
            | (at_builtin; refine wp_app _ rfl (.tmp 46) (.tmp 50) 45 rfl w.heap.size 5 i0 (.int .u8 0) 1 Tryd.underlying45 hi hz0 hz1 hz2 rfl _ _ rfl (by exact hown1.alloc _) ⟨_, 0, none⟩ 1 1 (Lib.byteCells [hexd (s[k].toNat / 16)]) rfl rfl (by first | exact one_hexN _ _ _ (by omega) | exact one_new _ _ _) (byteCells_one _) (by simp [Lib.byteCells] at hlen ⊢; unfold maxLen; omega) (by simp [Lib.byteCells] at hlen ⊢; omega) w (by exact hb1.alloc hB1 _) (by simp; omega) ?_; intro v2 w2 hown2 hb2 hB2)
            | (at_builtin; refine wp_app _ rfl (.tmp 52) (.tmp 56) 45 rfl w.heap.size 5 i0 (.int .u8 0) 1 Tryd.underlying45 hi hz0 hz1 hz2 rfl _ _ rfl (by exact hown2.alloc _) ⟨_, 0, none⟩ 1 1 (Lib.byteCells [hexd (s[k].toNat % 16)]) rfl rfl (by first | exact one_hexN _ _ _ (by omega) | exact one_new _ _ _) (byteCells_one _) (by simp [Lib.byteCells] at hlen ⊢; unfold maxLen; omega) (by simp [Lib.byteCells] at hlen ⊢; omega) w (by exact hb2.alloc hB2 _) (by simp; omega) ?_; intro v3 w3 hown3 hb3 hB3))
          rw [HC.out] at hown3
          go_wp2
          go_roundw
          case rel => exact ⟨k + 1, by omega, by go_num, hown3, hb3, hB3⟩
          case measure => simp [intOf]; omega
        · have h37' : ((s[k].toNat : Int) != 37) = true := by simp [h37]
          have hpl' : isB s[k].toNat 16 = false := by rw [free] at hfree'; simp at hfree'; exact hfree'.1
          have hz : (bits BinOp.and IntKind.i64 (cls s[k].toNat) 16 != 0) = false := by have := hpl'; rw [isB] at this; exact this
          have hh : hasB s[k].toNat keep = false := by
            rw [hasB_inK]; rw [free, hpl', kpF, if_neg (by omega)] at hfree'; simpa using hfree'
          clear h37 hfree' hpl'
          go_wp2_with (first
            | (go_at_call 32; refine (refclass_any _ _ hbd.1 hbd.2).mono ?_; rintro e w' ⟨rfl, rfl⟩)
            | (go_at_call 58; refine (has_any _ _ _ hk).mono ?_; rintro e w' ⟨rfl, rfl⟩)
            | (at_builtin; refine wp_app _ rfl (.tmp 43) (.tmp 44) 45 rfl w.heap.size 5 i0 (.int .u8 0) 1 Tryd.underlying45 hi hz0 hz1 hz2 rfl _ _ rfl (by exact hown.alloc _) ⟨_, 0, none⟩ 1 1 (Lib.byteCells [37]) rfl rfl (by first | exact one_hexN _ _ _ (by omega) | exact one_new _ _ _) (byteCells_one _) (by unfold maxLen; omega) (by omega) w (by exact hb.alloc hB _) (by simp; omega) ?_; intro v1 w1 hown1 hb1 hB1)
            | (at_builtin; refine wp_app _ rfl (.tmp 46) (.tmp 50) 45 rfl w.heap.size 5 i0 (.int .u8 0) 1 Tryd.underlying45 hi hz0 hz1 hz2 rfl _ _ rfl (by exact hown1.alloc _) ⟨_, 0, none⟩ 1 1 (Lib.byteCells [hexd (s[k].toNat / 16)]) rfl rfl (by first | exact one_hexN _ _ _ (by omega) | exact one_new _ _ _) (byteCells_one _) (by simp [Lib.byteCells] at hlen ⊢; unfold maxLen; omega) (by simp [Lib.byteCells] at hlen ⊢; omega) w (by exact hb1.alloc hB1 _) (by simp; omega) ?_; intro v2 w2 hown2 hb2 hB2)
            | (at_builtin; refine wp_app _ rfl (.tmp 52) (.tmp 56) 45 rfl w.heap.size 5 i0 (.int .u8 0) 1 Tryd.underlying45 hi hz0 hz1 hz2 rfl _ _ rfl (by exact hown2.alloc _) ⟨_, 0, none⟩ 1 1 (Lib.byteCells [hexd (s[k].toNat % 16)]) rfl rfl (by first | exact one_hexN _ _ _ (by omega) | exact one_new _ _ _) (byteCells_one _) (by simp [Lib.byteCells] at hlen ⊢; unfold maxLen; omega) (by simp [Lib.byteCells] at hlen ⊢; omega) w (by exact hb2.alloc hB2 _) (by simp; omega) ?_; intro v3 w3 hown3 hb3 hB3))
          rw [HC.out] at hown3
          go_wp2
          go_roundw
          case rel => exact ⟨k + 1, by omega, by go_num, hown3, hb3, hB3⟩
          case measure => simp [intOf]; omega
    · have hta := take_all s k (by omega)
      rw [hta] at hown
      have hcv := conv_own (P := Tryd.prog) _ Tryd.underlying45 Tryd.underlying5 Tryd.underlying9 hown
      clear hta hlen
      go_wp2
      go_ret
      exact ⟨rfl, hb⟩

end Go.Proofs.YtfdcklekjnihjaaDoor
