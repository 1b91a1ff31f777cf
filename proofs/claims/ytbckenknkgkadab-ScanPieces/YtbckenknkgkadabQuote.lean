/-
  The contract of Quote.
-/
import Derived.Test.YtbckenknkgkadabTexts
namespace Go.Proofs.Ytbckenknkgkadab
open Go.RowKit Sc
set_option linter.unusedVariables false

/-- The bytes of a quoted text, between its marks. -/
def quo : List UInt8 → List UInt8
  | [] => []
  | b :: r => (if bareB b.toNat then [b] else [92, b]) ++ quo r
def hasBar (l : List UInt8) : Bool := l.any fun b => barB b.toNat
def quoteV (l : List UInt8) : List UInt8 × Int := if hasBar l then ([], 11) else (34 :: quo l ++ [34], 0)

theorem quo_append (a b : List UInt8) : quo (a ++ b) = quo a ++ quo b := by
  induction a with
  | nil => rfl
  | cons x r ih => simp only [List.cons_append, quo, ih, List.append_assoc]
theorem quo_len (l : List UInt8) : (quo l).length ≤ 2 * l.length := by
  induction l with
  | nil => simp [quo]
  | cons x r ih => simp only [quo, List.length_append, List.length_cons]; split <;> simp <;> omega
theorem quo_snoc1 (l : List UInt8) (b : UInt8) (h : bareB b.toNat = true) : quo (l ++ [b]) = quo l ++ [b] := by simp [quo_append, quo, h]
theorem quo_snoc2 (l : List UInt8) (b : UInt8) (h : bareB b.toNat = false) : quo (l ++ [b]) = quo l ++ [92] ++ [b] := by simp [quo_append, quo, h]
theorem hasBar_hit {s : ByteArray} {k : Nat} (h : k < s.size) (hb : barB s[k].toNat = true) : hasBar s.data.toList = true := by
  rw [hasBar, List.any_eq_true]
  exact ⟨s[k], List.mem_of_getElem? (getL s k h), hb⟩
theorem hasBar_snoc (l : List UInt8) (b : UInt8) : hasBar (l ++ [b]) = (hasBar l || barB b.toNat) := by simp [hasBar]

theorem ret_str {p : List UInt8 × Int} (a : List UInt8) (b : Int) (h : p = (a, b)) : Ending.returned (.tuple #[.string ⟨a.toArray⟩, .int .i64 b]) = .returned (.tuple #[.string ⟨p.1.toArray⟩, .int .i64 p.2]) := by rw [h]

theorem quo_cells1 (l : List UInt8) (b : UInt8) (h : bareB b.toNat = true) : Lib.byteCells (34 :: quo l) ++ Lib.byteCells [b] = Lib.byteCells (34 :: quo (l ++ [b])) := by
  rw [quo_snoc1 l b h, ← Lib.byteCells_append]; rfl
theorem quo_cells2 (l : List UInt8) (b : UInt8) (h : bareB b.toNat = false) : Lib.byteCells (34 :: quo l) ++ Lib.byteCells [92] ++ Lib.byteCells [b] = Lib.byteCells (34 :: quo (l ++ [b])) := by
  rw [quo_snoc2 l b h, ← Lib.byteCells_append, ← Lib.byteCells_append]; rfl
theorem quo_cells_len (l : List UInt8) : (Lib.byteCells (34 :: quo l)).length ≤ 2 * l.length + 1 := by
  rw [Lib.byteCells_length]; have := quo_len l; simp; omega

set_option maxHeartbeats 1000000 in
theorem quote_any (s : ByteArray) (w : World) (hs : 2 * s.size + 2 ≤ 140737488355328) :
    Calls Try.prog 11 #[.string s] w fun e w' => e = .returned (.tuple #[.string ⟨(quoteV s.data.toList).1.toArray⟩, .int .i64 (quoteV s.data.toList).2]) ∧ Below w.heap.size w w' := by
  obtain ⟨i0, hi, hz0, hz1, hz2⟩ := info_parts info5
  go_enter Try.func11, Try.ntmps11
  go_wp2_with (first
    | (at_make; refine wp_make _ rfl _ _ 36 rfl w.heap.size 5 i0 (.int .u8 0) Try.underlying36 hi hz0 hz1 .i64 .i64 _ (s.size + 2) rfl rfl (by omega) (by rw [hz2]; omega) (by unfold maxLen; omega) w (Below.refl _ _) (Nat.le_refl _) ?_; intro v0 w1 hown1 hb1 hB1)
    | (at_builtin; refine wp_app _ rfl (.tmp 10) (.tmp 11) 36 rfl w.heap.size 5 i0 (.int .u8 0) 1 Try.underlying36 hi hz0 hz1 hz2 rfl _ (Lib.byteCells []) rfl (hown1.alloc _) ⟨w1.heap.size, 0, none⟩ 1 1 (Lib.byteCells [34]) rfl rfl (by exact one_new _ _ _) (byteCells_one _) (by unfold maxLen; simp [Lib.byteCells]) (by simp [Lib.byteCells]) w (hb1.alloc hB1 _) (by simp; omega) ?_; intro v2 w2 hown2 hb2 hB2))
  clear hown1 hb1 hB1
  go_loopw [4, 15] (fun v i wr => ∃ k : Nat, k ≤ s.size ∧ i = .int .i64 k ∧ Own wr w.heap.size 5 v (Lib.byteCells (34 :: quo (s.data.toList.take k))) ∧ Below w.heap.size w wr ∧ w.heap.size ≤ wr.heap.size ∧ Hid (hasBar (s.data.toList.take k) = false)) (fun _ i _ => s.size - (intOf i).toNat)
  case atStart => exact ⟨0, Nat.zero_le _, rfl, hown2, hb2, hB2, rfl⟩
  case round =>
    obtain ⟨k, hk, rfl, hown, hb, hB, hbar⟩ := hrel
    have hlen := quo_cells_len (s.data.toList.take k)
    have hlk : (s.data.toList.take k).length ≤ k := List.length_take_le _ _
    by_cases hlt : k < s.size
    · by_cases hbb : barB s[k].toNat = true
      · have hq : Hid (quoteV s.data.toList = ([], 11)) := by show _ = _; rw [quoteV, if_pos (hasBar_hit hlt hbb)]
        clear hlen hlk
        go_wp2_with (go_at_call 21; refine (barred_any _ _).mono ?_; rintro e w' ⟨rfl, rfl⟩)
        go_ret2
        exact ⟨ret_str [] 11 hq.out, hb⟩
      · have hbb' : barB s[k].toNat = false := by simpa using hbb
        clear hbb
        have hbar' : Hid (hasBar (s.data.toList.take (k + 1)) = false) := by show _ = _; rw [take_snoc s k hlt, hasBar_snoc, hbar.out, hbb']; rfl
        by_cases hba : bareB s[k].toNat = true
        · have hcs := quo_cells1 (s.data.toList.take k) s[k] hba
          rw [← take_snoc s k hlt] at hcs
          have HC : Hid _ := hcs; clear hcs
          go_wp2_with (first
            | (go_at_call 21; refine (barred_any _ _).mono ?_; rintro e w' ⟨rfl, rfl⟩)
            | (go_at_call 22; refine (bare_any _ _).mono ?_; rintro e w' ⟨rfl, rfl⟩)
            | (at_builtin; refine wp_app _ rfl (.tmp 30) (.tmp 34) 36 rfl w.heap.size 5 i0 (.int .u8 0) 1 Try.underlying36 hi hz0 hz1 hz2 rfl _ _ rfl (hown.alloc _) ⟨_, 0, none⟩ 1 1 (Lib.byteCells [s[k]]) rfl rfl (by exact one_new _ _ _) (byteCells_one _) (by unfold maxLen; omega) (by omega) w (hb.alloc hB _) (by simp; omega) ?_; intro v3 w3 hown3 hb3 hB3))
          rw [HC.out] at hown3
          go_roundw
          case rel => exact ⟨k + 1, by omega, by go_num, hown3, hb3, hB3, hbar'⟩
          case measure => simp [intOf]; omega
        · have hba' : bareB s[k].toNat = false := by simpa using hba
          clear hba
          have hcs := quo_cells2 (s.data.toList.take k) s[k] hba'
          rw [← take_snoc s k hlt] at hcs
          have HC : Hid _ := hcs; clear hcs
          go_wp2_with (first
            | (go_at_call 21; refine (barred_any _ _).mono ?_; rintro e w' ⟨rfl, rfl⟩)
            | (go_at_call 22; refine (bare_any _ _).mono ?_; rintro e w' ⟨rfl, rfl⟩)
            | (at_builtin; refine wp_app _ rfl (.tmp 27) (.tmp 28) 36 rfl w.heap.size 5 i0 (.int .u8 0) 1 Try.underlying36 hi hz0 hz1 hz2 rfl _ _ rfl (hown.alloc _) ⟨_, 0, none⟩ 1 1 (Lib.byteCells [92]) rfl rfl (by exact one_new _ _ _) (byteCells_one _) (by unfold maxLen; omega) (by omega) w (hb.alloc hB _) (by simp; omega) ?_; intro v2 w2 hown2 hb2 hB2)
            | (at_builtin; refine wp_app _ rfl (.tmp 30) (.tmp 34) 36 rfl w.heap.size 5 i0 (.int .u8 0) 1 Try.underlying36 hi hz0 hz1 hz2 rfl _ _ rfl (hown2.alloc _) ⟨_, 0, none⟩ 1 1 (Lib.byteCells [s[k]]) rfl rfl (by exact one_new _ _ _) (byteCells_one _) (by unfold maxLen; simp [Lib.byteCells] at hlen ⊢; omega) (by simp [Lib.byteCells] at hlen ⊢; omega) w (hb2.alloc hB2 _) (by simp; omega) ?_; intro v3 w3 hown3 hb3 hB3))
          rw [HC.out] at hown3
          go_roundw
          case rel => exact ⟨k + 1, by omega, by go_num, hown3, hb3, hB3, hbar'⟩
          case measure => simp [intOf]; omega
    · have hta := take_all s k (by omega)
      rw [hta] at hown hbar hlen
      have hq : Hid (quoteV s.data.toList = (34 :: quo s.data.toList ++ [34], 0)) := by show _ = _; rw [quoteV, hbar.out]; rfl
      have hsz := len_data s
      clear hta
      go_wp2_with (at_builtin; refine wp_app _ rfl (.tmp 37) (.tmp 38) 36 rfl w.heap.size 5 i0 (.int .u8 0) 1 Try.underlying36 hi hz0 hz1 hz2 rfl _ _ rfl (hown.alloc _) ⟨_, 0, none⟩ 1 1 (Lib.byteCells [34]) rfl rfl (by exact one_new _ _ _) (byteCells_one _) (by unfold maxLen; omega) (by omega) w (hb.alloc hB _) (by simp; omega) ?_; intro v3 w3 hown3 hb3 hB3; rw [← Lib.byteCells_append] at hown3; have hcv := conv_own (P := Try.prog) _ Try.underlying36 Try.underlying5 Try.underlying9 hown3)
      go_ret2
      exact ⟨ret_str (34 :: quo s.data.toList ++ [34]) 0 hq.out, hb3⟩

end Go.Proofs.Ytbckenknkgkadab
