/-
  Contracts of Token, Lower, Trim and Same, and of the document's own.
-/
import Derived.Test.YtfdcklekjnihjaaDoorRow
import Derived.Test.YtfdcklekjnihjaaDoorClone
import Derived.Test.YtfdcklekjnihjaaDoorRefClass
namespace Go.Proofs.YtfdcklekjnihjaaDoor
open Go.RowKit Sc
set_option linter.unusedVariables false
set_option maxRecDepth 20000

def tokenB (l : List UInt8) : Bool := decide (1 ≤ l.length) && decide (l.length ≤ 64) && allB 8 l

def lowb (b : UInt8) : UInt8 := if 65 ≤ b.toNat ∧ b.toNat ≤ 90 then b + 32 else b
def lowL (l : List UInt8) : List UInt8 := l.map lowb
theorem lowb_toNat (b : UInt8) : ((lowb b).toNat : Int) = low b.toNat := by
  have h : ∀ n : Fin 256, ((lowb (UInt8.ofNat n.val)).toNat : Int) = low n.val := by decide +kernel
  have := h ⟨b.toNat, b.toNat_lt⟩
  simpa using this
theorem lowL_len (l : List UInt8) : (lowL l).length = l.length := by simp [lowL]
theorem lowL_snoc (l : List UInt8) (b : UInt8) : lowL (l ++ [b]) = lowL l ++ [lowb b] := by simp [lowL]

set_option maxHeartbeats 400000 in
theorem lower_txt (s : ByteArray) (w : World) (hs : s.size ≤ 281474976710656) :
    Calls Tryd.prog 24 #[.string s] w fun e w' => e = .returned (.string ⟨(lowL s.data.toList).toArray⟩) ∧ Below w.heap.size w w' := by
  obtain ⟨i0, hi, hz0, hz1, hz2⟩ := info_parts info5
  have hmk : ∀ u : World, (Instr.makeSlice 45 (.int .i64 (s.size : Int)) (.int .i64 (s.size : Int))).run Tryd.prog u =
      .ok (.slice (some ⟨u.heap.size, 0, none⟩) s.size s.size) (u.alloc (.cells (madeCells #[.int .u8 0] s.size) 5)) := fun u => by
    have h := run_make (P := Tryd.prog) u 45 5 i0 (.int .u8 0) Tryd.underlying45 hi hz0 .i64 .i64 (s.size : Int) (s.size : Int) (by omega) (Int.le_refl _) (by rw [hz2]; omega) (by omega)
    simpa [hz1, Value.cells] using h
  have hr0 : Hid (RowIs (w.alloc (.cells (madeCells #[.int .u8 0] s.size) 5)) w.heap.size 5 (filled [] s.size)) := made_row w _ _
  go_enter Tryd.func24, Tryd.ntmps24
  go_wp2
  clear hmk
  go_loopw [10] (fun i wr => ∃ k : Nat, k ≤ s.size ∧ i = .int .i64 k ∧ Hid (RowIs wr w.heap.size 5 (filled (lowL (s.data.toList.take k)) s.size)) ∧ Below w.heap.size w wr) (fun i _ => s.size - (intOf i).toNat)
  case atStart => exact ⟨0, Nat.zero_le _, rfl, hr0, (Below.refl _ _).alloc (Nat.le_refl _) _⟩
  case round =>
    clear hr0
    obtain ⟨k, hk, rfl, hr, hb⟩ := hrel
    have hlk : Hid ((lowL (s.data.toList.take k)).length = k) := by show _ = _; rw [lowL_len, List.length_take, len_data]; omega
    by_cases hlt : k < s.size
    · have hbd := u8_bd s[k]
      obtain ⟨x, hc⟩ : ∃ x, wr.cell? ⟨w.heap.size, k, none⟩ = some x := ⟨_, hr.out.cell k (by rw [filled_len _ _ (by rw [hlk.out]; omega)]; exact hlt)⟩
      have hf := hr.out.frozen k
      have hr' : Hid (RowIs (wr.setCell ⟨w.heap.size, k, none⟩ (.int .u8 (low s[k].toNat))) w.heap.size 5 (filled (lowL (s.data.toList.take (k + 1))) s.size)) := by
        have h := hr.out.set k (.int .u8 (lowb s[k]).toNat)
        have h2 := filled_set (lowL (s.data.toList.take k)) s.size (lowb s[k]) (by rw [hlk.out]; exact hlt)
        rw [hlk.out] at h2
        rw [h2, lowb_toNat, ← lowL_snoc, ← take_snoc s k hlt] at h
        exact h
      go_wp2_with (go_at_call 52; refine (lower_any _ _ hbd.1 hbd.2).mono ?_; rintro e w' ⟨rfl, rfl⟩)
      go_roundw
      case rel => exact ⟨k + 1, by omega, by go_num, hr', hb.setCell (Nat.le_refl _) _⟩
      case measure => simp [intOf]; omega
    · have hta := take_all s k (by omega)
      have hr2 := hr.out
      rw [hta, filled_full _ _ (by rw [lowL_len, len_data])] at hr2
      have hown := hr2.own w.heap.size s.size (Nat.le_refl _) (by rw [Lib.byteCells_length, lowL_len, len_data]) (by unfold maxLen; omega)
      have hcv := conv_own (P := Tryd.prog) _ Tryd.underlying45 Tryd.underlying5 Tryd.underlying9 hown
      clear hta hr2 hown hr hlk
      go_wp2
      go_ret
      exact ⟨rfl, hb⟩

theorem low_cells1 (l : List UInt8) (b : UInt8) : Lib.byteCells (lowL l) ++ [.int .u8 (low b.toNat)] = Lib.byteCells (lowL (l ++ [b])) := by
  rw [lowL_snoc, Lib.byteCells_append, ← lowb_toNat]; rfl

set_option maxHeartbeats 400000 in
theorem reflower_txt (s : ByteArray) (w : World) (hs : s.size ≤ 140737488355328) :
    Calls Tryd.prog 26 #[.string s] w fun e w' => e = .returned (.string ⟨(lowL s.data.toList).toArray⟩) ∧ Below w.heap.size w w' := by
  obtain ⟨i0, hi, hz0, hz1, hz2⟩ := info_parts info5
  go_enter Tryd.func26, Tryd.ntmps26
  go_wp2
  go_loopw [3, 4] (fun v i wr => ∃ k : Nat, k ≤ s.size ∧ i = .int .i64 k ∧ Own wr w.heap.size 5 v (Lib.byteCells (lowL (s.data.toList.take k))) ∧ Below w.heap.size w wr ∧ w.heap.size ≤ wr.heap.size) (fun _ i _ => s.size - (intOf i).toNat)
  case atStart => exact ⟨0, Nat.zero_le _, rfl, Own.nil _ _ _, Below.refl _ _, Nat.le_refl _⟩
  case round =>
    obtain ⟨k, hk, rfl, hown, hb, hB⟩ := hrel
    have hlen : (Lib.byteCells (lowL (s.data.toList.take k))).length ≤ k := by rw [Lib.byteCells_length, lowL_len]; exact List.length_take_le _ _
    by_cases hlt : k < s.size
    · have hbd := u8_bd s[k]
      have hcs := low_cells1 (s.data.toList.take k) s[k]
      rw [← take_snoc s k hlt] at hcs
      by_cases hup : 65 ≤ (s[k].toNat : Int) ∧ (s[k].toNat : Int) ≤ 90
      · have e : low s[k].toNat = (s[k].toNat : Int) - 65 + 97 := by rw [low, if_pos hup]; omega
        rw [e] at hcs
        have HC : Hid (Lib.byteCells (lowL (List.take k s.data.toList)) ++ [Value.int IntKind.u8 ((s[k].toNat : Int) - 65 + 97)] = Lib.byteCells (lowL (List.take (k + 1) s.data.toList))) := hcs
        obtain ⟨hu1, hu2⟩ := hup
        clear hcs e
        go_wp2_with (at_builtin; refine wp_app _ rfl (.tmp 21) (.tmp 27) 45 rfl w.heap.size 5 i0 (.int .u8 0) 1 Tryd.underlying45 hi hz0 hz1 hz2 rfl _ _ rfl (hown.alloc _) ⟨_, 0, none⟩ 1 1 [.int .u8 ((s[k].toNat : Int) - 65 + 97)] rfl rfl (by exact one_new _ _ _) (by intro u hu; simp at hu; subst hu; rfl) (by unfold maxLen; omega) (by omega) w (hb.alloc hB _) (by simp; omega) ?_; intro v3 w3 hown3 hb3 hB3)
        rw [HC.out] at hown3
        go_wp2
        go_roundw
        case rel => exact ⟨k + 1, by omega, by go_num, hown3, hb3, hB3⟩
        case measure => simp [intOf]; omega
      · have e : low s[k].toNat = (s[k].toNat : Int) := by rw [low, if_neg hup]
        rw [e] at hcs
        have HC : Hid (Lib.byteCells (lowL (List.take k s.data.toList)) ++ [Value.int IntKind.u8 (s[k].toNat : Int)] = Lib.byteCells (lowL (List.take (k + 1) s.data.toList))) := hcs
        clear hcs e
        by_cases hu1 : 65 ≤ (s[k].toNat : Int)
        all_goals
          go_wp2_with (at_builtin; refine wp_app _ rfl (.tmp 29) (.tmp 33) 45 rfl w.heap.size 5 i0 (.int .u8 0) 1 Tryd.underlying45 hi hz0 hz1 hz2 rfl _ _ rfl (hown.alloc _) ⟨_, 0, none⟩ 1 1 [.int .u8 (s[k].toNat : Int)] rfl rfl (by exact one_new _ _ _) (by intro u hu; simp at hu; subst hu; rfl) (by unfold maxLen; omega) (by omega) w (hb.alloc hB _) (by simp; omega) ?_; intro v3 w3 hown3 hb3 hB3)
          rw [HC.out] at hown3
          go_wp2
          go_roundw
          case rel => exact ⟨k + 1, by omega, by go_num, hown3, hb3, hB3⟩
          case measure => simp [intOf]; omega
    · have hta := take_all s k (by omega)
      rw [hta] at hown
      have hcv := conv_own (P := Tryd.prog) _ Tryd.underlying45 Tryd.underlying5 Tryd.underlying9 hown
      clear hta hlen
      go_wp2
      go_ret
      exact ⟨rfl, hb⟩

end Go.Proofs.YtfdcklekjnihjaaDoor
