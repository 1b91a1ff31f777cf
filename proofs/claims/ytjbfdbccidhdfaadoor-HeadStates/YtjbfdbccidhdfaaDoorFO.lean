/-
  Base texts, one behind another: RefQuo, RefParts.
-/
import Derived.Test.YtjbfdbccidhdfaaDoorFE
import Derived.Test.YtjbfdbccidhdfaaDoorFC
import Derived.Deep.QuietTactic
import Derived.BigQuiet

/-
  Contracts of the document's own Quote and Unquote.
-/
namespace Go.Proofs.YtjbfdbccidhdfaaDoor
open Go.RowKit Sc
set_option linter.unusedVariables false
set_option maxRecDepth 20000

set_option maxHeartbeats 1000000 in
theorem refunquote_short (s : ByteArray) (w : World) (h2 : s.size < 2) :
    Calls Tryd.prog 69 #[.string s] w fun e w' => e = .returned (.tuple #[.string ⟨(unquoteV s.data.toList).1.toArray⟩, .int .i64 (unquoteV s.data.toList).2]) ∧ Below w.heap.size w w' := by
  have hv : Hid (unquoteV s.data.toList = ([], 11)) := unquoteV_bad (Or.inl (by rw [len_data]; exact h2))
  go_enter Tryd.func69, Tryd.ntmps69
  go_wp2
  go_ret2
  exact ⟨ret_str [] 11 hv.out, Below.refl _ _⟩
set_option maxHeartbeats 1000000 in
theorem refunquote_first (s : ByteArray) (w : World) (hs : s.size ≤ 140737488355328) (h2 : 2 ≤ s.size) (hp0 : 0 < s.size) (h0 : ((s[0]'hp0).toNat : Int) ≠ 34) :
    Calls Tryd.prog 69 #[.string s] w fun e w' => e = .returned (.tuple #[.string ⟨(unquoteV s.data.toList).1.toArray⟩, .int .i64 (unquoteV s.data.toList).2]) ∧ Below w.heap.size w w' := by
  have hv : Hid (unquoteV s.data.toList = ([], 11)) := unquoteV_bad (Or.inr (Or.inl (by rw [first_at hp0]; intro e; injection e with e; omega)))
  have e0 : (((s[0]'hp0).toNat : Int) != 34) = true := by simp [h0]
  clear h0
  go_enter Tryd.func69, Tryd.ntmps69
  go_wp2
  go_ret2
  exact ⟨ret_str [] 11 hv.out, Below.refl _ _⟩
set_option maxHeartbeats 1000000 in
theorem refunquote_last (s : ByteArray) (w : World) (hs : s.size ≤ 140737488355328) (h2 : 2 ≤ s.size) (hp0 : 0 < s.size) (hp1 : s.size - 1 < s.size) (h0 : ((s[0]'hp0).toNat : Int) = 34) (h1 : ((s[s.size - 1]'hp1).toNat : Int) ≠ 34) :
    Calls Tryd.prog 69 #[.string s] w fun e w' => e = .returned (.tuple #[.string ⟨(unquoteV s.data.toList).1.toArray⟩, .int .i64 (unquoteV s.data.toList).2]) ∧ Below w.heap.size w w' := by
  have hv : Hid (unquoteV s.data.toList = ([], 11)) := unquoteV_bad (Or.inr (Or.inr (by rw [last_at hp1]; intro e; injection e with e; omega)))
  have e0 : (((s[0]'hp0).toNat : Int) != 34) = false := by simp [h0]
  have e1 : (((s[s.size - 1]'hp1).toNat : Int) != 34) = true := by simp [h1]
  have ht1 : ((s.size : Int) - 1).toNat = s.size - 1 := by omega
  clear h0 h1
  go_enter Tryd.func69, Tryd.ntmps69
  go_wp2
  go_ret2
  exact ⟨ret_str [] 11 hv.out, Below.refl _ _⟩

theorem mid_cons (s : ByteArray) (k m : Nat) (hk : k < m) (hm : m ≤ s.size) : mid s.data.toList k m = s[k] :: mid s.data.toList (k + 1) m := by
  rw [mid, drop_cons s k (by omega), show m - k = (m - (k + 1)) + 1 by omega, List.take_succ_cons]; rfl
theorem mid_nil (l : List UInt8) (k m : Nat) (h : m ≤ k) : mid l k m = [] := by rw [mid, show m - k = 0 by omega, List.take_zero]

set_option maxHeartbeats 400000 in
theorem broken_any (c : Int) (w : World) :
    Calls Tryd.prog 88 #[.int .u8 c] w fun e w' => e = .returned (.bool (barB c)) ∧ w' = w := by
  go_enter Tryd.func88, Tryd.ntmps88
  go_wp2
  all_goals go_ret
  all_goals (refine ⟨ret_bool ?_, rfl⟩; unfold barB; rw [Bool.eq_iff_iff]; simp; omega)

set_option maxHeartbeats 400000 in
theorem refbare_any (c : Int) (w : World) :
    Calls Tryd.prog 89 #[.int .u8 c] w fun e w' => e = .returned (.bool (bareB c)) ∧ w' = w := by
  go_enter Tryd.func89, Tryd.ntmps89
  go_wp2
  all_goals go_ret
  all_goals (refine ⟨ret_bool ?_, rfl⟩; unfold bareB; rw [Bool.eq_iff_iff]; simp; omega)

set_option maxHeartbeats 2000000 in
theorem refunquote_marks (s : ByteArray) (w : World) (hs : s.size ≤ 140737488355328) (h2 : 2 ≤ s.size) (hp0 : 0 < s.size) (hp1 : s.size - 1 < s.size) (h0 : ((s[0]'hp0).toNat : Int) = 34) (h1 : ((s[s.size - 1]'hp1).toNat : Int) = 34) :
    Calls Tryd.prog 69 #[.string s] w fun e w' => e = .returned (.tuple #[.string ⟨(unquoteV s.data.toList).1.toArray⟩, .int .i64 (unquoteV s.data.toList).2]) ∧ Below w.heap.size w w' := by
  obtain ⟨i0, hi, hz0, hz1, hz2⟩ := info_parts info5
  have hok : Hid (¬ (s.data.toList.length < 2 ∨ s.data.toList[0]?.map (·.toNat) ≠ some 34 ∨ s.data.toList[s.data.toList.length - 1]?.map (·.toNat) ≠ some 34)) := marks_ok h2 hp0 hp1 h0 h1
  have e0 : (((s[0]'hp0).toNat : Int) != 34) = false := by simp [h0]
  have e1 : (((s[s.size - 1]'hp1).toNat : Int) != 34) = false := by simp [h1]
  have ht1 : ((s.size : Int) - 1).toNat = s.size - 1 := by omega
  have hld := len_data s
  have HL : Hid (s.data.toList.length = s.size) := hld
  clear h0 h1 hld
  go_enter Tryd.func69, Tryd.ntmps69
  go_wp2_with fail
  go_loopw [4, 5] (fun v i wr => ∃ (k : Nat) (acc : List UInt8), 1 ≤ k ∧ k ≤ s.size - 1 ∧ i = .int .i64 k ∧ acc.length ≤ k ∧ Own wr w.heap.size 5 v (Lib.byteCells acc) ∧ Below w.heap.size w wr ∧ w.heap.size ≤ wr.heap.size ∧
      Hid (UnqAt (mid s.data.toList 1 (s.data.toList.length - 1)) acc (mid s.data.toList k (s.size - 1)))) (fun _ i _ => s.size - (intOf i).toNat)
  case atStart => exact ⟨1, [], Nat.le_refl _, by omega, rfl, by simp, Own.nil _ _ _, Below.refl _ _, Nat.le_refl _, show UnqAt _ _ _ by rw [HL.out]; exact unqAt0 _⟩
  case round =>
    clear e0 e1 HL
    obtain ⟨k, acc, hk1, hk, rfl, hac, hown, hb, hB, hu⟩ := hrel
    by_cases hlt : k < s.size - 1
    · by_cases hes : (s[k].toNat : Int) = 92 ∧ k < s.size - 2
      · obtain ⟨h92, hlt1⟩ := hes
        have hks : k < s.size := by omega
        have hks1 : k + 1 < s.size := by omega
        have hu' := hu.out
        rw [mid_cons s k (s.size - 1) hlt (by omega), mid_cons s (k + 1) (s.size - 1) (by omega) (by omega)] at hu'
        have c1 : ((s[k].toNat : Int) == 92) = true := by simpa using h92
        by_cases hbad : badB s[k + 1].toNat = true
        · have hv : Hid (unquoteV s.data.toList = ([], 11)) := unquoteV_none hok.out (unqAt_bad hu' h92 hbad)
          clear hu hu' h92
          by_cases hbr : barB s[k + 1].toNat = true
          · go_wp2_with (go_at_call 88; refine (broken_any _ _).mono ?_; rintro e w' ⟨rfl, rfl⟩)
            go_ret2
            exact ⟨ret_str [] 11 hv.out, hb⟩
          · have hbr' : barB s[k + 1].toNat = false := by simpa using hbr
            have h127 : 127 < (s[k + 1].toNat : Int) := by rw [badB, hbr'] at hbad; simpa using hbad
            clear hbr hbad
            go_wp2_with (go_at_call 88; refine (broken_any _ _).mono ?_; rintro e w' ⟨rfl, rfl⟩)
            go_ret2
            exact ⟨ret_str [] 11 hv.out, hb⟩
        · have hbad' : badB s[k + 1].toNat = false := by simpa using hbad
          have hn : Hid (UnqAt (mid s.data.toList 1 (s.data.toList.length - 1)) (acc ++ [s[k + 1]]) (mid s.data.toList (k + 1 + 1) (s.size - 1))) := unqAt_esc hu' h92 hbad'
          obtain ⟨hbr, h127⟩ := badB_split hbad'
          clear hu hu' h92 hbad hbad'
          go_wp2_with (first
            | (go_at_call 88; refine (broken_any _ _).mono ?_; rintro e w' ⟨rfl, rfl⟩)
            | (at_builtin; refine wp_app _ rfl (.tmp 54) (.tmp 56) 89 rfl w.heap.size 5 i0 (.int .u8 0) 1 Tryd.underlying89 hi hz0 hz1 hz2 rfl _ _ rfl (hown.alloc _) ⟨_, 0, none⟩ 1 1 (Lib.byteCells [s[k + 1]]) rfl rfl (by exact one_new _ _ _) (byteCells_one _) (by rw [Lib.byteCells_length]; unfold maxLen; omega) (by rw [Lib.byteCells_length]; omega) w (hb.alloc hB _) (by simp; omega) ?_; intro v3 w3 hown3 hb3 hB3))
          rw [byteCells_snoc] at hown3
          go_roundw
          case rel => exact ⟨k + 1 + 1, _, by omega, by omega, by go_num, by simp; omega, hown3, hb3, hB3, hn⟩
          case measure => simp [intOf]; omega
      · have hks : k < s.size := by omega
        have hu' := hu.out
        rw [mid_cons s k (s.size - 1) hlt (by omega)] at hu'
        have hside : (s[k].toNat : Int) ≠ 92 ∨ mid s.data.toList (k + 1) (s.size - 1) = [] := by
          by_cases h92 : (s[k].toNat : Int) = 92
          · right; exact mid_nil _ _ _ (by have := fun h => hes ⟨h92, h⟩; omega)
          · left; exact h92
        by_cases hba : bareB s[k].toNat = true
        · have hn : Hid (UnqAt (mid s.data.toList 1 (s.data.toList.length - 1)) (acc ++ [s[k]]) (mid s.data.toList (k + 1) (s.size - 1))) := unqAt_bare hu' hside hba
          by_cases h92 : (s[k].toNat : Int) = 92
          · rw [h92] at hba; exact absurd hba (by decide)
          · have c1 : ((s[k].toNat : Int) == 92) = false := by simpa using h92
            clear hu hu' hside hes h92
            go_wp2_with (first
              | (go_at_call 89; refine (refbare_any _ _).mono ?_; rintro e w' ⟨rfl, rfl⟩)
              | (at_builtin; refine wp_app _ rfl (.tmp 54) (.tmp 56) 89 rfl w.heap.size 5 i0 (.int .u8 0) 1 Tryd.underlying89 hi hz0 hz1 hz2 rfl _ _ rfl (hown.alloc _) ⟨_, 0, none⟩ 1 1 (Lib.byteCells [s[k]]) rfl rfl (by exact one_new _ _ _) (byteCells_one _) (by rw [Lib.byteCells_length]; unfold maxLen; omega) (by rw [Lib.byteCells_length]; omega) w (hb.alloc hB _) (by simp; omega) ?_; intro v3 w3 hown3 hb3 hB3))
            rw [byteCells_snoc] at hown3
            go_roundw
            case rel => exact ⟨k + 1, _, by omega, by omega, by go_num, by simp; omega, hown3, hb3, hB3, hn⟩
            case measure => simp [intOf]; omega
        · have hba' : bareB s[k].toNat = false := by simpa using hba
          have hv : Hid (unquoteV s.data.toList = ([], 11)) := unquoteV_none hok.out (unqAt_not hu' hside hba')
          by_cases h92 : (s[k].toNat : Int) = 92
          · have c1 : ((s[k].toNat : Int) == 92) = true := by simpa using h92
            have c2 : ¬ (k < s.size - 2) := fun h => hes ⟨h92, h⟩
            clear hu hu' hside hes h92 hba
            go_wp2_with (go_at_call 89; refine (refbare_any _ _).mono ?_; rintro e w' ⟨rfl, rfl⟩)
            go_ret2
            exact ⟨ret_str [] 11 hv.out, hb⟩
          · have c1 : ((s[k].toNat : Int) == 92) = false := by simpa using h92
            clear hu hu' hside hes h92 hba
            go_wp2_with (go_at_call 89; refine (refbare_any _ _).mono ?_; rintro e w' ⟨rfl, rfl⟩)
            go_ret2
            exact ⟨ret_str [] 11 hv.out, hb⟩
    · have hu' := hu.out
      rw [mid_nil _ k (s.size - 1) (by omega)] at hu'
      have hv : Hid (unquoteV s.data.toList = (acc, 0)) := unquoteV_some hok.out (unqAt_end hu')
      have hcv := conv_own (P := Tryd.prog) _ Tryd.underlying89 Tryd.underlying5 Tryd.underlying9 hown
      clear hu hu'
      go_wp2
      go_ret2
      exact ⟨ret_str acc 0 hv.out, hb⟩

theorem refunquote_any (s : ByteArray) (w : World) (hs : s.size ≤ 140737488355328) :
    Calls Tryd.prog 69 #[.string s] w fun e w' => e = .returned (.tuple #[.string ⟨(unquoteV s.data.toList).1.toArray⟩, .int .i64 (unquoteV s.data.toList).2]) ∧ Below w.heap.size w w' := by
  by_cases h2 : 2 ≤ s.size
  · have hp0 : 0 < s.size := by omega
    have hp1 : s.size - 1 < s.size := by omega
    by_cases h0 : ((s[0]'hp0).toNat : Int) = 34
    · by_cases h1 : ((s[s.size - 1]'hp1).toNat : Int) = 34
      · exact refunquote_marks s w hs h2 hp0 hp1 h0 h1
      · exact refunquote_last s w hs h2 hp0 hp1 h0 h1
    · exact refunquote_first s w hs h2 hp0 h0
  · exact refunquote_short s w (by omega)

theorem quo_c1 (l : List UInt8) (b : UInt8) (h : bareB b.toNat = true) : Lib.byteCells (quo l) ++ Lib.byteCells [b] = Lib.byteCells (quo (l ++ [b])) := by
  rw [quo_snoc1 l b h, ← Lib.byteCells_append]
theorem quo_c2 (l : List UInt8) (b : UInt8) (h : bareB b.toNat = false) : Lib.byteCells (quo l) ++ Lib.byteCells [92] ++ Lib.byteCells [b] = Lib.byteCells (quo (l ++ [b])) := by
  rw [quo_snoc2 l b h, ← Lib.byteCells_append, ← Lib.byteCells_append]

set_option maxHeartbeats 1000000 in
theorem refquote_any (s : ByteArray) (w : World) (hs : 2 * s.size + 2 ≤ 140737488355328) :
    Calls Tryd.prog 74 #[.string s] w fun e w' => e = .returned (.tuple #[.string ⟨(quoteV s.data.toList).1.toArray⟩, .int .i64 (quoteV s.data.toList).2]) ∧ Below w.heap.size w w' := by
  obtain ⟨i0, hi, hz0, hz1, hz2⟩ := info_parts info5
  go_enter Tryd.func74, Tryd.ntmps74
  go_wp2
  go_loopw [4, 5] (fun v i wr => ∃ k : Nat, k ≤ s.size ∧ i = .int .i64 k ∧ Own wr w.heap.size 5 v (Lib.byteCells (quo (s.data.toList.take k))) ∧ Below w.heap.size w wr ∧ w.heap.size ≤ wr.heap.size ∧ Hid (hasBar (s.data.toList.take k) = false)) (fun _ i _ => s.size - (intOf i).toNat)
  case atStart => exact ⟨0, Nat.zero_le _, rfl, Own.nil _ _ _, Below.refl _ _, Nat.le_refl _, rfl⟩
  case round =>
    obtain ⟨k, hk, rfl, hown, hb, hB, hbar⟩ := hrel
    have hlen : (Lib.byteCells (quo (s.data.toList.take k))).length ≤ 2 * k := by
      rw [Lib.byteCells_length]; have := quo_len (s.data.toList.take k); have := List.length_take_le k s.data.toList; omega
    by_cases hlt : k < s.size
    · by_cases hbb : barB s[k].toNat = true
      · have hq : Hid (quoteV s.data.toList = ([], 11)) := by show _ = _; rw [quoteV, if_pos (hasBar_hit hlt hbb)]
        clear hlen
        go_wp2_with (go_at_call 88; refine (broken_any _ _).mono ?_; rintro e w' ⟨rfl, rfl⟩)
        go_ret2
        exact ⟨ret_str [] 11 hq.out, hb⟩
      · have hbb' : barB s[k].toNat = false := by simpa using hbb
        clear hbb
        have hbar' : Hid (hasBar (s.data.toList.take (k + 1)) = false) := by show _ = _; rw [take_snoc s k hlt, hasBar_snoc, hbar.out, hbb']; rfl
        by_cases hba : bareB s[k].toNat = true
        · have hcs := quo_c1 (s.data.toList.take k) s[k] hba
          rw [← take_snoc s k hlt] at hcs
          have HC : Hid _ := hcs; clear hcs
          go_wp2_with (first
            | (go_at_call 88; refine (broken_any _ _).mono ?_; rintro e w' ⟨rfl, rfl⟩)
            | (go_at_call 89; refine (refbare_any _ _).mono ?_; rintro e w' ⟨rfl, rfl⟩)
            | (at_builtin; refine wp_app _ rfl (.tmp 24) (.tmp 28) 89 rfl w.heap.size 5 i0 (.int .u8 0) 1 Tryd.underlying89 hi hz0 hz1 hz2 rfl _ _ rfl (hown.alloc _) ⟨_, 0, none⟩ 1 1 (Lib.byteCells [s[k]]) rfl rfl (by exact one_new _ _ _) (byteCells_one _) (by unfold maxLen; omega) (by omega) w (hb.alloc hB _) (by simp; omega) ?_; intro v3 w3 hown3 hb3 hB3))
          rw [HC.out] at hown3
          go_roundw
          case rel => exact ⟨k + 1, by omega, by go_num, hown3, hb3, hB3, hbar'⟩
          case measure => simp [intOf]; omega
        · have hba' : bareB s[k].toNat = false := by simpa using hba
          clear hba
          have hcs := quo_c2 (s.data.toList.take k) s[k] hba'
          rw [← take_snoc s k hlt] at hcs
          have HC : Hid _ := hcs; clear hcs
          go_wp2_with (first
            | (go_at_call 88; refine (broken_any _ _).mono ?_; rintro e w' ⟨rfl, rfl⟩)
            | (go_at_call 89; refine (refbare_any _ _).mono ?_; rintro e w' ⟨rfl, rfl⟩)
            | (at_builtin; refine wp_app _ rfl (.tmp 21) (.tmp 22) 89 rfl w.heap.size 5 i0 (.int .u8 0) 1 Tryd.underlying89 hi hz0 hz1 hz2 rfl _ _ rfl (hown.alloc _) ⟨_, 0, none⟩ 1 1 (Lib.byteCells [92]) rfl rfl (by exact one_new _ _ _) (byteCells_one _) (by unfold maxLen; omega) (by omega) w (hb.alloc hB _) (by simp; omega) ?_; intro v2 w2 hown2 hb2 hB2)
            | (at_builtin; refine wp_app _ rfl (.tmp 24) (.tmp 28) 89 rfl w.heap.size 5 i0 (.int .u8 0) 1 Tryd.underlying89 hi hz0 hz1 hz2 rfl _ _ rfl (hown2.alloc _) ⟨_, 0, none⟩ 1 1 (Lib.byteCells [s[k]]) rfl rfl (by exact one_new _ _ _) (byteCells_one _) (by unfold maxLen; simp [Lib.byteCells] at hlen ⊢; omega) (by simp [Lib.byteCells] at hlen ⊢; omega) w (hb2.alloc hB2 _) (by simp; omega) ?_; intro v3 w3 hown3 hb3 hB3))
          rw [HC.out] at hown3
          go_roundw
          case rel => exact ⟨k + 1, by omega, by go_num, hown3, hb3, hB3, hbar'⟩
          case measure => simp [intOf]; omega
    · have hta := take_all s k (by omega)
      rw [hta] at hown hbar hlen
      have hq : Hid (quoteV s.data.toList = (34 :: quo s.data.toList ++ [34], 0)) := by show _ = _; rw [quoteV, hbar.out]; rfl
      have hcv := conv_own (P := Tryd.prog) _ Tryd.underlying89 Tryd.underlying5 Tryd.underlying9 hown
      rw [Lib.byteCells_length] at hlen
      have g1 : (quo s.data.toList).length + 2 ≤ 9223372036854775807 := by omega
      have g2 : (quo s.data.toList).length + 1 ≤ 9223372036854775807 := by omega
      have g3 : 1 + (quo s.data.toList).length ≤ 9223372036854775807 := by omega
      have g4 : 1 + (quo s.data.toList).length + 1 ≤ 9223372036854775807 := by omega
      have hap : Hid (ByteArray.mk #[34] ++ ByteArray.mk (quo s.data.toList).toArray ++ ByteArray.mk #[34] = ⟨(34 :: quo s.data.toList ++ [34]).toArray⟩) := by
        show _ = _
        have e : (ByteArray.mk #[34]) = ⟨[34].toArray⟩ := rfl
        rw [e, ByteArray.mk_append_mk, ByteArray.mk_append_mk]; rfl
      clear hta
      go_wp2
      go_ret2
      exact ⟨by rw [hq.out]; show Ending.returned (.tuple #[.string _, _]) = Ending.returned (.tuple #[.string _, _]); rw [← hap.out]; rfl, hb⟩

end Go.Proofs.YtjbfdbccidhdfaaDoor

/-
  The contracts of the document's own Texts and Parts.
-/
namespace Go.Proofs.YtjbfdbccidhdfaaDoor
open Go.RowKit Sc
set_option linter.unusedVariables false
set_option maxRecDepth 20000

theorem own_ne {w : World} {B1 B2 e1 e2 : Nat} {v1 v2 : Value} {x1 x2 : List Value} (h1 : Own w B1 e1 v1 x1) (h2 : Own w B2 e2 v2 x2) (hne : e2 ≠ e1) : v2.ownBlock = none ∨ v2.ownBlock ≠ v1.ownBlock := by
  rcases h2.2 with ⟨rfl, _⟩ | ⟨g2, c2, u2, rfl, _, hg2, _⟩
  · exact Or.inl rfl
  · right
    rcases h1.2 with ⟨rfl, _⟩ | ⟨g1, c1, u1, rfl, _, hg1, _⟩
    · simp [Value.ownBlock]
    · simp only [Value.ownBlock]
      intro e
      injection e with e
      rw [e, hg1] at hg2
      injection hg2 with hg2
      injection hg2 with _ hg2
      exact hne hg2.symm

/-- append, where another row of another type is owned, too. -/
theorem wp_app2 {P : Program} (w : World) {ops : Array Oper} {rest : List Oper} {o : Oper} {a : Act} {Q : Exit → Act → World → Prop} (hgd : o.guard = none)
    (s x : Operand) (t : TypeId) (ho : o.op = Op.call { callee := Callee.builtin Builtin.append, args := #[s, x], argTypes := #[t, t] }) (B : Nat) (e : TypeId) (i : TypeInfo)
    (z : Value) (bytes : Nat) (ht : P.underlying t = some (TypeDesc.slice e)) (hi : P.info? e = some i) (hz : i.zero = some z) (hsize : i.size = 1) (hby : i.bytes = bytes) (hzs : z.cells.size = 1)
    (v : Value) (xs : List Value) (hs : a.eval s = v) (hown : Own w B e v xs) {e2 : TypeId} {v2 : Value} {xs2 : List Value} (hown2 : Own w B e2 v2 xs2) (hne : e2 ≠ e)
    (ad : Addr) (m : Nat) (c : Nat) (news : List Value) (hx : a.eval x = Value.slice (some ad) m c) (hl : news.length = m)
    (hnews : ∀ (j : Nat) (u : Value), news[j]? = some u → w.cell? (ad.add j) = some u) (h1 : ∀ u ∈ news, u.oneCell' = true)
    (h63 : xs.length + m ≤ maxLen) (hbytes : (xs.length + m) * bytes ≤ 140737488355328) (w0 : World) (hb : Below B w0 w) (hB : B ≤ w.heap.size)
    (h : ∀ (v' : Value) (w' : World), Own w' B e v' (xs ++ news) → Own w' B e2 v2 xs2 → Below B w0 w' → B ≤ w'.heap.size → wpList P ops Q rest (a.put o.dst v') w') : wpList P ops Q (o :: rest) a w := by
  refine wpList_append_own w hgd s x t ho B e i z 1 bytes ht hi hz hsize hby hzs (by decide) v xs.length xs hs hown ad m c news hx (by simpa using hl) hnews h1 h63 hbytes hB ?_
  intro v' w' hown' hgr _
  refine h v' w' ?_ (World.ownsRow.kept hown2 hgr (own_ne hown hown2 hne)) (hb.grown hgr hB (fun k hk => (World.ownsRow.lt hown k hk).1)) (Nat.le_trans hB hgr.size)
  unfold Own
  rw [List.length_append, hl]
  exact hown'

theorem partsG_c {sep : Int} {p p' : Pl} {fr : Bool} {cur : List UInt8} {b : UInt8} {r : List UInt8} (h : pst p b.toNat = (p', fr)) (hn : ¬ (fr = true ∧ (b.toNat : Int) = sep)) :
    partsG sep p cur (b :: r) = partsG sep p' (cur ++ [b]) r := by
  rw [partsG, h, if_neg hn]
theorem partsG_s {sep : Int} {p p' : Pl} {cur : List UInt8} {b : UInt8} {r : List UInt8} (h : pst p b.toNat = (p', true)) (hn : (b.toNat : Int) = sep) :
    partsG sep p cur (b :: r) = cur :: partsG sep p' [] r := by
  rw [partsG, h, if_pos ⟨rfl, hn⟩]

set_option maxRecDepth 100000 in
set_option maxHeartbeats 4000000 in
theorem refparts_any (s : ByteArray) (sep : Int) (w : World) (hs : (s.size + 1) * 16 ≤ 140737488355328) :
    Calls Tryd.prog 45 #[.string s, .int .u8 sep] w fun e w' => ∃ v, e = .returned v ∧ Own w' w.heap.size 9 v (strs (partsV sep s.data.toList)) ∧ Below w.heap.size w w' := by
  obtain ⟨i0, hi, hz0, hz1, hz2⟩ := info_parts info5
  obtain ⟨j0, ki, kz0, kz1, kz2⟩ := info_parts info9
  go_enter Tryd.func45, Tryd.ntmps45
  go_wp2
  go_loopw [5, 6, 7, 8, 9] (fun out vb sq sa i wr => ∃ (k : Nat) (ps : List (List UInt8)) (cur : List UInt8) (q a : Bool), k ≤ s.size ∧ i = .int .i64 k ∧ sq = .bool q ∧ sa = .bool a ∧ ps.length ≤ k ∧ cur.length ≤ k ∧
      Own wr w.heap.size 9 out (strs ps) ∧ Own wr w.heap.size 5 vb (Lib.byteCells cur) ∧ Below w.heap.size w wr ∧ w.heap.size ≤ wr.heap.size ∧
      Hid (partsV sep s.data.toList = ps ++ partsG sep ⟨q, false, a⟩ cur (s.data.toList.drop k))) (fun _ _ _ _ i _ => s.size - (intOf i).toNat)
  case atStart => exact ⟨0, [], [], false, false, Nat.zero_le _, rfl, rfl, rfl, Nat.le_refl _, Nat.le_refl _, Own.nil _ _ _, Own.nil _ _ _, Below.refl _ _, Nat.le_refl _, rfl⟩
  case round =>
    obtain ⟨k, ps, cur, q, a, hk, rfl, rfl, rfl, hpl, hcl, hout, hcur, hb, hB, hpv⟩ := hrel
    by_cases hlt : k < s.size
    · have hu' := hpv.out
      rw [drop_cons s k hlt] at hu'
      clear hpv
      cases q with
      | true =>
        by_cases h34 : (s[k].toNat : Int) = 34
        · have h60 : ¬ (s[k].toNat : Int) = 60 := by omega
          have h62 : ¬ (s[k].toNat : Int) = 62 := by omega
          have h92 : ¬ (s[k].toNat : Int) = 92 := by omega
          have hn : Hid (partsV sep s.data.toList = ps ++ partsG sep ⟨false, false, a⟩ (cur ++ [s[k]]) (s.data.toList.drop (k + 1))) := by
            show _ = _; rw [hu', partsG_c (p' := ⟨false, false, a⟩) (fr := false) (by simp [pst, h34]) (by simp)]
          have e34 : ((s[k].toNat : Int) == 34) = true := by simpa using h34
          have n34 : ((s[k].toNat : Int) != 34) = false := by simp [h34]
          have e60 : ((s[k].toNat : Int) == 60) = false := by simpa using h60
          have n60 : ((s[k].toNat : Int) != 60) = true := by simp [h60]
          have e62 : ((s[k].toNat : Int) == 62) = false := by simpa using h62
          have n62 : ((s[k].toNat : Int) != 62) = true := by simp [h62]
          have e92 : ((s[k].toNat : Int) == 92) = false := by simpa using h92
          clear hu' h34 h60 h62 h92
          go_wp2_with (at_builtin; refine wp_app2 _ rfl (.tmp 86) (.tmp 88) 89 rfl w.heap.size 5 _ (.int .u8 0) 1 Tryd.underlying89 hi hz0 hz1 hz2 rfl _ _ rfl (hcur.alloc _) (hout.alloc _) (by decide) ⟨_, 0, none⟩ 1 1 (Lib.byteCells [s[k]]) rfl rfl (by exact one_new _ _ _) (byteCells_one _) (by rw [Lib.byteCells_length]; unfold maxLen; omega) (by rw [Lib.byteCells_length]; omega) w (hb.alloc hB _) (by simp; omega) ?_; intro v3 w3 hown3 hkeep3 hb3 hB3)
          rw [byteCells_snoc] at hown3
          go_wp2
          go_roundw
          case rel => exact ⟨k + 1, ps, _, false, a, by omega, by go_num, rfl, rfl, by omega, by simp; omega, hkeep3, hown3, hb3, hB3, hn⟩
          case measure => simp [intOf]; omega
        · by_cases h92 : (s[k].toNat : Int) = 92
          · by_cases hlt1 : k + 1 < s.size
            · rw [drop_cons s (k + 1) hlt1] at hu'
              have hn : Hid (partsV sep s.data.toList = ps ++ partsG sep ⟨true, false, a⟩ (cur ++ [s[k]] ++ [s[k + 1]]) (s.data.toList.drop (k + 1 + 1))) := by
                show _ = _; rw [hu', partsG_c (p' := ⟨true, true, a⟩) (fr := false) (by simp [pst, h92]) (by simp), partsG_c (p' := ⟨true, false, a⟩) (fr := false) (by simp [pst]) (by simp)]
              have e92 : ((s[k].toNat : Int) == 92) = true := by simpa using h92
              clear hu' h92 h34
              go_wp2_with (first
                | (at_builtin; refine wp_app2 _ rfl (.tmp 25) (.tmp 27) 89 rfl w.heap.size 5 _ (.int .u8 0) 1 Tryd.underlying89 hi hz0 hz1 hz2 rfl _ _ rfl (hcur.alloc _) (hout.alloc _) (by decide) ⟨_, 0, none⟩ 1 1 (Lib.byteCells [s[k]]) rfl rfl (by exact one_new _ _ _) (byteCells_one _) (by rw [Lib.byteCells_length]; unfold maxLen; omega) (by rw [Lib.byteCells_length]; omega) w (hb.alloc hB _) (by simp; omega) ?_; intro v2 w2 hown2 hkeep2 hb2 hB2)
                | (at_builtin; refine wp_app2 _ rfl (.tmp 36) (.tmp 40) 89 rfl w.heap.size 5 _ (.int .u8 0) 1 Tryd.underlying89 hi hz0 hz1 hz2 rfl _ _ rfl (hown2.alloc _) (hkeep2.alloc _) (by decide) ⟨_, 0, none⟩ 1 1 (Lib.byteCells [s[k + 1]]) rfl rfl (by exact one_new _ _ _) (byteCells_one _) (by simp [Lib.byteCells]; unfold maxLen; omega) (by simp [Lib.byteCells]; omega) w (hb2.alloc hB2 _) (by simp; omega) ?_; intro v3 w3 hown3 hkeep3 hb3 hB3))
              rw [byteCells_snoc, byteCells_snoc] at hown3
              go_wp2
              go_roundw
              case rel => exact ⟨k + 1 + 1, ps, _, true, a, by omega, by go_num, rfl, rfl, by omega, by simp; omega, hkeep3, hown3, hb3, hB3, hn⟩
              case measure => simp [intOf]; omega
            · have hn : Hid (partsV sep s.data.toList = ps ++ partsG sep ⟨true, false, a⟩ (cur ++ [s[k]]) (s.data.toList.drop (k + 1))) := by
                show _ = _; rw [hu', partsG_c (p' := ⟨true, true, a⟩) (fr := false) (by simp [pst, h92]) (by simp), drop_all s (k + 1) (by omega)]; rfl
              have e92 : ((s[k].toNat : Int) == 92) = true := by simpa using h92
              clear hu' h92 h34
              go_wp2_with (at_builtin; refine wp_app2 _ rfl (.tmp 25) (.tmp 27) 89 rfl w.heap.size 5 _ (.int .u8 0) 1 Tryd.underlying89 hi hz0 hz1 hz2 rfl _ _ rfl (hcur.alloc _) (hout.alloc _) (by decide) ⟨_, 0, none⟩ 1 1 (Lib.byteCells [s[k]]) rfl rfl (by exact one_new _ _ _) (byteCells_one _) (by rw [Lib.byteCells_length]; unfold maxLen; omega) (by rw [Lib.byteCells_length]; omega) w (hb.alloc hB _) (by simp; omega) ?_; intro v3 w3 hown3 hkeep3 hb3 hB3)
              rw [byteCells_snoc] at hown3
              go_wp2
              go_roundw
              case rel => exact ⟨k + 1, ps, _, true, a, by omega, by go_num, rfl, rfl, by omega, by simp; omega, hkeep3, hown3, hb3, hB3, hn⟩
              case measure => simp [intOf]; omega
          · 
            have hn : Hid (partsV sep s.data.toList = ps ++ partsG sep ⟨true, false, a⟩ (cur ++ [s[k]]) (s.data.toList.drop (k + 1))) := by
              show _ = _; rw [hu', partsG_c (p' := ⟨true, false, a⟩) (fr := false) (by simp [pst, h34, h92]) (by simp)]
            have e34 : ((s[k].toNat : Int) == 34) = false := by simpa using h34
            have n34 : ((s[k].toNat : Int) != 34) = true := by simp [h34]
            have e92 : ((s[k].toNat : Int) == 92) = false := by simpa using h92
            clear hu' h34 h92
            go_wp2_with (at_builtin; refine wp_app2 _ rfl (.tmp 86) (.tmp 88) 89 rfl w.heap.size 5 _ (.int .u8 0) 1 Tryd.underlying89 hi hz0 hz1 hz2 rfl _ _ rfl (hcur.alloc _) (hout.alloc _) (by decide) ⟨_, 0, none⟩ 1 1 (Lib.byteCells [s[k]]) rfl rfl (by exact one_new _ _ _) (byteCells_one _) (by rw [Lib.byteCells_length]; unfold maxLen; omega) (by rw [Lib.byteCells_length]; omega) w (hb.alloc hB _) (by simp; omega) ?_; intro v3 w3 hown3 hkeep3 hb3 hB3)
            rw [byteCells_snoc] at hown3
            go_wp2
            go_roundw
            case rel => exact ⟨k + 1, ps, _, true, a, by omega, by go_num, rfl, rfl, by omega, by simp; omega, hkeep3, hown3, hb3, hB3, hn⟩
            case measure => simp [intOf]; omega
      | false =>
        cases a with
        | true =>
          by_cases h34 : (s[k].toNat : Int) = 34
          · have h60 : ¬ (s[k].toNat : Int) = 60 := by omega
            have h62 : ¬ (s[k].toNat : Int) = 62 := by omega
            have hn : Hid (partsV sep s.data.toList = ps ++ partsG sep ⟨true, false, true⟩ (cur ++ [s[k]]) (s.data.toList.drop (k + 1))) := by
              show _ = _; rw [hu', partsG_c (p' := ⟨true, false, true⟩) (fr := false) (by simp [pst, h34]) (by simp)]
            have e34 : ((s[k].toNat : Int) == 34) = true := by simpa using h34
            have n34 : ((s[k].toNat : Int) != 34) = false := by simp [h34]
            have e60 : ((s[k].toNat : Int) == 60) = false := by simpa using h60
            have n60 : ((s[k].toNat : Int) != 60) = true := by simp [h60]
            have e62 : ((s[k].toNat : Int) == 62) = false := by simpa using h62
            have n62 : ((s[k].toNat : Int) != 62) = true := by simp [h62]
            clear hu' h34 h60 h62
            go_wp2_with (at_builtin; refine wp_app2 _ rfl (.tmp 86) (.tmp 88) 89 rfl w.heap.size 5 _ (.int .u8 0) 1 Tryd.underlying89 hi hz0 hz1 hz2 rfl _ _ rfl (hcur.alloc _) (hout.alloc _) (by decide) ⟨_, 0, none⟩ 1 1 (Lib.byteCells [s[k]]) rfl rfl (by exact one_new _ _ _) (byteCells_one _) (by rw [Lib.byteCells_length]; unfold maxLen; omega) (by rw [Lib.byteCells_length]; omega) w (hb.alloc hB _) (by simp; omega) ?_; intro v3 w3 hown3 hkeep3 hb3 hB3)
            rw [byteCells_snoc] at hown3
            go_wp2
            go_roundw
            case rel => exact ⟨k + 1, ps, _, true, true, by omega, by go_num, rfl, rfl, by omega, by simp; omega, hkeep3, hown3, hb3, hB3, hn⟩
            case measure => simp [intOf]; omega
          · by_cases h60 : (s[k].toNat : Int) = 60
            · have h62 : ¬ (s[k].toNat : Int) = 62 := by omega
              have hn : Hid (partsV sep s.data.toList = ps ++ partsG sep ⟨false, false, true⟩ (cur ++ [s[k]]) (s.data.toList.drop (k + 1))) := by
                show _ = _; rw [hu', partsG_c (p' := ⟨false, false, true⟩) (fr := false) (by simp [pst, h60]) (by simp)]
              have e34 : ((s[k].toNat : Int) == 34) = false := by simpa using h34
              have n34 : ((s[k].toNat : Int) != 34) = true := by simp [h34]
              have e60 : ((s[k].toNat : Int) == 60) = true := by simpa using h60
              have n60 : ((s[k].toNat : Int) != 60) = false := by simp [h60]
              have e62 : ((s[k].toNat : Int) == 62) = false := by simpa using h62
              have n62 : ((s[k].toNat : Int) != 62) = true := by simp [h62]
              clear hu' h34 h60 h62
              go_wp2_with (at_builtin; refine wp_app2 _ rfl (.tmp 86) (.tmp 88) 89 rfl w.heap.size 5 _ (.int .u8 0) 1 Tryd.underlying89 hi hz0 hz1 hz2 rfl _ _ rfl (hcur.alloc _) (hout.alloc _) (by decide) ⟨_, 0, none⟩ 1 1 (Lib.byteCells [s[k]]) rfl rfl (by exact one_new _ _ _) (byteCells_one _) (by rw [Lib.byteCells_length]; unfold maxLen; omega) (by rw [Lib.byteCells_length]; omega) w (hb.alloc hB _) (by simp; omega) ?_; intro v3 w3 hown3 hkeep3 hb3 hB3)
              rw [byteCells_snoc] at hown3
              go_wp2
              go_roundw
              case rel => exact ⟨k + 1, ps, _, false, true, by omega, by go_num, rfl, rfl, by omega, by simp; omega, hkeep3, hown3, hb3, hB3, hn⟩
              case measure => simp [intOf]; omega
            · by_cases h62 : (s[k].toNat : Int) = 62
              · 
                have hn : Hid (partsV sep s.data.toList = ps ++ partsG sep ⟨false, false, false⟩ (cur ++ [s[k]]) (s.data.toList.drop (k + 1))) := by
                  show _ = _; rw [hu', partsG_c (p' := ⟨false, false, false⟩) (fr := false) (by simp [pst, h62]) (by simp)]
                have e34 : ((s[k].toNat : Int) == 34) = false := by simpa using h34
                have n34 : ((s[k].toNat : Int) != 34) = true := by simp [h34]
                have e60 : ((s[k].toNat : Int) == 60) = false := by simpa using h60
                have n60 : ((s[k].toNat : Int) != 60) = true := by simp [h60]
                have e62 : ((s[k].toNat : Int) == 62) = true := by simpa using h62
                have n62 : ((s[k].toNat : Int) != 62) = false := by simp [h62]
                clear hu' h34 h60 h62
                go_wp2_with (at_builtin; refine wp_app2 _ rfl (.tmp 86) (.tmp 88) 89 rfl w.heap.size 5 _ (.int .u8 0) 1 Tryd.underlying89 hi hz0 hz1 hz2 rfl _ _ rfl (hcur.alloc _) (hout.alloc _) (by decide) ⟨_, 0, none⟩ 1 1 (Lib.byteCells [s[k]]) rfl rfl (by exact one_new _ _ _) (byteCells_one _) (by rw [Lib.byteCells_length]; unfold maxLen; omega) (by rw [Lib.byteCells_length]; omega) w (hb.alloc hB _) (by simp; omega) ?_; intro v3 w3 hown3 hkeep3 hb3 hB3)
                rw [byteCells_snoc] at hown3
                go_wp2
                go_roundw
                case rel => exact ⟨k + 1, ps, _, false, false, by omega, by go_num, rfl, rfl, by omega, by simp; omega, hkeep3, hown3, hb3, hB3, hn⟩
                case measure => simp [intOf]; omega
              · 
                have hn : Hid (partsV sep s.data.toList = ps ++ partsG sep ⟨false, false, true⟩ (cur ++ [s[k]]) (s.data.toList.drop (k + 1))) := by
                  show _ = _; rw [hu', partsG_c (p' := ⟨false, false, true⟩) (fr := false) (by simp [pst, h34, h60, h62]) (by simp)]
                have e34 : ((s[k].toNat : Int) == 34) = false := by simpa using h34
                have n34 : ((s[k].toNat : Int) != 34) = true := by simp [h34]
                have e60 : ((s[k].toNat : Int) == 60) = false := by simpa using h60
                have n60 : ((s[k].toNat : Int) != 60) = true := by simp [h60]
                have e62 : ((s[k].toNat : Int) == 62) = false := by simpa using h62
                have n62 : ((s[k].toNat : Int) != 62) = true := by simp [h62]
                clear hu' h34 h60 h62
                go_wp2_with (at_builtin; refine wp_app2 _ rfl (.tmp 86) (.tmp 88) 89 rfl w.heap.size 5 _ (.int .u8 0) 1 Tryd.underlying89 hi hz0 hz1 hz2 rfl _ _ rfl (hcur.alloc _) (hout.alloc _) (by decide) ⟨_, 0, none⟩ 1 1 (Lib.byteCells [s[k]]) rfl rfl (by exact one_new _ _ _) (byteCells_one _) (by rw [Lib.byteCells_length]; unfold maxLen; omega) (by rw [Lib.byteCells_length]; omega) w (hb.alloc hB _) (by simp; omega) ?_; intro v3 w3 hown3 hkeep3 hb3 hB3)
                rw [byteCells_snoc] at hown3
                go_wp2
                go_roundw
                case rel => exact ⟨k + 1, ps, _, false, true, by omega, by go_num, rfl, rfl, by omega, by simp; omega, hkeep3, hown3, hb3, hB3, hn⟩
                case measure => simp [intOf]; omega
        | false =>
          by_cases h34 : (s[k].toNat : Int) = 34
          · have h60 : ¬ (s[k].toNat : Int) = 60 := by omega
            have h62 : ¬ (s[k].toNat : Int) = 62 := by omega
            by_cases hsep : (s[k].toNat : Int) = sep
            · 
              have hn : Hid (partsV sep s.data.toList = ps ++ partsG sep ⟨true, false, false⟩ (cur ++ [s[k]]) (s.data.toList.drop (k + 1))) := by
                show _ = _; rw [hu', partsG_c (p' := ⟨true, false, false⟩) (fr := false) (by simp [pst, h34]) (by simp)]
              have e34 : ((s[k].toNat : Int) == 34) = true := by simpa using h34
              have n34 : ((s[k].toNat : Int) != 34) = false := by simp [h34]
              have e60 : ((s[k].toNat : Int) == 60) = false := by simpa using h60
              have n60 : ((s[k].toNat : Int) != 60) = true := by simp [h60]
              have e62 : ((s[k].toNat : Int) == 62) = false := by simpa using h62
              have n62 : ((s[k].toNat : Int) != 62) = true := by simp [h62]
              have esep : ((s[k].toNat : Int) == sep) = true := by simpa using hsep
              clear hu' h34 h60 h62 hsep
              go_wp2_with (at_builtin; refine wp_app2 _ rfl (.tmp 86) (.tmp 88) 89 rfl w.heap.size 5 _ (.int .u8 0) 1 Tryd.underlying89 hi hz0 hz1 hz2 rfl _ _ rfl (hcur.alloc _) (hout.alloc _) (by decide) ⟨_, 0, none⟩ 1 1 (Lib.byteCells [s[k]]) rfl rfl (by exact one_new _ _ _) (byteCells_one _) (by rw [Lib.byteCells_length]; unfold maxLen; omega) (by rw [Lib.byteCells_length]; omega) w (hb.alloc hB _) (by simp; omega) ?_; intro v3 w3 hown3 hkeep3 hb3 hB3)
              rw [byteCells_snoc] at hown3
              go_wp2
              go_roundw
              case rel => exact ⟨k + 1, ps, _, true, false, by omega, by go_num, rfl, rfl, by omega, by simp; omega, hkeep3, hown3, hb3, hB3, hn⟩
              case measure => simp [intOf]; omega
            · 
              have hn : Hid (partsV sep s.data.toList = ps ++ partsG sep ⟨true, false, false⟩ (cur ++ [s[k]]) (s.data.toList.drop (k + 1))) := by
                show _ = _; rw [hu', partsG_c (p' := ⟨true, false, false⟩) (fr := false) (by simp [pst, h34]) (by simp)]
              have e34 : ((s[k].toNat : Int) == 34) = true := by simpa using h34
              have n34 : ((s[k].toNat : Int) != 34) = false := by simp [h34]
              have e60 : ((s[k].toNat : Int) == 60) = false := by simpa using h60
              have n60 : ((s[k].toNat : Int) != 60) = true := by simp [h60]
              have e62 : ((s[k].toNat : Int) == 62) = false := by simpa using h62
              have n62 : ((s[k].toNat : Int) != 62) = true := by simp [h62]
              have esep : ((s[k].toNat : Int) == sep) = false := by simpa using hsep
              clear hu' h34 h60 h62 hsep
              go_wp2_with (at_builtin; refine wp_app2 _ rfl (.tmp 86) (.tmp 88) 89 rfl w.heap.size 5 _ (.int .u8 0) 1 Tryd.underlying89 hi hz0 hz1 hz2 rfl _ _ rfl (hcur.alloc _) (hout.alloc _) (by decide) ⟨_, 0, none⟩ 1 1 (Lib.byteCells [s[k]]) rfl rfl (by exact one_new _ _ _) (byteCells_one _) (by rw [Lib.byteCells_length]; unfold maxLen; omega) (by rw [Lib.byteCells_length]; omega) w (hb.alloc hB _) (by simp; omega) ?_; intro v3 w3 hown3 hkeep3 hb3 hB3)
              rw [byteCells_snoc] at hown3
              go_wp2
              go_roundw
              case rel => exact ⟨k + 1, ps, _, true, false, by omega, by go_num, rfl, rfl, by omega, by simp; omega, hkeep3, hown3, hb3, hB3, hn⟩
              case measure => simp [intOf]; omega
          · by_cases h60 : (s[k].toNat : Int) = 60
            · have h62 : ¬ (s[k].toNat : Int) = 62 := by omega
              by_cases hsep : (s[k].toNat : Int) = sep
              · 
                have hn : Hid (partsV sep s.data.toList = ps ++ partsG sep ⟨false, false, true⟩ (cur ++ [s[k]]) (s.data.toList.drop (k + 1))) := by
                  show _ = _; rw [hu', partsG_c (p' := ⟨false, false, true⟩) (fr := false) (by simp [pst, h60]) (by simp)]
                have e34 : ((s[k].toNat : Int) == 34) = false := by simpa using h34
                have n34 : ((s[k].toNat : Int) != 34) = true := by simp [h34]
                have e60 : ((s[k].toNat : Int) == 60) = true := by simpa using h60
                have n60 : ((s[k].toNat : Int) != 60) = false := by simp [h60]
                have e62 : ((s[k].toNat : Int) == 62) = false := by simpa using h62
                have n62 : ((s[k].toNat : Int) != 62) = true := by simp [h62]
                have esep : ((s[k].toNat : Int) == sep) = true := by simpa using hsep
                clear hu' h34 h60 h62 hsep
                go_wp2_with (at_builtin; refine wp_app2 _ rfl (.tmp 86) (.tmp 88) 89 rfl w.heap.size 5 _ (.int .u8 0) 1 Tryd.underlying89 hi hz0 hz1 hz2 rfl _ _ rfl (hcur.alloc _) (hout.alloc _) (by decide) ⟨_, 0, none⟩ 1 1 (Lib.byteCells [s[k]]) rfl rfl (by exact one_new _ _ _) (byteCells_one _) (by rw [Lib.byteCells_length]; unfold maxLen; omega) (by rw [Lib.byteCells_length]; omega) w (hb.alloc hB _) (by simp; omega) ?_; intro v3 w3 hown3 hkeep3 hb3 hB3)
                rw [byteCells_snoc] at hown3
                go_wp2
                go_roundw
                case rel => exact ⟨k + 1, ps, _, false, true, by omega, by go_num, rfl, rfl, by omega, by simp; omega, hkeep3, hown3, hb3, hB3, hn⟩
                case measure => simp [intOf]; omega
              · 
                have hn : Hid (partsV sep s.data.toList = ps ++ partsG sep ⟨false, false, true⟩ (cur ++ [s[k]]) (s.data.toList.drop (k + 1))) := by
                  show _ = _; rw [hu', partsG_c (p' := ⟨false, false, true⟩) (fr := false) (by simp [pst, h60]) (by simp)]
                have e34 : ((s[k].toNat : Int) == 34) = false := by simpa using h34
                have n34 : ((s[k].toNat : Int) != 34) = true := by simp [h34]
                have e60 : ((s[k].toNat : Int) == 60) = true := by simpa using h60
                have n60 : ((s[k].toNat : Int) != 60) = false := by simp [h60]
                have e62 : ((s[k].toNat : Int) == 62) = false := by simpa using h62
                have n62 : ((s[k].toNat : Int) != 62) = true := by simp [h62]
                have esep : ((s[k].toNat : Int) == sep) = false := by simpa using hsep
                clear hu' h34 h60 h62 hsep
                go_wp2_with (at_builtin; refine wp_app2 _ rfl (.tmp 86) (.tmp 88) 89 rfl w.heap.size 5 _ (.int .u8 0) 1 Tryd.underlying89 hi hz0 hz1 hz2 rfl _ _ rfl (hcur.alloc _) (hout.alloc _) (by decide) ⟨_, 0, none⟩ 1 1 (Lib.byteCells [s[k]]) rfl rfl (by exact one_new _ _ _) (byteCells_one _) (by rw [Lib.byteCells_length]; unfold maxLen; omega) (by rw [Lib.byteCells_length]; omega) w (hb.alloc hB _) (by simp; omega) ?_; intro v3 w3 hown3 hkeep3 hb3 hB3)
                rw [byteCells_snoc] at hown3
                go_wp2
                go_roundw
                case rel => exact ⟨k + 1, ps, _, false, true, by omega, by go_num, rfl, rfl, by omega, by simp; omega, hkeep3, hown3, hb3, hB3, hn⟩
                case measure => simp [intOf]; omega
            · by_cases h62 : (s[k].toNat : Int) = 62
              · 
                by_cases hsep : (s[k].toNat : Int) = sep
                · 
                  have hn : Hid (partsV sep s.data.toList = ps ++ partsG sep ⟨false, false, false⟩ (cur ++ [s[k]]) (s.data.toList.drop (k + 1))) := by
                    show _ = _; rw [hu', partsG_c (p' := ⟨false, false, false⟩) (fr := false) (by simp [pst, h62]) (by simp)]
                  have e34 : ((s[k].toNat : Int) == 34) = false := by simpa using h34
                  have n34 : ((s[k].toNat : Int) != 34) = true := by simp [h34]
                  have e60 : ((s[k].toNat : Int) == 60) = false := by simpa using h60
                  have n60 : ((s[k].toNat : Int) != 60) = true := by simp [h60]
                  have e62 : ((s[k].toNat : Int) == 62) = true := by simpa using h62
                  have n62 : ((s[k].toNat : Int) != 62) = false := by simp [h62]
                  have esep : ((s[k].toNat : Int) == sep) = true := by simpa using hsep
                  clear hu' h34 h60 h62 hsep
                  go_wp2_with (at_builtin; refine wp_app2 _ rfl (.tmp 86) (.tmp 88) 89 rfl w.heap.size 5 _ (.int .u8 0) 1 Tryd.underlying89 hi hz0 hz1 hz2 rfl _ _ rfl (hcur.alloc _) (hout.alloc _) (by decide) ⟨_, 0, none⟩ 1 1 (Lib.byteCells [s[k]]) rfl rfl (by exact one_new _ _ _) (byteCells_one _) (by rw [Lib.byteCells_length]; unfold maxLen; omega) (by rw [Lib.byteCells_length]; omega) w (hb.alloc hB _) (by simp; omega) ?_; intro v3 w3 hown3 hkeep3 hb3 hB3)
                  rw [byteCells_snoc] at hown3
                  go_wp2
                  go_roundw
                  case rel => exact ⟨k + 1, ps, _, false, false, by omega, by go_num, rfl, rfl, by omega, by simp; omega, hkeep3, hown3, hb3, hB3, hn⟩
                  case measure => simp [intOf]; omega
                · 
                  have hn : Hid (partsV sep s.data.toList = ps ++ partsG sep ⟨false, false, false⟩ (cur ++ [s[k]]) (s.data.toList.drop (k + 1))) := by
                    show _ = _; rw [hu', partsG_c (p' := ⟨false, false, false⟩) (fr := false) (by simp [pst, h62]) (by simp)]
                  have e34 : ((s[k].toNat : Int) == 34) = false := by simpa using h34
                  have n34 : ((s[k].toNat : Int) != 34) = true := by simp [h34]
                  have e60 : ((s[k].toNat : Int) == 60) = false := by simpa using h60
                  have n60 : ((s[k].toNat : Int) != 60) = true := by simp [h60]
                  have e62 : ((s[k].toNat : Int) == 62) = true := by simpa using h62
                  have n62 : ((s[k].toNat : Int) != 62) = false := by simp [h62]
                  have esep : ((s[k].toNat : Int) == sep) = false := by simpa using hsep
                  clear hu' h34 h60 h62 hsep
                  go_wp2_with (at_builtin; refine wp_app2 _ rfl (.tmp 86) (.tmp 88) 89 rfl w.heap.size 5 _ (.int .u8 0) 1 Tryd.underlying89 hi hz0 hz1 hz2 rfl _ _ rfl (hcur.alloc _) (hout.alloc _) (by decide) ⟨_, 0, none⟩ 1 1 (Lib.byteCells [s[k]]) rfl rfl (by exact one_new _ _ _) (byteCells_one _) (by rw [Lib.byteCells_length]; unfold maxLen; omega) (by rw [Lib.byteCells_length]; omega) w (hb.alloc hB _) (by simp; omega) ?_; intro v3 w3 hown3 hkeep3 hb3 hB3)
                  rw [byteCells_snoc] at hown3
                  go_wp2
                  go_roundw
                  case rel => exact ⟨k + 1, ps, _, false, false, by omega, by go_num, rfl, rfl, by omega, by simp; omega, hkeep3, hown3, hb3, hB3, hn⟩
                  case measure => simp [intOf]; omega
              · by_cases hsep : (s[k].toNat : Int) = sep
                · have hn : Hid (partsV sep s.data.toList = ps ++ [cur] ++ partsG sep ⟨false, false, false⟩ [] (s.data.toList.drop (k + 1))) := by
                    show _ = _; rw [hu', partsG_s (p' := ⟨false, false, false⟩) (by simp [pst, h34, h60, h62]) hsep, List.append_assoc]; rfl
                  have e34 : ((s[k].toNat : Int) == 34) = false := by simpa using h34
                  have n34 : ((s[k].toNat : Int) != 34) = true := by simp [h34]
                  have e60 : ((s[k].toNat : Int) == 60) = false := by simpa using h60
                  have n60 : ((s[k].toNat : Int) != 60) = true := by simp [h60]
                  have e62 : ((s[k].toNat : Int) == 62) = false := by simpa using h62
                  have n62 : ((s[k].toNat : Int) != 62) = true := by simp [h62]
                  have esep : ((s[k].toNat : Int) == sep) = true := by simpa using hsep
                  have hcv := conv_own (P := Tryd.prog) _ Tryd.underlying89 Tryd.underlying5 Tryd.underlying9 hcur
                  clear hu' h34 h60 h62 hsep
                  go_wp2_with (at_builtin; refine wp_app2 _ rfl (.tmp 65) (.tmp 68) 58 rfl w.heap.size 9 _ (.string .empty) 16 Tryd.underlying58 ki kz0 kz1 kz2 rfl _ _ rfl (hout.alloc _) (hcur.alloc _) (by decide) ⟨_, 0, none⟩ 1 1 (strs [cur]) rfl rfl (by exact one_new _ _ _) (strs_one _) (by rw [strs_length]; unfold maxLen; omega) (by rw [strs_length]; omega) w (hb.alloc hB _) (by simp; omega) ?_; intro v3 w3 hown3 hkeep3 hb3 hB3)
                  rw [← strs_append] at hown3
                  go_wp2
                  go_roundw
                  case rel => exact ⟨k + 1, _, [], false, false, by omega, by go_num, rfl, rfl, by simp; omega, by simp, hown3, Own.nil _ _ _, hb3, hB3, hn⟩
                  case measure => simp [intOf]; omega
                · 
                  have hn : Hid (partsV sep s.data.toList = ps ++ partsG sep ⟨false, false, false⟩ (cur ++ [s[k]]) (s.data.toList.drop (k + 1))) := by
                    show _ = _; rw [hu', partsG_c (p' := ⟨false, false, false⟩) (fr := true) (by simp [pst, h34, h60, h62]) (by simp [hsep])]
                  have e34 : ((s[k].toNat : Int) == 34) = false := by simpa using h34
                  have n34 : ((s[k].toNat : Int) != 34) = true := by simp [h34]
                  have e60 : ((s[k].toNat : Int) == 60) = false := by simpa using h60
                  have n60 : ((s[k].toNat : Int) != 60) = true := by simp [h60]
                  have e62 : ((s[k].toNat : Int) == 62) = false := by simpa using h62
                  have n62 : ((s[k].toNat : Int) != 62) = true := by simp [h62]
                  have esep : ((s[k].toNat : Int) == sep) = false := by simpa using hsep
                  clear hu' h34 h60 h62 hsep
                  go_wp2_with (at_builtin; refine wp_app2 _ rfl (.tmp 86) (.tmp 88) 89 rfl w.heap.size 5 _ (.int .u8 0) 1 Tryd.underlying89 hi hz0 hz1 hz2 rfl _ _ rfl (hcur.alloc _) (hout.alloc _) (by decide) ⟨_, 0, none⟩ 1 1 (Lib.byteCells [s[k]]) rfl rfl (by exact one_new _ _ _) (byteCells_one _) (by rw [Lib.byteCells_length]; unfold maxLen; omega) (by rw [Lib.byteCells_length]; omega) w (hb.alloc hB _) (by simp; omega) ?_; intro v3 w3 hown3 hkeep3 hb3 hB3)
                  rw [byteCells_snoc] at hown3
                  go_wp2
                  go_roundw
                  case rel => exact ⟨k + 1, ps, _, false, false, by omega, by go_num, rfl, rfl, by omega, by simp; omega, hkeep3, hown3, hb3, hB3, hn⟩
                  case measure => simp [intOf]; omega
    · have hfin : Hid (partsV sep s.data.toList = ps ++ [cur]) := by
        show _ = _
        rw [hpv.out, drop_all s k (by omega)]; rfl
      have hcv := conv_own (P := Tryd.prog) _ Tryd.underlying89 Tryd.underlying5 Tryd.underlying9 hcur
      clear hpv
      go_wp2_with (at_builtin; refine wp_app2 _ rfl (.tmp 90) (.tmp 93) 58 rfl w.heap.size 9 _ (.string .empty) 16 Tryd.underlying58 ki kz0 kz1 kz2 rfl _ _ rfl (hout.alloc _) (hcur.alloc _) (by decide) ⟨_, 0, none⟩ 1 1 (strs [cur]) rfl rfl (by exact one_new _ _ _) (strs_one _) (by rw [strs_length]; unfold maxLen; omega) (by rw [strs_length]; omega) w (hb.alloc hB _) (by simp; omega) ?_; intro v3 w3 hown3 hkeep3 hb3 hB3)
      rw [← strs_append, ← hfin.out] at hown3
      go_wp2
      go_ret
      exact ⟨_, rfl, hown3, hb3⟩

end Go.Proofs.YtjbfdbccidhdfaaDoor
