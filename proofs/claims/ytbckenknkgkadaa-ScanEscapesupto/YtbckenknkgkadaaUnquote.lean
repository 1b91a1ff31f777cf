/-
  Contracts of Unquote.
-/
import Derived.Test.YtbckenknkgkadaaQuote
import Derived.Test.YtbckenknkgkadaaParts
namespace Go.Proofs.Ytbckenknkgkadaa
open Go.RowKit Sc
set_option linter.unusedVariables false

def badB (c : Int) : Bool := barB c || decide (127 < c)
/-- What stands between the marks of a quoted text, without the backslashes. -/
def unq : List UInt8 → Option (List UInt8)
  | [] => some []
  | [b] => if bareB b.toNat then some [b] else none
  | b :: c :: r => if (b.toNat : Int) = 92 then (if badB c.toNat then none else (unq r).map (c :: ·)) else if bareB b.toNat then (unq (c :: r)).map (b :: ·) else none

theorem unq_esc {b c : UInt8} {r : List UInt8} (h : (b.toNat : Int) = 92) : unq (b :: c :: r) = if badB c.toNat then none else (unq r).map (c :: ·) := by
  rw [unq, if_pos h]
theorem unq_plain {b : UInt8} {r : List UInt8} (h : (b.toNat : Int) ≠ 92 ∨ r = []) : unq (b :: r) = if bareB b.toNat then (unq r).map (b :: ·) else none := by
  cases r with
  | nil => simp [unq]
  | cons c r => rw [unq, if_neg (by rcases h with h | h; exact h; cases h)]
theorem map_snoc (acc : List UInt8) (b : UInt8) (x : Option (List UInt8)) : (x.map (b :: ·)).map (acc ++ ·) = x.map ((acc ++ [b]) ++ ·) := by
  cases x <;> simp

def unquoteV (l : List UInt8) : List UInt8 × Int :=
  if l.length < 2 ∨ l[0]?.map (·.toNat) ≠ some 34 ∨ l[l.length - 1]?.map (·.toNat) ≠ some 34 then ([], 11)
  else match unq (mid l 1 (l.length - 1)) with | some r => (r, 0) | none => ([], 11)

theorem unquoteV_some {l r : List UInt8} (h : ¬ (l.length < 2 ∨ l[0]?.map (·.toNat) ≠ some 34 ∨ l[l.length - 1]?.map (·.toNat) ≠ some 34)) (hr : unq (mid l 1 (l.length - 1)) = some r) : unquoteV l = (r, 0) := by
  rw [unquoteV, if_neg h, hr]
theorem unquoteV_none {l : List UInt8} (h : ¬ (l.length < 2 ∨ l[0]?.map (·.toNat) ≠ some 34 ∨ l[l.length - 1]?.map (·.toNat) ≠ some 34)) (hr : unq (mid l 1 (l.length - 1)) = none) : unquoteV l = ([], 11) := by
  rw [unquoteV, if_neg h, hr]
theorem unquoteV_bad {l : List UInt8} (h : l.length < 2 ∨ l[0]?.map (·.toNat) ≠ some 34 ∨ l[l.length - 1]?.map (·.toNat) ≠ some 34) : unquoteV l = ([], 11) := by
  rw [unquoteV, if_pos h]

/-- A loop's state: what is read so far is acc. -/
def UnqAt (l : List UInt8) (acc rest : List UInt8) : Prop := unq l = (unq rest).map (acc ++ ·)
theorem unqAt0 (l : List UInt8) : UnqAt l [] l := by unfold UnqAt; cases unq l <;> simp
theorem unqAt_end {l acc : List UInt8} (h : UnqAt l acc []) : unq l = some acc := by rw [h]; simp [unq]
theorem unqAt_esc {l acc : List UInt8} {b c : UInt8} {r : List UInt8} (h : UnqAt l acc (b :: c :: r)) (hb : (b.toNat : Int) = 92) (hc : badB c.toNat = false) : UnqAt l (acc ++ [c]) r := by
  unfold UnqAt at *
  rw [h, unq_esc hb, hc]; simp only [Bool.false_eq_true, if_false]; exact map_snoc acc c (unq r)
theorem unqAt_bad {l acc : List UInt8} {b c : UInt8} {r : List UInt8} (h : UnqAt l acc (b :: c :: r)) (hb : (b.toNat : Int) = 92) (hc : badB c.toNat = true) : unq l = none := by
  unfold UnqAt at h
  rw [h, unq_esc hb, hc]; rfl
theorem unqAt_bare {l acc : List UInt8} {b : UInt8} {r : List UInt8} (h : UnqAt l acc (b :: r)) (hb : (b.toNat : Int) ≠ 92 ∨ r = []) (hc : bareB b.toNat = true) : UnqAt l (acc ++ [b]) r := by
  unfold UnqAt at *
  rw [h, unq_plain hb, hc]; simp only [if_true]; exact map_snoc acc b (unq r)
theorem unqAt_not {l acc : List UInt8} {b : UInt8} {r : List UInt8} (h : UnqAt l acc (b :: r)) (hb : (b.toNat : Int) ≠ 92 ∨ r = []) (hc : bareB b.toNat = false) : unq l = none := by
  unfold UnqAt at h
  rw [h, unq_plain hb, hc]; rfl
theorem byteCells_snoc (l : List UInt8) (b : UInt8) : Lib.byteCells l ++ Lib.byteCells [b] = Lib.byteCells (l ++ [b]) := by rw [← Lib.byteCells_append]

theorem first_at {s : ByteArray} (h : 0 < s.size) : s.data.toList[0]?.map (·.toNat) = some (s[0]'h).toNat := by
  rw [getL s 0 h]; rfl
theorem last_at {s : ByteArray} (h : s.size - 1 < s.size) : s.data.toList[s.data.toList.length - 1]?.map (·.toNat) = some (s[s.size - 1]'h).toNat := by
  rw [len_data, getL s (s.size - 1) h]; rfl
theorem marks_ok {s : ByteArray} (h2 : 2 ≤ s.size) (hp0 : 0 < s.size) (hp1 : s.size - 1 < s.size) (h0 : ((s[0]'hp0).toNat : Int) = 34) (h1 : ((s[s.size - 1]'hp1).toNat : Int) = 34) :
    ¬ (s.data.toList.length < 2 ∨ s.data.toList[0]?.map (·.toNat) ≠ some 34 ∨ s.data.toList[s.data.toList.length - 1]?.map (·.toNat) ≠ some 34) := by
  rw [first_at hp0, last_at hp1, len_data]
  rintro (h | h | h)
  · omega
  · exact h (by congr 1; omega)
  · exact h (by congr 1; omega)

set_option maxHeartbeats 1000000 in
theorem unquote_short (s : ByteArray) (w : World) (h2 : s.size < 2) :
    Calls Try.prog 28 #[.string s] w fun e w' => e = .returned (.tuple #[.string ⟨(unquoteV s.data.toList).1.toArray⟩, .int .i64 (unquoteV s.data.toList).2]) ∧ Below w.heap.size w w' := by
  have hv : Hid (unquoteV s.data.toList = ([], 11)) := unquoteV_bad (Or.inl (by rw [len_data]; exact h2))
  go_enter Try.func28, Try.ntmps28
  go_wp2
  go_ret2
  exact ⟨ret_str [] 11 hv.out, Below.refl _ _⟩
set_option maxHeartbeats 1000000 in
theorem unquote_first (s : ByteArray) (w : World) (hs : s.size ≤ 140737488355328) (h2 : 2 ≤ s.size) (hp0 : 0 < s.size) (h0 : ((s[0]'hp0).toNat : Int) ≠ 34) :
    Calls Try.prog 28 #[.string s] w fun e w' => e = .returned (.tuple #[.string ⟨(unquoteV s.data.toList).1.toArray⟩, .int .i64 (unquoteV s.data.toList).2]) ∧ Below w.heap.size w w' := by
  have hv : Hid (unquoteV s.data.toList = ([], 11)) := unquoteV_bad (Or.inr (Or.inl (by rw [first_at hp0]; intro e; injection e with e; omega)))
  have e0 : (((s[0]'hp0).toNat : Int) != 34) = true := by simp [h0]
  clear h0
  go_enter Try.func28, Try.ntmps28
  go_wp2
  go_ret2
  exact ⟨ret_str [] 11 hv.out, Below.refl _ _⟩
set_option maxHeartbeats 1000000 in
theorem unquote_last (s : ByteArray) (w : World) (hs : s.size ≤ 140737488355328) (h2 : 2 ≤ s.size) (hp0 : 0 < s.size) (hp1 : s.size - 1 < s.size) (h0 : ((s[0]'hp0).toNat : Int) = 34) (h1 : ((s[s.size - 1]'hp1).toNat : Int) ≠ 34) :
    Calls Try.prog 28 #[.string s] w fun e w' => e = .returned (.tuple #[.string ⟨(unquoteV s.data.toList).1.toArray⟩, .int .i64 (unquoteV s.data.toList).2]) ∧ Below w.heap.size w w' := by
  have hv : Hid (unquoteV s.data.toList = ([], 11)) := unquoteV_bad (Or.inr (Or.inr (by rw [last_at hp1]; intro e; injection e with e; omega)))
  have e0 : (((s[0]'hp0).toNat : Int) != 34) = false := by simp [h0]
  have e1 : (((s[s.size - 1]'hp1).toNat : Int) != 34) = true := by simp [h1]
  have ht1 : ((s.size : Int) - 1).toNat = s.size - 1 := by omega
  clear h0 h1
  go_enter Try.func28, Try.ntmps28
  go_wp2
  go_ret2
  exact ⟨ret_str [] 11 hv.out, Below.refl _ _⟩

theorem badB_split {c : Int} (h : badB c = false) : barB c = false ∧ c ≤ 127 := by
  simp only [badB, Bool.or_eq_false_iff, decide_eq_false_iff_not] at h; exact ⟨h.1, by omega⟩

set_option maxHeartbeats 2000000 in
theorem unquote_marks (s : ByteArray) (w : World) (hs : s.size ≤ 140737488355328) (h2 : 2 ≤ s.size) (hp0 : 0 < s.size) (hp1 : s.size - 1 < s.size) (h0 : ((s[0]'hp0).toNat : Int) = 34) (h1 : ((s[s.size - 1]'hp1).toNat : Int) = 34) :
    Calls Try.prog 28 #[.string s] w fun e w' => e = .returned (.tuple #[.string ⟨(unquoteV s.data.toList).1.toArray⟩, .int .i64 (unquoteV s.data.toList).2]) ∧ Below w.heap.size w w' := by
  obtain ⟨i0, hi, hz0, hz1, hz2⟩ := info_parts info5
  have hok : Hid (¬ (s.data.toList.length < 2 ∨ s.data.toList[0]?.map (·.toNat) ≠ some 34 ∨ s.data.toList[s.data.toList.length - 1]?.map (·.toNat) ≠ some 34)) := marks_ok h2 hp0 hp1 h0 h1
  have e0 : (((s[0]'hp0).toNat : Int) != 34) = false := by simp [h0]
  have e1 : (((s[s.size - 1]'hp1).toNat : Int) != 34) = false := by simp [h1]
  have ht1 : ((s.size : Int) - 1).toNat = s.size - 1 := by omega
  have hin : Hid ((s.extract 1 (s.size - 1)).data.toList = mid s.data.toList 1 (s.data.toList.length - 1)) := by
    show _ = _; rw [ext_list, len_data]; simp [mid]
  have hisz : (s.extract 1 (s.size - 1)).size = s.size - 2 := by rw [ByteArray.size_extract]; omega
  have HSZ : Hid ((s.extract 1 (s.size - 1)).size = s.size - 2) := hisz
  clear h0 h1 hisz
  go_enter Try.func28, Try.ntmps28
  go_wp2_with (at_make; refine wp_make _ rfl _ _ 47 rfl w.heap.size 5 i0 (.int .u8 0) Try.underlying47 hi hz0 hz1 .i64 .i64 _ (s.size - 1 - 1) rfl rfl rfl (by rw [hz2]; omega) (by unfold maxLen; omega) w (Below.refl _ _) (Nat.le_refl _) ?_; intro v0 w1 hown1 hb1 hB1)
  generalize s.extract 1 (s.size - 1) = t at hin HSZ ⊢
  have hts : t.size ≤ 140737488355328 := by rw [HSZ.out]; omega
  go_loopw [5, 6] (fun v i wr => ∃ (k : Nat) (acc : List UInt8), k ≤ t.size ∧ i = .int .i64 k ∧ acc.length ≤ k ∧ Own wr w.heap.size 5 v (Lib.byteCells acc) ∧ Below w.heap.size w wr ∧ w.heap.size ≤ wr.heap.size ∧
      Hid (UnqAt (mid s.data.toList 1 (s.data.toList.length - 1)) acc (t.data.toList.drop k))) (fun _ i _ => t.size - (intOf i).toNat)
  case atStart => exact ⟨0, [], Nat.zero_le _, rfl, Nat.le_refl _, hown1, hb1, hB1, show UnqAt _ _ _ by rw [hin.out, List.drop_zero]; exact unqAt0 _⟩
  case round =>
    clear hown1 hb1 hB1 e0 e1 hin HSZ
    obtain ⟨k, acc, hk, rfl, hac, hown, hb, hB, hu⟩ := hrel
    by_cases hlt : k < t.size
    · by_cases hes : (t[k].toNat : Int) = 92 ∧ k + 1 < t.size
      · obtain ⟨h92, hlt1⟩ := hes
        have hu' := hu.out
        rw [drop_cons t k hlt, drop_cons t (k + 1) hlt1] at hu'
        have c1 : ((t[k].toNat : Int) == 92) = true := by simpa using h92
        by_cases hbad : badB t[k + 1].toNat = true
        · have hv : Hid (unquoteV s.data.toList = ([], 11)) := unquoteV_none hok.out (unqAt_bad hu' h92 hbad)
          clear hu hu' h92
          by_cases hbr : barB t[k + 1].toNat = true
          · go_wp2_with (go_at_call 40; refine (barred_any _ _).mono ?_; rintro e w' ⟨rfl, rfl⟩)
            go_ret2
            exact ⟨ret_str [] 11 hv.out, hb⟩
          · have hbr' : barB t[k + 1].toNat = false := by simpa using hbr
            have h127 : 127 < (t[k + 1].toNat : Int) := by rw [badB, hbr'] at hbad; simpa using hbad
            clear hbr hbad
            go_wp2_with (go_at_call 40; refine (barred_any _ _).mono ?_; rintro e w' ⟨rfl, rfl⟩)
            go_ret2
            exact ⟨ret_str [] 11 hv.out, hb⟩
        · have hbad' : badB t[k + 1].toNat = false := by simpa using hbad
          have hn : Hid (UnqAt (mid s.data.toList 1 (s.data.toList.length - 1)) (acc ++ [t[k + 1]]) (t.data.toList.drop (k + 1 + 1))) := unqAt_esc hu' h92 hbad'
          obtain ⟨hbr, h127⟩ := badB_split hbad'
          clear hu hu' h92 hbad hbad'
          go_wp2_with (first
            | (go_at_call 40; refine (barred_any _ _).mono ?_; rintro e w' ⟨rfl, rfl⟩)
            | (at_builtin; refine wp_app _ rfl (.tmp 65) (.tmp 69) 47 rfl w.heap.size 5 i0 (.int .u8 0) 1 Try.underlying47 hi hz0 hz1 hz2 rfl _ _ rfl (hown.alloc _) ⟨_, 0, none⟩ 1 1 (Lib.byteCells [t[k + 1]]) rfl rfl (by exact one_new _ _ _) (byteCells_one _) (by rw [Lib.byteCells_length]; unfold maxLen; omega) (by rw [Lib.byteCells_length]; omega) w (hb.alloc hB _) (by simp; omega) ?_; intro v3 w3 hown3 hb3 hB3))
          rw [byteCells_snoc] at hown3
          go_roundw
          case rel => exact ⟨k + 1 + 1, _, by omega, by go_num, by simp; omega, hown3, hb3, hB3, hn⟩
          case measure => simp [intOf]; omega
      · have hu' := hu.out
        rw [drop_cons t k hlt] at hu'
        have hside : (t[k].toNat : Int) ≠ 92 ∨ t.data.toList.drop (k + 1) = [] := by
          by_cases h92 : (t[k].toNat : Int) = 92
          · right; exact drop_all t (k + 1) (by have := fun h => hes ⟨h92, h⟩; omega)
          · left; exact h92
        by_cases hba : bareB t[k].toNat = true
        · have hn : Hid (UnqAt (mid s.data.toList 1 (s.data.toList.length - 1)) (acc ++ [t[k]]) (t.data.toList.drop (k + 1))) := unqAt_bare hu' hside hba
          by_cases h92 : (t[k].toNat : Int) = 92
          · rw [h92] at hba; exact absurd hba (by decide)
          · have c1 : ((t[k].toNat : Int) == 92) = false := by simpa using h92
            clear hu hu' hside hes h92
            go_wp2_with (first
              | (go_at_call 41; refine (bare_any _ _).mono ?_; rintro e w' ⟨rfl, rfl⟩)
              | (at_builtin; refine wp_app _ rfl (.tmp 65) (.tmp 69) 47 rfl w.heap.size 5 i0 (.int .u8 0) 1 Try.underlying47 hi hz0 hz1 hz2 rfl _ _ rfl (hown.alloc _) ⟨_, 0, none⟩ 1 1 (Lib.byteCells [t[k]]) rfl rfl (by exact one_new _ _ _) (byteCells_one _) (by rw [Lib.byteCells_length]; unfold maxLen; omega) (by rw [Lib.byteCells_length]; omega) w (hb.alloc hB _) (by simp; omega) ?_; intro v3 w3 hown3 hb3 hB3))
            rw [byteCells_snoc] at hown3
            go_roundw
            case rel => exact ⟨k + 1, _, by omega, by go_num, by simp; omega, hown3, hb3, hB3, hn⟩
            case measure => simp [intOf]; omega
        · have hba' : bareB t[k].toNat = false := by simpa using hba
          have hv : Hid (unquoteV s.data.toList = ([], 11)) := unquoteV_none hok.out (unqAt_not hu' hside hba')
          by_cases h92 : (t[k].toNat : Int) = 92
          · have c1 : ((t[k].toNat : Int) == 92) = true := by simpa using h92
            have c2 : ¬ (k + 1 < t.size) := fun h => hes ⟨h92, h⟩
            clear hu hu' hside hes h92 hba
            go_wp2_with (go_at_call 41; refine (bare_any _ _).mono ?_; rintro e w' ⟨rfl, rfl⟩)
            go_ret2
            exact ⟨ret_str [] 11 hv.out, hb⟩
          · have c1 : ((t[k].toNat : Int) == 92) = false := by simpa using h92
            clear hu hu' hside hes h92 hba
            go_wp2_with (go_at_call 41; refine (bare_any _ _).mono ?_; rintro e w' ⟨rfl, rfl⟩)
            go_ret2
            exact ⟨ret_str [] 11 hv.out, hb⟩
    · have hu' := hu.out
      rw [drop_all t k (by omega)] at hu'
      have hv : Hid (unquoteV s.data.toList = (acc, 0)) := unquoteV_some hok.out (unqAt_end hu')
      have hcv := conv_own (P := Try.prog) _ Try.underlying47 Try.underlying5 Try.underlying9 hown
      clear hu hu'
      go_wp2
      go_ret2
      exact ⟨ret_str acc 0 hv.out, hb⟩

theorem unquote_any (s : ByteArray) (w : World) (hs : s.size ≤ 140737488355328) :
    Calls Try.prog 28 #[.string s] w fun e w' => e = .returned (.tuple #[.string ⟨(unquoteV s.data.toList).1.toArray⟩, .int .i64 (unquoteV s.data.toList).2]) ∧ Below w.heap.size w w' := by
  by_cases h2 : 2 ≤ s.size
  · have hp0 : 0 < s.size := by omega
    have hp1 : s.size - 1 < s.size := by omega
    by_cases h0 : ((s[0]'hp0).toNat : Int) = 34
    · by_cases h1 : ((s[s.size - 1]'hp1).toNat : Int) = 34
      · exact unquote_marks s w hs h2 hp0 hp1 h0 h1
      · exact unquote_last s w hs h2 hp0 hp1 h0 h1
    · exact unquote_first s w hs h2 hp0 h0
  · exact unquote_short s w (by omega)

end Go.Proofs.Ytbckenknkgkadaa
