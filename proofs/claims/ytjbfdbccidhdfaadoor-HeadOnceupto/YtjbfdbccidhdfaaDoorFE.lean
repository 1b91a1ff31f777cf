/-
  Base texts, one behind another: Quote, Unquote, Escape, Unesc.
-/
import Derived.Test.YtjbfdbccidhdfaaDoorFA
import Derived.Test.YtjbfdbccidhdfaaDoorFC
import Derived.Deep.RegionLaw
import Derived.Deep.QuietTactic
import Derived.BigQuiet

/-
  The contract of Quote.
-/
namespace Go.Proofs.YtjbfdbccidhdfaaDoor
open Go.RowKit Sc
set_option linter.unusedVariables false
set_option maxRecDepth 20000

/-- The bytes of a quoted text, between its marks. -/
def quo : List UInt8 → List UInt8
  | [] => []
  | b :: r => (if bareB b.toNat then [b] else [92, b]) ++ quo r
def hasBar (l : List UInt8) : Bool := l.any fun b => barB b.toNat
def quoteV (l : List UInt8) : List UInt8 × Int := if hasBar l then ([], 11) else (34 :: quo l ++ [34], 0)

theorem quo_append (a b : List UInt8) : quo (a ++ b) = quo a ++ quo b := by
  induction a with
  | nil => rfl
  | cons x r ih => simp only [List.cons_append, quo, ih, List.append_assoc]
theorem quo_len (l : List UInt8) : (quo l).length ≤ 2 * l.length := by
  induction l with
  | nil => simp [quo]
  | cons x r ih => simp only [quo, List.length_append, List.length_cons]; split <;> simp <;> omega
theorem quo_snoc1 (l : List UInt8) (b : UInt8) (h : bareB b.toNat = true) : quo (l ++ [b]) = quo l ++ [b] := by simp [quo_append, quo, h]
theorem quo_snoc2 (l : List UInt8) (b : UInt8) (h : bareB b.toNat = false) : quo (l ++ [b]) = quo l ++ [92] ++ [b] := by simp [quo_append, quo, h]
theorem hasBar_hit {s : ByteArray} {k : Nat} (h : k < s.size) (hb : barB s[k].toNat = true) : hasBar s.data.toList = true := by
  rw [hasBar, List.any_eq_true]
  exact ⟨s[k], List.mem_of_getElem? (getL s k h), hb⟩
theorem hasBar_snoc (l : List UInt8) (b : UInt8) : hasBar (l ++ [b]) = (hasBar l || barB b.toNat) := by simp [hasBar]

theorem ret_str {p : List UInt8 × Int} (a : List UInt8) (b : Int) (h : p = (a, b)) : Ending.returned (.tuple #[.string ⟨a.toArray⟩, .int .i64 b]) = .returned (.tuple #[.string ⟨p.1.toArray⟩, .int .i64 p.2]) := by rw [h]

theorem quo_cells1 (l : List UInt8) (b : UInt8) (h : bareB b.toNat = true) : Lib.byteCells (34 :: quo l) ++ Lib.byteCells [b] = Lib.byteCells (34 :: quo (l ++ [b])) := by
  rw [quo_snoc1 l b h, ← Lib.byteCells_append]; rfl
theorem quo_cells2 (l : List UInt8) (b : UInt8) (h : bareB b.toNat = false) : Lib.byteCells (34 :: quo l) ++ Lib.byteCells [92] ++ Lib.byteCells [b] = Lib.byteCells (34 :: quo (l ++ [b])) := by
  rw [quo_snoc2 l b h, ← Lib.byteCells_append, ← Lib.byteCells_append]; rfl
theorem quo_cells_len (l : List UInt8) : (Lib.byteCells (34 :: quo l)).length ≤ 2 * l.length + 1 := by
  rw [Lib.byteCells_length]; have := quo_len l; simp; omega

set_option maxHeartbeats 1000000 in
theorem quote_any (s : ByteArray) (w : World) (hs : 2 * s.size + 2 ≤ 140737488355328) :
    Calls Tryd.prog 103 #[.string s] w fun e w' => e = .returned (.tuple #[.string ⟨(quoteV s.data.toList).1.toArray⟩, .int .i64 (quoteV s.data.toList).2]) ∧ Below w.heap.size w w' := by
  obtain ⟨i0, hi, hz0, hz1, hz2⟩ := info_parts info5
  go_enter Tryd.func103, Tryd.ntmps103
  go_wp2_with (first
    | (at_make; refine wp_make _ rfl _ _ 89 rfl w.heap.size 5 i0 (.int .u8 0) Tryd.underlying89 hi hz0 hz1 .i64 .i64 _ (s.size + 2) rfl rfl (by omega) (by rw [hz2]; omega) (by unfold maxLen; omega) w (Below.refl _ _) (Nat.le_refl _) ?_; intro v0 w1 hown1 hb1 hB1)
    | (at_builtin; refine wp_app _ rfl (.tmp 10) (.tmp 11) 89 rfl w.heap.size 5 i0 (.int .u8 0) 1 Tryd.underlying89 hi hz0 hz1 hz2 rfl _ (Lib.byteCells []) rfl (hown1.alloc _) ⟨w1.heap.size, 0, none⟩ 1 1 (Lib.byteCells [34]) rfl rfl (by exact one_new _ _ _) (byteCells_one _) (by unfold maxLen; simp [Lib.byteCells]) (by simp [Lib.byteCells]) w (hb1.alloc hB1 _) (by simp; omega) ?_; intro v2 w2 hown2 hb2 hB2))
  clear hown1 hb1 hB1
  go_loopw [4, 15] (fun v i wr => ∃ k : Nat, k ≤ s.size ∧ i = .int .i64 k ∧ Own wr w.heap.size 5 v (Lib.byteCells (34 :: quo (s.data.toList.take k))) ∧ Below w.heap.size w wr ∧ w.heap.size ≤ wr.heap.size ∧ Hid (hasBar (s.data.toList.take k) = false)) (fun _ i _ => s.size - (intOf i).toNat)
  case atStart => exact ⟨0, Nat.zero_le _, rfl, hown2, hb2, hB2, rfl⟩
  case round =>
    obtain ⟨k, hk, rfl, hown, hb, hB, hbar⟩ := hrel
    have hlen := quo_cells_len (s.data.toList.take k)
    have hlk : (s.data.toList.take k).length ≤ k := List.length_take_le _ _
    by_cases hlt : k < s.size
    · by_cases hbb : barB s[k].toNat = true
      · have hq : Hid (quoteV s.data.toList = ([], 11)) := by show _ = _; rw [quoteV, if_pos (hasBar_hit hlt hbb)]
        clear hlen hlk
        go_wp2_with (go_at_call 100; refine (barred_any _ _).mono ?_; rintro e w' ⟨rfl, rfl⟩)
        go_ret2
        exact ⟨ret_str [] 11 hq.out, hb⟩
      · have hbb' : barB s[k].toNat = false := by simpa using hbb
        clear hbb
        have hbar' : Hid (hasBar (s.data.toList.take (k + 1)) = false) := by show _ = _; rw [take_snoc s k hlt, hasBar_snoc, hbar.out, hbb']; rfl
        by_cases hba : bareB s[k].toNat = true
        · have hcs := quo_cells1 (s.data.toList.take k) s[k] hba
          rw [← take_snoc s k hlt] at hcs
          have HC : Hid _ := hcs; clear hcs
          go_wp2_with (first
            | (go_at_call 100; refine (barred_any _ _).mono ?_; rintro e w' ⟨rfl, rfl⟩)
            | (go_at_call 101; refine (bare_any _ _).mono ?_; rintro e w' ⟨rfl, rfl⟩)
            | (at_builtin; refine wp_app _ rfl (.tmp 30) (.tmp 34) 89 rfl w.heap.size 5 i0 (.int .u8 0) 1 Tryd.underlying89 hi hz0 hz1 hz2 rfl _ _ rfl (hown.alloc _) ⟨_, 0, none⟩ 1 1 (Lib.byteCells [s[k]]) rfl rfl (by exact one_new _ _ _) (byteCells_one _) (by unfold maxLen; omega) (by omega) w (hb.alloc hB _) (by simp; omega) ?_; intro v3 w3 hown3 hb3 hB3))
          rw [HC.out] at hown3
          go_roundw
          case rel => exact ⟨k + 1, by omega, by go_num, hown3, hb3, hB3, hbar'⟩
          case measure => simp [intOf]; omega
        · have hba' : bareB s[k].toNat = false := by simpa using hba
          clear hba
          have hcs := quo_cells2 (s.data.toList.take k) s[k] hba'
          rw [← take_snoc s k hlt] at hcs
          have HC : Hid _ := hcs; clear hcs
          go_wp2_with (first
            | (go_at_call 100; refine (barred_any _ _).mono ?_; rintro e w' ⟨rfl, rfl⟩)
            | (go_at_call 101; refine (bare_any _ _).mono ?_; rintro e w' ⟨rfl, rfl⟩)
            | (at_builtin; refine wp_app _ rfl (.tmp 27) (.tmp 28) 89 rfl w.heap.size 5 i0 (.int .u8 0) 1 Tryd.underlying89 hi hz0 hz1 hz2 rfl _ _ rfl (hown.alloc _) ⟨_, 0, none⟩ 1 1 (Lib.byteCells [92]) rfl rfl (by exact one_new _ _ _) (byteCells_one _) (by unfold maxLen; omega) (by omega) w (hb.alloc hB _) (by simp; omega) ?_; intro v2 w2 hown2 hb2 hB2)
            | (at_builtin; refine wp_app _ rfl (.tmp 30) (.tmp 34) 89 rfl w.heap.size 5 i0 (.int .u8 0) 1 Tryd.underlying89 hi hz0 hz1 hz2 rfl _ _ rfl (hown2.alloc _) ⟨_, 0, none⟩ 1 1 (Lib.byteCells [s[k]]) rfl rfl (by exact one_new _ _ _) (byteCells_one _) (by unfold maxLen; simp [Lib.byteCells] at hlen ⊢; omega) (by simp [Lib.byteCells] at hlen ⊢; omega) w (hb2.alloc hB2 _) (by simp; omega) ?_; intro v3 w3 hown3 hb3 hB3))
          rw [HC.out] at hown3
          go_roundw
          case rel => exact ⟨k + 1, by omega, by go_num, hown3, hb3, hB3, hbar'⟩
          case measure => simp [intOf]; omega
    · have hta := take_all s k (by omega)
      rw [hta] at hown hbar hlen
      have hq : Hid (quoteV s.data.toList = (34 :: quo s.data.toList ++ [34], 0)) := by show _ = _; rw [quoteV, hbar.out]; rfl
      have hsz := len_data s
      clear hta
      go_wp2_with (at_builtin; refine wp_app _ rfl (.tmp 37) (.tmp 38) 89 rfl w.heap.size 5 i0 (.int .u8 0) 1 Tryd.underlying89 hi hz0 hz1 hz2 rfl _ _ rfl (hown.alloc _) ⟨_, 0, none⟩ 1 1 (Lib.byteCells [34]) rfl rfl (by exact one_new _ _ _) (byteCells_one _) (by unfold maxLen; omega) (by omega) w (hb.alloc hB _) (by simp; omega) ?_; intro v3 w3 hown3 hb3 hB3; rw [← Lib.byteCells_append] at hown3; have hcv := conv_own (P := Tryd.prog) _ Tryd.underlying89 Tryd.underlying5 Tryd.underlying9 hown3)
      go_ret2
      exact ⟨ret_str (34 :: quo s.data.toList ++ [34]) 0 hq.out, hb3⟩

end Go.Proofs.YtjbfdbccidhdfaaDoor

/-
  Contracts of Unquote.
-/
namespace Go.Proofs.YtjbfdbccidhdfaaDoor
open Go.RowKit Sc
set_option linter.unusedVariables false
set_option maxRecDepth 20000

def badB (c : Int) : Bool := barB c || decide (127 < c)
/-- What stands between the marks of a quoted text, without the backslashes. -/
def unq : List UInt8 → Option (List UInt8)
  | [] => some []
  | [b] => if bareB b.toNat then some [b] else none
  | b :: c :: r => if (b.toNat : Int) = 92 then (if badB c.toNat then none else (unq r).map (c :: ·)) else if bareB b.toNat then (unq (c :: r)).map (b :: ·) else none

theorem unq_esc {b c : UInt8} {r : List UInt8} (h : (b.toNat : Int) = 92) : unq (b :: c :: r) = if badB c.toNat then none else (unq r).map (c :: ·) := by
  rw [unq, if_pos h]
theorem unq_plain {b : UInt8} {r : List UInt8} (h : (b.toNat : Int) ≠ 92 ∨ r = []) : unq (b :: r) = if bareB b.toNat then (unq r).map (b :: ·) else none := by
  cases r with
  | nil => simp [unq]
  | cons c r => rw [unq, if_neg (by rcases h with h | h; exact h; cases h)]
theorem map_snoc (acc : List UInt8) (b : UInt8) (x : Option (List UInt8)) : (x.map (b :: ·)).map (acc ++ ·) = x.map ((acc ++ [b]) ++ ·) := by
  cases x <;> simp

def unquoteV (l : List UInt8) : List UInt8 × Int :=
  if l.length < 2 ∨ l[0]?.map (·.toNat) ≠ some 34 ∨ l[l.length - 1]?.map (·.toNat) ≠ some 34 then ([], 11)
  else match unq (mid l 1 (l.length - 1)) with | some r => (r, 0) | none => ([], 11)

theorem unquoteV_some {l r : List UInt8} (h : ¬ (l.length < 2 ∨ l[0]?.map (·.toNat) ≠ some 34 ∨ l[l.length - 1]?.map (·.toNat) ≠ some 34)) (hr : unq (mid l 1 (l.length - 1)) = some r) : unquoteV l = (r, 0) := by
  rw [unquoteV, if_neg h, hr]
theorem unquoteV_none {l : List UInt8} (h : ¬ (l.length < 2 ∨ l[0]?.map (·.toNat) ≠ some 34 ∨ l[l.length - 1]?.map (·.toNat) ≠ some 34)) (hr : unq (mid l 1 (l.length - 1)) = none) : unquoteV l = ([], 11) := by
  rw [unquoteV, if_neg h, hr]
theorem unquoteV_bad {l : List UInt8} (h : l.length < 2 ∨ l[0]?.map (·.toNat) ≠ some 34 ∨ l[l.length - 1]?.map (·.toNat) ≠ some 34) : unquoteV l = ([], 11) := by
  rw [unquoteV, if_pos h]

/-- A loop's state: what is read so far is acc. -/
def UnqAt (l : List UInt8) (acc rest : List UInt8) : Prop := unq l = (unq rest).map (acc ++ ·)
theorem unqAt0 (l : List UInt8) : UnqAt l [] l := by unfold UnqAt; cases unq l <;> simp
theorem unqAt_end {l acc : List UInt8} (h : UnqAt l acc []) : unq l = some acc := by rw [h]; simp [unq]
theorem unqAt_esc {l acc : List UInt8} {b c : UInt8} {r : List UInt8} (h : UnqAt l acc (b :: c :: r)) (hb : (b.toNat : Int) = 92) (hc : badB c.toNat = false) : UnqAt l (acc ++ [c]) r := by
  unfold UnqAt at *
  rw [h, unq_esc hb, hc]; simp only [Bool.false_eq_true, if_false]; exact map_snoc acc c (unq r)
theorem unqAt_bad {l acc : List UInt8} {b c : UInt8} {r : List UInt8} (h : UnqAt l acc (b :: c :: r)) (hb : (b.toNat : Int) = 92) (hc : badB c.toNat = true) : unq l = none := by
  unfold UnqAt at h
  rw [h, unq_esc hb, hc]; rfl
theorem unqAt_bare {l acc : List UInt8} {b : UInt8} {r : List UInt8} (h : UnqAt l acc (b :: r)) (hb : (b.toNat : Int) ≠ 92 ∨ r = []) (hc : bareB b.toNat = true) : UnqAt l (acc ++ [b]) r := by
  unfold UnqAt at *
  rw [h, unq_plain hb, hc]; simp only [if_true]; exact map_snoc acc b (unq r)
theorem unqAt_not {l acc : List UInt8} {b : UInt8} {r : List UInt8} (h : UnqAt l acc (b :: r)) (hb : (b.toNat : Int) ≠ 92 ∨ r = []) (hc : bareB b.toNat = false) : unq l = none := by
  unfold UnqAt at h
  rw [h, unq_plain hb, hc]; rfl
theorem byteCells_snoc (l : List UInt8) (b : UInt8) : Lib.byteCells l ++ Lib.byteCells [b] = Lib.byteCells (l ++ [b]) := by rw [← Lib.byteCells_append]

theorem first_at {s : ByteArray} (h : 0 < s.size) : s.data.toList[0]?.map (·.toNat) = some (s[0]'h).toNat := by
  rw [getL s 0 h]; rfl
theorem last_at {s : ByteArray} (h : s.size - 1 < s.size) : s.data.toList[s.data.toList.length - 1]?.map (·.toNat) = some (s[s.size - 1]'h).toNat := by
  rw [len_data, getL s (s.size - 1) h]; rfl
theorem marks_ok {s : ByteArray} (h2 : 2 ≤ s.size) (hp0 : 0 < s.size) (hp1 : s.size - 1 < s.size) (h0 : ((s[0]'hp0).toNat : Int) = 34) (h1 : ((s[s.size - 1]'hp1).toNat : Int) = 34) :
    ¬ (s.data.toList.length < 2 ∨ s.data.toList[0]?.map (·.toNat) ≠ some 34 ∨ s.data.toList[s.data.toList.length - 1]?.map (·.toNat) ≠ some 34) := by
  rw [first_at hp0, last_at hp1, len_data]
  rintro (h | h | h)
  · omega
  · exact h (by congr 1; omega)
  · exact h (by congr 1; omega)

set_option maxHeartbeats 1000000 in
theorem unquote_short (s : ByteArray) (w : World) (h2 : s.size < 2) :
    Calls Tryd.prog 85 #[.string s] w fun e w' => e = .returned (.tuple #[.string ⟨(unquoteV s.data.toList).1.toArray⟩, .int .i64 (unquoteV s.data.toList).2]) ∧ Below w.heap.size w w' := by
  have hv : Hid (unquoteV s.data.toList = ([], 11)) := unquoteV_bad (Or.inl (by rw [len_data]; exact h2))
  go_enter Tryd.func85, Tryd.ntmps85
  go_wp2
  go_ret2
  exact ⟨ret_str [] 11 hv.out, Below.refl _ _⟩
set_option maxHeartbeats 1000000 in
theorem unquote_first (s : ByteArray) (w : World) (hs : s.size ≤ 140737488355328) (h2 : 2 ≤ s.size) (hp0 : 0 < s.size) (h0 : ((s[0]'hp0).toNat : Int) ≠ 34) :
    Calls Tryd.prog 85 #[.string s] w fun e w' => e = .returned (.tuple #[.string ⟨(unquoteV s.data.toList).1.toArray⟩, .int .i64 (unquoteV s.data.toList).2]) ∧ Below w.heap.size w w' := by
  have hv : Hid (unquoteV s.data.toList = ([], 11)) := unquoteV_bad (Or.inr (Or.inl (by rw [first_at hp0]; intro e; injection e with e; omega)))
  have e0 : (((s[0]'hp0).toNat : Int) != 34) = true := by simp [h0]
  clear h0
  go_enter Tryd.func85, Tryd.ntmps85
  go_wp2
  go_ret2
  exact ⟨ret_str [] 11 hv.out, Below.refl _ _⟩
set_option maxHeartbeats 1000000 in
theorem unquote_last (s : ByteArray) (w : World) (hs : s.size ≤ 140737488355328) (h2 : 2 ≤ s.size) (hp0 : 0 < s.size) (hp1 : s.size - 1 < s.size) (h0 : ((s[0]'hp0).toNat : Int) = 34) (h1 : ((s[s.size - 1]'hp1).toNat : Int) ≠ 34) :
    Calls Tryd.prog 85 #[.string s] w fun e w' => e = .returned (.tuple #[.string ⟨(unquoteV s.data.toList).1.toArray⟩, .int .i64 (unquoteV s.data.toList).2]) ∧ Below w.heap.size w w' := by
  have hv : Hid (unquoteV s.data.toList = ([], 11)) := unquoteV_bad (Or.inr (Or.inr (by rw [last_at hp1]; intro e; injection e with e; omega)))
  have e0 : (((s[0]'hp0).toNat : Int) != 34) = false := by simp [h0]
  have e1 : (((s[s.size - 1]'hp1).toNat : Int) != 34) = true := by simp [h1]
  have ht1 : ((s.size : Int) - 1).toNat = s.size - 1 := by omega
  clear h0 h1
  go_enter Tryd.func85, Tryd.ntmps85
  go_wp2
  go_ret2
  exact ⟨ret_str [] 11 hv.out, Below.refl _ _⟩

theorem badB_split {c : Int} (h : badB c = false) : barB c = false ∧ c ≤ 127 := by
  simp only [badB, Bool.or_eq_false_iff, decide_eq_false_iff_not] at h; exact ⟨h.1, by omega⟩

set_option maxHeartbeats 2000000 in
theorem unquote_marks (s : ByteArray) (w : World) (hs : s.size ≤ 140737488355328) (h2 : 2 ≤ s.size) (hp0 : 0 < s.size) (hp1 : s.size - 1 < s.size) (h0 : ((s[0]'hp0).toNat : Int) = 34) (h1 : ((s[s.size - 1]'hp1).toNat : Int) = 34) :
    Calls Tryd.prog 85 #[.string s] w fun e w' => e = .returned (.tuple #[.string ⟨(unquoteV s.data.toList).1.toArray⟩, .int .i64 (unquoteV s.data.toList).2]) ∧ Below w.heap.size w w' := by
  obtain ⟨i0, hi, hz0, hz1, hz2⟩ := info_parts info5
  have hok : Hid (¬ (s.data.toList.length < 2 ∨ s.data.toList[0]?.map (·.toNat) ≠ some 34 ∨ s.data.toList[s.data.toList.length - 1]?.map (·.toNat) ≠ some 34)) := marks_ok h2 hp0 hp1 h0 h1
  have e0 : (((s[0]'hp0).toNat : Int) != 34) = false := by simp [h0]
  have e1 : (((s[s.size - 1]'hp1).toNat : Int) != 34) = false := by simp [h1]
  have ht1 : ((s.size : Int) - 1).toNat = s.size - 1 := by omega
  have hin : Hid ((s.extract 1 (s.size - 1)).data.toList = mid s.data.toList 1 (s.data.toList.length - 1)) := by
    show _ = _; rw [ext_list, len_data]; simp [mid]
  have hisz : (s.extract 1 (s.size - 1)).size = s.size - 2 := by rw [ByteArray.size_extract]; omega
  have HSZ : Hid ((s.extract 1 (s.size - 1)).size = s.size - 2) := hisz
  clear h0 h1 hisz
  go_enter Tryd.func85, Tryd.ntmps85
  go_wp2_with (at_make; refine wp_make _ rfl _ _ 89 rfl w.heap.size 5 i0 (.int .u8 0) Tryd.underlying89 hi hz0 hz1 .i64 .i64 _ (s.size - 1 - 1) rfl rfl rfl (by rw [hz2]; omega) (by unfold maxLen; omega) w (Below.refl _ _) (Nat.le_refl _) ?_; intro v0 w1 hown1 hb1 hB1)
  generalize s.extract 1 (s.size - 1) = t at hin HSZ ⊢
  have hts : t.size ≤ 140737488355328 := by rw [HSZ.out]; omega
  go_loopw [5, 6] (fun v i wr => ∃ (k : Nat) (acc : List UInt8), k ≤ t.size ∧ i = .int .i64 k ∧ acc.length ≤ k ∧ Own wr w.heap.size 5 v (Lib.byteCells acc) ∧ Below w.heap.size w wr ∧ w.heap.size ≤ wr.heap.size ∧
      Hid (UnqAt (mid s.data.toList 1 (s.data.toList.length - 1)) acc (t.data.toList.drop k))) (fun _ i _ => t.size - (intOf i).toNat)
  case atStart => exact ⟨0, [], Nat.zero_le _, rfl, Nat.le_refl _, hown1, hb1, hB1, show UnqAt _ _ _ by rw [hin.out, List.drop_zero]; exact unqAt0 _⟩
  case round =>
    clear hown1 hb1 hB1 e0 e1 hin HSZ
    obtain ⟨k, acc, hk, rfl, hac, hown, hb, hB, hu⟩ := hrel
    by_cases hlt : k < t.size
    · by_cases hes : (t[k].toNat : Int) = 92 ∧ k + 1 < t.size
      · obtain ⟨h92, hlt1⟩ := hes
        have hu' := hu.out
        rw [drop_cons t k hlt, drop_cons t (k + 1) hlt1] at hu'
        have c1 : ((t[k].toNat : Int) == 92) = true := by simpa using h92
        by_cases hbad : badB t[k + 1].toNat = true
        · have hv : Hid (unquoteV s.data.toList = ([], 11)) := unquoteV_none hok.out (unqAt_bad hu' h92 hbad)
          clear hu hu' h92
          by_cases hbr : barB t[k + 1].toNat = true
          · go_wp2_with (go_at_call 100; refine (barred_any _ _).mono ?_; rintro e w' ⟨rfl, rfl⟩)
            go_ret2
            exact ⟨ret_str [] 11 hv.out, hb⟩
          · have hbr' : barB t[k + 1].toNat = false := by simpa using hbr
            have h127 : 127 < (t[k + 1].toNat : Int) := by rw [badB, hbr'] at hbad; simpa using hbad
            clear hbr hbad
            go_wp2_with (go_at_call 100; refine (barred_any _ _).mono ?_; rintro e w' ⟨rfl, rfl⟩)
            go_ret2
            exact ⟨ret_str [] 11 hv.out, hb⟩
        · have hbad' : badB t[k + 1].toNat = false := by simpa using hbad
          have hn : Hid (UnqAt (mid s.data.toList 1 (s.data.toList.length - 1)) (acc ++ [t[k + 1]]) (t.data.toList.drop (k + 1 + 1))) := unqAt_esc hu' h92 hbad'
          obtain ⟨hbr, h127⟩ := badB_split hbad'
          clear hu hu' h92 hbad hbad'
          go_wp2_with (first
            | (go_at_call 100; refine (barred_any _ _).mono ?_; rintro e w' ⟨rfl, rfl⟩)
            | (at_builtin; refine wp_app _ rfl (.tmp 65) (.tmp 69) 89 rfl w.heap.size 5 i0 (.int .u8 0) 1 Tryd.underlying89 hi hz0 hz1 hz2 rfl _ _ rfl (hown.alloc _) ⟨_, 0, none⟩ 1 1 (Lib.byteCells [t[k + 1]]) rfl rfl (by exact one_new _ _ _) (byteCells_one _) (by rw [Lib.byteCells_length]; unfold maxLen; omega) (by rw [Lib.byteCells_length]; omega) w (hb.alloc hB _) (by simp; omega) ?_; intro v3 w3 hown3 hb3 hB3))
          rw [byteCells_snoc] at hown3
          go_roundw
          case rel => exact ⟨k + 1 + 1, _, by omega, by go_num, by simp; omega, hown3, hb3, hB3, hn⟩
          case measure => simp [intOf]; omega
      · have hu' := hu.out
        rw [drop_cons t k hlt] at hu'
        have hside : (t[k].toNat : Int) ≠ 92 ∨ t.data.toList.drop (k + 1) = [] := by
          by_cases h92 : (t[k].toNat : Int) = 92
          · right; exact drop_all t (k + 1) (by have := fun h => hes ⟨h92, h⟩; omega)
          · left; exact h92
        by_cases hba : bareB t[k].toNat = true
        · have hn : Hid (UnqAt (mid s.data.toList 1 (s.data.toList.length - 1)) (acc ++ [t[k]]) (t.data.toList.drop (k + 1))) := unqAt_bare hu' hside hba
          by_cases h92 : (t[k].toNat : Int) = 92
          · rw [h92] at hba; exact absurd hba (by decide)
          · have c1 : ((t[k].toNat : Int) == 92) = false := by simpa using h92
            clear hu hu' hside hes h92
            go_wp2_with (first
              | (go_at_call 101; refine (bare_any _ _).mono ?_; rintro e w' ⟨rfl, rfl⟩)
              | (at_builtin; refine wp_app _ rfl (.tmp 65) (.tmp 69) 89 rfl w.heap.size 5 i0 (.int .u8 0) 1 Tryd.underlying89 hi hz0 hz1 hz2 rfl _ _ rfl (hown.alloc _) ⟨_, 0, none⟩ 1 1 (Lib.byteCells [t[k]]) rfl rfl (by exact one_new _ _ _) (byteCells_one _) (by rw [Lib.byteCells_length]; unfold maxLen; omega) (by rw [Lib.byteCells_length]; omega) w (hb.alloc hB _) (by simp; omega) ?_; intro v3 w3 hown3 hb3 hB3))
            rw [byteCells_snoc] at hown3
            go_roundw
            case rel => exact ⟨k + 1, _, by omega, by go_num, by simp; omega, hown3, hb3, hB3, hn⟩
            case measure => simp [intOf]; omega
        · have hba' : bareB t[k].toNat = false := by simpa using hba
          have hv : Hid (unquoteV s.data.toList = ([], 11)) := unquoteV_none hok.out (unqAt_not hu' hside hba')
          by_cases h92 : (t[k].toNat : Int) = 92
          · have c1 : ((t[k].toNat : Int) == 92) = true := by simpa using h92
            have c2 : ¬ (k + 1 < t.size) := fun h => hes ⟨h92, h⟩
            clear hu hu' hside hes h92 hba
            go_wp2_with (go_at_call 101; refine (bare_any _ _).mono ?_; rintro e w' ⟨rfl, rfl⟩)
            go_ret2
            exact ⟨ret_str [] 11 hv.out, hb⟩
          · have c1 : ((t[k].toNat : Int) == 92) = false := by simpa using h92
            clear hu hu' hside hes h92 hba
            go_wp2_with (go_at_call 101; refine (bare_any _ _).mono ?_; rintro e w' ⟨rfl, rfl⟩)
            go_ret2
            exact ⟨ret_str [] 11 hv.out, hb⟩
    · have hu' := hu.out
      rw [drop_all t k (by omega)] at hu'
      have hv : Hid (unquoteV s.data.toList = (acc, 0)) := unquoteV_some hok.out (unqAt_end hu')
      have hcv := conv_own (P := Tryd.prog) _ Tryd.underlying89 Tryd.underlying5 Tryd.underlying9 hown
      clear hu hu'
      go_wp2
      go_ret2
      exact ⟨ret_str acc 0 hv.out, hb⟩

theorem unquote_any (s : ByteArray) (w : World) (hs : s.size ≤ 140737488355328) :
    Calls Tryd.prog 85 #[.string s] w fun e w' => e = .returned (.tuple #[.string ⟨(unquoteV s.data.toList).1.toArray⟩, .int .i64 (unquoteV s.data.toList).2]) ∧ Below w.heap.size w w' := by
  by_cases h2 : 2 ≤ s.size
  · have hp0 : 0 < s.size := by omega
    have hp1 : s.size - 1 < s.size := by omega
    by_cases h0 : ((s[0]'hp0).toNat : Int) = 34
    · by_cases h1 : ((s[s.size - 1]'hp1).toNat : Int) = 34
      · exact unquote_marks s w hs h2 hp0 hp1 h0 h1
      · exact unquote_last s w hs h2 hp0 hp1 h0 h1
    · exact unquote_first s w hs h2 hp0 h0
  · exact unquote_short s w (by omega)

end Go.Proofs.YtjbfdbccidhdfaaDoor

/-
  The contract of Escape.
-/
namespace Go.Proofs.YtjbfdbccidhdfaaDoor
open Go.RowKit Sc
set_option linter.unusedVariables false
set_option maxRecDepth 20000

def kept0 : Array Value := (List.replicate 256 (.bool false)).toArray
theorem zero52 (u : World) : Sem.run Tryd.prog (zeroValue 105) u = .ok (.agg kept0) u := by kernel_rfl
/-- The 256 marks lie in block B. -/
def Marks (w : World) (B : Nat) (f : Nat → Bool) : Prop := ∀ j, j < 256 → w.cell? ⟨B, j, none⟩ = some (.bool (f j)) ∧ w.frozen? ⟨B, j, none⟩ = false
theorem marks0 (w : World) : Marks (w.alloc (.cells kept0 105)) w.heap.size (fun _ => false) := by
  intro j hj
  constructor
  · rw [World.cell?_alloc_new, kept0, List.getElem?_toArray, List.getElem?_replicate, if_pos hj]
  · exact World.frozen?_alloc_new w kept0 105 j
theorem marks_set {w : World} {B : Nat} {f : Nat → Bool} (h : Marks w B f) (n : Nat) (hn : n < 256) (b : Bool) : Marks (w.setCell ⟨B, n, none⟩ (.bool b)) B (fun j => if j = n then b else f j) := by
  intro j hj
  constructor
  · by_cases e : j = n
    · subst e
      rw [World.cell?_setCell_same _ _ _ (h j hj).1]; simp
    · rw [World.cell?_setCell_other _ _ _ _ (by intro e'; injection e' with _ e2; exact e e2.symm), (h j hj).1]; simp [e]
  · rw [World.frozen?_setCell]; exact (h j hj).2
theorem marks_congr {w : World} {B : Nat} {f g : Nat → Bool} (h : Marks w B f) (hfg : ∀ j, f j = g j) : Marks w B g := by
  intro j hj; rw [← hfg j]; exact h j hj
theorem marks_below {w w' : World} {B : Nat} {f : Nat → Bool} (h : Marks w B f) (hb : Below (B + 1) w w') : Marks w' B f := by
  intro j hj
  exact ⟨(hb.cell (p := ⟨B, j, none⟩) (Nat.lt_succ_self B)).trans (h j hj).1, (hb.frozen (p := ⟨B, j, none⟩) (Nat.lt_succ_self B)).trans (h j hj).2⟩

def inK (l : List UInt8) (j : Nat) : Bool := l.any fun b => b.toNat == j
theorem inK_snoc (l : List UInt8) (b : UInt8) (j : Nat) : (if j = b.toNat then true else inK l j) = inK (l ++ [b]) j := by
  by_cases h : j = b.toNat
  · simp [inK, h]
  · have h' : (b.toNat == j) = false := by simp; exact fun e => h e.symm
    simp [inK, h, h']

def hexd (n : Nat) : UInt8 := [48, 49, 50, 51, 52, 53, 54, 55, 56, 57, 65, 66, 67, 68, 69, 70].getD n 0
def free (kp : Nat → Bool) (b : UInt8) : Bool := isB b.toNat 16 || kp b.toNat
def esc (kp : Nat → Bool) : List UInt8 → List UInt8
  | [] => []
  | b :: r => (if free kp b then [b] else [37, hexd (b.toNat / 16), hexd (b.toNat % 16)]) ++ esc kp r
/-- The signs that stand for themselves, by 'keep'. -/
def kpF (keep : List UInt8) (j : Nat) : Bool := if j = 37 then false else inK keep j

theorem esc_append (kp : Nat → Bool) (a b : List UInt8) : esc kp (a ++ b) = esc kp a ++ esc kp b := by
  induction a with
  | nil => rfl
  | cons x r ih => simp only [List.cons_append, esc, ih, List.append_assoc]
theorem esc_len (kp : Nat → Bool) (l : List UInt8) : (esc kp l).length ≤ 3 * l.length := by
  induction l with
  | nil => simp [esc]
  | cons x r ih => simp only [esc, List.length_append, List.length_cons]; split <;> simp <;> omega
theorem esc_cells1 (kp : Nat → Bool) (l : List UInt8) (b : UInt8) (h : free kp b = true) : Lib.byteCells (esc kp l) ++ Lib.byteCells [b] = Lib.byteCells (esc kp (l ++ [b])) := by
  rw [← Lib.byteCells_append]; simp [esc_append, esc, h]
theorem esc_cells3 (kp : Nat → Bool) (l : List UInt8) (b : UInt8) (h : free kp b = false) :
    Lib.byteCells (esc kp l) ++ Lib.byteCells [37, hexd (b.toNat / 16), hexd (b.toNat % 16)] = Lib.byteCells (esc kp (l ++ [b])) := by
  rw [← Lib.byteCells_append]; simp [esc_append, esc, h]
theorem esc_cells_len (kp : Nat → Bool) (l : List UInt8) : (Lib.byteCells (esc kp l)).length ≤ 3 * l.length := by
  rw [Lib.byteCells_length]; exact esc_len kp l

theorem hexi (i : Int) (n : Nat) (hi : i.toNat = n) (h : i.toNat < 16) : (((ByteArray.mk #[48, 49, 50, 51, 52, 53, 54, 55, 56, 57, 65, 66, 67, 68, 69, 70])[i.toNat]'h).toNat : Int) = ((hexd n).toNat : Int) := by
  subst hi
  have hh : ∀ n : Fin 16, (((ByteArray.mk #[48, 49, 50, 51, 52, 53, 54, 55, 56, 57, 65, 66, 67, 68, 69, 70])[n.val]'n.isLt).toNat : Int) = ((hexd n.val).toNat : Int) := by decide +kernel
  exact hh ⟨i.toNat, h⟩
theorem three_new (w : World) (e : TypeId) (x y z : Value) (l : List Value) (hl : l = [x, y, z]) :
    ∀ (j : Nat) (u : Value), l[j]? = some u → (w.alloc (.cells #[x, y, z] e)).drew.cell? ((⟨w.heap.size, 0, none⟩ : Addr).add j) = some u := by
  subst hl
  intro j u hj
  rw [show (w.alloc (.cells #[x, y, z] e)).drew.cell? = (w.alloc (.cells #[x, y, z] e)).cell? from rfl]
  match j, hj with
  | 0, hj => simp at hj; subst hj; simp [Addr.add]
  | 1, hj => simp at hj; subst hj; simp [Addr.add]
  | 2, hj => simp at hj; subst hj; simp [Addr.add]
theorem and15 (b : UInt8) : bits BinOp.and IntKind.u8 (b.toNat : Int) 15 = (b.toNat : Int) % 16 := by
  have h : ∀ n : Fin 256, bits BinOp.and IntKind.u8 (n.val : Int) 15 = (n.val : Int) % 16 := by decide +kernel
  exact h ⟨b.toNat, b.toNat_lt⟩

end Go.Proofs.YtjbfdbccidhdfaaDoor

/-
  Contracts of hexValue and Unescape.
-/
namespace Go.Proofs.YtjbfdbccidhdfaaDoor
open Go.RowKit Sc
set_option linter.unusedVariables false
set_option maxRecDepth 20000

theorem Own.drewN {w : World} {B : Nat} {e : TypeId} {v : Value} {xs : List Value} (h : Own w B e v xs) (q : Nat) : Own (w.drewN q) B e v xs := h
theorem Below.drewN {B : Nat} {a w : World} (h : Below B a w) (q : Nat) : Below B a (w.drewN q) := ⟨h.os, h.tape, h.output, h.size, h.block⟩

/-- What a digit of sixteen is worth. -/
def hexv (c : Int) : Int := if 48 ≤ c ∧ c ≤ 57 then c - 48 else low c - 87
theorem isB_hex (c : Int) (h0 : 0 ≤ c) (h1 : c ≤ 255) : isB c 4 = decide (48 ≤ c ∧ c ≤ 57 ∨ 97 ≤ c ∧ c ≤ 102 ∨ 65 ≤ c ∧ c ≤ 70) := by
  obtain ⟨n, rfl⟩ := Int.eq_ofNat_of_zero_le h0
  have h : ∀ n : Fin 256, isB (n.val : Int) 4 = decide (48 ≤ (n.val : Int) ∧ (n.val : Int) ≤ 57 ∨ 97 ≤ (n.val : Int) ∧ (n.val : Int) ≤ 102 ∨ 65 ≤ (n.val : Int) ∧ (n.val : Int) ≤ 70) := by decide +kernel
  exact h ⟨n, by omega⟩
theorem hex_of {b : UInt8} (h : isB b.toNat 4 = true) : 48 ≤ (b.toNat : Int) ∧ (b.toNat : Int) ≤ 57 ∨ 97 ≤ (b.toNat : Int) ∧ (b.toNat : Int) ≤ 102 ∨ 65 ≤ (b.toNat : Int) ∧ (b.toNat : Int) ≤ 70 := by
  have hb := u8_bd b
  rw [isB_hex _ hb.1 hb.2] at h
  simpa using h
theorem hexv_bd {b : UInt8} (h : isB b.toNat 4 = true) : 0 ≤ hexv b.toNat ∧ hexv b.toNat ≤ 15 := by
  have := hex_of h
  unfold hexv low
  repeat' split
  all_goals omega
def hxb (x y : UInt8) : UInt8 := UInt8.ofNat (16 * hexv x.toNat + hexv y.toNat).toNat
theorem hxb_toNat {x y : UInt8} (hx : isB x.toNat 4 = true) (hy : isB y.toNat 4 = true) : ((hxb x y).toNat : Int) = 16 * hexv x.toNat + hexv y.toNat := by
  have h1 := hexv_bd hx
  have h2 := hexv_bd hy
  rw [hxb, UInt8.toNat_ofNat']
  omega

/-- What escapes stand for. -/
def une : List UInt8 → Option (List UInt8)
  | [] => some []
  | [b] => if (b.toNat : Int) = 37 then none else some [b]
  | [b, x] => if (b.toNat : Int) = 37 then none else (une [x]).map (b :: ·)
  | b :: x :: y :: r => if (b.toNat : Int) = 37 then (if isB x.toNat 4 && isB y.toNat 4 then (une r).map (hxb x y :: ·) else none) else (une (x :: y :: r)).map (b :: ·)
theorem une_plain {b : UInt8} {r : List UInt8} (h : (b.toNat : Int) ≠ 37) : une (b :: r) = (une r).map (b :: ·) := by
  match r with
  | [] => simp [une, h]
  | [x] => show (if (b.toNat : Int) = 37 then none else (une [x]).map (b :: ·)) = _; rw [if_neg h]
  | x :: y :: r => rw [une, if_neg h]
theorem une_short {b : UInt8} {r : List UInt8} (h : (b.toNat : Int) = 37) (hr : r.length < 2) : une (b :: r) = none := by
  match r, hr with
  | [], _ => simp [une, h]
  | [x], _ => rw [une, if_pos h]
  | x :: y :: r, hr => simp at hr; omega
theorem une_hex {b x y : UInt8} {r : List UInt8} (h : (b.toNat : Int) = 37) (hx : isB x.toNat 4 = true) (hy : isB y.toNat 4 = true) : une (b :: x :: y :: r) = (une r).map (hxb x y :: ·) := by
  rw [une, if_pos h, hx, hy]; rfl
theorem une_bad {b x y : UInt8} {r : List UInt8} (h : (b.toNat : Int) = 37) (hx : (isB x.toNat 4 && isB y.toNat 4) = false) : une (b :: x :: y :: r) = none := by
  rw [une, if_pos h, hx]; rfl
def unescV (l : List UInt8) : List UInt8 × Int := match une l with | some r => (r, 0) | none => ([], 12)
theorem unescV_some {l r : List UInt8} (h : une l = some r) : unescV l = (r, 0) := by rw [unescV, h]
theorem unescV_none {l : List UInt8} (h : une l = none) : unescV l = ([], 12) := by rw [unescV, h]

def UneAt (l acc rest : List UInt8) : Prop := une l = (une rest).map (acc ++ ·)
theorem uneAt0 (l : List UInt8) : UneAt l [] l := by unfold UneAt; cases une l <;> simp
theorem uneAt_end {l acc : List UInt8} (h : UneAt l acc []) : une l = some acc := by rw [h]; simp [une]
theorem uneAt_plain {l acc : List UInt8} {b : UInt8} {r : List UInt8} (h : UneAt l acc (b :: r)) (hb : (b.toNat : Int) ≠ 37) : UneAt l (acc ++ [b]) r := by
  unfold UneAt at *
  rw [h, une_plain hb]; exact map_snoc acc b (une r)
theorem uneAt_hex {l acc : List UInt8} {b x y : UInt8} {r : List UInt8} (h : UneAt l acc (b :: x :: y :: r)) (hb : (b.toNat : Int) = 37) (hx : isB x.toNat 4 = true) (hy : isB y.toNat 4 = true) : UneAt l (acc ++ [hxb x y]) r := by
  unfold UneAt at *
  rw [h, une_hex hb hx hy]; exact map_snoc acc _ (une r)
theorem uneAt_short {l acc : List UInt8} {b : UInt8} {r : List UInt8} (h : UneAt l acc (b :: r)) (hb : (b.toNat : Int) = 37) (hr : r.length < 2) : une l = none := by
  unfold UneAt at h
  rw [h, une_short hb hr]; rfl
theorem uneAt_bad {l acc : List UInt8} {b x y : UInt8} {r : List UInt8} (h : UneAt l acc (b :: x :: y :: r)) (hb : (b.toNat : Int) = 37) (hx : (isB x.toNat 4 && isB y.toNat 4) = false) : une l = none := by
  unfold UneAt at h
  rw [h, une_bad hb hx]; rfl

theorem or_hex {x y : UInt8} (hx : isB x.toNat 4 = true) (hy : isB y.toNat 4 = true) : bits BinOp.or IntKind.u8 (hexv x.toNat * 16 % 256) (hexv y.toNat) = ((hxb x y).toNat : Int) := by
  rw [hxb_toNat hx hy]
  have h1 := hexv_bd hx
  have h2 := hexv_bd hy
  obtain ⟨m, hm⟩ := Int.eq_ofNat_of_zero_le h1.1
  obtain ⟨n, hn⟩ := Int.eq_ofNat_of_zero_le h2.1
  rw [hm, hn]
  have h : ∀ m n : Fin 16, bits BinOp.or IntKind.u8 ((m.val : Int) * 16 % 256) (n.val : Int) = 16 * (m.val : Int) + (n.val : Int) := by decide +kernel
  exact h ⟨m, by omega⟩ ⟨n, by omega⟩

theorem all2 (s : ByteArray) (k : Nat) (h : k + 2 < s.size) (c : Int) : allB c (s.extract (k + 1) (k + 3)).data.toList = (isB s[k + 1].toNat c && isB s[k + 2].toNat c) := by
  have e : (s.extract (k + 1) (k + 3)).data.toList = [s[k + 1], s[k + 2]] := by
    rw [ext_list, show k + 3 - (k + 1) = 2 by omega, drop_cons s (k + 1) (by omega), drop_cons s (k + 1 + 1) (by omega)]
    rfl
  rw [e, allB]; simp

theorem all_hex2 (s : ByteArray) (k : Nat) (h : k + 2 < s.size) (hs : s.size ≤ maxLen) (w : World) (b : Bool) (hb : (isB s[k + 1].toNat 4 && isB s[k + 2].toNat 4) = b) :
    Calls Tryd.prog 63 #[.string (s.extract (k + 1) (k + 3)), .int .i64 4] w fun e w' => e = .returned (.bool b) ∧ w' = w := by
  have := all_any (s.extract (k + 1) (k + 3)) 4 w (by rw [ByteArray.size_extract]; omega)
  rw [all2 s k h, hb] at this
  exact this

end Go.Proofs.YtjbfdbccidhdfaaDoor
