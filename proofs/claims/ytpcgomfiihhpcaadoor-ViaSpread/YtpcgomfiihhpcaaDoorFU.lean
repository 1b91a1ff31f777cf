/-
  Base texts, one behind another: FCutL, FMsg, FStr.
-/
import Derived.Test.YtpcgomfiihhpcaaDoorFI
import Derived.Lib.SplitLaws
import Derived.Test.YtpcgomfiihhpcaaDoorFF
import Derived.Test.YtpcgomfiihhpcaaDoorFShelf
import Derived.Test.YtpcgomfiihhpcaaDoorFH
import Derived.Test.YtpcgomfiihhpcaaDoorFA
import Derived.Test.YtpcgomfiihhpcaaDoorFD

/-
  Lines by cutting and splitting: plain facts.
-/
namespace Go.Proofs.YtpcgomfiihhpcaaDoor
open Go.RowKit Sc
set_option linter.unusedVariables false
set_option maxRecDepth 20000
set_option linter.unusedSimpArgs false

def crlf4 : List UInt8 := [13, 10, 13, 10]
theorem pre2_is (b : UInt8) (l : List UInt8) : List.isPrefixOf crlf (b :: l) = decide (b = 13 ∧ l.head? = some 10) := by
  cases l with
  | nil => simp [crlf, List.isPrefixOf]
  | cons c l =>
    simp only [crlf, List.isPrefixOf, List.head?_cons, Bool.and_true]
    rw [Bool.eq_iff_iff]; simp
    constructor <;> rintro ⟨a, b⟩ <;> exact ⟨a.symm, b.symm⟩
theorem pre4_no {b : UInt8} {l : List UInt8} (h : ¬ (b = 13 ∧ l.head? = some 10)) : List.isPrefixOf crlf4 (b :: l) = false := by
  cases l with
  | nil => simp [crlf4, List.isPrefixOf]
  | cons c l =>
    simp only [crlf4, List.isPrefixOf]
    simp at h
    by_cases hb : b = 13
    · have := h hb
      simp [this, Ne.symm this]
    · simp [Ne.symm hb]
theorem pre4_yes (r : List UInt8) : List.isPrefixOf crlf4 (13 :: 10 :: r) = List.isPrefixOf crlf r := by
  simp [crlf4, crlf, List.isPrefixOf]
theorem ix_step (b : UInt8) (l sub : List UInt8) : Lib.index (b :: l) sub = if List.isPrefixOf sub (b :: l) then 0 else if Lib.index l sub == -1 then -1 else Lib.index l sub + 1 := by rw [Lib.index]
theorem ix_no {b : UInt8} {l sub : List UInt8} (h : List.isPrefixOf sub (b :: l) = false) : Lib.index (b :: l) sub = if Lib.index l sub = -1 then -1 else Lib.index l sub + 1 := by
  rw [ix_step, h]
  by_cases e : Lib.index l sub = -1 <;> simp [e]
theorem ix_yes {b : UInt8} {l sub : List UInt8} (h : List.isPrefixOf sub (b :: l) = true) : Lib.index (b :: l) sub = 0 := by rw [ix_step, h]; simp

/-- Where the first line ends. -/
theorem index2_some : ∀ (s t r : List UInt8), lineV s = some (t, r) → Lib.index s crlf = (t.length : Int)
  | [], t, r, h => by simp [lineV] at h
  | b :: l, t, r, h => by
    by_cases hb : b = 13 ∧ l.head? = some 10
    · rw [lineV, if_pos hb] at h
      simp only [Option.some.injEq, Prod.mk.injEq] at h
      rw [← h.1, ix_yes (by rw [pre2_is]; exact decide_eq_true hb)]; rfl
    · rw [line_skip hb] at h
      simp only [Option.map_eq_some_iff] at h
      obtain ⟨⟨t', r'⟩, hx, he⟩ := h
      simp only [Prod.mk.injEq] at he
      have ih := index2_some l t' r' hx
      rw [← he.1, ix_no (by rw [pre2_is]; exact decide_eq_false hb), ih, if_neg (by omega)]
      simp
theorem index2_none : ∀ (s : List UInt8), lineV s = none → Lib.index s crlf = -1
  | [], h => rfl
  | b :: l, h => by
    by_cases hb : b = 13 ∧ l.head? = some 10
    · rw [lineV, if_pos hb] at h; simp at h
    · rw [line_skip hb] at h
      simp only [Option.map_eq_none_iff] at h
      rw [ix_no (by rw [pre2_is]; exact decide_eq_false hb), index2_none l h]; simp
theorem index4_none : ∀ (s : List UInt8), lineV s = none → Lib.index s crlf4 = -1
  | [], h => rfl
  | b :: l, h => by
    by_cases hb : b = 13 ∧ l.head? = some 10
    · rw [lineV, if_pos hb] at h; simp at h
    · rw [line_skip hb] at h
      simp only [Option.map_eq_none_iff] at h
      rw [ix_no (pre4_no hb), index4_none l h]; simp
theorem index4_some : ∀ (s t r : List UInt8), lineV s = some (t, r) → Lib.index s crlf4 = if List.isPrefixOf crlf r = true then (t.length : Int) else if Lib.index r crlf4 = -1 then -1 else Lib.index r crlf4 + t.length + 2
  | [], t, r, h => by simp [lineV] at h
  | b :: l, t, r, h => by
    by_cases hb : b = 13 ∧ l.head? = some 10
    · rw [lineV, if_pos hb] at h
      simp only [Option.some.injEq, Prod.mk.injEq] at h
      obtain ⟨rfl, rfl⟩ := h
      obtain ⟨rfl, hl⟩ := hb
      cases l with
      | nil => simp at hl
      | cons c l =>
        simp at hl; subst hl
        change Lib.index (13 :: 10 :: l) crlf4 = if List.isPrefixOf crlf l = true then (([] : List UInt8).length : Int) else if Lib.index l crlf4 = -1 then -1 else Lib.index l crlf4 + (([] : List UInt8).length : Int) + 2
        by_cases hp : List.isPrefixOf crlf l = true
        · rw [ix_yes (by rw [pre4_yes]; exact hp), if_pos hp]; rfl
        · rw [ix_no (by rw [pre4_yes]; exact Bool.eq_false_iff.2 hp), if_neg hp, ix_no (pre4_no (by simp))]
          by_cases e : Lib.index l crlf4 = -1
          · simp [e]
          · have := Lib.index_ge l crlf4
            rw [if_neg e, if_neg (by omega), if_neg e]
            simp; omega
    · rw [line_skip hb] at h
      simp only [Option.map_eq_some_iff] at h
      obtain ⟨⟨t', r'⟩, hx, he⟩ := h
      simp only [Prod.mk.injEq] at he
      obtain ⟨rfl, rfl⟩ := he
      have ih := index4_some l t' r' hx
      rw [ix_no (pre4_no hb), ih]
      have := Lib.index_ge r' crlf4
      by_cases hp : List.isPrefixOf crlf r' = true
      · rw [if_pos hp, if_pos hp, if_neg (by omega)]; simp
      · rw [if_neg hp, if_neg hp]
        by_cases e : Lib.index r' crlf4 = -1
        · simp [e]
        · rw [if_neg e, if_neg e, if_neg (by omega)]; simp; omega

theorem line_own : ∀ (s t r : List UInt8), lineV s = some (t, r) → lineV t = none ∧ ∀ a, lineV (t ++ 13 :: 10 :: a) = some (t, a)
  | [], t, r, h => by simp [lineV] at h
  | b :: l, t, r, h => by
    by_cases hb : b = 13 ∧ l.head? = some 10
    · rw [lineV, if_pos hb] at h
      simp only [Option.some.injEq, Prod.mk.injEq] at h
      rw [← h.1]
      exact ⟨rfl, fun a => line_hit a⟩
    · rw [line_skip hb] at h
      simp only [Option.map_eq_some_iff] at h
      obtain ⟨⟨t', r'⟩, hx, he⟩ := h
      simp only [Prod.mk.injEq] at he
      obtain ⟨rfl, rfl⟩ := he
      obtain ⟨i1, i2⟩ := line_own l t' r' hx
      have e := line_parts _ _ _ hx
      have hb2 : ¬ (b = 13 ∧ t'.head? = some 10) := by
        rintro ⟨h1, h2⟩
        apply hb
        refine ⟨h1, ?_⟩
        rw [e]
        cases t' with
        | nil => simp at h2
        | cons x t' => simpa using h2
      have hb3 : ∀ a, ¬ (b = 13 ∧ (t' ++ 13 :: 10 :: a).head? = some 10) := by
        rintro a ⟨h1, h2⟩
        cases t' with
        | nil => simp at h2
        | cons x t' => exact hb2 ⟨h1, by simpa using h2⟩
      refine ⟨by rw [line_skip hb2, i1]; rfl, fun a => ?_⟩
      rw [List.cons_append, line_skip (hb3 a), i2 a]; rfl
theorem split2_none {s : List UInt8} (h : lineV s = none) : Lib.split s crlf = [s] := by
  unfold Lib.split
  rw [Lib.count_miss (index2_none s h)]; rfl
theorem split2_some {s t r : List UInt8} (h : lineV s = some (t, r)) : Lib.split s crlf = t :: Lib.split r crlf := by
  have hi := index2_some s t r h
  have e := line_parts _ _ _ h
  have hd : s.drop (t.length + crlf.length) = r := by
    rw [e, show t.length + crlf.length = (t ++ [13, 10] : List UInt8).length by simp [crlf], show t ++ 13 :: 10 :: r = (t ++ [13, 10]) ++ r by simp]
    exact List.drop_left
  unfold Lib.split
  rw [Lib.count_hit (by simp [crlf]) hi, hd, Nat.add_comm 1, Lib.splitK, if_neg (by rw [hi]; simp), hi]
  simp only [Int.toNat_natCast, Nat.add_zero]
  rw [hd, e]; simp
/-- Cutting at the empty line. -/
theorem cut4_none {s : List UInt8} (h : lineV s = none) : Lib.cut s crlf4 = (s, [], false) := by
  unfold Lib.cut; rw [index4_none s h, if_neg (by omega)]
theorem cut4_hit {s t r : List UInt8} (h : lineV s = some (t, 13 :: 10 :: r)) : Lib.cut s crlf4 = (t, r, true) := by
  have hi := index4_some _ _ _ h
  rw [if_pos (by simp [crlf, List.isPrefixOf])] at hi
  unfold Lib.cut
  rw [hi, if_pos (by omega), line_parts _ _ _ h]
  simp only [Int.toNat_natCast]
  have e : t ++ 13 :: 10 :: 13 :: 10 :: r = (t ++ crlf4) ++ r := by simp [crlf4]
  refine Prod.ext (by simp) (Prod.ext ?_ rfl)
  show List.drop (t.length + crlf4.length) _ = r
  rw [e, ← List.length_append]; exact List.drop_left
theorem cut4_on {s t r : List UInt8} (h : lineV s = some (t, r)) (hr : List.isPrefixOf crlf r = false) : Lib.cut s crlf4 = if (Lib.cut r crlf4).2.2 = true then (t ++ 13 :: 10 :: (Lib.cut r crlf4).1, (Lib.cut r crlf4).2.1, true) else (s, [], false) := by
  have hi := index4_some _ _ _ h
  rw [if_neg (by rw [hr]; simp)] at hi
  have hg := Lib.index_ge r crlf4
  have e := line_parts _ _ _ h
  by_cases e1 : Lib.index r crlf4 = -1
  · have c1 : Lib.cut r crlf4 = (r, [], false) := by unfold Lib.cut; rw [e1, if_neg (by omega)]
    rw [c1, if_neg (by simp)]
    unfold Lib.cut
    rw [hi, if_pos e1, if_neg (by omega)]
  · rw [if_neg e1] at hi
    obtain ⟨k, hk⟩ : ∃ k : Nat, Lib.index r crlf4 = k := ⟨(Lib.index r crlf4).toNat, by omega⟩
    have c1 : Lib.cut r crlf4 = (r.take k, r.drop (k + crlf4.length), true) := by unfold Lib.cut; rw [hk, if_pos (by omega)]; simp
    rw [c1, if_pos rfl]
    unfold Lib.cut
    rw [hi, hk, if_pos (by omega)]
    have e2 : ((k : Int) + (t.length : Int) + 2).toNat = t.length + (k + 2) := by omega
    rw [e2, e]
    refine Prod.ext ?_ (Prod.ext ?_ rfl)
    · show List.take _ _ = _
      rw [List.take_length_add_append]; rfl
    · show List.drop _ _ = _
      rw [show t.length + (k + 2) + crlf4.length = t.length + (k + crlf4.length + 2) by omega, List.drop_length_add_append]; rfl
/-- The lines by cutting and splitting. -/
theorem head_cut : ∀ (n : Nat) (s : List UInt8) (l : List (List UInt8)), s.length ≤ n → List.isPrefixOf crlf s = false →
    headF l s = (if (Lib.cut s crlf4).2.2 = true then some ((Lib.split (Lib.cut s crlf4).1 crlf).foldl pushL l, (Lib.cut s crlf4).2.1) else none) ∧ ((Lib.cut s crlf4).2.2 = true → ∀ t ∈ Lib.split (Lib.cut s crlf4).1 crlf, t ≠ [])
  | n, s, l, hn, hp => by
    cases h : lineV s with
    | none => rw [headF_none h, cut4_none h]; simp
    | some x =>
      obtain ⟨t, r⟩ := x
      have e := line_parts _ _ _ h
      have ht : t ≠ [] := by
        intro h0
        rw [e, h0] at hp
        simp [crlf, List.isPrefixOf] at hp
      obtain ⟨o1, o2⟩ := line_own _ _ _ h
      rw [headF_on h ht]
      by_cases hr : List.isPrefixOf crlf r = true
      · obtain ⟨r', rfl⟩ : ∃ r', r = 13 :: 10 :: r' := by
          have := List.isPrefixOf_iff_prefix.1 hr
          obtain ⟨r', hr'⟩ := this
          exact ⟨r', by rw [← hr']; rfl⟩
        rw [cut4_hit h, headF_end (line_hit r')]
        simp only [if_true]
        rw [split2_none o1]
        exact ⟨rfl, fun _ x hx => by simp at hx; rw [hx]; exact ht⟩
      · have hr' : List.isPrefixOf crlf r = false := Bool.eq_false_iff.2 hr
        have hl : r.length < s.length := by rw [e]; simp; omega
        cases n with
        | zero => omega
        | succ n =>
          obtain ⟨i1, i2⟩ := head_cut n r (pushL l t) (by omega) hr'
          rw [i1, cut4_on h hr']
          by_cases hc : (Lib.cut r crlf4).2.2 = true
          · rw [if_pos hc, if_pos hc]
            simp only [if_true]
            rw [split2_some (o2 _), List.foldl_cons]
            refine ⟨rfl, fun _ x hx => ?_⟩
            rcases List.mem_cons.1 hx with rfl | hx
            · exact ht
            · exact i2 hc x hx
          · rw [if_neg hc, if_neg hc]; simp
theorem splitK_ne (sep : List UInt8) (k : Nat) (s : List UInt8) : Lib.splitK sep 0 k s ≠ [] := by
  cases k with
  | zero => simp [Lib.splitK]
  | succ k => unfold Lib.splitK; split <;> simp
theorem split_ne (s sep : List UInt8) : Lib.split s sep ≠ [] := splitK_ne _ _ _
theorem splitK_mem (sep : List UInt8) : ∀ (k : Nat) (s : List UInt8), ((Lib.splitK sep 0 k s).map (fun t => t.length)).sum ≤ s.length ∧ (Lib.splitK sep 0 k s).length ≤ k + 1
  | 0, s => by simp [Lib.splitK]
  | k + 1, s => by
    unfold Lib.splitK
    split
    · simp
    · have ⟨a, b⟩ := splitK_mem sep k (s.drop ((Lib.index s sep).toNat + sep.length))
      simp only [List.map_cons, List.sum_cons, List.length_cons, List.length_take, List.length_drop] at a b ⊢
      omega
theorem split2_len (s : List UInt8) : ((Lib.split s crlf).map (fun t => t.length)).sum ≤ s.length ∧ (Lib.split s crlf).length ≤ s.length + 2 := by
  have ⟨a, b⟩ := splitK_mem crlf (Lib.count s crlf) s
  have := Lib.count_le s crlf
  exact ⟨a, by unfold Lib.split; omega⟩
theorem cut4_len (s : List UInt8) : (Lib.cut s crlf4).1.length ≤ s.length ∧ (Lib.cut s crlf4).2.1.length ≤ s.length := by
  unfold Lib.cut
  split
  · simp only [List.length_take, List.length_drop]; omega
  · simp
def sumL (l : List (List UInt8)) : Nat := (l.map fun t => t.length + 3).sum
theorem sumL_app (a b : List (List UInt8)) : sumL (a ++ b) = sumL a + sumL b := by simp [sumL]
theorem push_sum (l : List (List UInt8)) (t : List UInt8) : sumL (pushL l t) ≤ sumL l + (t.length + 3) ∧ (pushL l t).length ≤ l.length + 1 ∧ l.length ≤ (pushL l t).length := by
  by_cases h : 2 ≤ l.length ∧ t.head?.any blk = true
  · rw [push_fold h.1 h.2]
    obtain ⟨a, b, rfl⟩ : ∃ a b, l = a ++ [b] := ⟨l.dropLast, l.getLast (by intro e; simp [e] at h), (List.dropLast_concat_getLast _).symm⟩
    have ht : (trimL t).length ≤ t.length := by
      unfold trimL
      rw [List.length_reverse]
      refine Nat.le_trans (List.dropWhile_sublist _).length_le ?_
      rw [List.length_reverse]
      exact (List.dropWhile_sublist _).length_le
    simp only [List.dropLast_concat, List.getLastD_concat, sumL_app, List.length_append]
    simp [sumL]; omega
  · rw [push_new h, sumL_app]
    simp [sumL]
theorem fold_sum : ∀ (ts l : List (List UInt8)), sumL (ts.foldl pushL l) ≤ sumL l + sumL ts ∧ (ts.foldl pushL l).length ≤ l.length + ts.length ∧ l.length ≤ (ts.foldl pushL l).length
  | [], l => by simp [sumL]
  | t :: ts, l => by
    obtain ⟨a, b, c⟩ := push_sum l t
    obtain ⟨d, e, f⟩ := fold_sum ts (pushL l t)
    rw [List.foldl_cons]
    have : sumL (t :: ts) = t.length + 3 + sumL ts := by simp [sumL]
    rw [this, List.length_cons]; omega
theorem sumL_mem : ∀ (l : List (List UInt8)), ∀ t ∈ l, t.length ≤ sumL l
  | [], t, h => by simp at h
  | x :: l, t, h => by
    have e : sumL (x :: l) = x.length + 3 + sumL l := by simp [sumL]
    rw [e]
    rcases List.mem_cons.1 h with rfl | h
    · omega
    · have := sumL_mem l t h; omega
theorem sumL_is (l : List (List UInt8)) : sumL l = (l.map (fun t => t.length)).sum + 3 * l.length := by
  induction l with
  | nil => rfl
  | cons x l ih => simp [sumL] at ih ⊢; omega
/-- The lines of a text, put together. -/
def linesV (s : List UInt8) : List (List UInt8) := (Lib.split s crlf).foldl pushL []
theorem lines_len (s : List UInt8) : (linesV s).length ≤ s.length + 2 ∧ 1 ≤ (linesV s).length ∧ ∀ t ∈ linesV s, t.length ≤ 4 * s.length + 6 := by
  obtain ⟨a, b⟩ := split2_len s
  obtain ⟨c, d, _⟩ := fold_sum (Lib.split s crlf) []
  have e := sumL_is (Lib.split s crlf)
  refine ⟨by unfold linesV; simp at d; omega, ?_, fun t ht => ?_⟩
  · unfold linesV
    cases h : Lib.split s crlf with
    | nil => exact absurd h (split_ne _ _)
    | cons x xs =>
      rw [List.foldl_cons]
      have := (fold_sum xs (pushL [] x)).2.2
      have h2 := push_new (l := []) (t := x) (by simp)
      rw [h2] at this ⊢
      simpa using this
  · have := sumL_mem _ t ht
    unfold linesV at this
    have e0 : sumL [] = 0 := rfl
    omega

end Go.Proofs.YtpcgomfiihhpcaaDoor

/-
  Messages as they lie: rows of headers that came in, or that a call made itself; when two headers are one.
-/
namespace Go.Proofs.YtpcgomfiihhpcaaDoor
open Go.RowKit Sc
set_option linter.unusedVariables false
set_option maxRecDepth 20000
set_option linter.unusedSimpArgs false

def hdrCells (x : Hdr) : List Value := [.string ⟨x.name.toArray⟩, .string ⟨x.value.toArray⟩]
/-- Element k of the row at a holds x. -/
def HdrAt (w : World) (a : Addr) (k : Nat) (x : Hdr) : Prop :=
  w.cell? (a.add (k * 2)) = some (.string ⟨x.name.toArray⟩) ∧ w.cell? ⟨(a.add (k * 2)).block, (a.add (k * 2)).off + 1, none⟩ = some (.string ⟨x.value.toArray⟩)
/-- The slice v holds the headers hs. -/
def HdrsAt (w : World) (v : Value) (hs : List Hdr) : Prop :=
  (v = .slice none 0 0 ∧ hs = []) ∨ ∃ (a : Addr) (cap : Nat), v = .slice (some a) hs.length cap ∧ hs.length ≤ cap ∧ ∀ k (hk : k < hs.length), a.block < w.heap.size ∧ HdrAt w a k hs[k]
theorem HdrAt.below {B : Nat} {w w' : World} {a : Addr} {k : Nat} {x : Hdr} (h : HdrAt w a k x) (hb : Below B w w') (ha : a.block < B) : HdrAt w' a k x :=
  ⟨cell_below hb (by rw [add_block]; exact ha) h.1, cell_below hb (by simp only [add_block]; exact ha) h.2⟩
theorem HdrsAt.below {w w' : World} {v : Value} {hs : List Hdr} (h : HdrsAt w v hs) (hb : Below w.heap.size w w') : HdrsAt w' v hs := by
  rcases h with h | ⟨a, cap, hv, hk, hc⟩
  · exact Or.inl h
  · exact Or.inr ⟨a, cap, hv, hk, fun k hk => ⟨Nat.lt_of_lt_of_le (hc k hk).1 hb.size, (hc k hk).2.below hb (hc k hk).1⟩⟩
theorem HdrsAt.form {w : World} {v : Value} {hs : List Hdr} (h : HdrsAt w v hs) : ∃ a cap, v = .slice a hs.length cap := by
  rcases h with ⟨rfl, rfl⟩ | ⟨a, cap, rfl, _, _⟩
  · exact ⟨none, 0, rfl⟩
  · exact ⟨_, cap, rfl⟩
theorem HdrsAt.take {w : World} {a : Addr} {hs : List Hdr} {cap k : Nat} (hk : k ≤ hs.length) (hc : hs.length ≤ cap) (h : ∀ j (hj : j < hs.length), a.block < w.heap.size ∧ HdrAt w a j hs[j]) : HdrsAt w (.slice (some a) k cap) (hs.take k) := by
  refine Or.inr ⟨a, cap, by rw [List.length_take, Nat.min_eq_left hk], by rw [List.length_take]; omega, fun j hj => ?_⟩
  have hj' : j < hs.length := by rw [List.length_take] at hj; omega
  rw [List.getElem_take]
  exact h j hj'

def hdrsCells (hs : List Hdr) : List Value := hs.flatMap hdrCells
theorem hdrsCells_len (hs : List Hdr) : (hdrsCells hs).length = hs.length * 2 := by
  induction hs with
  | nil => rfl
  | cons p ps ih => simp [hdrsCells, hdrCells] at ih ⊢; omega
theorem hdrsCells_get (hs : List Hdr) (k : Nat) (hk : k < hs.length) : (hdrsCells hs)[k * 2]? = some (.string ⟨hs[k].name.toArray⟩) ∧ (hdrsCells hs)[k * 2 + 1]? = some (.string ⟨hs[k].value.toArray⟩) := by
  induction hs generalizing k with
  | nil => simp at hk
  | cons p ps ih =>
    have e : hdrsCells (p :: ps) = hdrCells p ++ hdrsCells ps := rfl
    cases k with
    | zero => rw [e]; simp [hdrCells]
    | succ k =>
      have := ih k (by simpa using hk)
      rw [e, show (k + 1) * 2 = k * 2 + 2 by omega]
      simpa [hdrCells] using this
/-- The slice v owns the headers hs, in a block from B on. -/
def OwnH (w : World) (B : Nat) (v : Value) (hs : List Hdr) : Prop := w.ownsRow B 47 2 v hs.length (hdrsCells hs)
theorem OwnH.nil (w : World) (B : Nat) : OwnH w B (.slice none 0 0) [] := World.ownsRow_nil _ _ _ _
theorem OwnH.alloc {w : World} {B : Nat} {v : Value} {hs : List Hdr} (h : OwnH w B v hs) (o : Obj) : OwnH (w.alloc o) B v hs := World.ownsRow.alloc h o
theorem OwnH.below {w w' : World} {B : Nat} {v : Value} {hs : List Hdr} (h : OwnH w B v hs) (hb : Below w.heap.size w w') : OwnH w' B v hs := by
  obtain ⟨h1, h2⟩ := h
  refine ⟨h1, ?_⟩
  rcases h2 with h2 | ⟨g, cap, cur, hv, hg, hh, r⟩
  · exact Or.inl h2
  · exact Or.inr ⟨g, cap, cur, hv, hg, by rw [hb.block g (Array.getElem?_eq_some_iff.1 hh).1]; exact hh, r⟩
theorem OwnH.mono {w : World} {B C : Nat} {v : Value} {hs : List Hdr} (h : OwnH w B v hs) (hc : C ≤ B) : OwnH w C v hs := by
  obtain ⟨h1, h2⟩ := h
  refine ⟨h1, ?_⟩
  rcases h2 with h2 | ⟨g, cap, cur, hv, hg, r⟩
  · exact Or.inl h2
  · exact Or.inr ⟨g, cap, cur, hv, Nat.le_trans hc hg, r⟩
theorem OwnH.hdrsAt {w : World} {B : Nat} {v : Value} {hs : List Hdr} (h : OwnH w B v hs) : HdrsAt w v hs := by
  have h0 := h
  rcases h.2 with ⟨rfl, hn⟩ | ⟨g, cap, cur, rfl, hb, hg, hnc, r⟩
  · exact Or.inl ⟨rfl, List.eq_nil_of_length_eq_zero hn⟩
  · refine Or.inr ⟨⟨g, 0, none⟩, cap, rfl, hnc, fun k hk => ⟨(Array.getElem?_eq_some_iff.1 hg).1, ?_⟩⟩
    obtain ⟨c0, c1⟩ := hdrsCells_get hs k hk
    have a0 := World.ownsRow.cells h0 (g := g) rfl (k * 2) _ c0
    have a1 := World.ownsRow.cells h0 (g := g) rfl (k * 2 + 1) _ c1
    have e : ∀ j, (⟨g, 0, none⟩ : Addr).add j = ⟨g, j, none⟩ := fun j => by unfold Addr.add; split <;> simp_all
    rw [e] at a0 a1
    unfold HdrAt
    rw [e]
    exact ⟨a0, a1⟩
theorem infoHdr : (Tryd.prog.info? 47).map (fun i => (i.zero, i.size, i.bytes)) = some (some (.agg #[.string .empty, .string .empty]), 2, 32) := by kernel_rfl
theorem new_hdr (w4 : World) (x : Hdr) (t : TypeId) : ∀ (j : Nat) (u : Value), (hdrCells x)[j]? = some u → (w4.alloc (.cells #[.string ⟨x.name.toArray⟩, .string ⟨x.value.toArray⟩] t)).cell? ((⟨w4.heap.size, 0, none⟩ : Addr).add j) = some u := by
  intro j u hj
  have e : (⟨w4.heap.size, 0, none⟩ : Addr).add j = ⟨w4.heap.size, j, none⟩ := by unfold Addr.add; split <;> simp_all
  rw [e]
  unfold World.cell?
  rw [heap_alloc_new]
  simpa [hdrCells] using hj

/-- append of one header. -/
theorem wp_appH {P : Program} (w : World) {ops : Array Oper} {rest : List Oper} {o : Oper} {a : Act} {Q : Exit → Act → World → Prop} (hgd : o.guard = none)
    (s x : Operand) (t : TypeId) (ho : o.op = Op.call { callee := Callee.builtin Builtin.append, args := #[s, x], argTypes := #[t, t] }) (B : Nat) (i : TypeInfo)
    (z : Value) (ht : P.underlying t = some (TypeDesc.slice 47)) (hi : P.info? 47 = some i) (hz : i.zero = some z) (hsize : i.size = 2) (hby : i.bytes = 32) (hzs : z.cells.size = 2)
    (v : Value) (hs : List Hdr) (hsv : a.eval s = v) (hown : OwnH w B v hs) (ad : Addr) (c : Nat) (p : Hdr) (hx : a.eval x = Value.slice (some ad) 1 c)
    (hnews : ∀ (j : Nat) (u : Value), (hdrCells p)[j]? = some u → w.cell? (ad.add j) = some u)
    (hlen : hs.length ≤ 2000000) (w0 : World) (hb : Below B w0 w) (hB : B ≤ w.heap.size)
    (h : ∀ (v' : Value) (w' : World), OwnH w' B v' (hs ++ [p]) → Below B w0 w' → w.grownBy w' v.ownBlock → B ≤ w'.heap.size → wpList P ops Q rest (a.put o.dst v') w') : wpList P ops Q (o :: rest) a w := by
  refine wpList_append_own w hgd s x t ho B 47 i z 2 32 ht hi hz hsize hby hzs (by decide) v hs.length (hdrsCells hs) hsv hown ad 1 c (hdrCells p) hx rfl hnews (by intro u hu; simp [hdrCells] at hu; rcases hu with rfl | rfl <;> rfl) (by unfold maxLen; omega) (by omega) hB ?_
  intro v' w' hown' hgr _
  refine h v' w' ?_ (hb.grown hgr hB (fun k hk => (World.ownsRow.lt hown k hk).1)) hgr (Nat.le_trans hB hgr.size)
  unfold OwnH
  have e : hdrsCells (hs ++ [p]) = hdrsCells hs ++ hdrCells p := by simp [hdrsCells]
  rw [e, List.length_append]
  exact hown'

theorem stoodHdr : Tryd.prog.stoodInHeld 47 = false := by kernel_rfl
theorem guardHdr : Tryd.prog.eqGuardType Tryd.prog.depth 47 = false := by kernel_rfl
theorem fieldsHdr : Tryd.prog.underlying 47 = some (.struct (Tryd.prog.fieldsOf 47)) := by kernel_rfl
theorem listHdr : (Tryd.prog.fieldsOf 47).toList.map (fun f => (f.type, f.offset, f.name == "_")) = [(9, 0, false), (9, 1, false)] := by kernel_rfl
theorem neqHdr (x y x' y' : ByteArray) (u : World) : (binOp .neq 47 (.agg #[.string x, .string y]) (.agg #[.string x', .string y'])).run Tryd.prog u = .ok (.bool (!(x.toList == x'.toList && y.toList == y'.toList))) u := by
  rw [run_neq_struct, run_equalIn_agg _ 9999 _ _ _ fieldsHdr stoodHdr]
  have h := listHdr
  generalize (Tryd.prog.fieldsOf 47).toList = fs at h ⊢
  have hlen : fs.length = 2 := by have := congrArg List.length h; simpa using this
  match fs, hlen, h with
  | [f0, f1], _, h =>
    simp only [List.map_cons, List.map_nil, List.cons.injEq, Prod.mk.injEq, and_true, beq_eq_false_iff_ne] at h
    obtain ⟨⟨t0, o0, n0⟩, t1, o1, n1⟩ := h
    have p0 : ∀ (X Y : ByteArray) (v : World), (part 9 #[.string X, .string Y] 0).run Tryd.prog v = .ok (.string X) v := fun X Y v => run_part_plain v plainStr rfl
    have p1 : ∀ (X Y : ByteArray) (v : World), (part 9 #[.string X, .string Y] 1).run Tryd.prog v = .ok (.string Y) v := fun X Y v => run_part_plain v plainStr rfl
    have q1 : ∀ (X Y : ByteArray) (v : World), (Op.equalIn 9999 9 (.string X) (.string Y)).run Tryd.prog v = .ok (X.toList == Y.toList) v := fun X Y v => run_equalIn_string v 9998 _ X Y Tryd.underlying9
    simp only [Op.eqFields, t0, t1, o0, o1, Sem.run_bind, Sem.run_ite, if_pos n0, if_pos n1, p0, p1, q1, Result.andThen_ok]
    cases h0 : (x.toList == x'.toList) <;> cases h1 : (y.toList == y'.toList) <;> rfl

/-- A message as it is handed over. -/
def msgV (m : Ms) (h : Value) : Value := .agg #[.string ⟨m.method.toArray⟩, .string ⟨m.target.toArray⟩, .int .i64 m.status, .string ⟨m.reason.toArray⟩, h, .string ⟨m.body.toArray⟩]
def objM (m : Ms) (h : Value) : Obj := .cells #[.string ⟨m.method.toArray⟩, .string ⟨m.target.toArray⟩, .int .i64 m.status, .string ⟨m.reason.toArray⟩, h, .string ⟨m.body.toArray⟩] 45
/-- The block b holds the message. -/
def BoxM (w : World) (b : Nat) (m : Ms) (h : Value) : Prop :=
  w.cell? ⟨b, 0, none⟩ = some (.string ⟨m.method.toArray⟩) ∧ w.cell? ⟨b, 1, none⟩ = some (.string ⟨m.target.toArray⟩) ∧ w.cell? ⟨b, 2, none⟩ = some (.int .i64 m.status) ∧
  w.cell? ⟨b, 3, none⟩ = some (.string ⟨m.reason.toArray⟩) ∧ w.cell? ⟨b, 4, none⟩ = some h ∧ w.cell? ⟨b, 5, none⟩ = some (.string ⟨m.body.toArray⟩)
theorem BoxM.below {w w' : World} {b B : Nat} {m : Ms} {h : Value} (k : BoxM w b m h) (hb : Below B w w') (hlt : b < B) : BoxM w' b m h :=
  ⟨cell_below hb hlt k.1, cell_below hb hlt k.2.1, cell_below hb hlt k.2.2.1, cell_below hb hlt k.2.2.2.1, cell_below hb hlt k.2.2.2.2.1, cell_below hb hlt k.2.2.2.2.2⟩
theorem boxM_new (w : World) (m : Ms) (h : Value) : BoxM (w.alloc (objM m h)) w.heap.size m h := by
  unfold BoxM World.cell? objM
  simp only [heap_alloc_new]
  refine ⟨rfl, rfl, rfl, rfl, rfl, rfl⟩
def SmallH (B : Nat) (hs : List Hdr) : Prop := hs.length ≤ B ∧ ∀ p ∈ hs, p.name.length ≤ B ∧ p.value.length ≤ B
def SmallM (B : Nat) (m : Ms) : Prop := m.method.length ≤ B ∧ m.target.length ≤ B ∧ m.reason.length ≤ B ∧ m.body.length ≤ B ∧ SmallH B m.headers
theorem SmallM.le {B C : Nat} {m : Ms} (h : SmallM B m) (hc : B ≤ C) : SmallM C m :=
  ⟨Nat.le_trans h.1 hc, Nat.le_trans h.2.1 hc, Nat.le_trans h.2.2.1 hc, Nat.le_trans h.2.2.2.1 hc, Nat.le_trans h.2.2.2.2.1 hc, fun p hp => ⟨Nat.le_trans (h.2.2.2.2.2 p hp).1 hc, Nat.le_trans (h.2.2.2.2.2 p hp).2 hc⟩⟩
/-- A message that came in. -/
def MsgIn (B : Nat) (W : World) (v : Value) : Prop := ∃ (m : Ms) (h : Value), v = msgV m h ∧ HdrsAt W h m.headers ∧ SmallM B m ∧ (Lit.int .i64 m.status).wf = true

end Go.Proofs.YtpcgomfiihhpcaaDoor

/-
  Contracts: strings.Cut at the empty line, Split at lines' ends, HasPrefix, over lists; rows of texts.
-/
namespace Go.Proofs.YtpcgomfiihhpcaaDoor
open Go.RowKit Sc
set_option linter.unusedVariables false
set_option maxRecDepth 20000

/-- The library's variable that says how long a text the machine searches for at once: it holds a number. -/
def MaxAt (w : World) : Prop := 0 < w.heap.size ∧ ∃ m, w.cell? ⟨0, 0, none⟩ = some (.int .i64 m)
theorem MaxAt.below {w w' : World} (h : MaxAt w) (hb : Below w.heap.size w w') : MaxAt w' := by
  obtain ⟨m, hm⟩ := h.2
  exact ⟨Nat.lt_of_lt_of_le h.1 hb.size, m, cell_below hb h.1 hm⟩
theorem MaxAt.of {w : World} {m : Int} (hm : w.cell? ⟨0, 0, none⟩ = some (.int .i64 m)) : MaxAt w := ⟨World.block_lt_of_cell? _ _ hm, m, hm⟩
theorem cut4_of {s a b : List UInt8} {f : Bool} (h : Lib.cut s crlf4 = (a, b, f)) (w : World) (hm : MaxAt w) (hs : s.length ≤ 4096) :
    Calls Tryd.prog 93 #[.string ⟨s.toArray⟩, .string ⟨#[13, 10, 13, 10]⟩] w fun e w' => e = .returned (.tuple #[.string ⟨a.toArray⟩, .string ⟨b.toArray⟩, .bool f]) ∧ Below w.heap.size w w' := by
  obtain ⟨_, m, hm⟩ := hm
  have k := sh_Cut ⟨s.toArray⟩ ⟨#[13, 10, 13, 10]⟩ m w (by rw [size_list]; omega) hm
  have e : Lib.cut (⟨s.toArray⟩ : ByteArray).data.toList (⟨#[13, 10, 13, 10]⟩ : ByteArray).data.toList = (a, b, f) := h
  rw [e] at k
  refine k.mono ?_
  rintro e w' ⟨rfl, q, rfl⟩
  exact ⟨rfl, below_drewN w q⟩
theorem prefix2_of (s : List UInt8) (w : World) :
    Calls Tryd.prog 30 #[.string ⟨s.toArray⟩, .string ⟨#[13, 10]⟩] w fun e w' => e = .returned (.bool (List.isPrefixOf crlf s)) ∧ w' = w := sh_HasPrefix ⟨s.toArray⟩ ⟨#[13, 10]⟩ w
/-- A row of texts. -/
def TxtsAt (w : World) (a : Addr) (ps : List (List UInt8)) : Prop := ∀ j (hj : j < ps.length), a.block < w.heap.size ∧ w.cell? (a.add j) = some (.string ⟨(ps[j]).toArray⟩)
theorem TxtsAt.below {w w' : World} {a : Addr} {ps : List (List UInt8)} (h : TxtsAt w a ps) (hb : Below w.heap.size w w') : TxtsAt w' a ps :=
  fun j hj => ⟨Nat.lt_of_lt_of_le (h j hj).1 hb.size, cell_below hb (by rw [add_block]; exact (h j hj).1) (h j hj).2⟩
theorem row_txts {w : World} {g : Nat} {e : TypeId} {ps : List (List UInt8)} (h : RowIs w g e (strs ps)) : TxtsAt w ⟨g, 0, none⟩ ps := fun j hj => by
  refine ⟨(Array.getElem?_eq_some_iff.1 h).1, ?_⟩
  rw [add_at, Nat.zero_add, h.cell j (by rw [strs_length]; exact hj)]
  simp [strs]
theorem split_strs (l : List UInt8) : (Lib.splitB ⟨#[13, 10]⟩ 0 (Lib.countB ⟨l.toArray⟩ ⟨#[13, 10]⟩) ⟨l.toArray⟩).map Value.string = strs (Lib.split l crlf) := by
  have h := Lib.splitB_data ⟨#[13, 10]⟩ 0 (Lib.countB ⟨l.toArray⟩ ⟨#[13, 10]⟩) ⟨l.toArray⟩
  have e : Lib.split l crlf = Lib.splitK (⟨#[13, 10]⟩ : ByteArray).data.toList 0 (Lib.countB ⟨l.toArray⟩ ⟨#[13, 10]⟩) (⟨l.toArray⟩ : ByteArray).data.toList := rfl
  rw [e, ← h]
  unfold strs
  rw [List.map_map]
  apply List.map_congr_left
  intro b _
  simp
theorem split2_of (l : List UInt8) (w : World) (hm : MaxAt w) (hs : l.length ≤ 4096) :
    Calls Tryd.prog 59 #[.string ⟨l.toArray⟩, .string ⟨#[13, 10]⟩] w fun e w' => ∃ a : Addr, e = .returned (.slice (some a) (Lib.split l crlf).length (Lib.split l crlf).length) ∧ TxtsAt w' a (Lib.split l crlf) ∧ Below w.heap.size w w' := by
  obtain ⟨_, m, hm⟩ := hm
  have k := sh_Split ⟨l.toArray⟩ ⟨#[13, 10]⟩ m w (by rw [size_list]; omega) hm (by decide)
  rw [split_strs] at k
  have hn : Lib.countB ⟨l.toArray⟩ ⟨#[13, 10]⟩ + 1 = (Lib.split l crlf).length := by
    have h1 := congrArg List.length (split_strs l)
    rw [List.length_map, strs_length] at h1
    rw [← h1, Lib.splitB_all ⟨#[13, 10]⟩ (by decide) 0 _ ⟨l.toArray⟩ rfl]
  rw [hn] at k
  refine k.mono ?_
  rintro e w' ⟨rfl, rfl⟩
  exact ⟨_, rfl, row_txts (e := 9) (by unfold RowIs; rw [heap_alloc_new]), (Below.refl _ _).alloc (Nat.le_refl _) _⟩
theorem cutS_of {r a b : List UInt8} {f : Bool} {c : UInt8} (h : cutL c r = (a, b, f)) (w : World) (hs : r.length ≤ 9223372036854775807) :
    Calls Tryd.prog 93 #[.string ⟨r.toArray⟩, .string ⟨#[c]⟩] w fun e w' => e = .returned (.tuple #[.string ⟨a.toArray⟩, .string ⟨b.toArray⟩, .bool f]) ∧ Below w.heap.size w w' := by
  have k := strCut_any ⟨r.toArray⟩ c w (by rw [size_list]; exact hs)
  have e : cutL c (⟨r.toArray⟩ : ByteArray).data.toList = (a, b, f) := h
  rw [e] at k
  refine k.mono ?_
  rintro e w' ⟨rfl, q, rfl⟩
  exact ⟨rfl, below_drewN w q⟩
theorem same_list (a b : List UInt8) (w : World) (ha : a.length ≤ 140737488355328) (hb : b.length ≤ 140737488355328) :
    Calls Tryd.prog 65 #[.string ⟨a.toArray⟩, .string ⟨b.toArray⟩] w fun e w' => e = .returned (.bool (sameB a b)) ∧ Below w.heap.size w w' :=
  same_any ⟨a.toArray⟩ ⟨b.toArray⟩ w (by rw [size_list]; omega) (by rw [size_list]; omega)
theorem clone_list (l : List UInt8) (w : World) (h : l.length ≤ 140737488355328) :
    Calls Tryd.prog 54 #[.string ⟨l.toArray⟩] w fun e w' => e = .returned (.string ⟨l.toArray⟩) ∧ Below w.heap.size w w' := sclone_any ⟨l.toArray⟩ w (by rw [size_list]; omega)
theorem num_list (l : List UInt8) (most : Int) (w : World) (h : l.length ≤ 140737488355328) (h0 : 0 ≤ most) (h1 : most ≤ 1000000) :
    Calls Tryd.prog 70 #[.string ⟨l.toArray⟩, .int .i64 most] w fun e w' => e = .returned (.tuple #[.int .i64 (numV most l).1, .int .i64 (numV most l).2]) ∧ w' = w := number_any ⟨l.toArray⟩ most w (by rw [size_list]; unfold maxLen; omega) (by omega) (by omega)
theorem refnum_list (l : List UInt8) (most : Int) (w : World) (h : l.length ≤ 140737488355328) (h0 : 0 ≤ most) (h1 : most ≤ 1000000) :
    Calls Tryd.prog 73 #[.string ⟨l.toArray⟩, .int .i64 most] w fun e w' => e = .returned (.tuple #[.int .i64 (numV most l).1, .int .i64 (numV most l).2]) ∧ w' = w := refnumber_any ⟨l.toArray⟩ most w (by rw [size_list]; unfold maxLen; omega) (by omega) (by omega)

end Go.Proofs.YtpcgomfiihhpcaaDoor
