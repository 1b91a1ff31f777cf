/-
  Base texts, one behind another: Lower, HostL, Trim, Quote.
-/
import Derived.Test.YtnijlmkodgdhlaaDoorYB
import Derived.Test.YtnijlmkodgdhlaaDoorYA
import Derived.Test.YtnijlmkodgdhlaaDoorYC

/-
  Contracts of Token, Lower, Trim and Same, and of the document's own.
-/
namespace Go.Proofs.YtnijlmkodgdhlaaDoor
open Go.RowKit Sc
set_option linter.unusedVariables false
set_option maxRecDepth 20000

def tokenB (l : List UInt8) : Bool := decide (1 ≤ l.length) && decide (l.length ≤ 64) && allB 8 l

def lowb (b : UInt8) : UInt8 := if 65 ≤ b.toNat ∧ b.toNat ≤ 90 then b + 32 else b
def lowL (l : List UInt8) : List UInt8 := l.map lowb
theorem lowb_toNat (b : UInt8) : ((lowb b).toNat : Int) = low b.toNat := by
  have h : ∀ n : Fin 256, ((lowb (UInt8.ofNat n.val)).toNat : Int) = low n.val := by decide +kernel
  have := h ⟨b.toNat, b.toNat_lt⟩
  simpa using this
theorem lowL_len (l : List UInt8) : (lowL l).length = l.length := by simp [lowL]
theorem lowL_snoc (l : List UInt8) (b : UInt8) : lowL (l ++ [b]) = lowL l ++ [lowb b] := by simp [lowL]

theorem low_cells1 (l : List UInt8) (b : UInt8) : Lib.byteCells (lowL l) ++ [.int .u8 (low b.toNat)] = Lib.byteCells (lowL (l ++ [b])) := by
  rw [lowL_snoc, Lib.byteCells_append, ← lowb_toNat]; rfl

end Go.Proofs.YtnijlmkodgdhlaaDoor

/-
  Which texts are schemes and hosts, as plain functions on lists of bytes.
-/
namespace Go.Proofs.YtnijlmkodgdhlaaDoor
open Go.RowKit Sc
set_option linter.unusedVariables false
set_option maxRecDepth 20000

def okc (b : UInt8) : Bool := b == 58 || (b == 46 || isB b.toNat 4)
def brkB (l : List UInt8) : Bool := decide (4 ≤ l.length) && ((l.getD (l.length - 1) 0 == 93) && ((mid l 1 (l.length - 1)).all okc && decide (2 ≤ (mid l 1 (l.length - 1)).count 58)))
def labB (p : List UInt8) : Bool := decide (1 ≤ p.length) && (allB 64 p && (!(p.getD 0 0 == 45) && !(p.getD (p.length - 1) 0 == 45)))
def hostB (l : List UInt8) : Bool := decide (1 ≤ l.length) && (decide (l.length ≤ 64) && ((lowL l == l) && (if l.getD 0 0 = 91 then brkB l else (splitL 46 l).all labB)))
def schemeB (l : List UInt8) : Bool := l == [115, 105, 112] || (l == [115, 105, 112, 115] || l == [112, 114, 101, 115])

theorem host_short {l : List UInt8} (h : l.length = 0) : hostB l = false := by
  unfold hostB; simp [h]
theorem host_long {l : List UInt8} (h : 64 < l.length) : hostB l = false := by
  have : decide (l.length ≤ 64) = false := by simp; omega
  unfold hostB; simp [this]
theorem host_caps {l : List UInt8} (h : (lowL l == l) = false) : hostB l = false := by
  unfold hostB; simp only [h, Bool.false_and, Bool.and_false]
theorem host_brk {l : List UInt8} (h1 : 1 ≤ l.length) (h2 : l.length ≤ 64) (h : (lowL l == l) = true) (hb : l.getD 0 0 = 91) : hostB l = brkB l := by
  unfold hostB; simp only [h, if_pos hb, decide_eq_true h1, decide_eq_true h2, Bool.true_and]
theorem host_lab {l : List UInt8} (h1 : 1 ≤ l.length) (h2 : l.length ≤ 64) (h : (lowL l == l) = true) (hb : ¬ l.getD 0 0 = 91) : hostB l = (splitL 46 l).all labB := by
  unfold hostB; simp only [h, if_neg hb, decide_eq_true h1, decide_eq_true h2, Bool.true_and]
theorem getD_s (s : ByteArray) (k : Nat) (h : k < s.size) : s.data.toList.getD k 0 = s[k] := by
  rw [List.getD_eq_getElem?_getD, getL s k h]; rfl
theorem mid_prefix (l : List UInt8) (a k m : Nat) (h : k ≤ m) : ∃ r, mid l a m = mid l a k ++ r := by
  refine ⟨((l.drop a).take (m - a)).drop (k - a), ?_⟩
  unfold mid
  conv => lhs; rw [← List.take_append_drop (k - a) ((l.drop a).take (m - a))]
  rw [List.take_take, Nat.min_eq_left (by omega)]
theorem brk_bad {s : ByteArray} {k : Nat} (h1 : 1 ≤ k) (h : k + 1 < s.size) (hb : okc s[k] = false) : brkB s.data.toList = false := by
  obtain ⟨r, hr⟩ := mid_prefix s.data.toList 1 (k + 1) (s.size - 1) (by omega)
  unfold brkB
  rw [len_data, hr, mid_snoc s 1 k h1 (by omega)]
  simp [hb]
theorem brk_end {s : ByteArray} {k n : Nat} (h4 : 4 ≤ s.size) (hk : k = s.size - 1) (ha : (mid s.data.toList 1 k).all okc = true) (hn : (mid s.data.toList 1 k).count 58 = n) (hl : s.data.toList.getD k 0 = 93) : brkB s.data.toList = decide (2 ≤ n) := by
  subst hk
  unfold brkB
  rw [len_data, ha, hn, hl]
  simp [h4]
theorem brk_short {s : ByteArray} (h4 : ¬ 4 ≤ s.size) : brkB s.data.toList = false := by
  unfold brkB; rw [len_data]; simp [h4]
theorem brk_last {s : ByteArray} {k : Nat} (hk : k = s.size - 1) (hl : ¬ s.data.toList.getD k 0 = 93) : brkB s.data.toList = false := by
  subst hk
  have : (s.data.toList.getD (s.size - 1) 0 == 93) = false := by simpa using hl
  unfold brkB; rw [len_data, this]; simp
theorem okc_of {b : UInt8} : okc b = true ↔ b = 58 ∨ b = 46 ∨ isB b.toNat 4 = true := by simp [okc]
theorem splitL_mem_len (c : UInt8) (l : List UInt8) : ∀ p ∈ splitL c l, p.length ≤ l.length := by
  induction l with
  | nil => simp [splitL]
  | cons x l ih =>
    obtain ⟨p, ps, hp⟩ := splitL_cons c l
    rw [splitL]
    rw [hp] at ih ⊢
    split
    · intro q hq
      simp only [List.mem_cons] at hq
      rcases hq with rfl | hq
      · simp
      · have := ih q (by simpa using hq); simp; omega
    · intro q hq
      simp only [List.headD_cons, List.tail_cons, List.mem_cons] at hq
      rcases hq with rfl | hq
      · have := ih p (by simp); simp; omega
      · have := ih q (by simp [hq]); simp; omega

end Go.Proofs.YtnijlmkodgdhlaaDoor

/-
  Contracts of Trim and Same, and of the document's own.
-/
namespace Go.Proofs.YtnijlmkodgdhlaaDoor
open Go.RowKit Sc
set_option linter.unusedVariables false
set_option maxRecDepth 20000

def blk (b : UInt8) : Bool := isB b.toNat 32
def trimL (l : List UInt8) : List UInt8 := ((l.dropWhile blk).reverse.dropWhile blk).reverse

theorem blk_cls (b : UInt8) : blk b = (cls b.toNat == 32) := by
  have h : ∀ n : Fin 256, isB (n.val : Int) 32 = (cls (n.val : Int) == 32) := by decide +kernel
  exact h ⟨b.toNat, b.toNat_lt⟩

theorem front_step {s : ByteArray} {k : Nat} (hk : k < s.size) (hb : blk s[k] = true) : (s.data.toList.drop k).dropWhile blk = (s.data.toList.drop (k + 1)).dropWhile blk := by
  rw [drop_cons s k hk, List.dropWhile_cons, if_pos hb]
theorem front_stop {s : ByteArray} {k : Nat} (hk : k < s.size) (hb : blk s[k] = false) : (s.data.toList.drop k).dropWhile blk = s.data.toList.drop k := by
  rw [drop_cons s k hk, List.dropWhile_cons, if_neg (by simp [hb])]
theorem mid_pop {s : ByteArray} {k t : Nat} (hkt : k < t) (ht : t ≤ s.size) : mid s.data.toList k t = mid s.data.toList k (t - 1) ++ [s[t - 1]] := by
  have h := mid_snoc s k (t - 1) (by omega) (by omega)
  rw [show t - 1 + 1 = t by omega] at h
  exact h
theorem back_step {s : ByteArray} {k t : Nat} (hkt : k < t) (ht : t ≤ s.size) (hb : blk s[t - 1] = true) :
    (mid s.data.toList k t).reverse.dropWhile blk = (mid s.data.toList k (t - 1)).reverse.dropWhile blk := by
  rw [mid_pop hkt ht, List.reverse_append, List.reverse_cons, List.reverse_nil, List.nil_append, List.singleton_append, List.dropWhile_cons, if_pos hb]
theorem back_stop {s : ByteArray} {k t : Nat} (hkt : k < t) (ht : t ≤ s.size) (hb : blk s[t - 1] = false) :
    (mid s.data.toList k t).reverse.dropWhile blk = (mid s.data.toList k t).reverse := by
  rw [mid_pop hkt ht, List.reverse_append, List.reverse_cons, List.reverse_nil, List.nil_append, List.singleton_append, List.dropWhile_cons, if_neg (by simp [hb])]
theorem mid_all (s : ByteArray) (k : Nat) : mid s.data.toList k s.size = s.data.toList.drop k := by
  rw [mid, List.take_of_length_le (by rw [List.length_drop, len_data]; omega)]
theorem trim_end {s : ByteArray} {k t : Nat} (hf : s.data.toList.dropWhile blk = s.data.toList.drop k)
    (hb : (s.data.toList.drop k).reverse.dropWhile blk = (mid s.data.toList k t).reverse) : s.extract k t = ⟨(trimL s.data.toList).toArray⟩ := by
  rw [ext_list, trimL, hf, hb, List.reverse_reverse, mid]

def sameB (a b : List UInt8) : Bool := lowL a == lowL b

end Go.Proofs.YtnijlmkodgdhlaaDoor

/-
  The contract of Quote.
-/
namespace Go.Proofs.YtnijlmkodgdhlaaDoor
open Go.RowKit Sc
set_option linter.unusedVariables false
set_option maxRecDepth 20000

/-- The bytes of a quoted text, between its marks. -/
def quo : List UInt8 → List UInt8
  | [] => []
  | b :: r => (if bareB b.toNat then [b] else [92, b]) ++ quo r
def hasBar (l : List UInt8) : Bool := l.any fun b => barB b.toNat
def quoteV (l : List UInt8) : List UInt8 × Int := if hasBar l then ([], 11) else (34 :: quo l ++ [34], 0)

theorem quo_append (a b : List UInt8) : quo (a ++ b) = quo a ++ quo b := by
  induction a with
  | nil => rfl
  | cons x r ih => simp only [List.cons_append, quo, ih, List.append_assoc]
theorem quo_len (l : List UInt8) : (quo l).length ≤ 2 * l.length := by
  induction l with
  | nil => simp [quo]
  | cons x r ih => simp only [quo, List.length_append, List.length_cons]; split <;> simp <;> omega
theorem quo_snoc1 (l : List UInt8) (b : UInt8) (h : bareB b.toNat = true) : quo (l ++ [b]) = quo l ++ [b] := by simp [quo_append, quo, h]
theorem quo_snoc2 (l : List UInt8) (b : UInt8) (h : bareB b.toNat = false) : quo (l ++ [b]) = quo l ++ [92] ++ [b] := by simp [quo_append, quo, h]
theorem hasBar_hit {s : ByteArray} {k : Nat} (h : k < s.size) (hb : barB s[k].toNat = true) : hasBar s.data.toList = true := by
  rw [hasBar, List.any_eq_true]
  exact ⟨s[k], List.mem_of_getElem? (getL s k h), hb⟩
theorem hasBar_snoc (l : List UInt8) (b : UInt8) : hasBar (l ++ [b]) = (hasBar l || barB b.toNat) := by simp [hasBar]

theorem ret_str {p : List UInt8 × Int} (a : List UInt8) (b : Int) (h : p = (a, b)) : Ending.returned (.tuple #[.string ⟨a.toArray⟩, .int .i64 b]) = .returned (.tuple #[.string ⟨p.1.toArray⟩, .int .i64 p.2]) := by rw [h]

theorem quo_cells1 (l : List UInt8) (b : UInt8) (h : bareB b.toNat = true) : Lib.byteCells (34 :: quo l) ++ Lib.byteCells [b] = Lib.byteCells (34 :: quo (l ++ [b])) := by
  rw [quo_snoc1 l b h, ← Lib.byteCells_append]; rfl
theorem quo_cells2 (l : List UInt8) (b : UInt8) (h : bareB b.toNat = false) : Lib.byteCells (34 :: quo l) ++ Lib.byteCells [92] ++ Lib.byteCells [b] = Lib.byteCells (34 :: quo (l ++ [b])) := by
  rw [quo_snoc2 l b h, ← Lib.byteCells_append, ← Lib.byteCells_append]; rfl
theorem quo_cells_len (l : List UInt8) : (Lib.byteCells (34 :: quo l)).length ≤ 2 * l.length + 1 := by
  rw [Lib.byteCells_length]; have := quo_len l; simp; omega

end Go.Proofs.YtnijlmkodgdhlaaDoor
