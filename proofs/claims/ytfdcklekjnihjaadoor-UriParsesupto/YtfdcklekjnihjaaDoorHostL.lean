/-
  Which texts are schemes and hosts, as plain functions on lists of bytes.
-/
import Derived.Test.YtfdcklekjnihjaaDoorLower
import Derived.Test.YtfdcklekjnihjaaDoorParts
import Derived.Test.YtfdcklekjnihjaaDoorCutL
namespace Go.Proofs.YtfdcklekjnihjaaDoor
open Go.RowKit Sc
set_option linter.unusedVariables false
set_option maxRecDepth 20000

def okc (b : UInt8) : Bool := b == 58 || (b == 46 || isB b.toNat 4)
def brkB (l : List UInt8) : Bool := decide (4 ≤ l.length) && ((l.getD (l.length - 1) 0 == 93) && ((mid l 1 (l.length - 1)).all okc && decide (2 ≤ (mid l 1 (l.length - 1)).count 58)))
def labB (p : List UInt8) : Bool := decide (1 ≤ p.length) && (allB 64 p && (!(p.getD 0 0 == 45) && !(p.getD (p.length - 1) 0 == 45)))
def hostB (l : List UInt8) : Bool := decide (1 ≤ l.length) && (decide (l.length ≤ 64) && ((lowL l == l) && (if l.getD 0 0 = 91 then brkB l else (splitL 46 l).all labB)))
def schemeB (l : List UInt8) : Bool := l == [115, 105, 112] || (l == [115, 105, 112, 115] || l == [112, 114, 101, 115])

theorem host_short {l : List UInt8} (h : l.length = 0) : hostB l = false := by
  unfold hostB; simp [h]
theorem host_long {l : List UInt8} (h : 64 < l.length) : hostB l = false := by
  have : decide (l.length ≤ 64) = false := by simp; omega
  unfold hostB; simp [this]
theorem host_caps {l : List UInt8} (h : (lowL l == l) = false) : hostB l = false := by
  unfold hostB; simp only [h, Bool.false_and, Bool.and_false]
theorem host_brk {l : List UInt8} (h1 : 1 ≤ l.length) (h2 : l.length ≤ 64) (h : (lowL l == l) = true) (hb : l.getD 0 0 = 91) : hostB l = brkB l := by
  unfold hostB; simp only [h, if_pos hb, decide_eq_true h1, decide_eq_true h2, Bool.true_and]
theorem host_lab {l : List UInt8} (h1 : 1 ≤ l.length) (h2 : l.length ≤ 64) (h : (lowL l == l) = true) (hb : ¬ l.getD 0 0 = 91) : hostB l = (splitL 46 l).all labB := by
  unfold hostB; simp only [h, if_neg hb, decide_eq_true h1, decide_eq_true h2, Bool.true_and]
theorem getD_s (s : ByteArray) (k : Nat) (h : k < s.size) : s.data.toList.getD k 0 = s[k] := by
  rw [List.getD_eq_getElem?_getD, getL s k h]; rfl
theorem mid_prefix (l : List UInt8) (a k m : Nat) (h : k ≤ m) : ∃ r, mid l a m = mid l a k ++ r := by
  refine ⟨((l.drop a).take (m - a)).drop (k - a), ?_⟩
  unfold mid
  conv => lhs; rw [← List.take_append_drop (k - a) ((l.drop a).take (m - a))]
  rw [List.take_take, Nat.min_eq_left (by omega)]
theorem brk_bad {s : ByteArray} {k : Nat} (h1 : 1 ≤ k) (h : k + 1 < s.size) (hb : okc s[k] = false) : brkB s.data.toList = false := by
  obtain ⟨r, hr⟩ := mid_prefix s.data.toList 1 (k + 1) (s.size - 1) (by omega)
  unfold brkB
  rw [len_data, hr, mid_snoc s 1 k h1 (by omega)]
  simp [hb]
theorem brk_end {s : ByteArray} {k n : Nat} (h4 : 4 ≤ s.size) (hk : k = s.size - 1) (ha : (mid s.data.toList 1 k).all okc = true) (hn : (mid s.data.toList 1 k).count 58 = n) (hl : s.data.toList.getD k 0 = 93) : brkB s.data.toList = decide (2 ≤ n) := by
  subst hk
  unfold brkB
  rw [len_data, ha, hn, hl]
  simp [h4]
theorem brk_short {s : ByteArray} (h4 : ¬ 4 ≤ s.size) : brkB s.data.toList = false := by
  unfold brkB; rw [len_data]; simp [h4]
theorem brk_last {s : ByteArray} {k : Nat} (hk : k = s.size - 1) (hl : ¬ s.data.toList.getD k 0 = 93) : brkB s.data.toList = false := by
  subst hk
  have : (s.data.toList.getD (s.size - 1) 0 == 93) = false := by simpa using hl
  unfold brkB; rw [len_data, this]; simp
theorem okc_of {b : UInt8} : okc b = true ↔ b = 58 ∨ b = 46 ∨ isB b.toNat 4 = true := by simp [okc]
theorem splitL_mem_len (c : UInt8) (l : List UInt8) : ∀ p ∈ splitL c l, p.length ≤ l.length := by
  induction l with
  | nil => simp [splitL]
  | cons x l ih =>
    obtain ⟨p, ps, hp⟩ := splitL_cons c l
    rw [splitL]
    rw [hp] at ih ⊢
    split
    · intro q hq
      simp only [List.mem_cons] at hq
      rcases hq with rfl | hq
      · simp
      · have := ih q (by simpa using hq); simp; omega
    · intro q hq
      simp only [List.headD_cons, List.tail_cons, List.mem_cons] at hq
      rcases hq with rfl | hq
      · have := ih p (by simp); simp; omega
      · have := ih q (by simp [hq]); simp; omega

end Go.Proofs.YtfdcklekjnihjaaDoor
