/-
  Base texts, one behind another: Unquote, Escape.
-/
import Derived.Test.YtnijlmkodgdhlaaDoorYD
import Derived.Test.YtnijlmkodgdhlaaDoorYB
import Derived.Deep.RegionLaw

/-
  Contracts of Unquote.
-/
namespace Go.Proofs.YtnijlmkodgdhlaaDoor
open Go.RowKit Sc
set_option linter.unusedVariables false
set_option maxRecDepth 20000

def badB (c : Int) : Bool := barB c || decide (127 < c)
/-- What stands between the marks of a quoted text, without the backslashes. -/
def unq : List UInt8 → Option (List UInt8)
  | [] => some []
  | [b] => if bareB b.toNat then some [b] else none
  | b :: c :: r => if (b.toNat : Int) = 92 then (if badB c.toNat then none else (unq r).map (c :: ·)) else if bareB b.toNat then (unq (c :: r)).map (b :: ·) else none

theorem unq_esc {b c : UInt8} {r : List UInt8} (h : (b.toNat : Int) = 92) : unq (b :: c :: r) = if badB c.toNat then none else (unq r).map (c :: ·) := by
  rw [unq, if_pos h]
theorem unq_plain {b : UInt8} {r : List UInt8} (h : (b.toNat : Int) ≠ 92 ∨ r = []) : unq (b :: r) = if bareB b.toNat then (unq r).map (b :: ·) else none := by
  cases r with
  | nil => simp [unq]
  | cons c r => rw [unq, if_neg (by rcases h with h | h; exact h; cases h)]
theorem map_snoc (acc : List UInt8) (b : UInt8) (x : Option (List UInt8)) : (x.map (b :: ·)).map (acc ++ ·) = x.map ((acc ++ [b]) ++ ·) := by
  cases x <;> simp

def unquoteV (l : List UInt8) : List UInt8 × Int :=
  if l.length < 2 ∨ l[0]?.map (·.toNat) ≠ some 34 ∨ l[l.length - 1]?.map (·.toNat) ≠ some 34 then ([], 11)
  else match unq (mid l 1 (l.length - 1)) with | some r => (r, 0) | none => ([], 11)

theorem unquoteV_some {l r : List UInt8} (h : ¬ (l.length < 2 ∨ l[0]?.map (·.toNat) ≠ some 34 ∨ l[l.length - 1]?.map (·.toNat) ≠ some 34)) (hr : unq (mid l 1 (l.length - 1)) = some r) : unquoteV l = (r, 0) := by
  rw [unquoteV, if_neg h, hr]
theorem unquoteV_none {l : List UInt8} (h : ¬ (l.length < 2 ∨ l[0]?.map (·.toNat) ≠ some 34 ∨ l[l.length - 1]?.map (·.toNat) ≠ some 34)) (hr : unq (mid l 1 (l.length - 1)) = none) : unquoteV l = ([], 11) := by
  rw [unquoteV, if_neg h, hr]
theorem unquoteV_bad {l : List UInt8} (h : l.length < 2 ∨ l[0]?.map (·.toNat) ≠ some 34 ∨ l[l.length - 1]?.map (·.toNat) ≠ some 34) : unquoteV l = ([], 11) := by
  rw [unquoteV, if_pos h]

/-- A loop's state: what is read so far is acc. -/
def UnqAt (l : List UInt8) (acc rest : List UInt8) : Prop := unq l = (unq rest).map (acc ++ ·)
theorem unqAt0 (l : List UInt8) : UnqAt l [] l := by unfold UnqAt; cases unq l <;> simp
theorem unqAt_end {l acc : List UInt8} (h : UnqAt l acc []) : unq l = some acc := by rw [h]; simp [unq]
theorem unqAt_esc {l acc : List UInt8} {b c : UInt8} {r : List UInt8} (h : UnqAt l acc (b :: c :: r)) (hb : (b.toNat : Int) = 92) (hc : badB c.toNat = false) : UnqAt l (acc ++ [c]) r := by
  unfold UnqAt at *
  rw [h, unq_esc hb, hc]; simp only [Bool.false_eq_true, if_false]; exact map_snoc acc c (unq r)
theorem unqAt_bad {l acc : List UInt8} {b c : UInt8} {r : List UInt8} (h : UnqAt l acc (b :: c :: r)) (hb : (b.toNat : Int) = 92) (hc : badB c.toNat = true) : unq l = none := by
  unfold UnqAt at h
  rw [h, unq_esc hb, hc]; rfl
theorem unqAt_bare {l acc : List UInt8} {b : UInt8} {r : List UInt8} (h : UnqAt l acc (b :: r)) (hb : (b.toNat : Int) ≠ 92 ∨ r = []) (hc : bareB b.toNat = true) : UnqAt l (acc ++ [b]) r := by
  unfold UnqAt at *
  rw [h, unq_plain hb, hc]; simp only [if_true]; exact map_snoc acc b (unq r)
theorem unqAt_not {l acc : List UInt8} {b : UInt8} {r : List UInt8} (h : UnqAt l acc (b :: r)) (hb : (b.toNat : Int) ≠ 92 ∨ r = []) (hc : bareB b.toNat = false) : unq l = none := by
  unfold UnqAt at h
  rw [h, unq_plain hb, hc]; rfl
theorem byteCells_snoc (l : List UInt8) (b : UInt8) : Lib.byteCells l ++ Lib.byteCells [b] = Lib.byteCells (l ++ [b]) := by rw [← Lib.byteCells_append]

theorem first_at {s : ByteArray} (h : 0 < s.size) : s.data.toList[0]?.map (·.toNat) = some (s[0]'h).toNat := by
  rw [getL s 0 h]; rfl
theorem last_at {s : ByteArray} (h : s.size - 1 < s.size) : s.data.toList[s.data.toList.length - 1]?.map (·.toNat) = some (s[s.size - 1]'h).toNat := by
  rw [len_data, getL s (s.size - 1) h]; rfl
theorem marks_ok {s : ByteArray} (h2 : 2 ≤ s.size) (hp0 : 0 < s.size) (hp1 : s.size - 1 < s.size) (h0 : ((s[0]'hp0).toNat : Int) = 34) (h1 : ((s[s.size - 1]'hp1).toNat : Int) = 34) :
    ¬ (s.data.toList.length < 2 ∨ s.data.toList[0]?.map (·.toNat) ≠ some 34 ∨ s.data.toList[s.data.toList.length - 1]?.map (·.toNat) ≠ some 34) := by
  rw [first_at hp0, last_at hp1, len_data]
  rintro (h | h | h)
  · omega
  · exact h (by congr 1; omega)
  · exact h (by congr 1; omega)

theorem badB_split {c : Int} (h : badB c = false) : barB c = false ∧ c ≤ 127 := by
  simp only [badB, Bool.or_eq_false_iff, decide_eq_false_iff_not] at h; exact ⟨h.1, by omega⟩

end Go.Proofs.YtnijlmkodgdhlaaDoor

/-
  The contract of Escape.
-/
namespace Go.Proofs.YtnijlmkodgdhlaaDoor
open Go.RowKit Sc
set_option linter.unusedVariables false
set_option maxRecDepth 20000

def kept0 : Array Value := (List.replicate 256 (.bool false)).toArray
theorem zero52 (u : World) : Sem.run Tryd.prog (zeroValue 94) u = .ok (.agg kept0) u := by kernel_rfl
/-- The 256 marks lie in block B. -/
def Marks (w : World) (B : Nat) (f : Nat → Bool) : Prop := ∀ j, j < 256 → w.cell? ⟨B, j, none⟩ = some (.bool (f j)) ∧ w.frozen? ⟨B, j, none⟩ = false
theorem marks0 (w : World) : Marks (w.alloc (.cells kept0 94)) w.heap.size (fun _ => false) := by
  intro j hj
  constructor
  · rw [World.cell?_alloc_new, kept0, List.getElem?_toArray, List.getElem?_replicate, if_pos hj]
  · exact World.frozen?_alloc_new w kept0 94 j
theorem marks_set {w : World} {B : Nat} {f : Nat → Bool} (h : Marks w B f) (n : Nat) (hn : n < 256) (b : Bool) : Marks (w.setCell ⟨B, n, none⟩ (.bool b)) B (fun j => if j = n then b else f j) := by
  intro j hj
  constructor
  · by_cases e : j = n
    · subst e
      rw [World.cell?_setCell_same _ _ _ (h j hj).1]; simp
    · rw [World.cell?_setCell_other _ _ _ _ (by intro e'; injection e' with _ e2; exact e e2.symm), (h j hj).1]; simp [e]
  · rw [World.frozen?_setCell]; exact (h j hj).2
theorem marks_congr {w : World} {B : Nat} {f g : Nat → Bool} (h : Marks w B f) (hfg : ∀ j, f j = g j) : Marks w B g := by
  intro j hj; rw [← hfg j]; exact h j hj
theorem marks_below {w w' : World} {B : Nat} {f : Nat → Bool} (h : Marks w B f) (hb : Below (B + 1) w w') : Marks w' B f := by
  intro j hj
  exact ⟨(hb.cell (p := ⟨B, j, none⟩) (Nat.lt_succ_self B)).trans (h j hj).1, (hb.frozen (p := ⟨B, j, none⟩) (Nat.lt_succ_self B)).trans (h j hj).2⟩

def inK (l : List UInt8) (j : Nat) : Bool := l.any fun b => b.toNat == j
theorem inK_snoc (l : List UInt8) (b : UInt8) (j : Nat) : (if j = b.toNat then true else inK l j) = inK (l ++ [b]) j := by
  by_cases h : j = b.toNat
  · simp [inK, h]
  · have h' : (b.toNat == j) = false := by simp; exact fun e => h e.symm
    simp [inK, h, h']

def hexd (n : Nat) : UInt8 := [48, 49, 50, 51, 52, 53, 54, 55, 56, 57, 65, 66, 67, 68, 69, 70].getD n 0
def free (kp : Nat → Bool) (b : UInt8) : Bool := isB b.toNat 16 || kp b.toNat
def esc (kp : Nat → Bool) : List UInt8 → List UInt8
  | [] => []
  | b :: r => (if free kp b then [b] else [37, hexd (b.toNat / 16), hexd (b.toNat % 16)]) ++ esc kp r
/-- The signs that stand for themselves, by 'keep'. -/
def kpF (keep : List UInt8) (j : Nat) : Bool := if j = 37 then false else inK keep j

theorem esc_append (kp : Nat → Bool) (a b : List UInt8) : esc kp (a ++ b) = esc kp a ++ esc kp b := by
  induction a with
  | nil => rfl
  | cons x r ih => simp only [List.cons_append, esc, ih, List.append_assoc]
theorem esc_len (kp : Nat → Bool) (l : List UInt8) : (esc kp l).length ≤ 3 * l.length := by
  induction l with
  | nil => simp [esc]
  | cons x r ih => simp only [esc, List.length_append, List.length_cons]; split <;> simp <;> omega
theorem esc_cells1 (kp : Nat → Bool) (l : List UInt8) (b : UInt8) (h : free kp b = true) : Lib.byteCells (esc kp l) ++ Lib.byteCells [b] = Lib.byteCells (esc kp (l ++ [b])) := by
  rw [← Lib.byteCells_append]; simp [esc_append, esc, h]
theorem esc_cells3 (kp : Nat → Bool) (l : List UInt8) (b : UInt8) (h : free kp b = false) :
    Lib.byteCells (esc kp l) ++ Lib.byteCells [37, hexd (b.toNat / 16), hexd (b.toNat % 16)] = Lib.byteCells (esc kp (l ++ [b])) := by
  rw [← Lib.byteCells_append]; simp [esc_append, esc, h]
theorem esc_cells_len (kp : Nat → Bool) (l : List UInt8) : (Lib.byteCells (esc kp l)).length ≤ 3 * l.length := by
  rw [Lib.byteCells_length]; exact esc_len kp l

theorem hexi (i : Int) (n : Nat) (hi : i.toNat = n) (h : i.toNat < 16) : (((ByteArray.mk #[48, 49, 50, 51, 52, 53, 54, 55, 56, 57, 65, 66, 67, 68, 69, 70])[i.toNat]'h).toNat : Int) = ((hexd n).toNat : Int) := by
  subst hi
  have hh : ∀ n : Fin 16, (((ByteArray.mk #[48, 49, 50, 51, 52, 53, 54, 55, 56, 57, 65, 66, 67, 68, 69, 70])[n.val]'n.isLt).toNat : Int) = ((hexd n.val).toNat : Int) := by decide +kernel
  exact hh ⟨i.toNat, h⟩
theorem three_new (w : World) (e : TypeId) (x y z : Value) (l : List Value) (hl : l = [x, y, z]) :
    ∀ (j : Nat) (u : Value), l[j]? = some u → (w.alloc (.cells #[x, y, z] e)).drew.cell? ((⟨w.heap.size, 0, none⟩ : Addr).add j) = some u := by
  subst hl
  intro j u hj
  rw [show (w.alloc (.cells #[x, y, z] e)).drew.cell? = (w.alloc (.cells #[x, y, z] e)).cell? from rfl]
  match j, hj with
  | 0, hj => simp at hj; subst hj; simp [Addr.add]
  | 1, hj => simp at hj; subst hj; simp [Addr.add]
  | 2, hj => simp at hj; subst hj; simp [Addr.add]
theorem and15 (b : UInt8) : bits BinOp.and IntKind.u8 (b.toNat : Int) 15 = (b.toNat : Int) % 16 := by
  have h : ∀ n : Fin 256, bits BinOp.and IntKind.u8 (n.val : Int) 15 = (n.val : Int) % 16 := by decide +kernel
  exact h ⟨b.toNat, b.toNat_lt⟩

end Go.Proofs.YtnijlmkodgdhlaaDoor
