/-
  Base texts, one behind another: Pure, Bytes, Texts, Clone.
-/
import Derived.Test.YtgikbpaejmdnoaaKit
import Derived.Test.YtgikbpaejmdnoaaOwn
import Derived.Lib.BufferWrite
import Derived.Laws.MakeOwn
import Derived.Laws.CopyOwn

/-
  Plain functions on numbers and lists of bytes: what package scan computes, without any program.
-/
namespace Go.Proofs.Ytgikbpaejmdnoaa.Sc

def low (c : Int) : Int := if 65 ≤ c ∧ c ≤ 90 then c + 32 else c
def sgn (c : Int) : Int :=
  if c = 45 ∨ c = 46 then 88 else if c = 33 ∨ c = 126 ∨ c = 42 ∨ c = 95 ∨ c = 39 then 24
  else if c = 37 ∨ c = 43 ∨ c = 96 then 8 else if c = 40 ∨ c = 41 then 16 else if c = 32 ∨ c = 9 then 32 else 0
def cls (c : Int) : Int :=
  if 48 ≤ c ∧ c ≤ 57 then 93 else if 97 ≤ low c ∧ low c ≤ 102 then 94 else if 103 ≤ low c ∧ low c ≤ 122 then 90 else sgn c

theorem low_bd {c : Int} (h0 : 0 ≤ c) (h1 : c ≤ 255) : 0 ≤ low c ∧ low c ≤ 255 := by
  unfold low; split <;> omega

def barB (c : Int) : Bool := decide (c = 0 ∨ c = 10 ∨ c = 13)
def bareB (c : Int) : Bool := decide (c = 9 ∨ 32 ≤ c ∧ c ≠ 34 ∧ c ≠ 92 ∧ c ≠ 127)

end Go.Proofs.Ytgikbpaejmdnoaa.Sc

/-
  Contracts of the small functions on single bytes.
-/
namespace Go.Proofs.Ytgikbpaejmdnoaa
open Go.RowKit Sc
set_option linter.unusedVariables false
set_option maxRecDepth 20000

def isB (c class_ : Int) : Bool := !(bits BinOp.and IntKind.i64 (cls c) class_ == 0)

end Go.Proofs.Ytgikbpaejmdnoaa

/-
  Contracts of All, Number and Quote.
-/
namespace Go.Proofs.Ytgikbpaejmdnoaa
open Go.RowKit Sc
set_option linter.unusedVariables false
set_option maxRecDepth 20000

def allB (class_ : Int) (l : List UInt8) : Bool := l.all fun b => isB b.toNat class_

theorem allB_snoc (class_ : Int) (l : List UInt8) (b : UInt8) : allB class_ (l ++ [b]) = (allB class_ l && isB b.toNat class_) := by simp [allB]
theorem allB_hit {class_ : Int} {s : ByteArray} {k : Nat} (h : k < s.size) (hb : isB s[k].toNat class_ = false) : allB class_ s.data.toList = false := by
  rw [allB, List.all_eq_false]
  exact ⟨s[k], List.mem_of_getElem? (getL s k h), by simp [hb]⟩

/-- What Number reads: the digits' number, if it stays up to most. -/
def numL (most : Int) : Int → List UInt8 → Option Int
  | n, [] => some n
  | n, b :: r => if (b.toNat : Int) - 48 > most ∨ n > (most - ((b.toNat : Int) - 48)) / 10 then none else numL most (10 * n + ((b.toNat : Int) - 48)) r
def numV (most : Int) (l : List UInt8) : Int × Int :=
  if l = [] ∨ allB 1 l = false then (0, 10) else match numL most 0 l with | some n => (n, 0) | none => (0, 9)

theorem isB_digit (c : Int) (h0 : 0 ≤ c) (h1 : c ≤ 255) : isB c 1 = decide (48 ≤ c ∧ c ≤ 57) := by
  obtain ⟨n, rfl⟩ := Int.eq_ofNat_of_zero_le h0
  have h : ∀ n : Fin 256, isB (n.val : Int) 1 = decide (48 ≤ (n.val : Int) ∧ (n.val : Int) ≤ 57) := by decide +kernel
  exact h ⟨n, by omega⟩
theorem digit_at {s : ByteArray} (h : allB 1 s.data.toList = true) (k : Nat) (hk : k < s.size) : 48 ≤ (s[k].toNat : Int) ∧ (s[k].toNat : Int) ≤ 57 := by
  have hb := u8_bd s[k]
  have := (List.all_eq_true.1 h) s[k] (List.mem_of_getElem? (getL s k hk))
  rw [isB_digit _ hb.1 hb.2] at this
  simpa using this
theorem numL_stop {most n : Int} {s : ByteArray} {k : Nat} (hk : k < s.size) (h : (s[k].toNat : Int) - 48 > most ∨ n > (most - ((s[k].toNat : Int) - 48)) / 10) : numL most n (s.data.toList.drop k) = none := by
  rw [drop_cons s k hk, numL, if_pos h]
theorem numL_go {most n : Int} {s : ByteArray} {k : Nat} (hk : k < s.size) (h : ¬ ((s[k].toNat : Int) - 48 > most ∨ n > (most - ((s[k].toNat : Int) - 48)) / 10)) :
    numL most n (s.data.toList.drop k) = numL most (10 * n + ((s[k].toNat : Int) - 48)) (s.data.toList.drop (k + 1)) := by
  rw [drop_cons s k hk, numL, if_neg h]

end Go.Proofs.Ytgikbpaejmdnoaa

/-
  The contracts of strings.Clone and of piece.
-/
namespace Go.Proofs.Ytgikbpaejmdnoaa
open Go.RowKit Sc
set_option linter.unusedVariables false
set_option maxRecDepth 20000

/-- copy(b, s) over a whole row of the call's own -/
theorem wp_copy_str {P : Program} {w : World} {ops : Array Oper} {rest : List Oper} {o : Oper} {a : Act} {Q : Exit → Act → World → Prop} (hgd : o.guard = none) (d x : Operand) (dT sT : TypeId)
    (ho : o.op = .call { callee := .builtin .copy, args := #[d, x], argTypes := #[dT, sT] }) (elem : TypeId) (hu : P.underlying dT = some (.slice elem)) (hsz : (P.info? elem).map (·.size) = some 1)
    (g dCap : Nat) (s : ByteArray) (hd : a.eval d = .slice (some ⟨g, 0, none⟩) s.size dCap) (hs : a.eval x = .string s)
    (cur : Array Value) (t : TypeId) (hg : w.heap[g]? = some (.cells cur t (0, 0))) (hfit : cur.size = s.size) (B : Nat) (w0 : World) (hb : Below B w0 w) (hB : B ≤ g)
    (h : ∀ w', Hid (w'.heap[g]? = some (.cells (Lib.byteCells s.data.toList).toArray t (0, 0))) → Below B w0 w' → wpList P ops Q rest (a.put o.dst (goInt s.size)) w') : wpList P ops Q (o :: rest) a w := by
  refine wpList_plain hgd fun K hK => ?_
  have hrun := Lib.run_copy_row_string (P := P) w dT sT o.type elem g 0 s.size dCap s cur t hu hsz hg (Nat.le_refl _) (by omega)
  have hrow : (cur.toList.take 0 ++ Lib.byteCells s.data.toList ++ cur.toList.drop (0 + s.size)).toArray = (Lib.byteCells s.data.toList).toArray := by
    rw [List.drop_of_length_le (by rw [Array.length_toList]; omega)]; simp
  rw [hrow] at hrun
  unfold Oper.wp
  simp [execOp, ho, resolve, invoke, builtin, hd, hs, hrun, Result.andThen]
  exact hK _ _ (h _ (setRow_heap w g cur _ t (0, 0) hg) (below_setRow hb hB _))

/-- a text laid over a whole row of bytes -/
theorem wp_str_of_row {P : Program} {w : World} {ops : Array Oper} {rest : List Oper} {o : Oper} {a : Act} {Q : Exit → Act → World → Prop} (hgd : o.guard = none) (p n : Operand) (pt it : TypeId)
    (ho : o.op = .call { callee := .builtin .unsafeString, args := #[p, n], argTypes := #[pt, it] }) (e : TypeId) (hp : P.underlying pt = some (.pointer e)) (hc : P.cellsOf e = 1)
    (g : Nat) (l : List UInt8) (h0 : l ≠ []) (h63 : l.length ≤ 9223372036854775807) (hpv : a.eval p = .pointer (some ⟨g, 0, none⟩)) (m : Int) (hnv : a.eval n = .int .i64 m) (hm : m = l.length)
    (hg : Hid (w.heap[g]? = some (.cells (Lib.byteCells l).toArray e (0, 0)))) (B : Nat) (w0 : World) (hb : Below B w0 w) (hB : B ≤ g)
    (h : ∀ w', Below B w0 w' → wpList P ops Q rest (a.put o.dst (.string ⟨l.toArray⟩)) w') : wpList P ops Q (o :: rest) a w := by
  subst hm
  refine wpList_plain hgd fun K hK => ?_
  have hg' := hg.out
  have hsh : w.shape? g = some (e, l.length) := by simp [World.shape?, hg', Lib.byteCells_length]
  have hrun := Lib.run_unsafeString_row (P := P) w pt it o.type e hp hc g l.length hsh l h0 (Nat.le_refl _) h63 (fun j x hj => by
    have hj' : j < l.length := (List.getElem?_eq_some_iff.1 hj).1
    by_cases e0 : j = 0
    · subst e0; simp [World.cell?, Addr.add, hg', Lib.byteCells, hj]
    · simp [World.cell?, Addr.add, e0, hg', Lib.byteCells, hj])
  unfold Oper.wp
  simp [execOp, ho, resolve, invoke, builtin, hpv, hnv, hrun, Result.andThen]
  exact hK _ _ (h _ (Lib.below_freeze hb hB _))

theorem ret_back (s : ByteArray) : Ending.returned (.string ⟨s.data.toList.toArray⟩) = .returned (.string s) := by
  have h : (⟨s.data.toList.toArray⟩ : ByteArray) = s := by apply ByteArray.ext; simp
  rw [h]
theorem bytesz5 : (Try.prog.info? 5).map (·.size) = some 1 := by kernel_rfl
theorem cells5 : Try.prog.cellsOf 5 = 1 := by kernel_rfl

set_option maxHeartbeats 400000 in
theorem clone_any (s : ByteArray) (w : World) (hs : s.size ≤ 281474976710656) :
    Calls Try.prog 33 #[.string s] w fun e w' => e = .returned (.string s) ∧ Below w.heap.size w w' := by
  obtain ⟨i0, hi, hz0, hz1, hz2⟩ := info_parts info5
  by_cases h0 : s.size = 0
  · have he : s = ⟨#[]⟩ := by
      have : s.data.toList = [] := List.eq_nil_of_length_eq_zero (by rw [len_data, h0])
      apply ByteArray.ext; apply Array.toList_inj.1; rw [this]
    subst he
    go_enter Try.func33, Try.ntmps33
    go_wp2
    go_ret
    exact ⟨rfl, Below.refl _ _⟩
  · have hmk : ∀ u : World, (Instr.makeSlice 38 (.int .i64 (s.size : Int)) (.int .i64 (s.size : Int))).run Try.prog u =
        .ok (.slice (some ⟨u.heap.size, 0, none⟩) s.size s.size) (u.alloc (.cells (madeCells #[.int .u8 0] s.size) 5)) := fun u => by
      have h := run_make (P := Try.prog) u 38 5 i0 (.int .u8 0) Try.underlying38 hi hz0 .i64 .i64 (s.size : Int) (s.size : Int) (by omega) (Int.le_refl _) (by rw [hz2]; omega) (by omega)
      simpa [hz1, Value.cells] using h
    have hne : ((s.size : Int) == 0) = false := by simpa using h0
    have hl := data_ne (s := s) (by omega)
    have hpos : (0 : Int) < (s.size : Int) := by omega
    have HL : Hid _ := hl; clear hl
    go_enter Try.func33, Try.ntmps33
    go_wp2_with (first
      | (refine wp_copy_str rfl (.tmp 10) (.tmp 11) 38 9 rfl 5 Try.underlying38 bytesz5 w.heap.size s.size s rfl rfl _ 5 (heap_alloc_new w _) (size_madeCells _ _) w.heap.size w ((Below.refl _ _).alloc (Nat.le_refl _) _) (Nat.le_refl _) ?_; intro w2 hg2 hb2)
      | (refine wp_str_of_row rfl (.tmp 14) (.tmp 16) 103 3 rfl 5 Try.underlying103 cells5 w.heap.size s.data.toList HL.out (by rw [len_data]; omega) rfl _ rfl (by rw [len_data]) hg2 w.heap.size w hb2 (Nat.le_refl _) ?_; intro w3 hb3))
    go_ret
    exact ⟨ret_back s, hb3⟩

set_option maxHeartbeats 400000 in
theorem sclone_any (s : ByteArray) (w : World) (hs : s.size ≤ 281474976710656) :
    Calls Try.prog 25 #[.string s] w fun e w' => e = .returned (.string s) ∧ Below w.heap.size w w' := by
  go_enter Try.func25, Try.ntmps25
  go_wp2_with (go_at_call 33; refine (clone_any _ _ hs).mono ?_; rintro e w' ⟨rfl, hb⟩)
  go_ret
  exact ⟨rfl, hb⟩

end Go.Proofs.Ytgikbpaejmdnoaa
