/-
  Base texts, one behind another: Kit, Pure, Bytes, Own, Texts, Clone.
-/
import Derived.Test.YtnijlmkodgdhlaaDoorRows
import Derived.WalkKit
import Derived.WalkSpells
import Derived.WalkLawsBesides
import Derived.Below
import Derived.Laws.IdiomStrings
import Derived.Laws.BytesArg
import Derived.Lib.UnsafeStr
import Derived.Deep.RegionLaw
import Derived.Lib.BufferWrite
import Derived.Laws.MakeOwn
import Derived.Laws.CopyOwn

/-
  Small facts that every walk uses: what is handed back, bytes of a text, lists of bytes.
-/
namespace Go.Proofs.YtnijlmkodgdhlaaDoor
open Go.RowKit
set_option linter.unusedVariables false
set_option maxRecDepth 20000

theorem i64_of {a : Int} (h : (Lit.int .i64 a).wf = true) : -9223372036854775808 ≤ a ∧ a ≤ 9223372036854775807 := by
  simpa [Lit.wf, IntKind.min, IntKind.max, IntKind.signed, IntKind.bits] using h
theorem u64_of {a : Int} (h : (Lit.int .u64 a).wf = true) : 0 ≤ a ∧ a ≤ 18446744073709551615 := by
  simpa [Lit.wf, IntKind.min, IntKind.max, IntKind.signed, IntKind.bits] using h
theorem below_drewN (w : World) (q : Nat) : Below w.heap.size w (w.drewN q) := ⟨rfl, rfl, rfl, Nat.le_refl _, fun _ _ => rfl⟩
theorem ret_int {k : IntKind} {a b : Int} (h : a = b) : Ending.returned (.int k a) = .returned (.int k b) := by rw [h]
theorem ret_bool {a b : Bool} (h : a = b) : Ending.returned (.bool a) = .returned (.bool b) := by rw [h]

theorem info5 : (Tryd.prog.info? 5).map (fun i => (i.zero, i.size, i.bytes)) = some (some (.int .u8 0), 1, 1) := by kernel_rfl

theorem u8_bd (b : UInt8) : 0 ≤ (b.toNat : Int) ∧ (b.toNat : Int) ≤ 255 := by
  have := b.toNat_lt; omega
theorem getL (s : ByteArray) (k : Nat) (h : k < s.size) : s.data.toList[k]? = some s[k] := by
  simp only [Array.getElem?_toList]
  have h' : k < s.data.size := h
  rw [Array.getElem?_eq_getElem h']
  rfl
theorem take_snoc (s : ByteArray) (k : Nat) (h : k < s.size) : s.data.toList.take (k + 1) = s.data.toList.take k ++ [s[k]] := by
  rw [List.take_succ_eq_append_getElem (by simpa using h)]; rfl
theorem drop_cons (s : ByteArray) (k : Nat) (h : k < s.size) : s.data.toList.drop k = s[k] :: s.data.toList.drop (k + 1) := by
  rw [List.drop_eq_getElem_cons (by simpa using h)]; rfl
theorem take_all (s : ByteArray) (k : Nat) (h : s.size ≤ k) : s.data.toList.take k = s.data.toList := List.take_of_length_le (by simpa using h)
theorem drop_all (s : ByteArray) (k : Nat) (h : s.size ≤ k) : s.data.toList.drop k = [] := List.drop_of_length_le (by simpa using h)
theorem len_data (s : ByteArray) : s.data.toList.length = s.size := by rw [Array.length_toList]; rfl

theorem ret_two {a b : Value} {a' b' : Value} (h : a = a') (h' : b = b') : Ending.returned (.tuple #[a, b]) = .returned (.tuple #[a', b']) := by rw [h, h']
theorem ret_pair {p : Int × Int} (a b : Int) (h : p = (a, b)) : Ending.returned (.tuple #[.int .i64 a, .int .i64 b]) = .returned (.tuple #[.int .i64 p.1, .int .i64 p.2]) := by rw [h]
theorem data_ne {s : ByteArray} (h : 0 < s.size) : s.data.toList ≠ [] := by
  intro h'; have := len_data s; rw [h'] at this; simp at this; omega
theorem isE_false {s : ByteArray} (h : 0 < s.size) : s.toList.isEmpty = false := by
  have := data_ne h
  rw [ByteArray.toList_eq]; simpa using this
theorem isE_true {s : ByteArray} (h : s.size = 0) : s.toList.isEmpty = true := by
  have : s.data.toList = [] := List.eq_nil_of_length_eq_zero (by rw [len_data, h])
  rw [ByteArray.toList_eq, this]; rfl

theorem ext_list (s : ByteArray) (a b : Nat) : s.extract a b = ⟨((s.data.toList.drop a).take (b - a)).toArray⟩ := by
  have h := ByteArray.extract_mk s.data.toList a b
  have h' : (⟨s.data.toList.toArray⟩ : ByteArray) = s := by apply ByteArray.ext; simp
  rw [h'] at h
  exact h

theorem hid {p : Prop} (h : p) : Hid p := h
theorem alloc_lt (w : World) (o : Obj) : w.heap.size < (w.alloc o).heap.size := by simp

end Go.Proofs.YtnijlmkodgdhlaaDoor

/-
  Plain functions on numbers and lists of bytes: what package scan computes, without any program.
-/
namespace Go.Proofs.YtnijlmkodgdhlaaDoor.Sc

def low (c : Int) : Int := if 65 ≤ c ∧ c ≤ 90 then c + 32 else c
def sgn (c : Int) : Int :=
  if c = 45 ∨ c = 46 then 88 else if c = 33 ∨ c = 126 ∨ c = 42 ∨ c = 95 ∨ c = 39 then 24
  else if c = 37 ∨ c = 43 ∨ c = 96 then 8 else if c = 40 ∨ c = 41 then 16 else if c = 32 ∨ c = 9 then 32 else 0
def cls (c : Int) : Int :=
  if 48 ≤ c ∧ c ≤ 57 then 93 else if 97 ≤ low c ∧ low c ≤ 102 then 94 else if 103 ≤ low c ∧ low c ≤ 122 then 90 else sgn c

theorem low_bd {c : Int} (h0 : 0 ≤ c) (h1 : c ≤ 255) : 0 ≤ low c ∧ low c ≤ 255 := by
  unfold low; split <;> omega

def barB (c : Int) : Bool := decide (c = 0 ∨ c = 10 ∨ c = 13)
def bareB (c : Int) : Bool := decide (c = 9 ∨ 32 ≤ c ∧ c ≠ 34 ∧ c ≠ 92 ∧ c ≠ 127)

end Go.Proofs.YtnijlmkodgdhlaaDoor.Sc

/-
  Contracts of the small functions on single bytes.
-/
namespace Go.Proofs.YtnijlmkodgdhlaaDoor
open Go.RowKit Sc
set_option linter.unusedVariables false
set_option maxRecDepth 20000

def isB (c class_ : Int) : Bool := !(bits BinOp.and IntKind.i64 (cls c) class_ == 0)

set_option maxHeartbeats 400000 in
theorem lower_any (c : Int) (w : World) (h0 : 0 ≤ c) (h1 : c ≤ 255) :
    Calls Tryd.prog 72 #[.int .u8 c] w fun e w' => e = .returned (.int .u8 (low c)) ∧ w' = w := by
  go_enter Tryd.func72, Tryd.ntmps72
  go_wp2
  all_goals go_ret
  all_goals (refine ⟨ret_int ?_, rfl⟩; unfold low; first | rw [if_pos (by omega)] | rw [if_neg (by omega)])

set_option maxHeartbeats 400000 in
theorem sign_any (c : Int) (w : World) (h0 : 0 ≤ c) (h1 : c ≤ 255) :
    Calls Tryd.prog 73 #[.int .u8 c] w fun e w' => e = .returned (.int .i64 (sgn c)) ∧ w' = w := by
  go_enter Tryd.func73, Tryd.ntmps73
  go_wp2
  all_goals go_ret
  all_goals (refine ⟨ret_int ?_, rfl⟩; simp only [beq_iff_eq, beq_eq_false_iff_ne, ne_eq] at *; unfold sgn; repeat (first | rw [if_pos (by omega)] | rw [if_neg (by omega)]))

set_option maxHeartbeats 400000 in
theorem class_any (c : Int) (w : World) (h0 : 0 ≤ c) (h1 : c ≤ 255) :
    Calls Tryd.prog 50 #[.int .u8 c] w fun e w' => e = .returned (.int .i64 (cls c)) ∧ w' = w := by
  have hb := low_bd h0 h1
  go_enter Tryd.func50, Tryd.ntmps50
  go_wp2_with (first
    | (go_at_call 72; refine (lower_any _ _ h0 h1).mono ?_; rintro e w' ⟨rfl, rfl⟩)
    | (go_at_call 73; refine (sign_any _ _ h0 h1).mono ?_; rintro e w' ⟨rfl, rfl⟩))
  all_goals go_ret
  all_goals (refine ⟨ret_int ?_, rfl⟩; unfold cls; repeat (first | rw [if_pos (by omega)] | rw [if_neg (by omega)]))

end Go.Proofs.YtnijlmkodgdhlaaDoor

/-
  Laws on rows of one-cell elements that a call made itself: append, make, turning bytes into a text. Of no program.
-/
namespace Go.Proofs.YtnijlmkodgdhlaaDoor
open Go.RowKit
set_option linter.unusedVariables false
set_option maxRecDepth 20000

/-- The slice value v owns the cells xs, in a block from B on. -/
def Own (w : World) (B : Nat) (e : TypeId) (v : Value) (xs : List Value) : Prop := w.ownsRow B e 1 v xs.length xs

theorem Own.nil (w : World) (B : Nat) (e : TypeId) : Own w B e (.slice none 0 0) [] := World.ownsRow_nil _ _ _ _
theorem Own.alloc {w : World} {B : Nat} {e : TypeId} {v : Value} {xs : List Value} (h : Own w B e v xs) (o : Obj) : Own (w.alloc o) B e v xs := World.ownsRow.alloc h o
theorem Own.drew {w : World} {B : Nat} {e : TypeId} {v : Value} {xs : List Value} (h : Own w B e v xs) : Own w.drew B e v xs := World.ownsRow.drew h
theorem Own.below {w w' : World} {B : Nat} {e : TypeId} {v : Value} {xs : List Value} (h : Own w B e v xs) (hb : Below w.heap.size w w') : Own w' B e v xs := by
  obtain ⟨h1, h2⟩ := h
  refine ⟨h1, ?_⟩
  rcases h2 with h2 | ⟨g, cap, cur, hv, hg, hh, r⟩
  · exact Or.inl h2
  · exact Or.inr ⟨g, cap, cur, hv, hg, by rw [hb.block g (Array.getElem?_eq_some_iff.1 hh).1]; exact hh, r⟩

theorem Own.form {w : World} {B : Nat} {e : TypeId} {v : Value} {xs : List Value} (h : Own w B e v xs) : ∃ a cap, v = .slice a xs.length cap := by
  rcases h.2 with ⟨rfl, hn⟩ | ⟨g, cap, cur, rfl, _⟩
  · exact ⟨none, 0, by rw [hn]⟩
  · exact ⟨_, cap, rfl⟩

/-- append of some elements: afterwards the longer list is owned, and nothing below B has turned. -/
theorem wp_app {P : Program} (w : World) {ops : Array Oper} {rest : List Oper} {o : Oper} {a : Act} {Q : Exit → Act → World → Prop} (hgd : o.guard = none)
    (s x : Operand) (t : TypeId) (ho : o.op = Op.call { callee := Callee.builtin Builtin.append, args := #[s, x], argTypes := #[t, t] }) (B : Nat) (e : TypeId) (i : TypeInfo)
    (z : Value) (bytes : Nat) (ht : P.underlying t = some (TypeDesc.slice e)) (hi : P.info? e = some i) (hz : i.zero = some z) (hsize : i.size = 1) (hby : i.bytes = bytes) (hzs : z.cells.size = 1)
    (v : Value) (xs : List Value) (hs : a.eval s = v) (hown : Own w B e v xs) (ad : Addr) (m : Nat) (c : Nat) (news : List Value) (hx : a.eval x = Value.slice (some ad) m c) (hl : news.length = m)
    (hnews : ∀ (j : Nat) (u : Value), news[j]? = some u → w.cell? (ad.add j) = some u) (h1 : ∀ u ∈ news, u.oneCell' = true)
    (h63 : xs.length + m ≤ maxLen) (hbytes : (xs.length + m) * bytes ≤ 140737488355328) (w0 : World) (hb : Below B w0 w) (hB : B ≤ w.heap.size)
    (h : ∀ (v' : Value) (w' : World), Own w' B e v' (xs ++ news) → Below B w0 w' → B ≤ w'.heap.size → wpList P ops Q rest (a.put o.dst v') w') : wpList P ops Q (o :: rest) a w := by
  refine wpList_append_own w hgd s x t ho B e i z 1 bytes ht hi hz hsize hby hzs (by decide) v xs.length xs hs hown ad m c news hx (by simpa using hl) hnews h1 h63 hbytes hB ?_
  intro v' w' hown' hgr _
  refine h v' w' ?_ (hb.grown hgr hB (fun k hk => (World.ownsRow.lt hown k hk).1)) (Nat.le_trans hB hgr.size)
  unfold Own
  rw [List.length_append, hl]
  exact hown'

/-- The same as one step of a region that draws its order. -/
theorem step_app {P : Program} {ops : Array Oper} {o : Oper} {a : Act} {w : World} {K : Act → World → Prop} {Q : Exit → Act → World → Prop} {E : Prop} (hgd : o.guard = none)
    (s x : Operand) (t : TypeId) (ho : o.op = Op.call { callee := Callee.builtin Builtin.append, args := #[s, x], argTypes := #[t, t] }) (B : Nat) (e : TypeId) (i : TypeInfo)
    (z : Value) (bytes : Nat) (ht : P.underlying t = some (TypeDesc.slice e)) (hi : P.info? e = some i) (hz : i.zero = some z) (hsize : i.size = 1) (hby : i.bytes = bytes) (hzs : z.cells.size = 1)
    (v : Value) (xs : List Value) (hs : a.eval s = v) (hown : Own w B e v xs) (ad : Addr) (m : Nat) (c : Nat) (news : List Value) (hx : a.eval x = Value.slice (some ad) m c) (hl : news.length = m)
    (hnews : ∀ (j : Nat) (u : Value), news[j]? = some u → w.cell? (ad.add j) = some u) (h1 : ∀ u ∈ news, u.oneCell' = true)
    (h63 : xs.length + m ≤ maxLen) (hbytes : (xs.length + m) * bytes ≤ 140737488355328) (w0 : World) (hb : Below B w0 w) (hB : B ≤ w.heap.size)
    (h : ∀ (v' : Value) (w' : World), Own w' B e v' (xs ++ news) → Below B w0 w' → B ≤ w'.heap.size → K (a.put o.dst v') w') :
    if Region.wanted o (yielded ops a.tmps) = true then Oper.wp P o a w K Q else E := by
  have hw : Region.wanted o (yielded ops a.tmps) = true := by simp [Region.wanted, hgd]
  rw [if_pos hw]
  obtain ⟨v', w', hrun, r1, hgr, _⟩ := run_append_own (P := P) w B t o.type e i z 1 bytes ht hi hz hsize hby hzs (by decide) v xs.length xs hown ad m c news (by simpa using hl) hnews h1 h63 hbytes hB
  unfold Oper.wp
  simp [execOp, ho, resolve, invoke, builtin, hs, hx, hrun, Result.andThen]
  refine h v' w' ?_ (hb.grown hgr hB (fun k hk => (World.ownsRow.lt hown k hk).1)) (Nat.le_trans hB hgr.size)
  unfold Own
  rw [List.length_append, hl]
  exact r1

/-- make([]T, 0, n) -/
theorem wp_make {P : Program} (w : World) {ops : Array Oper} {rest : List Oper} {o : Oper} {a : Act} {Q : Exit → Act → World → Prop} (hg : o.guard = none)
    (l c : Operand) (t : TypeId) (hop : o.op = Op.makeSlice t l c) (B : Nat) (e : TypeId) (i : TypeInfo) (z : Value) (h1 : P.underlying t = some (TypeDesc.slice e))
    (h2 : P.info? e = some i) (h3 : i.zero = some z) (h4 : i.size = 1) (kl kc : IntKind) (C : Int) (n : Nat) (hl : a.eval l = Value.int kl 0) (hc : a.eval c = Value.int kc C) (hC : C = ↑n)
    (b2 : i.bytes * n ≤ 281474976710656) (b3 : n ≤ maxLen) (w0 : World) (hb : Below B w0 w) (b4 : B ≤ w.heap.size)
    (hK : ∀ (v : Value) (w' : World), Own w' B e v [] → Below B w0 w' → B ≤ w'.heap.size → wpList P ops Q rest (a.put o.dst v) w') :
    wpList P ops Q (o :: rest) a w := by
  refine wpList_make_own w hg l c t hop B e i z 1 h1 h2 h3 h4 kl kc C n hl hc hC b2 b3 b4 ?_
  intro w' hown hgr
  exact hK _ w' hown (hb.grown hgr b4 (fun k hk => by cases hk)) (Nat.le_trans b4 hgr.size)

/-- string(b), b a row of bytes of the call's own -/
theorem conv_own {P : Program} {w : World} {B e src dst : Nat} {v : Value} (l : List UInt8) (hs : P.underlying src = some (.slice e)) (he : P.underlying e = some (.int .u8)) (hd : P.underlying dst = some .string)
    (h : Own w B e v (Lib.byteCells l)) : (convert src dst v).run P w = .ok (.string ⟨l.toArray⟩) w := by
  have hl : (Lib.byteCells l).length = l.length := Lib.byteCells_length l
  rcases h.2 with ⟨rfl, hn⟩ | ⟨g, cap, cur, rfl, hb, hg, _, _, hc, hx⟩
  · have : l = [] := List.eq_nil_of_length_eq_zero (by rw [← hl, hn])
    subst this
    exact run_convert_bytes_nil w src e hs he 0 0 dst hd
  · rw [hl]
    refine run_convert_bytes_back w src dst e _ cap l hs he hd fun j hj => ?_
    refine World.ownsRow.cells h (g := g) rfl j _ ?_
    simp [Lib.byteCells, List.getElem?_eq_getElem hj]

/-- The cell of a new block of one. -/
theorem one_new (w : World) (e : TypeId) (x : Value) : ∀ (j : Nat) (u : Value), [x][j]? = some u → (w.alloc (.cells #[x] e)).cell? ((⟨w.heap.size, 0, none⟩ : Addr).add j) = some u := by
  intro j u hj
  match j, hj with
  | 0, hj => simp at hj; subst hj; simp [Addr.add]

theorem byteCells_one (l : List UInt8) : ∀ u ∈ Lib.byteCells l, u.oneCell' = true := by
  intro u hu
  simp only [Lib.byteCells, List.mem_map] at hu
  obtain ⟨b, _, rfl⟩ := hu
  rfl

end Go.Proofs.YtnijlmkodgdhlaaDoor

/-
  Contracts of All, Number and Quote.
-/
namespace Go.Proofs.YtnijlmkodgdhlaaDoor
open Go.RowKit Sc
set_option linter.unusedVariables false
set_option maxRecDepth 20000

def allB (class_ : Int) (l : List UInt8) : Bool := l.all fun b => isB b.toNat class_

theorem allB_snoc (class_ : Int) (l : List UInt8) (b : UInt8) : allB class_ (l ++ [b]) = (allB class_ l && isB b.toNat class_) := by simp [allB]
theorem allB_hit {class_ : Int} {s : ByteArray} {k : Nat} (h : k < s.size) (hb : isB s[k].toNat class_ = false) : allB class_ s.data.toList = false := by
  rw [allB, List.all_eq_false]
  exact ⟨s[k], List.mem_of_getElem? (getL s k h), by simp [hb]⟩

/-- What Number reads: the digits' number, if it stays up to most. -/
def numL (most : Int) : Int → List UInt8 → Option Int
  | n, [] => some n
  | n, b :: r => if (b.toNat : Int) - 48 > most ∨ n > (most - ((b.toNat : Int) - 48)) / 10 then none else numL most (10 * n + ((b.toNat : Int) - 48)) r
def numV (most : Int) (l : List UInt8) : Int × Int :=
  if l = [] ∨ allB 1 l = false then (0, 10) else match numL most 0 l with | some n => (n, 0) | none => (0, 9)

theorem isB_digit (c : Int) (h0 : 0 ≤ c) (h1 : c ≤ 255) : isB c 1 = decide (48 ≤ c ∧ c ≤ 57) := by
  obtain ⟨n, rfl⟩ := Int.eq_ofNat_of_zero_le h0
  have h : ∀ n : Fin 256, isB (n.val : Int) 1 = decide (48 ≤ (n.val : Int) ∧ (n.val : Int) ≤ 57) := by decide +kernel
  exact h ⟨n, by omega⟩
theorem digit_at {s : ByteArray} (h : allB 1 s.data.toList = true) (k : Nat) (hk : k < s.size) : 48 ≤ (s[k].toNat : Int) ∧ (s[k].toNat : Int) ≤ 57 := by
  have hb := u8_bd s[k]
  have := (List.all_eq_true.1 h) s[k] (List.mem_of_getElem? (getL s k hk))
  rw [isB_digit _ hb.1 hb.2] at this
  simpa using this
theorem numL_stop {most n : Int} {s : ByteArray} {k : Nat} (hk : k < s.size) (h : (s[k].toNat : Int) - 48 > most ∨ n > (most - ((s[k].toNat : Int) - 48)) / 10) : numL most n (s.data.toList.drop k) = none := by
  rw [drop_cons s k hk, numL, if_pos h]
theorem numL_go {most n : Int} {s : ByteArray} {k : Nat} (hk : k < s.size) (h : ¬ ((s[k].toNat : Int) - 48 > most ∨ n > (most - ((s[k].toNat : Int) - 48)) / 10)) :
    numL most n (s.data.toList.drop k) = numL most (10 * n + ((s[k].toNat : Int) - 48)) (s.data.toList.drop (k + 1)) := by
  rw [drop_cons s k hk, numL, if_neg h]

end Go.Proofs.YtnijlmkodgdhlaaDoor

/-
  The contracts of strings.Clone and of piece.
-/
namespace Go.Proofs.YtnijlmkodgdhlaaDoor
open Go.RowKit Sc
set_option linter.unusedVariables false
set_option maxRecDepth 20000

/-- copy(b, s) over a whole row of the call's own -/
theorem wp_copy_str {P : Program} {w : World} {ops : Array Oper} {rest : List Oper} {o : Oper} {a : Act} {Q : Exit → Act → World → Prop} (hgd : o.guard = none) (d x : Operand) (dT sT : TypeId)
    (ho : o.op = .call { callee := .builtin .copy, args := #[d, x], argTypes := #[dT, sT] }) (elem : TypeId) (hu : P.underlying dT = some (.slice elem)) (hsz : (P.info? elem).map (·.size) = some 1)
    (g dCap : Nat) (s : ByteArray) (hd : a.eval d = .slice (some ⟨g, 0, none⟩) s.size dCap) (hs : a.eval x = .string s)
    (cur : Array Value) (t : TypeId) (hg : w.heap[g]? = some (.cells cur t (0, 0))) (hfit : cur.size = s.size) (B : Nat) (w0 : World) (hb : Below B w0 w) (hB : B ≤ g)
    (h : ∀ w', Hid (w'.heap[g]? = some (.cells (Lib.byteCells s.data.toList).toArray t (0, 0))) → Below B w0 w' → wpList P ops Q rest (a.put o.dst (goInt s.size)) w') : wpList P ops Q (o :: rest) a w := by
  refine wpList_plain hgd fun K hK => ?_
  have hrun := Lib.run_copy_row_string (P := P) w dT sT o.type elem g 0 s.size dCap s cur t hu hsz hg (Nat.le_refl _) (by omega)
  have hrow : (cur.toList.take 0 ++ Lib.byteCells s.data.toList ++ cur.toList.drop (0 + s.size)).toArray = (Lib.byteCells s.data.toList).toArray := by
    rw [List.drop_of_length_le (by rw [Array.length_toList]; omega)]; simp
  rw [hrow] at hrun
  unfold Oper.wp
  simp [execOp, ho, resolve, invoke, builtin, hd, hs, hrun, Result.andThen]
  exact hK _ _ (h _ (setRow_heap w g cur _ t (0, 0) hg) (below_setRow hb hB _))

/-- a text laid over a whole row of bytes -/
theorem wp_str_of_row {P : Program} {w : World} {ops : Array Oper} {rest : List Oper} {o : Oper} {a : Act} {Q : Exit → Act → World → Prop} (hgd : o.guard = none) (p n : Operand) (pt it : TypeId)
    (ho : o.op = .call { callee := .builtin .unsafeString, args := #[p, n], argTypes := #[pt, it] }) (e : TypeId) (hp : P.underlying pt = some (.pointer e)) (hc : P.cellsOf e = 1)
    (g : Nat) (l : List UInt8) (h0 : l ≠ []) (h63 : l.length ≤ 9223372036854775807) (hpv : a.eval p = .pointer (some ⟨g, 0, none⟩)) (m : Int) (hnv : a.eval n = .int .i64 m) (hm : m = l.length)
    (hg : Hid (w.heap[g]? = some (.cells (Lib.byteCells l).toArray e (0, 0)))) (B : Nat) (w0 : World) (hb : Below B w0 w) (hB : B ≤ g)
    (h : ∀ w', Below B w0 w' → wpList P ops Q rest (a.put o.dst (.string ⟨l.toArray⟩)) w') : wpList P ops Q (o :: rest) a w := by
  subst hm
  refine wpList_plain hgd fun K hK => ?_
  have hg' := hg.out
  have hsh : w.shape? g = some (e, l.length) := by simp [World.shape?, hg', Lib.byteCells_length]
  have hrun := Lib.run_unsafeString_row (P := P) w pt it o.type e hp hc g l.length hsh l h0 (Nat.le_refl _) h63 (fun j x hj => by
    have hj' : j < l.length := (List.getElem?_eq_some_iff.1 hj).1
    by_cases e0 : j = 0
    · subst e0; simp [World.cell?, Addr.add, hg', Lib.byteCells, hj]
    · simp [World.cell?, Addr.add, e0, hg', Lib.byteCells, hj])
  unfold Oper.wp
  simp [execOp, ho, resolve, invoke, builtin, hpv, hnv, hrun, Result.andThen]
  exact hK _ _ (h _ (Lib.below_freeze hb hB _))

theorem ret_back (s : ByteArray) : Ending.returned (.string ⟨s.data.toList.toArray⟩) = .returned (.string s) := by
  have h : (⟨s.data.toList.toArray⟩ : ByteArray) = s := by apply ByteArray.ext; simp
  rw [h]
theorem bytesz5 : (Tryd.prog.info? 5).map (·.size) = some 1 := by kernel_rfl
theorem cells5 : Tryd.prog.cellsOf 5 = 1 := by kernel_rfl

set_option maxHeartbeats 400000 in
theorem clone_any (s : ByteArray) (w : World) (hs : s.size ≤ 281474976710656) :
    Calls Tryd.prog 61 #[.string s] w fun e w' => e = .returned (.string s) ∧ Below w.heap.size w w' := by
  obtain ⟨i0, hi, hz0, hz1, hz2⟩ := info_parts info5
  by_cases h0 : s.size = 0
  · have he : s = ⟨#[]⟩ := by
      have : s.data.toList = [] := List.eq_nil_of_length_eq_zero (by rw [len_data, h0])
      apply ByteArray.ext; apply Array.toList_inj.1; rw [this]
    subst he
    go_enter Tryd.func61, Tryd.ntmps61
    go_wp2
    go_ret
    exact ⟨rfl, Below.refl _ _⟩
  · have hmk : ∀ u : World, (Instr.makeSlice 53 (.int .i64 (s.size : Int)) (.int .i64 (s.size : Int))).run Tryd.prog u =
        .ok (.slice (some ⟨u.heap.size, 0, none⟩) s.size s.size) (u.alloc (.cells (madeCells #[.int .u8 0] s.size) 5)) := fun u => by
      have h := run_make (P := Tryd.prog) u 53 5 i0 (.int .u8 0) Tryd.underlying53 hi hz0 .i64 .i64 (s.size : Int) (s.size : Int) (by omega) (Int.le_refl _) (by rw [hz2]; omega) (by omega)
      simpa [hz1, Value.cells] using h
    have hne : ((s.size : Int) == 0) = false := by simpa using h0
    have hl := data_ne (s := s) (by omega)
    have hpos : (0 : Int) < (s.size : Int) := by omega
    have HL : Hid _ := hl; clear hl
    go_enter Tryd.func61, Tryd.ntmps61
    go_wp2_with (first
      | (refine wp_copy_str rfl (.tmp 10) (.tmp 11) 53 9 rfl 5 Tryd.underlying53 bytesz5 w.heap.size s.size s rfl rfl _ 5 (heap_alloc_new w _) (size_madeCells _ _) w.heap.size w ((Below.refl _ _).alloc (Nat.le_refl _) _) (Nat.le_refl _) ?_; intro w2 hg2 hb2)
      | (refine wp_str_of_row rfl (.tmp 14) (.tmp 16) 81 3 rfl 5 Tryd.underlying81 cells5 w.heap.size s.data.toList HL.out (by rw [len_data]; omega) rfl _ rfl (by rw [len_data]) hg2 w.heap.size w hb2 (Nat.le_refl _) ?_; intro w3 hb3))
    go_ret
    exact ⟨ret_back s, hb3⟩

set_option maxHeartbeats 400000 in
theorem sclone_any (s : ByteArray) (w : World) (hs : s.size ≤ 281474976710656) :
    Calls Tryd.prog 43 #[.string s] w fun e w' => e = .returned (.string s) ∧ Below w.heap.size w w' := by
  go_enter Tryd.func43, Tryd.ntmps43
  go_wp2_with (go_at_call 61; refine (clone_any _ _ hs).mono ?_; rintro e w' ⟨rfl, hb⟩)
  go_ret
  exact ⟨rfl, hb⟩

end Go.Proofs.YtnijlmkodgdhlaaDoor
