/-
  Base texts, one behind another: Own, Row, Kit, Pure, Bytes, Texts, Clone, RefClass, Lower, Parts, CutL, HostL, Trim, Quote, Unquote.
-/
import Derived.WalkKit
import Derived.WalkSpells
import Derived.Laws.IdiomStrings
import Derived.Laws.BytesArg
import Derived.Lib.UnsafeStr
import Derived.Deep.RegionLaw
import Derived.Laws.MakeOwn
import Derived.Lib.BufferWrite
import Derived.Test.YtgboekilhldejaaGreatDoorRows
import Derived.WalkLawsBesides
import Derived.Below
import Derived.Laws.CopyOwn

/-
  Laws on rows of one-cell elements that a call made itself: append, make, turning bytes into a text. Of no program.
-/
namespace Go.Proofs.YtgboekilhldejaaGreatDoor
open Go.RowKit
set_option linter.unusedVariables false
set_option maxRecDepth 20000

/-- The slice value v owns the cells xs, in a block from B on. -/
def Own (w : World) (B : Nat) (e : TypeId) (v : Value) (xs : List Value) : Prop := w.ownsRow B e 1 v xs.length xs

theorem Own.nil (w : World) (B : Nat) (e : TypeId) : Own w B e (.slice none 0 0) [] := World.ownsRow_nil _ _ _ _
theorem Own.alloc {w : World} {B : Nat} {e : TypeId} {v : Value} {xs : List Value} (h : Own w B e v xs) (o : Obj) : Own (w.alloc o) B e v xs := World.ownsRow.alloc h o
theorem Own.drew {w : World} {B : Nat} {e : TypeId} {v : Value} {xs : List Value} (h : Own w B e v xs) : Own w.drew B e v xs := World.ownsRow.drew h
theorem Own.below {w w' : World} {B : Nat} {e : TypeId} {v : Value} {xs : List Value} (h : Own w B e v xs) (hb : Below w.heap.size w w') : Own w' B e v xs := by
  obtain ⟨h1, h2⟩ := h
  refine ⟨h1, ?_⟩
  rcases h2 with h2 | ⟨g, cap, cur, hv, hg, hh, r⟩
  · exact Or.inl h2
  · exact Or.inr ⟨g, cap, cur, hv, hg, by rw [hb.block g (Array.getElem?_eq_some_iff.1 hh).1]; exact hh, r⟩

theorem Own.form {w : World} {B : Nat} {e : TypeId} {v : Value} {xs : List Value} (h : Own w B e v xs) : ∃ a cap, v = .slice a xs.length cap := by
  rcases h.2 with ⟨rfl, hn⟩ | ⟨g, cap, cur, rfl, _⟩
  · exact ⟨none, 0, by rw [hn]⟩
  · exact ⟨_, cap, rfl⟩

/-- append of some elements: afterwards the longer list is owned, and nothing below B has turned. -/
theorem wp_app {P : Program} (w : World) {ops : Array Oper} {rest : List Oper} {o : Oper} {a : Act} {Q : Exit → Act → World → Prop} (hgd : o.guard = none)
    (s x : Operand) (t : TypeId) (ho : o.op = Op.call { callee := Callee.builtin Builtin.append, args := #[s, x], argTypes := #[t, t] }) (B : Nat) (e : TypeId) (i : TypeInfo)
    (z : Value) (bytes : Nat) (ht : P.underlying t = some (TypeDesc.slice e)) (hi : P.info? e = some i) (hz : i.zero = some z) (hsize : i.size = 1) (hby : i.bytes = bytes) (hzs : z.cells.size = 1)
    (v : Value) (xs : List Value) (hs : a.eval s = v) (hown : Own w B e v xs) (ad : Addr) (m : Nat) (c : Nat) (news : List Value) (hx : a.eval x = Value.slice (some ad) m c) (hl : news.length = m)
    (hnews : ∀ (j : Nat) (u : Value), news[j]? = some u → w.cell? (ad.add j) = some u) (h1 : ∀ u ∈ news, u.oneCell' = true)
    (h63 : xs.length + m ≤ maxLen) (hbytes : (xs.length + m) * bytes ≤ 140737488355328) (w0 : World) (hb : Below B w0 w) (hB : B ≤ w.heap.size)
    (h : ∀ (v' : Value) (w' : World), Own w' B e v' (xs ++ news) → Below B w0 w' → B ≤ w'.heap.size → wpList P ops Q rest (a.put o.dst v') w') : wpList P ops Q (o :: rest) a w := by
  refine wpList_append_own w hgd s x t ho B e i z 1 bytes ht hi hz hsize hby hzs (by decide) v xs.length xs hs hown ad m c news hx (by simpa using hl) hnews h1 h63 hbytes hB ?_
  intro v' w' hown' hgr _
  refine h v' w' ?_ (hb.grown hgr hB (fun k hk => (World.ownsRow.lt hown k hk).1)) (Nat.le_trans hB hgr.size)
  unfold Own
  rw [List.length_append, hl]
  exact hown'

/-- The same as one step of a region that draws its order. -/
theorem step_app {P : Program} {ops : Array Oper} {o : Oper} {a : Act} {w : World} {K : Act → World → Prop} {Q : Exit → Act → World → Prop} {E : Prop} (hgd : o.guard = none)
    (s x : Operand) (t : TypeId) (ho : o.op = Op.call { callee := Callee.builtin Builtin.append, args := #[s, x], argTypes := #[t, t] }) (B : Nat) (e : TypeId) (i : TypeInfo)
    (z : Value) (bytes : Nat) (ht : P.underlying t = some (TypeDesc.slice e)) (hi : P.info? e = some i) (hz : i.zero = some z) (hsize : i.size = 1) (hby : i.bytes = bytes) (hzs : z.cells.size = 1)
    (v : Value) (xs : List Value) (hs : a.eval s = v) (hown : Own w B e v xs) (ad : Addr) (m : Nat) (c : Nat) (news : List Value) (hx : a.eval x = Value.slice (some ad) m c) (hl : news.length = m)
    (hnews : ∀ (j : Nat) (u : Value), news[j]? = some u → w.cell? (ad.add j) = some u) (h1 : ∀ u ∈ news, u.oneCell' = true)
    (h63 : xs.length + m ≤ maxLen) (hbytes : (xs.length + m) * bytes ≤ 140737488355328) (w0 : World) (hb : Below B w0 w) (hB : B ≤ w.heap.size)
    (h : ∀ (v' : Value) (w' : World), Own w' B e v' (xs ++ news) → Below B w0 w' → B ≤ w'.heap.size → K (a.put o.dst v') w') :
    if Region.wanted o (yielded ops a.tmps) = true then Oper.wp P o a w K Q else E := by
  have hw : Region.wanted o (yielded ops a.tmps) = true := by simp [Region.wanted, hgd]
  rw [if_pos hw]
  obtain ⟨v', w', hrun, r1, hgr, _⟩ := run_append_own (P := P) w B t o.type e i z 1 bytes ht hi hz hsize hby hzs (by decide) v xs.length xs hown ad m c news (by simpa using hl) hnews h1 h63 hbytes hB
  unfold Oper.wp
  simp [execOp, ho, resolve, invoke, builtin, hs, hx, hrun, Result.andThen]
  refine h v' w' ?_ (hb.grown hgr hB (fun k hk => (World.ownsRow.lt hown k hk).1)) (Nat.le_trans hB hgr.size)
  unfold Own
  rw [List.length_append, hl]
  exact r1

/-- make([]T, 0, n) -/
theorem wp_make {P : Program} (w : World) {ops : Array Oper} {rest : List Oper} {o : Oper} {a : Act} {Q : Exit → Act → World → Prop} (hg : o.guard = none)
    (l c : Operand) (t : TypeId) (hop : o.op = Op.makeSlice t l c) (B : Nat) (e : TypeId) (i : TypeInfo) (z : Value) (h1 : P.underlying t = some (TypeDesc.slice e))
    (h2 : P.info? e = some i) (h3 : i.zero = some z) (h4 : i.size = 1) (kl kc : IntKind) (C : Int) (n : Nat) (hl : a.eval l = Value.int kl 0) (hc : a.eval c = Value.int kc C) (hC : C = ↑n)
    (b2 : i.bytes * n ≤ 281474976710656) (b3 : n ≤ maxLen) (w0 : World) (hb : Below B w0 w) (b4 : B ≤ w.heap.size)
    (hK : ∀ (v : Value) (w' : World), Own w' B e v [] → Below B w0 w' → B ≤ w'.heap.size → wpList P ops Q rest (a.put o.dst v) w') :
    wpList P ops Q (o :: rest) a w := by
  refine wpList_make_own w hg l c t hop B e i z 1 h1 h2 h3 h4 kl kc C n hl hc hC b2 b3 b4 ?_
  intro w' hown hgr
  exact hK _ w' hown (hb.grown hgr b4 (fun k hk => by cases hk)) (Nat.le_trans b4 hgr.size)

/-- string(b), b a row of bytes of the call's own -/
theorem conv_own {P : Program} {w : World} {B e src dst : Nat} {v : Value} (l : List UInt8) (hs : P.underlying src = some (.slice e)) (he : P.underlying e = some (.int .u8)) (hd : P.underlying dst = some .string)
    (h : Own w B e v (Lib.byteCells l)) : (convert src dst v).run P w = .ok (.string ⟨l.toArray⟩) w := by
  have hl : (Lib.byteCells l).length = l.length := Lib.byteCells_length l
  rcases h.2 with ⟨rfl, hn⟩ | ⟨g, cap, cur, rfl, hb, hg, _, _, hc, hx⟩
  · have : l = [] := List.eq_nil_of_length_eq_zero (by rw [← hl, hn])
    subst this
    exact run_convert_bytes_nil w src e hs he 0 0 dst hd
  · rw [hl]
    refine run_convert_bytes_back w src dst e _ cap l hs he hd fun j hj => ?_
    refine World.ownsRow.cells h (g := g) rfl j _ ?_
    simp [Lib.byteCells, List.getElem?_eq_getElem hj]

/-- The cell of a new block of one. -/
theorem one_new (w : World) (e : TypeId) (x : Value) : ∀ (j : Nat) (u : Value), [x][j]? = some u → (w.alloc (.cells #[x] e)).cell? ((⟨w.heap.size, 0, none⟩ : Addr).add j) = some u := by
  intro j u hj
  match j, hj with
  | 0, hj => simp at hj; subst hj; simp [Addr.add]

theorem byteCells_one (l : List UInt8) : ∀ u ∈ Lib.byteCells l, u.oneCell' = true := by
  intro u hu
  simp only [Lib.byteCells, List.mem_map] at hu
  obtain ⟨b, _, rfl⟩ := hu
  rfl

end Go.Proofs.YtgboekilhldejaaGreatDoor

/-
  A row of cells that is known whole, cell by cell. Of no program.
-/
namespace Go.Proofs.YtgboekilhldejaaGreatDoor
open Go.RowKit
set_option linter.unusedVariables false
set_option maxRecDepth 20000

/-- Block g is a row of the cells l. -/
def RowIs (w : World) (g : Nat) (e : TypeId) (l : List Value) : Prop := w.heap[g]? = some (.cells l.toArray e (0, 0))

theorem RowIs.cell {w : World} {g : Nat} {e : TypeId} {l : List Value} (h : RowIs w g e l) (j : Nat) (hj : j < l.length) : w.cell? ⟨g, j, none⟩ = some l[j] := by
  unfold RowIs at h
  simp [World.cell?, h, hj]
theorem RowIs.frozen {w : World} {g : Nat} {e : TypeId} {l : List Value} (h : RowIs w g e l) (j : Nat) : w.frozen? ⟨g, j, none⟩ = false := by
  unfold RowIs at h
  simp [World.frozen?, h]
theorem RowIs.set {w : World} {g : Nat} {e : TypeId} {l : List Value} (h : RowIs w g e l) (j : Nat) (v : Value) : RowIs (w.setCell ⟨g, j, none⟩ v) g e (l.set j v) := by
  have := heap_setCell_same w g j l.toArray e v h
  unfold RowIs
  rw [this]
  simp
theorem RowIs.below {w w' : World} {g : Nat} {e : TypeId} {l : List Value} (h : RowIs w g e l) {B : Nat} (hb : Below B w w') (hg : g < B) : RowIs w' g e l := by
  unfold RowIs
  rw [hb.block g hg]
  exact h
theorem RowIs.own {w : World} {g : Nat} {e : TypeId} {l : List Value} (h : RowIs w g e l) (B n : Nat) (hB : B ≤ g) (hn : l.length = n) (hm : n ≤ maxLen) : Own w B e (.slice (some ⟨g, 0, none⟩) n n) l := by
  subst hn
  refine ⟨by simp, Or.inr ⟨g, l.length, l.toArray, rfl, hB, h, Nat.le_refl _, hm, by simp, by simp⟩⟩

/-- Bytes written from the head on over n noughts. -/
def filled (l : List UInt8) (n : Nat) : List Value := Lib.byteCells l ++ List.replicate (n - l.length) (.int .u8 0)
theorem filled_len (l : List UInt8) (n : Nat) (h : l.length ≤ n) : (filled l n).length = n := by simp [filled, Lib.byteCells]; omega
theorem filled_full (l : List UInt8) (n : Nat) (h : l.length = n) : filled l n = Lib.byteCells l := by simp [filled, h]
theorem filled_set (l : List UInt8) (n : Nat) (b : UInt8) (h : l.length < n) : (filled l n).set l.length (.int .u8 b.toNat) = filled (l ++ [b]) n := by
  have e : n - l.length = (n - (l.length + 1)) + 1 := by omega
  have hl : (Lib.byteCells l).length = l.length := Lib.byteCells_length l
  unfold filled
  rw [List.set_append_right _ _ (by omega), hl, Nat.sub_self, e, List.replicate_succ, List.set_cons_zero, Lib.byteCells_append, List.append_assoc, List.length_append]
  rfl
theorem made_row (w : World) (e : TypeId) (n : Nat) : RowIs (w.alloc (.cells (madeCells #[.int .u8 0] n) e)) w.heap.size e (filled [] n) := by
  unfold RowIs
  rw [heap_alloc_new]
  have : madeCells #[.int .u8 0] n = (filled [] n).toArray := by
    apply Array.ext
    · simp [size_madeCells, filled, Lib.byteCells]
    · intro i h1 h2
      simp [madeCells, filled, Lib.byteCells, Nat.mod_one]
  rw [this]

end Go.Proofs.YtgboekilhldejaaGreatDoor

/-
  Small facts that every walk uses: what is handed back, bytes of a text, lists of bytes.
-/
namespace Go.Proofs.YtgboekilhldejaaGreatDoor
open Go.RowKit
set_option linter.unusedVariables false
set_option maxRecDepth 20000

theorem i64_of {a : Int} (h : (Lit.int .i64 a).wf = true) : -9223372036854775808 ≤ a ∧ a ≤ 9223372036854775807 := by
  simpa [Lit.wf, IntKind.min, IntKind.max, IntKind.signed, IntKind.bits] using h
theorem u64_of {a : Int} (h : (Lit.int .u64 a).wf = true) : 0 ≤ a ∧ a ≤ 18446744073709551615 := by
  simpa [Lit.wf, IntKind.min, IntKind.max, IntKind.signed, IntKind.bits] using h
theorem below_drewN (w : World) (q : Nat) : Below w.heap.size w (w.drewN q) := ⟨rfl, rfl, rfl, Nat.le_refl _, fun _ _ => rfl⟩
theorem ret_int {k : IntKind} {a b : Int} (h : a = b) : Ending.returned (.int k a) = .returned (.int k b) := by rw [h]
theorem ret_bool {a b : Bool} (h : a = b) : Ending.returned (.bool a) = .returned (.bool b) := by rw [h]

theorem info5 : (Tryz.prog.info? 5).map (fun i => (i.zero, i.size, i.bytes)) = some (some (.int .u8 0), 1, 1) := by kernel_rfl

theorem u8_bd (b : UInt8) : 0 ≤ (b.toNat : Int) ∧ (b.toNat : Int) ≤ 255 := by
  have := b.toNat_lt; omega
theorem getL (s : ByteArray) (k : Nat) (h : k < s.size) : s.data.toList[k]? = some s[k] := by
  simp only [Array.getElem?_toList]
  have h' : k < s.data.size := h
  rw [Array.getElem?_eq_getElem h']
  rfl
theorem take_snoc (s : ByteArray) (k : Nat) (h : k < s.size) : s.data.toList.take (k + 1) = s.data.toList.take k ++ [s[k]] := by
  rw [List.take_succ_eq_append_getElem (by simpa using h)]; rfl
theorem drop_cons (s : ByteArray) (k : Nat) (h : k < s.size) : s.data.toList.drop k = s[k] :: s.data.toList.drop (k + 1) := by
  rw [List.drop_eq_getElem_cons (by simpa using h)]; rfl
theorem take_all (s : ByteArray) (k : Nat) (h : s.size ≤ k) : s.data.toList.take k = s.data.toList := List.take_of_length_le (by simpa using h)
theorem drop_all (s : ByteArray) (k : Nat) (h : s.size ≤ k) : s.data.toList.drop k = [] := List.drop_of_length_le (by simpa using h)
theorem len_data (s : ByteArray) : s.data.toList.length = s.size := by rw [Array.length_toList]; rfl

theorem ret_two {a b : Value} {a' b' : Value} (h : a = a') (h' : b = b') : Ending.returned (.tuple #[a, b]) = .returned (.tuple #[a', b']) := by rw [h, h']
theorem ret_pair {p : Int × Int} (a b : Int) (h : p = (a, b)) : Ending.returned (.tuple #[.int .i64 a, .int .i64 b]) = .returned (.tuple #[.int .i64 p.1, .int .i64 p.2]) := by rw [h]
theorem data_ne {s : ByteArray} (h : 0 < s.size) : s.data.toList ≠ [] := by
  intro h'; have := len_data s; rw [h'] at this; simp at this; omega
theorem isE_false {s : ByteArray} (h : 0 < s.size) : s.toList.isEmpty = false := by
  have := data_ne h
  rw [ByteArray.toList_eq]; simpa using this
theorem isE_true {s : ByteArray} (h : s.size = 0) : s.toList.isEmpty = true := by
  have : s.data.toList = [] := List.eq_nil_of_length_eq_zero (by rw [len_data, h])
  rw [ByteArray.toList_eq, this]; rfl

theorem ext_list (s : ByteArray) (a b : Nat) : s.extract a b = ⟨((s.data.toList.drop a).take (b - a)).toArray⟩ := by
  have h := ByteArray.extract_mk s.data.toList a b
  have h' : (⟨s.data.toList.toArray⟩ : ByteArray) = s := by apply ByteArray.ext; simp
  rw [h'] at h
  exact h

end Go.Proofs.YtgboekilhldejaaGreatDoor

/-
  Plain functions on numbers and lists of bytes: what package scan computes, without any program.
-/
namespace Go.Proofs.YtgboekilhldejaaGreatDoor.Sc

def low (c : Int) : Int := if 65 ≤ c ∧ c ≤ 90 then c + 32 else c
def sgn (c : Int) : Int :=
  if c = 45 ∨ c = 46 then 88 else if c = 33 ∨ c = 126 ∨ c = 42 ∨ c = 95 ∨ c = 39 then 24
  else if c = 37 ∨ c = 43 ∨ c = 96 then 8 else if c = 40 ∨ c = 41 then 16 else if c = 32 ∨ c = 9 then 32 else 0
def cls (c : Int) : Int :=
  if 48 ≤ c ∧ c ≤ 57 then 93 else if 97 ≤ low c ∧ low c ≤ 102 then 94 else if 103 ≤ low c ∧ low c ≤ 122 then 90 else sgn c

theorem low_bd {c : Int} (h0 : 0 ≤ c) (h1 : c ≤ 255) : 0 ≤ low c ∧ low c ≤ 255 := by
  unfold low; split <;> omega

def barB (c : Int) : Bool := decide (c = 0 ∨ c = 10 ∨ c = 13)
def bareB (c : Int) : Bool := decide (c = 9 ∨ 32 ≤ c ∧ c ≠ 34 ∧ c ≠ 92 ∧ c ≠ 127)

end Go.Proofs.YtgboekilhldejaaGreatDoor.Sc

/-
  Contracts of the small functions on single bytes.
-/
namespace Go.Proofs.YtgboekilhldejaaGreatDoor
open Go.RowKit Sc
set_option linter.unusedVariables false
set_option maxRecDepth 20000

def isB (c class_ : Int) : Bool := !(bits BinOp.and IntKind.i64 (cls c) class_ == 0)

set_option maxHeartbeats 400000 in
theorem lower_any (c : Int) (w : World) (h0 : 0 ≤ c) (h1 : c ≤ 255) :
    Calls Tryz.prog 109 #[.int .u8 c] w fun e w' => e = .returned (.int .u8 (low c)) ∧ w' = w := by
  go_enter Tryz.func109, Tryz.ntmps109
  go_wp2
  all_goals go_ret
  all_goals (refine ⟨ret_int ?_, rfl⟩; unfold low; first | rw [if_pos (by omega)] | rw [if_neg (by omega)])

set_option maxHeartbeats 400000 in
theorem sign_any (c : Int) (w : World) (h0 : 0 ≤ c) (h1 : c ≤ 255) :
    Calls Tryz.prog 120 #[.int .u8 c] w fun e w' => e = .returned (.int .i64 (sgn c)) ∧ w' = w := by
  go_enter Tryz.func120, Tryz.ntmps120
  go_wp2
  all_goals go_ret
  all_goals (refine ⟨ret_int ?_, rfl⟩; simp only [beq_iff_eq, beq_eq_false_iff_ne, ne_eq] at *; unfold sgn; repeat (first | rw [if_pos (by omega)] | rw [if_neg (by omega)]))

set_option maxHeartbeats 400000 in
theorem class_any (c : Int) (w : World) (h0 : 0 ≤ c) (h1 : c ≤ 255) :
    Calls Tryz.prog 108 #[.int .u8 c] w fun e w' => e = .returned (.int .i64 (cls c)) ∧ w' = w := by
  have hb := low_bd h0 h1
  go_enter Tryz.func108, Tryz.ntmps108
  go_wp2_with (first
    | (go_at_call 109; refine (lower_any _ _ h0 h1).mono ?_; rintro e w' ⟨rfl, rfl⟩)
    | (go_at_call 120; refine (sign_any _ _ h0 h1).mono ?_; rintro e w' ⟨rfl, rfl⟩))
  all_goals go_ret
  all_goals (refine ⟨ret_int ?_, rfl⟩; unfold cls; repeat (first | rw [if_pos (by omega)] | rw [if_neg (by omega)]))

set_option maxHeartbeats 400000 in
theorem is_any (c class_ : Int) (w : World) (h0 : 0 ≤ c) (h1 : c ≤ 255) :
    Calls Tryz.prog 83 #[.int .u8 c, .int .i64 class_] w fun e w' => e = .returned (.bool (isB c class_)) ∧ w' = w := by
  go_enter Tryz.func83, Tryz.ntmps83
  go_wp2_with (go_at_call 108; refine (class_any _ _ h0 h1).mono ?_; rintro e w' ⟨rfl, rfl⟩)
  all_goals go_ret
  all_goals exact ⟨ret_bool rfl, rfl⟩

set_option maxHeartbeats 400000 in
theorem barred_any (c : Int) (w : World) :
    Calls Tryz.prog 96 #[.int .u8 c] w fun e w' => e = .returned (.bool (barB c)) ∧ w' = w := by
  go_enter Tryz.func96, Tryz.ntmps96
  go_wp2
  all_goals go_ret
  all_goals (refine ⟨ret_bool ?_, rfl⟩; unfold barB; rw [Bool.eq_iff_iff]; simp; omega)

set_option maxHeartbeats 400000 in
theorem bare_any (c : Int) (w : World) :
    Calls Tryz.prog 97 #[.int .u8 c] w fun e w' => e = .returned (.bool (bareB c)) ∧ w' = w := by
  go_enter Tryz.func97, Tryz.ntmps97
  go_wp2
  all_goals go_ret
  all_goals (refine ⟨ret_bool ?_, rfl⟩; unfold bareB; rw [Bool.eq_iff_iff]; simp; omega)

end Go.Proofs.YtgboekilhldejaaGreatDoor

/-
  Contracts of All, Number and Quote.
-/
namespace Go.Proofs.YtgboekilhldejaaGreatDoor
open Go.RowKit Sc
set_option linter.unusedVariables false
set_option maxRecDepth 20000

def allB (class_ : Int) (l : List UInt8) : Bool := l.all fun b => isB b.toNat class_

theorem allB_snoc (class_ : Int) (l : List UInt8) (b : UInt8) : allB class_ (l ++ [b]) = (allB class_ l && isB b.toNat class_) := by simp [allB]
theorem allB_hit {class_ : Int} {s : ByteArray} {k : Nat} (h : k < s.size) (hb : isB s[k].toNat class_ = false) : allB class_ s.data.toList = false := by
  rw [allB, List.all_eq_false]
  exact ⟨s[k], List.mem_of_getElem? (getL s k h), by simp [hb]⟩

set_option maxHeartbeats 400000 in
theorem all_any (s : ByteArray) (class_ : Int) (w : World) (hs : s.size ≤ maxLen) :
    Calls Tryz.prog 46 #[.string s, .int .i64 class_] w fun e w' => e = .returned (.bool (allB class_ s.data.toList)) ∧ w' = w := by
  unfold maxLen at hs
  go_enter Tryz.func46, Tryz.ntmps46
  go_wp2
  go_loop [5, 8] (fun _ i => ∃ k : Nat, k ≤ s.size ∧ i = .int .i64 k ∧ Hid (allB class_ (s.data.toList.take k) = true)) (fun _ i => s.size - (intOf i).toNat)
  case atStart => exact ⟨0, Nat.zero_le _, rfl, rfl⟩
  case round =>
    obtain ⟨k, hk, rfl, hall⟩ := hrel
    by_cases hlt : k < s.size
    · have hbd := u8_bd s[k]
      by_cases hb : isB s[k].toNat class_ = true
      · go_wp2_with (go_at_call 83; refine (is_any _ _ _ hbd.1 hbd.2).mono ?_; rintro e w' ⟨rfl, rfl⟩)
        go_round
        case rel => exact ⟨k + 1, by omega, by go_num, show _ = _ by rw [take_snoc s k hlt, allB_snoc, hall.out, hb]; rfl⟩
        case measure => simp [intOf]; omega
      · have hb' : isB s[k].toNat class_ = false := by simpa using hb
        clear hb
        go_wp2_with (go_at_call 83; refine (is_any _ _ _ hbd.1 hbd.2).mono ?_; rintro e w' ⟨rfl, rfl⟩)
        go_ret
        exact ⟨ret_bool (allB_hit hlt hb').symm, rfl⟩
    · go_wp2
      go_ret
      exact ⟨ret_bool (by rw [← hall.out, take_all s k (by omega)]), rfl⟩

/-- What Number reads: the digits' number, if it stays up to most. -/
def numL (most : Int) : Int → List UInt8 → Option Int
  | n, [] => some n
  | n, b :: r => if (b.toNat : Int) - 48 > most ∨ n > (most - ((b.toNat : Int) - 48)) / 10 then none else numL most (10 * n + ((b.toNat : Int) - 48)) r
def numV (most : Int) (l : List UInt8) : Int × Int :=
  if l = [] ∨ allB 1 l = false then (0, 10) else match numL most 0 l with | some n => (n, 0) | none => (0, 9)

theorem isB_digit (c : Int) (h0 : 0 ≤ c) (h1 : c ≤ 255) : isB c 1 = decide (48 ≤ c ∧ c ≤ 57) := by
  obtain ⟨n, rfl⟩ := Int.eq_ofNat_of_zero_le h0
  have h : ∀ n : Fin 256, isB (n.val : Int) 1 = decide (48 ≤ (n.val : Int) ∧ (n.val : Int) ≤ 57) := by decide +kernel
  exact h ⟨n, by omega⟩
theorem digit_at {s : ByteArray} (h : allB 1 s.data.toList = true) (k : Nat) (hk : k < s.size) : 48 ≤ (s[k].toNat : Int) ∧ (s[k].toNat : Int) ≤ 57 := by
  have hb := u8_bd s[k]
  have := (List.all_eq_true.1 h) s[k] (List.mem_of_getElem? (getL s k hk))
  rw [isB_digit _ hb.1 hb.2] at this
  simpa using this
theorem numL_stop {most n : Int} {s : ByteArray} {k : Nat} (hk : k < s.size) (h : (s[k].toNat : Int) - 48 > most ∨ n > (most - ((s[k].toNat : Int) - 48)) / 10) : numL most n (s.data.toList.drop k) = none := by
  rw [drop_cons s k hk, numL, if_pos h]
theorem numL_go {most n : Int} {s : ByteArray} {k : Nat} (hk : k < s.size) (h : ¬ ((s[k].toNat : Int) - 48 > most ∨ n > (most - ((s[k].toNat : Int) - 48)) / 10)) :
    numL most n (s.data.toList.drop k) = numL most (10 * n + ((s[k].toNat : Int) - 48)) (s.data.toList.drop (k + 1)) := by
  rw [drop_cons s k hk, numL, if_neg h]

set_option maxHeartbeats 400000 in
theorem number_any (s : ByteArray) (most : Int) (w : World) (hs : s.size ≤ maxLen) (hm0 : -9223372036854775808 ≤ most) (hm1 : most ≤ 9223372036854775807) :
    Calls Tryz.prog 124 #[.string s, .int .i64 most] w fun e w' => e = .returned (.tuple #[.int .i64 (numV most s.data.toList).1, .int .i64 (numV most s.data.toList).2]) ∧ w' = w := by
  have hs0 := hs
  unfold maxLen at hs
  by_cases he : s.size = 0
  · have hE := isE_true he
    have hv : numV most s.data.toList = (0, 10) := by
      have : s.data.toList = [] := List.eq_nil_of_length_eq_zero (by rw [len_data, he])
      rw [numV, if_pos (Or.inl this)]
    have HV : Hid _ := hv; clear hv
    go_enter Tryz.func124, Tryz.ntmps124
    go_wp2
    go_ret2
    exact ⟨ret_pair 0 10 HV.out, rfl⟩
  have hE := isE_false (s := s) (by omega)
  have hne := data_ne (s := s) (by omega)
  by_cases ha : allB 1 s.data.toList = true
  · have hdig : Hid (∀ k (hk : k < s.size), 48 ≤ (s[k].toNat : Int) ∧ (s[k].toNat : Int) ≤ 57) := fun k hk => digit_at ha k hk
    have HV : Hid (numV most s.data.toList = match numL most 0 s.data.toList with | some n => (n, 0) | none => (0, 9)) := by
      show _ = _
      rw [numV, if_neg (by simp [hne, ha])]
    clear hne
    go_enter Tryz.func124, Tryz.ntmps124
    go_wp2_with (go_at_call 46; refine (all_any _ _ _ hs0).mono ?_; rintro e w' ⟨rfl, rfl⟩)
    go_loop [6, 18] (fun n i => ∃ (k : Nat) (m : Int), k ≤ s.size ∧ i = .int .i64 k ∧ n = .int .i64 m ∧ 0 ≤ m ∧ m ≤ 9223372036854775807 ∧ Hid (numL most 0 s.data.toList = numL most m (s.data.toList.drop k))) (fun _ i => s.size - (intOf i).toNat)
    case atStart => exact ⟨0, 0, Nat.zero_le _, rfl, rfl, by omega, by omega, rfl⟩
    case round =>
      obtain ⟨k, m, hk, rfl, rfl, hm0', hm1', hnum⟩ := hrel
      by_cases hlt : k < s.size
      · have hd := hdig.out k hlt
        by_cases h1 : most < (s[k].toNat : Int) - 48
        · have hst := numL_stop (most := most) (n := m) hlt (Or.inl (by omega))
          have HS : Hid _ := hst; clear hst
          go_wp2
          go_ret2
          exact ⟨ret_pair 0 9 (by rw [HV.out, hnum.out, HS.out]), rfl⟩
        · by_cases h2 : (most - ((s[k].toNat : Int) - 48)) / 10 < m
          · have hst := numL_stop (most := most) (n := m) hlt (Or.inr (by omega))
            have HS : Hid _ := hst; clear hst
            go_wp2
            go_ret2
            exact ⟨ret_pair 0 9 (by rw [HV.out, hnum.out, HS.out]), rfl⟩
          · have hst := numL_go (most := most) (n := m) hlt (by omega)
            have HS : Hid _ := hst; clear hst
            go_wp2
            go_round
            case rel => exact ⟨k + 1, 10 * m + ((s[k].toNat : Int) - 48), by omega, by go_num, by go_num, by omega, by omega, show _ = _ by rw [hnum.out, HS.out]⟩
            case measure => simp [intOf]; omega
      · have hdr := drop_all s k (by omega)
        have HD : Hid _ := hdr; clear hdr
        go_wp2
        go_ret2
        exact ⟨ret_pair m 0 (by rw [HV.out, hnum.out, HD.out]; rfl), rfl⟩
  · have ha' : allB 1 s.data.toList = false := by simpa using ha
    have hv : numV most s.data.toList = (0, 10) := by rw [numV, if_pos (Or.inr ha')]
    have HV : Hid _ := hv; clear hv ha hne
    go_enter Tryz.func124, Tryz.ntmps124
    go_wp2_with (go_at_call 46; refine (all_any _ _ _ hs0).mono ?_; rintro e w' ⟨rfl, rfl⟩)
    go_ret2
    exact ⟨ret_pair 0 10 HV.out, rfl⟩

end Go.Proofs.YtgboekilhldejaaGreatDoor

/-
  The contracts of strings.Clone and of piece.
-/
namespace Go.Proofs.YtgboekilhldejaaGreatDoor
open Go.RowKit Sc
set_option linter.unusedVariables false
set_option maxRecDepth 20000

/-- copy(b, s) over a whole row of the call's own -/
theorem wp_copy_str {P : Program} {w : World} {ops : Array Oper} {rest : List Oper} {o : Oper} {a : Act} {Q : Exit → Act → World → Prop} (hgd : o.guard = none) (d x : Operand) (dT sT : TypeId)
    (ho : o.op = .call { callee := .builtin .copy, args := #[d, x], argTypes := #[dT, sT] }) (elem : TypeId) (hu : P.underlying dT = some (.slice elem)) (hsz : (P.info? elem).map (·.size) = some 1)
    (g dCap : Nat) (s : ByteArray) (hd : a.eval d = .slice (some ⟨g, 0, none⟩) s.size dCap) (hs : a.eval x = .string s)
    (cur : Array Value) (t : TypeId) (hg : w.heap[g]? = some (.cells cur t (0, 0))) (hfit : cur.size = s.size) (B : Nat) (w0 : World) (hb : Below B w0 w) (hB : B ≤ g)
    (h : ∀ w', Hid (w'.heap[g]? = some (.cells (Lib.byteCells s.data.toList).toArray t (0, 0))) → Below B w0 w' → wpList P ops Q rest (a.put o.dst (goInt s.size)) w') : wpList P ops Q (o :: rest) a w := by
  refine wpList_plain hgd fun K hK => ?_
  have hrun := Lib.run_copy_row_string (P := P) w dT sT o.type elem g 0 s.size dCap s cur t hu hsz hg (Nat.le_refl _) (by omega)
  have hrow : (cur.toList.take 0 ++ Lib.byteCells s.data.toList ++ cur.toList.drop (0 + s.size)).toArray = (Lib.byteCells s.data.toList).toArray := by
    rw [List.drop_of_length_le (by rw [Array.length_toList]; omega)]; simp
  rw [hrow] at hrun
  unfold Oper.wp
  simp [execOp, ho, resolve, invoke, builtin, hd, hs, hrun, Result.andThen]
  exact hK _ _ (h _ (setRow_heap w g cur _ t (0, 0) hg) (below_setRow hb hB _))

/-- a text laid over a whole row of bytes -/
theorem wp_str_of_row {P : Program} {w : World} {ops : Array Oper} {rest : List Oper} {o : Oper} {a : Act} {Q : Exit → Act → World → Prop} (hgd : o.guard = none) (p n : Operand) (pt it : TypeId)
    (ho : o.op = .call { callee := .builtin .unsafeString, args := #[p, n], argTypes := #[pt, it] }) (e : TypeId) (hp : P.underlying pt = some (.pointer e)) (hc : P.cellsOf e = 1)
    (g : Nat) (l : List UInt8) (h0 : l ≠ []) (h63 : l.length ≤ 9223372036854775807) (hpv : a.eval p = .pointer (some ⟨g, 0, none⟩)) (m : Int) (hnv : a.eval n = .int .i64 m) (hm : m = l.length)
    (hg : Hid (w.heap[g]? = some (.cells (Lib.byteCells l).toArray e (0, 0)))) (B : Nat) (w0 : World) (hb : Below B w0 w) (hB : B ≤ g)
    (h : ∀ w', Below B w0 w' → wpList P ops Q rest (a.put o.dst (.string ⟨l.toArray⟩)) w') : wpList P ops Q (o :: rest) a w := by
  subst hm
  refine wpList_plain hgd fun K hK => ?_
  have hg' := hg.out
  have hsh : w.shape? g = some (e, l.length) := by simp [World.shape?, hg', Lib.byteCells_length]
  have hrun := Lib.run_unsafeString_row (P := P) w pt it o.type e hp hc g l.length hsh l h0 (Nat.le_refl _) h63 (fun j x hj => by
    have hj' : j < l.length := (List.getElem?_eq_some_iff.1 hj).1
    by_cases e0 : j = 0
    · subst e0; simp [World.cell?, Addr.add, hg', Lib.byteCells, hj]
    · simp [World.cell?, Addr.add, e0, hg', Lib.byteCells, hj])
  unfold Oper.wp
  simp [execOp, ho, resolve, invoke, builtin, hpv, hnv, hrun, Result.andThen]
  exact hK _ _ (h _ (Lib.below_freeze hb hB _))

theorem ret_back (s : ByteArray) : Ending.returned (.string ⟨s.data.toList.toArray⟩) = .returned (.string s) := by
  have h : (⟨s.data.toList.toArray⟩ : ByteArray) = s := by apply ByteArray.ext; simp
  rw [h]
theorem bytesz5 : (Tryz.prog.info? 5).map (·.size) = some 1 := by kernel_rfl
theorem cells5 : Tryz.prog.cellsOf 5 = 1 := by kernel_rfl

set_option maxHeartbeats 400000 in
theorem clone_any (s : ByteArray) (w : World) (hs : s.size ≤ 281474976710656) :
    Calls Tryz.prog 105 #[.string s] w fun e w' => e = .returned (.string s) ∧ Below w.heap.size w w' := by
  obtain ⟨i0, hi, hz0, hz1, hz2⟩ := info_parts info5
  by_cases h0 : s.size = 0
  · have he : s = ⟨#[]⟩ := by
      have : s.data.toList = [] := List.eq_nil_of_length_eq_zero (by rw [len_data, h0])
      apply ByteArray.ext; apply Array.toList_inj.1; rw [this]
    subst he
    go_enter Tryz.func105, Tryz.ntmps105
    go_wp2
    go_ret
    exact ⟨rfl, Below.refl _ _⟩
  · have hmk : ∀ u : World, (Instr.makeSlice 92 (.int .i64 (s.size : Int)) (.int .i64 (s.size : Int))).run Tryz.prog u =
        .ok (.slice (some ⟨u.heap.size, 0, none⟩) s.size s.size) (u.alloc (.cells (madeCells #[.int .u8 0] s.size) 5)) := fun u => by
      have h := run_make (P := Tryz.prog) u 92 5 i0 (.int .u8 0) Tryz.underlying92 hi hz0 .i64 .i64 (s.size : Int) (s.size : Int) (by omega) (Int.le_refl _) (by rw [hz2]; omega) (by omega)
      simpa [hz1, Value.cells] using h
    have hne : ((s.size : Int) == 0) = false := by simpa using h0
    have hl := data_ne (s := s) (by omega)
    have hpos : (0 : Int) < (s.size : Int) := by omega
    have HL : Hid _ := hl; clear hl
    go_enter Tryz.func105, Tryz.ntmps105
    go_wp2_with (first
      | (refine wp_copy_str rfl (.tmp 10) (.tmp 11) 92 9 rfl 5 Tryz.underlying92 bytesz5 w.heap.size s.size s rfl rfl _ 5 (heap_alloc_new w _) (size_madeCells _ _) w.heap.size w ((Below.refl _ _).alloc (Nat.le_refl _) _) (Nat.le_refl _) ?_; intro w2 hg2 hb2)
      | (refine wp_str_of_row rfl (.tmp 14) (.tmp 16) 128 3 rfl 5 Tryz.underlying128 cells5 w.heap.size s.data.toList HL.out (by rw [len_data]; omega) rfl _ rfl (by rw [len_data]) hg2 w.heap.size w hb2 (Nat.le_refl _) ?_; intro w3 hb3))
    go_ret
    exact ⟨ret_back s, hb3⟩

set_option maxHeartbeats 400000 in
theorem sclone_any (s : ByteArray) (w : World) (hs : s.size ≤ 281474976710656) :
    Calls Tryz.prog 79 #[.string s] w fun e w' => e = .returned (.string s) ∧ Below w.heap.size w w' := by
  go_enter Tryz.func79, Tryz.ntmps79
  go_wp2_with (go_at_call 105; refine (clone_any _ _ hs).mono ?_; rintro e w' ⟨rfl, hb⟩)
  go_ret
  exact ⟨rfl, hb⟩

set_option maxHeartbeats 400000 in
theorem piece_any (s : ByteArray) (a b : Nat) (w : World) (hs : s.size ≤ 281474976710656) (hab : a ≤ b) (hb : b ≤ s.size) :
    Calls Tryz.prog 84 #[.string s, .int .i64 a, .int .i64 b] w fun e w' => e = .returned (.string (s.extract a b)) ∧ Below w.heap.size w w' := by
  have hsz : (s.extract a b).size ≤ 281474976710656 := by rw [ByteArray.size_extract]; omega
  go_enter Tryz.func84, Tryz.ntmps84
  go_wp2_with (go_at_call 79; refine (sclone_any _ _ hsz).mono ?_; rintro e w' ⟨rfl, hb⟩)
  go_ret
  exact ⟨rfl, by assumption⟩

end Go.Proofs.YtgboekilhldejaaGreatDoor

/-
  Contracts of the document's own has, Class and All.
-/
namespace Go.Proofs.YtgboekilhldejaaGreatDoor
open Go.RowKit Sc
set_option linter.unusedVariables false
set_option maxRecDepth 20000

def hasB (c : Int) (s : ByteArray) : Bool := s.data.toList.any fun b => (b.toNat : Int) == c
theorem hasB_hit {c : Int} {s : ByteArray} {k : Nat} (h : k < s.size) (hb : (s[k].toNat : Int) = c) : hasB c s = true := by
  rw [hasB, List.any_eq_true]
  exact ⟨s[k], List.mem_of_getElem? (getL s k h), by simp [hb]⟩

set_option maxHeartbeats 400000 in
theorem has_any (s : ByteArray) (c : Int) (w : World) (hs : s.size ≤ maxLen) :
    Calls Tryz.prog 98 #[.string s, .int .u8 c] w fun e w' => e = .returned (.bool (hasB c s)) ∧ w' = w := by
  unfold maxLen at hs
  go_enter Tryz.func98, Tryz.ntmps98
  go_wp2
  go_loop [5] (fun i => ∃ k : Nat, k ≤ s.size ∧ i = .int .i64 k ∧ Hid ((s.data.toList.take k).any (fun b => (b.toNat : Int) == c) = false)) (fun i => s.size - (intOf i).toNat)
  case atStart => exact ⟨0, Nat.zero_le _, rfl, rfl⟩
  case round =>
    obtain ⟨k, hk, rfl, hall⟩ := hrel
    by_cases hlt : k < s.size
    · by_cases hb : (s[k].toNat : Int) = c
      · have hb' : ((s[k].toNat : Int) == c) = true := by simpa using hb
        have HH : Hid (hasB c s = true) := hasB_hit hlt hb
        clear hb
        go_wp2
        go_ret
        exact ⟨ret_bool HH.out.symm, rfl⟩
      · have hb' : ((s[k].toNat : Int) == c) = false := by simpa using hb
        clear hb
        go_wp2
        go_round
        case rel => exact ⟨k + 1, by omega, by go_num, show _ = _ by rw [take_snoc s k hlt, List.any_append, hall.out]; simpa using hb'⟩
        case measure => simp [intOf]; omega
    · go_wp2
      go_ret
      exact ⟨ret_bool (by rw [hasB, ← hall.out, take_all s k (by omega)]), rfl⟩

theorem of256 {p : Int → Prop} (h : ∀ n : Fin 256, p (n.val : Int)) (c : Int) (h0 : 0 ≤ c) (h1 : c ≤ 255) : p c := by
  obtain ⟨n, rfl⟩ := Int.eq_ofNat_of_zero_le h0
  exact h ⟨n, by omega⟩

def bDg (c : Int) : Bool := decide (48 ≤ c ∧ c ≤ 57)
theorem hasDg (c : Int) (w : World) (h0 : 0 ≤ c) (h1 : c ≤ 255) : Calls Tryz.prog 98 #[.string ⟨#[48, 49, 50, 51, 52, 53, 54, 55, 56, 57]⟩, .int .u8 c] w fun e w' => e = .returned (.bool (bDg c)) ∧ w' = w := by
  have h : hasB c ⟨#[48, 49, 50, 51, 52, 53, 54, 55, 56, 57]⟩ = bDg c := of256 (p := fun c => hasB c ⟨#[48, 49, 50, 51, 52, 53, 54, 55, 56, 57]⟩ = bDg c) (by decide +kernel) c h0 h1
  rw [← h]
  exact has_any _ c w (by decide)
def bLe (c : Int) : Bool := decide (97 ≤ c ∧ c ≤ 122 ∨ 65 ≤ c ∧ c ≤ 90)
theorem hasLe (c : Int) (w : World) (h0 : 0 ≤ c) (h1 : c ≤ 255) : Calls Tryz.prog 98 #[.string ⟨#[97, 98, 99, 100, 101, 102, 103, 104, 105, 106, 107, 108, 109, 110, 111, 112, 113, 114, 115, 116, 117, 118, 119, 120, 121, 122, 65, 66, 67, 68, 69, 70, 71, 72, 73, 74, 75, 76, 77, 78, 79, 80, 81, 82, 83, 84, 85, 86, 87, 88, 89, 90]⟩, .int .u8 c] w fun e w' => e = .returned (.bool (bLe c)) ∧ w' = w := by
  have h : hasB c ⟨#[97, 98, 99, 100, 101, 102, 103, 104, 105, 106, 107, 108, 109, 110, 111, 112, 113, 114, 115, 116, 117, 118, 119, 120, 121, 122, 65, 66, 67, 68, 69, 70, 71, 72, 73, 74, 75, 76, 77, 78, 79, 80, 81, 82, 83, 84, 85, 86, 87, 88, 89, 90]⟩ = bLe c := of256 (p := fun c => hasB c ⟨#[97, 98, 99, 100, 101, 102, 103, 104, 105, 106, 107, 108, 109, 110, 111, 112, 113, 114, 115, 116, 117, 118, 119, 120, 121, 122, 65, 66, 67, 68, 69, 70, 71, 72, 73, 74, 75, 76, 77, 78, 79, 80, 81, 82, 83, 84, 85, 86, 87, 88, 89, 90]⟩ = bLe c) (by decide +kernel) c h0 h1
  rw [← h]
  exact has_any _ c w (by decide)
def bHx (c : Int) : Bool := decide (48 ≤ c ∧ c ≤ 57 ∨ 97 ≤ c ∧ c ≤ 102 ∨ 65 ≤ c ∧ c ≤ 70)
theorem hasHx (c : Int) (w : World) (h0 : 0 ≤ c) (h1 : c ≤ 255) : Calls Tryz.prog 98 #[.string ⟨#[48, 49, 50, 51, 52, 53, 54, 55, 56, 57, 97, 98, 99, 100, 101, 102, 65, 66, 67, 68, 69, 70]⟩, .int .u8 c] w fun e w' => e = .returned (.bool (bHx c)) ∧ w' = w := by
  have h : hasB c ⟨#[48, 49, 50, 51, 52, 53, 54, 55, 56, 57, 97, 98, 99, 100, 101, 102, 65, 66, 67, 68, 69, 70]⟩ = bHx c := of256 (p := fun c => hasB c ⟨#[48, 49, 50, 51, 52, 53, 54, 55, 56, 57, 97, 98, 99, 100, 101, 102, 65, 66, 67, 68, 69, 70]⟩ = bHx c) (by decide +kernel) c h0 h1
  rw [← h]
  exact has_any _ c w (by decide)
def bTk (c : Int) : Bool := decide (48 ≤ c ∧ c ≤ 57 ∨ 97 ≤ c ∧ c ≤ 122 ∨ 65 ≤ c ∧ c ≤ 90 ∨ c = 45 ∨ c = 46 ∨ c = 33 ∨ c = 37 ∨ c = 42 ∨ c = 95 ∨ c = 43 ∨ c = 96 ∨ c = 39 ∨ c = 126)
theorem hasTk (c : Int) (w : World) (h0 : 0 ≤ c) (h1 : c ≤ 255) : Calls Tryz.prog 98 #[.string ⟨#[48, 49, 50, 51, 52, 53, 54, 55, 56, 57, 97, 98, 99, 100, 101, 102, 103, 104, 105, 106, 107, 108, 109, 110, 111, 112, 113, 114, 115, 116, 117, 118, 119, 120, 121, 122, 65, 66, 67, 68, 69, 70, 71, 72, 73, 74, 75, 76, 77, 78, 79, 80, 81, 82, 83, 84, 85, 86, 87, 88, 89, 90, 45, 46, 33, 37, 42, 95, 43, 96, 39, 126]⟩, .int .u8 c] w fun e w' => e = .returned (.bool (bTk c)) ∧ w' = w := by
  have h : hasB c ⟨#[48, 49, 50, 51, 52, 53, 54, 55, 56, 57, 97, 98, 99, 100, 101, 102, 103, 104, 105, 106, 107, 108, 109, 110, 111, 112, 113, 114, 115, 116, 117, 118, 119, 120, 121, 122, 65, 66, 67, 68, 69, 70, 71, 72, 73, 74, 75, 76, 77, 78, 79, 80, 81, 82, 83, 84, 85, 86, 87, 88, 89, 90, 45, 46, 33, 37, 42, 95, 43, 96, 39, 126]⟩ = bTk c := of256 (p := fun c => hasB c ⟨#[48, 49, 50, 51, 52, 53, 54, 55, 56, 57, 97, 98, 99, 100, 101, 102, 103, 104, 105, 106, 107, 108, 109, 110, 111, 112, 113, 114, 115, 116, 117, 118, 119, 120, 121, 122, 65, 66, 67, 68, 69, 70, 71, 72, 73, 74, 75, 76, 77, 78, 79, 80, 81, 82, 83, 84, 85, 86, 87, 88, 89, 90, 45, 46, 33, 37, 42, 95, 43, 96, 39, 126]⟩ = bTk c) (by decide +kernel) c h0 h1
  rw [← h]
  exact has_any _ c w (by decide)
def bPl (c : Int) : Bool := decide (48 ≤ c ∧ c ≤ 57 ∨ 97 ≤ c ∧ c ≤ 122 ∨ 65 ≤ c ∧ c ≤ 90 ∨ c = 45 ∨ c = 95 ∨ c = 46 ∨ c = 33 ∨ c = 126 ∨ c = 42 ∨ c = 39 ∨ c = 40 ∨ c = 41)
theorem hasPl (c : Int) (w : World) (h0 : 0 ≤ c) (h1 : c ≤ 255) : Calls Tryz.prog 98 #[.string ⟨#[48, 49, 50, 51, 52, 53, 54, 55, 56, 57, 97, 98, 99, 100, 101, 102, 103, 104, 105, 106, 107, 108, 109, 110, 111, 112, 113, 114, 115, 116, 117, 118, 119, 120, 121, 122, 65, 66, 67, 68, 69, 70, 71, 72, 73, 74, 75, 76, 77, 78, 79, 80, 81, 82, 83, 84, 85, 86, 87, 88, 89, 90, 45, 95, 46, 33, 126, 42, 39, 40, 41]⟩, .int .u8 c] w fun e w' => e = .returned (.bool (bPl c)) ∧ w' = w := by
  have h : hasB c ⟨#[48, 49, 50, 51, 52, 53, 54, 55, 56, 57, 97, 98, 99, 100, 101, 102, 103, 104, 105, 106, 107, 108, 109, 110, 111, 112, 113, 114, 115, 116, 117, 118, 119, 120, 121, 122, 65, 66, 67, 68, 69, 70, 71, 72, 73, 74, 75, 76, 77, 78, 79, 80, 81, 82, 83, 84, 85, 86, 87, 88, 89, 90, 45, 95, 46, 33, 126, 42, 39, 40, 41]⟩ = bPl c := of256 (p := fun c => hasB c ⟨#[48, 49, 50, 51, 52, 53, 54, 55, 56, 57, 97, 98, 99, 100, 101, 102, 103, 104, 105, 106, 107, 108, 109, 110, 111, 112, 113, 114, 115, 116, 117, 118, 119, 120, 121, 122, 65, 66, 67, 68, 69, 70, 71, 72, 73, 74, 75, 76, 77, 78, 79, 80, 81, 82, 83, 84, 85, 86, 87, 88, 89, 90, 45, 95, 46, 33, 126, 42, 39, 40, 41]⟩ = bPl c) (by decide +kernel) c h0 h1
  rw [← h]
  exact has_any _ c w (by decide)
def bHo (c : Int) : Bool := decide (48 ≤ c ∧ c ≤ 57 ∨ 97 ≤ c ∧ c ≤ 122 ∨ 65 ≤ c ∧ c ≤ 90 ∨ c = 45 ∨ c = 46)
theorem hasHo (c : Int) (w : World) (h0 : 0 ≤ c) (h1 : c ≤ 255) : Calls Tryz.prog 98 #[.string ⟨#[48, 49, 50, 51, 52, 53, 54, 55, 56, 57, 97, 98, 99, 100, 101, 102, 103, 104, 105, 106, 107, 108, 109, 110, 111, 112, 113, 114, 115, 116, 117, 118, 119, 120, 121, 122, 65, 66, 67, 68, 69, 70, 71, 72, 73, 74, 75, 76, 77, 78, 79, 80, 81, 82, 83, 84, 85, 86, 87, 88, 89, 90, 45, 46]⟩, .int .u8 c] w fun e w' => e = .returned (.bool (bHo c)) ∧ w' = w := by
  have h : hasB c ⟨#[48, 49, 50, 51, 52, 53, 54, 55, 56, 57, 97, 98, 99, 100, 101, 102, 103, 104, 105, 106, 107, 108, 109, 110, 111, 112, 113, 114, 115, 116, 117, 118, 119, 120, 121, 122, 65, 66, 67, 68, 69, 70, 71, 72, 73, 74, 75, 76, 77, 78, 79, 80, 81, 82, 83, 84, 85, 86, 87, 88, 89, 90, 45, 46]⟩ = bHo c := of256 (p := fun c => hasB c ⟨#[48, 49, 50, 51, 52, 53, 54, 55, 56, 57, 97, 98, 99, 100, 101, 102, 103, 104, 105, 106, 107, 108, 109, 110, 111, 112, 113, 114, 115, 116, 117, 118, 119, 120, 121, 122, 65, 66, 67, 68, 69, 70, 71, 72, 73, 74, 75, 76, 77, 78, 79, 80, 81, 82, 83, 84, 85, 86, 87, 88, 89, 90, 45, 46]⟩ = bHo c) (by decide +kernel) c h0 h1
  rw [← h]
  exact has_any _ c w (by decide)
set_option maxHeartbeats 400000 in
theorem refclass0 (c : Int) (w : World) (h0 : 0 ≤ c) (h1 : c ≤ 255) (h : 48 ≤ c ∧ c ≤ 57) :
    Calls Tryz.prog 58 #[.int .u8 c] w fun e w' => e = .returned (.int .i64 (cls c)) ∧ w' = w := by
  have tDg : bDg c = true := decide_eq_true (by omega)
  have tLe : bLe c = false := decide_eq_false (by omega)
  have tHx : bHx c = true := decide_eq_true (by omega)
  have tTk : bTk c = true := decide_eq_true (by omega)
  have tPl : bPl c = true := decide_eq_true (by omega)
  have tHo : bHo c = true := decide_eq_true (by omega)
  have hv : Hid (cls c = 93) := by show _ = _; unfold cls low sgn; (repeat' split) <;> omega
  have e32 : (c == 32) = false := by simp; omega
  have e9 : (c == 9) = false := by simp; omega
  clear h
  go_enter Tryz.func58, Tryz.ntmps58
  go_wp2_with fail
  refine (hasDg _ _ h0 h1).mono ?_
  rintro e w' ⟨rfl, rfl⟩
  go_wp2_with fail
  refine (hasLe _ _ h0 h1).mono ?_
  rintro e w' ⟨rfl, rfl⟩
  go_wp2_with fail
  refine (hasHx _ _ h0 h1).mono ?_
  rintro e w' ⟨rfl, rfl⟩
  go_wp2_with fail
  refine (hasTk _ _ h0 h1).mono ?_
  rintro e w' ⟨rfl, rfl⟩
  go_wp2_with fail
  refine (hasPl _ _ h0 h1).mono ?_
  rintro e w' ⟨rfl, rfl⟩
  go_wp2_with fail
  refine (hasHo _ _ h0 h1).mono ?_
  rintro e w' ⟨rfl, rfl⟩
  go_wp2
  go_ret
  exact ⟨ret_int hv.out.symm, rfl⟩

set_option maxHeartbeats 400000 in
theorem refclass1 (c : Int) (w : World) (h0 : 0 ≤ c) (h1 : c ≤ 255) (h : 97 ≤ c ∧ c ≤ 102 ∨ 65 ≤ c ∧ c ≤ 70) :
    Calls Tryz.prog 58 #[.int .u8 c] w fun e w' => e = .returned (.int .i64 (cls c)) ∧ w' = w := by
  have tDg : bDg c = false := decide_eq_false (by omega)
  have tLe : bLe c = true := decide_eq_true (by omega)
  have tHx : bHx c = true := decide_eq_true (by omega)
  have tTk : bTk c = true := decide_eq_true (by omega)
  have tPl : bPl c = true := decide_eq_true (by omega)
  have tHo : bHo c = true := decide_eq_true (by omega)
  have hv : Hid (cls c = 94) := by show _ = _; unfold cls low sgn; (repeat' split) <;> omega
  have e32 : (c == 32) = false := by simp; omega
  have e9 : (c == 9) = false := by simp; omega
  clear h
  go_enter Tryz.func58, Tryz.ntmps58
  go_wp2_with fail
  refine (hasDg _ _ h0 h1).mono ?_
  rintro e w' ⟨rfl, rfl⟩
  go_wp2_with fail
  refine (hasLe _ _ h0 h1).mono ?_
  rintro e w' ⟨rfl, rfl⟩
  go_wp2_with fail
  refine (hasHx _ _ h0 h1).mono ?_
  rintro e w' ⟨rfl, rfl⟩
  go_wp2_with fail
  refine (hasTk _ _ h0 h1).mono ?_
  rintro e w' ⟨rfl, rfl⟩
  go_wp2_with fail
  refine (hasPl _ _ h0 h1).mono ?_
  rintro e w' ⟨rfl, rfl⟩
  go_wp2_with fail
  refine (hasHo _ _ h0 h1).mono ?_
  rintro e w' ⟨rfl, rfl⟩
  go_wp2
  go_ret
  exact ⟨ret_int hv.out.symm, rfl⟩

set_option maxHeartbeats 400000 in
theorem refclass2 (c : Int) (w : World) (h0 : 0 ≤ c) (h1 : c ≤ 255) (h : 103 ≤ c ∧ c ≤ 122 ∨ 71 ≤ c ∧ c ≤ 90) :
    Calls Tryz.prog 58 #[.int .u8 c] w fun e w' => e = .returned (.int .i64 (cls c)) ∧ w' = w := by
  have tDg : bDg c = false := decide_eq_false (by omega)
  have tLe : bLe c = true := decide_eq_true (by omega)
  have tHx : bHx c = false := decide_eq_false (by omega)
  have tTk : bTk c = true := decide_eq_true (by omega)
  have tPl : bPl c = true := decide_eq_true (by omega)
  have tHo : bHo c = true := decide_eq_true (by omega)
  have hv : Hid (cls c = 90) := by show _ = _; unfold cls low sgn; (repeat' split) <;> omega
  have e32 : (c == 32) = false := by simp; omega
  have e9 : (c == 9) = false := by simp; omega
  clear h
  go_enter Tryz.func58, Tryz.ntmps58
  go_wp2_with fail
  refine (hasDg _ _ h0 h1).mono ?_
  rintro e w' ⟨rfl, rfl⟩
  go_wp2_with fail
  refine (hasLe _ _ h0 h1).mono ?_
  rintro e w' ⟨rfl, rfl⟩
  go_wp2_with fail
  refine (hasHx _ _ h0 h1).mono ?_
  rintro e w' ⟨rfl, rfl⟩
  go_wp2_with fail
  refine (hasTk _ _ h0 h1).mono ?_
  rintro e w' ⟨rfl, rfl⟩
  go_wp2_with fail
  refine (hasPl _ _ h0 h1).mono ?_
  rintro e w' ⟨rfl, rfl⟩
  go_wp2_with fail
  refine (hasHo _ _ h0 h1).mono ?_
  rintro e w' ⟨rfl, rfl⟩
  go_wp2
  go_ret
  exact ⟨ret_int hv.out.symm, rfl⟩

set_option maxHeartbeats 400000 in
theorem refclass3 (c : Int) (w : World) (h0 : 0 ≤ c) (h1 : c ≤ 255) (h : c = 45 ∨ c = 46) :
    Calls Tryz.prog 58 #[.int .u8 c] w fun e w' => e = .returned (.int .i64 (cls c)) ∧ w' = w := by
  have tDg : bDg c = false := decide_eq_false (by omega)
  have tLe : bLe c = false := decide_eq_false (by omega)
  have tHx : bHx c = false := decide_eq_false (by omega)
  have tTk : bTk c = true := decide_eq_true (by omega)
  have tPl : bPl c = true := decide_eq_true (by omega)
  have tHo : bHo c = true := decide_eq_true (by omega)
  have hv : Hid (cls c = 88) := by show _ = _; unfold cls low sgn; (repeat' split) <;> omega
  have e32 : (c == 32) = false := by simp; omega
  have e9 : (c == 9) = false := by simp; omega
  clear h
  go_enter Tryz.func58, Tryz.ntmps58
  go_wp2_with fail
  refine (hasDg _ _ h0 h1).mono ?_
  rintro e w' ⟨rfl, rfl⟩
  go_wp2_with fail
  refine (hasLe _ _ h0 h1).mono ?_
  rintro e w' ⟨rfl, rfl⟩
  go_wp2_with fail
  refine (hasHx _ _ h0 h1).mono ?_
  rintro e w' ⟨rfl, rfl⟩
  go_wp2_with fail
  refine (hasTk _ _ h0 h1).mono ?_
  rintro e w' ⟨rfl, rfl⟩
  go_wp2_with fail
  refine (hasPl _ _ h0 h1).mono ?_
  rintro e w' ⟨rfl, rfl⟩
  go_wp2_with fail
  refine (hasHo _ _ h0 h1).mono ?_
  rintro e w' ⟨rfl, rfl⟩
  go_wp2
  go_ret
  exact ⟨ret_int hv.out.symm, rfl⟩

set_option maxHeartbeats 400000 in
theorem refclass4 (c : Int) (w : World) (h0 : 0 ≤ c) (h1 : c ≤ 255) (h : c = 33 ∨ c = 126 ∨ c = 42 ∨ c = 95 ∨ c = 39) :
    Calls Tryz.prog 58 #[.int .u8 c] w fun e w' => e = .returned (.int .i64 (cls c)) ∧ w' = w := by
  have tDg : bDg c = false := decide_eq_false (by omega)
  have tLe : bLe c = false := decide_eq_false (by omega)
  have tHx : bHx c = false := decide_eq_false (by omega)
  have tTk : bTk c = true := decide_eq_true (by omega)
  have tPl : bPl c = true := decide_eq_true (by omega)
  have tHo : bHo c = false := decide_eq_false (by omega)
  have hv : Hid (cls c = 24) := by show _ = _; unfold cls low sgn; (repeat' split) <;> omega
  have e32 : (c == 32) = false := by simp; omega
  have e9 : (c == 9) = false := by simp; omega
  clear h
  go_enter Tryz.func58, Tryz.ntmps58
  go_wp2_with fail
  refine (hasDg _ _ h0 h1).mono ?_
  rintro e w' ⟨rfl, rfl⟩
  go_wp2_with fail
  refine (hasLe _ _ h0 h1).mono ?_
  rintro e w' ⟨rfl, rfl⟩
  go_wp2_with fail
  refine (hasHx _ _ h0 h1).mono ?_
  rintro e w' ⟨rfl, rfl⟩
  go_wp2_with fail
  refine (hasTk _ _ h0 h1).mono ?_
  rintro e w' ⟨rfl, rfl⟩
  go_wp2_with fail
  refine (hasPl _ _ h0 h1).mono ?_
  rintro e w' ⟨rfl, rfl⟩
  go_wp2_with fail
  refine (hasHo _ _ h0 h1).mono ?_
  rintro e w' ⟨rfl, rfl⟩
  go_wp2
  go_ret
  exact ⟨ret_int hv.out.symm, rfl⟩

set_option maxHeartbeats 400000 in
theorem refclass5 (c : Int) (w : World) (h0 : 0 ≤ c) (h1 : c ≤ 255) (h : c = 37 ∨ c = 43 ∨ c = 96) :
    Calls Tryz.prog 58 #[.int .u8 c] w fun e w' => e = .returned (.int .i64 (cls c)) ∧ w' = w := by
  have tDg : bDg c = false := decide_eq_false (by omega)
  have tLe : bLe c = false := decide_eq_false (by omega)
  have tHx : bHx c = false := decide_eq_false (by omega)
  have tTk : bTk c = true := decide_eq_true (by omega)
  have tPl : bPl c = false := decide_eq_false (by omega)
  have tHo : bHo c = false := decide_eq_false (by omega)
  have hv : Hid (cls c = 8) := by show _ = _; unfold cls low sgn; (repeat' split) <;> omega
  have e32 : (c == 32) = false := by simp; omega
  have e9 : (c == 9) = false := by simp; omega
  clear h
  go_enter Tryz.func58, Tryz.ntmps58
  go_wp2_with fail
  refine (hasDg _ _ h0 h1).mono ?_
  rintro e w' ⟨rfl, rfl⟩
  go_wp2_with fail
  refine (hasLe _ _ h0 h1).mono ?_
  rintro e w' ⟨rfl, rfl⟩
  go_wp2_with fail
  refine (hasHx _ _ h0 h1).mono ?_
  rintro e w' ⟨rfl, rfl⟩
  go_wp2_with fail
  refine (hasTk _ _ h0 h1).mono ?_
  rintro e w' ⟨rfl, rfl⟩
  go_wp2_with fail
  refine (hasPl _ _ h0 h1).mono ?_
  rintro e w' ⟨rfl, rfl⟩
  go_wp2_with fail
  refine (hasHo _ _ h0 h1).mono ?_
  rintro e w' ⟨rfl, rfl⟩
  go_wp2
  go_ret
  exact ⟨ret_int hv.out.symm, rfl⟩

set_option maxHeartbeats 400000 in
theorem refclass6 (c : Int) (w : World) (h0 : 0 ≤ c) (h1 : c ≤ 255) (h : c = 40 ∨ c = 41) :
    Calls Tryz.prog 58 #[.int .u8 c] w fun e w' => e = .returned (.int .i64 (cls c)) ∧ w' = w := by
  have tDg : bDg c = false := decide_eq_false (by omega)
  have tLe : bLe c = false := decide_eq_false (by omega)
  have tHx : bHx c = false := decide_eq_false (by omega)
  have tTk : bTk c = false := decide_eq_false (by omega)
  have tPl : bPl c = true := decide_eq_true (by omega)
  have tHo : bHo c = false := decide_eq_false (by omega)
  have hv : Hid (cls c = 16) := by show _ = _; unfold cls low sgn; (repeat' split) <;> omega
  have e32 : (c == 32) = false := by simp; omega
  have e9 : (c == 9) = false := by simp; omega
  clear h
  go_enter Tryz.func58, Tryz.ntmps58
  go_wp2_with fail
  refine (hasDg _ _ h0 h1).mono ?_
  rintro e w' ⟨rfl, rfl⟩
  go_wp2_with fail
  refine (hasLe _ _ h0 h1).mono ?_
  rintro e w' ⟨rfl, rfl⟩
  go_wp2_with fail
  refine (hasHx _ _ h0 h1).mono ?_
  rintro e w' ⟨rfl, rfl⟩
  go_wp2_with fail
  refine (hasTk _ _ h0 h1).mono ?_
  rintro e w' ⟨rfl, rfl⟩
  go_wp2_with fail
  refine (hasPl _ _ h0 h1).mono ?_
  rintro e w' ⟨rfl, rfl⟩
  go_wp2_with fail
  refine (hasHo _ _ h0 h1).mono ?_
  rintro e w' ⟨rfl, rfl⟩
  go_wp2
  go_ret
  exact ⟨ret_int hv.out.symm, rfl⟩

set_option maxHeartbeats 400000 in
theorem refclass7 (c : Int) (w : World) (h0 : 0 ≤ c) (h1 : c ≤ 255) (h : c = 32 ∨ c = 9) :
    Calls Tryz.prog 58 #[.int .u8 c] w fun e w' => e = .returned (.int .i64 (cls c)) ∧ w' = w := by
  have tDg : bDg c = false := decide_eq_false (by omega)
  have tLe : bLe c = false := decide_eq_false (by omega)
  have tHx : bHx c = false := decide_eq_false (by omega)
  have tTk : bTk c = false := decide_eq_false (by omega)
  have tPl : bPl c = false := decide_eq_false (by omega)
  have tHo : bHo c = false := decide_eq_false (by omega)
  have hv : Hid (cls c = 32) := by show _ = _; unfold cls low sgn; (repeat' split) <;> omega
  rcases h with h | h
  all_goals
    subst h
    go_enter Tryz.func58, Tryz.ntmps58
    go_wp2_with fail
    refine (hasDg _ _ h0 h1).mono ?_
    rintro e w' ⟨rfl, rfl⟩
    go_wp2_with fail
    refine (hasLe _ _ h0 h1).mono ?_
    rintro e w' ⟨rfl, rfl⟩
    go_wp2_with fail
    refine (hasHx _ _ h0 h1).mono ?_
    rintro e w' ⟨rfl, rfl⟩
    go_wp2_with fail
    refine (hasTk _ _ h0 h1).mono ?_
    rintro e w' ⟨rfl, rfl⟩
    go_wp2_with fail
    refine (hasPl _ _ h0 h1).mono ?_
    rintro e w' ⟨rfl, rfl⟩
    go_wp2_with fail
    refine (hasHo _ _ h0 h1).mono ?_
    rintro e w' ⟨rfl, rfl⟩
    go_wp2
    go_ret
    exact ⟨ret_int hv.out.symm, rfl⟩

set_option maxHeartbeats 400000 in
theorem refclass8 (c : Int) (w : World) (h0 : 0 ≤ c) (h1 : c ≤ 255) (h : ¬ (48 ≤ c ∧ c ≤ 57) ∧ ¬ (97 ≤ c ∧ c ≤ 122 ∨ 65 ≤ c ∧ c ≤ 90) ∧ c ≠ 45 ∧ c ≠ 46 ∧ c ≠ 33 ∧ c ≠ 37 ∧ c ≠ 42 ∧ c ≠ 95 ∧ c ≠ 43 ∧ c ≠ 96 ∧ c ≠ 39 ∧ c ≠ 126 ∧ c ≠ 40 ∧ c ≠ 41 ∧ c ≠ 32 ∧ c ≠ 9) :
    Calls Tryz.prog 58 #[.int .u8 c] w fun e w' => e = .returned (.int .i64 (cls c)) ∧ w' = w := by
  have tDg : bDg c = false := decide_eq_false (by omega)
  have tLe : bLe c = false := decide_eq_false (by omega)
  have tHx : bHx c = false := decide_eq_false (by omega)
  have tTk : bTk c = false := decide_eq_false (by omega)
  have tPl : bPl c = false := decide_eq_false (by omega)
  have tHo : bHo c = false := decide_eq_false (by omega)
  have hv : Hid (cls c = 0) := by show _ = _; unfold cls low sgn; (repeat' split) <;> omega
  have e32 : (c == 32) = false := by simp; omega
  have e9 : (c == 9) = false := by simp; omega
  clear h
  go_enter Tryz.func58, Tryz.ntmps58
  go_wp2_with fail
  refine (hasDg _ _ h0 h1).mono ?_
  rintro e w' ⟨rfl, rfl⟩
  go_wp2_with fail
  refine (hasLe _ _ h0 h1).mono ?_
  rintro e w' ⟨rfl, rfl⟩
  go_wp2_with fail
  refine (hasHx _ _ h0 h1).mono ?_
  rintro e w' ⟨rfl, rfl⟩
  go_wp2_with fail
  refine (hasTk _ _ h0 h1).mono ?_
  rintro e w' ⟨rfl, rfl⟩
  go_wp2_with fail
  refine (hasPl _ _ h0 h1).mono ?_
  rintro e w' ⟨rfl, rfl⟩
  go_wp2_with fail
  refine (hasHo _ _ h0 h1).mono ?_
  rintro e w' ⟨rfl, rfl⟩
  go_wp2
  go_ret
  exact ⟨ret_int hv.out.symm, rfl⟩

theorem refclass_any (c : Int) (w : World) (h0 : 0 ≤ c) (h1 : c ≤ 255) :
    Calls Tryz.prog 58 #[.int .u8 c] w fun e w' => e = .returned (.int .i64 (cls c)) ∧ w' = w := by
  by_cases a0 : 48 ≤ c ∧ c ≤ 57
  · exact refclass0 c w h0 h1 a0
  by_cases a1 : 97 ≤ c ∧ c ≤ 102 ∨ 65 ≤ c ∧ c ≤ 70
  · exact refclass1 c w h0 h1 a1
  by_cases a2 : 103 ≤ c ∧ c ≤ 122 ∨ 71 ≤ c ∧ c ≤ 90
  · exact refclass2 c w h0 h1 a2
  by_cases a3 : c = 45 ∨ c = 46
  · exact refclass3 c w h0 h1 a3
  by_cases a4 : c = 33 ∨ c = 126 ∨ c = 42 ∨ c = 95 ∨ c = 39
  · exact refclass4 c w h0 h1 a4
  by_cases a5 : c = 37 ∨ c = 43 ∨ c = 96
  · exact refclass5 c w h0 h1 a5
  by_cases a6 : c = 40 ∨ c = 41
  · exact refclass6 c w h0 h1 a6
  by_cases a7 : c = 32 ∨ c = 9
  · exact refclass7 c w h0 h1 a7
  exact refclass8 c w h0 h1 (by omega)

set_option maxHeartbeats 400000 in
theorem refall_any (s : ByteArray) (class_ : Int) (w : World) (hs : s.size ≤ maxLen) :
    Calls Tryz.prog 99 #[.string s, .int .i64 class_] w fun e w' => e = .returned (.bool (allB class_ s.data.toList)) ∧ w' = w := by
  unfold maxLen at hs
  go_enter Tryz.func99, Tryz.ntmps99
  go_wp2
  go_loop [5] (fun i => ∃ k : Nat, k ≤ s.size ∧ i = .int .i64 k ∧ Hid (allB class_ (s.data.toList.take k) = true)) (fun i => s.size - (intOf i).toNat)
  case atStart => exact ⟨0, Nat.zero_le _, rfl, rfl⟩
  case round =>
    obtain ⟨k, hk, rfl, hall⟩ := hrel
    by_cases hlt : k < s.size
    · have hbd := u8_bd s[k]
      by_cases hb : isB s[k].toNat class_ = true
      · have hz : (bits BinOp.and IntKind.i64 (cls s[k].toNat) class_ == 0) = false := by simpa [isB] using hb
        have HB : Hid (isB s[k].toNat class_ = true) := hb
        clear hb
        go_wp2_with (go_at_call 58; refine (refclass_any _ _ hbd.1 hbd.2).mono ?_; rintro e w' ⟨rfl, rfl⟩)
        go_round
        case rel => exact ⟨k + 1, by omega, by go_num, show _ = _ by rw [take_snoc s k hlt, allB_snoc, hall.out, HB.out]; rfl⟩
        case measure => simp [intOf]; omega
      · have hb' : isB s[k].toNat class_ = false := by simpa using hb
        have hz : (bits BinOp.and IntKind.i64 (cls s[k].toNat) class_ == 0) = true := by simpa [isB] using hb'
        clear hb
        have HB : Hid (isB s[k].toNat class_ = false) := hb'
        clear hb'
        go_wp2_with (go_at_call 58; refine (refclass_any _ _ hbd.1 hbd.2).mono ?_; rintro e w' ⟨rfl, rfl⟩)
        go_ret
        exact ⟨ret_bool (allB_hit hlt HB.out).symm, rfl⟩
    · go_wp2
      go_ret
      exact ⟨ret_bool (by rw [← hall.out, take_all s k (by omega)]), rfl⟩

end Go.Proofs.YtgboekilhldejaaGreatDoor

/-
  Contracts of Token, Lower, Trim and Same, and of the document's own.
-/
namespace Go.Proofs.YtgboekilhldejaaGreatDoor
open Go.RowKit Sc
set_option linter.unusedVariables false
set_option maxRecDepth 20000

def tokenB (l : List UInt8) : Bool := decide (1 ≤ l.length) && decide (l.length ≤ 64) && allB 8 l

set_option maxHeartbeats 400000 in
theorem token_any (s : ByteArray) (w : World) (hs : s.size ≤ maxLen) :
    Calls Tryz.prog 57 #[.string s] w fun e w' => e = .returned (.bool (tokenB s.data.toList)) ∧ w' = w := by
  have hl := len_data s
  by_cases h0 : s.size = 0
  · have hE := isE_true h0
    have HT : Hid (tokenB s.data.toList = false) := by show _ = _; simp [tokenB, hl, h0]
    clear hl
    go_enter Tryz.func57, Tryz.ntmps57
    go_wp2
    go_ret
    exact ⟨ret_bool HT.out.symm, rfl⟩
  · have hE := isE_false (s := s) (by omega)
    by_cases h1 : s.size ≤ 64
    · have HT : Hid (tokenB s.data.toList = allB 8 s.data.toList) := by
        show _ = _
        have e1 : decide (1 ≤ s.size) = true := decide_eq_true (by omega)
        have e2 : decide (s.size ≤ 64) = true := decide_eq_true h1
        rw [tokenB, hl, e1, e2]; rfl
      clear hl
      go_enter Tryz.func57, Tryz.ntmps57
      go_wp2_with (go_at_call 46; refine (all_any _ _ _ hs).mono ?_; rintro e w' ⟨rfl, rfl⟩)
      go_ret
      exact ⟨ret_bool HT.out.symm, rfl⟩
    · have HT : Hid (tokenB s.data.toList = false) := by
        show _ = _
        have e2 : decide (s.size ≤ 64) = false := decide_eq_false h1
        rw [tokenB, hl, e2]; simp
      clear hl
      go_enter Tryz.func57, Tryz.ntmps57
      go_wp2
      go_ret
      exact ⟨ret_bool HT.out.symm, rfl⟩

set_option maxHeartbeats 400000 in
theorem reftoken_any (s : ByteArray) (w : World) (hs : s.size ≤ maxLen) :
    Calls Tryz.prog 61 #[.string s] w fun e w' => e = .returned (.bool (tokenB s.data.toList)) ∧ w' = w := by
  have hl := len_data s
  by_cases h0 : s.size = 0
  · have HT : Hid (tokenB s.data.toList = false) := by show _ = _; simp [tokenB, hl, h0]
    clear hl
    go_enter Tryz.func61, Tryz.ntmps61
    go_wp2
    go_ret
    exact ⟨ret_bool HT.out.symm, rfl⟩
  · by_cases h1 : s.size ≤ 64
    · have HT : Hid (tokenB s.data.toList = allB 8 s.data.toList) := by
        show _ = _
        have e1 : decide (1 ≤ s.size) = true := decide_eq_true (by omega)
        have e2 : decide (s.size ≤ 64) = true := decide_eq_true h1
        rw [tokenB, hl, e1, e2]; rfl
      clear hl
      go_enter Tryz.func61, Tryz.ntmps61
      go_wp2_with (go_at_call 99; refine (refall_any _ _ _ hs).mono ?_; rintro e w' ⟨rfl, rfl⟩)
      go_ret
      exact ⟨ret_bool HT.out.symm, rfl⟩
    · have HT : Hid (tokenB s.data.toList = false) := by
        show _ = _
        have e2 : decide (s.size ≤ 64) = false := decide_eq_false h1
        rw [tokenB, hl, e2]; simp
      clear hl
      go_enter Tryz.func61, Tryz.ntmps61
      go_wp2
      go_ret
      exact ⟨ret_bool HT.out.symm, rfl⟩

def lowb (b : UInt8) : UInt8 := if 65 ≤ b.toNat ∧ b.toNat ≤ 90 then b + 32 else b
def lowL (l : List UInt8) : List UInt8 := l.map lowb
theorem lowb_toNat (b : UInt8) : ((lowb b).toNat : Int) = low b.toNat := by
  have h : ∀ n : Fin 256, ((lowb (UInt8.ofNat n.val)).toNat : Int) = low n.val := by decide +kernel
  have := h ⟨b.toNat, b.toNat_lt⟩
  simpa using this
theorem lowL_len (l : List UInt8) : (lowL l).length = l.length := by simp [lowL]
theorem lowL_snoc (l : List UInt8) (b : UInt8) : lowL (l ++ [b]) = lowL l ++ [lowb b] := by simp [lowL]

set_option maxHeartbeats 400000 in
theorem lower_txt (s : ByteArray) (w : World) (hs : s.size ≤ 281474976710656) :
    Calls Tryz.prog 85 #[.string s] w fun e w' => e = .returned (.string ⟨(lowL s.data.toList).toArray⟩) ∧ Below w.heap.size w w' := by
  obtain ⟨i0, hi, hz0, hz1, hz2⟩ := info_parts info5
  have hmk : ∀ u : World, (Instr.makeSlice 92 (.int .i64 (s.size : Int)) (.int .i64 (s.size : Int))).run Tryz.prog u =
      .ok (.slice (some ⟨u.heap.size, 0, none⟩) s.size s.size) (u.alloc (.cells (madeCells #[.int .u8 0] s.size) 5)) := fun u => by
    have h := run_make (P := Tryz.prog) u 92 5 i0 (.int .u8 0) Tryz.underlying92 hi hz0 .i64 .i64 (s.size : Int) (s.size : Int) (by omega) (Int.le_refl _) (by rw [hz2]; omega) (by omega)
    simpa [hz1, Value.cells] using h
  have hr0 : Hid (RowIs (w.alloc (.cells (madeCells #[.int .u8 0] s.size) 5)) w.heap.size 5 (filled [] s.size)) := made_row w _ _
  go_enter Tryz.func85, Tryz.ntmps85
  go_wp2
  clear hmk
  go_loopw [10] (fun i wr => ∃ k : Nat, k ≤ s.size ∧ i = .int .i64 k ∧ Hid (RowIs wr w.heap.size 5 (filled (lowL (s.data.toList.take k)) s.size)) ∧ Below w.heap.size w wr) (fun i _ => s.size - (intOf i).toNat)
  case atStart => exact ⟨0, Nat.zero_le _, rfl, hr0, (Below.refl _ _).alloc (Nat.le_refl _) _⟩
  case round =>
    clear hr0
    obtain ⟨k, hk, rfl, hr, hb⟩ := hrel
    have hlk : Hid ((lowL (s.data.toList.take k)).length = k) := by show _ = _; rw [lowL_len, List.length_take, len_data]; omega
    by_cases hlt : k < s.size
    · have hbd := u8_bd s[k]
      obtain ⟨x, hc⟩ : ∃ x, wr.cell? ⟨w.heap.size, k, none⟩ = some x := ⟨_, hr.out.cell k (by rw [filled_len _ _ (by rw [hlk.out]; omega)]; exact hlt)⟩
      have hf := hr.out.frozen k
      have hr' : Hid (RowIs (wr.setCell ⟨w.heap.size, k, none⟩ (.int .u8 (low s[k].toNat))) w.heap.size 5 (filled (lowL (s.data.toList.take (k + 1))) s.size)) := by
        have h := hr.out.set k (.int .u8 (lowb s[k]).toNat)
        have h2 := filled_set (lowL (s.data.toList.take k)) s.size (lowb s[k]) (by rw [hlk.out]; exact hlt)
        rw [hlk.out] at h2
        rw [h2, lowb_toNat, ← lowL_snoc, ← take_snoc s k hlt] at h
        exact h
      go_wp2_with (go_at_call 109; refine (lower_any _ _ hbd.1 hbd.2).mono ?_; rintro e w' ⟨rfl, rfl⟩)
      go_roundw
      case rel => exact ⟨k + 1, by omega, by go_num, hr', hb.setCell (Nat.le_refl _) _⟩
      case measure => simp [intOf]; omega
    · have hta := take_all s k (by omega)
      have hr2 := hr.out
      rw [hta, filled_full _ _ (by rw [lowL_len, len_data])] at hr2
      have hown := hr2.own w.heap.size s.size (Nat.le_refl _) (by rw [Lib.byteCells_length, lowL_len, len_data]) (by unfold maxLen; omega)
      have hcv := conv_own (P := Tryz.prog) _ Tryz.underlying92 Tryz.underlying5 Tryz.underlying9 hown
      clear hta hr2 hown hr hlk
      go_wp2
      go_ret
      exact ⟨rfl, hb⟩

theorem low_cells1 (l : List UInt8) (b : UInt8) : Lib.byteCells (lowL l) ++ [.int .u8 (low b.toNat)] = Lib.byteCells (lowL (l ++ [b])) := by
  rw [lowL_snoc, Lib.byteCells_append, ← lowb_toNat]; rfl

set_option maxHeartbeats 400000 in
theorem reflower_txt (s : ByteArray) (w : World) (hs : s.size ≤ 140737488355328) :
    Calls Tryz.prog 63 #[.string s] w fun e w' => e = .returned (.string ⟨(lowL s.data.toList).toArray⟩) ∧ Below w.heap.size w w' := by
  obtain ⟨i0, hi, hz0, hz1, hz2⟩ := info_parts info5
  go_enter Tryz.func63, Tryz.ntmps63
  go_wp2
  go_loopw [3, 4] (fun v i wr => ∃ k : Nat, k ≤ s.size ∧ i = .int .i64 k ∧ Own wr w.heap.size 5 v (Lib.byteCells (lowL (s.data.toList.take k))) ∧ Below w.heap.size w wr ∧ w.heap.size ≤ wr.heap.size) (fun _ i _ => s.size - (intOf i).toNat)
  case atStart => exact ⟨0, Nat.zero_le _, rfl, Own.nil _ _ _, Below.refl _ _, Nat.le_refl _⟩
  case round =>
    obtain ⟨k, hk, rfl, hown, hb, hB⟩ := hrel
    have hlen : (Lib.byteCells (lowL (s.data.toList.take k))).length ≤ k := by rw [Lib.byteCells_length, lowL_len]; exact List.length_take_le _ _
    by_cases hlt : k < s.size
    · have hbd := u8_bd s[k]
      have hcs := low_cells1 (s.data.toList.take k) s[k]
      rw [← take_snoc s k hlt] at hcs
      by_cases hup : 65 ≤ (s[k].toNat : Int) ∧ (s[k].toNat : Int) ≤ 90
      · have e : low s[k].toNat = (s[k].toNat : Int) - 65 + 97 := by rw [low, if_pos hup]; omega
        rw [e] at hcs
        have HC : Hid (Lib.byteCells (lowL (List.take k s.data.toList)) ++ [Value.int IntKind.u8 ((s[k].toNat : Int) - 65 + 97)] = Lib.byteCells (lowL (List.take (k + 1) s.data.toList))) := hcs
        obtain ⟨hu1, hu2⟩ := hup
        clear hcs e
        go_wp2_with (at_builtin; refine wp_app _ rfl (.tmp 21) (.tmp 27) 92 rfl w.heap.size 5 i0 (.int .u8 0) 1 Tryz.underlying92 hi hz0 hz1 hz2 rfl _ _ rfl (hown.alloc _) ⟨_, 0, none⟩ 1 1 [.int .u8 ((s[k].toNat : Int) - 65 + 97)] rfl rfl (by exact one_new _ _ _) (by intro u hu; simp at hu; subst hu; rfl) (by unfold maxLen; omega) (by omega) w (hb.alloc hB _) (by simp; omega) ?_; intro v3 w3 hown3 hb3 hB3)
        rw [HC.out] at hown3
        go_wp2
        go_roundw
        case rel => exact ⟨k + 1, by omega, by go_num, hown3, hb3, hB3⟩
        case measure => simp [intOf]; omega
      · have e : low s[k].toNat = (s[k].toNat : Int) := by rw [low, if_neg hup]
        rw [e] at hcs
        have HC : Hid (Lib.byteCells (lowL (List.take k s.data.toList)) ++ [Value.int IntKind.u8 (s[k].toNat : Int)] = Lib.byteCells (lowL (List.take (k + 1) s.data.toList))) := hcs
        clear hcs e
        by_cases hu1 : 65 ≤ (s[k].toNat : Int)
        all_goals
          go_wp2_with (at_builtin; refine wp_app _ rfl (.tmp 29) (.tmp 33) 92 rfl w.heap.size 5 i0 (.int .u8 0) 1 Tryz.underlying92 hi hz0 hz1 hz2 rfl _ _ rfl (hown.alloc _) ⟨_, 0, none⟩ 1 1 [.int .u8 (s[k].toNat : Int)] rfl rfl (by exact one_new _ _ _) (by intro u hu; simp at hu; subst hu; rfl) (by unfold maxLen; omega) (by omega) w (hb.alloc hB _) (by simp; omega) ?_; intro v3 w3 hown3 hb3 hB3)
          rw [HC.out] at hown3
          go_wp2
          go_roundw
          case rel => exact ⟨k + 1, by omega, by go_num, hown3, hb3, hB3⟩
          case measure => simp [intOf]; omega
    · have hta := take_all s k (by omega)
      rw [hta] at hown
      have hcv := conv_own (P := Tryz.prog) _ Tryz.underlying92 Tryz.underlying5 Tryz.underlying9 hown
      clear hta hlen
      go_wp2
      go_ret
      exact ⟨rfl, hb⟩

end Go.Proofs.YtgboekilhldejaaGreatDoor

/-
  The contracts of pass and of Parts.
-/
namespace Go.Proofs.YtgboekilhldejaaGreatDoor
open Go.RowKit Sc
set_option linter.unusedVariables false
set_option maxRecDepth 20000

structure Pl where
  q : Bool
  e : Bool
  a : Bool
/-- What is open behind a byte, and whether the byte stands free. -/
def pst (p : Pl) (c : Int) : Pl × Bool :=
  if p.e then (⟨p.q, false, p.a⟩, false) else if c = 34 then (⟨!p.q, p.e, p.a⟩, false) else if p.q then (⟨p.q, c == 92, p.a⟩, false)
  else if c = 60 then (⟨p.q, p.e, true⟩, false) else if c = 62 then (⟨p.q, p.e, false⟩, false) else (p, !p.a)

def PlaceAt (w : World) (g : Nat) (p : Pl) : Prop :=
  (w.cell? ⟨g, 0, none⟩ = some (.bool p.q) ∧ w.cell? ⟨g, 1, none⟩ = some (.bool p.e) ∧ w.cell? ⟨g, 2, none⟩ = some (.bool p.a)) ∧
  w.frozen? ⟨g, 0, none⟩ = false ∧ w.frozen? ⟨g, 1, none⟩ = false ∧ w.frozen? ⟨g, 2, none⟩ = false

theorem place_below {w w' : World} {g : Nat} {p : Pl} (h : PlaceAt w g p) (hb : Below (g + 1) w w') : PlaceAt w' g p := by
  obtain ⟨⟨h1, h2, h3⟩, h4, h5, h6⟩ := h
  have c := fun o => hb.cell (p := ⟨g, o, none⟩) (Nat.lt_succ_self g)
  have f := fun o => hb.frozen (p := ⟨g, o, none⟩) (Nat.lt_succ_self g)
  exact ⟨⟨(c 0).trans h1, (c 1).trans h2, (c 2).trans h3⟩, (f 0).trans h4, (f 1).trans h5, (f 2).trans h6⟩

theorem place_q {w : World} {g : Nat} {p : Pl} (h : PlaceAt w g p) (b : Bool) : PlaceAt (w.setCell ⟨g, 0, none⟩ (.bool b)) g ⟨b, p.e, p.a⟩ := by
  obtain ⟨⟨h1, h2, h3⟩, h4, h5, h6⟩ := h
  refine ⟨⟨World.cell?_setCell_same _ _ _ h1, ?_, ?_⟩, ?_, ?_, ?_⟩
  · rw [World.cell?_setCell_other _ _ _ _ (by simp)]; exact h2
  · rw [World.cell?_setCell_other _ _ _ _ (by simp)]; exact h3
  all_goals rw [World.frozen?_setCell]; assumption
theorem place_e {w : World} {g : Nat} {p : Pl} (h : PlaceAt w g p) (b : Bool) : PlaceAt (w.setCell ⟨g, 1, none⟩ (.bool b)) g ⟨p.q, b, p.a⟩ := by
  obtain ⟨⟨h1, h2, h3⟩, h4, h5, h6⟩ := h
  refine ⟨⟨?_, World.cell?_setCell_same _ _ _ h2, ?_⟩, ?_, ?_, ?_⟩
  · rw [World.cell?_setCell_other _ _ _ _ (by simp)]; exact h1
  · rw [World.cell?_setCell_other _ _ _ _ (by simp)]; exact h3
  all_goals rw [World.frozen?_setCell]; assumption
theorem place_a {w : World} {g : Nat} {p : Pl} (h : PlaceAt w g p) (b : Bool) : PlaceAt (w.setCell ⟨g, 2, none⟩ (.bool b)) g ⟨p.q, p.e, b⟩ := by
  obtain ⟨⟨h1, h2, h3⟩, h4, h5, h6⟩ := h
  refine ⟨⟨?_, ?_, World.cell?_setCell_same _ _ _ h3⟩, ?_, ?_, ?_⟩
  · rw [World.cell?_setCell_other _ _ _ _ (by simp)]; exact h1
  · rw [World.cell?_setCell_other _ _ _ _ (by simp)]; exact h2
  all_goals rw [World.frozen?_setCell]; assumption

/-- What pass leaves. -/
def Passed (w w' : World) (g : Nat) (p : Pl) (c : Int) : Prop := PlaceAt w' g (pst p c).1 ∧ w.grownBy w' (some g)

theorem grown_refl (w : World) (r : Option Nat) : w.grownBy w r := ⟨rfl, rfl, rfl, Nat.le_refl _, fun _ _ _ => rfl⟩

set_option maxHeartbeats 1000000 in
theorem pass_any (g : Nat) (p : Pl) (c : Int) (w : World) (hp : PlaceAt w g p) :
    Calls Tryz.prog 88 #[.pointer (some ⟨g, 0, none⟩), .int .u8 c] w fun e w' => e = .returned (.bool (pst p c).2) ∧ Passed w w' g p c := by
  have HP : Hid (PlaceAt w g p) := hp
  obtain ⟨⟨h1, h2, h3⟩, h4, h5, h6⟩ := hp
  obtain ⟨q, e, a⟩ := p
  simp only at h1 h2 h3
  cases e with
  | true =>
    go_enter Tryz.func88, Tryz.ntmps88
    go_wp2
    go_ret
    exact ⟨ret_bool (by simp [pst]), by simpa [pst] using place_e HP.out false, Lib.grownBy_setCell _ _ _ _⟩
  | false =>
    by_cases c1 : c = 34
    · subst c1
      go_enter Tryz.func88, Tryz.ntmps88
      go_wp2
      go_ret
      exact ⟨ret_bool (by simp [pst]), by simpa [pst] using place_q HP.out (!q), Lib.grownBy_setCell _ _ _ _⟩
    · cases q with
      | true =>
        go_enter Tryz.func88, Tryz.ntmps88
        go_wp2
        go_ret
        exact ⟨ret_bool (by simp [pst, c1]), by simpa [pst, c1] using place_e HP.out (c == 92), Lib.grownBy_setCell _ _ _ _⟩
      | false =>
        by_cases c2 : c = 60
        · subst c2
          go_enter Tryz.func88, Tryz.ntmps88
          go_wp2
          go_ret
          exact ⟨ret_bool (by simp [pst]), by simpa [pst] using place_a HP.out true, Lib.grownBy_setCell _ _ _ _⟩
        · by_cases c3 : c = 62
          · subst c3
            go_enter Tryz.func88, Tryz.ntmps88
            go_wp2
            go_ret
            exact ⟨ret_bool (by simp [pst]), by simpa [pst] using place_a HP.out false, Lib.grownBy_setCell _ _ _ _⟩
          · go_enter Tryz.func88, Tryz.ntmps88
            go_wp2
            go_ret
            exact ⟨ret_bool (by simp [pst, c1, c2, c3]), by simpa [pst, c1, c2, c3] using HP.out, grown_refl _ _⟩

theorem info9 : (Tryz.prog.info? 9).map (fun i => (i.zero, i.size, i.bytes)) = some (some (.string .empty), 1, 16) := by kernel_rfl

def pl0 : Pl := ⟨false, false, false⟩
/-- The parts of a text, from a place on: cur is what stands since the last cut. -/
def partsG (sep : Int) : Pl → List UInt8 → List UInt8 → List (List UInt8)
  | _, cur, [] => [cur]
  | p, cur, b :: r => if (pst p b.toNat).2 = true ∧ (b.toNat : Int) = sep then cur :: partsG sep (pst p b.toNat).1 [] r else partsG sep (pst p b.toNat).1 (cur ++ [b]) r
def partsV (sep : Int) (l : List UInt8) : List (List UInt8) := partsG sep pl0 [] l

/-- The place behind the first k bytes. -/
def plAt (l : List UInt8) (k : Nat) : Pl := (l.take k).foldl (fun p b => (pst p b.toNat).1) pl0
theorem plAt_succ (s : ByteArray) (k : Nat) (h : k < s.size) : plAt s.data.toList (k + 1) = (pst (plAt s.data.toList k) s[k].toNat).1 := by
  rw [plAt, take_snoc s k h, List.foldl_append]; rfl

def strs (ps : List (List UInt8)) : List Value := ps.map fun p => Value.string ⟨p.toArray⟩
theorem strs_one (ps : List (List UInt8)) : ∀ u ∈ strs ps, u.oneCell' = true := by
  intro u hu
  simp only [strs, List.mem_map] at hu
  obtain ⟨b, _, rfl⟩ := hu
  rfl
theorem strs_length (ps : List (List UInt8)) : (strs ps).length = ps.length := by simp [strs]
theorem strs_append (a b : List (List UInt8)) : strs (a ++ b) = strs a ++ strs b := by simp [strs]

def mid (l : List UInt8) (a b : Nat) : List UInt8 := (l.drop a).take (b - a)
theorem mid_snoc (s : ByteArray) (a k : Nat) (ha : a ≤ k) (hk : k < s.size) : mid s.data.toList a (k + 1) = mid s.data.toList a k ++ [s[k]] := by
  have e : k + 1 - a = (k - a) + 1 := by omega
  have hl : k - a < (s.data.toList.drop a).length := by rw [List.length_drop, len_data]; omega
  rw [mid, mid, e, List.take_succ_eq_append_getElem hl]
  congr 2
  rw [List.getElem_drop]
  simp only [show a + (k - a) = k by omega]
  rfl
theorem mid_self (l : List UInt8) (a : Nat) : mid l a a = [] := by simp [mid]

theorem partsG_cut {sep : Int} {p : Pl} {s : ByteArray} {a k : Nat} (hk : k < s.size) (h1 : (pst p s[k].toNat).2 = true) (h2 : (s[k].toNat : Int) = sep) :
    partsG sep p (mid s.data.toList a k) (s.data.toList.drop k) = mid s.data.toList a k :: partsG sep (pst p s[k].toNat).1 (mid s.data.toList (k + 1) (k + 1)) (s.data.toList.drop (k + 1)) := by
  rw [drop_cons s k hk, partsG, if_pos ⟨h1, h2⟩, mid_self]
theorem partsG_on {sep : Int} {p : Pl} {s : ByteArray} {a k : Nat} (ha : a ≤ k) (hk : k < s.size) (h : ¬ ((pst p s[k].toNat).2 = true ∧ (s[k].toNat : Int) = sep)) :
    partsG sep p (mid s.data.toList a k) (s.data.toList.drop k) = partsG sep (pst p s[k].toNat).1 (mid s.data.toList a (k + 1)) (s.data.toList.drop (k + 1)) := by
  rw [drop_cons s k hk, partsG, if_neg h, mid_snoc s a k ha hk]

theorem Own.kept {w w' : World} {B g : Nat} {e : TypeId} {v : Value} {xs : List Value} (h : Own w B e v xs) (hg : w.grownBy w' (some g)) (hlt : g < B) : Own w' B e v xs := by
  refine World.ownsRow.kept h hg ?_
  cases ho : v.ownBlock with
  | none => exact Or.inl rfl
  | some k => right; intro e; injection e with e; have := (World.ownsRow.lt h k ho).1; omega

theorem place0 (w : World) : PlaceAt (w.alloc (.cells #[.bool false, .bool false, .bool false] 107)) w.heap.size pl0 := by
  refine ⟨⟨?_, ?_, ?_⟩, ?_, ?_, ?_⟩ <;> simp [pl0]

set_option maxHeartbeats 1000000 in
theorem parts_any (s : ByteArray) (sep : Int) (w : World) (hs : (s.size + 1) * 16 ≤ 140737488355328) :
    Calls Tryz.prog 45 #[.string s, .int .u8 sep] w fun e w' => ∃ v, e = .returned v ∧ Own w' (w.heap.size + 1) 9 v (strs (partsV sep s.data.toList)) ∧ Below w.heap.size w w' := by
  obtain ⟨i0, hi, hz0, hz1, hz2⟩ := info_parts info9
  have hp0 := place0 w
  have HP0 : Hid (PlaceAt (w.alloc (.cells #[.bool false, .bool false, .bool false] 107)) w.heap.size pl0) := hp0
  clear hp0
  go_enter Tryz.func45, Tryz.ntmps45
  go_wp2
  go_loopw [5, 7, 12] (fun v fr i wr => ∃ (k a : Nat) (ps : List (List UInt8)), k ≤ s.size ∧ i = .int .i64 k ∧ fr = .int .i64 a ∧ a ≤ k ∧ ps.length ≤ k ∧ Own wr (w.heap.size + 1) 9 v (strs ps) ∧
      Hid (PlaceAt wr w.heap.size (plAt s.data.toList k)) ∧ Below w.heap.size w wr ∧ w.heap.size + 1 ≤ wr.heap.size ∧ Hid (partsV sep s.data.toList = ps ++ partsG sep (plAt s.data.toList k) (mid s.data.toList a k) (s.data.toList.drop k)))
    (fun _ _ i _ => s.size - (intOf i).toNat)
  case atStart => exact ⟨0, 0, [], Nat.zero_le _, rfl, rfl, Nat.le_refl _, Nat.le_refl _, Own.nil _ _ _, HP0, (Below.refl _ _).alloc (Nat.le_refl _) _, by simp, rfl⟩
  case round =>
    clear HP0
    obtain ⟨k, a, ps, hk, rfl, rfl, hak, hpl, hown, hpc, hb, hB, hpv⟩ := hrel
    by_cases hlt : k < s.size
    · have hnx := plAt_succ s k hlt
      have HNX : Hid (plAt s.data.toList (k + 1) = (pst (plAt s.data.toList k) s[k].toNat).1) := hnx
      clear hnx
      by_cases hfr : (pst (plAt s.data.toList k) s[k].toNat).2 = true
      · by_cases hsep : (s[k].toNat : Int) = sep
        · have hsb : ((s[k].toNat : Int) == sep) = true := by simpa using hsep
          have hcut : Hid (partsV sep s.data.toList = ps ++ [mid s.data.toList a k] ++ partsG sep (plAt s.data.toList (k + 1)) (mid s.data.toList (k + 1) (k + 1)) (s.data.toList.drop (k + 1))) := by
            show _ = _
            rw [hpv.out, partsG_cut hlt hfr hsep, HNX.out, List.append_assoc]; rfl
          clear hsep hpv
          go_wp2_with (first
            | (go_at_call 88; refine (pass_any w.heap.size (plAt s.data.toList k) _ _ hpc.out).mono ?_; rintro e w1 ⟨rfl, hpas⟩)
            | (go_at_call 84; refine (piece_any s a k _ (by omega) hak (by omega)).mono ?_; rintro e w2 ⟨rfl, hb2⟩; have hB1 := Nat.le_trans hB hpas.2.size; have hown2 := (hown.kept hpas.2 (Nat.lt_succ_self _)).below hb2)
            | (at_builtin; refine wp_app _ rfl (.tmp 27) (.tmp 32) 22 rfl (w.heap.size + 1) 9 i0 (.string .empty) 16 Tryz.underlying22 hi hz0 hz1 hz2 rfl _ _ rfl (hown2.alloc _) ⟨_, 0, none⟩ 1 1 [.string (s.extract a k)] rfl rfl (by exact one_new _ _ _) (by intro u hu; simp at hu; subst hu; rfl) (by rw [strs_length]; unfold maxLen; omega) (by rw [strs_length]; omega) w1 ((hb2.mono hB1).alloc (by have := hb2.size; omega) _) (by have := hb2.size; simp; omega) ?_; intro v3 w3 hown3 hb3 hB3))
          have e1 : [Value.string (s.extract a k)] = strs [mid s.data.toList a k] := by simp [strs, ext_list, mid]
          rw [e1, ← strs_append] at hown3
          have hp3 : Hid (PlaceAt w3 w.heap.size (plAt s.data.toList (k + 1))) := by rw [HNX.out]; exact place_below hpas.1 hb3
          have hbw : Below w.heap.size w w3 := (hb.grown hpas.2 (by omega) (fun k hk => by injection hk with hk; omega)).trans (hb3.mono (by omega))
          clear e1
          go_wp2
          go_roundw
          case rel => exact ⟨k + 1, k + 1, _, by omega, by go_num, by go_num, Nat.le_refl _, by simp; omega, hown3, hp3, hbw, hB3, hcut⟩
          case measure => simp [intOf]; omega
        · have hsb : ((s[k].toNat : Int) == sep) = false := by simpa using hsep
          have hcut : Hid (partsV sep s.data.toList = ps ++ partsG sep (plAt s.data.toList (k + 1)) (mid s.data.toList a (k + 1)) (s.data.toList.drop (k + 1))) := by
            show _ = _
            rw [hpv.out, partsG_on hak hlt (by simp [hsep]), HNX.out]
          clear hsep hpv
          go_wp2_with (go_at_call 88; refine (pass_any w.heap.size (plAt s.data.toList k) _ _ hpc.out).mono ?_; rintro e w1 ⟨rfl, hpas⟩)
          have hp3 : Hid (PlaceAt w1 w.heap.size (plAt s.data.toList (k + 1))) := by rw [HNX.out]; exact hpas.1
          have hbw : Below w.heap.size w w1 := hb.grown hpas.2 (by omega) (fun k hk => by injection hk with hk; omega)
          go_roundw
          case rel => exact ⟨k + 1, a, ps, by omega, by go_num, rfl, by omega, by omega, hown.kept hpas.2 (Nat.lt_succ_self _), hp3, hbw, Nat.le_trans hB hpas.2.size, hcut⟩
          case measure => simp [intOf]; omega
      · have hfr' : (pst (plAt s.data.toList k) s[k].toNat).2 = false := by simpa using hfr
        have hcut : Hid (partsV sep s.data.toList = ps ++ partsG sep (plAt s.data.toList (k + 1)) (mid s.data.toList a (k + 1)) (s.data.toList.drop (k + 1))) := by
          show _ = _
          rw [hpv.out, partsG_on hak hlt (by simp [hfr']), HNX.out]
        clear hfr hpv
        go_wp2_with (go_at_call 88; refine (pass_any w.heap.size (plAt s.data.toList k) _ _ hpc.out).mono ?_; rintro e w1 ⟨rfl, hpas⟩)
        have hp3 : Hid (PlaceAt w1 w.heap.size (plAt s.data.toList (k + 1))) := by rw [HNX.out]; exact hpas.1
        have hbw : Below w.heap.size w w1 := hb.grown hpas.2 (by omega) (fun k hk => by injection hk with hk; omega)
        go_roundw
        case rel => exact ⟨k + 1, a, ps, by omega, by go_num, rfl, by omega, by omega, hown.kept hpas.2 (Nat.lt_succ_self _), hp3, hbw, Nat.le_trans hB hpas.2.size, hcut⟩
        case measure => simp [intOf]; omega
    · have hks : k = s.size := by omega
      have hfin : Hid (partsV sep s.data.toList = ps ++ [mid s.data.toList a s.size]) := by
        show _ = _
        rw [hpv.out, drop_all s k (by omega), hks]; rfl
      have HKS : Hid (k = s.size) := hks
      clear hpv hks
      go_wp2_with (first
        | (go_at_call 84; refine (piece_any s a s.size _ (by omega) (by have := HKS.out; omega) (Nat.le_refl _)).mono ?_; rintro e w2 ⟨rfl, hb2⟩; have hown2 := hown.below hb2)
        | (at_builtin; refine wp_app _ rfl (.tmp 37) (.tmp 43) 22 rfl (w.heap.size + 1) 9 i0 (.string .empty) 16 Tryz.underlying22 hi hz0 hz1 hz2 rfl _ _ rfl (hown2.alloc _) ⟨_, 0, none⟩ 1 1 [.string (s.extract a s.size)] rfl rfl (by exact one_new _ _ _) (by intro u hu; simp at hu; subst hu; rfl) (by rw [strs_length]; unfold maxLen; omega) (by rw [strs_length]; omega) wr ((hb2.mono hB).alloc (by have := hb2.size; omega) _) (by have := hb2.size; simp; omega) ?_; intro v3 w3 hown3 hb3 hB3))
      have e1 : [Value.string (s.extract a s.size)] = strs [mid s.data.toList a s.size] := by simp [strs, ext_list, mid]
      rw [e1, ← strs_append, ← hfin.out] at hown3
      clear e1
      go_ret
      exact ⟨_, rfl, hown3, hb.trans (hb3.mono (by omega))⟩

end Go.Proofs.YtgboekilhldejaaGreatDoor

/-
  Texts cut at a sign, and parted by it. Of no program.
-/
namespace Go.Proofs.YtgboekilhldejaaGreatDoor

/-- What stands ahead of the first sign, behind it, and whether there is one. -/
def cutL (c : UInt8) : List UInt8 → List UInt8 × List UInt8 × Bool
  | [] => ([], [], false)
  | x :: l => if x = c then ([], l, true) else (x :: (cutL c l).1, (cutL c l).2.1, (cutL c l).2.2)
/-- The parts between any two signs. -/
def splitL (c : UInt8) : List UInt8 → List (List UInt8)
  | [] => [[]]
  | x :: l => if x = c then [] :: splitL c l else (x :: (splitL c l).headD []) :: (splitL c l).tail

def hasL (c : UInt8) (l : List UInt8) : Bool := l.contains c

theorem cutL_miss {c : UInt8} {l : List UInt8} (h : c ∉ l) : cutL c l = (l, [], false) := by
  induction l with
  | nil => rfl
  | cons x l ih =>
    simp only [List.mem_cons, not_or] at h
    rw [cutL, if_neg (fun e => h.1 e.symm), ih h.2]
theorem cutL_hit {c : UInt8} {a b : List UInt8} (h : c ∉ a) : cutL c (a ++ c :: b) = (a, b, true) := by
  induction a with
  | nil => simp [cutL]
  | cons x a ih =>
    simp only [List.mem_cons, not_or] at h
    rw [List.cons_append, cutL, if_neg (fun e => h.1 e.symm), ih h.2]
theorem cutL_has (c : UInt8) (l : List UInt8) : (cutL c l).2.2 = hasL c l := by
  unfold hasL
  induction l with
  | nil => rfl
  | cons x l ih =>
    rw [cutL]
    by_cases h : x = c
    · simp [h]
    · rw [if_neg h]; simp [ih]; intro e; exact absurd e.symm h
theorem cutL_join (c : UInt8) (l : List UInt8) : (cutL c l).2.2 = true → l = (cutL c l).1 ++ c :: (cutL c l).2.1 := by
  induction l with
  | nil => intro h; simp [cutL] at h
  | cons x l ih =>
    rw [cutL]
    by_cases h : x = c
    · simp [h]
    · rw [if_neg h]; intro h2; simp only [List.cons_append]; rw [← ih h2]
theorem cutL_not (c : UInt8) (l : List UInt8) : (cutL c l).2.2 = false → cutL c l = (l, [], false) := by
  intro h
  apply cutL_miss
  rw [cutL_has, hasL] at h
  simpa using h
theorem cutL_len (c : UInt8) (l : List UInt8) : (cutL c l).1.length ≤ l.length ∧ (cutL c l).2.1.length ≤ l.length := by
  induction l with
  | nil => simp [cutL]
  | cons x l ih =>
    rw [cutL]
    by_cases h : x = c
    · simp [h]
    · rw [if_neg h]; simp; omega
theorem splitL_cons (c : UInt8) (l : List UInt8) : ∃ p ps, splitL c l = p :: ps := by
  cases l with
  | nil => exact ⟨_, _, rfl⟩
  | cons x l => rw [splitL]; split <;> exact ⟨_, _, rfl⟩
theorem splitL_cut (c : UInt8) (l : List UInt8) : splitL c l = if (cutL c l).2.2 = true then (cutL c l).1 :: splitL c (cutL c l).2.1 else [(cutL c l).1] := by
  induction l with
  | nil => rfl
  | cons x l ih =>
    rw [splitL, cutL]
    by_cases h : x = c
    · simp [h]
    · rw [if_neg h, if_neg h]
      simp only
      rw [ih]
      split <;> simp
theorem splitL_len (c : UInt8) (l : List UInt8) : (splitL c l).length ≤ l.length + 1 := by
  induction l with
  | nil => simp [splitL]
  | cons x l ih =>
    obtain ⟨p, ps, hp⟩ := splitL_cons c l
    rw [splitL]
    split
    · simp; omega
    · rw [hp] at ih ⊢; simp at ih ⊢; omega

end Go.Proofs.YtgboekilhldejaaGreatDoor

/-
  Which texts are schemes and hosts, as plain functions on lists of bytes.
-/
namespace Go.Proofs.YtgboekilhldejaaGreatDoor
open Go.RowKit Sc
set_option linter.unusedVariables false
set_option maxRecDepth 20000

def okc (b : UInt8) : Bool := b == 58 || (b == 46 || isB b.toNat 4)
def brkB (l : List UInt8) : Bool := decide (4 ≤ l.length) && ((l.getD (l.length - 1) 0 == 93) && ((mid l 1 (l.length - 1)).all okc && decide (2 ≤ (mid l 1 (l.length - 1)).count 58)))
def labB (p : List UInt8) : Bool := decide (1 ≤ p.length) && (allB 64 p && (!(p.getD 0 0 == 45) && !(p.getD (p.length - 1) 0 == 45)))
def hostB (l : List UInt8) : Bool := decide (1 ≤ l.length) && (decide (l.length ≤ 64) && ((lowL l == l) && (if l.getD 0 0 = 91 then brkB l else (splitL 46 l).all labB)))
def schemeB (l : List UInt8) : Bool := l == [115, 105, 112] || (l == [115, 105, 112, 115] || l == [112, 114, 101, 115])

theorem host_short {l : List UInt8} (h : l.length = 0) : hostB l = false := by
  unfold hostB; simp [h]
theorem host_long {l : List UInt8} (h : 64 < l.length) : hostB l = false := by
  have : decide (l.length ≤ 64) = false := by simp; omega
  unfold hostB; simp [this]
theorem host_caps {l : List UInt8} (h : (lowL l == l) = false) : hostB l = false := by
  unfold hostB; simp only [h, Bool.false_and, Bool.and_false]
theorem host_brk {l : List UInt8} (h1 : 1 ≤ l.length) (h2 : l.length ≤ 64) (h : (lowL l == l) = true) (hb : l.getD 0 0 = 91) : hostB l = brkB l := by
  unfold hostB; simp only [h, if_pos hb, decide_eq_true h1, decide_eq_true h2, Bool.true_and]
theorem host_lab {l : List UInt8} (h1 : 1 ≤ l.length) (h2 : l.length ≤ 64) (h : (lowL l == l) = true) (hb : ¬ l.getD 0 0 = 91) : hostB l = (splitL 46 l).all labB := by
  unfold hostB; simp only [h, if_neg hb, decide_eq_true h1, decide_eq_true h2, Bool.true_and]
theorem getD_s (s : ByteArray) (k : Nat) (h : k < s.size) : s.data.toList.getD k 0 = s[k] := by
  rw [List.getD_eq_getElem?_getD, getL s k h]; rfl
theorem mid_prefix (l : List UInt8) (a k m : Nat) (h : k ≤ m) : ∃ r, mid l a m = mid l a k ++ r := by
  refine ⟨((l.drop a).take (m - a)).drop (k - a), ?_⟩
  unfold mid
  conv => lhs; rw [← List.take_append_drop (k - a) ((l.drop a).take (m - a))]
  rw [List.take_take, Nat.min_eq_left (by omega)]
theorem brk_bad {s : ByteArray} {k : Nat} (h1 : 1 ≤ k) (h : k + 1 < s.size) (hb : okc s[k] = false) : brkB s.data.toList = false := by
  obtain ⟨r, hr⟩ := mid_prefix s.data.toList 1 (k + 1) (s.size - 1) (by omega)
  unfold brkB
  rw [len_data, hr, mid_snoc s 1 k h1 (by omega)]
  simp [hb]
theorem brk_end {s : ByteArray} {k n : Nat} (h4 : 4 ≤ s.size) (hk : k = s.size - 1) (ha : (mid s.data.toList 1 k).all okc = true) (hn : (mid s.data.toList 1 k).count 58 = n) (hl : s.data.toList.getD k 0 = 93) : brkB s.data.toList = decide (2 ≤ n) := by
  subst hk
  unfold brkB
  rw [len_data, ha, hn, hl]
  simp [h4]
theorem brk_short {s : ByteArray} (h4 : ¬ 4 ≤ s.size) : brkB s.data.toList = false := by
  unfold brkB; rw [len_data]; simp [h4]
theorem brk_last {s : ByteArray} {k : Nat} (hk : k = s.size - 1) (hl : ¬ s.data.toList.getD k 0 = 93) : brkB s.data.toList = false := by
  subst hk
  have : (s.data.toList.getD (s.size - 1) 0 == 93) = false := by simpa using hl
  unfold brkB; rw [len_data, this]; simp
theorem okc_of {b : UInt8} : okc b = true ↔ b = 58 ∨ b = 46 ∨ isB b.toNat 4 = true := by simp [okc]
theorem splitL_mem_len (c : UInt8) (l : List UInt8) : ∀ p ∈ splitL c l, p.length ≤ l.length := by
  induction l with
  | nil => simp [splitL]
  | cons x l ih =>
    obtain ⟨p, ps, hp⟩ := splitL_cons c l
    rw [splitL]
    rw [hp] at ih ⊢
    split
    · intro q hq
      simp only [List.mem_cons] at hq
      rcases hq with rfl | hq
      · simp
      · have := ih q (by simpa using hq); simp; omega
    · intro q hq
      simp only [List.headD_cons, List.tail_cons, List.mem_cons] at hq
      rcases hq with rfl | hq
      · have := ih p (by simp); simp; omega
      · have := ih q (by simp [hq]); simp; omega

end Go.Proofs.YtgboekilhldejaaGreatDoor

/-
  Contracts of Trim and Same, and of the document's own.
-/
namespace Go.Proofs.YtgboekilhldejaaGreatDoor
open Go.RowKit Sc
set_option linter.unusedVariables false
set_option maxRecDepth 20000

def blk (b : UInt8) : Bool := isB b.toNat 32
def trimL (l : List UInt8) : List UInt8 := ((l.dropWhile blk).reverse.dropWhile blk).reverse

theorem blk_cls (b : UInt8) : blk b = (cls b.toNat == 32) := by
  have h : ∀ n : Fin 256, isB (n.val : Int) 32 = (cls (n.val : Int) == 32) := by decide +kernel
  exact h ⟨b.toNat, b.toNat_lt⟩

theorem front_step {s : ByteArray} {k : Nat} (hk : k < s.size) (hb : blk s[k] = true) : (s.data.toList.drop k).dropWhile blk = (s.data.toList.drop (k + 1)).dropWhile blk := by
  rw [drop_cons s k hk, List.dropWhile_cons, if_pos hb]
theorem front_stop {s : ByteArray} {k : Nat} (hk : k < s.size) (hb : blk s[k] = false) : (s.data.toList.drop k).dropWhile blk = s.data.toList.drop k := by
  rw [drop_cons s k hk, List.dropWhile_cons, if_neg (by simp [hb])]
theorem mid_pop {s : ByteArray} {k t : Nat} (hkt : k < t) (ht : t ≤ s.size) : mid s.data.toList k t = mid s.data.toList k (t - 1) ++ [s[t - 1]] := by
  have h := mid_snoc s k (t - 1) (by omega) (by omega)
  rw [show t - 1 + 1 = t by omega] at h
  exact h
theorem back_step {s : ByteArray} {k t : Nat} (hkt : k < t) (ht : t ≤ s.size) (hb : blk s[t - 1] = true) :
    (mid s.data.toList k t).reverse.dropWhile blk = (mid s.data.toList k (t - 1)).reverse.dropWhile blk := by
  rw [mid_pop hkt ht, List.reverse_append, List.reverse_cons, List.reverse_nil, List.nil_append, List.singleton_append, List.dropWhile_cons, if_pos hb]
theorem back_stop {s : ByteArray} {k t : Nat} (hkt : k < t) (ht : t ≤ s.size) (hb : blk s[t - 1] = false) :
    (mid s.data.toList k t).reverse.dropWhile blk = (mid s.data.toList k t).reverse := by
  rw [mid_pop hkt ht, List.reverse_append, List.reverse_cons, List.reverse_nil, List.nil_append, List.singleton_append, List.dropWhile_cons, if_neg (by simp [hb])]
theorem mid_all (s : ByteArray) (k : Nat) : mid s.data.toList k s.size = s.data.toList.drop k := by
  rw [mid, List.take_of_length_le (by rw [List.length_drop, len_data]; omega)]
theorem trim_end {s : ByteArray} {k t : Nat} (hf : s.data.toList.dropWhile blk = s.data.toList.drop k)
    (hb : (s.data.toList.drop k).reverse.dropWhile blk = (mid s.data.toList k t).reverse) : s.extract k t = ⟨(trimL s.data.toList).toArray⟩ := by
  rw [ext_list, trimL, hf, hb, List.reverse_reverse, mid]

set_option maxHeartbeats 600000 in
theorem trim_any (s : ByteArray) (w : World) (hs : s.size ≤ 281474976710656) :
    Calls Tryz.prog 43 #[.string s] w fun e w' => e = .returned (.string ⟨(trimL s.data.toList).toArray⟩) ∧ Below w.heap.size w w' := by
  go_enter Tryz.func43, Tryz.ntmps43
  go_wp2
  go_loop [3] (fun i => ∃ k : Nat, k ≤ s.size ∧ i = .int .i64 k ∧ Hid (s.data.toList.dropWhile blk = (s.data.toList.drop k).dropWhile blk)) (fun i => s.size - (intOf i).toNat)
  case atStart => exact ⟨0, Nat.zero_le _, rfl, rfl⟩
  case round =>
    obtain ⟨k, hk, rfl, hf⟩ := hrel
    by_cases hgo : ∃ h : k < s.size, blk s[k] = true
    · obtain ⟨hlt, hb⟩ := hgo
      have hbd := u8_bd s[k]
      have hb' : isB s[k].toNat 32 = true := hb
      have hf' : Hid (s.data.toList.dropWhile blk = (s.data.toList.drop (k + 1)).dropWhile blk) := by show _ = _; rw [hf.out, front_step hlt hb]
      clear hb hf
      go_wp2_with (go_at_call 83; refine (is_any _ _ _ hbd.1 hbd.2).mono ?_; rintro e w' ⟨rfl, rfl⟩)
      go_round
      case rel => exact ⟨k + 1, by omega, by go_num, hf'⟩
      case measure => simp [intOf]; omega
    · have hF : Hid (s.data.toList.dropWhile blk = s.data.toList.drop k) := by
        show _ = _
        rw [hf.out]
        by_cases hlt : k < s.size
        · exact front_stop hlt (by by_cases hb : blk s[k] = true; exact absurd ⟨hlt, hb⟩ hgo; simpa using hb)
        · rw [drop_all s k (by omega)]; rfl
      clear hf
      by_cases hlt : k < s.size
      · have hbd := u8_bd s[k]
        have hb' : isB s[k].toNat 32 = false := by by_cases hb : blk s[k] = true; exact absurd ⟨hlt, hb⟩ hgo; simpa [blk] using hb
        clear hgo
        go_wp2_with (go_at_call 83; refine (is_any _ _ _ hbd.1 hbd.2).mono ?_; rintro e w' ⟨rfl, rfl⟩)
        go_loop [4] (fun i => ∃ t : Nat, t ≤ s.size ∧ k ≤ t ∧ i = .int .i64 t ∧ Hid ((s.data.toList.drop k).reverse.dropWhile blk = (mid s.data.toList k t).reverse.dropWhile blk)) (fun i => (intOf i).toNat)
        case atStart => exact ⟨s.size, Nat.le_refl _, hk, rfl, show _ = _ by rw [mid_all]⟩
        case round =>
          clear hb' hbd
          obtain ⟨t, ht, hkt, rfl, hbk⟩ := hrel
          by_cases hk2 : k < t
          · have hbd := u8_bd s[t - 1]
            have ht1 : ((t : Int) - 1).toNat = t - 1 := by omega
            by_cases hb : blk s[t - 1] = true
            · have hb' : isB s[t - 1].toNat 32 = true := hb
              have hbk' : Hid ((s.data.toList.drop k).reverse.dropWhile blk = (mid s.data.toList k (t - 1)).reverse.dropWhile blk) := by show _ = _; rw [hbk.out, back_step hk2 ht hb]
              clear hb hbk
              go_wp2_with (go_at_call 83; refine (is_any _ _ _ hbd.1 hbd.2).mono ?_; rintro e w' ⟨rfl, rfl⟩)
              go_round
              case rel => exact ⟨t - 1, by omega, by omega, by go_num, hbk'⟩
              case measure => simp [intOf]; omega
            · have hb' : isB s[t - 1].toNat 32 = false := by simpa [blk] using hb
              have hE : Hid (s.extract k t = ⟨(trimL s.data.toList).toArray⟩) := trim_end hF.out (by rw [hbk.out, back_stop hk2 ht (by simpa using hb)])
              clear hb hbk
              go_wp2_with (first
                | (go_at_call 83; refine (is_any _ _ _ hbd.1 hbd.2).mono ?_; rintro e w' ⟨rfl, rfl⟩)
                | (go_at_call 84; refine (piece_any s k t _ hs hkt ht).mono ?_; rintro e w2 ⟨rfl, hb2⟩))
              go_ret
              exact ⟨by rw [← hE.out]; rfl, hb2⟩
          · have hE : Hid (s.extract k t = ⟨(trimL s.data.toList).toArray⟩) := trim_end hF.out (by rw [hbk.out, show t = k by omega, mid_self]; rfl)
            clear hbk
            go_wp2_with (go_at_call 84; refine (piece_any s k t _ hs hkt ht).mono ?_; rintro e w2 ⟨rfl, hb2⟩)
            go_ret
            exact ⟨by rw [← hE.out]; rfl, hb2⟩
      · have hks : k = s.size := by omega
        have hE : Hid (s.extract k s.size = ⟨(trimL s.data.toList).toArray⟩) := trim_end hF.out (by rw [drop_all s k (by omega), hks, mid_self]; rfl)
        have HK : Hid (k = s.size) := hks
        clear hgo hks
        go_wp2
        go_loop [4] (fun i => i = .int .i64 s.size) (fun _ => 0)
        case atStart => exact rfl
        case round =>
          subst hrel
          go_wp2_with (go_at_call 84; refine (piece_any s k s.size _ hs hk (Nat.le_refl _)).mono ?_; rintro e w2 ⟨rfl, hb2⟩)
          go_ret
          exact ⟨by rw [← hE.out]; rfl, hb2⟩

set_option maxHeartbeats 600000 in
theorem reftrim_any (s : ByteArray) (w : World) (hs : s.size ≤ 281474976710656) :
    Calls Tryz.prog 28 #[.string s] w fun e w' => e = .returned (.string ⟨(trimL s.data.toList).toArray⟩) ∧ w' = w := by
  go_enter Tryz.func28, Tryz.ntmps28
  go_wp2
  go_loop [3] (fun i => ∃ k : Nat, k ≤ s.size ∧ i = .int .i64 k ∧ Hid (s.data.toList.dropWhile blk = (s.data.toList.drop k).dropWhile blk)) (fun i => s.size - (intOf i).toNat)
  case atStart => exact ⟨0, Nat.zero_le _, rfl, rfl⟩
  case round =>
    obtain ⟨k, hk, rfl, hf⟩ := hrel
    by_cases hgo : ∃ h : k < s.size, blk s[k] = true
    · obtain ⟨hlt, hb⟩ := hgo
      have hbd := u8_bd s[k]
      have hb' : (cls s[k].toNat == 32) = true := by rw [← blk_cls]; exact hb
      have hf' : Hid (s.data.toList.dropWhile blk = (s.data.toList.drop (k + 1)).dropWhile blk) := by show _ = _; rw [hf.out, front_step hlt hb]
      clear hb hf
      go_wp2_with (go_at_call 58; refine (refclass_any _ _ hbd.1 hbd.2).mono ?_; rintro e w' ⟨rfl, rfl⟩)
      go_round
      case rel => exact ⟨k + 1, by omega, by go_num, hf'⟩
      case measure => simp [intOf]; omega
    · have hF : Hid (s.data.toList.dropWhile blk = s.data.toList.drop k) := by
        show _ = _
        rw [hf.out]
        by_cases hlt : k < s.size
        · exact front_stop hlt (by by_cases hb : blk s[k] = true; exact absurd ⟨hlt, hb⟩ hgo; simpa using hb)
        · rw [drop_all s k (by omega)]; rfl
      clear hf
      by_cases hlt : k < s.size
      · have hbd := u8_bd s[k]
        have hb' : (cls s[k].toNat == 32) = false := by rw [← blk_cls]; by_cases hb : blk s[k] = true; exact absurd ⟨hlt, hb⟩ hgo; simpa using hb
        clear hgo
        go_wp2_with (go_at_call 58; refine (refclass_any _ _ hbd.1 hbd.2).mono ?_; rintro e w' ⟨rfl, rfl⟩)
        go_loop [4] (fun i => ∃ t : Nat, t ≤ s.size ∧ k ≤ t ∧ i = .int .i64 t ∧ Hid ((s.data.toList.drop k).reverse.dropWhile blk = (mid s.data.toList k t).reverse.dropWhile blk)) (fun i => (intOf i).toNat)
        case atStart => exact ⟨s.size, Nat.le_refl _, hk, rfl, show _ = _ by rw [mid_all]⟩
        case round =>
          clear hb' hbd
          obtain ⟨t, ht, hkt, rfl, hbk⟩ := hrel
          by_cases hk2 : k < t
          · have hbd := u8_bd s[t - 1]
            have ht1 : ((t : Int) - 1).toNat = t - 1 := by omega
            by_cases hb : blk s[t - 1] = true
            · have hb' : (cls s[t - 1].toNat == 32) = true := by rw [← blk_cls]; exact hb
              have hbk' : Hid ((s.data.toList.drop k).reverse.dropWhile blk = (mid s.data.toList k (t - 1)).reverse.dropWhile blk) := by show _ = _; rw [hbk.out, back_step hk2 ht hb]
              clear hb hbk
              go_wp2_with (go_at_call 58; refine (refclass_any _ _ hbd.1 hbd.2).mono ?_; rintro e w' ⟨rfl, rfl⟩)
              go_round
              case rel => exact ⟨t - 1, by omega, by omega, by go_num, hbk'⟩
              case measure => simp [intOf]; omega
            · have hb' : (cls s[t - 1].toNat == 32) = false := by rw [← blk_cls]; simpa using hb
              have hE : Hid (s.extract k t = ⟨(trimL s.data.toList).toArray⟩) := trim_end hF.out (by rw [hbk.out, back_stop hk2 ht (by simpa using hb)])
              clear hb hbk
              go_wp2_with (go_at_call 58; refine (refclass_any _ _ hbd.1 hbd.2).mono ?_; rintro e w' ⟨rfl, rfl⟩)
              go_ret
              exact ⟨by rw [← hE.out]; rfl, rfl⟩
          · have hE : Hid (s.extract k t = ⟨(trimL s.data.toList).toArray⟩) := trim_end hF.out (by rw [hbk.out, show t = k by omega, mid_self]; rfl)
            clear hbk
            go_wp2
            go_ret
            exact ⟨by rw [← hE.out]; rfl, rfl⟩
      · have hks : k = s.size := by omega
        have hE : Hid (s.extract k s.size = ⟨(trimL s.data.toList).toArray⟩) := trim_end hF.out (by rw [drop_all s k (by omega), hks, mid_self]; rfl)
        have HK : Hid (k = s.size) := hks
        clear hgo hks
        go_wp2
        go_loop [4] (fun i => i = .int .i64 s.size) (fun _ => 0)
        case atStart => exact rfl
        case round =>
          subst hrel
          go_wp2
          go_ret
          exact ⟨by rw [← hE.out]; rfl, rfl⟩

def sameB (a b : List UInt8) : Bool := lowL a == lowL b

set_option maxHeartbeats 400000 in
theorem refsame_any (a b : ByteArray) (w : World) (ha : a.size ≤ 140737488355328) (hb : b.size ≤ 140737488355328) :
    Calls Tryz.prog 100 #[.string a, .string b] w fun e w' => e = .returned (.bool (sameB a.data.toList b.data.toList)) ∧ Below w.heap.size w w' := by
  go_enter Tryz.func100, Tryz.ntmps100
  go_wp2_with fail
  refine (reflower_txt _ _ ha).mono ?_
  rintro e w1 ⟨rfl, h1⟩
  go_wp2_with fail
  refine (reflower_txt _ _ hb).mono ?_
  rintro e w2 ⟨rfl, h2⟩
  go_wp2
  go_ret
  exact ⟨ret_bool (by rw [sameB]), h1.trans (h2.mono h1.size)⟩

end Go.Proofs.YtgboekilhldejaaGreatDoor

/-
  The contract of Quote.
-/
namespace Go.Proofs.YtgboekilhldejaaGreatDoor
open Go.RowKit Sc
set_option linter.unusedVariables false
set_option maxRecDepth 20000

/-- The bytes of a quoted text, between its marks. -/
def quo : List UInt8 → List UInt8
  | [] => []
  | b :: r => (if bareB b.toNat then [b] else [92, b]) ++ quo r
def hasBar (l : List UInt8) : Bool := l.any fun b => barB b.toNat
def quoteV (l : List UInt8) : List UInt8 × Int := if hasBar l then ([], 11) else (34 :: quo l ++ [34], 0)

theorem quo_append (a b : List UInt8) : quo (a ++ b) = quo a ++ quo b := by
  induction a with
  | nil => rfl
  | cons x r ih => simp only [List.cons_append, quo, ih, List.append_assoc]
theorem quo_len (l : List UInt8) : (quo l).length ≤ 2 * l.length := by
  induction l with
  | nil => simp [quo]
  | cons x r ih => simp only [quo, List.length_append, List.length_cons]; split <;> simp <;> omega
theorem quo_snoc1 (l : List UInt8) (b : UInt8) (h : bareB b.toNat = true) : quo (l ++ [b]) = quo l ++ [b] := by simp [quo_append, quo, h]
theorem quo_snoc2 (l : List UInt8) (b : UInt8) (h : bareB b.toNat = false) : quo (l ++ [b]) = quo l ++ [92] ++ [b] := by simp [quo_append, quo, h]
theorem hasBar_hit {s : ByteArray} {k : Nat} (h : k < s.size) (hb : barB s[k].toNat = true) : hasBar s.data.toList = true := by
  rw [hasBar, List.any_eq_true]
  exact ⟨s[k], List.mem_of_getElem? (getL s k h), hb⟩
theorem hasBar_snoc (l : List UInt8) (b : UInt8) : hasBar (l ++ [b]) = (hasBar l || barB b.toNat) := by simp [hasBar]

theorem ret_str {p : List UInt8 × Int} (a : List UInt8) (b : Int) (h : p = (a, b)) : Ending.returned (.tuple #[.string ⟨a.toArray⟩, .int .i64 b]) = .returned (.tuple #[.string ⟨p.1.toArray⟩, .int .i64 p.2]) := by rw [h]

theorem quo_cells1 (l : List UInt8) (b : UInt8) (h : bareB b.toNat = true) : Lib.byteCells (34 :: quo l) ++ Lib.byteCells [b] = Lib.byteCells (34 :: quo (l ++ [b])) := by
  rw [quo_snoc1 l b h, ← Lib.byteCells_append]; rfl
theorem quo_cells2 (l : List UInt8) (b : UInt8) (h : bareB b.toNat = false) : Lib.byteCells (34 :: quo l) ++ Lib.byteCells [92] ++ Lib.byteCells [b] = Lib.byteCells (34 :: quo (l ++ [b])) := by
  rw [quo_snoc2 l b h, ← Lib.byteCells_append, ← Lib.byteCells_append]; rfl
theorem quo_cells_len (l : List UInt8) : (Lib.byteCells (34 :: quo l)).length ≤ 2 * l.length + 1 := by
  rw [Lib.byteCells_length]; have := quo_len l; simp; omega

set_option maxHeartbeats 1000000 in
theorem quote_any (s : ByteArray) (w : World) (hs : 2 * s.size + 2 ≤ 140737488355328) :
    Calls Tryz.prog 65 #[.string s] w fun e w' => e = .returned (.tuple #[.string ⟨(quoteV s.data.toList).1.toArray⟩, .int .i64 (quoteV s.data.toList).2]) ∧ Below w.heap.size w w' := by
  obtain ⟨i0, hi, hz0, hz1, hz2⟩ := info_parts info5
  go_enter Tryz.func65, Tryz.ntmps65
  go_wp2_with (first
    | (at_make; refine wp_make _ rfl _ _ 92 rfl w.heap.size 5 i0 (.int .u8 0) Tryz.underlying92 hi hz0 hz1 .i64 .i64 _ (s.size + 2) rfl rfl (by omega) (by rw [hz2]; omega) (by unfold maxLen; omega) w (Below.refl _ _) (Nat.le_refl _) ?_; intro v0 w1 hown1 hb1 hB1)
    | (at_builtin; refine wp_app _ rfl (.tmp 10) (.tmp 11) 92 rfl w.heap.size 5 i0 (.int .u8 0) 1 Tryz.underlying92 hi hz0 hz1 hz2 rfl _ (Lib.byteCells []) rfl (hown1.alloc _) ⟨w1.heap.size, 0, none⟩ 1 1 (Lib.byteCells [34]) rfl rfl (by exact one_new _ _ _) (byteCells_one _) (by unfold maxLen; simp [Lib.byteCells]) (by simp [Lib.byteCells]) w (hb1.alloc hB1 _) (by simp; omega) ?_; intro v2 w2 hown2 hb2 hB2))
  clear hown1 hb1 hB1
  go_loopw [4, 15] (fun v i wr => ∃ k : Nat, k ≤ s.size ∧ i = .int .i64 k ∧ Own wr w.heap.size 5 v (Lib.byteCells (34 :: quo (s.data.toList.take k))) ∧ Below w.heap.size w wr ∧ w.heap.size ≤ wr.heap.size ∧ Hid (hasBar (s.data.toList.take k) = false)) (fun _ i _ => s.size - (intOf i).toNat)
  case atStart => exact ⟨0, Nat.zero_le _, rfl, hown2, hb2, hB2, rfl⟩
  case round =>
    obtain ⟨k, hk, rfl, hown, hb, hB, hbar⟩ := hrel
    have hlen := quo_cells_len (s.data.toList.take k)
    have hlk : (s.data.toList.take k).length ≤ k := List.length_take_le _ _
    by_cases hlt : k < s.size
    · by_cases hbb : barB s[k].toNat = true
      · have hq : Hid (quoteV s.data.toList = ([], 11)) := by show _ = _; rw [quoteV, if_pos (hasBar_hit hlt hbb)]
        clear hlen hlk
        go_wp2_with (go_at_call 96; refine (barred_any _ _).mono ?_; rintro e w' ⟨rfl, rfl⟩)
        go_ret2
        exact ⟨ret_str [] 11 hq.out, hb⟩
      · have hbb' : barB s[k].toNat = false := by simpa using hbb
        clear hbb
        have hbar' : Hid (hasBar (s.data.toList.take (k + 1)) = false) := by show _ = _; rw [take_snoc s k hlt, hasBar_snoc, hbar.out, hbb']; rfl
        by_cases hba : bareB s[k].toNat = true
        · have hcs := quo_cells1 (s.data.toList.take k) s[k] hba
          rw [← take_snoc s k hlt] at hcs
          have HC : Hid _ := hcs; clear hcs
          go_wp2_with (first
            | (go_at_call 96; refine (barred_any _ _).mono ?_; rintro e w' ⟨rfl, rfl⟩)
            | (go_at_call 97; refine (bare_any _ _).mono ?_; rintro e w' ⟨rfl, rfl⟩)
            | (at_builtin; refine wp_app _ rfl (.tmp 30) (.tmp 34) 92 rfl w.heap.size 5 i0 (.int .u8 0) 1 Tryz.underlying92 hi hz0 hz1 hz2 rfl _ _ rfl (hown.alloc _) ⟨_, 0, none⟩ 1 1 (Lib.byteCells [s[k]]) rfl rfl (by exact one_new _ _ _) (byteCells_one _) (by unfold maxLen; omega) (by omega) w (hb.alloc hB _) (by simp; omega) ?_; intro v3 w3 hown3 hb3 hB3))
          rw [HC.out] at hown3
          go_roundw
          case rel => exact ⟨k + 1, by omega, by go_num, hown3, hb3, hB3, hbar'⟩
          case measure => simp [intOf]; omega
        · have hba' : bareB s[k].toNat = false := by simpa using hba
          clear hba
          have hcs := quo_cells2 (s.data.toList.take k) s[k] hba'
          rw [← take_snoc s k hlt] at hcs
          have HC : Hid _ := hcs; clear hcs
          go_wp2_with (first
            | (go_at_call 96; refine (barred_any _ _).mono ?_; rintro e w' ⟨rfl, rfl⟩)
            | (go_at_call 97; refine (bare_any _ _).mono ?_; rintro e w' ⟨rfl, rfl⟩)
            | (at_builtin; refine wp_app _ rfl (.tmp 27) (.tmp 28) 92 rfl w.heap.size 5 i0 (.int .u8 0) 1 Tryz.underlying92 hi hz0 hz1 hz2 rfl _ _ rfl (hown.alloc _) ⟨_, 0, none⟩ 1 1 (Lib.byteCells [92]) rfl rfl (by exact one_new _ _ _) (byteCells_one _) (by unfold maxLen; omega) (by omega) w (hb.alloc hB _) (by simp; omega) ?_; intro v2 w2 hown2 hb2 hB2)
            | (at_builtin; refine wp_app _ rfl (.tmp 30) (.tmp 34) 92 rfl w.heap.size 5 i0 (.int .u8 0) 1 Tryz.underlying92 hi hz0 hz1 hz2 rfl _ _ rfl (hown2.alloc _) ⟨_, 0, none⟩ 1 1 (Lib.byteCells [s[k]]) rfl rfl (by exact one_new _ _ _) (byteCells_one _) (by unfold maxLen; simp [Lib.byteCells] at hlen ⊢; omega) (by simp [Lib.byteCells] at hlen ⊢; omega) w (hb2.alloc hB2 _) (by simp; omega) ?_; intro v3 w3 hown3 hb3 hB3))
          rw [HC.out] at hown3
          go_roundw
          case rel => exact ⟨k + 1, by omega, by go_num, hown3, hb3, hB3, hbar'⟩
          case measure => simp [intOf]; omega
    · have hta := take_all s k (by omega)
      rw [hta] at hown hbar hlen
      have hq : Hid (quoteV s.data.toList = (34 :: quo s.data.toList ++ [34], 0)) := by show _ = _; rw [quoteV, hbar.out]; rfl
      have hsz := len_data s
      clear hta
      go_wp2_with (at_builtin; refine wp_app _ rfl (.tmp 37) (.tmp 38) 92 rfl w.heap.size 5 i0 (.int .u8 0) 1 Tryz.underlying92 hi hz0 hz1 hz2 rfl _ _ rfl (hown.alloc _) ⟨_, 0, none⟩ 1 1 (Lib.byteCells [34]) rfl rfl (by exact one_new _ _ _) (byteCells_one _) (by unfold maxLen; omega) (by omega) w (hb.alloc hB _) (by simp; omega) ?_; intro v3 w3 hown3 hb3 hB3; rw [← Lib.byteCells_append] at hown3; have hcv := conv_own (P := Tryz.prog) _ Tryz.underlying92 Tryz.underlying5 Tryz.underlying9 hown3)
      go_ret2
      exact ⟨ret_str (34 :: quo s.data.toList ++ [34]) 0 hq.out, hb3⟩

end Go.Proofs.YtgboekilhldejaaGreatDoor

/-
  Contracts of Unquote.
-/
namespace Go.Proofs.YtgboekilhldejaaGreatDoor
open Go.RowKit Sc
set_option linter.unusedVariables false
set_option maxRecDepth 20000

def badB (c : Int) : Bool := barB c || decide (127 < c)
/-- What stands between the marks of a quoted text, without the backslashes. -/
def unq : List UInt8 → Option (List UInt8)
  | [] => some []
  | [b] => if bareB b.toNat then some [b] else none
  | b :: c :: r => if (b.toNat : Int) = 92 then (if badB c.toNat then none else (unq r).map (c :: ·)) else if bareB b.toNat then (unq (c :: r)).map (b :: ·) else none

theorem unq_esc {b c : UInt8} {r : List UInt8} (h : (b.toNat : Int) = 92) : unq (b :: c :: r) = if badB c.toNat then none else (unq r).map (c :: ·) := by
  rw [unq, if_pos h]
theorem unq_plain {b : UInt8} {r : List UInt8} (h : (b.toNat : Int) ≠ 92 ∨ r = []) : unq (b :: r) = if bareB b.toNat then (unq r).map (b :: ·) else none := by
  cases r with
  | nil => simp [unq]
  | cons c r => rw [unq, if_neg (by rcases h with h | h; exact h; cases h)]
theorem map_snoc (acc : List UInt8) (b : UInt8) (x : Option (List UInt8)) : (x.map (b :: ·)).map (acc ++ ·) = x.map ((acc ++ [b]) ++ ·) := by
  cases x <;> simp

def unquoteV (l : List UInt8) : List UInt8 × Int :=
  if l.length < 2 ∨ l[0]?.map (·.toNat) ≠ some 34 ∨ l[l.length - 1]?.map (·.toNat) ≠ some 34 then ([], 11)
  else match unq (mid l 1 (l.length - 1)) with | some r => (r, 0) | none => ([], 11)

theorem unquoteV_some {l r : List UInt8} (h : ¬ (l.length < 2 ∨ l[0]?.map (·.toNat) ≠ some 34 ∨ l[l.length - 1]?.map (·.toNat) ≠ some 34)) (hr : unq (mid l 1 (l.length - 1)) = some r) : unquoteV l = (r, 0) := by
  rw [unquoteV, if_neg h, hr]
theorem unquoteV_none {l : List UInt8} (h : ¬ (l.length < 2 ∨ l[0]?.map (·.toNat) ≠ some 34 ∨ l[l.length - 1]?.map (·.toNat) ≠ some 34)) (hr : unq (mid l 1 (l.length - 1)) = none) : unquoteV l = ([], 11) := by
  rw [unquoteV, if_neg h, hr]
theorem unquoteV_bad {l : List UInt8} (h : l.length < 2 ∨ l[0]?.map (·.toNat) ≠ some 34 ∨ l[l.length - 1]?.map (·.toNat) ≠ some 34) : unquoteV l = ([], 11) := by
  rw [unquoteV, if_pos h]

/-- A loop's state: what is read so far is acc. -/
def UnqAt (l : List UInt8) (acc rest : List UInt8) : Prop := unq l = (unq rest).map (acc ++ ·)
theorem unqAt0 (l : List UInt8) : UnqAt l [] l := by unfold UnqAt; cases unq l <;> simp
theorem unqAt_end {l acc : List UInt8} (h : UnqAt l acc []) : unq l = some acc := by rw [h]; simp [unq]
theorem unqAt_esc {l acc : List UInt8} {b c : UInt8} {r : List UInt8} (h : UnqAt l acc (b :: c :: r)) (hb : (b.toNat : Int) = 92) (hc : badB c.toNat = false) : UnqAt l (acc ++ [c]) r := by
  unfold UnqAt at *
  rw [h, unq_esc hb, hc]; simp only [Bool.false_eq_true, if_false]; exact map_snoc acc c (unq r)
theorem unqAt_bad {l acc : List UInt8} {b c : UInt8} {r : List UInt8} (h : UnqAt l acc (b :: c :: r)) (hb : (b.toNat : Int) = 92) (hc : badB c.toNat = true) : unq l = none := by
  unfold UnqAt at h
  rw [h, unq_esc hb, hc]; rfl
theorem unqAt_bare {l acc : List UInt8} {b : UInt8} {r : List UInt8} (h : UnqAt l acc (b :: r)) (hb : (b.toNat : Int) ≠ 92 ∨ r = []) (hc : bareB b.toNat = true) : UnqAt l (acc ++ [b]) r := by
  unfold UnqAt at *
  rw [h, unq_plain hb, hc]; simp only [if_true]; exact map_snoc acc b (unq r)
theorem unqAt_not {l acc : List UInt8} {b : UInt8} {r : List UInt8} (h : UnqAt l acc (b :: r)) (hb : (b.toNat : Int) ≠ 92 ∨ r = []) (hc : bareB b.toNat = false) : unq l = none := by
  unfold UnqAt at h
  rw [h, unq_plain hb, hc]; rfl
theorem byteCells_snoc (l : List UInt8) (b : UInt8) : Lib.byteCells l ++ Lib.byteCells [b] = Lib.byteCells (l ++ [b]) := by rw [← Lib.byteCells_append]

theorem first_at {s : ByteArray} (h : 0 < s.size) : s.data.toList[0]?.map (·.toNat) = some (s[0]'h).toNat := by
  rw [getL s 0 h]; rfl
theorem last_at {s : ByteArray} (h : s.size - 1 < s.size) : s.data.toList[s.data.toList.length - 1]?.map (·.toNat) = some (s[s.size - 1]'h).toNat := by
  rw [len_data, getL s (s.size - 1) h]; rfl
theorem marks_ok {s : ByteArray} (h2 : 2 ≤ s.size) (hp0 : 0 < s.size) (hp1 : s.size - 1 < s.size) (h0 : ((s[0]'hp0).toNat : Int) = 34) (h1 : ((s[s.size - 1]'hp1).toNat : Int) = 34) :
    ¬ (s.data.toList.length < 2 ∨ s.data.toList[0]?.map (·.toNat) ≠ some 34 ∨ s.data.toList[s.data.toList.length - 1]?.map (·.toNat) ≠ some 34) := by
  rw [first_at hp0, last_at hp1, len_data]
  rintro (h | h | h)
  · omega
  · exact h (by congr 1; omega)
  · exact h (by congr 1; omega)

set_option maxHeartbeats 1000000 in
theorem unquote_short (s : ByteArray) (w : World) (h2 : s.size < 2) :
    Calls Tryz.prog 55 #[.string s] w fun e w' => e = .returned (.tuple #[.string ⟨(unquoteV s.data.toList).1.toArray⟩, .int .i64 (unquoteV s.data.toList).2]) ∧ Below w.heap.size w w' := by
  have hv : Hid (unquoteV s.data.toList = ([], 11)) := unquoteV_bad (Or.inl (by rw [len_data]; exact h2))
  go_enter Tryz.func55, Tryz.ntmps55
  go_wp2
  go_ret2
  exact ⟨ret_str [] 11 hv.out, Below.refl _ _⟩
set_option maxHeartbeats 1000000 in
theorem unquote_first (s : ByteArray) (w : World) (hs : s.size ≤ 140737488355328) (h2 : 2 ≤ s.size) (hp0 : 0 < s.size) (h0 : ((s[0]'hp0).toNat : Int) ≠ 34) :
    Calls Tryz.prog 55 #[.string s] w fun e w' => e = .returned (.tuple #[.string ⟨(unquoteV s.data.toList).1.toArray⟩, .int .i64 (unquoteV s.data.toList).2]) ∧ Below w.heap.size w w' := by
  have hv : Hid (unquoteV s.data.toList = ([], 11)) := unquoteV_bad (Or.inr (Or.inl (by rw [first_at hp0]; intro e; injection e with e; omega)))
  have e0 : (((s[0]'hp0).toNat : Int) != 34) = true := by simp [h0]
  clear h0
  go_enter Tryz.func55, Tryz.ntmps55
  go_wp2
  go_ret2
  exact ⟨ret_str [] 11 hv.out, Below.refl _ _⟩
set_option maxHeartbeats 1000000 in
theorem unquote_last (s : ByteArray) (w : World) (hs : s.size ≤ 140737488355328) (h2 : 2 ≤ s.size) (hp0 : 0 < s.size) (hp1 : s.size - 1 < s.size) (h0 : ((s[0]'hp0).toNat : Int) = 34) (h1 : ((s[s.size - 1]'hp1).toNat : Int) ≠ 34) :
    Calls Tryz.prog 55 #[.string s] w fun e w' => e = .returned (.tuple #[.string ⟨(unquoteV s.data.toList).1.toArray⟩, .int .i64 (unquoteV s.data.toList).2]) ∧ Below w.heap.size w w' := by
  have hv : Hid (unquoteV s.data.toList = ([], 11)) := unquoteV_bad (Or.inr (Or.inr (by rw [last_at hp1]; intro e; injection e with e; omega)))
  have e0 : (((s[0]'hp0).toNat : Int) != 34) = false := by simp [h0]
  have e1 : (((s[s.size - 1]'hp1).toNat : Int) != 34) = true := by simp [h1]
  have ht1 : ((s.size : Int) - 1).toNat = s.size - 1 := by omega
  clear h0 h1
  go_enter Tryz.func55, Tryz.ntmps55
  go_wp2
  go_ret2
  exact ⟨ret_str [] 11 hv.out, Below.refl _ _⟩

theorem badB_split {c : Int} (h : badB c = false) : barB c = false ∧ c ≤ 127 := by
  simp only [badB, Bool.or_eq_false_iff, decide_eq_false_iff_not] at h; exact ⟨h.1, by omega⟩

set_option maxHeartbeats 2000000 in
theorem unquote_marks (s : ByteArray) (w : World) (hs : s.size ≤ 140737488355328) (h2 : 2 ≤ s.size) (hp0 : 0 < s.size) (hp1 : s.size - 1 < s.size) (h0 : ((s[0]'hp0).toNat : Int) = 34) (h1 : ((s[s.size - 1]'hp1).toNat : Int) = 34) :
    Calls Tryz.prog 55 #[.string s] w fun e w' => e = .returned (.tuple #[.string ⟨(unquoteV s.data.toList).1.toArray⟩, .int .i64 (unquoteV s.data.toList).2]) ∧ Below w.heap.size w w' := by
  obtain ⟨i0, hi, hz0, hz1, hz2⟩ := info_parts info5
  have hok : Hid (¬ (s.data.toList.length < 2 ∨ s.data.toList[0]?.map (·.toNat) ≠ some 34 ∨ s.data.toList[s.data.toList.length - 1]?.map (·.toNat) ≠ some 34)) := marks_ok h2 hp0 hp1 h0 h1
  have e0 : (((s[0]'hp0).toNat : Int) != 34) = false := by simp [h0]
  have e1 : (((s[s.size - 1]'hp1).toNat : Int) != 34) = false := by simp [h1]
  have ht1 : ((s.size : Int) - 1).toNat = s.size - 1 := by omega
  have hin : Hid ((s.extract 1 (s.size - 1)).data.toList = mid s.data.toList 1 (s.data.toList.length - 1)) := by
    show _ = _; rw [ext_list, len_data]; simp [mid]
  have hisz : (s.extract 1 (s.size - 1)).size = s.size - 2 := by rw [ByteArray.size_extract]; omega
  have HSZ : Hid ((s.extract 1 (s.size - 1)).size = s.size - 2) := hisz
  clear h0 h1 hisz
  go_enter Tryz.func55, Tryz.ntmps55
  go_wp2_with (at_make; refine wp_make _ rfl _ _ 92 rfl w.heap.size 5 i0 (.int .u8 0) Tryz.underlying92 hi hz0 hz1 .i64 .i64 _ (s.size - 1 - 1) rfl rfl rfl (by rw [hz2]; omega) (by unfold maxLen; omega) w (Below.refl _ _) (Nat.le_refl _) ?_; intro v0 w1 hown1 hb1 hB1)
  generalize s.extract 1 (s.size - 1) = t at hin HSZ ⊢
  have hts : t.size ≤ 140737488355328 := by rw [HSZ.out]; omega
  go_loopw [5, 6] (fun v i wr => ∃ (k : Nat) (acc : List UInt8), k ≤ t.size ∧ i = .int .i64 k ∧ acc.length ≤ k ∧ Own wr w.heap.size 5 v (Lib.byteCells acc) ∧ Below w.heap.size w wr ∧ w.heap.size ≤ wr.heap.size ∧
      Hid (UnqAt (mid s.data.toList 1 (s.data.toList.length - 1)) acc (t.data.toList.drop k))) (fun _ i _ => t.size - (intOf i).toNat)
  case atStart => exact ⟨0, [], Nat.zero_le _, rfl, Nat.le_refl _, hown1, hb1, hB1, show UnqAt _ _ _ by rw [hin.out, List.drop_zero]; exact unqAt0 _⟩
  case round =>
    clear hown1 hb1 hB1 e0 e1 hin HSZ
    obtain ⟨k, acc, hk, rfl, hac, hown, hb, hB, hu⟩ := hrel
    by_cases hlt : k < t.size
    · by_cases hes : (t[k].toNat : Int) = 92 ∧ k + 1 < t.size
      · obtain ⟨h92, hlt1⟩ := hes
        have hu' := hu.out
        rw [drop_cons t k hlt, drop_cons t (k + 1) hlt1] at hu'
        have c1 : ((t[k].toNat : Int) == 92) = true := by simpa using h92
        by_cases hbad : badB t[k + 1].toNat = true
        · have hv : Hid (unquoteV s.data.toList = ([], 11)) := unquoteV_none hok.out (unqAt_bad hu' h92 hbad)
          clear hu hu' h92
          by_cases hbr : barB t[k + 1].toNat = true
          · go_wp2_with (go_at_call 96; refine (barred_any _ _).mono ?_; rintro e w' ⟨rfl, rfl⟩)
            go_ret2
            exact ⟨ret_str [] 11 hv.out, hb⟩
          · have hbr' : barB t[k + 1].toNat = false := by simpa using hbr
            have h127 : 127 < (t[k + 1].toNat : Int) := by rw [badB, hbr'] at hbad; simpa using hbad
            clear hbr hbad
            go_wp2_with (go_at_call 96; refine (barred_any _ _).mono ?_; rintro e w' ⟨rfl, rfl⟩)
            go_ret2
            exact ⟨ret_str [] 11 hv.out, hb⟩
        · have hbad' : badB t[k + 1].toNat = false := by simpa using hbad
          have hn : Hid (UnqAt (mid s.data.toList 1 (s.data.toList.length - 1)) (acc ++ [t[k + 1]]) (t.data.toList.drop (k + 1 + 1))) := unqAt_esc hu' h92 hbad'
          obtain ⟨hbr, h127⟩ := badB_split hbad'
          clear hu hu' h92 hbad hbad'
          go_wp2_with (first
            | (go_at_call 96; refine (barred_any _ _).mono ?_; rintro e w' ⟨rfl, rfl⟩)
            | (at_builtin; refine wp_app _ rfl (.tmp 65) (.tmp 69) 92 rfl w.heap.size 5 i0 (.int .u8 0) 1 Tryz.underlying92 hi hz0 hz1 hz2 rfl _ _ rfl (hown.alloc _) ⟨_, 0, none⟩ 1 1 (Lib.byteCells [t[k + 1]]) rfl rfl (by exact one_new _ _ _) (byteCells_one _) (by rw [Lib.byteCells_length]; unfold maxLen; omega) (by rw [Lib.byteCells_length]; omega) w (hb.alloc hB _) (by simp; omega) ?_; intro v3 w3 hown3 hb3 hB3))
          rw [byteCells_snoc] at hown3
          go_roundw
          case rel => exact ⟨k + 1 + 1, _, by omega, by go_num, by simp; omega, hown3, hb3, hB3, hn⟩
          case measure => simp [intOf]; omega
      · have hu' := hu.out
        rw [drop_cons t k hlt] at hu'
        have hside : (t[k].toNat : Int) ≠ 92 ∨ t.data.toList.drop (k + 1) = [] := by
          by_cases h92 : (t[k].toNat : Int) = 92
          · right; exact drop_all t (k + 1) (by have := fun h => hes ⟨h92, h⟩; omega)
          · left; exact h92
        by_cases hba : bareB t[k].toNat = true
        · have hn : Hid (UnqAt (mid s.data.toList 1 (s.data.toList.length - 1)) (acc ++ [t[k]]) (t.data.toList.drop (k + 1))) := unqAt_bare hu' hside hba
          by_cases h92 : (t[k].toNat : Int) = 92
          · rw [h92] at hba; exact absurd hba (by decide)
          · have c1 : ((t[k].toNat : Int) == 92) = false := by simpa using h92
            clear hu hu' hside hes h92
            go_wp2_with (first
              | (go_at_call 97; refine (bare_any _ _).mono ?_; rintro e w' ⟨rfl, rfl⟩)
              | (at_builtin; refine wp_app _ rfl (.tmp 65) (.tmp 69) 92 rfl w.heap.size 5 i0 (.int .u8 0) 1 Tryz.underlying92 hi hz0 hz1 hz2 rfl _ _ rfl (hown.alloc _) ⟨_, 0, none⟩ 1 1 (Lib.byteCells [t[k]]) rfl rfl (by exact one_new _ _ _) (byteCells_one _) (by rw [Lib.byteCells_length]; unfold maxLen; omega) (by rw [Lib.byteCells_length]; omega) w (hb.alloc hB _) (by simp; omega) ?_; intro v3 w3 hown3 hb3 hB3))
            rw [byteCells_snoc] at hown3
            go_roundw
            case rel => exact ⟨k + 1, _, by omega, by go_num, by simp; omega, hown3, hb3, hB3, hn⟩
            case measure => simp [intOf]; omega
        · have hba' : bareB t[k].toNat = false := by simpa using hba
          have hv : Hid (unquoteV s.data.toList = ([], 11)) := unquoteV_none hok.out (unqAt_not hu' hside hba')
          by_cases h92 : (t[k].toNat : Int) = 92
          · have c1 : ((t[k].toNat : Int) == 92) = true := by simpa using h92
            have c2 : ¬ (k + 1 < t.size) := fun h => hes ⟨h92, h⟩
            clear hu hu' hside hes h92 hba
            go_wp2_with (go_at_call 97; refine (bare_any _ _).mono ?_; rintro e w' ⟨rfl, rfl⟩)
            go_ret2
            exact ⟨ret_str [] 11 hv.out, hb⟩
          · have c1 : ((t[k].toNat : Int) == 92) = false := by simpa using h92
            clear hu hu' hside hes h92 hba
            go_wp2_with (go_at_call 97; refine (bare_any _ _).mono ?_; rintro e w' ⟨rfl, rfl⟩)
            go_ret2
            exact ⟨ret_str [] 11 hv.out, hb⟩
    · have hu' := hu.out
      rw [drop_all t k (by omega)] at hu'
      have hv : Hid (unquoteV s.data.toList = (acc, 0)) := unquoteV_some hok.out (unqAt_end hu')
      have hcv := conv_own (P := Tryz.prog) _ Tryz.underlying92 Tryz.underlying5 Tryz.underlying9 hown
      clear hu hu'
      go_wp2
      go_ret2
      exact ⟨ret_str acc 0 hv.out, hb⟩

theorem unquote_any (s : ByteArray) (w : World) (hs : s.size ≤ 140737488355328) :
    Calls Tryz.prog 55 #[.string s] w fun e w' => e = .returned (.tuple #[.string ⟨(unquoteV s.data.toList).1.toArray⟩, .int .i64 (unquoteV s.data.toList).2]) ∧ Below w.heap.size w w' := by
  by_cases h2 : 2 ≤ s.size
  · have hp0 : 0 < s.size := by omega
    have hp1 : s.size - 1 < s.size := by omega
    by_cases h0 : ((s[0]'hp0).toNat : Int) = 34
    · by_cases h1 : ((s[s.size - 1]'hp1).toNat : Int) = 34
      · exact unquote_marks s w hs h2 hp0 hp1 h0 h1
      · exact unquote_last s w hs h2 hp0 hp1 h0 h1
    · exact unquote_first s w hs h2 hp0 h0
  · exact unquote_short s w (by omega)

end Go.Proofs.YtgboekilhldejaaGreatDoor
