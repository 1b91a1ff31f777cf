/-
  Base texts, one behind another: Parts, CutL, RefCut, Row.
-/
import Derived.Test.YtnijlmkodgdhlaaDoorYA
import Derived.Deep.QuietTactic
import Derived.BigQuiet
import Derived.Laws.MakeOwn
import Derived.Lib.BufferWrite

/-
  The contracts of pass and of Parts.
-/
namespace Go.Proofs.YtnijlmkodgdhlaaDoor
open Go.RowKit Sc
set_option linter.unusedVariables false
set_option maxRecDepth 20000

structure Pl where
  q : Bool
  e : Bool
  a : Bool
/-- What is open behind a byte, and whether the byte stands free. -/
def pst (p : Pl) (c : Int) : Pl × Bool :=
  if p.e then (⟨p.q, false, p.a⟩, false) else if c = 34 then (⟨!p.q, p.e, p.a⟩, false) else if p.q then (⟨p.q, c == 92, p.a⟩, false)
  else if c = 60 then (⟨p.q, p.e, true⟩, false) else if c = 62 then (⟨p.q, p.e, false⟩, false) else (p, !p.a)

def PlaceAt (w : World) (g : Nat) (p : Pl) : Prop :=
  (w.cell? ⟨g, 0, none⟩ = some (.bool p.q) ∧ w.cell? ⟨g, 1, none⟩ = some (.bool p.e) ∧ w.cell? ⟨g, 2, none⟩ = some (.bool p.a)) ∧
  w.frozen? ⟨g, 0, none⟩ = false ∧ w.frozen? ⟨g, 1, none⟩ = false ∧ w.frozen? ⟨g, 2, none⟩ = false

theorem place_below {w w' : World} {g : Nat} {p : Pl} (h : PlaceAt w g p) (hb : Below (g + 1) w w') : PlaceAt w' g p := by
  obtain ⟨⟨h1, h2, h3⟩, h4, h5, h6⟩ := h
  have c := fun o => hb.cell (p := ⟨g, o, none⟩) (Nat.lt_succ_self g)
  have f := fun o => hb.frozen (p := ⟨g, o, none⟩) (Nat.lt_succ_self g)
  exact ⟨⟨(c 0).trans h1, (c 1).trans h2, (c 2).trans h3⟩, (f 0).trans h4, (f 1).trans h5, (f 2).trans h6⟩

theorem place_q {w : World} {g : Nat} {p : Pl} (h : PlaceAt w g p) (b : Bool) : PlaceAt (w.setCell ⟨g, 0, none⟩ (.bool b)) g ⟨b, p.e, p.a⟩ := by
  obtain ⟨⟨h1, h2, h3⟩, h4, h5, h6⟩ := h
  refine ⟨⟨World.cell?_setCell_same _ _ _ h1, ?_, ?_⟩, ?_, ?_, ?_⟩
  · rw [World.cell?_setCell_other _ _ _ _ (by simp)]; exact h2
  · rw [World.cell?_setCell_other _ _ _ _ (by simp)]; exact h3
  all_goals rw [World.frozen?_setCell]; assumption
theorem place_e {w : World} {g : Nat} {p : Pl} (h : PlaceAt w g p) (b : Bool) : PlaceAt (w.setCell ⟨g, 1, none⟩ (.bool b)) g ⟨p.q, b, p.a⟩ := by
  obtain ⟨⟨h1, h2, h3⟩, h4, h5, h6⟩ := h
  refine ⟨⟨?_, World.cell?_setCell_same _ _ _ h2, ?_⟩, ?_, ?_, ?_⟩
  · rw [World.cell?_setCell_other _ _ _ _ (by simp)]; exact h1
  · rw [World.cell?_setCell_other _ _ _ _ (by simp)]; exact h3
  all_goals rw [World.frozen?_setCell]; assumption
theorem place_a {w : World} {g : Nat} {p : Pl} (h : PlaceAt w g p) (b : Bool) : PlaceAt (w.setCell ⟨g, 2, none⟩ (.bool b)) g ⟨p.q, p.e, b⟩ := by
  obtain ⟨⟨h1, h2, h3⟩, h4, h5, h6⟩ := h
  refine ⟨⟨?_, ?_, World.cell?_setCell_same _ _ _ h3⟩, ?_, ?_, ?_⟩
  · rw [World.cell?_setCell_other _ _ _ _ (by simp)]; exact h1
  · rw [World.cell?_setCell_other _ _ _ _ (by simp)]; exact h2
  all_goals rw [World.frozen?_setCell]; assumption

/-- What pass leaves. -/
def Passed (w w' : World) (g : Nat) (p : Pl) (c : Int) : Prop := PlaceAt w' g (pst p c).1 ∧ w.grownBy w' (some g)

theorem grown_refl (w : World) (r : Option Nat) : w.grownBy w r := ⟨rfl, rfl, rfl, Nat.le_refl _, fun _ _ _ => rfl⟩

theorem info9 : (Tryd.prog.info? 9).map (fun i => (i.zero, i.size, i.bytes)) = some (some (.string .empty), 1, 16) := by kernel_rfl

def pl0 : Pl := ⟨false, false, false⟩
/-- The parts of a text, from a place on: cur is what stands since the last cut. -/
def partsG (sep : Int) : Pl → List UInt8 → List UInt8 → List (List UInt8)
  | _, cur, [] => [cur]
  | p, cur, b :: r => if (pst p b.toNat).2 = true ∧ (b.toNat : Int) = sep then cur :: partsG sep (pst p b.toNat).1 [] r else partsG sep (pst p b.toNat).1 (cur ++ [b]) r
def partsV (sep : Int) (l : List UInt8) : List (List UInt8) := partsG sep pl0 [] l

/-- The place behind the first k bytes. -/
def plAt (l : List UInt8) (k : Nat) : Pl := (l.take k).foldl (fun p b => (pst p b.toNat).1) pl0
theorem plAt_succ (s : ByteArray) (k : Nat) (h : k < s.size) : plAt s.data.toList (k + 1) = (pst (plAt s.data.toList k) s[k].toNat).1 := by
  rw [plAt, take_snoc s k h, List.foldl_append]; rfl

def strs (ps : List (List UInt8)) : List Value := ps.map fun p => Value.string ⟨p.toArray⟩
theorem strs_one (ps : List (List UInt8)) : ∀ u ∈ strs ps, u.oneCell' = true := by
  intro u hu
  simp only [strs, List.mem_map] at hu
  obtain ⟨b, _, rfl⟩ := hu
  rfl
theorem strs_length (ps : List (List UInt8)) : (strs ps).length = ps.length := by simp [strs]
theorem strs_append (a b : List (List UInt8)) : strs (a ++ b) = strs a ++ strs b := by simp [strs]

def mid (l : List UInt8) (a b : Nat) : List UInt8 := (l.drop a).take (b - a)
theorem mid_snoc (s : ByteArray) (a k : Nat) (ha : a ≤ k) (hk : k < s.size) : mid s.data.toList a (k + 1) = mid s.data.toList a k ++ [s[k]] := by
  have e : k + 1 - a = (k - a) + 1 := by omega
  have hl : k - a < (s.data.toList.drop a).length := by rw [List.length_drop, len_data]; omega
  rw [mid, mid, e, List.take_succ_eq_append_getElem hl]
  congr 2
  rw [List.getElem_drop]
  simp only [show a + (k - a) = k by omega]
  rfl
theorem mid_self (l : List UInt8) (a : Nat) : mid l a a = [] := by simp [mid]

theorem partsG_cut {sep : Int} {p : Pl} {s : ByteArray} {a k : Nat} (hk : k < s.size) (h1 : (pst p s[k].toNat).2 = true) (h2 : (s[k].toNat : Int) = sep) :
    partsG sep p (mid s.data.toList a k) (s.data.toList.drop k) = mid s.data.toList a k :: partsG sep (pst p s[k].toNat).1 (mid s.data.toList (k + 1) (k + 1)) (s.data.toList.drop (k + 1)) := by
  rw [drop_cons s k hk, partsG, if_pos ⟨h1, h2⟩, mid_self]
theorem partsG_on {sep : Int} {p : Pl} {s : ByteArray} {a k : Nat} (ha : a ≤ k) (hk : k < s.size) (h : ¬ ((pst p s[k].toNat).2 = true ∧ (s[k].toNat : Int) = sep)) :
    partsG sep p (mid s.data.toList a k) (s.data.toList.drop k) = partsG sep (pst p s[k].toNat).1 (mid s.data.toList a (k + 1)) (s.data.toList.drop (k + 1)) := by
  rw [drop_cons s k hk, partsG, if_neg h, mid_snoc s a k ha hk]

theorem Own.kept {w w' : World} {B g : Nat} {e : TypeId} {v : Value} {xs : List Value} (h : Own w B e v xs) (hg : w.grownBy w' (some g)) (hlt : g < B) : Own w' B e v xs := by
  refine World.ownsRow.kept h hg ?_
  cases ho : v.ownBlock with
  | none => exact Or.inl rfl
  | some k => right; intro e; injection e with e; have := (World.ownsRow.lt h k ho).1; omega

end Go.Proofs.YtnijlmkodgdhlaaDoor

/-
  Texts cut at a sign, and parted by it. Of no program.
-/
namespace Go.Proofs.YtnijlmkodgdhlaaDoor

/-- What stands ahead of the first sign, behind it, and whether there is one. -/
def cutL (c : UInt8) : List UInt8 → List UInt8 × List UInt8 × Bool
  | [] => ([], [], false)
  | x :: l => if x = c then ([], l, true) else (x :: (cutL c l).1, (cutL c l).2.1, (cutL c l).2.2)
/-- The parts between any two signs. -/
def splitL (c : UInt8) : List UInt8 → List (List UInt8)
  | [] => [[]]
  | x :: l => if x = c then [] :: splitL c l else (x :: (splitL c l).headD []) :: (splitL c l).tail

def hasL (c : UInt8) (l : List UInt8) : Bool := l.contains c

theorem cutL_miss {c : UInt8} {l : List UInt8} (h : c ∉ l) : cutL c l = (l, [], false) := by
  induction l with
  | nil => rfl
  | cons x l ih =>
    simp only [List.mem_cons, not_or] at h
    rw [cutL, if_neg (fun e => h.1 e.symm), ih h.2]
theorem cutL_hit {c : UInt8} {a b : List UInt8} (h : c ∉ a) : cutL c (a ++ c :: b) = (a, b, true) := by
  induction a with
  | nil => simp [cutL]
  | cons x a ih =>
    simp only [List.mem_cons, not_or] at h
    rw [List.cons_append, cutL, if_neg (fun e => h.1 e.symm), ih h.2]
theorem cutL_has (c : UInt8) (l : List UInt8) : (cutL c l).2.2 = hasL c l := by
  unfold hasL
  induction l with
  | nil => rfl
  | cons x l ih =>
    rw [cutL]
    by_cases h : x = c
    · simp [h]
    · rw [if_neg h]; simp [ih]; intro e; exact absurd e.symm h
theorem cutL_join (c : UInt8) (l : List UInt8) : (cutL c l).2.2 = true → l = (cutL c l).1 ++ c :: (cutL c l).2.1 := by
  induction l with
  | nil => intro h; simp [cutL] at h
  | cons x l ih =>
    rw [cutL]
    by_cases h : x = c
    · simp [h]
    · rw [if_neg h]; intro h2; simp only [List.cons_append]; rw [← ih h2]
theorem cutL_not (c : UInt8) (l : List UInt8) : (cutL c l).2.2 = false → cutL c l = (l, [], false) := by
  intro h
  apply cutL_miss
  rw [cutL_has, hasL] at h
  simpa using h
theorem cutL_len (c : UInt8) (l : List UInt8) : (cutL c l).1.length ≤ l.length ∧ (cutL c l).2.1.length ≤ l.length := by
  induction l with
  | nil => simp [cutL]
  | cons x l ih =>
    rw [cutL]
    by_cases h : x = c
    · simp [h]
    · rw [if_neg h]; simp; omega
theorem splitL_cons (c : UInt8) (l : List UInt8) : ∃ p ps, splitL c l = p :: ps := by
  cases l with
  | nil => exact ⟨_, _, rfl⟩
  | cons x l => rw [splitL]; split <;> exact ⟨_, _, rfl⟩
theorem splitL_cut (c : UInt8) (l : List UInt8) : splitL c l = if (cutL c l).2.2 = true then (cutL c l).1 :: splitL c (cutL c l).2.1 else [(cutL c l).1] := by
  induction l with
  | nil => rfl
  | cons x l ih =>
    rw [splitL, cutL]
    by_cases h : x = c
    · simp [h]
    · rw [if_neg h, if_neg h]
      simp only
      rw [ih]
      split <;> simp
theorem splitL_len (c : UInt8) (l : List UInt8) : (splitL c l).length ≤ l.length + 1 := by
  induction l with
  | nil => simp [splitL]
  | cons x l ih =>
    obtain ⟨p, ps, hp⟩ := splitL_cons c l
    rw [splitL]
    split
    · simp; omega
    · rw [hp] at ih ⊢; simp at ih ⊢; omega

end Go.Proofs.YtnijlmkodgdhlaaDoor

/-
  Contracts of the document's own Has, Cut and Split.
-/
namespace Go.Proofs.YtnijlmkodgdhlaaDoor
open Go.RowKit Sc
set_option linter.unusedVariables false
set_option maxRecDepth 20000

theorem u8_eq {a b : UInt8} (h : a = b) : ((a.toNat : Int) == (b.toNat : Int)) = true := by simp [h]
theorem u8_ne {a b : UInt8} (h : ¬ a = b) : ((a.toNat : Int) == (b.toNat : Int)) = false := by
  simp only [beq_eq_false_iff_ne, ne_eq]
  intro e; exact h (UInt8.toNat_inj.1 (by omega))
theorem notMem_snoc {c : UInt8} {s : ByteArray} {k : Nat} (hk : k < s.size) (h : c ∉ s.data.toList.take k) (hc : ¬ s[k] = c) : c ∉ s.data.toList.take (k + 1) := by
  rw [take_snoc s k hk]
  simp only [List.mem_append, List.mem_singleton, not_or]
  exact ⟨h, fun e => hc e.symm⟩
theorem split_at (s : ByteArray) (k : Nat) (hk : k < s.size) : s.data.toList = s.data.toList.take k ++ s[k] :: s.data.toList.drop (k + 1) := by
  rw [← drop_cons s k hk, List.take_append_drop]

set_option maxHeartbeats 400000 in
theorem has3_any (s : ByteArray) (c : UInt8) (w : World) (hs : s.size ≤ maxLen) :
    Calls Tryd.prog 34 #[.string s, .int .u8 c.toNat] w fun e w' => e = .returned (.bool (hasL c s.data.toList)) ∧ w' = w := by
  unfold maxLen at hs
  go_enter Tryd.func34, Tryd.ntmps34
  go_wp2
  go_loop [5] (fun i => ∃ k : Nat, k ≤ s.size ∧ i = .int .i64 k ∧ Hid (c ∉ s.data.toList.take k)) (fun i => s.size - (intOf i).toNat)
  case atStart => exact ⟨0, Nat.zero_le _, rfl, show _ ∉ _ by simp⟩
  case round =>
    obtain ⟨k, hk, rfl, hno⟩ := hrel
    by_cases hlt : k < s.size
    · by_cases hc : s[k] = c
      · have he := u8_eq hc
        have hv : Hid (hasL c s.data.toList = true) := show _ = _ by rw [hasL, split_at s k hlt, hc]; simp
        clear hc hno
        go_wp2
        go_ret
        exact ⟨ret_bool hv.out.symm, rfl⟩
      · have he := u8_ne hc
        have hno2 : Hid (c ∉ s.data.toList.take (k + 1)) := notMem_snoc hlt hno.out hc
        clear hc hno
        go_wp2
        go_round
        case rel => exact ⟨k + 1, by omega, by go_num, hno2⟩
        case measure => simp [intOf]; omega
    · have hv : Hid (hasL c s.data.toList = false) := show _ = _ by
        rw [hasL]
        have := hno.out
        rw [take_all s k (by omega)] at this
        simpa using this
      clear hno
      go_wp2
      go_ret
      exact ⟨ret_bool hv.out.symm, rfl⟩

theorem ret_cut {p : List UInt8 × List UInt8 × Bool} {x y : ByteArray} {b : Bool} (h : p = (x.data.toList, y.data.toList, b)) : Ending.returned (.tuple #[.string x, .string y, .bool b]) = .returned (.tuple #[.string ⟨p.1.toArray⟩, .string ⟨p.2.1.toArray⟩, .bool p.2.2]) := by
  have hx : (⟨x.data.toList.toArray⟩ : ByteArray) = x := by apply ByteArray.ext; simp
  have hy : (⟨y.data.toList.toArray⟩ : ByteArray) = y := by apply ByteArray.ext; simp
  rw [h, hx, hy]

def lenOf : Value → Nat
  | .string s => s.size
  | _ => 0
def boolOf : Value → Nat
  | .bool true => 1
  | _ => 0
theorem size_list (l : List UInt8) : (⟨l.toArray⟩ : ByteArray).size = l.length := by simp [ByteArray.size]
theorem splitL_next {c : UInt8} {l0 r : List UInt8} {ps : List (List UInt8)} (h : splitL c l0 = ps ++ splitL c r) (hb : (cutL c r).2.2 = true) : splitL c l0 = (ps ++ [(cutL c r).1]) ++ splitL c (cutL c r).2.1 := by
  rw [h, splitL_cut c r, if_pos hb]; simp
theorem splitL_last {c : UInt8} {l0 r : List UInt8} {ps : List (List UInt8)} (h : splitL c l0 = ps ++ splitL c r) (hb : (cutL c r).2.2 = false) : splitL c l0 = ps ++ [(cutL c r).1] := by
  rw [h, splitL_cut c r, if_neg (by simp [hb])]
theorem cutL_dec {c : UInt8} {r : List UInt8} (hb : (cutL c r).2.2 = true) : (cutL c r).2.1.length < r.length := by
  have h := cutL_join c r hb
  have := congrArg List.length h
  simp at this; omega

end Go.Proofs.YtnijlmkodgdhlaaDoor

/-
  A row of cells that is known whole, cell by cell. Of no program.
-/
namespace Go.Proofs.YtnijlmkodgdhlaaDoor
open Go.RowKit
set_option linter.unusedVariables false
set_option maxRecDepth 20000

/-- Block g is a row of the cells l. -/
def RowIs (w : World) (g : Nat) (e : TypeId) (l : List Value) : Prop := w.heap[g]? = some (.cells l.toArray e (0, 0))

theorem RowIs.cell {w : World} {g : Nat} {e : TypeId} {l : List Value} (h : RowIs w g e l) (j : Nat) (hj : j < l.length) : w.cell? ⟨g, j, none⟩ = some l[j] := by
  unfold RowIs at h
  simp [World.cell?, h, hj]
theorem RowIs.frozen {w : World} {g : Nat} {e : TypeId} {l : List Value} (h : RowIs w g e l) (j : Nat) : w.frozen? ⟨g, j, none⟩ = false := by
  unfold RowIs at h
  simp [World.frozen?, h]
theorem RowIs.set {w : World} {g : Nat} {e : TypeId} {l : List Value} (h : RowIs w g e l) (j : Nat) (v : Value) : RowIs (w.setCell ⟨g, j, none⟩ v) g e (l.set j v) := by
  have := heap_setCell_same w g j l.toArray e v h
  unfold RowIs
  rw [this]
  simp
theorem RowIs.below {w w' : World} {g : Nat} {e : TypeId} {l : List Value} (h : RowIs w g e l) {B : Nat} (hb : Below B w w') (hg : g < B) : RowIs w' g e l := by
  unfold RowIs
  rw [hb.block g hg]
  exact h
theorem RowIs.own {w : World} {g : Nat} {e : TypeId} {l : List Value} (h : RowIs w g e l) (B n : Nat) (hB : B ≤ g) (hn : l.length = n) (hm : n ≤ maxLen) : Own w B e (.slice (some ⟨g, 0, none⟩) n n) l := by
  subst hn
  refine ⟨by simp, Or.inr ⟨g, l.length, l.toArray, rfl, hB, h, Nat.le_refl _, hm, by simp, by simp⟩⟩

/-- Bytes written from the head on over n noughts. -/
def filled (l : List UInt8) (n : Nat) : List Value := Lib.byteCells l ++ List.replicate (n - l.length) (.int .u8 0)
theorem filled_len (l : List UInt8) (n : Nat) (h : l.length ≤ n) : (filled l n).length = n := by simp [filled, Lib.byteCells]; omega
theorem filled_full (l : List UInt8) (n : Nat) (h : l.length = n) : filled l n = Lib.byteCells l := by simp [filled, h]
theorem filled_set (l : List UInt8) (n : Nat) (b : UInt8) (h : l.length < n) : (filled l n).set l.length (.int .u8 b.toNat) = filled (l ++ [b]) n := by
  have e : n - l.length = (n - (l.length + 1)) + 1 := by omega
  have hl : (Lib.byteCells l).length = l.length := Lib.byteCells_length l
  unfold filled
  rw [List.set_append_right _ _ (by omega), hl, Nat.sub_self, e, List.replicate_succ, List.set_cons_zero, Lib.byteCells_append, List.append_assoc, List.length_append]
  rfl
theorem made_row (w : World) (e : TypeId) (n : Nat) : RowIs (w.alloc (.cells (madeCells #[.int .u8 0] n) e)) w.heap.size e (filled [] n) := by
  unfold RowIs
  rw [heap_alloc_new]
  have : madeCells #[.int .u8 0] n = (filled [] n).toArray := by
    apply Array.ext
    · simp [size_madeCells, filled, Lib.byteCells]
    · intro i h1 h2
      simp [madeCells, filled, Lib.byteCells, Nat.mod_one]
  rw [this]

end Go.Proofs.YtnijlmkodgdhlaaDoor
