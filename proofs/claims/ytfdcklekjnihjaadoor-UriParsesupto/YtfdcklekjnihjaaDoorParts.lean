/-
  The contracts of pass and of Parts.
-/
import Derived.Test.YtfdcklekjnihjaaDoorClone
namespace Go.Proofs.YtfdcklekjnihjaaDoor
open Go.RowKit Sc
set_option linter.unusedVariables false
set_option maxRecDepth 20000

structure Pl where
  q : Bool
  e : Bool
  a : Bool
/-- What is open behind a byte, and whether the byte stands free. -/
def pst (p : Pl) (c : Int) : Pl × Bool :=
  if p.e then (⟨p.q, false, p.a⟩, false) else if c = 34 then (⟨!p.q, p.e, p.a⟩, false) else if p.q then (⟨p.q, c == 92, p.a⟩, false)
  else if c = 60 then (⟨p.q, p.e, true⟩, false) else if c = 62 then (⟨p.q, p.e, false⟩, false) else (p, !p.a)

def PlaceAt (w : World) (g : Nat) (p : Pl) : Prop :=
  (w.cell? ⟨g, 0, none⟩ = some (.bool p.q) ∧ w.cell? ⟨g, 1, none⟩ = some (.bool p.e) ∧ w.cell? ⟨g, 2, none⟩ = some (.bool p.a)) ∧
  w.frozen? ⟨g, 0, none⟩ = false ∧ w.frozen? ⟨g, 1, none⟩ = false ∧ w.frozen? ⟨g, 2, none⟩ = false

theorem place_below {w w' : World} {g : Nat} {p : Pl} (h : PlaceAt w g p) (hb : Below (g + 1) w w') : PlaceAt w' g p := by
  obtain ⟨⟨h1, h2, h3⟩, h4, h5, h6⟩ := h
  have c := fun o => hb.cell (p := ⟨g, o, none⟩) (Nat.lt_succ_self g)
  have f := fun o => hb.frozen (p := ⟨g, o, none⟩) (Nat.lt_succ_self g)
  exact ⟨⟨(c 0).trans h1, (c 1).trans h2, (c 2).trans h3⟩, (f 0).trans h4, (f 1).trans h5, (f 2).trans h6⟩

theorem place_q {w : World} {g : Nat} {p : Pl} (h : PlaceAt w g p) (b : Bool) : PlaceAt (w.setCell ⟨g, 0, none⟩ (.bool b)) g ⟨b, p.e, p.a⟩ := by
  obtain ⟨⟨h1, h2, h3⟩, h4, h5, h6⟩ := h
  refine ⟨⟨World.cell?_setCell_same _ _ _ h1, ?_, ?_⟩, ?_, ?_, ?_⟩
  · rw [World.cell?_setCell_other _ _ _ _ (by simp)]; exact h2
  · rw [World.cell?_setCell_other _ _ _ _ (by simp)]; exact h3
  all_goals rw [World.frozen?_setCell]; assumption
theorem place_e {w : World} {g : Nat} {p : Pl} (h : PlaceAt w g p) (b : Bool) : PlaceAt (w.setCell ⟨g, 1, none⟩ (.bool b)) g ⟨p.q, b, p.a⟩ := by
  obtain ⟨⟨h1, h2, h3⟩, h4, h5, h6⟩ := h
  refine ⟨⟨?_, World.cell?_setCell_same _ _ _ h2, ?_⟩, ?_, ?_, ?_⟩
  · rw [World.cell?_setCell_other _ _ _ _ (by simp)]; exact h1
  · rw [World.cell?_setCell_other _ _ _ _ (by simp)]; exact h3
  all_goals rw [World.frozen?_setCell]; assumption
theorem place_a {w : World} {g : Nat} {p : Pl} (h : PlaceAt w g p) (b : Bool) : PlaceAt (w.setCell ⟨g, 2, none⟩ (.bool b)) g ⟨p.q, p.e, b⟩ := by
  obtain ⟨⟨h1, h2, h3⟩, h4, h5, h6⟩ := h
  refine ⟨⟨?_, ?_, World.cell?_setCell_same _ _ _ h3⟩, ?_, ?_, ?_⟩
  · rw [World.cell?_setCell_other _ _ _ _ (by simp)]; exact h1
  · rw [World.cell?_setCell_other _ _ _ _ (by simp)]; exact h2
  all_goals rw [World.frozen?_setCell]; assumption

/-- What pass leaves. -/
def Passed (w w' : World) (g : Nat) (p : Pl) (c : Int) : Prop := PlaceAt w' g (pst p c).1 ∧ w.grownBy w' (some g)

theorem grown_refl (w : World) (r : Option Nat) : w.grownBy w r := ⟨rfl, rfl, rfl, Nat.le_refl _, fun _ _ _ => rfl⟩

theorem info9 : (Tryd.prog.info? 9).map (fun i => (i.zero, i.size, i.bytes)) = some (some (.string .empty), 1, 16) := by kernel_rfl

def pl0 : Pl := ⟨false, false, false⟩
/-- The parts of a text, from a place on: cur is what stands since the last cut. -/
def partsG (sep : Int) : Pl → List UInt8 → List UInt8 → List (List UInt8)
  | _, cur, [] => [cur]
  | p, cur, b :: r => if (pst p b.toNat).2 = true ∧ (b.toNat : Int) = sep then cur :: partsG sep (pst p b.toNat).1 [] r else partsG sep (pst p b.toNat).1 (cur ++ [b]) r
def partsV (sep : Int) (l : List UInt8) : List (List UInt8) := partsG sep pl0 [] l

/-- The place behind the first k bytes. -/
def plAt (l : List UInt8) (k : Nat) : Pl := (l.take k).foldl (fun p b => (pst p b.toNat).1) pl0
theorem plAt_succ (s : ByteArray) (k : Nat) (h : k < s.size) : plAt s.data.toList (k + 1) = (pst (plAt s.data.toList k) s[k].toNat).1 := by
  rw [plAt, take_snoc s k h, List.foldl_append]; rfl

def strs (ps : List (List UInt8)) : List Value := ps.map fun p => Value.string ⟨p.toArray⟩
theorem strs_one (ps : List (List UInt8)) : ∀ u ∈ strs ps, u.oneCell' = true := by
  intro u hu
  simp only [strs, List.mem_map] at hu
  obtain ⟨b, _, rfl⟩ := hu
  rfl
theorem strs_length (ps : List (List UInt8)) : (strs ps).length = ps.length := by simp [strs]
theorem strs_append (a b : List (List UInt8)) : strs (a ++ b) = strs a ++ strs b := by simp [strs]

def mid (l : List UInt8) (a b : Nat) : List UInt8 := (l.drop a).take (b - a)
theorem mid_snoc (s : ByteArray) (a k : Nat) (ha : a ≤ k) (hk : k < s.size) : mid s.data.toList a (k + 1) = mid s.data.toList a k ++ [s[k]] := by
  have e : k + 1 - a = (k - a) + 1 := by omega
  have hl : k - a < (s.data.toList.drop a).length := by rw [List.length_drop, len_data]; omega
  rw [mid, mid, e, List.take_succ_eq_append_getElem hl]
  congr 2
  rw [List.getElem_drop]
  simp only [show a + (k - a) = k by omega]
  rfl
theorem mid_self (l : List UInt8) (a : Nat) : mid l a a = [] := by simp [mid]

theorem partsG_cut {sep : Int} {p : Pl} {s : ByteArray} {a k : Nat} (hk : k < s.size) (h1 : (pst p s[k].toNat).2 = true) (h2 : (s[k].toNat : Int) = sep) :
    partsG sep p (mid s.data.toList a k) (s.data.toList.drop k) = mid s.data.toList a k :: partsG sep (pst p s[k].toNat).1 (mid s.data.toList (k + 1) (k + 1)) (s.data.toList.drop (k + 1)) := by
  rw [drop_cons s k hk, partsG, if_pos ⟨h1, h2⟩, mid_self]
theorem partsG_on {sep : Int} {p : Pl} {s : ByteArray} {a k : Nat} (ha : a ≤ k) (hk : k < s.size) (h : ¬ ((pst p s[k].toNat).2 = true ∧ (s[k].toNat : Int) = sep)) :
    partsG sep p (mid s.data.toList a k) (s.data.toList.drop k) = partsG sep (pst p s[k].toNat).1 (mid s.data.toList a (k + 1)) (s.data.toList.drop (k + 1)) := by
  rw [drop_cons s k hk, partsG, if_neg h, mid_snoc s a k ha hk]

theorem Own.kept {w w' : World} {B g : Nat} {e : TypeId} {v : Value} {xs : List Value} (h : Own w B e v xs) (hg : w.grownBy w' (some g)) (hlt : g < B) : Own w' B e v xs := by
  refine World.ownsRow.kept h hg ?_
  cases ho : v.ownBlock with
  | none => exact Or.inl rfl
  | some k => right; intro e; injection e with e; have := (World.ownsRow.lt h k ho).1; omega

end Go.Proofs.YtfdcklekjnihjaaDoor
