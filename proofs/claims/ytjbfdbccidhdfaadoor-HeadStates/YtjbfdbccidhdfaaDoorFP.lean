/-
  Base texts, one behind another: RefEsc, RefUne, RefWritten, ParOwn, RefParams.
-/
import Derived.Test.YtjbfdbccidhdfaaDoorFE
import Derived.Test.YtjbfdbccidhdfaaDoorFB
import Derived.Test.YtjbfdbccidhdfaaDoorFC
import Derived.Test.YtjbfdbccidhdfaaDoorFF

/-
  Contracts of the document's own Escape, worth and Unescape.
-/
namespace Go.Proofs.YtjbfdbccidhdfaaDoor
open Go.RowKit Sc
set_option linter.unusedVariables false
set_option maxRecDepth 20000

theorem hasB_inK (keep : ByteArray) (b : UInt8) : hasB b.toNat keep = inK keep.data.toList b.toNat := by
  rw [hasB, inK]
  congr 1
  funext c
  rw [Bool.eq_iff_iff]; simp
  omega
theorem isB37 : isB 37 16 = false := by decide +kernel

/-- A new block of one cell that holds a digit of sixteen. -/
theorem one_hex (w : World) (e : TypeId) (i : Int) (n : Nat) (hi : i.toNat = n) (h : i.toNat < 16) :
    ∀ (j : Nat) (u : Value), (Lib.byteCells [hexd n])[j]? = some u → (w.alloc (.cells #[.int .u8 ((((ByteArray.mk #[48, 49, 50, 51, 52, 53, 54, 55, 56, 57, 65, 66, 67, 68, 69, 70])[i.toNat]'h).toNat : Nat) : Int)] e)).cell? ((⟨w.heap.size, 0, none⟩ : Addr).add j) = some u := by
  rw [hexi i n hi h]
  exact one_new w e _

theorem one_hexN (w : World) (e : TypeId) (n : Nat) (h : n < 16) :
    ∀ (j : Nat) (u : Value), (Lib.byteCells [hexd n])[j]? = some u → (w.alloc (.cells #[.int .u8 ((((ByteArray.mk #[48, 49, 50, 51, 52, 53, 54, 55, 56, 57, 65, 66, 67, 68, 69, 70])[n]'h).toNat : Nat) : Int)] e)).cell? ((⟨w.heap.size, 0, none⟩ : Addr).add j) = some u := by
  have := hexi (n : Int) n (by omega) (by omega)
  simp only [Int.toNat_natCast] at this
  rw [this]
  exact one_new w e _

end Go.Proofs.YtjbfdbccidhdfaaDoor

/-
  Contracts of the document's own worth and Unescape.
-/
namespace Go.Proofs.YtjbfdbccidhdfaaDoor
open Go.RowKit Sc
set_option linter.unusedVariables false
set_option maxRecDepth 20000

def mtB (j : Nat) (c : Int) : Bool := ((hexd j).toNat : Int) == c || ((lowb (hexd j)).toNat : Int) == c
def wfrom : Nat → Nat → Int → Int
  | 0, _, _ => -1
  | n + 1, k, c => if mtB k c then k else wfrom n (k + 1) c
def worthV (c : Int) : Int := wfrom 16 0 c
theorem wfrom_step {k : Nat} {c : Int} (hk : k < 16) (h : mtB k c = false) : wfrom (16 - k) k c = wfrom (16 - (k + 1)) (k + 1) c := by
  rw [show 16 - k = (16 - (k + 1)) + 1 by omega, wfrom, if_neg (by simp [h])]
theorem wfrom_hit {k : Nat} {c : Int} (hk : k < 16) (h : mtB k c = true) : wfrom (16 - k) k c = k := by
  rw [show 16 - k = (16 - (k + 1)) + 1 by omega, wfrom, if_pos h]
theorem worth_hex {b : UInt8} (h : isB b.toNat 4 = true) : worthV b.toNat = hexv b.toNat := by
  have hh : ∀ n : Fin 256, isB (n.val : Int) 4 = true → worthV (n.val : Int) = hexv (n.val : Int) := by decide +kernel
  exact hh ⟨b.toNat, b.toNat_lt⟩ h
theorem worth_not {b : UInt8} (h : isB b.toNat 4 = false) : worthV b.toNat = -1 := by
  have hh : ∀ n : Fin 256, isB (n.val : Int) 4 = false → worthV (n.val : Int) = -1 := by decide +kernel
  exact hh ⟨b.toNat, b.toNat_lt⟩ h

theorem hexAt (k : Nat) (hk : k < 16) : ((ByteArray.mk #[48, 49, 50, 51, 52, 53, 54, 55, 56, 57, 65, 66, 67, 68, 69, 70])[k]'hk) = hexd k := by
  have hh : ∀ n : Fin 16, ((ByteArray.mk #[48, 49, 50, 51, 52, 53, 54, 55, 56, 57, 65, 66, 67, 68, 69, 70])[n.val]'n.isLt) = hexd n.val := by decide +kernel
  exact hh ⟨k, hk⟩
theorem low1 (k : Nat) (hk : k < 16) (w : World) :
    Calls Tryd.prog 56 #[.string ((ByteArray.mk #[48, 49, 50, 51, 52, 53, 54, 55, 56, 57, 65, 66, 67, 68, 69, 70]).extract k (k + 1))] w fun e w' => e = .returned (.string ⟨#[lowb (hexd k)]⟩) ∧ Below w.heap.size w w' := by
  have hh : ∀ n : Fin 16, (ByteArray.mk #[48, 49, 50, 51, 52, 53, 54, 55, 56, 57, 65, 66, 67, 68, 69, 70]).extract n.val (n.val + 1) = ⟨#[hexd n.val]⟩ := by decide +kernel
  rw [hh ⟨k, hk⟩]
  exact reflower_txt ⟨#[hexd k]⟩ w (by simp [ByteArray.size])

theorem byte0 (b : UInt8) : ((ByteArray.mk #[b])[0]'(Nat.one_pos)) = b := rfl

end Go.Proofs.YtjbfdbccidhdfaaDoor

/-
  The contract of the document's own written.
-/
namespace Go.Proofs.YtjbfdbccidhdfaaDoor
open Go.RowKit Sc
set_option linter.unusedVariables false
set_option maxRecDepth 20000

theorem ret_wr {p : List UInt8 × Bool} {x : List UInt8} {b : Bool} (h : p = (x, b)) : Ending.returned (.tuple #[.string ⟨x.toArray⟩, .bool b]) = .returned (.tuple #[.string ⟨p.1.toArray⟩, .bool p.2]) := by rw [h]

end Go.Proofs.YtjbfdbccidhdfaaDoor

/-
  Rows of parameters that a call made itself; the contract of the document's own parameters.
-/
namespace Go.Proofs.YtjbfdbccidhdfaaDoor
open Go.RowKit Sc
set_option linter.unusedVariables false
set_option maxRecDepth 20000

def parsCells (ps : List Par) : List Value := ps.flatMap parCells
theorem parsCells_len (ps : List Par) : (parsCells ps).length = ps.length * 3 := by
  induction ps with
  | nil => rfl
  | cons p ps ih => simp [parsCells, parCells] at ih ⊢; omega
theorem parsCells_get (ps : List Par) (k : Nat) (hk : k < ps.length) : (parsCells ps)[k * 3]? = some (.string ⟨ps[k].name.toArray⟩) ∧ (parsCells ps)[k * 3 + 1]? = some (.string ⟨ps[k].value.toArray⟩) ∧ (parsCells ps)[k * 3 + 2]? = some (.bool ps[k].has) := by
  induction ps generalizing k with
  | nil => simp at hk
  | cons p ps ih =>
    have e : parsCells (p :: ps) = parCells p ++ parsCells ps := rfl
    cases k with
    | zero => rw [e]; simp [parCells]
    | succ k =>
      have := ih k (by simpa using hk)
      rw [e, show (k + 1) * 3 = k * 3 + 3 by omega]
      simpa [parCells] using this
/-- The slice v owns the parameters ps, in a block from B on. -/
def OwnP (w : World) (B : Nat) (v : Value) (ps : List Par) : Prop := w.ownsRow B 94 3 v ps.length (parsCells ps)
theorem OwnP.nil (w : World) (B : Nat) : OwnP w B (.slice none 0 0) [] := World.ownsRow_nil _ _ _ _
theorem OwnP.alloc {w : World} {B : Nat} {v : Value} {ps : List Par} (h : OwnP w B v ps) (o : Obj) : OwnP (w.alloc o) B v ps := World.ownsRow.alloc h o
theorem OwnP.below {w w' : World} {B : Nat} {v : Value} {ps : List Par} (h : OwnP w B v ps) (hb : Below w.heap.size w w') : OwnP w' B v ps := by
  obtain ⟨h1, h2⟩ := h
  refine ⟨h1, ?_⟩
  rcases h2 with h2 | ⟨g, cap, cur, hv, hg, hh, r⟩
  · exact Or.inl h2
  · exact Or.inr ⟨g, cap, cur, hv, hg, by rw [hb.block g (Array.getElem?_eq_some_iff.1 hh).1]; exact hh, r⟩
theorem OwnP.parsAt {w : World} {B : Nat} {v : Value} {ps : List Par} (h : OwnP w B v ps) : ParsAt w v ps := by
  have h0 := h
  rcases h.2 with ⟨rfl, hn⟩ | ⟨g, cap, cur, rfl, hb, hg, r⟩
  · exact Or.inl ⟨rfl, List.eq_nil_of_length_eq_zero hn⟩
  · refine Or.inr ⟨⟨g, 0, none⟩, cap, rfl, fun k hk => ⟨(Array.getElem?_eq_some_iff.1 hg).1, ?_⟩⟩
    obtain ⟨c0, c1, c2⟩ := parsCells_get ps k hk
    have a0 := World.ownsRow.cells h0 (g := g) rfl (k * 3) _ c0
    have a1 := World.ownsRow.cells h0 (g := g) rfl (k * 3 + 1) _ c1
    have a2 := World.ownsRow.cells h0 (g := g) rfl (k * 3 + 2) _ c2
    have e : ∀ j, (⟨g, 0, none⟩ : Addr).add j = ⟨g, j, none⟩ := fun j => by unfold Addr.add; split <;> simp_all
    rw [e] at a0 a1 a2
    unfold ParAt
    rw [e]
    exact ⟨a0, a1, a2⟩
theorem infoPar : (Tryd.prog.info? 94).map (fun i => (i.zero, i.size, i.bytes)) = some (some (.agg #[.string .empty, .string .empty, .bool false]), 3, 40) := by kernel_rfl

/-- append of one parameter. -/
theorem wp_appP {P : Program} (w : World) {ops : Array Oper} {rest : List Oper} {o : Oper} {a : Act} {Q : Exit → Act → World → Prop} (hgd : o.guard = none)
    (s x : Operand) (t : TypeId) (ho : o.op = Op.call { callee := Callee.builtin Builtin.append, args := #[s, x], argTypes := #[t, t] }) (B : Nat) (i : TypeInfo)
    (z : Value) (ht : P.underlying t = some (TypeDesc.slice 94)) (hi : P.info? 94 = some i) (hz : i.zero = some z) (hsize : i.size = 3) (hby : i.bytes = 40) (hzs : z.cells.size = 3)
    (v : Value) (ps : List Par) (hs : a.eval s = v) (hown : OwnP w B v ps) (ad : Addr) (c : Nat) (p : Par) (hx : a.eval x = Value.slice (some ad) 1 c)
    (hnews : ∀ (j : Nat) (u : Value), (parCells p)[j]? = some u → w.cell? (ad.add j) = some u)
    (hlen : ps.length ≤ 2000000) (w0 : World) (hb : Below B w0 w) (hB : B ≤ w.heap.size)
    (h : ∀ (v' : Value) (w' : World), OwnP w' B v' (ps ++ [p]) → Below B w0 w' → B ≤ w'.heap.size → wpList P ops Q rest (a.put o.dst v') w') : wpList P ops Q (o :: rest) a w := by
  refine wpList_append_own w hgd s x t ho B 94 i z 3 40 ht hi hz hsize hby hzs (by decide) v ps.length (parsCells ps) hs hown ad 1 c (parCells p) hx rfl hnews (by intro u hu; simp [parCells] at hu; rcases hu with rfl | rfl | rfl <;> rfl) (by unfold maxLen; omega) (by omega) hB ?_
  intro v' w' hown' hgr _
  refine h v' w' ?_ (hb.grown hgr hB (fun k hk => (World.ownsRow.lt hown k hk).1)) (Nat.le_trans hB hgr.size)
  unfold OwnP
  have e : parsCells (ps ++ [p]) = parsCells ps ++ parCells p := by simp [parsCells]
  rw [e, List.length_append]
  exact hown'

end Go.Proofs.YtjbfdbccidhdfaaDoor

/-
  The contract of the document's own parameters.
-/
namespace Go.Proofs.YtjbfdbccidhdfaaDoor
open Go.RowKit Sc
set_option linter.unusedVariables false
set_option maxRecDepth 20000

/-- The slice v holds the texts ls. -/
def StrsAt (w : World) (v : Value) (ls : List (List UInt8)) : Prop :=
  ∃ (ao : Option Addr) (cap : Nat), v = .slice ao ls.length cap ∧ ∀ k (hk : k < ls.length), ∃ a, ao = some a ∧ a.block < w.heap.size ∧ w.cell? (a.add k) = some (.string ⟨ls[k].toArray⟩)
theorem StrsAt.below {w w' : World} {v : Value} {ls : List (List UInt8)} (h : StrsAt w v ls) (hb : Below w.heap.size w w') : StrsAt w' v ls := by
  obtain ⟨ao, cap, hv, hc⟩ := h
  refine ⟨ao, cap, hv, fun k hk => ?_⟩
  obtain ⟨a, e, ha, hcell⟩ := hc k hk
  exact ⟨a, e, Nat.lt_of_lt_of_le ha hb.size, cell_below hb (by rw [add_block]; exact ha) hcell⟩
theorem parsOf_snoc (keep : List UInt8) (ls : List (List UInt8)) (l : List UInt8) : parsOf keep (ls ++ [l]) = match parsOf keep ls, parOf keep l with | some ps, some p => some (ps ++ [p]) | _, _ => none := by
  induction ls with
  | nil =>
    rw [List.nil_append, parsOf, parsOf]
    cases parOf keep l <;> rfl
  | cons x ls ih =>
    rw [List.cons_append, parsOf, parsOf, ih]
    cases parOf keep x <;> cases parsOf keep ls <;> cases parOf keep l <;> rfl
theorem parsOf_bad {keep : List UInt8} {ls : List (List UInt8)} {k : Nat} (hk : k < ls.length) (h : parOf keep ls[k] = none) : parsOf keep ls = none := by
  induction ls generalizing k with
  | nil => simp at hk
  | cons x ls ih =>
    rw [parsOf]
    cases k with
    | zero => simp at h; rw [h]
    | succ k =>
      rw [ih (by simpa using hk) (by simpa using h)]
      cases parOf keep x <;> rfl
theorem parsOf_len {keep : List UInt8} {ls : List (List UInt8)} {ps : List Par} (h : parsOf keep ls = some ps) : ps.length = ls.length := by
  induction ls generalizing ps with
  | nil => simp [parsOf] at h; subst h; rfl
  | cons x ls ih =>
    rw [parsOf] at h
    cases hx : parOf keep x with
    | none => rw [hx] at h; simp at h
    | some p =>
      cases hl : parsOf keep ls with
      | none => rw [hx, hl] at h; simp at h
      | some qs => rw [hx, hl] at h; simp at h; subst h; simp [ih hl]
theorem parOf_some {keep l : List UInt8} (h1 : (writtenV keep (cutL 61 l).1).2 = true) (h2 : (writtenV keep (cutL 61 l).2.1).2 = true) : parOf keep l = some ⟨(writtenV keep (cutL 61 l).1).1, (writtenV keep (cutL 61 l).2.1).1, (cutL 61 l).2.2⟩ := by
  rw [parOf, if_pos ⟨h1, h2⟩]
theorem parOf_none {keep l : List UInt8} (h : ¬ ((writtenV keep (cutL 61 l).1).2 = true ∧ (writtenV keep (cutL 61 l).2.1).2 = true)) : parOf keep l = none := by
  rw [parOf, if_neg h]
def ParsRes (keep : List UInt8) (ls : List (List UInt8)) (w w' : World) (v : Value) (b : Bool) : Prop :=
  (∃ ps, parsOf keep ls = some ps ∧ b = true ∧ OwnP w' w.heap.size v ps) ∨ (parsOf keep ls = none ∧ b = false ∧ v = .slice none 0 0)

end Go.Proofs.YtjbfdbccidhdfaaDoor
