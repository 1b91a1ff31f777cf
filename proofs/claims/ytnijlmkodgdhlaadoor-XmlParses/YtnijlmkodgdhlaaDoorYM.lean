/-
  Base texts, one behind another: RefUne, RefWritten, ParOwn, NdOwn, NdFr.
-/
import Derived.Test.YtnijlmkodgdhlaaDoorYL
import Derived.Test.YtnijlmkodgdhlaaDoorYB
import Derived.Test.YtnijlmkodgdhlaaDoorYF
import Derived.OneCell
import Derived.Laws.OwnMore
import Derived.Deep.AppendLies

/-
  Contracts of the document's own worth and Unescape.
-/
namespace Go.Proofs.YtnijlmkodgdhlaaDoor
open Go.RowKit Sc
set_option linter.unusedVariables false
set_option maxRecDepth 20000

def mtB (j : Nat) (c : Int) : Bool := ((hexd j).toNat : Int) == c || ((lowb (hexd j)).toNat : Int) == c
def wfrom : Nat → Nat → Int → Int
  | 0, _, _ => -1
  | n + 1, k, c => if mtB k c then k else wfrom n (k + 1) c
def worthV (c : Int) : Int := wfrom 16 0 c
theorem wfrom_step {k : Nat} {c : Int} (hk : k < 16) (h : mtB k c = false) : wfrom (16 - k) k c = wfrom (16 - (k + 1)) (k + 1) c := by
  rw [show 16 - k = (16 - (k + 1)) + 1 by omega, wfrom, if_neg (by simp [h])]
theorem wfrom_hit {k : Nat} {c : Int} (hk : k < 16) (h : mtB k c = true) : wfrom (16 - k) k c = k := by
  rw [show 16 - k = (16 - (k + 1)) + 1 by omega, wfrom, if_pos h]
theorem worth_hex {b : UInt8} (h : isB b.toNat 4 = true) : worthV b.toNat = hexv b.toNat := by
  have hh : ∀ n : Fin 256, isB (n.val : Int) 4 = true → worthV (n.val : Int) = hexv (n.val : Int) := by decide +kernel
  exact hh ⟨b.toNat, b.toNat_lt⟩ h
theorem worth_not {b : UInt8} (h : isB b.toNat 4 = false) : worthV b.toNat = -1 := by
  have hh : ∀ n : Fin 256, isB (n.val : Int) 4 = false → worthV (n.val : Int) = -1 := by decide +kernel
  exact hh ⟨b.toNat, b.toNat_lt⟩ h

theorem hexAt (k : Nat) (hk : k < 16) : ((ByteArray.mk #[48, 49, 50, 51, 52, 53, 54, 55, 56, 57, 65, 66, 67, 68, 69, 70])[k]'hk) = hexd k := by
  have hh : ∀ n : Fin 16, ((ByteArray.mk #[48, 49, 50, 51, 52, 53, 54, 55, 56, 57, 65, 66, 67, 68, 69, 70])[n.val]'n.isLt) = hexd n.val := by decide +kernel
  exact hh ⟨k, hk⟩
theorem byte0 (b : UInt8) : ((ByteArray.mk #[b])[0]'(Nat.one_pos)) = b := rfl

end Go.Proofs.YtnijlmkodgdhlaaDoor

/-
  The contract of the document's own written.
-/
namespace Go.Proofs.YtnijlmkodgdhlaaDoor
open Go.RowKit Sc
set_option linter.unusedVariables false
set_option maxRecDepth 20000

theorem ret_wr {p : List UInt8 × Bool} {x : List UInt8} {b : Bool} (h : p = (x, b)) : Ending.returned (.tuple #[.string ⟨x.toArray⟩, .bool b]) = .returned (.tuple #[.string ⟨p.1.toArray⟩, .bool p.2]) := by rw [h]

end Go.Proofs.YtnijlmkodgdhlaaDoor

/-
  Rows of parameters that a call made itself; the contract of the document's own parameters.
-/
namespace Go.Proofs.YtnijlmkodgdhlaaDoor
open Go.RowKit Sc
set_option linter.unusedVariables false
set_option maxRecDepth 20000

def parsCells (ps : List Par) : List Value := ps.flatMap parCells
theorem parsCells_len (ps : List Par) : (parsCells ps).length = ps.length * 3 := by
  induction ps with
  | nil => rfl
  | cons p ps ih => simp [parsCells, parCells] at ih ⊢; omega
theorem parsCells_get (ps : List Par) (k : Nat) (hk : k < ps.length) : (parsCells ps)[k * 3]? = some (.string ⟨ps[k].name.toArray⟩) ∧ (parsCells ps)[k * 3 + 1]? = some (.string ⟨ps[k].value.toArray⟩) ∧ (parsCells ps)[k * 3 + 2]? = some (.bool ps[k].has) := by
  induction ps generalizing k with
  | nil => simp at hk
  | cons p ps ih =>
    have e : parsCells (p :: ps) = parCells p ++ parsCells ps := rfl
    cases k with
    | zero => rw [e]; simp [parCells]
    | succ k =>
      have := ih k (by simpa using hk)
      rw [e, show (k + 1) * 3 = k * 3 + 3 by omega]
      simpa [parCells] using this
/-- The slice v owns the parameters ps, in a block from B on. -/
def OwnP (w : World) (B : Nat) (v : Value) (ps : List Par) : Prop := w.ownsRow B 45 3 v ps.length (parsCells ps)
theorem OwnP.nil (w : World) (B : Nat) : OwnP w B (.slice none 0 0) [] := World.ownsRow_nil _ _ _ _
theorem OwnP.alloc {w : World} {B : Nat} {v : Value} {ps : List Par} (h : OwnP w B v ps) (o : Obj) : OwnP (w.alloc o) B v ps := World.ownsRow.alloc h o
theorem OwnP.below {w w' : World} {B : Nat} {v : Value} {ps : List Par} (h : OwnP w B v ps) (hb : Below w.heap.size w w') : OwnP w' B v ps := by
  obtain ⟨h1, h2⟩ := h
  refine ⟨h1, ?_⟩
  rcases h2 with h2 | ⟨g, cap, cur, hv, hg, hh, r⟩
  · exact Or.inl h2
  · exact Or.inr ⟨g, cap, cur, hv, hg, by rw [hb.block g (Array.getElem?_eq_some_iff.1 hh).1]; exact hh, r⟩
theorem OwnP.parsAt {w : World} {B : Nat} {v : Value} {ps : List Par} (h : OwnP w B v ps) : ParsAt w v ps := by
  have h0 := h
  rcases h.2 with ⟨rfl, hn⟩ | ⟨g, cap, cur, rfl, hb, hg, r⟩
  · exact Or.inl ⟨rfl, List.eq_nil_of_length_eq_zero hn⟩
  · refine Or.inr ⟨⟨g, 0, none⟩, cap, rfl, fun k hk => ⟨(Array.getElem?_eq_some_iff.1 hg).1, ?_⟩⟩
    obtain ⟨c0, c1, c2⟩ := parsCells_get ps k hk
    have a0 := World.ownsRow.cells h0 (g := g) rfl (k * 3) _ c0
    have a1 := World.ownsRow.cells h0 (g := g) rfl (k * 3 + 1) _ c1
    have a2 := World.ownsRow.cells h0 (g := g) rfl (k * 3 + 2) _ c2
    have e : ∀ j, (⟨g, 0, none⟩ : Addr).add j = ⟨g, j, none⟩ := fun j => by unfold Addr.add; split <;> simp_all
    rw [e] at a0 a1 a2
    unfold ParAt
    rw [e]
    exact ⟨a0, a1, a2⟩
theorem infoPar : (Tryd.prog.info? 45).map (fun i => (i.zero, i.size, i.bytes)) = some (some (.agg #[.string .empty, .string .empty, .bool false]), 3, 40) := by kernel_rfl

/-- append of one parameter. -/
theorem wp_appP {P : Program} (w : World) {ops : Array Oper} {rest : List Oper} {o : Oper} {a : Act} {Q : Exit → Act → World → Prop} (hgd : o.guard = none)
    (s x : Operand) (t : TypeId) (ho : o.op = Op.call { callee := Callee.builtin Builtin.append, args := #[s, x], argTypes := #[t, t] }) (B : Nat) (i : TypeInfo)
    (z : Value) (ht : P.underlying t = some (TypeDesc.slice 45)) (hi : P.info? 45 = some i) (hz : i.zero = some z) (hsize : i.size = 3) (hby : i.bytes = 40) (hzs : z.cells.size = 3)
    (v : Value) (ps : List Par) (hs : a.eval s = v) (hown : OwnP w B v ps) (ad : Addr) (c : Nat) (p : Par) (hx : a.eval x = Value.slice (some ad) 1 c)
    (hnews : ∀ (j : Nat) (u : Value), (parCells p)[j]? = some u → w.cell? (ad.add j) = some u)
    (hlen : ps.length ≤ 2000000) (w0 : World) (hb : Below B w0 w) (hB : B ≤ w.heap.size)
    (h : ∀ (v' : Value) (w' : World), OwnP w' B v' (ps ++ [p]) → Below B w0 w' → B ≤ w'.heap.size → wpList P ops Q rest (a.put o.dst v') w') : wpList P ops Q (o :: rest) a w := by
  refine wpList_append_own w hgd s x t ho B 45 i z 3 40 ht hi hz hsize hby hzs (by decide) v ps.length (parsCells ps) hs hown ad 1 c (parCells p) hx rfl hnews (by intro u hu; simp [parCells] at hu; rcases hu with rfl | rfl | rfl <;> rfl) (by unfold maxLen; omega) (by omega) hB ?_
  intro v' w' hown' hgr _
  refine h v' w' ?_ (hb.grown hgr hB (fun k hk => (World.ownsRow.lt hown k hk).1)) (Nat.le_trans hB hgr.size)
  unfold OwnP
  have e : parsCells (ps ++ [p]) = parsCells ps ++ parCells p := by simp [parsCells]
  rw [e, List.length_append]
  exact hown'

end Go.Proofs.YtnijlmkodgdhlaaDoor

/-
  Rows of elements that a call made itself.
-/
namespace Go.Proofs.YtnijlmkodgdhlaaDoor
open Go.RowKit Sc
set_option linter.unusedVariables false
set_option maxRecDepth 20000
set_option linter.unusedSimpArgs false

def ndsCells (cs : List NdC) : List Value := cs.flatMap ndCells
theorem ndCells_len (c : NdC) : (ndCells c).length = 4 := rfl
theorem ndsCells_len (cs : List NdC) : (ndsCells cs).length = cs.length * 4 := by
  induction cs with
  | nil => rfl
  | cons c cs ih =>
    have e : ndsCells (c :: cs) = ndCells c ++ ndsCells cs := rfl
    rw [e, List.length_append, ih, ndCells_len, List.length_cons]; omega
theorem ndsCells_get (cs : List NdC) (k : Nat) (hk : k < cs.length) (j : Nat) (u : Value) (h : (ndCells cs[k])[j]? = some u) : (ndsCells cs)[k * 4 + j]? = some u := by
  induction cs generalizing k with
  | nil => simp at hk
  | cons c cs ih =>
    have e : ndsCells (c :: cs) = ndCells c ++ ndsCells cs := rfl
    cases k with
    | zero =>
      have hj : j < 4 := by have := (List.getElem?_eq_some_iff.1 h).1; simpa [ndCells] using this
      rw [e, List.getElem?_append_left (by rw [ndCells_len]; omega), Nat.zero_mul, Nat.zero_add]
      exact h
    | succ k =>
      have := ih k (by simpa using hk) (by simpa using h)
      rw [e, List.getElem?_append_right (by rw [ndCells_len]; omega), ndCells_len, show (k + 1) * 4 + j - 4 = k * 4 + j by omega]
      exact this
theorem ownP_mono {w : World} {B C : Nat} {v : Value} {ps : List Par} (h : OwnP w B v ps) (hc : C ≤ B) : OwnP w C v ps := by
  obtain ⟨h1, h2⟩ := h
  refine ⟨h1, ?_⟩
  rcases h2 with h2 | ⟨g, cap, cur, hv, hg, r⟩
  · exact Or.inl h2
  · exact Or.inr ⟨g, cap, cur, hv, Nat.le_trans hc hg, r⟩
/-- The slice v owns the elements cs, in a block from B on; their attributes too. -/
def OwnN (w : World) (B : Nat) (v : Value) (cs : List NdC) : Prop := w.ownsRow B 48 4 v cs.length (ndsCells cs) ∧ ∀ c ∈ cs, OwnP w B c.a c.nd.attrs
theorem OwnN.nil (w : World) (B : Nat) : OwnN w B (.slice none 0 0) [] := ⟨World.ownsRow_nil _ _ _ _, fun c hc => by simp at hc⟩
theorem OwnN.below {w w' : World} {B : Nat} {v : Value} {cs : List NdC} (h : OwnN w B v cs) (hb : Below w.heap.size w w') : OwnN w' B v cs := by
  obtain ⟨⟨h1, h2⟩, h3⟩ := h
  refine ⟨⟨h1, ?_⟩, fun c hc => (h3 c hc).below hb⟩
  rcases h2 with h2 | ⟨g, cap, cur, hv, hg, hh, r⟩
  · exact Or.inl h2
  · exact Or.inr ⟨g, cap, cur, hv, hg, by rw [hb.block g (Array.getElem?_eq_some_iff.1 hh).1]; exact hh, r⟩
theorem OwnN.mono {w : World} {B C : Nat} {v : Value} {cs : List NdC} (h : OwnN w B v cs) (hc : C ≤ B) : OwnN w C v cs := by
  obtain ⟨⟨h1, h2⟩, h3⟩ := h
  refine ⟨⟨h1, ?_⟩, fun c hc' => ownP_mono (h3 c hc') hc⟩
  rcases h2 with h2 | ⟨g, cap, cur, hv, hg, r⟩
  · exact Or.inl h2
  · exact Or.inr ⟨g, cap, cur, hv, Nat.le_trans hc hg, r⟩
theorem OwnN.alloc {w : World} {B : Nat} {v : Value} {cs : List NdC} (h : OwnN w B v cs) (o : Obj) : OwnN (w.alloc o) B v cs := h.below ((Below.refl _ w).alloc (Nat.le_refl _) o)
theorem OwnN.form {w : World} {B : Nat} {v : Value} {cs : List NdC} (h : OwnN w B v cs) : ∃ a cap, v = .slice a cs.length cap := by
  rcases h.1.2 with ⟨rfl, hn⟩ | ⟨g, cap, cur, rfl, _⟩
  · exact ⟨none, 0, by rw [hn]⟩
  · exact ⟨_, cap, rfl⟩
theorem OwnN.ndsAt {w : World} {B : Nat} {v : Value} {cs : List NdC} (h : OwnN w B v cs) : NdsAt w v cs := by
  have h0 := h.1
  rcases h.1.2 with ⟨rfl, hn⟩ | ⟨g, cap, cur, rfl, hb, hg, r⟩
  · exact ⟨none, 0, by rw [hn], fun k hk => by omega⟩
  · refine ⟨some ⟨g, 0, none⟩, cap, rfl, fun k hk => ⟨_, rfl, (Array.getElem?_eq_some_iff.1 hg).1, ?_, (h.2 _ (List.getElem_mem hk)).parsAt⟩⟩
    have e : ∀ j, (⟨g, 0, none⟩ : Addr).add j = ⟨g, j, none⟩ := fun j => by unfold Addr.add; split <;> simp_all
    have c : ∀ j u, (ndCells cs[k])[j]? = some u → w.cell? ⟨g, k * 4 + j, none⟩ = some u := fun j u hj => by
      have := World.ownsRow.cells h0 (g := g) rfl (k * 4 + j) _ (ndsCells_get cs k hk j u hj)
      rw [e] at this; exact this
    refine ⟨?_, ?_, ?_, ?_⟩
    · rw [e]; exact c 0 _ rfl
    · rw [e]; exact c 1 _ rfl
    · rw [e]; exact c 2 _ rfl
    · rw [e]; exact c 3 _ rfl
theorem infoNode : (Tryd.prog.info? 48).map (fun i => (i.zero, i.size)) = some (some (.agg #[.int .i64 0, .string .empty, .slice none 0 0, .string .empty]), 4) := by kernel_rfl
theorem rows_neN {w : World} {B1 B2 e1 e2 s1 s2 n1 n2 : Nat} {v1 v2 : Value} {x1 x2 : List Value} (h1 : w.ownsRow B1 e1 s1 v1 n1 x1) (h2 : w.ownsRow B2 e2 s2 v2 n2 x2) (hne : e2 ≠ e1) : v2.ownBlock = none ∨ v2.ownBlock ≠ v1.ownBlock := by
  rcases h2.2 with ⟨rfl, _⟩ | ⟨g2, c2, u2, rfl, _, hg2, _⟩
  · exact Or.inl rfl
  · right
    rcases h1.2 with ⟨rfl, _⟩ | ⟨g1, c1, u1, rfl, _, hg1, _⟩
    · simp [Value.ownBlock]
    · simp only [Value.ownBlock]
      intro e
      injection e with e
      rw [e, hg1] at hg2
      injection hg2 with hg2
      injection hg2 with _ hg2
      exact hne hg2.symm
theorem infoNodeB : (Tryd.prog.info? 48).map (fun i => (i.zero, i.size, i.bytes)) = some (some (.agg #[.int .i64 0, .string .empty, .slice none 0 0, .string .empty]), 4, 64) := by kernel_rfl

/-- append of one element. -/
theorem wp_appN {P : Program} (w : World) {ops : Array Oper} {rest : List Oper} {o : Oper} {a : Act} {Q : Exit → Act → World → Prop} (hgd : o.guard = none)
    (s x : Operand) (t : TypeId) (ho : o.op = Op.call { callee := Callee.builtin Builtin.append, args := #[s, x], argTypes := #[t, t] }) (B : Nat) (i : TypeInfo)
    (z : Value) (ht : P.underlying t = some (TypeDesc.slice 48)) (hi : P.info? 48 = some i) (hz : i.zero = some z) (hsize : i.size = 4) (hby : i.bytes = 64) (hzs : z.cells.size = 4)
    (v : Value) (cs : List NdC) (hs : a.eval s = v) (hown : OwnN w B v cs) (ad : Addr) (k : Nat) (c : NdC) (hc : OwnP w B c.a c.nd.attrs) (hx : a.eval x = Value.slice (some ad) 1 k)
    (hnews : ∀ (j : Nat) (u : Value), (ndCells c)[j]? = some u → w.cell? (ad.add j) = some u)
    (hlen : cs.length ≤ 2000000) (w0 : World) (hb : Below B w0 w) (hB : B ≤ w.heap.size)
    (h : ∀ (v' : Value) (w' : World), OwnN w' B v' (cs ++ [c]) → Below B w0 w' → B ≤ w'.heap.size → wpList P ops Q rest (a.put o.dst v') w') : wpList P ops Q (o :: rest) a w := by
  have one : ∀ (ps : List Par) (B : Nat) (v : Value), OwnP w B v ps → v.oneCell' = true := fun ps B v h => by
    rcases h.2 with ⟨rfl, _⟩ | ⟨g, cap, cur, rfl, _⟩ <;> rfl
  refine wpList_append_own w hgd s x t ho B 48 i z 4 64 ht hi hz hsize hby hzs (by decide) v cs.length (ndsCells cs) hs hown.1 ad 1 k (ndCells c) hx rfl hnews
    (by intro u hu; simp [ndCells] at hu; rcases hu with rfl | rfl | rfl | rfl <;> first | rfl | exact one _ _ _ hc) (by unfold maxLen; omega) (by omega) hB ?_
  intro v' w' hown' hgr _
  have keep : ∀ (ps : List Par) (u : Value), OwnP w B u ps → OwnP w' B u ps := fun ps u hu => World.ownsRow.kept hu hgr (rows_neN hown.1 hu (by decide))
  refine h v' w' ⟨?_, ?_⟩ (hb.grown hgr hB (fun k hk => (World.ownsRow.lt hown.1 k hk).1)) (Nat.le_trans hB hgr.size)
  · have e : ndsCells (cs ++ [c]) = ndsCells cs ++ ndCells c := by simp [ndsCells]
    rw [e, List.length_append]
    exact hown'
  · intro c' hc'
    rcases List.mem_append.1 hc' with hc' | hc'
    · exact keep _ _ (hown.2 c' hc')
    · simp at hc'; subst hc'
      exact keep _ _ hc
def setText (c : NdC) (t : List UInt8) : NdC := ⟨{ c.nd with text := t }, c.a⟩
theorem nds_set (t : List UInt8) : ∀ (cs : List NdC) (k : Nat) (hk : k < cs.length), ndsCells (cs.set k (setText cs[k] t)) = (ndsCells cs).set (k * 4 + 3) (.string ⟨t.toArray⟩)
  | [], k, hk => by simp at hk
  | c :: cs, 0, hk => by
    have e : ∀ (c : NdC) (cs : List NdC), ndsCells (c :: cs) = ndCells c ++ ndsCells cs := fun _ _ => rfl
    rw [List.set_cons_zero, e, e]
    simp [ndCells, setText]
  | c :: cs, k + 1, hk => by
    have e : ∀ (c : NdC) (cs : List NdC), ndsCells (c :: cs) = ndCells c ++ ndsCells cs := fun _ _ => rfl
    have ih := nds_set t cs k (by simpa using hk)
    rw [List.set_cons_succ, e, e]
    have e2 : (c :: cs)[k + 1] = cs[k]'(by simpa using hk) := rfl
    rw [e2, ih, List.set_append_right _ _ (by rw [ndCells_len]; omega), ndCells_len]
    congr 2
    omega
theorem OwnN.text {w : World} {B g cap : Nat} {cs : List NdC} (h : OwnN w B (.slice (some ⟨g, 0, none⟩) cs.length cap) cs) (k : Nat) (hk : k < cs.length) (t : List UInt8) :
    OwnN (w.setCell ⟨g, k * 4 + 3, none⟩ (.string ⟨t.toArray⟩)) B (.slice (some ⟨g, 0, none⟩) cs.length cap) (cs.set k (setText cs[k] t)) := by
  have keep : ∀ (ps : List Par) (u : Value), OwnP w B u ps → OwnP (w.setCell ⟨g, k * 4 + 3, none⟩ (.string ⟨t.toArray⟩)) B u ps := fun ps u hu => by
    refine ownsRow_setCell_other hu ?_ _
    rcases rows_neN h.1 hu (by decide) with h1 | h1
    · rw [h1]; simp
    · simpa [Value.ownBlock] using h1
  refine ⟨?_, fun c hc => ?_⟩
  · rw [nds_set t cs k hk, List.length_set]
    exact (World.ownsRow.stored h.1 _ _).1
  · rcases List.mem_or_eq_of_mem_set hc with hc | hc
    · exact keep _ _ (h.2 c hc)
    · subst hc
      exact keep _ _ (h.2 cs[k] (List.getElem_mem hk))
end Go.Proofs.YtnijlmkodgdhlaaDoor

/-
  What a call leaves as it was that appends to a row handed in: every block but the row's own; the row's new block is the old one or a new one.
-/
namespace Go.Proofs.YtnijlmkodgdhlaaDoor
open Go.RowKit Sc
set_option linter.unusedVariables false
set_option maxRecDepth 20000
set_option linter.unusedSimpArgs false

structure FrN (v : Value) (w : World) (v' : Value) (w' : World) : Prop where
  os : w'.os = w.os
  tape : w'.tape = w.tape
  output : w'.output = w.output
  size : w.heap.size ≤ w'.heap.size
  block : ∀ b, b < w.heap.size → v.ownBlock ≠ some b → w'.heap[b]? = w.heap[b]?
  own : ∀ g, v'.ownBlock = some g → v.ownBlock = some g ∨ w.heap.size ≤ g
theorem FrN.refl (v : Value) (w : World) : FrN v w v w := ⟨rfl, rfl, rfl, Nat.le_refl _, fun _ _ _ => rfl, fun g h => .inl h⟩
theorem FrN.trans {v v1 v2 : Value} {w w1 w2 : World} (h : FrN v w v1 w1) (k : FrN v1 w1 v2 w2) : FrN v w v2 w2 := by
  refine ⟨k.os.trans h.os, k.tape.trans h.tape, k.output.trans h.output, Nat.le_trans h.size k.size, fun b hb hn => ?_, fun g hg => ?_⟩
  · have hn2 : v1.ownBlock ≠ some b := fun e => by
      rcases h.own b e with e | e
      · exact hn e
      · omega
    rw [k.block b (Nat.lt_of_lt_of_le hb h.size) hn2, h.block b hb hn]
  · rcases k.own g hg with e | e
    · exact h.own g e
    · exact .inr (Nat.le_trans h.size e)
theorem FrN.below {v : Value} {w w' : World} (h : Below w.heap.size w w') : FrN v w v w' := ⟨h.os, h.tape, h.output, h.size, fun b hb _ => h.block b hb, fun g hg => .inl hg⟩
theorem FrN.none {v v' : Value} {w w' : World} (h : FrN v w v' w') : FrN v w (.slice none 0 0) w' := ⟨h.os, h.tape, h.output, h.size, h.block, fun g hg => by cases hg⟩
theorem FrN.to {v v' : Value} {w w' : World} (h : FrN v w v' w') {B : Nat} (hB : B ≤ w.heap.size) (hv : ∀ g, v.ownBlock = some g → B ≤ g) : Below B w w' :=
  ⟨h.os, h.tape, h.output, h.size, fun b hb => h.block b (Nat.lt_of_lt_of_le hb hB) (fun e => by have := hv b e; omega)⟩
theorem FrN.row {v v' : Value} {w w' : World} (h : FrN v w v' w') {b : Nat} {e : TypeId} {l : List Value} (hr : RowIs w b e l) (hb : b < w.heap.size) (hn : v.ownBlock ≠ some b) : RowIs w' b e l := by
  unfold RowIs at hr ⊢
  rw [h.block b hb hn]; exact hr
theorem FrN.pars {v v' : Value} {w w' : World} (h : FrN v w v' w') {B C : Nat} {cs : List NdC} (hv : OwnN w C v cs) {u : Value} {ps : List Par} (hu : OwnP w B u ps) : OwnP w' B u ps := by
  obtain ⟨h1, h2⟩ := hu
  refine ⟨h1, ?_⟩
  rcases h2 with h2 | ⟨g, cap, cur, rfl, hg, hh, r⟩
  · exact Or.inl h2
  · refine Or.inr ⟨g, cap, cur, rfl, hg, ?_, r⟩
    rw [h.block g (Array.getElem?_eq_some_iff.1 hh).1]
    · exact hh
    · intro e
      rcases rows_neN hv.1 (show w.ownsRow B 45 3 (.slice (some ⟨g, 0, Option.none⟩) ps.length cap) ps.length (parsCells ps) from ⟨h1, .inr ⟨g, cap, cur, rfl, hg, hh, r⟩⟩) (by decide) with q | q
      · cases q
      · exact q (by rw [e]; rfl)
theorem grown_fr {v v' : Value} {w w' : World} (h : w.grownBy w' v.ownBlock) (ho : v'.ownBlock = v.ownBlock ∨ v'.ownBlock = some w.heap.size) : FrN v w v' w' :=
  ⟨h.os, h.tape, h.output, h.size, fun b hb hn => h.block b hb (fun e => hn e.symm), fun g hg => by
    rcases ho with ho | ho
    · exact .inl (by rw [← ho]; exact hg)
    · rw [ho] at hg; injection hg with hg; exact .inr (by omega)⟩

/-- append of one element, and what it leaves as it was. -/
theorem wp_appN2 {P : Program} (w : World) {ops : Array Oper} {rest : List Oper} {o : Oper} {a : Act} {Q : Exit → Act → World → Prop} (hgd : o.guard = none)
    (s x : Operand) (t : TypeId) (ho : o.op = Op.call { callee := Callee.builtin Builtin.append, args := #[s, x], argTypes := #[t, t] }) (B : Nat) (i : TypeInfo)
    (z : Value) (ht : P.underlying t = some (TypeDesc.slice 48)) (hi : P.info? 48 = some i) (hz : i.zero = some z) (hsize : i.size = 4) (hby : i.bytes = 64) (hzs : z.cells.size = 4)
    (v : Value) (cs : List NdC) (hs : a.eval s = v) (hown : OwnN w B v cs) (ad : Addr) (k : Nat) (c : NdC) (hc : OwnP w B c.a c.nd.attrs) (hx : a.eval x = Value.slice (some ad) 1 k)
    (hnews : ∀ (j : Nat) (u : Value), (ndCells c)[j]? = some u → w.cell? (ad.add j) = some u)
    (hlen : cs.length ≤ 2000000) (hB : B ≤ w.heap.size)
    (h : ∀ (v' : Value) (w' : World), OwnN w' B v' (cs ++ [c]) → FrN v w v' w' → wpList P ops Q rest (a.put o.dst v') w') : wpList P ops Q (o :: rest) a w := by
  have one : ∀ (ps : List Par) (B : Nat) (v : Value), OwnP w B v ps → v.oneCell' = true := fun ps B v h => by
    rcases h.2 with ⟨rfl, _⟩ | ⟨g, cap, cur, rfl, _⟩ <;> rfl
  refine wpList_append_own_at w hgd s x t ho B 48 i z 4 64 ht hi hz hsize hby hzs (by decide) v cs.length (ndsCells cs) hs hown.1 ad 1 k (ndCells c) hx rfl hnews
    (by intro u hu; simp [ndCells] at hu; rcases hu with rfl | rfl | rfl | rfl <;> first | rfl | exact one _ _ _ hc) (by unfold maxLen; omega) (by omega) hB ?_
  intro v' w' hown' hgr _ hat
  have keep : ∀ (ps : List Par) (u : Value), OwnP w B u ps → OwnP w' B u ps := fun ps u hu => World.ownsRow.kept hu hgr (rows_neN hown.1 hu (by decide))
  refine h v' w' ⟨?_, ?_⟩ (grown_fr hgr hat)
  · have e : ndsCells (cs ++ [c]) = ndsCells cs ++ ndCells c := by simp [ndsCells]
    rw [e, List.length_append]
    exact hown'
  · intro c' hc'
    rcases List.mem_append.1 hc' with hc' | hc'
    · exact keep _ _ (hown.2 c' hc')
    · simp at hc'; subst hc'
      exact keep _ _ hc
end Go.Proofs.YtnijlmkodgdhlaaDoor
