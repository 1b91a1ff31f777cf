/-
  Base texts, one behind another: RefQuo, RefParts.
-/
import Derived.Test.YtjbfdbccidhdfabDoorFE
import Derived.Test.YtjbfdbccidhdfabDoorFC
import Derived.Deep.QuietTactic
import Derived.BigQuiet

/-
  Contracts of the document's own Quote and Unquote.
-/
namespace Go.Proofs.YtjbfdbccidhdfabDoor
open Go.RowKit Sc
set_option linter.unusedVariables false
set_option maxRecDepth 20000

theorem mid_cons (s : ByteArray) (k m : Nat) (hk : k < m) (hm : m ≤ s.size) : mid s.data.toList k m = s[k] :: mid s.data.toList (k + 1) m := by
  rw [mid, drop_cons s k (by omega), show m - k = (m - (k + 1)) + 1 by omega, List.take_succ_cons]; rfl
theorem mid_nil (l : List UInt8) (k m : Nat) (h : m ≤ k) : mid l k m = [] := by rw [mid, show m - k = 0 by omega, List.take_zero]

theorem quo_c1 (l : List UInt8) (b : UInt8) (h : bareB b.toNat = true) : Lib.byteCells (quo l) ++ Lib.byteCells [b] = Lib.byteCells (quo (l ++ [b])) := by
  rw [quo_snoc1 l b h, ← Lib.byteCells_append]
theorem quo_c2 (l : List UInt8) (b : UInt8) (h : bareB b.toNat = false) : Lib.byteCells (quo l) ++ Lib.byteCells [92] ++ Lib.byteCells [b] = Lib.byteCells (quo (l ++ [b])) := by
  rw [quo_snoc2 l b h, ← Lib.byteCells_append, ← Lib.byteCells_append]

end Go.Proofs.YtjbfdbccidhdfabDoor

/-
  The contracts of the document's own Texts and Parts.
-/
namespace Go.Proofs.YtjbfdbccidhdfabDoor
open Go.RowKit Sc
set_option linter.unusedVariables false
set_option maxRecDepth 20000

theorem own_ne {w : World} {B1 B2 e1 e2 : Nat} {v1 v2 : Value} {x1 x2 : List Value} (h1 : Own w B1 e1 v1 x1) (h2 : Own w B2 e2 v2 x2) (hne : e2 ≠ e1) : v2.ownBlock = none ∨ v2.ownBlock ≠ v1.ownBlock := by
  rcases h2.2 with ⟨rfl, _⟩ | ⟨g2, c2, u2, rfl, _, hg2, _⟩
  · exact Or.inl rfl
  · right
    rcases h1.2 with ⟨rfl, _⟩ | ⟨g1, c1, u1, rfl, _, hg1, _⟩
    · simp [Value.ownBlock]
    · simp only [Value.ownBlock]
      intro e
      injection e with e
      rw [e, hg1] at hg2
      injection hg2 with hg2
      injection hg2 with _ hg2
      exact hne hg2.symm

/-- append, where another row of another type is owned, too. -/
theorem wp_app2 {P : Program} (w : World) {ops : Array Oper} {rest : List Oper} {o : Oper} {a : Act} {Q : Exit → Act → World → Prop} (hgd : o.guard = none)
    (s x : Operand) (t : TypeId) (ho : o.op = Op.call { callee := Callee.builtin Builtin.append, args := #[s, x], argTypes := #[t, t] }) (B : Nat) (e : TypeId) (i : TypeInfo)
    (z : Value) (bytes : Nat) (ht : P.underlying t = some (TypeDesc.slice e)) (hi : P.info? e = some i) (hz : i.zero = some z) (hsize : i.size = 1) (hby : i.bytes = bytes) (hzs : z.cells.size = 1)
    (v : Value) (xs : List Value) (hs : a.eval s = v) (hown : Own w B e v xs) {e2 : TypeId} {v2 : Value} {xs2 : List Value} (hown2 : Own w B e2 v2 xs2) (hne : e2 ≠ e)
    (ad : Addr) (m : Nat) (c : Nat) (news : List Value) (hx : a.eval x = Value.slice (some ad) m c) (hl : news.length = m)
    (hnews : ∀ (j : Nat) (u : Value), news[j]? = some u → w.cell? (ad.add j) = some u) (h1 : ∀ u ∈ news, u.oneCell' = true)
    (h63 : xs.length + m ≤ maxLen) (hbytes : (xs.length + m) * bytes ≤ 140737488355328) (w0 : World) (hb : Below B w0 w) (hB : B ≤ w.heap.size)
    (h : ∀ (v' : Value) (w' : World), Own w' B e v' (xs ++ news) → Own w' B e2 v2 xs2 → Below B w0 w' → B ≤ w'.heap.size → wpList P ops Q rest (a.put o.dst v') w') : wpList P ops Q (o :: rest) a w := by
  refine wpList_append_own w hgd s x t ho B e i z 1 bytes ht hi hz hsize hby hzs (by decide) v xs.length xs hs hown ad m c news hx (by simpa using hl) hnews h1 h63 hbytes hB ?_
  intro v' w' hown' hgr _
  refine h v' w' ?_ (World.ownsRow.kept hown2 hgr (own_ne hown hown2 hne)) (hb.grown hgr hB (fun k hk => (World.ownsRow.lt hown k hk).1)) (Nat.le_trans hB hgr.size)
  unfold Own
  rw [List.length_append, hl]
  exact hown'

theorem partsG_c {sep : Int} {p p' : Pl} {fr : Bool} {cur : List UInt8} {b : UInt8} {r : List UInt8} (h : pst p b.toNat = (p', fr)) (hn : ¬ (fr = true ∧ (b.toNat : Int) = sep)) :
    partsG sep p cur (b :: r) = partsG sep p' (cur ++ [b]) r := by
  rw [partsG, h, if_neg hn]
theorem partsG_s {sep : Int} {p p' : Pl} {cur : List UInt8} {b : UInt8} {r : List UInt8} (h : pst p b.toNat = (p', true)) (hn : (b.toNat : Int) = sep) :
    partsG sep p cur (b :: r) = cur :: partsG sep p' [] r := by
  rw [partsG, h, if_pos ⟨rfl, hn⟩]

end Go.Proofs.YtjbfdbccidhdfabDoor
