/-
  The contracts of strings.Clone and of piece.
-/
import Derived.Test.YtfdcklekjnihjaaDoorTexts
import Derived.Lib.BufferWrite
import Derived.Laws.MakeOwn
import Derived.Laws.CopyOwn
namespace Go.Proofs.YtfdcklekjnihjaaDoor
open Go.RowKit Sc
set_option linter.unusedVariables false
set_option maxRecDepth 20000

/-- copy(b, s) over a whole row of the call's own -/
theorem wp_copy_str {P : Program} {w : World} {ops : Array Oper} {rest : List Oper} {o : Oper} {a : Act} {Q : Exit → Act → World → Prop} (hgd : o.guard = none) (d x : Operand) (dT sT : TypeId)
    (ho : o.op = .call { callee := .builtin .copy, args := #[d, x], argTypes := #[dT, sT] }) (elem : TypeId) (hu : P.underlying dT = some (.slice elem)) (hsz : (P.info? elem).map (·.size) = some 1)
    (g dCap : Nat) (s : ByteArray) (hd : a.eval d = .slice (some ⟨g, 0, none⟩) s.size dCap) (hs : a.eval x = .string s)
    (cur : Array Value) (t : TypeId) (hg : w.heap[g]? = some (.cells cur t (0, 0))) (hfit : cur.size = s.size) (B : Nat) (w0 : World) (hb : Below B w0 w) (hB : B ≤ g)
    (h : ∀ w', Hid (w'.heap[g]? = some (.cells (Lib.byteCells s.data.toList).toArray t (0, 0))) → Below B w0 w' → wpList P ops Q rest (a.put o.dst (goInt s.size)) w') : wpList P ops Q (o :: rest) a w := by
  refine wpList_plain hgd fun K hK => ?_
  have hrun := Lib.run_copy_row_string (P := P) w dT sT o.type elem g 0 s.size dCap s cur t hu hsz hg (Nat.le_refl _) (by omega)
  have hrow : (cur.toList.take 0 ++ Lib.byteCells s.data.toList ++ cur.toList.drop (0 + s.size)).toArray = (Lib.byteCells s.data.toList).toArray := by
    rw [List.drop_of_length_le (by rw [Array.length_toList]; omega)]; simp
  rw [hrow] at hrun
  unfold Oper.wp
  simp [execOp, ho, resolve, invoke, builtin, hd, hs, hrun, Result.andThen]
  exact hK _ _ (h _ (setRow_heap w g cur _ t (0, 0) hg) (below_setRow hb hB _))

/-- a text laid over a whole row of bytes -/
theorem wp_str_of_row {P : Program} {w : World} {ops : Array Oper} {rest : List Oper} {o : Oper} {a : Act} {Q : Exit → Act → World → Prop} (hgd : o.guard = none) (p n : Operand) (pt it : TypeId)
    (ho : o.op = .call { callee := .builtin .unsafeString, args := #[p, n], argTypes := #[pt, it] }) (e : TypeId) (hp : P.underlying pt = some (.pointer e)) (hc : P.cellsOf e = 1)
    (g : Nat) (l : List UInt8) (h0 : l ≠ []) (h63 : l.length ≤ 9223372036854775807) (hpv : a.eval p = .pointer (some ⟨g, 0, none⟩)) (m : Int) (hnv : a.eval n = .int .i64 m) (hm : m = l.length)
    (hg : Hid (w.heap[g]? = some (.cells (Lib.byteCells l).toArray e (0, 0)))) (B : Nat) (w0 : World) (hb : Below B w0 w) (hB : B ≤ g)
    (h : ∀ w', Below B w0 w' → wpList P ops Q rest (a.put o.dst (.string ⟨l.toArray⟩)) w') : wpList P ops Q (o :: rest) a w := by
  subst hm
  refine wpList_plain hgd fun K hK => ?_
  have hg' := hg.out
  have hsh : w.shape? g = some (e, l.length) := by simp [World.shape?, hg', Lib.byteCells_length]
  have hrun := Lib.run_unsafeString_row (P := P) w pt it o.type e hp hc g l.length hsh l h0 (Nat.le_refl _) h63 (fun j x hj => by
    have hj' : j < l.length := (List.getElem?_eq_some_iff.1 hj).1
    by_cases e0 : j = 0
    · subst e0; simp [World.cell?, Addr.add, hg', Lib.byteCells, hj]
    · simp [World.cell?, Addr.add, e0, hg', Lib.byteCells, hj])
  unfold Oper.wp
  simp [execOp, ho, resolve, invoke, builtin, hpv, hnv, hrun, Result.andThen]
  exact hK _ _ (h _ (Lib.below_freeze hb hB _))

theorem ret_back (s : ByteArray) : Ending.returned (.string ⟨s.data.toList.toArray⟩) = .returned (.string s) := by
  have h : (⟨s.data.toList.toArray⟩ : ByteArray) = s := by apply ByteArray.ext; simp
  rw [h]
theorem bytesz5 : (Tryd.prog.info? 5).map (·.size) = some 1 := by kernel_rfl
theorem cells5 : Tryd.prog.cellsOf 5 = 1 := by kernel_rfl

end Go.Proofs.YtfdcklekjnihjaaDoor
