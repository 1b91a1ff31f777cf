/-
  Both tables, side by side: what a call of both keeps.
-/
import Derived.Test.YtbnmdljlfldgoaaSEq
import Derived.Test.YtbnmdljlfldgoaaRSv8
namespace Go.Proofs.Ytbnmdljlfldgoaa
open Go.RowKit
set_option linter.unusedVariables false
set_option maxRecDepth 20000
set_option linter.unusedSimpArgs false

/-- The code's table at bt and the document's at br, its row v: both are t. -/
structure Bo (B bt br : Nat) (w : World) (t : Tb) (v : Value) : Prop where
  tab : Tab B bt w t
  row : RowIs w br 31 [.int .i64 t.most, .int .i64 t.last, v]
  own : OwnC w B v t.l
  lo : B ≤ br
section
variable {B bt br : Nat} {w w' : World} {t t' : Tb} {v v' : Value}
theorem Bo.below (h : Bo B bt br w t v) (hb : Below w.heap.size w w') : Bo B bt br w' t v := ⟨h.tab.below hb, h.row.below hb h.row.lt, h.own.below hb, h.lo⟩
theorem Bo.size (h : Bo B bt br w t v) : B ≤ w.heap.size := h.tab.lo
/-- The code's table turned; the document's new row is told beside it. -/
theorem Bo.code (h : Bo B bt br w t v) (hT : Tab B bt w' t') (hf : FrS B w w') : Tab B bt w' t' ∧ RowIs w' br 31 [.int .i64 t.most, .int .i64 t.last, v] := ⟨hT, hf.row h.row (by decide) (by decide) (by decide) (by decide)⟩
/-- The document's table is stored. -/
theorem Bo.put (hT : Tab B bt w t) {u0 u1 u2 : Value} (hr : RowIs w br 31 [u0, u1, u2]) (ho : OwnC w B v t.l) (hlo : B ≤ br) :
    Bo B bt br (((w.setCell ⟨br, 0, none⟩ (.int .i64 t.most)).setCell ⟨br, 1, none⟩ (.int .i64 t.last)).setCell ⟨br, 2, none⟩ v) t v := by
  refine ⟨hT.put hr (by decide) (by decide) (by decide) (by decide) ((((Chg.refl (fun k => k = br) w).setCell (p := ⟨br, 0, none⟩) (fun _ => rfl) _).setCell (p := ⟨br, 1, none⟩) (fun _ => rfl) _).setCell (p := ⟨br, 2, none⟩) (fun _ => rfl) _), sv_store3 hr _ _ _, own_far3 ho hr _ _ _, hlo⟩
/-- What a call of both leaves. -/
structure FrD (B : Nat) (w w' : World) : Prop where
  below : Below B w w'
  keep : ∀ (k : Nat) (cs : Array Value) (e : TypeId) (x : Nat × Nat), w.heap[k]? = some (Obj.cells cs e x) → e ≠ 89 → e ≠ 106 → e ≠ 97 → e ≠ 55 → e ≠ 31 → w'.heap[k]? = some (Obj.cells cs e x)
theorem FrS.frd (h : FrS B w w') : FrD B w w' := ⟨h.below, fun k cs e x hh n1 n2 n3 n4 _ => h.keep k cs e x hh n1 n2 n3 n4⟩
theorem FrD.trans {a b c : World} (h : FrD B a b) (k : FrD B b c) : FrD B a c := ⟨h.below.trans k.below, fun i cs e x hh n1 n2 n3 n4 n5 => k.keep i cs e x (h.keep i cs e x hh n1 n2 n3 n4 n5) n1 n2 n3 n4 n5⟩
theorem FrD.put3 {b : Nat} {us : List Value} (hr : RowIs w b 31 us) (hB : B ≤ b) (v0 v1 v2 : Value) : FrD B w (((w.setCell ⟨b, 0, none⟩ v0).setCell ⟨b, 1, none⟩ v1).setCell ⟨b, 2, none⟩ v2) := by
  refine ⟨sv_below3 (Below.refl B w) b hB v0 v1 v2, fun k cs e x hh _ _ _ _ n5 => ?_⟩
  have hne : k ≠ b := fun e' => by
    subst e'
    unfold RowIs at hr
    rw [hr] at hh
    simp at hh
    exact n5 hh.2.1.symm
  rw [set3_block w hne]
  exact hh
theorem FrD.row {b : Nat} {e : TypeId} {l : List Value} (h : FrD B w w') (hr : RowIs w b e l) (n1 : e ≠ 89) (n2 : e ≠ 106) (n3 : e ≠ 97) (n4 : e ≠ 55) (n5 : e ≠ 31) : RowIs w' b e l := by
  unfold RowIs at hr ⊢
  exact h.keep _ _ _ _ hr n1 n2 n3 n4 n5
end
end Go.Proofs.Ytbnmdljlfldgoaa
