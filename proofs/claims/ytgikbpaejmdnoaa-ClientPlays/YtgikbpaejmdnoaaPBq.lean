/-
  Both tables of layer 12, side by side: what a call of both keeps.
-/
import Derived.Test.YtgikbpaejmdnoaaSC
import Derived.Test.YtgikbpaejmdnoaaRCq11
namespace Go.Proofs.Ytgikbpaejmdnoaa
open Go.RowKit
set_option linter.unusedVariables false
set_option maxRecDepth 20000
set_option linter.unusedSimpArgs false

/-- The code's table at bt and the document's at br, its row v: both are t. -/
structure Bq (B bt br : Nat) (w : World) (t : Tq) (v : Value) : Prop where
  tab : ∃ U, TabQ B U bt w t
  row : RowIs w br 31 [.int .i64 t.most, .int .i64 t.last, v]
  own : OwnQ w B v t.l
  lo : B ≤ br
section
variable {B bt br : Nat} {w w' : World} {t t' : Tq} {v v' : Value}
theorem Bq.below (h : Bq B bt br w t v) (hb : Below w.heap.size w w') : Bq B bt br w' t v := by
  obtain ⟨U, hT⟩ := h.tab
  exact ⟨⟨U, hT.below hb⟩, h.row.below hb h.row.bl, h.own.below hb, h.lo⟩
theorem Bq.size (h : Bq B bt br w t v) : B ≤ w.heap.size := by
  obtain ⟨U, hT⟩ := h.tab
  exact hT.lo
/-- The document's table is stored. -/
theorem Bq.put {U : Nat} (hT : TabQ B U bt w t) {u0 u1 u2 : Value} (hr : RowIs w br 31 [u0, u1, u2]) (ho : OwnQ w B v t.l) (hlo : B ≤ br) :
    Bq B bt br (((w.setCell ⟨br, 0, none⟩ (.int .i64 t.most)).setCell ⟨br, 1, none⟩ (.int .i64 t.last)).setCell ⟨br, 2, none⟩ v) t v := by
  refine ⟨⟨U, hT.put hr (by decide) (by decide) (by decide) (by decide) ((((Chg.refl (fun k => k = br) w).setCell (p := ⟨br, 0, none⟩) (fun _ => rfl) _).setCell (p := ⟨br, 1, none⟩) (fun _ => rfl) _).setCell (p := ⟨br, 2, none⟩) (fun _ => rfl) _)⟩, sv_store3 hr _ _ _, rows_far3 neCT ho hr _ _ _, hlo⟩
/-- What a call of both leaves. -/
structure FrE (B : Nat) (w w' : World) : Prop where
  below : Below B w w'
  keep : ∀ (k : Nat) (cs : Array Value) (e : TypeId) (x : Nat × Nat), w.heap[k]? = some (Obj.cells cs e x) → e ≠ 94 → e ≠ 98 → e ≠ 99 → e ≠ 61 → e ≠ 31 → w'.heap[k]? = some (Obj.cells cs e x)
theorem FrQ.fre {U : Nat} (h : FrQ B U w w') : FrE B w w' := ⟨h.below, fun k cs e x hh n1 n2 n3 n4 _ => h.keep k cs e x hh n1 n2 n3 n4⟩
theorem FrE.trans {a b c : World} (h : FrE B a b) (k : FrE B b c) : FrE B a c := ⟨h.below.trans k.below, fun i cs e x hh n1 n2 n3 n4 n5 => k.keep i cs e x (h.keep i cs e x hh n1 n2 n3 n4 n5) n1 n2 n3 n4 n5⟩
theorem FrE.put3 {b : Nat} {us : List Value} (hr : RowIs w b 31 us) (hB : B ≤ b) (v0 v1 v2 : Value) : FrE B w (((w.setCell ⟨b, 0, none⟩ v0).setCell ⟨b, 1, none⟩ v1).setCell ⟨b, 2, none⟩ v2) := by
  refine ⟨sv_below3 (Below.refl B w) b hB v0 v1 v2, fun k cs e x hh _ _ _ _ n5 => ?_⟩
  have hne : k ≠ b := fun e' => by
    subst e'
    unfold RowIs at hr
    rw [hr] at hh
    simp at hh
    exact n5 hh.2.1.symm
  rw [set3_block w hne]
  exact hh
theorem FrE.row {b : Nat} {e : TypeId} {l : List Value} (h : FrE B w w') (hr : RowIs w b e l) (n1 : e ≠ 94) (n2 : e ≠ 98) (n3 : e ≠ 99) (n4 : e ≠ 61) (n5 : e ≠ 31) : RowIs w' b e l := by
  unfold RowIs at hr ⊢
  exact h.keep _ _ _ _ hr n1 n2 n3 n4 n5
end
end Go.Proofs.Ytgikbpaejmdnoaa
