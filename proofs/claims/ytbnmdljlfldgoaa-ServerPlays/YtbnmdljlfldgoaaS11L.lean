/-
  Acts in boxes; small facts for the walks of layer 11.
-/
import Derived.Test.YtbnmdljlfldgoaaS11Awake
import Derived.Test.YtbnmdljlfldgoaaOpenAc
namespace Go.Proofs.Ytbnmdljlfldgoaa
open Go.RowKit
set_option linter.unusedVariables false
set_option maxRecDepth 20000
set_option linter.unusedSimpArgs false

def objA (t : Ac) : Obj := .cells #[.int .i64 t.kind, .string ⟨t.br.toArray⟩, .string ⟨t.hop.toArray⟩, .string ⟨t.me.toArray⟩, .int .i64 t.id, .int .i64 t.now, .string ⟨t.tx.toArray⟩] 33
structure Ac7 (w : World) (b : Nat) (t : Ac) : Prop where
  c0 : w.cell? ⟨b, 0, none⟩ = some (.int .i64 t.kind)
  c1 : w.cell? ⟨b, 1, none⟩ = some (.string ⟨t.br.toArray⟩)
  c2 : w.cell? ⟨b, 2, none⟩ = some (.string ⟨t.hop.toArray⟩)
  c3 : w.cell? ⟨b, 3, none⟩ = some (.string ⟨t.me.toArray⟩)
  c4 : w.cell? ⟨b, 4, none⟩ = some (.int .i64 t.id)
  c5 : w.cell? ⟨b, 5, none⟩ = some (.int .i64 t.now)
  c6 : w.cell? ⟨b, 6, none⟩ = some (.string ⟨t.tx.toArray⟩)
theorem ac_row (w : World) (t : Ac) : RowIs (w.alloc (objA t)) w.heap.size 33 (acCells t) := by unfold RowIs; rw [heap_alloc_new]; rfl
theorem RowIs.ac {w : World} {b : Nat} {e : TypeId} {t : Ac} (h : RowIs w b e (acCells t)) : Ac7 w b t :=
  ⟨h.cell 0 (by simp [acCells]), h.cell 1 (by simp [acCells]), h.cell 2 (by simp [acCells]), h.cell 3 (by simp [acCells]), h.cell 4 (by simp [acCells]), h.cell 5 (by simp [acCells]), h.cell 6 (by simp [acCells])⟩
theorem FrS.ac {B b : Nat} {w w' : World} {t : Ac} (h : FrS B w w') (hr : RowIs w b 33 (acCells t)) : RowIs w' b 33 (acCells t) := h.row hr (by decide) (by decide) (by decide) (by decide)
theorem start_first {most : Int} (hm : 1 ≤ most) (br hop me : List UInt8) {now : Int} (h0 : 0 ≤ now) (h1 : now ≤ 1099511627456) : startT ⟨most, 0, []⟩ br hop me now = (⟨most, 1, [⟨1, br, hop, me, now + 320, false, [], []⟩]⟩, 1, 0) := by
  rw [start_new (by omega) (by simp [findT]) (by simp; omega)]
  rfl
end Go.Proofs.Ytbnmdljlfldgoaa
