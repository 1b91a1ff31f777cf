/-
  Contracts: the document's own Event, Print, Is and Same of events.
-/
import Derived.Test.YtjbfdbccidhdfabDoorHRef1
import Derived.Test.YtjbfdbccidhdfabDoorFT
import Derived.Test.YtjbfdbccidhdfabDoorFN
import Derived.Test.YtjbfdbccidhdfabDoorFQ
import Derived.Test.YtjbfdbccidhdfabDoorFR
namespace Go.Proofs.YtjbfdbccidhdfabDoor
open Go.RowKit Sc
set_option linter.unusedVariables false
set_option maxRecDepth 20000

theorem OwnP.store2 {w : World} {B : Nat} {v : Value} {ps : List Par} (h : OwnP w B v ps) {b : Nat} (hb : b < B) (v0 v1 : Value) : OwnP ((w.setCell ⟨b, 0, none⟩ v0).setCell ⟨b, 1, none⟩ v1) B v ps :=
  ownsRow_setCell_below (ownsRow_setCell_below h hb _) hb _
structure Two2 (w : World) (b : Nat) (v0 v1 : Value) : Prop where
  c0 : w.cell? ⟨b, 0, none⟩ = some v0
  c1 : w.cell? ⟨b, 1, none⟩ = some v1
  f0 : w.frozen? ⟨b, 0, none⟩ = false
  f1 : w.frozen? ⟨b, 1, none⟩ = false
theorem RowIs.two2 {w : World} {b : Nat} {e : TypeId} {v0 v1 : Value} (h : RowIs w b e [v0, v1]) : Two2 w b v0 v1 := ⟨h.cell 0 (by simp), h.cell 1 (by simp), h.frozen 0, h.frozen 1⟩
theorem row_store2 {w : World} {b : Nat} {e : TypeId} {u0 u1 : Value} (h : RowIs w b e [u0, u1]) (v0 v1 : Value) : RowIs ((w.setCell ⟨b, 0, none⟩ v0).setCell ⟨b, 1, none⟩ v1) b e [v0, v1] := by
  have := (h.set 0 v0).set 1 v1
  simpa using this
theorem store_below2 {B : Nat} {a w : World} (h : Below B a w) (b : Nat) (hb : B ≤ b) (v0 v1 : Value) : Below B a ((w.setCell ⟨b, 0, none⟩ v0).setCell ⟨b, 1, none⟩ v1) := (h.setCell hb _).setCell hb _
theorem row2_at (w : World) (v0 v1 : Value) (t : TypeId) : RowIs (w.alloc (.cells #[v0, v1] t)) w.heap.size t [v0, v1] := by
  unfold RowIs; rw [heap_alloc_new]
theorem hG_mem_len (sep : Int) : ∀ (l : List UInt8) (p : Pl) (cur x : List UInt8), x ∈ partsG sep p cur l → x.length ≤ cur.length + l.length
  | [], p, cur, x, h => by rw [partsG] at h; simp at h; subst h; simp
  | b :: r, p, cur, x, h => by
    rw [partsG] at h
    split at h
    · rcases List.mem_cons.1 h with rfl | h
      · omega
      · have := hG_mem_len sep r _ _ x h; simp at this ⊢; omega
    · have := hG_mem_len sep r _ _ x h; simp at this ⊢; omega
theorem h_mem_len (sep : Int) (l : List UInt8) : ∀ x ∈ partsV sep l, x.length ≤ l.length := fun x h => by have := hG_mem_len sep l pl0 [] x h; simpa using this
/-- What Event hands back. -/
def EvRes (R : Ev × Int) (w w' : World) (e : Ending) : Prop := ∃ q, e = .returned (.tuple #[evV R.1 q, .int .i64 R.2]) ∧ OwnP w' w.heap.size q R.1.params
theorem eres_none {R : Ev × Int} {n : Int} {w w' : World} (h : R = (noE, n)) : EvRes R w w' (.returned (.tuple #[.agg #[.string ⟨#[]⟩, .slice none 0 0], .int .i64 n])) := by
  subst h
  exact ⟨.slice none 0 0, rfl, OwnP.nil _ _⟩

end Go.Proofs.YtjbfdbccidhdfabDoor
