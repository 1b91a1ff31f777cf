/-
  The contract of the document's own Accepts.
-/
import Derived.Test.YtjbfdbccidhdfabDoorHRef4
namespace Go.Proofs.YtjbfdbccidhdfabDoor
open Go.RowKit Sc
set_option linter.unusedVariables false
set_option maxRecDepth 20000

theorem starglue (a : List UInt8) : (⟨a.toArray⟩ : ByteArray) ++ (⟨#[47, 42]⟩ : ByteArray) = ⟨(a ++ [47, 42]).toArray⟩ := by
  have e0 : (⟨#[47, 42]⟩ : ByteArray) = ⟨[47, 42].toArray⟩ := rfl
  rw [e0, ByteArray.mk_append_mk]
theorem takesB_is (t r : List UInt8) : takesB t r = (typeOk t && (typeOk (typeT r) && (typeT r == t || (typeT r == [42, 47, 42] || typeT r == (cutL 47 t).1 ++ [47, 42])))) := rfl
theorem accepts_hit {ls : List (List UInt8)} {s : List UInt8} {k : Nat} (hk : k < ls.length) (h : takesB (typeT s) ls[k] = true) : acceptsB ls s = true := by
  unfold acceptsB
  exact List.any_eq_true.2 ⟨ls[k], List.getElem_mem hk, h⟩
theorem accepts_none {ls : List (List UInt8)} {s : List UInt8} (h : ∀ r ∈ ls, takesB (typeT s) r = false) : acceptsB ls s = false := by
  unfold acceptsB
  rw [List.any_eq_false]
  intro r hr; simp [h r hr]

end Go.Proofs.YtjbfdbccidhdfabDoor
