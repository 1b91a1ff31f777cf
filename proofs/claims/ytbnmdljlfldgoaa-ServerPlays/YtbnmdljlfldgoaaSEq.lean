/-
  What is sent, compared.
-/
import Derived.Test.YtbnmdljlfldgoaaS11L
import Derived.Laws.StructEq
namespace Go.Proofs.Ytbnmdljlfldgoaa
open Go.RowKit
set_option linter.unusedVariables false
set_option maxRecDepth 20000
set_option linter.unusedSimpArgs false

theorem stoodSe : Try.prog.stoodInHeld 39 = false := by kernel_rfl
theorem guardSe : Try.prog.eqGuardType Try.prog.depth 39 = false := by kernel_rfl
theorem fieldsSe : Try.prog.underlying 39 = some (.struct (Try.prog.fieldsOf 39)) := by kernel_rfl
theorem listSe : (Try.prog.fieldsOf 39).toList.map (fun f => (f.type, f.offset, f.name == "_")) = [(9, 0, false), (9, 1, false)] := by kernel_rfl
theorem plainStrS : Try.prog.plainKey 9 = true := by kernel_rfl
theorem equalSe (x z x' z' : ByteArray) (u : World) : (Op.equalIn 10000 39 (.agg #[.string x, .string z]) (.agg #[.string x', .string z'])).run Try.prog u = .ok (x.toList == x'.toList && z.toList == z'.toList) u := by
  rw [run_equalIn_agg _ 9999 _ _ _ fieldsSe stoodSe]
  have h := listSe
  generalize (Try.prog.fieldsOf 39).toList = fs at h ⊢
  have hlen : fs.length = 2 := by have := congrArg List.length h; simpa using this
  match fs, hlen, h with
  | [f0, f1], _, h =>
    simp only [List.map_cons, List.map_nil, List.cons.injEq, Prod.mk.injEq, and_true, beq_eq_false_iff_ne] at h
    obtain ⟨⟨t0, o0, n0⟩, t1, o1, n1⟩ := h
    have p0 : ∀ (X Z : ByteArray) (v : World), (part 9 #[.string X, .string Z] 0).run Try.prog v = .ok (.string X) v := fun X Z v => run_part_plain v plainStrS rfl
    have p1 : ∀ (X Z : ByteArray) (v : World), (part 9 #[.string X, .string Z] 1).run Try.prog v = .ok (.string Z) v := fun X Z v => run_part_plain v plainStrS rfl
    have q1 : ∀ (X Y : ByteArray) (v : World), (Op.equalIn 9999 9 (.string X) (.string Y)).run Try.prog v = .ok (X.toList == Y.toList) v := fun X Y v => run_equalIn_string v 9998 _ X Y Try.underlying9
    simp only [Op.eqFields, t0, t1, o0, o1, Sem.run_bind, Sem.run_ite, if_pos n0, if_pos n1, p0, p1, q1, Result.andThen_ok]
    cases h0 : (x.toList == x'.toList) <;> cases h1 : (z.toList == z'.toList) <;> rfl
theorem eqlSe (a b : List UInt8 × List UInt8) (u : World) : (binOp .eql 39 (.agg #[.string ⟨a.1.toArray⟩, .string ⟨a.2.toArray⟩]) (.agg #[.string ⟨b.1.toArray⟩, .string ⟨b.2.toArray⟩])).run Try.prog u = .ok (.bool (decide (a = b))) u := by
  rw [run_eql_struct, equalSe]
  obtain ⟨x, y⟩ := a
  obtain ⟨x', y'⟩ := b
  simp only [Result.andThen_ok]
  congr 2
  rw [Bool.eq_iff_iff]
  simp [ByteArray.toList_eq]
theorem neqSe (a b : List UInt8 × List UInt8) (u : World) : (binOp .neq 39 (.agg #[.string ⟨a.1.toArray⟩, .string ⟨a.2.toArray⟩]) (.agg #[.string ⟨b.1.toArray⟩, .string ⟨b.2.toArray⟩])).run Try.prog u = .ok (.bool (!decide (a = b))) u := by
  rw [run_neq_struct, equalSe]
  obtain ⟨x, y⟩ := a
  obtain ⟨x', y'⟩ := b
  simp only [Result.andThen_ok]
  congr 2
  rw [Bool.eq_iff_iff]
  simp [ByteArray.toList_eq]
end Go.Proofs.Ytbnmdljlfldgoaa
