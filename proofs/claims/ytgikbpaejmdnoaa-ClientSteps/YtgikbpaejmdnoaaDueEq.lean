/-
  What is due, as a record, compared with itself.
-/
import Derived.Test.YtgikbpaejmdnoaaSC
namespace Go.Proofs.Ytgikbpaejmdnoaa
open Go.RowKit
set_option linter.unusedVariables false
set_option maxRecDepth 20000
set_option linter.unusedSimpArgs false

theorem stoodDc : Try.prog.stoodInHeld 46 = false := by kernel_rfl
theorem guardDc : Try.prog.eqGuardType Try.prog.depth 46 = false := by kernel_rfl
theorem fieldsDc : Try.prog.underlying 46 = some (.struct (Try.prog.fieldsOf 46)) := by kernel_rfl
theorem listDc : (Try.prog.fieldsOf 46).toList.map (fun f => (f.type, f.offset, f.name == "_")) = [(3, 0, false), (4, 1, false), (40, 2, false)] := by kernel_rfl
theorem plainIntN : Try.prog.plainKey 3 = true := by kernel_rfl
theorem plainBoolN : Try.prog.plainKey 4 = true := by kernel_rfl
theorem equalDc (d : Int) (b : Bool) (x z : ByteArray) (u : World) : (Op.equalIn 10000 46 (.agg #[.int .i64 d, .bool b, .string x, .string z]) (.agg #[.int .i64 d, .bool b, .string x, .string z])).run Try.prog u = .ok true u := by
  rw [run_equalIn_agg _ 9999 _ _ _ fieldsDc stoodDc]
  have h := listDc
  generalize (Try.prog.fieldsOf 46).toList = fs at h ⊢
  have hlen : fs.length = 3 := by have := congrArg List.length h; simpa using this
  match fs, hlen, h with
  | [f0, f1, f2], _, h =>
    simp only [List.map_cons, List.map_nil, List.cons.injEq, Prod.mk.injEq, and_true, beq_eq_false_iff_ne] at h
    obtain ⟨⟨t0, o0, n0⟩, ⟨t1, o1, n1⟩, t2, o2, n2⟩ := h
    have p0 : ∀ v, (part 3 #[.int .i64 d, .bool b, .string x, .string z] 0).run Try.prog v = .ok (.int .i64 d) v := fun v => run_part_plain v plainIntN rfl
    have p1 : ∀ v, (part 4 #[.int .i64 d, .bool b, .string x, .string z] 1).run Try.prog v = .ok (.bool b) v := fun v => run_part_plain v plainBoolN rfl
    have p2 : ∀ v, (part 40 #[.int .i64 d, .bool b, .string x, .string z] 2).run Try.prog v = .ok (.agg #[.string x, .string z]) v := fun v => by kernel_rfl
    have q0 : ∀ v, (Op.equalIn 9999 3 (.int .i64 d) (.int .i64 d)).run Try.prog v = .ok (d == d) v := fun v => run_equalIn_int v 9998 _ _ _ d d Try.underlying3
    have q1 : ∀ v, (Op.equalIn 9999 4 (.bool b) (.bool b)).run Try.prog v = .ok (b == b) v := fun v => run_equalIn_bool v 9998 _ b b Try.underlying4
    have q2 : ∀ v, (Op.equalIn 9999 40 (.agg #[.string x, .string z]) (.agg #[.string x, .string z])).run Try.prog v = .ok true v := fun v => by
      rw [run_equalIn_agg _ 9998 _ _ _ fieldsSn stoodSn]
      have h := listSn
      generalize (Try.prog.fieldsOf 40).toList = gs at h ⊢
      have hlen : gs.length = 2 := by have := congrArg List.length h; simpa using this
      match gs, hlen, h with
      | [g0, g1], _, h =>
        simp only [List.map_cons, List.map_nil, List.cons.injEq, Prod.mk.injEq, and_true, beq_eq_false_iff_ne] at h
        obtain ⟨⟨t0, o0, n0⟩, t1, o1, n1⟩ := h
        have p0 : ∀ (X Z : ByteArray) (v : World), (part 9 #[.string X, .string Z] 0).run Try.prog v = .ok (.string X) v := fun X Z v => run_part_plain v plainStrN rfl
        have p1 : ∀ (X Z : ByteArray) (v : World), (part 9 #[.string X, .string Z] 1).run Try.prog v = .ok (.string Z) v := fun X Z v => run_part_plain v plainStrN rfl
        have q1 : ∀ (X Y : ByteArray) (v : World), (Op.equalIn 9998 9 (.string X) (.string Y)).run Try.prog v = .ok (X.toList == Y.toList) v := fun X Y v => run_equalIn_string v 9997 _ X Y Try.underlying9
        simp [Op.eqFields, t0, t1, o0, o1, Sem.run_bind, Sem.run_ite, if_pos n0, if_pos n1, p0, p1, q1, Result.andThen_ok]
    simp [Op.eqFields, t0, t1, t2, o0, o1, o2, Sem.run_bind, Sem.run_ite, if_pos n0, if_pos n1, if_pos n2, p0, p1, p2, q0, q1, q2, Result.andThen_ok]
theorem neqDc (d : Int) (b : Bool) (x z : ByteArray) (u : World) : (binOp .neq 46 (.agg #[.int .i64 d, .bool b, .string x, .string z]) (.agg #[.int .i64 d, .bool b, .string x, .string z])).run Try.prog u = .ok (.bool false) u := by
  rw [run_neq_struct, equalDc]
  rfl
end Go.Proofs.Ytgikbpaejmdnoaa
