/-
  States, compared; the contracts of package head, as the laws' walks take them, are in HHead.
-/
import Derived.Test.YtjbfdbccidhdfaaDoorHRef2
import Derived.Laws.StructEq
namespace Go.Proofs.YtjbfdbccidhdfaaDoor
open Go.RowKit Sc
set_option linter.unusedVariables false
set_option maxRecDepth 20000
set_option linter.unusedSimpArgs false

theorem stoodStt : Tryd.prog.stoodInHeld 50 = false := by kernel_rfl
theorem guardStt : Tryd.prog.eqGuardType Tryd.prog.depth 50 = false := by kernel_rfl
theorem fieldsStt : Tryd.prog.underlying 50 = some (.struct (Tryd.prog.fieldsOf 50)) := by kernel_rfl
theorem listStt : (Tryd.prog.fieldsOf 50).toList.map (fun f => (f.type, f.offset, f.name == "_")) = [(9, 0, false), (3, 1, false), (9, 2, false)] := by kernel_rfl
theorem plainInt : Tryd.prog.plainKey 3 = true := by kernel_rfl
theorem equalStt (x z x' z' : ByteArray) (y y' : Int) (u : World) : (Op.equalIn 10000 50 (.agg #[.string x, .int .i64 y, .string z]) (.agg #[.string x', .int .i64 y', .string z'])).run Tryd.prog u = .ok (x.toList == x'.toList && (y == y' && z.toList == z'.toList)) u := by
  rw [run_equalIn_agg _ 9999 _ _ _ fieldsStt stoodStt]
  have h := listStt
  generalize (Tryd.prog.fieldsOf 50).toList = fs at h ⊢
  have hlen : fs.length = 3 := by have := congrArg List.length h; simpa using this
  match fs, hlen, h with
  | [f0, f1, f2], _, h =>
    simp only [List.map_cons, List.map_nil, List.cons.injEq, Prod.mk.injEq, and_true, beq_eq_false_iff_ne] at h
    obtain ⟨⟨t0, o0, n0⟩, ⟨t1, o1, n1⟩, t2, o2, n2⟩ := h
    have p0 : ∀ (X Z : ByteArray) (Y : Int) (v : World), (part 9 #[.string X, .int .i64 Y, .string Z] 0).run Tryd.prog v = .ok (.string X) v := fun X Z Y v => run_part_plain v plainStr rfl
    have p1 : ∀ (X Z : ByteArray) (Y : Int) (v : World), (part 3 #[.string X, .int .i64 Y, .string Z] 1).run Tryd.prog v = .ok (.int .i64 Y) v := fun X Z Y v => run_part_plain v plainInt rfl
    have p2 : ∀ (X Z : ByteArray) (Y : Int) (v : World), (part 9 #[.string X, .int .i64 Y, .string Z] 2).run Tryd.prog v = .ok (.string Z) v := fun X Z Y v => run_part_plain v plainStr rfl
    have q1 : ∀ (X Y : ByteArray) (v : World), (Op.equalIn 9999 9 (.string X) (.string Y)).run Tryd.prog v = .ok (X.toList == Y.toList) v := fun X Y v => run_equalIn_string v 9998 _ X Y Tryd.underlying9
    have q2 : ∀ (X Y : Int) (v : World), (Op.equalIn 9999 3 (.int .i64 X) (.int .i64 Y)).run Tryd.prog v = .ok (X == Y) v := fun X Y v => run_equalIn_int v 9998 _ _ _ X Y Tryd.underlying3
    simp only [Op.eqFields, t0, t1, t2, o0, o1, o2, Sem.run_bind, Sem.run_ite, if_pos n0, if_pos n1, if_pos n2, p0, p1, p2, q1, q2, Result.andThen_ok]
    cases h0 : (x.toList == x'.toList) <;> cases h1 : (y == y') <;> cases h2 : (z.toList == z'.toList) <;> rfl
theorem eqlStt (a b : Stt) (u : World) : (binOp .eql 50 (.agg #[.string ⟨a.name.toArray⟩, .int .i64 a.expires, .string ⟨a.reason.toArray⟩]) (.agg #[.string ⟨b.name.toArray⟩, .int .i64 b.expires, .string ⟨b.reason.toArray⟩])).run Tryd.prog u = .ok (.bool (decide (a = b))) u := by
  rw [run_eql_struct, equalStt]
  obtain ⟨x, y, z⟩ := a
  obtain ⟨x', y', z'⟩ := b
  simp only [Result.andThen_ok]
  congr 2
  rw [Bool.eq_iff_iff]
  simp [ByteArray.toList_eq]
theorem neqStt (a b : Stt) (u : World) : (binOp .neq 50 (.agg #[.string ⟨a.name.toArray⟩, .int .i64 a.expires, .string ⟨a.reason.toArray⟩]) (.agg #[.string ⟨b.name.toArray⟩, .int .i64 b.expires, .string ⟨b.reason.toArray⟩])).run Tryd.prog u = .ok (.bool (!decide (a = b))) u := by
  rw [run_neq_struct, equalStt]
  obtain ⟨x, y, z⟩ := a
  obtain ⟨x', y', z'⟩ := b
  simp only [Result.andThen_ok]
  congr 2
  rw [Bool.eq_iff_iff]
  simp [ByteArray.toList_eq]

end Go.Proofs.YtjbfdbccidhdfaaDoor
