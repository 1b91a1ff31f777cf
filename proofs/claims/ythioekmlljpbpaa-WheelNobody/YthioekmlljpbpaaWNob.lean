/-
  A wheel that no call made: nil, or a zero one.
-/
import Derived.Test.YthioekmlljpbpaaW9Shows
namespace Go.Proofs.Ythioekmlljpbpaa
open Go.RowKit Go.Maps Go.WideMaps
set_option linter.unusedVariables false
set_option maxRecDepth 20000

/-- nil, or a record of zeros. -/
def Nob (w : World) (p : Value) : Prop := p = .pointer none ∨ ∃ b, p = .pointer (some ⟨b, 0, none⟩) ∧ RowIs w b 63 [.slice none 0 0, .map none]
theorem Nob.below {w w' : World} {p : Value} (h : Nob w p) (hb : Below w.heap.size w w') : Nob w' p := by
  rcases h with h | ⟨b, h, hr⟩
  · exact .inl h
  · exact .inr ⟨b, h, hr.below hb (Array.getElem?_eq_some_iff.1 hr).1⟩
theorem look_nob (w : World) (id : Int) (hwf : (Lit.int .i64 id).wf = true) : (Instr.lookup 61 (.map none) (.int .i64 id) true).run Try.prog w = .ok (.tuple #[.pointer none, .bool false]) w :=
  Maps.look_nil true keyI Try.underlying61 (zeroPtr w) (key_int hwf)
set_option maxHeartbeats 1000000 in
theorem nob_made {w : World} {p : Value} (h : Nob w p) : Calls Try.prog 25 #[p] w fun e w' => e = .returned (.bool false) ∧ w' = w := by
  have q61 : ∀ (w : World) (r : Option Nat), (binOp .neq 61 (.map r) (.map none)).run Try.prog w = .ok (.bool (!r.isNone)) w := fun w r => run_neq_map_nil w _ _ _ r Try.underlying61
  rcases h with rfl | ⟨b, rfl, hr⟩
  · go_enter Try.func25, Try.ntmps25
    go_wp2
    go_ret
    exact ⟨rfl, rfl⟩
  · have c1 : w.cell? ⟨b, 1, none⟩ = some (.map none) := hr.cell 1 (by simp)
    go_enter Try.func25, Try.ntmps25
    go_wp2
    go_ret
    exact ⟨rfl, rfl⟩
set_option maxHeartbeats 1000000 in
theorem nob_len {w : World} {p : Value} (h : Nob w p) : Calls Try.prog 22 #[p] w fun e w' => e = .returned (.int .i64 0) ∧ w' = w := by
  have KM := hid (nob_made h)
  clear h
  go_enter Try.func22, Try.ntmps22
  go_wp2_with (go_at_call 25; refine KM.out.mono ?_; rintro e w0 ⟨rfl, hw0⟩; rw [hw0]; clear hw0)
  go_ret
  exact ⟨rfl, rfl⟩
set_option maxHeartbeats 1000000 in
theorem nob_next {w : World} {p : Value} (h : Nob w p) : Calls Try.prog 24 #[p] w fun e w' => e = .returned (.tuple #[.agg #[.int .i64 0, .int .i64 0], .bool false]) ∧ Below w.heap.size w w' := by
  have hb := fun o => (Below.refl w.heap.size w).alloc (Nat.le_refl _) o
  have hz := two_new w 0 0
  have KL := hid (fun o => nob_len (h.below (hb o)))
  clear h
  go_enter Try.func24, Try.ntmps24
  go_wp2_with (go_at_call 22; refine (KL.out _).mono ?_; rintro e w0 ⟨rfl, hw0⟩; rw [hw0]; clear hw0)
  refine bodyPost_ret (v := .tuple #[.agg #[.int .i64 0, .int .i64 0], .bool false]) (by simp [results, Try.results24, go_sem, hz.1, hz.2]) rfl ⟨rfl, hb _⟩
set_option maxHeartbeats 1000000 in
theorem nob_set {w : World} {p : Value} (h : Nob w p) (id a : Int) : Calls Try.prog 13 #[p, .int .i64 id, .int .i64 a] w fun e w' => e = .returned (.int .i64 3) ∧ w' = w := by
  have KM := hid (nob_made h)
  clear h
  go_enter Try.func13, Try.ntmps13
  go_wp2_with (go_at_call 25; refine KM.out.mono ?_; rintro e w0 ⟨rfl, hw0⟩; rw [hw0]; clear hw0)
  go_ret
  exact ⟨rfl, rfl⟩
set_option maxHeartbeats 1000000 in
theorem nob_isdue {w : World} {p : Value} (h : Nob w p) (a : Int) : Calls Try.prog 29 #[p, .int .i64 a] w fun e w' => e = .returned (.bool false) ∧ Below w.heap.size w w' := by
  have KN := hid (nob_next h)
  clear h
  go_enter Try.func29, Try.ntmps29
  go_wp2_with (go_at_call 24; refine KN.out.mono ?_; rintro e w1 ⟨rfl, hb1⟩; replace hb1 := hid hb1)
  go_ret
  exact ⟨rfl, hb1.out.alloc hb1.out.size _⟩
set_option maxHeartbeats 1000000 in
theorem nob_due {w : World} {p : Value} (h : Nob w p) (a : Int) : Calls Try.prog 18 #[p, .int .i64 a] w fun e w' => e = .returned (.slice none 0 0) ∧ Below w.heap.size w w' := by
  have KI := hid (nob_isdue h a)
  clear h
  go_enter Try.func18, Try.ntmps18
  go_wp2
  go_loopw [5] (fun va wr => va = .slice none 0 0 ∧ wr = w) (fun va _ => 0)
  case atStart => exact ⟨rfl, rfl⟩
  case round =>
    obtain ⟨rfl, rfl⟩ := hrel
    go_wp2_with (go_at_call 29; refine KI.out.mono ?_; rintro e w1 ⟨rfl, hb1⟩; replace hb1 := hid hb1)
    go_ret
    exact ⟨rfl, hb1.out⟩
set_option maxHeartbeats 1000000 in
theorem nob_when {w : World} {p : Value} (h : Nob w p) (id : Int) (hwf : (Lit.int .i64 id).wf = true) : Calls Try.prog 10 #[p, .int .i64 id] w fun e w' => e = .returned (.tuple #[.int .i64 0, .bool false]) ∧ w' = w := by
  have KM := hid (nob_made h)
  clear h
  go_enter Try.func10, Try.ntmps10
  go_wp2_with (go_at_call 25; refine KM.out.mono ?_; rintro e w0 ⟨rfl, hw0⟩; rw [hw0]; clear hw0)
  go_ret2
  exact ⟨rfl, rfl⟩
set_option maxHeartbeats 1000000 in
theorem nob_stop {w : World} {p : Value} (h : Nob w p) (id : Int) (hwf : (Lit.int .i64 id).wf = true) : Calls Try.prog 15 #[p, .int .i64 id] w fun e w' => e = .returned (.bool false) ∧ w' = w := by
  have KM := hid (nob_made h)
  clear h
  go_enter Try.func15, Try.ntmps15
  go_wp2_with (go_at_call 25; refine KM.out.mono ?_; rintro e w0 ⟨rfl, hw0⟩; rw [hw0]; clear hw0)
  go_ret
  exact ⟨rfl, rfl⟩
end Go.Proofs.Ythioekmlljpbpaa
