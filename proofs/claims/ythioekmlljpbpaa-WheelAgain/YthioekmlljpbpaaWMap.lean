/-
  A wheel in memory: the heap, and the map that leads to its items; what its calls keep.
-/
import Derived.Test.YthioekmlljpbpaaWQFix
import Derived.Maps.OwnOps
import Derived.Maps.OwnSet
namespace Go.Proofs.Ythioekmlljpbpaa
open Go.RowKit Go.Maps Go.WideMaps
set_option linter.unusedVariables false
set_option maxRecDepth 20000

/-- How a pointer to an item reads: the block's number. -/
def ptrE : Value → Option (DataW Unit × List MemPlace)
  | .pointer (some ⟨b, 0, none⟩) => some (.lit (.int .i64 b), [])
  | .pointer none => some (.lit (.int .i64 (-1)), [])
  | _ => none
theorem ptrE_inv {v : Value} {b : Nat} {ps : List MemPlace} (h : ptrE v = some (.lit (.int .i64 b), ps)) : v = .pointer (some ⟨b, 0, none⟩) := by
  unfold ptrE at h
  split at h
  · rename_i b'
    simp at h
    obtain ⟨h, _⟩ := h
    have e : b' = b := by omega
    subst e; rfl
  · simp at h <;> omega
  · cases h
theorem ptrE_nil {v : Value} {ps : List MemPlace} (h : ptrE v = some (.lit (.int .i64 (-1)), ps)) : v = .pointer none := by
  unfold ptrE at h
  split at h
  · simp at h <;> omega
  · rfl
  · cases h
def idK (id : Int) : Lit := .int .i64 id
theorem idK_ne {a b : Int} (h : a ≠ b) : idK a ≠ idK b := fun e => h (by injection e)
theorem keyI : Keyed Try.prog 3 := int_keyed Try.underlying3
theorem key_int {id : Int} (h : (Lit.int .i64 id).wf = true) : keyOf Try.prog 3 (.int .i64 id) = some (idK id) := keyOf_int_mk Try.underlying3 h
theorem zeroPtr (w : World) : (zeroValue 66).run Try.prog w = .ok (.pointer none) w := by kernel_rfl
theorem own_tight {P : Program} {k : TypeId} {R : Value → Option (DataW Unit × List MemPlace)} {w : World} {b n : Nat} {D : DataW Unit} (h : w.ownsMap P k R b n D) : w.ownsMap P k R b (Maps.size D) D := by
  obtain ⟨es, clock, hb, F, hs, rfl⟩ := h
  exact ⟨es, clock, hb, F, by simp [Maps.size, length_sorted], rfl⟩
theorem own_chg {S : Nat → Prop} {P : Program} {k : TypeId} {R : Value → Option (DataW Unit × List MemPlace)} {w w' : World} {b n : Nat} {D : DataW Unit} (h : w.ownsMap P k R b n D) (hc : Chg S w w') (hn : ¬ S b) : w'.ownsMap P k R b n D := by
  have hl := h.lt
  obtain ⟨es, clock, hb, F, hs, rfl⟩ := h
  exact ⟨es, clock, by rw [hc.block b hl hn]; exact hb, F, hs, rfl⟩
theorem map_no_row {P : Program} {k : TypeId} {R : Value → Option (DataW Unit × List MemPlace)} {w : World} {b n : Nat} {D : DataW Unit} (h : w.ownsMap P k R b n D) (cs : Array Value) (e : TypeId) (x : Nat × Nat) : w.heap[b]? ≠ some (.cells cs e x) := by
  obtain ⟨es, clock, hb, _⟩ := h
  rw [hb]; simp

structure WH (bw m B : Nat) (v : Value) (f : Nat → It) (n : Nat) (D : DataW Unit) (w : World) (l : List Tm) : Prop where
  q : HQ bw m B v w f n
  k : Keeps f n l
  mp : w.ownsMap Try.prog 3 ptrE m n D
  has : ∀ id, Maps.has D (idK id) = true ↔ ∃ i, i < n ∧ (f i).tm.2 = id
  at' : ∀ i, i < n → ∀ z, D.atKey (idK (f i).tm.2) z = .lit (.int .i64 (f i).blk)
  size : Maps.size D = n
  wlo : B ≤ bw
  mlo : B ≤ m
  wf : ∀ i, i < n → (Lit.int .i64 (f i).tm.2).wf = true
/-- The map's block is none of the heap's. -/
theorem WH.no2 {bw m B : Nat} {v : Value} {f : Nat → It} {n : Nat} {D : DataW Unit} {w : World} {l : List Tm} (h : WH bw m B v f n D w l) : ¬ HS2 bw bw v f n m := by
  rintro (e | e | hk | ⟨i, hi, e⟩)
  · exact map_no_row h.mp _ _ _ (by rw [e]; exact h.q.wheel)
  · exact map_no_row h.mp _ _ _ (by rw [e]; exact h.q.wheel)
  · rcases h.q.own.2 with ⟨h2, _⟩ | ⟨g, cap, cur, hv, hg, hh, _⟩
    · rw [h2] at hk; cases hk
    · rw [hv] at hk; simp [Value.ownBlock] at hk; subst hk; exact map_no_row h.mp _ _ _ hh
  · exact map_no_row h.mp _ _ _ (e ▸ h.q.item i hi)
theorem HQ.grown {bw m B : Nat} {v : Value} {w w' : World} {f : Nat → It} {n : Nat} (h : HQ bw m B v w f n) (hg : w.grownBy w' (some m)) (hno : ¬ HS2 bw bw v f n m) : HQ bw m B v w' f n :=
  ⟨h.wheel.gr hg (fun e => hno (.inl (by injection e))), World.ownsRow.kept h.own hg (by
      by_cases e : v.ownBlock = none
      · exact .inl e
      · exact .inr fun e' => hno (.inr (.inr (.inl e')))), fun i hi => (h.item i hi).gr hg (fun e => hno (.inr (.inr (.inr ⟨i, hi, by injection e with e; exact e.symm⟩)))), h.inj, h.lo⟩
section
variable {bw m B : Nat} {v : Value} {f : Nat → It} {n : Nat} {D : DataW Unit} {w : World} {l : List Tm}
theorem HQ.new (h : HQ bw m B v w f n) (o : Obj) : HQ bw m B v (w.alloc o) f n := ⟨h.wheel.new o, h.own.alloc o, fun i hi => (h.item i hi).new o, h.inj, h.lo⟩
theorem WH.new (h : WH bw m B v f n D w l) (o : Obj) : WH bw m B v f n D (w.alloc o) l := ⟨h.q.new o, h.k, h.mp.alloc o, h.has, h.at', h.size, h.wlo, h.mlo, h.wf⟩
theorem WH.drew (h : WH bw m B v f n D w l) : WH bw m B v f n D w.drew l := ⟨h.q.drew, h.k, h.mp.drew, h.has, h.at', h.size, h.wlo, h.mlo, h.wf⟩
end
end Go.Proofs.Ythioekmlljpbpaa
