/-
  Rows of numbers, and of acts, that come in, opened.
-/
import Derived.Test.YthioekmlljpbpaaOwn
import Derived.Test.YthioekmlljpbpaaKit
import Derived.Deep.Slices
import Derived.ChangeArms
import Derived.OpenShut
namespace Go.Proofs.Ythioekmlljpbpaa
open Go.RowKit Go.ChangeShapes Go.WideShapes Go.Deep
set_option linter.unusedVariables false
set_option maxRecDepth 20000

theorem oadd_block (a : Addr) (k : Nat) : (a.add k).block = a.block := by unfold Addr.add; split <;> rfl
theorem ocell_lt {w : World} {a : Addr} {v : Value} (h : w.cell? a = some v) : a.block < w.heap.size := by
  unfold World.cell? at h
  cases hh : w.heap[a.block]? with
  | none => simp [hh] at h
  | some o => exact (Array.getElem?_eq_some_iff.1 hh).1
theorem ocell_below {B : Nat} {w w' : World} (h : Below B w w') {a : Addr} (ha : a.block < B) {v : Value} (hc : w.cell? a = some v) : w'.cell? a = some v := by
  rw [World.cell?_of_block (h.block a.block ha)]; exact hc
theorem cellsInt9 : Try.prog.cellsOf 3 = 1 := by kernel_rfl
theorem cellsAct : Try.prog.cellsOf 27 = 3 := by kernel_rfl
def wf64 (x : Int) : Prop := (Lit.int .i64 x).wf = true
/-- The slice v shows the numbers l. -/
def IntsAt (w : World) (v : Value) (l : List Int) : Prop :=
  ∃ ao cap, v = .slice ao l.length cap ∧ ∀ k (hk : k < l.length), ∃ a, ao = some a ∧ a.block < w.heap.size ∧ wf64 l[k] ∧ w.cell? (a.add k) = some (.int .i64 l[k])
theorem IntsAt.below {w w' : World} {v : Value} {l : List Int} (h : IntsAt w v l) (hb : Below w.heap.size w w') : IntsAt w' v l := by
  obtain ⟨ao, cap, hv, hc⟩ := h
  refine ⟨ao, cap, hv, fun k hk => ?_⟩
  obtain ⟨a, ha, hlt, hw, hcell⟩ := hc k hk
  exact ⟨a, ha, Nat.lt_of_lt_of_le hlt hb.size, hw, ocell_below hb (by rw [oadd_block]; exact hlt) hcell⟩
/-- An act: its kind, its name, its tick. -/
structure ActT where
  kind : Int
  id : Int
  at' : Int
def ActAt (w : World) (a : Addr) (k : Nat) (t : ActT) : Prop :=
  w.cell? (a.add (k * 3)) = some (.int .i64 t.kind) ∧ w.cell? ⟨(a.add (k * 3)).block, (a.add (k * 3)).off + 1, none⟩ = some (.int .i64 t.id) ∧ w.cell? ⟨(a.add (k * 3)).block, (a.add (k * 3)).off + 2, none⟩ = some (.int .i64 t.at')
def ActsAt (w : World) (v : Value) (l : List ActT) : Prop :=
  ∃ ao cap, v = .slice ao l.length cap ∧ ∀ k (hk : k < l.length), ∃ a, ao = some a ∧ a.block < w.heap.size ∧ (wf64 l[k].kind ∧ wf64 l[k].id ∧ wf64 l[k].at') ∧ ActAt w a k l[k]
theorem ActsAt.below {w w' : World} {v : Value} {l : List ActT} (h : ActsAt w v l) (hb : Below w.heap.size w w') : ActsAt w' v l := by
  obtain ⟨ao, cap, hv, hc⟩ := h
  refine ⟨ao, cap, hv, fun k hk => ?_⟩
  obtain ⟨a, ha, hlt, hw, c0, c1, c2⟩ := hc k hk
  exact ⟨a, ha, Nat.lt_of_lt_of_le hlt hb.size, hw, ocell_below hb (by rw [oadd_block]; exact hlt) c0, ocell_below hb (by simp only [oadd_block]; exact hlt) c1, ocell_below hb (by simp only [oadd_block]; exact hlt) c2⟩
def IntsIn (B : Nat) (W : World) (v : Value) : Prop := ∃ l : List Int, IntsAt W v l
def ActsIn (B : Nat) (W : World) (v : Value) : Prop := ∃ l : List ActT, ActsAt W v l

section
variable {H : Type} {enc : TypeId × Value → H} {W : World} {sp : Nat → Bool}

theorem open_ints {fuel : Nat} {cs : List Value} {x : DataW H × List MemPlace} (h : DataW.trod enc Try.prog W 0 sp true fuel 45 cs = some x) :
    ∃ (v : Value) (l : List Int), cs = [v] ∧ IntsAt W v l := by
  rcases open_slice Try.underlying45 h with ⟨rfl, rfl⟩ | ⟨a, len, cap, m, n, D, Pl, rfl, _, hlc, hcm, hm, rfl, hall⟩
  · exact ⟨_, [], rfl, none, 0, rfl, fun k hk => by simp at hk⟩
  · have hlm : len ≤ m := by rw [hm]; split <;> omega
    have each : ∀ i, i < len → ∃ z : Int, True ∧ (a.block < W.heap.size ∧ wf64 z ∧ W.cell? (a.add i) = some (.int .i64 z)) := by
      intro i hi
      obtain ⟨cs', h1, h2⟩ := hall i (by omega)
      obtain ⟨z, rfl, hd, hw⟩ := DataW.trod_int Try.underlying3 h2
      rw [cellsInt9] at h1
      obtain ⟨_, _, hc⟩ := World.cells?_some h1
      have c0 := hc 0 (by omega)
      have hc0 : W.cell? (a.add i) = some (.int .i64 z) := by simpa [Addr.add] using c0
      exact ⟨z, trivial, by have := ocell_lt hc0; rwa [oadd_block] at this, hw, hc0⟩
    obtain ⟨f, hf⟩ := @choose_lt Int ⟨0⟩ len _ each
    refine ⟨_, (List.range len).map f, rfl, some a, cap, by simp, fun k hk => ?_⟩
    simp at hk
    refine ⟨a, rfl, ?_⟩
    simpa using (hf k hk).2
theorem open_act {fuel : Nat} {cs : List Value} {x : DataW H × List MemPlace} (h : DataW.trod enc Try.prog W 0 sp true fuel 27 cs = some x) :
    ∃ t : ActT, cs = [.int .i64 t.kind, .int .i64 t.id, .int .i64 t.at'] ∧ wf64 t.kind ∧ wf64 t.id ∧ wf64 t.at' := by
  obtain ⟨xs, n, _, rfl, hl, hlen, hf⟩ := DataW.trod_struct Try.underlying27 h
  rw [cellsAct] at hl
  match cs, hl, xs, hlen with
  | [c0, c1, c2], _, [y0, y1, y2], _ =>
    have f0 := hf 0 _ rfl
    have f1 := hf 1 _ rfl
    have f2 := hf 2 _ rfl
    simp [cellsInt9] at f0 f1 f2
    obtain ⟨i0, e0, rfl, w0⟩ := DataW.trod_int Try.underlying3 f0
    obtain ⟨i1, e1, rfl, w1⟩ := DataW.trod_int Try.underlying3 f1
    obtain ⟨i2, e2, rfl, w2⟩ := DataW.trod_int Try.underlying3 f2
    simp only [List.cons.injEq, and_true] at e0 e1 e2
    subst e0 e1 e2
    exact ⟨⟨i0, i1, i2⟩, rfl, w0, w1, w2⟩
theorem open_acts {fuel : Nat} {cs : List Value} {x : DataW H × List MemPlace} (h : DataW.trod enc Try.prog W 0 sp true fuel 22 cs = some x) :
    ∃ (v : Value) (l : List ActT), cs = [v] ∧ ActsAt W v l := by
  rcases open_slice Try.underlying22 h with ⟨rfl, rfl⟩ | ⟨a, len, cap, m, n, D, Pl, rfl, _, hlc, hcm, hm, rfl, hall⟩
  · exact ⟨_, [], rfl, none, 0, rfl, fun k hk => by simp at hk⟩
  · have hlm : len ≤ m := by rw [hm]; split <;> omega
    have each : ∀ i, i < len → ∃ t : ActT, True ∧ (a.block < W.heap.size ∧ (wf64 t.kind ∧ wf64 t.id ∧ wf64 t.at') ∧ ActAt W a i t) := by
      intro i hi
      obtain ⟨cs', h1, h2⟩ := hall i (by omega)
      obtain ⟨t, rfl, hw⟩ := open_act h2
      rw [cellsAct] at h1
      obtain ⟨_, _, hc⟩ := World.cells?_some h1
      have c0 := hc 0 (by omega)
      have c1 := hc 1 (by omega)
      have c2 := hc 2 (by omega)
      have hc0 : W.cell? (a.add (i * 3)) = some (.int .i64 t.kind) := by simpa [Addr.add] using c0
      refine ⟨t, trivial, by have := ocell_lt hc0; rwa [oadd_block] at this, hw, hc0, ?_, ?_⟩
      · simpa [Addr.add] using c1
      · simpa [Addr.add] using c2
    obtain ⟨f, hf⟩ := @choose_lt ActT ⟨⟨0, 0, 0⟩⟩ len _ each
    refine ⟨_, (List.range len).map f, rfl, some a, cap, by simp, fun k hk => ?_⟩
    simp at hk
    refine ⟨a, rfl, ?_⟩
    simpa using (hf k hk).2
theorem ints_in {B : Nat} {r : Reach} {b0 : Nat} {v : Value} {d : DataW H} {p : List MemPlace} (hv : Value.okWide Try.prog W r b0 45 v) (h : DataW.Trod enc Try.prog W 0 sp true 45 v d p) : IntsIn B W v := by
  obtain ⟨a, len, cap, rfl⟩ := okWide_slice Try.underlying45 hv
  obtain ⟨fuel, hf0⟩ := h
  obtain ⟨v', l, hc, hat⟩ := open_ints hf0
  simp [Value.cells] at hc
  subst hc
  exact ⟨l, hat⟩
theorem ints_said {B : Nat} {r : Reach} {b0 : Nat} {v : Value} {d : DataW H} {p : List MemPlace} (hv : Value.okWide Try.prog W r b0 45 v) (h : DataW.Trod enc Try.prog W 0 sp true 45 v d p)
    (hz : ∀ n ∈ d.weights Try.prog 45, n ≤ B) : IntsIn B W v := ints_in hv h
theorem acts_said {B : Nat} {r : Reach} {b0 : Nat} {v : Value} {d : DataW H} {p : List MemPlace} (hv : Value.okWide Try.prog W r b0 22 v) (h : DataW.Trod enc Try.prog W 0 sp true 22 v d p)
    (hz : ∀ n ∈ d.weights Try.prog 22, n ≤ B) : ActsIn B W v := by
  obtain ⟨a, len, cap, rfl⟩ := okWide_slice Try.underlying22 hv
  obtain ⟨fuel, hf0⟩ := h
  obtain ⟨v', l, hc, hat⟩ := open_acts hf0
  simp [Value.cells] at hc
  subst hc
  exact ⟨l, hat⟩
end
end Go.Proofs.Ythioekmlljpbpaa
