/-
  Rows of small numbers and of bools that come in, opened.
-/
import Derived.Test.YtgikbpaejmdnoaaOwn
import Derived.Test.YtgikbpaejmdnoaaKit
import Derived.Deep.Slices
import Derived.ChangeArms
import Derived.OpenShut
namespace Go.Proofs.Ytgikbpaejmdnoaa
open Go.RowKit Go.ChangeShapes Go.WideShapes Go.Deep
set_option linter.unusedVariables false
set_option maxRecDepth 20000

theorem radd_block (a : Addr) (k : Nat) : (a.add k).block = a.block := by unfold Addr.add; split <;> rfl
theorem rcell_lt {w : World} {a : Addr} {v : Value} (h : w.cell? a = some v) : a.block < w.heap.size := by
  unfold World.cell? at h
  cases hh : w.heap[a.block]? with
  | none => simp [hh] at h
  | some o => exact (Array.getElem?_eq_some_iff.1 hh).1
theorem rcell_below {B : Nat} {w w' : World} (h : Below B w w') {a : Addr} (ha : a.block < B) {v : Value} (hc : w.cell? a = some v) : w'.cell? a = some v := by
  rw [World.cell?_of_block (h.block a.block ha)]; exact hc
theorem cellsU8r : Try.prog.cellsOf 5 = 1 := by kernel_rfl
theorem cellsU16r : Try.prog.cellsOf 51 = 1 := by kernel_rfl
theorem cellsBoolr : Try.prog.cellsOf 4 = 1 := by kernel_rfl
/-- The slice v shows the numbers l, of the kind k. -/
def NumsAt (k : IntKind) (w : World) (v : Value) (l : List Int) : Prop :=
  ∃ ao cap, v = .slice ao l.length cap ∧ ∀ i (hi : i < l.length), ∃ a, ao = some a ∧ a.block < w.heap.size ∧ (Lit.int k l[i]).wf = true ∧ w.cell? (a.add i) = some (.int k l[i])
theorem NumsAt.below {k : IntKind} {w w' : World} {v : Value} {l : List Int} (h : NumsAt k w v l) (hb : Below w.heap.size w w') : NumsAt k w' v l := by
  obtain ⟨ao, cap, hv, hc⟩ := h
  refine ⟨ao, cap, hv, fun i hi => ?_⟩
  obtain ⟨a, ha, hlt, hw, hcell⟩ := hc i hi
  exact ⟨a, ha, Nat.lt_of_lt_of_le hlt hb.size, hw, rcell_below hb (by rw [radd_block]; exact hlt) hcell⟩
/-- The slice v shows the bools l. -/
def BoolsAt (w : World) (v : Value) (l : List Bool) : Prop :=
  ∃ ao cap, v = .slice ao l.length cap ∧ ∀ i (hi : i < l.length), ∃ a, ao = some a ∧ a.block < w.heap.size ∧ w.cell? (a.add i) = some (.bool l[i])
theorem BoolsAt.below {w w' : World} {v : Value} {l : List Bool} (h : BoolsAt w v l) (hb : Below w.heap.size w w') : BoolsAt w' v l := by
  obtain ⟨ao, cap, hv, hc⟩ := h
  refine ⟨ao, cap, hv, fun i hi => ?_⟩
  obtain ⟨a, ha, hlt, hcell⟩ := hc i hi
  exact ⟨a, ha, Nat.lt_of_lt_of_le hlt hb.size, rcell_below hb (by rw [radd_block]; exact hlt) hcell⟩
def ByqIn (B : Nat) (W : World) (v : Value) : Prop := ∃ l : List Int, NumsAt .u8 W v l
def U16sIn (B : Nat) (W : World) (v : Value) : Prop := ∃ l : List Int, NumsAt .u16 W v l
def BoolsIn (B : Nat) (W : World) (v : Value) : Prop := ∃ l : List Bool, BoolsAt W v l
section
variable {H : Type} {enc : TypeId × Value → H} {W : World} {sp : Nat → Bool}
theorem open_byq {fuel : Nat} {cs : List Value} {x : DataW H × List MemPlace} (h : DataW.trod enc Try.prog W 0 sp true fuel 38 cs = some x) :
    ∃ (v : Value) (l : List Int), cs = [v] ∧ NumsAt .u8 W v l := by
  rcases open_slice Try.underlying38 h with ⟨rfl, rfl⟩ | ⟨a, len, cap, m, n, D, Pl, rfl, _, hlc, hcm, hm, rfl, hall⟩
  · exact ⟨_, [], rfl, none, 0, rfl, fun k hk => by simp at hk⟩
  · have hlm : len ≤ m := by rw [hm]; split <;> omega
    have each : ∀ i, i < len → ∃ z : Int, True ∧ (a.block < W.heap.size ∧ (Lit.int .u8 z).wf = true ∧ W.cell? (a.add i) = some (.int .u8 z)) := by
      intro i hi
      obtain ⟨cs', h1, h2⟩ := hall i (by omega)
      obtain ⟨z, rfl, hd, hw⟩ := DataW.trod_int Try.underlying5 h2
      rw [cellsU8r] at h1
      obtain ⟨_, _, hc⟩ := World.cells?_some h1
      have c0 := hc 0 (by omega)
      have hc0 : W.cell? (a.add i) = some (.int .u8 z) := by simpa [Addr.add] using c0
      exact ⟨z, trivial, by have := rcell_lt hc0; rwa [radd_block] at this, hw, hc0⟩
    obtain ⟨f, hf⟩ := @choose_lt Int ⟨0⟩ len _ each
    refine ⟨_, (List.range len).map f, rfl, some a, cap, by simp, fun k hk => ?_⟩
    simp at hk
    refine ⟨a, rfl, ?_⟩
    simpa using (hf k hk).2
theorem open_u16s {fuel : Nat} {cs : List Value} {x : DataW H × List MemPlace} (h : DataW.trod enc Try.prog W 0 sp true fuel 53 cs = some x) :
    ∃ (v : Value) (l : List Int), cs = [v] ∧ NumsAt .u16 W v l := by
  rcases open_slice Try.underlying53 h with ⟨rfl, rfl⟩ | ⟨a, len, cap, m, n, D, Pl, rfl, _, hlc, hcm, hm, rfl, hall⟩
  · exact ⟨_, [], rfl, none, 0, rfl, fun k hk => by simp at hk⟩
  · have hlm : len ≤ m := by rw [hm]; split <;> omega
    have each : ∀ i, i < len → ∃ z : Int, True ∧ (a.block < W.heap.size ∧ (Lit.int .u16 z).wf = true ∧ W.cell? (a.add i) = some (.int .u16 z)) := by
      intro i hi
      obtain ⟨cs', h1, h2⟩ := hall i (by omega)
      obtain ⟨z, rfl, hd, hw⟩ := DataW.trod_int Try.underlying51 h2
      rw [cellsU16r] at h1
      obtain ⟨_, _, hc⟩ := World.cells?_some h1
      have c0 := hc 0 (by omega)
      have hc0 : W.cell? (a.add i) = some (.int .u16 z) := by simpa [Addr.add] using c0
      exact ⟨z, trivial, by have := rcell_lt hc0; rwa [radd_block] at this, hw, hc0⟩
    obtain ⟨f, hf⟩ := @choose_lt Int ⟨0⟩ len _ each
    refine ⟨_, (List.range len).map f, rfl, some a, cap, by simp, fun k hk => ?_⟩
    simp at hk
    refine ⟨a, rfl, ?_⟩
    simpa using (hf k hk).2
theorem open_bools {fuel : Nat} {cs : List Value} {x : DataW H × List MemPlace} (h : DataW.trod enc Try.prog W 0 sp true fuel 54 cs = some x) :
    ∃ (v : Value) (l : List Bool), cs = [v] ∧ BoolsAt W v l := by
  rcases open_slice Try.underlying54 h with ⟨rfl, rfl⟩ | ⟨a, len, cap, m, n, D, Pl, rfl, _, hlc, hcm, hm, rfl, hall⟩
  · exact ⟨_, [], rfl, none, 0, rfl, fun k hk => by simp at hk⟩
  · have hlm : len ≤ m := by rw [hm]; split <;> omega
    have each : ∀ i, i < len → ∃ z : Bool, True ∧ (a.block < W.heap.size ∧ W.cell? (a.add i) = some (.bool z)) := by
      intro i hi
      obtain ⟨cs', h1, h2⟩ := hall i (by omega)
      obtain ⟨z, rfl, hd⟩ := DataW.trod_bool Try.underlying4 h2
      rw [cellsBoolr] at h1
      obtain ⟨_, _, hc⟩ := World.cells?_some h1
      have c0 := hc 0 (by omega)
      have hc0 : W.cell? (a.add i) = some (.bool z) := by simpa [Addr.add] using c0
      exact ⟨z, trivial, by have := rcell_lt hc0; rwa [radd_block] at this, hc0⟩
    obtain ⟨f, hf⟩ := @choose_lt Bool ⟨false⟩ len _ each
    refine ⟨_, (List.range len).map f, rfl, some a, cap, by simp, fun k hk => ?_⟩
    simp at hk
    refine ⟨a, rfl, ?_⟩
    simpa using (hf k hk).2
theorem byq_said {B : Nat} {r : Reach} {b0 : Nat} {v : Value} {d : DataW H} {p : List MemPlace} (hv : Value.okWide Try.prog W r b0 38 v) (h : DataW.Trod enc Try.prog W 0 sp true 38 v d p) (hz : ∀ n ∈ d.weights Try.prog 38, n ≤ B) : ByqIn B W v := by
  obtain ⟨a, len, cap, rfl⟩ := okWide_slice Try.underlying38 hv
  obtain ⟨fuel, hf0⟩ := h
  obtain ⟨v', l, hc, hat⟩ := open_byq hf0
  simp [Value.cells] at hc
  subst hc
  exact ⟨l, hat⟩
theorem u16s_said {B : Nat} {r : Reach} {b0 : Nat} {v : Value} {d : DataW H} {p : List MemPlace} (hv : Value.okWide Try.prog W r b0 53 v) (h : DataW.Trod enc Try.prog W 0 sp true 53 v d p) (hz : ∀ n ∈ d.weights Try.prog 53, n ≤ B) : U16sIn B W v := by
  obtain ⟨a, len, cap, rfl⟩ := okWide_slice Try.underlying53 hv
  obtain ⟨fuel, hf0⟩ := h
  obtain ⟨v', l, hc, hat⟩ := open_u16s hf0
  simp [Value.cells] at hc
  subst hc
  exact ⟨l, hat⟩
theorem bools_said {B : Nat} {r : Reach} {b0 : Nat} {v : Value} {d : DataW H} {p : List MemPlace} (hv : Value.okWide Try.prog W r b0 54 v) (h : DataW.Trod enc Try.prog W 0 sp true 54 v d p) (hz : ∀ n ∈ d.weights Try.prog 54, n ≤ B) : BoolsIn B W v := by
  obtain ⟨a, len, cap, rfl⟩ := okWide_slice Try.underlying54 hv
  obtain ⟨fuel, hf0⟩ := h
  obtain ⟨v', l, hc, hat⟩ := open_bools hf0
  simp [Value.cells] at hc
  subst hc
  exact ⟨l, hat⟩
end
end Go.Proofs.Ytgikbpaejmdnoaa
