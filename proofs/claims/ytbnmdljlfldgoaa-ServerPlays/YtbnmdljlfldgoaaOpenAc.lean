/-
  Acts of layer 11 that come in, opened: one, and a row of them.
-/
import Derived.Test.YtbnmdljlfldgoaaOwn
import Derived.Test.YtbnmdljlfldgoaaKit
import Derived.Deep.Slices
import Derived.ChangeArms
import Derived.OpenShut
namespace Go.Proofs.Ytbnmdljlfldgoaa
open Go.RowKit Go.ChangeShapes Go.WideShapes Go.Deep
set_option linter.unusedVariables false
set_option maxRecDepth 20000

theorem acadd_block (a : Addr) (k : Nat) : (a.add k).block = a.block := by unfold Addr.add; split <;> rfl
theorem accell_lt {w : World} {a : Addr} {v : Value} (h : w.cell? a = some v) : a.block < w.heap.size := by
  unfold World.cell? at h
  cases hh : w.heap[a.block]? with
  | none => simp [hh] at h
  | some o => exact (Array.getElem?_eq_some_iff.1 hh).1
theorem accell_below {B : Nat} {w w' : World} (h : Below B w w') {a : Addr} (ha : a.block < B) {v : Value} (hc : w.cell? a = some v) : w'.cell? a = some v := by
  rw [World.cell?_of_block (h.block a.block ha)]; exact hc
theorem accInt : Try.prog.cellsOf 3 = 1 := by kernel_rfl
theorem accStr : Try.prog.cellsOf 9 = 1 := by kernel_rfl
theorem accAct : Try.prog.cellsOf 33 = 7 := by kernel_rfl
theorem accBytes : Try.prog.bytesOf 33 = 88 := by kernel_rfl
/-- An act: kind, branch, hop, method, number, tick, text. -/
structure Ac where
  kind : Int
  br : List UInt8
  hop : List UInt8
  me : List UInt8
  id : Int
  now : Int
  tx : List UInt8
def acCells (t : Ac) : List Value := [.int .i64 t.kind, .string ⟨t.br.toArray⟩, .string ⟨t.hop.toArray⟩, .string ⟨t.me.toArray⟩, .int .i64 t.id, .int .i64 t.now, .string ⟨t.tx.toArray⟩]
def acV (t : Ac) : Value := .agg #[.int .i64 t.kind, .string ⟨t.br.toArray⟩, .string ⟨t.hop.toArray⟩, .string ⟨t.me.toArray⟩, .int .i64 t.id, .int .i64 t.now, .string ⟨t.tx.toArray⟩]
structure AcOk (B : Nat) (t : Ac) : Prop where
  kind : (Lit.int .i64 t.kind).wf = true
  id : (Lit.int .i64 t.id).wf = true
  now : (Lit.int .i64 t.now).wf = true
  br : t.br.length ≤ B
  hop : t.hop.length ≤ B
  me : t.me.length ≤ B
  tx : t.tx.length ≤ B
structure AcAt (w : World) (g o : Nat) (t : Ac) : Prop where
  c1 : w.cell? ⟨g, o + 1, none⟩ = some (.string ⟨t.br.toArray⟩)
  c2 : w.cell? ⟨g, o + 2, none⟩ = some (.string ⟨t.hop.toArray⟩)
  c3 : w.cell? ⟨g, o + 3, none⟩ = some (.string ⟨t.me.toArray⟩)
  c4 : w.cell? ⟨g, o + 4, none⟩ = some (.int .i64 t.id)
  c5 : w.cell? ⟨g, o + 5, none⟩ = some (.int .i64 t.now)
  c6 : w.cell? ⟨g, o + 6, none⟩ = some (.string ⟨t.tx.toArray⟩)
theorem AcAt.below {w w' : World} {g o B : Nat} {t : Ac} (h : AcAt w g o t) (hb : Below B w w') (hg : g < B) : AcAt w' g o t :=
  ⟨accell_below hb hg h.c1, accell_below hb hg h.c2, accell_below hb hg h.c3, accell_below hb hg h.c4, accell_below hb hg h.c5, accell_below hb hg h.c6⟩
/-- The slice v shows the acts l. -/
def AcsAt (w : World) (v : Value) (l : List Ac) : Prop :=
  ∃ ao cap, v = .slice ao l.length cap ∧ ∀ k (hk : k < l.length), ∃ a, ao = some a ∧ a.block < w.heap.size ∧ w.cell? (a.add (k * 7)) = some (.int .i64 l[k].kind) ∧ AcAt w (a.add (k * 7)).block (a.add (k * 7)).off l[k]
theorem AcsAt.below {w w' : World} {v : Value} {l : List Ac} (h : AcsAt w v l) (hb : Below w.heap.size w w') : AcsAt w' v l := by
  obtain ⟨ao, cap, hv, hc⟩ := h
  refine ⟨ao, cap, hv, fun k hk => ?_⟩
  obtain ⟨a, ha, hlt, h0, hx⟩ := hc k hk
  exact ⟨a, ha, Nat.lt_of_lt_of_le hlt hb.size, accell_below hb (by rw [acadd_block]; exact hlt) h0, hx.below hb (by rw [acadd_block]; exact hlt)⟩
def AcIn (B : Nat) (W : World) (v : Value) : Prop := ∃ t : Ac, v = acV t ∧ AcOk B t
def AcsIn (B : Nat) (W : World) (v : Value) : Prop := ∃ l : List Ac, AcsAt W v l ∧ ∀ t ∈ l, AcOk B t
section
variable {H : Type} {enc : TypeId × Value → H} {W : World} {sp : Nat → Bool}
def acD (t : Ac) : DataW H := .agg [.lit (.int .i64 t.kind), .lit (.string t.br), .lit (.string t.hop), .lit (.string t.me), .lit (.int .i64 t.id), .lit (.int .i64 t.now), .lit (.string t.tx)]
theorem open_ac {fuel : Nat} {cs : List Value} {x : DataW H × List MemPlace} (h : DataW.trod enc Try.prog W 0 sp true fuel 33 cs = some x) :
    ∃ t : Ac, cs = acCells t ∧ x.1 = acD t ∧ (Lit.int .i64 t.kind).wf = true ∧ (Lit.int .i64 t.id).wf = true ∧ (Lit.int .i64 t.now).wf = true := by
  obtain ⟨xs, n, _, rfl, hl, hlen, hf⟩ := DataW.trod_struct Try.underlying33 h
  rw [accAct] at hl
  match cs, hl, xs, hlen with
  | [c0, c1, c2, c3, c4, c5, c6], _, [y0, y1, y2, y3, y4, y5, y6], _ =>
    have f0 := hf 0 _ rfl
    have f1 := hf 1 _ rfl
    have f2 := hf 2 _ rfl
    have f3 := hf 3 _ rfl
    have f4 := hf 4 _ rfl
    have f5 := hf 5 _ rfl
    have f6 := hf 6 _ rfl
    simp [accInt, accStr] at f0 f1 f2 f3 f4 f5 f6
    obtain ⟨i0, e0, rfl, w0⟩ := DataW.trod_int Try.underlying3 f0
    obtain ⟨s1, e1, rfl, _⟩ := DataW.trod_string Try.underlying9 f1
    obtain ⟨s2, e2, rfl, _⟩ := DataW.trod_string Try.underlying9 f2
    obtain ⟨s3, e3, rfl, _⟩ := DataW.trod_string Try.underlying9 f3
    obtain ⟨i4, e4, rfl, w4⟩ := DataW.trod_int Try.underlying3 f4
    obtain ⟨i5, e5, rfl, w5⟩ := DataW.trod_int Try.underlying3 f5
    obtain ⟨s6, e6, rfl, _⟩ := DataW.trod_string Try.underlying9 f6
    simp only [List.cons.injEq, and_true] at e0 e1 e2 e3 e4 e5 e6
    subst e0 e1 e2 e3 e4 e5 e6
    exact ⟨⟨i0, s1.data.toList, s2.data.toList, s3.data.toList, i4, i5, s6.data.toList⟩, by simp [acCells], by simp [acD], w0, w4, w5⟩
theorem ac_weights (t : Ac) : (acD (H := H) t).weights Try.prog 33 = [t.br.length, t.hop.length, t.me.length, t.tx.length] := by
  simp [acD, DataW.weights, Try.underlying33, DataW.weightsEach]
theorem ac_said {B : Nat} {r : Reach} {b0 : Nat} {v : Value} {d : DataW H} {p : List MemPlace} (hv : Value.okWide Try.prog W r b0 33 v) (h : DataW.Trod enc Try.prog W 0 sp true 33 v d p)
    (hz : ∀ n ∈ d.weights Try.prog 33, n ≤ B) : AcIn B W v := by
  obtain ⟨cs, rfl, hsz⟩ := okWide_struct Try.underlying33 hv
  obtain ⟨fuel, hf0⟩ := h
  obtain ⟨t, hc, hd, w0, w4, w5⟩ := open_ac hf0
  simp only at hd
  rw [hd, ac_weights] at hz
  refine ⟨t, ?_, w0, w4, w5, hz _ (by simp), hz _ (by simp), hz _ (by simp), hz _ (by simp)⟩
  obtain ⟨l⟩ := cs
  simp [Value.cells] at hc
  subst hc
  rfl
def AcD (d : DataW H) (ps : List Ac) : Prop := (d = .nil ∧ ps = []) ∨ ∃ sp, d = .slice (ps.map acD) sp
theorem open_acs {fuel : Nat} {cs : List Value} {x : DataW H × List MemPlace} (h : DataW.trod enc Try.prog W 0 sp true fuel 22 cs = some x) :
    ∃ (v : Value) (l : List Ac), cs = [v] ∧ AcsAt W v l ∧ AcD x.1 l ∧ ∀ t ∈ l, (Lit.int .i64 t.kind).wf = true ∧ (Lit.int .i64 t.id).wf = true ∧ (Lit.int .i64 t.now).wf = true := by
  rcases open_slice Try.underlying22 h with ⟨rfl, rfl⟩ | ⟨a, len, cap, m, n, D, Pl, rfl, _, hlc, hcm, hm, rfl, hall⟩
  · exact ⟨_, [], rfl, ⟨none, 0, rfl, fun k hk => by simp at hk⟩, Or.inl ⟨rfl, rfl⟩, fun t ht => by simp at ht⟩
  · have hlm : len ≤ m := by rw [hm]; split <;> omega
    have each : ∀ i, i < len → ∃ t : Ac, D i = acD t ∧ ((a.block < W.heap.size ∧ W.cell? (a.add (i * 7)) = some (.int .i64 t.kind) ∧ AcAt W (a.add (i * 7)).block (a.add (i * 7)).off t) ∧ (Lit.int .i64 t.kind).wf = true ∧ (Lit.int .i64 t.id).wf = true ∧ (Lit.int .i64 t.now).wf = true) := by
      intro i hi
      obtain ⟨cs', h1, h2⟩ := hall i (by omega)
      obtain ⟨t, rfl, hd, hw⟩ := open_ac h2
      rw [accAct] at h1
      obtain ⟨_, _, hc⟩ := World.cells?_some h1
      have c0 := hc 0 (by omega)
      have c1 := hc 1 (by omega)
      have c2 := hc 2 (by omega)
      have c3 := hc 3 (by omega)
      have c4 := hc 4 (by omega)
      have c5 := hc 5 (by omega)
      have c6 := hc 6 (by omega)
      have hc0 : W.cell? (a.add (i * 7)) = some (.int .i64 t.kind) := by simpa [Addr.add, acCells] using c0
      refine ⟨t, hd, ⟨by have := accell_lt hc0; rwa [acadd_block] at this, hc0, ⟨?_, ?_, ?_, ?_, ?_, ?_⟩⟩, hw⟩
      · simpa [Addr.add, acCells] using c1
      · simpa [Addr.add, acCells] using c2
      · simpa [Addr.add, acCells] using c3
      · simpa [Addr.add, acCells] using c4
      · simpa [Addr.add, acCells] using c5
      · simpa [Addr.add, acCells] using c6
    obtain ⟨f, hf⟩ := @choose_lt Ac ⟨⟨0, [], [], [], 0, 0, []⟩⟩ len _ each
    refine ⟨_, (List.range len).map f, rfl, ⟨some a, cap, by simp, fun k hk => ?_⟩, Or.inr ⟨(List.range (m - len)).map fun j => D (len + j), ?_⟩, fun t ht => ?_⟩
    · simp at hk
      refine ⟨a, rfl, ?_⟩
      simpa using (hf k hk).2.1
    · simp only [List.map_map]
      congr 1
      apply List.map_congr_left
      intro i hi
      exact (hf i (by simpa using hi)).1
    · obtain ⟨i, hi, rfl⟩ := List.mem_map.1 ht
      exact (hf i (by simpa using hi)).2.2
theorem acs_weights (ps : List Ac) : ∀ t ∈ ps, ∀ n ∈ (acD (H := H) t).weights Try.prog 33, n ∈ DataW.weightsAll Try.prog 33 (ps.map (acD (H := H))) := by
  induction ps with
  | nil => intro t ht; simp at ht
  | cons q ps ih =>
    intro t ht n hn
    simp only [List.map_cons, DataW.weightsAll, List.mem_append]
    rcases List.mem_cons.1 ht with rfl | ht
    · exact Or.inl hn
    · exact Or.inr (ih t ht n hn)
theorem acs_said {B : Nat} {r : Reach} {b0 : Nat} {v : Value} {d : DataW H} {p : List MemPlace} (hv : Value.okWide Try.prog W r b0 22 v) (h : DataW.Trod enc Try.prog W 0 sp true 22 v d p)
    (hz : ∀ n ∈ d.weights Try.prog 22, n ≤ B) : AcsIn B W v := by
  obtain ⟨a, len, cap, rfl⟩ := okWide_slice Try.underlying22 hv
  obtain ⟨fuel, hf0⟩ := h
  obtain ⟨v', l, hc, hat, hd, hw⟩ := open_acs hf0
  simp [Value.cells] at hc
  subst hc
  refine ⟨l, hat, fun t ht => ?_⟩
  obtain ⟨w0, w4, w5⟩ := hw t ht
  rcases hd with ⟨_, rfl⟩ | ⟨sp', hd⟩
  · simp at ht
  · simp only at hd
    subst hd
    simp only [DataW.weights, Try.underlying22, accBytes] at hz
    have key : ∀ n ∈ (acD (H := H) t).weights Try.prog 33, n ≤ B := fun n hn => hz n (List.mem_cons_of_mem _ (List.mem_append.2 (Or.inl (acs_weights l t ht n hn))))
    rw [ac_weights] at key
    exact ⟨w0, w4, w5, key _ (by simp), key _ (by simp), key _ (by simp), key _ (by simp)⟩
end
end Go.Proofs.Ytbnmdljlfldgoaa
