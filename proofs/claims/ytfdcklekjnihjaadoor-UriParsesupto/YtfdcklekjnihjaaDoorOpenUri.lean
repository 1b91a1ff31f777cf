/-
  A URI that comes in, opened: its texts, its port, its two lists of parameters.
-/
import Derived.Test.YtfdcklekjnihjaaDoorParams
import Derived.Deep.Slices
import Derived.ChangeArms
namespace Go.Proofs.YtfdcklekjnihjaaDoor
open Go.RowKit Go.ChangeShapes Go.WideShapes Go.Deep
set_option linter.unusedVariables false
set_option maxRecDepth 20000

def parD {H : Type} (p : Par) : DataW H := .agg [.lit (.string p.name), .lit (.string p.value), .lit (.bool p.has)]
def ParD {H : Type} (d : DataW H) (ps : List Par) : Prop := (d = .nil ∧ ps = []) ∨ ∃ sp, d = .slice (ps.map parD) sp
theorem cellsPar : Tryd.prog.cellsOf 66 = 3 := by kernel_rfl
theorem cellsUri : Tryd.prog.cellsOf 31 = 6 := by kernel_rfl
theorem cellsStr : Tryd.prog.cellsOf 9 = 1 := by kernel_rfl
theorem cellsBool : Tryd.prog.cellsOf 4 = 1 := by kernel_rfl
theorem cellsInt : Tryd.prog.cellsOf 3 = 1 := by kernel_rfl
theorem cellsPars : Tryd.prog.cellsOf 29 = 1 := by kernel_rfl
theorem back (s : ByteArray) : (⟨s.data.toList.toArray⟩ : ByteArray) = s := by apply ByteArray.ext; simp

section
variable {H : Type} {enc : TypeId × Value → H} {W : World} {sp : Nat → Bool}

theorem open_par {fuel : Nat} {cs : List Value} {x : DataW H × List MemPlace} (h : DataW.trod enc Tryd.prog W 0 sp true fuel 66 cs = some x) :
    ∃ p : Par, cs = parCells p ∧ x.1 = parD p := by
  obtain ⟨xs, n, _, rfl, hl, hlen, hf⟩ := DataW.trod_struct Tryd.underlying66 h
  rw [cellsPar] at hl
  match cs, hl, xs, hlen with
  | [c0, c1, c2], _, [y0, y1, y2], _ =>
    have f0 := hf 0 _ rfl
    have f1 := hf 1 _ rfl
    have f2 := hf 2 _ rfl
    simp [cellsStr, cellsBool] at f0 f1 f2
    obtain ⟨s0, e0, rfl, _⟩ := DataW.trod_string Tryd.underlying9 f0
    obtain ⟨s1, e1, rfl, _⟩ := DataW.trod_string Tryd.underlying9 f1
    obtain ⟨b2, e2, rfl⟩ := DataW.trod_bool Tryd.underlying4 f2
    simp only [List.cons.injEq, and_true] at e0 e1 e2
    subst e0 e1 e2
    exact ⟨⟨s0.data.toList, s1.data.toList, b2⟩, by simp [parCells], rfl⟩

theorem open_pars {fuel : Nat} {cs : List Value} {x : DataW H × List MemPlace} (h : DataW.trod enc Tryd.prog W 0 sp true fuel 29 cs = some x) :
    ∃ (v : Value) (ps : List Par), cs = [v] ∧ ParsAt W v ps ∧ ParD x.1 ps := by
  rcases open_slice Tryd.underlying29 h with ⟨rfl, rfl⟩ | ⟨a, len, cap, m, n, D, Pl, rfl, _, hlc, hcm, hm, rfl, hall⟩
  · exact ⟨_, [], rfl, Or.inl ⟨rfl, rfl⟩, Or.inl ⟨rfl, rfl⟩⟩
  · have hlm : len ≤ m := by rw [hm]; split <;> omega
    have each : ∀ i, i < len → ∃ p : Par, D i = parD p ∧ (a.block < W.heap.size ∧ ParAt W a i p) := by
      intro i hi
      obtain ⟨cs', h1, h2⟩ := hall i (by omega)
      obtain ⟨p, rfl, hd⟩ := open_par h2
      rw [cellsPar] at h1
      obtain ⟨_, _, hc⟩ := World.cells?_some h1
      have c0 := hc 0 (by omega)
      have c1 := hc 1 (by omega)
      have c2 := hc 2 (by omega)
      refine ⟨p, hd, ?_, ?_, ?_, ?_⟩
      · have hc0 : W.cell? (a.add (i * 3)) = some (.string ⟨p.name.toArray⟩) := by simpa [Addr.add, parCells] using c0
        have : (a.add (i * 3)).block < W.heap.size := by
          unfold World.cell? at hc0
          cases hh : W.heap[(a.add (i * 3)).block]? with
          | none => simp [hh] at hc0
          | some o => exact (Array.getElem?_eq_some_iff.1 hh).1
        rwa [add_block] at this
      · simpa [Addr.add, parCells] using c0
      · simpa [Addr.add, parCells] using c1
      · simpa [Addr.add, parCells] using c2
    obtain ⟨f, hf⟩ := @choose_lt Par ⟨⟨[], [], false⟩⟩ len _ each
    refine ⟨_, (List.range len).map f, rfl, Or.inr ⟨a, cap, by simp, fun k hk => ?_⟩, Or.inr ⟨(List.range (m - len)).map fun j => D (len + j), ?_⟩⟩
    · simp at hk
      simpa using (hf k hk).2
    · simp only [List.map_map]
      congr 1
      apply List.map_congr_left
      intro i hi
      exact (hf i (by simpa using hi)).1

theorem open_uri {r : Reach} {b0 : Nat} {v : Value} {d : DataW H} {p : List MemPlace} (hv : Value.okWide Tryd.prog W r b0 31 v) (h : DataW.Trod enc Tryd.prog W 0 sp true 31 v d p) :
    ∃ (u : Uri) (pv hv' : Value) (dp dh : DataW H), v = uriV u pv hv' ∧ ParsAt W pv u.params ∧ ParsAt W hv' u.headers ∧
      d = .agg [.lit (.string u.scheme), .lit (.string u.user), .lit (.string u.host), .lit (.int .i64 u.port), dp, dh] ∧ ParD dp u.params ∧ ParD dh u.headers ∧ (Lit.int .i64 u.port).wf = true := by
  obtain ⟨cs, rfl, hsz⟩ := okWide_struct Tryd.underlying31 hv
  obtain ⟨fuel, hf0⟩ := h
  obtain ⟨xs, n, _, hx, hl, hlen, hf⟩ := DataW.trod_struct Tryd.underlying31 hf0
  rw [cellsUri] at hsz
  obtain ⟨l⟩ := cs
  match l, hsz, xs, hlen with
  | [c0, c1, c2, c3, c4, c5], _, [y0, y1, y2, y3, y4, y5], _ =>
    have f0 := hf 0 _ rfl
    have f1 := hf 1 _ rfl
    have f2 := hf 2 _ rfl
    have f3 := hf 3 _ rfl
    have f4 := hf 4 _ rfl
    have f5 := hf 5 _ rfl
    simp [cellsStr, cellsInt, cellsPars, Value.cells] at f0 f1 f2 f3 f4 f5
    obtain ⟨s0, e0, rfl, _⟩ := DataW.trod_string Tryd.underlying9 f0
    obtain ⟨s1, e1, rfl, _⟩ := DataW.trod_string Tryd.underlying9 f1
    obtain ⟨s2, e2, rfl, _⟩ := DataW.trod_string Tryd.underlying9 f2
    obtain ⟨i3, e3, rfl, w3⟩ := DataW.trod_int Tryd.underlying3 f3
    obtain ⟨v4, p4, e4, a4, d4⟩ := open_pars f4
    obtain ⟨v5, p5, e5, a5, d5⟩ := open_pars f5
    simp only [List.cons.injEq, and_true] at e0 e1 e2 e3 e4 e5
    subst e0 e1 e2 e3 e4 e5
    simp only [Prod.mk.injEq] at hx
    exact ⟨⟨s0.data.toList, s1.data.toList, s2.data.toList, i3, p4, p5⟩, c4, c5, y4.1, y5.1, by simp [uriV], a4, a5, by simpa using hx.1, d4, d5, w3⟩

/-- No text and no list of it is longer than B. -/
def SmallP (B : Nat) (ps : List Par) : Prop := ps.length ≤ B ∧ ∀ p ∈ ps, p.name.length ≤ B ∧ p.value.length ≤ B
def SmallU (B : Nat) (u : Uri) : Prop := u.scheme.length ≤ B ∧ u.user.length ≤ B ∧ u.host.length ≤ B ∧ SmallP B u.params ∧ SmallP B u.headers
/-- A URI that came in. -/
def UriIn (B : Nat) (W : World) (v : Value) : Prop :=
  ∃ (u : Uri) (pv hv : Value), v = uriV u pv hv ∧ ParsAt W pv u.params ∧ ParsAt W hv u.headers ∧ SmallU B u ∧ (Lit.int .i64 u.port).wf = true

theorem bytesPar : Tryd.prog.bytesOf 66 = 40 := by kernel_rfl
theorem par_weights (p : Par) : (parD (H := H) p).weights Tryd.prog 66 = [p.name.length, p.value.length] := by
  simp [parD, DataW.weights, Tryd.underlying66, DataW.weightsEach]
theorem pars_weights (ps : List Par) : ∀ p ∈ ps, p.name.length ∈ DataW.weightsAll Tryd.prog 66 (ps.map (parD (H := H))) ∧ p.value.length ∈ DataW.weightsAll Tryd.prog 66 (ps.map (parD (H := H))) := by
  induction ps with
  | nil => simp
  | cons q ps ih =>
    intro p hp
    simp only [List.map_cons, DataW.weightsAll, List.mem_append]
    rcases List.mem_cons.1 hp with rfl | hp
    · exact ⟨Or.inl (by rw [par_weights]; simp), Or.inl (by rw [par_weights]; simp)⟩
    · exact ⟨Or.inr (ih p hp).1, Or.inr (ih p hp).2⟩
theorem small_said {B : Nat} {d : DataW H} {ps : List Par} (hd : ParD d ps) (hz : ∀ n ∈ d.weights Tryd.prog 29, n ≤ B) : SmallP B ps := by
  rcases hd with ⟨rfl, rfl⟩ | ⟨sp, rfl⟩
  · exact ⟨by simp, by simp⟩
  · simp only [DataW.weights, Tryd.underlying29, bytesPar] at hz
    refine ⟨?_, fun p hp => ⟨?_, ?_⟩⟩
    · have := hz _ (List.mem_cons_self ..)
      simp at this; omega
    · exact hz _ (List.mem_cons_of_mem _ (List.mem_append.2 (Or.inl (pars_weights ps p hp).1)))
    · exact hz _ (List.mem_cons_of_mem _ (List.mem_append.2 (Or.inl (pars_weights ps p hp).2)))
theorem uri_said {B : Nat} {r : Reach} {b0 : Nat} {v : Value} {d : DataW H} {p : List MemPlace} (hv : Value.okWide Tryd.prog W r b0 31 v) (h : DataW.Trod enc Tryd.prog W 0 sp true 31 v d p)
    (hz : ∀ n ∈ d.weights Tryd.prog 31, n ≤ B) : UriIn B W v := by
  obtain ⟨u, pv, hv', dp, dh, rfl, a1, a2, rfl, d1, d2, wf⟩ := open_uri hv h
  simp only [DataW.weights, Tryd.underlying31, List.map_cons, List.map_nil, DataW.weightsEach] at hz
  refine ⟨u, pv, hv', rfl, a1, a2, ⟨hz _ (by simp), hz _ (by simp), hz _ (by simp), small_said d1 fun n hn => hz n (by simp [hn]), small_said d2 fun n hn => hz n (by simp [hn])⟩, wf⟩
theorem bulk_pars (ps : List Par) : (∀ p ∈ ps, p.name.length + p.value.length + 1 ≤ Rows.uptoBulkAll (ps.map (parD (H := H)))) ∧ ps.length ≤ Rows.uptoBulkAll (ps.map (parD (H := H))) := by
  induction ps with
  | nil => simp
  | cons q ps ih =>
    simp only [List.map_cons, Rows.uptoBulkAll, parD, Rows.uptoBulk] at ih ⊢
    refine ⟨fun p hp => ?_, by simp; omega⟩
    rcases List.mem_cons.1 hp with rfl | hp
    · omega
    · have := ih.1 p hp; omega
theorem small_upto {B : Nat} {d : DataW H} {ps : List Par} (hd : ParD d ps) (hz : Rows.uptoBulk d ≤ B) : SmallP B ps := by
  rcases hd with ⟨rfl, rfl⟩ | ⟨sp, rfl⟩
  · exact ⟨by simp, by simp⟩
  · simp only [Rows.uptoBulk] at hz
    have hb := bulk_pars (H := H) ps
    exact ⟨by omega, fun p hp => by have := hb.1 p hp; omega⟩
theorem uri_upto {B : Nat} {r : Reach} {b0 : Nat} {v : Value} {d : DataW H} {p : List MemPlace} (hv : Value.okWide Tryd.prog W r b0 31 v) (h : DataW.Trod enc Tryd.prog W 0 sp true 31 v d p)
    (hz : Rows.uptoBulk d ≤ B) : UriIn B W v := by
  obtain ⟨u, pv, hv', dp, dh, rfl, a1, a2, rfl, d1, d2, wf⟩ := open_uri hv h
  simp only [Rows.uptoBulkAll, Rows.uptoBulk] at hz
  exact ⟨u, pv, hv', rfl, a1, a2, ⟨by omega, by omega, by omega, small_upto d1 (by omega), small_upto d2 (by omega)⟩, wf⟩

end
end Go.Proofs.YtfdcklekjnihjaaDoor
