/-
  Base texts, one behind another: OpenUri, OpenNode, RefEsc.
-/
import Derived.Test.YtnijlmkodgdhlaaDoorYF
import Derived.Deep.Slices
import Derived.ChangeArms
import Derived.Test.YtnijlmkodgdhlaaDoorYI
import Derived.OpenShut
import Derived.Test.YtnijlmkodgdhlaaDoorYD

/-
  A URI that comes in, opened: its texts, its port, its two lists of parameters.
-/
namespace Go.Proofs.YtnijlmkodgdhlaaDoor
open Go.RowKit Go.ChangeShapes Go.WideShapes Go.Deep
set_option linter.unusedVariables false
set_option maxRecDepth 20000

def parD {H : Type} (p : Par) : DataW H := .agg [.lit (.string p.name), .lit (.string p.value), .lit (.bool p.has)]
def ParD {H : Type} (d : DataW H) (ps : List Par) : Prop := (d = .nil ∧ ps = []) ∨ ∃ sp, d = .slice (ps.map parD) sp
theorem cellsPar : Tryd.prog.cellsOf 45 = 3 := by kernel_rfl
theorem cellsStr : Tryd.prog.cellsOf 9 = 1 := by kernel_rfl
theorem cellsBool : Tryd.prog.cellsOf 4 = 1 := by kernel_rfl
theorem cellsInt : Tryd.prog.cellsOf 3 = 1 := by kernel_rfl
theorem cellsPars : Tryd.prog.cellsOf 46 = 1 := by kernel_rfl
theorem back (s : ByteArray) : (⟨s.data.toList.toArray⟩ : ByteArray) = s := by apply ByteArray.ext; simp

section
variable {H : Type} {enc : TypeId × Value → H} {W : World} {sp : Nat → Bool}

theorem open_par {fuel : Nat} {cs : List Value} {x : DataW H × List MemPlace} (h : DataW.trod enc Tryd.prog W 0 sp true fuel 45 cs = some x) :
    ∃ p : Par, cs = parCells p ∧ x.1 = parD p := by
  obtain ⟨xs, n, _, rfl, hl, hlen, hf⟩ := DataW.trod_struct Tryd.underlying45 h
  rw [cellsPar] at hl
  match cs, hl, xs, hlen with
  | [c0, c1, c2], _, [y0, y1, y2], _ =>
    have f0 := hf 0 _ rfl
    have f1 := hf 1 _ rfl
    have f2 := hf 2 _ rfl
    simp [cellsStr, cellsBool] at f0 f1 f2
    obtain ⟨s0, e0, rfl, _⟩ := DataW.trod_string Tryd.underlying9 f0
    obtain ⟨s1, e1, rfl, _⟩ := DataW.trod_string Tryd.underlying9 f1
    obtain ⟨b2, e2, rfl⟩ := DataW.trod_bool Tryd.underlying4 f2
    simp only [List.cons.injEq, and_true] at e0 e1 e2
    subst e0 e1 e2
    exact ⟨⟨s0.data.toList, s1.data.toList, b2⟩, by simp [parCells], rfl⟩

theorem open_pars {fuel : Nat} {cs : List Value} {x : DataW H × List MemPlace} (h : DataW.trod enc Tryd.prog W 0 sp true fuel 46 cs = some x) :
    ∃ (v : Value) (ps : List Par), cs = [v] ∧ ParsAt W v ps ∧ ParD x.1 ps := by
  rcases open_slice Tryd.underlying46 h with ⟨rfl, rfl⟩ | ⟨a, len, cap, m, n, D, Pl, rfl, _, hlc, hcm, hm, rfl, hall⟩
  · exact ⟨_, [], rfl, Or.inl ⟨rfl, rfl⟩, Or.inl ⟨rfl, rfl⟩⟩
  · have hlm : len ≤ m := by rw [hm]; split <;> omega
    have each : ∀ i, i < len → ∃ p : Par, D i = parD p ∧ (a.block < W.heap.size ∧ ParAt W a i p) := by
      intro i hi
      obtain ⟨cs', h1, h2⟩ := hall i (by omega)
      obtain ⟨p, rfl, hd⟩ := open_par h2
      rw [cellsPar] at h1
      obtain ⟨_, _, hc⟩ := World.cells?_some h1
      have c0 := hc 0 (by omega)
      have c1 := hc 1 (by omega)
      have c2 := hc 2 (by omega)
      refine ⟨p, hd, ?_, ?_, ?_, ?_⟩
      · have hc0 : W.cell? (a.add (i * 3)) = some (.string ⟨p.name.toArray⟩) := by simpa [Addr.add, parCells] using c0
        have : (a.add (i * 3)).block < W.heap.size := by
          unfold World.cell? at hc0
          cases hh : W.heap[(a.add (i * 3)).block]? with
          | none => simp [hh] at hc0
          | some o => exact (Array.getElem?_eq_some_iff.1 hh).1
        rwa [add_block] at this
      · simpa [Addr.add, parCells] using c0
      · simpa [Addr.add, parCells] using c1
      · simpa [Addr.add, parCells] using c2
    obtain ⟨f, hf⟩ := @choose_lt Par ⟨⟨[], [], false⟩⟩ len _ each
    refine ⟨_, (List.range len).map f, rfl, Or.inr ⟨a, cap, by simp, fun k hk => ?_⟩, Or.inr ⟨(List.range (m - len)).map fun j => D (len + j), ?_⟩⟩
    · simp at hk
      simpa using (hf k hk).2
    · simp only [List.map_map]
      congr 1
      apply List.map_congr_left
      intro i hi
      exact (hf i (by simpa using hi)).1

/-- No text and no list of it is longer than B. -/
def SmallP (B : Nat) (ps : List Par) : Prop := ps.length ≤ B ∧ ∀ p ∈ ps, p.name.length ≤ B ∧ p.value.length ≤ B
def SmallU (B : Nat) (u : Uri) : Prop := u.scheme.length ≤ B ∧ u.user.length ≤ B ∧ u.host.length ≤ B ∧ SmallP B u.params ∧ SmallP B u.headers
/-- A URI that came in. -/
def UriIn (B : Nat) (W : World) (v : Value) : Prop :=
  ∃ (u : Uri) (pv hv : Value), v = uriV u pv hv ∧ ParsAt W pv u.params ∧ ParsAt W hv u.headers ∧ SmallU B u ∧ (Lit.int .i64 u.port).wf = true

theorem bytesPar : Tryd.prog.bytesOf 45 = 40 := by kernel_rfl
theorem par_weights (p : Par) : (parD (H := H) p).weights Tryd.prog 45 = [p.name.length, p.value.length] := by
  simp [parD, DataW.weights, Tryd.underlying45, DataW.weightsEach]
theorem pars_weights (ps : List Par) : ∀ p ∈ ps, p.name.length ∈ DataW.weightsAll Tryd.prog 45 (ps.map (parD (H := H))) ∧ p.value.length ∈ DataW.weightsAll Tryd.prog 45 (ps.map (parD (H := H))) := by
  induction ps with
  | nil => simp
  | cons q ps ih =>
    intro p hp
    simp only [List.map_cons, DataW.weightsAll, List.mem_append]
    rcases List.mem_cons.1 hp with rfl | hp
    · exact ⟨Or.inl (by rw [par_weights]; simp), Or.inl (by rw [par_weights]; simp)⟩
    · exact ⟨Or.inr (ih p hp).1, Or.inr (ih p hp).2⟩
theorem small_said {B : Nat} {d : DataW H} {ps : List Par} (hd : ParD d ps) (hz : ∀ n ∈ d.weights Tryd.prog 46, n ≤ B) : SmallP B ps := by
  rcases hd with ⟨rfl, rfl⟩ | ⟨sp, rfl⟩
  · exact ⟨by simp, by simp⟩
  · simp only [DataW.weights, Tryd.underlying46, bytesPar] at hz
    refine ⟨?_, fun p hp => ⟨?_, ?_⟩⟩
    · have := hz _ (List.mem_cons_self ..)
      simp at this; omega
    · exact hz _ (List.mem_cons_of_mem _ (List.mem_append.2 (Or.inl (pars_weights ps p hp).1)))
    · exact hz _ (List.mem_cons_of_mem _ (List.mem_append.2 (Or.inl (pars_weights ps p hp).2)))
theorem bulk_pars (ps : List Par) : (∀ p ∈ ps, p.name.length + p.value.length + 1 ≤ Rows.uptoBulkAll (ps.map (parD (H := H)))) ∧ ps.length ≤ Rows.uptoBulkAll (ps.map (parD (H := H))) := by
  induction ps with
  | nil => simp
  | cons q ps ih =>
    simp only [List.map_cons, Rows.uptoBulkAll, parD, Rows.uptoBulk] at ih ⊢
    refine ⟨fun p hp => ?_, by simp; omega⟩
    rcases List.mem_cons.1 hp with rfl | hp
    · omega
    · have := ih.1 p hp; omega
theorem small_upto {B : Nat} {d : DataW H} {ps : List Par} (hd : ParD d ps) (hz : Rows.uptoBulk d ≤ B) : SmallP B ps := by
  rcases hd with ⟨rfl, rfl⟩ | ⟨sp, rfl⟩
  · exact ⟨by simp, by simp⟩
  · simp only [Rows.uptoBulk] at hz
    have hb := bulk_pars (H := H) ps
    exact ⟨by omega, fun p hp => by have := hb.1 p hp; omega⟩
end
end Go.Proofs.YtnijlmkodgdhlaaDoor

/-
  Elements of XML that come in, opened.
-/
namespace Go.Proofs.YtnijlmkodgdhlaaDoor
open Go.RowKit Go.ChangeShapes Go.WideShapes Go.Deep
set_option linter.unusedVariables false
set_option maxRecDepth 20000
set_option linter.unusedSimpArgs false

/-- An element, and the slice of its attributes. -/
structure NdC where
  nd : Nd
  a : Value
def ndCells (c : NdC) : List Value := [.int .i64 c.nd.deep, .string ⟨c.nd.name.toArray⟩, c.a, .string ⟨c.nd.text.toArray⟩]
def ndV (x : Nd) (a : Value) : Value := .agg #[.int .i64 x.deep, .string ⟨x.name.toArray⟩, a, .string ⟨x.text.toArray⟩]
/-- The element at place k of the row at ad. -/
structure NdAt (w : World) (ad : Addr) (k : Nat) (c : NdC) : Prop where
  c0 : w.cell? (ad.add (k * 4)) = some (.int .i64 c.nd.deep)
  c1 : w.cell? ⟨(ad.add (k * 4)).block, (ad.add (k * 4)).off + 1, none⟩ = some (.string ⟨c.nd.name.toArray⟩)
  c2 : w.cell? ⟨(ad.add (k * 4)).block, (ad.add (k * 4)).off + 2, none⟩ = some c.a
  c3 : w.cell? ⟨(ad.add (k * 4)).block, (ad.add (k * 4)).off + 3, none⟩ = some (.string ⟨c.nd.text.toArray⟩)
theorem NdAt.below {B : Nat} {w w' : World} {ad : Addr} {k : Nat} {c : NdC} (h : NdAt w ad k c) (hb : Below B w w') (ha : ad.block < B) : NdAt w' ad k c :=
  ⟨cell_below hb (by rw [add_block]; exact ha) h.c0, cell_below hb (by simp only [add_block]; exact ha) h.c1, cell_below hb (by simp only [add_block]; exact ha) h.c2, cell_below hb (by simp only [add_block]; exact ha) h.c3⟩
/-- The slice v shows the elements cs. -/
def NdsAt (w : World) (v : Value) (cs : List NdC) : Prop :=
  ∃ (ao : Option Addr) (cap : Nat), v = .slice ao cs.length cap ∧ ∀ k (hk : k < cs.length), ∃ ad, ao = some ad ∧ ad.block < w.heap.size ∧ NdAt w ad k cs[k] ∧ ParsAt w cs[k].a cs[k].nd.attrs
theorem NdsAt.below {w w' : World} {v : Value} {cs : List NdC} (h : NdsAt w v cs) (hb : Below w.heap.size w w') : NdsAt w' v cs := by
  obtain ⟨ao, cap, hv, hc⟩ := h
  refine ⟨ao, cap, hv, fun k hk => ?_⟩
  obtain ⟨ad, e, hlt, hcell, hp⟩ := hc k hk
  exact ⟨ad, e, Nat.lt_of_lt_of_le hlt hb.size, hcell.below hb hlt, hp.below hb⟩
theorem NdsAt.form {w : World} {v : Value} {cs : List NdC} (h : NdsAt w v cs) : ∃ a cap, v = .slice a cs.length cap := by
  obtain ⟨ao, cap, hv, _⟩ := h
  exact ⟨ao, cap, hv⟩
def ndsL (cs : List NdC) : List Nd := cs.map NdC.nd
theorem ndsL_len (cs : List NdC) : (ndsL cs).length = cs.length := by simp [ndsL]
def SmallN (B : Nat) (x : Nd) : Prop := x.name.length ≤ B ∧ x.text.length ≤ B ∧ SmallP B x.attrs ∧ (Lit.int .i64 x.deep).wf = true
theorem cellsNode : Tryd.prog.cellsOf 48 = 4 := by kernel_rfl
theorem bytesNode : 1 ≤ Tryd.prog.bytesOf 48 := of_decide_eq_true (by kernel_rfl)
def NdsIn (B : Nat) (W : World) (v : Value) : Prop := ∃ cs : List NdC, NdsAt W v cs ∧ cs.length ≤ B ∧ ∀ c ∈ cs, SmallN B c.nd
section
variable {H : Type} {enc : TypeId × Value → H} {W : World} {sp : Nat → Bool}
def NdD (d : DataW H) (x : Nd) : Prop := ∃ da, d = .agg [.lit (.int .i64 x.deep), .lit (.string x.name), da, .lit (.string x.text)] ∧ ParD da x.attrs
theorem open_node {fuel : Nat} {cs : List Value} {x : DataW H × List MemPlace} (h : DataW.trod enc Tryd.prog W 0 sp true fuel 48 cs = some x) :
    ∃ c : NdC, cs = ndCells c ∧ ParsAt W c.a c.nd.attrs ∧ NdD x.1 c.nd ∧ (Lit.int .i64 c.nd.deep).wf = true := by
  obtain ⟨xs, n, _, hx, hl, hlen, hf⟩ := DataW.trod_struct Tryd.underlying48 h
  rw [cellsNode] at hl
  match cs, hl, xs, hlen with
  | [c0, c1, c2, c3], _, [y0, y1, y2, y3], _ =>
    have f0 := hf 0 _ rfl
    have f1 := hf 1 _ rfl
    have f2 := hf 2 _ rfl
    have f3 := hf 3 _ rfl
    simp [cellsStr, cellsInt, cellsPars] at f0 f1 f2 f3
    obtain ⟨i0, e0, rfl, w0⟩ := DataW.trod_int Tryd.underlying3 f0
    obtain ⟨s1, e1, rfl, _⟩ := DataW.trod_string Tryd.underlying9 f1
    obtain ⟨v2, p2, e2, a2, d2⟩ := open_pars f2
    obtain ⟨s3, e3, rfl, _⟩ := DataW.trod_string Tryd.underlying9 f3
    simp only [List.cons.injEq, and_true] at e0 e1 e2 e3
    subst e0 e1 e2 e3
    subst hx
    exact ⟨⟨⟨i0, s1.data.toList, p2, s3.data.toList⟩, c2⟩, by simp [ndCells], a2, ⟨y2.1, by simp, d2⟩, w0⟩
theorem open_nds {fuel : Nat} {cs : List Value} {x : DataW H × List MemPlace} (h : DataW.trod enc Tryd.prog W 0 sp true fuel 22 cs = some x) :
    ∃ (v : Value) (al : List NdC), cs = [v] ∧ NdsAt W v al ∧ (∀ c ∈ al, (Lit.int .i64 c.nd.deep).wf = true) ∧ ((x.1 = .nil ∧ al = []) ∨ ∃ ds sp, x.1 = .slice ds sp ∧ ds.length = al.length ∧ ∀ k (hk : k < al.length) (hd : k < ds.length), NdD ds[k] al[k].nd) := by
  rcases open_slice Tryd.underlying22 h with ⟨rfl, rfl⟩ | ⟨a, len, cap, m, n, D, Pl, rfl, _, hlc, hcm, hm, rfl, hall⟩
  · exact ⟨_, [], rfl, ⟨none, 0, rfl, fun k hk => by simp at hk⟩, fun c hc => by simp at hc, Or.inl ⟨rfl, rfl⟩⟩
  · have hlm : len ≤ m := by rw [hm]; split <;> omega
    have each : ∀ i, i < len → ∃ c : NdC, NdD (D i) c.nd ∧ ((Lit.int .i64 c.nd.deep).wf = true ∧ a.block < W.heap.size ∧ NdAt W a i c ∧ ParsAt W c.a c.nd.attrs) := by
      intro i hi
      obtain ⟨cs', h1, h2⟩ := hall i (by omega)
      obtain ⟨c, rfl, hat, hd, hw⟩ := open_node h2
      rw [cellsNode] at h1
      obtain ⟨_, _, hc⟩ := World.cells?_some h1
      have c0 := hc 0 (by omega)
      have c1 := hc 1 (by omega)
      have c2 := hc 2 (by omega)
      have c3 := hc 3 (by omega)
      have hc0 : W.cell? (a.add (i * 4)) = some (.int .i64 c.nd.deep) := by simpa [Addr.add, ndCells] using c0
      refine ⟨c, hd, hw, ?_, ⟨hc0, ?_, ?_, ?_⟩, hat⟩
      · have : (a.add (i * 4)).block < W.heap.size := by
          unfold World.cell? at hc0
          cases hh : W.heap[(a.add (i * 4)).block]? with
          | none => simp [hh] at hc0
          | some o => exact (Array.getElem?_eq_some_iff.1 hh).1
        rwa [add_block] at this
      · simpa [Addr.add, ndCells] using c1
      · simpa [Addr.add, ndCells] using c2
      · simpa [Addr.add, ndCells] using c3
    obtain ⟨f, hf⟩ := @choose_lt NdC ⟨⟨⟨0, [], [], []⟩, .slice none 0 0⟩⟩ len _ each
    refine ⟨_, (List.range len).map f, rfl, ⟨some a, cap, by simp, fun k hk => ?_⟩, fun c hc => ?_, Or.inr ⟨_, _, rfl, by simp, fun k hk hd => ?_⟩⟩
    · simp at hk
      obtain ⟨_, _, h2, h3, h4⟩ := hf k hk
      exact ⟨a, rfl, h2, by simpa using h3, by simpa using h4⟩
    · obtain ⟨i, hi, rfl⟩ := List.mem_map.1 hc
      exact (hf i (by simpa using hi)).2.1
    · simp at hk
      simpa using (hf k hk).1
theorem ndD_said {B : Nat} {d : DataW H} {x : Nd} (hd : NdD d x) (hw : (Lit.int .i64 x.deep).wf = true) (hz : ∀ n ∈ d.weights Tryd.prog 48, n ≤ B) : SmallN B x := by
  obtain ⟨da, rfl, d1⟩ := hd
  simp only [DataW.weights, Tryd.underlying48, List.map_cons, List.map_nil, DataW.weightsEach] at hz
  exact ⟨hz _ (by simp), hz _ (by simp), small_said d1 fun n hn => hz n (by simp [hn]), hw⟩
theorem ndD_upto {B : Nat} {d : DataW H} {x : Nd} (hd : NdD d x) (hw : (Lit.int .i64 x.deep).wf = true) (hz : Rows.uptoBulk d ≤ B) : SmallN B x := by
  obtain ⟨da, rfl, d1⟩ := hd
  simp only [Rows.uptoBulkAll, Rows.uptoBulk] at hz
  exact ⟨by omega, by omega, small_upto d1 (by omega), hw⟩
theorem weights_allN {t : TypeId} : ∀ (ds : List (DataW H)) (k : Nat) (hk : k < ds.length) (n : Nat), n ∈ ds[k].weights Tryd.prog t → n ∈ DataW.weightsAll Tryd.prog t ds
  | [], k, hk, n, h => by simp at hk
  | d :: ds, 0, hk, n, h => by simp only [DataW.weightsAll, List.mem_append]; exact Or.inl h
  | d :: ds, k + 1, hk, n, h => by simp only [DataW.weightsAll, List.mem_append]; exact Or.inr (weights_allN ds k (by simpa using hk) n h)
theorem bulk_all : ∀ (ds : List (DataW H)), ds.length ≤ Rows.uptoBulkAll ds ∧ ∀ k (hk : k < ds.length), Rows.uptoBulk ds[k] ≤ Rows.uptoBulkAll ds
  | [] => ⟨by simp, fun k hk => by simp at hk⟩
  | d :: ds => by
    obtain ⟨i1, i2⟩ := bulk_all ds
    have h2 : 1 ≤ Rows.uptoBulk d := by unfold Rows.uptoBulk; split <;> omega
    simp only [Rows.uptoBulkAll, List.length_cons]
    refine ⟨by omega, fun k hk => ?_⟩
    cases k with
    | zero => simp only [List.getElem_cons_zero]; omega
    | succ k => have := i2 k (by simpa using hk); simp only [List.getElem_cons_succ]; omega
theorem nds_said {B : Nat} {r : Reach} {b0 : Nat} {v : Value} {d : DataW H} {p : List MemPlace} (hv : Value.okWide Tryd.prog W r b0 22 v) (h : DataW.Trod enc Tryd.prog W 0 sp true 22 v d p)
    (hz : ∀ n ∈ d.weights Tryd.prog 22, n ≤ B) : NdsIn B W v := by
  obtain ⟨a, len, cap, rfl⟩ := okWide_slice Tryd.underlying22 hv
  obtain ⟨fuel, hf0⟩ := h
  obtain ⟨v', al, hc, hat, hw, hd⟩ := open_nds hf0
  simp [Value.cells] at hc
  subst hc
  refine ⟨al, hat, ?_⟩
  rcases hd with ⟨_, rfl⟩ | ⟨ds, sp, hd, hl, hk⟩
  · simp
  · simp only at hd
    subst hd
    simp only [DataW.weights, Tryd.underlying22] at hz
    refine ⟨?_, fun c hc => ?_⟩
    · have h1 := hz _ (List.mem_cons_self ..)
      have h2 := bytesNode
      rw [← hl]
      refine Nat.le_trans ?_ h1
      refine Nat.le_trans (Nat.le_add_right ds.length sp.length) ?_
      exact Nat.le_mul_of_pos_right _ h2
    · obtain ⟨k, hkl, rfl⟩ := List.mem_iff_getElem.1 hc
      exact ndD_said (hk k hkl (by omega)) (hw _ (List.getElem_mem hkl)) fun n hn => hz n (List.mem_cons_of_mem _ (List.mem_append.2 (Or.inl (weights_allN ds k (by omega) n hn))))
theorem nds_upto {B : Nat} {r : Reach} {b0 : Nat} {v : Value} {d : DataW H} {p : List MemPlace} (hv : Value.okWide Tryd.prog W r b0 22 v) (h : DataW.Trod enc Tryd.prog W 0 sp true 22 v d p)
    (hz : Rows.uptoBulk d ≤ B) : NdsIn B W v := by
  obtain ⟨a, len, cap, rfl⟩ := okWide_slice Tryd.underlying22 hv
  obtain ⟨fuel, hf0⟩ := h
  obtain ⟨v', al, hc, hat, hw, hd⟩ := open_nds hf0
  simp [Value.cells] at hc
  subst hc
  refine ⟨al, hat, ?_⟩
  rcases hd with ⟨_, rfl⟩ | ⟨ds, sp, hd, hl, hk⟩
  · simp
  · simp only at hd
    subst hd
    simp only [Rows.uptoBulk] at hz
    obtain ⟨b1, b2⟩ := bulk_all ds
    refine ⟨by omega, fun c hc => ?_⟩
    obtain ⟨k, hkl, rfl⟩ := List.mem_iff_getElem.1 hc
    exact ndD_upto (hk k hkl (by omega)) (hw _ (List.getElem_mem hkl)) (by have := b2 k (by omega); omega)
end
end Go.Proofs.YtnijlmkodgdhlaaDoor

/-
  Contracts of the document's own Escape, worth and Unescape.
-/
namespace Go.Proofs.YtnijlmkodgdhlaaDoor
open Go.RowKit Sc
set_option linter.unusedVariables false
set_option maxRecDepth 20000

theorem hasB_inK (keep : ByteArray) (b : UInt8) : hasB b.toNat keep = inK keep.data.toList b.toNat := by
  rw [hasB, inK]
  congr 1
  funext c
  rw [Bool.eq_iff_iff]; simp
  omega
theorem isB37 : isB 37 16 = false := by decide +kernel

/-- A new block of one cell that holds a digit of sixteen. -/
theorem one_hex (w : World) (e : TypeId) (i : Int) (n : Nat) (hi : i.toNat = n) (h : i.toNat < 16) :
    ∀ (j : Nat) (u : Value), (Lib.byteCells [hexd n])[j]? = some u → (w.alloc (.cells #[.int .u8 ((((ByteArray.mk #[48, 49, 50, 51, 52, 53, 54, 55, 56, 57, 65, 66, 67, 68, 69, 70])[i.toNat]'h).toNat : Nat) : Int)] e)).cell? ((⟨w.heap.size, 0, none⟩ : Addr).add j) = some u := by
  rw [hexi i n hi h]
  exact one_new w e _

theorem one_hexN (w : World) (e : TypeId) (n : Nat) (h : n < 16) :
    ∀ (j : Nat) (u : Value), (Lib.byteCells [hexd n])[j]? = some u → (w.alloc (.cells #[.int .u8 ((((ByteArray.mk #[48, 49, 50, 51, 52, 53, 54, 55, 56, 57, 65, 66, 67, 68, 69, 70])[n]'h).toNat : Nat) : Int)] e)).cell? ((⟨w.heap.size, 0, none⟩ : Addr).add j) = some u := by
  have := hexi (n : Int) n (by omega) (by omega)
  simp only [Int.toNat_natCast] at this
  rw [this]
  exact one_new w e _

end Go.Proofs.YtnijlmkodgdhlaaDoor
