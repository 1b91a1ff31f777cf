/-
  Events and states that come in, opened.
-/
import Derived.Test.YtjbfdbccidhdfaaDoorFQ
import Derived.Test.YtjbfdbccidhdfaaDoorHeadL
namespace Go.Proofs.YtjbfdbccidhdfaaDoor
open Go.RowKit Go.ChangeShapes Go.WideShapes Go.Deep
set_option linter.unusedVariables false
set_option maxRecDepth 20000

/-- An event as it lies: its parts, and the slice of its parameters. -/
structure EvC where
  v : Ev
  q : Value
def evV (v : Ev) (q : Value) : Value := .agg #[.string ⟨v.name.toArray⟩, q]
def EvC.At (w : World) (c : EvC) : Prop := ParsAt w c.q c.v.params ∧ CapOk c.q
theorem EvC.At.below {w w' : World} {c : EvC} (h : c.At w) (hb : Below w.heap.size w w') : c.At w' := ⟨h.1.below hb, h.2⟩
theorem cellsEv : Tryd.prog.cellsOf 40 = 2 := by kernel_rfl
theorem cellsStt : Tryd.prog.cellsOf 50 = 3 := by kernel_rfl
def sttV (s : Stt) : Value := .agg #[.string ⟨s.name.toArray⟩, .int .i64 s.expires, .string ⟨s.reason.toArray⟩]

section
variable {H : Type} {enc : TypeId × Value → H} {W : World} {sp : Nat → Bool}

def EvD (d : DataW H) (h : Ev) : Prop := ∃ dq, d = .agg [.lit (.string h.name), dq] ∧ ParD dq h.params
def SmallE (B : Nat) (h : Ev) : Prop := h.name.length ≤ B ∧ SmallP B h.params
theorem SmallE.le {B C : Nat} {a : Ev} (h : SmallE B a) (hc : B ≤ C) : SmallE C a :=
  ⟨Nat.le_trans h.1 hc, ⟨Nat.le_trans h.2.1 hc, fun p hp => ⟨Nat.le_trans (h.2.2 p hp).1 hc, Nat.le_trans (h.2.2 p hp).2 hc⟩⟩⟩
/-- What came in. -/
def EvIn (B : Nat) (W : World) (v : Value) : Prop := ∃ c : EvC, v = evV c.v c.q ∧ c.At W ∧ SmallE B c.v
def SttIn (B : Nat) (v : Value) : Prop := ∃ s : Stt, v = sttV s ∧ s.name.length ≤ B ∧ s.reason.length ≤ B ∧ (Lit.int .i64 s.expires).wf = true
theorem open_ev {r : Reach} {b0 : Nat} {v : Value} {d : DataW H} {p : List MemPlace} (hv : Value.okWide Tryd.prog W r b0 40 v) (h : DataW.Trod enc Tryd.prog W 0 sp true 40 v d p) :
    ∃ c : EvC, v = evV c.v c.q ∧ c.At W ∧ EvD d c.v := by
  obtain ⟨cs, rfl, hsz⟩ := okWide_struct Tryd.underlying40 hv
  obtain ⟨fuel, hf0⟩ := h
  obtain ⟨xs, n, _, hx, hl, hlen, hf⟩ := DataW.trod_struct Tryd.underlying40 hf0
  rw [cellsEv] at hsz
  obtain ⟨l⟩ := cs
  match l, hsz, xs, hlen with
  | [c0, c1], _, [y0, y1], _ =>
    have f0 := hf 0 _ rfl
    have f1 := hf 1 _ rfl
    simp [cellsStr, cellsPars, Value.cells] at f0 f1
    obtain ⟨s0, e0, rfl, _⟩ := DataW.trod_string Tryd.underlying9 f0
    obtain ⟨v1, p1, e1, a1, d1⟩ := open_pars f1
    have k1 := cap_pars f1
    simp only [List.cons.injEq, and_true] at e0 e1
    subst e0 e1
    simp only [Prod.mk.injEq] at hx
    exact ⟨⟨⟨s0.data.toList, p1⟩, c1⟩, by simp [evV], ⟨a1, k1⟩, y1.1, by simpa using hx.1, d1⟩
theorem ev_said {B : Nat} {r : Reach} {b0 : Nat} {v : Value} {d : DataW H} {p : List MemPlace} (hv : Value.okWide Tryd.prog W r b0 40 v) (h : DataW.Trod enc Tryd.prog W 0 sp true 40 v d p)
    (hz : ∀ n ∈ d.weights Tryd.prog 40, n ≤ B) : EvIn B W v := by
  obtain ⟨c, hv, hat, dq, rfl, d1⟩ := open_ev hv h
  simp only [DataW.weights, Tryd.underlying40, List.map_cons, List.map_nil, DataW.weightsEach] at hz
  exact ⟨c, hv, hat, hz _ (by simp), small_said d1 fun n hn => hz n (by simp [hn])⟩
theorem ev_upto {B : Nat} {r : Reach} {b0 : Nat} {v : Value} {d : DataW H} {p : List MemPlace} (hv : Value.okWide Tryd.prog W r b0 40 v) (h : DataW.Trod enc Tryd.prog W 0 sp true 40 v d p)
    (hz : Rows.uptoBulk d ≤ B) : EvIn B W v := by
  obtain ⟨c, hv, hat, dq, rfl, d1⟩ := open_ev hv h
  simp only [Rows.uptoBulkAll, Rows.uptoBulk] at hz
  exact ⟨c, hv, hat, by omega, small_upto d1 (by omega)⟩
theorem open_stt {r : Reach} {b0 : Nat} {v : Value} {d : DataW H} {p : List MemPlace} (hv : Value.okWide Tryd.prog W r b0 50 v) (h : DataW.Trod enc Tryd.prog W 0 sp true 50 v d p) :
    ∃ s : Stt, v = sttV s ∧ d = .agg [.lit (.string s.name), .lit (.int .i64 s.expires), .lit (.string s.reason)] ∧ (Lit.int .i64 s.expires).wf = true := by
  obtain ⟨cs, rfl, hsz⟩ := okWide_struct Tryd.underlying50 hv
  obtain ⟨fuel, hf0⟩ := h
  obtain ⟨xs, n, _, hx, hl, hlen, hf⟩ := DataW.trod_struct Tryd.underlying50 hf0
  rw [cellsStt] at hsz
  obtain ⟨l⟩ := cs
  match l, hsz, xs, hlen with
  | [c0, c1, c2], _, [y0, y1, y2], _ =>
    have f0 := hf 0 _ rfl
    have f1 := hf 1 _ rfl
    have f2 := hf 2 _ rfl
    simp [cellsStr, cellsInt, Value.cells] at f0 f1 f2
    obtain ⟨s0, e0, rfl, _⟩ := DataW.trod_string Tryd.underlying9 f0
    obtain ⟨i1, e1, rfl, w1⟩ := DataW.trod_int Tryd.underlying3 f1
    obtain ⟨s2, e2, rfl, _⟩ := DataW.trod_string Tryd.underlying9 f2
    simp only [List.cons.injEq, and_true] at e0 e1 e2
    subst e0 e1 e2
    simp only [Prod.mk.injEq] at hx
    exact ⟨⟨s0.data.toList, i1, s2.data.toList⟩, by simp [sttV], by simpa using hx.1, w1⟩
theorem stt_said {B : Nat} {r : Reach} {b0 : Nat} {v : Value} {d : DataW H} {p : List MemPlace} (hv : Value.okWide Tryd.prog W r b0 50 v) (h : DataW.Trod enc Tryd.prog W 0 sp true 50 v d p)
    (hz : ∀ n ∈ d.weights Tryd.prog 50, n ≤ B) : SttIn B v := by
  obtain ⟨s, hv, rfl, wf⟩ := open_stt hv h
  simp only [DataW.weights, Tryd.underlying50, List.map_cons, List.map_nil, DataW.weightsEach] at hz
  exact ⟨s, hv, hz _ (by simp), hz _ (by simp), wf⟩
theorem stt_upto {B : Nat} {r : Reach} {b0 : Nat} {v : Value} {d : DataW H} {p : List MemPlace} (hv : Value.okWide Tryd.prog W r b0 50 v) (h : DataW.Trod enc Tryd.prog W 0 sp true 50 v d p)
    (hz : Rows.uptoBulk d ≤ B) : SttIn B v := by
  obtain ⟨s, hv, rfl, wf⟩ := open_stt hv h
  simp only [Rows.uptoBulkAll, Rows.uptoBulk] at hz
  exact ⟨s, hv, by omega, by omega, wf⟩
end

/-- The two cells of an event's block. -/
def BoxE (w : World) (b : Nat) (v : Ev) (q : Value) : Prop := w.cell? ⟨b, 0, none⟩ = some (.string ⟨v.name.toArray⟩) ∧ w.cell? ⟨b, 1, none⟩ = some q
theorem BoxE.below {w w' : World} {b B : Nat} {v : Ev} {q : Value} (k : BoxE w b v q) (hb : Below B w w') (hlt : b < B) : BoxE w' b v q := ⟨cell_below hb hlt k.1, cell_below hb hlt k.2⟩
def objE (v : Ev) (q : Value) : Obj := .cells #[.string ⟨v.name.toArray⟩, q] 40
theorem boxE_new (w : World) (v : Ev) (q : Value) : BoxE (w.alloc (objE v q)) w.heap.size v q := by
  unfold BoxE World.cell? objE
  simp only [heap_alloc_new]
  exact ⟨rfl, rfl⟩
/-- The three cells of a state's block. -/
def BoxS (w : World) (b : Nat) (s : Stt) : Prop := w.cell? ⟨b, 0, none⟩ = some (.string ⟨s.name.toArray⟩) ∧ w.cell? ⟨b, 1, none⟩ = some (.int .i64 s.expires) ∧ w.cell? ⟨b, 2, none⟩ = some (.string ⟨s.reason.toArray⟩)
theorem BoxS.below {w w' : World} {b B : Nat} {s : Stt} (k : BoxS w b s) (hb : Below B w w') (hlt : b < B) : BoxS w' b s := ⟨cell_below hb hlt k.1, cell_below hb hlt k.2.1, cell_below hb hlt k.2.2⟩
def objS (s : Stt) : Obj := .cells #[.string ⟨s.name.toArray⟩, .int .i64 s.expires, .string ⟨s.reason.toArray⟩] 50
theorem boxS_new (w : World) (s : Stt) : BoxS (w.alloc (objS s)) w.heap.size s := by
  unfold BoxS World.cell? objS
  simp only [heap_alloc_new]
  exact ⟨rfl, rfl, rfl⟩

end Go.Proofs.YtjbfdbccidhdfaaDoor
