/-
  Hops, and rows of hops, that come in, opened.
-/
import Derived.Test.YtpcgomfiihhpcaaDoorFQ
import Derived.Test.YtpcgomfiihhpcaaDoorFK
namespace Go.Proofs.YtpcgomfiihhpcaaDoor
open Go.RowKit Go.ChangeShapes Go.WideShapes Go.Deep
set_option linter.unusedVariables false
set_option maxRecDepth 20000

/-- A hop as it lies: its parts, and the slice of its parameters. -/
structure HopC where
  h : Hop
  q : Value
def hpCells (c : HopC) : List Value := [.string ⟨c.h.host.toArray⟩, .int .i64 c.h.port, c.q]
def hpV (h : Hop) (q : Value) : Value := .agg #[.string ⟨h.host.toArray⟩, .int .i64 h.port, q]
/-- Its slice holds what it should. -/
def HopC.At (w : World) (c : HopC) : Prop := ParsAt w c.q c.h.params ∧ CapOk c.q
theorem HopC.At.below {w w' : World} {c : HopC} (h : c.At w) (hb : Below w.heap.size w w') : c.At w' := ⟨h.1.below hb, h.2⟩
/-- The slice v holds the hops cs. -/
def HopsAt (w : World) (v : Value) (cs : List HopC) : Prop :=
  (∃ (ao : Option Addr) (cap : Nat), v = .slice ao cs.length cap ∧ ∀ k (hk : k < cs.length), ∃ ad, ao = some ad ∧ ad.block < w.heap.size ∧ ∀ j (u : Value), (hpCells cs[k])[j]? = some u → w.cell? (if j = 0 then ad.add (k * 3) else ⟨(ad.add (k * 3)).block, (ad.add (k * 3)).off + j, none⟩) = some u) ∧ ∀ c ∈ cs, c.At w
theorem HopsAt.below {w w' : World} {v : Value} {cs : List HopC} (h : HopsAt w v cs) (hb : Below w.heap.size w w') : HopsAt w' v cs := by
  obtain ⟨⟨ao, cap, hv, hc⟩, h2⟩ := h
  refine ⟨⟨ao, cap, hv, fun k hk => ?_⟩, fun c hc => (h2 c hc).below hb⟩
  obtain ⟨ad, e, hlt, hcell⟩ := hc k hk
  refine ⟨ad, e, Nat.lt_of_lt_of_le hlt hb.size, fun j u hj => cell_below hb ?_ (hcell j u hj)⟩
  split <;> simp only [add_block] <;> exact hlt
theorem HopsAt.form {w : World} {v : Value} {cs : List HopC} (h : HopsAt w v cs) : ∃ a cap, v = .slice a cs.length cap := by
  obtain ⟨⟨ao, cap, hv, _⟩, _⟩ := h
  exact ⟨ao, cap, hv⟩
theorem cellsHop : Tryd.prog.cellsOf 24 = 3 := by kernel_rfl

variable {H : Type} {enc : TypeId × Value → H} {W : World} {sp : Nat → Bool}

def HopD (d : DataW H) (h : Hop) : Prop := ∃ dq, d = .agg [.lit (.string h.host), .lit (.int .i64 h.port), dq] ∧ ParD dq h.params
theorem open_hopC {fuel : Nat} {cs : List Value} {x : DataW H × List MemPlace} (h : DataW.trod enc Tryd.prog W 0 sp true fuel 24 cs = some x) :
    ∃ c : HopC, cs = hpCells c ∧ c.At W ∧ HopD x.1 c.h ∧ (Lit.int .i64 c.h.port).wf = true := by
  obtain ⟨xs, n, _, hx, hl, hlen, hf⟩ := DataW.trod_struct Tryd.underlying24 h
  rw [cellsHop] at hl
  match cs, hl, xs, hlen with
  | [c0, c1, c2], _, [y0, y1, y2], _ =>
    have f0 := hf 0 _ rfl
    have f1 := hf 1 _ rfl
    have f2 := hf 2 _ rfl
    simp [cellsStr, cellsInt, cellsPars] at f0 f1 f2
    obtain ⟨s0, e0, rfl, _⟩ := DataW.trod_string Tryd.underlying9 f0
    obtain ⟨i1, e1, rfl, w1⟩ := DataW.trod_int Tryd.underlying3 f1
    obtain ⟨v2, p2, e2, a2, d2⟩ := open_pars f2
    have k2 := cap_pars f2
    simp only [List.cons.injEq, and_true] at e0 e1 e2
    subst e0 e1 e2
    subst hx
    exact ⟨⟨⟨s0.data.toList, i1, p2⟩, c2⟩, by simp [hpCells], ⟨a2, k2⟩, ⟨y2.1, by simp, d2⟩, w1⟩
theorem open_hops {fuel : Nat} {cs : List Value} {x : DataW H × List MemPlace} (h : DataW.trod enc Tryd.prog W 0 sp true fuel 48 cs = some x) :
    ∃ (v : Value) (al : List HopC), cs = [v] ∧ HopsAt W v al ∧ (∀ c ∈ al, (Lit.int .i64 c.h.port).wf = true) ∧ ((x.1 = .nil ∧ al = []) ∨ ∃ ds sp, x.1 = .slice ds sp ∧ ds.length = al.length ∧ ∀ k (hk : k < al.length) (hd : k < ds.length), HopD ds[k] al[k].h) := by
  rcases open_slice Tryd.underlying48 h with ⟨rfl, rfl⟩ | ⟨a, len, cap, m, n, D, Pl, rfl, _, hlc, hcm, hm, rfl, hall⟩
  · exact ⟨_, [], rfl, ⟨⟨none, 0, rfl, fun k hk => by simp at hk⟩, fun c hc => by simp at hc⟩, fun c hc => by simp at hc, Or.inl ⟨rfl, rfl⟩⟩
  · have hlm : len ≤ m := by rw [hm]; split <;> omega
    have each : ∀ i, i < len → ∃ c : HopC, HopD (D i) c.h ∧ c.At W ∧ (Lit.int .i64 c.h.port).wf = true ∧ (a.block < W.heap.size ∧ ∀ j (u : Value), (hpCells c)[j]? = some u → W.cell? (if j = 0 then a.add (i * 3) else ⟨(a.add (i * 3)).block, (a.add (i * 3)).off + j, none⟩) = some u) := by
      intro i hi
      obtain ⟨cs', h1, h2⟩ := hall i (by omega)
      obtain ⟨c, rfl, hat, hd, hwf⟩ := open_hopC h2
      rw [cellsHop] at h1
      obtain ⟨_, _, hc⟩ := World.cells?_some h1
      have c0 := hc 0 (by omega)
      have hc0 : W.cell? (a.add (i * 3)) = some (.string ⟨c.h.host.toArray⟩) := by simpa [Addr.add, hpCells] using c0
      refine ⟨c, hd, hat, hwf, ?_, ?_⟩
      · have : (a.add (i * 3)).block < W.heap.size := by
          unfold World.cell? at hc0
          cases hh : W.heap[(a.add (i * 3)).block]? with
          | none => simp [hh] at hc0
          | some o => exact (Array.getElem?_eq_some_iff.1 hh).1
        rwa [add_block] at this
      · intro j u hj
        have hj8 : j < 3 := by have := (List.getElem?_eq_some_iff.1 hj).1; simpa [hpCells] using this
        by_cases j0 : j = 0
        · subst j0
          rw [if_pos rfl, hc0, ← hj]; rfl
        · rw [if_neg j0]
          have cj := hc j hj8
          rw [hj] at cj
          rw [← cj]
          simp [Addr.add, j0]
    obtain ⟨f, hf⟩ := @choose_lt HopC ⟨⟨noH, .nilIface⟩⟩ len _ each
    refine ⟨_, (List.range len).map f, rfl, ⟨⟨some a, cap, by simp, fun k hk => ?_⟩, fun c hc => ?_⟩, fun c hc => ?_, Or.inr ⟨(List.range len).map D, _, rfl, by simp, fun k hk hd => ?_⟩⟩
    · simp at hk
      refine ⟨a, rfl, ?_⟩
      simpa using (hf k hk).2.2.2
    · simp only [List.mem_map, List.mem_range] at hc
      obtain ⟨k, hk, rfl⟩ := hc
      exact (hf k hk).2.1
    · simp only [List.mem_map, List.mem_range] at hc
      obtain ⟨k, hk, rfl⟩ := hc
      exact (hf k hk).2.2.1
    · simp at hk
      simpa using (hf k hk).1

def SmallV (B : Nat) (h : Hop) : Prop := h.host.length ≤ B ∧ SmallP B h.params ∧ (Lit.int .i64 h.port).wf = true
theorem SmallV.le {B C : Nat} {a : Hop} (h : SmallV B a) (hc : B ≤ C) : SmallV C a :=
  ⟨Nat.le_trans h.1 hc, ⟨Nat.le_trans h.2.1.1 hc, fun p hp => ⟨Nat.le_trans (h.2.1.2 p hp).1 hc, Nat.le_trans (h.2.1.2 p hp).2 hc⟩⟩, h.2.2⟩
theorem SmallV.port {B : Nat} {a : Hop} (h : SmallV B a) : -9223372036854775808 ≤ a.port ∧ a.port ≤ 9223372036854775807 := i64_of h.2.2
/-- What came in. -/
def HopIn (B : Nat) (W : World) (v : Value) : Prop := ∃ c : HopC, v = hpV c.h c.q ∧ c.At W ∧ SmallV B c.h
def HopsIn (B : Nat) (W : World) (v : Value) : Prop := ∃ cs : List HopC, HopsAt W v cs ∧ cs.length ≤ B ∧ ∀ c ∈ cs, SmallV B c.h

theorem hopD_said {B : Nat} {d : DataW H} {a : Hop} (hd : HopD d a) (hwf : (Lit.int .i64 a.port).wf = true) (hz : ∀ n ∈ d.weights Tryd.prog 24, n ≤ B) : SmallV B a := by
  obtain ⟨dq, rfl, d1⟩ := hd
  simp only [DataW.weights, Tryd.underlying24, List.map_cons, List.map_nil, DataW.weightsEach] at hz
  exact ⟨hz _ (by simp), small_said d1 fun n hn => hz n (by simp [hn]), hwf⟩
theorem hopD_upto {B : Nat} {d : DataW H} {a : Hop} (hd : HopD d a) (hwf : (Lit.int .i64 a.port).wf = true) (hz : Rows.uptoBulk d ≤ B) : SmallV B a := by
  obtain ⟨dq, rfl, d1⟩ := hd
  simp only [Rows.uptoBulkAll, Rows.uptoBulk] at hz
  exact ⟨by omega, small_upto d1 (by omega), hwf⟩
theorem open_hop {r : Reach} {b0 : Nat} {v : Value} {d : DataW H} {p : List MemPlace} (hv : Value.okWide Tryd.prog W r b0 24 v) (h : DataW.Trod enc Tryd.prog W 0 sp true 24 v d p) :
    ∃ c : HopC, v = hpV c.h c.q ∧ c.At W ∧ HopD d c.h ∧ (Lit.int .i64 c.h.port).wf = true := by
  obtain ⟨cs, rfl, hsz⟩ := okWide_struct Tryd.underlying24 hv
  obtain ⟨fuel, hf0⟩ := h
  obtain ⟨c, hc, hat, hd, hwf⟩ := open_hopC hf0
  obtain ⟨l⟩ := cs
  simp only [Value.cells] at hc
  refine ⟨c, ?_, hat, hd, hwf⟩
  simp only [hpV]
  congr 1
  apply Array.toList_inj.1
  rw [hc]; rfl
theorem hop_said {B : Nat} {r : Reach} {b0 : Nat} {v : Value} {d : DataW H} {p : List MemPlace} (hv : Value.okWide Tryd.prog W r b0 24 v) (h : DataW.Trod enc Tryd.prog W 0 sp true 24 v d p)
    (hz : ∀ n ∈ d.weights Tryd.prog 24, n ≤ B) : HopIn B W v := by
  obtain ⟨c, hv, hat, hd, hwf⟩ := open_hop hv h
  exact ⟨c, hv, hat, hopD_said hd hwf hz⟩
theorem hop_upto {B : Nat} {r : Reach} {b0 : Nat} {v : Value} {d : DataW H} {p : List MemPlace} (hv : Value.okWide Tryd.prog W r b0 24 v) (h : DataW.Trod enc Tryd.prog W 0 sp true 24 v d p)
    (hz : Rows.uptoBulk d ≤ B) : HopIn B W v := by
  obtain ⟨c, hv, hat, hd, hwf⟩ := open_hop hv h
  exact ⟨c, hv, hat, hopD_upto hd hwf hz⟩
theorem bytesHop : 1 ≤ Tryd.prog.bytesOf 24 := of_decide_eq_true (by kernel_rfl)
theorem hops_said {B : Nat} {r : Reach} {b0 : Nat} {v : Value} {d : DataW H} {p : List MemPlace} (hv : Value.okWide Tryd.prog W r b0 48 v) (h : DataW.Trod enc Tryd.prog W 0 sp true 48 v d p)
    (hz : ∀ n ∈ d.weights Tryd.prog 48, n ≤ B) : HopsIn B W v := by
  obtain ⟨a, len, cap, rfl⟩ := okWide_slice Tryd.underlying48 hv
  obtain ⟨fuel, hf0⟩ := h
  obtain ⟨v', al, hc, hat, hwf, hd⟩ := open_hops hf0
  simp [Value.cells] at hc
  subst hc
  refine ⟨al, hat, ?_⟩
  rcases hd with ⟨_, rfl⟩ | ⟨ds, sp, hd, hl, hk⟩
  · simp
  · simp only at hd
    subst hd
    simp only [DataW.weights, Tryd.underlying48] at hz
    refine ⟨?_, fun c hc => ?_⟩
    · have h1 := hz _ (List.mem_cons_self ..)
      have h2 := bytesHop
      rw [← hl]
      refine Nat.le_trans ?_ h1
      refine Nat.le_trans (Nat.le_add_right ds.length sp.length) ?_
      exact Nat.le_mul_of_pos_right _ h2
    · obtain ⟨k, hk', rfl⟩ := List.getElem_of_mem hc
      exact hopD_said (hk k hk' (by omega)) (hwf _ hc) fun n hn => hz n (List.mem_cons_of_mem _ (List.mem_append.2 (Or.inl (weights_all ds k (by omega) n hn))))

end Go.Proofs.YtpcgomfiihhpcaaDoor
