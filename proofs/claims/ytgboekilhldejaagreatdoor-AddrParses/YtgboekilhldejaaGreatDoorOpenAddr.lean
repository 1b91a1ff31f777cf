/-
  Addresses, rows of texts and rows of addresses that come in, opened.
-/
import Derived.Test.YtgboekilhldejaaGreatDoorBaseC
import Derived.Test.YtgboekilhldejaaGreatDoorBaseG
import Derived.Test.YtgboekilhldejaaGreatDoorBaseE
namespace Go.Proofs.YtgboekilhldejaaGreatDoor
open Go.RowKit Go.ChangeShapes Go.WideShapes Go.Deep
set_option linter.unusedVariables false
set_option maxRecDepth 20000

/-- An address as it lies: its parts, and the three slices. -/
structure AdrC where
  a : Adr
  p : Value
  h : Value
  q : Value
def adrCells (c : AdrC) : List Value := [.string ⟨c.a.display.toArray⟩, .string ⟨c.a.uri.scheme.toArray⟩, .string ⟨c.a.uri.user.toArray⟩, .string ⟨c.a.uri.host.toArray⟩, .int .i64 c.a.uri.port, c.p, c.h, c.q]
def adrV (a : Adr) (p h q : Value) : Value := .agg #[.string ⟨a.display.toArray⟩, .string ⟨a.uri.scheme.toArray⟩, .string ⟨a.uri.user.toArray⟩, .string ⟨a.uri.host.toArray⟩, .int .i64 a.uri.port, p, h, q]
/-- A slice's length is within its room. -/
def CapOk : Value → Prop
  | .slice _ n c => n ≤ c
  | _ => True
/-- Its slices hold what they should. -/
def AdrC.At (w : World) (c : AdrC) : Prop := ParsAt w c.p c.a.uri.params ∧ ParsAt w c.h c.a.uri.headers ∧ ParsAt w c.q c.a.params ∧ CapOk c.q
theorem AdrC.At.below {w w' : World} {c : AdrC} (h : c.At w) (hb : Below w.heap.size w w') : c.At w' := ⟨h.1.below hb, h.2.1.below hb, h.2.2.1.below hb, h.2.2.2⟩
/-- The slice v holds the addresses cs. -/
def AdrsAt (w : World) (v : Value) (cs : List AdrC) : Prop :=
  (∃ (ao : Option Addr) (cap : Nat), v = .slice ao cs.length cap ∧ ∀ k (hk : k < cs.length), ∃ ad, ao = some ad ∧ ad.block < w.heap.size ∧ ∀ j (u : Value), (adrCells cs[k])[j]? = some u → w.cell? (if j = 0 then ad.add (k * 8) else ⟨(ad.add (k * 8)).block, (ad.add (k * 8)).off + j, none⟩) = some u) ∧ ∀ c ∈ cs, c.At w
theorem AdrsAt.below {w w' : World} {v : Value} {cs : List AdrC} (h : AdrsAt w v cs) (hb : Below w.heap.size w w') : AdrsAt w' v cs := by
  obtain ⟨⟨ao, cap, hv, hc⟩, h2⟩ := h
  refine ⟨⟨ao, cap, hv, fun k hk => ?_⟩, fun c hc => (h2 c hc).below hb⟩
  obtain ⟨ad, e, hlt, hcell⟩ := hc k hk
  refine ⟨ad, e, Nat.lt_of_lt_of_le hlt hb.size, fun j u hj => cell_below hb ?_ (hcell j u hj)⟩
  split <;> simp only [add_block] <;> exact hlt
theorem AdrsAt.form {w : World} {v : Value} {cs : List AdrC} (h : AdrsAt w v cs) : ∃ a cap, v = .slice a cs.length cap := by
  obtain ⟨⟨ao, cap, hv, _⟩, _⟩ := h
  exact ⟨ao, cap, hv⟩

theorem OwnP.cap {w : World} {B : Nat} {v : Value} {ps : List Par} (h : OwnP w B v ps) : CapOk v := by
  rcases h.2 with ⟨rfl, hn⟩ | ⟨g, cap, cur, rfl, hb, hg, h1, _⟩
  · exact Nat.le_refl 0
  · exact h1
theorem cellsAddr : Tryz.prog.cellsOf 39 = 8 := by kernel_rfl

variable {H : Type} {enc : TypeId × Value → H} {W : World} {sp : Nat → Bool}

theorem cap_pars {fuel : Nat} {v : Value} {x : DataW H × List MemPlace} (h : DataW.trod enc Tryz.prog W 0 sp true fuel 23 [v] = some x) : CapOk v := by
  rcases open_slice Tryz.underlying23 h with ⟨e, _⟩ | ⟨a, len, cap, m, n, D, Pl, e, _, hlc, _⟩
  · simp only [List.cons.injEq, and_true] at e
    subst e; exact Nat.le_refl 0
  · simp only [List.cons.injEq, and_true] at e
    subst e; exact hlc
def uriD (u : Uri) (dp dh : DataW H) : DataW H := .agg [.lit (.string u.scheme), .lit (.string u.user), .lit (.string u.host), .lit (.int .i64 u.port), dp, dh]
theorem open_uriC {fuel : Nat} {cs : List Value} {x : DataW H × List MemPlace} (h : DataW.trod enc Tryz.prog W 0 sp true fuel 37 cs = some x) :
    ∃ (u : Uri) (pv hv' : Value) (dp dh : DataW H), cs = [.string ⟨u.scheme.toArray⟩, .string ⟨u.user.toArray⟩, .string ⟨u.host.toArray⟩, .int .i64 u.port, pv, hv'] ∧ ParsAt W pv u.params ∧ ParsAt W hv' u.headers ∧
      x.1 = uriD u dp dh ∧ ParD dp u.params ∧ ParD dh u.headers := by
  obtain ⟨xs, n, _, hx, hl, hlen, hf⟩ := DataW.trod_struct Tryz.underlying37 h
  rw [cellsUri] at hl
  match cs, hl, xs, hlen with
  | [c0, c1, c2, c3, c4, c5], _, [y0, y1, y2, y3, y4, y5], _ =>
    have f0 := hf 0 _ rfl
    have f1 := hf 1 _ rfl
    have f2 := hf 2 _ rfl
    have f3 := hf 3 _ rfl
    have f4 := hf 4 _ rfl
    have f5 := hf 5 _ rfl
    simp [cellsStr, cellsInt, cellsPars] at f0 f1 f2 f3 f4 f5
    obtain ⟨s0, e0, rfl, _⟩ := DataW.trod_string Tryz.underlying9 f0
    obtain ⟨s1, e1, rfl, _⟩ := DataW.trod_string Tryz.underlying9 f1
    obtain ⟨s2, e2, rfl, _⟩ := DataW.trod_string Tryz.underlying9 f2
    obtain ⟨i3, e3, rfl, w3⟩ := DataW.trod_int Tryz.underlying3 f3
    obtain ⟨v4, p4, e4, a4, d4⟩ := open_pars f4
    obtain ⟨v5, p5, e5, a5, d5⟩ := open_pars f5
    simp only [List.cons.injEq, and_true] at e0 e1 e2 e3 e4 e5
    subst e0 e1 e2 e3 e4 e5
    subst hx
    exact ⟨⟨s0.data.toList, s1.data.toList, s2.data.toList, i3, p4, p5⟩, c4, c5, y4.1, y5.1, by simp, a4, a5, by simp [uriD], d4, d5⟩
def adrD (a : Adr) (dp dh dq : DataW H) : DataW H := .agg [.lit (.string a.display), uriD a.uri dp dh, dq]
def AdrD (d : DataW H) (a : Adr) : Prop := ∃ dp dh dq, d = adrD a dp dh dq ∧ ParD dp a.uri.params ∧ ParD dh a.uri.headers ∧ ParD dq a.params
theorem open_addrC {fuel : Nat} {cs : List Value} {x : DataW H × List MemPlace} (h : DataW.trod enc Tryz.prog W 0 sp true fuel 39 cs = some x) :
    ∃ c : AdrC, cs = adrCells c ∧ c.At W ∧ AdrD x.1 c.a := by
  obtain ⟨xs, n, _, hx, hl, hlen, hf⟩ := DataW.trod_struct Tryz.underlying39 h
  rw [cellsAddr] at hl
  match cs, hl, xs, hlen with
  | [c0, c1, c2, c3, c4, c5, c6, c7], _, [y0, y1, y2], _ =>
    have f0 := hf 0 _ rfl
    have f1 := hf 1 _ rfl
    have f2 := hf 2 _ rfl
    simp [cellsStr, cellsUri, cellsPars] at f0 f1 f2
    obtain ⟨s0, e0, rfl, _⟩ := DataW.trod_string Tryz.underlying9 f0
    obtain ⟨u, pv, hv, dp, dh, e1, a4, a5, d1, d4, d5⟩ := open_uriC f1
    obtain ⟨v7, p7, e7, a7, d7⟩ := open_pars f2
    have k7 := cap_pars f2
    simp only [List.cons.injEq, and_true] at e0 e1 e7
    obtain ⟨r1, r2, r3, r4, r5, r6⟩ := e1
    subst e0 r1 r2 r3 r4 r5 r6 e7
    subst hx
    exact ⟨⟨⟨s0.data.toList, u, p7⟩, c5, c6, c7⟩, by simp [adrCells], ⟨a4, a5, a7, k7⟩, dp, dh, y2.1, by simp [adrD, ← d1], d4, d5, d7⟩
theorem open_adrs {fuel : Nat} {cs : List Value} {x : DataW H × List MemPlace} (h : DataW.trod enc Tryz.prog W 0 sp true fuel 52 cs = some x) :
    ∃ (v : Value) (al : List AdrC), cs = [v] ∧ AdrsAt W v al ∧ ((x.1 = .nil ∧ al = []) ∨ ∃ ds sp, x.1 = .slice ds sp ∧ ds.length = al.length ∧ ∀ k (hk : k < al.length) (hd : k < ds.length), AdrD ds[k] al[k].a) := by
  rcases open_slice Tryz.underlying52 h with ⟨rfl, rfl⟩ | ⟨a, len, cap, m, n, D, Pl, rfl, _, hlc, hcm, hm, rfl, hall⟩
  · exact ⟨_, [], rfl, ⟨⟨none, 0, rfl, fun k hk => by simp at hk⟩, fun c hc => by simp at hc⟩, Or.inl ⟨rfl, rfl⟩⟩
  · have hlm : len ≤ m := by rw [hm]; split <;> omega
    have each : ∀ i, i < len → ∃ c : AdrC, AdrD (D i) c.a ∧ c.At W ∧ (a.block < W.heap.size ∧ ∀ j (u : Value), (adrCells c)[j]? = some u → W.cell? (if j = 0 then a.add (i * 8) else ⟨(a.add (i * 8)).block, (a.add (i * 8)).off + j, none⟩) = some u) := by
      intro i hi
      obtain ⟨cs', h1, h2⟩ := hall i (by omega)
      obtain ⟨c, rfl, hat, hd⟩ := open_addrC h2
      rw [cellsAddr] at h1
      obtain ⟨_, _, hc⟩ := World.cells?_some h1
      have c0 := hc 0 (by omega)
      have hc0 : W.cell? (a.add (i * 8)) = some (.string ⟨c.a.display.toArray⟩) := by simpa [Addr.add, adrCells] using c0
      refine ⟨c, hd, hat, ?_, ?_⟩
      · have : (a.add (i * 8)).block < W.heap.size := by
          unfold World.cell? at hc0
          cases hh : W.heap[(a.add (i * 8)).block]? with
          | none => simp [hh] at hc0
          | some o => exact (Array.getElem?_eq_some_iff.1 hh).1
        rwa [add_block] at this
      · intro j u hj
        have hj8 : j < 8 := by have := (List.getElem?_eq_some_iff.1 hj).1; simpa [adrCells] using this
        by_cases j0 : j = 0
        · subst j0
          rw [if_pos rfl, hc0, ← hj]; rfl
        · rw [if_neg j0]
          have cj := hc j hj8
          rw [hj] at cj
          rw [← cj]
          simp [Addr.add, j0]
    obtain ⟨f, hf⟩ := @choose_lt AdrC ⟨⟨noA, .nilIface, .nilIface, .nilIface⟩⟩ len _ each
    refine ⟨_, (List.range len).map f, rfl, ⟨⟨some a, cap, by simp, fun k hk => ?_⟩, fun c hc => ?_⟩, Or.inr ⟨(List.range len).map D, _, rfl, by simp, fun k hk hd => ?_⟩⟩
    · simp at hk
      refine ⟨a, rfl, ?_⟩
      simpa using (hf k hk).2.2
    · simp only [List.mem_map, List.mem_range] at hc
      obtain ⟨k, hk, rfl⟩ := hc
      exact (hf k hk).2.1
    · simp at hk
      simpa using (hf k hk).1
theorem open_strs {fuel : Nat} {cs : List Value} {x : DataW H × List MemPlace} (h : DataW.trod enc Tryz.prog W 0 sp true fuel 22 cs = some x) :
    ∃ (v : Value) (ls : List (List UInt8)), cs = [v] ∧ StrsAt W v ls ∧ ((x.1 = .nil ∧ ls = []) ∨ ∃ sp, x.1 = .slice (ls.map fun l => .lit (.string l)) sp) := by
  rcases open_slice Tryz.underlying22 h with ⟨rfl, rfl⟩ | ⟨a, len, cap, m, n, D, Pl, rfl, _, hlc, hcm, hm, rfl, hall⟩
  · exact ⟨_, [], rfl, ⟨none, 0, rfl, fun k hk => by simp at hk⟩, Or.inl ⟨rfl, rfl⟩⟩
  · have hlm : len ≤ m := by rw [hm]; split <;> omega
    have each : ∀ i, i < len → ∃ l : List UInt8, D i = .lit (.string l) ∧ (a.block < W.heap.size ∧ W.cell? (a.add i) = some (.string ⟨l.toArray⟩)) := by
      intro i hi
      obtain ⟨cs', h1, h2⟩ := hall i (by omega)
      obtain ⟨s, rfl, hd, _⟩ := DataW.trod_string Tryz.underlying9 h2
      rw [cellsStr] at h1
      obtain ⟨_, _, hc⟩ := World.cells?_some h1
      have c0 := hc 0 (by omega)
      have hc0 : W.cell? (a.add i) = some (.string ⟨s.data.toList.toArray⟩) := by rw [back]; simpa [Addr.add] using c0
      refine ⟨s.data.toList, congrArg Prod.fst hd, ?_, hc0⟩
      have : (a.add i).block < W.heap.size := by
        unfold World.cell? at hc0
        cases hh : W.heap[(a.add i).block]? with
        | none => simp [hh] at hc0
        | some o => exact (Array.getElem?_eq_some_iff.1 hh).1
      rwa [add_block] at this
    obtain ⟨f, hf⟩ := @choose_lt (List UInt8) ⟨[]⟩ len _ each
    refine ⟨_, (List.range len).map f, rfl, ⟨some a, cap, by simp, fun k hk => ?_⟩, Or.inr ⟨(List.range (m - len)).map fun j => D (len + j), ?_⟩⟩
    · simp at hk
      refine ⟨a, rfl, ?_⟩
      simpa using (hf k hk).2
    · simp only [List.map_map]
      congr 1
      apply List.map_congr_left
      intro i hi
      exact (hf i (by simpa using hi)).1

def SmallA (B : Nat) (a : Adr) : Prop := a.display.length ≤ B ∧ SmallU B a.uri ∧ SmallP B a.params
theorem SmallA.le {B C : Nat} {a : Adr} (h : SmallA B a) (hc : B ≤ C) : SmallA C a :=
  ⟨Nat.le_trans h.1 hc, ⟨Nat.le_trans h.2.1.1 hc, Nat.le_trans h.2.1.2.1 hc, Nat.le_trans h.2.1.2.2.1 hc, ⟨Nat.le_trans h.2.1.2.2.2.1.1 hc, fun p hp => ⟨Nat.le_trans (h.2.1.2.2.2.1.2 p hp).1 hc, Nat.le_trans (h.2.1.2.2.2.1.2 p hp).2 hc⟩⟩, ⟨Nat.le_trans h.2.1.2.2.2.2.1 hc, fun p hp => ⟨Nat.le_trans (h.2.1.2.2.2.2.2 p hp).1 hc, Nat.le_trans (h.2.1.2.2.2.2.2 p hp).2 hc⟩⟩⟩,
    ⟨Nat.le_trans h.2.2.1 hc, fun p hp => ⟨Nat.le_trans (h.2.2.2 p hp).1 hc, Nat.le_trans (h.2.2.2 p hp).2 hc⟩⟩⟩
/-- What came in. -/
def AddrIn (B : Nat) (W : World) (v : Value) : Prop := ∃ c : AdrC, v = adrV c.a c.p c.h c.q ∧ c.At W ∧ SmallA B c.a
def AddrsIn (B : Nat) (W : World) (v : Value) : Prop := ∃ cs : List AdrC, AdrsAt W v cs ∧ cs.length ≤ B ∧ ∀ c ∈ cs, SmallA B c.a
def StrsIn (B : Nat) (W : World) (v : Value) : Prop := ∃ ls : List (List UInt8), StrsAt W v ls ∧ ls.length ≤ B ∧ ∀ l ∈ ls, l.length ≤ B
def ParsIn (B : Nat) (W : World) (v : Value) : Prop := ∃ ps : List Par, ParsAt W v ps ∧ CapOk v ∧ SmallP B ps

theorem adrD_said {B : Nat} {d : DataW H} {a : Adr} (hd : AdrD d a) (hz : ∀ n ∈ d.weights Tryz.prog 39, n ≤ B) : SmallA B a := by
  obtain ⟨dp, dh, dq, rfl, d1, d2, d3⟩ := hd
  simp only [adrD, uriD, DataW.weights, Tryz.underlying39, Tryz.underlying37, List.map_cons, List.map_nil, DataW.weightsEach] at hz
  exact ⟨hz _ (by simp), ⟨hz _ (by simp), hz _ (by simp), hz _ (by simp), small_said d1 fun n hn => hz n (by simp [hn]), small_said d2 fun n hn => hz n (by simp [hn])⟩, small_said d3 fun n hn => hz n (by simp [hn])⟩
theorem adrD_upto {B : Nat} {d : DataW H} {a : Adr} (hd : AdrD d a) (hz : Rows.uptoBulk d ≤ B) : SmallA B a := by
  obtain ⟨dp, dh, dq, rfl, d1, d2, d3⟩ := hd
  simp only [adrD, uriD, Rows.uptoBulkAll, Rows.uptoBulk] at hz
  exact ⟨by omega, ⟨by omega, by omega, by omega, small_upto d1 (by omega), small_upto d2 (by omega)⟩, small_upto d3 (by omega)⟩
theorem open_addr {r : Reach} {b0 : Nat} {v : Value} {d : DataW H} {p : List MemPlace} (hv : Value.okWide Tryz.prog W r b0 39 v) (h : DataW.Trod enc Tryz.prog W 0 sp true 39 v d p) :
    ∃ c : AdrC, v = adrV c.a c.p c.h c.q ∧ c.At W ∧ AdrD d c.a := by
  obtain ⟨cs, rfl, hsz⟩ := okWide_struct Tryz.underlying39 hv
  obtain ⟨fuel, hf0⟩ := h
  obtain ⟨c, hc, hat, hd⟩ := open_addrC hf0
  obtain ⟨l⟩ := cs
  simp only [Value.cells] at hc
  refine ⟨c, ?_, hat, hd⟩
  simp only [adrV]
  congr 1
  apply Array.toList_inj.1
  rw [hc]; rfl
theorem addr_said {B : Nat} {r : Reach} {b0 : Nat} {v : Value} {d : DataW H} {p : List MemPlace} (hv : Value.okWide Tryz.prog W r b0 39 v) (h : DataW.Trod enc Tryz.prog W 0 sp true 39 v d p)
    (hz : ∀ n ∈ d.weights Tryz.prog 39, n ≤ B) : AddrIn B W v := by
  obtain ⟨c, hv, hat, hd⟩ := open_addr hv h
  exact ⟨c, hv, hat, adrD_said hd hz⟩
theorem addr_upto {B : Nat} {r : Reach} {b0 : Nat} {v : Value} {d : DataW H} {p : List MemPlace} (hv : Value.okWide Tryz.prog W r b0 39 v) (h : DataW.Trod enc Tryz.prog W 0 sp true 39 v d p)
    (hz : Rows.uptoBulk d ≤ B) : AddrIn B W v := by
  obtain ⟨c, hv, hat, hd⟩ := open_addr hv h
  exact ⟨c, hv, hat, adrD_upto hd hz⟩

theorem pars_upto {B : Nat} {r : Reach} {b0 : Nat} {v : Value} {d : DataW H} {p : List MemPlace} (hv : Value.okWide Tryz.prog W r b0 23 v) (h : DataW.Trod enc Tryz.prog W 0 sp true 23 v d p)
    (hz : Rows.uptoBulk d ≤ B) : ParsIn B W v := by
  obtain ⟨a, len, cap, rfl⟩ := okWide_slice Tryz.underlying23 hv
  obtain ⟨fuel, hf0⟩ := h
  obtain ⟨v', ps, hc, hat, hd⟩ := open_pars hf0
  have hk := cap_pars hf0
  simp [Value.cells] at hc
  subst hc
  exact ⟨ps, hat, hk, small_upto hd hz⟩
theorem bulk_strs (ls : List (List UInt8)) : (∀ l ∈ ls, l.length ≤ Rows.uptoBulkAll (ls.map fun l => DataW.lit (H := H) (.string l))) ∧ ls.length ≤ Rows.uptoBulkAll (ls.map fun l => DataW.lit (H := H) (.string l)) := by
  induction ls with
  | nil => simp
  | cons q ls ih =>
    simp only [List.map_cons, Rows.uptoBulkAll, Rows.uptoBulk] at ih ⊢
    refine ⟨fun p hp => ?_, by simp; omega⟩
    rcases List.mem_cons.1 hp with rfl | hp
    · omega
    · have := ih.1 p hp; omega
theorem strs_upto {B : Nat} {r : Reach} {b0 : Nat} {v : Value} {d : DataW H} {p : List MemPlace} (hv : Value.okWide Tryz.prog W r b0 22 v) (h : DataW.Trod enc Tryz.prog W 0 sp true 22 v d p)
    (hz : Rows.uptoBulk d ≤ B) : StrsIn B W v := by
  obtain ⟨a, len, cap, rfl⟩ := okWide_slice Tryz.underlying22 hv
  obtain ⟨fuel, hf0⟩ := h
  obtain ⟨v', ls, hc, hat, hd⟩ := open_strs hf0
  simp [Value.cells] at hc
  subst hc
  refine ⟨ls, hat, ?_⟩
  rcases hd with ⟨_, rfl⟩ | ⟨sp, hd⟩
  · simp
  · simp only at hd
    subst hd
    simp only [Rows.uptoBulk] at hz
    have hb := bulk_strs (H := H) ls
    exact ⟨by omega, fun l hl => by have := hb.1 l hl; omega⟩
theorem bytesAddr : 1 ≤ Tryz.prog.bytesOf 39 := of_decide_eq_true (by kernel_rfl)
theorem weights_all {t : TypeId} : ∀ (ds : List (DataW H)) (k : Nat) (hk : k < ds.length) (n : Nat), n ∈ ds[k].weights Tryz.prog t → n ∈ DataW.weightsAll Tryz.prog t ds
  | [], k, hk, n, h => by simp at hk
  | d :: ds, 0, hk, n, h => by simp only [DataW.weightsAll, List.mem_append]; exact Or.inl h
  | d :: ds, k + 1, hk, n, h => by simp only [DataW.weightsAll, List.mem_append]; exact Or.inr (weights_all ds k (by simpa using hk) n h)
theorem adrs_said {B : Nat} {r : Reach} {b0 : Nat} {v : Value} {d : DataW H} {p : List MemPlace} (hv : Value.okWide Tryz.prog W r b0 52 v) (h : DataW.Trod enc Tryz.prog W 0 sp true 52 v d p)
    (hz : ∀ n ∈ d.weights Tryz.prog 52, n ≤ B) : AddrsIn B W v := by
  obtain ⟨a, len, cap, rfl⟩ := okWide_slice Tryz.underlying52 hv
  obtain ⟨fuel, hf0⟩ := h
  obtain ⟨v', al, hc, hat, hd⟩ := open_adrs hf0
  simp [Value.cells] at hc
  subst hc
  refine ⟨al, hat, ?_⟩
  rcases hd with ⟨_, rfl⟩ | ⟨ds, sp, hd, hl, hk⟩
  · simp
  · simp only at hd
    subst hd
    simp only [DataW.weights, Tryz.underlying52] at hz
    refine ⟨?_, fun c hc => ?_⟩
    · have h1 := hz _ (List.mem_cons_self ..)
      have h2 := bytesAddr
      rw [← hl]
      refine Nat.le_trans ?_ h1
      refine Nat.le_trans (Nat.le_add_right ds.length sp.length) ?_
      exact Nat.le_mul_of_pos_right _ h2
    · obtain ⟨k, hk', rfl⟩ := List.getElem_of_mem hc
      exact adrD_said (hk k hk' (by omega)) fun n hn => hz n (List.mem_cons_of_mem _ (List.mem_append.2 (Or.inl (weights_all ds k (by omega) n hn))))

end Go.Proofs.YtgboekilhldejaaGreatDoor
