/-
  Base texts, one behind another: OpenAddr, AddrKit.
-/
import Derived.Test.YtjbfdbccidhdfaaDoorFF
import Derived.Test.YtjbfdbccidhdfaaDoorFG
import Derived.Test.YtjbfdbccidhdfaaDoorFP
import Derived.Test.YtjbfdbccidhdfaaDoorFK
import Derived.Test.YtjbfdbccidhdfaaDoorFD
import Derived.Test.YtjbfdbccidhdfaaDoorFN
import Derived.Test.YtjbfdbccidhdfaaDoorFO

/-
  Addresses, rows of texts and rows of addresses that come in, opened.
-/
namespace Go.Proofs.YtjbfdbccidhdfaaDoor
open Go.RowKit Go.ChangeShapes Go.WideShapes Go.Deep
set_option linter.unusedVariables false
set_option maxRecDepth 20000

/-- An address as it lies: its parts, and the three slices. -/
structure AdrC where
  a : Adr
  p : Value
  h : Value
  q : Value
def adrCells (c : AdrC) : List Value := [.string ⟨c.a.display.toArray⟩, .string ⟨c.a.uri.scheme.toArray⟩, .string ⟨c.a.uri.user.toArray⟩, .string ⟨c.a.uri.host.toArray⟩, .int .i64 c.a.uri.port, c.p, c.h, c.q]
def adrV (a : Adr) (p h q : Value) : Value := .agg #[.string ⟨a.display.toArray⟩, .string ⟨a.uri.scheme.toArray⟩, .string ⟨a.uri.user.toArray⟩, .string ⟨a.uri.host.toArray⟩, .int .i64 a.uri.port, p, h, q]
/-- A slice's length is within its room. -/
def CapOk : Value → Prop
  | .slice _ n c => n ≤ c
  | _ => True
/-- Its slices hold what they should. -/
def AdrC.At (w : World) (c : AdrC) : Prop := ParsAt w c.p c.a.uri.params ∧ ParsAt w c.h c.a.uri.headers ∧ ParsAt w c.q c.a.params ∧ CapOk c.q
theorem AdrC.At.below {w w' : World} {c : AdrC} (h : c.At w) (hb : Below w.heap.size w w') : c.At w' := ⟨h.1.below hb, h.2.1.below hb, h.2.2.1.below hb, h.2.2.2⟩
/-- The slice v holds the addresses cs. -/
def AdrsAt (w : World) (v : Value) (cs : List AdrC) : Prop :=
  (∃ (ao : Option Addr) (cap : Nat), v = .slice ao cs.length cap ∧ ∀ k (hk : k < cs.length), ∃ ad, ao = some ad ∧ ad.block < w.heap.size ∧ ∀ j (u : Value), (adrCells cs[k])[j]? = some u → w.cell? (if j = 0 then ad.add (k * 8) else ⟨(ad.add (k * 8)).block, (ad.add (k * 8)).off + j, none⟩) = some u) ∧ ∀ c ∈ cs, c.At w
theorem AdrsAt.below {w w' : World} {v : Value} {cs : List AdrC} (h : AdrsAt w v cs) (hb : Below w.heap.size w w') : AdrsAt w' v cs := by
  obtain ⟨⟨ao, cap, hv, hc⟩, h2⟩ := h
  refine ⟨⟨ao, cap, hv, fun k hk => ?_⟩, fun c hc => (h2 c hc).below hb⟩
  obtain ⟨ad, e, hlt, hcell⟩ := hc k hk
  refine ⟨ad, e, Nat.lt_of_lt_of_le hlt hb.size, fun j u hj => cell_below hb ?_ (hcell j u hj)⟩
  split <;> simp only [add_block] <;> exact hlt
theorem AdrsAt.form {w : World} {v : Value} {cs : List AdrC} (h : AdrsAt w v cs) : ∃ a cap, v = .slice a cs.length cap := by
  obtain ⟨⟨ao, cap, hv, _⟩, _⟩ := h
  exact ⟨ao, cap, hv⟩

theorem OwnP.cap {w : World} {B : Nat} {v : Value} {ps : List Par} (h : OwnP w B v ps) : CapOk v := by
  rcases h.2 with ⟨rfl, hn⟩ | ⟨g, cap, cur, rfl, hb, hg, h1, _⟩
  · exact Nat.le_refl 0
  · exact h1
variable {H : Type} {enc : TypeId × Value → H} {W : World} {sp : Nat → Bool}

theorem cap_pars {fuel : Nat} {v : Value} {x : DataW H × List MemPlace} (h : DataW.trod enc Tryd.prog W 0 sp true fuel 38 [v] = some x) : CapOk v := by
  rcases open_slice Tryd.underlying38 h with ⟨e, _⟩ | ⟨a, len, cap, m, n, D, Pl, e, _, hlc, _⟩
  · simp only [List.cons.injEq, and_true] at e
    subst e; exact Nat.le_refl 0
  · simp only [List.cons.injEq, and_true] at e
    subst e; exact hlc
def uriD (u : Uri) (dp dh : DataW H) : DataW H := .agg [.lit (.string u.scheme), .lit (.string u.user), .lit (.string u.host), .lit (.int .i64 u.port), dp, dh]
def adrD (a : Adr) (dp dh dq : DataW H) : DataW H := .agg [.lit (.string a.display), uriD a.uri dp dh, dq]
def AdrD (d : DataW H) (a : Adr) : Prop := ∃ dp dh dq, d = adrD a dp dh dq ∧ ParD dp a.uri.params ∧ ParD dh a.uri.headers ∧ ParD dq a.params
theorem open_strs {fuel : Nat} {cs : List Value} {x : DataW H × List MemPlace} (h : DataW.trod enc Tryd.prog W 0 sp true fuel 58 cs = some x) :
    ∃ (v : Value) (ls : List (List UInt8)), cs = [v] ∧ StrsAt W v ls ∧ ((x.1 = .nil ∧ ls = []) ∨ ∃ sp, x.1 = .slice (ls.map fun l => .lit (.string l)) sp) := by
  rcases open_slice Tryd.underlying58 h with ⟨rfl, rfl⟩ | ⟨a, len, cap, m, n, D, Pl, rfl, _, hlc, hcm, hm, rfl, hall⟩
  · exact ⟨_, [], rfl, ⟨none, 0, rfl, fun k hk => by simp at hk⟩, Or.inl ⟨rfl, rfl⟩⟩
  · have hlm : len ≤ m := by rw [hm]; split <;> omega
    have each : ∀ i, i < len → ∃ l : List UInt8, D i = .lit (.string l) ∧ (a.block < W.heap.size ∧ W.cell? (a.add i) = some (.string ⟨l.toArray⟩)) := by
      intro i hi
      obtain ⟨cs', h1, h2⟩ := hall i (by omega)
      obtain ⟨s, rfl, hd, _⟩ := DataW.trod_string Tryd.underlying9 h2
      rw [cellsStr] at h1
      obtain ⟨_, _, hc⟩ := World.cells?_some h1
      have c0 := hc 0 (by omega)
      have hc0 : W.cell? (a.add i) = some (.string ⟨s.data.toList.toArray⟩) := by rw [back]; simpa [Addr.add] using c0
      refine ⟨s.data.toList, congrArg Prod.fst hd, ?_, hc0⟩
      have : (a.add i).block < W.heap.size := by
        unfold World.cell? at hc0
        cases hh : W.heap[(a.add i).block]? with
        | none => simp [hh] at hc0
        | some o => exact (Array.getElem?_eq_some_iff.1 hh).1
      rwa [add_block] at this
    obtain ⟨f, hf⟩ := @choose_lt (List UInt8) ⟨[]⟩ len _ each
    refine ⟨_, (List.range len).map f, rfl, ⟨some a, cap, by simp, fun k hk => ?_⟩, Or.inr ⟨(List.range (m - len)).map fun j => D (len + j), ?_⟩⟩
    · simp at hk
      refine ⟨a, rfl, ?_⟩
      simpa using (hf k hk).2
    · simp only [List.map_map]
      congr 1
      apply List.map_congr_left
      intro i hi
      exact (hf i (by simpa using hi)).1

def SmallA (B : Nat) (a : Adr) : Prop := a.display.length ≤ B ∧ SmallU B a.uri ∧ SmallP B a.params
theorem SmallA.le {B C : Nat} {a : Adr} (h : SmallA B a) (hc : B ≤ C) : SmallA C a :=
  ⟨Nat.le_trans h.1 hc, ⟨Nat.le_trans h.2.1.1 hc, Nat.le_trans h.2.1.2.1 hc, Nat.le_trans h.2.1.2.2.1 hc, ⟨Nat.le_trans h.2.1.2.2.2.1.1 hc, fun p hp => ⟨Nat.le_trans (h.2.1.2.2.2.1.2 p hp).1 hc, Nat.le_trans (h.2.1.2.2.2.1.2 p hp).2 hc⟩⟩, ⟨Nat.le_trans h.2.1.2.2.2.2.1 hc, fun p hp => ⟨Nat.le_trans (h.2.1.2.2.2.2.2 p hp).1 hc, Nat.le_trans (h.2.1.2.2.2.2.2 p hp).2 hc⟩⟩⟩,
    ⟨Nat.le_trans h.2.2.1 hc, fun p hp => ⟨Nat.le_trans (h.2.2.2 p hp).1 hc, Nat.le_trans (h.2.2.2 p hp).2 hc⟩⟩⟩
/-- What came in. -/
def AddrIn (B : Nat) (W : World) (v : Value) : Prop := ∃ c : AdrC, v = adrV c.a c.p c.h c.q ∧ c.At W ∧ SmallA B c.a
def AddrsIn (B : Nat) (W : World) (v : Value) : Prop := ∃ cs : List AdrC, AdrsAt W v cs ∧ cs.length ≤ B ∧ ∀ c ∈ cs, SmallA B c.a
def StrsIn (B : Nat) (W : World) (v : Value) : Prop := ∃ ls : List (List UInt8), StrsAt W v ls ∧ ls.length ≤ B ∧ ∀ l ∈ ls, l.length ≤ B
def ParsIn (B : Nat) (W : World) (v : Value) : Prop := ∃ ps : List Par, ParsAt W v ps ∧ CapOk v ∧ SmallP B ps

theorem adrD_upto {B : Nat} {d : DataW H} {a : Adr} (hd : AdrD d a) (hz : Rows.uptoBulk d ≤ B) : SmallA B a := by
  obtain ⟨dp, dh, dq, rfl, d1, d2, d3⟩ := hd
  simp only [adrD, uriD, Rows.uptoBulkAll, Rows.uptoBulk] at hz
  exact ⟨by omega, ⟨by omega, by omega, by omega, small_upto d1 (by omega), small_upto d2 (by omega)⟩, small_upto d3 (by omega)⟩
theorem pars_upto {B : Nat} {r : Reach} {b0 : Nat} {v : Value} {d : DataW H} {p : List MemPlace} (hv : Value.okWide Tryd.prog W r b0 38 v) (h : DataW.Trod enc Tryd.prog W 0 sp true 38 v d p)
    (hz : Rows.uptoBulk d ≤ B) : ParsIn B W v := by
  obtain ⟨a, len, cap, rfl⟩ := okWide_slice Tryd.underlying38 hv
  obtain ⟨fuel, hf0⟩ := h
  obtain ⟨v', ps, hc, hat, hd⟩ := open_pars hf0
  have hk := cap_pars hf0
  simp [Value.cells] at hc
  subst hc
  exact ⟨ps, hat, hk, small_upto hd hz⟩
theorem bulk_strs (ls : List (List UInt8)) : (∀ l ∈ ls, l.length ≤ Rows.uptoBulkAll (ls.map fun l => DataW.lit (H := H) (.string l))) ∧ ls.length ≤ Rows.uptoBulkAll (ls.map fun l => DataW.lit (H := H) (.string l)) := by
  induction ls with
  | nil => simp
  | cons q ls ih =>
    simp only [List.map_cons, Rows.uptoBulkAll, Rows.uptoBulk] at ih ⊢
    refine ⟨fun p hp => ?_, by simp; omega⟩
    rcases List.mem_cons.1 hp with rfl | hp
    · omega
    · have := ih.1 p hp; omega
theorem strs_upto {B : Nat} {r : Reach} {b0 : Nat} {v : Value} {d : DataW H} {p : List MemPlace} (hv : Value.okWide Tryd.prog W r b0 58 v) (h : DataW.Trod enc Tryd.prog W 0 sp true 58 v d p)
    (hz : Rows.uptoBulk d ≤ B) : StrsIn B W v := by
  obtain ⟨a, len, cap, rfl⟩ := okWide_slice Tryd.underlying58 hv
  obtain ⟨fuel, hf0⟩ := h
  obtain ⟨v', ls, hc, hat, hd⟩ := open_strs hf0
  simp [Value.cells] at hc
  subst hc
  refine ⟨ls, hat, ?_⟩
  rcases hd with ⟨_, rfl⟩ | ⟨sp, hd⟩
  · simp
  · simp only at hd
    subst hd
    simp only [Rows.uptoBulk] at hz
    have hb := bulk_strs (H := H) ls
    exact ⟨by omega, fun l hl => by have := hb.1 l hl; omega⟩
theorem weights_all {t : TypeId} : ∀ (ds : List (DataW H)) (k : Nat) (hk : k < ds.length) (n : Nat), n ∈ ds[k].weights Tryd.prog t → n ∈ DataW.weightsAll Tryd.prog t ds
  | [], k, hk, n, h => by simp at hk
  | d :: ds, 0, hk, n, h => by simp only [DataW.weightsAll, List.mem_append]; exact Or.inl h
  | d :: ds, k + 1, hk, n, h => by simp only [DataW.weightsAll, List.mem_append]; exact Or.inr (weights_all ds k (by simpa using hk) n h)
end Go.Proofs.YtjbfdbccidhdfaaDoor

/-
  Contracts of layers 1 and 3 over lists of bytes, as layer 5 calls them.
-/
namespace Go.Proofs.YtjbfdbccidhdfaaDoor
open Go.RowKit Sc
set_option linter.unusedVariables false
set_option maxRecDepth 20000

theorem quote_list (l : List UInt8) (w : World) (h : l.length ≤ 1048576) :
    Calls Tryd.prog 103 #[.string ⟨l.toArray⟩] w fun e w' => e = .returned (.tuple #[.string ⟨(quoteV l).1.toArray⟩, .int .i64 (quoteV l).2]) ∧ Below w.heap.size w w' := quote_any ⟨l.toArray⟩ w (by rw [size_list]; omega)
theorem refquote_list (l : List UInt8) (w : World) (h : l.length ≤ 1048576) :
    Calls Tryd.prog 74 #[.string ⟨l.toArray⟩] w fun e w' => e = .returned (.tuple #[.string ⟨(quoteV l).1.toArray⟩, .int .i64 (quoteV l).2]) ∧ Below w.heap.size w w' := refquote_any ⟨l.toArray⟩ w (by rw [size_list]; omega)
theorem unquote_list (l : List UInt8) (w : World) (h : l.length ≤ 140737488355328) :
    Calls Tryd.prog 85 #[.string ⟨l.toArray⟩] w fun e w' => e = .returned (.tuple #[.string ⟨(unquoteV l).1.toArray⟩, .int .i64 (unquoteV l).2]) ∧ Below w.heap.size w w' := unquote_any ⟨l.toArray⟩ w (by rw [size_list]; exact h)
theorem refunquote_list (l : List UInt8) (w : World) (h : l.length ≤ 140737488355328) :
    Calls Tryd.prog 69 #[.string ⟨l.toArray⟩] w fun e w' => e = .returned (.tuple #[.string ⟨(unquoteV l).1.toArray⟩, .int .i64 (unquoteV l).2]) ∧ Below w.heap.size w w' := refunquote_any ⟨l.toArray⟩ w (by rw [size_list]; exact h)
theorem startsB_quo (l : List UInt8) : startsB 34 l = quoB l := by
  unfold startsB quoB
  cases l with
  | nil => decide
  | cons b r => simp
theorem strPrefix_l (l : List UInt8) (w : World) :
    Calls Tryd.prog 84 #[.string ⟨l.toArray⟩, .string ⟨#[34]⟩] w fun e w' => e = .returned (.bool (quoB l)) ∧ w' = w := by
  have h := strPrefix_any ⟨l.toArray⟩ 34 w (by decide)
  have e : startsB 34 (⟨l.toArray⟩ : ByteArray).data.toList = quoB l := startsB_quo l
  rw [e] at h; exact h
/-- The first part, and the others behind it. -/
theorem partsG_cons (sep : Int) : ∀ (l : List UInt8) (p : Pl) (cur : List UInt8), ∃ p0 ps, partsG sep p cur l = p0 :: ps
  | [], p, cur => ⟨_, _, rfl⟩
  | b :: r, p, cur => by
    rw [partsG]
    split
    · exact ⟨_, _, rfl⟩
    · exact partsG_cons sep r _ _
theorem own_row {w : World} {B : Nat} {v : Value} {p0 : List UInt8} {ps : List (List UInt8)} (hown2 : Own w B 9 v (strs (p0 :: ps))) :
    ∃ g cap, v = .slice (some ⟨g, 0, none⟩) (ps.length + 1) cap ∧ ps.length + 1 ≤ cap ∧ g < w.heap.size ∧ (∀ j (hj : j < (p0 :: ps).length), w.cell? ⟨g, j, none⟩ = some (.string ⟨((p0 :: ps)[j]).toArray⟩)) := by
  obtain ⟨g, cap, rfl, hc⟩ := own_strs hown2 (by simp)
  have hcap : ps.length + 1 ≤ cap ∧ g < w.heap.size := by
    rcases hown2.2 with ⟨e, _⟩ | ⟨g', cap', cur, e, hB, hg, h1, h2, h3, h4⟩
    · simp at e
    · simp only [Value.slice.injEq, Option.some.injEq, Addr.mk.injEq] at e
      obtain ⟨⟨rfl, _⟩, _, rfl⟩ := e
      rw [strs_length] at h1
      refine ⟨h1, ?_⟩
      apply Classical.byContradiction
      intro hge
      rw [Array.getElem?_eq_none (by omega)] at hg
      cases hg
  exact ⟨g, cap, rfl, hcap.1, hcap.2, hc⟩
theorem parts_of {l p0 : List UInt8} {ps : List (List UInt8)} {c : Int} (h : partsV c l = p0 :: ps) (w : World) (hs : l.length ≤ 1048576) :
    Calls Tryd.prog 43 #[.string ⟨l.toArray⟩, .int .u8 c] w fun e w' => ∃ g cap, e = .returned (.slice (some ⟨g, 0, none⟩) (ps.length + 1) cap) ∧ ps.length + 1 ≤ cap ∧ g < w'.heap.size ∧ (∀ j (hj : j < (p0 :: ps).length), w'.cell? ⟨g, j, none⟩ = some (.string ⟨((p0 :: ps)[j]).toArray⟩)) ∧ Below w.heap.size w w' := by
  have k := parts_any ⟨l.toArray⟩ c w (by rw [size_list]; omega)
  refine k.mono ?_
  rintro e w' ⟨v, rfl, hown, hb⟩
  have hown2 : Own w' (w.heap.size + 1) 9 v (strs (p0 :: ps)) := by rw [← h]; exact hown
  obtain ⟨g, cap, rfl, h1, h2, h3⟩ := own_row hown2
  exact ⟨g, cap, rfl, h1, h2, h3, hb⟩
theorem refparts_of {l p0 : List UInt8} {ps : List (List UInt8)} {c : Int} (h : partsV c l = p0 :: ps) (w : World) (hs : l.length ≤ 1048576) :
    Calls Tryd.prog 45 #[.string ⟨l.toArray⟩, .int .u8 c] w fun e w' => ∃ g cap, e = .returned (.slice (some ⟨g, 0, none⟩) (ps.length + 1) cap) ∧ ps.length + 1 ≤ cap ∧ g < w'.heap.size ∧ (∀ j (hj : j < (p0 :: ps).length), w'.cell? ⟨g, j, none⟩ = some (.string ⟨((p0 :: ps)[j]).toArray⟩)) ∧ Below w.heap.size w w' := by
  have k := refparts_any ⟨l.toArray⟩ c w (by rw [size_list]; omega)
  refine k.mono ?_
  rintro e w' ⟨v, rfl, hown, hb⟩
  have hown2 : Own w' w.heap.size 9 v (strs (p0 :: ps)) := by rw [← h]; exact hown
  obtain ⟨g, cap, rfl, h1, h2, h3⟩ := own_row hown2
  exact ⟨g, cap, rfl, h1, h2, h3, hb⟩

end Go.Proofs.YtjbfdbccidhdfaaDoor
