/-
  The last region of the document's Start: what holds whatever was run ahead.
-/
import Derived.Test.YtbnmdljlfldgoaaRA
import Derived.Test.YtbnmdljlfldgoaaInvAny
namespace Go.Proofs.Ytbnmdljlfldgoaa
open Go.RowKit
set_option linter.unusedVariables false
set_option maxRecDepth 20000
set_option linter.unusedSimpArgs false

structure K9 where
  C : Cl
  most : Int
  last : Int
  l : List Cl
  v : Value
  B : Nat
  bt : Nat
  b10 : Nat
  bc : Nat
  W5 : Nat
  W0 : World
structure K9.Ok (k : K9) : Prop where
  h1 : k.bt < k.W5
  h2 : k.bc < k.W5
  h3 : k.b10 < k.W5
  n1 : k.b10 ≠ k.bt
  n2 : k.b10 ≠ k.bc
  lo : k.W0.heap.size ≤ k.b10
  vlt : ∀ g, k.v.ownBlock = some g → g < k.W5
def T9 (k : K9) : List (Nat × Nat × Value) :=
  [(0, 49, .pointer (some ⟨k.bt, 0, none⟩)), (1, 50, .int .i64 k.most), (2, 51, .pointer (some ⟨k.bt, 1, none⟩)), (3, 52, .int .i64 k.last), (4, 53, .int .i64 (k.last + 1)), (6, 55, .pointer (some ⟨k.bt, 2, none⟩)), (7, 56, k.v), (9, 58, .agg (clCells k.C).toArray), (13, 62, .pointer (some ⟨k.bc, 0, none⟩)), (14, 63, .int .i64 k.C.id), (16, 11, .int .i64 k.C.id), (17, 12, .int .i64 0)]
structure Dyn (k : K9) (l5 l8 l10 l11 l12 l15 : Bool) (x54 x57 x59 x60 x61 : Value) (w : World) : Prop where
  rd : Rd w k.bt k.bc k.most k.last k.v k.C
  bel : Below k.W0.heap.size k.W0 w
  lo : k.W5 ≤ w.heap.size
  vown : OwnC w k.B k.v k.l
  row : RowIs w k.b10 31 (if l15 = true then [.int .i64 k.most, .int .i64 (k.last + 1), x60] else [.int .i64 0, .int .i64 0, .slice none 0 0])
  e12 : l12 = true → x61 = .agg #[.int .i64 k.most, .int .i64 (k.last + 1), x60]
  o5 : l5 = true → l8 = false → OwnC w k.W5 x54 []
  o8 : l8 = true → l11 = false → OwnC w k.W5 x57 k.l
  o10 : l10 = true → l11 = false → OwnC w k.W5 x59 [k.C]
  n5 : l10 = true → l5 = true → l8 = false → x59.ownBlock ≠ x54.ownBlock
  o11 : l11 = true → OwnC w k.W5 x60 (k.l ++ [k.C])
  c12 : l12 = true → l11 = true
  c15 : l15 = true → l11 = true
  c8 : l11 = true → l8 = true
structure Inv9 (k : K9) (L : Array Bool) (a : Act) (w : World) : Prop where
  sz : a.tmps.size = 64
  df : a.defers = []
  t5 : a.eval (.tmp 5) = .pointer (some ⟨k.bt, 0, none⟩)
  t10 : a.eval (.tmp 10) = .pointer (some ⟨k.b10, 0, none⟩)
  t15 : a.eval (.tmp 15) = .pointer (some ⟨k.bc, 0, none⟩)
  tab : TabOk (T9 k) L a
  dyn : Dyn k (L.getD 5 false) (L.getD 8 false) (L.getD 10 false) (L.getD 11 false) (L.getD 12 false) (L.getD 15 false) (a.eval (.tmp 54)) (a.eval (.tmp 57)) (a.eval (.tmp 59)) (a.eval (.tmp 60)) (a.eval (.tmp 61)) w
section
variable {k : K9} {L : Array Bool} {a : Act} {w w' : World}
theorem Inv9.quiet (h : Inv9 k L a w) (i d : Nat) (v : Value) (hd : d < 64) (hi : i ≠ 5 ∧ i ≠ 8 ∧ i ≠ 10 ∧ i ≠ 11 ∧ i ≠ 12 ∧ i ≠ 15) (hn : d ≠ 5 ∧ d ≠ 10 ∧ d ≠ 15 ∧ d ≠ 54 ∧ d ≠ 57 ∧ d ≠ 59 ∧ d ≠ 60 ∧ d ≠ 61)
    (hT : ∀ e ∈ T9 k, (e.2.1 = d ∧ e.2.2 = v) ∨ (e.1 ≠ i ∧ e.2.1 ≠ d)) : Inv9 k (L.setIfInBounds i true) (a.put (some d) v) w := by
  obtain ⟨i1, i2, i3, i4, i5, i6⟩ := hi
  obtain ⟨d1, d2, d3, d4, d5, d6, d7, d8⟩ := hn
  refine ⟨by rw [put_size]; exact h.sz, by rw [put_defers]; exact h.df, by rw [eval_put_ne (Ne.symm d1)]; exact h.t5, by rw [eval_put_ne (Ne.symm d2)]; exact h.t10, by rw [eval_put_ne (Ne.symm d3)]; exact h.t15, h.tab.put (by rw [h.sz]; exact hd) hT, ?_⟩
  rw [getD_set_ne (Ne.symm i1), getD_set_ne (Ne.symm i2), getD_set_ne (Ne.symm i3), getD_set_ne (Ne.symm i4), getD_set_ne (Ne.symm i5), getD_set_ne (Ne.symm i6), eval_put_ne (Ne.symm d4), eval_put_ne (Ne.symm d5), eval_put_ne (Ne.symm d6), eval_put_ne (Ne.symm d7), eval_put_ne (Ne.symm d8)]
  exact h.dyn
theorem Rd.kept {bt bc : Nat} {most last : Int} {v : Value} {c : Cl} (h : Rd w bt bc most last v c) {r : Option Nat} (hg : w.grownBy w' r) (h1 : some bt ≠ r) (h2 : some bc ≠ r) : Rd w' bt bc most last v c :=
  ⟨hg.cell h.x0 h1, hg.cell h.x1 h1, hg.cell h.x2 h1, hg.cell h.c0 h2, hg.cell h.c1 h2, hg.cell h.c2 h2, hg.cell h.c3 h2, hg.cell h.c4 h2, hg.cell h.c5 h2, hg.cell h.c6 h2, hg.cell h.c7 h2⟩
theorem row_kept {b : Nat} {e : TypeId} {us : List Value} (h : RowIs w b e us) {r : Option Nat} (hg : w.grownBy w' r) (hne : some b ≠ r) : RowIs w' b e us := by
  unfold RowIs at *; rw [hg.block b (Array.getElem?_eq_some_iff.1 h).1 hne]; exact h
theorem alloc_grown (w : World) (o : Obj) (r : Option Nat) : w.grownBy (w.alloc o) r := ⟨rfl, rfl, rfl, by simp, fun k hk _ => Below.heap_alloc _ _ _ hk⟩
theorem bel_grown {B : Nat} {a w w' : World} (h : Below B a w) {r : Option Nat} (hB : B ≤ w.heap.size) (hg : w.grownBy w' r) (hr : ∀ g, r = some g → B ≤ g) : Below B a w' := h.grown hg hB hr
variable {l5 l8 l10 l11 l12 l15 : Bool} {x54 x57 x59 x60 x61 : Value}
theorem Dyn.w0 (h : Dyn k l5 l8 l10 l11 l12 l15 x54 x57 x59 x60 x61 w) (hk : k.Ok) : k.W0.heap.size ≤ w.heap.size := h.bel.size
theorem Dyn.low (hk : k.Ok) {r : Option Nat} (hr : ∀ g, r = some g → k.W5 ≤ g) {b : Nat} (hb : b < k.W5) : some b ≠ r := fun e => by have := hr b e.symm; omega
/-- Memory is made, or a row in a block from W5 on is written. -/
theorem Dyn.grow (h : Dyn k l5 l8 l10 l11 l12 l15 x54 x57 x59 x60 x61 w) (hk : k.Ok) {r : Option Nat} (hg : w.grownBy w' r) (hr : ∀ g, r = some g → k.W5 ≤ g) :
    Rd w' k.bt k.bc k.most k.last k.v k.C ∧ Below k.W0.heap.size k.W0 w' ∧ k.W5 ≤ w'.heap.size ∧ OwnC w' k.B k.v k.l ∧ RowIs w' k.b10 31 (if l15 = true then [.int .i64 k.most, .int .i64 (k.last + 1), x60] else [.int .i64 0, .int .i64 0, .slice none 0 0]) := by
  have hlw : k.W0.heap.size ≤ k.W5 := by have := hk.lo; have := hk.h3; omega
  refine ⟨h.rd.kept hg (Dyn.low hk hr hk.h1) (Dyn.low hk hr hk.h2), h.bel.grown hg h.bel.size (fun g e => Nat.le_trans hlw (hr g e)), Nat.le_trans h.lo hg.size, World.ownsRow.kept h.vown hg ?_, row_kept h.row hg (Dyn.low hk hr hk.h3)⟩
  cases e : k.v.ownBlock with
  | none => exact .inl rfl
  | some g => exact .inr (Dyn.low hk hr (hk.vlt g e))
theorem set3_block (w : World) {b g : Nat} (h : g ≠ b) (v0 v1 v2 : Value) : (((w.setCell ⟨b, 0, none⟩ v0).setCell ⟨b, 1, none⟩ v1).setCell ⟨b, 2, none⟩ v2).heap[g]? = w.heap[g]? := by
  rw [Below.heap_setCell _ ⟨b, 2, none⟩ _ _ h, Below.heap_setCell _ ⟨b, 1, none⟩ _ _ h, Below.heap_setCell _ ⟨b, 0, none⟩ _ _ h]
/-- A store into a row of another type keeps a row of transactions. -/
theorem own_far3 {B b : Nat} {v : Value} {l : List Cl} {us : List Value} (h : OwnC w B v l) (hr : RowIs w b 31 us) (v0 v1 v2 : Value) : OwnC (((w.setCell ⟨b, 0, none⟩ v0).setCell ⟨b, 1, none⟩ v1).setCell ⟨b, 2, none⟩ v2) B v l := by
  obtain ⟨h1, h2⟩ := h
  refine ⟨h1, ?_⟩
  rcases h2 with h2 | ⟨g, cap, cur, hv, hg, hh, r⟩
  · exact Or.inl h2
  · have hne : g ≠ b := fun e => by
      subst e
      unfold RowIs at hr
      rw [hr] at hh
      simp at hh
    exact Or.inr ⟨g, cap, cur, hv, hg, by rw [set3_block w hne]; exact hh, r⟩
theorem Inv9.s5 (h : Inv9 k L a w) (hk : k.Ok) (hL : L.size = 18) : Inv9 k (L.setIfInBounds 5 true) (a.put (some 54) (.slice (some ⟨w.heap.size, 0, none⟩) 0 0)) (w.alloc (.cells #[] 71)) := by
  refine ⟨by rw [put_size]; exact h.sz, by rw [put_defers]; exact h.df, by rw [eval_put_ne (by decide)]; exact h.t5, by rw [eval_put_ne (by decide)]; exact h.t10, by rw [eval_put_ne (by decide)]; exact h.t15, h.tab.put (by rw [h.sz]; decide) (by intro e he; simp [T9] at he; rcases he with rfl | rfl | rfl | rfl | rfl | rfl | rfl | rfl | rfl | rfl | rfl | rfl <;> simp), ?_⟩
  rw [getD_set_same (by rw [hL]; decide), getD_set_ne (by decide), getD_set_ne (by decide), getD_set_ne (by decide), getD_set_ne (by decide), getD_set_ne (by decide), eval_put_same (by rw [h.sz]; decide), eval_put_ne (by decide), eval_put_ne (by decide), eval_put_ne (by decide), eval_put_ne (by decide)]
  have d := h.dyn
  obtain ⟨g1, g2, g3, g4, g5⟩ := d.grow hk (alloc_grown w (.cells #[] 71) none) (fun g e => by cases e)
  refine ⟨g1, g2, g3, g4, g5, d.e12, fun _ _ => OwnC.empty w k.W5 d.lo, fun a1 a2 => (d.o8 a1 a2).alloc _, fun a1 a2 => (d.o10 a1 a2).alloc _, fun a1 a2 a3 e => ?_, fun a1 => (d.o11 a1).alloc _, d.c12, d.c15, d.c8⟩
  cases h11 : L.getD 11 false
  · have := (World.ownsRow.lt (d.o10 a1 h11) w.heap.size (by rw [e]; rfl)).2
    omega
  · exact absurd (d.c8 h11) (by rw [a3]; decide)
theorem Inv9.s10 (h : Inv9 k L a w) (hk : k.Ok) (hL : L.size = 18) : Inv9 k (L.setIfInBounds 10 true) (a.put (some 59) (.slice (some ⟨w.heap.size, 0, none⟩) 1 1)) (w.alloc (.cells (clCells k.C).toArray 71)) := by
  refine ⟨by rw [put_size]; exact h.sz, by rw [put_defers]; exact h.df, by rw [eval_put_ne (by decide)]; exact h.t5, by rw [eval_put_ne (by decide)]; exact h.t10, by rw [eval_put_ne (by decide)]; exact h.t15, h.tab.put (by rw [h.sz]; decide) (by intro e he; simp [T9] at he; rcases he with rfl | rfl | rfl | rfl | rfl | rfl | rfl | rfl | rfl | rfl | rfl | rfl <;> simp), ?_⟩
  rw [getD_set_same (by rw [hL]; decide), getD_set_ne (by decide), getD_set_ne (by decide), getD_set_ne (by decide), getD_set_ne (by decide), getD_set_ne (by decide), eval_put_same (by rw [h.sz]; decide), eval_put_ne (by decide), eval_put_ne (by decide), eval_put_ne (by decide), eval_put_ne (by decide)]
  have d := h.dyn
  obtain ⟨g1, g2, g3, g4, g5⟩ := d.grow hk (alloc_grown w (.cells (clCells k.C).toArray 71) none) (fun g e => by cases e)
  refine ⟨g1, g2, g3, g4, g5, d.e12, fun a1 a2 => (d.o5 a1 a2).alloc _, fun a1 a2 => (d.o8 a1 a2).alloc _, fun _ _ => OwnC.one w k.W5 d.lo k.C, fun _ a2 a3 e => ?_, fun a1 => (d.o11 a1).alloc _, d.c12, d.c15, d.c8⟩
  have := (World.ownsRow.lt (d.o5 a2 a3) w.heap.size (by rw [← e]; rfl)).2
  omega
theorem Inv9.s8 (h : Inv9 k L a w) (hk : k.Ok) (hL : L.size = 18) (h5 : L.getD 5 false = true) (h8 : L.getD 8 false = false) {v' : Value} (ho : OwnC w' k.W5 v' k.l) (hg : w.grownBy w' (a.eval (.tmp 54)).ownBlock) : Inv9 k (L.setIfInBounds 8 true) (a.put (some 57) v') w' := by
  refine ⟨by rw [put_size]; exact h.sz, by rw [put_defers]; exact h.df, by rw [eval_put_ne (by decide)]; exact h.t5, by rw [eval_put_ne (by decide)]; exact h.t10, by rw [eval_put_ne (by decide)]; exact h.t15, h.tab.put (by rw [h.sz]; decide) (by intro e he; simp [T9] at he; rcases he with rfl | rfl | rfl | rfl | rfl | rfl | rfl | rfl | rfl | rfl | rfl | rfl <;> simp), ?_⟩
  have d := h.dyn
  have hr : ∀ g, (a.eval (.tmp 54)).ownBlock = some g → k.W5 ≤ g := fun g e => (World.ownsRow.lt (d.o5 h5 h8) g e).1
  have h11 : L.getD 11 false = false := by
    cases e : L.getD 11 false
    · rfl
    · have := d.c8 e; rw [h8] at this; cases this
  rw [getD_set_same (by rw [hL]; decide), getD_set_ne (by decide), getD_set_ne (by decide), getD_set_ne (by decide), getD_set_ne (by decide), getD_set_ne (by decide), eval_put_same (by rw [h.sz]; decide), eval_put_ne (by decide), eval_put_ne (by decide), eval_put_ne (by decide), eval_put_ne (by decide)]
  obtain ⟨g1, g2, g3, g4, g5⟩ := d.grow hk hg hr
  refine ⟨g1, g2, g3, g4, g5, d.e12, fun _ e => (by cases e), fun _ _ => ho, fun a1 a2 => World.ownsRow.kept (d.o10 a1 a2) hg (.inr (d.n5 a1 h5 h8)), fun _ _ e => (by cases e), fun a1 => (by rw [h11] at a1; cases a1), d.c12, d.c15, fun _ => rfl⟩
theorem Inv9.s11 (h : Inv9 k L a w) (hk : k.Ok) (hL : L.size = 18) (h8 : L.getD 8 false = true) (h11 : L.getD 11 false = false) {v' : Value} (ho : OwnC w' k.W5 v' (k.l ++ [k.C])) (hg : w.grownBy w' (a.eval (.tmp 57)).ownBlock) : Inv9 k (L.setIfInBounds 11 true) (a.put (some 60) v') w' := by
  refine ⟨by rw [put_size]; exact h.sz, by rw [put_defers]; exact h.df, by rw [eval_put_ne (by decide)]; exact h.t5, by rw [eval_put_ne (by decide)]; exact h.t10, by rw [eval_put_ne (by decide)]; exact h.t15, h.tab.put (by rw [h.sz]; decide) (by intro e he; simp [T9] at he; rcases he with rfl | rfl | rfl | rfl | rfl | rfl | rfl | rfl | rfl | rfl | rfl | rfl <;> simp), ?_⟩
  have d := h.dyn
  have hr : ∀ g, (a.eval (.tmp 57)).ownBlock = some g → k.W5 ≤ g := fun g e => (World.ownsRow.lt (d.o8 h8 h11) g e).1
  have h12 : L.getD 12 false = false := by
    cases e : L.getD 12 false
    · rfl
    · have := d.c12 e; rw [h11] at this; cases this
  have h15 : L.getD 15 false = false := by
    cases e : L.getD 15 false
    · rfl
    · have := d.c15 e; rw [h11] at this; cases this
  rw [getD_set_same (by rw [hL]; decide), getD_set_ne (by decide), getD_set_ne (by decide), getD_set_ne (by decide), getD_set_ne (by decide), getD_set_ne (by decide), eval_put_same (by rw [h.sz]; decide), eval_put_ne (by decide), eval_put_ne (by decide), eval_put_ne (by decide), eval_put_ne (by decide)]
  obtain ⟨g1, g2, g3, g4, g5⟩ := d.grow hk hg hr
  rw [h12, h15, h8]
  rw [h15] at g5
  exact ⟨g1, g2, g3, g4, g5, fun e => (by cases e), fun _ e => (by cases e), fun _ e => (by cases e), fun _ e => (by cases e), fun _ _ e => (by cases e), fun _ => ho, fun e => (by cases e), fun e => (by cases e), fun _ => rfl⟩
theorem Inv9.s12 (h : Inv9 k L a w) (hL : L.size = 18) (h11 : L.getD 11 false = true) : Inv9 k (L.setIfInBounds 12 true) (a.put (some 61) (.agg #[.int .i64 k.most, .int .i64 (k.last + 1), a.eval (.tmp 60)])) w := by
  refine ⟨by rw [put_size]; exact h.sz, by rw [put_defers]; exact h.df, by rw [eval_put_ne (by decide)]; exact h.t5, by rw [eval_put_ne (by decide)]; exact h.t10, by rw [eval_put_ne (by decide)]; exact h.t15, h.tab.put (by rw [h.sz]; decide) (by intro e he; simp [T9] at he; rcases he with rfl | rfl | rfl | rfl | rfl | rfl | rfl | rfl | rfl | rfl | rfl | rfl <;> simp), ?_⟩
  have d := h.dyn
  rw [getD_set_same (by rw [hL]; decide), getD_set_ne (by decide), getD_set_ne (by decide), getD_set_ne (by decide), getD_set_ne (by decide), getD_set_ne (by decide), eval_put_same (by rw [h.sz]; decide), eval_put_ne (by decide), eval_put_ne (by decide), eval_put_ne (by decide), eval_put_ne (by decide)]
  exact ⟨d.rd, d.bel, d.lo, d.vown, d.row, fun _ => rfl, d.o5, d.o8, d.o10, d.n5, d.o11, fun _ => h11, d.c15, d.c8⟩
theorem Inv9.s15 (h : Inv9 k L a w) (hk : k.Ok) (hL : L.size = 18) (h8 : L.getD 8 false = true) (h11 : L.getD 11 false = true) (h15 : L.getD 15 false = false) :
    Inv9 k (L.setIfInBounds 15 true) a (((w.setCell ⟨k.b10, 0, none⟩ (.int .i64 k.most)).setCell ⟨k.b10, 1, none⟩ (.int .i64 (k.last + 1))).setCell ⟨k.b10, 2, none⟩ (a.eval (.tmp 60))) := by
  refine ⟨h.sz, h.df, h.t5, h.t10, h.t15, h.tab.skip (by intro e he; simp [T9] at he; rcases he with rfl | rfl | rfl | rfl | rfl | rfl | rfl | rfl | rfl | rfl | rfl | rfl <;> simp), ?_⟩
  have d := h.dyn
  rw [getD_set_same (by rw [hL]; decide), getD_set_ne (by decide), getD_set_ne (by decide), getD_set_ne (by decide), getD_set_ne (by decide), getD_set_ne (by decide), h8, h11]
  have hrow := d.row
  rw [h15, if_neg (by decide)] at hrow
  have hc : ∀ {b : Nat}, b ≠ k.b10 → ∀ (j : Nat) (u : Value), w.cell? ⟨b, j, none⟩ = some u → (((w.setCell ⟨k.b10, 0, none⟩ (.int .i64 k.most)).setCell ⟨k.b10, 1, none⟩ (.int .i64 (k.last + 1))).setCell ⟨k.b10, 2, none⟩ (a.eval (.tmp 60))).cell? ⟨b, j, none⟩ = some u := fun hb j u hu => by
    rw [World.cell?_of_block (a := ⟨_, j, none⟩) (set3_block w hb _ _ _)]
    exact hu
  have r := d.rd
  have hlw : k.W0.heap.size ≤ k.b10 := hk.lo
  have nb1 : k.bt ≠ k.b10 := Ne.symm hk.n1
  have nb2 : k.bc ≠ k.b10 := Ne.symm hk.n2
  refine ⟨⟨hc nb1 _ _ r.x0, hc nb1 _ _ r.x1, hc nb1 _ _ r.x2, hc nb2 _ _ r.c0, hc nb2 _ _ r.c1, hc nb2 _ _ r.c2, hc nb2 _ _ r.c3, hc nb2 _ _ r.c4, hc nb2 _ _ r.c5, hc nb2 _ _ r.c6, hc nb2 _ _ r.c7⟩, sv_below3 d.bel k.b10 hlw _ _ _, by simpa using d.lo, ?_, ?_, d.e12, fun _ e => (by cases e), fun _ e => (by cases e), fun _ e => (by cases e), fun _ _ e => (by cases e), fun _ => sv_set3 (d.o11 h11) hk.h3 _ _ _, fun _ => rfl, fun _ => rfl, fun _ => rfl⟩
  · exact own_far3 d.vown hrow _ _ _
  · rw [if_pos rfl]; exact sv_store3 hrow _ _ _
end
end Go.Proofs.Ytbnmdljlfldgoaa
