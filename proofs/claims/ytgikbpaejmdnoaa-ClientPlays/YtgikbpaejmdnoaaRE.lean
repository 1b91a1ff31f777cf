/-
  Base texts, one behind another: Regt, RCq10.
-/
import Derived.Test.YtgikbpaejmdnoaaRD

/-
  The last region of a round of the document's Step (layer 12): reads, an append, a store.
-/
namespace Go.Proofs.Ytgikbpaejmdnoaa
open Go.RowKit
set_option linter.unusedVariables false
set_option maxRecDepth 20000
set_option linter.unusedSimpArgs false

structure TP where
  W1 : World
  bt : Nat
  most : Int
  last : Int
  g : Nat
  cap : Nat
  l : List Cq
  k : Nat
  vl : Value
  ll : List Cq
  Bl : Nat
  base : List (Nat × Value)
def TP.vd (p : TP) : Value := .slice (if p.cap = p.k + 1 then some ⟨p.g, 0, none⟩ else (some ⟨p.g, 0, none⟩ : Option Addr).map (·.add ((p.k + 1) * 7))) (p.l.length - (p.k + 1)) (p.cap - (p.k + 1))
def TP.T (p : TP) : List (Nat × Nat × Value) := [(0, 78, (.pointer (some ⟨p.bt, 0, none⟩))), (1, 79, (.int .i64 p.most)), (2, 80, (.pointer (some ⟨p.bt, 1, none⟩))), (3, 81, (.int .i64 p.last)), (4, 82, p.vl), (5, 83, (.pointer (some ⟨p.bt, 2, none⟩))), (6, 84, (.slice (some ⟨p.g, 0, none⟩) p.l.length p.cap)), (7, 85, (.int .i64 p.k)), (8, 86, (.int .i64 (p.k + 1))), (9, 87, p.vd)]
def TP.agg (p : TP) (v : Value) : Value := .agg #[.int .i64 p.most, .int .i64 p.last, v]
def TP.D (p : TP) (x : Value × World) : List (Nat × Nat × Value) := [(10, 88, x.1), (11, 89, p.agg x.1)]
def TP.st3 (p : TP) (x : Value × World) : World := ((x.2.setCell ⟨p.bt, 0, none⟩ (.int .i64 p.most)).setCell ⟨p.bt, 1, none⟩ (.int .i64 p.last)).setCell ⟨p.bt, 2, none⟩ x.1
structure TP.Ok (p : TP) : Prop where
  hk : p.k < p.l.length
  hcap : p.l.length ≤ p.cap
  hn : p.l.length ≤ 1000000
  hll : p.ll.length ≤ 1000000
  own : OwnQ p.W1 p.Bl p.vl p.ll
  hBl : p.Bl ≤ p.W1.heap.size
  HC : ∀ u, p.W1.grownBy u p.vl.ownBlock → RowIs u p.bt 31 [.int .i64 p.most, .int .i64 p.last, .slice (some ⟨p.g, 0, none⟩) p.l.length p.cap] ∧ OwnQ u 0 (.slice (some ⟨p.g, 0, none⟩) p.l.length p.cap) p.l
  hb : ∀ e ∈ p.base, e.1 < 78 ∨ 90 ≤ e.1
  b2 : (2, (.pointer (some ⟨p.bt, 0, none⟩))) ∈ p.base
  b8 : (8, .int .i64 p.k) ∈ p.base
  b10 : (10, p.vl) ∈ p.base
structure TI (p : TP) (ops : Array Oper) (L : Array Bool) (a : Act) (w : World) (x : Value × World) : Prop where
  sz : a.tmps.size = 92
  df : a.defers = []
  base : ∀ e ∈ p.base, a.eval (.tmp e.1) = e.2
  tab : TabOk p.T L a
  dyn : TabOk (p.D x) L a
  clo : ∀ j j', Waits ops j j' → L.getD j false = true → L.getD j' false = true
  wd : w = if L.getD 12 false = true then p.st3 x else if L.getD 10 false = true then x.2 else p.W1
  rel : L.getD 10 false = true → OwnQ x.2 p.Bl x.1 (p.ll ++ p.l.drop (p.k + 1)) ∧ p.W1.grownBy x.2 p.vl.ownBlock
structure TOps (ops : Array Oper) : Prop where
  sz : ops.size = 13
  p0 : OpIs ops 0 (some 78) (.fieldAddr 31 (.tmp 2) 0)
  p1 : OpIs ops 1 (some 79) (.load 3 (.tmp 78))
  p2 : OpIs ops 2 (some 80) (.fieldAddr 31 (.tmp 2) 1)
  p3 : OpIs ops 3 (some 81) (.load 3 (.tmp 80))
  p4 : OpIs ops 4 (some 82) (.move (.tmp 10))
  p5 : OpIs ops 5 (some 83) (.fieldAddr 31 (.tmp 2) 2)
  p6 : OpIs ops 6 (some 84) (.load 29 (.tmp 83))
  p7 : OpIs ops 7 (some 85) (.move (.tmp 8))
  p8 : OpIs ops 8 (some 86) (.binOp .add 3 (.tmp 85) (.const (.int .i64 1)) 3)
  p9 : OpIs ops 9 (some 87) (.slice 29 (.tmp 84) (some (.tmp 86)) none none)
  p10 : OpIs ops 10 (some 88) (.call { callee := .builtin .append, args := #[.tmp 82, .tmp 87], argTypes := #[29, 29] })
  p11 : OpIs ops 11 (some 89) (.build 31 #[(0, .tmp 79), (1, .tmp 81), (2, .tmp 88)])
  p12 : OpIs ops 12 none (.store 31 (.tmp 2) (.tmp 89))
  w1_0 : Waits ops 1 0
  w3_2 : Waits ops 3 2
  w6_5 : Waits ops 6 5
  w8_7 : Waits ops 8 7
  w9_6 : Waits ops 9 6
  w9_8 : Waits ops 9 8
  w10_4 : Waits ops 10 4
  w10_9 : Waits ops 10 9
  w11_1 : Waits ops 11 1
  w11_3 : Waits ops 11 3
  w11_10 : Waits ops 11 10
  w12_11 : Waits ops 12 11
section
variable {p : TP} {ops : Array Oper} {L : Array Bool} {a : Act} {w w' : World} {x x' : Value × World}
theorem clo_set (h : ∀ j j', Waits ops j j' → L.getD j false = true → L.getD j' false = true) {i : Nat} (hL : i < L.size) (hi : i ∈ Region.ready .any ops L) : ∀ j j', Waits ops j j' → (L.setIfInBounds i true).getD j false = true → (L.setIfInBounds i true).getD j' false = true := by
  intro j j' hw hj
  by_cases e' : j' = i
  · rw [e']; exact getD_set_same hL
  · rw [getD_set_ne e']
    by_cases e : j = i
    · subst e; exact hw.on hi
    · rw [getD_set_ne e] at hj; exact h j j' hw hj
theorem TI.begin {n : Nat} (hs : a.tmps.size = 92) (hd : a.defers = []) (hb : ∀ e ∈ p.base, a.eval (.tmp e.1) = e.2) (x : Value × World) : TI p ops (Array.replicate n false) a p.W1 x := by
  have gz : ∀ j, (Array.replicate n false).getD j false = false := fun j => by rw [Array.getD_eq_getD_getElem?, Array.getElem?_replicate]; split <;> rfl
  exact ⟨hs, hd, hb, fun e _ hl => (by rw [gz] at hl; cases hl), fun e _ hl => (by rw [gz] at hl; cases hl), fun j j' _ hl => (by rw [gz] at hl; cases hl), by rw [gz, gz, if_neg (by decide), if_neg (by decide)], fun hl => (by rw [gz] at hl; cases hl)⟩
theorem TI.put (h : TI p ops L a w x) (hk : p.Ok) (i d : Nat) (v : Value) (hL : i < L.size) (hr : i ∈ Region.ready .any ops L) (hd : 78 ≤ d ∧ d < 90) (hi : i ≠ 10 ∧ i ≠ 12) (hT : ∀ e ∈ p.T, (e.2.1 = d ∧ e.2.2 = v) ∨ (e.1 ≠ i ∧ e.2.1 ≠ d)) (hD : ∀ e ∈ p.D x, (e.2.1 = d ∧ e.2.2 = v) ∨ (e.1 ≠ i ∧ e.2.1 ≠ d)) :
    TI p ops (L.setIfInBounds i true) (a.put (some d) v) w x := by
  have g1 : (L.setIfInBounds i true).getD 10 false = L.getD 10 false := getD_set_ne (Ne.symm hi.1)
  have g2 : (L.setIfInBounds i true).getD 12 false = L.getD 12 false := getD_set_ne (Ne.symm hi.2)
  exact ⟨by rw [put_size]; exact h.sz, by rw [put_defers]; exact h.df, fun e he => by rw [eval_put_ne (by have := hk.hb e he; omega)]; exact h.base e he, h.tab.put (by rw [h.sz]; omega) hT, h.dyn.put (by rw [h.sz]; omega) hD, clo_set h.clo hL hr, by rw [g1, g2]; exact h.wd, by rw [g1]; exact h.rel⟩
theorem TI.app (h : TI p ops L a w x) (S : TOps ops) (hk : p.Ok) (hL : L.size = 13) (hr : 10 ∈ Region.ready .any ops L) (hn : L.getD 10 false = false) (ho : OwnQ w' p.Bl x'.1 (p.ll ++ p.l.drop (p.k + 1))) (hg : p.W1.grownBy w' p.vl.ownBlock) (hw : x'.2 = w') :
    TI p ops (L.setIfInBounds 10 true) (a.put (some 88) x'.1) w' x' := by
  have n11 : L.getD 11 false = false := by
    cases e : L.getD 11 false
    · rfl
    · have := h.clo 11 10 S.w11_10 e; rw [hn] at this; cases this
  have n12 : L.getD 12 false = false := by
    cases e : L.getD 12 false
    · rfl
    · have := h.clo 12 11 S.w12_11 e; rw [n11] at this; cases this
  have g1 : (L.setIfInBounds 10 true).getD 10 false = true := getD_set_same (by omega)
  have g2 : (L.setIfInBounds 10 true).getD 12 false = false := by rw [getD_set_ne (by decide)]; exact n12
  refine ⟨by rw [put_size]; exact h.sz, by rw [put_defers]; exact h.df, fun e he => by rw [eval_put_ne (by have := hk.hb e he; omega)]; exact h.base e he, h.tab.put (by rw [h.sz]; decide) (by intro e he; simp [TP.T] at he; rcases he with rfl | rfl | rfl | rfl | rfl | rfl | rfl | rfl | rfl | rfl <;> simp), ?_, clo_set h.clo (by omega) hr, by rw [g1, g2, if_neg (by decide), if_pos rfl, hw], fun _ => ⟨by rw [hw]; exact ho, by rw [hw]; exact hg⟩⟩
  intro e he hl
  simp [TP.D] at he
  rcases he with rfl | rfl
  · exact eval_put_same (by rw [h.sz]; decide)
  · rw [getD_set_ne (show (11 : Nat) ≠ 10 by decide), n11] at hl; cases hl
theorem TI.store (h : TI p ops L a w x) (hL : L.size = 13) (hr : 12 ∈ Region.ready .any ops L) : TI p ops (L.setIfInBounds 12 true) a (p.st3 x) x := by
  have g1 : (L.setIfInBounds 12 true).getD 10 false = L.getD 10 false := getD_set_ne (by decide)
  have g2 : (L.setIfInBounds 12 true).getD 12 false = true := getD_set_same (by omega)
  exact ⟨h.sz, h.df, h.base, h.tab.skip (by intro e he; simp [TP.T] at he; rcases he with rfl | rfl | rfl | rfl | rfl | rfl | rfl | rfl | rfl | rfl <;> simp), h.dyn.skip (by intro e he; simp [TP.D] at he; rcases he with rfl | rfl <;> simp), clo_set h.clo (by omega) hr, by rw [g2, if_pos rfl], by rw [g1]; exact h.rel⟩
theorem TI.not12 (h : TI p ops L a w x) (S : TOps ops) {i : Nat} (hn : L.getD i false = false) (hi : i = 1 ∨ i = 3 ∨ i = 6) : L.getD 12 false = false := by
  cases e : L.getD 12 false
  · rfl
  · have e11 := h.clo 12 11 S.w12_11 e
    rcases hi with rfl | rfl | rfl
    · have := h.clo 11 1 S.w11_1 e11; rw [hn] at this; cases this
    · have := h.clo 11 3 S.w11_3 e11; rw [hn] at this; cases this
    · have := h.clo 9 6 S.w9_6 (h.clo 10 9 S.w10_9 (h.clo 11 10 S.w11_10 e11)); rw [hn] at this; cases this
theorem TI.grown (h : TI p ops L a w x) (hn : L.getD 12 false = false) : p.W1.grownBy w p.vl.ownBlock := by
  have := h.wd
  rw [hn, if_neg (by decide)] at this
  cases e : L.getD 10 false
  · rw [e, if_neg (by decide)] at this; subst this; exact ⟨rfl, rfl, rfl, Nat.le_refl _, fun _ _ _ => rfl⟩
  · rw [e, if_pos rfl] at this; subst this; exact (h.rel e).2
end
set_option maxHeartbeats 2000000 in
set_option maxRecDepth 100000 in
theorem regt_steps {ops : Array Oper} (S : TOps ops) (p : TP) (hk : p.Ok) (Q : Exit → Act → World → Prop) (L : Array Bool) (a : Act) (w : World) (i : Nat) (hs : L.size = ops.size) (hi : i ∈ Region.ready .any ops L) (hI : ∃ x, TI p ops L a w x) :
    wpOp Try.prog ops Q i (fun a' w' => ∃ x, TI p ops (L.setIfInBounds i true) a' w' x) a w := by
  obtain ⟨x, hI⟩ := hI
  obtain ⟨i0, hif, hz0, hz1, hz2⟩ := info_parts infoCq
  have hL : L.size = 13 := by rw [hs, S.sz]
  have hn0 : L.getD i false = false := by
    have := (mem_ready.1 hi).1
    rw [Array.getD_eq_getD_getElem?] at this ⊢
    cases e : L[i]? with
    | none => rw [e] at this; simp at this
    | some b => rw [e] at this; simpa using this
  have hi18 : i < 13 := by
    obtain ⟨_, o, ho, _⟩ := mem_ready.1 hi
    rw [← S.sz]; exact (Array.getElem?_eq_some_iff.1 ho).1
  have evc : ∀ v, a.eval (.const v) = v := fun _ => rfl
  have bs2 := hI.base _ hk.b2
  have bs8 := hI.base _ hk.b8
  have bs10 := hI.base _ hk.b10
  simp only at bs2 bs8 bs10
  have TB : ∀ jj dd vv, (jj, dd, vv) ∈ p.T → L.getD jj false = true → a.eval (.tmp dd) = vv := fun jj dd vv hm hl => hI.tab (jj, dd, vv) hm hl
  have TD : ∀ jj dd vv, (jj, dd, vv) ∈ p.D x → L.getD jj false = true → a.eval (.tmp dd) = vv := fun jj dd vv hm hl => hI.dyn (jj, dd, vv) hm hl
  have hkn : p.k < 1000000 := by have := hk.hk; have := hk.hn; omega
  rcases (show i = 0 ∨ i = 1 ∨ i = 2 ∨ i = 3 ∨ i = 4 ∨ i = 5 ∨ i = 6 ∨ i = 7 ∨ i = 8 ∨ i = 9 ∨ i = 10 ∨ i = 11 ∨ i = 12 by omega) with rfl | rfl | rfl | rfl | rfl | rfl | rfl | rfl | rfl | rfl | rfl | rfl | rfl
  · refine S.p0.val (v := (.pointer (some ⟨p.bt, 0, none⟩))) (w' := w) (fun o ho => ?_) ⟨x, hI.put hk 0 78 _ (by omega) hi (by decide) (by decide) (by intro e he; simp [TP.T] at he; rcases he with rfl | rfl | rfl | rfl | rfl | rfl | rfl | rfl | rfl | rfl <;> simp) (by intro e he; simp [TP.D] at he; rcases he with rfl | rfl <;> simp)⟩
    simp only [execOp, ho, bs2]
    clear hI TB TD S hk
    go_simp
  · have q0 := TB 0 78 ((.pointer (some ⟨p.bt, 0, none⟩))) (by simp [TP.T]) (S.w1_0.on hi)
    have hg := hI.grown (hI.not12 S hn0 (by simp))
    obtain ⟨hrow, _⟩ := hk.HC w hg
    obtain ⟨y0, y1, y2, _, _, _⟩ := hrow.sv3
    refine S.p1.val (v := (.int .i64 p.most)) (w' := w) (fun o ho => ?_) ⟨x, hI.put hk 1 79 _ (by omega) hi (by decide) (by decide) (by intro e he; simp [TP.T] at he; rcases he with rfl | rfl | rfl | rfl | rfl | rfl | rfl | rfl | rfl | rfl <;> simp) (by intro e he; simp [TP.D] at he; rcases he with rfl | rfl <;> simp)⟩
    simp only [execOp, ho, q0]
    clear hI TB TD S hk
    go_simp
  · refine S.p2.val (v := (.pointer (some ⟨p.bt, 1, none⟩))) (w' := w) (fun o ho => ?_) ⟨x, hI.put hk 2 80 _ (by omega) hi (by decide) (by decide) (by intro e he; simp [TP.T] at he; rcases he with rfl | rfl | rfl | rfl | rfl | rfl | rfl | rfl | rfl | rfl <;> simp) (by intro e he; simp [TP.D] at he; rcases he with rfl | rfl <;> simp)⟩
    simp only [execOp, ho, bs2]
    clear hI TB TD S hk
    go_simp
  · have q2 := TB 2 80 ((.pointer (some ⟨p.bt, 1, none⟩))) (by simp [TP.T]) (S.w3_2.on hi)
    have hg := hI.grown (hI.not12 S hn0 (by simp))
    obtain ⟨hrow, _⟩ := hk.HC w hg
    obtain ⟨y0, y1, y2, _, _, _⟩ := hrow.sv3
    refine S.p3.val (v := (.int .i64 p.last)) (w' := w) (fun o ho => ?_) ⟨x, hI.put hk 3 81 _ (by omega) hi (by decide) (by decide) (by intro e he; simp [TP.T] at he; rcases he with rfl | rfl | rfl | rfl | rfl | rfl | rfl | rfl | rfl | rfl <;> simp) (by intro e he; simp [TP.D] at he; rcases he with rfl | rfl <;> simp)⟩
    simp only [execOp, ho, q2]
    clear hI TB TD S hk
    go_simp
  · refine S.p4.val (v := p.vl) (w' := w) (fun o ho => ?_) ⟨x, hI.put hk 4 82 _ (by omega) hi (by decide) (by decide) (by intro e he; simp [TP.T] at he; rcases he with rfl | rfl | rfl | rfl | rfl | rfl | rfl | rfl | rfl | rfl <;> simp) (by intro e he; simp [TP.D] at he; rcases he with rfl | rfl <;> simp)⟩
    simp only [execOp, ho, bs10]
    clear hI TB TD S hk
    go_simp
  · refine S.p5.val (v := (.pointer (some ⟨p.bt, 2, none⟩))) (w' := w) (fun o ho => ?_) ⟨x, hI.put hk 5 83 _ (by omega) hi (by decide) (by decide) (by intro e he; simp [TP.T] at he; rcases he with rfl | rfl | rfl | rfl | rfl | rfl | rfl | rfl | rfl | rfl <;> simp) (by intro e he; simp [TP.D] at he; rcases he with rfl | rfl <;> simp)⟩
    simp only [execOp, ho, bs2]
    clear hI TB TD S hk
    go_simp
  · have q5 := TB 5 83 ((.pointer (some ⟨p.bt, 2, none⟩))) (by simp [TP.T]) (S.w6_5.on hi)
    have hg := hI.grown (hI.not12 S hn0 (by simp))
    obtain ⟨hrow, _⟩ := hk.HC w hg
    obtain ⟨y0, y1, y2, _, _, _⟩ := hrow.sv3
    refine S.p6.val (v := (.slice (some ⟨p.g, 0, none⟩) p.l.length p.cap)) (w' := w) (fun o ho => ?_) ⟨x, hI.put hk 6 84 _ (by omega) hi (by decide) (by decide) (by intro e he; simp [TP.T] at he; rcases he with rfl | rfl | rfl | rfl | rfl | rfl | rfl | rfl | rfl | rfl <;> simp) (by intro e he; simp [TP.D] at he; rcases he with rfl | rfl <;> simp)⟩
    simp only [execOp, ho, q5]
    clear hI TB TD S hk
    go_simp
  · refine S.p7.val (v := (.int .i64 p.k)) (w' := w) (fun o ho => ?_) ⟨x, hI.put hk 7 85 _ (by omega) hi (by decide) (by decide) (by intro e he; simp [TP.T] at he; rcases he with rfl | rfl | rfl | rfl | rfl | rfl | rfl | rfl | rfl | rfl <;> simp) (by intro e he; simp [TP.D] at he; rcases he with rfl | rfl <;> simp)⟩
    simp only [execOp, ho, bs8]
    clear hI TB TD S hk
    go_simp
  · have q7 := TB 7 85 ((.int .i64 p.k)) (by simp [TP.T]) (S.w8_7.on hi)
    refine S.p8.val (v := (.int .i64 (p.k + 1))) (w' := w) (fun o ho => ?_) ⟨x, hI.put hk 8 86 _ (by omega) hi (by decide) (by decide) (by intro e he; simp [TP.T] at he; rcases he with rfl | rfl | rfl | rfl | rfl | rfl | rfl | rfl | rfl | rfl <;> simp) (by intro e he; simp [TP.D] at he; rcases he with rfl | rfl <;> simp)⟩
    simp only [execOp, ho, evc, q7]
    clear hI TB TD S hk
    go_simp
    simp [IntKind.wrap, IntKind.bits, IntKind.signed]
    omega
  · have q6 := TB 6 84 ((.slice (some ⟨p.g, 0, none⟩) p.l.length p.cap)) (by simp [TP.T]) (S.w9_6.on hi)
    have q8 := TB 8 86 ((.int .i64 (p.k + 1))) (by simp [TP.T]) (S.w9_8.on hi)
    have hkk := hk.hk
    have hcc := hk.hcap
    refine S.p9.val (v := p.vd) (w' := w) (fun o ho => ?_) ⟨x, hI.put hk 9 87 _ (by omega) hi (by decide) (by decide) (by intro e he; simp [TP.T] at he; rcases he with rfl | rfl | rfl | rfl | rfl | rfl | rfl | rfl | rfl | rfl <;> simp) (by intro e he; simp [TP.D] at he; rcases he with rfl | rfl <;> simp)⟩
    simp only [execOp, ho, q6, q8]
    unfold TP.vd
    clear hI TB TD S hk
    have e1 : (p.k + 1 : Int).toNat = p.k + 1 := by omega
    have e2 : (0 : Int) ≤ (p.k : Int) + 1 := by omega
    have e3 : (p.k : Int) + 1 ≤ (p.l.length : Int) := by omega
    have r86 : a.tmps[86]?.getD undef = .int .i64 (p.k + 1) := by rw [← Array.getD_eq_getD_getElem?]; exact q8
    go_simp
  · have q4 := TB 4 82 (p.vl) (by simp [TP.T]) (S.w10_4.on hi)
    have q9 := TB 9 87 (p.vd) (by simp [TP.T]) (S.w10_9.on hi)
    have n12 : L.getD 12 false = false := by
      cases e : L.getD 12 false
      · rfl
      · have := hI.clo 11 10 S.w11_10 (hI.clo 12 11 S.w12_11 e); rw [hn0] at this; cases this
    have hw : w = p.W1 := by have := hI.wd; rw [n12, if_neg (by decide), hn0, if_neg (by decide)] at this; exact this
    subst hw
    have hg := hI.grown n12
    have hat := (hk.HC _ hg).2.dropNews p.k hk.hk
    obtain ⟨o, ho, hgd, hd, hop⟩ := S.p10
    refine wpOp_of ho (E := True) (step_appQ hgd (.tmp 82) (.tmp 87) 29 hop p.Bl i0 _ Try.underlying29 hif hz0 hz1 hz2 rfl _ p.ll q4 hk.own _ (p.l.drop (p.k + 1)) q9 hat (by have := hk.hn; have := hk.hll; rw [List.length_drop]; omega) hk.hBl ?_) hgd
    intro v' w' ho' hg'
    rw [hd]
    exact ⟨(v', w'), hI.app (x' := (v', w')) S hk hL hi hn0 ho' hg' rfl⟩
  · have h10 := S.w11_10.on hi
    have q1 := TB 1 79 (.int .i64 p.most) (by simp [TP.T]) (S.w11_1.on hi)
    have q3 := TB 3 81 (.int .i64 p.last) (by simp [TP.T]) (S.w11_3.on hi)
    have q10 := TD 10 88 x.1 (by simp [TP.D]) h10
    obtain ⟨oa, oc, hx⟩ := (hI.rel h10).1.form
    have hI' := hI.put hk 11 89 (p.agg x.1) (by omega) hi (by decide) (by decide) (by intro e he; simp [TP.T] at he; rcases he with rfl | rfl | rfl | rfl | rfl | rfl | rfl | rfl | rfl | rfl <;> simp) (by intro e he; simp [TP.D] at he; rcases he with rfl | rfl <;> simp)
    refine S.p11.val (v := p.agg x.1) (w' := w) (fun o ho => ?_) ⟨x, hI'⟩
    simp only [execOp, ho]
    rw [hx] at q10
    have em : Array.map (fun x : Nat × Operand => (x.fst, a.eval x.snd)) #[(0, Operand.tmp 79), (1, Operand.tmp 81), (2, Operand.tmp 88)] = #[(0, .int .i64 p.most), (1, .int .i64 p.last), (2, .slice oa (p.ll ++ p.l.drop (p.k + 1)).length oc)] := by simp only [List.map_toArray, List.map_cons, List.map_nil, q1, q3, q10]
    rw [em]
    unfold TP.agg
    rw [hx]
    clear hI TB TD S hk hI' hz0 evc
    go_simp
  · have h11 := S.w12_11.on hi
    have h10 := hI.clo 11 10 S.w11_10 h11
    have q11 := TD 11 89 (p.agg x.1) (by simp [TP.D]) h11
    obtain ⟨oa, oc, hx⟩ := (hI.rel h10).1.form
    have hg := hI.grown hn0
    obtain ⟨hrow, _⟩ := hk.HC w hg
    obtain ⟨y0, y1, y2, f0, f1, f2⟩ := hrow.sv3
    have hw : x.2 = w := by have := hI.wd; rw [hn0, if_neg (by decide), h10, if_pos rfl] at this; exact this.symm
    have hI' := hI.store hL hi
    unfold TP.st3 at hI'
    unfold TP.agg at q11
    rw [hw, hx] at hI'
    rw [hx] at q11
    refine S.p12.skip (w' := _) (fun o ho => ?_) ⟨x, hI'⟩
    simp only [execOp, ho, bs2, q11]
    clear hI TB TD S hk hI' hrow hz0 evc
    go_simp
end Go.Proofs.Ytgikbpaejmdnoaa

/-
  What a round of the document's Step (layer 12) keeps.
-/
namespace Go.Proofs.Ytgikbpaejmdnoaa
open Go.RowKit
set_option linter.unusedVariables false
set_option maxRecDepth 20000
set_option linter.unusedSimpArgs false

/-- A store into a row of another type keeps a row. -/
theorem rows_far3 {w : World} {B b e s n : Nat} {v : Value} {xs us : List Value} (hne : e ≠ 31) (h : w.ownsRow B e s v n xs) (hr : RowIs w b 31 us) (v0 v1 v2 : Value) : (((w.setCell ⟨b, 0, none⟩ v0).setCell ⟨b, 1, none⟩ v1).setCell ⟨b, 2, none⟩ v2).ownsRow B e s v n xs := by
  obtain ⟨h1, h2⟩ := h
  refine ⟨h1, ?_⟩
  rcases h2 with h2 | ⟨g, cap, cur, hv, hg, hh, r⟩
  · exact Or.inl h2
  · have hne : g ≠ b := fun e' => by
      subst e'
      unfold RowIs at hr
      rw [hr] at hh
      injection hh with hh
      injection hh with _ hh
      exact hne hh.symm
    exact Or.inr ⟨g, cap, cur, hv, hg, by rw [set3_block w hne]; exact hh, r⟩
theorem rows_differ {w : World} {B1 B2 e1 e2 s1 s2 n1 n2 : Nat} {v1 v2 : Value} {x1 x2 : List Value} (h1 : w.ownsRow B1 e1 s1 v1 n1 x1) (h2 : w.ownsRow B2 e2 s2 v2 n2 x2) (hne : e2 ≠ e1) : v2.ownBlock = none ∨ v2.ownBlock ≠ v1.ownBlock := by
  rcases h2.2 with ⟨rfl, _⟩ | ⟨g2, c2, u2, rfl, _, hg2, _⟩
  · exact Or.inl rfl
  · right
    rcases h1.2 with ⟨rfl, _⟩ | ⟨g1, c1, u1, rfl, _, hg1, _⟩
    · simp [Value.ownBlock]
    · simp only [Value.ownBlock]
      intro e
      injection e with e
      rw [e, hg1] at hg2
      injection hg2 with hg2
      injection hg2 with _ hg2
      exact hne hg2.symm
theorem row_differ {w : World} {B b e1 e2 s n : Nat} {v : Value} {xs us : List Value} (h : w.ownsRow B e1 s v n xs) (hr : RowIs w b e2 us) (hne : e1 ≠ e2) : some b ≠ v.ownBlock := by
  rcases h.2 with ⟨rfl, _⟩ | ⟨g, c, u, rfl, _, hg, _⟩
  · simp [Value.ownBlock]
  · simp only [Value.ownBlock]
    intro e
    injection e with e
    unfold RowIs at hr
    rw [e, hg] at hr
    injection hr with hr
    injection hr with _ hr
    exact hne hr
theorem neCT : 78 ≠ 31 := by decide
theorem neDT : 66 ≠ 31 := by decide
theorem neDC : 66 ≠ 78 := by decide
/-- Inside Step: the table t lies at bt, its row is v; what is due so far is out, its row is vo; the result lies at b4. -/
structure StQ (w : World) (B bt b4 : Nat) (u : World) (t : Tq) (v vo : Value) (out : List Du) : Prop where
  box : RowIs u bt 31 [.int .i64 t.most, .int .i64 t.last, v]
  res : RowIs u b4 31 [.int .i64 0, .int .i64 0, .slice none 0 0]
  own : OwnQ u B v t.l
  outo : OwnD u w.heap.size vo out
  bel : Below w.heap.size w u
section
variable {w u u' : World} {B bt b4 : Nat} {t : Tq} {v vo : Value} {out : List Du}
theorem StQ.below (h : StQ w B bt b4 u t v vo out) (hb : Below u.heap.size u u') : StQ w B bt b4 u' t v vo out :=
  ⟨h.box.below hb (Array.getElem?_eq_some_iff.1 h.box).1, h.res.below hb (Array.getElem?_eq_some_iff.1 h.res).1, h.own.below hb, h.outo.below hb, h.bel.trans (hb.mono h.bel.size)⟩
theorem StQ.lt (h : StQ w B bt b4 u t v vo out) : bt < u.heap.size ∧ b4 < u.heap.size := ⟨(Array.getElem?_eq_some_iff.1 h.box).1, (Array.getElem?_eq_some_iff.1 h.res).1⟩
/-- Something is added to what is due. -/
theorem StQ.due (h : StQ w B bt b4 u t v vo out) {o : Obj} {vo' : Value} {out' : List Du} (ho : OwnD u' w.heap.size vo' out') (hg : (u.alloc o).grownBy u' vo.ownBlock) : StQ w B bt b4 u' t v vo' out' := by
  have hb : Below u.heap.size u (u.alloc o) := (Below.refl _ u).alloc (Nat.le_refl _) _
  have h1 := h.below hb
  exact ⟨row_kept h1.box hg (row_differ h1.outo h1.box neDT), row_kept h1.res hg (row_differ h1.outo h1.res neDT), World.ownsRow.kept h1.own hg (rows_differ h1.outo h1.own neDC.symm), ho, h1.bel.grown hg h1.bel.size (fun g e => (World.ownsRow.lt h1.outo g e).1)⟩
/-- A row of transactions that was made since is left as it was. -/
theorem StQ.kept (h : StQ w B bt b4 u t v vo out) {o : Obj} {vo' : Value} {C : Nat} {vl : Value} {ll : List Cq} (hl : OwnQ u C vl ll) (hg : (u.alloc o).grownBy u' vo.ownBlock) : OwnQ u' C vl ll :=
  World.ownsRow.kept (hl.alloc o) hg (rows_differ (h.outo.alloc o) (hl.alloc o) neDC.symm)
/-- The row grows that is to be the table's. -/
theorem StQ.grow (h : StQ w B bt b4 u t v vo out) {C : Nat} {vl : Value} {ll : List Cq} (hl : OwnQ u C vl ll) (hv : v.ownBlock = none ∨ v.ownBlock ≠ vl.ownBlock) (hC : w.heap.size ≤ C) (hg : u.grownBy u' vl.ownBlock) : StQ w B bt b4 u' t v vo out :=
  ⟨row_kept h.box hg (row_differ hl h.box neCT), row_kept h.res hg (row_differ hl h.res neCT), World.ownsRow.kept h.own hg hv, World.ownsRow.kept h.outo hg (rows_differ hl h.outo neDC), h.bel.grown hg h.bel.size (fun g e => Nat.le_trans hC (World.ownsRow.lt hl g e).1)⟩
/-- The table is written anew. -/
theorem StQ.set (h : StQ w B bt b4 u t v vo out) (hbt : w.heap.size ≤ bt) (hne : b4 ≠ bt) {v' : Value} {l' : List Cq} {C : Nat} (hC : B ≤ C) (ho : OwnQ u C v' l') :
    StQ w B bt b4 (((u.setCell ⟨bt, 0, none⟩ (.int .i64 t.most)).setCell ⟨bt, 1, none⟩ (.int .i64 t.last)).setCell ⟨bt, 2, none⟩ v') ⟨t.most, t.last, l'⟩ v' vo out := by
  refine ⟨sv_store3 h.box _ _ _, ?_, sv_mono (rows_far3 neCT ho h.box _ _ _) hC, rows_far3 neDT h.outo h.box _ _ _, sv_below3 h.bel bt hbt _ _ _⟩
  have hr := h.res
  unfold RowIs at *
  rw [set3_block u hne]
  exact hr
/-- Step's answer. -/
def StepRes (R : Tq × List Du) (B : Nat) (w w' : World) (e : Ending) : Prop := ∃ v1 v2, e = .returned (.tuple #[tqV R.1 v1, v2]) ∧ OwnQ w' B v1 R.1.l ∧ OwnD w' w.heap.size v2 R.2 ∧ Below w.heap.size w w'
theorem StQ.fin (h : StQ w B bt b4 u t v vo out) (hb4 : w.heap.size ≤ b4) : RowIs (((u.setCell ⟨b4, 0, none⟩ (.int .i64 t.most)).setCell ⟨b4, 1, none⟩ (.int .i64 t.last)).setCell ⟨b4, 2, none⟩ v) b4 31 [.int .i64 t.most, .int .i64 t.last, v] ∧ OwnQ (((u.setCell ⟨b4, 0, none⟩ (.int .i64 t.most)).setCell ⟨b4, 1, none⟩ (.int .i64 t.last)).setCell ⟨b4, 2, none⟩ v) B v t.l ∧ OwnD (((u.setCell ⟨b4, 0, none⟩ (.int .i64 t.most)).setCell ⟨b4, 1, none⟩ (.int .i64 t.last)).setCell ⟨b4, 2, none⟩ v) w.heap.size vo out ∧ Below w.heap.size w (((u.setCell ⟨b4, 0, none⟩ (.int .i64 t.most)).setCell ⟨b4, 1, none⟩ (.int .i64 t.last)).setCell ⟨b4, 2, none⟩ v) :=
  ⟨sv_store3 h.res _ _ _, rows_far3 neCT h.own h.res _ _ _, rows_far3 neDT h.outo h.res _ _ _, sv_below3 h.bel b4 hb4 _ _ _⟩
end
theorem stepq_none {now : Int} {n : Nat} {t : Tq} {out : List Du} (h : nextQ t.l t.l.length < 0) : stepQ now (n + 1) t out = (t, out) := by rw [stepQ, if_pos h]
theorem stepq_late {now : Int} {n k : Nat} {t : Tq} {out : List Du} (hk : k < t.l.length) (h : nextQ t.l t.l.length = k) (hl : now < atQ t.l[k]) : stepQ now (n + 1) t out = (t, out) := by
  rw [stepQ, if_neg (by omega), h, Int.toNat_natCast, List.getElem?_eq_getElem hk]
  simp only
  rw [if_pos hl]
theorem stepq_do {now : Int} {n k : Nat} {t : Tq} {out : List Du} (hk : k < t.l.length) (h : nextQ t.l t.l.length = k) (hl : ¬ now < atQ t.l[k]) : stepQ now (n + 1) t out = stepQ now n (oneQ t k t.l[k]).1 (out ++ (oneQ t k t.l[k]).2) := by
  rw [stepQ, if_neg (by omega), h, Int.toNat_natCast, List.getElem?_eq_getElem hk]
  simp only
  rw [if_neg hl]
theorem oneq_again {t : Tq} {k : Nat} {c : Cq} (h1 : c.rest < 0) (h2 : atQ c - c.begun < 320) : oneQ t k c = (⟨t.most, t.last, t.l.take k ++ [{ c with times := c.times + 1 }] ++ t.l.drop (k + 1)⟩, [⟨c.id, false, c.to, c.tx⟩]) := by unfold oneQ; rw [if_pos ⟨h1, h2⟩]
theorem oneq_over {t : Tq} {k : Nat} {c : Cq} (h1 : c.rest < 0) (h2 : ¬ atQ c - c.begun < 320) : oneQ t k c = (⟨t.most, t.last, t.l.take k ++ t.l.drop (k + 1)⟩, [⟨c.id, true, [], []⟩]) := by unfold oneQ; rw [if_neg (fun x => h2 x.2), if_pos h1]
theorem oneq_rest {t : Tq} {k : Nat} {c : Cq} (h1 : ¬ c.rest < 0) : oneQ t k c = (⟨t.most, t.last, t.l.take k ++ t.l.drop (k + 1)⟩, []) := by unfold oneQ; rw [if_neg (fun x => h1 x.1), if_neg h1]
structure OneAt (w : World) (b : Nat) (c : Cq) : Prop where
  c0 : w.cell? ⟨b, 0, none⟩ = some (.int .i64 c.id)
  c1 : w.cell? ⟨b, 1, none⟩ = some (.string ⟨c.br.toArray⟩)
  c2 : w.cell? ⟨b, 2, none⟩ = some (.int .i64 c.begun)
  c3 : w.cell? ⟨b, 3, none⟩ = some (.int .i64 c.times)
  c4 : w.cell? ⟨b, 4, none⟩ = some (.int .i64 c.rest)
  c5 : w.cell? ⟨b, 5, none⟩ = some (.string ⟨c.to.toArray⟩)
  c6 : w.cell? ⟨b, 6, none⟩ = some (.string ⟨c.tx.toArray⟩)
  f3 : w.frozen? ⟨b, 3, none⟩ = false
theorem OwnQ.at1 {w : World} {B b : Nat} {c : Cq} (h : OwnQ w B (.slice (some ⟨b, 0, none⟩) 1 1) [c]) : OneAt w b c := by
  have hf := World.ownsRow.frozenAt h 3
  obtain ⟨hv, _⟩ | ⟨g, cap, hv, _, _, _, hat⟩ := h.get
  · simp at hv
  · injection hv with h1 h2 h3
    injection h1 with h1
    injection h1 with h1 _
    subst h1
    obtain ⟨a0, a1, a2, a3, a4, a5, a6⟩ := hat 0 (by simp)
    simp only [Nat.zero_mul, Nat.zero_add, List.getElem_cons_zero] at a0 a1 a2 a3 a4 a5 a6
    exact ⟨a0, a1, a2, a3, a4, a5, a6, hf⟩
theorem OwnQ.timed {w : World} {B b : Nat} {c : Cq} (h : OwnQ w B (.slice (some ⟨b, 0, none⟩) 1 1) [c]) (n : Int) : OwnQ (w.setCell ⟨b, 3, none⟩ (.int .i64 n)) B (.slice (some ⟨b, 0, none⟩) 1 1) [{ c with times := n }] := by
  have := (World.ownsRow.stored h 3 (.int .i64 n)).1
  exact this
/-- A cell of another row is written. -/
theorem row_touch {w : World} {B b e s n i : Nat} {v x : Value} {xs : List Value} (h : w.ownsRow B e s v n xs) (hb : v.ownBlock ≠ some b) : (w.setCell ⟨b, i, none⟩ x).ownsRow B e s v n xs := by
  obtain ⟨h1, h2⟩ := h
  refine ⟨h1, ?_⟩
  rcases h2 with h2 | ⟨g, cap, cur, hv, hg, hh, r⟩
  · exact Or.inl h2
  · have hne : g ≠ b := fun e => hb (by rw [hv, e]; rfl)
    exact Or.inr ⟨g, cap, cur, hv, hg, by rw [Below.heap_setCell _ ⟨b, i, none⟩ _ _ hne]; exact hh, r⟩
theorem StQ.touch {w u : World} {B bt b4 : Nat} {t : Tq} {v vo : Value} {out : List Du} (h : StQ w B bt b4 u t v vo out) {b i : Nat} (x : Value) {C : Nat} {c : Cq} (hc : OwnQ u C (.slice (some ⟨b, 0, none⟩) 1 1) [c]) (hb : w.heap.size ≤ b) (hv : v.ownBlock ≠ some b) : StQ w B bt b4 (u.setCell ⟨b, i, none⟩ x) t v vo out := by
  have n1 : bt ≠ b := fun e => row_differ hc h.box neCT (by rw [e]; rfl)
  have n2 : b4 ≠ b := fun e => row_differ hc h.res neCT (by rw [e]; rfl)
  have n3 : vo.ownBlock ≠ some b := fun e => by
    rcases rows_differ hc h.outo neDC with h1 | h1
    · rw [h1] at e; cases e
    · exact h1 (by rw [e]; rfl)
  refine ⟨?_, ?_, row_touch h.own hv, row_touch h.outo n3, h.bel.setCell hb _⟩
  · have := h.box; unfold RowIs at *; rw [Below.heap_setCell _ ⟨b, i, none⟩ _ _ n1]; exact this
  · have := h.res; unfold RowIs at *; rw [Below.heap_setCell _ ⟨b, i, none⟩ _ _ n2]; exact this
theorem own_ne {u : World} {C g n cap : Nat} {vl : Value} {ll : List Cq} (h : OwnQ u C vl ll) (hg : g < C) : (Value.slice (some ⟨g, 0, none⟩) n cap).ownBlock = none ∨ (Value.slice (some ⟨g, 0, none⟩) n cap).ownBlock ≠ vl.ownBlock := by
  right
  intro e
  have := (World.ownsRow.lt h g e.symm).1
  omega
theorem own_ne2 {u : World} {C b : Nat} {vl : Value} {ll : List Cq} (h : OwnQ u C vl ll) (hb : b < C) : vl.ownBlock ≠ some b := fun e => by
  have := (World.ownsRow.lt h b e).1
  omega
/-- Ahead of the last region of a round. -/
theorem tp_ok {w W : World} {B b4 g cap k C : Nat} {most last : Int} {l ll : List Cq} {vl vo : Value} {out : List Du} (hS : StQ w B w.heap.size b4 W ⟨most, last, l⟩ (.slice (some ⟨g, 0, none⟩) l.length cap) vo out) (hl : OwnQ W C vl ll) (hg : g < C) (hC : w.heap.size ≤ C) (hW : C ≤ W.heap.size) (hk : k < l.length) (hcap : l.length ≤ cap) (hn : l.length ≤ 1000000) (hll : ll.length ≤ 1000000) {base : List (Nat × Value)} (hb : ∀ e ∈ base, e.1 < 78 ∨ 90 ≤ e.1) (b2 : (2, .pointer (some ⟨w.heap.size, 0, none⟩)) ∈ base) (b8 : (8, .int .i64 k) ∈ base) (b10 : (10, vl) ∈ base) :
    TP.Ok ⟨{ W with drawn := W.drawn + 1 }, w.heap.size, most, last, g, cap, l, k, vl, ll, C, base⟩ := by
  have hd : Below W.heap.size W { W with drawn := W.drawn + 1 } := (Below.refl _ W).drew
  have hSd := hS.below hd
  have hld : OwnQ { W with drawn := W.drawn + 1 } C vl ll := hl.below hd
  refine ⟨hk, hcap, hn, hll, hld, hW, fun u hu => ?_, hb, b2, b8, b10⟩
  have := hSd.grow hld (own_ne hld hg) hC hu
  exact ⟨this.box, sv_mono this.own (Nat.zero_le _)⟩
/-- Behind it. -/
theorem tp_end {w W : World} {B b4 g cap k C : Nat} {most last : Int} {l ll : List Cq} {vl vo : Value} {out : List Du} (hS : StQ w B w.heap.size b4 W ⟨most, last, l⟩ (.slice (some ⟨g, 0, none⟩) l.length cap) vo out) (hl : OwnQ W C vl ll) (hg : g < C) (hC : w.heap.size ≤ C) (hB : B ≤ C) (hne : b4 ≠ w.heap.size) {base : List (Nat × Value)} {x : Value × World} {l' : List Cq}
    (hr : OwnQ x.2 C x.1 l' ∧ World.grownBy { W with drawn := W.drawn + 1 } x.2 vl.ownBlock) : StQ w B w.heap.size b4 (TP.st3 ⟨{ W with drawn := W.drawn + 1 }, w.heap.size, most, last, g, cap, l, k, vl, ll, C, base⟩ x) ⟨most, last, l'⟩ x.1 vo out := by
  have hd : Below W.heap.size W { W with drawn := W.drawn + 1 } := (Below.refl _ W).drew
  have hSd := hS.below hd
  have hld : OwnQ { W with drawn := W.drawn + 1 } C vl ll := hl.below hd
  exact (hSd.grow hld (own_ne hld hg) hC hr.2).set (Nat.le_refl _) hne hB hr.1
theorem cq_new_s (w : World) (a : Addr) (x : Value) (c : Cq) (t : TypeId) : ∀ (j : Nat) (u : Value), (cqsCells [c])[j]? = some u → ((w.setCell a x).alloc (.cells (cqCells c).toArray t)).cell? ((⟨w.heap.size, 0, none⟩ : Addr).add j) = some u := by
  have e : (w.setCell a x).heap.size = w.heap.size := by simp
  have := cq_new (w.setCell a x) c t
  rw [e] at this
  exact this
end Go.Proofs.Ytgikbpaejmdnoaa
