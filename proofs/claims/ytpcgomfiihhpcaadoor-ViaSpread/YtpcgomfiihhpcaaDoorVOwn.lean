/-
  Rows of hops that a call made itself; a hop in a block of its own.
-/
import Derived.Test.YtpcgomfiihhpcaaDoorViaStepL
import Derived.Test.YtpcgomfiihhpcaaDoorFR
import Derived.Test.YtpcgomfiihhpcaaDoorFN
namespace Go.Proofs.YtpcgomfiihhpcaaDoor
open Go.RowKit Sc
set_option linter.unusedVariables false
set_option maxRecDepth 20000

/-- The three cells of a hop's block. -/
def BoxV (w : World) (b : Nat) (h : Hop) (q : Value) : Prop := w.cell? ⟨b, 0, none⟩ = some (.string ⟨h.host.toArray⟩) ∧ w.cell? ⟨b, 1, none⟩ = some (.int .i64 h.port) ∧ w.cell? ⟨b, 2, none⟩ = some q
theorem BoxV.below {w w' : World} {b B : Nat} {h : Hop} {q : Value} (k : BoxV w b h q) (hb : Below B w w') (hlt : b < B) : BoxV w' b h q := ⟨cell_below hb hlt k.1, cell_below hb hlt k.2.1, cell_below hb hlt k.2.2⟩
def objV (h : Hop) (q : Value) : Obj := .cells #[.string ⟨h.host.toArray⟩, .int .i64 h.port, q] 24
theorem boxV_new (w : World) (h : Hop) (q : Value) : BoxV (w.alloc (objV h q)) w.heap.size h q := by
  unfold BoxV World.cell? objV
  simp only [heap_alloc_new]
  exact ⟨rfl, rfl, rfl⟩

def hopsCells (cs : List HopC) : List Value := cs.flatMap hpCells
theorem hpCells_len (c : HopC) : (hpCells c).length = 3 := rfl
theorem hopsCells_len (cs : List HopC) : (hopsCells cs).length = cs.length * 3 := by
  induction cs with
  | nil => rfl
  | cons c cs ih =>
    have e : hopsCells (c :: cs) = hpCells c ++ hopsCells cs := rfl
    rw [e, List.length_append, ih, hpCells_len, List.length_cons]; omega
theorem hopsCells_get (cs : List HopC) (k : Nat) (hk : k < cs.length) (j : Nat) (u : Value) (h : (hpCells cs[k])[j]? = some u) : (hopsCells cs)[k * 3 + j]? = some u := by
  induction cs generalizing k with
  | nil => simp at hk
  | cons c cs ih =>
    have e : hopsCells (c :: cs) = hpCells c ++ hopsCells cs := rfl
    cases k with
    | zero =>
      have hj : j < 3 := by have := (List.getElem?_eq_some_iff.1 h).1; simpa [hpCells] using this
      rw [e, List.getElem?_append_left (by rw [hpCells_len]; omega), Nat.zero_mul, Nat.zero_add]
      exact h
    | succ k =>
      have := ih k (by simpa using hk) (by simpa using h)
      rw [e, List.getElem?_append_right (by rw [hpCells_len]; omega), hpCells_len, show (k + 1) * 3 + j - 3 = k * 3 + j by omega]
      exact this
/-- A hop whose slice the call made itself. -/
def HopC.Own (w : World) (B : Nat) (c : HopC) : Prop := OwnP w B c.q c.h.params
theorem HopC.Own.below {w w' : World} {B : Nat} {c : HopC} (h : c.Own w B) (hb : Below w.heap.size w w') : c.Own w' B := OwnP.below h hb
theorem HopC.Own.mono {w : World} {B B' : Nat} {c : HopC} (h : c.Own w B) (hle : B' ≤ B) : c.Own w B' := OwnP.mono h hle
theorem HopC.Own.at {w : World} {B : Nat} {c : HopC} (h : c.Own w B) : c.At w := ⟨OwnP.parsAt h, OwnP.cap h⟩
/-- The slice v owns the hops cs, in a block from B on. -/
def OwnV (w : World) (B : Nat) (v : Value) (cs : List HopC) : Prop := w.ownsRow B 24 3 v cs.length (hopsCells cs) ∧ ∀ c ∈ cs, c.Own w B
theorem OwnV.nil (w : World) (B : Nat) : OwnV w B (.slice none 0 0) [] := ⟨World.ownsRow_nil _ _ _ _, fun c hc => by simp at hc⟩
theorem OwnV.below {w w' : World} {B : Nat} {v : Value} {cs : List HopC} (h : OwnV w B v cs) (hb : Below w.heap.size w w') : OwnV w' B v cs := by
  obtain ⟨⟨h1, h2⟩, h3⟩ := h
  refine ⟨⟨h1, ?_⟩, fun c hc => (h3 c hc).below hb⟩
  rcases h2 with h2 | ⟨g, cap, cur, hv, hg, hh, r⟩
  · exact Or.inl h2
  · exact Or.inr ⟨g, cap, cur, hv, hg, by rw [hb.block g (Array.getElem?_eq_some_iff.1 hh).1]; exact hh, r⟩
theorem OwnV.mono {w : World} {B C : Nat} {v : Value} {cs : List HopC} (h : OwnV w B v cs) (hc : C ≤ B) : OwnV w C v cs := by
  obtain ⟨⟨h1, h2⟩, h3⟩ := h
  refine ⟨⟨h1, ?_⟩, fun c hc' => (h3 c hc').mono hc⟩
  rcases h2 with h2 | ⟨g, cap, cur, hv, hg, r⟩
  · exact Or.inl h2
  · exact Or.inr ⟨g, cap, cur, hv, Nat.le_trans hc hg, r⟩
theorem OwnV.alloc {w : World} {B : Nat} {v : Value} {cs : List HopC} (h : OwnV w B v cs) (o : Obj) : OwnV (w.alloc o) B v cs := h.below ((Below.refl _ w).alloc (Nat.le_refl _) o)
theorem OwnV.form {w : World} {B : Nat} {v : Value} {cs : List HopC} (h : OwnV w B v cs) : ∃ a cap, v = .slice a cs.length cap := by
  rcases h.1.2 with ⟨rfl, hn⟩ | ⟨g, cap, cur, rfl, _⟩
  · exact ⟨none, 0, by rw [hn]⟩
  · exact ⟨_, cap, rfl⟩
theorem OwnV.hopsAt {w : World} {B : Nat} {v : Value} {cs : List HopC} (h : OwnV w B v cs) : HopsAt w v cs := by
  refine ⟨?_, fun c hc => (h.2 c hc).at⟩
  have h0 := h.1
  rcases h.1.2 with ⟨rfl, hn⟩ | ⟨g, cap, cur, rfl, hb, hg, r⟩
  · exact ⟨none, 0, by rw [hn], fun k hk => by omega⟩
  · refine ⟨some ⟨g, 0, none⟩, cap, rfl, fun k hk => ⟨_, rfl, (Array.getElem?_eq_some_iff.1 hg).1, fun j u hj => ?_⟩⟩
    have a0 := World.ownsRow.cells h0 (g := g) rfl (k * 3 + j) _ (hopsCells_get cs k hk j u hj)
    have e : ∀ j, (⟨g, 0, none⟩ : Addr).add j = ⟨g, j, none⟩ := fun j => by unfold Addr.add; split <;> simp_all
    rw [e] at a0
    rw [e]
    split
    · rename_i j0; subst j0; exact a0
    · exact a0
theorem infoHop : (Tryd.prog.info? 24).map (fun i => (i.zero, i.size, i.bytes)) = some (some (.agg #[.string .empty, .int .i64 0, .slice none 0 0]), 3, 48) := by kernel_rfl
theorem rows_nev {w : World} {B1 B2 e1 e2 s1 s2 n1 n2 : Nat} {v1 v2 : Value} {x1 x2 : List Value} (h1 : w.ownsRow B1 e1 s1 v1 n1 x1) (h2 : w.ownsRow B2 e2 s2 v2 n2 x2) (hne : e2 ≠ e1) : v2.ownBlock = none ∨ v2.ownBlock ≠ v1.ownBlock := by
  rcases h2.2 with ⟨rfl, _⟩ | ⟨g2, c2, u2, rfl, _, hg2, _⟩
  · exact Or.inl rfl
  · right
    rcases h1.2 with ⟨rfl, _⟩ | ⟨g1, c1, u1, rfl, _, hg1, _⟩
    · simp [Value.ownBlock]
    · simp only [Value.ownBlock]
      intro e
      injection e with e
      rw [e, hg1] at hg2
      injection hg2 with hg2
      injection hg2 with _ hg2
      exact hne hg2.symm

/-- append of one hop. -/
theorem wp_appV {P : Program} (w : World) {ops : Array Oper} {rest : List Oper} {o : Oper} {a : Act} {Q : Exit → Act → World → Prop} (hgd : o.guard = none)
    (s x : Operand) (t : TypeId) (ho : o.op = Op.call { callee := Callee.builtin Builtin.append, args := #[s, x], argTypes := #[t, t] }) (B : Nat) (i : TypeInfo)
    (z : Value) (ht : P.underlying t = some (TypeDesc.slice 24)) (hi : P.info? 24 = some i) (hz : i.zero = some z) (hsize : i.size = 3) (hby : i.bytes = 48) (hzs : z.cells.size = 3)
    (v : Value) (cs : List HopC) (hs : a.eval s = v) (hown : OwnV w B v cs) (ad : Addr) (k : Nat) (c : HopC) (hc : c.Own w B) (hx : a.eval x = Value.slice (some ad) 1 k)
    (hnews : ∀ (j : Nat) (u : Value), (hpCells c)[j]? = some u → w.cell? (ad.add j) = some u)
    (hlen : cs.length ≤ 2000000) (w0 : World) (hb : Below B w0 w) (hB : B ≤ w.heap.size)
    (h : ∀ (v' : Value) (w' : World), OwnV w' B v' (cs ++ [c]) → (∀ (B2 : Nat) (u : Value) (xs : List Value), Own w B2 9 u xs → Own w' B2 9 u xs) → Below B w0 w' → B ≤ w'.heap.size → wpList P ops Q rest (a.put o.dst v') w') : wpList P ops Q (o :: rest) a w := by
  have one : ∀ (ps : List Par) (B : Nat) (v : Value), OwnP w B v ps → v.oneCell' = true := fun ps B v h => by
    rcases h.2 with ⟨rfl, _⟩ | ⟨g, cap, cur, rfl, _⟩ <;> rfl
  refine wpList_append_own w hgd s x t ho B 24 i z 3 48 ht hi hz hsize hby hzs (by decide) v cs.length (hopsCells cs) hs hown.1 ad 1 k (hpCells c) hx rfl hnews
    (by intro u hu; simp [hpCells] at hu; rcases hu with rfl | rfl | rfl <;> first | rfl | exact one _ _ _ hc) (by unfold maxLen; omega) (by omega) hB ?_
  intro v' w' hown' hgr _
  have keep : ∀ (ps : List Par) (u : Value), OwnP w B u ps → OwnP w' B u ps := fun ps u hu => World.ownsRow.kept hu hgr (rows_nev hown.1 hu (by decide))
  refine h v' w' ⟨?_, ?_⟩ (fun B2 u xs hu => World.ownsRow.kept hu hgr (rows_nev hown.1 hu (by decide))) (hb.grown hgr hB (fun k hk => (World.ownsRow.lt hown.1 k hk).1)) (Nat.le_trans hB hgr.size)
  · have e : hopsCells (cs ++ [c]) = hopsCells cs ++ hpCells c := by simp [hopsCells]
    rw [e, List.length_append]
    exact hown'
  · intro c' hc'
    rcases List.mem_append.1 hc' with hc' | hc'
    · exact keep _ _ (hown.2 c' hc')
    · simp at hc'; subst hc'
      exact keep _ _ hc
theorem new_hop (w4 : World) (c : HopC) (t : TypeId) : ∀ (j : Nat) (u : Value), (hpCells c)[j]? = some u → (w4.alloc (.cells #[.string ⟨c.h.host.toArray⟩, .int .i64 c.h.port, c.q] t)).cell? ((⟨w4.heap.size, 0, none⟩ : Addr).add j) = some u := by
  intro j u hj
  have e : (⟨w4.heap.size, 0, none⟩ : Addr).add j = ⟨w4.heap.size, j, none⟩ := by unfold Addr.add; split <;> simp_all
  rw [e]
  unfold World.cell?
  rw [heap_alloc_new]
  simpa [hpCells] using hj

end Go.Proofs.YtpcgomfiihhpcaaDoor
