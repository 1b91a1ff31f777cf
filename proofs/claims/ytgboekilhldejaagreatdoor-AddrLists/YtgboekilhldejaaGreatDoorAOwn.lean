/-
  Rows of addresses that a call made itself.
-/
import Derived.Test.YtgboekilhldejaaGreatDoorOpenAddr
import Derived.Test.YtgboekilhldejaaGreatDoorBaseM
namespace Go.Proofs.YtgboekilhldejaaGreatDoor
open Go.RowKit Sc
set_option linter.unusedVariables false
set_option maxRecDepth 20000

def adrsCells (cs : List AdrC) : List Value := cs.flatMap adrCells
theorem adrCells_len (c : AdrC) : (adrCells c).length = 8 := rfl
theorem adrsCells_len (cs : List AdrC) : (adrsCells cs).length = cs.length * 8 := by
  induction cs with
  | nil => rfl
  | cons c cs ih =>
    have e : adrsCells (c :: cs) = adrCells c ++ adrsCells cs := rfl
    rw [e, List.length_append, ih, adrCells_len, List.length_cons]; omega
theorem adrsCells_get (cs : List AdrC) (k : Nat) (hk : k < cs.length) (j : Nat) (u : Value) (h : (adrCells cs[k])[j]? = some u) : (adrsCells cs)[k * 8 + j]? = some u := by
  induction cs generalizing k with
  | nil => simp at hk
  | cons c cs ih =>
    have e : adrsCells (c :: cs) = adrCells c ++ adrsCells cs := rfl
    cases k with
    | zero =>
      have hj : j < 8 := by have := (List.getElem?_eq_some_iff.1 h).1; simpa [adrCells] using this
      rw [e, List.getElem?_append_left (by rw [adrCells_len]; omega), Nat.zero_mul, Nat.zero_add]
      exact h
    | succ k =>
      have := ih k (by simpa using hk) (by simpa using h)
      rw [e, List.getElem?_append_right (by rw [adrCells_len]; omega), adrCells_len, show (k + 1) * 8 + j - 8 = k * 8 + j by omega]
      exact this
/-- An address whose slices the call made itself. -/
def AdrC.Own (w : World) (B : Nat) (c : AdrC) : Prop := OwnP w B c.p c.a.uri.params ∧ OwnP w B c.h c.a.uri.headers ∧ OwnP w B c.q c.a.params
theorem AdrC.Own.below {w w' : World} {B : Nat} {c : AdrC} (h : c.Own w B) (hb : Below w.heap.size w w') : c.Own w' B := ⟨h.1.below hb, h.2.1.below hb, h.2.2.below hb⟩
theorem AdrC.Own.mono {w : World} {B B' : Nat} {c : AdrC} (h : c.Own w B) (hle : B' ≤ B) : c.Own w B' := ⟨h.1.mono hle, h.2.1.mono hle, h.2.2.mono hle⟩
theorem AdrC.Own.at {w : World} {B : Nat} {c : AdrC} (h : c.Own w B) : c.At w := ⟨h.1.parsAt, h.2.1.parsAt, h.2.2.parsAt, h.2.2.cap⟩
/-- The slice v owns the addresses cs, in a block from B on. -/
def OwnA (w : World) (B : Nat) (v : Value) (cs : List AdrC) : Prop := w.ownsRow B 39 8 v cs.length (adrsCells cs) ∧ ∀ c ∈ cs, c.Own w B
theorem OwnA.nil (w : World) (B : Nat) : OwnA w B (.slice none 0 0) [] := ⟨World.ownsRow_nil _ _ _ _, fun c hc => by simp at hc⟩
theorem OwnA.below {w w' : World} {B : Nat} {v : Value} {cs : List AdrC} (h : OwnA w B v cs) (hb : Below w.heap.size w w') : OwnA w' B v cs := by
  obtain ⟨⟨h1, h2⟩, h3⟩ := h
  refine ⟨⟨h1, ?_⟩, fun c hc => (h3 c hc).below hb⟩
  rcases h2 with h2 | ⟨g, cap, cur, hv, hg, hh, r⟩
  · exact Or.inl h2
  · exact Or.inr ⟨g, cap, cur, hv, hg, by rw [hb.block g (Array.getElem?_eq_some_iff.1 hh).1]; exact hh, r⟩
theorem OwnA.mono {w : World} {B C : Nat} {v : Value} {cs : List AdrC} (h : OwnA w B v cs) (hc : C ≤ B) : OwnA w C v cs := by
  obtain ⟨⟨h1, h2⟩, h3⟩ := h
  refine ⟨⟨h1, ?_⟩, fun c hc' => (h3 c hc').mono hc⟩
  rcases h2 with h2 | ⟨g, cap, cur, hv, hg, r⟩
  · exact Or.inl h2
  · exact Or.inr ⟨g, cap, cur, hv, Nat.le_trans hc hg, r⟩
theorem OwnA.alloc {w : World} {B : Nat} {v : Value} {cs : List AdrC} (h : OwnA w B v cs) (o : Obj) : OwnA (w.alloc o) B v cs := h.below ((Below.refl _ w).alloc (Nat.le_refl _) o)
theorem OwnA.form {w : World} {B : Nat} {v : Value} {cs : List AdrC} (h : OwnA w B v cs) : ∃ a cap, v = .slice a cs.length cap := by
  rcases h.1.2 with ⟨rfl, hn⟩ | ⟨g, cap, cur, rfl, _⟩
  · exact ⟨none, 0, by rw [hn]⟩
  · exact ⟨_, cap, rfl⟩
theorem OwnA.adrsAt {w : World} {B : Nat} {v : Value} {cs : List AdrC} (h : OwnA w B v cs) : AdrsAt w v cs := by
  refine ⟨?_, fun c hc => (h.2 c hc).at⟩
  have h0 := h.1
  rcases h.1.2 with ⟨rfl, hn⟩ | ⟨g, cap, cur, rfl, hb, hg, r⟩
  · exact ⟨none, 0, by rw [hn], fun k hk => by omega⟩
  · refine ⟨some ⟨g, 0, none⟩, cap, rfl, fun k hk => ⟨_, rfl, (Array.getElem?_eq_some_iff.1 hg).1, fun j u hj => ?_⟩⟩
    have a0 := World.ownsRow.cells h0 (g := g) rfl (k * 8 + j) _ (adrsCells_get cs k hk j u hj)
    have e : ∀ j, (⟨g, 0, none⟩ : Addr).add j = ⟨g, j, none⟩ := fun j => by unfold Addr.add; split <;> simp_all
    rw [e] at a0
    rw [e]
    split
    · rename_i j0; subst j0; exact a0
    · exact a0
theorem infoAdr : (Tryz.prog.info? 39).map (fun i => (i.zero, i.size, i.bytes)) = some (some (.agg #[.string .empty, .string .empty, .string .empty, .string .empty, .int .i64 0, .slice none 0 0, .slice none 0 0, .slice none 0 0]), 8, 144) := by kernel_rfl
theorem rows_ne {w : World} {B1 B2 e1 e2 s1 s2 n1 n2 : Nat} {v1 v2 : Value} {x1 x2 : List Value} (h1 : w.ownsRow B1 e1 s1 v1 n1 x1) (h2 : w.ownsRow B2 e2 s2 v2 n2 x2) (hne : e2 ≠ e1) : v2.ownBlock = none ∨ v2.ownBlock ≠ v1.ownBlock := by
  rcases h2.2 with ⟨rfl, _⟩ | ⟨g2, c2, u2, rfl, _, hg2, _⟩
  · exact Or.inl rfl
  · right
    rcases h1.2 with ⟨rfl, _⟩ | ⟨g1, c1, u1, rfl, _, hg1, _⟩
    · simp [Value.ownBlock]
    · simp only [Value.ownBlock]
      intro e
      injection e with e
      rw [e, hg1] at hg2
      injection hg2 with hg2
      injection hg2 with _ hg2
      exact hne hg2.symm

/-- append of one address. -/
theorem wp_appA {P : Program} (w : World) {ops : Array Oper} {rest : List Oper} {o : Oper} {a : Act} {Q : Exit → Act → World → Prop} (hgd : o.guard = none)
    (s x : Operand) (t : TypeId) (ho : o.op = Op.call { callee := Callee.builtin Builtin.append, args := #[s, x], argTypes := #[t, t] }) (B : Nat) (i : TypeInfo)
    (z : Value) (ht : P.underlying t = some (TypeDesc.slice 39)) (hi : P.info? 39 = some i) (hz : i.zero = some z) (hsize : i.size = 8) (hby : i.bytes = 144) (hzs : z.cells.size = 8)
    (v : Value) (cs : List AdrC) (hs : a.eval s = v) (hown : OwnA w B v cs) (ad : Addr) (k : Nat) (c : AdrC) (hc : c.Own w B) (hx : a.eval x = Value.slice (some ad) 1 k)
    (hnews : ∀ (j : Nat) (u : Value), (adrCells c)[j]? = some u → w.cell? (ad.add j) = some u)
    (hlen : cs.length ≤ 2000000) (w0 : World) (hb : Below B w0 w) (hB : B ≤ w.heap.size)
    (h : ∀ (v' : Value) (w' : World), OwnA w' B v' (cs ++ [c]) → Below B w0 w' → B ≤ w'.heap.size → wpList P ops Q rest (a.put o.dst v') w') : wpList P ops Q (o :: rest) a w := by
  obtain ⟨p1, h1, q1⟩ := hc
  have one : ∀ (ps : List Par) (B : Nat) (v : Value), OwnP w B v ps → v.oneCell' = true := fun ps B v h => by
    rcases h.2 with ⟨rfl, _⟩ | ⟨g, cap, cur, rfl, _⟩ <;> rfl
  refine wpList_append_own w hgd s x t ho B 39 i z 8 144 ht hi hz hsize hby hzs (by decide) v cs.length (adrsCells cs) hs hown.1 ad 1 k (adrCells c) hx rfl hnews
    (by intro u hu; simp [adrCells] at hu; rcases hu with rfl | rfl | rfl | rfl | rfl | rfl | rfl | rfl <;> first | rfl | exact one _ _ _ p1 | exact one _ _ _ h1 | exact one _ _ _ q1) (by unfold maxLen; omega) (by omega) hB ?_
  intro v' w' hown' hgr _
  have keep : ∀ (ps : List Par) (u : Value), OwnP w B u ps → OwnP w' B u ps := fun ps u hu => World.ownsRow.kept hu hgr (rows_ne hown.1 hu (by decide))
  refine h v' w' ⟨?_, ?_⟩ (hb.grown hgr hB (fun k hk => (World.ownsRow.lt hown.1 k hk).1)) (Nat.le_trans hB hgr.size)
  · have e : adrsCells (cs ++ [c]) = adrsCells cs ++ adrCells c := by simp [adrsCells]
    rw [e, List.length_append]
    exact hown'
  · intro c' hc'
    rcases List.mem_append.1 hc' with hc' | hc'
    · obtain ⟨k1, k2, k3⟩ := hown.2 c' hc'
      exact ⟨keep _ _ k1, keep _ _ k2, keep _ _ k3⟩
    · simp at hc'; subst hc'
      exact ⟨keep _ _ p1, keep _ _ h1, keep _ _ q1⟩

end Go.Proofs.YtgboekilhldejaaGreatDoor
