/-
  Rows of timers that a call made; how they and a wheel keep each other.
-/
import Derived.Test.YthioekmlljpbpaaWSet2
namespace Go.Proofs.Ythioekmlljpbpaa
open Go.RowKit Go.Maps Go.WideMaps
set_option linter.unusedVariables false
set_option maxRecDepth 20000

def tmCells (t : Tm) : List Value := [.int .i64 t.1, .int .i64 t.2]
def tmsCells (ts : List Tm) : List Value := ts.flatMap tmCells
theorem tmsCells_get (ts : List Tm) : ∀ (k : Nat) (hk : k < ts.length), (tmsCells ts)[k * 2]? = some (.int .i64 ts[k].1) ∧ (tmsCells ts)[k * 2 + 1]? = some (.int .i64 ts[k].2) := by
  induction ts with
  | nil => intro k hk; simp at hk
  | cons t ts ih =>
    intro k hk
    have e : tmsCells (t :: ts) = tmCells t ++ tmsCells ts := by simp [tmsCells]
    cases k with
    | zero => rw [e]; simp [tmCells]
    | succ k =>
      have := ih k (by simpa using hk)
      rw [e, show (k + 1) * 2 = k * 2 + 2 by omega]
      simpa [tmCells] using this
/-- The slice v owns the timers ts, in a block from B on. -/
def OwnT (w : World) (B : Nat) (v : Value) (ts : List Tm) : Prop := w.ownsRow B 49 2 v ts.length (tmsCells ts)
theorem OwnT.nil (w : World) (B : Nat) : OwnT w B (.slice none 0 0) [] := World.ownsRow_nil _ _ _ _
theorem OwnT.alloc {w : World} {B : Nat} {v : Value} {ts : List Tm} (h : OwnT w B v ts) (o : Obj) : OwnT (w.alloc o) B v ts := World.ownsRow.alloc h o
theorem OwnT.drew {w : World} {B : Nat} {v : Value} {ts : List Tm} (h : OwnT w B v ts) : OwnT w.drew B v ts := World.ownsRow.drew h
theorem OwnT.form {w : World} {B : Nat} {v : Value} {ts : List Tm} (h : OwnT w B v ts) : ∃ a cap, v = .slice a ts.length cap := by
  rcases h.2 with ⟨rfl, hn⟩ | ⟨g, cap, cur, rfl, _⟩
  · exact ⟨none, 0, by rw [hn]⟩
  · exact ⟨_, cap, rfl⟩
theorem OwnT.chg {S : Nat → Prop} {w w' : World} {B : Nat} {v : Value} {ts : List Tm} (h : OwnT w B v ts) (hc : Chg S w w') (hn : ∀ k, v.ownBlock = some k → ¬ S k) : OwnT w' B v ts := by
  obtain ⟨h1, h2⟩ := h
  refine ⟨h1, ?_⟩
  rcases h2 with h2 | ⟨g, cap, cur, hv, hg, hh, r⟩
  · exact Or.inl h2
  · exact Or.inr ⟨g, cap, cur, hv, hg, by rw [hc.block g (Array.getElem?_eq_some_iff.1 hh).1 (hn g (by rw [hv]; rfl))]; exact hh, r⟩
theorem OwnT.row {w : World} {B k : Nat} {v : Value} {ts : List Tm} (h : OwnT w B v ts) (hk : v.ownBlock = some k) : B ≤ k ∧ ∃ cs, w.heap[k]? = some (.cells cs 49 (0, 0)) := by
  rcases h.2 with ⟨rfl, _⟩ | ⟨g, cap, cur, rfl, hg, hh, _⟩
  · cases hk
  · simp [Value.ownBlock] at hk; subst hk; exact ⟨hg, cur, hh⟩
theorem infoTm : (Try.prog.info? 49).map (fun i => (i.zero, i.size, i.bytes)) = some (some (.agg #[.int .i64 0, .int .i64 0]), 2, 16) := by kernel_rfl
theorem wp_appTm {P : Program} (w : World) {ops : Array Oper} {rest : List Oper} {o : Oper} {a : Act} {Q : Exit → Act → World → Prop} (hgd : o.guard = none)
    (s x : Operand) (t : TypeId) (ho : o.op = Op.call { callee := Callee.builtin Builtin.append, args := #[s, x], argTypes := #[t, t] }) (B : Nat) (i : TypeInfo)
    (z : Value) (ht : P.underlying t = some (TypeDesc.slice 49)) (hi : P.info? 49 = some i) (hz : i.zero = some z) (hsize : i.size = 2) (hby : i.bytes = 16) (hzs : z.cells.size = 2)
    (v : Value) (ts : List Tm) (hs : a.eval s = v) (hown : OwnT w B v ts) (ad : Addr) (c : Nat) (p : Tm) (hx : a.eval x = Value.slice (some ad) 1 c)
    (hnews : ∀ (j : Nat) (u : Value), (tmCells p)[j]? = some u → w.cell? (ad.add j) = some u)
    (hlen : ts.length ≤ 2000000) (hB : B ≤ w.heap.size)
    (h : ∀ (v' : Value) (w' : World), OwnT w' B v' (ts ++ [p]) → w.grownBy w' v.ownBlock → wpList P ops Q rest (a.put o.dst v') w') : wpList P ops Q (o :: rest) a w := by
  refine wpList_append_own w hgd s x t ho B 49 i z 2 16 ht hi hz hsize hby hzs (by decide) v ts.length (tmsCells ts) hs hown ad 1 c (tmCells p) hx rfl hnews (by intro u hu; simp [tmCells] at hu; rcases hu with rfl | rfl <;> rfl) (by unfold maxLen; omega) (by omega) hB ?_
  intro v' w' hown' hgr _
  refine h v' w' ?_ hgr
  unfold OwnT
  have e : tmsCells (ts ++ [p]) = tmsCells ts ++ tmCells p := by simp [tmsCells]
  rw [e, List.length_append]
  exact hown'
section
variable {bw m B : Nat} {v : Value} {f : Nat → It} {n : Nat} {D : DataW Unit} {w : World} {l : List Tm}
theorem cells_ne {w : World} {k : Nat} {cs : Array Value} {e e' : TypeId} {l : List Value} (h : w.heap[k]? = some (.cells cs e (0, 0))) (hr : RowIs w k e' l) (hne : e ≠ e') : False := by
  unfold RowIs at hr
  rw [hr] at h
  simp at h
  exact hne h.2.symm
/-- A block of timers is none of a wheel's. -/
theorem WH.noT (h : WH bw m B v f n D w l) {k : Nat} {cs : Array Value} (hk : w.heap[k]? = some (.cells cs 49 (0, 0))) : ¬ SS B bw m f n w k := by
  rintro ⟨_, rfl | rfl | ⟨i, hi, rfl⟩ | ⟨cs', e⟩⟩
  · exact map_no_row h.mp _ _ _ hk
  · exact cells_ne hk h.q.wheel (by decide)
  · exact cells_ne hk (h.q.item i hi) (by decide)
  · rw [e] at hk
    simp at hk
theorem WH.noTs (h : WH bw m B v f n D w l) {B' : Nat} {va : Value} {ts : List Tm} (ho : OwnT w B' va ts) : ∀ k, va.ownBlock = some k → ¬ SS B bw m f n w k := fun k hk => by
  obtain ⟨_, cs, hc⟩ := ho.row hk
  exact h.noT hc
/-- An append to a row of timers keeps a wheel. -/
theorem WH.app (h : WH bw m B v f n D w l) {B' : Nat} {va : Value} {ts : List Tm} {w' : World} (ho : OwnT w B' va ts) (hg : w.grownBy w' va.ownBlock) : WH bw m B v f n D w' l :=
  h.chg (S := fun k => va.ownBlock = some k) ((Chg.refl _ w).grown hg fun k hk _ => hk) fun k hk e => h.noTs ho k e (h.ss hk)
end
end Go.Proofs.Ythioekmlljpbpaa
