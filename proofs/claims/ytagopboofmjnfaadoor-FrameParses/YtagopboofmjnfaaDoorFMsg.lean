/-
  Messages as they lie: rows of headers that came in, or that a call made itself; when two headers are one.
-/
import Derived.Test.YtagopboofmjnfaaDoorFI
import Derived.Test.YtagopboofmjnfaaDoorFF
namespace Go.Proofs.YtagopboofmjnfaaDoor
open Go.RowKit Sc
set_option linter.unusedVariables false
set_option maxRecDepth 20000
set_option linter.unusedSimpArgs false

def hdrCells (x : Hdr) : List Value := [.string ⟨x.name.toArray⟩, .string ⟨x.value.toArray⟩]
/-- Element k of the row at a holds x. -/
def HdrAt (w : World) (a : Addr) (k : Nat) (x : Hdr) : Prop :=
  w.cell? (a.add (k * 2)) = some (.string ⟨x.name.toArray⟩) ∧ w.cell? ⟨(a.add (k * 2)).block, (a.add (k * 2)).off + 1, none⟩ = some (.string ⟨x.value.toArray⟩)
/-- The slice v holds the headers hs. -/
def HdrsAt (w : World) (v : Value) (hs : List Hdr) : Prop :=
  (v = .slice none 0 0 ∧ hs = []) ∨ ∃ (a : Addr) (cap : Nat), v = .slice (some a) hs.length cap ∧ hs.length ≤ cap ∧ ∀ k (hk : k < hs.length), a.block < w.heap.size ∧ HdrAt w a k hs[k]
theorem HdrAt.below {B : Nat} {w w' : World} {a : Addr} {k : Nat} {x : Hdr} (h : HdrAt w a k x) (hb : Below B w w') (ha : a.block < B) : HdrAt w' a k x :=
  ⟨cell_below hb (by rw [add_block]; exact ha) h.1, cell_below hb (by simp only [add_block]; exact ha) h.2⟩
theorem HdrsAt.below {w w' : World} {v : Value} {hs : List Hdr} (h : HdrsAt w v hs) (hb : Below w.heap.size w w') : HdrsAt w' v hs := by
  rcases h with h | ⟨a, cap, hv, hk, hc⟩
  · exact Or.inl h
  · exact Or.inr ⟨a, cap, hv, hk, fun k hk => ⟨Nat.lt_of_lt_of_le (hc k hk).1 hb.size, (hc k hk).2.below hb (hc k hk).1⟩⟩
theorem HdrsAt.form {w : World} {v : Value} {hs : List Hdr} (h : HdrsAt w v hs) : ∃ a cap, v = .slice a hs.length cap := by
  rcases h with ⟨rfl, rfl⟩ | ⟨a, cap, rfl, _, _⟩
  · exact ⟨none, 0, rfl⟩
  · exact ⟨_, cap, rfl⟩
theorem HdrsAt.take {w : World} {a : Addr} {hs : List Hdr} {cap k : Nat} (hk : k ≤ hs.length) (hc : hs.length ≤ cap) (h : ∀ j (hj : j < hs.length), a.block < w.heap.size ∧ HdrAt w a j hs[j]) : HdrsAt w (.slice (some a) k cap) (hs.take k) := by
  refine Or.inr ⟨a, cap, by rw [List.length_take, Nat.min_eq_left hk], by rw [List.length_take]; omega, fun j hj => ?_⟩
  have hj' : j < hs.length := by rw [List.length_take] at hj; omega
  rw [List.getElem_take]
  exact h j hj'

def hdrsCells (hs : List Hdr) : List Value := hs.flatMap hdrCells
theorem hdrsCells_len (hs : List Hdr) : (hdrsCells hs).length = hs.length * 2 := by
  induction hs with
  | nil => rfl
  | cons p ps ih => simp [hdrsCells, hdrCells] at ih ⊢; omega
theorem hdrsCells_get (hs : List Hdr) (k : Nat) (hk : k < hs.length) : (hdrsCells hs)[k * 2]? = some (.string ⟨hs[k].name.toArray⟩) ∧ (hdrsCells hs)[k * 2 + 1]? = some (.string ⟨hs[k].value.toArray⟩) := by
  induction hs generalizing k with
  | nil => simp at hk
  | cons p ps ih =>
    have e : hdrsCells (p :: ps) = hdrCells p ++ hdrsCells ps := rfl
    cases k with
    | zero => rw [e]; simp [hdrCells]
    | succ k =>
      have := ih k (by simpa using hk)
      rw [e, show (k + 1) * 2 = k * 2 + 2 by omega]
      simpa [hdrCells] using this
/-- The slice v owns the headers hs, in a block from B on. -/
def OwnH (w : World) (B : Nat) (v : Value) (hs : List Hdr) : Prop := w.ownsRow B 51 2 v hs.length (hdrsCells hs)
theorem OwnH.nil (w : World) (B : Nat) : OwnH w B (.slice none 0 0) [] := World.ownsRow_nil _ _ _ _
theorem OwnH.alloc {w : World} {B : Nat} {v : Value} {hs : List Hdr} (h : OwnH w B v hs) (o : Obj) : OwnH (w.alloc o) B v hs := World.ownsRow.alloc h o
theorem OwnH.below {w w' : World} {B : Nat} {v : Value} {hs : List Hdr} (h : OwnH w B v hs) (hb : Below w.heap.size w w') : OwnH w' B v hs := by
  obtain ⟨h1, h2⟩ := h
  refine ⟨h1, ?_⟩
  rcases h2 with h2 | ⟨g, cap, cur, hv, hg, hh, r⟩
  · exact Or.inl h2
  · exact Or.inr ⟨g, cap, cur, hv, hg, by rw [hb.block g (Array.getElem?_eq_some_iff.1 hh).1]; exact hh, r⟩
theorem OwnH.mono {w : World} {B C : Nat} {v : Value} {hs : List Hdr} (h : OwnH w B v hs) (hc : C ≤ B) : OwnH w C v hs := by
  obtain ⟨h1, h2⟩ := h
  refine ⟨h1, ?_⟩
  rcases h2 with h2 | ⟨g, cap, cur, hv, hg, r⟩
  · exact Or.inl h2
  · exact Or.inr ⟨g, cap, cur, hv, Nat.le_trans hc hg, r⟩
theorem OwnH.hdrsAt {w : World} {B : Nat} {v : Value} {hs : List Hdr} (h : OwnH w B v hs) : HdrsAt w v hs := by
  have h0 := h
  rcases h.2 with ⟨rfl, hn⟩ | ⟨g, cap, cur, rfl, hb, hg, hnc, r⟩
  · exact Or.inl ⟨rfl, List.eq_nil_of_length_eq_zero hn⟩
  · refine Or.inr ⟨⟨g, 0, none⟩, cap, rfl, hnc, fun k hk => ⟨(Array.getElem?_eq_some_iff.1 hg).1, ?_⟩⟩
    obtain ⟨c0, c1⟩ := hdrsCells_get hs k hk
    have a0 := World.ownsRow.cells h0 (g := g) rfl (k * 2) _ c0
    have a1 := World.ownsRow.cells h0 (g := g) rfl (k * 2 + 1) _ c1
    have e : ∀ j, (⟨g, 0, none⟩ : Addr).add j = ⟨g, j, none⟩ := fun j => by unfold Addr.add; split <;> simp_all
    rw [e] at a0 a1
    unfold HdrAt
    rw [e]
    exact ⟨a0, a1⟩
theorem infoHdr : (Tryd.prog.info? 51).map (fun i => (i.zero, i.size, i.bytes)) = some (some (.agg #[.string .empty, .string .empty]), 2, 32) := by kernel_rfl
theorem new_hdr (w4 : World) (x : Hdr) (t : TypeId) : ∀ (j : Nat) (u : Value), (hdrCells x)[j]? = some u → (w4.alloc (.cells #[.string ⟨x.name.toArray⟩, .string ⟨x.value.toArray⟩] t)).cell? ((⟨w4.heap.size, 0, none⟩ : Addr).add j) = some u := by
  intro j u hj
  have e : (⟨w4.heap.size, 0, none⟩ : Addr).add j = ⟨w4.heap.size, j, none⟩ := by unfold Addr.add; split <;> simp_all
  rw [e]
  unfold World.cell?
  rw [heap_alloc_new]
  simpa [hdrCells] using hj

/-- append of one header. -/
theorem wp_appH {P : Program} (w : World) {ops : Array Oper} {rest : List Oper} {o : Oper} {a : Act} {Q : Exit → Act → World → Prop} (hgd : o.guard = none)
    (s x : Operand) (t : TypeId) (ho : o.op = Op.call { callee := Callee.builtin Builtin.append, args := #[s, x], argTypes := #[t, t] }) (B : Nat) (i : TypeInfo)
    (z : Value) (ht : P.underlying t = some (TypeDesc.slice 51)) (hi : P.info? 51 = some i) (hz : i.zero = some z) (hsize : i.size = 2) (hby : i.bytes = 32) (hzs : z.cells.size = 2)
    (v : Value) (hs : List Hdr) (hsv : a.eval s = v) (hown : OwnH w B v hs) (ad : Addr) (c : Nat) (p : Hdr) (hx : a.eval x = Value.slice (some ad) 1 c)
    (hnews : ∀ (j : Nat) (u : Value), (hdrCells p)[j]? = some u → w.cell? (ad.add j) = some u)
    (hlen : hs.length ≤ 2000000) (w0 : World) (hb : Below B w0 w) (hB : B ≤ w.heap.size)
    (h : ∀ (v' : Value) (w' : World), OwnH w' B v' (hs ++ [p]) → Below B w0 w' → w.grownBy w' v.ownBlock → B ≤ w'.heap.size → wpList P ops Q rest (a.put o.dst v') w') : wpList P ops Q (o :: rest) a w := by
  refine wpList_append_own w hgd s x t ho B 51 i z 2 32 ht hi hz hsize hby hzs (by decide) v hs.length (hdrsCells hs) hsv hown ad 1 c (hdrCells p) hx rfl hnews (by intro u hu; simp [hdrCells] at hu; rcases hu with rfl | rfl <;> rfl) (by unfold maxLen; omega) (by omega) hB ?_
  intro v' w' hown' hgr _
  refine h v' w' ?_ (hb.grown hgr hB (fun k hk => (World.ownsRow.lt hown k hk).1)) hgr (Nat.le_trans hB hgr.size)
  unfold OwnH
  have e : hdrsCells (hs ++ [p]) = hdrsCells hs ++ hdrCells p := by simp [hdrsCells]
  rw [e, List.length_append]
  exact hown'

theorem stoodHdr : Tryd.prog.stoodInHeld 51 = false := by kernel_rfl
theorem guardHdr : Tryd.prog.eqGuardType Tryd.prog.depth 51 = false := by kernel_rfl
theorem fieldsHdr : Tryd.prog.underlying 51 = some (.struct (Tryd.prog.fieldsOf 51)) := by kernel_rfl
theorem listHdr : (Tryd.prog.fieldsOf 51).toList.map (fun f => (f.type, f.offset, f.name == "_")) = [(9, 0, false), (9, 1, false)] := by kernel_rfl
theorem neqHdr (x y x' y' : ByteArray) (u : World) : (binOp .neq 51 (.agg #[.string x, .string y]) (.agg #[.string x', .string y'])).run Tryd.prog u = .ok (.bool (!(x.toList == x'.toList && y.toList == y'.toList))) u := by
  rw [run_neq_struct, run_equalIn_agg _ 9999 _ _ _ fieldsHdr stoodHdr]
  have h := listHdr
  generalize (Tryd.prog.fieldsOf 51).toList = fs at h ⊢
  have hlen : fs.length = 2 := by have := congrArg List.length h; simpa using this
  match fs, hlen, h with
  | [f0, f1], _, h =>
    simp only [List.map_cons, List.map_nil, List.cons.injEq, Prod.mk.injEq, and_true, beq_eq_false_iff_ne] at h
    obtain ⟨⟨t0, o0, n0⟩, t1, o1, n1⟩ := h
    have p0 : ∀ (X Y : ByteArray) (v : World), (part 9 #[.string X, .string Y] 0).run Tryd.prog v = .ok (.string X) v := fun X Y v => run_part_plain v plainStr rfl
    have p1 : ∀ (X Y : ByteArray) (v : World), (part 9 #[.string X, .string Y] 1).run Tryd.prog v = .ok (.string Y) v := fun X Y v => run_part_plain v plainStr rfl
    have q1 : ∀ (X Y : ByteArray) (v : World), (Op.equalIn 9999 9 (.string X) (.string Y)).run Tryd.prog v = .ok (X.toList == Y.toList) v := fun X Y v => run_equalIn_string v 9998 _ X Y Tryd.underlying9
    simp only [Op.eqFields, t0, t1, o0, o1, Sem.run_bind, Sem.run_ite, if_pos n0, if_pos n1, p0, p1, q1, Result.andThen_ok]
    cases h0 : (x.toList == x'.toList) <;> cases h1 : (y.toList == y'.toList) <;> rfl

/-- A message as it is handed over. -/
def msgV (m : Ms) (h : Value) : Value := .agg #[.string ⟨m.method.toArray⟩, .string ⟨m.target.toArray⟩, .int .i64 m.status, .string ⟨m.reason.toArray⟩, h, .string ⟨m.body.toArray⟩]
def objM (m : Ms) (h : Value) : Obj := .cells #[.string ⟨m.method.toArray⟩, .string ⟨m.target.toArray⟩, .int .i64 m.status, .string ⟨m.reason.toArray⟩, h, .string ⟨m.body.toArray⟩] 24
/-- The block b holds the message. -/
def BoxM (w : World) (b : Nat) (m : Ms) (h : Value) : Prop :=
  w.cell? ⟨b, 0, none⟩ = some (.string ⟨m.method.toArray⟩) ∧ w.cell? ⟨b, 1, none⟩ = some (.string ⟨m.target.toArray⟩) ∧ w.cell? ⟨b, 2, none⟩ = some (.int .i64 m.status) ∧
  w.cell? ⟨b, 3, none⟩ = some (.string ⟨m.reason.toArray⟩) ∧ w.cell? ⟨b, 4, none⟩ = some h ∧ w.cell? ⟨b, 5, none⟩ = some (.string ⟨m.body.toArray⟩)
theorem BoxM.below {w w' : World} {b B : Nat} {m : Ms} {h : Value} (k : BoxM w b m h) (hb : Below B w w') (hlt : b < B) : BoxM w' b m h :=
  ⟨cell_below hb hlt k.1, cell_below hb hlt k.2.1, cell_below hb hlt k.2.2.1, cell_below hb hlt k.2.2.2.1, cell_below hb hlt k.2.2.2.2.1, cell_below hb hlt k.2.2.2.2.2⟩
theorem boxM_new (w : World) (m : Ms) (h : Value) : BoxM (w.alloc (objM m h)) w.heap.size m h := by
  unfold BoxM World.cell? objM
  simp only [heap_alloc_new]
  refine ⟨rfl, rfl, rfl, rfl, rfl, rfl⟩
def SmallH (B : Nat) (hs : List Hdr) : Prop := hs.length ≤ B ∧ ∀ p ∈ hs, p.name.length ≤ B ∧ p.value.length ≤ B
def SmallM (B : Nat) (m : Ms) : Prop := m.method.length ≤ B ∧ m.target.length ≤ B ∧ m.reason.length ≤ B ∧ m.body.length ≤ B ∧ SmallH B m.headers
theorem SmallM.le {B C : Nat} {m : Ms} (h : SmallM B m) (hc : B ≤ C) : SmallM C m :=
  ⟨Nat.le_trans h.1 hc, Nat.le_trans h.2.1 hc, Nat.le_trans h.2.2.1 hc, Nat.le_trans h.2.2.2.1 hc, Nat.le_trans h.2.2.2.2.1 hc, fun p hp => ⟨Nat.le_trans (h.2.2.2.2.2 p hp).1 hc, Nat.le_trans (h.2.2.2.2.2 p hp).2 hc⟩⟩
/-- A message that came in. -/
def MsgIn (B : Nat) (W : World) (v : Value) : Prop := ∃ (m : Ms) (h : Value), v = msgV m h ∧ HdrsAt W h m.headers ∧ SmallM B m ∧ (Lit.int .i64 m.status).wf = true

end Go.Proofs.YtagopboofmjnfaaDoor
