/-
  Base texts, one behind another: XElL, XEqA, XInn.
-/
import Derived.Test.YtnijlmkodgdhlaaDoorXAttr

/-
  Package xml's reader: elements, as it reads them; what a call leaves as it was that appends to its elements.
-/
namespace Go.Proofs.YtnijlmkodgdhlaaDoor
open Go.RowKit Sc
set_option linter.unusedVariables false
set_option maxRecDepth 20000
set_option linter.unusedSimpArgs false

/-- What stands behind an element's text and elements. -/
def closeC (nm r3 : List UInt8) : Option (List UInt8) :=
  if preX [60, 47] r3 = false then none else if preX nm (r3.drop 2) = false then none else
  if preX [62] (((r3.drop 2).drop nm.length).dropWhile xblk) = false then none else some ((((r3.drop 2).drop nm.length).dropWhile xblk).drop 1)
mutual
def elemC : Nat → Nat → List UInt8 → Option (List Nd × List UInt8)
  | 0, _, _ => none
  | n + 1, d, s => if preX [60] s = false then none else match upP endc (s.drop 1) with
    | none => none
    | some (nm, r) => match attrsC (r.length + 1) [] r with
      | none => none
      | some (ps, r2) => if preX [47, 62] r2 = true then some ([⟨d, nm, ps, []⟩], r2.drop 2) else if preX [62] r2 = false then none else
        match upP (· == 60) (r2.drop 1) with
        | none => none
        | some (x, y) => match innC n (d + 1) x [] y with
          | none => none
          | some (t, ks, r3) => (closeC nm r3).map fun r4 => (⟨d, nm, ps, t⟩ :: ks, r4)
def innC : Nat → Nat → List UInt8 → List Nd → List UInt8 → Option (List UInt8 × List Nd × List UInt8)
  | 0, _, _, _, _ => none
  | n + 1, d, txt, ks, s => if preX [60, 47] s = true then (readX (xtrim txt)).map fun t => (t, ks, s) else match elemC n d s with
    | none => none
    | some (k2, r) => match upP (· == 60) r with
      | none => none
      | some (x, y) => innC n d (txt ++ x) (ks ++ k2) y
end
theorem attrsC_len : ∀ (n : Nat) (acc : List Par) (s : List UInt8) (l : List Par) (r : List UInt8), attrsC n acc s = some (l, r) → r.length ≤ s.length
  | 0, _, _, _, _, h => by rw [attrsC] at h; cases h
  | n + 1, acc, s, l, r, h => by
    rw [attrsC] at h
    have hd := dw_len xblk s
    split at h
    · split at h
      · cases h
      · next p r2 ha =>
        have := attrsC_len n _ _ _ _ h
        have := attrC_len ha
        omega
    · simp only [Option.some.injEq, Prod.mk.injEq] at h
      rw [← h.2]; exact hd
theorem closeC_len {nm r3 r4 : List UInt8} (h : closeC nm r3 = some r4) : r4.length < r3.length := by
  unfold closeC at h
  split at h
  · cases h
  · next h1 =>
    have h1' : preX [60, 47] r3 = true := by simpa using h1
    have := pre_len h1'
    split at h
    · cases h
    · split at h
      · cases h
      · simp only [Option.some.injEq] at h
        rw [← h]
        have := dw_len xblk ((r3.drop 2).drop nm.length)
        simp at *
        omega
mutual
theorem elemC_len : ∀ (n d : Nat) (s : List UInt8) (l : List Nd) (r : List UInt8), elemC n d s = some (l, r) → r.length < s.length
  | 0, _, _, _, _, h => by rw [elemC] at h; cases h
  | n + 1, d, s, l, r, h => by
    rw [elemC] at h
    split at h
    · cases h
    · next h1 =>
      have h1' : preX [60] s = true := by simpa using h1
      have hp := pre_len h1'
      split at h
      · cases h
      · next nm r1 hu =>
        obtain ⟨c, q, hq, _, hlq⟩ := up_head hu
        split at h
        · cases h
        · next ps r2 ha =>
          have ha' := attrsC_len _ _ _ _ _ ha
          split at h
          · simp only [Option.some.injEq, Prod.mk.injEq] at h
            rw [← h.2]
            simp at *
            omega
          · split at h
            · cases h
            · split at h
              · cases h
              · next x y hu2 =>
                obtain ⟨c2, q2, hq2, _, hlq2⟩ := up_head hu2
                split at h
                · cases h
                · next t ks r3 hi =>
                  have := innC_len n _ _ _ _ _ _ _ hi
                  cases hc : closeC nm r3 with
                  | none => rw [hc] at h; cases h
                  | some r4 =>
                    rw [hc] at h
                    simp only [Option.map_some, Option.some.injEq, Prod.mk.injEq] at h
                    rw [← h.2]
                    have := closeC_len hc
                    simp at *
                    omega
theorem innC_len : ∀ (n d : Nat) (txt : List UInt8) (ks : List Nd) (s t : List UInt8) (l : List Nd) (r : List UInt8), innC n d txt ks s = some (t, l, r) → r.length ≤ s.length
  | 0, _, _, _, _, _, _, _, h => by rw [innC] at h; cases h
  | n + 1, d, txt, ks, s, t, l, r, h => by
    rw [innC] at h
    split at h
    · cases hv : readX (xtrim txt) with
      | none => rw [hv] at h; cases h
      | some u =>
        rw [hv] at h
        simp only [Option.map_some, Option.some.injEq, Prod.mk.injEq] at h
        rw [← h.2.2]; exact Nat.le_refl _
    · split at h
      · cases h
      · next k2 r1 he =>
        have := elemC_len n _ _ _ _ he
        split at h
        · cases h
        · next x y hu =>
          obtain ⟨c, q, hq, _, hlq⟩ := up_head hu
          have := innC_len n _ _ _ _ _ _ _ h
          omega
end
/-- What a call leaves as it was that turns the block b, and appends to v. -/
structure FrX (b : Nat) (v : Value) (w : World) (v' : Value) (w' : World) : Prop where
  os : w'.os = w.os
  tape : w'.tape = w.tape
  output : w'.output = w.output
  size : w.heap.size ≤ w'.heap.size
  block : ∀ c, c < w.heap.size → c ≠ b → v.ownBlock ≠ some c → w'.heap[c]? = w.heap[c]?
  own : ∀ g, v'.ownBlock = some g → v.ownBlock = some g ∨ w.heap.size ≤ g
theorem FrX.refl (b : Nat) (v : Value) (w : World) : FrX b v w v w := ⟨rfl, rfl, rfl, Nat.le_refl _, fun _ _ _ _ => rfl, fun g h => .inl h⟩
theorem FrX.trans {b : Nat} {v v1 v2 : Value} {w w1 w2 : World} (h : FrX b v w v1 w1) (k : FrX b v1 w1 v2 w2) : FrX b v w v2 w2 := by
  refine ⟨k.os.trans h.os, k.tape.trans h.tape, k.output.trans h.output, Nat.le_trans h.size k.size, fun c hc hn hv => ?_, fun g hg => ?_⟩
  · have hn2 : v1.ownBlock ≠ some c := fun e => by
      rcases h.own c e with e | e
      · exact hv e
      · omega
    rw [k.block c (Nat.lt_of_lt_of_le hc h.size) hn hn2, h.block c hc hn hv]
  · rcases k.own g hg with e | e
    · exact h.own g e
    · exact .inr (Nat.le_trans h.size e)
theorem FrX.of {b : Nat} {v : Value} {w w' : World} (h : FrR b w w') : FrX b v w v w' := ⟨h.os, h.tape, h.output, h.size, fun c hc hn _ => h.block c hc hn, fun g hg => .inl hg⟩
theorem FrX.ofN {b : Nat} {v v' : Value} {w w' : World} (h : FrN v w v' w') : FrX b v w v' w' := ⟨h.os, h.tape, h.output, h.size, fun c hc _ hv => h.block c hc hv, h.own⟩
theorem FrX.none {b : Nat} {v v' : Value} {w w' : World} (h : FrX b v w v' w') : FrX b v w (.slice none 0 0) w' := ⟨h.os, h.tape, h.output, h.size, h.block, fun g hg => by cases hg⟩
theorem FrX.put {b : Nat} {v v' u : Value} {w w' : World} (h : FrX b v w v' w') (j : Nat) : FrX b v w v' (w'.setCell ⟨b, j, Option.none⟩ u) :=
  ⟨h.os, h.tape, h.output, by rw [World.size_setCell]; exact h.size, fun c hc hn hv => by rw [heap_setCell_other _ _ _ _ hn]; exact h.block c hc hn hv, h.own⟩
theorem FrX.set {b g j : Nat} {v v' u : Value} {w w' : World} (h : FrX b v w v' w') (hg : v'.ownBlock = some g) : FrX b v w v' (w'.setCell ⟨g, j, Option.none⟩ u) := by
  refine ⟨h.os, h.tape, h.output, by rw [World.size_setCell]; exact h.size, fun c hc hn hv => ?_, h.own⟩
  have hne : c ≠ g := fun e => by
    subst e
    rcases h.own c hg with e | e
    · exact hv e
    · omega
  rw [heap_setCell_other _ _ _ _ hne]; exact h.block c hc hn hv
theorem OwnN.fr {w w' : World} {b B : Nat} {v u : Value} {l : List UInt8} {cs : List NdC} (h : OwnN w B v cs) (hf : FrR b w w') (hr : XrAt w b l u) : OwnN w' B v cs :=
  ⟨hf.owns h.1 (row_apart hr h.1 (by decide)), fun c hc => hf.owns (h.2 c hc) (row_apart hr (h.2 c hc) (by decide))⟩
theorem OwnP.frx {w w' : World} {b B C : Nat} {v v' u x : Value} {l : List UInt8} {cs : List NdC} {ps : List Par} (h : OwnP w C x ps) (hf : FrX b v w v' w') (hr : XrAt w b l u) (hv : OwnN w B v cs) : OwnP w' C x ps := by
  have hn1 := row_apart hr h (by decide)
  have hn2 := rows_neN hv.1 h (by decide)
  obtain ⟨h1, h2⟩ := h
  refine ⟨h1, ?_⟩
  rcases h2 with h2 | ⟨g, cap, cur, rfl, hg, hh, r⟩
  · exact Or.inl h2
  · refine Or.inr ⟨g, cap, cur, rfl, hg, ?_, r⟩
    rw [hf.block g (Array.getElem?_eq_some_iff.1 hh).1 (fun e => hn1 (by rw [e]; rfl)) (fun e => by
      rcases hn2 with q | q
      · cases q
      · exact q (by rw [e]; rfl))]
    exact hh
theorem xnd_new (W : World) (c : NdC) (g : Nat) (hg : g = W.heap.size) : ∀ (j : Nat) (u : Value), (ndCells c)[j]? = some u → (W.alloc (.cells #[.int .i64 c.nd.deep, .string ⟨c.nd.name.toArray⟩, c.a, .string ⟨c.nd.text.toArray⟩] 48)).cell? ((⟨g, 0, none⟩ : Addr).add j) = some u := by
  intro j u hj
  subst hg
  have e : (⟨W.heap.size, 0, none⟩ : Addr).add j = ⟨W.heap.size, j, none⟩ := by unfold Addr.add; split <;> simp_all
  rw [e]
  unfold World.cell?
  rw [heap_alloc_new]
  simpa [ndCells] using hj
theorem xownP_form {w : World} {B : Nat} {v : Value} {ps : List Par} (h : OwnP w B v ps) : ∃ po pc, v = .slice po ps.length pc := by
  rcases h.2 with ⟨rfl, hn⟩ | ⟨g, cap, cur, rfl, _⟩
  · exact ⟨none, 0, by rw [hn]⟩
  · exact ⟨_, cap, rfl⟩
/-- append of one element, in a region that draws its order. -/
theorem step_appN {P : Program} {ops : Array Oper} {o : Oper} {a : Act} {w : World} {K : Act → World → Prop} {Q : Exit → Act → World → Prop} {E : Prop} (hgd : o.guard = none)
    (s x : Operand) (t : TypeId) (ho : o.op = Op.call { callee := Callee.builtin Builtin.append, args := #[s, x], argTypes := #[t, t] }) (B : Nat) (i : TypeInfo)
    (z : Value) (ht : P.underlying t = some (TypeDesc.slice 48)) (hi : P.info? 48 = some i) (hz : i.zero = some z) (hsize : i.size = 4) (hby : i.bytes = 64) (hzs : z.cells.size = 4)
    (v : Value) (cs : List NdC) (hs : a.eval s = v) (hown : OwnN w B v cs) (ad : Addr) (k : Nat) (c : NdC) (hc : OwnP w B c.a c.nd.attrs) (hx : a.eval x = Value.slice (some ad) 1 k)
    (hnews : ∀ (j : Nat) (u : Value), (ndCells c)[j]? = some u → w.cell? (ad.add j) = some u)
    (hlen : cs.length ≤ 2000000) (hB : B ≤ w.heap.size)
    (h : ∀ (v' : Value) (w' : World), OwnN w' B v' (cs ++ [c]) → FrN v w v' w' → K (a.put o.dst v') w') : if Region.wanted o (yielded ops a.tmps) = true then Oper.wp P o a w K Q else E := by
  have hw : Region.wanted o (yielded ops a.tmps) = true := by simp [Region.wanted, hgd]
  rw [if_pos hw]
  have one : ∀ (ps : List Par) (B : Nat) (v : Value), OwnP w B v ps → v.oneCell' = true := fun ps B v h => by
    rcases h.2 with ⟨rfl, _⟩ | ⟨g, cap, cur, rfl, _⟩ <;> rfl
  obtain ⟨v', w', hrun, r1, hgr, _, hat⟩ := run_append_own_at (P := P) w B t o.type 48 i z 4 64 ht hi hz hsize hby hzs (by decide) v cs.length (ndsCells cs) hown.1 ad 1 k (ndCells c) rfl hnews
    (by intro u hu; simp [ndCells] at hu; rcases hu with rfl | rfl | rfl | rfl <;> first | rfl | exact one _ _ _ hc) (by unfold maxLen; omega) (by omega) hB
  unfold Oper.wp
  simp [execOp, ho, resolve, invoke, builtin, hs, hx, hrun, Result.andThen]
  have keep : ∀ (ps : List Par) (u : Value), OwnP w B u ps → OwnP w' B u ps := fun ps u hu => World.ownsRow.kept hu hgr (rows_neN hown.1 hu (by decide))
  refine h v' w' ⟨?_, ?_⟩ (grown_fr hgr hat)
  · have e : ndsCells (cs ++ [c]) = ndsCells cs ++ ndCells c := by simp [ndsCells]
    rw [e, List.length_append]
    exact r1
  · intro c' hc'
    rcases List.mem_append.1 hc' with hc' | hc'
    · exact keep _ _ (hown.2 c' hc')
    · simp at hc'; subst hc'
      exact keep _ _ hc
/-- What element tells. -/
def ElP (o : Option (List Nd × List UInt8)) (b : Nat) (cs : List NdC) (B : Nat) (v : Value) (w : World) (e : Ending) (w' : World) : Prop := match o with
  | none => e = gaveUp ∧ FrX b v w (.slice none 0 0) w'
  | some (ns, r) => ∃ v' cs', e = .returned (.tuple #[]) ∧ ndsL cs' = ns ∧ OwnN w' B v' (cs ++ cs') ∧ XrAt w' b r v' ∧ FrX b v w v' w'
/-- What inner tells. -/
def InP (o : Option (List UInt8 × List Nd × List UInt8)) (b : Nat) (cs : List NdC) (B : Nat) (v : Value) (w : World) (e : Ending) (w' : World) : Prop := match o with
  | none => e = gaveUp ∧ FrX b v w (.slice none 0 0) w'
  | some (t, ns, r) => ∃ v' cs', e = .returned (.string ⟨t.toArray⟩) ∧ ndsL cs' = ns ∧ OwnN w' B v' (cs ++ cs') ∧ XrAt w' b r v' ∧ FrX b v w v' w'
def ElS (n : Nat) : Prop := ∀ (b d : Nat) (l : List UInt8) (v : Value) (cs : List NdC) (B : Nat) (w : World), XrAt w b l v → OwnN w B v cs → b < B → B ≤ w.heap.size → l.length < n → cs.length + l.length ≤ 100000 → d + l.length ≤ 100000 →
  Calls Tryd.prog 57 #[.pointer (some ⟨b, 0, none⟩), .int .i64 d] w fun e w' => ElP (elemC n d l) b cs B v w e w'
/-- The reader stands ahead of a text. -/
def innA (n d : Nat) (s : List UInt8) : Option (List UInt8 × List Nd × List UInt8) := match upP (· == 60) s with
  | none => none
  | some (x, y) => innC n d x [] y
def InS (n : Nat) : Prop := ∀ (b d : Nat) (l : List UInt8) (v : Value) (cs : List NdC) (B : Nat) (w : World), XrAt w b l v → OwnN w B v cs → b < B → B ≤ w.heap.size → l.length + 1 < n → cs.length + l.length ≤ 100000 → d + l.length ≤ 100000 →
  Calls Tryd.prog 78 #[.pointer (some ⟨b, 0, none⟩), .int .i64 d] w fun e w' => InP (innA n d l) b cs B v w e w'
end Go.Proofs.YtnijlmkodgdhlaaDoor

/-
  Package xml's reader reads attributes as the document says: plain facts.
-/
namespace Go.Proofs.YtnijlmkodgdhlaaDoor
open Go.RowKit Sc
set_option linter.unusedVariables false
set_option maxRecDepth 20000
set_option linter.unusedSimpArgs false

theorem dw_nil {p : UInt8 → Bool} : ∀ {l : List UInt8}, l.dropWhile p = [] ↔ ∀ b ∈ l, p b = true
  | [] => by simp
  | a :: l => by
    rw [List.dropWhile_cons]
    cases ha : p a with
    | false => simp [ha]
    | true =>
      rw [if_pos rfl, dw_nil (l := l)]
      simp [ha]
theorem up_split {q : UInt8} {l x r : List UInt8} (h : upP (· == q) l = some (x, q :: r)) : l = x ++ q :: r ∧ (∀ b ∈ x, (b != q) = true) ∧ x = l.takeWhile (· != q) ∧ q :: r = l.dropWhile (· != q) := by
  have ef : (fun b : UInt8 => !(b == q)) = (· != q) := rfl
  unfold upP at h
  rw [ef] at h
  split at h
  · cases h
  · simp only [Option.some.injEq, Prod.mk.injEq] at h
    have e := List.takeWhile_append_dropWhile (p := (· != q)) (l := l)
    rw [h.1, h.2] at e
    refine ⟨e.symm, fun b hb => ?_, h.1.symm, h.2.symm⟩
    rw [← h.1] at hb
    exact List.all_eq_true.1 List.all_takeWhile b hb
theorem up_none {q : UInt8} {l : List UInt8} (h : upP (· == q) l = none) : l.dropWhile (· != q) = [] := by
  have ef : (fun b : UInt8 => !(b == q)) = (· != q) := rfl
  unfold upP at h
  rw [ef] at h
  split at h
  · next ha =>
    exact dw_nil.2 (List.all_eq_true.1 ha)
  · cases h
theorem dw_stop {p : UInt8 → Bool} {x : List UInt8} {c : UInt8} {r : List UInt8} (h : ∀ b ∈ x, p b = true) (hc : p c = false) : (x ++ c :: r).takeWhile p = x ∧ (x ++ c :: r).dropWhile p = c :: r := takeW_app h hc
/-- A value, as the document reads it. -/
def valueX (t : List UInt8) : Option (List UInt8 × List UInt8) := match t with
  | [] => none
  | q :: r2 => if q ≠ 34 ∧ q ≠ 39 then none else match r2.dropWhile (fun b => b != q && b != 60) with
    | [] => none
    | e :: r3 => if e ≠ q then none else some (r2.takeWhile (fun b => b != q && b != 60), r3)
theorem valueQ_is (q : UInt8) (hq : q ≠ 60) (r2 : List UInt8) : valueQ q (q :: r2) = match r2.dropWhile (fun b => b != q && b != 60) with
    | [] => none
    | e :: r3 => if e ≠ q then none else some (r2.takeWhile (fun b => b != q && b != 60), r3) := by
  unfold valueQ
  rw [if_neg (by rw [pre_one]; simp), show List.drop 1 (q :: r2) = r2 from rfl]
  cases hu : upP (· == q) r2 with
  | none =>
    have hd := up_none hu
    have hn : ∀ b ∈ r2, (b != q) = true := dw_nil.1 hd
    simp only
    cases hx : r2.dropWhile (fun b => b != q && b != 60) with
    | nil => rfl
    | cons e r3 =>
      have he : e ∈ r2 := (List.dropWhile_suffix _).subset (by rw [hx]; exact List.mem_cons_self ..)
      have := hn e he
      simp only
      rw [if_pos (by simpa using this)]
  | some xy =>
    obtain ⟨x, y⟩ := xy
    obtain ⟨r, rfl, hl⟩ := up_eq hu
    obtain ⟨h1, h2, h3, h4⟩ := up_split hu
    simp only [List.drop_succ_cons, List.drop_zero]
    cases hc : x.contains 60 with
    | true =>
      rw [if_pos rfl]
      have hm : (60 : UInt8) ∈ x := by simpa using hc
      rcases idx_cases x 60 with ⟨h5, _⟩ | ⟨a, b, h5, h6, _⟩
      · exact absurd hm h5
      · have e : r2 = a ++ 60 :: (b ++ q :: r) := by rw [h1, h5]; simp
        have hd := (dw_stop (p := fun b => b != q && b != 60) (x := a) (c := 60) (r := b ++ q :: r) (fun c hc => by
          have h7 := h2 c (by rw [h5]; simp [hc])
          have h8 : c ≠ 60 := fun e => h6 (by rw [← e]; exact hc)
          simp only [h7, Bool.true_and, bne_iff_ne, ne_eq]; exact h8) (by simp)).2
        rw [← e] at hd
        rw [hd]
        simp only
        rw [if_pos (Ne.symm hq)]
    | false =>
      rw [if_neg (by simp)]
      have hm : (60 : UInt8) ∉ x := by simpa using hc
      have hd := dw_stop (p := fun b => b != q && b != 60) (x := x) (c := q) (r := r) (fun c hc => by
        have h7 := h2 c hc
        have h8 : c ≠ 60 := fun e => hm (by rw [← e]; exact hc)
        simp only [h7, Bool.true_and, bne_iff_ne, ne_eq]; exact h8) (by simp)
      rw [← h1] at hd
      rw [hd.1, hd.2]
      simp
theorem valueC_is (t : List UInt8) : valueC t = valueX t := by
  unfold valueC valueX
  cases t with
  | nil => rfl
  | cons q r2 =>
    simp only
    by_cases h39 : q = 39
    · subst h39
      rw [if_pos (pre_one 39 r2), valueQ_is 39 (by decide)]
      rw [if_neg (by simp)]
    · have hp : preX [39] (q :: r2) = false := by simp [preX, h39]
      rw [if_neg (by rw [hp]; simp)]
      by_cases h34 : q = 34
      · subst h34
        rw [valueQ_is 34 (by decide), if_neg (by simp)]
      · rw [if_pos ⟨h34, h39⟩]
        unfold valueQ
        rw [if_pos (by simp [preX, h34])]
theorem attrC_is (s : List UInt8) : attrC s = attrX s := by
  unfold attrC attrX
  cases hu : upP (· == 61) s with
  | none => rw [up_none hu]
  | some xy =>
    obtain ⟨x, y⟩ := xy
    obtain ⟨r, rfl, hl⟩ := up_eq hu
    obtain ⟨h1, h2, h3, h4⟩ := up_split hu
    rw [← h4, ← h3]
    simp only [List.drop_succ_cons, List.drop_zero]
    rw [valueC_is]
    unfold valueX
    cases r.dropWhile xblk with
    | nil => rfl
    | cons q r2 =>
      simp only
      by_cases hq : q ≠ 34 ∧ q ≠ 39
      · rw [if_pos hq, if_pos hq]
      · rw [if_neg hq, if_neg hq]
        cases hd : r2.dropWhile (fun b => b != q && b != 60) with
        | nil => rfl
        | cons e r3 =>
          simp only
          by_cases he : e ≠ q
          · rw [if_pos he, if_pos he]
          · rw [if_neg he, if_neg he]
/-- What stands behind attributes may end an element's front. -/
def goodR (r : List UInt8) : Bool := preX [47, 62] r || preX [62] r
theorem dw_head {s : List UInt8} : s.head?.any xblk = decide ((s.dropWhile xblk).length < s.length) := by
  cases s with
  | nil => rfl
  | cons b r =>
    rw [List.head?_cons, Option.any_some, List.dropWhile_cons]
    cases hb : xblk b with
    | false => simp
    | true =>
      have := dw_len xblk r
      simp
      omega
theorem attrs_XC : ∀ (n : Nat) (acc : List Par) (s : List UInt8) (ps : List Par) (r2 : List UInt8), attrsX n acc s = some (ps, r2) → goodR r2 = true → ∀ m, s.length < m → attrsC m acc s = some (ps, r2)
  | 0, _, _, _, _, h, _, _, _ => by rw [attrsX] at h; cases h
  | n + 1, acc, s, ps, r2, h, hg, m, hm => by
    obtain ⟨m', rfl⟩ : ∃ m', m = m' + 1 := ⟨m - 1, by omega⟩
    rw [attrsX] at h
    rw [attrsC]
    have hdl := dw_len xblk s
    cases hs : s.dropWhile xblk with
    | nil =>
      rw [hs] at h
      simp only [Option.some.injEq, Prod.mk.injEq] at h
      rw [← h.2] at hg
      cases hg
    | cons b r =>
      rw [hs] at h hdl
      simp only at h
      split at h
      · next hb =>
        simp only [Option.some.injEq, Prod.mk.injEq] at h
        rw [← h.2] at hg ⊢
        rw [if_neg, h.1]
        unfold goodR at hg
        rw [Bool.or_eq_true] at hg
        rcases hg with hg | hg <;> (rw [hg]; simp)
      · next hb =>
        split at h
        · cases h
        · next hh =>
          have hb62 : preX [62] (b :: r) = false := by
            have : b ≠ 62 := fun e => hb (.inr e)
            simp [preX, this]
          have hb47 : preX [47, 62] (b :: r) = false := by
            have : b ≠ 47 := fun e => hb (.inl e)
            simp [preX, this]
          have hlt : decide ((b :: r).length < s.length) = true := by
            rw [← hs, ← dw_head]
            simpa using hh
          rw [if_pos (by rw [hlt, hb62, hb47]; rfl), attrC_is]
          split at h
          · cases h
          · next p r3 ha =>
            rw [ha]
            simp only
            have hal := attrC_len (by rw [attrC_is]; exact ha)
            exact attrs_XC n _ _ _ _ h hg m' (by omega)
theorem attrs_pre : ∀ (m : Nat) (acc : List Par) (s : List UInt8) (ps : List Par) (r2 : List UInt8), attrsC m acc s = some (ps, r2) → ∀ p ∈ acc, p ∈ ps
  | 0, _, _, _, _, h => by rw [attrsC] at h; cases h
  | m + 1, acc, s, ps, r2, h => by
    rw [attrsC] at h
    split at h
    · split at h
      · cases h
      · intro p hp
        exact attrs_pre m _ _ _ _ h p (by simp [hp])
    · simp only [Option.some.injEq, Prod.mk.injEq] at h
      rw [h.1]; exact fun p hp => hp
/-- A name that begins with a / is none. -/
theorem slash_bad {r t : List UInt8} {p : Par} (h : attrC (47 :: r) = some (p, t)) : nameX p.name = false := by
  unfold attrC at h
  split at h
  · cases h
  · next n y hu =>
    obtain ⟨r', rfl, hl⟩ := up_eq hu
    obtain ⟨_, _, h3, _⟩ := up_split hu
    split at h
    · cases h
    · next v r2 hv =>
      cases hr : readX v with
      | none => rw [hr] at h; cases h
      | some x =>
        rw [hr] at h
        simp only [Option.map_some, Option.some.injEq, Prod.mk.injEq] at h
        rw [← h.1]
        simp only
        have hn : ∃ z, n = 47 :: z := ⟨_, by rw [h3, List.takeWhile_cons, if_pos (by decide)]⟩
        obtain ⟨z, rfl⟩ := hn
        have hx : ∃ z', xbehind (47 :: z) = 47 :: z' := by
          unfold xbehind
          rw [List.reverse_cons, List.dropWhile_append]
          split
          · exact ⟨[], by rw [List.dropWhile_cons, if_neg (by decide)]; rfl⟩
          · exact ⟨_, by rw [List.reverse_append]; rfl⟩
        obtain ⟨z', hz⟩ := hx
        rw [hz]
        have : letX 47 = false := by decide +kernel
        simp [nameX, this]
theorem attrs_CX : ∀ (m : Nat) (acc : List Par) (s : List UInt8) (ps : List Par) (r2 : List UInt8), attrsC m acc s = some (ps, r2) → goodR r2 = true → (∀ p ∈ ps, nameX p.name = true) → ∀ n, s.length ≤ n → 1 ≤ n → attrsX n acc s = some (ps, r2)
  | 0, _, _, _, _, h, _, _, _, _, _ => by rw [attrsC] at h; cases h
  | m + 1, acc, s, ps, r2, h, hg, hnm, n, hn, hn1 => by
    obtain ⟨n', rfl⟩ : ∃ n', n = n' + 1 := ⟨n - 1, by omega⟩
    have hpre := attrs_pre _ _ _ _ _ h
    rw [attrsC] at h
    rw [attrsX]
    have hdl := dw_len xblk s
    cases hs : s.dropWhile xblk with
    | nil =>
      rw [hs] at h
      split at h
      · split at h
        · cases h
        · next ha => rw [attrC_is] at ha; cases ha
      · simp only [Option.some.injEq, Prod.mk.injEq] at h
        rw [← h.2] at hg
        cases hg
    | cons b r =>
      rw [hs] at h hdl
      simp only
      split at h
      · next hc =>
        split at h
        · cases h
        · next p r3 ha =>
          rw [Bool.and_eq_true, Bool.and_eq_true] at hc
          have hp62 : b ≠ 62 := fun e => by
            have := hc.2.1
            rw [e] at this
            rw [pre_one] at this; cases this
          have hp47 : b ≠ 47 := fun e => by
            subst e
            have h1 := slash_bad ha
            have h2 := hnm p (attrs_pre _ _ _ _ _ h p (by simp))
            rw [h1] at h2; cases h2
          rw [if_neg (by rintro (e | e); exact hp47 e; exact hp62 e)]
          have hh : s.head?.any xblk = true := by rw [dw_head, hs]; exact hc.1
          rw [if_neg (by rw [hh]; simp), ← attrC_is, ha]
          simp only
          have hal := attrC_len ha
          have hlt := of_decide_eq_true hc.1
          exact attrs_CX m _ _ _ _ h hg hnm n' (by omega) (by omega)
      · next hc =>
        simp only [Option.some.injEq, Prod.mk.injEq] at h
        rw [← h.2] at hg
        have hb : b = 47 ∨ b = 62 := by
          unfold goodR at hg
          rw [Bool.or_eq_true] at hg
          rcases hg with hg | hg
          · left
            have := of_decide_eq_true hg
            simp at this
            exact this.1
          · right
            have := of_decide_eq_true hg
            simpa using this
        rw [if_pos hb, h.1, h.2]
end Go.Proofs.YtnijlmkodgdhlaaDoor

/-
  Contracts: package xml's inner, over element.
-/
namespace Go.Proofs.YtnijlmkodgdhlaaDoor
open Go.RowKit Sc
set_option linter.unusedVariables false
set_option maxRecDepth 20000
set_option linter.unusedSimpArgs false

mutual
theorem elemC_cnt : ∀ (n d : Nat) (s : List UInt8) (l : List Nd) (r : List UInt8), elemC n d s = some (l, r) → l.length + r.length ≤ s.length
  | 0, _, _, _, _, h => by rw [elemC] at h; cases h
  | n + 1, d, s, l, r, h => by
    rw [elemC] at h
    split at h
    · cases h
    · next h1 =>
      have h1' : preX [60] s = true := by simpa using h1
      have hp := pre_len h1'
      split at h
      · cases h
      · next nm r1 hu =>
        obtain ⟨c, q, hq, _, hlq⟩ := up_head hu
        split at h
        · cases h
        · next ps r2 ha =>
          have ha' := attrsC_len _ _ _ _ _ ha
          split at h
          · simp only [Option.some.injEq, Prod.mk.injEq] at h
            rw [← h.1, ← h.2]
            simp at *
            omega
          · split at h
            · cases h
            · split at h
              · cases h
              · next x y hu2 =>
                obtain ⟨c2, q2, hq2, _, hlq2⟩ := up_head hu2
                split at h
                · cases h
                · next t ks r3 hi =>
                  have := innC_cnt n _ _ _ _ _ _ _ hi
                  cases hc : closeC nm r3 with
                  | none => rw [hc] at h; cases h
                  | some r4 =>
                    rw [hc] at h
                    simp only [Option.map_some, Option.some.injEq, Prod.mk.injEq] at h
                    rw [← h.1, ← h.2]
                    have := closeC_len hc
                    simp at *
                    omega
theorem innC_cnt : ∀ (n d : Nat) (txt : List UInt8) (ks : List Nd) (s t : List UInt8) (l : List Nd) (r : List UInt8), innC n d txt ks s = some (t, l, r) → l.length + r.length ≤ ks.length + s.length
  | 0, _, _, _, _, _, _, _, h => by rw [innC] at h; cases h
  | n + 1, d, txt, ks, s, t, l, r, h => by
    rw [innC] at h
    split at h
    · cases hv : readX (xtrim txt) with
      | none => rw [hv] at h; cases h
      | some u =>
        rw [hv] at h
        simp only [Option.map_some, Option.some.injEq, Prod.mk.injEq] at h
        rw [← h.2.2, ← h.2.1]; exact Nat.le_refl _
    · split at h
      · cases h
      · next k2 r1 he =>
        have := elemC_cnt n _ _ _ _ he
        split at h
        · cases h
        · next x y hu =>
          obtain ⟨c, q, hq, _, hlq⟩ := up_head hu
          have := innC_cnt n _ _ _ _ _ _ _ h
          rw [List.length_append] at this
          omega
end
theorem xcat (a b : List UInt8) : (⟨a.toArray⟩ : ByteArray) ++ ⟨b.toArray⟩ = ⟨(a ++ b).toArray⟩ := by
  apply ByteArray.ext
  simp [ByteArray.data_append]
theorem ndsL_app (a b : List NdC) : ndsL (a ++ b) = ndsL a ++ ndsL b := by simp [ndsL]
theorem xtrim_len (l : List UInt8) : (xtrim l).length ≤ l.length := by
  rw [← xtrim_two]
  exact Nat.le_trans (dw_len _ _) (xbehind_len l)
set_option maxHeartbeats 4000000 in
set_option maxRecDepth 100000 in
theorem inn_step (n : Nat) (hEl : ∀ m, m < n → ElS m) : InS n := by
  intro b d l v cs B w hrd hown hbB hB hn hcl hdl
  have HEl := hid hEl
  have HO := hid hown
  have KU := hid (fun w' (h' : XrAt w' b l v) => upTo_bad (· == 60) ⟨#[60]⟩ b l v w' h' (by omega) (fun w' => xany_lt l w'))
  have hA : innA n d l = (match upP (· == 60) l with | none => none | some (x, y) => innC n d x [] y) := rfl
  generalize innA n d l = R at hA ⊢
  clear hEl
  cases hu : upP (· == 60) l with
  | none =>
    rw [hu] at hA
    have HA : Hid (R = none) := hA
    have HU := hid hu
    have HRD := hid hrd
    clear hA hu hrd hown
    go_enter Tryd.func78, Tryd.ntmps78
    go_wp2_with fail
    refine (KU.out w HRD.out HU.out).mono ?_
    rintro e w1 ⟨rfl, hf1⟩
    refine ⟨rfl, ?_⟩
    rw [HA.out]
    exact ⟨rfl, (FrX.of hf1).none⟩
  | some xy =>
    obtain ⟨x, y⟩ := xy
    rw [hu] at hA
    have HA : Hid (R = innC n d x [] y) := hA
    have HU := hid hu
    obtain ⟨c0, q0, hq0, _, hlq0⟩ := up_head hu
    have KU2 := hid (upTo_ok (· == 60) ⟨#[60]⟩ b l v w hrd (by omega) (fun w' => xany_lt l w') x y hu)
    have HRD := hid hrd
    clear hA hu hrd hown hq0
    go_enter Tryd.func78, Tryd.ntmps78
    go_wp2_with fail
    refine (KU2.out).mono ?_
    rintro e w1 ⟨rfl, hr1, hf1⟩
    have hown1 := HO.out.fr hf1 HRD.out
    have hfx1 : FrX b v w v w1 := FrX.of hf1
    clear KU2 KU HO
    go_wp2
    go_loopw [5] (fun tv wr => ∃ (txt s : List UInt8) (ks : List NdC) (v' : Value) (m : Nat), tv = .string ⟨txt.toArray⟩ ∧ Hid (R = innC m d txt (ndsL ks) s) ∧ s.length + 1 < m ∧ m ≤ n ∧ txt.length + s.length ≤ 100000 ∧ cs.length + ks.length + s.length ≤ 100000 ∧ d + s.length ≤ 100000 ∧ Hid (OwnN wr B v' (cs ++ ks)) ∧ Hid (XrAt wr b s v') ∧ FrX b v w v' wr) (fun _ wr => restLen b wr)
    case atStart => exact ⟨x, y, [], v, n, rfl, HA, by omega, Nat.le_refl _, by omega, by simp; omega, by omega, by simpa using hid hown1, hid hr1, hfx1⟩
    case round =>
      obtain ⟨txt, s, ks, v', m, rfl, hR, hm, hmn, ht, hc, hd', hown, hrd, hfr⟩ := hrel
      clear HA hown1 hr1 hf1 hfx1 HU HRD
      obtain ⟨m', rfl⟩ : ∃ m', m = m' + 1 := ⟨m - 1, by omega⟩
      have hRe := hR.out
      rw [innC] at hRe
      have KS := hid (sees_any b s [60, 47] v' wr hrd.out (by omega) (by decide))
      have HL := hid hrd.out.rest
      have hBw : B ≤ wr.heap.size := Nat.le_trans hB hfr.size
      clear hR
      cases h1 : preX [60, 47] s with
      | true =>
        rw [h1] at hRe KS
        rw [if_pos rfl] at hRe
        have hxl := xtrim_len txt
        have KT := hid (fun w' => xtrimAll_list txt w' (by omega))
        have KP := hid (fun w' => plain_any (xtrim txt) w' (by omega))
        clear h1
        cases hr : readX (xtrim txt) with
        | none =>
          rw [hr] at hRe KP
          have hE : Hid (R = none) := hRe
          clear hRe hr
          generalize xtrim txt = tt at KT KP hxl
          go_wp2_with fail
          refine (KS.out).mono ?_
          rintro e wr ⟨rfl, rfl⟩
          go_wp2_with fail
          refine (KT.out _).mono ?_
          rintro e w2 ⟨rfl, hw2⟩
          go_wp2_with fail
          refine (KP.out _).mono ?_
          rintro e w3 ⟨rfl, hw3⟩
          refine ⟨rfl, ?_⟩
          rw [hE.out]
          exact ⟨rfl, ((hfr.trans (FrX.of (FrR.below hw2))).trans (FrX.of (FrR.below hw3))).none⟩
        | some t =>
          rw [hr] at hRe KP
          have hE : Hid (R = some (t, ndsL ks, s)) := hRe
          clear hRe hr
          generalize xtrim txt = tt at KT KP hxl
          go_wp2_with fail
          refine (KS.out).mono ?_
          rintro e wr ⟨rfl, rfl⟩
          go_wp2_with fail
          refine (KT.out _).mono ?_
          rintro e w2 ⟨rfl, hw2⟩
          go_wp2_with fail
          refine (KP.out _).mono ?_
          rintro e w3 ⟨rfl, hw3⟩
          go_wp2
          go_ret
          rw [hE.out]
          exact ⟨v', ks, rfl, rfl, (hown.out.below hw2).below hw3, (hrd.out.below hw2).below hw3, (hfr.trans (FrX.of (FrR.below hw2))).trans (FrX.of (FrR.below hw3))⟩
      | false =>
        rw [h1] at hRe KS
        rw [if_neg (by simp)] at hRe
        have KE := hid (HEl.out m' (by omega) b d s v' (cs ++ ks) B wr hrd.out hown.out hbB hBw (by omega) (by rw [List.length_append]; omega) hd')
        clear h1
        cases he : elemC m' d s with
        | none =>
          rw [he] at hRe KE
          simp only [ElP] at KE
          have hE : Hid (R = none) := hRe
          clear hRe he
          go_wp2_with fail
          refine (KS.out).mono ?_
          rintro e wr ⟨rfl, rfl⟩
          go_wp2_with fail
          refine (KE.out).mono ?_
          rintro e w3 ⟨rfl, hf3⟩
          refine ⟨rfl, ?_⟩
          rw [hE.out]
          exact ⟨rfl, hfr.trans hf3⟩
        | some kr =>
          obtain ⟨k2, r⟩ := kr
          have hel := elemC_len _ _ _ _ _ he
          have hec := elemC_cnt _ _ _ _ _ he
          rw [he] at hRe KE
          simp only [ElP] at KE
          simp only at hRe
          clear he
          cases hu : upP (· == 60) r with
          | none =>
            rw [hu] at hRe
            have hE : Hid (R = none) := hRe
            have HU := hid hu
            clear hRe hu
            go_wp2_with fail
            refine (KS.out).mono ?_
            rintro e wr ⟨rfl, rfl⟩
            go_wp2_with fail
            refine (KE.out).mono ?_
            rintro e w3 ⟨v3, k3, rfl, hk3, hown3, hr3, hf3⟩
            go_wp2_with fail
            refine (upTo_bad (· == 60) ⟨#[60]⟩ b r v3 w3 hr3 (by omega) (fun w' => xany_lt r w') HU.out).mono ?_
            rintro e w4 ⟨rfl, hf4⟩
            refine ⟨rfl, ?_⟩
            rw [hE.out]
            exact ⟨rfl, ((hfr.trans hf3).trans (FrX.of hf4)).none⟩
          | some xy =>
            obtain ⟨x2, y2⟩ := xy
            rw [hu] at hRe
            have hE : Hid (R = innC m' d (txt ++ x2) (ndsL ks ++ k2) y2) := hRe
            have HU := hid hu
            obtain ⟨c0, q0, hq0, _, hlq⟩ := up_head hu
            have hcat := xcat txt x2
            have hcl2 : ¬ 9223372036854775807 < txt.length + x2.length := by omega
            have hz1 := size_list txt
            have hz2 := size_list x2
            have HL3 : Hid (y2.length < s.length) := show _ < _ by omega
            have HL4 : Hid (y2.length + 1 < m') := show _ < _ by omega
            have HL5 : Hid ((txt ++ x2).length + y2.length ≤ 100000) := show _ ≤ _ by rw [List.length_append]; omega
            have HL6 : Hid (∀ k3 : List NdC, ndsL k3 = k2 → cs.length + (ks ++ k3).length + y2.length ≤ 100000) := fun k3 hk => by
              have := congrArg List.length hk
              rw [ndsL_len] at this
              rw [List.length_append]; omega
            clear hRe hu hq0
            go_wp2_with fail
            refine (KS.out).mono ?_
            rintro e wr ⟨rfl, rfl⟩
            go_wp2_with fail
            refine (KE.out).mono ?_
            rintro e w3 ⟨v3, k3, rfl, hk3, hown3, hr3, hf3⟩
            have HK3 := hid hk3
            have HO3 := hid hown3
            clear hk3 hown3
            go_wp2_with fail
            refine (upTo_ok (· == 60) ⟨#[60]⟩ b r v3 w3 hr3 (by omega) (fun w' => xany_lt r w') x2 y2 HU.out).mono ?_
            rintro e w4 ⟨rfl, hr4, hf4⟩
            have hown4 := HO3.out.fr hf4 hr3
            go_wp2
            go_roundw
            case rel => exact ⟨txt ++ x2, y2, ks ++ k3, v3, m', by first | rfl | rw [hcat], by rw [ndsL_app, HK3.out]; exact hE, HL4.out, by omega, HL5.out, HL6.out k3 HK3.out, by have := HL3.out; omega, by rw [← List.append_assoc]; exact hid hown4, hid hr4, (hfr.trans hf3).trans (FrX.of hf4)⟩
            case measure => rw [hr4.rest, HL.out]; exact HL3.out
end Go.Proofs.YtnijlmkodgdhlaaDoor
