/-
  Glue of a piece of a row; a message that a call makes itself, header by header.
-/
import Derived.Test.YtpcgomfiihhpcaaDoorVSpreadL
namespace Go.Proofs.YtpcgomfiihhpcaaDoor
open Go.RowKit Sc
set_option linter.unusedVariables false
set_option maxRecDepth 20000

set_option maxHeartbeats 1000000 in
theorem glueS_any (ad : Addr) (cap : Nat) (ps : List (List UInt8)) (t : ByteArray) (w : World) (hc : ∀ j (hj : j < ps.length), ad.block < w.heap.size ∧ w.cell? (ad.add j) = some (.string ⟨(ps[j]).toArray⟩)) (hl : ps.length ≤ 281474976710656)
    (hlen : (glueK t.data.toList ps ps.length).length ≤ 140737488355328) :
    Calls Tryd.prog 24 #[.slice (some ad) ps.length cap, .string t] w fun e w' => e = .returned (.string ⟨(glueK t.data.toList ps ps.length).toArray⟩) ∧ Below w.heap.size w w' := by
  obtain ⟨i0, hi, hz0, hz1, hz2⟩ := info_parts info5
  have K1 := hid hc
  have h1 : ∀ w', Own w' 0 9 (.slice none 0 0) [] := fun w' => Own.nil _ _ _
  have HM : Hid (∀ k, k ≤ ps.length → (glueK t.data.toList ps k).length ≤ 140737488355328) := fun k hk => Nat.le_trans (glueK_mono _ _ hk) hlen
  have htl := len_data t
  have HT : Hid (t.data.toList.length = t.size) := htl
  clear hc hlen htl
  go_enter Tryd.func24, Tryd.ntmps24
  go_wp2
  go_loopw [5, 6] (fun v i wr => ∃ k : Nat, k ≤ ps.length ∧ i = .int .i64 k ∧ Own wr w.heap.size 5 v (Lib.byteCells (glueK t.data.toList ps k)) ∧ Below w.heap.size w wr ∧ w.heap.size ≤ wr.heap.size) (fun _ i _ => ps.length - (intOf i).toNat)
  case atStart => exact ⟨0, Nat.zero_le _, rfl, Own.nil _ _ _, Below.refl _ _, Nat.le_refl _⟩
  case round =>
    obtain ⟨k, hk, rfl, hown, hb, hB⟩ := hrel
    by_cases hlt : k < ps.length
    · have f0 := (K1.out k hlt).1
      have f1 : wr.cell? (ad.add k) = some (.string ⟨(ps[k]).toArray⟩) := cell_below hb (by rw [add_block]; exact f0) (K1.out k hlt).2
      have hm1 := HM.out (k + 1) (by omega)
      by_cases h0 : k = 0
      · subst h0
        have e0 : ad.add 0 = ad := by unfold Addr.add; simp
        rw [e0] at f1
        have hs1 := glue_first t.data.toList ps hlt
        rw [hs1] at hm1
        have HS : Hid (glueK t.data.toList ps 1 = ps[0]) := hs1
        clear hs1
        go_wp2_with (at_builtin; refine wp_appstr _ rfl (.tmp 18) (.tmp 22) 78 9 rfl w.heap.size 5 i0 Tryd.underlying78 Tryd.underlying9 hi hz0 hz1 hz2 _ _ rfl hown ⟨(ps[0]).toArray⟩ rfl (by rw [mks]; simp [glueK]; omega) w hb hB (h1 _) (by decide) ?_; intro v3 w3 hown3 _ hb3 hB3)
        go_wp2
        go_roundw
        case rel => exact ⟨1, by omega, by go_num, by rw [HS.out]; exact hown3, hb3, hB3⟩
        case measure => simp [intOf]; omega
      · have hs1 := glue_next t.data.toList ps hlt (by omega)
        rw [hs1] at hm1
        simp only [List.length_append] at hm1
        have HS : Hid (glueK t.data.toList ps (k + 1) = glueK t.data.toList ps k ++ t.data.toList ++ ps[k]) := hs1
        have hpk : (0 : Int) < (k : Int) := by omega
        clear hs1
        go_wp2_with (first
          | (at_builtin; refine wp_appstr _ rfl (.tmp 15) (.tmp 16) 78 9 rfl w.heap.size 5 i0 Tryd.underlying78 Tryd.underlying9 hi hz0 hz1 hz2 _ _ rfl hown t rfl (by have := HT.out; omega) w hb hB (h1 _) (by decide) ?_; intro v2 w2 hown2 hk2 hb2 hB2; replace f1 : w2.cell? (ad.add k) = some (.string ⟨(ps[k]).toArray⟩) := cell_below hb2 (by rw [add_block]; exact f0) (K1.out k hlt).2)
          | (at_builtin; refine wp_appstr _ rfl (.tmp 18) (.tmp 22) 78 9 rfl w.heap.size 5 i0 Tryd.underlying78 Tryd.underlying9 hi hz0 hz1 hz2 _ _ rfl hown2 ⟨(ps[k]).toArray⟩ rfl (by rw [mks, List.length_append]; omega) w hb2 hB2 (h1 _) (by decide) ?_; intro v3 w3 hown3 _ hb3 hB3))
        go_wp2
        go_roundw
        case rel => exact ⟨k + 1, by omega, by go_num, by rw [HS.out]; exact hown3, hb3, hB3⟩
        case measure => simp [intOf]; omega
    · have hke : k = ps.length := by omega
      rw [hke] at hown
      have hcv := conv_own (P := Tryd.prog) _ Tryd.underlying78 Tryd.underlying5 Tryd.underlying9 hown
      clear hke
      go_wp2
      go_ret
      exact ⟨rfl, hb⟩
/-- Of a piece of an own row. -/
theorem gluePiece {w : World} {g : Nat} {ts : List (List UInt8)} (hc : ∀ j (hj : j < ts.length), w.cell? ⟨g, j, none⟩ = some (.string ⟨(ts[j]).toArray⟩)) (off : Nat) (ps : List (List UInt8)) (hps : ∀ j (hj : j < ps.length), ∃ h : off + j < ts.length, ts[off + j] = ps[j]) (hne : ts ≠ []) (cap : Nat) (t : List UInt8)
    (hl : ps.length ≤ 281474976710656) (hlen : (joinT t ps).length ≤ 140737488355328) :
    Calls Tryd.prog 24 #[.slice (some ⟨g, off, none⟩) ps.length cap, .string ⟨t.toArray⟩] w fun e w' => e = .returned (.string ⟨(joinT t ps).toArray⟩) ∧ Below w.heap.size w w' := by
  have hpos : 0 < ts.length := by cases ts with | nil => exact absurd rfl hne | cons x r => simp
  have hg : g < w.heap.size := World.block_lt_of_cell? w ⟨g, 0, none⟩ (hc 0 hpos)
  have e : glueK t ps ps.length = joinT t ps := by rw [glue_join _ _ _ (Nat.le_refl _), List.take_length]
  have k := glueS_any ⟨g, off, none⟩ cap ps ⟨t.toArray⟩ w (fun j hj => ⟨hg, by obtain ⟨h1, h2⟩ := hps j hj; rw [add_at, hc (off + j) h1, h2]⟩) hl (by show (glueK t ps ps.length).length ≤ _; rw [e]; exact hlen)
  have e2 : glueK (⟨t.toArray⟩ : ByteArray).data.toList ps ps.length = joinT t ps := e
  rw [e2] at k
  exact k

/-- A message that lies at block b, its headers in a row of their own; all that was there before is as it was. -/
structure RecM (w0 wr : World) (b : Nat) (hs : List Hdr) (v : Value) : Prop where
  below : Below w0.heap.size w0 wr
  row : RowIs wr b 45 [.string ⟨#[]⟩, .string ⟨#[]⟩, .int .i64 0, .string ⟨#[]⟩, v, .string ⟨#[]⟩]
  own : OwnH wr w0.heap.size v hs
  lo : w0.heap.size ≤ b
  hi : b < wr.heap.size
theorem RecM.step {w0 wr w' : World} {b : Nat} {hs : List Hdr} {v : Value} (h : RecM w0 wr b hs v) (hb : Below wr.heap.size wr w') : RecM w0 w' b hs v :=
  ⟨h.below.trans (hb.mono h.below.size), h.row.below hb h.hi, h.own.below hb, h.lo, Nat.lt_of_lt_of_le h.hi hb.size⟩
theorem row_ne {w : World} {B e e' s n b : Nat} {v : Value} {xs l : List Value} (h : w.ownsRow B e s v n xs) (hr : RowIs w b e' l) (hne : e ≠ e') : some b ≠ v.ownBlock := by
  rcases h.2 with ⟨rfl, _⟩ | ⟨g, cap, cur, rfl, _, hg, _⟩
  · simp [Value.ownBlock]
  · simp only [Value.ownBlock]
    intro k
    injection k with k
    subst k
    unfold RowIs at hr
    rw [hr] at hg
    injection hg with hg
    injection hg with _ hg _
    exact hne hg.symm
theorem RowIs.grown {w w' : World} {b : Nat} {e : TypeId} {l : List Value} {row : Option Nat} (h : RowIs w b e l) (hg : w.grownBy w' row) (hne : some b ≠ row) : RowIs w' b e l := by
  unfold RowIs at h ⊢
  rw [hg.block b (Array.getElem?_eq_some_iff.1 h).1 hne]; exact h
theorem own_set {w : World} {B e e' s n b : Nat} {v : Value} {xs l : List Value} (h : w.ownsRow B e s v n xs) (hr : RowIs w b e' l) (hne : e ≠ e') (j : Nat) (u : Value) : (w.setCell ⟨b, j, none⟩ u).ownsRow B e s v n xs := by
  have hn := row_ne h hr hne
  obtain ⟨h1, h2⟩ := h
  refine ⟨h1, ?_⟩
  rcases h2 with h2 | ⟨g, cap, cur, rfl, hg, hh, r⟩
  · exact Or.inl h2
  · refine Or.inr ⟨g, cap, cur, rfl, hg, ?_, r⟩
    rw [Below.heap_setCell _ _ _ _ (by intro k; exact hn (by simp only [Value.ownBlock]; exact congrArg some k.symm))]
    exact hh
theorem RecM.kept {w0 wr w' : World} {b B : Nat} {hs : List Hdr} {v x : Value} {xs : List Value} (h : RecM w0 wr b hs v) (hx : Own wr B 9 x xs) (hg : wr.grownBy w' x.ownBlock) (hb : Below w0.heap.size w0 w') : RecM w0 w' b hs v :=
  ⟨hb, h.row.grown hg (row_ne hx h.row (by decide)), World.ownsRow.kept h.own hg (rows_nev hx h.own (by decide)), h.lo, Nat.lt_of_lt_of_le h.hi hg.size⟩
theorem RecM.rowH {w0 wr w' : World} {b : Nat} {hs : List Hdr} {v : Value} (h : RecM w0 wr b hs v) (hg : wr.grownBy w' v.ownBlock) : RowIs w' b 45 [.string ⟨#[]⟩, .string ⟨#[]⟩, .int .i64 0, .string ⟨#[]⟩, v, .string ⟨#[]⟩] :=
  h.row.grown hg (row_ne h.own h.row (by decide))
theorem RecM.app {w0 wr w' : World} {b : Nat} {hs hs' : List Hdr} {v v' : Value} (h : RecM w0 wr b hs v) (hg : wr.grownBy w' v.ownBlock) (hb : Below w0.heap.size w0 w') (ho : OwnH w' w0.heap.size v' hs') : RecM w0 (w'.setCell ⟨b, 4, none⟩ v') b hs' v' := by
  have hr := h.row.grown hg (row_ne h.own h.row (by decide))
  refine ⟨hb.setCell (p := ⟨b, 4, none⟩) h.lo v', ?_, own_set ho hr (by decide) 4 v', h.lo, ?_⟩
  · have := hr.set 4 v'
    simp only [List.set_cons_succ, List.set_cons_zero] at this
    exact this
  · have h5 := Nat.lt_of_lt_of_le h.hi hg.size
    simpa [World.setCell] using h5
theorem RecM.texts {w0 wr w' : World} {b B : Nat} {hs hs' : List Hdr} {v v' x : Value} {xs : List Value} (h : RecM w0 wr b hs v) (hx : Own wr B 9 x xs) (hg : wr.grownBy w' v.ownBlock) (ho : OwnH w' w0.heap.size v' hs') : Own (w'.setCell ⟨b, 4, none⟩ v') B 9 x xs :=
  own_set (World.ownsRow.kept hx hg (rows_nev h.own hx (by decide))) (h.row.grown hg (row_ne h.own h.row (by decide))) (by decide) 4 v'
/-- append of one text, and what else is there. -/
theorem wp_appS {P : Program} (w : World) {ops : Array Oper} {rest : List Oper} {o : Oper} {a : Act} {Q : Exit → Act → World → Prop} (hgd : o.guard = none)
    (s x : Operand) (t : TypeId) (ho : o.op = Op.call { callee := Callee.builtin Builtin.append, args := #[s, x], argTypes := #[t, t] }) (B : Nat) (e : TypeId) (i : TypeInfo)
    (z : Value) (ht : P.underlying t = some (TypeDesc.slice e)) (hi : P.info? e = some i) (hz : i.zero = some z) (hsize : i.size = 1) (hby : i.bytes = 16) (hzs : z.cells.size = 1)
    (v : Value) (xs : List (List UInt8)) (hs : a.eval s = v) (hown : Own w B e v (strs xs)) (ad : Addr) (c : Nat) (tx : List UInt8) (hx : a.eval x = Value.slice (some ad) 1 c)
    (hnews : ∀ (j : Nat) (u : Value), ([.string ⟨tx.toArray⟩] : List Value)[j]? = some u → w.cell? (ad.add j) = some u)
    (hlen : xs.length ≤ 1000) (w0 : World) (hb : Below B w0 w) (hB : B ≤ w.heap.size)
    (h : ∀ (v' : Value) (w' : World), Own w' B e v' (strs (xs ++ [tx])) → w.grownBy w' v.ownBlock → Below B w0 w' → B ≤ w'.heap.size → wpList P ops Q rest (a.put o.dst v') w') : wpList P ops Q (o :: rest) a w := by
  refine wpList_append_own w hgd s x t ho B e i z 1 16 ht hi hz hsize hby hzs (by decide) v (strs xs).length (strs xs) hs hown ad 1 c [.string ⟨tx.toArray⟩] hx rfl hnews (by intro u hu; simp at hu; subst hu; rfl) (by rw [strs_length]; unfold maxLen; omega) (by rw [strs_length]; omega) hB ?_
  intro v' w' hown' hgr _
  refine h v' w' ?_ hgr (hb.grown hgr hB (fun k hk => (World.ownsRow.lt hown k hk).1)) (Nat.le_trans hB hgr.size)
  have e : strs (xs ++ [tx]) = strs xs ++ [.string ⟨tx.toArray⟩] := by simp [strs]
  unfold Own
  rw [e, List.length_append]
  exact hown'
/-- append of one header, as one step of a region that draws its order. -/
theorem step_appH {P : Program} {ops : Array Oper} {o : Oper} {a : Act} {w : World} {K : Act → World → Prop} {Q : Exit → Act → World → Prop} {E : Prop} (hgd : o.guard = none)
    (s x : Operand) (t : TypeId) (ho : o.op = Op.call { callee := Callee.builtin Builtin.append, args := #[s, x], argTypes := #[t, t] }) (B : Nat) (i : TypeInfo)
    (z : Value) (ht : P.underlying t = some (TypeDesc.slice 47)) (hi : P.info? 47 = some i) (hz : i.zero = some z) (hsize : i.size = 2) (hby : i.bytes = 32) (hzs : z.cells.size = 2)
    (v : Value) (hs : List Hdr) (hsv : a.eval s = v) (hown : OwnH w B v hs) (ad : Addr) (c : Nat) (p : Hdr) (hx : a.eval x = Value.slice (some ad) 1 c)
    (hnews : ∀ (j : Nat) (u : Value), (hdrCells p)[j]? = some u → w.cell? (ad.add j) = some u)
    (hlen : hs.length ≤ 2000000) (w0 : World) (hb : Below B w0 w) (hB : B ≤ w.heap.size)
    (h : ∀ (v' : Value) (w' : World), OwnH w' B v' (hs ++ [p]) → Below B w0 w' → w.grownBy w' v.ownBlock → B ≤ w'.heap.size → K (a.put o.dst v') w') :
    if Region.wanted o (yielded ops a.tmps) = true then Oper.wp P o a w K Q else E := by
  have hw : Region.wanted o (yielded ops a.tmps) = true := by simp [Region.wanted, hgd]
  rw [if_pos hw]
  obtain ⟨v', w', hrun, r1, hgr, _⟩ := run_append_own (P := P) w B t o.type 47 i z 2 32 ht hi hz hsize hby hzs (by decide) v hs.length (hdrsCells hs) hown ad 1 c (hdrCells p) rfl hnews (by intro u hu; simp [hdrCells] at hu; rcases hu with rfl | rfl <;> rfl) (by unfold maxLen; omega) (by omega) hB
  unfold Oper.wp
  simp [execOp, ho, resolve, invoke, builtin, hsv, hx, hrun, Result.andThen]
  refine h v' w' ?_ (hb.grown hgr hB (fun k hk => (World.ownsRow.lt hown k hk).1)) hgr (Nat.le_trans hB hgr.size)
  unfold OwnH
  have e : hdrsCells (hs ++ [p]) = hdrsCells hs ++ hdrCells p := by simp [hdrsCells]
  rw [e, List.length_append]
  exact r1

/-- A message of headers alone, whose hops are known. -/
theorem vlist_ok (hs : List Hdr) (hv : Value) (vs : List Hop) (w : World) (hS : hopsV (allV (oneM hs) viaK) = (vs, 0)) (hl : hs.length ≤ 100) (hsm : ∀ x ∈ hs, x.name.length ≤ 1048576 ∧ x.value.length ≤ 1048576) (hat : HdrsAt w hv hs) :
    Calls Tryd.prog 21 #[.agg #[.string ⟨#[]⟩, .string ⟨#[]⟩, .int .i64 0, .string ⟨#[]⟩, hv, .string ⟨#[]⟩]] w fun e w' => ∃ a cap cs', e = .returned (.tuple #[.slice a vs.length cap, .int .i64 0]) ∧ cs'.map HopC.h = vs ∧ HopsAt w' (.slice a vs.length cap) cs' ∧ Below w.heap.size w w' := by
  have hvl : ∀ l ∈ allV (oneM hs) viaK, l.length ≤ 1048576 := by
    intro l hl
    unfold allV oneM at hl
    simp only [List.mem_map, List.mem_filter] at hl
    obtain ⟨x, ⟨hx, _⟩, rfl⟩ := hl
    exact (hsm x hx).2
  have hsM : SmallM 140737488355328 (oneM hs) := ⟨by simp [oneM], by simp [oneM], by simp [oneM], by simp [oneM], by simp only [oneM]; omega, fun x hx => by have := hsm x hx; omega⟩
  have k := vlist_any (oneM hs) hv w hsM (by simp only [oneM]; omega) hat hvl
  rw [hS] at k
  refine k.mono ?_
  rintro e w' ⟨⟨v, cs', rfl, hm, ho⟩, hb⟩
  have hle : vs.length = cs'.length := by
    have := congrArg List.length hm
    simpa using this.symm
  obtain ⟨a, cap, rfl⟩ := ho.form
  rw [hle]
  exact ⟨a, cap, cs', rfl, hm, ho.hopsAt, hb⟩
theorem rec_two (w : World) : RecM w ((w.alloc (.cells #[.string ⟨#[84, 111]⟩, .string ⟨#[120]⟩] 47)).alloc (.cells #[.string ⟨#[]⟩, .string ⟨#[]⟩, .int .i64 0, .string ⟨#[]⟩, .slice (some ⟨w.heap.size, 0, none⟩) 1 1, .string ⟨#[]⟩] 45)) (w.heap.size + 1) [toH] (.slice (some ⟨w.heap.size, 0, none⟩) 1 1) := by
  have h1 := (Below.refl _ w).alloc (Nat.le_refl _) (.cells #[.string ⟨#[84, 111]⟩, .string ⟨#[120]⟩] 47)
  have hs1 : (w.alloc (.cells #[.string ⟨#[84, 111]⟩, .string ⟨#[120]⟩] 47)).heap.size = w.heap.size + 1 := by simp
  refine ⟨h1.alloc h1.size _, ?_, ?_, Nat.le_succ _, ?_⟩
  · unfold RowIs
    rw [← hs1, heap_alloc_new]
  · have hr : RowIs (w.alloc (.cells #[.string ⟨#[84, 111]⟩, .string ⟨#[120]⟩] 47)) w.heap.size 47 [.string ⟨#[84, 111]⟩, .string ⟨#[120]⟩] := by unfold RowIs; rw [heap_alloc_new]
    have ho : OwnH (w.alloc (.cells #[.string ⟨#[84, 111]⟩, .string ⟨#[120]⟩] 47)) w.heap.size (.slice (some ⟨w.heap.size, 0, none⟩) 1 1) [toH] :=
      ⟨rfl, Or.inr ⟨w.heap.size, 1, _, rfl, Nat.le_refl _, hr, Nat.le_refl _, by decide, rfl, rfl⟩⟩
    exact ho.alloc _
  · simp
theorem small_one {ts : List (List UInt8)} (hl : ts.length ≤ 16) (h : ∀ t ∈ ts, t.length ≤ 4000) : (ts.map fun t => (⟨viaK, t⟩ : Hdr)).length ≤ 100 ∧ ∀ x ∈ ts.map fun t => (⟨viaK, t⟩ : Hdr), x.name.length ≤ 1048576 ∧ x.value.length ≤ 1048576 := by
  refine ⟨by simp; omega, fun x hx => ?_⟩
  simp at hx
  obtain ⟨t, ht, rfl⟩ := hx
  have := h t ht
  exact ⟨by simp [viaK], by simp only; omega⟩
theorem join_small {ts : List (List UInt8)} (t : List UInt8) (ht : t.length ≤ 3) (hl : ts.length ≤ 16) (h : ∀ t ∈ ts, t.length ≤ 4000) : (joinT t ts).length ≤ 1048576 := by
  have h1 := join_len t 4000 ts h
  have h2 : ts.length * (4000 + t.length) ≤ 16 * 4003 := Nat.mul_le_mul hl (by omega)
  omega
theorem small_two {ts : List (List UInt8)} (hl : ts.length ≤ 16) (h : ∀ t ∈ ts, t.length ≤ 4000) (c : Nat) : (twoH ts c).length ≤ 100 ∧ ∀ x ∈ twoH ts c, x.name.length ≤ 1048576 ∧ x.value.length ≤ 1048576 := by
  have j1 := join_small (ts := ts.take c) [44] (by simp) (by rw [List.length_take]; omega) (fun t ht => h t (List.mem_of_mem_take ht))
  have j2 := join_small (ts := ts.drop c) [32, 44, 32] (by simp) (by rw [List.length_drop]; omega) (fun t ht => h t (List.mem_of_mem_drop ht))
  unfold twoH
  refine ⟨by by_cases h0 : 0 < c <;> by_cases h1 : c < ts.length <;> simp [h0, h1], fun x hx => ?_⟩
  rcases List.mem_cons.1 hx with rfl | hx
  · exact ⟨by simp [toH], by simp [toH]⟩
  · rcases List.mem_append.1 hx with hx | hx
    · by_cases h0 : 0 < c
      · rw [if_pos h0] at hx; simp at hx; subst hx; exact ⟨by simp [viaU], j1⟩
      · rw [if_neg h0] at hx; simp at hx
    · by_cases h0 : c < ts.length
      · rw [if_pos h0] at hx; simp at hx; subst hx; exact ⟨by simp [viaS], j2⟩
      · rw [if_neg h0] at hx; simp at hx
theorem glue_take {w : World} {g n cap : Nat} {ts : List (List UInt8)} (hc : ∀ j (hj : j < ts.length), w.cell? ⟨g, j, none⟩ = some (.string ⟨(ts[j]).toArray⟩)) (hl : ts.length ≤ 16) (h : ∀ t ∈ ts, t.length ≤ 4000) (c : Nat) (h0 : 0 < c) (h1 : c ≤ ts.length) :
    Calls Tryd.prog 24 #[.slice (some ⟨g, 0, none⟩) c cap, .string ⟨#[44]⟩] w fun e w' => e = .returned (.string ⟨(joinT [44] (ts.take c)).toArray⟩) ∧ Below w.heap.size w w' := by
  have hlt : (ts.take c).length = c := by rw [List.length_take]; omega
  have j1 := join_small (ts := ts.take c) [44] (by simp) (by omega) (fun t ht => h t (List.mem_of_mem_take ht))
  have k := gluePiece (w := w) (g := g) hc 0 (ts.take c) (fun j hj => ⟨by omega, by simp⟩) (by intro e; rw [e] at h1; simp at h1; omega) cap [44] (by omega) (by omega)
  rw [hlt] at k
  exact k
theorem glue_drop {w : World} {g n cap : Nat} {ts : List (List UInt8)} (hc : ∀ j (hj : j < ts.length), w.cell? ⟨g, j, none⟩ = some (.string ⟨(ts[j]).toArray⟩)) (hl : ts.length ≤ 16) (h : ∀ t ∈ ts, t.length ≤ 4000) (c : Nat) (h1 : c < ts.length) :
    Calls Tryd.prog 24 #[.slice (some ⟨g, c, none⟩) (ts.length - c) cap, .string ⟨#[32, 44, 32]⟩] w fun e w' => e = .returned (.string ⟨(joinT [32, 44, 32] (ts.drop c)).toArray⟩) ∧ Below w.heap.size w w' := by
  have hlt : (ts.drop c).length = ts.length - c := List.length_drop
  have j1 := join_small (ts := ts.drop c) [32, 44, 32] (by simp) (by omega) (fun t ht => h t (List.mem_of_mem_drop ht))
  have k := gluePiece (w := w) (g := g) hc c (ts.drop c) (fun j hj => ⟨by omega, by simp⟩) (by intro e; rw [e] at h1; simp at h1) cap [32, 44, 32] (by omega) (by omega)
  rw [hlt] at k
  exact k

end Go.Proofs.YtpcgomfiihhpcaaDoor
