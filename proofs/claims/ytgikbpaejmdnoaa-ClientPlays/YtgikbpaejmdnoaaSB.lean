/-
  Base texts, one behind another: SqC6, SqC7, SqC8, SqC9.
-/
import Derived.Test.YtgikbpaejmdnoaaSA

/-
  The table's turn.
-/
namespace Go.Proofs.Ytgikbpaejmdnoaa
open Go.RowKit Go.Maps Go.WideMaps
set_option linter.unusedVariables false
set_option maxRecDepth 20000
set_option linter.unusedSimpArgs false

def duV (d : Du) : Value := .agg #[.int .i64 d.id, .bool d.over, .string ⟨d.to.toArray⟩, .string ⟨d.tx.toArray⟩]
def zeroD : Du := ⟨0, false, [], []⟩
def turnV : List Du → Value
  | [d] => .tuple #[duV d, .bool true]
  | _ => .tuple #[duV zeroD, .bool false]
section
variable {B U bt mn ma be mw : Nat} {w w' : World} {most last : Int} {l la : List Cq} {r : List Tm} {t : Tq}
theorem in_ends (hE : EndsQ l r) {k : Nat} (hk : k < l.length) : ∃ x ∈ r, x.2 = l[k].id := ⟨endQ l[k], hE.mem_iff.2 (List.mem_map.2 ⟨_, List.getElem_mem hk, rfl⟩), rfl⟩
/-- What end leaves, from outside. -/
theorem qend_tab (hok : TqOK t) (hsm : ∀ c ∈ t.l, SmallX c) (hU : U ≤ w.heap.size) (hS : Sq B U bt mn ma be mw w t.most t.last t.l r) (hE : EndsQ t.l r) {k : Nat} (hk : k < t.l.length) (hno : (oneQ t k t.l[k]).1 = ⟨t.most, t.last, t.l.take k ++ t.l.drop (k + 1)⟩) :
    Calls Try.prog 35 #[.pointer (some ⟨bt, 0, none⟩), .int .i64 t.l[k].id] w fun e w' => e = .returned (.tuple #[]) ∧ (TabQ B U bt w' (oneQ t k t.l[k]).1 ∧ FrQ B U w w') := by
  refine (qend_any hS hsm hok.rise hok.keys hk (in_ends hE hk)).mono ?_
  rintro e w' ⟨rfl, g1, g2⟩
  have hT := (one_next hok hk).1
  rw [hno] at hT ⊢
  have e1 := ends_stop hE t.l[k].id
  rw [(without hok.rise hk).2] at g1 e1
  refine ⟨rfl, ⟨hT, fun c hc => hsm c ?_, Nat.le_trans hU g2.below.size, mn, ma, be, mw, _, g1, e1⟩, g2⟩
  rcases List.mem_append.1 hc with hc | hc
  · exact List.mem_of_mem_take hc
  · exact List.mem_of_mem_drop hc
theorem moreX {c : Cq} (h : c.rest < 0) : txOf { c with times := c.times + 1 } = sentX (txOf c) ∧ (txOf c) = ⟨c.br, c.begun, c.times, false, c.to, c.tx⟩ ∧ atQ { c with times := c.times + 1 } = c.begun + nextAt (c.times + 1) := by
  refine ⟨?_, ?_, ?_⟩
  · unfold txOf sentX
    simp only
    rw [if_pos h, if_pos h]
  · unfold txOf; rw [if_pos h]
  · unfold atQ nextAt
    simp only
    rw [if_neg (by omega)]
    split <;> rfl
/-- A request is sent again. -/
theorem qwait_tab (hok : TqOK t) (hsm : ∀ c ∈ t.l, SmallX c) (hU : U ≤ w.heap.size) (hS : Sq B U bt mn ma be mw w t.most t.last t.l r) (hE : EndsQ t.l r) {k : Nat} (hk : k < t.l.length) (hr : t.l[k].rest < 0) (ht : t.l[k].times ≤ 10) :
    Calls Try.prog 32 #[.pointer (some ⟨bt, 0, none⟩), .int .i64 t.l[k].id, txV (txOf t.l[k])] w fun e w' => e = .returned (.tuple #[]) ∧ (TabQ B U bt w' (oneQ t k t.l[k]).1 ∧ FrQ B U w w') := by
  have hg := hok.good _ (List.getElem_mem hk)
  have hs := hsm _ (List.getElem_mem hk)
  have hT := (one_next hok hk).1
  rw [oneq_again hr ((again_iff hg hr).2 ht), ← set_mid hk] at hT ⊢
  obtain ⟨x1, x2, x3⟩ := moreX hr
  have hg' : GoodQ { t.l[k] with times := t.l[k].times + 1 } := ⟨hg.b0, hg.b1, by have := hg.t0; simp only; omega, by simp only; omega, hg.r0, hg.r1⟩
  have hs' : SmallX { t.l[k] with times := t.l[k].times + 1 } := ⟨hs.br, hs.to, hs.tx, hs.id⟩
  have hbad : ¬ badS t.l[k].id (atQ { t.l[k] with times := t.l[k].times + 1 }) := by
    have := hg'.at
    have := hok.pos _ (List.getElem_mem hk)
    unfold badS; omega
  have hn : t.l.length ≤ 1000000 := by have := hok.len; have := hok.most.2; omega
  refine qwait_of (x := txOf t.l[k]) _ (by rw [x2]; exact hg.b0) (by rw [x2]; have := hg.b1; simp only; omega) (by rw [x2]; have := hg.t0; simp only; omega) (by rw [x2]; simp only; omega) fun u hu => ?_
  have e2 : (txOf t.l[k]).first + nextAt ((txOf t.l[k]).sent + 1) = atQ { t.l[k] with times := t.l[k].times + 1 } := by rw [x3, x2]
  rw [e2, ← x1]
  refine (qkeep_put (c := { t.l[k] with times := t.l[k].times + 1 }) (hS.below hu) hk hs' rfl hok.rise hn (in_ends hE hk) hbad).mono ?_
  rintro e w' ⟨rfl, g1, g2⟩
  refine ⟨rfl, ⟨hT, fun c hc => ?_, Nat.le_trans hU (Nat.le_trans hu.size g2.below.size), mn, ma, be, mw, _, g1.same ?_, ends_put hE hok.rise hk rfl⟩, (FrQ.of hu hS.lo).trans g2⟩
  · rcases List.mem_or_eq_of_mem_set hc with hc | rfl
    · exact hsm c hc
    · exact hs'
  · rw [List.map_set]
    apply List.ext_getElem (by simp)
    intro i a1 a2
    by_cases e : k = i
    · subst e; simp [kNq, dNq]
    · rw [List.getElem_set_ne e]
set_option maxHeartbeats 4000000 in
set_option maxRecDepth 100000 in
theorem qturn_any (h : TabQ B U bt w t) {k : Nat} (hk : k < t.l.length) :
    Calls Try.prog 28 #[.pointer (some ⟨bt, 0, none⟩), .int .i64 t.l[k].id] w fun e w' => e = .returned (turnV (oneQ t k t.l[k]).2) ∧ TabQ B U bt w' (oneQ t k t.l[k]).1 ∧ FrQ B U w w' := by
  obtain ⟨hok, hsm, hU, mn, ma, be, mw, r, hS, hE⟩ := h
  have hg := hok.good _ (List.getElem_mem hk)
  have hs := hsm _ (List.getElem_mem hk)
  have hr0 := rc_row4 w (.int .i64 0) (.bool false) (.string ⟨#[]⟩) (.string ⟨#[]⟩) 46
  have hb0 : Below w.heap.size w (w.alloc (.cells #[.int .i64 0, .bool false, .string ⟨#[]⟩, .string ⟨#[]⟩] 46)) := (Below.refl _ w).alloc (Nat.le_refl _) _
  have hl0 := alloc_lt w (.cells #[.int .i64 0, .bool false, .string ⟨#[]⟩, .string ⟨#[]⟩] 46)
  generalize hw0 : w.alloc (.cells #[.int .i64 0, .bool false, .string ⟨#[]⟩, .string ⟨#[]⟩] 46) = w0 at hb0 hr0 hl0
  have hS0 := hS.below hb0
  have hlk := (hS0.lookA (List.getElem_mem hk) hs).2
  have cm := hS0.c3
  have hlB := hS.lo
  obtain ⟨x, hx⟩ : ∃ x, x = txOf t.l[k] := ⟨_, rfl⟩
  obtain ⟨d, hd⟩ : ∃ d : Int, d = t.l[k].id := ⟨_, rfl⟩
  have FACT : Hid (∀ u, Below w.heap.size w u → (t.l[k].rest < 0 → t.l[k].times ≤ 10 → Calls Try.prog 32 #[.pointer (some ⟨bt, 0, none⟩), .int .i64 d, txV x] u fun e w' => e = .returned (.tuple #[]) ∧ (TabQ B U bt w' (oneQ t k t.l[k]).1 ∧ FrQ B U u w')) ∧ (¬ (t.l[k].rest < 0 ∧ t.l[k].times ≤ 10) → Calls Try.prog 35 #[.pointer (some ⟨bt, 0, none⟩), .int .i64 d] u fun e w' => e = .returned (.tuple #[]) ∧ (TabQ B U bt w' (oneQ t k t.l[k]).1 ∧ FrQ B U u w'))) := fun u hu => by
    rw [hd, hx]
    refine ⟨fun h1 h2 => qwait_tab hok hsm (Nat.le_trans hU hu.size) (hS.below hu) hE hk h1 h2, fun hn => qend_tab hok hsm (Nat.le_trans hU hu.size) (hS.below hu) hE hk ?_⟩
    by_cases hr : t.l[k].rest < 0
    · rw [oneq_over hr (fun x => hn ⟨hr, (again_iff hg hr).1 x⟩)]
    · rw [oneq_rest hr]
  rw [← hx, ← hd] at hlk
  have hxr := txOf_rests t.l[k]
  rw [← hx] at hxr
  have hxw : t.l[k].rest < 0 → x = ⟨t.l[k].br, t.l[k].begun, t.l[k].times, false, t.l[k].to, t.l[k].tx⟩ := fun hr => by rw [hx]; exact (moreX hr).2.1
  rw [← hd]
  obtain ⟨xb, xf, xs, xr, xt, xx⟩ := x
  have hr1 := rc_row6 w0 (.string ⟨xb.toArray⟩) (.int .i64 xf) (.int .i64 xs) (.bool xr) (.string ⟨xt.toArray⟩) (.string ⟨xx.toArray⟩) 75
  have hb1 : Below w0.heap.size w0 (w0.alloc (.cells #[.string ⟨xb.toArray⟩, .int .i64 xf, .int .i64 xs, .bool xr, .string ⟨xt.toArray⟩, .string ⟨xx.toArray⟩] 75)) := (Below.refl _ w0).alloc (Nat.le_refl _) _
  generalize hw1 : w0.alloc (.cells #[.string ⟨xb.toArray⟩, .int .i64 xf, .int .i64 xs, .bool xr, .string ⟨xt.toArray⟩, .string ⟨xx.toArray⟩] 75) = w1 at hb1 hr1
  have hr01 := hr0.below hb1 hl0
  have hB1 := hb0.trans (hb1.mono hb0.size)
  have FA := hid (FACT.out _ hB1)
  have F1 := FrQ.of (U := U) hB1 hlB
  obtain ⟨y0, y1, y2, y3, y4, y5, _, _, _, _, _, _⟩ := hr1.rc6
  have HR := hid hr1
  have HO := hid hr01
  have HF := hid F1
  unfold txV at hlk FA
  simp only at hlk FA hxr hxw
  -- behind the call: the answer's row
  have AFT : Hid (∀ u, FrQ B U w1 u → ∀ v0 v1 v2 v3 : Value, RowC4 u w.heap.size (.int .i64 0) (.bool false) (.string ⟨#[]⟩) (.string ⟨#[]⟩) ∧ RowIs ((((u.setCell ⟨w.heap.size, 0, none⟩ v0).setCell ⟨w.heap.size, 1, none⟩ v1).setCell ⟨w.heap.size, 2, none⟩ v2).setCell ⟨w.heap.size, 3, none⟩ v3) w.heap.size 46 [v0, v1, v2, v3] ∧ ∀ tt, TabQ B U bt u tt → TabQ B U bt ((((u.setCell ⟨w.heap.size, 0, none⟩ v0).setCell ⟨w.heap.size, 1, none⟩ v1).setCell ⟨w.heap.size, 2, none⟩ v2).setCell ⟨w.heap.size, 3, none⟩ v3) tt ∧ FrQ B U w ((((u.setCell ⟨w.heap.size, 0, none⟩ v0).setCell ⟨w.heap.size, 1, none⟩ v1).setCell ⟨w.heap.size, 2, none⟩ v2).setCell ⟨w.heap.size, 3, none⟩ v3)) := fun u hu v0 v1 v2 v3 => by
    have hru := hu.row HO.out (by decide) (by decide) (by decide) (by decide)
    have hc : Chg (fun k => k = w.heap.size) u ((((u.setCell ⟨w.heap.size, 0, none⟩ v0).setCell ⟨w.heap.size, 1, none⟩ v1).setCell ⟨w.heap.size, 2, none⟩ v2).setCell ⟨w.heap.size, 3, none⟩ v3) := ((((Chg.refl (fun k => k = w.heap.size) u).setCell (p := ⟨w.heap.size, 0, none⟩) (fun _ => rfl) v0).setCell (p := ⟨w.heap.size, 1, none⟩) (fun _ => rfl) v1).setCell (p := ⟨w.heap.size, 2, none⟩) (fun _ => rfl) v2).setCell (p := ⟨w.heap.size, 3, none⟩) (fun _ => rfl) v3
    refine ⟨hru.rc4, rc_store4 hru v0 v1 v2 v3, fun tt ht => ⟨ht.put hru (by decide) (by decide) (by decide) (by decide) hc, ?_⟩⟩
    have hwu := HF.out.trans hu
    refine ⟨rc_below4 hwu.below w.heap.size hlB v0 v1 v2 v3, fun i cs e x hh n1 n2 n3 n4 => ?_, fun i h1 h2 => ?_⟩
    · have hi := (Array.getElem?_eq_some_iff.1 hh).1
      rw [hc.block i (Nat.lt_of_lt_of_le hi hwu.below.size) (by omega)]
      exact hwu.keep i cs e x hh n1 n2 n3 n4
    · rw [hc.block i (Nat.lt_of_lt_of_le h2 hwu.below.size) (by omega)]
      exact hwu.up i h1 h2
  by_cases hr : t.l[k].rest < 0
  · have hxw := hxw hr
    injection hxw with g1 g2 g3 g4 g5 g6
    by_cases ht : t.l[k].times ≤ 10
    · have KW := hid (FA.out.1 hr ht)
      have KC := hid (at_any (xs + 1) w1 (by rw [g3]; omega))
      rw [show (atV (xs + 1)).2 = true by rw [g3]; exact (atQ_wait hr hg.t0 ht).2] at KC
      have KA := hid (fun (u : World) => qapart_any u (to := xt) (tx := xx) (by rw [g5]; exact hs.to) (by rw [g6]; exact hs.tx))
      have hv : (oneQ t k t.l[k]).2 = [⟨d, false, xt, xx⟩] := by rw [oneq_again hr ((again_iff hg hr).2 ht), hd, g5, g6]
      have hxs : xs + 1 ≤ 1000 := by rw [g3]; omega
      have hxs0 : 0 ≤ xs := by rw [g3]; have := hg.t0; omega
      rw [hv]
      have hxr' : xr = false := g4
      subst hxr'
      have KX : Hid (∀ u, FrQ B U w1 u → RowC6 u w0.heap.size (.string ⟨xb.toArray⟩) (.int .i64 xf) (.int .i64 xs) (.bool false) (.string ⟨xt.toArray⟩) (.string ⟨xx.toArray⟩)) := fun u hu => (hu.row HR.out (by decide) (by decide) (by decide) (by decide)).rc6
      generalize (oneQ t k t.l[k]).1 = T at KW AFT ⊢
      unfold stV at KA
      clear hS hS0 hE hr0 hb0 hr1 hb1 hr01 hB1 F1 FA FACT g1 g2 g3 g5 g6 hv hg hs hok hsm hxr hxw hd hx
      go_enter Try.func28, Try.ntmps28
      go_wp2_with (first
        | (go_at_call 36; refine KC.out.mono ?_; rintro e w9 ⟨rfl, hw9⟩; rw [hw9]; clear hw9)
        | (go_at_call 32; refine KW.out.mono ?_; rintro e w3 ⟨rfl, hT3, hF3⟩; obtain ⟨q0, q1, q2, q3, q4, q5, _, _, _, _, _, _⟩ := KX.out _ hF3; replace hT3 := hid hT3; replace hF3 := hid hF3)
        | (go_at_call 26; refine (KA.out _).mono ?_; rintro e w4 ⟨rfl, hb4⟩; have hT4 := hid (hT3.out.below hb4); have hF4 := hid (hF3.out.trans (FrQ.of hb4 hT3.out.lo)); obtain ⟨⟨p0, p1, p2, p3, o0, o1, o2, o3⟩, hR5, hX5⟩ := AFT.out _ hF4.out (.int .i64 d) (.bool false) (.string ⟨xt.toArray⟩) (.string ⟨xx.toArray⟩); have KEEP := hid (And.intro hR5 (hX5 _ hT4.out)); clear hR5 hX5 hb4))
      generalize World.setCell _ _ _ = wC at KEEP ⊢
      obtain ⟨hrC, hbC⟩ := KEEP.out
      obtain ⟨d0, d1, d2, d3, _, _, _, _⟩ := hrC.rc4
      try simp only [Exit.inBlock, Exit.then]
      refine bodyPost_ret (v := turnV [⟨d, false, xt, xx⟩]) (by simp [results, Try.results28, go_sem, d0, d1, d2, d3, turnV, duV]; try rfl) rfl ?_
      exact ⟨rfl, hbC⟩
    · have KW := hid (FA.out.2 (fun x => ht x.2))
      have KC := hid (at_any (xs + 1) w1 (by rw [g3]; have := hg.t1; omega))
      rw [show (atV (xs + 1)).2 = false by rw [g3]; exact (atQ_last hr (by omega)).2] at KC
      have hv : (oneQ t k t.l[k]).2 = [⟨d, true, [], []⟩] := by rw [oneq_over hr (fun x => ht ((again_iff hg hr).1 x)), hd]
      have hxs : xs + 1 ≤ 1000 := by rw [g3]; have := hg.t1; omega
      have hxs0 : 0 ≤ xs := by rw [g3]; have := hg.t0; omega
      rw [hv]
      have hxr' : xr = false := g4
      subst hxr'
      generalize (oneQ t k t.l[k]).1 = T at KW AFT ⊢
      clear hS hS0 hE hr0 hb0 hr1 hb1 hr01 hB1 F1 FA FACT g1 g2 g3 g5 g6 hv hg hs hok hsm hxr hxw hd hx
      go_enter Try.func28, Try.ntmps28
      go_wp2_with (first
        | (go_at_call 36; refine KC.out.mono ?_; rintro e w9 ⟨rfl, hw9⟩; rw [hw9]; clear hw9)
        | (go_at_call 35; refine KW.out.mono ?_; rintro e w3 ⟨rfl, hT3, hF3⟩; obtain ⟨⟨p0, p1, p2, p3, o0, o1, o2, o3⟩, hR5, hX5⟩ := AFT.out _ hF3 (.int .i64 d) (.bool true) (.string ⟨#[]⟩) (.string ⟨#[]⟩); have KEEP := hid (And.intro hR5 (hX5 _ hT3)); clear hR5 hX5 hT3 hF3))
      generalize World.setCell _ _ _ = wC at KEEP ⊢
      obtain ⟨hrC, hbC⟩ := KEEP.out
      obtain ⟨d0, d1, d2, d3, _, _, _, _⟩ := hrC.rc4
      try simp only [Exit.inBlock, Exit.then]
      refine bodyPost_ret (v := turnV [⟨d, true, [], []⟩]) (by simp [results, Try.results28, go_sem, d0, d1, d2, d3, turnV, duV]; try rfl) rfl ?_
      exact ⟨rfl, hbC⟩
  · have KW := hid (FA.out.2 (fun x => hr x.1))
    have hv : (oneQ t k t.l[k]).2 = [] := by rw [oneq_rest hr]
    rw [hv]
    have hxr' : xr = true := by rw [hxr]; simp [hr]
    subst hxr'
    generalize (oneQ t k t.l[k]).1 = T at KW AFT ⊢
    clear hS hS0 hE hr0 hb0 hr1 hb1 hr01 hB1 F1 FA FACT hv hg hs hok hsm hxr hxw hd hx
    go_enter Try.func28, Try.ntmps28
    go_wp2_with (first
      | (go_at_call 35; refine KW.out.mono ?_; rintro e w3 ⟨rfl, hT3, hF3⟩; obtain ⟨⟨p0, p1, p2, p3, o0, o1, o2, o3⟩, hR5, hX5⟩ := AFT.out _ hF3 (.int .i64 0) (.bool false) (.string ⟨#[]⟩) (.string ⟨#[]⟩); have KEEP := hid (And.intro hR5 (hX5 _ hT3)); clear hR5 hX5 hT3 hF3))
    generalize World.setCell _ _ _ = wC at KEEP ⊢
    obtain ⟨hrC, hbC⟩ := KEEP.out
    obtain ⟨d0, d1, d2, d3, _, _, _, _⟩ := hrC.rc4
    try simp only [Exit.inBlock, Exit.then]
    refine bodyPost_ret (v := turnV []) (by simp [results, Try.results28, go_sem, d0, d1, d2, d3, turnV, duV, zeroD]; try rfl) rfl ?_
    exact ⟨rfl, hbC⟩
end
end Go.Proofs.Ytgikbpaejmdnoaa

/-
  The table's Step.
-/
namespace Go.Proofs.Ytgikbpaejmdnoaa
open Go.RowKit Go.Maps Go.WideMaps
set_option linter.unusedVariables false
set_option maxRecDepth 20000
set_option linter.unusedSimpArgs false

theorem least_ex {P : Nat → Prop} (h : ∃ n, P n) : ∃ n, P n ∧ ∀ m, P m → n ≤ m := by
  obtain ⟨n, hn⟩ := h
  induction n using Nat.strongRecOn with
  | _ n ih =>
    by_cases hx : ∃ m, m < n ∧ P m
    · obtain ⟨m, hm, pm⟩ := hx; exact ih m hm pm
    · exact ⟨n, hn, fun m pm => Nat.le_of_not_lt fun h => hx ⟨m, h, pm⟩⟩
/-- The least number of a property (0, if there is none). -/
noncomputable def least (P : Nat → Prop) : Nat := @dite _ (∃ n, P n) (Classical.propDecidable _) (fun h => Classical.choose (least_ex h)) (fun _ => 0)
theorem least_is {P : Nat → Prop} {n : Nat} (h : P n) : P (least P) ∧ least P ≤ n := by
  have hx : ∃ n, P n := ⟨n, h⟩
  unfold least
  rw [dif_pos hx]
  obtain ⟨h1, h2⟩ := Classical.choose_spec (least_ex hx)
  exact ⟨h1, h2 n h⟩

/-- The slice v owns what is due, in a block from B on (the code's own records). -/
def OwnE (w : World) (B : Nat) (v : Value) (ds : List Du) : Prop := w.ownsRow B 46 4 v ds.length (dusCells ds)
theorem OwnE.nil (w : World) (B : Nat) : OwnE w B (.slice none 0 0) [] := World.ownsRow_nil _ _ _ _
theorem OwnE.below {w w' : World} {B : Nat} {v : Value} {cs : List Du} (h : OwnE w B v cs) (hb : Below w.heap.size w w') : OwnE w' B v cs := by
  obtain ⟨h1, h2⟩ := h
  refine ⟨h1, ?_⟩
  rcases h2 with h2 | ⟨g, cap, cur, hv, hg, hh, r⟩
  · exact Or.inl h2
  · exact Or.inr ⟨g, cap, cur, hv, hg, by rw [hb.block g (Array.getElem?_eq_some_iff.1 hh).1]; exact hh, r⟩
theorem OwnE.form {w : World} {B : Nat} {v : Value} {cs : List Du} (h : OwnE w B v cs) : ∃ a cap, v = .slice a cs.length cap := by
  rcases h.2 with ⟨rfl, hn⟩ | ⟨g, cap, cur, rfl, _⟩
  · exact ⟨none, 0, by rw [hn]⟩
  · exact ⟨_, cap, rfl⟩
theorem infoDc : (Try.prog.info? 46).map (fun i => (i.zero, i.size, i.bytes)) = some (some (.agg #[.int .i64 0, .bool false, .string .empty, .string .empty]), 4, 48) := by kernel_rfl
/-- append of some that are due. -/
theorem wp_appEs {P : Program} (w : World) {ops : Array Oper} {rest : List Oper} {o : Oper} {a : Act} {Q : Exit → Act → World → Prop} (hgd : o.guard = none)
    (s x : Operand) (t : TypeId) (ho : o.op = Op.call { callee := Callee.builtin Builtin.append, args := #[s, x], argTypes := #[t, t] }) (B : Nat) (i : TypeInfo)
    (z : Value) (ht : P.underlying t = some (TypeDesc.slice 46)) (hi : P.info? 46 = some i) (hz : i.zero = some z) (hsize : i.size = 4) (hby : i.bytes = 48) (hzs : z.cells.size = 4)
    (v : Value) (cs : List Du) (hs : a.eval s = v) (hown : OwnE w B v cs) (ad : Addr) (m c : Nat) (ns : List Du) (hx : a.eval x = Value.slice (some ad) m c) (hm : ns.length = m)
    (hnews : ∀ (j : Nat) (u : Value), (dusCells ns)[j]? = some u → w.cell? (ad.add j) = some u)
    (hlen : cs.length + m ≤ 4000000) (hB : B ≤ w.heap.size)
    (h : ∀ (v' : Value) (w' : World), OwnE w' B v' (cs ++ ns) → w.grownBy w' v.ownBlock → wpList P ops Q rest (a.put o.dst v') w') : wpList P ops Q (o :: rest) a w := by
  refine wpList_append_own w hgd s x t ho B 46 i z 4 48 ht hi hz hsize hby hzs (by decide) v cs.length (dusCells cs) hs hown ad m c (dusCells ns) hx (by rw [dusCells_len, hm]) hnews (dus_one ns) (by unfold maxLen; omega) (by omega) hB ?_
  intro v' w' hown' hgr _
  refine h v' w' ?_ hgr
  unfold OwnE
  rw [dusCells_app, List.length_append, hm]
  exact hown'
section
variable {B U bt : Nat} {w w' : World} {t : Tq}
theorem TabQ.grown (h : TabQ B U bt w t) {B' e s n : Nat} {v : Value} {xs : List Value} (ho : w.ownsRow B' e s v n xs) (n1 : e ≠ 94) (n2 : e ≠ 98) (n3 : e ≠ 99) (n4 : e ≠ 61) (hg : w.grownBy w' v.ownBlock) : TabQ B U bt w' t := by
  obtain ⟨h1, h2, hU, mn, ma, be, mw, r, h3, h4⟩ := h
  refine ⟨h1, h2, Nat.le_trans hU hg.size, mn, ma, be, mw, r, ?_, h4⟩
  refine h3.chg (S := fun k => v.ownBlock = some k) ⟨hg.os, hg.tape, hg.output, hg.size, fun k hk hn => hg.block k hk fun e => hn e.symm⟩ fun k _ _ _ hS => ?_
  rcases ho.2 with ⟨rfl, _⟩ | ⟨g, cap, cur, rfl, _, hh, _⟩
  · cases hS
  · simp [Value.ownBlock] at hS
    subst hS
    exact ⟨_, _, _, hh, n1, n2, n3, n4⟩
theorem FrQ.grown {u u' : World} (h : FrQ B U w u) {e s n : Nat} {v : Value} {xs : List Value} (ho : u.ownsRow w.heap.size e s v n xs) (hB : B ≤ w.heap.size) (hg : u.grownBy u' v.ownBlock) : FrQ B U w u' := by
  have hno : ∀ k, k < w.heap.size → some k ≠ v.ownBlock := fun k hk e => by
    rcases ho.2 with ⟨rfl, _⟩ | ⟨g, cap, cur, rfl, hl, _⟩
    · cases e
    · simp [Value.ownBlock] at e; omega
  refine ⟨⟨hg.os.trans h.below.os, hg.tape.trans h.below.tape, hg.output.trans h.below.output, Nat.le_trans h.below.size hg.size, fun k hk => ?_⟩, fun k cs e x hh n1 n2 n3 n4 => ?_, fun k h1 h2 => ?_⟩
  · rw [hg.block k (by have := h.below.size; omega) (hno k (by omega))]; exact h.below.block k hk
  · have hk := (Array.getElem?_eq_some_iff.1 hh).1
    rw [hg.block k (by have := h.below.size; omega) (hno k hk)]; exact h.keep k cs e x hh n1 n2 n3 n4
  · rw [hg.block k (by have := h.below.size; omega) (hno k h2)]; exact h.up k h1 h2
/-- Where Step stands, with n things at most left to be done. -/
def StC (B U bt : Nat) (w : World) (R : Tq × List Du) (now : Int) (n : Nat) (vo : Value) (wr : World) : Prop :=
  ∃ t out, TabQ B U bt wr t ∧ OwnE wr w.heap.size vo out ∧ FrQ B U w wr ∧ totQ t.l = n ∧ out.length + totQ t.l ≤ 2200 ∧ R = ((stepA t now).1, out ++ (stepA t now).2)
def StepC (B U bt : Nat) (w : World) (R : Tq × List Du) (e : Ending) (w' : World) : Prop := ∃ v, e = .returned v ∧ OwnE w' w.heap.size v R.2 ∧ TabQ B U bt w' R.1 ∧ FrQ B U w w'
theorem one_outs (t : Tq) (k : Nat) (c : Cq) : (oneQ t k c).2 = [] ∨ ∃ d, (oneQ t k c).2 = [d] := by
  unfold oneQ
  split
  · exact .inr ⟨_, rfl⟩
  · split
    · exact .inr ⟨_, rfl⟩
    · exact .inl rfl
set_option maxHeartbeats 4000000 in
set_option maxRecDepth 100000 in
theorem qstep_any (h : TabQ B U bt w t) {now : Int} :
    Calls Try.prog 15 #[.pointer (some ⟨bt, 0, none⟩), .int .i64 now] w fun e w' => StepC B U bt w (stepA t now) e w' := by
  obtain ⟨i1, hq, hp0, hp1, hp2⟩ := info_parts infoDc
  have hB := h.lo
  have KM : Hid (Calls Try.prog 23 #[.pointer (some ⟨bt, 0, none⟩)] w fun e w' => e = .returned (.bool true) ∧ w' = w) := by
    obtain ⟨_, _, _, mn, ma, be, mw, r, hS, _⟩ := h
    exact qmade_any hS
  have I0 : Hid (∃ n, StC B U bt w (stepA t now) now n (.slice none 0 0) w) := by
    refine ⟨_, t, [], h, OwnE.nil _ _, FrQ.refl _ _ _, rfl, ?_, by simp⟩
    have h1 := totQ_bd h.1.good
    have h2 := h.1.len
    have h3 := h.1.most.2
    simp only [List.length_nil]
    omega
  generalize stepA t now = R at *
  clear h
  go_enter Try.func15, Try.ntmps15
  go_wp2_with (go_at_call 23; refine KM.out.mono ?_; rintro e w9 ⟨rfl, hw9⟩; rw [hw9]; clear hw9)
  go_loopw [5] (fun vo wr => Hid (∃ n, StC B U bt w R now n vo wr)) (fun vo wr => least fun n => StC B U bt w R now n vo wr)
  case atStart => exact I0
  case round =>
    clear I0 KM
    obtain ⟨n0, hn0⟩ := hrel.out
    have hst := (least_is (P := fun n => StC B U bt w R now n _ _) hn0).1
    clear hn0 hrel
    generalize hN : (least fun n => StC B U bt w R now n _ _) = N at hst ⊢
    have HN := hid hN
    clear hN n0
    obtain ⟨t, out, hT, hO, hF, hn, hlen, hR⟩ := hst
    obtain ⟨oa, cap, hvo⟩ := hO.form
    obtain ⟨K, hK⟩ : ∃ K, K = out.length := ⟨_, rfl⟩
    rw [← hK] at hvo
    subst hvo
    have HK := hid hK
    have HLEN := hid hlen
    have HR := hid hR
    have HT := hid hT
    have HO := hid hO
    have HF := hid hF
    have HNN := hid hn
    obtain ⟨hok, hsm, hU, mn, ma, be, mw, r, hS, hE⟩ := hT
    have KX := hid (wqnext_any hS.wheel)
    have c4 := hS.c4
    rcases next_head hok hE hS.wheel.wm.row.1 with ⟨hr0, hl0⟩ | ⟨k, hk, r', hr0, hnx⟩
    · rw [hr0] at KX
      unfold nextV at KX
      simp only at KX
      rw [stepA_none hl0] at HR
      have FIN : Hid (∀ u, Below wr.heap.size wr u → StepC B U bt w R (.returned (.slice oa K cap)) u) := fun u hu => ⟨_, rfl, by rw [HR.out]; simpa using HO.out.below hu, by rw [HR.out]; exact HT.out.below hu, HF.out.trans (FrQ.of hu HT.out.lo)⟩
      clear hok hsm hS hE hK hlen hR hO hF hn HR HT HO HF HNN HLEN HN HK
      go_wp2_with (go_at_call 27; refine KX.out.mono ?_; rintro e w1 ⟨rfl, hb1⟩; have HB1 := hid (hb1.alloc hb1.size (.cells #[.int .i64 0, .int .i64 0] 84)); clear hb1)
      go_ret
      exact FIN.out _ HB1.out
    · rw [hr0] at KX
      obtain ⟨a, ha⟩ : ∃ a, a = atQ t.l[k] := ⟨_, rfl⟩
      obtain ⟨d, hd⟩ : ∃ d, d = t.l[k].id := ⟨_, rfl⟩
      unfold nextV endQ at KX
      simp only at KX
      rw [← ha, ← hd] at KX
      have Z := fun (w1 : World) => two_new w1 a d
      by_cases hlate : now < a
      · rw [stepA_late hk hnx (by rw [← ha]; exact hlate)] at HR
        have FIN : Hid (∀ u, Below wr.heap.size wr u → StepC B U bt w R (.returned (.slice oa K cap)) u) := fun u hu => ⟨_, rfl, by rw [HR.out]; simpa using HO.out.below hu, by rw [HR.out]; exact HT.out.below hu, HF.out.trans (FrQ.of hu HT.out.lo)⟩
        clear hok hsm hS hE hK hlen hR hO hF hn HR HT HO HF HNN HLEN HN HK ha hd
        go_wp2_with (go_at_call 27; refine KX.out.mono ?_; rintro e w1 ⟨rfl, hb1⟩; have HB1 := hid (hb1.alloc hb1.size (.cells #[.int .i64 a, .int .i64 d] 84)); clear hb1)
        go_ret
        exact FIN.out _ HB1.out
      · have hno := one_next hok hk
        rw [stepA_do hok hk hnx (by rw [← ha]; exact hlate)] at HR
        have KT := hid (fun (u : World) (hu : Below wr.heap.size wr u) => qturn_any (HT.out.below hu) hk)
        have HU := hid (fun (u u' : World) (hu : Below wr.heap.size wr u) (hf : FrQ B U u u') => (⟨(HF.out.trans (FrQ.of hu HT.out.lo)).trans hf, hf.own (HO.out.below hu) (by decide) (by decide) (by decide) (by decide)⟩ : FrQ B U w u' ∧ OwnE u' w.heap.size (.slice oa K cap) out))
        have HL : Hid ((oneQ t k t.l[k]).2.length ≤ 1) := by
          rcases one_outs t k t.l[k] with e | ⟨d, e⟩ <;> rw [e] <;> simp [Hid]
        rw [← hd] at KT
        have HNO := hid hno
        generalize oneQ t k t.l[k] = O at *
        obtain ⟨T, ds⟩ := O
        simp only at KT HR HL HNO
        clear hok hsm hS hE hK hlen hR hO hF hn ha hd hno
        cases ds with
        | nil =>
          have FIN : Hid (∀ u u', Below wr.heap.size wr u → FrQ B U u u' → TabQ B U bt u' T → ∀ u'', Below u'.heap.size u' u'' → StC B U bt w R now (totQ T.l) (.slice oa K cap) u'') := fun u u' hu hf hT u'' h2 => ⟨T, out, hT.below h2, (HU.out u u' hu hf).2.below h2, (HU.out u u' hu hf).1.trans (FrQ.of h2 hT.lo), rfl, by have := HNO.out.2.1; have := HLEN.out; omega, by rw [HR.out]; simp⟩
          unfold turnV duV zeroD at KT
          simp only at KT
          go_wp2_with (first
            | (go_at_call 27; refine KX.out.mono ?_; rintro e w1 ⟨rfl, hb1⟩; have HB1 := hid (hb1.alloc hb1.size (.cells #[.int .i64 a, .int .i64 d] 84)); clear hb1)
            | (go_at_call 28; refine (KT.out _ HB1.out).mono ?_; rintro e w3 ⟨rfl, hT3, hF3⟩; have HX := hid (FIN.out _ w3 HB1.out hF3 hT3 _ ((Below.refl _ w3).alloc (Nat.le_refl _) (.cells #[.int .i64 0, .bool false, .string ⟨#[]⟩, .string ⟨#[]⟩] 46))); clear hT3 hF3))
          go_roundw
          case rel => exact ⟨_, HX.out⟩
          case measure =>
            have h1 := (least_is (P := fun n => StC B U bt w R now n _ _) HX.out).2
            have h2 := HNO.out.2.1
            have h3 := HNN.out
            rw [HN.out]
            omega
        | cons x ds =>
          have hds : ds = [] := by have := HL.out; simp only [List.length_cons] at this; exact List.eq_nil_of_length_eq_zero (by omega)
          subst hds
          obtain ⟨x1, x2, x3, x4⟩ := x
          have FIN : Hid (∀ u u' vo' u2 o, Below wr.heap.size wr u → FrQ B U u u' → TabQ B U bt u' T → Below u'.heap.size u' u2 → OwnE o w.heap.size vo' (out ++ [⟨x1, x2, x3, x4⟩]) → u2.grownBy o (Value.slice oa K cap).ownBlock → StC B U bt w R now (totQ T.l) vo' o) := fun u u' vo' u2 o hu hf hT h2 ho hg => by
            obtain ⟨g1, g2⟩ := HU.out u u' hu hf
            have g2' := g2.below h2
            refine ⟨T, _, (hT.below h2).grown g2' (by decide) (by decide) (by decide) (by decide) hg, ho, (g1.trans (FrQ.of h2 hT.lo)).grown g2' hB hg, rfl, ?_, by rw [HR.out]; simp⟩
            have := HNO.out.2.1
            have := HLEN.out
            simp only [List.length_append, List.length_cons, List.length_nil]; omega
          have HU2 : Hid (∀ u u' u2, Below wr.heap.size wr u → FrQ B U u u' → Below u'.heap.size u' u2 → OwnE u2 w.heap.size (.slice oa K cap) out ∧ w.heap.size ≤ u2.heap.size) := fun u u' u2 hu hf h2 => ⟨(HU.out u u' hu hf).2.below h2, Nat.le_trans (HU.out u u' hu hf).1.below.size h2.size⟩
          have hKl : out.length + 1 ≤ 4000000 := by have := HLEN.out; omega
          unfold turnV duV at KT
          simp only at KT
          go_wp2_with (first
            | (go_at_call 27; refine KX.out.mono ?_; rintro e w1 ⟨rfl, hb1⟩; have HB1 := hid (hb1.alloc hb1.size (.cells #[.int .i64 a, .int .i64 d] 84)); clear hb1)
            | (go_at_call 28; refine (KT.out _ HB1.out).mono ?_; rintro e w3 ⟨rfl, hT3, hF3⟩; have hr4 := rc_row4 w3 (.int .i64 x1) (.bool x2) (.string ⟨x3.toArray⟩) (.string ⟨x4.toArray⟩) 46; have hb4 := (Below.refl _ w3).alloc (Nat.le_refl _) (.cells #[.int .i64 x1, .bool x2, .string ⟨x3.toArray⟩, .string ⟨x4.toArray⟩] 46); generalize hw4 : w3.alloc (.cells #[.int .i64 x1, .bool x2, .string ⟨x3.toArray⟩, .string ⟨x4.toArray⟩] 46) = w4 at hr4 hb4; obtain ⟨p0, p1, p2, p3, _, _, _, _⟩ := hr4.rc4; replace hT3 := hid hT3; replace hF3 := hid hF3; have HB5 := hid (hb4.alloc hb4.size (.cells #[.int .i64 x1, .bool x2, .string ⟨x3.toArray⟩, .string ⟨x4.toArray⟩] 46)); clear hr4 hb4)
            | (at_builtin; refine wp_appEs _ rfl (.tmp 38) (.tmp 40) 43 rfl w.heap.size i1 _ Try.underlying43 hq hp0 hp1 hp2 rfl _ out rfl (HU2.out _ _ _ HB1.out hF3.out HB5.out).1 ⟨_, 0, none⟩ 1 1 [⟨x1, x2, x3, x4⟩] rfl rfl (du_new _ _ _) hKl (HU2.out _ _ _ HB1.out hF3.out HB5.out).2 ?_; intro v6 w6 hown6 hgr6; have HX := hid (FIN.out _ _ _ _ _ HB1.out hF3.out hT3.out HB5.out hown6 hgr6); clear hown6 hgr6))
          go_roundw
          case rel => exact ⟨_, HX.out⟩
          case measure =>
            have h1 := (least_is (P := fun n => StC B U bt w R now n _ _) HX.out).2
            have h2 := HNO.out.2.1
            have h3 := HNN.out
            rw [HN.out]
            omega
end
end Go.Proofs.Ytgikbpaejmdnoaa

/-
  The table's Response, and its calls from outside.
-/
namespace Go.Proofs.Ytgikbpaejmdnoaa
open Go.RowKit Go.Maps Go.WideMaps
set_option linter.unusedVariables false
set_option maxRecDepth 20000
set_option linter.unusedSimpArgs false

def rsV (p : Int × Bool × Int) : Value := .tuple #[.int .i64 p.1, .bool p.2.1, .int .i64 p.2.2]
def restQ (c : Cq) (n : Int) : Cq := { c with rest := n }
section
variable {B U bt mn ma be mw : Nat} {w w' : World} {r : List Tm} {t : Tq}
theorem tabq_len (h : TabQ B U bt w t) : Calls Try.prog 11 #[.pointer (some ⟨bt, 0, none⟩)] w fun e w' => e = .returned (.int .i64 t.l.length) ∧ w' = w := by
  obtain ⟨hok, hsm, hU, mn, ma, be, mw, r, hS, hE⟩ := h
  exact qlen_tab hS
theorem tabq_live (h : TabQ B U bt w t) {id : Int} (hwf : (Lit.int .i64 id).wf = true) :
    Calls Try.prog 12 #[.pointer (some ⟨bt, 0, none⟩), .int .i64 id] w fun e w' => e = .returned (.bool (liveQ t id)) ∧ Below w.heap.size w w' := by
  obtain ⟨hok, hsm, hU, mn, ma, be, mw, r, hS, hE⟩ := h
  exact qlive_any hS hsm hwf
theorem br_uniq (h : TqOK t) {i j : Nat} (hi : i < t.l.length) (hj : j < t.l.length) (e : t.l[i].br = t.l[j].br) : i = j := by
  have hP := List.pairwise_iff_getElem.1 h.keys
  rcases Nat.lt_trichotomy i j with x | x | x
  · exact absurd e (hP i j hi hj x)
  · exact x
  · exact absurd e.symm (hP j i hj hi x)
theorem id_uniq (h : TqOK t) {i j : Nat} (hi : i < t.l.length) (hj : j < t.l.length) (e : t.l[i].id = t.l[j].id) : i = j := by
  have hP := List.pairwise_iff_getElem.1 h.rise
  rcases Nat.lt_trichotomy i j with x | x | x
  · have := hP i j hi hj x; omega
  · exact x
  · have := hP j i hj hi x; omega
/-- Does the one at k wait? -/
theorem live_at (h : TqOK t) {k : Nat} (hk : k < t.l.length) : liveQ t t.l[k].id = decide (t.l[k].rest < 0) := by
  refine live_hit hk (fun c hc => ?_) (by simp)
  obtain ⟨j, hj, rfl⟩ := List.mem_iff_getElem.1 hc
  rw [List.length_take] at hj
  rw [List.getElem_take]
  simp only [beq_eq_false_iff_ne, ne_eq]
  intro e
  have := id_uniq h (by omega) hk e
  omega
theorem live_none (h : TqOK t) {id : Int} (hno : ∀ c ∈ t.l, c.id ≠ id) : liveQ t id = false := live_end (fun c hc => by
  have := hno c (List.mem_of_mem_take hc)
  simpa using this)
/-- The one of that branch rests from now on. -/
theorem qrest_tab (hok : TqOK t) (hsm : ∀ c ∈ t.l, SmallX c) (hU : U ≤ w.heap.size) (hS : Sq B U bt mn ma be mw w t.most t.last t.l r) (hE : EndsQ t.l r) {k : Nat} (hk : k < t.l.length) {n : Int} (h0 : 0 ≤ n) (h1 : n ≤ 1099511627776) :
    Calls Try.prog 29 #[.pointer (some ⟨bt, 0, none⟩), .int .i64 t.l[k].id, txV ⟨t.l[k].br, 0, 0, true, [], []⟩, .int .i64 n] w fun e w' => e = .returned (.tuple #[]) ∧ (TabQ B U bt w' ⟨t.most, t.last, t.l.set k { t.l[k] with rest := n }⟩ ∧ FrQ B U w w') := by
  have hg := hok.good _ (List.getElem_mem hk)
  have hs := hsm _ (List.getElem_mem hk)
  have hs' : SmallX { t.l[k] with rest := n } := ⟨hs.br, hs.to, hs.tx, hs.id⟩
  have hg' : GoodQ { t.l[k] with rest := n } := ⟨hg.b0, hg.b1, hg.t0, hg.t1, by simp only; omega, h1⟩
  have hbad : ¬ badS t.l[k].id n := by
    have := hok.pos _ (List.getElem_mem hk)
    unfold badS; omega
  have hn : t.l.length ≤ 1000000 := by have := hok.len; have := hok.most.2; omega
  have ex : txOf { t.l[k] with rest := n } = ⟨t.l[k].br, 0, 0, true, [], []⟩ := by unfold txOf; simp only; rw [if_neg (by omega)]
  have ea : atQ { t.l[k] with rest := n } = n := atQ_rest (by simp only; omega)
  rw [← ex]
  refine (qkeep_put (c := { t.l[k] with rest := n }) hS hk hs' rfl hok.rise hn (in_ends hE hk) hbad).mono ?_
  rintro e w' ⟨rfl, g1, g2⟩
  have e1 := ends_put hE hok.rise hk (c := { t.l[k] with rest := n }) rfl
  rw [ea] at e1
  have hget : ∀ i (hi : i < (t.l.set k { t.l[k] with rest := n }).length), (t.l.set k { t.l[k] with rest := n })[i].id = (t.l[i]'(by simpa using hi)).id ∧ (t.l.set k { t.l[k] with rest := n })[i].br = (t.l[i]'(by simpa using hi)).br := fun i hi => by
    by_cases e : k = i
    · subst e; simp
    · rw [List.getElem_set_ne e]; exact ⟨rfl, rfl⟩
  refine ⟨rfl, ⟨⟨?_, ?_, ?_, by simpa using hok.len, hok.most, hok.last, ?_⟩, fun c hc => ?_, Nat.le_trans hU g2.below.size, mn, ma, be, mw, _, g1.same ?_, e1⟩, g2⟩
  · rw [List.pairwise_iff_getElem]
    intro i j hi hj hij
    have := List.pairwise_iff_getElem.1 hok.rise i j (by simpa using hi) (by simpa using hj) hij
    simp only at hi hj ⊢
    rw [(hget i hi).1, (hget j hj).1]; exact this
  · intro c hc
    obtain ⟨i, hi, rfl⟩ := List.mem_iff_getElem.1 hc
    simp only at hi ⊢
    rw [(hget i hi).1]
    exact hok.pos _ (List.getElem_mem _)
  · rw [List.pairwise_iff_getElem]
    intro i j hi hj hij
    have := List.pairwise_iff_getElem.1 hok.keys i j (by simpa using hi) (by simpa using hj) hij
    simp only at hi hj ⊢
    rw [(hget i hi).2, (hget j hj).2]; exact this
  · intro c hc
    rcases List.mem_or_eq_of_mem_set hc with hc | rfl
    · exact hok.good c hc
    · exact hg'
  · rcases List.mem_or_eq_of_mem_set hc with hc | rfl
    · exact hsm c hc
    · exact hs'
  · rw [List.map_set]
    apply List.ext_getElem (by simp)
    intro i a1 a2
    by_cases e : k = i
    · subst e; simp [kNq, dNq]
    · rw [List.getElem_set_ne e]
theorem rsp_bad {s now : Int} (h : ¬ (now < 0 ∨ 1099511627456 < now ∨ s < 100 ∨ 699 < s)) : ¬ now < 0 ∧ ¬ 1099511627456 < now ∧ ¬ s < 100 ∧ ¬ 699 < s := by omega
set_option maxHeartbeats 4000000 in
set_option maxRecDepth 100000 in
theorem qresp_any (h : TabQ B U bt w t) {br : List UInt8} {s now : Int} (h1 : br.length ≤ 281474976710656) :
    Calls Try.prog 16 #[.pointer (some ⟨bt, 0, none⟩), .string ⟨br.toArray⟩, .int .i64 s, .int .i64 now] w fun e w' => e = .returned (rsV (respQ t br s now).2) ∧ TabQ B U bt w' (respQ t br s now).1 ∧ FrQ B U w w' := by
  have HT : Hid (∀ u, Below w.heap.size w u → TabQ B U bt u t ∧ FrQ B U w u) := fun u hu => ⟨h.below hu, FrQ.of hu h.lo⟩
  obtain ⟨hok, hsm, hU, mn, ma, be, mw, r, hS, hE⟩ := h
  have KM := hid (qmade_any hS)
  by_cases hbad : now < 0 ∨ 1099511627456 < now ∨ s < 100 ∨ 699 < s
  · rw [respq_arg hbad]
    clear hS hE hsm hok
    have H0 := hid (HT.out _ (Below.refl _ _))
    by_cases b1 : now < 0
    · clear hbad
      go_enter Try.func16, Try.ntmps16
      go_wp2_with (go_at_call 23; refine KM.out.mono ?_; rintro e w9 ⟨rfl, hw9⟩; rw [hw9]; clear hw9)
      go_ret3
      exact ⟨rfl, H0.out⟩
    by_cases b2 : 1099511627456 < now
    · clear hbad
      go_enter Try.func16, Try.ntmps16
      go_wp2_with (go_at_call 23; refine KM.out.mono ?_; rintro e w9 ⟨rfl, hw9⟩; rw [hw9]; clear hw9)
      go_ret3
      exact ⟨rfl, H0.out⟩
    by_cases b3 : s < 100
    · clear hbad
      go_enter Try.func16, Try.ntmps16
      go_wp2_with (go_at_call 23; refine KM.out.mono ?_; rintro e w9 ⟨rfl, hw9⟩; rw [hw9]; clear hw9)
      go_ret3
      exact ⟨rfl, H0.out⟩
    have b4 : 699 < s := by omega
    clear hbad
    go_enter Try.func16, Try.ntmps16
    go_wp2_with (go_at_call 23; refine KM.out.mono ?_; rintro e w9 ⟨rfl, hw9⟩; rw [hw9]; clear hw9)
    go_ret3
    exact ⟨rfl, H0.out⟩
  obtain ⟨b1, b2, b3, b4⟩ := rsp_bad hbad
  have c2 := hS.c2
  -- none waits
  have NONE : ∀ n : Int, (Lit.int .i64 n).wf = true → liveQ t n = false → (Instr.lookup 57 (.map (some mn)) (.string ⟨br.toArray⟩) false).run Try.prog w = .ok (.int .i64 n) w → respQ t br s now = (t, 0, false, 6) → Calls Try.prog 16 #[.pointer (some ⟨bt, 0, none⟩), .string ⟨br.toArray⟩, .int .i64 s, .int .i64 now] w fun e w' => e = .returned (rsV (respQ t br s now).2) ∧ TabQ B U bt w' (respQ t br s now).1 ∧ FrQ B U w w' := fun n hwf hlv hlk er => by
    rw [er]
    have KL := hid (qlive_any hS hsm (id := n) hwf)
    rw [hlv] at KL
    clear hS hE hsm hok hbad hlv er hwf
    go_enter Try.func16, Try.ntmps16
    go_wp2_with (first
      | (go_at_call 23; refine KM.out.mono ?_; rintro e w9 ⟨rfl, hw9⟩; rw [hw9]; clear hw9)
      | (go_at_call 12; refine KL.out.mono ?_; rintro e w1 ⟨rfl, hb1⟩; have H1 := hid (HT.out _ hb1); clear hb1))
    go_ret3
    exact ⟨rfl, H1.out⟩
  rcases br_two t.l br with ⟨k, hk, hbr, _⟩ | ⟨hno, _⟩
  · have hs := hsm _ (List.getElem_mem hk)
    have hlk := (hS.lookN (List.getElem_mem hk) hs).2
    rw [hbr] at hlk
    have hpre : ∀ c ∈ t.l.take k, isQ br c = false := fun c hc => by
      obtain ⟨j, hj, rfl⟩ := List.mem_iff_getElem.1 hc
      rw [List.length_take] at hj
      rw [List.getElem_take]
      unfold isQ
      rw [show (t.l[j].br == br) = false by
        simp only [beq_eq_false_iff_ne, ne_eq]
        intro e
        have := br_uniq hok (by omega) hk (e.trans hbr.symm)
        omega]
      rfl
    by_cases hr : t.l[k].rest < 0
    · have hi : isQ br t.l[k] = true := by unfold isQ; simp [hbr, hr]
      have KL := hid (qlive_any hS hsm hs.id)
      rw [live_at hok hk, show decide (t.l[k].rest < 0) = true by simpa using hr] at KL
      by_cases hs2 : s < 200
      · rw [respq_more hbad hk hpre hs2 hi]
        generalize t.l[k].id = d at *
        clear hS hE hsm hok hbad hpre hi hr hbr
        go_enter Try.func16, Try.ntmps16
        go_wp2_with (first
          | (go_at_call 23; refine KM.out.mono ?_; rintro e w9 ⟨rfl, hw9⟩; rw [hw9]; clear hw9)
          | (go_at_call 12; refine KL.out.mono ?_; rintro e w1 ⟨rfl, hb1⟩; have H1 := hid (HT.out _ hb1); clear hb1))
        go_ret3
        exact ⟨rfl, H1.out⟩
      · rw [respq_last hbad hk hpre hs2 hi]
        have KK := hid (fun (u : World) (hu : Below w.heap.size w u) => qrest_tab hok hsm (Nat.le_trans hU hu.size) (hS.below hu) hE hk (n := now + 50) (by omega) (by omega))
        have LK := hid (fun (u : World) (hu : Below w.heap.size w u) => And.intro ((hS.below hu).lookA (List.getElem_mem hk) hs).2 (hS.below hu).c3)
        have hfk := field_br (txOf t.l[k])
        rw [txOf_br, hbr] at hfk
        rw [hbr] at KK
        have hov : now + 50 ≤ 1099511627506 := by omega
        have hov2 : 0 ≤ now + 50 := by omega
        generalize { t.l[k] with rest := now + 50 } = C at *
        generalize t.l[k].id = d at *
        generalize txOf t.l[k] = X at *
        unfold txV at KK LK hfk
        have hB := hid hS.lo
        clear hS hE hsm hok hbad hpre hi hr hbr hs
        go_enter Try.func16, Try.ntmps16
        go_wp2_with (first
          | (go_at_call 23; refine KM.out.mono ?_; rintro e w9 ⟨rfl, hw9⟩; rw [hw9]; clear hw9)
          | (go_at_call 12; refine KL.out.mono ?_; rintro e w1 ⟨rfl, hb1⟩; obtain ⟨lk1, lc1⟩ := LK.out _ hb1; have KK1 := hid (KK.out _ hb1); replace hb1 := hid hb1)
          | (go_at_call 29; refine KK1.out.mono ?_; rintro e w2 ⟨rfl, hT2, hF2⟩; have HE := hid (And.intro hT2 ((FrQ.of hb1.out hB.out).trans hF2)); clear hT2 hF2))
        go_ret3
        exact ⟨rfl, HE.out⟩
    · refine NONE _ hs.id (by rw [live_at hok hk]; simpa using hr) hlk (respq_none hbad fun c hc => ?_)
      obtain ⟨j, hj, rfl⟩ := List.mem_iff_getElem.1 hc
      rw [List.length_take] at hj
      rw [List.getElem_take]
      unfold isQ
      by_cases e : t.l[j].br = br
      · have := br_uniq hok (by omega) hk (e.trans hbr.symm)
        subst this
        simp [hr]
      · simp [e]
  · refine NONE 0 (by decide) (live_none hok fun c hc e => by have := (hok.pos c hc).1; omega) (hS.lookN_no h1 hno).2 (respq_none hbad fun c hc => ?_)
    have := hno c (List.mem_of_mem_take hc)
    unfold isQ
    simp [this]
end
end Go.Proofs.Ytgikbpaejmdnoaa

/-
  The table's New; what no call made.
-/
namespace Go.Proofs.Ytgikbpaejmdnoaa
open Go.RowKit Go.Maps Go.WideMaps
set_option linter.unusedVariables false
set_option maxRecDepth 20000
set_option linter.unusedSimpArgs false

theorem HQ.lowerq {bw m B B' : Nat} {v : Value} {w : World} {f : Nat → It} {n : Nat} (h : HQ bw m B v w f n) (hB : B' ≤ B) : HQ bw m B' v w f n :=
  ⟨h.wheel, sv_mono h.own hB, h.item, h.inj, fun i hi => Nat.le_trans hB (h.lo i hi)⟩
theorem WWm.lowerq {m bw B B' : Nat} {w : World} {l : List Tm} (h : WWm m B bw w l) (hB : B' ≤ B) : WWm m B' bw w l := by
  obtain ⟨v, f, n, D, h, h4⟩ := h
  exact ⟨v, f, n, D, ⟨h.q.lowerq hB, h.k, h.mp, h.has, h.at', h.size, Nat.le_trans hB h.wlo, Nat.le_trans hB h.mlo, h.wf⟩, h4⟩
theorem makeNq (u : World) : (Instr.makeMap 57 none).run Try.prog u = .ok (.map (some u.heap.size)) (u.alloc (.map #[] 0)) := by kernel_rfl
theorem makeAq (u : World) : (Instr.makeMap 58 none).run Try.prog u = .ok (.map (some u.heap.size)) (u.alloc (.map #[] 0)) := by kernel_rfl
theorem qnew_tab (w : World) {most : Int} (h1 : 1 ≤ most) (h2 : most ≤ 200) : ∀ w1 w2 w3 w4 : World, w.alloc (.map #[] 0) = w1 → w1.alloc (.map #[] 0) = w2 → (w2.alloc (.map #[] 0)).alloc (.cells #[.slice none 0 0, .map (some w2.heap.size)] 94) = w3 →
    w3.alloc (.cells #[.int .i64 most, .int .i64 0, .map (some w.heap.size), .map (some w1.heap.size), .pointer (some ⟨w2.heap.size + 1, 0, none⟩)] 61) = w4 → TabQ w.heap.size w4.heap.size w3.heap.size w4 ⟨most, 0, []⟩ ∧ Below w.heap.size w w4 := by
  rintro w1 w2 w3 w4 rfl rfl rfl rfl
  generalize hO : (Obj.cells _ 61) = O
  have b1 := (Below.refl w.heap.size w).alloc (Nat.le_refl _) (.map #[] 0)
  have b2 := b1.alloc (show w.heap.size ≤ (w.alloc (.map #[] 0)).heap.size by simp) (.map #[] 0)
  have hN := World.ownsMap_made w Try.prog 9 numF
  have hA := World.ownsMap_made (w.alloc (.map #[] 0)) Try.prog 3 txE
  have hW := WWm.begin ((w.alloc (.map #[] 0)).alloc (.map #[] 0))
  generalize hw1 : w.alloc (.map #[] 0) = w1 at *
  have s1 : w1.heap.size = w.heap.size + 1 := by rw [← hw1]; simp
  have hN' := hN.alloc (.map #[] 0)
  generalize hw2 : w1.alloc (.map #[] 0) = w2 at *
  have s2 : w2.heap.size = w1.heap.size + 1 := by rw [← hw2]; simp
  generalize hw3 : (w2.alloc (.map #[] 0)).alloc (.cells #[.slice none 0 0, .map (some w2.heap.size)] 94) = w3 at *
  have b3 : Below w2.heap.size w2 w3 := by rw [← hw3]; exact ((Below.refl _ w2).alloc (Nat.le_refl _) _).alloc (by simp) _
  have s3 : w3.heap.size = w2.heap.size + 2 := by rw [← hw3]; simp
  have b4 : Below w3.heap.size w3 (w3.alloc O) := (Below.refl _ w3).alloc (Nat.le_refl _) _
  have s4 : (w3.alloc O).heap.size = w3.heap.size + 1 := by simp
  have b34 : Below w2.heap.size w2 (w3.alloc O) := b3.trans (b4.mono (by omega))
  have bel : ∀ {k : TypeId} {R : Value → Option (DataW Unit × List MemPlace)} {b n : Nat} {D : DataW Unit}, w2.ownsMap Try.prog k R b n D → (w3.alloc O).ownsMap Try.prog k R b n D := fun h => own_chg h (chg_below (S := fun _ => False) b34) (fun x => x)
  obtain ⟨v, f, n, D, hH, h4⟩ := hW
  refine ⟨⟨⟨.nil, fun c hc => by simp at hc, .nil, by simp; omega, ⟨h1, h2⟩, by simp, fun c hc => by simp at hc⟩, fun c hc => by simp at hc, Nat.le_refl _, w.heap.size, w1.heap.size, w2.heap.size + 1, w2.heap.size, [], ⟨?_, ⟨_, bel hN', MpG.nil _ _⟩, ⟨_, bel hA, MpG.nil _ _⟩, ?_, by omega, by omega, by omega, by omega, by omega, by omega, by omega, by omega, by omega⟩, List.Perm.refl _⟩, b2.trans (b34.mono (by omega))⟩
  · unfold RowIs
    rw [heap_alloc_new, ← hO]
  · have hq : WWm w2.heap.size w2.heap.size (w2.heap.size + 1) (w3.alloc O) [] := ⟨v, f, n, D, hH.new O, h4⟩
    exact (hq.lowerq (by omega)).q
set_option maxHeartbeats 1000000 in
set_option maxRecDepth 100000 in
theorem qnew_ok (w : World) {most : Int} (h1 : 1 ≤ most) (h2 : most ≤ 200) :
    Calls Try.prog 8 #[.int .i64 most] w fun e w' => ∃ b, e = .returned (.tuple #[.pointer (some ⟨b, 0, none⟩), .int .i64 0]) ∧ TabQ w.heap.size w'.heap.size b w' ⟨most, 0, []⟩ ∧ Below w.heap.size w w' := by
  have mN := makeNq
  have mA := makeAq
  have n1 : ¬ most < 1 := by omega
  have n2 : ¬ 200 < most := by omega
  have HT := hid (qnew_tab w h1 h2)
  clear h1 h2
  have KN := hid (fun (u : World) => wmnew_any u)
  generalize hw1 : w.alloc (.map #[] 0) = w1 at HT
  generalize hw2 : w1.alloc (.map #[] 0) = w2
  generalize hw3 : (w2.alloc (.map #[] 0)).alloc (.cells #[.slice none 0 0, .map (some w2.heap.size)] 94) = w3
  have HF := hid (HT.out w1 w2 w3 _ rfl hw2 hw3 rfl)
  have H3 := hid hw3
  clear HT hw3
  go_enter Try.func8, Try.ntmps8
  go_wp2_with (go_at_call 18; refine (KN.out _).mono ?_; rintro e w9 ⟨rfl, hw9⟩; rw [hw9, H3.out]; clear hw9)
  go_ret2
  exact ⟨_, rfl, HF.out.1, HF.out.2⟩
set_option maxHeartbeats 1000000 in
set_option maxRecDepth 100000 in
theorem qnew_bad (w : World) {most : Int} (h : most < 1 ∨ 200 < most) :
    Calls Try.prog 8 #[.int .i64 most] w fun e w' => e = .returned (.tuple #[.pointer none, .int .i64 9]) ∧ w' = w := by
  by_cases h1 : most < 1
  · clear h
    go_enter Try.func8, Try.ntmps8
    go_wp2
    go_ret2
    exact ⟨rfl, rfl⟩
  · have h2 : 200 < most := by omega
    clear h
    go_enter Try.func8, Try.ntmps8
    go_wp2
    go_ret2
    exact ⟨rfl, rfl⟩
/-- A table that no call made: nil, or all zero. -/
def NoTabQ (w : World) (p : Value) : Prop := p = .pointer none ∨ ∃ b, p = .pointer (some ⟨b, 0, none⟩) ∧ b < w.heap.size ∧ w.cell? ⟨b, 3, none⟩ = some (.map none)
theorem NoTabQ.below {w w' : World} {p : Value} (h : NoTabQ w p) (hb : Below w.heap.size w w') : NoTabQ w' p := by
  rcases h with h | ⟨b, rfl, hl, hc⟩
  · exact .inl h
  · exact .inr ⟨b, rfl, Nat.lt_of_lt_of_le hl hb.size, cell_beq hb hl hc⟩
set_option maxHeartbeats 1000000 in
set_option maxRecDepth 100000 in
theorem nob_qmade {w : World} {p : Value} (h : NoTabQ w p) : Calls Try.prog 23 #[p] w fun e w' => e = .returned (.bool false) ∧ w' = w := by
  have q61 := neqX
  rcases h with rfl | ⟨b, rfl, hl, hc⟩
  · go_enter Try.func23, Try.ntmps23
    go_wp2
    go_ret
    exact ⟨rfl, rfl⟩
  · go_enter Try.func23, Try.ntmps23
    go_wp2
    go_ret
    exact ⟨rfl, rfl⟩
set_option maxHeartbeats 1000000 in
set_option maxRecDepth 100000 in
theorem nob_qlen {w : World} {p : Value} (h : NoTabQ w p) : Calls Try.prog 11 #[p] w fun e w' => e = .returned (.int .i64 0) ∧ w' = w := by
  have KM := hid (nob_qmade h)
  clear h
  go_enter Try.func11, Try.ntmps11
  go_wp2_with (go_at_call 23; refine KM.out.mono ?_; rintro e w9 ⟨rfl, hw9⟩; rw [hw9]; clear hw9)
  go_ret
  exact ⟨rfl, rfl⟩
set_option maxHeartbeats 1000000 in
set_option maxRecDepth 100000 in
theorem nob_qstep {w : World} {p : Value} (h : NoTabQ w p) (now : Int) : Calls Try.prog 15 #[p, .int .i64 now] w fun e w' => e = .returned (.slice none 0 0) ∧ w' = w := by
  have KM := hid (nob_qmade h)
  clear h
  go_enter Try.func15, Try.ntmps15
  go_wp2_with (go_at_call 23; refine KM.out.mono ?_; rintro e w9 ⟨rfl, hw9⟩; rw [hw9]; clear hw9)
  go_ret
  exact ⟨rfl, rfl⟩
set_option maxHeartbeats 1000000 in
set_option maxRecDepth 100000 in
theorem nob_qlive {w : World} {p : Value} (h : NoTabQ w p) (id : Int) : Calls Try.prog 12 #[p, .int .i64 id] w fun e w' => e = .returned (.bool false) ∧ w' = w := by
  have KM := hid (nob_qmade h)
  clear h
  go_enter Try.func12, Try.ntmps12
  go_wp2_with (go_at_call 23; refine KM.out.mono ?_; rintro e w9 ⟨rfl, hw9⟩; rw [hw9]; clear hw9)
  go_ret
  exact ⟨rfl, rfl⟩
set_option maxHeartbeats 1000000 in
set_option maxRecDepth 100000 in
theorem nob_qresp {w : World} {p : Value} (h : NoTabQ w p) (x : ByteArray) (s now : Int) : Calls Try.prog 16 #[p, .string x, .int .i64 s, .int .i64 now] w fun e w' => e = .returned (.tuple #[.int .i64 0, .bool false, .int .i64 3]) ∧ w' = w := by
  have KM := hid (nob_qmade h)
  clear h
  go_enter Try.func16, Try.ntmps16
  go_wp2_with (go_at_call 23; refine KM.out.mono ?_; rintro e w9 ⟨rfl, hw9⟩; rw [hw9]; clear hw9)
  go_ret3
  exact ⟨rfl, rfl⟩
set_option maxHeartbeats 1000000 in
set_option maxRecDepth 100000 in
theorem nob_qstart {w : World} {p : Value} (h : NoTabQ w p) (z x y : ByteArray) (now : Int) : Calls Try.prog 14 #[p, .string z, .int .i64 now, .agg #[.string x, .string y]] w fun e w' => e = .returned (.tuple #[.int .i64 0, .int .i64 3]) ∧ Below w.heap.size w w' := by
  have hb : Below w.heap.size w (w.alloc (.cells #[.string x, .string y] 40)) := (Below.refl _ w).alloc (Nat.le_refl _) _
  have KM := hid (nob_qmade (h.below hb))
  have HB := hid hb
  clear h hb
  go_enter Try.func14, Try.ntmps14
  go_wp2_with (go_at_call 23; refine KM.out.mono ?_; rintro e w9 ⟨rfl, hw9⟩; rw [hw9]; clear hw9)
  go_ret2
  exact ⟨rfl, HB.out⟩
end Go.Proofs.Ytgikbpaejmdnoaa
