/-
  The walk of the law ClientSteps.
-/
import Derived.Test.YtgikbpaejmdnoaaQFill
import Derived.Test.YtgikbpaejmdnoaaDueEq
import Derived.Laws.AppendOwnNone
namespace Go.Proofs.Ytgikbpaejmdnoaa
open Go.RowKit Go.Sort
set_option linter.unusedVariables false
set_option maxRecDepth 20000
set_option linter.unusedSimpArgs false

theorem grown_selfq (w : World) (r : Option Nat) : w.grownBy w r := ⟨rfl, rfl, rfl, Nat.le_refl _, fun _ _ _ => rfl⟩
/-- append of a row of what is due, nil or not. -/
theorem wp_appEo {P : Program} (w : World) {ops : Array Oper} {rest : List Oper} {o : Oper} {a : Act} {Q : Exit → Act → World → Prop} (hgd : o.guard = none)
    (s x : Operand) (t : TypeId) (ho : o.op = Op.call { callee := Callee.builtin Builtin.append, args := #[s, x], argTypes := #[t, t] }) (B : Nat) (i : TypeInfo)
    (z : Value) (ht : P.underlying t = some (TypeDesc.slice 46)) (hi : P.info? 46 = some i) (hz : i.zero = some z) (hsize : i.size = 4) (hby : i.bytes = 48) (hzs : z.cells.size = 4)
    (v : Value) (ts : List Du) (hs : a.eval s = v) (hown : OwnE w B v ts) (va : Value) (ns : List Du) (B2 : Nat) (hx : a.eval x = va) (hown2 : OwnE w B2 va ns)
    (hlen : ts.length + ns.length ≤ 4000000) (hB : B ≤ w.heap.size)
    (h : ∀ (v' : Value) (w' : World), OwnE w' B v' (ts ++ ns) → w.grownBy w' v.ownBlock → wpList P ops Q rest (a.put o.dst v') w') : wpList P ops Q (o :: rest) a w := by
  have h0 := hown2
  rcases hown2.2 with ⟨hv, hn⟩ | ⟨g, cap, cur, hv, hcc⟩
  · have hns : ns = [] := List.eq_nil_of_length_eq_zero hn
    subst hns
    rw [hv] at hx
    exact wpList_append_own_none hgd s x t ho B 46 i 4 ht hi v ts.length (dusCells ts) hs hown hx (h v w (by rw [List.append_nil]; exact hown) (grown_selfq _ _))
  · rw [hv] at hx h0
    exact wp_appEs w hgd s x t ho B i z ht hi hz hsize hby hzs v ts hs hown ⟨g, 0, none⟩ ns.length cap ns hx rfl (fun j u hj => World.ownsRow.cells h0 (g := g) rfl j u hj) hlen hB h
namespace clientSteps
/-- What is known in between: both tables, the row that grows, and all that was there. -/
structure MidQ (w : World) (U b1 b2 : Nat) (ta tb : Tq) (vl : Value) (ds : List Du) (wr : World) : Prop where
  a : TabQ w.heap.size U b1 wr ta
  b : ∃ V, TabQ U V b2 wr tb
  own : OwnE wr w.heap.size vl ds
  bel : Below w.heap.size w wr
  lo : w.heap.size ≤ U
section
variable {w wr w' : World} {U b1 b2 : Nat} {ta tb : Tq} {vl vl' : Value} {ds ns : List Du}
theorem MidQ.below (h : MidQ w U b1 b2 ta tb vl ds wr) (hb : Below wr.heap.size wr w') : MidQ w U b1 b2 ta tb vl ds w' := by
  obtain ⟨V, hV⟩ := h.b
  exact ⟨h.a.below hb, ⟨V, hV.below hb⟩, h.own.below hb, h.bel.trans (hb.mono h.bel.size), h.lo⟩
theorem MidQ.step1 (h : MidQ w U b1 b2 ta tb vl ds wr) {now : Int} :
    Calls Try.prog 15 #[.pointer (some ⟨b1, 0, none⟩), .int .i64 now] wr fun e w' => ∃ va, e = .returned va ∧ OwnE w' wr.heap.size va (stepA ta now).2 ∧ MidQ w U b1 b2 (stepA ta now).1 tb vl ds w' := by
  obtain ⟨V, hV⟩ := h.b
  refine (qstep_any h.a (now := now)).mono ?_
  rintro e w' ⟨v, rfl, ho, ht, hf⟩
  exact ⟨v, rfl, ho, ht, ⟨V, hV.apart hf (.inl (Nat.le_refl _))⟩, hf.own h.own (by decide) (by decide) (by decide) (by decide), h.bel.trans hf.below, h.lo⟩
theorem MidQ.step2 (h : MidQ w U b1 b2 ta tb vl ds wr) {now : Int} :
    Calls Try.prog 15 #[.pointer (some ⟨b2, 0, none⟩), .int .i64 now] wr fun e w' => ∃ va, e = .returned va ∧ OwnE w' wr.heap.size va (stepA tb now).2 ∧ MidQ w U b1 b2 ta (stepA tb now).1 vl ds w' := by
  obtain ⟨V, hV⟩ := h.b
  refine (qstep_any hV (now := now)).mono ?_
  rintro e w' ⟨v, rfl, ho, ht, hf⟩
  exact ⟨v, rfl, ho, h.a.apart hf (.inr (Nat.le_refl _)), ⟨V, ht⟩, hf.own h.own (by decide) (by decide) (by decide) (by decide), h.bel.trans (hf.below.mono h.lo), h.lo⟩
theorem MidQ.grow (h : MidQ w U b1 b2 ta tb vl ds wr) (ho : OwnE w' w.heap.size vl' (ds ++ ns)) (hg : wr.grownBy w' vl.ownBlock) : MidQ w U b1 b2 ta tb vl' (ds ++ ns) w' := by
  obtain ⟨V, hV⟩ := h.b
  exact ⟨h.a.grown h.own (by decide) (by decide) (by decide) (by decide) hg, ⟨V, hV.grown h.own (by decide) (by decide) (by decide) (by decide) hg⟩, ho, h.bel.grown hg h.bel.size (fun k hk => (World.ownsRow.lt h.own k hk).1), h.lo⟩
end
theorem own_keep {w w' : World} {B C : Nat} {v vl : Value} {ds ls : List Du} (h : OwnE w B v ds) (hl : OwnE w C vl ls) (hg : w.grownBy w' vl.ownBlock) (hne : v.ownBlock = none ∨ v.ownBlock ≠ vl.ownBlock) : OwnE w' B v ds := World.ownsRow.kept h hg hne
set_option maxHeartbeats 8000000 in
set_option maxRecDepth 100000 in
theorem law_walk (w : World) (v0 v1 : Value) (a2 a3 : Int) (k0 : U16sIn 140737488351232 w v0) (k1 : BoolsIn 140737488351232 w v1) (u2 : (Lit.int .i64 a2).wf = true) (u3 : (Lit.int .i64 a3).wf = true) :
    Calls Try.prog 6 #[v0, v1, .int .i64 a2, .int .i64 a3] w fun e w' => e = .returned (.bool true) ∧ Below w.heap.size w w' := by
  obtain ⟨i1, hq, hp0, hp1, hp2⟩ := info_parts infoDc
  obtain ⟨starts, h0⟩ := k0
  obtain ⟨rest, h1⟩ := k1
  have H0 := hid h0
  have H1 := hid h1
  clear h0 h1 u2 u3
  have K1 := hid (filled_any H0.out H1.out)
  generalize hT : (fillQ starts rest (min starts.length 60)).1 = T at K1
  go_enter Try.func6, Try.ntmps6
  go_wp2_with fail
  refine K1.out.mono ?_
  rintro e w1 ⟨b1, rfl, T1, B1⟩
  have K2 := hid (filled_any (H0.out.below B1) (H1.out.below B1))
  rw [hT] at K2
  clear K1 H0 H1 hT
  go_wp2_with fail
  refine K2.out.mono ?_
  rintro e w2 ⟨b2, rfl, T2, B2⟩
  have T1' := T1.below B2
  have B12 := B1.trans (B2.mono B1.size)
  have hU : w.heap.size ≤ w1.heap.size := B1.size
  have hok := T2.1
  clear K2 T1 B1
  by_cases hlt : a3 < a2
  · have KW := hid (awake12_any w2)
    have HB := hid B12
    clear T1' T2 B2 B12
    go_wp2_with (go_at_call 9; refine KW.out.mono ?_; rintro e w9 ⟨rfl, hw9⟩; replace hw9 := hid hw9)
    go_ret
    exact ⟨rfl, HB.out.trans (hw9.out.mono HB.out.size)⟩
  have hlt2 : a2 ≤ a3 := by omega
  have htw := stepA_twice hlt2 (totQ T.l) T hok (Nat.le_refl _)
  have htot : totQ T.l ≤ 2200 := by
    have h1 := totQ_bd hok.good
    have h2 := hok.len
    have h3 := hok.most.2
    omega
  have hsa := stepA_ok (now := a2) (totQ T.l) T hok (Nat.le_refl _)
  have hsb := stepA_ok (now := a3) (totQ (stepA T a2).1.l) _ hsa.1 (Nat.le_refl _)
  have l1 : (stepA T a2).2.length ≤ 2200 := by have := hsa.2.2.2; omega
  have l2 : (stepA (stepA T a2).1 a3).2.length ≤ 2200 := by have := hsa.2.2.2; have := hsb.2.2.2; omega
  have HTW := hid htw
  clear htw hsa hsb htot hok
  have hb3 : Below w2.heap.size w2 (w2.alloc (.cells #[] 46)) := (Below.refl _ w2).alloc (Nat.le_refl _) _
  have hO3 : OwnE (w2.alloc (.cells #[] 46)) w2.heap.size (.slice (some ⟨w2.heap.size, 0, none⟩) 0 0) [] := World.ownsRow_made w2 #[] 0 (Nat.le_refl _) (by decide) rfl
  have M3 : MidQ w w1.heap.size b1 b2 T T (.slice (some ⟨w2.heap.size, 0, none⟩) 0 0) [] (w2.alloc (.cells #[] 46)) := ⟨T1'.below hb3, ⟨_, T2.below hb3⟩, sv_mono hO3 B12.size, B12.trans (hb3.mono B12.size), hU⟩
  generalize hw3 : w2.alloc (.cells #[] 46) = w3 at M3
  have K3 := hid (M3.step1 (now := a2))
  clear hb3 hO3 T1' T2 B2 B12 M3
  go_wp2_with fail
  refine K3.out.mono ?_
  rintro e w4 ⟨va, rfl, O4, M4⟩
  have M4h := hid M4
  have O4h := hid O4
  obtain ⟨xa, xc, hva⟩ := O4.form
  clear O4 M4 K3
  generalize hd1 : (stepA T a2).2 = d1 at O4h M4h HTW l1 hva
  generalize hta : (stepA T a2).1 = ta at M4h HTW l2
  subst hva
  clear hd1 hta
  go_wp2_with (at_builtin; refine wp_appEo _ rfl (.tmp 30) (.tmp 33) 43 rfl w.heap.size i1 _ Try.underlying43 hq hp0 hp1 hp2 rfl (.slice (some ⟨w2.heap.size, 0, none⟩) 0 0) [] rfl M4h.out.own _ d1 _ rfl O4h.out (by simp; omega) M4h.out.bel.size ?_; intro v5 w5 hown5 hgr5; have M5 := hid (M4h.out.grow hown5 hgr5); clear hown5 hgr5)
  rw [List.nil_append] at M5
  obtain ⟨ya, yc, hv5⟩ := M5.out.own.form
  obtain ⟨N1, hN1⟩ : ∃ N, N = d1.length := ⟨_, rfl⟩
  rw [← hN1] at hv5 l1
  subst hv5
  have HN1 := hid hN1
  clear hN1 M4h O4h
  have K5 := hid (M5.out.step1 (now := a3))
  clear M5
  generalize hd2 : (stepA ta a3).2 = d2 at K5 HTW l2
  generalize htb : (stepA ta a3).1 = tc at K5 HTW
  clear hd2 htb
  refine K5.out.mono ?_
  rintro e w6 ⟨vb, rfl, O6, M6⟩
  obtain ⟨za, zc, hvb⟩ := O6.form
  have O6h := hid O6
  have M6h := hid M6
  clear O6 M6 K5
  subst hvb
  go_wp2_with (at_builtin; refine wp_appEo _ rfl (.tmp 34) (.tmp 37) 43 rfl w.heap.size i1 _ Try.underlying43 hq hp0 hp1 hp2 rfl _ d1 rfl M6h.out.own _ d2 _ rfl O6h.out (by rw [← HN1.out]; omega) M6h.out.bel.size ?_; intro v7 w7 hown7 hgr7; have M7 := hid (M6h.out.grow hown7 hgr7); clear hown7 hgr7)
  obtain ⟨pa, pc, hv7⟩ := M7.out.own.form
  obtain ⟨L, hL⟩ : ∃ L, L = d1 ++ d2 := ⟨_, rfl⟩
  rw [← hL] at hv7 M7 HTW
  have hLl : L.length ≤ 4400 := by rw [hL, List.length_append, ← HN1.out]; omega
  obtain ⟨N, hN⟩ : ∃ N, N = L.length := ⟨_, rfl⟩
  rw [← hN] at hv7 hLl
  have HN := hid hN
  subst hv7
  clear hL hN M6h O6h HN1
  have K7 := hid (M7.out.step2 (now := a3))
  rw [HTW.out] at K7
  simp only at K7
  clear M7 HTW
  refine K7.out.mono ?_
  rintro e w8 ⟨vc, rfl, O8, M8⟩
  obtain ⟨qa, qc, hvc⟩ := O8.form
  rw [← HN.out] at hvc
  subst hvc
  have X8 := hid (OwnE.at M8.own)
  have Y8 := hid (OwnE.at O8)
  have KA := hid (tabq_len M8.a)
  obtain ⟨V, hV⟩ := M8.b
  have KB := hid (tabq_len hV)
  have HB := hid M8.bel
  clear O8 M8 K7 hV
  have hnb : ((N : Int) != (N : Int)) = false := by simp
  have hnl : ((tc.l.length : Int) != (tc.l.length : Int)) = false := by simp
  have hgD := guardDc
  have KW := hid awake12_any
  generalize (tc.l.length : Int) = TL at KA KB hnl
  go_wp2_with fail
  refine KA.out.mono ?_
  rintro e w9 ⟨rfl, hw9⟩
  rw [hw9]
  clear hw9 w9 KA
  go_wp2_with fail
  refine KB.out.mono ?_
  rintro e w9 ⟨rfl, hw9⟩
  rw [hw9]
  clear hw9 w9 KB
  go_wp2
  go_loopw [13] (fun i wr => ∃ k : Nat, k ≤ N ∧ i = .int .i64 k ∧ Hid (Below w8.heap.size w8 wr)) (fun i _ => N - (intOf i).toNat)
  case atStart => exact ⟨0, by omega, rfl, Below.refl _ _⟩
  case round =>
    obtain ⟨k, hk, rfl, hb⟩ := hrel
    by_cases hlk : k < N
    · have hlk' : (k : Int) < N := by omega
      have hkl : k < L.length := by rw [← HN.out]; exact hlk
      obtain ⟨ao, ac, hv1, hc1⟩ := X8.out
      obtain ⟨bo, bc, hv2, hc2⟩ := Y8.out
      injection hv1 with e1 e2 e3
      injection hv2 with f1 f2 f3
      obtain ⟨g1, hg1, hl1, hd1⟩ := hc1 k hkl
      obtain ⟨g2, hg2, hl2, hd2⟩ := hc2 k hkl
      rw [hg1] at e1
      rw [hg2] at f1
      subst e1
      subst f1
      obtain ⟨x0, x1, x2, x3⟩ := hd1.below hb.out hl1
      obtain ⟨y0, y1, y2, y3⟩ := hd2.below hb.out hl2
      clear hc1 hc2 hd1 hd2 e2 e3 f2 f3 hg1 hg2
      generalize L[k] = d at x0 x1 x2 x3 y0 y1 y2 y3
      obtain ⟨d1, d2, d3, d4⟩ := d
      simp only at x0 x1 x2 x3 y0 y1 y2 y3
      have e3 := neqDc d1 d2 ⟨d3.toArray⟩ ⟨d4.toArray⟩
      go_wp2
      replace x0 := cell_regrown x0
      replace x1 := cell_regrown x1
      replace x2 := cell_regrown x2
      replace x3 := cell_regrown x3
      replace y0 := cell_regrown y0
      replace y1 := cell_regrown y1
      replace y2 := cell_regrown y2
      replace y3 := cell_regrown y3
      refine wp_region_quiet_below followsQ (by kernel_rfl) ?_
      repeat (go_big_quiet_step (fail))
      refine wpQuiet_nil ?_
      intro _ hw'
      obtain ⟨⟨dq, osq⟩, hw''⟩ := hw'
      subst hw''
      have hq := below_regrown wr dq osq
      generalize grow _ _ = wx at hq ⊢
      have HBX := hid (hb.out.trans (hq.mono hb.out.size))
      clear hq x0 x1 x2 x3 y0 y1 y2 y3
      go_wp2
      go_roundw
      case rel => exact ⟨k + 1, by omega, by go_num, HBX.out⟩
      case measure => simp [intOf]; omega
    · have hlk' : ¬ ((k : Int) < N) := by omega
      have hlk2 : decide ((k : Int) < (N : Int)) = false := decide_eq_false hlk'
      have KA2 := hid (KW.out wr)
      clear X8 Y8
      go_wp2_with (go_at_call 9; refine KA2.out.mono ?_; rintro e w9 ⟨rfl, hw9⟩; replace hw9 := hid hw9)
      go_ret
      exact ⟨rfl, (HB.out.trans (hb.out.mono HB.out.size)).trans (hw9.out.mono (Nat.le_trans HB.out.size hb.out.size))⟩
end clientSteps
end Go.Proofs.Ytgikbpaejmdnoaa
