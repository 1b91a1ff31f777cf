/-
  The document's own Start.
-/
import Derived.Test.YtbnmdljlfldgoaaRSt9b
namespace Go.Proofs.Ytbnmdljlfldgoaa
open Go.RowKit
set_option linter.unusedVariables false
set_option maxRecDepth 20000
set_option linter.unusedSimpArgs false

set_option maxHeartbeats 4000000 in
set_option maxRecDepth 100000 in
theorem refstart_any {w : World} {B : Nat} {v : Value} {t : Tb} (h : OwnC w B v t.l) (hB : B ≤ w.heap.size) {br hop me : List UInt8} {now : Int} (hn : t.l.length ≤ 1000000) (hl0 : 0 ≤ t.last) (hl9 : t.last ≤ 1000000000) (hm9 : t.most ≤ 1000000) :
    Calls Try.prog 22 #[tbV t v, .string ⟨br.toArray⟩, .string ⟨hop.toArray⟩, .string ⟨me.toArray⟩, .int .i64 now] w fun e w' => TbRes (startT t br hop me now).1 [(startT t br hop me now).2.1, (startT t br hop me now).2.2] B w w' e := by
  obtain ⟨i0, hi, hz0, hz1, hz2⟩ := info_parts infoCl
  obtain ⟨most, last, l⟩ := t
  simp only at h hn hl0 hl9 hm9 ⊢
  obtain ⟨oa, cap, rfl⟩ := h.form
  have hb1 : Below w.heap.size w (w.alloc (objT ⟨most, last, l⟩ (.slice oa l.length cap))) := (Below.refl _ w).alloc (Nat.le_refl _) _
  have hl1 := alloc_lt w (objT ⟨most, last, l⟩ (.slice oa l.length cap))
  have hbx := boxT_new w ⟨most, last, l⟩ (.slice oa l.length cap)
  generalize hw1 : w.alloc (objT ⟨most, last, l⟩ (.slice oa l.length cap)) = w1 at hb1 hbx hl1
  have hr0 := sv_row3 w1 (.int .i64 0) (.int .i64 0) (.slice none 0 0) 31
  have hb2 : Below w1.heap.size w1 (w1.alloc (.cells #[.int .i64 0, .int .i64 0, .slice none 0 0] 31)) := (Below.refl _ w1).alloc (Nat.le_refl _) _
  have hl2 := alloc_lt w1 (.cells #[.int .i64 0, .int .i64 0, .slice none 0 0] 31)
  generalize hw2 : w1.alloc (.cells #[.int .i64 0, .int .i64 0, .slice none 0 0] 31) = w2 at hb2 hr0 hl2
  have hB2 := hb1.trans (hb2.mono hb1.size)
  have hx2 := hbx.below hb2 hl1
  have hO2 := h.below hB2
  unfold objT at hw1
  generalize hR : startT ⟨most, last, l⟩ br hop me now = R
  go_enter Try.func22, Try.ntmps22
  unfold tbV
  obtain ⟨z0, z1, z2⟩ := hx2
  simp only at z0 z1 z2
  go_wp2_with fail
  refine (reffind_any (t := ⟨most, last, l⟩) hO2 (br := br) (hop := hop) (me := me) (by simp only; omega)).mono ?_
  rintro e w4 ⟨rfl, hw4⟩
  have hO4 := hO2.below hw4
  have hr4 := hr0.below hw4 hl2
  have x0 := cell_bel hw4 (Nat.lt_trans hl1 hl2) z0
  have x1 := cell_bel hw4 (Nat.lt_trans hl1 hl2) z1
  have x2 := cell_bel hw4 (Nat.lt_trans hl1 hl2) z2
  have hb4 := hB2.trans (hw4.mono hB2.size)
  obtain ⟨y0, y1, y2, f0, f1, f2⟩ := hr4.sv3
  have hlw : w.heap.size ≤ w1.heap.size := by omega
  have KEEP := hid (And.intro (sv_store3 hr4 (.int .i64 most) (.int .i64 last) (.slice oa l.length cap)) (sv_below3 hb4 w1.heap.size hlw (.int .i64 most) (.int .i64 last) (.slice oa l.length cap)))
  clear z0 z1 z2
  simp only
  have HO := hid h
  by_cases hnow : now < 0 ∨ 1099511627456 < now
  · have HV : Hid (R = _) := hR.symm.trans (start_arg (t := ⟨most, last, l⟩) hnow)
    clear hO4 hr4 hO2 hw4 hr0 hb4 hB2 hb2 hb1 h hbx hR
    rcases hnow with hnow | hnow
    · go_wp2
      generalize World.setCell _ _ _ = wA at KEEP ⊢
      obtain ⟨hrA, hbA⟩ := KEEP.out
      obtain ⟨d0, d1, d2, _, _, _⟩ := hrA.sv3
      try simp only [Exit.inBlock, Exit.then]
      refine bodyPost_ret (v := .tuple #[.agg #[.int .i64 most, .int .i64 last, .slice oa l.length cap], .int .i64 0, .int .i64 1]) (by simp [results, Try.results22, go_sem, d0, d1, d2]; try rfl) rfl ?_
      rw [HV.out]
      exact ⟨_, rfl, HO.out.below hbA, hbA⟩
    · have hn0 : ¬ (now < 0) := by omega
      go_wp2
      generalize World.setCell _ _ _ = wA at KEEP ⊢
      obtain ⟨hrA, hbA⟩ := KEEP.out
      obtain ⟨d0, d1, d2, _, _, _⟩ := hrA.sv3
      try simp only [Exit.inBlock, Exit.then]
      refine bodyPost_ret (v := .tuple #[.agg #[.int .i64 most, .int .i64 last, .slice oa l.length cap], .int .i64 0, .int .i64 1]) (by simp [results, Try.results22, go_sem, d0, d1, d2]; try rfl) rfl ?_
      rw [HV.out]
      exact ⟨_, rfl, HO.out.below hbA, hbA⟩
  have hn0 : ¬ (now < 0) := fun x => hnow (Or.inl x)
  have hn1 : ¬ (1099511627456 < now) := fun x => hnow (Or.inr x)
  cases hfd : (findT l br hop me).2
  · by_cases hfull : most ≤ l.length
    · have HV : Hid (R = _) := hR.symm.trans (start_full (t := ⟨most, last, l⟩) hnow (by simp only; rw [hfd]; simp) hfull)
      have hfu : (l.length : Int) ≥ most := hfull
      clear hO4 hr4 hO2 hw4 hr0 hb4 hB2 hb2 hb1 h hbx hR hnow
      go_wp2
      generalize World.setCell _ _ _ = wA at KEEP ⊢
      obtain ⟨hrA, hbA⟩ := KEEP.out
      obtain ⟨d0, d1, d2, _, _, _⟩ := hrA.sv3
      try simp only [Exit.inBlock, Exit.then]
      refine bodyPost_ret (v := .tuple #[.agg #[.int .i64 most, .int .i64 last, .slice oa l.length cap], .int .i64 0, .int .i64 5]) (by simp [results, Try.results22, go_sem, d0, d1, d2]; try rfl) rfl ?_
      rw [HV.out]
      exact ⟨_, rfl, HO.out.below hbA, hbA⟩
    · have HV : Hid (R = _) := hR.symm.trans (start_new (t := ⟨most, last, l⟩) hnow (by simp only; rw [hfd]; simp) hfull)
      have hfu : ¬ ((l.length : Int) ≥ most) := hfull
      have hb1' := hid hb2
      have HX := hid (And.intro hO4 (And.intro hr4 (And.intro hw4 (And.intro hB2 hbx))))
      clear hO4 hr4 hO2 hw4 hr0 hb4 hB2 hb2 hb1 h hbx hR hnow KEEP y0 y1 y2 f0 f1 f2
      go_wp2
      have hb5 : Below w4.heap.size w4 (w4.alloc (.cells #[.int .i64 (last + 1), .string ⟨br.toArray⟩, .string ⟨hop.toArray⟩, .string ⟨me.toArray⟩, .int .i64 (now + 320), .bool false, .string ⟨#[]⟩, .string ⟨#[]⟩] 71)) := (Below.refl _ w4).alloc (Nat.le_refl _) _
      have hl4 := alloc_lt w4 (.cells #[.int .i64 (last + 1), .string ⟨br.toArray⟩, .string ⟨hop.toArray⟩, .string ⟨me.toArray⟩, .int .i64 (now + 320), .bool false, .string ⟨#[]⟩, .string ⟨#[]⟩] 71)
      have hc5 : OwnC (w4.alloc (.cells #[.int .i64 (last + 1), .string ⟨br.toArray⟩, .string ⟨hop.toArray⟩, .string ⟨me.toArray⟩, .int .i64 (now + 320), .bool false, .string ⟨#[]⟩, .string ⟨#[]⟩] 71)) 0 (.slice (some ⟨w4.heap.size, 0, none⟩) 1 1) [newC ⟨most, last, l⟩ br hop me now] := OwnC.one w4 0 (Nat.zero_le _) (newC ⟨most, last, l⟩ br hop me now)
      generalize w4.alloc (.cells #[.int .i64 (last + 1), .string ⟨br.toArray⟩, .string ⟨hop.toArray⟩, .string ⟨me.toArray⟩, .int .i64 (now + 320), .bool false, .string ⟨#[]⟩, .string ⟨#[]⟩] 71) = w5 at hb5 hl4 hc5 ⊢
      obtain ⟨hO4, hr4, hw4, hB2, hbx⟩ := HX.out
      have hO5 := hO4.below hb5
      have hlw4 : w2.heap.size ≤ w4.heap.size := hw4.size
      have hb24 := hb1'.out
      have hr5 := hr4.below hb5 (Nat.lt_of_lt_of_le hl2 hlw4)
      have hbx5 := ((hbx.below hb24 hl1).below hw4 (Nat.lt_trans hl1 hl2)).below hb5 (by omega)
      have hbA5 := (hB2.trans (hw4.mono hB2.size)).trans (hb5.mono (Nat.le_trans hB2.size hlw4))
      have R5 := rd_of hbx5 hc5
      simp only at R5
      generalize hC : newC ⟨most, last, l⟩ br hop me now = C at *
      have hbt : w.heap.size < w5.heap.size := by omega
      have hBw5 : B ≤ w5.heap.size := by omega
      have hl15 : w1.heap.size < w5.heap.size := by omega
      obtain ⟨k, hkd⟩ : ∃ k : K9, k = ⟨C, most, last, l, .slice oa l.length cap, B, w.heap.size, w1.heap.size, w4.heap.size, w5.heap.size, w⟩ := ⟨_, rfl⟩
      have hk : k.Ok := by subst hkd; exact ⟨hbt, hl4, hl15, by simp only; omega, by simp only; omega, by simp only; omega, fun g e => (World.ownsRow.lt hO5 g e).2⟩
      have hfol : Try.prog.follows .mixedOrders = true := by kernel_rfl
      refine wp_region_name ?_
      intro ops hops
      have hlow : lowB .any ops = true := by rw [hops]; kernel_rfl
      have osz : ops.size = 18 := by rw [hops]; rfl
      have o0 := congrArg (fun x : Array Oper => x[0]?) hops
      have o1 := congrArg (fun x : Array Oper => x[1]?) hops
      have o2 := congrArg (fun x : Array Oper => x[2]?) hops
      have o3 := congrArg (fun x : Array Oper => x[3]?) hops
      have o4 := congrArg (fun x : Array Oper => x[4]?) hops
      have o5 := congrArg (fun x : Array Oper => x[5]?) hops
      have o6 := congrArg (fun x : Array Oper => x[6]?) hops
      have o7 := congrArg (fun x : Array Oper => x[7]?) hops
      have o8 := congrArg (fun x : Array Oper => x[8]?) hops
      have o9 := congrArg (fun x : Array Oper => x[9]?) hops
      have o10 := congrArg (fun x : Array Oper => x[10]?) hops
      have o11 := congrArg (fun x : Array Oper => x[11]?) hops
      have o12 := congrArg (fun x : Array Oper => x[12]?) hops
      have o13 := congrArg (fun x : Array Oper => x[13]?) hops
      have o14 := congrArg (fun x : Array Oper => x[14]?) hops
      have o15 := congrArg (fun x : Array Oper => x[15]?) hops
      have o16 := congrArg (fun x : Array Oper => x[16]?) hops
      have o17 := congrArg (fun x : Array Oper => x[17]?) hops
      simp only [List.getElem?_toArray, List.getElem?_cons_zero, List.getElem?_cons_succ] at o0 o1 o2 o3 o4 o5 o6 o7 o8 o9 o10 o11 o12 o13 o14 o15 o16 o17
      clear hops
      refine wp_region_inv hfol (Inv9 k) ?_ ?_ ?_
      · subst hkd
        have gz : ∀ j, (Array.replicate ops.size false).getD j false = false := fun j => by rw [Array.getD_eq_getD_getElem?, Array.getElem?_replicate]; split <;> rfl
        refine ⟨rfl, rfl, rfl, rfl, rfl, fun e _ hl => (by rw [gz] at hl; cases hl), ?_⟩
        rw [gz, gz, gz, gz, gz, gz]
        exact ⟨R5.below (Below.refl w5.heap.size w5).drew hbt hl4, hbA5.drew, Nat.le_refl _, hO5, by rw [if_neg (by decide)]; exact hr5, fun e => (by cases e), fun e => (by cases e), fun e => (by cases e), fun e => (by cases e), fun e => (by cases e), fun e => (by cases e), fun e => (by cases e), fun e => (by cases e), fun e => (by cases e)⟩
      · intro L a w9 hs hr hI
        have all := fun j (hj : j < 18) => all_listed hlow hs hr j (by rw [osz]; exact hj)
        have t10 := hI.t10
        have hdf := hI.df
        have q11 := hI.tab (16, 11, _) (by simp [T9]; rfl) (all 16 (by decide))
        have q12 := hI.tab (17, 12, _) (by simp [T9]; rfl) (all 17 (by decide))
        have hdy := hI.dyn
        have hrow := hdy.row
        rw [all 15 (by decide), if_pos rfl] at hrow
        have hown := hdy.o11 (all 11 (by decide))
        have hbel := hdy.bel
        subst hkd
        simp only at t10 q11 q12 hrow hown hbel
        obtain ⟨d0, d1, d2, _, _, _⟩ := hrow.sv3
        clear hI hdy all hr hs o0 o1 o2 o3 o4 o5 o6 o7 o8 o9 o10 o11 o12 o13 o14 o15 o16 o17 hlow
        generalize a.eval (.tmp 60) = x60 at hrow hown d2
        have r10 : a.tmps[10]?.getD undef = .pointer (some ⟨w1.heap.size, 0, none⟩) := by rw [← Array.getD_eq_getD_getElem?]; exact t10
        have r11 : a.tmps[11]?.getD undef = .int .i64 C.id := by rw [← Array.getD_eq_getD_getElem?]; exact q11
        have r12 : a.tmps[12]?.getD undef = .int .i64 0 := by rw [← Array.getD_eq_getD_getElem?]; exact q12
        try simp only [Exit.inBlock, Exit.then]
        go_wp2
        try simp only [Exit.inBlock, Exit.then]
        refine bodyPost_ret (v := .tuple #[.agg #[.int .i64 most, .int .i64 (last + 1), x60], .int .i64 C.id, .int .i64 0]) (by simp [results, Try.results22, go_sem, r10, r11, r12, d0, d1, d2]; try rfl) hdf ?_
        rw [HV.out]
        have hid9 : C.id = last + 1 := by rw [← hC]; rfl
        rw [hid9]
        exact ⟨_, rfl, sv_mono hown hBw5, hbel⟩
      · intro L a w9 i hs hi hI
        have S9 : Ops9 ops := ⟨osz, ⟨_, o0, rfl, rfl, rfl⟩, ⟨_, o1, rfl, rfl, rfl⟩, ⟨_, o2, rfl, rfl, rfl⟩, ⟨_, o3, rfl, rfl, rfl⟩, ⟨_, o4, rfl, rfl, rfl⟩, ⟨_, o5, rfl, rfl, rfl⟩, ⟨_, o6, rfl, rfl, rfl⟩, ⟨_, o7, rfl, rfl, rfl⟩, ⟨_, o8, rfl, rfl, rfl⟩, ⟨_, o9, rfl, rfl, rfl⟩, ⟨_, o10, rfl, rfl, rfl⟩, ⟨_, o11, rfl, rfl, rfl⟩, ⟨_, o12, rfl, rfl, rfl⟩, ⟨_, o13, rfl, rfl, rfl⟩, ⟨_, o14, rfl, rfl, rfl⟩, ⟨_, o15, rfl, rfl, rfl⟩, ⟨_, o16, rfl, rfl, rfl⟩, ⟨_, o17, rfl, rfl, rfl⟩, ⟨_, o1, { on := 0, ground := .data }, by simp, rfl, rfl⟩, ⟨_, o3, { on := 2, ground := .data }, by simp, rfl, rfl⟩, ⟨_, o4, { on := 3, ground := .data }, by simp, rfl, rfl⟩, ⟨_, o7, { on := 6, ground := .data }, by simp, rfl, rfl⟩, ⟨_, o8, { on := 5, ground := .data }, by simp, rfl, rfl⟩, ⟨_, o8, { on := 7, ground := .data }, by simp, rfl, rfl⟩, ⟨_, o10, { on := 9, ground := .data }, by simp, rfl, rfl⟩, ⟨_, o11, { on := 8, ground := .data }, by simp, rfl, rfl⟩, ⟨_, o11, { on := 10, ground := .data }, by simp, rfl, rfl⟩, ⟨_, o12, { on := 1, ground := .data }, by simp, rfl, rfl⟩, ⟨_, o12, { on := 4, ground := .data }, by simp, rfl, rfl⟩, ⟨_, o12, { on := 11, ground := .data }, by simp, rfl, rfl⟩, ⟨_, o14, { on := 13, ground := .data }, by simp, rfl, rfl⟩, ⟨_, o15, { on := 12, ground := .data }, by simp, rfl, rfl⟩, ⟨_, o15, { on := 11, ground := .chain }, by simp, rfl, rfl⟩, ⟨_, o15, { on := 8, ground := .phase }, by simp, rfl, rfl⟩, ⟨_, o16, { on := 14, ground := .data }, by simp, rfl, rfl⟩⟩
        subst hkd
        exact steps9 S9 hk hn hl0 hl9 _ L a w9 i hs hi hI
  · have HV : Hid (R = _) := hR.symm.trans (start_two (t := ⟨most, last, l⟩) hnow hfd)
    clear hO4 hr4 hO2 hw4 hr0 hb4 hB2 hb2 hb1 h hbx hR hnow
    go_wp2
    generalize World.setCell _ _ _ = wA at KEEP ⊢
    obtain ⟨hrA, hbA⟩ := KEEP.out
    obtain ⟨d0, d1, d2, _, _, _⟩ := hrA.sv3
    try simp only [Exit.inBlock, Exit.then]
    refine bodyPost_ret (v := .tuple #[.agg #[.int .i64 most, .int .i64 last, .slice oa l.length cap], .int .i64 0, .int .i64 7]) (by simp [results, Try.results22, go_sem, d0, d1, d2]; try rfl) rfl ?_
    rw [HV.out]
    exact ⟨_, rfl, HO.out.below hbA, hbA⟩
end Go.Proofs.Ytbnmdljlfldgoaa
