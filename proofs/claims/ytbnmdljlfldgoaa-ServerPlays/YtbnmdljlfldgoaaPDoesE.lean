/-
  A call of both: Expire.
-/
import Derived.Test.YtbnmdljlfldgoaaPBo
import Derived.Test.YtbnmdljlfldgoaaRege
namespace Go.Proofs.Ytbnmdljlfldgoaa
open Go.RowKit
set_option linter.unusedVariables false
set_option maxRecDepth 20000
set_option linter.unusedSimpArgs false

theorem far3 {w : World} {B e s n b : Nat} {v : Value} {xs us : List Value} (h : w.ownsRow B e s v n xs) (hr : RowIs w b 31 us) (hne : e ≠ 31) (v0 v1 v2 : Value) : (((w.setCell ⟨b, 0, none⟩ v0).setCell ⟨b, 1, none⟩ v1).setCell ⟨b, 2, none⟩ v2).ownsRow B e s v n xs := by
  obtain ⟨h1, h2⟩ := h
  refine ⟨h1, ?_⟩
  rcases h2 with h2 | ⟨g, cap, cur, hv, hg, hh, r⟩
  · exact Or.inl h2
  · have hgb : g ≠ b := fun e => by
      subst e
      unfold RowIs at hr
      rw [hr] at hh
      simp at hh
      exact hne hh.2.symm
    exact Or.inr ⟨g, cap, cur, hv, hg, by rw [set3_block w hgb]; exact hh, r⟩
set_option maxHeartbeats 2000000 in
set_option maxRecDepth 100000 in
theorem does_expire {B bt br : Nat} {w : World} {t : Tb} {v : Value} (h : Bo B bt br w t v) {c : Ac} (ka : AcOk 140737488351232 c) (hk0 : c.kind ≠ 0) (hk1 : c.kind ≠ 1) (hn : t.l.length ≤ 1000000) :
    Calls Try.prog 11 #[.pointer (some ⟨bt, 0, none⟩), .pointer (some ⟨br, 0, none⟩), acV c] w fun e w' => e = .returned (.bool true) ∧ (∃ v', Bo B bt br w' (expireT t c.now).1 v') ∧ FrD B w w' := by
  have hkb0 : (c.kind == 0) = false := by simpa using hk0
  have hkb1 : (c.kind == 1) = false := by simpa using hk1
  have la : ∀ {l : List UInt8}, l.length ≤ 140737488351232 → l.length ≤ 281474976710656 := fun h => by omega
  have ra := ac_row w c
  have hb1 : Below w.heap.size w (w.alloc (objA c)) := (Below.refl _ w).alloc (Nat.le_refl _) _
  have l1 := alloc_lt w (objA c)
  generalize hw1 : w.alloc (objA c) = w1 at ra hb1 l1
  have rs1 := sv_row2 w1 (.string ⟨c.hop.toArray⟩) (.string ⟨c.tx.toArray⟩) 39
  have hb2 : Below w1.heap.size w1 (w1.alloc (.cells #[.string ⟨c.hop.toArray⟩, .string ⟨c.tx.toArray⟩] 39)) := (Below.refl _ w1).alloc (Nat.le_refl _) _
  have l2 := alloc_lt w1 (.cells #[.string ⟨c.hop.toArray⟩, .string ⟨c.tx.toArray⟩] 39)
  obtain ⟨x0, x1, x2, x3, x4, x5, x6⟩ := ra.ac
  generalize hw2 : w1.alloc (.cells #[.string ⟨c.hop.toArray⟩, .string ⟨c.tx.toArray⟩] 39) = w2 at hb2 l2 rs1
  have ra2 := ra.below hb2 l1
  have hB2 := hb1.trans (hb2.mono hb1.size)
  have h2 := h.below hB2
  obtain ⟨z0, z1, z2, z3, z4, z5, z6⟩ := ra2.ac
  unfold objA at hw1
  have hst : ∃ t1 ids, expireT t c.now = (t1, ids) := ⟨_, _, rfl⟩
  obtain ⟨t1, ids, hst⟩ := hst
  have hil : ids.length ≤ 1000000 := by
    have e1 : ids = (expireT t c.now).2 := by rw [hst]
    rw [e1]
    unfold expireT
    simp only [List.length_map]
    exact Nat.le_trans (List.length_filter_le _ _) hn
  rw [hst]
  have HC : ∀ u : World, Below w2.heap.size w2 u → u.cell? ⟨br, 0, none⟩ = some (.int .i64 t.most) ∧ u.cell? ⟨br, 1, none⟩ = some (.int .i64 t.last) ∧ u.cell? ⟨br, 2, none⟩ = some v ∧ u.cell? ⟨w.heap.size, 5, none⟩ = some (.int .i64 c.now) := fun u hu => by
    obtain ⟨y0, y1, y2, _, _, _⟩ := (h2.row.below hu h2.row.lt).sv3
    obtain ⟨_, _, _, _, _, g5, _⟩ := (ra2.below hu ra2.lt).ac
    exact ⟨y0, y1, y2, g5⟩
  have KC : ∀ u : World, Below w2.heap.size w2 u → Calls Try.prog 24 #[.agg #[.int .i64 t.most, .int .i64 t.last, v], .int .i64 c.now] u fun e u' => ∃ x : (Option Addr × Nat) × (Option Addr × Nat), e = .returned (.tuple #[.agg #[.int .i64 t1.most, .int .i64 t1.last, .slice x.1.1 t1.l.length x.1.2], .slice x.2.1 ids.length x.2.2]) ∧ (OwnC u' B (.slice x.1.1 t1.l.length x.1.2) t1.l ∧ Own u' B 3 (.slice x.2.1 ids.length x.2.2) (idCells ids)) ∧ Below u.heap.size u u' := fun u hu => by
    have := refexpire_any (h2.own.below hu) (now := c.now) hn
    rw [hst] at this
    unfold tbV at this
    refine this.mono ?_
    rintro e u' ⟨v1, v2, rfl, ho, hi, hb⟩
    obtain ⟨oa, oc, rfl⟩ := ho.form
    obtain ⟨ob, od, hv2⟩ := hi.form
    rw [show (idCells (t1, ids).2).length = ids.length by simp [idCells]] at hv2
    subst hv2
    have hBu : B ≤ u.heap.size := Nat.le_trans h2.size hu.size
    exact ⟨((oa, oc), (ob, od)), rfl, ⟨ho.mono hBu, sv_mono hi hBu⟩, hb⟩
  have hfol : Try.prog.follows .mixedOrders = true := by kernel_rfl
  go_enter Try.func11, Try.ntmps11
  unfold acV
  go_wp2
  refine wp_region_name ?_
  intro ops hops
  have hlow : lowB .any ops = true := by rw [hops]; kernel_rfl
  have osz : ops.size = 12 := by rw [hops]; rfl
  have o0 := congrArg (fun x : Array Oper => x[0]?) hops
  have o1 := congrArg (fun x : Array Oper => x[1]?) hops
  have o2 := congrArg (fun x : Array Oper => x[2]?) hops
  have o3 := congrArg (fun x : Array Oper => x[3]?) hops
  have o4 := congrArg (fun x : Array Oper => x[4]?) hops
  have o5 := congrArg (fun x : Array Oper => x[5]?) hops
  have o6 := congrArg (fun x : Array Oper => x[6]?) hops
  have o7 := congrArg (fun x : Array Oper => x[7]?) hops
  have o8 := congrArg (fun x : Array Oper => x[8]?) hops
  have o9 := congrArg (fun x : Array Oper => x[9]?) hops
  have o10 := congrArg (fun x : Array Oper => x[10]?) hops
  have o11 := congrArg (fun x : Array Oper => x[11]?) hops
  simp only [List.getElem?_toArray, List.getElem?_cons_zero, List.getElem?_cons_succ] at o0 o1 o2 o3 o4 o5 o6 o7 o8 o9 o10 o11
  clear hops
  have SO : regeOps ops := ⟨osz, ⟨_, o0, rfl, rfl, rfl⟩, ⟨_, o1, rfl, rfl, rfl⟩, ⟨_, o2, rfl, rfl, rfl⟩, ⟨_, o3, rfl, rfl, rfl⟩, ⟨_, o4, rfl, rfl, rfl⟩, ⟨_, o5, rfl, rfl, rfl⟩, ⟨_, o6, rfl, rfl, rfl⟩, ⟨_, o7, rfl, rfl, rfl⟩, ⟨_, o8, rfl, rfl, rfl⟩, ⟨_, o11, rfl, rfl, rfl⟩, ⟨_, o9, rfl, rfl, rfl⟩, ⟨_, o10, rfl, rfl, rfl⟩, ⟨_, o1, { on := 0, ground := .data }, by simp, rfl, rfl⟩, ⟨_, o2, { on := 1, ground := .data }, by simp, rfl, rfl⟩, ⟨_, o4, { on := 3, ground := .data }, by simp, rfl, rfl⟩, ⟨_, o5, { on := 2, ground := .data }, by simp, rfl, rfl⟩, ⟨_, o5, { on := 4, ground := .data }, by simp, rfl, rfl⟩, ⟨_, o6, { on := 5, ground := .data }, by simp, rfl, rfl⟩, ⟨_, o7, { on := 6, ground := .data }, by simp, rfl, rfl⟩, ⟨_, o8, { on := 6, ground := .data }, by simp, rfl, rfl⟩, ⟨_, o11, { on := 8, ground := .data }, by simp, rfl, rfl⟩, ⟨_, o10, { on := 9, ground := .data }, by simp, rfl, rfl⟩, ⟨_, o10, { on := 7, ground := .data }, by simp, rfl, rfl⟩⟩
  clear o0 o1 o2 o3 o4 o5 o6 o7 o8 o9 o10 o11
  refine wp_region_inv hfol (fun L a w' => ∃ x nb, GI (regeP w2 B br w.heap.size t.most t.last v c.now t1 ids [(0, .pointer (some ⟨bt, 0, none⟩))]) L a w' x nb) ?_ ?_ (fun L a w' i hs hi hI => rege_steps SO w2 B br w.heap.size t.most t.last v c.now t1 ids _ HC KC (fun x u o hR => ⟨OwnC.alloc hR.1 o, Own.alloc hR.2 o⟩) (fun x u nb hR hr => ⟨own_far3 hR.1 hr _ _ _, far3 hR.2 hr (by decide) _ _ _⟩) (by intro e he; simp at he; subst he; simp) _ L a w' i hs hi hI)
  · refine ⟨((none, 0), (none, 0)), 0, ?_⟩
    refine GI.begin (p := regeP w2 B br w.heap.size t.most t.last v c.now t1 ids [(0, .pointer (some ⟨bt, 0, none⟩))]) ?_ ?_ ?_ _ _
    · rfl
    · rfl
    · intro e he
      simp [regeP] at he
      rcases he with rfl | rfl | rfl <;> rfl
  rintro L a w9 hs hr ⟨x, nb, hI⟩
  have all := fun j (hj : j < 12) => all_listed hlow hs hr j (by rw [osz]; exact hj)
  have k0 : a.eval (.tmp 0) = .pointer (some ⟨bt, 0, none⟩) := hI.base (0, _) (by simp [regeP])
  have k1 : a.eval (.tmp 1) = .pointer (some ⟨br, 0, none⟩) := hI.base (1, _) (by simp [regeP])
  have k5 : a.eval (.tmp 5) = .pointer (some ⟨w.heap.size, 0, none⟩) := hI.base (5, _) (by simp [regeP])
  have k17 : a.eval (.tmp 17) = .slice x.2.1 ids.length x.2.2 := hI.dyn (11, 17, _) (by simp [regeP]) (all 11 (by decide))
  obtain ⟨k8', hnb, hrow⟩ := hI.al (all 9 (by decide))
  have k16 : a.eval (.tmp 16) = .pointer (some ⟨nb, 0, none⟩) := k8'
  have hrow : RowIs w9 nb 31 [.int .i64 t1.most, .int .i64 t1.last, .slice x.1.1 t1.l.length x.1.2] := by
    rw [show L.getD (regeP w2 B br w.heap.size t.most t.last v c.now t1 ids [(0, .pointer (some ⟨bt, 0, none⟩))]).st false = true from all 10 (by decide), if_pos rfl] at hrow
    exact hrow
  have hown : OwnC w9 B (.slice x.1.1 t1.l.length x.1.2) t1.l ∧ Own w9 B 3 (.slice x.2.1 ids.length x.2.2) (idCells ids) := hI.r (all 5 (by decide))
  have hbel : Below w2.heap.size w2 w9 := hI.bel
  have ha := act_list hI.sz hI.df
  have hl : (List.range 108).map (fun s => a.eval (.tmp s)) = [a.eval (.tmp 0), a.eval (.tmp 1), a.eval (.tmp 2), a.eval (.tmp 3), a.eval (.tmp 4), a.eval (.tmp 5), a.eval (.tmp 6), a.eval (.tmp 7), a.eval (.tmp 8), a.eval (.tmp 9), a.eval (.tmp 10), a.eval (.tmp 11), a.eval (.tmp 12), a.eval (.tmp 13), a.eval (.tmp 14), a.eval (.tmp 15), a.eval (.tmp 16), a.eval (.tmp 17), a.eval (.tmp 18), a.eval (.tmp 19), a.eval (.tmp 20), a.eval (.tmp 21), a.eval (.tmp 22), a.eval (.tmp 23), a.eval (.tmp 24), a.eval (.tmp 25), a.eval (.tmp 26), a.eval (.tmp 27), a.eval (.tmp 28), a.eval (.tmp 29), a.eval (.tmp 30), a.eval (.tmp 31), a.eval (.tmp 32), a.eval (.tmp 33), a.eval (.tmp 34), a.eval (.tmp 35), a.eval (.tmp 36), a.eval (.tmp 37), a.eval (.tmp 38), a.eval (.tmp 39), a.eval (.tmp 40), a.eval (.tmp 41), a.eval (.tmp 42), a.eval (.tmp 43), a.eval (.tmp 44), a.eval (.tmp 45), a.eval (.tmp 46), a.eval (.tmp 47), a.eval (.tmp 48), a.eval (.tmp 49), a.eval (.tmp 50), a.eval (.tmp 51), a.eval (.tmp 52), a.eval (.tmp 53), a.eval (.tmp 54), a.eval (.tmp 55), a.eval (.tmp 56), a.eval (.tmp 57), a.eval (.tmp 58), a.eval (.tmp 59), a.eval (.tmp 60), a.eval (.tmp 61), a.eval (.tmp 62), a.eval (.tmp 63), a.eval (.tmp 64), a.eval (.tmp 65), a.eval (.tmp 66), a.eval (.tmp 67), a.eval (.tmp 68), a.eval (.tmp 69), a.eval (.tmp 70), a.eval (.tmp 71), a.eval (.tmp 72), a.eval (.tmp 73), a.eval (.tmp 74), a.eval (.tmp 75), a.eval (.tmp 76), a.eval (.tmp 77), a.eval (.tmp 78), a.eval (.tmp 79), a.eval (.tmp 80), a.eval (.tmp 81), a.eval (.tmp 82), a.eval (.tmp 83), a.eval (.tmp 84), a.eval (.tmp 85), a.eval (.tmp 86), a.eval (.tmp 87), a.eval (.tmp 88), a.eval (.tmp 89), a.eval (.tmp 90), a.eval (.tmp 91), a.eval (.tmp 92), a.eval (.tmp 93), a.eval (.tmp 94), a.eval (.tmp 95), a.eval (.tmp 96), a.eval (.tmp 97), a.eval (.tmp 98), a.eval (.tmp 99), a.eval (.tmp 100), a.eval (.tmp 101), a.eval (.tmp 102), a.eval (.tmp 103), a.eval (.tmp 104), a.eval (.tmp 105), a.eval (.tmp 106), a.eval (.tmp 107)] := rfl
  rw [show (regeP _ _ _ _ _ _ _ _ _ _ _ ).n = 108 from rfl, hl, k0, k1, k5, k16, k17] at ha
  generalize a.eval (.tmp 2) = u2 at ha
  generalize a.eval (.tmp 3) = u3 at ha
  generalize a.eval (.tmp 4) = u4 at ha
  generalize a.eval (.tmp 6) = u6 at ha
  generalize a.eval (.tmp 7) = u7 at ha
  generalize a.eval (.tmp 8) = u8 at ha
  generalize a.eval (.tmp 9) = u9 at ha
  generalize a.eval (.tmp 10) = u10 at ha
  generalize a.eval (.tmp 11) = u11 at ha
  generalize a.eval (.tmp 12) = u12 at ha
  generalize a.eval (.tmp 13) = u13 at ha
  generalize a.eval (.tmp 14) = u14 at ha
  generalize a.eval (.tmp 15) = u15 at ha
  generalize a.eval (.tmp 18) = u18 at ha
  generalize a.eval (.tmp 19) = u19 at ha
  generalize a.eval (.tmp 20) = u20 at ha
  generalize a.eval (.tmp 21) = u21 at ha
  generalize a.eval (.tmp 22) = u22 at ha
  generalize a.eval (.tmp 23) = u23 at ha
  generalize a.eval (.tmp 24) = u24 at ha
  generalize a.eval (.tmp 25) = u25 at ha
  generalize a.eval (.tmp 26) = u26 at ha
  generalize a.eval (.tmp 27) = u27 at ha
  generalize a.eval (.tmp 28) = u28 at ha
  generalize a.eval (.tmp 29) = u29 at ha
  generalize a.eval (.tmp 30) = u30 at ha
  generalize a.eval (.tmp 31) = u31 at ha
  generalize a.eval (.tmp 32) = u32 at ha
  generalize a.eval (.tmp 33) = u33 at ha
  generalize a.eval (.tmp 34) = u34 at ha
  generalize a.eval (.tmp 35) = u35 at ha
  generalize a.eval (.tmp 36) = u36 at ha
  generalize a.eval (.tmp 37) = u37 at ha
  generalize a.eval (.tmp 38) = u38 at ha
  generalize a.eval (.tmp 39) = u39 at ha
  generalize a.eval (.tmp 40) = u40 at ha
  generalize a.eval (.tmp 41) = u41 at ha
  generalize a.eval (.tmp 42) = u42 at ha
  generalize a.eval (.tmp 43) = u43 at ha
  generalize a.eval (.tmp 44) = u44 at ha
  generalize a.eval (.tmp 45) = u45 at ha
  generalize a.eval (.tmp 46) = u46 at ha
  generalize a.eval (.tmp 47) = u47 at ha
  generalize a.eval (.tmp 48) = u48 at ha
  generalize a.eval (.tmp 49) = u49 at ha
  generalize a.eval (.tmp 50) = u50 at ha
  generalize a.eval (.tmp 51) = u51 at ha
  generalize a.eval (.tmp 52) = u52 at ha
  generalize a.eval (.tmp 53) = u53 at ha
  generalize a.eval (.tmp 54) = u54 at ha
  generalize a.eval (.tmp 55) = u55 at ha
  generalize a.eval (.tmp 56) = u56 at ha
  generalize a.eval (.tmp 57) = u57 at ha
  generalize a.eval (.tmp 58) = u58 at ha
  generalize a.eval (.tmp 59) = u59 at ha
  generalize a.eval (.tmp 60) = u60 at ha
  generalize a.eval (.tmp 61) = u61 at ha
  generalize a.eval (.tmp 62) = u62 at ha
  generalize a.eval (.tmp 63) = u63 at ha
  generalize a.eval (.tmp 64) = u64 at ha
  generalize a.eval (.tmp 65) = u65 at ha
  generalize a.eval (.tmp 66) = u66 at ha
  generalize a.eval (.tmp 67) = u67 at ha
  generalize a.eval (.tmp 68) = u68 at ha
  generalize a.eval (.tmp 69) = u69 at ha
  generalize a.eval (.tmp 70) = u70 at ha
  generalize a.eval (.tmp 71) = u71 at ha
  generalize a.eval (.tmp 72) = u72 at ha
  generalize a.eval (.tmp 73) = u73 at ha
  generalize a.eval (.tmp 74) = u74 at ha
  generalize a.eval (.tmp 75) = u75 at ha
  generalize a.eval (.tmp 76) = u76 at ha
  generalize a.eval (.tmp 77) = u77 at ha
  generalize a.eval (.tmp 78) = u78 at ha
  generalize a.eval (.tmp 79) = u79 at ha
  generalize a.eval (.tmp 80) = u80 at ha
  generalize a.eval (.tmp 81) = u81 at ha
  generalize a.eval (.tmp 82) = u82 at ha
  generalize a.eval (.tmp 83) = u83 at ha
  generalize a.eval (.tmp 84) = u84 at ha
  generalize a.eval (.tmp 85) = u85 at ha
  generalize a.eval (.tmp 86) = u86 at ha
  generalize a.eval (.tmp 87) = u87 at ha
  generalize a.eval (.tmp 88) = u88 at ha
  generalize a.eval (.tmp 89) = u89 at ha
  generalize a.eval (.tmp 90) = u90 at ha
  generalize a.eval (.tmp 91) = u91 at ha
  generalize a.eval (.tmp 92) = u92 at ha
  generalize a.eval (.tmp 93) = u93 at ha
  generalize a.eval (.tmp 94) = u94 at ha
  generalize a.eval (.tmp 95) = u95 at ha
  generalize a.eval (.tmp 96) = u96 at ha
  generalize a.eval (.tmp 97) = u97 at ha
  generalize a.eval (.tmp 98) = u98 at ha
  generalize a.eval (.tmp 99) = u99 at ha
  generalize a.eval (.tmp 100) = u100 at ha
  generalize a.eval (.tmp 101) = u101 at ha
  generalize a.eval (.tmp 102) = u102 at ha
  generalize a.eval (.tmp 103) = u103 at ha
  generalize a.eval (.tmp 104) = u104 at ha
  generalize a.eval (.tmp 105) = u105 at ha
  generalize a.eval (.tmp 106) = u106 at ha
  generalize a.eval (.tmp 107) = u107 at ha
  subst ha
  have h9 := h2.below hbel
  have ra9 := ra2.below hbel ra2.lt
  have hbr := h9.lo
  have hsz : B ≤ w.heap.size := h.size
  have B9 := hB2.trans (hbel.mono hB2.size)
  have hcc : Chg (fun k => k = br) w9 (((w9.setCell ⟨br, 0, none⟩ (.int .i64 t1.most)).setCell ⟨br, 1, none⟩ (.int .i64 t1.last)).setCell ⟨br, 2, none⟩ (.slice x.1.1 t1.l.length x.1.2)) := (((Chg.refl (fun k => k = br) w9).setCell (p := ⟨br, 0, none⟩) (fun _ => rfl) _).setCell (p := ⟨br, 1, none⟩) (fun _ => rfl) _).setCell (p := ⟨br, 2, none⟩) (fun _ => rfl) _
  have T9' := h9.tab.put h9.row (by decide) (by decide) (by decide) (by decide) hcc
  have row9 := sv_store3 h9.row (.int .i64 t1.most) (.int .i64 t1.last) (.slice x.1.1 t1.l.length x.1.2)
  have own9 := own_far3 hown.1 h9.row (.int .i64 t1.most) (.int .i64 t1.last) (.slice x.1.1 t1.l.length x.1.2)
  have ids9 := far3 hown.2 h9.row (by decide) (.int .i64 t1.most) (.int .i64 t1.last) (.slice x.1.1 t1.l.length x.1.2)
  have ra10 := ra9.chg hcc (fun e => by
    have hx := h9.row
    rw [← e] at hx
    unfold RowIs at hx ra9
    rw [hx] at ra9
    simp at ra9)
  have BF9 := (FrS.of B9 hsz).frd.trans (FrD.put3 h9.row hbr (.int .i64 t1.most) (.int .i64 t1.last) (.slice x.1.1 t1.l.length x.1.2))
  obtain ⟨d0, d1, d2, _, _, _⟩ := hrow.sv3
  obtain ⟨e0, e1, e2, f0, f1, f2⟩ := h9.row.sv3
  generalize hw10 : ((w9.setCell ⟨br, 0, none⟩ (.int .i64 t1.most)).setCell ⟨br, 1, none⟩ (.int .i64 t1.last)).setCell ⟨br, 2, none⟩ (.slice x.1.1 t1.l.length x.1.2) = w10 at T9' row9 own9 ids9 ra10 BF9
  have g5 := ra10.ac.c5
  have KS := hid (expire_is T9' hst)
  have R10 := hid row9
  have O10 : Hid (OwnC w10 B (.slice x.1.1 t1.l.length x.1.2) t1.l) := own9
  have I10 : Hid (Own w10 B 3 (.slice x.2.1 ids.length x.2.2) (idCells ids)) := ids9
  have BF := hid BF9
  have lo10 : Hid (B ≤ w10.heap.size) := T9'.lo
  clear hI all hs hr HC KC h h2 ra ra2 hB2 hb1 hb2 hbel k0 k1 k5 k8' k16 k17 x0 x1 x2 x3 x4 x5 x6 z0 z1 z2 z3 z4 z5 z6 rs1 SO hlow osz h9 hcc T9' row9 own9 ids9 BF9 ra9 ra10 hrow hown B9
  go_wp2_with fail
  refine KS.out.mono ?_
  rintro e w11 ⟨oa, oc, rfl, O11, T11, F11⟩
  have I11 := own_ids O11
  have J11 : IdsAt w11 (.slice x.2.1 ids.length x.2.2) ids := own_ids (show Own w11 B 3 _ _ from F11.own I10.out (by decide) (by decide) (by decide) (by decide))
  have KI := hid (refints_any I11 J11 hil hil)
  have FIN : Hid (Bo B bt br w11 t1 (.slice x.1.1 t1.l.length x.1.2)) := ⟨T11, F11.row R10.out (by decide) (by decide) (by decide) (by decide), F11.own O10.out (by decide) (by decide) (by decide) (by decide), hbr⟩
  have BF11 := hid (BF.out.trans F11.frd)
  rw [decide_eq_true (rfl : ids = ids)] at KI
  have lo11 : Hid (B ≤ w11.heap.size) := T11.lo
  clear KS O11 T11 F11 I11 J11 I10 O10 R10 BF g5
  go_wp2_with fail
  refine KI.out.mono ?_
  rintro e w12 ⟨rfl, hb12⟩
  have FF := hid (FIN.out.below hb12)
  have BB := hid (BF11.out.trans (FrS.of hb12 lo11.out).frd)
  clear hb12 KI
  go_wp2
  go_ret
  exact ⟨rfl, ⟨_, FF.out⟩, BB.out⟩
end Go.Proofs.Ytbnmdljlfldgoaa
