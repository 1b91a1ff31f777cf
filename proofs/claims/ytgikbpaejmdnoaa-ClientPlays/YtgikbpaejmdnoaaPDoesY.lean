/-
  A call of both: Response (layer 12).
-/
import Derived.Test.YtgikbpaejmdnoaaPBq
import Derived.Test.YtgikbpaejmdnoaaRegy
namespace Go.Proofs.Ytgikbpaejmdnoaa
open Go.RowKit
set_option linter.unusedVariables false
set_option maxRecDepth 20000
set_option linter.unusedSimpArgs false

set_option maxHeartbeats 2000000 in
set_option maxRecDepth 100000 in
theorem does_respq {B bt br : Nat} {w : World} {t : Tq} {v : Value} (h : Bq B bt br w t v) {c : Aq} (ka : AqOk 140737488351232 c) (hkind : c.kind = 1) (hn : t.l.length ≤ 1000000) :
    Calls Try.prog 10 #[.pointer (some ⟨bt, 0, none⟩), .pointer (some ⟨br, 0, none⟩), aqV c] w fun e w' => e = .returned (.bool true) ∧ (∃ v', Bq B bt br w' (respQ t c.br c.st c.now).1 v') ∧ FrE B w w' := by
  have la : ∀ {l : List UInt8}, l.length ≤ 140737488351232 → l.length ≤ 281474976710656 := fun h => by omega
  have ra := aq_row w c
  have hb1 : Below w.heap.size w (w.alloc (objAq c)) := (Below.refl _ w).alloc (Nat.le_refl _) _
  have l1 := alloc_lt w (objAq c)
  generalize hw1 : w.alloc (objAq c) = w1 at ra hb1 l1
  obtain ⟨x0, x1, x2, x3, x4, _, _, _, _, _⟩ := ra.aq
  obtain ⟨w2, hw2⟩ : ∃ w2, w2 = w1 := ⟨_, rfl⟩
  have ra2 := ra
  have hB2 := hb1
  have h2 := h.below hB2
  unfold objAq at hw1
  rw [← hw2] at ra2 hB2 h2
  rw [hkind] at hw1
  have hst : ∃ t1 n1 y1 m1, respQ t c.br c.st c.now = (t1, n1, y1, m1) := ⟨_, _, _, _, rfl⟩
  obtain ⟨t1, n1, y1, m1, hst⟩ := hst
  rw [hst]
  have HC : ∀ u : World, Below w2.heap.size w2 u → u.cell? ⟨br, 0, none⟩ = some (.int .i64 t.most) ∧ u.cell? ⟨br, 1, none⟩ = some (.int .i64 t.last) ∧ u.cell? ⟨br, 2, none⟩ = some v ∧ u.cell? ⟨w.heap.size, 1, none⟩ = some (.string ⟨c.br.toArray⟩) ∧ u.cell? ⟨w.heap.size, 2, none⟩ = some (.int .i64 c.st) ∧ u.cell? ⟨w.heap.size, 3, none⟩ = some (.int .i64 c.now) := fun u hu => by
    obtain ⟨y0, y1, y2, _, _, _⟩ := (h2.row.below hu h2.row.bl).sv3
    obtain ⟨_, g1, g2, g3, _, _, _, _, _, _⟩ := (ra2.below hu ra2.bl).aq
    exact ⟨y0, y1, y2, g1, g2, g3⟩
  have KC : ∀ u : World, Below w2.heap.size w2 u → Calls Try.prog 21 #[.agg #[.int .i64 t.most, .int .i64 t.last, v], .string ⟨c.br.toArray⟩, .int .i64 c.st, .int .i64 c.now] u fun e u' => ∃ x : Option Addr × Nat, e = .returned (.tuple #[.agg #[.int .i64 t1.most, .int .i64 t1.last, .slice x.1 t1.l.length x.2], .int .i64 n1, .bool y1, .int .i64 m1]) ∧ OwnQ u' B (.slice x.1 t1.l.length x.2) t1.l ∧ Below u.heap.size u u' := fun u hu => by
    have := refrespq_any (h2.own.below hu) (Nat.le_trans h2.size hu.size) (br := c.br) (s := c.st) (now := c.now) hn
    rw [hst] at this
    unfold TqRes4 tqV at this
    refine this.mono ?_
    rintro e u' ⟨v1, rfl, ho, hb⟩
    obtain ⟨oa, oc, rfl⟩ := ho.form
    exact ⟨(oa, oc), rfl, ho, hb⟩
  subst hw2
  have hfol : Try.prog.follows .mixedOrders = true := by kernel_rfl
  go_enter Try.func10, Try.ntmps10
  unfold aqV
  go_wp2
  refine wp_region_name ?_
  intro ops hops
  have hlow : lowB .any ops = true := by rw [hops]; kernel_rfl
  have osz : ops.size = 20 := by rw [hops]; rfl
  have o0 := congrArg (fun x : Array Oper => x[0]?) hops
  have o1 := congrArg (fun x : Array Oper => x[1]?) hops
  have o2 := congrArg (fun x : Array Oper => x[2]?) hops
  have o3 := congrArg (fun x : Array Oper => x[3]?) hops
  have o4 := congrArg (fun x : Array Oper => x[4]?) hops
  have o5 := congrArg (fun x : Array Oper => x[5]?) hops
  have o6 := congrArg (fun x : Array Oper => x[6]?) hops
  have o7 := congrArg (fun x : Array Oper => x[7]?) hops
  have o8 := congrArg (fun x : Array Oper => x[8]?) hops
  have o9 := congrArg (fun x : Array Oper => x[9]?) hops
  have o10 := congrArg (fun x : Array Oper => x[10]?) hops
  have o11 := congrArg (fun x : Array Oper => x[11]?) hops
  have o12 := congrArg (fun x : Array Oper => x[12]?) hops
  have o13 := congrArg (fun x : Array Oper => x[13]?) hops
  have o14 := congrArg (fun x : Array Oper => x[14]?) hops
  have o15 := congrArg (fun x : Array Oper => x[15]?) hops
  have o16 := congrArg (fun x : Array Oper => x[16]?) hops
  have o17 := congrArg (fun x : Array Oper => x[17]?) hops
  have o18 := congrArg (fun x : Array Oper => x[18]?) hops
  have o19 := congrArg (fun x : Array Oper => x[19]?) hops
  simp only [List.getElem?_toArray, List.getElem?_cons_zero, List.getElem?_cons_succ] at o0 o1 o2 o3 o4 o5 o6 o7 o8 o9 o10 o11 o12 o13 o14 o15 o16 o17 o18 o19
  clear hops
  have SO : regyOps ops := ⟨osz, ⟨_, o0, rfl, rfl, rfl⟩, ⟨_, o1, rfl, rfl, rfl⟩, ⟨_, o2, rfl, rfl, rfl⟩, ⟨_, o3, rfl, rfl, rfl⟩, ⟨_, o4, rfl, rfl, rfl⟩, ⟨_, o5, rfl, rfl, rfl⟩, ⟨_, o6, rfl, rfl, rfl⟩, ⟨_, o7, rfl, rfl, rfl⟩, ⟨_, o8, rfl, rfl, rfl⟩, ⟨_, o9, rfl, rfl, rfl⟩, ⟨_, o10, rfl, rfl, rfl⟩, ⟨_, o11, rfl, rfl, rfl⟩, ⟨_, o12, rfl, rfl, rfl⟩, ⟨_, o13, rfl, rfl, rfl⟩, ⟨_, o14, rfl, rfl, rfl⟩, ⟨_, o17, rfl, rfl, rfl⟩, ⟨_, o18, rfl, rfl, rfl⟩, ⟨_, o19, rfl, rfl, rfl⟩, ⟨_, o15, rfl, rfl, rfl⟩, ⟨_, o16, rfl, rfl, rfl⟩, ⟨_, o1, { on := 0, ground := .data }, by simp, rfl, rfl⟩, ⟨_, o2, { on := 1, ground := .data }, by simp, rfl, rfl⟩, ⟨_, o4, { on := 3, ground := .data }, by simp, rfl, rfl⟩, ⟨_, o6, { on := 5, ground := .data }, by simp, rfl, rfl⟩, ⟨_, o8, { on := 7, ground := .data }, by simp, rfl, rfl⟩, ⟨_, o9, { on := 2, ground := .data }, by simp, rfl, rfl⟩, ⟨_, o9, { on := 4, ground := .data }, by simp, rfl, rfl⟩, ⟨_, o9, { on := 6, ground := .data }, by simp, rfl, rfl⟩, ⟨_, o9, { on := 8, ground := .data }, by simp, rfl, rfl⟩, ⟨_, o10, { on := 9, ground := .data }, by simp, rfl, rfl⟩, ⟨_, o11, { on := 10, ground := .data }, by simp, rfl, rfl⟩, ⟨_, o12, { on := 10, ground := .data }, by simp, rfl, rfl⟩, ⟨_, o13, { on := 10, ground := .data }, by simp, rfl, rfl⟩, ⟨_, o14, { on := 10, ground := .data }, by simp, rfl, rfl⟩, ⟨_, o17, { on := 12, ground := .data }, by simp, rfl, rfl⟩, ⟨_, o18, { on := 13, ground := .data }, by simp, rfl, rfl⟩, ⟨_, o19, { on := 14, ground := .data }, by simp, rfl, rfl⟩, ⟨_, o16, { on := 15, ground := .data }, by simp, rfl, rfl⟩, ⟨_, o16, { on := 11, ground := .data }, by simp, rfl, rfl⟩⟩
  clear o0 o1 o2 o3 o4 o5 o6 o7 o8 o9 o10 o11 o12 o13 o14 o15 o16 o17 o18 o19
  refine wp_region_inv hfol (fun L a w' => ∃ x nb, GI (regyP w2 B br w.heap.size t.most t.last v c.br c.st c.now t1 n1 y1 m1 [(0, .pointer (some ⟨bt, 0, none⟩))]) L a w' x nb) ?_ ?_ (fun L a w' i hs hi hI => regy_steps SO w2 B br w.heap.size t.most t.last v c.br c.st c.now t1 n1 y1 m1 _ HC KC (fun x u o hR => OwnQ.alloc hR o) (fun x u nb hR hr => rows_far3 neCT hR hr _ _ _) (by intro e he; simp at he; subst he; simp) _ L a w' i hs hi hI)
  · refine ⟨(none, 0), 0, ?_⟩
    refine GI.begin (p := regyP w2 B br w.heap.size t.most t.last v c.br c.st c.now t1 n1 y1 m1 [(0, .pointer (some ⟨bt, 0, none⟩))]) ?_ ?_ ?_ _ _
    · rfl
    · rfl
    · intro e he
      simp [regyP] at he
      rcases he with rfl | rfl | rfl <;> rfl
  rintro L a w9 hs hr ⟨x, nb, hI⟩
  have all := fun j (hj : j < 20) => all_listed hlow hs hr j (by rw [osz]; exact hj)
  have k0 : a.eval (.tmp 0) = .pointer (some ⟨bt, 0, none⟩) := hI.base (0, _) (by simp [regyP])
  have k1 : a.eval (.tmp 1) = .pointer (some ⟨br, 0, none⟩) := hI.base (1, _) (by simp [regyP])
  have k5 : a.eval (.tmp 5) = .pointer (some ⟨w.heap.size, 0, none⟩) := hI.base (5, _) (by simp [regyP])
  have k14 : a.eval (.tmp 14) = .int .i64 n1 := hI.dyn (17, 14, _) (by simp [regyP]) (all 17 (by decide))
  have k15 : a.eval (.tmp 15) = .bool y1 := hI.dyn (18, 15, _) (by simp [regyP]) (all 18 (by decide))
  have k16 : a.eval (.tmp 16) = .int .i64 m1 := hI.dyn (19, 16, _) (by simp [regyP]) (all 19 (by decide))
  obtain ⟨k8', hnb, hrow⟩ := hI.al (all 15 (by decide))
  have k13 : a.eval (.tmp 13) = .pointer (some ⟨nb, 0, none⟩) := k8'
  have hrow : RowIs w9 nb 31 [.int .i64 t1.most, .int .i64 t1.last, .slice x.1 t1.l.length x.2] := by
    rw [show L.getD (regyP w2 B br w.heap.size t.most t.last v c.br c.st c.now t1 n1 y1 m1 [(0, .pointer (some ⟨bt, 0, none⟩))]).st false = true from all 16 (by decide), if_pos rfl] at hrow
    exact hrow
  have hown : OwnQ w9 B (.slice x.1 t1.l.length x.2) t1.l := hI.r (all 9 (by decide))
  have hbel := hI.bel
  have ha := act_list hI.sz hI.df
  have hl : (List.range 128).map (fun s => a.eval (.tmp s)) = [a.eval (.tmp 0), a.eval (.tmp 1), a.eval (.tmp 2), a.eval (.tmp 3), a.eval (.tmp 4), a.eval (.tmp 5), a.eval (.tmp 6), a.eval (.tmp 7), a.eval (.tmp 8), a.eval (.tmp 9), a.eval (.tmp 10), a.eval (.tmp 11), a.eval (.tmp 12), a.eval (.tmp 13), a.eval (.tmp 14), a.eval (.tmp 15), a.eval (.tmp 16), a.eval (.tmp 17), a.eval (.tmp 18), a.eval (.tmp 19), a.eval (.tmp 20), a.eval (.tmp 21), a.eval (.tmp 22), a.eval (.tmp 23), a.eval (.tmp 24), a.eval (.tmp 25), a.eval (.tmp 26), a.eval (.tmp 27), a.eval (.tmp 28), a.eval (.tmp 29), a.eval (.tmp 30), a.eval (.tmp 31), a.eval (.tmp 32), a.eval (.tmp 33), a.eval (.tmp 34), a.eval (.tmp 35), a.eval (.tmp 36), a.eval (.tmp 37), a.eval (.tmp 38), a.eval (.tmp 39), a.eval (.tmp 40), a.eval (.tmp 41), a.eval (.tmp 42), a.eval (.tmp 43), a.eval (.tmp 44), a.eval (.tmp 45), a.eval (.tmp 46), a.eval (.tmp 47), a.eval (.tmp 48), a.eval (.tmp 49), a.eval (.tmp 50), a.eval (.tmp 51), a.eval (.tmp 52), a.eval (.tmp 53), a.eval (.tmp 54), a.eval (.tmp 55), a.eval (.tmp 56), a.eval (.tmp 57), a.eval (.tmp 58), a.eval (.tmp 59), a.eval (.tmp 60), a.eval (.tmp 61), a.eval (.tmp 62), a.eval (.tmp 63), a.eval (.tmp 64), a.eval (.tmp 65), a.eval (.tmp 66), a.eval (.tmp 67), a.eval (.tmp 68), a.eval (.tmp 69), a.eval (.tmp 70), a.eval (.tmp 71), a.eval (.tmp 72), a.eval (.tmp 73), a.eval (.tmp 74), a.eval (.tmp 75), a.eval (.tmp 76), a.eval (.tmp 77), a.eval (.tmp 78), a.eval (.tmp 79), a.eval (.tmp 80), a.eval (.tmp 81), a.eval (.tmp 82), a.eval (.tmp 83), a.eval (.tmp 84), a.eval (.tmp 85), a.eval (.tmp 86), a.eval (.tmp 87), a.eval (.tmp 88), a.eval (.tmp 89), a.eval (.tmp 90), a.eval (.tmp 91), a.eval (.tmp 92), a.eval (.tmp 93), a.eval (.tmp 94), a.eval (.tmp 95), a.eval (.tmp 96), a.eval (.tmp 97), a.eval (.tmp 98), a.eval (.tmp 99), a.eval (.tmp 100), a.eval (.tmp 101), a.eval (.tmp 102), a.eval (.tmp 103), a.eval (.tmp 104), a.eval (.tmp 105), a.eval (.tmp 106), a.eval (.tmp 107), a.eval (.tmp 108), a.eval (.tmp 109), a.eval (.tmp 110), a.eval (.tmp 111), a.eval (.tmp 112), a.eval (.tmp 113), a.eval (.tmp 114), a.eval (.tmp 115), a.eval (.tmp 116), a.eval (.tmp 117), a.eval (.tmp 118), a.eval (.tmp 119), a.eval (.tmp 120), a.eval (.tmp 121), a.eval (.tmp 122), a.eval (.tmp 123), a.eval (.tmp 124), a.eval (.tmp 125), a.eval (.tmp 126), a.eval (.tmp 127)] := rfl
  rw [show (regyP _ _ _ _ _ _ _ _ _ _ _ _ _ _ _ ).n = 128 from rfl, hl, k0, k1, k5, k13, k14, k15, k16] at ha
  generalize a.eval (.tmp 2) = u2 at ha
  generalize a.eval (.tmp 3) = u3 at ha
  generalize a.eval (.tmp 4) = u4 at ha
  generalize a.eval (.tmp 6) = u6 at ha
  generalize a.eval (.tmp 7) = u7 at ha
  generalize a.eval (.tmp 8) = u8 at ha
  generalize a.eval (.tmp 9) = u9 at ha
  generalize a.eval (.tmp 10) = u10 at ha
  generalize a.eval (.tmp 11) = u11 at ha
  generalize a.eval (.tmp 12) = u12 at ha
  generalize a.eval (.tmp 17) = u17 at ha
  generalize a.eval (.tmp 18) = u18 at ha
  generalize a.eval (.tmp 19) = u19 at ha
  generalize a.eval (.tmp 20) = u20 at ha
  generalize a.eval (.tmp 21) = u21 at ha
  generalize a.eval (.tmp 22) = u22 at ha
  generalize a.eval (.tmp 23) = u23 at ha
  generalize a.eval (.tmp 24) = u24 at ha
  generalize a.eval (.tmp 25) = u25 at ha
  generalize a.eval (.tmp 26) = u26 at ha
  generalize a.eval (.tmp 27) = u27 at ha
  generalize a.eval (.tmp 28) = u28 at ha
  generalize a.eval (.tmp 29) = u29 at ha
  generalize a.eval (.tmp 30) = u30 at ha
  generalize a.eval (.tmp 31) = u31 at ha
  generalize a.eval (.tmp 32) = u32 at ha
  generalize a.eval (.tmp 33) = u33 at ha
  generalize a.eval (.tmp 34) = u34 at ha
  generalize a.eval (.tmp 35) = u35 at ha
  generalize a.eval (.tmp 36) = u36 at ha
  generalize a.eval (.tmp 37) = u37 at ha
  generalize a.eval (.tmp 38) = u38 at ha
  generalize a.eval (.tmp 39) = u39 at ha
  generalize a.eval (.tmp 40) = u40 at ha
  generalize a.eval (.tmp 41) = u41 at ha
  generalize a.eval (.tmp 42) = u42 at ha
  generalize a.eval (.tmp 43) = u43 at ha
  generalize a.eval (.tmp 44) = u44 at ha
  generalize a.eval (.tmp 45) = u45 at ha
  generalize a.eval (.tmp 46) = u46 at ha
  generalize a.eval (.tmp 47) = u47 at ha
  generalize a.eval (.tmp 48) = u48 at ha
  generalize a.eval (.tmp 49) = u49 at ha
  generalize a.eval (.tmp 50) = u50 at ha
  generalize a.eval (.tmp 51) = u51 at ha
  generalize a.eval (.tmp 52) = u52 at ha
  generalize a.eval (.tmp 53) = u53 at ha
  generalize a.eval (.tmp 54) = u54 at ha
  generalize a.eval (.tmp 55) = u55 at ha
  generalize a.eval (.tmp 56) = u56 at ha
  generalize a.eval (.tmp 57) = u57 at ha
  generalize a.eval (.tmp 58) = u58 at ha
  generalize a.eval (.tmp 59) = u59 at ha
  generalize a.eval (.tmp 60) = u60 at ha
  generalize a.eval (.tmp 61) = u61 at ha
  generalize a.eval (.tmp 62) = u62 at ha
  generalize a.eval (.tmp 63) = u63 at ha
  generalize a.eval (.tmp 64) = u64 at ha
  generalize a.eval (.tmp 65) = u65 at ha
  generalize a.eval (.tmp 66) = u66 at ha
  generalize a.eval (.tmp 67) = u67 at ha
  generalize a.eval (.tmp 68) = u68 at ha
  generalize a.eval (.tmp 69) = u69 at ha
  generalize a.eval (.tmp 70) = u70 at ha
  generalize a.eval (.tmp 71) = u71 at ha
  generalize a.eval (.tmp 72) = u72 at ha
  generalize a.eval (.tmp 73) = u73 at ha
  generalize a.eval (.tmp 74) = u74 at ha
  generalize a.eval (.tmp 75) = u75 at ha
  generalize a.eval (.tmp 76) = u76 at ha
  generalize a.eval (.tmp 77) = u77 at ha
  generalize a.eval (.tmp 78) = u78 at ha
  generalize a.eval (.tmp 79) = u79 at ha
  generalize a.eval (.tmp 80) = u80 at ha
  generalize a.eval (.tmp 81) = u81 at ha
  generalize a.eval (.tmp 82) = u82 at ha
  generalize a.eval (.tmp 83) = u83 at ha
  generalize a.eval (.tmp 84) = u84 at ha
  generalize a.eval (.tmp 85) = u85 at ha
  generalize a.eval (.tmp 86) = u86 at ha
  generalize a.eval (.tmp 87) = u87 at ha
  generalize a.eval (.tmp 88) = u88 at ha
  generalize a.eval (.tmp 89) = u89 at ha
  generalize a.eval (.tmp 90) = u90 at ha
  generalize a.eval (.tmp 91) = u91 at ha
  generalize a.eval (.tmp 92) = u92 at ha
  generalize a.eval (.tmp 93) = u93 at ha
  generalize a.eval (.tmp 94) = u94 at ha
  generalize a.eval (.tmp 95) = u95 at ha
  generalize a.eval (.tmp 96) = u96 at ha
  generalize a.eval (.tmp 97) = u97 at ha
  generalize a.eval (.tmp 98) = u98 at ha
  generalize a.eval (.tmp 99) = u99 at ha
  generalize a.eval (.tmp 100) = u100 at ha
  generalize a.eval (.tmp 101) = u101 at ha
  generalize a.eval (.tmp 102) = u102 at ha
  generalize a.eval (.tmp 103) = u103 at ha
  generalize a.eval (.tmp 104) = u104 at ha
  generalize a.eval (.tmp 105) = u105 at ha
  generalize a.eval (.tmp 106) = u106 at ha
  generalize a.eval (.tmp 107) = u107 at ha
  generalize a.eval (.tmp 108) = u108 at ha
  generalize a.eval (.tmp 109) = u109 at ha
  generalize a.eval (.tmp 110) = u110 at ha
  generalize a.eval (.tmp 111) = u111 at ha
  generalize a.eval (.tmp 112) = u112 at ha
  generalize a.eval (.tmp 113) = u113 at ha
  generalize a.eval (.tmp 114) = u114 at ha
  generalize a.eval (.tmp 115) = u115 at ha
  generalize a.eval (.tmp 116) = u116 at ha
  generalize a.eval (.tmp 117) = u117 at ha
  generalize a.eval (.tmp 118) = u118 at ha
  generalize a.eval (.tmp 119) = u119 at ha
  generalize a.eval (.tmp 120) = u120 at ha
  generalize a.eval (.tmp 121) = u121 at ha
  generalize a.eval (.tmp 122) = u122 at ha
  generalize a.eval (.tmp 123) = u123 at ha
  generalize a.eval (.tmp 124) = u124 at ha
  generalize a.eval (.tmp 125) = u125 at ha
  generalize a.eval (.tmp 126) = u126 at ha
  generalize a.eval (.tmp 127) = u127 at ha
  subst ha
  have h9 := h2.below hbel
  have ra9 := ra2.below hbel ra2.bl
  have hbr := h9.lo
  have hsz : B ≤ w.heap.size := h.size
  have B9 := hB2.trans (hbel.mono hB2.size)
  obtain ⟨_, g1, g2, g3, _, _, _, _, _, _⟩ := ra9.aq
  obtain ⟨U9, T9⟩ := h9.tab
  have KS := hid (qresp_is T9 (la ka.br) hst)
  have R9 := hid h9.row
  clear hI all hs hr HC KC h h2 ra ra2 hB2 hb1 hbel k0 k1 k5 k8' k13 k14 k15 k16 x0 x1 x2 x3 x4 SO hlow osz h9 T9
  go_wp2_with fail
  refine KS.out.mono ?_
  rintro e w10 ⟨rfl, T10, F10⟩
  have hrow10 := F10.row hrow (by decide) (by decide) (by decide) (by decide)
  have rbr10 := F10.row R9.out (by decide) (by decide) (by decide) (by decide)
  have own10 : OwnQ w10 B (.slice x.1 t1.l.length x.2) t1.l := F10.own hown (by decide) (by decide) (by decide) (by decide)
  have FIN := hid (Bq.put T10 rbr10 own10 hbr)
  have BF := hid ((FrQ.of (U := 0) B9 hsz).fre.trans (F10.fre.trans (FrE.put3 rbr10 hbr (.int .i64 t1.most) (.int .i64 t1.last) (.slice x.1 t1.l.length x.2))))
  obtain ⟨d0, d1, d2, _, _, _⟩ := hrow10.sv3
  obtain ⟨e0, e1, e2, f0, f1, f2⟩ := rbr10.sv3
  have hn1 : (n1 == n1) = true := by simp
  have hy1 : (y1 == y1) = true := by simp
  have hm1 : (m1 == m1) = true := by simp
  clear KS T10 F10 hrow10 rbr10 own10 hown hrow R9 B9 g1 g2 g3
  go_wp2
  go_ret
  exact ⟨rfl, ⟨_, FIN.out⟩, BF.out⟩
end Go.Proofs.Ytgikbpaejmdnoaa
