/-
  The walk of the law ServerAgain.
-/
import Derived.Test.YtbnmdljlfldgoaaSEq
import Derived.Test.YtbnmdljlfldgoaaSByte
namespace Go.Proofs.Ytbnmdljlfldgoaa.serverAgain
open Go.RowKit Go.Sort
set_option linter.unusedVariables false
set_option maxRecDepth 20000
set_option linter.unusedSimpArgs false

def c1 (br hop me tx : List UInt8) (now : Int) : Cl := ⟨1, br, hop, me, now + 320, true, hop, tx⟩
/-- What the table is behind k others. -/
structure AgIn (br hop me tx : List UInt8) (now : Int) (k : Nat) (t : Tb) : Prop where
  most : t.most = 200
  last : t.last ≤ 1 + k
  l : ∃ rest, t.l = c1 br hop me tx now :: rest ∧ ∀ c ∈ rest, c.over = now + 320 ∧ c.br = br ++ [120]
theorem AgIn.start {br hop me tx : List UInt8} {now : Int} {k : Nat} {t : Tb} (h : AgIn br hop me tx now k t) (m : List UInt8) : AgIn br hop me tx now (k + 1) (startT t (br ++ [120]) hop m now).1 := by
  have hold : AgIn br hop me tx now (k + 1) t := ⟨h.most, by have := h.last; omega, h.l⟩
  by_cases h1 : now < 0 ∨ 1099511627456 < now
  · rw [start_arg h1]; exact hold
  by_cases h2 : (findT t.l (br ++ [120]) hop m).2 = true
  · rw [start_two h1 h2]; exact hold
  by_cases h3 : t.most ≤ t.l.length
  · rw [start_full h1 h2 h3]; exact hold
  · rw [start_new h1 h2 h3]
    obtain ⟨rest, e, hr⟩ := h.l
    refine ⟨h.most, by have := h.last; simp only; omega, rest ++ [newC t (br ++ [120]) hop m now], by simp only; rw [e]; rfl, fun c hc => ?_⟩
    rcases List.mem_append.1 hc with hc | hc
    · exact hr c hc
    · simp at hc; subst hc; exact ⟨rfl, rfl⟩
theorem AgIn.none {br hop me tx : List UInt8} {now later : Int} {k : Nat} {t : Tb} (h : AgIn br hop me tx now k t) (hl : later < now + 320) : expireT t later = (t, []) := by
  obtain ⟨rest, e, hr⟩ := h.l
  have hall : ∀ c ∈ t.l, ¬ c.over ≤ later := fun c hc => by
    rw [e] at hc
    rcases List.mem_cons.1 hc with rfl | hc
    · simp only [c1]; omega
    · have := (hr c hc).1; omega
  unfold expireT
  have f1 : t.l.filter (fun c => !decide (c.over ≤ later)) = t.l := List.filter_eq_self.2 fun c hc => by simpa using hall c hc
  have f2 : t.l.filter (fun c => decide (c.over ≤ later)) = [] := List.filter_eq_nil_iff.2 fun c hc => by simpa using hall c hc
  rw [f1, f2]; rfl
theorem AgIn.over {br hop me tx : List UInt8} {now later : Int} {k : Nat} {t : Tb} (h : AgIn br hop me tx now k t) (hl : now + 320 ≤ later) : ∃ ids, expireT t later = (⟨t.most, t.last, []⟩, 1 :: ids) := by
  obtain ⟨rest, e, hr⟩ := h.l
  have hall : ∀ c ∈ t.l, c.over ≤ later := fun c hc => by
    rw [e] at hc
    rcases List.mem_cons.1 hc with rfl | hc
    · simp only [c1]; omega
    · have := (hr c hc).1; omega
  unfold expireT
  have f1 : t.l.filter (fun c => !decide (c.over ≤ later)) = [] := List.filter_eq_nil_iff.2 fun c hc => by simpa using hall c hc
  have f2 : t.l.filter (fun c => decide (c.over ≤ later)) = t.l := List.filter_eq_self.2 fun c hc => by simpa using hall c hc
  rw [f1, f2, e]
  exact ⟨rest.map Cl.id, rfl⟩
theorem AgIn.find {br hop me tx : List UInt8} {now : Int} {k : Nat} {t : Tb} (h : AgIn br hop me tx now k t) : findT t.l br hop me = (1, true) := by
  obtain ⟨rest, e, _⟩ := h.l
  rw [e]
  simp [findT, isC, c1]
theorem AgIn.cached {br hop me tx : List UInt8} {now : Int} {k : Nat} {t : Tb} (h : AgIn br hop me tx now k t) : cachedT t 1 = ((hop, tx), true) := by
  obtain ⟨rest, e, _⟩ := h.l
  unfold cachedT
  rw [e]
  simp [c1]
theorem ag_first {br hop me tx : List UInt8} {now : Int} : answerT ⟨200, 1, [⟨1, br, hop, me, now + 320, false, [], []⟩]⟩ 1 hop tx = (⟨200, 1, [c1 br hop me tx now]⟩, 0) := by
  simp [answerT, List.findIdx?_cons, tellC, c1]
theorem str_of (a : ByteArray) : ∃ l : List UInt8, a = ⟨l.toArray⟩ := ⟨a.data.toList, by apply ByteArray.ext; simp⟩
set_option maxHeartbeats 2000000 in
set_option maxRecDepth 100000 in
theorem law_walk (a0 a1 a2 : ByteArray) (a3 a4 : Int) (a5 : ByteArray) (a6 : Int) (b0 : a0.size ≤ 140737488351232) (b1 : a1.size ≤ 140737488351232) (b2 : a2.size ≤ 140737488351232) (u3 : (Lit.int .i64 a3).wf = true) (u4 : (Lit.int .i64 a4).wf = true) (b5 : a5.size ≤ 140737488351232) (u6 : (Lit.int .u8 a6).wf = true) (w : World) :
    Calls Try.prog 4 #[.string a0, .string a1, .string a2, .int .i64 a3, .int .i64 a4, .string a5, .int .u8 a6] w fun e w' => e = .returned (.bool true) ∧ Below w.heap.size w w' := by
  have hg := guardSe
  obtain ⟨br, rfl⟩ := str_of a0
  obtain ⟨hop, rfl⟩ := str_of a1
  obtain ⟨me, rfl⟩ := str_of a2
  obtain ⟨tx, rfl⟩ := str_of a5
  rw [sv_size] at b0 b1 b2 b5
  obtain ⟨p1, p2⟩ := byte_of u6
  obtain ⟨q1, q2⟩ := i64_of u4
  by_cases hbad : a3 < 0 ∨ 1099511627456 < a3 ∨ a4 < a3
  · have KW := hid (awake11_any w)
    by_cases h1 : a3 < 0
    · clear hbad u3 u4 u6 p1 p2 q1 q2
      go_enter Try.func4, Try.ntmps4
      go_wp2_with (go_at_call 10; refine KW.out.mono ?_; rintro e w9 ⟨rfl, hw9⟩; replace hw9 := hid hw9)
      go_ret
      exact ⟨rfl, hw9.out⟩
    · by_cases h2 : 1099511627456 < a3
      · clear hbad u3 u4 u6 p1 p2 q1 q2
        go_enter Try.func4, Try.ntmps4
        go_wp2_with (go_at_call 10; refine KW.out.mono ?_; rintro e w9 ⟨rfl, hw9⟩; replace hw9 := hid hw9)
        go_ret
        exact ⟨rfl, hw9.out⟩
      · have h3 : a4 < a3 := by omega
        clear hbad u3 u4 u6 p1 p2 q1 q2
        go_enter Try.func4, Try.ntmps4
        go_wp2_with (go_at_call 10; refine KW.out.mono ?_; rintro e w9 ⟨rfl, hw9⟩; replace hw9 := hid hw9)
        go_ret
        exact ⟨rfl, hw9.out⟩
  have g1 : ¬ a3 < 0 := by omega
  have g2 : ¬ 1099511627456 < a3 := by omega
  have g3 : ¬ a4 < a3 := by omega
  obtain ⟨N, hN⟩ : ∃ N : Nat, a6 = N := ⟨a6.toNat, by omega⟩
  subst hN
  have hN2 : N ≤ 255 := by omega
  clear hbad u3 u4 u6 p1 p2
  go_enter Try.func4, Try.ntmps4
  go_wp2_with fail
  refine (snew_ok w (most := 200) (by decide) (by decide)).mono ?_
  rintro e w1 ⟨bt, rfl, T1, B1⟩
  go_wp2_with fail
  refine (start_is T1 (br := br) (hop := hop) (me := me) (by omega) (by omega) (by omega) (by decide) (start_first (by decide) _ _ _ (by omega) (by omega))).mono ?_
  rintro e w2 ⟨rfl, T2, F2⟩
  have B2 := B1.trans F2.below
  have KA := hid (answer_any T2 (id := 1) (by decide) (to := hop) (tx := tx) (by omega) (by omega))
  rw [ag_first] at KA
  unfold ErrR sentV at KA
  simp only at KA
  clear T1 T2 B1 F2
  go_wp2_with fail
  refine KA.out.mono ?_
  rintro e w3 ⟨rfl, T3, F3⟩
  have HT : Hid (∃ t, Tab w.heap.size bt w3 t ∧ AgIn br hop me tx a3 0 t) := ⟨_, T3, rfl, by simp, [], rfl, fun c hc => by simp at hc⟩
  have HB := hid (B2.trans F3.below)
  clear KA T3 F3 B2
  have hr1 : (0 : Int) ≤ (N : Int) := by omega
  obtain ⟨M, hM⟩ : ∃ M : Nat, M = N % 50 := ⟨_, rfl⟩
  have hM2 : M < 50 := by omega
  have hMi : (N : Int).tmod 50 = M := by rw [Int.tmod_eq_emod_of_nonneg hr1]; omega
  have hMe : (N : Int) % 50 = M := by omega
  clear hM
  go_wp2
  go_loopw [18] (fun i wr => ∃ k : Nat, k ≤ M ∧ i = .int .i64 k ∧ Hid (∃ t, Tab w.heap.size bt wr t ∧ AgIn br hop me tx a3 k t) ∧ Hid (Below w.heap.size w wr)) (fun i _ => M - (intOf i).toNat)
  case atStart => exact ⟨0, by omega, rfl, HT, HB⟩
  case round =>
    clear HT HB
    obtain ⟨k, hk, rfl, HT, HB⟩ := hrel
    by_cases hlt : k < M
    · have hlt' : (k : Int) < M := by omega
      have hk2 : k < 256 := by omega
      obtain ⟨t, T0, hF⟩ := HT.out
      clear HT
      have hb1 : Below wr.heap.size wr (wr.alloc (.cells #[.int .u8 k] 5)) := (Below.refl _ wr).alloc (Nat.le_refl _) _
      have hcv := conv_byte wr k hk2
      have KS := hid (start_any (T0.below hb1) (br := br ++ [120]) (hop := hop) (me := [UInt8.ofNat k]) (now := a3) (by simp; omega) (by omega) (by simp) (by have := hF.last; omega))
      have B1 := hid (HB.out.trans (hb1.mono HB.out.size))
      have NX := hid (hF.start [UInt8.ofNat k])
      clear T0 hF hb1 HB
      unfold startV at KS
      have hcat : Hid ((⟨br.toArray⟩ ++ ⟨#[120]⟩ : ByteArray) = ⟨(br ++ [120]).toArray⟩) := by unfold Hid; apply ByteArray.ext; simp
      go_wp2_with fail
      rw [hcat.out]
      refine KS.out.mono ?_
      rintro e w4 ⟨rfl, T4, F4⟩
      have HT4 : Hid (∃ t, Tab w.heap.size bt w4 t ∧ AgIn br hop me tx a3 (k + 1) t) := ⟨_, T4, NX.out⟩
      have HB4 := hid (B1.out.trans F4.below)
      clear T4 F4 B1 NX KS hcat
      generalize startT t (br ++ [120]) hop [UInt8.ofNat k] a3 = st
      go_wp2
      go_roundw
      case rel => exact ⟨k + 1, by omega, by go_num, HT4, HB4⟩
      case measure => simp [intOf]; omega
    · have hlt' : ¬ ((k : Int) < M) := by omega
      obtain ⟨t, T0, hF⟩ := HT.out
      have hq : ∀ u, (binOp .eql 39 (.agg #[.string ⟨hop.toArray⟩, .string ⟨tx.toArray⟩]) (.agg #[.string ⟨hop.toArray⟩, .string ⟨tx.toArray⟩])).run Try.prog u = .ok (.bool true) u := fun u => by have := eqlSe (hop, tx) (hop, tx) u; simpa using this
      clear HT
      by_cases hl : a4 < a3 + 320
      · have hl' : a4 - a3 < 320 := by omega
        have KE := hid (expire_is T0 (hF.none hl))
        clear T0
        go_wp2_with fail
        refine KE.out.mono ?_
        rintro e w4 ⟨oa, oc, rfl, _, T4, F4⟩
        have B4 := HB.out.trans F4.below
        have KF := hid (tab_find T4 (br := br) (hop := hop) (me := me) (by omega) (by omega) (by omega))
        have KC := hid (tab_cached T4 (id := 1) (by decide))
        rw [hF.find] at KF
        rw [hF.cached] at KC
        unfold findV at KF
        unfold cachedV sentV at KC
        simp only at KF KC
        clear T4 F4 KE hF
        go_wp2_with (go_at_call 13; refine KF.out.mono ?_; rintro e wx ⟨rfl, hwx⟩; rw [hwx]; clear hwx)
        refine KC.out.mono ?_
        rintro e w5 ⟨rfl, hb5⟩
        have hA := (Below.refl _ w5).alloc (Nat.le_refl _) (.cells #[.string ⟨hop.toArray⟩, .string ⟨tx.toArray⟩] 39)
        have rs := sv_row2 w5 (.string ⟨hop.toArray⟩) (.string ⟨tx.toArray⟩) 39
        obtain ⟨s0, s1, _, _⟩ := rs.sv2
        have B5 := hid ((B4.trans (hb5.mono B4.size)).trans (hA.mono (B4.trans (hb5.mono B4.size)).size))
        have KW := hid (awake11_any (w5.alloc (.cells #[.string ⟨hop.toArray⟩, .string ⟨tx.toArray⟩] 39)))
        clear hA rs hb5 B4 KC KF HB
        generalize hw6 : w5.alloc (.cells #[.string ⟨hop.toArray⟩, .string ⟨tx.toArray⟩] 39) = w6 at *
        go_wp2_with (go_at_call 10; refine KW.out.mono ?_; rintro e w9 ⟨rfl, hw9⟩; replace hw9 := hid hw9)
        go_ret
        exact ⟨rfl, B5.out.trans (hw9.out.mono B5.out.size)⟩
      · have hl' : ¬ a4 - a3 < 320 := by omega
        obtain ⟨ids, hov⟩ := hF.over (later := a4) (by omega)
        have KE := hid (expire_is T0 hov)
        clear T0 hF hov
        go_wp2_with fail
        refine KE.out.mono ?_
        rintro e w4 ⟨oa, oc, rfl, O4, T4, F4⟩
        have B4 := HB.out.trans F4.below
        have KF := hid (tab_find T4 (br := br) (hop := hop) (me := me) (by omega) (by omega) (by omega))
        have KC := hid (tab_cached T4 (id := 1) (by decide))
        unfold findV findT at KF
        unfold cachedV sentV cachedT at KC
        simp only [List.find?_nil] at KF KC
        clear F4 KE
        go_wp2_with (go_at_call 13; refine KF.out.mono ?_; rintro e wx ⟨rfl, hwx⟩; rw [hwx]; clear hwx)
        refine KC.out.mono ?_
        rintro e w5 ⟨rfl, hb5⟩
        have T5 := T4.below hb5
        have hA := (Below.refl _ w5).alloc (Nat.le_refl _) (.cells #[.string ⟨#[]⟩, .string ⟨#[]⟩] 39)
        have rs0 := sv_row2 w5 (.string ⟨#[]⟩) (.string ⟨#[]⟩) 39
        generalize hw7 : w5.alloc (.cells #[.string ⟨#[]⟩, .string ⟨#[]⟩] 39) = w7 at rs0 hA
        have hb7 := sv_below2 hA w5.heap.size (Nat.le_refl _) (.string ⟨#[]⟩) (.string ⟨#[]⟩)
        obtain ⟨t0, t1, t2, t3⟩ := rs0.sv2
        generalize hw6 : (w7.setCell ⟨w5.heap.size, 0, none⟩ (.string ⟨#[]⟩)).setCell ⟨w5.heap.size, 1, none⟩ (.string ⟨#[]⟩) = w6 at hb7
        have T6 := T5.below hb7
        have I6 := ((own_ids O4).below hb5).below hb7
        have B5 := B4.trans (hb5.mono B4.size)
        have B6 := hid (B5.trans (hb7.mono B5.size))
        have KL := hid (tab_len T6)
        have KW := hid (awake11_any w6)
        obtain ⟨oa', oc', hv, hr⟩ := I6
        injection hv with e1 e2 e3
        subst e1 e3
        obtain ⟨g, off, hoa, _, hcell⟩ := hr (by simp)
        have hc0 : w6.cell? ⟨g, off, none⟩ = some (.int .i64 1) := hcell 0 (by simp)
        subst hoa
        have hpos : (0 : Int) < ((1 :: ids).length : Int) := by simp
        have hposn : 0 < (1 :: ids).length := by simp
        generalize (1 :: ids).length = n at hpos hposn ⊢
        have H6 := hid hw6
        have H7 := hid hw7
        clear hcell hr O4 T4 T5 T6 B4 B5 hA rs0 hb7 hb5 KC KF HB e2
        simp only [List.length_nil] at KL
        go_wp2_with (first
          | (go_at_call 12; refine KL.out.mono ?_; rintro e wx ⟨rfl, hwx⟩; rw [hwx]; clear hwx)
          | (go_at_call 10; refine KW.out.mono ?_; rintro e w9 ⟨rfl, hw9⟩; replace hw9 := hid hw9))
        go_ret
        exact ⟨rfl, B6.out.trans (hw9.out.mono B6.out.size)⟩
end Go.Proofs.Ytbnmdljlfldgoaa.serverAgain
