/-
  The walk of the law ClientEleven.
-/
import Derived.Test.YtgikbpaejmdnoaaElevenL
import Derived.Test.YtgikbpaejmdnoaaRegu
import Derived.Test.YtgikbpaejmdnoaaSqLess
import Derived.Test.YtgikbpaejmdnoaaOpenR12
namespace Go.Proofs.Ytgikbpaejmdnoaa.clientEleven
open Go.RowKit Go.Sort
set_option linter.unusedVariables false
set_option maxRecDepth 20000
set_option linter.unusedSimpArgs false

theorem list23 {us : List Value} (h : us.length = 23) : ∃ u0 u1 u2 u3 u4 u5 u6 u7 u8 u9 u10 u11 u12 u13 u14 u15 u16 u17 u18 u19 u20 u21 u22, us = [u0, u1, u2, u3, u4, u5, u6, u7, u8, u9, u10, u11, u12, u13, u14, u15, u16, u17, u18, u19, u20, u21, u22] := by
  match us, h with
  | [u0, u1, u2, u3, u4, u5, u6, u7, u8, u9, u10, u11, u12, u13, u14, u15, u16, u17, u18, u19, u20, u21, u22], _ => exact ⟨_, _, _, _, _, _, _, _, _, _, _, _, _, _, _, _, _, _, _, _, _, _, _, rfl⟩
structure ElW (w w1 : World) (bt : Nat) (br tx : List UInt8) (t : Tq) (u : World) : Prop where
  tab : ∃ U, TabQ w.heap.size U bt u t
  row : RowIs u w1.heap.size 40 [.string ⟨br.toArray⟩, .string ⟨tx.toArray⟩]
  bel : Below w.heap.size w u
theorem ElW.below {w w1 u u' : World} {bt : Nat} {br tx : List UInt8} {t : Tq} (h : ElW w w1 bt br tx t u) (hb : Below u.heap.size u u') : ElW w w1 bt br tx t u' := by
  obtain ⟨⟨U, hT⟩, hr, hB⟩ := h
  exact ⟨⟨U, hT.below hb⟩, hr.below hb hr.bl, hB.trans (hb.mono hB.size)⟩
theorem byte_bd {x : Int} (h : (Lit.int .u8 x).wf = true) : 0 ≤ x ∧ x ≤ 255 := by
  simpa [Lit.wf, IntKind.min, IntKind.max, IntKind.signed, IntKind.bits] using h
set_option maxHeartbeats 8000000 in
set_option maxRecDepth 100000 in
theorem law_walk (w : World) (a0 : ByteArray) (a1 : Int) (a2 : ByteArray) (v3 : Value) (b0 : a0.size ≤ 140737488351232) (u1 : (Lit.int .i64 a1).wf = true) (b2 : a2.size ≤ 140737488351232) (k3 : ByqIn 140737488351232 w v3) :
    Calls Try.prog 4 #[.string a0, .int .i64 a1, .string a2, v3] w fun e w' => e = .returned (.bool true) ∧ Below w.heap.size w w' := by
  obtain ⟨br, rfl⟩ := str_ofq a0
  obtain ⟨tx, rfl⟩ := str_ofq a2
  rw [sq_size] at b0 b2
  obtain ⟨ring, hring⟩ := k3
  have HRG := hid hring
  obtain ⟨ao, cap, rfl, _⟩ := hring
  obtain ⟨n, hnn⟩ : ∃ n, n = ring.length := ⟨_, rfl⟩
  rw [← hnn] at HRG ⊢
  have HN := hid hnn
  clear hnn
  by_cases hbad : a1 < 0 ∨ 1099511627136 < a1
  · have KW := hid (awake12_any w)
    by_cases h1 : a1 < 0
    · clear hbad u1
      go_enter Try.func4, Try.ntmps4
      go_wp2_with (go_at_call 9; refine KW.out.mono ?_; rintro e w9 ⟨rfl, hw9⟩; replace hw9 := hid hw9)
      go_ret
      exact ⟨rfl, hw9.out⟩
    have h2 : 1099511627136 < a1 := by omega
    clear hbad u1
    go_enter Try.func4, Try.ntmps4
    go_wp2_with (go_at_call 9; refine KW.out.mono ?_; rintro e w9 ⟨rfl, hw9⟩; replace hw9 := hid hw9)
    go_ret
    exact ⟨rfl, hw9.out⟩
  have n1 : ¬ a1 < 0 := by omega
  have n2 : ¬ 1099511627136 < a1 := by omega
  have n1' : 0 ≤ a1 := by omega
  have n2' : a1 ≤ 1099511627136 := by omega
  clear hbad u1
  go_enter Try.func4, Try.ntmps4
  go_wp2_with fail
  refine (qnew_ok w (most := 3) (by decide) (by decide)).mono ?_
  rintro e w1 ⟨bt, rfl, T1, B1⟩
  have rs := rc_row2 w1 (.string ⟨br.toArray⟩) (.string ⟨tx.toArray⟩) 40
  have hb2 : Below w1.heap.size w1 (w1.alloc (.cells #[.string ⟨br.toArray⟩, .string ⟨tx.toArray⟩] 40)) := (Below.refl _ w1).alloc (Nat.le_refl _) _
  generalize hw2 : w1.alloc (.cells #[.string ⟨br.toArray⟩, .string ⟨tx.toArray⟩] 40) = w2 at rs hb2
  obtain ⟨s0, s1, _, _⟩ := rs.rc2
  have T2 := T1.below hb2
  have B2 := B1.trans (hb2.mono B1.size)
  clear T1 B1 hb2
  go_wp2_with fail
  refine (qstart_is T2 (br := br) (to := br) (tx := tx) (by omega) (by omega) (by omega) (by decide) (start_q1 (by omega) br br tx n1' n2')).mono ?_
  rintro e w3 ⟨rfl, T3, F3⟩
  have HW : Hid (ElW w w1 bt br tx ⟨3, 1, [cE br tx a1 1]⟩ w3) := ⟨⟨_, T3⟩, F3.row rs (by decide) (by decide) (by decide) (by decide), B2.trans F3.below⟩
  have HE : Hid (EIn br tx a1 0 ⟨3, 1, [cE br tx a1 1]⟩ 1 0) := .inl ⟨1, by omega, by omega, rfl, rfl, rfl, by have := (relE_bd (k := 1) (by omega) (by omega)).1; omega⟩
  clear T2 T3 F3 B2 rs s0 s1 hw2
  have hgS := guardSn
  have KWa := hid awake12_any
  go_wp2
  go_loopw [13, 14, 15] (fun vs vo i wr => ∃ (d : Nat) (s o : Int) (t : Tq), d ≤ 400 ∧ vs = .int .i64 s ∧ vo = .int .i64 o ∧ i = .int .i64 d ∧ Hid (EIn br tx a1 d t s o) ∧ Hid (ElW w w1 bt br tx t wr)) (fun _ _ i _ => 400 - (intOf i).toNat)
  case atStart => exact ⟨0, 1, 0, _, by omega, rfl, rfl, rfl, HE, HW⟩
  case round =>
    clear HE HW
    obtain ⟨d, s, o, t, hd4, rfl, rfl, rfl, HE, HW⟩ := hrel
    by_cases hdl : d < 400
    case neg =>
      have hd : d = 400 := by omega
      subst hd
      obtain ⟨ht, hs, ho⟩ := eleven_end HE.out
      subst ht
      subst hs
      subst ho
      obtain ⟨⟨U, hT⟩, _, hB⟩ := HW.out
      have KL := hid (tabq_len hT)
      simp only [List.length_nil] at KL
      have KA := hid (KWa.out wr)
      have HB := hid hB
      clear hT hB HE HW
      go_wp2_with (first
        | (go_at_call 11; refine KL.out.mono ?_; rintro e w9 ⟨rfl, hw9⟩; rw [hw9]; clear hw9)
        | (go_at_call 9; refine KA.out.mono ?_; rintro e w9 ⟨rfl, hw9⟩; replace hw9 := hid hw9))
      go_ret
      exact ⟨rfl, HB.out.trans (hw9.out.mono HB.out.size)⟩
    have hdl' : (d : Int) < 400 := by omega
    obtain ⟨t', ds, s', o', hst, hE', hs1, hs2, hcase⟩ := eleven_step n1' n2' HE.out
    obtain ⟨⟨U, hT⟩, hrow, hB⟩ := HW.out
    have KS := hid (qstep_is hT hst)
    have HROW := hid hrow
    have HB := hid hB
    have HE' := hid hE'
    have hq1 : a1 + d ≤ 1099511627536 := by omega
    have hq0 : 0 ≤ a1 + d := by omega
    clear hT hrow hB hst hE' HE HW
    go_wp2_with fail
    refine KS.out.mono ?_
    rintro e w4 ⟨oa, oc, rfl, O4, T4, F4⟩
    have HW4 : Hid (ElW w w1 bt br tx t' w4) := ⟨⟨_, T4⟩, F4.row HROW.out (by decide) (by decide) (by decide) (by decide), HB.out.trans F4.below⟩
    have HO := hid (OwnE.at O4)
    clear O4 T4 F4 KS HROW HB
    have hlen : ds.length ≤ 1 := by rcases hcase with ⟨rfl, _⟩ | ⟨rfl, _⟩ | ⟨rfl, _⟩ <;> simp
    obtain ⟨N, hN⟩ : ∃ N, N = ds.length := ⟨_, rfl⟩
    have HDS := hid hN
    rw [← hN] at HO hlen ⊢
    clear hN
    have HC := hid hcase
    have HX : Hid (N = 0 → s' = s ∧ o' = o) := fun h => by
      rcases hcase with ⟨rfl, h1, h2⟩ | ⟨rfl, _⟩ | ⟨rfl, _⟩
      · exact ⟨h1, h2⟩
      · rw [HDS.out] at h; simp at h
      · rw [HDS.out] at h; simp at h
    clear hcase
    go_wp2
    go_loopw [13, 14, 17] (fun vs vo i wq => ∃ k : Nat, k ≤ N ∧ i = .int .i64 k ∧ ((k = 0 ∧ vs = .int .i64 s ∧ vo = .int .i64 o) ∨ (k = N ∧ vs = .int .i64 s' ∧ vo = .int .i64 o')) ∧ Hid (Below w4.heap.size w4 wq)) (fun _ _ i _ => N - (intOf i).toNat)
    case atStart => exact ⟨0, by omega, rfl, .inl ⟨rfl, rfl, rfl⟩, Below.refl _ _⟩
    case round =>
      obtain ⟨k, hkN, rfl, hvs, hbq⟩ := hrel
      by_cases hk : k < N
      · have hk0 : k = 0 := by omega
        have hN1 : N = 1 := by omega
        subst hk0
        subst hN1
        obtain ⟨rfl, rfl⟩ : u13 = Value.int .i64 s ∧ u14 = Value.int .i64 o := by
          rcases hvs with ⟨_, h1, h2⟩ | ⟨h, _⟩
          · exact ⟨h1, h2⟩
          · omega
        obtain ⟨ao', cap', hv', hcell⟩ := HO.out
        injection hv' with e1 e2 e3'
        obtain ⟨g, hg, hglt, hdu⟩ := hcell 0 (by rw [← HDS.out]; omega)
        rw [hg] at e1
        subst e1
        have hdu' := hdu.below hbq.out hglt
        have hrow := (HW4.out.below hbq.out).row
        obtain ⟨r0, r1, _, _⟩ := hrow.rc2
        rcases HC.out with ⟨hds, _⟩ | ⟨hds, ho0, ho1, hd32, hs'⟩ | ⟨hds, ho0, ho1, hd32, hs'⟩
        · exfalso; have := HDS.out; rw [hds] at this; simp at this
        · subst hds
          simp only [List.getElem_cons_zero] at hdu'
          obtain ⟨x0, x1, x2, x3⟩ := hdu'
          simp only [Nat.zero_mul, Nat.zero_add] at x0 x1 x2 x3
          have hde : decide ((d : Int) = 320) = false := decide_eq_false (by omega)
          have hde2 : ((d : Int) == 320) = false := by rw [beq_eq_false_iff_ne]; omega
          have hde3 : ¬ ((d : Int) = 320) := by omega
          have e3 : ∀ u, (binOp .neq 40 (.agg #[.string ⟨br.toArray⟩, .string ⟨tx.toArray⟩]) (.agg #[.string ⟨br.toArray⟩, .string ⟨tx.toArray⟩])).run Try.prog u = .ok (.bool false) u := fun u => by have := neqSn (br, tx) (br, tx) u; simpa using this
          subst ho0
          have HS1 := hid (And.intro hs' ho1)
          have X1 := x1
          clear hs' ho1 hdu hcell HO hrow HC HX hd32 e2 e3' hg hglt hlen hkN hk hvs
          go_wp2
          replace x0 := cell_regrown x0
          replace x1 := cell_regrown x1
          replace x2 := cell_regrown x2
          replace x3 := cell_regrown x3
          replace r0 := cell_regrown r0
          replace r1 := cell_regrown r1
          refine wp_region_quiet_below followsQ (by kernel_rfl) ?_
          repeat (go_big_quiet_step (fail))
          refine wpQuiet_nil ?_
          intro _ hw'
          obtain ⟨⟨dq, osq⟩, hw''⟩ := hw'
          subst hw''
          have hq := below_regrown wr dq osq
          have X2 := cell_beq hq (rcell_lt X1) X1
          generalize grow _ _ = wx at hq X2 ⊢
          have HB := hid (hbq.out.trans (hq.mono hbq.out.size))
          clear hq x0 x1 x2 x3 r0 r1 X1
          go_wp2
          go_roundw
          case rel => exact ⟨1, by omega, rfl, .inr ⟨rfl, by rw [HS1.out.1], by rw [HS1.out.2]⟩, HB.out⟩
          case measure => simp [intOf]
        · subst hds
          simp only [List.getElem_cons_zero] at hdu'
          obtain ⟨x0, x1, x2, x3⟩ := hdu'
          simp only [Nat.zero_mul, Nat.zero_add] at x0 x1 x2 x3
          subst hd32
          subst ho0
          have HS1 := hid (And.intro hs' ho1)
          have X1 := x1
          clear hs' ho1 hdu hcell HO hrow HC HX e2 e3' hg hglt hlen hkN hk hvs
          go_wp2
          replace x0 := cell_regrown x0
          replace x1 := cell_regrown x1
          replace x2 := cell_regrown x2
          replace x3 := cell_regrown x3
          replace r0 := cell_regrown r0
          replace r1 := cell_regrown r1
          refine wp_region_quiet_below followsQ (by kernel_rfl) ?_
          repeat (go_big_quiet_step (fail))
          refine wpQuiet_nil ?_
          intro _ hw'
          obtain ⟨⟨dq, osq⟩, hw''⟩ := hw'
          subst hw''
          have hq := below_regrown wr dq osq
          have X2 := cell_beq hq (rcell_lt X1) X1
          generalize grow _ _ = wx at hq X2 ⊢
          have HB := hid (hbq.out.trans (hq.mono hbq.out.size))
          clear hq x0 x1 x2 x3 r0 r1 X1
          go_wp2
          go_roundw
          case rel => exact ⟨1, by omega, rfl, .inr ⟨rfl, by rw [HS1.out.1], by rw [HS1.out.2]⟩, HB.out⟩
          case measure => simp [intOf]
      · have hkn : k = N := by omega
        subst hkn
        obtain ⟨rfl, rfl⟩ : u13 = Value.int .i64 s' ∧ u14 = Value.int .i64 o' := by
          rcases hvs with ⟨h, h1, h2⟩ | ⟨_, h1, h2⟩
          · obtain ⟨h3, h4⟩ := HX.out h
            rw [h3, h4]; exact ⟨h1, h2⟩
          · exact ⟨h1, h2⟩
        clear hvs
        have HWq := hid (HW4.out.below hbq.out)
        clear HC HX HO HDS HW4 hbq
        by_cases hrg : d < n
        · have hrg' : (d : Int) < n := by omega
          have hdr : d < ring.length := by rw [← HN.out]; exact hrg
          obtain ⟨ao', cap', hv', hcell⟩ := HRG.out
          injection hv' with e1 e2 e3
          obtain ⟨ad, hao, halt, hwf, hxc⟩ := hcell d hdr
          rw [hao] at e1
          subst e1
          have hx0 := rcell_below HWq.out.bel (by rw [radd_block]; exact halt) hxc
          clear hcell hxc e2 e3 hao
          generalize ring[d] = xi at hwf hx0
          obtain ⟨p0, p1⟩ := byte_bd hwf
          obtain ⟨x, rfl⟩ : ∃ x : Nat, xi = x := ⟨xi.toNat, by omega⟩
          by_cases h3 : 0 < x % 3
          · obtain ⟨j3, hj3⟩ : ∃ j : Nat, j = x % 3 := ⟨_, rfl⟩
            have hm3 : (x : Int).tmod 3 = j3 := by rw [Int.tmod_eq_emod_of_nonneg (by omega)]; omega
            have hm3' : (x : Int) % 3 = j3 := by omega
            have hj : (0 : Int) < j3 := by omega
            have hj' : 0 < j3 := by omega
            clear h3 hj3
            obtain ⟨q, hq⟩ : ∃ q, q = x % 2 := ⟨_, rfl⟩
            obtain ⟨m, hm⟩ : ∃ m, m = x % 100 := ⟨_, rfl⟩
            have hmq : (x : Int).tmod 2 = q := by rw [Int.tmod_eq_emod_of_nonneg (by omega)]; omega
            have hmq' : (x : Int) % 2 = q := by omega
            have hmm : (x : Int).tmod 100 = m := by rw [Int.tmod_eq_emod_of_nonneg (by omega)]; omega
            have hmm' : (x : Int) % 100 = m := by omega
            have hq2 : q < 2 := by omega
            have hm100 : m < 100 := by omega
            clear hq hm
            have HM := hid (And.intro hmq (And.intro hmq' (And.intro hmm hmm')))
            clear hmq hmq' hmm hmm'
            go_wp2
            obtain ⟨s1, hs1'⟩ : ∃ s1 : ByteArray, (⟨br.toArray⟩ ++ ⟨#[120]⟩ : ByteArray) = s1 := ⟨_, rfl⟩
            have hs1l : s1 = ⟨(br ++ [120]).toArray⟩ := by rw [← hs1']; apply ByteArray.ext; simp
            obtain ⟨pk, hpk⟩ : ∃ pk : List UInt8, ((q = 0 ∧ pk = br ++ [120]) ∨ (q = 1 ∧ pk = br)) := by
              rcases (show q = 0 ∨ q = 1 by omega) with h | h
              · exact ⟨_, .inl ⟨h, rfl⟩⟩
              · exact ⟨_, .inr ⟨h, rfl⟩⟩
            have hpkl : pk.length ≤ 281474976710656 := by
              rcases hpk with ⟨_, rfl⟩ | ⟨_, rfl⟩
              · simp; omega
              · omega
            refine wp_region_name ?_
            intro ops hops
            have hlow : lowB .any ops = true := by rw [hops]; kernel_rfl
            have osz : ops.size = 23 := by rw [hops]; rfl
            have o0 := congrArg (fun x : Array Oper => x[0]?) hops
            have o1 := congrArg (fun x : Array Oper => x[1]?) hops
            have o2 := congrArg (fun x : Array Oper => x[2]?) hops
            have o3 := congrArg (fun x : Array Oper => x[3]?) hops
            have o4 := congrArg (fun x : Array Oper => x[4]?) hops
            have o5 := congrArg (fun x : Array Oper => x[5]?) hops
            have o6 := congrArg (fun x : Array Oper => x[6]?) hops
            have o7 := congrArg (fun x : Array Oper => x[7]?) hops
            have o8 := congrArg (fun x : Array Oper => x[8]?) hops
            have o9 := congrArg (fun x : Array Oper => x[9]?) hops
            have o10 := congrArg (fun x : Array Oper => x[10]?) hops
            have o11 := congrArg (fun x : Array Oper => x[11]?) hops
            have o12 := congrArg (fun x : Array Oper => x[12]?) hops
            have o13 := congrArg (fun x : Array Oper => x[13]?) hops
            have o14 := congrArg (fun x : Array Oper => x[14]?) hops
            have o15 := congrArg (fun x : Array Oper => x[15]?) hops
            have o16 := congrArg (fun x : Array Oper => x[16]?) hops
            have o17 := congrArg (fun x : Array Oper => x[17]?) hops
            have o18 := congrArg (fun x : Array Oper => x[18]?) hops
            have o19 := congrArg (fun x : Array Oper => x[19]?) hops
            have o20 := congrArg (fun x : Array Oper => x[20]?) hops
            have o21 := congrArg (fun x : Array Oper => x[21]?) hops
            have o22 := congrArg (fun x : Array Oper => x[22]?) hops
            simp only [List.getElem?_toArray, List.getElem?_cons_zero, List.getElem?_cons_succ] at o0 o1 o2 o3 o4 o5 o6 o7 o8 o9 o10 o11 o12 o13 o14 o15 o16 o17 o18 o19 o20 o21 o22
            clear hops
            have SO : reguOps ops := ⟨osz, ⟨_, o0, rfl, rfl, rfl⟩, ⟨_, o1, rfl, rfl, rfl⟩, ⟨_, o2, rfl, rfl, rfl⟩, ⟨_, o3, rfl, rfl, rfl⟩, ⟨_, o4, rfl, rfl, rfl⟩, ⟨_, o5, rfl, rfl, rfl⟩, ⟨_, o6, rfl, rfl, rfl⟩, ⟨_, o7, rfl, rfl, rfl⟩, ⟨_, o8, rfl, rfl, rfl⟩, ⟨_, o9, rfl, rfl, rfl⟩, ⟨_, o10, rfl, rfl, rfl⟩, ⟨_, o11, rfl, rfl, rfl⟩, ⟨_, o12, rfl, rfl, rfl⟩, ⟨_, o13, rfl, rfl, rfl⟩, ⟨_, o14, rfl, rfl, rfl⟩, ⟨_, o15, rfl, rfl, rfl⟩, ⟨_, o16, rfl, rfl, rfl⟩, ⟨_, o17, rfl, rfl, rfl⟩, ⟨_, o18, rfl, rfl, rfl⟩, ⟨_, o19, rfl, rfl, rfl⟩, ⟨_, o20, rfl, rfl, rfl⟩, ⟨_, o21, rfl, rfl, rfl⟩, ⟨_, o22, rfl, rfl, rfl⟩, ⟨_, o2, { on := 1, ground := .data }, by simp, rfl, rfl⟩, ⟨_, o4, { on := 2, ground := .data }, by simp, rfl, rfl⟩, ⟨_, o4, { on := 3, ground := .data }, by simp, rfl, rfl⟩, ⟨_, o7, { on := 5, ground := .data }, by simp, rfl, rfl⟩, ⟨_, o7, { on := 6, ground := .data }, by simp, rfl, rfl⟩, ⟨_, o8, { on := 7, ground := .data }, by simp, rfl, rfl⟩, ⟨_, o9, { on := 8, ground := .data }, by simp, rfl, rfl⟩, ⟨_, o10, { on := 4, ground := .data }, by simp, rfl, rfl⟩, ⟨_, o10, { on := 9, ground := .data }, by simp, rfl, rfl⟩, ⟨_, o11, { on := 10, ground := .data }, by simp, rfl, rfl⟩, ⟨_, o14, { on := 12, ground := .data }, by simp, rfl, rfl⟩, ⟨_, o14, { on := 13, ground := .data }, by simp, rfl, rfl⟩, ⟨_, o15, { on := 14, ground := .data }, by simp, rfl, rfl⟩, ⟨_, o16, { on := 15, ground := .data }, by simp, rfl, rfl⟩, ⟨_, o17, { on := 16, ground := .data }, by simp, rfl, rfl⟩, ⟨_, o18, { on := 17, ground := .data }, by simp, rfl, rfl⟩, ⟨_, o21, { on := 19, ground := .data }, by simp, rfl, rfl⟩, ⟨_, o21, { on := 20, ground := .data }, by simp, rfl, rfl⟩, ⟨_, o22, { on := 0, ground := .data }, by simp, rfl, rfl⟩, ⟨_, o22, { on := 11, ground := .data }, by simp, rfl, rfl⟩, ⟨_, o22, { on := 18, ground := .data }, by simp, rfl, rfl⟩, ⟨_, o22, { on := 21, ground := .data }, by simp, rfl, rfl⟩⟩
            clear o0 o1 o2 o3 o4 o5 o6 o7 o8 o9 o10 o11 o12 o13 o14 o15 o16 o17 o18 o19 o20 o21 o22
            refine wp_region_inv followsQ (fun L a w' => AI (reguP _ wr bt ⟨br.toArray⟩ s1 ⟨pk.toArray⟩ ad n cap d x q m a1) L a w') (AI.begin (by rfl) (by rfl)) ?_ (fun L a w' i hs hi hI => regu_steps SO _ wr bt ⟨br.toArray⟩ s1 ⟨pk.toArray⟩ ad n cap d x q m a1 (by rfl) (by rfl) (by rfl) (by rfl) (by rfl) hrg hq2 HM.out.1 HM.out.2.1 HM.out.2.2.1 HM.out.2.2.2 hm100 (by omega) n1' n2' hdl (by rw [sq_size]; exact b0) hs1' ?_ ?_ ?_ _ L a w' i hs hi hI)
            rotate_left
            · intro u hu
              rcases hu with rfl | hu
              · exact hx0
              · exact cell_beq hu (Nat.lt_of_lt_of_le (rcell_lt hx0) (by simp [reguP])) (by show World.cell? _ _ = _; rw [show (reguP _ wr bt ⟨br.toArray⟩ s1 ⟨pk.toArray⟩ ad n cap d x q m a1).W2 = ({ wr with drawn := wr.drawn + 1 } : World).alloc (.cells #[.string s1, .string ⟨br.toArray⟩] 9) from rfl]; exact cell_beq ((Below.refl _ _).alloc (Nat.le_refl _) _) (rcell_lt hx0) hx0)
            · intro u hu
              have hr2 := rc_row2 ({ wr with drawn := wr.drawn + 1 } : World) (.string s1) (.string ⟨br.toArray⟩) 9
              obtain ⟨z0, z1, _, _⟩ := hr2.rc2
              have hlt : wr.heap.size < (({ wr with drawn := wr.drawn + 1 } : World).alloc (.cells #[.string s1, .string ⟨br.toArray⟩] 9)).heap.size := by simp
              rcases hpk with ⟨rfl, rfl⟩ | ⟨rfl, rfl⟩
              · rw [← hs1l]; exact cell_beq hu hlt z0
              · exact cell_beq hu hlt z1
            · intro u hu
              have hbu : Below wr.heap.size wr u := ((show Below wr.heap.size wr { wr with drawn := wr.drawn + 1 } from (Below.refl _ wr).drew).alloc (Nat.le_refl _) (.cells #[.string s1, .string ⟨br.toArray⟩] 9)).trans (hu.mono (by simp [reguP]))
              obtain ⟨U', hT'⟩ := (HWq.out.below hbu).tab
              refine (qresp_less hT' (br := pk) (s := 100 + m) (now := a1 + d) hpkl (by omega)).mono ?_
              rintro e u' ⟨rfl, hb⟩
              exact ⟨_, rfl, hb⟩
            rintro L a w9 hs hr hI
            have hb9 : Below wr.heap.size wr w9 := by
              rcases hI.two with rfl | hu
              · exact (Below.refl _ wr).drew
              · exact ((show Below wr.heap.size wr { wr with drawn := wr.drawn + 1 } from (Below.refl _ wr).drew).alloc (Nat.le_refl _) (.cells #[.string s1, .string ⟨br.toArray⟩] 9)).trans (hu.mono (by simp [reguP]))
            have HW9 := hid (HWq.out.below hb9)
            obtain ⟨us, hus, ha⟩ := hI.fin (by rfl) (by simp [reguP]) (by simp [reguP])
            obtain ⟨u0, u1, u2, u3, u4, u5, u6, u7, u8, u9, u10, u11, u12, u13, u14, u15, u16, u17, u18, u19, u20, u21, u22, rfl⟩ := list23 hus
            subst ha
            clear hus hI hr hs SO hlow osz
            simp only [reguP, List.take_succ_cons, List.take_zero, List.drop_succ_cons, List.drop_zero, List.cons_append, List.nil_append]
            go_wp2
            go_roundw
            case rel => exact ⟨d + 1, s', o', t', by omega, rfl, rfl, by go_num, HE', HW9⟩
            case measure => simp [intOf]; omega
          · have hz3 : x % 3 = 0 := by omega
            have hm3 : (x : Int).tmod 3 = 0 := by rw [Int.tmod_eq_emod_of_nonneg (by omega)]; omega
            have hm3' : (x : Int) % 3 = 0 := by omega
            clear h3 hz3
            go_wp2
            go_roundw
            case rel => exact ⟨d + 1, s', o', t', by omega, rfl, rfl, by go_num, HE', HWq⟩
            case measure => simp [intOf]; omega
        · have hrg' : ¬ ((d : Int) < n) := by omega
          have hrg2 : decide ((d : Int) < n) = false := decide_eq_false hrg'
          go_wp2
          go_roundw
          case rel => exact ⟨d + 1, s', o', t', by omega, rfl, rfl, by go_num, HE', HWq⟩
          case measure => simp [intOf]; omega
end Go.Proofs.Ytgikbpaejmdnoaa.clientEleven
