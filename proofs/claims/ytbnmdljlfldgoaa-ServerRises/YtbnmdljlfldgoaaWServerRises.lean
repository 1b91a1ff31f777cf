/-
  The walk of the law ServerRises.
-/
import Derived.Test.YtbnmdljlfldgoaaS11L
import Derived.Test.YtbnmdljlfldgoaaSByte
import Derived.BigQuiet
import Derived.WalkMore
namespace Go.Proofs.Ytbnmdljlfldgoaa.serverRises
open Go.RowKit Go.Sort
set_option linter.unusedVariables false
set_option maxRecDepth 20000
set_option linter.unusedSimpArgs false

theorem below_dr (w : World) (n : Nat) : Below w.heap.size w (w.drewN n) := ⟨rfl, rfl, rfl, Nat.le_refl _, fun _ _ => rfl⟩
theorem gone_rise {t : Tb} (h : TbOK t) (now : Int) : (expireT t now).2.Pairwise (· < ·) ∧ ∀ x ∈ (expireT t now).2, x ≤ t.last := by
  constructor
  · unfold expireT
    simp only
    rw [List.pairwise_map]
    exact h.rise.filter _
  · intro x hx
    unfold expireT at hx
    simp only at hx
    obtain ⟨c, hc, rfl⟩ := List.mem_map.1 hx
    exact (h.pos c (List.mem_filter.1 hc).1).2
theorem start_cases (t : Tb) (br hop me : List UInt8) (now : Int) : (∃ m, m ≠ 0 ∧ startT t br hop me now = (t, 0, m)) ∨ ∃ t', startT t br hop me now = (t', t.last + 1, 0) ∧ t'.last = t.last + 1 := by
  by_cases h1 : now < 0 ∨ 1099511627456 < now
  · exact .inl ⟨1, by decide, start_arg h1⟩
  by_cases h2 : (findT t.l br hop me).2 = true
  · exact .inl ⟨7, by decide, start_two h1 h2⟩
  by_cases h3 : t.most ≤ t.l.length
  · exact .inl ⟨5, by decide, start_full h1 h2 h3⟩
  · exact .inr ⟨_, start_new h1 h2 h3, rfl⟩
set_option maxHeartbeats 2000000 in
set_option maxRecDepth 100000 in
theorem law_walk (w : World) (a0 : Int) (v1 : Value) (w0 : (Lit.int .u8 a0).wf = true) (k1 : AcsIn 140737488351232 w v1) :
    Calls Try.prog 8 #[.int .u8 a0, v1] w fun e w' => e = .returned (.bool true) ∧ Below w.heap.size w w' := by
  obtain ⟨acts, hat, hao⟩ := k1
  have HI := hid hat
  have HO := hid hao
  obtain ⟨ao, cap, rfl, _⟩ := hat
  obtain ⟨n, hnn⟩ : ∃ n, n = acts.length := ⟨_, rfl⟩
  rw [← hnn] at HI ⊢
  have HN := hid hnn
  clear hnn hao
  obtain ⟨p1, p2⟩ := byte_of w0
  obtain ⟨N, hN⟩ : ∃ N : Nat, a0 = N := ⟨a0.toNat, by omega⟩
  subst hN
  have hN2 : N ≤ 255 := by omega
  obtain ⟨M, hM⟩ : ∃ M : Nat, M = N % 9 := ⟨_, rfl⟩
  have hM2 : M < 9 := by omega
  have hMe : (N : Int) % 9 = M := by omega
  clear hM p1 p2 w0
  go_enter Try.func8, Try.ntmps8
  go_wp2_with fail
  refine (snew_ok w (most := 1 + M) (by omega) (by omega)).mono ?_
  rintro e wa ⟨bt, rfl, T1, B1⟩
  have HT : Hid (∃ t, Tab w.heap.size bt wa t ∧ t.last = 0) := ⟨_, T1, rfl⟩
  have HB := hid B1
  clear T1 B1
  go_wp2
  go_loopw [8, 7] (fun i lv wr => ∃ k : Nat, k ≤ n ∧ k ≤ 60 ∧ i = .int .i64 k ∧ ∃ last : Int, lv = .int .i64 last ∧ 0 ≤ last ∧ last ≤ k ∧ Hid (∃ t, Tab w.heap.size bt wr t ∧ t.last = last) ∧ Hid (Below w.heap.size w wr)) (fun i _ _ => n - (intOf i).toNat)
  case atStart => exact ⟨0, by omega, by omega, rfl, 0, rfl, by omega, by omega, HT, HB⟩
  case round =>
    clear HT HB
    obtain ⟨k, hk, hk5, rfl, last, rfl, hl0, hl1, HT, HB⟩ := hrel
    by_cases hlt : k < n
    case neg =>
      have hlt' : decide ((k : Int) < (n : Int)) = false := decide_eq_false (by omega)
      clear HT
      go_wp2_with fail
      refine (awake11_any _).mono ?_
      rintro e w9 ⟨rfl, hw9⟩
      go_wp2
      go_ret
      exact ⟨rfl, HB.out.trans (hw9.mono HB.out.size)⟩
    have hlt' : (k : Int) < (n : Int) := by omega
    by_cases h5 : k < 60
    case neg =>
      have h5' : decide ((k : Int) < 60) = false := decide_eq_false (by omega)
      clear HT
      go_wp2_with fail
      refine (awake11_any _).mono ?_
      rintro e w9 ⟨rfl, hw9⟩
      go_wp2
      go_ret
      exact ⟨rfl, HB.out.trans (hw9.mono HB.out.size)⟩
    have h5' : (k : Int) < 60 := by omega
    have hkl : k < acts.length := by rw [← HN.out]; exact hlt
    obtain ⟨ao', cap', hv', hc⟩ := HI.out
    injection hv' with e1 e2 e3
    subst e1
    obtain ⟨ad, ha, hlt2, c0, cc⟩ := hc k hkl
    subst ha
    have c0 := accell_below HB.out (by rw [acadd_block]; exact hlt2) c0
    obtain ⟨c1, c2, c3, c4, c5, c6⟩ := cc.below HB.out (by rw [acadd_block]; exact hlt2)
    have ka := HO.out _ (List.getElem_mem hkl)
    clear hc e2 e3 hlt2 cc
    generalize acts[k] = a at ka c0 c1 c2 c3 c4 c5 c6
    have la : ∀ {l : List UInt8}, l.length ≤ 140737488351232 → l.length ≤ 281474976710656 := fun h => by omega
    have ra := ac_row wr a
    have hb1 : Below wr.heap.size wr (wr.alloc (objA a)) := (Below.refl _ wr).alloc (Nat.le_refl _) _
    obtain ⟨t, T0, htl⟩ := HT.out
    have T1 := T0.below hb1
    have B1 := hid (HB.out.trans (hb1.mono HB.out.size))
    generalize hw1 : wr.alloc (objA a) = w1 at ra hb1 T1 B1
    unfold objA at hw1
    obtain ⟨x0, x1, x2, x3, x4, x5, x6⟩ := ra.ac
    clear HT T0 hb1 HB ra
    by_cases hkind : a.kind = 2
    · have hkd : (a.kind == 2) = true := by simpa using hkind
      have hgr := hid (gone_rise T1.1 a.now)
      have KE := hid (expire_any sort_all T1 (now := a.now))
      have hle : (expireT t a.now).1.last = last := by rw [← htl]; rfl
      have hol := (gone_rise T1.1 a.now).2
      have hil0 : Hid ((expireT t a.now).2.length ≤ 1000) := by
        have h1 : (expireT t a.now).2.length ≤ t.l.length := by unfold expireT; simp only [List.length_map]; exact List.length_filter_le _ _
        have h2 := T1.1.len
        have h3 := T1.1.most.2
        exact (by omega : (expireT t a.now).2.length ≤ 1000)
      generalize expireT t a.now = ex at hgr KE hle hol hil0
      obtain ⟨t2, ids⟩ := ex
      simp only at hgr KE hle hol hil0
      rw [htl] at hgr hol
      clear T1 hkind
      go_wp2_with fail
      refine KE.out.mono ?_
      rintro e w2 ⟨v, rfl, ho, T2, F2⟩
      have hIds := own_ids ho
      obtain ⟨oa, oc, rfl, hr⟩ := hIds
      have HR := hid hr
      have hil : ids.length ≤ 1000000 := by
        have h3 := hil0.out
        omega
      have HT2 : Hid (∃ t, Tab w.heap.size bt w2 t ∧ t.last = last) := ⟨t2, T2, hle⟩
      have HB2 := hid (B1.out.trans F2.below)
      obtain ⟨m, hmm⟩ : ∃ m, m = ids.length := ⟨_, rfl⟩
      rw [← hmm] at hil ⊢
      have HM := hid hmm
      clear hmm hr ho T2 F2 KE B1 c0 c1 c2 c3 c4 c5 c6 x0 x1 x2 x3 x4 x5 x6 hw1 ka hle htl hol
      go_wp2
      go_loopw [11] (fun i wq => ∃ j : Nat, j ≤ m ∧ i = .int .i64 j ∧ Hid (Below w2.heap.size w2 wq)) (fun i _ => m - (intOf i).toNat)
      case atStart => exact ⟨0, by omega, rfl, Below.refl _ _⟩
      case round =>
        obtain ⟨j, hj, rfl, HQ⟩ := hrel
        by_cases hjm : j < m
        · have hjm' : (j : Int) < (m : Int) := by omega
          have hji : j < ids.length := by rw [← HM.out]; exact hjm
          obtain ⟨g, off, hoa, hgl, hcell⟩ := HR.out (fun e => by rw [e] at hji; simp at hji)
          subst hoa
          have d0 := cell_bel HQ.out hgl (hcell j hji)
          have hlast : decide (last < ids[j]) = false := decide_eq_false (by have := hgr.out.2 _ (List.getElem_mem hji); omega)
          by_cases hj0 : j = 0
          · subst hj0
            generalize ids[0] = y at d0 hlast
            rw [Nat.add_zero] at d0
            go_wp2
            go_quiet (fail)
            have hbq := hid (HQ.out.trans ((below_drewN wr nq).mono HQ.out.size))
            generalize wr.drewN nq = wz at hbq ⊢
            go_wp2
            go_roundw
            case rel => exact ⟨1, by omega, by go_num, hbq⟩
            case measure => simp [intOf]; omega
          · have hj1 : ¬ ((j : Int) ≤ 0) := by omega
            have hjp : j - 1 < ids.length := by omega
            have d1 := cell_bel HQ.out hgl (hcell (j - 1) hjp)
            have hrise : decide (ids[j] ≤ ids[j - 1]) = false := decide_eq_false (by have := List.pairwise_iff_getElem.1 hgr.out.1 (j - 1) j hjp hji (by omega); omega)
            generalize ids[j] = y at d0 hlast hrise
            generalize ids[j - 1] = z at d1 hrise
            obtain ⟨i, hi⟩ : ∃ i, j = i + 1 := ⟨j - 1, by omega⟩
            subst hi
            rw [Nat.add_sub_cancel] at d1
            have hsub : ((i + 1 : Nat) : Int) - 1 = (i : Int) := by omega
            have hile : (i : Int) < (m : Int) := by omega
            go_wp2
            go_quiet (fail)
            have hbq := hid (HQ.out.trans ((below_drewN wr nq).mono HQ.out.size))
            generalize wr.drewN nq = wz at hbq ⊢
            go_wp2
            go_roundw
            case rel => exact ⟨i + 1 + 1, by omega, by go_num, hbq⟩
            case measure => simp [intOf]; omega
        · have hjm' : ¬ ((j : Int) < (m : Int)) := by omega
          have HTq : Hid (∃ t, Tab w.heap.size bt wr t ∧ t.last = last) := by obtain ⟨t, h1, h2⟩ := HT2.out; exact ⟨t, h1.below HQ.out, h2⟩
          have HBq := hid (HB2.out.trans (HQ.out.mono HB2.out.size))
          clear HT2 HB2 HQ HR
          go_wp2
          go_roundw
          case rel => exact ⟨k + 1, by omega, by omega, by go_num, last, rfl, hl0, by omega, HTq, HBq⟩
          case measure => simp [intOf]; omega
    · have hkd : (a.kind == 2) = false := by simpa using hkind
      have h9 : t.last ≤ 1000000000 := by omega
      rcases start_cases t a.br a.hop a.me a.now with ⟨m, hm, he⟩ | ⟨t', he, hl'⟩
      · have KS := hid (start_is T1 (br := a.br) (hop := a.hop) (me := a.me) (now := a.now) (la ka.br) (la ka.hop) (la ka.me) h9 he)
        have hm' : (m == 0) = false := by simpa using hm
        clear T1 he hkind
        go_wp2_with fail
        refine KS.out.mono ?_
        rintro e w2 ⟨rfl, T2, F2⟩
        have HT2 : Hid (∃ t, Tab w.heap.size bt w2 t ∧ t.last = last) := ⟨t, T2, htl⟩
        have HB2 := hid (B1.out.trans F2.below)
        clear T2 F2 B1 KS
        go_wp2
        go_roundw
        case rel => exact ⟨k + 1, by omega, by omega, by go_num, last, rfl, hl0, by omega, HT2, HB2⟩
        case measure => simp [intOf]; omega
      · have KS := hid (start_is T1 (br := a.br) (hop := a.hop) (me := a.me) (now := a.now) (la ka.br) (la ka.hop) (la ka.me) h9 he)
        rw [htl] at KS hl'
        clear T1 he hkind
        go_wp2_with fail
        refine KS.out.mono ?_
        rintro e w2 ⟨rfl, T2, F2⟩
        have HT2 : Hid (∃ t, Tab w.heap.size bt w2 t ∧ t.last = last + 1) := ⟨t', T2, hl'⟩
        have HB2 := hid (B1.out.trans F2.below)
        clear T2 F2 B1 KS
        have hnn : ((last + 1) != (last + 1)) = false := by simp
        go_wp2
        go_roundw
        case rel => exact ⟨k + 1, by omega, by omega, by go_num, last + 1, rfl, by omega, by omega, HT2, HB2⟩
        case measure => simp [intOf]; omega
end Go.Proofs.Ytbnmdljlfldgoaa.serverRises
