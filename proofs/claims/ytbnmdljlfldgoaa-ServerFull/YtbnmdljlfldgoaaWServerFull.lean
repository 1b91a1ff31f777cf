/-
  The walk of the law ServerFull.
-/
import Derived.Test.YtbnmdljlfldgoaaSByte
namespace Go.Proofs.Ytbnmdljlfldgoaa.serverFull
open Go.RowKit Go.Sort
set_option linter.unusedVariables false
set_option maxRecDepth 20000
set_option linter.unusedSimpArgs false

/-- What a table is behind k starts. -/
structure FIn (most : Int) (k : Nat) (t : Tb) : Prop where
  most : t.most = most
  last : t.last ≤ k
  me : ∀ c ∈ t.l, ∃ j, j < k ∧ c.me = [UInt8.ofNat j]
theorem FIn.left {most : Int} {k : Nat} {t : Tb} (h : FIn most k t) (now : Int) : FIn most k (expireT t now).1 := ⟨h.most, h.last, fun c hc => h.me c (List.mem_filter.1 hc).1⟩
theorem FIn.fresh {most : Int} {k : Nat} {t : Tb} (h : FIn most k t) (hk : k < 256) : ¬ (findT t.l [98] [99] [UInt8.ofNat k]).2 = true := by
  rcases find_two t.l [98] [99] [UInt8.ofNat k] with ⟨c, hc, ⟨_, _, e⟩, _⟩ | ⟨_, e⟩
  · obtain ⟨j, hj, ej⟩ := h.me c hc
    rw [ej] at e
    have e1 : UInt8.ofNat j = UInt8.ofNat k := by simpa using e
    have e2 := congrArg UInt8.toNat e1
    simp at e2
    omega
  · rw [e]; simp
theorem FIn.start {most : Int} {k : Nat} {t : Tb} (h : FIn most k t) (hk : k < 256) {now : Int} (h0 : 0 ≤ now) (h1 : now ≤ 1000000) :
    (most ≤ (t.l.length : Int) ∧ startT t [98] [99] [UInt8.ofNat k] now = (t, 0, 5)) ∨ ((t.l.length : Int) < most ∧ ∃ t', startT t [98] [99] [UInt8.ofNat k] now = (t', t.last + 1, 0) ∧ FIn most (k + 1) t' ∧ t'.l.length = t.l.length + 1) := by
  have hm := h.most
  by_cases hf : t.most ≤ (t.l.length : Int)
  · exact .inl ⟨by omega, start_full (by omega) (h.fresh hk) hf⟩
  · refine .inr ⟨by omega, _, start_new (by omega) (h.fresh hk) hf, ⟨hm, by have := h.last; simp only; omega, fun c hc => ?_⟩, by simp⟩
    rcases List.mem_append.1 hc with hc | hc
    · obtain ⟨j, hj, e⟩ := h.me c hc; exact ⟨j, by omega, e⟩
    · simp at hc; subst hc; exact ⟨k, by omega, rfl⟩
theorem parts_len (t : Tb) (now : Int) : (expireT t now).2.length + (expireT t now).1.l.length = t.l.length := by
  have key : ∀ l : List Cl, (l.filter fun c => decide (c.over ≤ now)).length + (l.filter fun c => !decide (c.over ≤ now)).length = l.length := fun l => by
    induction l with
    | nil => rfl
    | cons c l ih =>
      by_cases h : c.over ≤ now
      · simp [h] at ih ⊢; omega
      · simp [h] at ih ⊢; omega
  unfold expireT
  simp only [List.length_map]
  exact key t.l
set_option maxHeartbeats 2000000 in
set_option maxRecDepth 100000 in
theorem law_walk (a0 a1 a2 : Int) (u0 : (Lit.int .i64 a0).wf = true) (u1 : (Lit.int .u8 a1).wf = true) (u2 : (Lit.int .u8 a2).wf = true) (w : World) :
    Calls Try.prog 5 #[.int .i64 a0, .int .u8 a1, .int .u8 a2] w fun e w' => e = .returned (.bool true) ∧ Below w.heap.size w w' := by
  obtain ⟨p1, p2⟩ := byte_of u1
  obtain ⟨q1, q2⟩ := byte_of u2
  by_cases hbad : a0 < 1 ∨ 200 < a0
  · have KN := hid (snew_bad w hbad)
    have KW := hid (awake11_any w)
    clear hbad u0 u1 u2 p1 p2 q1 q2
    go_enter Try.func5, Try.ntmps5
    go_wp2_with (first
      | (go_at_call 9; refine KN.out.mono ?_; rintro e wx ⟨rfl, hwx⟩; rw [hwx]; clear hwx)
      | (go_at_call 10; refine KW.out.mono ?_; rintro e w9 ⟨rfl, hw9⟩; replace hw9 := hid hw9))
    go_ret
    exact ⟨rfl, hw9.out⟩
  · have m1 : 1 ≤ a0 := by omega
    have m2 : a0 ≤ 200 := by omega
    go_enter Try.func5, Try.ntmps5
    go_wp2_with fail
    refine (snew_ok w m1 m2).mono ?_
    rintro e w1 ⟨bt, rfl, T1, B1⟩
    have HT : Hid (∃ t, Tab w.heap.size bt w1 t ∧ FIn a0 0 t ∧ (0 : Int) = t.l.length) := ⟨_, T1, ⟨rfl, by simp, fun c hc => by simp at hc⟩, by simp⟩
    have HB := hid B1
    clear T1 B1 u0 u1 u2 hbad
    obtain ⟨N, hN⟩ : ∃ N : Nat, a1 = N := ⟨a1.toNat, by omega⟩
    subst hN
    obtain ⟨S, hS⟩ : ∃ S : Nat, a2 = S := ⟨a2.toNat, by omega⟩
    subst hS
    have hN2 : N ≤ 255 := by omega
    have hS2 : S ≤ 255 := by omega
    clear p1 p2 q1 q2
    go_wp2
    go_loopw [10, 9] (fun i lv wr => ∃ k : Nat, k ≤ N ∧ i = .int .i64 k ∧ ∃ live : Nat, lv = .int .i64 live ∧ Hid (∃ t, Tab w.heap.size bt wr t ∧ FIn a0 k t ∧ live = t.l.length) ∧ Hid (Below w.heap.size w wr)) (fun i _ _ => N - (intOf i).toNat)
    case atStart => exact ⟨0, by omega, rfl, 0, rfl, ⟨HT.out.choose, HT.out.choose_spec.1, HT.out.choose_spec.2.1, by have := HT.out.choose_spec.2.2; omega⟩, HB⟩
    case round =>
      clear HT HB
      obtain ⟨k, hk, rfl, live, rfl, HT, HB⟩ := hrel
      by_cases hlt : k < N
      · have hlt' : (k : Int) < N := by omega
        obtain ⟨t, T0, hF, hlv⟩ := HT.out
        clear HT
        have hk2 : k < 256 := by omega
        obtain ⟨T, hTd⟩ : ∃ T : Int, T = (k : Int) * ((S : Int) % 60) := ⟨_, rfl⟩
        have hTb : 0 ≤ T ∧ T ≤ 15045 := by
          have e : T = ((k * (S % 60) : Nat) : Int) := by rw [hTd]; simp
          have : k * (S % 60) ≤ 255 * 59 := Nat.mul_le_mul (by omega) (by omega)
          omega
        have hTw : wrap64 ((k : Int) * ((S : Int) % 60)) = T := by rw [← hTd]; unfold wrap64; omega
        clear hTd
        have hsum := parts_len t T
        have hF2 := hF.left T
        have KE := hid (expire_any sort_all T0 (now := T))
        generalize expireT t T = ex at hsum hF2 KE
        obtain ⟨t2, ids⟩ := ex
        simp only at hsum hF2 KE
        have h19 : t.l.length ≤ 200 := by have := T0.1.len; have := T0.1.most.2; omega
        clear T0 hF
        go_wp2_with fail
        refine KE.out.mono ?_
        rintro e w2 ⟨v, rfl, ho, T2, F2⟩
        obtain ⟨oa, oc, hv⟩ := ho.form
        rw [show (idCells ids).length = ids.length by simp [idCells]] at hv
        subst hv
        have hb3 : Below w2.heap.size w2 (w2.alloc (.cells #[.int .u8 k] 5)) := (Below.refl _ w2).alloc (Nat.le_refl _) _
        have T3 := T2.below hb3
        have hcv := conv_byte w2 k hk2
        have B3 := hid ((HB.out.trans F2.below).trans (hb3.mono (HB.out.trans F2.below).size))
        have hlvi : (live : Int) - (ids.length : Int) = (t2.l.length : Int) := by omega
        have hl2 : t2.last ≤ 1000000000 := by have := hF2.last; omega
        have h20 : t2.l.length ≤ 200 := by have := T2.1.len; have := T2.1.most.2; omega
        clear T2 F2 ho hb3 HB KE
        have hil : ids.length ≤ 1000000 := by have := hlv; omega
        have hll : live ≤ 1000000 := by omega
        generalize hL : t2.l.length = L at hlvi hsum h20
        rcases hF2.start hk2 (now := T) hTb.1 (by omega) with ⟨hfu, he⟩ | ⟨hfu, t', he, hF3, hl3⟩
        · have KS := hid (start_is T3 (br := [98]) (hop := [99]) (me := [UInt8.ofNat k]) (now := T) (by decide) (by decide) (by simp) hl2 he)
          rw [hL] at hfu
          clear T3 he
          have hfu' : ¬ (L : Int) < a0 := by omega
          go_wp2_with fail
          refine KS.out.mono ?_
          rintro e w4 ⟨rfl, T4, F4⟩
          have hmx : ¬ a0 < (L : Int) := by have := T4.1.len; rw [hF2.most, hL] at this; omega
          have KL := hid (tab_len T4)
          rw [hL] at KL
          have NX : Hid (∃ t, Tab w.heap.size bt w4 t ∧ FIn a0 (k + 1) t ∧ L = t.l.length) := ⟨t2, T4, ⟨hF2.most, by have := hF2.last; omega, fun c hc => by obtain ⟨j, hj, e⟩ := hF2.me c hc; exact ⟨j, by omega, e⟩⟩, hL.symm⟩
          have B4 := hid (B3.out.trans F4.below)
          clear T4 F4 B3 KS hF2
          go_wp2_with (go_at_call 12; refine KL.out.mono ?_; rintro e wx ⟨rfl, hwx⟩; rw [hwx]; clear hwx)
          go_roundw
          case rel => exact ⟨k + 1, by omega, by go_num, L, by congr 1; omega, NX, B4⟩
          case measure => simp [intOf]; omega
        · have KS := hid (start_is T3 (br := [98]) (hop := [99]) (me := [UInt8.ofNat k]) (now := T) (by decide) (by decide) (by simp) hl2 he)
          rw [hL] at hfu
          clear T3 he
          go_wp2_with fail
          refine KS.out.mono ?_
          rintro e w4 ⟨rfl, T4, F4⟩
          have hmx : ¬ a0 < (L : Int) + 1 := by omega
          have KL := hid (tab_len T4)
          rw [hL] at hl3
          rw [hl3] at KL
          have NX : Hid (∃ t, Tab w.heap.size bt w4 t ∧ FIn a0 (k + 1) t ∧ L + 1 = t.l.length) := ⟨t', T4, hF3, hl3.symm⟩
          have B4 := hid (B3.out.trans F4.below)
          clear T4 F4 B3 KS hF2
          rw [show ((L + 1 : Nat) : Int) = (L : Int) + 1 by omega] at KL
          go_wp2_with (go_at_call 12; refine KL.out.mono ?_; rintro e wx ⟨rfl, hwx⟩; rw [hwx]; clear hwx)
          go_roundw
          case rel => exact ⟨k + 1, by omega, by go_num, L + 1, by go_num, NX, B4⟩
          case measure => simp [intOf]; omega
      · have hlt' : ¬ ((k : Int) < N) := by omega
        clear HT
        go_wp2_with fail
        refine (awake11_any _).mono ?_
        rintro e w9 ⟨rfl, hw9⟩
        go_wp2
        go_ret
        exact ⟨rfl, HB.out.trans (hw9.mono HB.out.size)⟩
end Go.Proofs.Ytbnmdljlfldgoaa.serverFull
