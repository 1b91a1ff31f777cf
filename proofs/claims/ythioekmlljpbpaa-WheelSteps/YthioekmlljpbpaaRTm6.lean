/-
  The document's own Set, walked.
-/
import Derived.Test.YthioekmlljpbpaaRTm5
import Derived.BigQuiet
import Derived.Lib.QuietBelow
namespace Go.Proofs.Ythioekmlljpbpaa
open Go.RowKit Go.Sort
set_option linter.unusedVariables false
set_option maxRecDepth 20000

theorem ownT_made (w : World) : OwnT (w.alloc (.cells #[] 49)) w.heap.size (.slice (some ⟨w.heap.size, 0, none⟩) 0 0) [] := World.ownsRow_made w #[] 0 (Nat.le_refl _) (by decide) rfl
theorem OwnT.mono {w : World} {B B' : Nat} {v : Value} {ts : List Tm} (h : OwnT w B v ts) (hB : B' ≤ B) : OwnT w B' v ts := by
  obtain ⟨h1, h2⟩ := h
  refine ⟨h1, ?_⟩
  rcases h2 with h2 | ⟨g, cap, cur, hv, hg, r⟩
  · exact Or.inl h2
  · exact Or.inr ⟨g, cap, cur, hv, Nat.le_trans hB hg, r⟩
theorem alloc_lt9 (w : World) (o : Obj) : w.heap.size < (w.alloc o).heap.size := by simp
theorem followsMixed9 : Try.prog.follows .mixedOrders = true := by kernel_rfl

set_option maxHeartbeats 8000000 in
set_option maxRecDepth 100000 in
theorem refset_old {w : World} {v : Value} {l : List Tm} (h : TmsAt w v l) {id a : Int} (hn : l.length ≤ 1000000) (h1 : ¬ id < 0) (h2 : ¬ a < 0) (h3 : ¬ 1099511627776 < a) (hw : ¬ whenT l id = none) :
    Calls Try.prog 12 #[v, .int .i64 id, .int .i64 a] w fun e w' => ∃ v1, e = .returned (.tuple #[v1, .int .i64 0]) ∧ TmsAt w' v1 (setT l id a) ∧ Below w.heap.size w w' := by
  obtain ⟨i0, hi, hz0, hz1, hz2⟩ := info_parts infoTm
  have KS := hid (refstop_any h (id := id) hn)
  obtain ⟨ao, cap, rfl, hcap, hr⟩ := h
  obtain ⟨n, hnn⟩ : ∃ n, n = l.length := ⟨_, rfl⟩
  rw [← hnn] at hn hcap KS ⊢
  have HN := hid hnn
  clear hr
  have hnl : decide ((stopT l id).length < n) = true := by rw [HN.out]; exact decide_eq_true (stop_less.2 hw)
  rw [hnl] at KS
  clear hnl hnn hw
  have SP := hid (fun k h1 h2 => tw_stop (l := stopT l id) (p := fun t => ahd t (a, id)) (k := k) h1 h2)
  have HO := hid (fun (w' : World) (v' : Value) (k : Nat) (hb : Below w.heap.size w w') (e1 : (stopT l id).takeWhile (fun t => ahd t (a, id)) = (stopT l id).take k ∧ (stopT l id).dropWhile (fun t => ahd t (a, id)) = (stopT l id).drop k) (ho : OwnT w' w.heap.size v' (((stopT l id).take k ++ [(a, id)]) ++ (stopT l id).drop k)) => show TmsAt w' v' (setT l id a) ∧ Below w.heap.size w w' by unfold setT; rw [e1.1, e1.2]; have := ho.at; rw [List.append_assoc] at this; exact ⟨this, hb⟩)
  have HLR : Hid ((stopT l id).length ≤ 1000000) := Nat.le_trans (by unfold stopT; exact List.length_filter_le _ _) (by rw [← HN.out]; exact hn)
  go_enter Try.func12, Try.ntmps12
  go_wp2_with fail
  refine KS.out.mono ?_
  rintro e w1 ⟨v1, rfl, hown1, hb1⟩
  generalize stopT l id = r at hown1 SP HO HLR
  rcases hown1.2 with ⟨hv1, hr0⟩ | ⟨g0, c0, cur, hv1, hcc⟩
  · have hr : r = [] := List.eq_nil_of_length_eq_zero hr0
    subst hv1
    subst hr
    have SPk := hid (SP.out 0 (fun t ht => by simp at ht) (fun t' r' e => by simp at e))
    have ba := alloc_lt9 w1 (.cells #[.int .i64 a, .int .i64 id] 49)
    have bx := two_new w1 a id
    have hbA := hid (hb1.alloc hb1.size (.cells #[.int .i64 a, .int .i64 id] 49))
    clear hown1 hb1 SP
    go_wp2
    generalize w1.alloc _ = W at ba bx hbA ⊢
    generalize w1.heap.size = bb at ba bx ⊢
    go_loopw [11] (fun i wr => i = .int .i64 0 ∧ wr = W) (fun i _ => 0)
    case atStart => exact ⟨rfl, rfl⟩
    case round =>
      obtain ⟨rfl, rfl⟩ := hrel
      go_wp2
      refine wp_region_quiet_below followsMixed9 (by kernel_rfl) ?_
      repeat (go_big_quiet_step (fail))
      refine wpQuiet_nil ?_
      intro _ hw'
      obtain ⟨⟨dq, osq⟩, hw''⟩ := hw'
      subst hw''
      have hq := below_regrown wr dq osq
      generalize grow _ _ = wx at hq ⊢
      have cx0 := cellB (a := ⟨bb, 0, none⟩) hq ba bx.1
      have cx1 := cellB (a := ⟨bb, 1, none⟩) hq ba bx.2
      have lbx : Hid (bb < wx.heap.size) := Nat.lt_of_lt_of_le ba hq.size
      have hbX := hid (hbA.out.trans (hq.mono hbA.out.size))
      have hA : Below wx.heap.size wx (wx.alloc (.cells #[] 49)) := (Below.refl _ _).alloc (Nat.le_refl _) _
      have d0 := cellB hA lbx.out cx0
      have d1 := cellB hA lbx.out cx1
      have O0 := hid (ownT_made wx)
      have HA := hid hA
      clear hbA hq bx hA
      go_wp2_with (at_builtin; refine wp_appTm _ rfl (.tmp 60) (.tmp 62) 25 rfl wx.heap.size i0 _ Try.underlying25 hi hz0 hz1 hz2 rfl (.slice (some ⟨wx.heap.size, 0, none⟩) 0 0) [] rfl (OwnT.alloc O0.out _) ⟨wx.heap.size + 1, 0, none⟩ 1 (a, id) rfl (by have q := tm_new (wx.alloc (.cells #[] 49)) (a, id); rw [show (wx.alloc (.cells #[] 49)).heap.size = wx.heap.size + 1 by simp] at q; exact q) (by simp) (Nat.le_trans HA.out.size (by simp)) ?_; intro v4 w4 hown4 hgr4; have B4 := hid ((HA.out.alloc HA.out.size _).grown hgr4 (Nat.le_trans HA.out.size (by simp)) (fun k hk => (World.ownsRow.lt O0.out k hk).1)); (obtain ⟨oa4, oc4, hoe4, hc4, hne4⟩ := hown4.at); (obtain ⟨g4, off4, cs4, hg4, _, _⟩ := hne4 (by simp)); clear hne4; subst hg4; replace hc4 : 1 ≤ oc4 := (by simpa using hc4); rw [List.length_append] at hoe4; subst hoe4; replace hown4 := hid hown4; clear hgr4)
      go_ret2
      exact ⟨_, rfl, HO.out _ _ 0 (hbX.out.trans (B4.out.mono hbX.out.size)) SPk.out (by simpa using hown4.out.mono hbX.out.size)⟩
  · subst hv1
    obtain ⟨m, hm⟩ : ∃ m, m = r.length := ⟨_, rfl⟩
    have HC := hid hcc.2.2.1
    rw [← hm] at hown1 HLR HC ⊢
    have HM := hid hm
    clear hm hcc
    have hm1 : m ≤ 1000000 := HLR.out
    have ba := alloc_lt9 w1 (.cells #[.int .i64 a, .int .i64 id] 49)
    have bx := two_new w1 a id
    have hbA := hid (hb1.alloc hb1.size (.cells #[.int .i64 a, .int .i64 id] 49))
    have OA2 := hid (OwnT.alloc hown1 (.cells #[.int .i64 a, .int .i64 id] 49))
    clear hown1 hb1
    go_wp2
    generalize w1.alloc _ = W at ba bx hbA OA2 ⊢
    generalize w1.heap.size = bb at ba bx OA2 ⊢
    go_loopw [11] (fun i wr => ∃ k : Nat, k ≤ m ∧ i = .int .i64 k ∧ Hid (∀ t ∈ r.take k, ahd t (a, id) = true) ∧ Hid (Below W.heap.size W wr)) (fun i _ => m - (intOf i).toNat)
    case atStart => exact ⟨0, by omega, rfl, fun t ht => by simp at ht, Below.refl _ _⟩
    case round =>
      obtain ⟨k, hk, rfl, hinv, hb⟩ := hrel
      have OR := hid (OA2.out.chg (chg_below (S := fun _ => False) hb.out) (fun _ _ x => x))
      have e0 := cell_regrown (cellB (a := ⟨bb, 0, none⟩) hb.out ba bx.1)
      have e1 := cell_regrown (cellB (a := ⟨bb, 1, none⟩) hb.out ba bx.2)
      by_cases hlt : k < m
      · have hlt' : (k : Int) < m := by omega
        have hkr : k < r.length := by rw [← HM.out]; exact hlt
        obtain ⟨q0, q1⟩ := tmsCells_get r k hkr
        have x0 := World.ownsRow.cells OR.out (g := g0) rfl _ _ q0
        have x1 := World.ownsRow.cells OR.out (g := g0) rfl _ _ q1
        rw [add_z] at x0 x1
        have x0 := cell_regrown x0
        have x1 := cell_regrown x1
        have GE : Hid (∀ x, r.drop k = x → ∃ r', x = r[k] :: r') := fun x e => ⟨r.drop (k + 1), e ▸ List.drop_eq_getElem_cons hkr⟩
        have TK : Hid (r.take (k + 1) = r.take k ++ [r[k]]) := List.take_succ_eq_append_getElem hkr
        clear q0 q1
        generalize r[k] = t at x0 x1 GE TK
        have KA := hid (fun (d : Nat) (os : Array Obj) => Calls.regrown_of (refahead_any t (a, id) (grow (redrawn wr d) os)))
        cases hah : ahd t (a, id) with
        | true =>
          rw [hah] at KA
          have hinv2 : Hid (∀ t ∈ r.take (k + 1), ahd t (a, id) = true) := fun t' h' => by
            rw [TK.out] at h'
            rcases List.mem_append.1 h' with h' | h'
            · exact hinv.out t' h'
            · simp at h'; subst h'; exact hah
          clear hah GE TK hinv
          go_wp2
          refine wp_region_quiet_below followsMixed9 (by kernel_rfl) ?_
          repeat (go_big_quiet_step (first | with_reducible exact KA.out _ _))
          refine wpQuiet_nil ?_
          intro _ hw'
          obtain ⟨⟨dq, osq⟩, hw''⟩ := hw'
          subst hw''
          have hq := below_regrown wr dq osq
          generalize grow _ _ = wx at hq ⊢
          have hbN := hid (hb.out.trans (hq.mono hb.out.size))
          go_wp2
          go_roundw
          case rel => exact ⟨k + 1, by omega, by go_num, hinv2.out, hbN.out⟩
          case measure => simp [intOf]; omega
        | false =>
          rw [hah] at KA
          have SPk := hid (SP.out k hinv.out (fun t' r' e => by obtain ⟨r2, hr2⟩ := GE.out _ e; injection hr2 with hr2 _; subst hr2; exact hah))
          clear hah GE TK hinv
          go_wp2
          refine wp_region_quiet_below followsMixed9 (by kernel_rfl) ?_
          repeat (go_big_quiet_step (first | with_reducible exact KA.out _ _))
          refine wpQuiet_nil ?_
          intro _ hw'
          obtain ⟨⟨dq, osq⟩, hw''⟩ := hw'
          subst hw''
          have hq := below_regrown wr dq osq
          generalize grow _ _ = wx at hq ⊢
          have hbN := hb.out.trans (hq.mono hb.out.size)
          have OX := hid (OR.out.chg (chg_below (S := fun _ => False) hq) (fun _ _ x => x))
          have lbx : Hid (bb < wx.heap.size) := Nat.lt_of_lt_of_le ba hbN.size
          have cx0 := cellB (a := ⟨bb, 0, none⟩) hbN ba bx.1
          have cx1 := cellB (a := ⟨bb, 1, none⟩) hbN ba bx.2
          have hbX := hid (hbA.out.trans (hbN.mono hbA.out.size))
          clear hbN hq hb OR e0 e1 KA bx x0 x1 SP
          have hck' : ¬ (c0 - k = 0) := by have := HC.out; omega
          have hkc : (k : Int) ≤ (c0 : Int) := by have := HC.out; omega
          have hkm : (k : Int) ≤ (m : Int) := by omega
          go_wp2_with (first
            | (at_builtin; refine wp_appTs _ rfl (.tmp 55) (.tmp 58) 25 rfl wx.heap.size i0 _ Try.underlying25 hi hz0 hz1 hz2 rfl (.slice (some ⟨wx.heap.size, 0, none⟩) 0 0) [] rfl (ownT_made wx) ⟨g0, 0, none⟩ k c0 (r.take k) rfl (by rw [List.length_take, ← HM.out]; omega) ((OX.out.alloc _).news [] (r.take k) (r.drop k) (by simp)) (by simp; omega) (by simp) ?_; intro v3 w3 hown3 hgr3; have B3 := hid (((Below.refl wx.heap.size wx).alloc (Nat.le_refl _) _).grown hgr3 (by simp) (fun k hk => by cases hk; exact Nat.le_refl _)); have d0 := cellB B3.out lbx.out cx0; have d1 := cellB B3.out lbx.out cx1; rw [List.nil_append] at hown3; (obtain ⟨oa3, oc3, hoe3⟩ := hown3.form); rw [List.length_take, ← HM.out, Nat.min_eq_left hk] at hoe3; subst hoe3; replace hown3 := hid hown3; clear hgr3)
            | (at_builtin; refine wp_appTm _ rfl (.tmp 60) (.tmp 62) 25 rfl wx.heap.size i0 _ Try.underlying25 hi hz0 hz1 hz2 rfl (.slice oa3 k oc3) (r.take k) rfl (OwnT.alloc hown3.out _) ⟨_, 0, none⟩ 1 (a, id) rfl (tm_new _ _) (by rw [List.length_take, ← HM.out]; omega) (Nat.le_trans B3.out.size (by simp)) ?_; intro v4 w4 hown4 hgr4; have B4 := hid ((B3.out.alloc B3.out.size _).grown hgr4 (Nat.le_trans B3.out.size (by simp)) (fun k hk => (World.ownsRow.lt hown3.out k hk).1)); have OX4 := hid (OX.out.chg (chg_below (S := fun _ => False) B4.out) (fun _ _ x => x)); (obtain ⟨oa4, oc4, hoe4⟩ := hown4.form); rw [List.length_append, List.length_take, ← HM.out, Nat.min_eq_left hk] at hoe4; subst hoe4; replace hown4 := hid hown4; clear hgr4)
            | (at_builtin; refine wp_appTs _ rfl (.tmp 64) (.tmp 67) 25 rfl wx.heap.size i0 _ Try.underlying25 hi hz0 hz1 hz2 rfl (.slice oa4 (k + 1) oc4) (r.take k ++ [(a, id)]) rfl hown4.out ⟨g0, k * 2, none⟩ (m - k) (c0 - k) (r.drop k) rfl (by rw [List.length_drop, ← HM.out]; try omega) (fun j u hj => by have := OX4.out.news (r.take k) (r.drop k) [] (by simp) j u hj; rw [List.length_take, ← HM.out, Nat.min_eq_left hk] at this; exact this) (by simp; rw [← HM.out]; omega) B4.out.size ?_; intro v5 w5 hown5 hgr5; have B5 := hid (B4.out.grown hgr5 B4.out.size (fun k hk => (World.ownsRow.lt hown4.out k hk).1)); (obtain ⟨oa5, oc5, hoe5⟩ := hown5.form); (obtain ⟨N5, hoe6⟩ : ∃ N5, v5 = .slice oa5 N5 oc5 := ⟨_, hoe5⟩); clear hoe5; subst hoe6; replace hown5 := hid hown5; clear hgr5))
          go_ret2
          exact ⟨_, rfl, HO.out _ _ k (hbX.out.trans (B5.out.mono hbX.out.size)) SPk.out (hown5.out.mono hbX.out.size)⟩
      · have hlt' : ¬ ((k : Int) < m) := by omega
        obtain rfl : k = m := by omega
        have SPk := hid (SP.out k hinv.out (fun t' r' e => by rw [List.drop_eq_nil_of_le (by rw [← HM.out]; omega)] at e; cases e))
        have KA : Hid True := trivial
        clear hinv
        go_wp2
        refine wp_region_quiet_below followsMixed9 (by kernel_rfl) ?_
        repeat (go_big_quiet_step (fail))
        refine wpQuiet_nil ?_
        intro _ hw'
        obtain ⟨⟨dq, osq⟩, hw''⟩ := hw'
        subst hw''
        have hq := below_regrown wr dq osq
        generalize grow _ _ = wx at hq ⊢
        have hbN := hb.out.trans (hq.mono hb.out.size)
        have OX := hid (OR.out.chg (chg_below (S := fun _ => False) hq) (fun _ _ x => x))
        have lbx : Hid (bb < wx.heap.size) := Nat.lt_of_lt_of_le ba hbN.size
        have cx0 := cellB (a := ⟨bb, 0, none⟩) hbN ba bx.1
        have cx1 := cellB (a := ⟨bb, 1, none⟩) hbN ba bx.2
        have hbX := hid (hbA.out.trans (hbN.mono hbA.out.size))
        clear hbN hq hb OR e0 e1 KA bx SP
        by_cases hck : c0 = k
        · subst hck
          have hdr : r.drop c0 = [] := List.drop_eq_nil_of_le (by rw [← HM.out]; have := HC.out; omega)
          have hkc : (c0 : Int) ≤ (c0 : Int) := by have := HC.out; omega
          have hkm : (c0 : Int) ≤ (c0 : Int) := by omega
          go_wp2_with (first
            | (at_builtin; refine wp_appTs _ rfl (.tmp 55) (.tmp 58) 25 rfl wx.heap.size i0 _ Try.underlying25 hi hz0 hz1 hz2 rfl (.slice (some ⟨wx.heap.size, 0, none⟩) 0 0) [] rfl (ownT_made wx) ⟨g0, 0, none⟩ c0 c0 (r.take c0) rfl (by rw [List.length_take, ← HM.out]; omega) ((OX.out.alloc _).news [] (r.take c0) (r.drop c0) (by simp)) (by simp; omega) (by simp) ?_; intro v3 w3 hown3 hgr3; have B3 := hid (((Below.refl wx.heap.size wx).alloc (Nat.le_refl _) _).grown hgr3 (by simp) (fun k hk => by cases hk; exact Nat.le_refl _)); have d0 := cellB B3.out lbx.out cx0; have d1 := cellB B3.out lbx.out cx1; rw [List.nil_append] at hown3; (obtain ⟨oa3, oc3, hoe3⟩ := hown3.form); rw [List.length_take, ← HM.out, Nat.min_eq_left hk] at hoe3; subst hoe3; replace hown3 := hid hown3; clear hgr3)
            | (at_builtin; refine wp_appTm _ rfl (.tmp 60) (.tmp 62) 25 rfl wx.heap.size i0 _ Try.underlying25 hi hz0 hz1 hz2 rfl (.slice oa3 c0 oc3) (r.take c0) rfl (OwnT.alloc hown3.out _) ⟨_, 0, none⟩ 1 (a, id) rfl (tm_new _ _) (by rw [List.length_take, ← HM.out]; omega) (Nat.le_trans B3.out.size (by simp)) ?_; intro v4 w4 hown4 hgr4; have B4 := hid ((B3.out.alloc B3.out.size _).grown hgr4 (Nat.le_trans B3.out.size (by simp)) (fun k hk => (World.ownsRow.lt hown3.out k hk).1)); have OX4 := hid (OX.out.chg (chg_below (S := fun _ => False) B4.out) (fun _ _ x => x)); (obtain ⟨oa4, oc4, hoe4⟩ := hown4.form); rw [List.length_append, List.length_take, ← HM.out, Nat.min_eq_left hk] at hoe4; subst hoe4; replace hown4 := hid hown4; clear hgr4)
            | (at_builtin; refine wp_appTs _ rfl (.tmp 64) (.tmp 67) 25 rfl wx.heap.size i0 _ Try.underlying25 hi hz0 hz1 hz2 rfl (.slice oa4 (c0 + 1) oc4) (r.take c0 ++ [(a, id)]) rfl hown4.out ⟨g0, 0, none⟩ 0 0 (r.drop c0) rfl (by rw [List.length_drop, ← HM.out]; try omega) (by rw [hdr]; intro j u hj; simp [tmsCells] at hj) (by simp; rw [← HM.out]; omega) B4.out.size ?_; intro v5 w5 hown5 hgr5; have B5 := hid (B4.out.grown hgr5 B4.out.size (fun k hk => (World.ownsRow.lt hown4.out k hk).1)); (obtain ⟨oa5, oc5, hoe5⟩ := hown5.form); (obtain ⟨N5, hoe6⟩ : ∃ N5, v5 = .slice oa5 N5 oc5 := ⟨_, hoe5⟩); clear hoe5; subst hoe6; replace hown5 := hid hown5; clear hgr5))
          go_ret2
          exact ⟨_, rfl, HO.out _ _ c0 (hbX.out.trans (B5.out.mono hbX.out.size)) SPk.out (hown5.out.mono hbX.out.size)⟩
        · have hck' : ¬ (c0 - k = 0) := by have := HC.out; omega
          have hkc : (k : Int) ≤ (c0 : Int) := by have := HC.out; omega
          have hkm : (k : Int) ≤ (k : Int) := by omega
          go_wp2_with (first
            | (at_builtin; refine wp_appTs _ rfl (.tmp 55) (.tmp 58) 25 rfl wx.heap.size i0 _ Try.underlying25 hi hz0 hz1 hz2 rfl (.slice (some ⟨wx.heap.size, 0, none⟩) 0 0) [] rfl (ownT_made wx) ⟨g0, 0, none⟩ k c0 (r.take k) rfl (by rw [List.length_take, ← HM.out]; omega) ((OX.out.alloc _).news [] (r.take k) (r.drop k) (by simp)) (by simp; omega) (by simp) ?_; intro v3 w3 hown3 hgr3; have B3 := hid (((Below.refl wx.heap.size wx).alloc (Nat.le_refl _) _).grown hgr3 (by simp) (fun k hk => by cases hk; exact Nat.le_refl _)); have d0 := cellB B3.out lbx.out cx0; have d1 := cellB B3.out lbx.out cx1; rw [List.nil_append] at hown3; (obtain ⟨oa3, oc3, hoe3⟩ := hown3.form); rw [List.length_take, ← HM.out, Nat.min_eq_left hk] at hoe3; subst hoe3; replace hown3 := hid hown3; clear hgr3)
            | (at_builtin; refine wp_appTm _ rfl (.tmp 60) (.tmp 62) 25 rfl wx.heap.size i0 _ Try.underlying25 hi hz0 hz1 hz2 rfl (.slice oa3 k oc3) (r.take k) rfl (OwnT.alloc hown3.out _) ⟨_, 0, none⟩ 1 (a, id) rfl (tm_new _ _) (by rw [List.length_take, ← HM.out]; omega) (Nat.le_trans B3.out.size (by simp)) ?_; intro v4 w4 hown4 hgr4; have B4 := hid ((B3.out.alloc B3.out.size _).grown hgr4 (Nat.le_trans B3.out.size (by simp)) (fun k hk => (World.ownsRow.lt hown3.out k hk).1)); have OX4 := hid (OX.out.chg (chg_below (S := fun _ => False) B4.out) (fun _ _ x => x)); (obtain ⟨oa4, oc4, hoe4⟩ := hown4.form); rw [List.length_append, List.length_take, ← HM.out, Nat.min_eq_left hk] at hoe4; subst hoe4; replace hown4 := hid hown4; clear hgr4)
            | (at_builtin; refine wp_appTs _ rfl (.tmp 64) (.tmp 67) 25 rfl wx.heap.size i0 _ Try.underlying25 hi hz0 hz1 hz2 rfl (.slice oa4 (k + 1) oc4) (r.take k ++ [(a, id)]) rfl hown4.out ⟨g0, k * 2, none⟩ 0 (c0 - k) (r.drop k) rfl (by rw [List.length_drop, ← HM.out]; try omega) (fun j u hj => by have := OX4.out.news (r.take k) (r.drop k) [] (by simp) j u hj; rw [List.length_take, ← HM.out, Nat.min_eq_left hk] at this; exact this) (by simp; rw [← HM.out]; omega) B4.out.size ?_; intro v5 w5 hown5 hgr5; have B5 := hid (B4.out.grown hgr5 B4.out.size (fun k hk => (World.ownsRow.lt hown4.out k hk).1)); (obtain ⟨oa5, oc5, hoe5⟩ := hown5.form); (obtain ⟨N5, hoe6⟩ : ∃ N5, v5 = .slice oa5 N5 oc5 := ⟨_, hoe5⟩); clear hoe5; subst hoe6; replace hown5 := hid hown5; clear hgr5))
          go_ret2
          exact ⟨_, rfl, HO.out _ _ k (hbX.out.trans (B5.out.mono hbX.out.size)) SPk.out (hown5.out.mono hbX.out.size)⟩

set_option maxHeartbeats 8000000 in
set_option maxRecDepth 100000 in
theorem refset_new {w : World} {v : Value} {l : List Tm} (h : TmsAt w v l) {id a : Int} (hn : l.length ≤ 1000000) (h1 : ¬ id < 0) (h2 : ¬ a < 0) (h3 : ¬ 1099511627776 < a) (hw : whenT l id = none) (hfew : ¬ 4096 ≤ l.length) :
    Calls Try.prog 12 #[v, .int .i64 id, .int .i64 a] w fun e w' => ∃ v1, e = .returned (.tuple #[v1, .int .i64 0]) ∧ TmsAt w' v1 (setT l id a) ∧ Below w.heap.size w w' := by
  obtain ⟨i0, hi, hz0, hz1, hz2⟩ := info_parts infoTm
  have KS := hid (refstop_any h (id := id) hn)
  obtain ⟨ao, cap, rfl, hcap, hr⟩ := h
  obtain ⟨n, hnn⟩ : ∃ n, n = l.length := ⟨_, rfl⟩
  rw [← hnn] at hn hcap KS ⊢
  have HN := hid hnn
  clear hr
  have hnl : decide ((stopT l id).length < n) = false := by rw [HN.out]; exact decide_eq_false fun x => stop_less.1 x hw
  have h4 : ¬ ((4096 : Int) ≤ (n : Int)) := by rw [HN.out]; omega
  have h4b : decide ((4096 : Int) ≤ (n : Int)) = false := decide_eq_false h4
  clear hfew
  rw [hnl] at KS
  clear hnl hnn hw
  have SP := hid (fun k h1 h2 => tw_stop (l := stopT l id) (p := fun t => ahd t (a, id)) (k := k) h1 h2)
  have HO := hid (fun (w' : World) (v' : Value) (k : Nat) (hb : Below w.heap.size w w') (e1 : (stopT l id).takeWhile (fun t => ahd t (a, id)) = (stopT l id).take k ∧ (stopT l id).dropWhile (fun t => ahd t (a, id)) = (stopT l id).drop k) (ho : OwnT w' w.heap.size v' (((stopT l id).take k ++ [(a, id)]) ++ (stopT l id).drop k)) => show TmsAt w' v' (setT l id a) ∧ Below w.heap.size w w' by unfold setT; rw [e1.1, e1.2]; have := ho.at; rw [List.append_assoc] at this; exact ⟨this, hb⟩)
  have HLR : Hid ((stopT l id).length ≤ 1000000) := Nat.le_trans (by unfold stopT; exact List.length_filter_le _ _) (by rw [← HN.out]; exact hn)
  go_enter Try.func12, Try.ntmps12
  go_wp2_with fail
  refine KS.out.mono ?_
  rintro e w1 ⟨v1, rfl, hown1, hb1⟩
  generalize stopT l id = r at hown1 SP HO HLR
  rcases hown1.2 with ⟨hv1, hr0⟩ | ⟨g0, c0, cur, hv1, hcc⟩
  · have hr : r = [] := List.eq_nil_of_length_eq_zero hr0
    subst hv1
    subst hr
    have SPk := hid (SP.out 0 (fun t ht => by simp at ht) (fun t' r' e => by simp at e))
    have ba := alloc_lt9 w1 (.cells #[.int .i64 a, .int .i64 id] 49)
    have bx := two_new w1 a id
    have hbA := hid (hb1.alloc hb1.size (.cells #[.int .i64 a, .int .i64 id] 49))
    clear hown1 hb1 SP
    go_wp2
    generalize w1.alloc _ = W at ba bx hbA ⊢
    generalize w1.heap.size = bb at ba bx ⊢
    go_loopw [11] (fun i wr => i = .int .i64 0 ∧ wr = W) (fun i _ => 0)
    case atStart => exact ⟨rfl, rfl⟩
    case round =>
      obtain ⟨rfl, rfl⟩ := hrel
      go_wp2
      refine wp_region_quiet_below followsMixed9 (by kernel_rfl) ?_
      repeat (go_big_quiet_step (fail))
      refine wpQuiet_nil ?_
      intro _ hw'
      obtain ⟨⟨dq, osq⟩, hw''⟩ := hw'
      subst hw''
      have hq := below_regrown wr dq osq
      generalize grow _ _ = wx at hq ⊢
      have cx0 := cellB (a := ⟨bb, 0, none⟩) hq ba bx.1
      have cx1 := cellB (a := ⟨bb, 1, none⟩) hq ba bx.2
      have lbx : Hid (bb < wx.heap.size) := Nat.lt_of_lt_of_le ba hq.size
      have hbX := hid (hbA.out.trans (hq.mono hbA.out.size))
      have hA : Below wx.heap.size wx (wx.alloc (.cells #[] 49)) := (Below.refl _ _).alloc (Nat.le_refl _) _
      have d0 := cellB hA lbx.out cx0
      have d1 := cellB hA lbx.out cx1
      have O0 := hid (ownT_made wx)
      have HA := hid hA
      clear hbA hq bx hA
      go_wp2_with (at_builtin; refine wp_appTm _ rfl (.tmp 60) (.tmp 62) 25 rfl wx.heap.size i0 _ Try.underlying25 hi hz0 hz1 hz2 rfl (.slice (some ⟨wx.heap.size, 0, none⟩) 0 0) [] rfl (OwnT.alloc O0.out _) ⟨wx.heap.size + 1, 0, none⟩ 1 (a, id) rfl (by have q := tm_new (wx.alloc (.cells #[] 49)) (a, id); rw [show (wx.alloc (.cells #[] 49)).heap.size = wx.heap.size + 1 by simp] at q; exact q) (by simp) (Nat.le_trans HA.out.size (by simp)) ?_; intro v4 w4 hown4 hgr4; have B4 := hid ((HA.out.alloc HA.out.size _).grown hgr4 (Nat.le_trans HA.out.size (by simp)) (fun k hk => (World.ownsRow.lt O0.out k hk).1)); (obtain ⟨oa4, oc4, hoe4, hc4, hne4⟩ := hown4.at); (obtain ⟨g4, off4, cs4, hg4, _, _⟩ := hne4 (by simp)); clear hne4; subst hg4; replace hc4 : 1 ≤ oc4 := (by simpa using hc4); rw [List.length_append] at hoe4; subst hoe4; replace hown4 := hid hown4; clear hgr4)
      go_ret2
      exact ⟨_, rfl, HO.out _ _ 0 (hbX.out.trans (B4.out.mono hbX.out.size)) SPk.out (by simpa using hown4.out.mono hbX.out.size)⟩
  · subst hv1
    obtain ⟨m, hm⟩ : ∃ m, m = r.length := ⟨_, rfl⟩
    have HC := hid hcc.2.2.1
    rw [← hm] at hown1 HLR HC ⊢
    have HM := hid hm
    clear hm hcc
    have hm1 : m ≤ 1000000 := HLR.out
    have ba := alloc_lt9 w1 (.cells #[.int .i64 a, .int .i64 id] 49)
    have bx := two_new w1 a id
    have hbA := hid (hb1.alloc hb1.size (.cells #[.int .i64 a, .int .i64 id] 49))
    have OA2 := hid (OwnT.alloc hown1 (.cells #[.int .i64 a, .int .i64 id] 49))
    clear hown1 hb1
    go_wp2
    generalize w1.alloc _ = W at ba bx hbA OA2 ⊢
    generalize w1.heap.size = bb at ba bx OA2 ⊢
    go_loopw [11] (fun i wr => ∃ k : Nat, k ≤ m ∧ i = .int .i64 k ∧ Hid (∀ t ∈ r.take k, ahd t (a, id) = true) ∧ Hid (Below W.heap.size W wr)) (fun i _ => m - (intOf i).toNat)
    case atStart => exact ⟨0, by omega, rfl, fun t ht => by simp at ht, Below.refl _ _⟩
    case round =>
      obtain ⟨k, hk, rfl, hinv, hb⟩ := hrel
      have OR := hid (OA2.out.chg (chg_below (S := fun _ => False) hb.out) (fun _ _ x => x))
      have e0 := cell_regrown (cellB (a := ⟨bb, 0, none⟩) hb.out ba bx.1)
      have e1 := cell_regrown (cellB (a := ⟨bb, 1, none⟩) hb.out ba bx.2)
      by_cases hlt : k < m
      · have hlt' : (k : Int) < m := by omega
        have hkr : k < r.length := by rw [← HM.out]; exact hlt
        obtain ⟨q0, q1⟩ := tmsCells_get r k hkr
        have x0 := World.ownsRow.cells OR.out (g := g0) rfl _ _ q0
        have x1 := World.ownsRow.cells OR.out (g := g0) rfl _ _ q1
        rw [add_z] at x0 x1
        have x0 := cell_regrown x0
        have x1 := cell_regrown x1
        have GE : Hid (∀ x, r.drop k = x → ∃ r', x = r[k] :: r') := fun x e => ⟨r.drop (k + 1), e ▸ List.drop_eq_getElem_cons hkr⟩
        have TK : Hid (r.take (k + 1) = r.take k ++ [r[k]]) := List.take_succ_eq_append_getElem hkr
        clear q0 q1
        generalize r[k] = t at x0 x1 GE TK
        have KA := hid (fun (d : Nat) (os : Array Obj) => Calls.regrown_of (refahead_any t (a, id) (grow (redrawn wr d) os)))
        cases hah : ahd t (a, id) with
        | true =>
          rw [hah] at KA
          have hinv2 : Hid (∀ t ∈ r.take (k + 1), ahd t (a, id) = true) := fun t' h' => by
            rw [TK.out] at h'
            rcases List.mem_append.1 h' with h' | h'
            · exact hinv.out t' h'
            · simp at h'; subst h'; exact hah
          clear hah GE TK hinv
          go_wp2
          refine wp_region_quiet_below followsMixed9 (by kernel_rfl) ?_
          repeat (go_big_quiet_step (first | with_reducible exact KA.out _ _))
          refine wpQuiet_nil ?_
          intro _ hw'
          obtain ⟨⟨dq, osq⟩, hw''⟩ := hw'
          subst hw''
          have hq := below_regrown wr dq osq
          generalize grow _ _ = wx at hq ⊢
          have hbN := hid (hb.out.trans (hq.mono hb.out.size))
          go_wp2
          go_roundw
          case rel => exact ⟨k + 1, by omega, by go_num, hinv2.out, hbN.out⟩
          case measure => simp [intOf]; omega
        | false =>
          rw [hah] at KA
          have SPk := hid (SP.out k hinv.out (fun t' r' e => by obtain ⟨r2, hr2⟩ := GE.out _ e; injection hr2 with hr2 _; subst hr2; exact hah))
          clear hah GE TK hinv
          go_wp2
          refine wp_region_quiet_below followsMixed9 (by kernel_rfl) ?_
          repeat (go_big_quiet_step (first | with_reducible exact KA.out _ _))
          refine wpQuiet_nil ?_
          intro _ hw'
          obtain ⟨⟨dq, osq⟩, hw''⟩ := hw'
          subst hw''
          have hq := below_regrown wr dq osq
          generalize grow _ _ = wx at hq ⊢
          have hbN := hb.out.trans (hq.mono hb.out.size)
          have OX := hid (OR.out.chg (chg_below (S := fun _ => False) hq) (fun _ _ x => x))
          have lbx : Hid (bb < wx.heap.size) := Nat.lt_of_lt_of_le ba hbN.size
          have cx0 := cellB (a := ⟨bb, 0, none⟩) hbN ba bx.1
          have cx1 := cellB (a := ⟨bb, 1, none⟩) hbN ba bx.2
          have hbX := hid (hbA.out.trans (hbN.mono hbA.out.size))
          clear hbN hq hb OR e0 e1 KA bx x0 x1 SP
          have hck' : ¬ (c0 - k = 0) := by have := HC.out; omega
          have hkc : (k : Int) ≤ (c0 : Int) := by have := HC.out; omega
          have hkm : (k : Int) ≤ (m : Int) := by omega
          go_wp2_with (first
            | (at_builtin; refine wp_appTs _ rfl (.tmp 55) (.tmp 58) 25 rfl wx.heap.size i0 _ Try.underlying25 hi hz0 hz1 hz2 rfl (.slice (some ⟨wx.heap.size, 0, none⟩) 0 0) [] rfl (ownT_made wx) ⟨g0, 0, none⟩ k c0 (r.take k) rfl (by rw [List.length_take, ← HM.out]; omega) ((OX.out.alloc _).news [] (r.take k) (r.drop k) (by simp)) (by simp; omega) (by simp) ?_; intro v3 w3 hown3 hgr3; have B3 := hid (((Below.refl wx.heap.size wx).alloc (Nat.le_refl _) _).grown hgr3 (by simp) (fun k hk => by cases hk; exact Nat.le_refl _)); have d0 := cellB B3.out lbx.out cx0; have d1 := cellB B3.out lbx.out cx1; rw [List.nil_append] at hown3; (obtain ⟨oa3, oc3, hoe3⟩ := hown3.form); rw [List.length_take, ← HM.out, Nat.min_eq_left hk] at hoe3; subst hoe3; replace hown3 := hid hown3; clear hgr3)
            | (at_builtin; refine wp_appTm _ rfl (.tmp 60) (.tmp 62) 25 rfl wx.heap.size i0 _ Try.underlying25 hi hz0 hz1 hz2 rfl (.slice oa3 k oc3) (r.take k) rfl (OwnT.alloc hown3.out _) ⟨_, 0, none⟩ 1 (a, id) rfl (tm_new _ _) (by rw [List.length_take, ← HM.out]; omega) (Nat.le_trans B3.out.size (by simp)) ?_; intro v4 w4 hown4 hgr4; have B4 := hid ((B3.out.alloc B3.out.size _).grown hgr4 (Nat.le_trans B3.out.size (by simp)) (fun k hk => (World.ownsRow.lt hown3.out k hk).1)); have OX4 := hid (OX.out.chg (chg_below (S := fun _ => False) B4.out) (fun _ _ x => x)); (obtain ⟨oa4, oc4, hoe4⟩ := hown4.form); rw [List.length_append, List.length_take, ← HM.out, Nat.min_eq_left hk] at hoe4; subst hoe4; replace hown4 := hid hown4; clear hgr4)
            | (at_builtin; refine wp_appTs _ rfl (.tmp 64) (.tmp 67) 25 rfl wx.heap.size i0 _ Try.underlying25 hi hz0 hz1 hz2 rfl (.slice oa4 (k + 1) oc4) (r.take k ++ [(a, id)]) rfl hown4.out ⟨g0, k * 2, none⟩ (m - k) (c0 - k) (r.drop k) rfl (by rw [List.length_drop, ← HM.out]; try omega) (fun j u hj => by have := OX4.out.news (r.take k) (r.drop k) [] (by simp) j u hj; rw [List.length_take, ← HM.out, Nat.min_eq_left hk] at this; exact this) (by simp; rw [← HM.out]; omega) B4.out.size ?_; intro v5 w5 hown5 hgr5; have B5 := hid (B4.out.grown hgr5 B4.out.size (fun k hk => (World.ownsRow.lt hown4.out k hk).1)); (obtain ⟨oa5, oc5, hoe5⟩ := hown5.form); (obtain ⟨N5, hoe6⟩ : ∃ N5, v5 = .slice oa5 N5 oc5 := ⟨_, hoe5⟩); clear hoe5; subst hoe6; replace hown5 := hid hown5; clear hgr5))
          go_ret2
          exact ⟨_, rfl, HO.out _ _ k (hbX.out.trans (B5.out.mono hbX.out.size)) SPk.out (hown5.out.mono hbX.out.size)⟩
      · have hlt' : ¬ ((k : Int) < m) := by omega
        obtain rfl : k = m := by omega
        have SPk := hid (SP.out k hinv.out (fun t' r' e => by rw [List.drop_eq_nil_of_le (by rw [← HM.out]; omega)] at e; cases e))
        have KA : Hid True := trivial
        clear hinv
        go_wp2
        refine wp_region_quiet_below followsMixed9 (by kernel_rfl) ?_
        repeat (go_big_quiet_step (fail))
        refine wpQuiet_nil ?_
        intro _ hw'
        obtain ⟨⟨dq, osq⟩, hw''⟩ := hw'
        subst hw''
        have hq := below_regrown wr dq osq
        generalize grow _ _ = wx at hq ⊢
        have hbN := hb.out.trans (hq.mono hb.out.size)
        have OX := hid (OR.out.chg (chg_below (S := fun _ => False) hq) (fun _ _ x => x))
        have lbx : Hid (bb < wx.heap.size) := Nat.lt_of_lt_of_le ba hbN.size
        have cx0 := cellB (a := ⟨bb, 0, none⟩) hbN ba bx.1
        have cx1 := cellB (a := ⟨bb, 1, none⟩) hbN ba bx.2
        have hbX := hid (hbA.out.trans (hbN.mono hbA.out.size))
        clear hbN hq hb OR e0 e1 KA bx SP
        by_cases hck : c0 = k
        · subst hck
          have hdr : r.drop c0 = [] := List.drop_eq_nil_of_le (by rw [← HM.out]; have := HC.out; omega)
          have hkc : (c0 : Int) ≤ (c0 : Int) := by have := HC.out; omega
          have hkm : (c0 : Int) ≤ (c0 : Int) := by omega
          go_wp2_with (first
            | (at_builtin; refine wp_appTs _ rfl (.tmp 55) (.tmp 58) 25 rfl wx.heap.size i0 _ Try.underlying25 hi hz0 hz1 hz2 rfl (.slice (some ⟨wx.heap.size, 0, none⟩) 0 0) [] rfl (ownT_made wx) ⟨g0, 0, none⟩ c0 c0 (r.take c0) rfl (by rw [List.length_take, ← HM.out]; omega) ((OX.out.alloc _).news [] (r.take c0) (r.drop c0) (by simp)) (by simp; omega) (by simp) ?_; intro v3 w3 hown3 hgr3; have B3 := hid (((Below.refl wx.heap.size wx).alloc (Nat.le_refl _) _).grown hgr3 (by simp) (fun k hk => by cases hk; exact Nat.le_refl _)); have d0 := cellB B3.out lbx.out cx0; have d1 := cellB B3.out lbx.out cx1; rw [List.nil_append] at hown3; (obtain ⟨oa3, oc3, hoe3⟩ := hown3.form); rw [List.length_take, ← HM.out, Nat.min_eq_left hk] at hoe3; subst hoe3; replace hown3 := hid hown3; clear hgr3)
            | (at_builtin; refine wp_appTm _ rfl (.tmp 60) (.tmp 62) 25 rfl wx.heap.size i0 _ Try.underlying25 hi hz0 hz1 hz2 rfl (.slice oa3 c0 oc3) (r.take c0) rfl (OwnT.alloc hown3.out _) ⟨_, 0, none⟩ 1 (a, id) rfl (tm_new _ _) (by rw [List.length_take, ← HM.out]; omega) (Nat.le_trans B3.out.size (by simp)) ?_; intro v4 w4 hown4 hgr4; have B4 := hid ((B3.out.alloc B3.out.size _).grown hgr4 (Nat.le_trans B3.out.size (by simp)) (fun k hk => (World.ownsRow.lt hown3.out k hk).1)); have OX4 := hid (OX.out.chg (chg_below (S := fun _ => False) B4.out) (fun _ _ x => x)); (obtain ⟨oa4, oc4, hoe4⟩ := hown4.form); rw [List.length_append, List.length_take, ← HM.out, Nat.min_eq_left hk] at hoe4; subst hoe4; replace hown4 := hid hown4; clear hgr4)
            | (at_builtin; refine wp_appTs _ rfl (.tmp 64) (.tmp 67) 25 rfl wx.heap.size i0 _ Try.underlying25 hi hz0 hz1 hz2 rfl (.slice oa4 (c0 + 1) oc4) (r.take c0 ++ [(a, id)]) rfl hown4.out ⟨g0, 0, none⟩ 0 0 (r.drop c0) rfl (by rw [List.length_drop, ← HM.out]; try omega) (by rw [hdr]; intro j u hj; simp [tmsCells] at hj) (by simp; rw [← HM.out]; omega) B4.out.size ?_; intro v5 w5 hown5 hgr5; have B5 := hid (B4.out.grown hgr5 B4.out.size (fun k hk => (World.ownsRow.lt hown4.out k hk).1)); (obtain ⟨oa5, oc5, hoe5⟩ := hown5.form); (obtain ⟨N5, hoe6⟩ : ∃ N5, v5 = .slice oa5 N5 oc5 := ⟨_, hoe5⟩); clear hoe5; subst hoe6; replace hown5 := hid hown5; clear hgr5))
          go_ret2
          exact ⟨_, rfl, HO.out _ _ c0 (hbX.out.trans (B5.out.mono hbX.out.size)) SPk.out (hown5.out.mono hbX.out.size)⟩
        · have hck' : ¬ (c0 - k = 0) := by have := HC.out; omega
          have hkc : (k : Int) ≤ (c0 : Int) := by have := HC.out; omega
          have hkm : (k : Int) ≤ (k : Int) := by omega
          go_wp2_with (first
            | (at_builtin; refine wp_appTs _ rfl (.tmp 55) (.tmp 58) 25 rfl wx.heap.size i0 _ Try.underlying25 hi hz0 hz1 hz2 rfl (.slice (some ⟨wx.heap.size, 0, none⟩) 0 0) [] rfl (ownT_made wx) ⟨g0, 0, none⟩ k c0 (r.take k) rfl (by rw [List.length_take, ← HM.out]; omega) ((OX.out.alloc _).news [] (r.take k) (r.drop k) (by simp)) (by simp; omega) (by simp) ?_; intro v3 w3 hown3 hgr3; have B3 := hid (((Below.refl wx.heap.size wx).alloc (Nat.le_refl _) _).grown hgr3 (by simp) (fun k hk => by cases hk; exact Nat.le_refl _)); have d0 := cellB B3.out lbx.out cx0; have d1 := cellB B3.out lbx.out cx1; rw [List.nil_append] at hown3; (obtain ⟨oa3, oc3, hoe3⟩ := hown3.form); rw [List.length_take, ← HM.out, Nat.min_eq_left hk] at hoe3; subst hoe3; replace hown3 := hid hown3; clear hgr3)
            | (at_builtin; refine wp_appTm _ rfl (.tmp 60) (.tmp 62) 25 rfl wx.heap.size i0 _ Try.underlying25 hi hz0 hz1 hz2 rfl (.slice oa3 k oc3) (r.take k) rfl (OwnT.alloc hown3.out _) ⟨_, 0, none⟩ 1 (a, id) rfl (tm_new _ _) (by rw [List.length_take, ← HM.out]; omega) (Nat.le_trans B3.out.size (by simp)) ?_; intro v4 w4 hown4 hgr4; have B4 := hid ((B3.out.alloc B3.out.size _).grown hgr4 (Nat.le_trans B3.out.size (by simp)) (fun k hk => (World.ownsRow.lt hown3.out k hk).1)); have OX4 := hid (OX.out.chg (chg_below (S := fun _ => False) B4.out) (fun _ _ x => x)); (obtain ⟨oa4, oc4, hoe4⟩ := hown4.form); rw [List.length_append, List.length_take, ← HM.out, Nat.min_eq_left hk] at hoe4; subst hoe4; replace hown4 := hid hown4; clear hgr4)
            | (at_builtin; refine wp_appTs _ rfl (.tmp 64) (.tmp 67) 25 rfl wx.heap.size i0 _ Try.underlying25 hi hz0 hz1 hz2 rfl (.slice oa4 (k + 1) oc4) (r.take k ++ [(a, id)]) rfl hown4.out ⟨g0, k * 2, none⟩ 0 (c0 - k) (r.drop k) rfl (by rw [List.length_drop, ← HM.out]; try omega) (fun j u hj => by have := OX4.out.news (r.take k) (r.drop k) [] (by simp) j u hj; rw [List.length_take, ← HM.out, Nat.min_eq_left hk] at this; exact this) (by simp; rw [← HM.out]; omega) B4.out.size ?_; intro v5 w5 hown5 hgr5; have B5 := hid (B4.out.grown hgr5 B4.out.size (fun k hk => (World.ownsRow.lt hown4.out k hk).1)); (obtain ⟨oa5, oc5, hoe5⟩ := hown5.form); (obtain ⟨N5, hoe6⟩ : ∃ N5, v5 = .slice oa5 N5 oc5 := ⟨_, hoe5⟩); clear hoe5; subst hoe6; replace hown5 := hid hown5; clear hgr5))
          go_ret2
          exact ⟨_, rfl, HO.out _ _ k (hbX.out.trans (B5.out.mono hbX.out.size)) SPk.out (hown5.out.mono hbX.out.size)⟩

def SetOut (w w' : World) (l : List Tm) (id a : Int) (v1 : Value) : Prop := TmsAt w' v1 (setR l id a) ∧ Below w.heap.size w w'
set_option maxHeartbeats 4000000 in
set_option maxRecDepth 100000 in
theorem refset_any {w : World} {v : Value} {l : List Tm} (h : TmsAt w v l) {id a : Int} (hn : l.length ≤ 1000000) :
    Calls Try.prog 12 #[v, .int .i64 id, .int .i64 a] w fun e w' => ∃ v1, e = .returned (.tuple #[v1, .int .i64 (setE l id a)]) ∧ SetOut w w' l id a v1 := by
  obtain ⟨i0, hi, hz0, hz1, hz2⟩ := info_parts infoTm
  have KS := hid (refstop_any h (id := id) hn)
  have HH := hid h
  obtain ⟨ao, cap, rfl, hcap, hr⟩ := h
  obtain ⟨n, hnn⟩ : ∃ n, n = l.length := ⟨_, rfl⟩
  rw [← hnn] at hn hcap HH KS ⊢
  have HN := hid hnn
  clear hr hnn
  by_cases hbad : badS id a
  · have HE : Hid (setE l id a = 1) := by unfold setE; exact if_pos hbad
    have HO : Hid (SetOut w w l id a (.slice ao n cap)) := by unfold SetOut setR; rw [if_pos hbad]; exact ⟨HH.out, Below.refl _ _⟩
    unfold badS at hbad
    clear HH KS
    by_cases h1 : id < 0
    · go_enter Try.func12, Try.ntmps12
      go_wp2
      go_ret2
      exact ⟨_, by rw [HE.out]; rfl, HO.out⟩
    · by_cases h2 : a < 0
      · go_enter Try.func12, Try.ntmps12
        go_wp2
        go_ret2
        exact ⟨_, by rw [HE.out]; rfl, HO.out⟩
      · have h3 : 1099511627776 < a := by omega
        clear hbad
        go_enter Try.func12, Try.ntmps12
        go_wp2
        go_ret2
        exact ⟨_, by rw [HE.out]; rfl, HO.out⟩
  · have HB := hid hbad
    unfold badS at hbad
    have h1 : ¬ id < 0 := fun x => hbad (.inl x)
    have h2 : ¬ a < 0 := fun x => hbad (.inr (.inl x))
    have h3 : ¬ 1099511627776 < a := fun x => hbad (.inr (.inr x))
    clear hbad
    by_cases hful : whenT l id = none ∧ 4096 ≤ l.length
    · have HE := hid (show setE l id a = 5 by unfold setE; rw [if_neg HB.out, if_pos hful])
      have hR : setR l id a = l := by unfold setR; rw [if_neg HB.out, if_pos hful]
      have hnl : decide ((stopT l id).length < n) = false := by rw [HN.out]; exact decide_eq_false fun x => stop_less.1 x hful.1
      rw [hnl] at KS
      have h4 : (4096 : Int) ≤ n := by rw [HN.out]; exact_mod_cast hful.2
      have HO := hid (fun (w' : World) (hb : Below w.heap.size w w') => show SetOut w w' l id a (.slice ao n cap) by unfold SetOut; rw [hR]; exact ⟨HH.out.below hb, hb⟩)
      clear hful hR hnl HH
      go_enter Try.func12, Try.ntmps12
      go_wp2_with (go_at_call 14; refine KS.out.mono ?_; rintro e w1 ⟨v1, rfl, hown1, hb1⟩)
      go_ret2
      exact ⟨_, by rw [HE.out]; rfl, HO.out _ hb1⟩
    · have HE := hid (show setE l id a = 0 by unfold setE; rw [if_neg HB.out, if_neg hful])
      have hR : setR l id a = setT l id a := by unfold setR; rw [if_neg HB.out, if_neg hful]
      have HO := hid (fun (w' : World) (v1 : Value) (x : TmsAt w' v1 (setT l id a) ∧ Below w.heap.size w w') => show SetOut w w' l id a v1 by unfold SetOut; rw [hR]; exact x)
      clear KS
      by_cases hw : whenT l id = none
      · refine (refset_new HH.out (by rw [← HN.out]; exact hn) h1 h2 h3 hw (fun x => hful ⟨hw, x⟩)).mono ?_
        rintro e w' ⟨v1, rfl, x⟩
        exact ⟨v1, by rw [HE.out], HO.out _ _ x⟩
      · refine (refset_old HH.out (by rw [← HN.out]; exact hn) h1 h2 h3 hw).mono ?_
        rintro e w' ⟨v1, rfl, x⟩
        exact ⟨v1, by rw [HE.out], HO.out _ _ x⟩
end Go.Proofs.Ythioekmlljpbpaa
