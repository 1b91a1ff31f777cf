/-
  The contract of package frame's Print.
-/
import Derived.Test.YtagopboofmjnfaaDoorFJoin
namespace Go.Proofs.YtagopboofmjnfaaDoor
open Go.RowKit Go.Sort Sc
set_option linter.unusedVariables false
set_option maxRecDepth 20000

theorem own_cells {w : World} {B : Nat} {v : Value} {ps : List (List UInt8)} (h : Own w B 9 v (strs ps)) (hne : ps ≠ []) :
    ∃ g cap, v = .slice (some ⟨g, 0, none⟩) ps.length cap ∧ ps.length ≤ cap ∧ g < w.heap.size ∧ B ≤ g ∧ ∀ j (hj : j < ps.length), w.cell? ⟨g, j, none⟩ = some (.string ⟨(ps[j]).toArray⟩) := by
  have hl := strs_length ps
  have h0 := h
  rcases h.2 with ⟨rfl, hn⟩ | ⟨g, cap, cur, rfl, hb, hg, hnc, r⟩
  · rw [hl] at hn; exact absurd (List.eq_nil_of_length_eq_zero hn) hne
  · rw [hl] at hnc ⊢
    refine ⟨g, cap, rfl, hnc, (Array.getElem?_eq_some_iff.1 hg).1, hb, fun j hj => ?_⟩
    have := World.ownsRow.cells h0 (g := g) rfl j (.string ⟨(ps[j]).toArray⟩) (by simp [strs, hj])
    rw [add_at, Nat.zero_add] at this
    exact this
theorem hdrs_flat_len {B : Nat} : ∀ hs : List Hdr, (∀ p ∈ hs, p.name.length ≤ B ∧ p.value.length ≤ B) → (hs.flatMap hdrP).flatten.length ≤ hs.length * (2 * B + 4)
  | [], _ => by simp
  | x :: hs, h => by
    have ih := hdrs_flat_len hs (fun p hp => h p (by simp [hp]))
    have hx := h x (by simp)
    rw [List.flatMap_cons, List.flatten_append, List.length_append, List.length_cons, Nat.add_mul]
    have e : (hdrP x).flatten.length = x.name.length + 2 + x.value.length + 2 := by simp [hdrP, crlf]; omega
    omega
theorem text_bound {m : Ms} (h : SmallM 140737488355328 m) (h64 : m.headers.length ≤ 64) (h0 : 0 ≤ m.status) (h1 : m.status ≤ 699) : (piecesM m).flatten.length ≤ 4611686018427387904 := by
  obtain ⟨k1, k2, k3, k4, _, k6⟩ := h
  have hh := hdrs_flat_len m.headers k6
  have hm : m.headers.length * (2 * 140737488355328 + 4) ≤ 64 * (2 * 140737488355328 + 4) := Nat.mul_le_mul_right _ h64
  have d1 : (digL m.body.length).length ≤ 19 := digL_len19 (by omega)
  have d2 : (digL m.status.toNat).length ≤ 19 := digL_len19 (by omega)
  have e1 : (startP m).flatten.length ≤ 3 * 140737488355328 := by
    unfold startP
    split
    · simp [versionK, crlf]; omega
    · simp [versionK, crlf]; omega
  have e2 : (lastP m.body).flatten.length ≤ 140737488355328 + 100 := by
    simp [lastP, lengthK, crlf]; omega
  unfold piecesM
  rw [List.flatten_append, List.flatten_append, List.length_append, List.length_append]
  omega
theorem first_st {m : Ms} (h : firstB m = true) : 0 ≤ m.status ∧ m.status ≤ 699 := by
  cases he : m.method.isEmpty with
  | true =>
    have := first_resp he
    rw [h] at this
    have h2 : decide (100 ≤ m.status) = true ∧ decide (m.status ≤ 699) = true := by
      revert this; cases decide (100 ≤ m.status) <;> cases decide (m.status ≤ 699) <;> simp
    exact ⟨by have := of_decide_eq_true h2.1; omega, of_decide_eq_true h2.2⟩
  | false =>
    have := first_req he
    rw [h] at this
    have h2 : decide (m.status = 0) = true := by
      revert this; cases tokenB m.method <;> cases tgtB m.target <;> cases decide (m.status = 0) <;> simp
    have := of_decide_eq_true h2
    omega
theorem text_ne (m : Ms) : textM m ≠ [] := by
  unfold textM crlf; simp
theorem ret_pr {R : List UInt8 × Int} {x : List UInt8} {n : Int} (h : R = (x, n)) : Ending.returned (.tuple #[.string ⟨x.toArray⟩, .int .i64 n]) = .returned (.tuple #[.string ⟨R.1.toArray⟩, .int .i64 R.2]) := by rw [h]

set_option maxHeartbeats 4000000 in
set_option maxRecDepth 100000 in
theorem fprint_any (m : Ms) (h : Value) (w : World) (hsm : SmallM 140737488355328 m) (hat : HdrsAt w h m.headers) :
    Calls Tryd.prog 11 #[msgV m h] w fun e w' => e = .returned (.tuple #[.string ⟨(printM m).1.toArray⟩, .int .i64 (printM m).2]) ∧ Below w.heap.size w w' := by
  obtain ⟨i0, hi, hz0, hz1, hz2⟩ := info_parts info9
  have KC := hid (fun w' (hb : Below w.heap.size w w') => fcheck_any m h w' hsm (hat.below hb))
  obtain ⟨ao, cap, rfl, hcell⟩ := hat.get
  have HC := hid hcell
  have HBX := hid (boxM_new w m (.slice ao m.headers.length cap))
  have hb0 : Below w.heap.size w (w.alloc (objM m (.slice ao m.headers.length cap))) := (Below.refl _ w).alloc (Nat.le_refl _) _
  have hlt := alloc_lt w (objM m (.slice ao m.headers.length cap))
  clear hcell hat
  by_cases hok : checkM m = 0
  case neg =>
    have HP : Hid (printM m = ([], checkM m)) := show _ = _ by rw [printM, if_pos hok]
    have hne : (checkM m != 0) = true := by simpa using hok
    generalize printM m = R at HP ⊢
    generalize checkM m = cv at KC HP hne
    clear hok hsm HC
    obtain ⟨me, ta, st, re, hs, bo⟩ := m
    unfold msgV at KC ⊢
    unfold objM at HBX hb0 hlt
    simp only at KC HBX hb0 hlt ⊢
    obtain ⟨x0, x1, x2, x3, x4, x5⟩ := HBX.out
    simp only at x0 x1 x2 x3 x4 x5
    go_enter Tryd.func11, Tryd.ntmps11
    go_wp2_with fail
    refine (KC.out _ hb0).mono ?_
    rintro e w1 ⟨rfl, hw1⟩
    go_wp2
    go_ret2
    exact ⟨ret_pr (x := []) HP.out, hb0.trans (hw1.mono hb0.size)⟩
  obtain ⟨f1, f2, f3⟩ := checkM_ok hok
  obtain ⟨s0, s1⟩ := first_st f1
  have HTB := hid (text_bound hsm f2 s0 s1)
  have HPF := hid (pieces_flat m)
  have HNE := hid (text_ne m)
  have HP : Hid (printM m = if 4096 < (textM m).length then ([], 2) else (textM m, 0)) := show _ = _ by rw [printM, if_neg (by simp [hok])]
  have KP := hid (fun w' => spieces_any m ao m.headers.length cap w' s0 s1)
  have hPM : piecesM m = startP m ++ m.headers.flatMap hdrP ++ lastP m.body := rfl
  have hsl := startP_len m
  have hbo := hsm.2.2.2.1
  have KD := hid (fun w' => digits_any m.body.length w' (by omega))
  rw [hok] at KC
  generalize printM m = R at HP ⊢
  generalize textM m = T at HPF HNE HP
  generalize startP m = S at KP hPM hsl
  clear hok f1 f3 hsm
  obtain ⟨me, ta, st, re, hs, bo⟩ := m
  unfold msgV at KC KP ⊢
  unfold objM at HBX hb0 hlt
  simp only at KC KP KD HC HBX hb0 hlt hPM f2 hbo ⊢
  have hlp : lastP bo = [lengthK, [58, 32], digL bo.length, crlf, crlf, bo] := rfl
  generalize digL bo.length = dg at KD hlp
  generalize piecesM _ = P at HTB HPF hPM
  obtain ⟨n, hnn⟩ : ∃ n, n = hs.length := ⟨_, rfl⟩
  rw [← hnn] at HBX hb0 hlt KC KP f2 ⊢
  have HN := hid hnn
  have HPM := hid hPM
  have HLP := hid hlp
  have HSL := hid hsl
  clear hnn hPM hlp hsl
  obtain ⟨x0, x1, x2, x3, x4, x5⟩ := HBX.out
  simp only at x0 x1 x2 x3 x4 x5
  go_enter Tryd.func11, Tryd.ntmps11
  go_wp2_with fail
  refine (KC.out _ hb0).mono ?_
  rintro e w1 ⟨rfl, hw1⟩
  have HB1 := hid (BoxM.below HBX.out hw1 hlt)
  have hb1 := hb0.trans (hw1.mono hb0.size)
  have hlt1 := Nat.lt_of_lt_of_le hlt hw1.size
  clear HBX hw1 hb0 hlt x0 x1 x2 x3 x4 x5 KC
  obtain ⟨x0, x1, x2, x3, x4, x5⟩ := HB1.out
  simp only at x0 x1 x2 x3 x4 x5
  go_wp2_with fail
  refine (KP.out _).mono ?_
  rintro e w2 ⟨v2, rfl, hown2, hw2⟩
  obtain ⟨a2, c2, hv2⟩ := hown2.form
  subst hv2
  rw [strs_length, HSL.out] at hown2 ⊢
  have HO2 := hid hown2
  clear hown2 KP x0 x1 x2 x3 x4 x5
  obtain ⟨x0, x1, x2, x3, x4, x5⟩ := BoxM.below HB1.out hw2 hlt1
  simp only at x0 x1 x2 x3 x4 x5
  go_wp2
  go_loopw [5, 18] (fun x i wr => ∃ k : Nat, k ≤ n ∧ i = .int .i64 k ∧ Hid (Own wr w1.heap.size 9 x (strs (S ++ (hs.take k).flatMap hdrP))) ∧ Below w1.heap.size w1 wr ∧ w1.heap.size ≤ wr.heap.size) (fun _ i _ => n - (intOf i).toNat)
  case atStart => exact ⟨0, Nat.zero_le _, rfl, hid (by simpa using HO2.out), hw2, hw2.size⟩
  case round =>
    clear x0 x1 x2 x3 x4 x5 HO2 hw2
    obtain ⟨k, hk, rfl, HO, hb, hB⟩ := hrel
    obtain ⟨x0, x1, x2, x3, x4, x5⟩ := BoxM.below HB1.out hb hlt1
    simp only at x0 x1 x2 x3 x4 x5
    have hbw : Below w.heap.size w wr := hb1.trans (hb.mono hb1.size)
    have hlen : (S ++ (hs.take k).flatMap hdrP).length ≤ 1000 := by
      rw [List.length_append, hdrsP_len, List.length_take, HSL.out]; omega
    by_cases hlt2 : k < n
    · have hkl : k < hs.length := by have := HN.out; omega
      obtain ⟨a, ha, hab, h0, h1⟩ := HC.out k hkl
      have d0 := cell_below hbw (by rw [add_block]; exact hab) h0
      have d1 := cell_below hbw (by simp only [add_block]; exact hab) h1
      have hst := hid (hdrsP_step hkl)
      obtain ⟨xa, xc, hxe⟩ := HO.out.form
      subst hxe
      rw [strs_length] at HO
      clear hab h0 h1
      subst ha
      generalize hs[k] = x at d0 d1 hst
      obtain ⟨nm, vl⟩ := x
      simp only at d0 d1
      have hnx : Hid ((S ++ (hs.take k).flatMap hdrP) ++ hdrP ⟨nm, vl⟩ = S ++ (hs.take (k + 1)).flatMap hdrP) := show _ = _ by rw [hst.out]; simp
      generalize hQ : S ++ (hs.take k).flatMap hdrP = Q at HO hlen hnx
      clear hst hQ
      rw [strs_length]
      have HNV := hid (new_txts (wr.alloc (objH ⟨nm, vl⟩)) 9 (hdrP ⟨nm, vl⟩))
      have hO3 := hid (fun o o2 => ((HO.out.alloc o).alloc o2))
      have hb3 := hid (fun o o2 => (hb.alloc hB o).alloc (o := o2) (by have := hB; simp; omega))
      unfold objH at HNV
      rw [show (wr.alloc (.cells #[.string ⟨nm.toArray⟩, .string ⟨vl.toArray⟩] 51)).heap.size = wr.heap.size + 1 by simp] at HNV
      clear HO x0 x1 x2 x3 x4 x5
      go_wp2_with (at_builtin; refine wp_appT _ rfl (.tmp 22) (.tmp 27) 46 rfl w1.heap.size 9 i0 (.string .empty) Tryd.underlying46 hi hz0 hz1 hz2 rfl _ Q rfl (hO3.out _ _) ⟨_, 0, none⟩ 4 (hdrP ⟨nm, vl⟩) 4 rfl rfl (by exact HNV.out) (by omega) w1 (hb3.out _ _) (by simp; omega) ?_; intro v5 w5 hown5 hb5 hB5)
      rw [hnx.out] at hown5
      have HO5 := hid hown5
      clear hown5
      go_wp2
      go_roundw
      case rel => exact ⟨k + 1, by omega, by go_num, HO5, hb5, hB5⟩
      case measure => simp [intOf]; omega
    · have hQ : S ++ (hs.take k).flatMap hdrP = S ++ hs.flatMap hdrP := by rw [List.take_of_length_le (by have := HN.out; omega)]
      rw [hQ] at HO hlen
      obtain ⟨Q, hQQ⟩ : ∃ Q, Q = S ++ hs.flatMap hdrP := ⟨_, rfl⟩
      rw [← hQQ] at HO hlen
      have HPQ : Hid (P = Q ++ [lengthK, [58, 32], dg, crlf, crlf, bo]) := show _ = _ by rw [HPM.out, HLP.out, ← hQQ]
      clear hQ hQQ HPM HLP HSL HC HN
      obtain ⟨xa, xc, hxe⟩ := HO.out.form
      subst hxe
      rw [strs_length] at HO ⊢
      have HX5 := hid (fun (w3 : World) (hw3 : Below wr.drew.heap.size wr.drew w3) => cell_below hw3 (show w.heap.size < wr.drew.heap.size from Nat.lt_of_lt_of_le hlt1 hB) x5)
      have HOX := hid (fun (w3 : World) (hw3 : Below wr.drew.heap.size wr.drew w3) (o : Obj) => (HO.out.drew.below hw3).alloc o)
      have HBX := hid (fun (w3 : World) (hw3 : Below wr.drew.heap.size wr.drew w3) (o : Obj) => (hb.drew.trans (hw3.mono hB)).alloc (Nat.le_trans hB hw3.size) o)
      have HSX := hid (fun (w3 : World) (hw3 : Below wr.drew.heap.size wr.drew w3) => Nat.le_trans hB hw3.size)
      have hzb : (⟨bo.toArray⟩ : ByteArray).size = bo.length := size_list bo
      clear HO
      go_wp2
      go_region_law (first
        | (refine step_appT rfl (.tmp 30) (.tmp 37) 46 rfl w1.heap.size 9 i0 (.string .empty) Tryd.underlying46 hi hz0 hz1 hz2 rfl _ Q rfl (HOX.out _ hw3 _) ⟨_, 0, none⟩ 6 [lengthK, [58, 32], dg, crlf, crlf, bo] 6 rfl rfl (by exact new_txts _ _ [lengthK, [58, 32], dg, crlf, crlf, bo]) (by omega) w1 (HBX.out _ hw3 _) (by have := HSX.out _ hw3; simp; omega) ?_; intro v5 w5 hown5 hb5 hB5)
        | (go_simp; go_at_call 26; refine (KD.out _).mono ?_; rintro e w3 ⟨rfl, hw3⟩; have hx5 := HX5.out _ hw3))
      all_goals
        rw [← HPQ.out] at hown5
        have hPne : P ≠ [] := by rw [HPQ.out]; simp
        obtain ⟨g, pc, hve, hpc, hg, hBg, hcl⟩ := own_cells hown5 hPne
        have hpl : P.length ≤ 1006 := by rw [HPQ.out, List.length_append]; simp; omega
        have hp2 : 2 ≤ P.length := by rw [HPQ.out, List.length_append]; simp
        have KL := hid (lengthOf_any P ⟨g, 0, none⟩ pc w5 (fun j hj => ⟨hg, by rw [add_at, Nat.zero_add]; exact hcl j hj⟩) (by omega) HTB.out)
        have KJ := hid (fun h4 => join_any P g pc w5 hcl hg hp2 (by omega) hpc (by rw [HPF.out]; exact HNE.out) h4)
        rw [HPF.out] at KL KJ
        have hbw5 : Below w.heap.size w w5 := hb1.trans (hb5.mono hb1.size)
        subst hve
        clear hcl hown5 hb5 hB5 HPQ hPne
        by_cases h4 : 4096 < T.length
        · have h4' : (4096 : Int) < (T.length : Int) := by omega
          have HR : Hid (R = ([], 2)) := show _ = _ by rw [HP.out, if_pos h4]
          go_wp2_with (go_at_call 27; refine KL.out.mono ?_; rintro e w6 ⟨rfl, hw⟩; rw [hw])
          go_ret2
          exact ⟨ret_pr (x := []) HR.out, hbw5⟩
        · have h4' : ¬ ((4096 : Int) < (T.length : Int)) := by omega
          have HR : Hid (R = (T, 0)) := show _ = _ by rw [HP.out, if_neg h4]
          have KJ2 := hid (KJ.out (by omega))
          go_wp2_with (first
            | (go_at_call 27; refine KL.out.mono ?_; rintro e w6 ⟨rfl, hw⟩; rw [hw])
            | (go_at_call 28; refine KJ2.out.mono ?_; rintro e w7 ⟨rfl, hw7⟩))
          go_ret2
          exact ⟨ret_pr HR.out, hbw5.trans (hw7.mono hbw5.size)⟩

end Go.Proofs.YtagopboofmjnfaaDoor
