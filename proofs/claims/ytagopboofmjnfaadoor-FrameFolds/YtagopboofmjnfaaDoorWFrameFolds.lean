/-
  The walk of the law FrameFolds.
-/
import Derived.Test.YtagopboofmjnfaaDoorFLaw6
namespace Go.Proofs.YtagopboofmjnfaaDoor.frameFolds
open Go.RowKit Go.Sort Sc
set_option linter.unusedVariables false
set_option maxRecDepth 20000

theorem print_bad {m : Ms} (h : (printM m).2 ≠ 0) : True := trivial
theorem print_good {m : Ms} (h0 : (printM m).2 = 0) : checkM m = 0 ∧ (printM m).1 = textM m ∧ (textM m).length ≤ 4096 := by
  unfold printM at h0 ⊢
  split at h0
  · rename_i h1; exact absurd h0 h1
  · rename_i h1
    split at h0
    · simp at h0
    · rename_i h2
      rw [if_neg h1, if_neg h2]
      exact ⟨by simpa using h1, rfl, by omega⟩
theorem front_print {m : Ms} (h : checkM m = 0) (hl : (textM m).length ≤ 4096) (k : Nat) : printM (frontM m k) = (textM (frontM m k), 0) := by
  have h1 := front_check h k
  have h2 := front_le m k
  rw [printM, if_neg (by simp [h1]), if_neg (by omega)]
theorem front_small {m : Ms} (h : SmallM 140737488355328 m) (k : Nat) : SmallM 140737488355328 (frontM m k) :=
  ⟨h.1, h.2.1, h.2.2.1, by simp [frontM], by show (m.headers.take k).length ≤ _; have := h.2.2.2.2.1; rw [List.length_take]; omega, fun p hp => h.2.2.2.2.2 p (List.mem_of_mem_take hp)⟩
theorem nblk : ∀ {b : UInt8}, b ≠ 32 → b ≠ 9 → blk b = false := by
  intro b
  revert b
  apply byte_all; decide +kernel
theorem parse_own {s : List UInt8} {m : Ms} {n : Int} (h : parseM s = (m, n)) (w : World) (hm : MaxAt w) (hs : s.length ≤ 140737488355328) :
    Calls Tryd.prog 17 #[.string ⟨s.toArray⟩] w fun e w' => ∃ a c, e = .returned (.tuple #[msgV m (.slice a m.headers.length c), .int .i64 n]) ∧ OwnH w' w.heap.size (.slice a m.headers.length c) m.headers ∧ Below w.heap.size w w' := by
  have k := fparse_any s w hm hs
  rw [h] at k
  refine k.mono ?_
  rintro e w' ⟨⟨v, rfl, hown⟩, hb⟩
  obtain ⟨a, c, rfl⟩ := hown.hdrsAt.form
  exact ⟨a, c, rfl, hown, hb⟩
theorem box_row {w : World} {b : Nat} {m : Ms} {h : Value} (k : RowIs w b 24 [.string ⟨m.method.toArray⟩, .string ⟨m.target.toArray⟩, .int .i64 m.status, .string ⟨m.reason.toArray⟩, h, .string ⟨m.body.toArray⟩]) : BoxM w b m h :=
  ⟨k.cell 0 (by simp), k.cell 1 (by simp), k.cell 2 (by simp), k.cell 3 (by simp), k.cell 4 (by simp), k.cell 5 (by simp)⟩
theorem byte_at {l : List UInt8} {i : Nat} (hi : i < l.length) : (⟨l.toArray⟩ : ByteArray)[i]'(by rw [size_list]; exact hi) = l[i] := rfl

set_option maxHeartbeats 8000000 in
set_option maxRecDepth 100000 in
theorem law_walk (w : World) (v0 : Value) (a1 a2 : Int) (k0 : MsgGot 140737488351232 w v0) (u1 : (Lit.int .u64 a1).wf = true) (u2 : (Lit.int .u64 a2).wf = true) (hmx : MaxAt w) :
    Calls Tryd.prog 8 #[v0, .int .u64 a1, .int .u64 a2] w fun e w' => e = .returned (.bool true) ∧ Below w.heap.size w w' := by
  obtain ⟨m, h, rfl, hat, hsm0, hcnt, hwf⟩ := k0
  clear hwf
  have hsm := hsm0.le (C := 140737488355328) (by omega)
  clear hsm0
  obtain ⟨p1, p2⟩ := u64_of u1
  obtain ⟨p3, p4⟩ := u64_of u2
  clear u1 u2
  obtain ⟨ao, c, rfl, hcell⟩ := hat.get
  have KM := hid (fun w' (hb : Below w.heap.size w w') => small_many m _ w' hsm hcnt (hat.below hb))
  have KW := hid (fun w' (hb : Below w.heap.size w w') => awake6_any w' (hmx.below hb))
  have KP := hid (fun w' (hb : Below w.heap.size w w') => fprint_any m _ w' hsm (hat.below hb))
  have KS := hid (fun v' w' (hb : Below w.heap.size w w') (h' : HdrsAt w' v' m.headers) => rsame_any m _ v' w' hcnt (hat.below hb) h')
  have HX0 := hid (boxM_new w m (.slice ao m.headers.length c))
  have hb0 : Below w.heap.size w (w.alloc (objM m (.slice ao m.headers.length c))) := (Below.refl _ w).alloc (Nat.le_refl _) _
  have hlt0 := alloc_lt w (objM m (.slice ao m.headers.length c))
  by_cases hn0 : m.headers.length = 0 ∨ (printM m).2 ≠ 0
  · clear hat hcell hmx hsm
    obtain ⟨P, hP⟩ : ∃ P, P = printM m := ⟨_, rfl⟩
    rw [← hP] at KP hn0
    clear hP
    obtain ⟨T, er⟩ := P
    obtain ⟨me, ta, st, re, hs, bo⟩ := m
    unfold msgV at KM KP KS ⊢
    unfold objM at HX0 hb0 hlt0
    simp only at KM KP KS HX0 hb0 hlt0 hcnt hn0 ⊢
    obtain ⟨n, hn⟩ : ∃ n, n = hs.length := ⟨_, rfl⟩
    rw [← hn] at KM KP KS HX0 hb0 hlt0 hcnt hn0 ⊢
    clear hn
    obtain ⟨x0, x1, x2, x3, x4, x5⟩ := HX0.out
    simp only at x0 x1 x2 x3 x4 x5
    go_enter Tryd.func8, Tryd.ntmps8
    go_wp2_with fail
    refine (KP.out _ hb0).mono ?_
    rintro e w1 ⟨rfl, hw1⟩
    have HX1 := hid (BoxM.below HX0.out hw1 hlt0)
    have hb1 := hb0.trans (hw1.mono hb0.size)
    have hlt1 := Nat.lt_of_lt_of_le hlt0 hw1.size
    clear HX0 hb0 hlt0 hw1 x0 x1 x2 x3 x4 x5 KP
    obtain ⟨x0, x1, x2, x3, x4, x5⟩ := HX1.out
    simp only at x0 x1 x2 x3 x4 x5
    go_wp2_with fail
    refine (KM.out _ hb1).mono ?_
    rintro e w2 ⟨⟨sb, rfl⟩, hw2⟩
    obtain ⟨x0, x1, x2, x3, x4, x5⟩ := BoxM.below HX1.out hw2 hlt1
    have hb2 := hb1.trans (hw2.mono hb1.size)
    simp only at x0 x1 x2 x3 x4 x5
    clear HX1 hb1 hlt1 hw2 KM
    cases sb with
    | false =>
      go_wp2_with (go_at_call 10; refine (KW.out _ hb2).mono ?_; rintro e w7 ⟨rfl, hw7⟩)
      go_ret
      exact ⟨rfl, hb2.trans (hw7.mono hb2.size)⟩
    | true =>
      by_cases he : er = 0
      · subst he
        have hn : n = 0 := hn0.resolve_right (by simp)
        subst hn
        go_wp2_with (go_at_call 10; refine (KW.out _ hb2).mono ?_; rintro e w7 ⟨rfl, hw7⟩)
        go_ret
        exact ⟨rfl, hb2.trans (hw7.mono hb2.size)⟩
      · have hne : (er != 0) = true := by simpa using he
        go_wp2_with (go_at_call 10; refine (KW.out _ hb2).mono ?_; rintro e w7 ⟨rfl, hw7⟩)
        go_ret
        exact ⟨rfl, hb2.trans (hw7.mono hb2.size)⟩
  simp only [not_or, Decidable.not_not] at hn0
  obtain ⟨hn0, hP0⟩ := hn0
  obtain ⟨hck, hP1, hTl⟩ := print_good hP0
  obtain ⟨f1, f2, f3⟩ := checkM_ok hck
  have hnp : 0 < m.headers.length := by omega
  obtain ⟨ad, had, hadb, hzz⟩ := hcell 0 hnp
  clear hzz
  subst had
  -- which header, and where
  have hnz : (m.headers.length : Int) ≠ 0 := by omega
  have hk0 := Int.emod_nonneg a1 hnz
  have hk1 := Int.emod_lt_of_pos a1 (b := (m.headers.length : Int)) (by omega)
  obtain ⟨kk, hkk⟩ := Int.eq_ofNat_of_zero_le hk0
  have hkl : kk < m.headers.length := by omega
  have hi0 := Int.emod_nonneg a2 (b := (m.headers[kk].value.length : Int) + 1) (by omega)
  have hi1 := Int.emod_lt_of_pos a2 (b := (m.headers[kk].value.length : Int) + 1) (by omega)
  obtain ⟨ii, hii⟩ := Int.eq_ofNat_of_zero_le hi0
  have hil : ii ≤ m.headers[kk].value.length := by omega
  have hvl := hsm.2.2.2.2.2 _ (List.getElem_mem hkl)
  obtain ⟨ad2, had2, hab2, h0c, h1c⟩ := hcell kk hkl
  simp only [Option.some.injEq] at had2
  subst had2
  have HD0 := hid (fun (w' : World) (hb : Below w.heap.size w w') => cell_below hb (by rw [add_block]; exact hab2) h0c)
  have HD1 := hid (fun (w' : World) (hb : Below w.heap.size w w') => cell_below hb (by simp only [add_block]; exact hab2) h1c)
  -- the front
  have hca := hat
  rcases hca with ⟨hnil, _⟩ | ⟨ad3, c3, hve, hcap, hcl3⟩
  · simp at hnil
  simp only [Value.slice.injEq, Option.some.injEq, true_and] at hve
  obtain ⟨rfl, rfl⟩ := hve
  have HFAT := hid (fun (w' : World) (hb : Below w.heap.size w w') => (HdrsAt.take (w := w) (a := ad) (cap := c) (k := kk) (Nat.le_of_lt hkl) hcap hcl3).below hb)
  have KF := hid (fun w' (hb : Below w.heap.size w w') => fprint_any (frontM m kk) (.slice (some ad) kk c) w' (front_small hsm kk) (HFAT.out w' hb))
  rw [front_print hck hTl kk] at KF
  obtain ⟨F, hFF⟩ : ∃ F, F = textM (frontM m kk) := ⟨_, rfl⟩
  rw [← hFF] at KF
  have hfl := front_len m kk
  have hfle := front_le m kk
  have hto := fold_at (m := m) kk hkl ii
  have hfold := fun (v1 v2 : List UInt8) => @fold_back m hck (m.headers.take kk) (m.headers.drop (kk + 1)) m.headers[kk] v1 v2
  have hkc : kk ≤ c := by omega
  have HMSG : frontM m kk = ⟨m.method, m.target, m.status, m.reason, m.headers.take kk, []⟩ := rfl
  rw [HMSG] at KF
  have KR := hid (fun (s : List UInt8) (h : parseM s = (m, 0)) w' (hb : Below w.heap.size w w') => parse_own h w' (hmx.below hb) (by
    by_cases h4 : 4096 < s.length
    · rw [parse_long h4] at h; simp at h
    · omega))
  have hnc := f2
  have hP : printM m = (textM m, 0) := by rw [← hP1, ← hP0]
  rw [hP] at KP
  generalize textM m = T at KP hTl hto hfle hfold
  rw [← hFF] at hfl hto hfle
  clear hFF
  clear hcell hat hmx hsm hP hP0 hP1 hck f1 f2 f3 hcl3 HFAT HMSG hnz hadb hab2
  obtain ⟨me, ta, st, re, hs, bo⟩ := m
  unfold msgV at KM KP KS KF KR ⊢
  unfold objM at HX0 hb0 hlt0
  simp only at KM KP KS KF KR HX0 hb0 hlt0 hcnt hn0 hnp hk0 hk1 hkk hkl hi0 hi1 hii hil hvl h0c h1c HD0 HD1 hfl hto hfold hnc hcap ⊢
  obtain ⟨x, hx⟩ : ∃ x, x = hs[kk] := ⟨_, rfl⟩
  rw [← hx] at hi0 hi1 hii hil hvl h0c h1c HD0 HD1
  have HT : Hid (∀ (hi : ii < x.value.length), x.value[ii] = 32 → ii + 1 < x.value.length → (∀ b, (x.value.drop (ii + 1)).head? = some b → blk b = false) → T.length + 2 ≤ 4096 →
      F.length - 21 + x.name.length + 2 + ii ≤ T.length ∧ parseM ((T.take (F.length - 21 + x.name.length + 2 + ii) ++ [13, 10]) ++ T.drop (F.length - 21 + x.name.length + 2 + ii)) = (⟨me, ta, st, re, hs, bo⟩, 0)) := fun hi h32 hlen hbk h4 => by
    subst hx
    obtain ⟨t1, t2, t3, t4⟩ := hto hi h32
    refine ⟨?_, ?_⟩
    · have hlen2 := congrArg List.length t2
      rw [List.length_drop] at hlen2
      unfold foldB at hlen2
      simp at hlen2
      omega
    · rw [t1, t2]
      have := hfold _ _ t3 t4 (by intro e; have := congrArg List.length e; rw [List.length_drop] at this; simp at this; omega) hbk h4
      exact this
  have hFl : 21 ≤ F.length := by omega
  clear hto hfold hx hfl h0c h1c
  obtain ⟨n, hn⟩ : ∃ n, n = hs.length := ⟨_, rfl⟩
  rw [← hn] at KM KP KS KR HX0 hb0 hlt0 hcnt hnp hn0 hk0 hk1 hkk hkl hnc hcap ⊢
  have hno := hn
  clear hn
  obtain ⟨xn, xv⟩ := x
  simp only at hi0 hi1 hii hil hvl HD0 HD1 HT
  obtain ⟨x0, x1, x2, x3, x4, x5⟩ := HX0.out
  simp only at x0 x1 x2 x3 x4 x5
  have sv := size_list xv
  have sn := size_list xn
  have sT := size_list T
  have sF := size_list F
  have hnb : ((n : Int) == 0) = false := beq_eq_false_iff_ne.2 (by omega)
  have HNO := hid hno
  clear hno
  go_enter Tryd.func8, Tryd.ntmps8
  go_wp2_with fail
  refine (KP.out _ hb0).mono ?_
  rintro e w1 ⟨rfl, hw1⟩
  have HX1 := hid (BoxM.below HX0.out hw1 hlt0)
  have hb1 := hb0.trans (hw1.mono hb0.size)
  have hlt1 := Nat.lt_of_lt_of_le hlt0 hw1.size
  clear HX0 hb0 hlt0 hw1 x0 x1 x2 x3 x4 x5 KP
  obtain ⟨x0, x1, x2, x3, x4, x5⟩ := HX1.out
  simp only at x0 x1 x2 x3 x4 x5
  go_wp2_with fail
  refine (KM.out _ hb1).mono ?_
  rintro e w2 ⟨⟨sb, rfl⟩, hw2⟩
  have HX2 := hid (BoxM.below HX1.out hw2 hlt1)
  have hb2 := hb1.trans (hw2.mono hb1.size)
  have hlt2 := Nat.lt_of_lt_of_le hlt1 hw2.size
  clear HX1 hb1 hlt1 hw2 x0 x1 x2 x3 x4 x5 KM
  obtain ⟨x0, x1, x2, x3, x4, x5⟩ := HX2.out
  simp only at x0 x1 x2 x3 x4 x5
  cases sb with
  | false =>
    go_wp2_with (go_at_call 10; refine (KW.out _ hb2).mono ?_; rintro e w7 ⟨rfl, hw7⟩)
    go_ret
    exact ⟨rfl, hb2.trans (hw7.mono hb2.size)⟩
  | true =>
    have d0 := HD0.out _ hb2
    have d1 := HD1.out _ hb2
    have hlast : ((xv.length : Int) - 1 ≤ (ii : Int)) = (xv.length ≤ ii + 1) := by apply propext; omega
    by_cases g1 : ii = 0
    · subst g1
      clear HT KF KR
      go_wp2_with (go_at_call 10; refine (KW.out _ hb2).mono ?_; rintro e w7 ⟨rfl, hw7⟩)
      go_ret
      exact ⟨rfl, hb2.trans (hw7.mono hb2.size)⟩
    have g1' : ((ii : Int) == 0) = false := beq_eq_false_iff_ne.2 (by omega)
    by_cases g2 : xv.length ≤ ii + 1
    · have g2' : (xv.length : Int) - 1 ≤ (ii : Int) := by omega
      clear HT KF KR hlast
      go_wp2_with (go_at_call 10; refine (KW.out _ hb2).mono ?_; rintro e w7 ⟨rfl, hw7⟩)
      go_ret
      exact ⟨rfl, hb2.trans (hw7.mono hb2.size)⟩
    have g2' : ¬ ((xv.length : Int) - 1 ≤ (ii : Int)) := by omega
    have i0 : ii < (⟨xv.toArray⟩ : ByteArray).size := by omega
    have i1 : ii - 1 < (⟨xv.toArray⟩ : ByteArray).size := by omega
    have i2 : ii + 1 < (⟨xv.toArray⟩ : ByteArray).size := by omega
    have e1 : ((ii : Int) - 1).toNat = ii - 1 := by omega
    have e2 : ((ii : Int) + 1).toNat = ii + 1 := by omega
    clear hlast
    obtain ⟨y0, hy0⟩ : ∃ y, y = (⟨xv.toArray⟩ : ByteArray)[ii]'i0 := ⟨_, rfl⟩
    obtain ⟨y1, hy1⟩ : ∃ y, y = (⟨xv.toArray⟩ : ByteArray)[ii - 1]'i1 := ⟨_, rfl⟩
    obtain ⟨y2, hy2⟩ : ∃ y, y = (⟨xv.toArray⟩ : ByteArray)[ii + 1]'i2 := ⟨_, rfl⟩
    by_cases g3 : y0 = 32
    case neg =>
      have t3 : (((((⟨xv.toArray⟩ : ByteArray)[ii]'i0)).toNat : Int) != 32) = true := by rw [← hy0, bne, show ((y0.toNat : Int) == 32) = false from u8_ne (b := 32) g3]; rfl
      clear HT KF KR hy0 hy1 hy2
      go_wp2_with (go_at_call 10; refine (KW.out _ hb2).mono ?_; rintro e w7 ⟨rfl, hw7⟩)
      go_ret
      exact ⟨rfl, hb2.trans (hw7.mono hb2.size)⟩
    have t3 : (((((⟨xv.toArray⟩ : ByteArray)[ii]'i0)).toNat : Int) != 32) = false := by rw [← hy0, g3]; rfl
    by_cases g4 : y1 = 32
    · have t4 : (((((⟨xv.toArray⟩ : ByteArray)[ii - 1]'i1)).toNat : Int) == 32) = true := by rw [← hy1, g4]; rfl
      clear HT KF KR hy0 hy1 hy2
      go_wp2_with (go_at_call 10; refine (KW.out _ hb2).mono ?_; rintro e w7 ⟨rfl, hw7⟩)
      go_ret
      exact ⟨rfl, hb2.trans (hw7.mono hb2.size)⟩
    have t4 : (((((⟨xv.toArray⟩ : ByteArray)[ii - 1]'i1)).toNat : Int) == 32) = false := by rw [← hy1]; exact u8_ne (b := 32) g4
    by_cases g5 : y1 = 9
    · have t5 : (((((⟨xv.toArray⟩ : ByteArray)[ii - 1]'i1)).toNat : Int) == 9) = true := by rw [← hy1, g5]; rfl
      clear HT KF KR hy0 hy1 hy2
      go_wp2_with (go_at_call 10; refine (KW.out _ hb2).mono ?_; rintro e w7 ⟨rfl, hw7⟩)
      go_ret
      exact ⟨rfl, hb2.trans (hw7.mono hb2.size)⟩
    have t5 : (((((⟨xv.toArray⟩ : ByteArray)[ii - 1]'i1)).toNat : Int) == 9) = false := by rw [← hy1]; exact u8_ne (b := 9) g5
    by_cases g6 : y2 = 32
    · have t6 : (((((⟨xv.toArray⟩ : ByteArray)[ii + 1]'i2)).toNat : Int) == 32) = true := by rw [← hy2, g6]; rfl
      clear HT KF KR hy0 hy1 hy2
      go_wp2_with (go_at_call 10; refine (KW.out _ hb2).mono ?_; rintro e w7 ⟨rfl, hw7⟩)
      go_ret
      exact ⟨rfl, hb2.trans (hw7.mono hb2.size)⟩
    have t6 : (((((⟨xv.toArray⟩ : ByteArray)[ii + 1]'i2)).toNat : Int) == 32) = false := by rw [← hy2]; exact u8_ne (b := 32) g6
    by_cases g7 : y2 = 9
    · have t7 : (((((⟨xv.toArray⟩ : ByteArray)[ii + 1]'i2)).toNat : Int) == 9) = true := by rw [← hy2, g7]; rfl
      clear HT KF KR hy0 hy1 hy2
      go_wp2_with (go_at_call 10; refine (KW.out _ hb2).mono ?_; rintro e w7 ⟨rfl, hw7⟩)
      go_ret
      exact ⟨rfl, hb2.trans (hw7.mono hb2.size)⟩
    have t7 : (((((⟨xv.toArray⟩ : ByteArray)[ii + 1]'i2)).toNat : Int) == 9) = false := by rw [← hy2]; exact u8_ne (b := 9) g7
    have hvi : ii < xv.length := by omega
    have hvi2 : ii + 1 < xv.length := by omega
    have HT2 : Hid (T.length + 2 ≤ 4096 → F.length - 21 + xn.length + 2 + ii ≤ T.length ∧ parseM ((T.take (F.length - 21 + xn.length + 2 + ii) ++ [13, 10]) ++ T.drop (F.length - 21 + xn.length + 2 + ii)) = (⟨me, ta, st, re, hs, bo⟩, 0)) := fun h4 =>
      HT.out hvi (by rw [hy0] at g3; exact g3) hvi2 (fun b hb => by
        rw [List.drop_eq_getElem_cons hvi2] at hb
        simp only [List.head?_cons, Option.some.injEq] at hb
        rw [← hb]
        have hb2 : y2 = xv[ii + 1] := hy2
        rw [← hb2]
        exact nblk g6 g7) h4
    clear HT hy0 hy1 hy2
    have hA := (Below.refl _ w2).alloc (Nat.le_refl _) (.cells #[.string ⟨me.toArray⟩, .string ⟨ta.toArray⟩, .int .i64 st, .string ⟨re.toArray⟩, .slice (some ad) kk c, .string ⟨#[]⟩] 24)
    have hbA := hb2.trans (hA.mono hb2.size)
    have HXA := hid (BoxM.below HX2.out hA hlt2)
    have hltA := Nat.lt_of_lt_of_le hlt2 hA.size
    go_wp2_with fail
    refine (KF.out _ hbA).mono ?_
    rintro e w3 ⟨rfl, hw3⟩
    have HX3 := hid (BoxM.below HXA.out hw3 hltA)
    have hlt3 := Nat.lt_of_lt_of_le hltA hw3.size
    have hb3 := hbA.trans (hw3.mono hbA.size)
    clear HX2 HXA hA hbA hltA hlt2 hb2 hw3 KF x0 x1 x2 x3 x4 x5 d0 d1
    obtain ⟨x0, x1, x2, x3, x4, x5⟩ := HX3.out
    simp only at x0 x1 x2 x3 x4 x5
    have d0 := HD0.out _ hb3
    have d1 := HD1.out _ hb3
    clear g1' g2'
    obtain ⟨to, hto⟩ : ∃ to, to = F.length - 21 + xn.length + 2 + ii := ⟨_, rfl⟩
    rw [← hto] at HT2
    have hF21 : ¬ ((F.length : Int) - 21 < 0) := by omega
    have hxnl : xn.length ≤ 140737488355328 := hvl.1
    have htoI : (F.length : Int) - 21 + (xn.length : Int) + 2 + (ii : Int) = (to : Int) := by omega
    have HTO := hid hto
    clear hto
    by_cases h4 : 4094 < T.length
    · have h4' : (4094 : Int) < (T.length : Int) := by omega
      by_cases hgt : (T.length : Int) < (to : Int)
      all_goals (
        go_wp2_with (go_at_call 10; refine (KW.out _ hb3).mono ?_; rintro e w7 ⟨rfl, hw7⟩)
        go_ret
        exact ⟨rfl, hb3.trans (hw7.mono hb3.size)⟩)
    have h4' : ¬ ((4094 : Int) < (T.length : Int)) := by omega
    obtain ⟨hle, hpar⟩ := HT2.out (by omega)
    have hgt : ¬ ((T.length : Int) < (to : Int)) := by omega
    have K4 := hid (KR.out _ hpar)
    have hx1 : (⟨T.toArray⟩ : ByteArray).extract 0 to = ⟨(T.take to).toArray⟩ := by rw [ext_list]; simp
    have hx2 : (⟨T.toArray⟩ : ByteArray).extract to T.length = ⟨(T.drop to).toArray⟩ := by
      rw [ext_list]
      have : (T.drop to).take (T.length - to) = T.drop to := List.take_of_length_le (by rw [List.length_drop]; omega)
      simp only [this]
    have hglue : ((⟨(T.take to).toArray⟩ : ByteArray) ++ ⟨#[13, 10]⟩) ++ ⟨(T.drop to).toArray⟩ = ⟨((T.take to ++ [13, 10]) ++ T.drop to).toArray⟩ := by
      rw [show (⟨#[13, 10]⟩ : ByteArray) = ⟨[13, 10].toArray⟩ from rfl, ByteArray.mk_append_mk, ByteArray.mk_append_mk]
    have l1 : (T.take to).length = to := by rw [List.length_take]; omega
    have l2 : (T.drop to).length = T.length - to := List.length_drop
    have q1 : ¬ 9223372036854775807 < to + 2 := by omega
    have q2 : ¬ 9223372036854775807 < to + 2 + (T.length - to) := by omega
    generalize T.take to = TA at hx1 hglue l1 K4
    generalize T.drop to = TB at hx2 hglue l2 K4
    rw [← hglue] at K4
    have HGL := hid hglue
    clear hglue hpar HT2 KR
    have hb3d : Below w.heap.size w w3.drew := hb3.drew
    have HX3d := hid (show BoxM w3.drew w.heap.size ⟨me, ta, st, re, hs, bo⟩ (.slice (some ad) n c) from HX3.out)
    have hlt3d : w.heap.size < w3.drew.heap.size := hlt3
    have hZ := hid (rowM_new w3)
    have hltZ := alloc_lt w3 (.cells #[.string ⟨#[]⟩, .string ⟨#[]⟩, .int .i64 0, .string ⟨#[]⟩, .slice none 0 0, .string ⟨#[]⟩] 24)
    have hAZ := (Below.refl _ w3).alloc (Nat.le_refl _) (.cells #[.string ⟨#[]⟩, .string ⟨#[]⟩, .int .i64 0, .string ⟨#[]⟩, .slice none 0 0, .string ⟨#[]⟩] 24)
    have hb3z : Below w.heap.size w (w3.alloc (.cells #[.string ⟨#[]⟩, .string ⟨#[]⟩, .int .i64 0, .string ⟨#[]⟩, .slice none 0 0, .string ⟨#[]⟩] 24)).drew := (hb3.trans (hAZ.mono hb3.size)).drew
    have HXZ0 := BoxM.below HX3.out hAZ hlt3
    have HXZ : Hid (BoxM (w3.alloc (.cells #[.string ⟨#[]⟩, .string ⟨#[]⟩, .int .i64 0, .string ⟨#[]⟩, .slice none 0 0, .string ⟨#[]⟩] 24)).drew w.heap.size ⟨me, ta, st, re, hs, bo⟩ (.slice (some ad) n c)) := HXZ0
    clear HXZ0
    have KZ := hid (fun (w4 : World) (hw4 : Below (w3.alloc (.cells #[.string ⟨#[]⟩, .string ⟨#[]⟩, .int .i64 0, .string ⟨#[]⟩, .slice none 0 0, .string ⟨#[]⟩] 24)).drew.heap.size (w3.alloc (.cells #[.string ⟨#[]⟩, .string ⟨#[]⟩, .int .i64 0, .string ⟨#[]⟩, .slice none 0 0, .string ⟨#[]⟩] 24)).drew w4) => RowIs.six (RowIs.below (RowIs.drew hZ.out) hw4 hltZ))
    clear hAZ
    go_wp2
    clear x0 x1 x2 x3 x4 x5 d0 d1 HX3
    go_region_law (go_simp; go_at_call 17; first | (refine (K4.out _ hb3d).mono ?_; rintro e w4 ⟨a3, c3, rfl, hown3, hw4⟩) | (refine (K4.out _ hb3z).mono ?_; rintro e w4 ⟨a3, c3, rfl, hown3, hw4⟩; obtain ⟨z0, z1, z2, z3, z4, z5, k0, k1, k2, k3, k4, k5⟩ := KZ.out w4 hw4))
    all_goals first
      | (have hrw := RowIs.below (RowIs.drew hZ.out) hw4 hltZ
         have hr7 := row_store hrw (.string ⟨me.toArray⟩) (.string ⟨ta.toArray⟩) (.int .i64 st) (.string ⟨re.toArray⟩) (.slice a3 n c3) (.string ⟨bo.toArray⟩)
         have HO7 := OwnH.store hown3 (b := w3.heap.size) hltZ (.string ⟨me.toArray⟩) (.string ⟨ta.toArray⟩) (.int .i64 st) (.string ⟨re.toArray⟩) (.slice a3 n c3) (.string ⟨bo.toArray⟩)
         have hb4 := hb3z.trans (hw4.mono hb3z.size)
         have hb7 := store_below hb4 w3.heap.size (Nat.le_of_lt hlt3) (.string ⟨me.toArray⟩) (.string ⟨ta.toArray⟩) (.int .i64 st) (.string ⟨re.toArray⟩) (.slice a3 n c3) (.string ⟨bo.toArray⟩)
         have hS := store_below (Below.refl w3.heap.size w4) w3.heap.size (Nat.le_refl _) (.string ⟨me.toArray⟩) (.string ⟨ta.toArray⟩) (.int .i64 st) (.string ⟨re.toArray⟩) (.slice a3 n c3) (.string ⟨bo.toArray⟩)
         have HXB := hid (BoxM.below (BoxM.below HXZ.out hw4 (Nat.lt_trans hlt3 hltZ)) hS hlt3)
         have HAT4 := hid HO7.hdrsAt
         have HY4 := hid (box_row (m := ⟨me, ta, st, re, hs, bo⟩) (h := .slice a3 n c3) hr7)
         have hbB := hb7
         clear hrw hr7 HO7 hb4 hb7 hS hown3 hw4 z0 z1 z2 z3 z4 z5 k0 k1 k2 k3 k4 k5
         generalize World.setCell _ _ _ = w5 at HXB HAT4 HY4 hbB ⊢
         obtain ⟨x0, x1, x2, x3, x4, x5⟩ := HXB.out
         obtain ⟨y0, y1, y2, y3, y4, y5⟩ := HY4.out
         simp only at x0 x1 x2 x3 x4 x5 y0 y1 y2 y3 y4 y5
         go_wp2_with fail
         refine (KS.out _ _ hbB HAT4.out).mono ?_
         rintro e w6 ⟨rfl, hw6⟩
         have hb6 := hbB.trans (hw6.mono hbB.size)
         clear hbB hw6 HAT4 x0 x1 x2 x3 x4 x5 y0 y1 y2 y3 y4 y5
         go_wp2_with (go_at_call 10; refine (KW.out _ hb6).mono ?_; rintro e w7 ⟨rfl, hw7⟩)
         go_ret
         exact ⟨rfl, hb6.trans (hw7.mono hb6.size)⟩)
      | (have HX4 := hid (BoxM.below HX3d.out hw4 hlt3d)
         have hat3 := hown3.hdrsAt
         have hlt4 := Nat.lt_of_lt_of_le hlt3d hw4.size
         have hb4 := hb3d.trans (hw4.mono hb3d.size)
         have HY4 := hid (boxM_new w4 ⟨me, ta, st, re, hs, bo⟩ (.slice a3 n c3))
         have hB := (Below.refl _ w4).alloc (Nat.le_refl _) (objM ⟨me, ta, st, re, hs, bo⟩ (.slice a3 n c3))
         have HXB := hid (BoxM.below HX4.out hB hlt4)
         have HAT4 := hid (hat3.below hB)
         have hbB := hb4.trans (hB.mono hb4.size)
         unfold objM at HY4 hB HXB HAT4 hbB
         simp only at HY4 hB HXB HAT4 hbB
         clear HX4 hat3 hw4 hb4
         obtain ⟨x0, x1, x2, x3, x4, x5⟩ := HXB.out
         obtain ⟨y0, y1, y2, y3, y4, y5⟩ := HY4.out
         simp only at x0 x1 x2 x3 x4 x5 y0 y1 y2 y3 y4 y5
         go_wp2_with fail
         refine (KS.out _ _ hbB HAT4.out).mono ?_
         rintro e w6 ⟨rfl, hw6⟩
         have hb6 := hbB.trans (hw6.mono hbB.size)
         clear hbB hw6 HAT4 x0 x1 x2 x3 x4 x5 y0 y1 y2 y3 y4 y5
         go_wp2_with (go_at_call 10; refine (KW.out _ hb6).mono ?_; rintro e w7 ⟨rfl, hw7⟩)
         go_ret
         exact ⟨rfl, hb6.trans (hw7.mono hb6.size)⟩)

end Go.Proofs.YtagopboofmjnfaaDoor.frameFolds
