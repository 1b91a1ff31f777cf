/-
  The contract of the document's own Print.
-/
import Derived.Test.YtagopboofmjnfaaDoorFPrint
import Derived.Test.YtagopboofmjnfaaDoorRCheck6
import Derived.Deep.QuietTactic
import Derived.BigQuiet
namespace Go.Proofs.YtagopboofmjnfaaDoor
open Go.RowKit Go.Sort Sc
set_option linter.unusedVariables false
set_option maxRecDepth 20000

/-- Two texts glued: a letter of its own, its size bound. -/
theorem cat_ex (a b : List UInt8) {A B : Nat} (ha : a.length ≤ A) (hb : b.length ≤ B) : ∃ c : List UInt8, Hid (c = a ++ b) ∧ (⟨a.toArray⟩ : ByteArray) ++ ⟨b.toArray⟩ = ⟨c.toArray⟩ ∧ c.length ≤ A + B :=
  ⟨a ++ b, hid rfl, by apply ByteArray.ext; simp, by rw [List.length_append]; omega⟩
/-- What the document's own Print has written behind k headers. -/
def accP (m : Ms) (k : Nat) : List UInt8 := (lineT m ++ crlf) ++ (m.headers.take k).flatMap fun x => hdrLine x ++ crlf
theorem accP_step {m : Ms} {k : Nat} (hk : k < m.headers.length) : accP m (k + 1) = accP m k ++ m.headers[k].name ++ [58, 32] ++ m.headers[k].value ++ crlf := by
  unfold accP
  rw [List.take_succ_eq_append_getElem hk, List.flatMap_append]
  simp [hdrLine]
theorem accP_end {m : Ms} {k : Nat} (hk : m.headers.length ≤ k) : accP m k ++ (lengthK ++ [58, 32]) ++ digL m.body.length ++ crlf ++ crlf ++ m.body = textM m := by
  unfold accP textM linesT lenLine
  rw [List.take_of_length_le hk, List.flatMap_cons, List.flatMap_append, List.flatMap_map]
  simp

set_option maxHeartbeats 4000000 in
set_option maxRecDepth 100000 in
theorem rprint_any (m : Ms) (h : Value) (w : World) (hsm : SmallM 140737488355328 m) (hat : HdrsAt w h m.headers) :
    Calls Tryd.prog 12 #[msgV m h] w fun e w' => e = .returned (.tuple #[.string ⟨(printM m).1.toArray⟩, .int .i64 (printM m).2]) ∧ Below w.heap.size w w' := by
  have KC := hid (fun w' (hb : Below w.heap.size w w') => rcheck_any m h w' hsm (hat.below hb))
  obtain ⟨ao, cap, rfl, hcell⟩ := hat.get
  have HC := hid hcell
  have HBX := hid (boxM_new w m (.slice ao m.headers.length cap))
  have hb0 : Below w.heap.size w (w.alloc (objM m (.slice ao m.headers.length cap))) := (Below.refl _ w).alloc (Nat.le_refl _) _
  have hlt := alloc_lt w (objM m (.slice ao m.headers.length cap))
  clear hcell hat
  by_cases hok : checkM m = 0
  case neg =>
    have HP : Hid (printM m = ([], checkM m)) := show _ = _ by rw [printM, if_pos hok]
    have hne : (checkM m != 0) = true := by simpa using hok
    generalize printM m = R at HP ⊢
    generalize checkM m = cv at KC HP hne
    clear hok hsm HC
    obtain ⟨me, ta, st, re, hs, bo⟩ := m
    unfold msgV at KC ⊢
    unfold objM at HBX hb0 hlt
    simp only at KC HBX hb0 hlt ⊢
    obtain ⟨x0, x1, x2, x3, x4, x5⟩ := HBX.out
    simp only at x0 x1 x2 x3 x4 x5
    go_enter Tryd.func12, Tryd.ntmps12
    go_wp2_with fail
    refine (KC.out _ hb0).mono ?_
    rintro e w1 ⟨rfl, hw1⟩
    have HB1 := hid (BoxM.below HBX.out hw1 hlt)
    have hb1 := hb0.trans (hw1.mono hb0.size)
    clear HBX hw1 hb0 hlt x0 x1 x2 x3 x4 x5
    obtain ⟨x0, x1, x2, x3, x4, x5⟩ := HB1.out
    simp only at x0 x1 x2 x3 x4 x5
    go_wp2_with fail
    refine (KC.out _ hb1).mono ?_
    rintro e w2 ⟨rfl, hw2⟩
    go_wp2
    go_ret2
    exact ⟨ret_pr (x := []) HP.out, hb1.trans (hw2.mono hb1.size)⟩
  obtain ⟨f1, f2, f3⟩ := checkM_ok hok
  obtain ⟨s0, s1⟩ := first_st f1
  have HP : Hid (printM m = if 4096 < (textM m).length then ([], 2) else (textM m, 0)) := show _ = _ by rw [printM, if_neg (by simp [hok])]
  obtain ⟨k1, k2, k3, k4, _, k6⟩ := hsm
  have HK6 := hid k6
  have HA0 : Hid (accP m 0 = lineT m ++ crlf) := show _ = _ by unfold accP; simp
  have HST := hid (fun (k : Nat) (hk : k < m.headers.length) => accP_step hk)
  have HEND := hid (fun (k : Nat) (hk : m.headers.length ≤ k) => accP_end hk)
  have KD := hid (fun w' => refdigits_any m.body.length m.body.length w' (Int.le_refl _) (by omega) (by omega))
  have KT := hid (fun w' => refdigits_any m.status.toNat m.status w' (by omega) s0 (by omega))
  have d1 : (digL m.body.length).length ≤ 19 := digL_len19 (by omega)
  have d2 : (digL m.status.toNat).length ≤ 19 := digL_len19 (by omega)
  simp only [Int.toNat_natCast] at KD
  have HLT : Hid (lineT m = if m.method = [] then versionK ++ [32] ++ digL m.status.toNat ++ [32] ++ m.reason else m.method ++ [32] ++ m.target ++ [32] ++ versionK) := rfl
  rw [hok] at KC
  generalize printM m = R at HP ⊢
  generalize textM m = T at HEND HP
  generalize lineT m = L at HA0 HLT
  generalize digL m.body.length = dg at KD HEND d1
  generalize digL m.status.toNat = ds at KT HLT d2
  generalize accP m = AP at HA0 HST HEND
  clear hok f1 f3 k6
  obtain ⟨me, ta, st, re, hs, bo⟩ := m
  unfold msgV at KC ⊢
  unfold objM at HBX hb0 hlt
  simp only at KC KD KT HC HBX hb0 hlt HK6 HLT HST HEND k1 k2 k3 k4 f2 ⊢
  obtain ⟨n, hnn⟩ : ∃ n, n = hs.length := ⟨_, rfl⟩
  rw [← hnn] at HBX hb0 hlt KC f2 ⊢
  have HN := hid hnn
  clear hnn
  obtain ⟨x0, x1, x2, x3, x4, x5⟩ := HBX.out
  simp only at x0 x1 x2 x3 x4 x5
  have zm := size_list me
  have zb := size_list bo
  -- the first line
  obtain ⟨S1, HS1, e1, l1⟩ := cat_ex me [32] (A := 140737488355328) (B := 1) k1 (by simp)
  obtain ⟨S2, HS2, e2, l2⟩ := cat_ex S1 ta (A := 140737488355329) (B := 140737488355328) l1 k2
  obtain ⟨S3, HS3, e3, l3⟩ := cat_ex S2 [32] (A := 281474976710657) (B := 1) l2 (by simp)
  obtain ⟨S4, HS4, e4, l4⟩ := cat_ex S3 [83, 73, 80, 47, 50, 46, 48] (A := 281474976710658) (B := 7) l3 (by simp)
  obtain ⟨S5, HS5, e5, l5⟩ := cat_ex S4 [13, 10] (A := 281474976710665) (B := 2) l4 (by simp)
  have q1 : ¬ 9223372036854775807 < me.length + 1 := by omega
  have q2 : ¬ 9223372036854775807 < S1.length + ta.length := by omega
  have q3 : ¬ 9223372036854775807 < S2.length + 1 := by omega
  have q4 : ¬ 9223372036854775807 < S3.length + 7 := by omega
  have q5 : ¬ 9223372036854775807 < S4.length + 2 := by omega
  obtain ⟨R1, HR1, r1, t1⟩ := cat_ex [83, 73, 80, 47, 50, 46, 48, 32] ds (A := 8) (B := 19) (by simp) d2
  obtain ⟨R2, HR2, r2, t2⟩ := cat_ex R1 [32] (A := 27) (B := 1) t1 (by simp)
  obtain ⟨R3, HR3, r3, t3⟩ := cat_ex R2 re (A := 28) (B := 140737488355328) t2 k3
  obtain ⟨R4, HR4, r4, t4⟩ := cat_ex R3 [13, 10] (A := 140737488355356) (B := 2) t3 (by simp)
  have p1 : ¬ 9223372036854775807 < 8 + ds.length := by omega
  have p2 : ¬ 9223372036854775807 < R1.length + 1 := by omega
  have p3 : ¬ 9223372036854775807 < R2.length + re.length := by omega
  have p4 : ¬ 9223372036854775807 < R3.length + 2 := by omega
  generalize hW : World.alloc w _ = W at HBX hb0 hlt x0 x1 x2 x3 x4 x5
  go_enter Tryd.func12, Tryd.ntmps12
  go_wp2_with fail
  clear hW
  refine (KC.out _ hb0).mono ?_
  rintro e w1 ⟨rfl, hw1⟩
  have HB1 := hid (BoxM.below HBX.out hw1 hlt)
  have hb1 := hb0.trans (hw1.mono hb0.size)
  clear HBX hw1 hb0 hlt x0 x1 x2 x3 x4 x5 KC
  obtain ⟨x0, x1, x2, x3, x4, x5⟩ := HB1.out
  simp only at x0 x1 x2 x3 x4 x5
  cases he : me.isEmpty with
  | false =>
    have HS0 : Hid (S5 = AP 0) := show _ = _ by
      rw [HA0.out, HLT.out, if_neg (by intro e; rw [e] at he; cases he), HS5.out, HS4.out, HS3.out, HS2.out, HS1.out]; rfl
    clear HS1 HS2 HS3 HS4 HS5 HR1 HR2 HR3 HR4 r1 r2 r3 r4 p1 p2 p3 p4 t1 t2 t3 t4 HLT HA0 KT
    go_wp2
    clear e1 e2 e3 e4 e5 q1 q2 q3 q4 q5 l1 l2 l3 l4
    go_loopw [4, 5] (fun x i wr => ∃ (k q : Nat) (s : List UInt8), k ≤ n ∧ i = .int .i64 k ∧ x = .string ⟨s.toArray⟩ ∧ s.length ≤ 281474976710667 + k * 281474976710660 ∧ Hid (s = AP k) ∧ wr = w1.drewN q) (fun _ i _ => n - (intOf i).toNat)
    case atStart => exact ⟨0, 0, S5, Nat.zero_le _, rfl, rfl, by omega, HS0, rfl⟩
    case round =>
      obtain ⟨k, q, s, hk, rfl, rfl, hsl, HS, rfl⟩ := hrel
      by_cases hlt2 : k < n
      · have hkl : k < hs.length := by have := HN.out; omega
        obtain ⟨a, ha, hab, h0, h1⟩ := HC.out k hkl
        have y0 := cell_below hb1 (by rw [add_block]; exact hab) h0
        have y1 := cell_below hb1 (by simp only [add_block]; exact hab) h1
        have hss := HK6.out _ (List.getElem_mem hkl)
        have hst := hid (HST.out k hkl)
        clear hab h0 h1
        subst ha
        generalize hs[k] = x at y0 y1 hss hst
        obtain ⟨nm, vl⟩ := x
        simp only at y0 y1 hss hst
        obtain ⟨A1, HA1, a1, m1⟩ := cat_ex s nm hsl hss.1
        obtain ⟨A2, HA2, a2, m2⟩ := cat_ex A1 [58, 32] (B := 2) m1 (by simp)
        obtain ⟨A3, HA3, a3, m3⟩ := cat_ex A2 vl m2 hss.2
        obtain ⟨A4, HA4, a4, m4⟩ := cat_ex A3 [13, 10] (B := 2) m3 (by simp)
        have o1 : ¬ 9223372036854775807 < s.length + nm.length := by omega
        have o2 : ¬ 9223372036854775807 < A1.length + 2 := by omega
        have o3 : ¬ 9223372036854775807 < A2.length + vl.length := by omega
        have o4 : ¬ 9223372036854775807 < A3.length + 2 := by omega
        have HA : Hid (A4 = AP (k + 1)) := show _ = _ by
          rw [hst.out, HA4.out, HA3.out, HA2.out, HA1.out, ← HS.out]; rfl
        clear HA1 HA2 HA3 HA4 hst HS
        go_wp2
        go_quiet (fail)
        go_wp2
        go_roundw
        case rel => exact ⟨k + 1, q + nq, A4, by omega, by go_num, rfl, by omega, HA, by first | rfl | rw [World.drewN_drewN]⟩
        case measure => simp [intOf]; omega
      · have hst := hid (HEND.out k (by have := HN.out; omega))
        have hk64 : k ≤ 64 := by omega
        obtain ⟨A1, HA1, a1, m1⟩ := cat_ex s [67, 111, 110, 116, 101, 110, 116, 45, 76, 101, 110, 103, 116, 104, 58, 32] (B := 16) hsl (by simp)
        obtain ⟨A2, HA2, a2, m2⟩ := cat_ex A1 dg m1 d1
        obtain ⟨A3, HA3, a3, m3⟩ := cat_ex A2 [13, 10] (B := 2) m2 (by simp)
        obtain ⟨A4, HA4, a4, m4⟩ := cat_ex A3 [13, 10] (B := 2) m3 (by simp)
        obtain ⟨A5, HA5, a5, m5⟩ := cat_ex A4 bo m4 k4
        have o1 : ¬ 9223372036854775807 < s.length + 16 := by omega
        have o2 : ¬ 9223372036854775807 < A1.length + dg.length := by omega
        have o3 : ¬ 9223372036854775807 < A2.length + 2 := by omega
        have o4 : ¬ 9223372036854775807 < A3.length + 2 := by omega
        have o5 : ¬ 9223372036854775807 < A4.length + bo.length := by omega
        have HA : Hid (A5 = T) := show _ = _ by
          rw [← hst.out, HA5.out, HA4.out, HA3.out, HA2.out, HA1.out, ← HS.out]; rfl
        clear HA1 HA2 HA3 HA4 HA5 hst HS
        rw [← HA.out] at HP
        clear HA
        have HBq := hid (show BoxM (w1.drewN q) w.heap.size ⟨me, ta, st, re, hs, bo⟩ (.slice ao n cap) from HB1.out)
        have hbq := hb1.trans ((below_drewN w1 q).mono hb1.size)
        clear x0 x1 x2 x3 x4 x5
        generalize w1.drewN q = wq at HBq hbq ⊢
        obtain ⟨x0, x1, x2, x3, x4, x5⟩ := HBq.out
        simp only at x0 x1 x2 x3 x4 x5
        by_cases h4 : 4096 < A5.length
        · have h4' : (4096 : Int) < (A5.length : Int) := by omega
          have HR : Hid (R = ([], 2)) := show _ = _ by rw [HP.out, if_pos h4]
          go_wp2
          go_quiet (first | (go_at_call 29; exact Calls.quiet_of (KD.out _)))
          go_wp2
          go_ret2
          exact ⟨ret_pr (x := []) HR.out, hbq.trans ((below_drewN wq _).mono hbq.size)⟩
        · have h4' : ¬ ((4096 : Int) < (A5.length : Int)) := by omega
          have HR : Hid (R = (A5, 0)) := show _ = _ by rw [HP.out, if_neg h4]
          go_wp2
          go_quiet (first | (go_at_call 29; exact Calls.quiet_of (KD.out _)))
          go_wp2
          go_ret2
          exact ⟨ret_pr HR.out, hbq.trans ((below_drewN wq _).mono hbq.size)⟩
  | true =>
    have hme : me = [] := by simpa using he
    have HS0 : Hid (R4 = AP 0) := show _ = _ by
      rw [HA0.out, HLT.out, if_pos hme, HR4.out, HR3.out, HR2.out, HR1.out]; rfl
    clear hme HS1 HS2 HS3 HS4 HS5 HR1 HR2 HR3 HR4 HLT HA0
    go_wp2
    go_quiet (first | (go_at_call 29; exact Calls.quiet_of (KT.out _)))
    go_wp2
    clear e1 e2 e3 e4 e5 q1 q2 q3 q4 q5 l1 l2 l3 l4 l5 r1 r2 r3 r4 p1 p2 p3 p4 t1 t2 t3 KT
    go_loopw [4, 5] (fun x i wr => ∃ (k q : Nat) (s : List UInt8), k ≤ n ∧ i = .int .i64 k ∧ x = .string ⟨s.toArray⟩ ∧ s.length ≤ 281474976710667 + k * 281474976710660 ∧ Hid (s = AP k) ∧ wr = w1.drewN q) (fun _ i _ => n - (intOf i).toNat)
    case atStart => exact ⟨0, _, R4, Nat.zero_le _, rfl, rfl, by omega, HS0, rfl⟩
    case round =>
      obtain ⟨k, q, s, hk, rfl, rfl, hsl, HS, rfl⟩ := hrel
      by_cases hlt2 : k < n
      · have hkl : k < hs.length := by have := HN.out; omega
        obtain ⟨a, ha, hab, h0, h1⟩ := HC.out k hkl
        have y0 := cell_below hb1 (by rw [add_block]; exact hab) h0
        have y1 := cell_below hb1 (by simp only [add_block]; exact hab) h1
        have hss := HK6.out _ (List.getElem_mem hkl)
        have hst := hid (HST.out k hkl)
        clear hab h0 h1
        subst ha
        generalize hs[k] = x at y0 y1 hss hst
        obtain ⟨nm, vl⟩ := x
        simp only at y0 y1 hss hst
        obtain ⟨A1, HA1, a1, m1⟩ := cat_ex s nm hsl hss.1
        obtain ⟨A2, HA2, a2, m2⟩ := cat_ex A1 [58, 32] (B := 2) m1 (by simp)
        obtain ⟨A3, HA3, a3, m3⟩ := cat_ex A2 vl m2 hss.2
        obtain ⟨A4, HA4, a4, m4⟩ := cat_ex A3 [13, 10] (B := 2) m3 (by simp)
        have o1 : ¬ 9223372036854775807 < s.length + nm.length := by omega
        have o2 : ¬ 9223372036854775807 < A1.length + 2 := by omega
        have o3 : ¬ 9223372036854775807 < A2.length + vl.length := by omega
        have o4 : ¬ 9223372036854775807 < A3.length + 2 := by omega
        have HA : Hid (A4 = AP (k + 1)) := show _ = _ by
          rw [hst.out, HA4.out, HA3.out, HA2.out, HA1.out, ← HS.out]; rfl
        clear HA1 HA2 HA3 HA4 hst HS
        go_wp2
        go_quiet (fail)
        go_wp2
        go_roundw
        case rel => exact ⟨k + 1, q + nq, A4, by omega, by go_num, rfl, by omega, HA, by first | rfl | rw [World.drewN_drewN]⟩
        case measure => simp [intOf]; omega
      · have hst := hid (HEND.out k (by have := HN.out; omega))
        have hk64 : k ≤ 64 := by omega
        obtain ⟨A1, HA1, a1, m1⟩ := cat_ex s [67, 111, 110, 116, 101, 110, 116, 45, 76, 101, 110, 103, 116, 104, 58, 32] (B := 16) hsl (by simp)
        obtain ⟨A2, HA2, a2, m2⟩ := cat_ex A1 dg m1 d1
        obtain ⟨A3, HA3, a3, m3⟩ := cat_ex A2 [13, 10] (B := 2) m2 (by simp)
        obtain ⟨A4, HA4, a4, m4⟩ := cat_ex A3 [13, 10] (B := 2) m3 (by simp)
        obtain ⟨A5, HA5, a5, m5⟩ := cat_ex A4 bo m4 k4
        have o1 : ¬ 9223372036854775807 < s.length + 16 := by omega
        have o2 : ¬ 9223372036854775807 < A1.length + dg.length := by omega
        have o3 : ¬ 9223372036854775807 < A2.length + 2 := by omega
        have o4 : ¬ 9223372036854775807 < A3.length + 2 := by omega
        have o5 : ¬ 9223372036854775807 < A4.length + bo.length := by omega
        have HA : Hid (A5 = T) := show _ = _ by
          rw [← hst.out, HA5.out, HA4.out, HA3.out, HA2.out, HA1.out, ← HS.out]; rfl
        clear HA1 HA2 HA3 HA4 HA5 hst HS
        rw [← HA.out] at HP
        clear HA
        have HBq := hid (show BoxM (w1.drewN q) w.heap.size ⟨me, ta, st, re, hs, bo⟩ (.slice ao n cap) from HB1.out)
        have hbq := hb1.trans ((below_drewN w1 q).mono hb1.size)
        clear x0 x1 x2 x3 x4 x5
        generalize w1.drewN q = wq at HBq hbq ⊢
        obtain ⟨x0, x1, x2, x3, x4, x5⟩ := HBq.out
        simp only at x0 x1 x2 x3 x4 x5
        by_cases h4 : 4096 < A5.length
        · have h4' : (4096 : Int) < (A5.length : Int) := by omega
          have HR : Hid (R = ([], 2)) := show _ = _ by rw [HP.out, if_pos h4]
          go_wp2
          go_quiet (first | (go_at_call 29; exact Calls.quiet_of (KD.out _)))
          go_wp2
          go_ret2
          exact ⟨ret_pr (x := []) HR.out, hbq.trans ((below_drewN wq _).mono hbq.size)⟩
        · have h4' : ¬ ((4096 : Int) < (A5.length : Int)) := by omega
          have HR : Hid (R = (A5, 0)) := show _ = _ by rw [HP.out, if_neg h4]
          go_wp2
          go_quiet (first | (go_at_call 29; exact Calls.quiet_of (KD.out _)))
          go_wp2
          go_ret2
          exact ⟨ret_pr HR.out, hbq.trans ((below_drewN wq _).mono hbq.size)⟩

end Go.Proofs.YtagopboofmjnfaaDoor
