/-
  Contracts of package uri: meaning, fields, cutUser.
-/
import Derived.Test.YtfdcklekjnihjaaDoorUMay
import Derived.Test.YtfdcklekjnihjaaDoorRefParams
import Derived.Test.YtfdcklekjnihjaaDoorParseL
namespace Go.Proofs.YtfdcklekjnihjaaDoor
open Go.RowKit Sc
set_option linter.unusedVariables false
set_option maxRecDepth 20000

theorem idx_neg {keep : List UInt8} {b : UInt8} (h : hasL b keep = false) : Lib.indexByte keep b = -1 := by
  rcases idx_cases keep b with ⟨_, h2⟩ | ⟨a, c, h1, _, _⟩
  · exact h2
  · exfalso
    unfold hasL at h
    rw [h1] at h; simp at h
theorem idx_pos {keep : List UInt8} {b : UInt8} (h : hasL b keep = true) : 0 ≤ Lib.indexByte keep b := by
  rcases idx_cases keep b with ⟨h1, _⟩ | ⟨a, c, _, _, h3⟩
  · unfold hasL at h; simp [h1] at h
  · omega

set_option maxHeartbeats 1000000 in
theorem meaning_any (s keep : ByteArray) (w : World) (hs : s.size ≤ 140737488355328) (hk : keep.size ≤ maxLen) :
    Calls Tryd.prog 63 #[.string s, .string keep] w fun e w' => e = .returned (.tuple #[.string ⟨(writtenV keep.data.toList s.data.toList).1.toArray⟩, .bool (writtenV keep.data.toList s.data.toList).2]) ∧ Below w.heap.size w w' := by
  go_enter Tryd.func63, Tryd.ntmps63
  go_wp2
  go_loop [12] (fun i => ∃ k : Nat, k ≤ s.size ∧ i = .int .i64 k ∧ Hid ((s.data.toList.take k).all (okw keep.data.toList) = true)) (fun i => s.size - (intOf i).toNat)
  case atStart => exact ⟨0, by omega, rfl, rfl⟩
  case round =>
    obtain ⟨k, hk', rfl, hall⟩ := hrel
    by_cases hlt : k < s.size
    · have hbd := u8_bd s[k]
      by_cases h37 : s[k] = 37
      · have e37 : ((s[k].toNat : Int) != 37) = false := by rw [h37]; rfl
        have e37' : ((s[k].toNat : Int) == 37) = true := by rw [h37]; rfl
        have ha : Hid ((s.data.toList.take (k + 1)).all (okw keep.data.toList) = true) := okw_snoc hlt hall.out (by simp [okw, h37])
        clear h37 hall
        go_wp2
        go_round
        case rel => exact ⟨k + 1, by omega, by go_num, ha⟩
        case measure => simp [intOf]; omega
      · have e37 : ((s[k].toNat : Int) != 37) = true := by
          have := u8_ne (b := 37) h37
          simp only [bne, Bool.not_eq_true']; exact this
        by_cases hx : isB s[k].toNat 16 = true
        · have hx2 : (bits BinOp.and IntKind.i64 (cls s[k].toNat) 16 == 0) = false := by simpa [isB] using hx
          have ha : Hid ((s.data.toList.take (k + 1)).all (okw keep.data.toList) = true) := okw_snoc hlt hall.out (by simp [okw, hx])
          clear h37 hall hx
          go_wp2_with (go_at_call 56; refine (class_any _ _ hbd.1 hbd.2).mono ?_; rintro e w' ⟨rfl, rfl⟩)
          go_round
          case rel => exact ⟨k + 1, by omega, by go_num, ha⟩
          case measure => simp [intOf]; omega
        · have hx2 : (bits BinOp.and IntKind.i64 (cls s[k].toNat) 16 == 0) = true := by simpa [isB] using hx
          by_cases hh : hasL s[k] keep.data.toList = true
          · have ha : Hid ((s.data.toList.take (k + 1)).all (okw keep.data.toList) = true) := okw_snoc hlt hall.out (by simp [okw, hh])
            have hix := idx_pos hh
            clear h37 hall hx
            go_wp2_with (first
              | (go_at_call 56; refine (class_any _ _ hbd.1 hbd.2).mono ?_; rintro e w' ⟨rfl, rfl⟩)
              | (go_at_call 72; refine (strIndexByte_any keep s[k] _).mono ?_; rintro e w' ⟨rfl, rfl⟩))
            go_round
            case rel => exact ⟨k + 1, by omega, by go_num, ha⟩
            case measure => simp [intOf]; omega
          · have hh' : hasL s[k] keep.data.toList = false := by simpa using hh
            have hix := idx_neg hh'
            have hb : Hid (writtenV keep.data.toList s.data.toList = ([], false)) := written_bad hlt (by
              simp only [okw, Bool.or_eq_false_iff, beq_eq_false_iff_ne, ne_eq]
              exact ⟨h37, by simpa using hx, hh'⟩)
            clear h37 hall hx hh
            go_wp2_with (first
              | (go_at_call 56; refine (class_any _ _ hbd.1 hbd.2).mono ?_; rintro e w' ⟨rfl, rfl⟩)
              | (go_at_call 72; refine (strIndexByte_any keep s[k] _).mono ?_; rintro e w' ⟨rfl, rfl⟩; rw [hix]))
            go_ret2
            exact ⟨ret_wr (x := []) hb.out, Below.refl _ _⟩
    · rw [take_all s k (by omega)] at hall
      have hv := written_all hall.out
      have HV : Hid _ := hv; clear hv hall
      go_wp2_with (go_at_call 73; refine (unescape_any _ _ hs).mono ?_; rintro e w1 ⟨rfl, hw1⟩)
      all_goals go_ret2
      all_goals exact ⟨ret_wr HV.out, hw1⟩

theorem parsOf_snoc_some {keep : List UInt8} {ls : List (List UInt8)} {l : List UInt8} {ps : List Par} {p : Par} (h1 : parsOf keep ls = some ps) (h2 : parOf keep l = some p) : parsOf keep (ls ++ [l]) = some (ps ++ [p]) := by
  rw [parsOf_snoc, h1, h2]
theorem meaning_list (s keep : List UInt8) (w : World) (hs : s.length ≤ 1048576) (hk : keep.length ≤ 64) :
    Calls Tryd.prog 63 #[.string ⟨s.toArray⟩, .string ⟨keep.toArray⟩] w fun e w' => e = .returned (.tuple #[.string ⟨(writtenV keep s).1.toArray⟩, .bool (writtenV keep s).2]) ∧ Below w.heap.size w w' :=
  meaning_any ⟨s.toArray⟩ ⟨keep.toArray⟩ w (by rw [size_list]; omega) (by rw [size_list]; unfold maxLen; omega)
theorem strCut_list (r : List UInt8) (c : UInt8) (w : World) (hs : r.length ≤ 9223372036854775807) :
    Calls Tryd.prog 44 #[.string ⟨r.toArray⟩, .string ⟨#[c]⟩] w fun e w' => e = .returned (.tuple #[.string ⟨(cutL c r).1.toArray⟩, .string ⟨(cutL c r).2.1.toArray⟩, .bool (cutL c r).2.2]) ∧ ∃ q, w' = w.drewN q :=
  strCut_any ⟨r.toArray⟩ c w (by rw [size_list]; exact hs)

set_option maxHeartbeats 2000000 in
set_option maxRecDepth 100000 in
theorem fields_any (v : Value) (ls : List (List UInt8)) (keep : List UInt8) (w : World) (hk : keep.length ≤ 64) (hn : ls.length ≤ 1048577) (hl : ∀ l ∈ ls, l.length ≤ 1048576) (hv : StrsAt w v ls) :
    Calls Tryd.prog 64 #[v, .string ⟨keep.toArray⟩] w fun e w' => ∃ v' b, e = .returned (.tuple #[v', .bool b]) ∧ ParsRes keep ls w w' v' b ∧ Below w.heap.size w w' := by
  obtain ⟨i0, hi, hz0, hz1, hz2⟩ := info_parts infoPar
  obtain ⟨ao, cap, rfl, hc⟩ := hv
  have HC : Hid _ := hc; clear hc
  have HL : Hid _ := hl; clear hl
  obtain ⟨n, hn'⟩ : ∃ n, n = ls.length := ⟨_, rfl⟩
  rw [← hn'] at hn ⊢
  have HN : Hid _ := hn'; clear hn'
  go_enter Tryd.func64, Tryd.ntmps64
  go_wp2
  go_loopw [6, 17] (fun x i wr => ∃ (k : Nat) (ps : List Par), k ≤ n ∧ i = .int .i64 k ∧ Hid (parsOf keep (ls.take k) = some ps) ∧ ps.length = k ∧ OwnP wr w.heap.size x ps ∧ Below w.heap.size w wr ∧ w.heap.size ≤ wr.heap.size) (fun _ i _ => n - (intOf i).toNat)
  case atStart => exact ⟨0, [], by omega, rfl, rfl, rfl, OwnP.nil _ _, Below.refl _ _, Nat.le_refl _⟩
  case round =>
    obtain ⟨k, ps, hkn, rfl, hps, hpl, hown, hb, hB⟩ := hrel
    by_cases hlt : k < n
    · have hkl : k < ls.length := by have := HN.out; omega
      obtain ⟨a, hao, hab, hcell⟩ := HC.out k hkl
      have hcell2 := cell_below hb (by rw [add_block]; exact hab) hcell
      have hll := HL.out _ (List.getElem_mem hkl)
      have hcl := cutL_len 61 ls[k]
      subst hao
      clear hcell
      go_wp2_with fail
      refine (strCut_list ls[k] 61 _ (by omega)).mono ?_
      rintro e w' ⟨rfl, q, rfl⟩
      have hown1 := hown.below (below_drewN _ q)
      have hb1 := hb.trans ((below_drewN _ q).mono hB)
      go_wp2_with fail
      refine (meaning_list (cutL 61 ls[k]).1 keep _ (by omega) hk).mono ?_
      rintro e w3 ⟨rfl, hw3⟩
      have hown3 := hown1.below hw3
      have hb3 := hb1.trans (hw3.mono hb1.size)
      have hB3 := hb3.size
      have hsn : ∀ p, parOf keep ls[k] = some p → parsOf keep (ls.take (k + 1)) = some (ps ++ [p]) := fun p h => by
        rw [List.take_succ_eq_append_getElem hkl]; exact parsOf_snoc_some hps.out h
      have hpbad := @parsOf_bad keep ls k hkl
      have hpsome := @parOf_some keep ls[k]
      have hpnone := @parOf_none keep ls[k]
      clear hown hown1 hb hb1 hw3 hB hcell2
      have hlb : (cutL 61 ls[k]).2.1.length ≤ 1048576 := by omega
      generalize cutL 61 ls[k] = c3 at hpsome hpnone hlb ⊢
      obtain ⟨ca, cb, cc⟩ := c3
      simp only at hpsome hpnone hlb ⊢
      obtain ⟨wb, hwb⟩ : ∃ wb, writtenV keep cb = wb := ⟨_, rfl⟩
      rw [hwb] at hpsome hpnone
      generalize writtenV keep ca = wa at hpsome hpnone ⊢
      obtain ⟨na, ha⟩ := wa
      obtain ⟨nb, hbb⟩ := wb
      simp only at hpsome hpnone ⊢
      have HPB : Hid _ := hpbad; clear hpbad
      have HPN : Hid _ := hpnone; clear hpnone
      have HPS : Hid _ := hpsome; clear hpsome
      have HSN : Hid _ := hsn; clear hsn
      cases ha with
      | false =>
        have hnone : Hid (parsOf keep ls = none) := HPB.out (HPN.out (by simp))
        go_wp2
        go_ret2
        first | exact ⟨.slice none 0 0, false, rfl, Or.inr ⟨hnone.out, rfl, rfl⟩, hb3⟩ | exact ⟨.slice none 0 0, Or.inl ⟨rfl, Or.inr ⟨hnone.out, rfl, rfl⟩, hb3⟩⟩
      | true =>
        go_wp2_with fail
        refine (meaning_list cb keep _ hlb hk).mono ?_
        rw [hwb]
        rintro e w4 ⟨rfl, hw4⟩
        have hown4 := hown3.below hw4
        have hb4 := hb3.trans (hw4.mono hb3.size)
        have hB4 := hb4.size
        clear hown3 hb3 hw4 hB3 hwb
        cases hbb with
        | false =>
          have hnone : Hid (parsOf keep ls = none) := HPB.out (HPN.out (by simp))
          go_wp2
          go_ret2
          first | exact ⟨.slice none 0 0, false, rfl, Or.inr ⟨hnone.out, rfl, rfl⟩, hb4⟩ | exact ⟨.slice none 0 0, Or.inl ⟨rfl, Or.inr ⟨hnone.out, rfl, rfl⟩, hb4⟩⟩
        | true =>
          have hsn2 : Hid (parsOf keep (ls.take (k + 1)) = some (ps ++ [⟨na, nb, cc⟩])) := HSN.out _ (HPS.out (by simp) (by simp))
          have hnew : ∀ (j : Nat) (u : Value), (parCells ⟨na, nb, cc⟩)[j]? = some u → (w4.alloc (.cells #[.string ⟨na.toArray⟩, .string ⟨nb.toArray⟩, .bool cc] 66)).cell? ((⟨w4.heap.size, 0, none⟩ : Addr).add j) = some u := by
            intro j u hj
            have e : (⟨w4.heap.size, 0, none⟩ : Addr).add j = ⟨w4.heap.size, j, none⟩ := by unfold Addr.add; split <;> simp_all
            rw [e]
            unfold World.cell?
            rw [heap_alloc_new]
            simpa [parCells] using hj
          have HNW : Hid _ := hnew; clear hnew HSN HPS HPN HPB
          go_wp2_with (at_builtin; refine wp_appP _ rfl (.tmp 43) (.tmp 48) 29 rfl w.heap.size i0 _ Tryd.underlying29 hi hz0 hz1 hz2 rfl _ ps rfl (hown4.alloc _) ⟨w4.heap.size, 0, none⟩ 1 ⟨na, nb, cc⟩ rfl (by exact HNW.out) (by omega) w (hb4.alloc hB4 _) (by simp; omega) ?_; intro v5 w5 hown5 hb5 hB5)
          go_wp2
          go_roundw
          case rel => exact ⟨k + 1, ps ++ [⟨na, nb, cc⟩], by omega, by go_num, hsn2, by simp; omega, hown5, hb5, hB5⟩
          case measure => simp [intOf]; omega
    · have hend : Hid (parsOf keep ls = some ps) := show _ = _ by
        have h := hps.out
        have e := HN.out
        rw [List.take_of_length_le (by omega)] at h; exact h
      clear hps
      go_wp2
      go_ret2
      first | exact ⟨_, _, rfl, Or.inl ⟨ps, hend.out, rfl, hown⟩, hb⟩ | exact ⟨_, Or.inr ⟨rfl, Or.inl ⟨ps, hend.out, rfl, hown⟩, hb⟩⟩

theorem ret_user {p : List UInt8 × List UInt8 × Int} {x y : List UInt8} {b : Int} (h : p = (x, y, b)) : Ending.returned (.tuple #[.string ⟨x.toArray⟩, .string ⟨y.toArray⟩, .int .i64 b]) = .returned (.tuple #[.string ⟨p.1.toArray⟩, .string ⟨p.2.1.toArray⟩, .int .i64 p.2.2]) := by rw [h]
theorem usersK_arr : (⟨#[38, 61, 43, 36, 44, 59, 63, 47]⟩ : ByteArray) = ⟨usersK.toArray⟩ := rfl

set_option maxHeartbeats 1000000 in
theorem cutUser_any (s : List UInt8) (w : World) (hs : s.length ≤ 1048576) :
    Calls Tryd.prog 45 #[.string ⟨s.toArray⟩] w fun e w' => e = .returned (.tuple #[.string ⟨(userV s).1.toArray⟩, .string ⟨(userV s).2.1.toArray⟩, .int .i64 (userV s).2.2]) ∧ Below w.heap.size w w' := by
  have hcl := cutL_len 64 s
  have hv : userV s = userV s := rfl
  conv at hv => rhs; unfold userV
  go_enter Tryd.func45, Tryd.ntmps45
  go_wp2_with fail
  refine (strCut_list s 64 _ (by omega)).mono ?_
  rintro e w0 ⟨rfl, q, rfl⟩
  have hw0 := below_drewN w q
  generalize w.drewN q = w0 at hw0 ⊢
  have hl1 : (cutL 64 s).1.length ≤ 1048576 := by omega
  clear hcl
  generalize cutL 64 s = c at hv hl1 ⊢
  obtain ⟨ca, cb, cc⟩ := c
  simp only at hv hl1 ⊢
  cases cc with
  | false =>
    have HV : Hid (userV s = ([], s, 0)) := show _ = _ by rw [hv]; rfl
    clear hv
    go_wp2
    go_ret3
    exact ⟨ret_user (x := []) HV.out, hw0⟩
  | true =>
    rw [if_pos rfl] at hv
    have hm := meaning_list ca usersK w0 hl1 (by decide)
    go_wp2_with fail
    refine hm.mono ?_
    rintro e w1 ⟨rfl, hw1⟩
    have hb := hw0.trans (hw1.mono hw0.size)
    clear hm hw1
    generalize writtenV usersK ca = t at hv ⊢
    obtain ⟨t1, tb⟩ := t
    simp only at hv ⊢
    cases tb with
    | false =>
      have HV : Hid (userV s = ([], [], 31)) := show _ = _ by rw [hv]; simp
      clear hv
      go_wp2
      go_ret3
      exact ⟨ret_user (x := []) (y := []) HV.out, hb⟩
    | true =>
      have z := size_list t1
      by_cases h0 : t1 = []
      · subst h0
        have HV : Hid (userV s = ([], [], 31)) := show _ = _ by rw [hv]; simp
        clear hv
        go_wp2
        go_ret3
        exact ⟨ret_user (x := []) (y := []) HV.out, hb⟩
      · have he : t1.isEmpty = false := by simpa using h0
        by_cases h64 : 64 < t1.length
        · have HV : Hid (userV s = ([], [], 31)) := show _ = _ by rw [hv, if_pos (Or.inr (Or.inr h64))]
          clear hv
          go_wp2
          go_ret3
          exact ⟨ret_user (x := []) (y := []) HV.out, hb⟩
        · have HV : Hid (userV s = (t1, cb, 0)) := show _ = _ by rw [hv, if_neg (by simp [h0]; omega)]
          clear hv
          go_wp2
          go_ret3
          exact ⟨ret_user HV.out, hb⟩

end Go.Proofs.YtfdcklekjnihjaaDoor
