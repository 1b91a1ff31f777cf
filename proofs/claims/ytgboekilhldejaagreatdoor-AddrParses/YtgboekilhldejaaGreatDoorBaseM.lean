/-
  Base texts, one behind another: UMean, UPrint, URest, UParse.
-/
import Derived.Test.YtgboekilhldejaaGreatDoorBaseC
import Derived.Test.YtgboekilhldejaaGreatDoorBaseE
import Derived.Test.YtgboekilhldejaaGreatDoorBaseB

/-
  Contracts of package uri: meaning, fields, cutUser.
-/
namespace Go.Proofs.YtgboekilhldejaaGreatDoor
open Go.RowKit Sc
set_option linter.unusedVariables false
set_option maxRecDepth 20000

theorem idx_neg {keep : List UInt8} {b : UInt8} (h : hasL b keep = false) : Lib.indexByte keep b = -1 := by
  rcases idx_cases keep b with ⟨_, h2⟩ | ⟨a, c, h1, _, _⟩
  · exact h2
  · exfalso
    unfold hasL at h
    rw [h1] at h; simp at h
theorem idx_pos {keep : List UInt8} {b : UInt8} (h : hasL b keep = true) : 0 ≤ Lib.indexByte keep b := by
  rcases idx_cases keep b with ⟨h1, _⟩ | ⟨a, c, _, _, h3⟩
  · unfold hasL at h; simp [h1] at h
  · omega

set_option maxHeartbeats 1000000 in
theorem meaning_any (s keep : ByteArray) (w : World) (hs : s.size ≤ 140737488355328) (hk : keep.size ≤ maxLen) :
    Calls Tryz.prog 110 #[.string s, .string keep] w fun e w' => e = .returned (.tuple #[.string ⟨(writtenV keep.data.toList s.data.toList).1.toArray⟩, .bool (writtenV keep.data.toList s.data.toList).2]) ∧ Below w.heap.size w w' := by
  go_enter Tryz.func110, Tryz.ntmps110
  go_wp2
  go_loop [12] (fun i => ∃ k : Nat, k ≤ s.size ∧ i = .int .i64 k ∧ Hid ((s.data.toList.take k).all (okw keep.data.toList) = true)) (fun i => s.size - (intOf i).toNat)
  case atStart => exact ⟨0, by omega, rfl, rfl⟩
  case round =>
    obtain ⟨k, hk', rfl, hall⟩ := hrel
    by_cases hlt : k < s.size
    · have hbd := u8_bd s[k]
      by_cases h37 : s[k] = 37
      · have e37 : ((s[k].toNat : Int) != 37) = false := by rw [h37]; rfl
        have e37' : ((s[k].toNat : Int) == 37) = true := by rw [h37]; rfl
        have ha : Hid ((s.data.toList.take (k + 1)).all (okw keep.data.toList) = true) := okw_snoc hlt hall.out (by simp [okw, h37])
        clear h37 hall
        go_wp2
        go_round
        case rel => exact ⟨k + 1, by omega, by go_num, ha⟩
        case measure => simp [intOf]; omega
      · have e37 : ((s[k].toNat : Int) != 37) = true := by
          have := u8_ne (b := 37) h37
          simp only [bne, Bool.not_eq_true']; exact this
        by_cases hx : isB s[k].toNat 16 = true
        · have hx2 : (bits BinOp.and IntKind.i64 (cls s[k].toNat) 16 == 0) = false := by simpa [isB] using hx
          have ha : Hid ((s.data.toList.take (k + 1)).all (okw keep.data.toList) = true) := okw_snoc hlt hall.out (by simp [okw, hx])
          clear h37 hall hx
          go_wp2_with (go_at_call 108; refine (class_any _ _ hbd.1 hbd.2).mono ?_; rintro e w' ⟨rfl, rfl⟩)
          go_round
          case rel => exact ⟨k + 1, by omega, by go_num, ha⟩
          case measure => simp [intOf]; omega
        · have hx2 : (bits BinOp.and IntKind.i64 (cls s[k].toNat) 16 == 0) = true := by simpa [isB] using hx
          by_cases hh : hasL s[k] keep.data.toList = true
          · have ha : Hid ((s.data.toList.take (k + 1)).all (okw keep.data.toList) = true) := okw_snoc hlt hall.out (by simp [okw, hh])
            have hix := idx_pos hh
            clear h37 hall hx
            go_wp2_with (first
              | (go_at_call 108; refine (class_any _ _ hbd.1 hbd.2).mono ?_; rintro e w' ⟨rfl, rfl⟩)
              | (go_at_call 121; refine (strIndexByte_any keep s[k] _).mono ?_; rintro e w' ⟨rfl, rfl⟩))
            go_round
            case rel => exact ⟨k + 1, by omega, by go_num, ha⟩
            case measure => simp [intOf]; omega
          · have hh' : hasL s[k] keep.data.toList = false := by simpa using hh
            have hix := idx_neg hh'
            have hb : Hid (writtenV keep.data.toList s.data.toList = ([], false)) := written_bad hlt (by
              simp only [okw, Bool.or_eq_false_iff, beq_eq_false_iff_ne, ne_eq]
              exact ⟨h37, by simpa using hx, hh'⟩)
            clear h37 hall hx hh
            go_wp2_with (first
              | (go_at_call 108; refine (class_any _ _ hbd.1 hbd.2).mono ?_; rintro e w' ⟨rfl, rfl⟩)
              | (go_at_call 121; refine (strIndexByte_any keep s[k] _).mono ?_; rintro e w' ⟨rfl, rfl⟩; rw [hix]))
            go_ret2
            exact ⟨ret_wr (x := []) hb.out, Below.refl _ _⟩
    · rw [take_all s k (by omega)] at hall
      have hv := written_all hall.out
      have HV : Hid _ := hv; clear hv hall
      go_wp2_with (go_at_call 122; refine (unescape_any _ _ hs).mono ?_; rintro e w1 ⟨rfl, hw1⟩)
      all_goals go_ret2
      all_goals exact ⟨ret_wr HV.out, hw1⟩

theorem parsOf_snoc_some {keep : List UInt8} {ls : List (List UInt8)} {l : List UInt8} {ps : List Par} {p : Par} (h1 : parsOf keep ls = some ps) (h2 : parOf keep l = some p) : parsOf keep (ls ++ [l]) = some (ps ++ [p]) := by
  rw [parsOf_snoc, h1, h2]
theorem meaning_list (s keep : List UInt8) (w : World) (hs : s.length ≤ 1048576) (hk : keep.length ≤ 64) :
    Calls Tryz.prog 110 #[.string ⟨s.toArray⟩, .string ⟨keep.toArray⟩] w fun e w' => e = .returned (.tuple #[.string ⟨(writtenV keep s).1.toArray⟩, .bool (writtenV keep s).2]) ∧ Below w.heap.size w w' :=
  meaning_any ⟨s.toArray⟩ ⟨keep.toArray⟩ w (by rw [size_list]; omega) (by rw [size_list]; unfold maxLen; omega)
theorem strCut_list (r : List UInt8) (c : UInt8) (w : World) (hs : r.length ≤ 9223372036854775807) :
    Calls Tryz.prog 53 #[.string ⟨r.toArray⟩, .string ⟨#[c]⟩] w fun e w' => e = .returned (.tuple #[.string ⟨(cutL c r).1.toArray⟩, .string ⟨(cutL c r).2.1.toArray⟩, .bool (cutL c r).2.2]) ∧ ∃ q, w' = w.drewN q :=
  strCut_any ⟨r.toArray⟩ c w (by rw [size_list]; exact hs)

set_option maxHeartbeats 2000000 in
set_option maxRecDepth 100000 in
theorem fields_any (v : Value) (ls : List (List UInt8)) (keep : List UInt8) (w : World) (hk : keep.length ≤ 64) (hn : ls.length ≤ 1048577) (hl : ∀ l ∈ ls, l.length ≤ 1048576) (hv : StrsAt w v ls) :
    Calls Tryz.prog 112 #[v, .string ⟨keep.toArray⟩] w fun e w' => ∃ v' b, e = .returned (.tuple #[v', .bool b]) ∧ ParsRes keep ls w w' v' b ∧ Below w.heap.size w w' := by
  obtain ⟨i0, hi, hz0, hz1, hz2⟩ := info_parts infoPar
  obtain ⟨ao, cap, rfl, hc⟩ := hv
  have HC : Hid _ := hc; clear hc
  have HL : Hid _ := hl; clear hl
  obtain ⟨n, hn'⟩ : ∃ n, n = ls.length := ⟨_, rfl⟩
  rw [← hn'] at hn ⊢
  have HN : Hid _ := hn'; clear hn'
  go_enter Tryz.func112, Tryz.ntmps112
  go_wp2
  go_loopw [6, 17] (fun x i wr => ∃ (k : Nat) (ps : List Par), k ≤ n ∧ i = .int .i64 k ∧ Hid (parsOf keep (ls.take k) = some ps) ∧ ps.length = k ∧ OwnP wr w.heap.size x ps ∧ Below w.heap.size w wr ∧ w.heap.size ≤ wr.heap.size) (fun _ i _ => n - (intOf i).toNat)
  case atStart => exact ⟨0, [], by omega, rfl, rfl, rfl, OwnP.nil _ _, Below.refl _ _, Nat.le_refl _⟩
  case round =>
    obtain ⟨k, ps, hkn, rfl, hps, hpl, hown, hb, hB⟩ := hrel
    by_cases hlt : k < n
    · have hkl : k < ls.length := by have := HN.out; omega
      obtain ⟨a, hao, hab, hcell⟩ := HC.out k hkl
      have hcell2 := cell_below hb (by rw [add_block]; exact hab) hcell
      have hll := HL.out _ (List.getElem_mem hkl)
      have hcl := cutL_len 61 ls[k]
      subst hao
      clear hcell
      go_wp2_with fail
      refine (strCut_list ls[k] 61 _ (by omega)).mono ?_
      rintro e w' ⟨rfl, q, rfl⟩
      have hown1 := hown.below (below_drewN _ q)
      have hb1 := hb.trans ((below_drewN _ q).mono hB)
      go_wp2_with fail
      refine (meaning_list (cutL 61 ls[k]).1 keep _ (by omega) hk).mono ?_
      rintro e w3 ⟨rfl, hw3⟩
      have hown3 := hown1.below hw3
      have hb3 := hb1.trans (hw3.mono hb1.size)
      have hB3 := hb3.size
      have hsn : ∀ p, parOf keep ls[k] = some p → parsOf keep (ls.take (k + 1)) = some (ps ++ [p]) := fun p h => by
        rw [List.take_succ_eq_append_getElem hkl]; exact parsOf_snoc_some hps.out h
      have hpbad := @parsOf_bad keep ls k hkl
      have hpsome := @parOf_some keep ls[k]
      have hpnone := @parOf_none keep ls[k]
      clear hown hown1 hb hb1 hw3 hB hcell2
      have hlb : (cutL 61 ls[k]).2.1.length ≤ 1048576 := by omega
      generalize cutL 61 ls[k] = c3 at hpsome hpnone hlb ⊢
      obtain ⟨ca, cb, cc⟩ := c3
      simp only at hpsome hpnone hlb ⊢
      obtain ⟨wb, hwb⟩ : ∃ wb, writtenV keep cb = wb := ⟨_, rfl⟩
      rw [hwb] at hpsome hpnone
      generalize writtenV keep ca = wa at hpsome hpnone ⊢
      obtain ⟨na, ha⟩ := wa
      obtain ⟨nb, hbb⟩ := wb
      simp only at hpsome hpnone ⊢
      have HPB : Hid _ := hpbad; clear hpbad
      have HPN : Hid _ := hpnone; clear hpnone
      have HPS : Hid _ := hpsome; clear hpsome
      have HSN : Hid _ := hsn; clear hsn
      cases ha with
      | false =>
        have hnone : Hid (parsOf keep ls = none) := HPB.out (HPN.out (by simp))
        go_wp2
        go_ret2
        first | exact ⟨.slice none 0 0, false, rfl, Or.inr ⟨hnone.out, rfl, rfl⟩, hb3⟩ | exact ⟨.slice none 0 0, Or.inl ⟨rfl, Or.inr ⟨hnone.out, rfl, rfl⟩, hb3⟩⟩
      | true =>
        go_wp2_with fail
        refine (meaning_list cb keep _ hlb hk).mono ?_
        rw [hwb]
        rintro e w4 ⟨rfl, hw4⟩
        have hown4 := hown3.below hw4
        have hb4 := hb3.trans (hw4.mono hb3.size)
        have hB4 := hb4.size
        clear hown3 hb3 hw4 hB3 hwb
        cases hbb with
        | false =>
          have hnone : Hid (parsOf keep ls = none) := HPB.out (HPN.out (by simp))
          go_wp2
          go_ret2
          first | exact ⟨.slice none 0 0, false, rfl, Or.inr ⟨hnone.out, rfl, rfl⟩, hb4⟩ | exact ⟨.slice none 0 0, Or.inl ⟨rfl, Or.inr ⟨hnone.out, rfl, rfl⟩, hb4⟩⟩
        | true =>
          have hsn2 : Hid (parsOf keep (ls.take (k + 1)) = some (ps ++ [⟨na, nb, cc⟩])) := HSN.out _ (HPS.out (by simp) (by simp))
          have hnew : ∀ (j : Nat) (u : Value), (parCells ⟨na, nb, cc⟩)[j]? = some u → (w4.alloc (.cells #[.string ⟨na.toArray⟩, .string ⟨nb.toArray⟩, .bool cc] 59)).cell? ((⟨w4.heap.size, 0, none⟩ : Addr).add j) = some u := by
            intro j u hj
            have e : (⟨w4.heap.size, 0, none⟩ : Addr).add j = ⟨w4.heap.size, j, none⟩ := by unfold Addr.add; split <;> simp_all
            rw [e]
            unfold World.cell?
            rw [heap_alloc_new]
            simpa [parCells] using hj
          have HNW : Hid _ := hnew; clear hnew HSN HPS HPN HPB
          go_wp2_with (at_builtin; refine wp_appP _ rfl (.tmp 43) (.tmp 48) 23 rfl w.heap.size i0 _ Tryz.underlying23 hi hz0 hz1 hz2 rfl _ ps rfl (hown4.alloc _) ⟨w4.heap.size, 0, none⟩ 1 ⟨na, nb, cc⟩ rfl (by exact HNW.out) (by omega) w (hb4.alloc hB4 _) (by simp; omega) ?_; intro v5 w5 hown5 hb5 hB5)
          go_wp2
          go_roundw
          case rel => exact ⟨k + 1, ps ++ [⟨na, nb, cc⟩], by omega, by go_num, hsn2, by simp; omega, hown5, hb5, hB5⟩
          case measure => simp [intOf]; omega
    · have hend : Hid (parsOf keep ls = some ps) := show _ = _ by
        have h := hps.out
        have e := HN.out
        rw [List.take_of_length_le (by omega)] at h; exact h
      clear hps
      go_wp2
      go_ret2
      first | exact ⟨_, _, rfl, Or.inl ⟨ps, hend.out, rfl, hown⟩, hb⟩ | exact ⟨_, Or.inr ⟨rfl, Or.inl ⟨ps, hend.out, rfl, hown⟩, hb⟩⟩

theorem ret_user {p : List UInt8 × List UInt8 × Int} {x y : List UInt8} {b : Int} (h : p = (x, y, b)) : Ending.returned (.tuple #[.string ⟨x.toArray⟩, .string ⟨y.toArray⟩, .int .i64 b]) = .returned (.tuple #[.string ⟨p.1.toArray⟩, .string ⟨p.2.1.toArray⟩, .int .i64 p.2.2]) := by rw [h]
theorem usersK_arr : (⟨#[38, 61, 43, 36, 44, 59, 63, 47]⟩ : ByteArray) = ⟨usersK.toArray⟩ := rfl

set_option maxHeartbeats 1000000 in
theorem cutUser_any (s : List UInt8) (w : World) (hs : s.length ≤ 1048576) :
    Calls Tryz.prog 86 #[.string ⟨s.toArray⟩] w fun e w' => e = .returned (.tuple #[.string ⟨(userV s).1.toArray⟩, .string ⟨(userV s).2.1.toArray⟩, .int .i64 (userV s).2.2]) ∧ Below w.heap.size w w' := by
  have hcl := cutL_len 64 s
  have hv : userV s = userV s := rfl
  conv at hv => rhs; unfold userV
  go_enter Tryz.func86, Tryz.ntmps86
  go_wp2_with fail
  refine (strCut_list s 64 _ (by omega)).mono ?_
  rintro e w0 ⟨rfl, q, rfl⟩
  have hw0 := below_drewN w q
  generalize w.drewN q = w0 at hw0 ⊢
  have hl1 : (cutL 64 s).1.length ≤ 1048576 := by omega
  clear hcl
  generalize cutL 64 s = c at hv hl1 ⊢
  obtain ⟨ca, cb, cc⟩ := c
  simp only at hv hl1 ⊢
  cases cc with
  | false =>
    have HV : Hid (userV s = ([], s, 0)) := show _ = _ by rw [hv]; rfl
    clear hv
    go_wp2
    go_ret3
    exact ⟨ret_user (x := []) HV.out, hw0⟩
  | true =>
    rw [if_pos rfl] at hv
    have hm := meaning_list ca usersK w0 hl1 (by decide)
    go_wp2_with fail
    refine hm.mono ?_
    rintro e w1 ⟨rfl, hw1⟩
    have hb := hw0.trans (hw1.mono hw0.size)
    clear hm hw1
    generalize writtenV usersK ca = t at hv ⊢
    obtain ⟨t1, tb⟩ := t
    simp only at hv ⊢
    cases tb with
    | false =>
      have HV : Hid (userV s = ([], [], 31)) := show _ = _ by rw [hv]; simp
      clear hv
      go_wp2
      go_ret3
      exact ⟨ret_user (x := []) (y := []) HV.out, hb⟩
    | true =>
      have z := size_list t1
      by_cases h0 : t1 = []
      · subst h0
        have HV : Hid (userV s = ([], [], 31)) := show _ = _ by rw [hv]; simp
        clear hv
        go_wp2
        go_ret3
        exact ⟨ret_user (x := []) (y := []) HV.out, hb⟩
      · have he : t1.isEmpty = false := by simpa using h0
        by_cases h64 : 64 < t1.length
        · have HV : Hid (userV s = ([], [], 31)) := show _ = _ by rw [hv, if_pos (Or.inr (Or.inr h64))]
          clear hv
          go_wp2
          go_ret3
          exact ⟨ret_user (x := []) (y := []) HV.out, hb⟩
        · have HV : Hid (userV s = (t1, cb, 0)) := show _ = _ by rw [hv, if_neg (by simp [h0]; omega)]
          clear hv
          go_wp2
          go_ret3
          exact ⟨ret_user HV.out, hb⟩

end Go.Proofs.YtgboekilhldejaaGreatDoor

/-
  Contracts of package uri: written, Print.
-/
namespace Go.Proofs.YtgboekilhldejaaGreatDoor
open Go.RowKit Sc
set_option linter.unusedVariables false
set_option maxRecDepth 20000

theorem esc_list (s keep : List UInt8) (w : World) (hs : s.length ≤ 1048576) (hk : keep.length ≤ 64) :
    Calls Tryz.prog 66 #[.string ⟨s.toArray⟩, .string ⟨keep.toArray⟩] w fun e w' => e = .returned (.string ⟨(escL keep s).toArray⟩) ∧ Below w.heap.size w w' :=
  escape_any ⟨s.toArray⟩ ⟨keep.toArray⟩ w (by rw [size_list]; omega) (by rw [size_list]; omega)
theorem digits_int (n : Int) (w : World) (h0 : 0 ≤ n) (h1 : n ≤ 65535) :
    Calls Tryz.prog 67 #[.int .i64 n] w fun e w' => e = .returned (.string ⟨(digL n.toNat).toArray⟩) ∧ Below w.heap.size w w' := by
  have h := digits_any n.toNat w (by omega)
  have e : ((n.toNat : Nat) : Int) = n := by omega
  rw [e] at h
  exact h
theorem escLn (keep s : List UInt8) : (escL keep s).length ≤ 3 * s.length := by
  have := esc_cells_len (kpF keep) s
  rw [Lib.byteCells_length] at this
  exact this
theorem appL (a b : List UInt8) : (⟨a.toArray⟩ : ByteArray) ++ (⟨b.toArray⟩ : ByteArray) = ⟨(a ++ b).toArray⟩ := by
  apply ByteArray.ext; simp

/-- A list's text: one text ahead of its first parameter, another ahead of each other one. -/
def wrT (f n keep : List UInt8) (ps : List Par) : List UInt8 := (ps.zipIdx).flatMap fun (p, i) => (if i = 0 then f else n) ++ pairV keep p
theorem wrT_snoc {f n keep : List UInt8} {ps : List Par} {k : Nat} (hk : k < ps.length) : wrT f n keep (ps.take (k + 1)) = wrT f n keep (ps.take k) ++ ((if k = 0 then f else n) ++ pairV keep ps[k]) := by
  unfold wrT
  rw [List.take_succ_eq_append_getElem hk, List.zipIdx_append, List.flatMap_append, List.length_take, Nat.min_eq_left (by omega)]
  simp
theorem wrT_hdr (ps : List Par) : wrT [63] [38] headersK ps = hdrT ps := rfl
theorem wrT_pars (ps : List Par) : wrT [59] [59] paramsK ps = parsT ps := by
  unfold wrT parsT
  have key : ∀ (m : Nat) (qs : List Par), ((qs.zipIdx m).flatMap fun (p, i) => (if i = 0 then ([59] : List UInt8) else [59]) ++ pairV paramsK p) = qs.flatMap fun p => [59] ++ pairV paramsK p := by
    intro m qs
    induction qs generalizing m with
    | nil => rfl
    | cons q qs ih =>
      rw [List.zipIdx_cons, List.flatMap_cons, ih (m + 1), List.flatMap_cons]
      simp
  exact key 0 ps
theorem pairVn (keep : List UInt8) (p : Par) (h : parB p = true) : (pairV keep p).length ≤ 400 := by
  have hp := parB_ok h
  have l1 := escLn keep p.name
  have l2 := escLn keep p.value
  unfold pairV
  split
  · simp; omega
  · omega
theorem wrT_len (f n keep : List UInt8) (ps : List Par) (hf : f.length ≤ 1) (hn : n.length ≤ 1) (hp : ∀ p ∈ ps, parB p = true) : (wrT f n keep ps).length ≤ 401 * ps.length := by
  have key : ∀ k, k ≤ ps.length → (wrT f n keep (ps.take k)).length ≤ 401 * k := by
    intro k
    induction k with
    | zero => intro _; simp [wrT]
    | succ k ih =>
      intro hk
      have h1 := ih (by omega)
      have h2 := pairVn keep ps[k] (hp _ (List.getElem_mem (by omega)))
      rw [wrT_snoc (by omega), List.length_append, List.length_append]
      split <;> omega
  have := key ps.length (Nat.le_refl _)
  rwa [List.take_length] at this

set_option maxHeartbeats 2000000 in
set_option maxRecDepth 100000 in
theorem wr_row (a : Addr) (cap : Nat) (ps : List Par) (f n keep : List UInt8) (w : World) (h16 : ps.length ≤ 16) (hp : ∀ p ∈ ps, parB p = true) (hf : f.length ≤ 1) (hn : n.length ≤ 1) (hkp : keep.length ≤ 64) (hc : ∀ k (hk : k < ps.length), a.block < w.heap.size ∧ ParAt w a k ps[k]) :
    Calls Tryz.prog 68 #[.slice (some a) ps.length cap, .string ⟨f.toArray⟩, .string ⟨n.toArray⟩, .string ⟨keep.toArray⟩] w fun e w' => e = .returned (.string ⟨(wrT f n keep ps).toArray⟩) ∧ Below w.heap.size w w' := by
  have HC : Hid _ := hc; clear hc
  have HP : Hid _ := hp; clear hp
  obtain ⟨m, hm⟩ : ∃ m, m = ps.length := ⟨_, rfl⟩
  rw [← hm] at h16 ⊢
  have HN : Hid _ := hm; clear hm
  go_enter Tryz.func68, Tryz.ntmps68
  go_wp2
  go_loopw [9, 10, 16] (fun x y i wr => ∃ (k : Nat) (l g : List UInt8), k ≤ m ∧ i = .int .i64 k ∧ x = .string ⟨l.toArray⟩ ∧ y = .string ⟨g.toArray⟩ ∧ l.length ≤ 401 * k ∧ g.length ≤ 1 ∧ Hid (g = if k = 0 then f else n) ∧ Hid (l = wrT f n keep (ps.take k)) ∧ Below w.heap.size w wr) (fun _ _ i _ => m - (intOf i).toNat)
  case atStart => exact ⟨0, [], f, by omega, rfl, rfl, rfl, by simp, hf, rfl, rfl, Below.refl _ _⟩
  case round =>
    obtain ⟨k, l, g, hk, rfl, rfl, rfl, hll, hgl, hg, hle, hb⟩ := hrel
    by_cases hlt : k < m
    · have hkl : k < ps.length := by have := HN.out; omega
      obtain ⟨hab, hpa⟩ := HC.out k hkl
      obtain ⟨c0, c1, c2⟩ := hpa.below hb hab
      have hpb := HP.out _ (List.getElem_mem hkl)
      have hpo := parB_ok hpb
      have hpl := pairVn keep _ hpb
      have hsn : Hid (wrT f n keep (ps.take (k + 1)) = l ++ (g ++ pairV keep ps[k])) := show _ = _ by rw [wrT_snoc hkl, hle.out, hg.out]
      generalize ps[k] = p at c0 c1 c2 hpo hpl hsn
      obtain ⟨nm, vl, hs⟩ := p
      simp only at c0 c1 c2 hpo
      have l1 := escLn keep nm
      have l2 := escLn keep vl
      have hB := hb.size
      clear hpb hpa hle hg
      have hbx : ∀ o, Below w.heap.size w (wr.alloc o) := fun o => hb.alloc hB o
      cases hs with
      | false =>
        have hpv : pairV keep ⟨nm, vl, false⟩ = escL keep nm := rfl
        rw [hpv] at hsn hpl
        have hcl : ∀ o1 o2 w5, Below (wr.alloc (.cells #[o1, o2, .bool false] 59)).heap.size (wr.alloc (.cells #[o1, o2, .bool false] 59)) w5 → w5.cell? ⟨wr.heap.size, 2, none⟩ = some (.bool false) := fun o1 o2 w5 h => by
          rw [h.cell (by simp)]; unfold World.cell?; rw [heap_alloc_new]; rfl
        go_wp2_with (go_at_call 66; refine (esc_list nm keep _ (by omega) hkp).mono ?_; rintro e w5 ⟨rfl, h5⟩; have hc5 := hcl _ _ _ h5; have hb5 := box_below hb hB h5; clear h5 hcl hbx)
        go_roundw
        case rel => exact ⟨k + 1, l ++ (g ++ escL keep nm), n, by omega, by go_num, by rw [← appL, ← appL], rfl, by simp; omega, hn, show _ = _ from (if_neg (by omega)).symm, hsn.out.symm, hb5⟩
        case measure => simp [intOf]; omega
      | true =>
        have hpv : pairV keep ⟨nm, vl, true⟩ = escL keep nm ++ [61] ++ escL keep vl := rfl
        rw [hpv] at hsn hpl
        simp only [List.length_append] at hpl
        have hcl : ∀ o1 o2 w5, Below (wr.alloc (.cells #[o1, o2, .bool true] 59)).heap.size (wr.alloc (.cells #[o1, o2, .bool true] 59)) w5 → w5.cell? ⟨wr.heap.size, 1, none⟩ = some o2 ∧ w5.cell? ⟨wr.heap.size, 2, none⟩ = some (.bool true) := fun o1 o2 w5 h => by
          constructor <;> (rw [h.cell (by simp)]; unfold World.cell?; rw [heap_alloc_new]; rfl)
        go_wp2_with fail
        refine (esc_list nm keep _ (by omega) hkp).mono ?_
        rintro e w5 ⟨rfl, h5⟩
        obtain ⟨hc5, hd5⟩ := hcl _ _ _ h5
        have hb5 := box_below hb hB h5
        clear h5 hcl hbx
        go_wp2_with fail
        refine (esc_list vl keep _ (by omega) hkp).mono ?_
        rintro e w6 ⟨rfl, h6⟩
        have hb6 := hb5.trans (h6.mono hb5.size)
        clear h6 hc5 hd5
        go_wp2
        go_roundw
        case rel => exact ⟨k + 1, l ++ (g ++ (escL keep nm ++ [61] ++ escL keep vl)), n, by omega, by go_num, by first | (simp only [← appL, ByteArray.append_assoc]; rfl) | (simp only [← appL, ByteArray.append_assoc]), rfl, by simp; omega, hn, show _ = _ from (if_neg (by omega)).symm, hsn.out.symm, hb6⟩
        case measure => simp [intOf]; omega
    · have hd : Hid (wrT f n keep ps = l) := show _ = _ by
        rw [hle.out, List.take_of_length_le (by have := HN.out; omega)]
      clear hle hg
      go_wp2
      go_ret
      exact ⟨by rw [hd.out]; rfl, hb⟩

set_option maxHeartbeats 400000 in
theorem wr_nil (a : Option Addr) (cap : Nat) (f n keep : List UInt8) (w : World) :
    Calls Tryz.prog 68 #[.slice a 0 cap, .string ⟨f.toArray⟩, .string ⟨n.toArray⟩, .string ⟨keep.toArray⟩] w fun e w' => e = .returned (.string ⟨#[]⟩) ∧ Below w.heap.size w w' := by
  go_enter Tryz.func68, Tryz.ntmps68
  go_wp2
  go_loop [9, 16] (fun x i => x = .string ⟨#[]⟩ ∧ i = .int .i64 0) (fun _ i => 0)
  case atStart => exact ⟨rfl, rfl⟩
  case round =>
    obtain ⟨rfl, rfl⟩ := hrel
    go_wp2
    go_ret
    exact ⟨rfl, Below.refl _ _⟩
theorem wr_any (v : Value) (ps : List Par) (f n keep : List UInt8) (w : World) (h16 : ps.length ≤ 16) (hp : ∀ p ∈ ps, parB p = true) (hf : f.length ≤ 1) (hn : n.length ≤ 1) (hkp : keep.length ≤ 64) (h : ParsAt w v ps) :
    Calls Tryz.prog 68 #[v, .string ⟨f.toArray⟩, .string ⟨n.toArray⟩, .string ⟨keep.toArray⟩] w fun e w' => e = .returned (.string ⟨(wrT f n keep ps).toArray⟩) ∧ Below w.heap.size w w' := by
  rcases h with ⟨rfl, rfl⟩ | ⟨a, cap, rfl, hc⟩
  · exact wr_nil none 0 f n keep w
  · exact wr_row a cap ps f n keep w h16 hp hf hn hkp hc

theorem ret_prt {p : List UInt8 × Int} {x : List UInt8} {a : Int} (h : p = (x, a)) : Ending.returned (.tuple #[.string ⟨x.toArray⟩, .int .i64 a]) = .returned (.tuple #[.string ⟨p.1.toArray⟩, .int .i64 p.2]) := by rw [h]
theorem ret_prb {p : List UInt8 × Int} {b : ByteArray} {x : List UInt8} {a : Int} (h : p = (x, a)) (hb : b = ⟨x.toArray⟩) : Ending.returned (.tuple #[.string b, .int .i64 a]) = .returned (.tuple #[.string ⟨p.1.toArray⟩, .int .i64 p.2]) := by rw [h, hb]

set_option maxHeartbeats 1000000 in
theorem print_bad (u : Uri) (p h : Value) (w : World) (hsm : SmallU 140737488355328 u) (hp : ParsAt w p u.params) (hh : ParsAt w h u.headers) (hne : ¬ checkV u = 0) :
    Calls Tryz.prog 35 #[uriV u p h] w fun e w' => e = .returned (.tuple #[.string ⟨(printV u).1.toArray⟩, .int .i64 (printV u).2]) ∧ Below w.heap.size w w' := by
  have hv : Hid (printV u = ([], checkV u)) := show _ = _ by rw [printV, if_neg hne]
  have hn : (checkV u != 0) = true := by simpa using hne
  have hn2 : (checkV u == 0) = false := by simpa using hne
  have hbw : Below w.heap.size w (w.alloc (.cells #[.string ⟨u.scheme.toArray⟩, .string ⟨u.user.toArray⟩, .string ⟨u.host.toArray⟩, .int .i64 u.port, p, h] 37)) := (Below.refl _ w).alloc (Nat.le_refl _) _
  clear hne
  unfold uriV
  go_enter Tryz.func35, Tryz.ntmps35
  go_wp2_with fail
  refine (check_any u p h _ hsm (hp.below hbw) (hh.below hbw)).mono ?_
  rintro e w2 ⟨rfl, hw2⟩
  go_wp2
  go_ret2
  exact ⟨ret_prt (x := []) hv.out, hbw.trans (hw2.mono hbw.size)⟩

theorem parK : (⟨#[91, 93, 47, 58, 38, 43, 36]⟩ : ByteArray) = ⟨paramsK.toArray⟩ := rfl
theorem hdrK : (⟨#[91, 93, 47, 63, 58, 43, 36]⟩ : ByteArray) = ⟨headersK.toArray⟩ := rfl

set_option maxHeartbeats 4000000 in
set_option maxRecDepth 100000 in
theorem print_ok (u : Uri) (p h : Value) (w : World) (hsm : SmallU 140737488355328 u) (hp : ParsAt w p u.params) (hh : ParsAt w h u.headers) (hok : checkV u = 0) :
    Calls Tryz.prog 35 #[uriV u p h] w fun e w' => e = .returned (.tuple #[.string ⟨(printV u).1.toArray⟩, .int .i64 (printV u).2]) ∧ Below w.heap.size w w' := by
  have hv : Hid (printV u = (textT u, 0)) := show _ = _ by rw [printV, if_pos hok]
  obtain ⟨k1, k2, k3, k4, k5, k6, k7, k8⟩ := check_ok hok
  have hl1 := schemeB_ok k1
  have hl3 := hostB_ok k3
  have hpl := listB_ok k6
  have hhl := listB_ok k7
  have hbox := box_new w u p h
  have hbw : Below w.heap.size w (w.alloc (.cells #[.string ⟨u.scheme.toArray⟩, .string ⟨u.user.toArray⟩, .string ⟨u.host.toArray⟩, .int .i64 u.port, p, h] 37)) := (Below.refl _ w).alloc (Nat.le_refl _) _
  have hws : w.heap.size < (w.alloc (.cells #[.string ⟨u.scheme.toArray⟩, .string ⟨u.user.toArray⟩, .string ⟨u.host.toArray⟩, .int .i64 u.port, p, h] 37)).heap.size := by simp
  have el := escLn usersK u.user
  have dl := digL_len19 (n := u.port.toNat) (by omega)
  have pl := wrT_len [59] [59] paramsK u.params (by simp) (by simp) hpl.2
  have hl := wrT_len [63] [38] headersK u.headers (by simp) (by simp) hhl.2
  have W1 : ∀ w', Below w.heap.size w w' → Calls Tryz.prog 68 #[p, .string ⟨#[59]⟩, .string ⟨#[59]⟩, .string ⟨#[91, 93, 47, 58, 38, 43, 36]⟩] w' fun e w'' => e = .returned (.string ⟨(wrT [59] [59] paramsK u.params).toArray⟩) ∧ Below w'.heap.size w' w'' := fun w' hb =>
    wr_any p u.params [59] [59] paramsK w' hpl.1 hpl.2 (by simp) (by simp) (by decide) (hp.below hb)
  have W2 : ∀ w', Below w.heap.size w w' → Calls Tryz.prog 68 #[h, .string ⟨#[63]⟩, .string ⟨#[38]⟩, .string ⟨#[91, 93, 47, 63, 58, 43, 36]⟩] w' fun e w'' => e = .returned (.string ⟨(wrT [63] [38] headersK u.headers).toArray⟩) ∧ Below w'.heap.size w' w'' := fun w' hb =>
    wr_any h u.headers [63] [38] headersK w' hhl.1 hhl.2 (by simp) (by simp) (by decide) (hh.below hb)
  have hfin : textT u = frontT u ++ wrT [59] [59] paramsK u.params ++ wrT [63] [38] headersK u.headers := by rw [wrT_pars, wrT_hdr]; rfl
  have HFIN : Hid _ := hfin; clear hfin
  have hp16 := hpl.1
  have hh16 := hhl.1
  clear k1 k3 k6 k7 k8 hpl hhl
  generalize wrT [59] [59] paramsK u.params = T1 at pl W1 HFIN
  generalize wrT [63] [38] headersK u.headers = T2 at hl W2 HFIN
  have WW1 : Hid _ := W1; clear W1
  have WW2 : Hid _ := W2; clear W2
  unfold uriV
  go_enter Tryz.func35, Tryz.ntmps35
  go_wp2_with fail
  refine (check_any u p h _ hsm (hp.below hbw) (hh.below hbw)).mono ?_
  rintro e w2 ⟨rfl, hw2⟩
  rw [hok]
  have hb2 := hbw.trans (hw2.mono hbw.size)
  have hx2 := hbox.below hw2 hws
  have hs2 : w.heap.size < w2.heap.size := Nat.lt_of_lt_of_le hws hw2.size
  obtain ⟨g0, g1, g2, g3, g4, g5⟩ := hx2
  have hx2 : Hid (BoxU w2 w.heap.size u p h) := ⟨g0, g1, g2, g3, g4, g5⟩
  clear hbox hbw hws hw2 hok hp hh
  by_cases eu : u.user = []
  · have hue : u.user.isEmpty = true := by simp [eu]
    by_cases ep : u.port = 0
    · have hpe : (u.port != 0) = false := by simp [ep]
      have hpe2 : (u.port == 0) = true := by simp [ep]
      have hfr : Hid (frontT u = u.scheme ++ [58] ++ u.host) := show _ = _ by simp [frontT, eu, ep]
      clear eu ep
      go_wp2_with fail
      refine (WW1.out _ hb2).mono ?_
      rintro e w3 ⟨rfl, hw3⟩
      have hb3 := hb2.trans (hw3.mono hb2.size)
      have hx3 := hx2.out.below hw3 hs2
      clear g0 g1 g2 g3 g4 g5 hx2 hs2 hw3
      obtain ⟨g0, g1, g2, g3, g4, g5⟩ := hx3
      go_wp2_with fail
      refine (WW2.out _ hb3).mono ?_
      rintro e w4 ⟨rfl, hw4⟩
      have hb4 := hb3.trans (hw4.mono hb3.size)
      clear hw4
      go_wp2
      go_ret2
      exact ⟨ret_prb hv.out (by rw [HFIN.out, hfr.out]; simp only [← appL, ByteArray.append_assoc]), hb4⟩
    · have hpe : (u.port != 0) = true := by simpa using ep
      have hpe2 : (u.port == 0) = false := by simpa using ep
      have hfr : Hid (frontT u = u.scheme ++ [58] ++ u.host ++ ([58] ++ digL u.port.toNat)) := show _ = _ by simp [frontT, eu, ep]
      clear eu ep
      go_wp2_with fail
      refine (digits_int u.port _ k4 k5).mono ?_
      rintro e wd ⟨rfl, hwd⟩
      have hbd := hb2.trans (hwd.mono hb2.size)
      have hxd := hx2.out.below hwd hs2
      have hsd : w.heap.size < wd.heap.size := Nat.lt_of_lt_of_le hs2 hwd.size
      clear g0 g1 g2 g3 g4 g5 hx2 hs2 hwd
      obtain ⟨g0, g1, g2, g3, g4, g5⟩ := hxd
      have hxd : Hid (BoxU wd w.heap.size u p h) := ⟨g0, g1, g2, g3, g4, g5⟩
      go_wp2_with fail
      refine (WW1.out _ hbd).mono ?_
      rintro e w3 ⟨rfl, hw3⟩
      have hb3 := hbd.trans (hw3.mono hbd.size)
      have hx3 := hxd.out.below hw3 hsd
      clear g0 g1 g2 g3 g4 g5 hxd hsd hw3
      obtain ⟨g0, g1, g2, g3, g4, g5⟩ := hx3
      go_wp2_with fail
      refine (WW2.out _ hb3).mono ?_
      rintro e w4 ⟨rfl, hw4⟩
      have hb4 := hb3.trans (hw4.mono hb3.size)
      clear hw4
      go_wp2
      go_ret2
      exact ⟨ret_prb hv.out (by rw [HFIN.out, hfr.out]; simp only [← appL, ByteArray.append_assoc]), hb4⟩
  · have hue : u.user.isEmpty = false := by simpa using eu
    have hes := fun w' => esc_list u.user usersK w' (by omega) (by decide)
    have HES : Hid _ := hes; clear hes
    by_cases ep : u.port = 0
    · have hpe : (u.port != 0) = false := by simp [ep]
      have hpe2 : (u.port == 0) = true := by simp [ep]
      have hfr : Hid (frontT u = u.scheme ++ [58] ++ (escL usersK u.user ++ [64]) ++ u.host) := show _ = _ by simp [frontT, eu, ep]
      clear eu ep
      go_wp2_with fail
      refine (HES.out _).mono ?_
      rintro e we ⟨rfl, hwe⟩
      have hbe := hb2.trans (hwe.mono hb2.size)
      have hxe := hx2.out.below hwe hs2
      have hse : w.heap.size < we.heap.size := Nat.lt_of_lt_of_le hs2 hwe.size
      clear g0 g1 g2 g3 g4 g5 hx2 hs2 hwe
      obtain ⟨g0, g1, g2, g3, g4, g5⟩ := hxe
      have hxe : Hid (BoxU we w.heap.size u p h) := ⟨g0, g1, g2, g3, g4, g5⟩
      go_wp2_with fail
      refine (WW1.out _ hbe).mono ?_
      rintro e w3 ⟨rfl, hw3⟩
      have hb3 := hbe.trans (hw3.mono hbe.size)
      have hx3 := hxe.out.below hw3 hse
      clear g0 g1 g2 g3 g4 g5 hxe hse hw3
      obtain ⟨g0, g1, g2, g3, g4, g5⟩ := hx3
      go_wp2_with fail
      refine (WW2.out _ hb3).mono ?_
      rintro e w4 ⟨rfl, hw4⟩
      have hb4 := hb3.trans (hw4.mono hb3.size)
      clear hw4
      go_wp2
      go_ret2
      exact ⟨ret_prb hv.out (by rw [HFIN.out, hfr.out]; simp only [← appL, ByteArray.append_assoc]), hb4⟩
    · have hpe : (u.port != 0) = true := by simpa using ep
      have hpe2 : (u.port == 0) = false := by simpa using ep
      have hfr : Hid (frontT u = u.scheme ++ [58] ++ (escL usersK u.user ++ [64]) ++ u.host ++ ([58] ++ digL u.port.toNat)) := show _ = _ by simp [frontT, eu, ep]
      clear eu ep
      go_wp2_with fail
      refine (HES.out _).mono ?_
      rintro e we ⟨rfl, hwe⟩
      have hbe := hb2.trans (hwe.mono hb2.size)
      have hxe := hx2.out.below hwe hs2
      have hse : w.heap.size < we.heap.size := Nat.lt_of_lt_of_le hs2 hwe.size
      clear g0 g1 g2 g3 g4 g5 hx2 hs2 hwe
      obtain ⟨g0, g1, g2, g3, g4, g5⟩ := hxe
      have hxe : Hid (BoxU we w.heap.size u p h) := ⟨g0, g1, g2, g3, g4, g5⟩
      go_wp2_with fail
      refine (digits_int u.port _ k4 k5).mono ?_
      rintro e wd ⟨rfl, hwd⟩
      have hbd := hbe.trans (hwd.mono hbe.size)
      have hxd := hxe.out.below hwd hse
      have hsd : w.heap.size < wd.heap.size := Nat.lt_of_lt_of_le hse hwd.size
      clear g0 g1 g2 g3 g4 g5 hxe hse hwd
      obtain ⟨g0, g1, g2, g3, g4, g5⟩ := hxd
      have hxd : Hid (BoxU wd w.heap.size u p h) := ⟨g0, g1, g2, g3, g4, g5⟩
      go_wp2_with fail
      refine (WW1.out _ hbd).mono ?_
      rintro e w3 ⟨rfl, hw3⟩
      have hb3 := hbd.trans (hw3.mono hbd.size)
      have hx3 := hxd.out.below hw3 hsd
      clear g0 g1 g2 g3 g4 g5 hxd hsd hw3
      obtain ⟨g0, g1, g2, g3, g4, g5⟩ := hx3
      go_wp2_with fail
      refine (WW2.out _ hb3).mono ?_
      rintro e w4 ⟨rfl, hw4⟩
      have hb4 := hb3.trans (hw4.mono hb3.size)
      clear hw4
      go_wp2
      go_ret2
      exact ⟨ret_prb hv.out (by rw [HFIN.out, hfr.out]; simp only [← appL, ByteArray.append_assoc]), hb4⟩

theorem print_any (u : Uri) (p h : Value) (w : World) (hsm : SmallU 140737488355328 u) (hp : ParsAt w p u.params) (hh : ParsAt w h u.headers) :
    Calls Tryz.prog 35 #[uriV u p h] w fun e w' => e = .returned (.tuple #[.string ⟨(printV u).1.toArray⟩, .int .i64 (printV u).2]) ∧ Below w.heap.size w w' := by
  by_cases hok : checkV u = 0
  · exact print_ok u p h w hsm hp hh hok
  · exact print_bad u p h w hsm hp hh hok

end Go.Proofs.YtgboekilhldejaaGreatDoor

/-
  Contracts of package uri: readRest, Parse.
-/
namespace Go.Proofs.YtgboekilhldejaaGreatDoor
open Go.RowKit Sc
set_option linter.unusedVariables false
set_option maxRecDepth 20000

def zeroU : List Value := [.string ⟨#[]⟩, .string ⟨#[]⟩, .string ⟨#[]⟩, .int .i64 0, .slice none 0 0, .slice none 0 0]
theorem rowU_new (w : World) : RowIs (w.alloc (.cells #[.string ⟨#[]⟩, .string ⟨#[]⟩, .string ⟨#[]⟩, .int .i64 0, .slice none 0 0, .slice none 0 0] 37)) w.heap.size 37 zeroU := by
  unfold RowIs; rw [heap_alloc_new]; rfl
/-- The six cells of a URI's block. -/
structure Six (w : World) (b : Nat) (v0 v1 v2 v3 v4 v5 : Value) : Prop where
  c0 : w.cell? ⟨b, 0, none⟩ = some v0
  c1 : w.cell? ⟨b, 1, none⟩ = some v1
  c2 : w.cell? ⟨b, 2, none⟩ = some v2
  c3 : w.cell? ⟨b, 3, none⟩ = some v3
  c4 : w.cell? ⟨b, 4, none⟩ = some v4
  c5 : w.cell? ⟨b, 5, none⟩ = some v5
  f0 : w.frozen? ⟨b, 0, none⟩ = false
  f1 : w.frozen? ⟨b, 1, none⟩ = false
  f2 : w.frozen? ⟨b, 2, none⟩ = false
  f3 : w.frozen? ⟨b, 3, none⟩ = false
  f4 : w.frozen? ⟨b, 4, none⟩ = false
  f5 : w.frozen? ⟨b, 5, none⟩ = false
theorem RowIs.six {w : World} {b : Nat} {e : TypeId} {v0 v1 v2 v3 v4 v5 : Value} (h : RowIs w b e [v0, v1, v2, v3, v4, v5]) : Six w b v0 v1 v2 v3 v4 v5 :=
  ⟨h.cell 0 (by simp), h.cell 1 (by simp), h.cell 2 (by simp), h.cell 3 (by simp), h.cell 4 (by simp), h.cell 5 (by simp), h.frozen 0, h.frozen 1, h.frozen 2, h.frozen 3, h.frozen 4, h.frozen 5⟩

theorem row_store {w : World} {b : Nat} {e : TypeId} {u0 u1 u2 u3 u4 u5 : Value} (h : RowIs w b e [u0, u1, u2, u3, u4, u5]) (v0 v1 v2 v3 v4 v5 : Value) :
    RowIs ((((((w.setCell ⟨b, 0, none⟩ v0).setCell ⟨b, 1, none⟩ v1).setCell ⟨b, 2, none⟩ v2).setCell ⟨b, 3, none⟩ v3).setCell ⟨b, 4, none⟩ v4).setCell ⟨b, 5, none⟩ v5) b e [v0, v1, v2, v3, v4, v5] := by
  have := (((((h.set 0 v0).set 1 v1).set 2 v2).set 3 v3).set 4 v4).set 5 v5
  simpa using this
theorem store_below {B : Nat} {a w : World} (h : Below B a w) (b : Nat) (hb : B ≤ b) (v0 v1 v2 v3 v4 v5 : Value) :
    Below B a ((((((w.setCell ⟨b, 0, none⟩ v0).setCell ⟨b, 1, none⟩ v1).setCell ⟨b, 2, none⟩ v2).setCell ⟨b, 3, none⟩ v3).setCell ⟨b, 4, none⟩ v4).setCell ⟨b, 5, none⟩ v5) :=
  (((((h.setCell hb _).setCell hb _).setCell hb _).setCell hb _).setCell hb _).setCell hb _
theorem OwnP.mono {w : World} {B C : Nat} {v : Value} {ps : List Par} (h : OwnP w B v ps) (hc : C ≤ B) : OwnP w C v ps := by
  obtain ⟨h1, h2⟩ := h
  refine ⟨h1, ?_⟩
  rcases h2 with h2 | ⟨g, cap, cur, hv, hg, r⟩
  · exact Or.inl h2
  · exact Or.inr ⟨g, cap, cur, hv, Nat.le_trans hc hg, r⟩
theorem OwnP.store {w : World} {B : Nat} {v : Value} {ps : List Par} (h : OwnP w B v ps) {b : Nat} (hb : b < B) (v0 v1 v2 v3 v4 v5 : Value) :
    OwnP ((((((w.setCell ⟨b, 0, none⟩ v0).setCell ⟨b, 1, none⟩ v1).setCell ⟨b, 2, none⟩ v2).setCell ⟨b, 3, none⟩ v3).setCell ⟨b, 4, none⟩ v4).setCell ⟨b, 5, none⟩ v5) B v ps :=
  ownsRow_setCell_below (ownsRow_setCell_below (ownsRow_setCell_below (ownsRow_setCell_below (ownsRow_setCell_below (ownsRow_setCell_below h hb _) hb _) hb _) hb _) hb _) hb _
theorem add_at (g o k : Nat) : (⟨g, o, none⟩ : Addr).add k = ⟨g, o + k, none⟩ := by unfold Addr.add; split <;> simp_all
theorem strs_none (w : World) (ao : Option Addr) (cap : Nat) : StrsAt w (.slice ao 0 cap) [] := ⟨ao, cap, rfl, fun k hk => by simp at hk⟩
theorem strs_tail {w2 w3 : World} {g cap : Nat} {p0 : List UInt8} {ps : List (List UInt8)} (HC : ∀ j (hj : j < (p0 :: ps).length), w2.cell? ⟨g, j, none⟩ = some (.string ⟨((p0 :: ps)[j]).toArray⟩)) (hg : g < w2.heap.size) (hb : Below w2.heap.size w2 w3) :
    StrsAt w3 (.slice (some ⟨g, 1, none⟩) ps.length cap) ps := by
  refine ⟨_, _, rfl, fun k hk => ⟨_, rfl, Nat.lt_of_lt_of_le hg hb.size, ?_⟩⟩
  have h := HC (k + 1) (by simpa using hk)
  rw [add_at, hb.cell (by exact hg), Nat.add_comm 1 k, h]
  simp
theorem strs_all {w2 : World} {g cap : Nat} {p0 : List UInt8} {ps : List (List UInt8)} (HC : ∀ j (hj : j < (p0 :: ps).length), w2.cell? ⟨g, j, none⟩ = some (.string ⟨((p0 :: ps)[j]).toArray⟩)) (hg : g < w2.heap.size) :
    StrsAt w2 (.slice (some ⟨g, 0, none⟩) (ps.length + 1) cap) (p0 :: ps) := by
  refine ⟨_, _, rfl, fun k hk => ⟨_, rfl, hg, ?_⟩⟩
  rw [add_at, Nat.zero_add]; exact HC k hk
theorem fields_of (v : Value) (ls : List (List UInt8)) (keep : List UInt8) (w : World) (hk : keep.length ≤ 64) (hn : ls.length ≤ 1048577) (hl : ∀ l ∈ ls, l.length ≤ 1048576) (hv : StrsAt w v ls) :
    Calls Tryz.prog 112 #[v, .string ⟨keep.toArray⟩] w fun e w' => ∃ v' b, e = .returned (.tuple #[v', .bool b]) ∧ ((∃ ps, parsOf keep ls = some ps ∧ b = true ∧ OwnP w' w.heap.size v' ps) ∨ (parsOf keep ls = none ∧ b = false ∧ v' = .slice none 0 0)) ∧ Below w.heap.size w w' := fields_any v ls keep w hk hn hl hv
theorem rest_of {s ca cb p0 wh : List UInt8} {cc : Bool} {ps0 : List (List UInt8)} {wp we : Int} (h1 : cutL 63 s = (ca, cb, cc)) (h2 : splitL 59 ca = p0 :: ps0) (h3 : whereV p0 = (wh, wp, we)) :
    restV s = if we ≠ 0 then (noU, we) else fillV (wh, wp, we) (parsOf paramsK ps0) (headsV cc cb) := by
  unfold restV
  simp only [h1, h2, h3, List.headD_cons, List.tail_cons]
theorem strCut_of {r a b : List UInt8} {f : Bool} {c : UInt8} (h : cutL c r = (a, b, f)) (w : World) (hs : r.length ≤ 9223372036854775807) :
    Calls Tryz.prog 53 #[.string ⟨r.toArray⟩, .string ⟨#[c]⟩] w fun e w' => e = .returned (.tuple #[.string ⟨a.toArray⟩, .string ⟨b.toArray⟩, .bool f]) ∧ Below w.heap.size w w' := by
  have k := strCut_list r c w hs
  rw [h] at k
  refine k.mono ?_
  rintro e w' ⟨rfl, q, rfl⟩
  exact ⟨rfl, below_drewN w q⟩
theorem strSplit_of {l p0 : List UInt8} {ps : List (List UInt8)} {c : UInt8} (h : splitL c l = p0 :: ps) (w : World) (hs : l.length ≤ 1048576) :
    Calls Tryz.prog 102 #[.string ⟨l.toArray⟩, .string ⟨#[c]⟩] w fun e w' => ∃ g cap, e = .returned (.slice (some ⟨g, 0, none⟩) (ps.length + 1) cap) ∧ ps.length + 1 ≤ cap ∧ g < w'.heap.size ∧ (∀ j (hj : j < (p0 :: ps).length), w'.cell? ⟨g, j, none⟩ = some (.string ⟨((p0 :: ps)[j]).toArray⟩)) ∧ Below w.heap.size w w' := by
  have k := strSplit_any ⟨l.toArray⟩ c w (by rw [size_list]; exact hs)
  refine k.mono ?_
  rintro e w' ⟨v, rfl, hown, hb⟩
  have hown2 : Own w' w.heap.size 9 v (strs (p0 :: ps)) := by rw [← h]; exact hown
  obtain ⟨g, cap, rfl, hc⟩ := own_strs hown2 (by simp)
  have hcap : ps.length + 1 ≤ cap ∧ g < w'.heap.size := by
    rcases hown2.2 with ⟨e, _⟩ | ⟨g', cap', cur, e, hB, hg, h1, h2, h3, h4⟩
    · simp at e
    · simp only [Value.slice.injEq, Option.some.injEq, Addr.mk.injEq] at e
      obtain ⟨⟨rfl, _⟩, _, rfl⟩ := e
      rw [strs_length] at h1
      refine ⟨h1, ?_⟩
      apply Classical.byContradiction
      intro hge
      rw [Array.getElem?_eq_none (by omega)] at hg
      cases hg
  exact ⟨g, cap, rfl, hcap.1, hcap.2, hc, hb⟩
theorem where_of {l wh : List UInt8} {wp we : Int} (h : whereV l = (wh, wp, we)) (w : World) (hs : l.length ≤ 1048576) :
    Calls Tryz.prog 111 #[.string ⟨l.toArray⟩] w fun e w' => e = .returned (.tuple #[.string ⟨wh.toArray⟩, .int .i64 wp, .int .i64 we]) ∧ Below w.heap.size w w' := by
  have k := where_any ⟨l.toArray⟩ w (by rw [size_list]; omega)
  have k2 : Calls Tryz.prog 111 #[.string ⟨l.toArray⟩] w fun e w' => e = .returned (.tuple #[.string ⟨(whereV l).1.toArray⟩, .int .i64 (whereV l).2.1, .int .i64 (whereV l).2.2]) ∧ Below w.heap.size w w' := k
  rw [h] at k2
  exact k2

set_option maxHeartbeats 2000000 in
set_option maxRecDepth 100000 in
theorem readRest_any (s : List UInt8) (w : World) (hs : s.length ≤ 1048576) :
    Calls Tryz.prog 87 #[.string ⟨s.toArray⟩] w fun e w' => ∃ p h, e = .returned (.tuple #[uriV (restV s).1 p h, .int .i64 (restV s).2]) ∧ OwnP w' w.heap.size p (restV s).1.params ∧ OwnP w' w.heap.size h (restV s).1.headers ∧ Below w.heap.size w w' := by
  have hcl := cutL_len 63 s
  obtain ⟨ca, cb, cc, hcut⟩ : ∃ ca cb cc, cutL 63 s = (ca, cb, cc) := ⟨_, _, _, rfl⟩
  obtain ⟨p0, ps0, hp0⟩ := splitL_cons 59 ca
  obtain ⟨wh, wp, we, hwv⟩ : ∃ wh wp we, whereV p0 = (wh, wp, we) := ⟨_, _, _, rfl⟩
  have hv := rest_of hcut hp0 hwv
  rw [hcut] at hcl
  simp only at hcl
  have hmem := splitL_mem_len 59 ca
  have hcnt := splitL_len 59 ca
  rw [hp0] at hmem hcnt
  have hp0l := hmem p0 (by simp)
  have HM : Hid _ := hmem; clear hmem
  have hcnt2 : ps0.length ≤ 1048576 := by simp at hcnt; omega
  clear hcnt
  have hr0 := rowU_new w
  have hb0 : Below w.heap.size w (w.alloc (.cells #[.string ⟨#[]⟩, .string ⟨#[]⟩, .string ⟨#[]⟩, .int .i64 0, .slice none 0 0, .slice none 0 0] 37)) := (Below.refl _ w).alloc (Nat.le_refl _) _
  have hlt0 : w.heap.size < (w.alloc (.cells #[.string ⟨#[]⟩, .string ⟨#[]⟩, .string ⟨#[]⟩, .int .i64 0, .slice none 0 0, .slice none 0 0] 37)).heap.size := by simp
  have KC := fun w' => strCut_of hcut w' (by omega)
  have KS := fun w' => strSplit_of hp0 w' (by omega)
  have KW := fun w' => where_of hwv w' (by omega)
  have HKC : Hid _ := KC; clear KC
  have HKS : Hid _ := KS; clear KS
  have HKW : Hid _ := KW; clear KW
  clear hcut hp0 hwv
  have HV : Hid _ := hv; clear hv
  go_enter Tryz.func87, Tryz.ntmps87
  go_wp2_with fail
  refine (HKC.out _).mono ?_
  rintro e w1 ⟨rfl, hw1⟩
  have hr1 := hr0.below hw1 hlt0
  have hb1 := hb0.trans (hw1.mono hb0.size)
  have hlt1 := Nat.lt_of_lt_of_le hlt0 hw1.size
  clear hr0 hb0 hlt0 hw1
  go_wp2_with fail
  refine (HKS.out _).mono ?_
  rintro e w2 ⟨g, cap, rfl, hcap, hgl, hcells, hw2⟩
  have hg0 := hcells 0 (by simp)
  simp only [List.getElem_cons_zero] at hg0
  have hr2 := hr1.below hw2 hlt1
  have hb2 := hb1.trans (hw2.mono hb1.size)
  have hlt2 := Nat.lt_of_lt_of_le hlt1 hw2.size
  clear hr1 hb1 hlt1 hw2
  have HC : Hid _ := hcells; clear hcells
  go_wp2_with fail
  refine (HKW.out _).mono ?_
  rintro e w3 ⟨rfl, hw3⟩
  have hr3 := hr2.below hw3 hlt2
  have hb3 := hb2.trans (hw3.mono hb2.size)
  have hlt3 := Nat.lt_of_lt_of_le hlt2 hw3.size
  have HSA : Hid (StrsAt w3 (.slice (some ⟨g, 1, none⟩) ps0.length (cap - 1)) ps0) := strs_tail HC.out hgl hw3
  have HSB : Hid (ps0 = [] → StrsAt w3 (.slice (some ⟨g, 0, none⟩) ps0.length 0) ps0) := fun h => by subst h; exact strs_none _ _ _
  have HMT : Hid (∀ l ∈ ps0, l.length ≤ 1048576) := fun l hl => by have := HM.out l (by simp [hl]); omega
  clear hw3 hgl
  clear hr2 hb2 hlt2 HKC HKS HKW hg0
  obtain ⟨c0, c1, c2, c3, c4, c5, f0, f1, f2, f3, f4, f5⟩ := hr3.six
  by_cases hwe : we = 0
  · subst hwe
    have hvv : Hid (restV s = fillV (wh, wp, 0) (parsOf paramsK ps0) (headsV cc cb)) := show _ = _ by rw [HV.out, if_neg (by simp)]
    clear HV
    obtain ⟨q0, qs0, hq0⟩ := splitL_cons 38 cb
    have hmem := splitL_mem_len 38 cb
    have hcnt := splitL_len 38 cb
    rw [hq0] at hmem hcnt
    have HQM : Hid (∀ l ∈ q0 :: qs0, l.length ≤ 1048576) := fun l hl => by have := hmem l hl; omega
    have hqn : (q0 :: qs0).length ≤ 1048577 := by omega
    have KS := fun w' => strSplit_of hq0 w' (by omega)
    have HKS : Hid _ := KS
    have hhv : headsV true cb = parsOf headersK (q0 :: qs0) := by rw [headsV, if_pos rfl, hq0]
    have HHV : Hid _ := hhv
    clear KS hmem hcnt hq0 hhv
    go_wp2_with fail
    all_goals (
      refine (fields_of _ ps0 paramsK w3 (by decide) (by omega) HMT.out ?hstr).mono ?_
      case hstr => first | with_reducible exact HSA.out | exact HSB.out (List.eq_nil_of_length_eq_zero (by omega))
      rintro e w4 ⟨v1, b1, rfl, hres, hw4⟩
      have hr4 := hr3.below hw4 hlt3
      have hb4 := hb3.trans (hw4.mono hb3.size)
      have hlt4 := Nat.lt_of_lt_of_le hlt3 hw4.size
      clear c0 c1 c2 c3 c4 c5 f0 f1 f2 f3 f4 f5 hw4
      obtain ⟨c0, c1, c2, c3, c4, c5, f0, f1, f2, f3, f4, f5⟩ := hr4.six
      rcases hres with ⟨ps1, hp1, rfl, hown1⟩ | ⟨hp1, rfl, rfl⟩
      · obtain ⟨a1, k1, rfl⟩ := hown1.parsAt.form
        have hown1' : Hid (OwnP w4 (w.heap.size + 1) (.slice a1 ps1.length k1) ps1) := OwnP.mono hown1 (by omega)
        clear hown1
        cases cc with
        | false =>
          have hvv2 : Hid (restV s = (⟨[], [], wh, wp, ps1, []⟩, 0)) := show _ = _ by rw [hvv.out, hp1]; rfl
          clear hp1 hvv
          go_wp2
          have hr5 := row_store hr4 (.string ⟨#[]⟩) (.string ⟨#[]⟩) (.string ⟨wh.toArray⟩) (.int .i64 wp) (.slice a1 ps1.length k1) (.slice none 0 0)
          have hb5 := store_below hb4 w.heap.size (Nat.le_refl _) (.string ⟨#[]⟩) (.string ⟨#[]⟩) (.string ⟨wh.toArray⟩) (.int .i64 wp) (.slice a1 ps1.length k1) (.slice none 0 0)
          have ho5 := (OwnP.store hown1'.out (Nat.lt_succ_self _) (.string ⟨#[]⟩) (.string ⟨#[]⟩) (.string ⟨wh.toArray⟩) (.int .i64 wp) (.slice a1 ps1.length k1) (.slice none 0 0)).mono (Nat.le_succ w.heap.size)
          generalize World.setCell _ _ _ = w5 at hr5 hb5 ho5 ⊢
          obtain ⟨d0, d1, d2, d3, d4, d5, _, _, _, _, _, _⟩ := hr5.six
          try simp only [Exit.inBlock, Exit.then]
          refine bodyPost_ret (v := .tuple #[.agg #[.string ⟨#[]⟩, .string ⟨#[]⟩, .string ⟨wh.toArray⟩, .int .i64 wp, (.slice a1 ps1.length k1), .slice none 0 0], .int .i64 0]) (by simp [results, Tryz.results87, go_sem, d0, d1, d2, d3, d4, d5]; try rfl) rfl ?_
          exact ⟨(.slice a1 ps1.length k1), .slice none 0 0, by rw [hvv2.out]; rfl, by rw [hvv2.out]; exact ho5, by rw [hvv2.out]; exact OwnP.nil _ _, hb5⟩
        | true =>
          rw [HHV.out, hp1] at hvv
          go_wp2_with fail
          refine (HKS.out _).mono ?_
          rintro e w5 ⟨g2, cap2, rfl, hcap2, hgl2, hcells2, hw5⟩
          have hr5 := hr4.below hw5 hlt4
          have hb5 := hb4.trans (hw5.mono hb4.size)
          have hlt5 := Nat.lt_of_lt_of_le hlt4 hw5.size
          have ho5 : Hid _ := OwnP.below hown1'.out hw5
          have hs5 : Hid (StrsAt w5 (.slice (some ⟨g2, 0, none⟩) (qs0.length + 1) cap2) (q0 :: qs0)) := strs_all hcells2 hgl2
          clear hcells2 hw5 hgl2 hown1' HKS
          go_wp2_with fail
          have hst := fields_of _ (q0 :: qs0) headersK w5 (by decide) hqn HQM.out hs5.out
          refine hst.mono ?_
          clear hst
          rintro e w6 ⟨v2, b2, rfl, hres2, hw6⟩
          have hr6 := hr5.below hw6 hlt5
          have hb6 := hb5.trans (hw6.mono hb5.size)
          have ho6 : Hid _ := OwnP.below ho5.out hw6
          clear c0 c1 c2 c3 c4 c5 f0 f1 f2 f3 f4 f5 ho5 hs5 hw6
          obtain ⟨c0, c1, c2, c3, c4, c5, f0, f1, f2, f3, f4, f5⟩ := hr6.six
          rcases hres2 with ⟨ps2, hp2, rfl, hown2⟩ | ⟨hp2, rfl, rfl⟩
          · obtain ⟨a2, k2, rfl⟩ := hown2.parsAt.form
            have hown2' : Hid (OwnP w6 (w.heap.size + 1) (.slice a2 ps2.length k2) ps2) := OwnP.mono hown2 (by omega)
            have hvv2 : Hid (restV s = (⟨[], [], wh, wp, ps1, ps2⟩, 0)) := show _ = _ by rw [hvv.out, hp2]; rfl
            clear hp1 hvv hp2 HHV hown2
            go_wp2
            have hr7 := row_store hr6 (.string ⟨#[]⟩) (.string ⟨#[]⟩) (.string ⟨wh.toArray⟩) (.int .i64 wp) (.slice a1 ps1.length k1) (.slice a2 ps2.length k2)
            have hb7 := store_below hb6 w.heap.size (Nat.le_refl _) (.string ⟨#[]⟩) (.string ⟨#[]⟩) (.string ⟨wh.toArray⟩) (.int .i64 wp) (.slice a1 ps1.length k1) (.slice a2 ps2.length k2)
            have ho7 := (OwnP.store ho6.out (Nat.lt_succ_self _) (.string ⟨#[]⟩) (.string ⟨#[]⟩) (.string ⟨wh.toArray⟩) (.int .i64 wp) (.slice a1 ps1.length k1) (.slice a2 ps2.length k2)).mono (Nat.le_succ w.heap.size)
            have hq7 := (OwnP.store hown2'.out (Nat.lt_succ_self _) (.string ⟨#[]⟩) (.string ⟨#[]⟩) (.string ⟨wh.toArray⟩) (.int .i64 wp) (.slice a1 ps1.length k1) (.slice a2 ps2.length k2)).mono (Nat.le_succ w.heap.size)
            generalize World.setCell _ _ _ = w7 at hr7 hb7 ho7 hq7 ⊢
            obtain ⟨d0, d1, d2, d3, d4, d5, _, _, _, _, _, _⟩ := hr7.six
            try simp only [Exit.inBlock, Exit.then]
            refine bodyPost_ret (v := .tuple #[.agg #[.string ⟨#[]⟩, .string ⟨#[]⟩, .string ⟨wh.toArray⟩, .int .i64 wp, (.slice a1 ps1.length k1), (.slice a2 ps2.length k2)], .int .i64 0]) (by simp [results, Tryz.results87, go_sem, d0, d1, d2, d3, d4, d5]; try rfl) rfl ?_
            exact ⟨(.slice a1 ps1.length k1), (.slice a2 ps2.length k2), by rw [hvv2.out]; rfl, by rw [hvv2.out]; exact ho7, by rw [hvv2.out]; exact hq7, hb7⟩
          · have hvv2 : Hid (restV s = (noU, 34)) := show _ = _ by rw [hvv.out, hp2]; rfl
            clear hp1 hvv hp2 HHV
            go_wp2
            have hr7 := row_store hr6 (.string ⟨#[]⟩) (.string ⟨#[]⟩) (.string ⟨#[]⟩) (.int .i64 0) (.slice none 0 0) (.slice none 0 0)
            have hb7 := store_below hb6 w.heap.size (Nat.le_refl _) (.string ⟨#[]⟩) (.string ⟨#[]⟩) (.string ⟨#[]⟩) (.int .i64 0) (.slice none 0 0) (.slice none 0 0)
            generalize World.setCell _ _ _ = w7 at hr7 hb7 ⊢
            obtain ⟨d0, d1, d2, d3, d4, d5, _, _, _, _, _, _⟩ := hr7.six
            try simp only [Exit.inBlock, Exit.then]
            refine bodyPost_ret (v := .tuple #[.agg #[.string ⟨#[]⟩, .string ⟨#[]⟩, .string ⟨#[]⟩, .int .i64 0, .slice none 0 0, .slice none 0 0], .int .i64 34]) (by simp [results, Tryz.results87, go_sem, d0, d1, d2, d3, d4, d5]; try rfl) rfl ?_
            exact ⟨.slice none 0 0, .slice none 0 0, by rw [hvv2.out]; rfl, by rw [hvv2.out]; exact OwnP.nil _ _, by rw [hvv2.out]; exact OwnP.nil _ _, hb7⟩
      · have hvv2 : Hid (restV s = (noU, 34)) := show _ = _ by rw [hvv.out, hp1]; rfl
        clear hp1 hvv
        go_wp2
        have hr5 := row_store hr4 (.string ⟨#[]⟩) (.string ⟨#[]⟩) (.string ⟨#[]⟩) (.int .i64 0) (.slice none 0 0) (.slice none 0 0)
        have hb5 := store_below hb4 w.heap.size (Nat.le_refl _) (.string ⟨#[]⟩) (.string ⟨#[]⟩) (.string ⟨#[]⟩) (.int .i64 0) (.slice none 0 0) (.slice none 0 0)
        generalize World.setCell _ _ _ = w5 at hr5 hb5 ⊢
        obtain ⟨d0, d1, d2, d3, d4, d5, _, _, _, _, _, _⟩ := hr5.six
        try simp only [Exit.inBlock, Exit.then]
        refine bodyPost_ret (v := .tuple #[.agg #[.string ⟨#[]⟩, .string ⟨#[]⟩, .string ⟨#[]⟩, .int .i64 0, .slice none 0 0, .slice none 0 0], .int .i64 34]) (by simp [results, Tryz.results87, go_sem, d0, d1, d2, d3, d4, d5]; try rfl) rfl ?_
        exact ⟨.slice none 0 0, .slice none 0 0, by rw [hvv2.out]; rfl, by rw [hvv2.out]; exact OwnP.nil _ _, by rw [hvv2.out]; exact OwnP.nil _ _, hb5⟩)
  · have hwe1 : (we != 0) = true := by simpa using hwe
    have hwe2 : (we == 0) = false := by simpa using hwe
    have hvv : Hid (restV s = (noU, we)) := show _ = _ by rw [HV.out, if_pos hwe]
    clear HV
    go_wp2
    have hr4 := row_store hr3 (.string ⟨#[]⟩) (.string ⟨#[]⟩) (.string ⟨#[]⟩) (.int .i64 0) (.slice none 0 0) (.slice none 0 0)
    have hb4 := store_below hb3 w.heap.size (Nat.le_refl _) (.string ⟨#[]⟩) (.string ⟨#[]⟩) (.string ⟨#[]⟩) (.int .i64 0) (.slice none 0 0) (.slice none 0 0)
    generalize World.setCell _ _ _ = w4 at hr4 hb4 ⊢
    obtain ⟨d0, d1, d2, d3, d4, d5, _, _, _, _, _, _⟩ := hr4.six
    try simp only [Exit.inBlock, Exit.then]
    refine bodyPost_ret (v := .tuple #[.agg #[.string ⟨#[]⟩, .string ⟨#[]⟩, .string ⟨#[]⟩, .int .i64 0, .slice none 0 0, .slice none 0 0], .int .i64 we]) (by simp [results, Tryz.results87, go_sem, d0, d1, d2, d3, d4, d5]; try rfl) rfl ?_
    exact ⟨.slice none 0 0, .slice none 0 0, by rw [hvv.out]; rfl, by rw [hvv.out]; exact OwnP.nil _ _, by rw [hvv.out]; exact OwnP.nil _ _, hb4⟩

end Go.Proofs.YtgboekilhldejaaGreatDoor

/-
  The contract of package uri's Parse.
-/
namespace Go.Proofs.YtgboekilhldejaaGreatDoor
open Go.RowKit Sc
set_option linter.unusedVariables false
set_option maxRecDepth 20000

theorem une_len : ∀ (n : Nat) (l r : List UInt8), l.length ≤ n → une l = some r → r.length ≤ l.length
  | 0, [], r, _, h => by simp [une] at h; subst h; simp
  | 0, _ :: _, r, hn, h => by simp at hn
  | n + 1, [], r, _, h => by simp [une] at h; subst h; simp
  | n + 1, b :: l, r, hn, h => by
    by_cases h37 : (b.toNat : Int) = 37
    · rcases l with _ | ⟨x, _ | ⟨y, l⟩⟩
      · rw [une_short h37 (by simp)] at h; cases h
      · rw [une_short h37 (by simp)] at h; cases h
      · cases hx : isB x.toNat 4 && isB y.toNat 4
        · rw [une_bad h37 hx] at h; cases h
        · rw [Bool.and_eq_true] at hx
          rw [une_hex h37 hx.1 hx.2] at h
          cases hu : une l with
          | none => rw [hu] at h; cases h
          | some r' =>
            rw [hu] at h
            simp at h
            subst h
            have := une_len n l r' (by simp at hn; omega) hu
            simp; omega
    · rw [une_plain h37] at h
      cases hu : une l with
      | none => rw [hu] at h; cases h
      | some r' =>
        rw [hu] at h
        simp at h
        subst h
        have := une_len n l r' (by simp at hn; omega) hu
        simp; omega
theorem written_len (keep l : List UInt8) : (writtenV keep l).1.length ≤ l.length := by
  unfold writtenV
  split
  · unfold unescV
    cases hu : une l with
    | none => simp
    | some r => exact une_len l.length l r (Nat.le_refl _) hu
  · simp
theorem parOf_len {keep l : List UInt8} {p : Par} (h : parOf keep l = some p) : p.name.length ≤ l.length ∧ p.value.length ≤ l.length := by
  unfold parOf at h
  split at h
  · simp at h
    subst h
    have c := cutL_len 61 l
    have a := written_len keep (cutL 61 l).1
    have b := written_len keep (cutL 61 l).2.1
    exact ⟨by simp only; omega, by simp only; omega⟩
  · cases h
theorem parsOf_small {keep : List UInt8} {N : Nat} : ∀ (ls : List (List UInt8)) (ps : List Par), parsOf keep ls = some ps → (∀ l ∈ ls, l.length ≤ N) → ∀ p ∈ ps, p.name.length ≤ N ∧ p.value.length ≤ N
  | [], ps, h, _, p, hp => by simp [parsOf] at h; subst h; simp at hp
  | l :: ls, ps, h, hl, p, hp => by
    rw [parsOf] at h
    cases h1 : parOf keep l with
    | none => rw [h1] at h; simp at h
    | some q =>
      cases h2 : parsOf keep ls with
      | none => rw [h1, h2] at h; simp at h
      | some qs =>
        rw [h1, h2] at h
        simp at h
        subst h
        rcases List.mem_cons.1 hp with rfl | hp
        · have := parOf_len h1
          have := hl l (by simp)
          omega
        · exact parsOf_small ls qs h2 (fun x hx => hl x (by simp [hx])) p hp
theorem smallP_of {keep : List UInt8} {ls : List (List UInt8)} {ps : List Par} (h : parsOf keep ls = some ps) (hn : ls.length ≤ 1048577) (hl : ∀ l ∈ ls, l.length ≤ 1048576) : SmallP 140737488355328 ps := by
  refine ⟨by rw [parsOf_len h]; omega, fun p hp => ?_⟩
  have := parsOf_small ls ps h hl p hp
  omega
theorem smallP_nil : SmallP 140737488355328 [] := ⟨by simp, fun p hp => by simp at hp⟩
theorem where_len (l : List UInt8) : (whereV l).1.length ≤ l.length := by
  unfold whereV portV
  have : (lowL (l.take (whereGo false l))).length ≤ l.length := by rw [lowL_len]; exact List.length_take_le' _ _
  split
  · split
    · exact this
    · split
      · simp
      · exact this
  · simp
theorem rest_small {s : List UInt8} (hs : s.length ≤ 1048576) : (restV s).1.host.length ≤ 1048576 ∧ SmallP 140737488355328 (restV s).1.params ∧ SmallP 140737488355328 (restV s).1.headers := by
  have hc := cutL_len 63 s
  obtain ⟨ca, cb, cc, hcut⟩ : ∃ ca cb cc, cutL 63 s = (ca, cb, cc) := ⟨_, _, _, rfl⟩
  obtain ⟨p0, ps0, hp0⟩ := splitL_cons 59 ca
  obtain ⟨wh, wp, we, hwv⟩ : ∃ wh wp we, whereV p0 = (wh, wp, we) := ⟨_, _, _, rfl⟩
  rw [hcut] at hc
  simp only at hc
  have hm := splitL_mem_len 59 ca
  have hn := splitL_len 59 ca
  have hwl := where_len p0
  rw [hwv] at hwl
  rw [hp0] at hm hn
  have hp0l := hm p0 (by simp)
  have hnone : noU.host.length ≤ 1048576 ∧ SmallP 140737488355328 noU.params ∧ SmallP 140737488355328 noU.headers := ⟨by simp [noU], smallP_nil, smallP_nil⟩
  rw [rest_of hcut hp0 hwv]
  split
  · exact hnone
  · cases h1 : parsOf paramsK ps0 with
    | none => exact hnone
    | some ps =>
      have s1 := smallP_of h1 (by simp at hn; omega) (fun l hl => by have := hm l (by simp [hl]); omega)
      cases h2 : headsV cc cb with
      | none => exact hnone
      | some qs =>
        refine ⟨by show wh.length ≤ _; simp only at hwl; omega, s1, ?_⟩
        show SmallP _ qs
        unfold headsV at h2
        split at h2
        · have hm2 := splitL_mem_len 38 cb
          have hn2 := splitL_len 38 cb
          exact smallP_of h2 (by omega) (fun l hl => by have := hm2 l hl; omega)
        · simp at h2; subst h2; exact smallP_nil
theorem user_small (s : List UInt8) : (userV s).1.length ≤ 64 := by
  unfold userV
  split
  · split
    · simp
    · rename_i h
      simp only [not_or] at h
      have := h.2.2
      simp only at this ⊢
      omega
  · simp
theorem user_rest (s : List UInt8) : (userV s).2.1.length ≤ s.length := by
  have hc := cutL_len 64 s
  unfold userV
  split
  · split
    · simp
    · exact hc.2
  · simp
theorem parseV_of {s ca cb us rs : List UInt8} {cc : Bool} {ue : Int} (h1 : cutL 58 s = (ca, cb, cc)) (h2 : userV cb = (us, rs, ue)) :
    parseV s = if cc = false ∨ schemeB (lowL ca) = false then (noU, 30) else if ue ≠ 0 then (noU, ue) else bothV (lowL ca) us (restV rs) := by
  unfold parseV
  simp only [h1, h2]
theorem cutUser_of {s us rs : List UInt8} {ue : Int} (h : userV s = (us, rs, ue)) (w : World) (hs : s.length ≤ 1048576) :
    Calls Tryz.prog 86 #[.string ⟨s.toArray⟩] w fun e w' => e = .returned (.tuple #[.string ⟨us.toArray⟩, .string ⟨rs.toArray⟩, .int .i64 ue]) ∧ Below w.heap.size w w' := by
  have k := cutUser_any s w hs
  rw [h] at k
  exact k

theorem RowIs.alloc {w : World} {g : Nat} {e : TypeId} {l : List Value} (h : RowIs w g e l) (o : Obj) : RowIs (w.alloc o) g e l :=
  h.below ((Below.refl _ w).alloc (Nat.le_refl _) o) (Array.getElem?_eq_some_iff.1 h).1
theorem readRest_of {rs : List UInt8} {u : Uri} {re : Int} (h : restV rs = (u, re)) (w : World) (hs : rs.length ≤ 1048576) :
    Calls Tryz.prog 87 #[.string ⟨rs.toArray⟩] w fun e w' => ∃ p h, e = .returned (.tuple #[uriV u p h, .int .i64 re]) ∧ OwnP w' w.heap.size p u.params ∧ OwnP w' w.heap.size h u.headers ∧ Below w.heap.size w w' := by
  have k := readRest_any rs w hs
  rw [h] at k
  exact k

set_option maxHeartbeats 2000000 in
set_option maxRecDepth 100000 in
theorem parse_any (s : List UInt8) (w : World) (hs : s.length ≤ 1048576) :
    Calls Tryz.prog 44 #[.string ⟨s.toArray⟩] w fun e w' => ∃ p h, e = .returned (.tuple #[uriV (parseV s).1 p h, .int .i64 (parseV s).2]) ∧ OwnP w' w.heap.size p (parseV s).1.params ∧ OwnP w' w.heap.size h (parseV s).1.headers ∧ Below w.heap.size w w' := by
  have hcl := cutL_len 58 s
  obtain ⟨ca, cb, cc, hcut⟩ : ∃ ca cb cc, cutL 58 s = (ca, cb, cc) := ⟨_, _, _, rfl⟩
  obtain ⟨us, rs, ue, hus⟩ : ∃ us rs ue, userV cb = (us, rs, ue) := ⟨_, _, _, rfl⟩
  have hv := parseV_of hcut hus
  rw [hcut] at hcl
  simp only at hcl
  have hul := user_small cb
  have hrl := user_rest cb
  rw [hus] at hul hrl
  simp only at hul hrl
  have hr0 := rowU_new w
  have hb0 : Below w.heap.size w (w.alloc (.cells #[.string ⟨#[]⟩, .string ⟨#[]⟩, .string ⟨#[]⟩, .int .i64 0, .slice none 0 0, .slice none 0 0] 37)) := (Below.refl _ w).alloc (Nat.le_refl _) _
  have hlt0 : w.heap.size < (w.alloc (.cells #[.string ⟨#[]⟩, .string ⟨#[]⟩, .string ⟨#[]⟩, .int .i64 0, .slice none 0 0, .slice none 0 0] 37)).heap.size := by simp
  have HKC : Hid _ := fun w' => strCut_of hcut w' (by omega)
  have HKU : Hid _ := fun w' => cutUser_of hus w' (by omega)
  clear hcut hus
  have HV : Hid _ := hv; clear hv
  have hll : (lowL ca).length ≤ 1048576 := by rw [lowL_len]; omega
  go_enter Tryz.func44, Tryz.ntmps44
  go_wp2_with fail
  refine (HKC.out _).mono ?_
  rintro e w1 ⟨rfl, hw1⟩
  have hr1 := hr0.below hw1 hlt0
  have hb1 := hb0.trans (hw1.mono hb0.size)
  have hlt1 := Nat.lt_of_lt_of_le hlt0 hw1.size
  clear hr0 hb0 hlt0 hw1 HKC
  go_wp2_with fail
  refine (lower_list ca _ (by omega)).mono ?_
  rintro e w2 ⟨rfl, hw2⟩
  have hr2 := hr1.below hw2 hlt1
  have hb2 := hb1.trans (hw2.mono hb1.size)
  have hlt2 := Nat.lt_of_lt_of_le hlt1 hw2.size
  clear hr1 hb1 hlt1 hw2
  obtain ⟨c0, c1, c2, c3, c4, c5, f0, f1, f2, f3, f4, f5⟩ := hr2.six
  cases cc with
  | false =>
    have hvv : Hid (parseV s = (noU, 30)) := show _ = _ by rw [HV.out, if_pos (Or.inl rfl)]
    clear HV HKU
    go_wp2
    have hr7 := row_store hr2 (.string ⟨#[]⟩) (.string ⟨#[]⟩) (.string ⟨#[]⟩) (.int .i64 0) (.slice none 0 0) (.slice none 0 0)
    have hb7 := store_below hb2 w.heap.size (Nat.le_refl _) (.string ⟨#[]⟩) (.string ⟨#[]⟩) (.string ⟨#[]⟩) (.int .i64 0) (.slice none 0 0) (.slice none 0 0)
    generalize World.setCell _ _ _ = w7 at hr7 hb7 ⊢
    obtain ⟨d0, d1, d2, d3, d4, d5, _, _, _, _, _, _⟩ := hr7.six
    try simp only [Exit.inBlock, Exit.then]
    refine bodyPost_ret (v := .tuple #[.agg #[.string ⟨#[]⟩, .string ⟨#[]⟩, .string ⟨#[]⟩, .int .i64 0, .slice none 0 0, .slice none 0 0], .int .i64 30]) (by simp [results, Tryz.results44, go_sem, d0, d1, d2, d3, d4, d5]; try rfl) rfl ?_
    exact ⟨.slice none 0 0, .slice none 0 0, by rw [hvv.out]; rfl, by rw [hvv.out]; exact OwnP.nil _ _, by rw [hvv.out]; exact OwnP.nil _ _, hb7⟩
  | true =>
    cases hsc : schemeB (lowL ca) with
    | false =>
      have hvv : Hid (parseV s = (noU, 30)) := show _ = _ by rw [HV.out, if_pos (Or.inr hsc)]
      clear HV HKU
      go_wp2_with (go_at_call 72; refine (scheme_list _ _).mono ?_; rintro e w' ⟨rfl, rfl⟩; rw [hsc])
      have hr7 := row_store hr2 (.string ⟨#[]⟩) (.string ⟨#[]⟩) (.string ⟨#[]⟩) (.int .i64 0) (.slice none 0 0) (.slice none 0 0)
      have hb7 := store_below hb2 w.heap.size (Nat.le_refl _) (.string ⟨#[]⟩) (.string ⟨#[]⟩) (.string ⟨#[]⟩) (.int .i64 0) (.slice none 0 0) (.slice none 0 0)
      generalize World.setCell _ _ _ = w7 at hr7 hb7 ⊢
      obtain ⟨d0, d1, d2, d3, d4, d5, _, _, _, _, _, _⟩ := hr7.six
      try simp only [Exit.inBlock, Exit.then]
      refine bodyPost_ret (v := .tuple #[.agg #[.string ⟨#[]⟩, .string ⟨#[]⟩, .string ⟨#[]⟩, .int .i64 0, .slice none 0 0, .slice none 0 0], .int .i64 30]) (by simp [results, Tryz.results44, go_sem, d0, d1, d2, d3, d4, d5]; try rfl) rfl ?_
      exact ⟨.slice none 0 0, .slice none 0 0, by rw [hvv.out]; rfl, by rw [hvv.out]; exact OwnP.nil _ _, by rw [hvv.out]; exact OwnP.nil _ _, hb7⟩
    | true =>
      rw [if_neg (by simp [hsc])] at HV
      go_wp2_with (first
        | (go_at_call 72; refine (scheme_list _ _).mono ?_; rintro e w' ⟨rfl, rfl⟩; rw [hsc])
        | (go_at_call 86; fail))
      refine (HKU.out _).mono ?_
      rintro e w3 ⟨rfl, hw3⟩
      have hr3 := hr2.below hw3 hlt2
      have hb3 := hb2.trans (hw3.mono hb2.size)
      have hlt3 := Nat.lt_of_lt_of_le hlt2 hw3.size
      clear hr2 hb2 hlt2 hw3 HKU c0 c1 c2 c3 c4 c5 f0 f1 f2 f3 f4 f5
      obtain ⟨c0, c1, c2, c3, c4, c5, f0, f1, f2, f3, f4, f5⟩ := hr3.six
      by_cases hue : ue = 0
      · subst hue
        rw [if_neg (by simp)] at HV
        have hrs : rs.length ≤ 1048576 := by omega
        obtain ⟨sm1, sm2, sm3⟩ := rest_small hrs
        obtain ⟨u, re, hre⟩ : ∃ u re, restV rs = (u, re) := ⟨_, _, rfl⟩
        rw [hre] at HV sm1 sm2 sm3
        simp only at sm1 sm2 sm3
        obtain ⟨u0, u1, u2, u3, u4, u5⟩ := u
        simp only at sm1 sm2 sm3
        have HKR : Hid _ := fun w' => readRest_of hre w' hrs
        clear hre
        go_wp2_with fail
        refine (HKR.out _).mono ?_
        rintro e w4 ⟨p, h, rfl, hop, hoh, hw4⟩
        obtain ⟨a1, k1, rfl⟩ := hop.parsAt.form
        obtain ⟨a2, k2, rfl⟩ := hoh.parsAt.form
        unfold uriV
        simp only
        have hr4 := hr3.below hw4 hlt3
        have hb4 := hb3.trans (hw4.mono hb3.size)
        have hlt4 := Nat.lt_of_lt_of_le hlt3 hw4.size
        have ho1 : Hid (OwnP w4 (w.heap.size + 1) (.slice a1 u4.length k1) u4) := OwnP.mono hop (by omega)
        have ho2 : Hid (OwnP w4 (w.heap.size + 1) (.slice a2 u5.length k2) u5) := OwnP.mono hoh (by omega)
        clear hr3 hb3 hlt3 hw4 HKR c0 c1 c2 c3 c4 c5 f0 f1 f2 f3 f4 f5 hop hoh
        obtain ⟨c0, c1, c2, c3, c4, c5, f0, f1, f2, f3, f4, f5⟩ := hr4.six
        by_cases hre : re = 0
        · subst hre
          obtain ⟨u', hu'⟩ : ∃ u' : Uri, u' = ⟨lowL ca, us, u2, u3, u4, u5⟩ := ⟨_, rfl⟩
          have HV2 : Hid (parseV s = endV u') := show _ = _ by rw [HV.out, bothV, if_neg (by simp), hu']
          have hsm : SmallU 140737488355328 u' := by rw [hu']; exact ⟨by show (lowL ca).length ≤ _; omega, by show us.length ≤ _; omega, by show u2.length ≤ _; omega, sm2, sm3⟩
          have e4 : u'.params = u4 := by rw [hu']
          have e5 : u'.headers = u5 := by rw [hu']
          have hbox := box_new w4 u' (.slice a1 u4.length k1) (.slice a2 u5.length k2)
          have hp4 := ho1.out.parsAt
          have hh4 := ho2.out.parsAt
          rw [← e4] at hp4
          rw [← e5] at hh4
          have HCK : Hid _ := fun w' hb => check_any u' (.slice a1 u'.params.length k1) (.slice a2 u'.headers.length k2) w' hsm (hp4.below hb) (hh4.below hb)
          rw [e4, e5] at HCK
          unfold uriV at HCK
          rw [hu'] at hbox
          have hv' : Hid (∀ c, checkV u' = c → parseV s = if c ≠ 0 then (noU, c) else (⟨lowL ca, us, u2, u3, u4, u5⟩, 0)) := fun c hc => by rw [HV2.out, endV, hc, hu']
          obtain ⟨ck, hck⟩ : ∃ ck, checkV u' = ck := ⟨_, rfl⟩
          have hvc := hv'.out ck hck
          rw [hck, hu'] at HCK
          simp only at HCK
          have HVC : Hid _ := hvc
          clear hvc hv' HV HV2 hp4 hh4 e4 e5 hsm hck hu' u'
          go_wp2_with fail
          have hbA : Below w4.heap.size w4 (w4.alloc (.cells #[.string ⟨(lowL ca).toArray⟩, .string ⟨us.toArray⟩, .string ⟨u2.toArray⟩, .int .i64 u3, .slice a1 u4.length k1, .slice a2 u5.length k2] 37)) := (Below.refl _ w4).alloc (Nat.le_refl _) _
          refine (HCK.out _ hbA).mono ?_
          rintro e w5 ⟨rfl, hw5⟩
          have hbx : w4.heap.size < (w4.alloc (.cells #[.string ⟨(lowL ca).toArray⟩, .string ⟨us.toArray⟩, .string ⟨u2.toArray⟩, .int .i64 u3, .slice a1 u4.length k1, .slice a2 u5.length k2] 37)).heap.size := by simp
          obtain ⟨g0, g1, g2, g3, g4, g5⟩ := hbox.below hw5 hbx
          simp only at g0 g1 g2 g3 g4 g5
          have hb45 : Below w4.heap.size w4 w5 := hbA.trans (hw5.mono hbA.size)
          have hr5 := hr4.below hb45 hlt4
          have hb5 := hb4.trans (hb45.mono hb4.size)
          have p5 : Hid (OwnP w5 (w.heap.size + 1) (.slice a1 u4.length k1) u4) := ho1.out.below hb45
          have q5 : Hid (OwnP w5 (w.heap.size + 1) (.slice a2 u5.length k2) u5) := ho2.out.below hb45
          clear hw5 hb45 hbA hbx hbox HCK hr4 ho1 ho2 c0 c1 c2 c3 c4 c5 f0 f1 f2 f3 f4 f5
          obtain ⟨c0, c1, c2, c3, c4, c5, f0, f1, f2, f3, f4, f5⟩ := hr5.six
          by_cases hck : ck = 0
          · subst hck
            have hvv : Hid (parseV s = (⟨lowL ca, us, u2, u3, u4, u5⟩, 0)) := show _ = _ by rw [HVC.out, if_neg (by simp)]
            clear HVC
            go_wp2
            have hr7 := row_store hr5 (.string ⟨(lowL ca).toArray⟩) (.string ⟨us.toArray⟩) (.string ⟨u2.toArray⟩) (.int .i64 u3) (.slice a1 u4.length k1) (.slice a2 u5.length k2)
            have hb7 := store_below hb5 w.heap.size (Nat.le_refl _) (.string ⟨(lowL ca).toArray⟩) (.string ⟨us.toArray⟩) (.string ⟨u2.toArray⟩) (.int .i64 u3) (.slice a1 u4.length k1) (.slice a2 u5.length k2)
            have p7 := (OwnP.store p5.out (Nat.lt_succ_self _) (.string ⟨(lowL ca).toArray⟩) (.string ⟨us.toArray⟩) (.string ⟨u2.toArray⟩) (.int .i64 u3) (.slice a1 u4.length k1) (.slice a2 u5.length k2)).mono (Nat.le_succ w.heap.size)
            have q7 := (OwnP.store q5.out (Nat.lt_succ_self _) (.string ⟨(lowL ca).toArray⟩) (.string ⟨us.toArray⟩) (.string ⟨u2.toArray⟩) (.int .i64 u3) (.slice a1 u4.length k1) (.slice a2 u5.length k2)).mono (Nat.le_succ w.heap.size)
            generalize World.setCell _ _ _ = w7 at hr7 hb7 p7 q7 ⊢
            obtain ⟨d0, d1, d2, d3, d4, d5, _, _, _, _, _, _⟩ := hr7.six
            try simp only [Exit.inBlock, Exit.then]
            refine bodyPost_ret (v := .tuple #[.agg #[.string ⟨(lowL ca).toArray⟩, .string ⟨us.toArray⟩, .string ⟨u2.toArray⟩, .int .i64 u3, .slice a1 u4.length k1, .slice a2 u5.length k2], .int .i64 0]) (by simp [results, Tryz.results44, go_sem, d0, d1, d2, d3, d4, d5]; try rfl) rfl ?_
            exact ⟨_, _, by rw [hvv.out]; rfl, by rw [hvv.out]; exact p7, by rw [hvv.out]; exact q7, hb7⟩
          · have hue1 : (ck != 0) = true := by simpa using hck
            have hue2 : (ck == 0) = false := by simpa using hck
            have hvv : Hid (parseV s = (noU, ck)) := show _ = _ by rw [HVC.out, if_pos hck]
            clear HVC
            go_wp2
            have hr7 := row_store hr5 (.string ⟨#[]⟩) (.string ⟨#[]⟩) (.string ⟨#[]⟩) (.int .i64 0) (.slice none 0 0) (.slice none 0 0)
            have hb7 := store_below hb5 w.heap.size (Nat.le_refl _) (.string ⟨#[]⟩) (.string ⟨#[]⟩) (.string ⟨#[]⟩) (.int .i64 0) (.slice none 0 0) (.slice none 0 0)
            generalize World.setCell _ _ _ = w7 at hr7 hb7 ⊢
            obtain ⟨d0, d1, d2, d3, d4, d5, _, _, _, _, _, _⟩ := hr7.six
            try simp only [Exit.inBlock, Exit.then]
            refine bodyPost_ret (v := .tuple #[.agg #[.string ⟨#[]⟩, .string ⟨#[]⟩, .string ⟨#[]⟩, .int .i64 0, .slice none 0 0, .slice none 0 0], .int .i64 ck]) (by simp [results, Tryz.results44, go_sem, d0, d1, d2, d3, d4, d5]; try rfl) rfl ?_
            exact ⟨.slice none 0 0, .slice none 0 0, by rw [hvv.out]; rfl, by rw [hvv.out]; exact OwnP.nil _ _, by rw [hvv.out]; exact OwnP.nil _ _, hb7⟩
        · have hue1 : (re != 0) = true := by simpa using hre
          have hue2 : (re == 0) = false := by simpa using hre
          have hvv : Hid (parseV s = (noU, re)) := show _ = _ by rw [HV.out, bothV, if_pos hre]
          clear HV
          go_wp2
          have hr7 := (row_store hr4 (.string ⟨#[]⟩) (.string ⟨#[]⟩) (.string ⟨#[]⟩) (.int .i64 0) (.slice none 0 0) (.slice none 0 0)).alloc (.cells #[.string ⟨u0.toArray⟩, .string ⟨u1.toArray⟩, .string ⟨u2.toArray⟩, .int .i64 u3, .slice a1 u4.length k1, .slice a2 u5.length k2] 37)
          have hb6 := store_below hb4 w.heap.size (Nat.le_refl _) (.string ⟨#[]⟩) (.string ⟨#[]⟩) (.string ⟨#[]⟩) (.int .i64 0) (.slice none 0 0) (.slice none 0 0)
          have hb7 := hb6.alloc hb6.size (.cells #[.string ⟨u0.toArray⟩, .string ⟨u1.toArray⟩, .string ⟨u2.toArray⟩, .int .i64 u3, .slice a1 u4.length k1, .slice a2 u5.length k2] 37)
          clear hb6
          generalize World.alloc _ _ = w7 at hr7 hb7 ⊢
          obtain ⟨d0, d1, d2, d3, d4, d5, _, _, _, _, _, _⟩ := hr7.six
          try simp only [Exit.inBlock, Exit.then]
          refine bodyPost_ret (v := .tuple #[.agg #[.string ⟨#[]⟩, .string ⟨#[]⟩, .string ⟨#[]⟩, .int .i64 0, .slice none 0 0, .slice none 0 0], .int .i64 re]) (by simp [results, Tryz.results44, go_sem, d0, d1, d2, d3, d4, d5]; try rfl) rfl ?_
          exact ⟨.slice none 0 0, .slice none 0 0, by rw [hvv.out]; rfl, by rw [hvv.out]; exact OwnP.nil _ _, by rw [hvv.out]; exact OwnP.nil _ _, hb7⟩
      · have hue1 : (ue != 0) = true := by simpa using hue
        have hue2 : (ue == 0) = false := by simpa using hue
        have hvv : Hid (parseV s = (noU, ue)) := show _ = _ by rw [HV.out, if_pos hue]
        clear HV
        go_wp2
        have hr7 := row_store hr3 (.string ⟨#[]⟩) (.string ⟨#[]⟩) (.string ⟨#[]⟩) (.int .i64 0) (.slice none 0 0) (.slice none 0 0)
        have hb7 := store_below hb3 w.heap.size (Nat.le_refl _) (.string ⟨#[]⟩) (.string ⟨#[]⟩) (.string ⟨#[]⟩) (.int .i64 0) (.slice none 0 0) (.slice none 0 0)
        generalize World.setCell _ _ _ = w7 at hr7 hb7 ⊢
        obtain ⟨d0, d1, d2, d3, d4, d5, _, _, _, _, _, _⟩ := hr7.six
        try simp only [Exit.inBlock, Exit.then]
        refine bodyPost_ret (v := .tuple #[.agg #[.string ⟨#[]⟩, .string ⟨#[]⟩, .string ⟨#[]⟩, .int .i64 0, .slice none 0 0, .slice none 0 0], .int .i64 ue]) (by simp [results, Tryz.results44, go_sem, d0, d1, d2, d3, d4, d5]; try rfl) rfl ?_
        exact ⟨.slice none 0 0, .slice none 0 0, by rw [hvv.out]; rfl, by rw [hvv.out]; exact OwnP.nil _ _, by rw [hvv.out]; exact OwnP.nil _ _, hb7⟩

end Go.Proofs.YtgboekilhldejaaGreatDoor
