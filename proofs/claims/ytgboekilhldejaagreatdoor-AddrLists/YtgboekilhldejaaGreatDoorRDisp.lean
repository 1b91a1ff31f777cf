/-
  The contract of the document's own display.
-/
import Derived.Test.YtgboekilhldejaaGreatDoorROpen
namespace Go.Proofs.YtgboekilhldejaaGreatDoor
open Go.RowKit Sc
set_option linter.unusedVariables false
set_option maxRecDepth 20000

theorem okD_split (b : UInt8) : okD b = (blk b || tokc b) := rfl
theorem disp_bad {s : List UInt8} {k : Nat} {b : UInt8} (h : s.drop k = b :: s.drop (k + 1)) (hb : blk b = false) (ht : tokc b = false) : s.all okD = false := by
  rw [List.all_eq_false]
  refine ⟨b, List.mem_of_mem_drop (by rw [h]; simp), by rw [okD_split, hb, ht]; simp⟩
theorem strs_snoc (ws : List (List UInt8)) (x : List UInt8) : strs (ws ++ [x]) = strs ws ++ [.string ⟨x.toArray⟩] := by simp [strs]
/-- Glue of any texts. -/
theorem glue_all (B1 : Nat) (v1 : Value) (ps : List (List UInt8)) (w : World) (h1 : Own w B1 9 v1 (strs ps)) (hl : ps.length ≤ 2000000) (hj : (joinB ps).length ≤ 1048576) :
    Calls Tryz.prog 89 #[v1, .string ⟨#[32]⟩] w fun e w' => e = .returned (.string ⟨(joinB ps).toArray⟩) ∧ Below w.heap.size w w' := by
  by_cases hne : ps = []
  · subst hne
    obtain ⟨a, c, rfl⟩ := h1.form
    exact glue_nil _ a c w
  · have e : glueK (⟨#[32]⟩ : ByteArray).data.toList ps ps.length = joinB ps := by
      have := glue_join ps ps.length (Nat.le_refl _)
      rw [List.take_length] at this
      exact this
    have k := glue_any B1 v1 ps ⟨#[32]⟩ w h1 hne (by omega) (by rw [e]; omega)
    rw [e] at k
    exact k

set_option maxHeartbeats 2000000 in
set_option maxRecDepth 100000 in
theorem rdisplay_any (l : List UInt8) (w : World) (hl : l.length ≤ 1048576) :
    Calls Tryz.prog 48 #[.string ⟨l.toArray⟩] w fun e w' => (∃ t b, e = .returned (.tuple #[.string ⟨t.toArray⟩, .bool b]) ∧ DispRes (displayV l) t b) ∧ Below w.heap.size w w' := by
  obtain ⟨i0, hi, hz0, hz1, hz2⟩ := info_parts info9
  have htl := trimL_len l
  have KT := hid (fun w' => reftrim_list l w' (by omega))
  have hq0 := head_quo (trimL l)
  have hdv : displayV l = if quoB (trimL l) = true then (if (unquoteV (trimL l)).2 = 0 then some (unquoteV (trimL l)).1 else none) else if (trimL l).all okD = true then some (joinB (wordsG [] (trimL l))) else none := rfl
  obtain ⟨sb, hsb⟩ : ∃ sb : ByteArray, sb = ⟨(trimL l).toArray⟩ := ⟨_, rfl⟩
  have hsl : trimL l = sb.data.toList := by rw [hsb]
  rw [← hsb] at KT hq0
  rw [hsl] at hdv hq0 htl
  have hsz := len_data sb
  rw [hsz] at htl
  have KU := hid (fun w' => refunquote_any sb w' (by omega))
  generalize displayV l = D at hdv ⊢
  have HD := hid hdv
  clear hdv hsl hsb hsz
  go_enter Tryz.func48, Tryz.ntmps48
  go_wp2_with fail
  refine (KT.out _).mono ?_
  rintro e w ⟨rfl, rfl⟩
  clear KT
  have hqcase : quoB sb.data.toList = true → Hid (∃ h : 0 < sb.size, (((sb[0]'h).toNat : Int) == 34) = true) := fun h => by
    rcases hq0 with ⟨_, h2⟩ | ⟨h1, h2⟩
    · rw [h] at h2; cases h2
    · exact ⟨h1, by rw [h2, h]⟩
  cases hqb : quoB sb.data.toList with
  | true =>
    obtain ⟨hpos, e34⟩ := (hqcase hqb).out
    rw [hqb, if_pos rfl] at HD
    clear hq0 hqcase hqb
    generalize unquoteV sb.data.toList = u at KU HD
    obtain ⟨ut, un⟩ := u
    simp only at KU HD
    have hres : Hid (DispRes D ut (un == 0)) := by
      show DispRes _ _ _
      rw [HD.out]
      by_cases h : un = 0
      · rw [if_pos h, h]; exact ⟨rfl, rfl⟩
      · rw [if_neg h]; show (un == 0) = false; simpa using h
    go_wp2_with fail
    refine (KU.out _).mono ?_
    rintro e w2 ⟨rfl, hw2⟩
    go_wp2
    go_ret2
    exact ⟨⟨_, _, rfl, hres.out⟩, hw2⟩
  | false =>
    rw [hqb, if_neg (by simp)] at HD
    have hfin : Hid (∀ ws cur, wordsG [] sb.data.toList = ws ++ wordsG cur [] → sb.data.toList.all okD = true → DispRes D (joinB (ws ++ wordsG cur [])) true) := fun ws cur h1 h2 => by
      rw [HD.out, if_pos h2, h1]; exact ⟨rfl, rfl⟩
    have hbadr : Hid (sb.data.toList.all okD = false → DispRes D [] false) := fun h => by
      rw [HD.out, if_neg (by rw [h]; simp)]; rfl
    have hjl : Hid ((joinB (wordsG [] sb.data.toList)).length ≤ 1048576) := by
      have := words_len sb.data.toList []
      have h2 := len_data sb
      show _ ≤ _; simp at this; omega
    rcases hq0 with ⟨hz, _⟩ | ⟨hpos, e34⟩
    all_goals (
      try rw [hqb] at e34
      clear hqcase hqb KU HD
      go_wp2
      go_loopw [6, 7, 8] (fun x y i wr => ∃ (k : Nat) (ws : List (List UInt8)) (cur : List UInt8), k ≤ sb.size ∧ i = .int .i64 k ∧ y = .string ⟨cur.toArray⟩ ∧ Hid (wordsG [] sb.data.toList = ws ++ wordsG cur (sb.data.toList.drop k)) ∧ Hid ((sb.data.toList.take k).all okD = true) ∧ ws.length ≤ k ∧ cur.length ≤ k ∧ Hid (Own wr w.heap.size 9 x (strs ws)) ∧ Below w.heap.size w wr) (fun _ _ i _ => sb.size - (intOf i).toNat)
      case atStart => exact ⟨0, [], [], by omega, rfl, rfl, hid (by simp), hid (by simp), by simp, by simp, Own.nil _ _ _, Below.refl _ _⟩
      case round =>
        obtain ⟨k, ws, cur, hk, rfl, rfl, hw, hal, hwl, hcl, hown, hb⟩ := hrel
        have hB := hb.size
        by_cases hlt : k < sb.size
        · first | (exfalso; omega) | (
          have hd := hid (drop_cons sb k hlt)
          have hts := hid (take_snoc sb k hlt)
          have hbd := u8_bd sb[k]
          have KC := hid (fun w' => refclass_any sb[k].toNat w' hbd.1 hbd.2)
          cases hbk : blk sb[k] with
          | true =>
            have e32 : (cls sb[k].toNat == 32) = true := by rw [← blk_cls, hbk]
            have hal2 : Hid ((sb.data.toList.take (k + 1)).all okD = true) := show _ = _ by rw [hts.out, List.all_append, hal.out]; simp [okD, hbk]
            cases hce : cur.isEmpty with
            | true =>
              have hc0 : cur = [] := by simpa using hce
              subst hc0
              have hw2 : Hid (wordsG [] sb.data.toList = ws ++ wordsG [] (sb.data.toList.drop (k + 1))) := show _ = _ by rw [hw.out, hd.out, words_blank1 hbk]
              clear hw hal hbk hd hts
              go_wp2_with fail
              refine (KC.out _).mono ?_
              rintro e wr ⟨rfl, rfl⟩
              go_wp2
              go_roundw
              case rel => exact ⟨k + 1, ws, [], by omega, by go_num, rfl, hw2, hal2, by omega, by simp, hown, hb⟩
              case measure => simp [intOf]; omega
            | false =>
              have hcn : cur ≠ [] := by intro h; rw [h] at hce; cases hce
              have hw2 : Hid (wordsG [] sb.data.toList = (ws ++ [cur]) ++ wordsG [] (sb.data.toList.drop (k + 1))) := show _ = _ by rw [hw.out, hd.out, words_blank2 hbk hcn]; simp
              clear hw hal hbk hd hts hcn
              go_wp2_with fail
              refine (KC.out _).mono ?_
              rintro e wr ⟨rfl, rfl⟩
              go_wp2_with (at_builtin; refine wp_app _ rfl (.tmp 40) (.tmp 42) 22 rfl w.heap.size 9 i0 (.string .empty) 16 Tryz.underlying22 hi hz0 hz1 hz2 rfl _ _ rfl (hown.out.alloc _) ⟨_, 0, none⟩ 1 1 [.string ⟨cur.toArray⟩] rfl rfl (by exact one_new _ _ _) (by intro u hu; simp at hu; subst hu; rfl) (by rw [strs_length]; unfold maxLen; omega) (by rw [strs_length]; omega) w (hb.alloc hB _) (by simp; omega) ?_; intro v5 w5 hown5 hb5 hB5)
              rw [← strs_snoc] at hown5
              have HO5 := hid hown5
              clear hown5
              go_wp2
              go_roundw
              case rel => exact ⟨k + 1, ws ++ [cur], [], by omega, by go_num, rfl, hw2, hal2, by simp; omega, by simp, HO5, hb5⟩
              case measure => simp [intOf]; omega
          | false =>
            have e32 : (cls sb[k].toNat == 32) = false := by rw [← blk_cls, hbk]
            cases htk : tokc sb[k] with
            | false =>
              have hz8 : (bits BinOp.and IntKind.i64 (cls sb[k].toNat) 8 == 0) = true := by simpa [tokc, isB] using htk
              have hres := hid (hbadr.out (disp_bad hd.out hbk htk))
              clear hw hal hbk hd hts htk
              go_wp2_with (go_at_call 58; refine (KC.out _).mono ?_; rintro e _ ⟨rfl, rfl⟩)
              go_ret2
              exact ⟨⟨[], false, rfl, hres.out⟩, hb⟩
            | true =>
              have hz8 : (bits BinOp.and IntKind.i64 (cls sb[k].toNat) 8 == 0) = false := by simpa [tokc, isB] using htk
              have hal2 : Hid ((sb.data.toList.take (k + 1)).all okD = true) := show _ = _ by rw [hts.out, List.all_append, hal.out]; simp [okD, htk]
              have hw2 : Hid (wordsG [] sb.data.toList = ws ++ wordsG (cur ++ [sb[k]]) (sb.data.toList.drop (k + 1))) := show _ = _ by rw [hw.out, hd.out, words_sign hbk]
              have hex : Hid ((⟨cur.toArray⟩ : ByteArray) ++ sb.extract k (k + 1) = ⟨(cur ++ [sb[k]]).toArray⟩) := show _ = _ by
                rw [ext_list, hd.out, show k + 1 - k = 1 by omega, ByteArray.mk_append_mk]; rfl
              clear hw hal hbk hd hts htk
              go_wp2_with (go_at_call 58; refine (KC.out _).mono ?_; rintro e _ ⟨rfl, rfl⟩)
              go_roundw
              case rel => exact ⟨k + 1, ws, cur ++ [sb[k]], by omega, by go_num, by rw [← hex.out], hw2, hal2, by omega, by simp; omega, hown, hb⟩
              case measure => simp [intOf]; omega)
        · have hdn : sb.data.toList.drop k = [] := drop_all sb k (by omega)
          have htn : sb.data.toList.take k = sb.data.toList := take_all sb k (by omega)
          have hw2 := hw.out
          rw [hdn] at hw2
          have hal2 := hal.out
          rw [htn] at hal2
          have hres := hid (hfin.out ws cur hw2 hal2)
          have hjl2 := hjl.out
          rw [hw2] at hjl2
          clear hw hal hdn htn hw2 hal2
          cases hce : cur.isEmpty with
          | true =>
            have hc0 : cur = [] := by simpa using hce
            subst hc0
            rw [show ws ++ wordsG [] [] = ws by simp [wordsG]] at hres hjl2
            have KG := hid (fun v w' (h : Own w' w.heap.size 9 v (strs ws)) => glue_all w.heap.size v ws w' h (by omega) hjl2)
            go_wp2_with fail
            refine (KG.out _ _ hown.out).mono ?_
            rintro e w3 ⟨rfl, hw3⟩
            go_wp2
            go_ret2
            exact ⟨⟨_, _, rfl, hres.out⟩, hb.trans (hw3.mono hB)⟩
          | false =>
            have hcn : cur ≠ [] := by intro h; rw [h] at hce; cases hce
            rw [show ws ++ wordsG cur [] = ws ++ [cur] by simp [wordsG, hcn]] at hres hjl2
            have KG := hid (fun v w' (h : Own w' w.heap.size 9 v (strs (ws ++ [cur]))) => glue_all w.heap.size v (ws ++ [cur]) w' h (by simp; omega) hjl2)
            go_wp2_with (at_builtin; refine wp_app _ rfl (.tmp 59) (.tmp 61) 22 rfl w.heap.size 9 i0 (.string .empty) 16 Tryz.underlying22 hi hz0 hz1 hz2 rfl _ _ rfl (hown.out.alloc _) ⟨_, 0, none⟩ 1 1 [.string ⟨cur.toArray⟩] rfl rfl (by exact one_new _ _ _) (by intro u hu; simp at hu; subst hu; rfl) (by rw [strs_length]; unfold maxLen; omega) (by rw [strs_length]; omega) w (hb.alloc hB _) (by simp; omega) ?_; intro v5 w5 hown5 hb5 hB5)
            rw [← strs_snoc] at hown5
            have HO5 := hid hown5
            clear hown5
            go_wp2_with fail
            refine (KG.out _ _ HO5.out).mono ?_
            rintro e w3 ⟨rfl, hw3⟩
            go_wp2
            go_ret2
            exact ⟨⟨_, _, rfl, hres.out⟩, hb5.trans (hw3.mono hB5)⟩)

end Go.Proofs.YtgboekilhldejaaGreatDoor
