/-
  The contracts of the document's own Texts and Parts.
-/
import Derived.Test.YtbckenknkgkadabParts
import Derived.Test.YtbckenknkgkadabUnquote
import Derived.Deep.QuietTactic
import Derived.BigQuiet
namespace Go.Proofs.Ytbckenknkgkadab
open Go.RowKit Sc
set_option linter.unusedVariables false

theorem own_ne {w : World} {B1 B2 e1 e2 : Nat} {v1 v2 : Value} {x1 x2 : List Value} (h1 : Own w B1 e1 v1 x1) (h2 : Own w B2 e2 v2 x2) (hne : e2 ≠ e1) : v2.ownBlock = none ∨ v2.ownBlock ≠ v1.ownBlock := by
  rcases h2.2 with ⟨rfl, _⟩ | ⟨g2, c2, u2, rfl, _, hg2, _⟩
  · exact Or.inl rfl
  · right
    rcases h1.2 with ⟨rfl, _⟩ | ⟨g1, c1, u1, rfl, _, hg1, _⟩
    · simp [Value.ownBlock]
    · simp only [Value.ownBlock]
      intro e
      injection e with e
      rw [e, hg1] at hg2
      injection hg2 with hg2
      injection hg2 with _ hg2
      exact hne hg2.symm

/-- append, where another row of another type is owned, too. -/
theorem wp_app2 {P : Program} (w : World) {ops : Array Oper} {rest : List Oper} {o : Oper} {a : Act} {Q : Exit → Act → World → Prop} (hgd : o.guard = none)
    (s x : Operand) (t : TypeId) (ho : o.op = Op.call { callee := Callee.builtin Builtin.append, args := #[s, x], argTypes := #[t, t] }) (B : Nat) (e : TypeId) (i : TypeInfo)
    (z : Value) (bytes : Nat) (ht : P.underlying t = some (TypeDesc.slice e)) (hi : P.info? e = some i) (hz : i.zero = some z) (hsize : i.size = 1) (hby : i.bytes = bytes) (hzs : z.cells.size = 1)
    (v : Value) (xs : List Value) (hs : a.eval s = v) (hown : Own w B e v xs) {e2 : TypeId} {v2 : Value} {xs2 : List Value} (hown2 : Own w B e2 v2 xs2) (hne : e2 ≠ e)
    (ad : Addr) (m : Nat) (c : Nat) (news : List Value) (hx : a.eval x = Value.slice (some ad) m c) (hl : news.length = m)
    (hnews : ∀ (j : Nat) (u : Value), news[j]? = some u → w.cell? (ad.add j) = some u) (h1 : ∀ u ∈ news, u.oneCell' = true)
    (h63 : xs.length + m ≤ maxLen) (hbytes : (xs.length + m) * bytes ≤ 140737488355328) (w0 : World) (hb : Below B w0 w) (hB : B ≤ w.heap.size)
    (h : ∀ (v' : Value) (w' : World), Own w' B e v' (xs ++ news) → Own w' B e2 v2 xs2 → Below B w0 w' → B ≤ w'.heap.size → wpList P ops Q rest (a.put o.dst v') w') : wpList P ops Q (o :: rest) a w := by
  refine wpList_append_own w hgd s x t ho B e i z 1 bytes ht hi hz hsize hby hzs (by decide) v xs.length xs hs hown ad m c news hx (by simpa using hl) hnews h1 h63 hbytes hB ?_
  intro v' w' hown' hgr _
  refine h v' w' ?_ (World.ownsRow.kept hown2 hgr (own_ne hown hown2 hne)) (hb.grown hgr hB (fun k hk => (World.ownsRow.lt hown k hk).1)) (Nat.le_trans hB hgr.size)
  unfold Own
  rw [List.length_append, hl]
  exact hown'

theorem partsG_c {sep : Int} {p p' : Pl} {fr : Bool} {cur : List UInt8} {b : UInt8} {r : List UInt8} (h : pst p b.toNat = (p', fr)) (hn : ¬ (fr = true ∧ (b.toNat : Int) = sep)) :
    partsG sep p cur (b :: r) = partsG sep p' (cur ++ [b]) r := by
  rw [partsG, h, if_neg hn]
theorem partsG_s {sep : Int} {p p' : Pl} {cur : List UInt8} {b : UInt8} {r : List UInt8} (h : pst p b.toNat = (p', true)) (hn : (b.toNat : Int) = sep) :
    partsG sep p cur (b :: r) = cur :: partsG sep p' [] r := by
  rw [partsG, h, if_pos ⟨rfl, hn⟩]

set_option maxRecDepth 100000 in
set_option maxHeartbeats 4000000 in
theorem refparts_any (s : ByteArray) (sep : Int) (w : World) (hs : (s.size + 1) * 16 ≤ 140737488355328) :
    Calls Try.prog 9 #[.string s, .int .u8 sep] w fun e w' => ∃ v, e = .returned v ∧ Own w' w.heap.size 9 v (strs (partsV sep s.data.toList)) ∧ Below w.heap.size w w' := by
  obtain ⟨i0, hi, hz0, hz1, hz2⟩ := info_parts info5
  obtain ⟨j0, ki, kz0, kz1, kz2⟩ := info_parts info9
  go_enter Try.func9, Try.ntmps9
  go_wp2
  go_loopw [5, 6, 7, 8, 9] (fun out vb sq sa i wr => ∃ (k : Nat) (ps : List (List UInt8)) (cur : List UInt8) (q a : Bool), k ≤ s.size ∧ i = .int .i64 k ∧ sq = .bool q ∧ sa = .bool a ∧ ps.length ≤ k ∧ cur.length ≤ k ∧
      Own wr w.heap.size 9 out (strs ps) ∧ Own wr w.heap.size 5 vb (Lib.byteCells cur) ∧ Below w.heap.size w wr ∧ w.heap.size ≤ wr.heap.size ∧
      Hid (partsV sep s.data.toList = ps ++ partsG sep ⟨q, false, a⟩ cur (s.data.toList.drop k))) (fun _ _ _ _ i _ => s.size - (intOf i).toNat)
  case atStart => exact ⟨0, [], [], false, false, Nat.zero_le _, rfl, rfl, rfl, Nat.le_refl _, Nat.le_refl _, Own.nil _ _ _, Own.nil _ _ _, Below.refl _ _, Nat.le_refl _, rfl⟩
  case round =>
    obtain ⟨k, ps, cur, q, a, hk, rfl, rfl, rfl, hpl, hcl, hout, hcur, hb, hB, hpv⟩ := hrel
    by_cases hlt : k < s.size
    · have hu' := hpv.out
      rw [drop_cons s k hlt] at hu'
      clear hpv
      cases q with
      | true =>
        by_cases h34 : (s[k].toNat : Int) = 34
        · have h60 : ¬ (s[k].toNat : Int) = 60 := by omega
          have h62 : ¬ (s[k].toNat : Int) = 62 := by omega
          have h92 : ¬ (s[k].toNat : Int) = 92 := by omega
          have hn : Hid (partsV sep s.data.toList = ps ++ partsG sep ⟨false, false, a⟩ (cur ++ [s[k]]) (s.data.toList.drop (k + 1))) := by
            show _ = _; rw [hu', partsG_c (p' := ⟨false, false, a⟩) (fr := false) (by simp [pst, h34]) (by simp)]
          have e34 : ((s[k].toNat : Int) == 34) = true := by simpa using h34
          have n34 : ((s[k].toNat : Int) != 34) = false := by simp [h34]
          have e60 : ((s[k].toNat : Int) == 60) = false := by simpa using h60
          have n60 : ((s[k].toNat : Int) != 60) = true := by simp [h60]
          have e62 : ((s[k].toNat : Int) == 62) = false := by simpa using h62
          have n62 : ((s[k].toNat : Int) != 62) = true := by simp [h62]
          have e92 : ((s[k].toNat : Int) == 92) = false := by simpa using h92
          clear hu' h34 h60 h62 h92
          go_wp2_with (at_builtin; refine wp_app2 _ rfl (.tmp 86) (.tmp 88) 36 rfl w.heap.size 5 _ (.int .u8 0) 1 Try.underlying36 hi hz0 hz1 hz2 rfl _ _ rfl (hcur.alloc _) (hout.alloc _) (by decide) ⟨_, 0, none⟩ 1 1 (Lib.byteCells [s[k]]) rfl rfl (by exact one_new _ _ _) (byteCells_one _) (by rw [Lib.byteCells_length]; unfold maxLen; omega) (by rw [Lib.byteCells_length]; omega) w (hb.alloc hB _) (by simp; omega) ?_; intro v3 w3 hown3 hkeep3 hb3 hB3)
          rw [byteCells_snoc] at hown3
          go_wp2
          go_roundw
          case rel => exact ⟨k + 1, ps, _, false, a, by omega, by go_num, rfl, rfl, by omega, by simp; omega, hkeep3, hown3, hb3, hB3, hn⟩
          case measure => simp [intOf]; omega
        · by_cases h92 : (s[k].toNat : Int) = 92
          · by_cases hlt1 : k + 1 < s.size
            · rw [drop_cons s (k + 1) hlt1] at hu'
              have hn : Hid (partsV sep s.data.toList = ps ++ partsG sep ⟨true, false, a⟩ (cur ++ [s[k]] ++ [s[k + 1]]) (s.data.toList.drop (k + 1 + 1))) := by
                show _ = _; rw [hu', partsG_c (p' := ⟨true, true, a⟩) (fr := false) (by simp [pst, h92]) (by simp), partsG_c (p' := ⟨true, false, a⟩) (fr := false) (by simp [pst]) (by simp)]
              have e92 : ((s[k].toNat : Int) == 92) = true := by simpa using h92
              clear hu' h92 h34
              go_wp2_with (first
                | (at_builtin; refine wp_app2 _ rfl (.tmp 25) (.tmp 27) 36 rfl w.heap.size 5 _ (.int .u8 0) 1 Try.underlying36 hi hz0 hz1 hz2 rfl _ _ rfl (hcur.alloc _) (hout.alloc _) (by decide) ⟨_, 0, none⟩ 1 1 (Lib.byteCells [s[k]]) rfl rfl (by exact one_new _ _ _) (byteCells_one _) (by rw [Lib.byteCells_length]; unfold maxLen; omega) (by rw [Lib.byteCells_length]; omega) w (hb.alloc hB _) (by simp; omega) ?_; intro v2 w2 hown2 hkeep2 hb2 hB2)
                | (at_builtin; refine wp_app2 _ rfl (.tmp 36) (.tmp 40) 36 rfl w.heap.size 5 _ (.int .u8 0) 1 Try.underlying36 hi hz0 hz1 hz2 rfl _ _ rfl (hown2.alloc _) (hkeep2.alloc _) (by decide) ⟨_, 0, none⟩ 1 1 (Lib.byteCells [s[k + 1]]) rfl rfl (by exact one_new _ _ _) (byteCells_one _) (by simp [Lib.byteCells]; unfold maxLen; omega) (by simp [Lib.byteCells]; omega) w (hb2.alloc hB2 _) (by simp; omega) ?_; intro v3 w3 hown3 hkeep3 hb3 hB3))
              rw [byteCells_snoc, byteCells_snoc] at hown3
              go_wp2
              go_roundw
              case rel => exact ⟨k + 1 + 1, ps, _, true, a, by omega, by go_num, rfl, rfl, by omega, by simp; omega, hkeep3, hown3, hb3, hB3, hn⟩
              case measure => simp [intOf]; omega
            · have hn : Hid (partsV sep s.data.toList = ps ++ partsG sep ⟨true, false, a⟩ (cur ++ [s[k]]) (s.data.toList.drop (k + 1))) := by
                show _ = _; rw [hu', partsG_c (p' := ⟨true, true, a⟩) (fr := false) (by simp [pst, h92]) (by simp), drop_all s (k + 1) (by omega)]; rfl
              have e92 : ((s[k].toNat : Int) == 92) = true := by simpa using h92
              clear hu' h92 h34
              go_wp2_with (at_builtin; refine wp_app2 _ rfl (.tmp 25) (.tmp 27) 36 rfl w.heap.size 5 _ (.int .u8 0) 1 Try.underlying36 hi hz0 hz1 hz2 rfl _ _ rfl (hcur.alloc _) (hout.alloc _) (by decide) ⟨_, 0, none⟩ 1 1 (Lib.byteCells [s[k]]) rfl rfl (by exact one_new _ _ _) (byteCells_one _) (by rw [Lib.byteCells_length]; unfold maxLen; omega) (by rw [Lib.byteCells_length]; omega) w (hb.alloc hB _) (by simp; omega) ?_; intro v3 w3 hown3 hkeep3 hb3 hB3)
              rw [byteCells_snoc] at hown3
              go_wp2
              go_roundw
              case rel => exact ⟨k + 1, ps, _, true, a, by omega, by go_num, rfl, rfl, by omega, by simp; omega, hkeep3, hown3, hb3, hB3, hn⟩
              case measure => simp [intOf]; omega
          · 
            have hn : Hid (partsV sep s.data.toList = ps ++ partsG sep ⟨true, false, a⟩ (cur ++ [s[k]]) (s.data.toList.drop (k + 1))) := by
              show _ = _; rw [hu', partsG_c (p' := ⟨true, false, a⟩) (fr := false) (by simp [pst, h34, h92]) (by simp)]
            have e34 : ((s[k].toNat : Int) == 34) = false := by simpa using h34
            have n34 : ((s[k].toNat : Int) != 34) = true := by simp [h34]
            have e92 : ((s[k].toNat : Int) == 92) = false := by simpa using h92
            clear hu' h34 h92
            go_wp2_with (at_builtin; refine wp_app2 _ rfl (.tmp 86) (.tmp 88) 36 rfl w.heap.size 5 _ (.int .u8 0) 1 Try.underlying36 hi hz0 hz1 hz2 rfl _ _ rfl (hcur.alloc _) (hout.alloc _) (by decide) ⟨_, 0, none⟩ 1 1 (Lib.byteCells [s[k]]) rfl rfl (by exact one_new _ _ _) (byteCells_one _) (by rw [Lib.byteCells_length]; unfold maxLen; omega) (by rw [Lib.byteCells_length]; omega) w (hb.alloc hB _) (by simp; omega) ?_; intro v3 w3 hown3 hkeep3 hb3 hB3)
            rw [byteCells_snoc] at hown3
            go_wp2
            go_roundw
            case rel => exact ⟨k + 1, ps, _, true, a, by omega, by go_num, rfl, rfl, by omega, by simp; omega, hkeep3, hown3, hb3, hB3, hn⟩
            case measure => simp [intOf]; omega
      | false =>
        cases a with
        | true =>
          by_cases h34 : (s[k].toNat : Int) = 34
          · have h60 : ¬ (s[k].toNat : Int) = 60 := by omega
            have h62 : ¬ (s[k].toNat : Int) = 62 := by omega
            have hn : Hid (partsV sep s.data.toList = ps ++ partsG sep ⟨true, false, true⟩ (cur ++ [s[k]]) (s.data.toList.drop (k + 1))) := by
              show _ = _; rw [hu', partsG_c (p' := ⟨true, false, true⟩) (fr := false) (by simp [pst, h34]) (by simp)]
            have e34 : ((s[k].toNat : Int) == 34) = true := by simpa using h34
            have n34 : ((s[k].toNat : Int) != 34) = false := by simp [h34]
            have e60 : ((s[k].toNat : Int) == 60) = false := by simpa using h60
            have n60 : ((s[k].toNat : Int) != 60) = true := by simp [h60]
            have e62 : ((s[k].toNat : Int) == 62) = false := by simpa using h62
            have n62 : ((s[k].toNat : Int) != 62) = true := by simp [h62]
            clear hu' h34 h60 h62
            go_wp2_with (at_builtin; refine wp_app2 _ rfl (.tmp 86) (.tmp 88) 36 rfl w.heap.size 5 _ (.int .u8 0) 1 Try.underlying36 hi hz0 hz1 hz2 rfl _ _ rfl (hcur.alloc _) (hout.alloc _) (by decide) ⟨_, 0, none⟩ 1 1 (Lib.byteCells [s[k]]) rfl rfl (by exact one_new _ _ _) (byteCells_one _) (by rw [Lib.byteCells_length]; unfold maxLen; omega) (by rw [Lib.byteCells_length]; omega) w (hb.alloc hB _) (by simp; omega) ?_; intro v3 w3 hown3 hkeep3 hb3 hB3)
            rw [byteCells_snoc] at hown3
            go_wp2
            go_roundw
            case rel => exact ⟨k + 1, ps, _, true, true, by omega, by go_num, rfl, rfl, by omega, by simp; omega, hkeep3, hown3, hb3, hB3, hn⟩
            case measure => simp [intOf]; omega
          · by_cases h60 : (s[k].toNat : Int) = 60
            · have h62 : ¬ (s[k].toNat : Int) = 62 := by omega
              have hn : Hid (partsV sep s.data.toList = ps ++ partsG sep ⟨false, false, true⟩ (cur ++ [s[k]]) (s.data.toList.drop (k + 1))) := by
                show _ = _; rw [hu', partsG_c (p' := ⟨false, false, true⟩) (fr := false) (by simp [pst, h60]) (by simp)]
              have e34 : ((s[k].toNat : Int) == 34) = false := by simpa using h34
              have n34 : ((s[k].toNat : Int) != 34) = true := by simp [h34]
              have e60 : ((s[k].toNat : Int) == 60) = true := by simpa using h60
              have n60 : ((s[k].toNat : Int) != 60) = false := by simp [h60]
              have e62 : ((s[k].toNat : Int) == 62) = false := by simpa using h62
              have n62 : ((s[k].toNat : Int) != 62) = true := by simp [h62]
              clear hu' h34 h60 h62
              go_wp2_with (at_builtin; refine wp_app2 _ rfl (.tmp 86) (.tmp 88) 36 rfl w.heap.size 5 _ (.int .u8 0) 1 Try.underlying36 hi hz0 hz1 hz2 rfl _ _ rfl (hcur.alloc _) (hout.alloc _) (by decide) ⟨_, 0, none⟩ 1 1 (Lib.byteCells [s[k]]) rfl rfl (by exact one_new _ _ _) (byteCells_one _) (by rw [Lib.byteCells_length]; unfold maxLen; omega) (by rw [Lib.byteCells_length]; omega) w (hb.alloc hB _) (by simp; omega) ?_; intro v3 w3 hown3 hkeep3 hb3 hB3)
              rw [byteCells_snoc] at hown3
              go_wp2
              go_roundw
              case rel => exact ⟨k + 1, ps, _, false, true, by omega, by go_num, rfl, rfl, by omega, by simp; omega, hkeep3, hown3, hb3, hB3, hn⟩
              case measure => simp [intOf]; omega
            · by_cases h62 : (s[k].toNat : Int) = 62
              · 
                have hn : Hid (partsV sep s.data.toList = ps ++ partsG sep ⟨false, false, false⟩ (cur ++ [s[k]]) (s.data.toList.drop (k + 1))) := by
                  show _ = _; rw [hu', partsG_c (p' := ⟨false, false, false⟩) (fr := false) (by simp [pst, h62]) (by simp)]
                have e34 : ((s[k].toNat : Int) == 34) = false := by simpa using h34
                have n34 : ((s[k].toNat : Int) != 34) = true := by simp [h34]
                have e60 : ((s[k].toNat : Int) == 60) = false := by simpa using h60
                have n60 : ((s[k].toNat : Int) != 60) = true := by simp [h60]
                have e62 : ((s[k].toNat : Int) == 62) = true := by simpa using h62
                have n62 : ((s[k].toNat : Int) != 62) = false := by simp [h62]
                clear hu' h34 h60 h62
                go_wp2_with (at_builtin; refine wp_app2 _ rfl (.tmp 86) (.tmp 88) 36 rfl w.heap.size 5 _ (.int .u8 0) 1 Try.underlying36 hi hz0 hz1 hz2 rfl _ _ rfl (hcur.alloc _) (hout.alloc _) (by decide) ⟨_, 0, none⟩ 1 1 (Lib.byteCells [s[k]]) rfl rfl (by exact one_new _ _ _) (byteCells_one _) (by rw [Lib.byteCells_length]; unfold maxLen; omega) (by rw [Lib.byteCells_length]; omega) w (hb.alloc hB _) (by simp; omega) ?_; intro v3 w3 hown3 hkeep3 hb3 hB3)
                rw [byteCells_snoc] at hown3
                go_wp2
                go_roundw
                case rel => exact ⟨k + 1, ps, _, false, false, by omega, by go_num, rfl, rfl, by omega, by simp; omega, hkeep3, hown3, hb3, hB3, hn⟩
                case measure => simp [intOf]; omega
              · 
                have hn : Hid (partsV sep s.data.toList = ps ++ partsG sep ⟨false, false, true⟩ (cur ++ [s[k]]) (s.data.toList.drop (k + 1))) := by
                  show _ = _; rw [hu', partsG_c (p' := ⟨false, false, true⟩) (fr := false) (by simp [pst, h34, h60, h62]) (by simp)]
                have e34 : ((s[k].toNat : Int) == 34) = false := by simpa using h34
                have n34 : ((s[k].toNat : Int) != 34) = true := by simp [h34]
                have e60 : ((s[k].toNat : Int) == 60) = false := by simpa using h60
                have n60 : ((s[k].toNat : Int) != 60) = true := by simp [h60]
                have e62 : ((s[k].toNat : Int) == 62) = false := by simpa using h62
                have n62 : ((s[k].toNat : Int) != 62) = true := by simp [h62]
                clear hu' h34 h60 h62
                go_wp2_with (at_builtin; refine wp_app2 _ rfl (.tmp 86) (.tmp 88) 36 rfl w.heap.size 5 _ (.int .u8 0) 1 Try.underlying36 hi hz0 hz1 hz2 rfl _ _ rfl (hcur.alloc _) (hout.alloc _) (by decide) ⟨_, 0, none⟩ 1 1 (Lib.byteCells [s[k]]) rfl rfl (by exact one_new _ _ _) (byteCells_one _) (by rw [Lib.byteCells_length]; unfold maxLen; omega) (by rw [Lib.byteCells_length]; omega) w (hb.alloc hB _) (by simp; omega) ?_; intro v3 w3 hown3 hkeep3 hb3 hB3)
                rw [byteCells_snoc] at hown3
                go_wp2
                go_roundw
                case rel => exact ⟨k + 1, ps, _, false, true, by omega, by go_num, rfl, rfl, by omega, by simp; omega, hkeep3, hown3, hb3, hB3, hn⟩
                case measure => simp [intOf]; omega
        | false =>
          by_cases h34 : (s[k].toNat : Int) = 34
          · have h60 : ¬ (s[k].toNat : Int) = 60 := by omega
            have h62 : ¬ (s[k].toNat : Int) = 62 := by omega
            by_cases hsep : (s[k].toNat : Int) = sep
            · 
              have hn : Hid (partsV sep s.data.toList = ps ++ partsG sep ⟨true, false, false⟩ (cur ++ [s[k]]) (s.data.toList.drop (k + 1))) := by
                show _ = _; rw [hu', partsG_c (p' := ⟨true, false, false⟩) (fr := false) (by simp [pst, h34]) (by simp)]
              have e34 : ((s[k].toNat : Int) == 34) = true := by simpa using h34
              have n34 : ((s[k].toNat : Int) != 34) = false := by simp [h34]
              have e60 : ((s[k].toNat : Int) == 60) = false := by simpa using h60
              have n60 : ((s[k].toNat : Int) != 60) = true := by simp [h60]
              have e62 : ((s[k].toNat : Int) == 62) = false := by simpa using h62
              have n62 : ((s[k].toNat : Int) != 62) = true := by simp [h62]
              have esep : ((s[k].toNat : Int) == sep) = true := by simpa using hsep
              clear hu' h34 h60 h62 hsep
              go_wp2_with (at_builtin; refine wp_app2 _ rfl (.tmp 86) (.tmp 88) 36 rfl w.heap.size 5 _ (.int .u8 0) 1 Try.underlying36 hi hz0 hz1 hz2 rfl _ _ rfl (hcur.alloc _) (hout.alloc _) (by decide) ⟨_, 0, none⟩ 1 1 (Lib.byteCells [s[k]]) rfl rfl (by exact one_new _ _ _) (byteCells_one _) (by rw [Lib.byteCells_length]; unfold maxLen; omega) (by rw [Lib.byteCells_length]; omega) w (hb.alloc hB _) (by simp; omega) ?_; intro v3 w3 hown3 hkeep3 hb3 hB3)
              rw [byteCells_snoc] at hown3
              go_wp2
              go_roundw
              case rel => exact ⟨k + 1, ps, _, true, false, by omega, by go_num, rfl, rfl, by omega, by simp; omega, hkeep3, hown3, hb3, hB3, hn⟩
              case measure => simp [intOf]; omega
            · 
              have hn : Hid (partsV sep s.data.toList = ps ++ partsG sep ⟨true, false, false⟩ (cur ++ [s[k]]) (s.data.toList.drop (k + 1))) := by
                show _ = _; rw [hu', partsG_c (p' := ⟨true, false, false⟩) (fr := false) (by simp [pst, h34]) (by simp)]
              have e34 : ((s[k].toNat : Int) == 34) = true := by simpa using h34
              have n34 : ((s[k].toNat : Int) != 34) = false := by simp [h34]
              have e60 : ((s[k].toNat : Int) == 60) = false := by simpa using h60
              have n60 : ((s[k].toNat : Int) != 60) = true := by simp [h60]
              have e62 : ((s[k].toNat : Int) == 62) = false := by simpa using h62
              have n62 : ((s[k].toNat : Int) != 62) = true := by simp [h62]
              have esep : ((s[k].toNat : Int) == sep) = false := by simpa using hsep
              clear hu' h34 h60 h62 hsep
              go_wp2_with (at_builtin; refine wp_app2 _ rfl (.tmp 86) (.tmp 88) 36 rfl w.heap.size 5 _ (.int .u8 0) 1 Try.underlying36 hi hz0 hz1 hz2 rfl _ _ rfl (hcur.alloc _) (hout.alloc _) (by decide) ⟨_, 0, none⟩ 1 1 (Lib.byteCells [s[k]]) rfl rfl (by exact one_new _ _ _) (byteCells_one _) (by rw [Lib.byteCells_length]; unfold maxLen; omega) (by rw [Lib.byteCells_length]; omega) w (hb.alloc hB _) (by simp; omega) ?_; intro v3 w3 hown3 hkeep3 hb3 hB3)
              rw [byteCells_snoc] at hown3
              go_wp2
              go_roundw
              case rel => exact ⟨k + 1, ps, _, true, false, by omega, by go_num, rfl, rfl, by omega, by simp; omega, hkeep3, hown3, hb3, hB3, hn⟩
              case measure => simp [intOf]; omega
          · by_cases h60 : (s[k].toNat : Int) = 60
            · have h62 : ¬ (s[k].toNat : Int) = 62 := by omega
              by_cases hsep : (s[k].toNat : Int) = sep
              · 
                have hn : Hid (partsV sep s.data.toList = ps ++ partsG sep ⟨false, false, true⟩ (cur ++ [s[k]]) (s.data.toList.drop (k + 1))) := by
                  show _ = _; rw [hu', partsG_c (p' := ⟨false, false, true⟩) (fr := false) (by simp [pst, h60]) (by simp)]
                have e34 : ((s[k].toNat : Int) == 34) = false := by simpa using h34
                have n34 : ((s[k].toNat : Int) != 34) = true := by simp [h34]
                have e60 : ((s[k].toNat : Int) == 60) = true := by simpa using h60
                have n60 : ((s[k].toNat : Int) != 60) = false := by simp [h60]
                have e62 : ((s[k].toNat : Int) == 62) = false := by simpa using h62
                have n62 : ((s[k].toNat : Int) != 62) = true := by simp [h62]
                have esep : ((s[k].toNat : Int) == sep) = true := by simpa using hsep
                clear hu' h34 h60 h62 hsep
                go_wp2_with (at_builtin; refine wp_app2 _ rfl (.tmp 86) (.tmp 88) 36 rfl w.heap.size 5 _ (.int .u8 0) 1 Try.underlying36 hi hz0 hz1 hz2 rfl _ _ rfl (hcur.alloc _) (hout.alloc _) (by decide) ⟨_, 0, none⟩ 1 1 (Lib.byteCells [s[k]]) rfl rfl (by exact one_new _ _ _) (byteCells_one _) (by rw [Lib.byteCells_length]; unfold maxLen; omega) (by rw [Lib.byteCells_length]; omega) w (hb.alloc hB _) (by simp; omega) ?_; intro v3 w3 hown3 hkeep3 hb3 hB3)
                rw [byteCells_snoc] at hown3
                go_wp2
                go_roundw
                case rel => exact ⟨k + 1, ps, _, false, true, by omega, by go_num, rfl, rfl, by omega, by simp; omega, hkeep3, hown3, hb3, hB3, hn⟩
                case measure => simp [intOf]; omega
              · 
                have hn : Hid (partsV sep s.data.toList = ps ++ partsG sep ⟨false, false, true⟩ (cur ++ [s[k]]) (s.data.toList.drop (k + 1))) := by
                  show _ = _; rw [hu', partsG_c (p' := ⟨false, false, true⟩) (fr := false) (by simp [pst, h60]) (by simp)]
                have e34 : ((s[k].toNat : Int) == 34) = false := by simpa using h34
                have n34 : ((s[k].toNat : Int) != 34) = true := by simp [h34]
                have e60 : ((s[k].toNat : Int) == 60) = true := by simpa using h60
                have n60 : ((s[k].toNat : Int) != 60) = false := by simp [h60]
                have e62 : ((s[k].toNat : Int) == 62) = false := by simpa using h62
                have n62 : ((s[k].toNat : Int) != 62) = true := by simp [h62]
                have esep : ((s[k].toNat : Int) == sep) = false := by simpa using hsep
                clear hu' h34 h60 h62 hsep
                go_wp2_with (at_builtin; refine wp_app2 _ rfl (.tmp 86) (.tmp 88) 36 rfl w.heap.size 5 _ (.int .u8 0) 1 Try.underlying36 hi hz0 hz1 hz2 rfl _ _ rfl (hcur.alloc _) (hout.alloc _) (by decide) ⟨_, 0, none⟩ 1 1 (Lib.byteCells [s[k]]) rfl rfl (by exact one_new _ _ _) (byteCells_one _) (by rw [Lib.byteCells_length]; unfold maxLen; omega) (by rw [Lib.byteCells_length]; omega) w (hb.alloc hB _) (by simp; omega) ?_; intro v3 w3 hown3 hkeep3 hb3 hB3)
                rw [byteCells_snoc] at hown3
                go_wp2
                go_roundw
                case rel => exact ⟨k + 1, ps, _, false, true, by omega, by go_num, rfl, rfl, by omega, by simp; omega, hkeep3, hown3, hb3, hB3, hn⟩
                case measure => simp [intOf]; omega
            · by_cases h62 : (s[k].toNat : Int) = 62
              · 
                by_cases hsep : (s[k].toNat : Int) = sep
                · 
                  have hn : Hid (partsV sep s.data.toList = ps ++ partsG sep ⟨false, false, false⟩ (cur ++ [s[k]]) (s.data.toList.drop (k + 1))) := by
                    show _ = _; rw [hu', partsG_c (p' := ⟨false, false, false⟩) (fr := false) (by simp [pst, h62]) (by simp)]
                  have e34 : ((s[k].toNat : Int) == 34) = false := by simpa using h34
                  have n34 : ((s[k].toNat : Int) != 34) = true := by simp [h34]
                  have e60 : ((s[k].toNat : Int) == 60) = false := by simpa using h60
                  have n60 : ((s[k].toNat : Int) != 60) = true := by simp [h60]
                  have e62 : ((s[k].toNat : Int) == 62) = true := by simpa using h62
                  have n62 : ((s[k].toNat : Int) != 62) = false := by simp [h62]
                  have esep : ((s[k].toNat : Int) == sep) = true := by simpa using hsep
                  clear hu' h34 h60 h62 hsep
                  go_wp2_with (at_builtin; refine wp_app2 _ rfl (.tmp 86) (.tmp 88) 36 rfl w.heap.size 5 _ (.int .u8 0) 1 Try.underlying36 hi hz0 hz1 hz2 rfl _ _ rfl (hcur.alloc _) (hout.alloc _) (by decide) ⟨_, 0, none⟩ 1 1 (Lib.byteCells [s[k]]) rfl rfl (by exact one_new _ _ _) (byteCells_one _) (by rw [Lib.byteCells_length]; unfold maxLen; omega) (by rw [Lib.byteCells_length]; omega) w (hb.alloc hB _) (by simp; omega) ?_; intro v3 w3 hown3 hkeep3 hb3 hB3)
                  rw [byteCells_snoc] at hown3
                  go_wp2
                  go_roundw
                  case rel => exact ⟨k + 1, ps, _, false, false, by omega, by go_num, rfl, rfl, by omega, by simp; omega, hkeep3, hown3, hb3, hB3, hn⟩
                  case measure => simp [intOf]; omega
                · 
                  have hn : Hid (partsV sep s.data.toList = ps ++ partsG sep ⟨false, false, false⟩ (cur ++ [s[k]]) (s.data.toList.drop (k + 1))) := by
                    show _ = _; rw [hu', partsG_c (p' := ⟨false, false, false⟩) (fr := false) (by simp [pst, h62]) (by simp)]
                  have e34 : ((s[k].toNat : Int) == 34) = false := by simpa using h34
                  have n34 : ((s[k].toNat : Int) != 34) = true := by simp [h34]
                  have e60 : ((s[k].toNat : Int) == 60) = false := by simpa using h60
                  have n60 : ((s[k].toNat : Int) != 60) = true := by simp [h60]
                  have e62 : ((s[k].toNat : Int) == 62) = true := by simpa using h62
                  have n62 : ((s[k].toNat : Int) != 62) = false := by simp [h62]
                  have esep : ((s[k].toNat : Int) == sep) = false := by simpa using hsep
                  clear hu' h34 h60 h62 hsep
                  go_wp2_with (at_builtin; refine wp_app2 _ rfl (.tmp 86) (.tmp 88) 36 rfl w.heap.size 5 _ (.int .u8 0) 1 Try.underlying36 hi hz0 hz1 hz2 rfl _ _ rfl (hcur.alloc _) (hout.alloc _) (by decide) ⟨_, 0, none⟩ 1 1 (Lib.byteCells [s[k]]) rfl rfl (by exact one_new _ _ _) (byteCells_one _) (by rw [Lib.byteCells_length]; unfold maxLen; omega) (by rw [Lib.byteCells_length]; omega) w (hb.alloc hB _) (by simp; omega) ?_; intro v3 w3 hown3 hkeep3 hb3 hB3)
                  rw [byteCells_snoc] at hown3
                  go_wp2
                  go_roundw
                  case rel => exact ⟨k + 1, ps, _, false, false, by omega, by go_num, rfl, rfl, by omega, by simp; omega, hkeep3, hown3, hb3, hB3, hn⟩
                  case measure => simp [intOf]; omega
              · by_cases hsep : (s[k].toNat : Int) = sep
                · have hn : Hid (partsV sep s.data.toList = ps ++ [cur] ++ partsG sep ⟨false, false, false⟩ [] (s.data.toList.drop (k + 1))) := by
                    show _ = _; rw [hu', partsG_s (p' := ⟨false, false, false⟩) (by simp [pst, h34, h60, h62]) hsep, List.append_assoc]; rfl
                  have e34 : ((s[k].toNat : Int) == 34) = false := by simpa using h34
                  have n34 : ((s[k].toNat : Int) != 34) = true := by simp [h34]
                  have e60 : ((s[k].toNat : Int) == 60) = false := by simpa using h60
                  have n60 : ((s[k].toNat : Int) != 60) = true := by simp [h60]
                  have e62 : ((s[k].toNat : Int) == 62) = false := by simpa using h62
                  have n62 : ((s[k].toNat : Int) != 62) = true := by simp [h62]
                  have esep : ((s[k].toNat : Int) == sep) = true := by simpa using hsep
                  have hcv := conv_own (P := Try.prog) _ Try.underlying36 Try.underlying5 Try.underlying9 hcur
                  clear hu' h34 h60 h62 hsep
                  go_wp2_with (at_builtin; refine wp_app2 _ rfl (.tmp 65) (.tmp 68) 23 rfl w.heap.size 9 _ (.string .empty) 16 Try.underlying23 ki kz0 kz1 kz2 rfl _ _ rfl (hout.alloc _) (hcur.alloc _) (by decide) ⟨_, 0, none⟩ 1 1 (strs [cur]) rfl rfl (by exact one_new _ _ _) (strs_one _) (by rw [strs_length]; unfold maxLen; omega) (by rw [strs_length]; omega) w (hb.alloc hB _) (by simp; omega) ?_; intro v3 w3 hown3 hkeep3 hb3 hB3)
                  rw [← strs_append] at hown3
                  go_wp2
                  go_roundw
                  case rel => exact ⟨k + 1, _, [], false, false, by omega, by go_num, rfl, rfl, by simp; omega, by simp, hown3, Own.nil _ _ _, hb3, hB3, hn⟩
                  case measure => simp [intOf]; omega
                · 
                  have hn : Hid (partsV sep s.data.toList = ps ++ partsG sep ⟨false, false, false⟩ (cur ++ [s[k]]) (s.data.toList.drop (k + 1))) := by
                    show _ = _; rw [hu', partsG_c (p' := ⟨false, false, false⟩) (fr := true) (by simp [pst, h34, h60, h62]) (by simp [hsep])]
                  have e34 : ((s[k].toNat : Int) == 34) = false := by simpa using h34
                  have n34 : ((s[k].toNat : Int) != 34) = true := by simp [h34]
                  have e60 : ((s[k].toNat : Int) == 60) = false := by simpa using h60
                  have n60 : ((s[k].toNat : Int) != 60) = true := by simp [h60]
                  have e62 : ((s[k].toNat : Int) == 62) = false := by simpa using h62
                  have n62 : ((s[k].toNat : Int) != 62) = true := by simp [h62]
                  have esep : ((s[k].toNat : Int) == sep) = false := by simpa using hsep
                  clear hu' h34 h60 h62 hsep
                  go_wp2_with (at_builtin; refine wp_app2 _ rfl (.tmp 86) (.tmp 88) 36 rfl w.heap.size 5 _ (.int .u8 0) 1 Try.underlying36 hi hz0 hz1 hz2 rfl _ _ rfl (hcur.alloc _) (hout.alloc _) (by decide) ⟨_, 0, none⟩ 1 1 (Lib.byteCells [s[k]]) rfl rfl (by exact one_new _ _ _) (byteCells_one _) (by rw [Lib.byteCells_length]; unfold maxLen; omega) (by rw [Lib.byteCells_length]; omega) w (hb.alloc hB _) (by simp; omega) ?_; intro v3 w3 hown3 hkeep3 hb3 hB3)
                  rw [byteCells_snoc] at hown3
                  go_wp2
                  go_roundw
                  case rel => exact ⟨k + 1, ps, _, false, false, by omega, by go_num, rfl, rfl, by omega, by simp; omega, hkeep3, hown3, hb3, hB3, hn⟩
                  case measure => simp [intOf]; omega
    · have hfin : Hid (partsV sep s.data.toList = ps ++ [cur]) := by
        show _ = _
        rw [hpv.out, drop_all s k (by omega)]; rfl
      have hcv := conv_own (P := Try.prog) _ Try.underlying36 Try.underlying5 Try.underlying9 hcur
      clear hpv
      go_wp2_with (at_builtin; refine wp_app2 _ rfl (.tmp 90) (.tmp 93) 23 rfl w.heap.size 9 _ (.string .empty) 16 Try.underlying23 ki kz0 kz1 kz2 rfl _ _ rfl (hout.alloc _) (hcur.alloc _) (by decide) ⟨_, 0, none⟩ 1 1 (strs [cur]) rfl rfl (by exact one_new _ _ _) (strs_one _) (by rw [strs_length]; unfold maxLen; omega) (by rw [strs_length]; omega) w (hb.alloc hB _) (by simp; omega) ?_; intro v3 w3 hown3 hkeep3 hb3 hB3)
      rw [← strs_append, ← hfin.out] at hown3
      go_wp2
      go_ret
      exact ⟨_, rfl, hown3, hb3⟩

end Go.Proofs.Ytbckenknkgkadab
