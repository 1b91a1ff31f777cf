/-
  Contracts: strings.Builder's Grow and WriteString at a Builder of the call's own; strings.Join with nothing between.
-/
import Derived.Test.YtagopboofmjnfaaDoorFGrow
import Derived.Test.YtagopboofmjnfaaDoorFPieces
namespace Go.Proofs.YtagopboofmjnfaaDoor
open Go.RowKit Sc
set_option linter.unusedVariables false
set_option maxRecDepth 20000

set_option maxHeartbeats 2000000 in
set_option maxRecDepth 1000000 in
theorem bldGrow (B b n : Nat) (w : World) (hB : B ≤ b) (hbk : w.heap[b]? = some (.cells #[.pointer none, .slice none 0 0] 76 (0, 0))) (hBw : B ≤ w.heap.size) (hn : n ≤ 1048576) (hn0 : 1 ≤ n) :
    Calls Tryd.prog 53 #[.pointer (some ⟨b, 0, none⟩), .int .i64 n] w fun e w' => e = .returned (.tuple #[]) ∧ (BldAt w' B b [] ∧ Below B w w') := by
  have KC := hid (copyFresh b w (by rw [Lib.cell_of_heap hbk]; rfl) (by simp [World.shape?, hbk]) (Lib.frozen_of_heap hbk 0))
  have hbk1 : (w.setCell ⟨b, 0, none⟩ (.pointer (some ⟨b, 0, none⟩))).heap[b]? = some (.cells #[.pointer (some ⟨b, 0, none⟩), .slice none 0 0] 76 (0, 0)) := by
    simp [World.setCell, Array.getElem?_modify, hbk]
  have hb1 : Below B w (w.setCell ⟨b, 0, none⟩ (.pointer (some ⟨b, 0, none⟩))) := (Below.refl B w).setCell (p := ⟨b, 0, none⟩) hB _
  have hsz : B ≤ (w.setCell ⟨b, 0, none⟩ (.pointer (some ⟨b, 0, none⟩))).heap.size := by simpa [World.setCell] using hBw
  generalize w.setCell ⟨b, 0, none⟩ (.pointer (some ⟨b, 0, none⟩)) = W at KC hbk1 hb1 hsz
  have c1 : W.cell? ⟨b, 1, none⟩ = some (.slice none 0 0) := by rw [Lib.cell_of_heap hbk1]; rfl
  have KG := hid (fun q => bldGrow0 B b n (W.drewN q) hB hbk1 hsz hn)
  have hw0 : IntKind.i64.wrap 0 = 0 := by decide
  have hdec : decide ((0 : Int) < (n : Int)) = true := by simp; omega
  clear hbk hbk1
  go_enter Tryd.func53, Tryd.ntmps53
  go_wp2_with (go_at_call 74; refine KC.out.mono ?_; rintro e w' ⟨rfl, hw⟩; rw [hw])
  go_quiet (fail)
  go_wp2_with (go_at_call 75; refine (KG.out _).mono ?_; rintro e w2 ⟨rfl, h1, h2⟩)
  go_end0
  exact ⟨rfl, h1, hb1.trans (((below_drewN W nq).mono hsz).trans h2)⟩

set_option maxHeartbeats 2000000 in
set_option maxRecDepth 100000 in
theorem bldWrite (B b : Nat) (l r : List UInt8) (w : World) (h : BldAt w B b l) (hlen : l.length + r.length ≤ 1048576) (hBw : B ≤ w.heap.size) :
    Calls Tryd.prog 54 #[.pointer (some ⟨b, 0, none⟩), .string ⟨r.toArray⟩] w fun e w' => e = .returned (.tuple #[.int .i64 r.length, .nilIface]) ∧ (BldAt w' B b (l ++ r) ∧ Below B w w') := by
  obtain ⟨i0, hi, hz0, hz1, hz2⟩ := info_parts info5
  have hz : (⟨r.toArray⟩ : ByteArray).size = r.length := size_list r
  have hbl : (Lib.byteCells l).length = l.length := Lib.byteCells_length l
  have KC := hid (copyUsed b w h.cell0)
  obtain ⟨hB, v, hbk, hown, hne⟩ := h
  have c0 : w.cell? ⟨b, 0, none⟩ = some (.pointer (some ⟨b, 0, none⟩)) := by rw [Lib.cell_of_heap hbk]; rfl
  have c1 : w.cell? ⟨b, 1, none⟩ = some v := by rw [Lib.cell_of_heap hbk]; rfl
  have hlt : b < w.heap.size := by
    rcases Nat.lt_or_ge b w.heap.size with h' | h'
    · exact h'
    · simp [Array.getElem?_eq_none h'] at hbk
  go_enter Tryd.func54, Tryd.ntmps54
  go_wp2_with (first
    | (go_at_call 74; refine KC.out.mono ?_; rintro e w' ⟨rfl, hw⟩; rw [hw])
    | (at_builtin; refine Lib.wpList_append_own_string _ rfl _ _ 36 9 rfl B 5 i0 Tryd.underlying36 Tryd.underlying9 hi hz0 hz1 hz2 _ _ _ rfl hown ⟨r.toArray⟩ rfl ?c3 ?c4 hBw ?_))
  case c3 => rw [hz, hbl]; unfold maxLen; omega
  case c4 => rw [hz, hbl]; omega
  intro v' w2 hown' hgrow _
  have hb2 : w2.heap[b]? = some (.cells #[.pointer (some ⟨b, 0, none⟩), v] 76 (0, 0)) := by
    rw [hgrow.block b hlt (fun e => hne e.symm)]
    exact hbk
  have d0 : w2.cell? ⟨b, 0, none⟩ = some (.pointer (some ⟨b, 0, none⟩)) := by rw [Lib.cell_of_heap hb2]; rfl
  have d1 : w2.cell? ⟨b, 1, none⟩ = some v := by rw [Lib.cell_of_heap hb2]; rfl
  have f1 : w2.frozen? ⟨b, 1, none⟩ = false := Lib.frozen_of_heap hb2 1
  obtain ⟨ao, n', cap, rfl⟩ : ∃ ao n' cap, v' = .slice ao n' cap := by
    rcases hown'.2 with ⟨hv, _⟩ | ⟨g, cap, cur, hv, _⟩
    · exact ⟨_, _, _, hv⟩
    · exact ⟨_, _, _, hv⟩
  have hput := hid (Lib.BuilderAt.put (T := 76) (e := 5) hB hb2 (bs' := Lib.byteCells l ++ Lib.strCells ⟨r.toArray⟩) (by rw [List.length_append, Lib.strCells_length, hbl, hz]; exact hown') (by decide))
  have hbel := hid (((Below.refl B w).grown hgrow hBw (fun k hk => (hown.lt k hk).1)).setCell (p := ⟨b, 1, none⟩) hB (.slice ao n' cap))
  rw [strC_is, show Lib.byteCells l ++ Lib.byteCells r = Lib.byteCells (l ++ r) by simp [Lib.byteCells]] at hput
  clear hown' hgrow hb2 hbk hown hne KC hbl
  go_wp2
  go_ret2
  exact ⟨by simp, hput.out, hbel.out⟩

theorem flat_take {ps : List (List UInt8)} {k : Nat} (hk : k < ps.length) : (ps.take (k + 1)).flatten = (ps.take k).flatten ++ ps[k] := by
  rw [List.take_succ_eq_append_getElem hk, List.flatten_append]; simp

set_option maxHeartbeats 2000000 in
set_option maxRecDepth 100000 in
theorem join_any (ps : List (List UInt8)) (g cap : Nat) (w : World) (hat : ∀ j (hj : j < ps.length), w.cell? ⟨g, j, none⟩ = some (.string ⟨ps[j].toArray⟩)) (hg : g < w.heap.size) (h2 : 2 ≤ ps.length) (hn : ps.length ≤ 1000000) (hcap : ps.length ≤ cap)
    (hL0 : ps.flatten ≠ []) (hL : ps.flatten.length ≤ 4096) :
    Calls Tryd.prog 28 #[.slice (some ⟨g, 0, none⟩) ps.length cap, .string ⟨#[]⟩] w fun e w' => e = .returned (.string ⟨ps.flatten.toArray⟩) ∧ Below w.heap.size w w' := by
  have HAT := hid hat
  have HST := hid (fun k (hk : k < ps.length) => flat_take hk)
  have HSL := hid (fun k => sum_le (ps := ps) k)
  have HSM := hid (fun k (hk : k < ps.length) => sum_step hk)
  clear hat
  obtain ⟨n, hnn⟩ : ∃ n, n = ps.length := ⟨_, rfl⟩
  rw [← hnn] at hn h2 hcap ⊢
  have HN := hid hnn
  clear hnn
  obtain ⟨L, hLL⟩ : ∃ L, L = ps.flatten := ⟨_, rfl⟩
  rw [← hLL] at hL hL0 HSL ⊢
  have HLL := hid hLL
  have HL0 := hid hL0
  clear hLL hL0
  have HFR := hid (show (w.alloc (.cells #[.pointer none, .slice none 0 0] 76)).heap[w.heap.size]? = some (.cells #[.pointer none, .slice none 0 0] 76 (0, 0)) by rw [heap_alloc_new])
  have hA := (Below.refl _ w).alloc (Nat.le_refl _) (.cells #[.pointer none, .slice none 0 0] 76)
  have hne0 : ((n : Int) == 0) = false := beq_eq_false_iff_ne.2 (by omega)
  have hne1 : ((n : Int) == 1) = false := beq_eq_false_iff_ne.2 (by omega)
  go_enter Tryd.func28, Tryd.ntmps28
  go_wp2
  go_loop [5, 41] (fun x i => ∃ (k t : Nat), k ≤ n ∧ i = .int .i64 k ∧ x = .int .i64 t ∧ t ≤ 4096 ∧ Hid (t = (ps.take k).flatten.length)) (fun _ i => n - (intOf i).toNat)
  case atStart => exact ⟨0, 0, Nat.zero_le _, rfl, rfl, by omega, hid (by simp)⟩
  case round =>
    obtain ⟨k, t, hk, rfl, rfl, ht4, ht⟩ := hrel
    by_cases hlt : k < n
    · have hkl : k < ps.length := by have := HN.out; omega
      have hcell := HAT.out k hkl
      have hz : (⟨ps[k].toArray⟩ : ByteArray).size = ps[k].length := size_list _
      have hb1 : t + ps[k].length ≤ 4096 := by
        have h1 := HSM.out k hkl; have h2 := HSL.out (k + 1); have h4 := ht.out; omega
      have hnx : Hid (t + ps[k].length = (ps.take (k + 1)).flatten.length) := show _ = _ by rw [HSM.out k hkl, ht.out]
      clear ht
      generalize ps[k] = p at hcell hz hb1 hnx
      go_wp2
      go_round
      case rel => exact ⟨k + 1, t + p.length, by omega, by go_num, by go_num, hb1, hnx⟩
      case measure => simp [intOf]; omega
    · have hv : t = L.length := by rw [ht.out, HLL.out, List.take_of_length_le (by have := HN.out; omega)]
      have hpos : 1 ≤ L.length := by
        have := HL0.out
        cases L with
        | nil => exact absurd rfl this
        | cons _ _ => simp
      have h0l : 0 < ps.length := by have := HN.out; omega
      have KG := hid (bldGrow w.heap.size w.heap.size L.length (w.alloc (.cells #[.pointer none, .slice none 0 0] 76)) (Nat.le_refl _) HFR.out hA.size (by omega) hpos)
      have c0 := HAT.out 0 h0l
      have hst0 := HST.out 0 h0l
      have hsl1 := HSL.out 1
      have hc1 : ¬ ((1 : Int) = (cap : Int)) := by omega
      have hc2 : ¬ (1 = cap) := by omega
      clear ht
      subst hv
      obtain ⟨p0, hp0⟩ : ∃ p0, p0 = ps[0] := ⟨_, rfl⟩
      rw [← hp0] at c0 hst0
      have hl1 : p0.length ≤ 4096 := by rw [hst0] at hsl1; simp at hsl1; omega
      have HS0 : Hid ((ps.take 1).flatten = p0) := show _ = _ by rw [hst0]; simp
      clear hp0 hst0 hsl1 HFR
      go_wp2_with fail
      refine KG.out.mono ?_
      rintro e w1 ⟨rfl, hbl, hw1⟩
      have hb1 := hA.trans hw1
      have HBL := hid hbl
      have d0 := cell_below hb1 hg c0
      clear hbl KG hw1 c0 hA
      have KW := hid (bldWrite w.heap.size w.heap.size [] p0 w1 HBL.out (by simp; omega) hb1.size)
      rw [List.nil_append] at KW
      go_wp2_with fail
      refine KW.out.mono ?_
      rintro e w2 ⟨rfl, hbl, hw2⟩
      have hb2 := hb1.trans hw2
      have HBL2 := hid hbl
      clear hbl KW hw2 d0 HBL hb1
      go_wp2
      go_loopw [65] (fun i wr => ∃ (k : Nat) (l : List UInt8), k + 1 ≤ n ∧ i = .int .i64 k ∧ Hid (l = (ps.take (k + 1)).flatten) ∧ Hid (BldAt wr w.heap.size w.heap.size l) ∧ Below w.heap.size w wr) (fun i _ => n - (intOf i).toNat)
      case atStart => exact ⟨0, p0, by omega, rfl, hid HS0.out.symm, HBL2, hb2⟩
      case round =>
        clear HBL2 hb2 HS0 hl1
        obtain ⟨k, l, hk, rfl, hl, HB, hb⟩ := hrel
        by_cases hlt : k + 1 < n
        · have hkl : k + 1 < ps.length := by have := HN.out; omega
          have hcell := cell_below hb hg (HAT.out (k + 1) hkl)
          have hlt2 : (k : Int) < (n : Int) - 1 := by omega
          have hst := HST.out (k + 1) hkl
          have hsl := HSL.out (k + 1 + 1)
          obtain ⟨p, hp⟩ : ∃ p, p = ps[k + 1] := ⟨_, rfl⟩
          rw [← hp] at hcell hst
          rw [Nat.add_comm k 1] at hcell
          have hle : l.length + p.length ≤ 4096 := by
            have h1 := hl.out; rw [hst, ← h1, List.length_append] at hsl; omega
          have hnx : Hid (l ++ p = (ps.take (k + 1 + 1)).flatten) := show _ = _ by rw [hst, hl.out]
          have K0 := hid (bldWrite w.heap.size w.heap.size l [] wr HB.out (by simp; omega) hb.size)
          rw [List.append_nil] at K0
          clear hst hsl hl hp hkl
          go_wp2_with fail
          refine K0.out.mono ?_
          rintro e w3 ⟨rfl, hbl, hw3⟩
          have hb3 := hb.trans hw3
          have K1 := hid (bldWrite w.heap.size w.heap.size l p w3 hbl (by omega) hb3.size)
          clear hbl hw3 hcell HB K0
          go_wp2_with fail
          refine K1.out.mono ?_
          rintro e w4 ⟨rfl, hbl, hw4⟩
          have HB4 := hid hbl
          have hb4 := hb3.trans hw4
          clear hbl hw4 K1
          go_wp2
          go_roundw
          case rel => exact ⟨k + 1, l ++ p, by omega, by go_num, hnx, HB4, hb4⟩
          case measure => simp [intOf]; omega
        · have hv : l = L := by rw [hl.out, HLL.out, List.take_of_length_le (by have := HN.out; omega)]
          have hlt2 : ¬ ((k : Int) < (n : Int) - 1) := by omega
          subst hv
          have KS := hid (bldString w.heap.size w.heap.size l wr (Or.inr (Lib.BuilderAtF.of HB.out)) HL0.out)
          clear HB hl
          go_wp2_with fail
          refine KS.out.mono ?_
          rintro e w5 ⟨rfl, _, hw5, _⟩
          go_wp2
          go_ret
          exact ⟨rfl, hb.trans hw5⟩

end Go.Proofs.YtagopboofmjnfaaDoor
