/-
  Contracts: package frame's goesOn, unfold.
-/
import Derived.Test.YtagopboofmjnfaaDoorFPrint
import Derived.Test.YtagopboofmjnfaaDoorFParseL
namespace Go.Proofs.YtagopboofmjnfaaDoor
open Go.RowKit Go.Sort Sc
set_option linter.unusedVariables false
set_option maxRecDepth 20000

set_option maxHeartbeats 400000 in
theorem goesOn_any (s : ByteArray) (w : World) (h0 : 0 < s.size) :
    Calls Tryd.prog 66 #[.string s] w fun e w' => e = .returned (.bool (blk s[0])) ∧ w' = w := by
  have hbd := u8_bd s[0]
  go_enter Tryd.func66, Tryd.ntmps66
  go_wp2_with (go_at_call 81; refine (class_any _ _ hbd.1 hbd.2).mono ?_; rintro e w' ⟨rfl, rfl⟩)
  all_goals go_ret
  all_goals exact ⟨ret_bool rfl, rfl⟩
theorem goesOn_list (l : List UInt8) (w : World) (h : l ≠ []) :
    Calls Tryd.prog 66 #[.string ⟨l.toArray⟩] w fun e w' => e = .returned (.bool (l.head?.any blk)) ∧ w' = w := by
  cases l with
  | nil => exact absurd rfl h
  | cons b r => exact goesOn_any ⟨(b :: r).toArray⟩ w (by rw [size_list]; simp)

theorem fold_two : ∀ (ps : List (List UInt8)), 2 ≤ ps.length → 2 ≤ (ps.foldl pushL []).length
  | a :: b :: r, _ => by
    have e1 : pushL [] a = [a] := push_new (by simp)
    have e2 : pushL [a] b = [a, b] := push_new (by simp)
    rw [List.foldl_cons, List.foldl_cons, e1, e2]
    have := (fold_sum r [a, b]).2.2
    simpa using this
  | [], h => by simp at h
  | [_], h => by simp at h
theorem fold_step {ps : List (List UInt8)} {k : Nat} (hk : k < ps.length) : (ps.take (k + 1)).foldl pushL [] = pushL ((ps.take k).foldl pushL []) ps[k] := by
  rw [List.take_succ_eq_append_getElem hk, List.foldl_append]; rfl
theorem own_set {w : World} {B : Nat} {e : TypeId} {g cap n : Nat} {xs : List Value} (h : Own w B e (.slice (some ⟨g, 0, none⟩) n cap) xs) (i : Nat) (x : Value) : Own (w.setCell ⟨g, i, none⟩ x) B e (.slice (some ⟨g, 0, none⟩) n cap) (xs.set i x) := by
  obtain ⟨h1, h2⟩ := h
  rcases h2 with ⟨h2, _⟩ | ⟨g', cap', cur, hv, hb, hg, hnc, hcm, hcs, ht⟩
  · cases h2
  · simp only [Value.slice.injEq, Option.some.injEq, Addr.mk.injEq, and_true] at hv
    obtain ⟨rfl, hn, rfl⟩ := hv
    refine ⟨by simp, Or.inr ⟨g, cap, cur.setIfInBounds i x, by rw [List.length_set, hn], hb, heap_setCell_same w g i cur e x hg, by simpa using hnc, hcm, by simpa using hcs, ?_⟩⟩
    rw [Array.toList_setIfInBounds, List.take_set, List.length_set, ht]
theorem own_frozen {w : World} {B : Nat} {e : TypeId} {g cap n : Nat} {xs : List Value} (h : Own w B e (.slice (some ⟨g, 0, none⟩) n cap) xs) (i : Nat) : w.frozen? ⟨g, i, none⟩ = false := by
  rcases h.2 with ⟨h2, _⟩ | ⟨g', cap', cur, hv, hb, hg, _⟩
  · cases h2
  · simp only [Value.slice.injEq, Option.some.injEq, Addr.mk.injEq, and_true] at hv
    obtain ⟨rfl, _⟩ := hv
    simp [World.frozen?, hg]
theorem strs_set (l : List (List UInt8)) (i : Nat) (x : List UInt8) : (strs l).set i (.string ⟨x.toArray⟩) = strs (l.set i x) := by
  simp [strs, List.map_set]

set_option maxHeartbeats 4000000 in
set_option maxRecDepth 100000 in
theorem unfold_any (ps : List (List UInt8)) (a : Addr) (w : World) (hat : TxtsAt w a ps) (hne : ∀ t ∈ ps, t ≠ []) (hn : ps.length ≤ 5000) (hl : sumL ps ≤ 100000) :
    Calls Tryd.prog 41 #[.slice (some a) ps.length ps.length] w fun e w' => ∃ v, e = .returned v ∧ Own w' w.heap.size 9 v (strs (ps.foldl pushL [])) ∧ Below w.heap.size w w' := by
  obtain ⟨i0, hi, hz0, hz1, hz2⟩ := info_parts info9
  have HAT := hid hat
  have HNE := hid hne
  have HSL := hid hl
  clear hat hne hl
  obtain ⟨n, hnn⟩ : ∃ n, n = ps.length := ⟨_, rfl⟩
  rw [← hnn] at hn ⊢
  have HN := hid hnn
  clear hnn
  go_enter Tryd.func41, Tryd.ntmps41
  go_wp2
  go_loopw [3, 8] (fun x i wr => ∃ k : Nat, k ≤ n ∧ i = .int .i64 k ∧ Hid (Own wr w.heap.size 9 x (strs ((ps.take k).foldl pushL []))) ∧ Below w.heap.size w wr) (fun _ i _ => n - (intOf i).toNat)
  case atStart => exact ⟨0, Nat.zero_le _, rfl, hid (Own.nil _ _ _), Below.refl _ _⟩
  case round =>
    obtain ⟨k, hk, rfl, HO, hb⟩ := hrel
    by_cases hlt : k < n
    · have hkl : k < ps.length := by have := HN.out; omega
      obtain ⟨hab, h0⟩ := HAT.out k hkl
      have hcell := cell_below hb (by rw [add_block]; exact hab) h0
      have hkne := HNE.out _ (List.getElem_mem hkl)
      have hst := fold_step hkl
      have hsm : sumL ((ps.take k).foldl pushL []) ≤ 100000 := by
        have h1 := (fold_sum (ps.take k) []).1
        have h2 : sumL (ps.take k) ≤ sumL ps := by
          have := congrArg sumL (List.take_append_drop k ps)
          rw [sumL_app] at this; omega
        have h3 := HSL.out
        have e0 : sumL [] = 0 := rfl
        omega
      have htl : ps[k].length ≤ 100000 := by have := sumL_mem ps _ (List.getElem_mem hkl); have := HSL.out; omega
      have hlen : ((ps.take k).foldl pushL []).length ≤ 5000 := by
        have h1 := (fold_sum (ps.take k) []).2.1
        simp at h1; omega
      have htwo := fold_two (ps.take k)
      have hone := (fold_sum (ps.take k) []).2.1
      simp only [List.length_take, List.length_nil, Nat.zero_add] at htwo hone
      clear hab h0
      generalize (ps.take k).foldl pushL [] = Q at HO hst hsm hlen htwo hone
      generalize ps[k] = t at hcell hkne hst htl
      have HST := hid hst
      clear hst
      obtain ⟨xa, xc, hxe⟩ := HO.out.form
      subst hxe
      rw [strs_length] at HO ⊢
      have KG := hid (fun w' => goesOn_list t w' hkne)
      clear hkne
      have HBA := hid (fun o => hb.alloc hb.size o)
      have HOA := hid (fun o => HO.out.alloc o)
      by_cases hk1 : 1 < k
      · have hk1' : (1 : Int) < (k : Int) := by omega
        have hq2 : 2 ≤ Q.length := htwo (by have := HN.out; omega)
        cases hbk : t.head?.any blk with
        | false =>
          rw [hbk] at KG
          have hnx : Hid (Q ++ [t] = (ps.take (k + 1)).foldl pushL []) := show _ = _ by rw [HST.out, push_new (by rw [hbk]; simp)]
          have HNV := hid (one_new wr 9 (.string ⟨t.toArray⟩))
          clear HST htwo hone HO
          go_wp2_with (first
            | (go_at_call 66; refine (KG.out _).mono ?_; rintro e w' ⟨rfl, hw⟩; rw [hw])
            | (at_builtin; refine wp_appT _ rfl (.tmp 30) (.tmp 32) 46 rfl w.heap.size 9 i0 (.string .empty) Tryd.underlying46 hi hz0 hz1 hz2 rfl _ Q rfl (HOA.out _) ⟨_, 0, none⟩ 1 [t] 1 rfl rfl (by exact HNV.out) (by omega) w (HBA.out _) (by have := hb.size; simp; omega) ?_; intro v5 w5 hown5 hb5 hB5))
          rw [hnx.out] at hown5
          have HO5 := hid hown5
          clear hown5
          go_wp2
          go_roundw
          case rel => exact ⟨k + 1, by omega, by go_num, HO5, hb5⟩
          case measure => simp [intOf]; omega
        | true =>
          rw [hbk] at KG
          have hQne : Q ≠ [] := by intro e; rw [e] at hq2; simp at hq2
          obtain ⟨I, z, rfl⟩ : ∃ I z, Q = I ++ [z] := ⟨Q.dropLast, Q.getLast hQne, (List.dropLast_concat_getLast _).symm⟩
          have KT := hid (fun w' => trim_list t w' (by omega))
          have htr := trimL_len t
          have hzl : z.length ≤ 100000 := by have := sumL_mem (I ++ [z]) z (by simp); omega
          have hnx : Hid (strs ((I ++ [z]).set I.length (z ++ ([32] ++ trimL t))) = strs ((ps.take (k + 1)).foldl pushL [])) := show _ = _ by
            rw [HST.out, push_fold hq2 hbk]; simp
          obtain ⟨g, cp, hve, hpc, hg, hBg, hcl⟩ := own_cells HO.out hQne
          have hz1c := hcl I.length (by simp)
          simp only [List.getElem_concat_length] at hz1c
          simp only [Value.slice.injEq] at hve
          obtain ⟨rfl, _, rfl⟩ := hve
          have hql : (I ++ [z]).length = I.length + 1 := by simp
          rw [hql] at HO hpc hlen
          have hqI : I.length ≤ 5000 := by omega
          have hwr : IntKind.i64.wrap (I.length : Int) = (I.length : Int) := by
            simp [IntKind.wrap, IntKind.bits, IntKind.signed]; omega
          have hin : 0 ≤ (I.length : Int) ∧ (I.length : Int) < (I.length : Int) + 1 := by omega
          generalize trimL t = tr at KT htr hnx
          have hf0 := own_frozen HO.out I.length
          have HCL := hid (fun (w3 : World) (hw3 : Below wr.drew.heap.size wr.drew w3) => cell_below hw3 (show g < wr.drew.heap.size from hg) hz1c)
          have HFZ := hid (fun (w3 : World) (hw3 : Below wr.drew.heap.size wr.drew w3) => own_frozen (HO.out.drew.below hw3) I.length)
          have HOW := hid (fun (w3 : World) (hw3 : Below wr.drew.heap.size wr.drew w3) => own_set (HO.out.drew.below hw3) I.length (.string ⟨(z ++ ([32] ++ tr)).toArray⟩))
          have HBB := hid (fun (w3 : World) (hw3 : Below wr.drew.heap.size wr.drew w3) => (hb.drew.trans (hw3.mono hb.size)).setCell (p := ⟨g, I.length, none⟩) hBg (.string ⟨(z ++ ([32] ++ tr)).toArray⟩))
          rw [strs_set, hnx.out] at HOW
          have q1 : ¬ 9223372036854775807 < 1 + tr.length := by omega
          have q2 : ¬ 9223372036854775807 < z.length + (1 + tr.length) := by omega
          have hglue : (⟨z.toArray⟩ : ByteArray) ++ (⟨#[32]⟩ ++ ⟨tr.toArray⟩) = ⟨(z ++ ([32] ++ tr)).toArray⟩ := by
            rw [show (⟨#[32]⟩ : ByteArray) = ⟨[32].toArray⟩ from rfl, ByteArray.mk_append_mk, ByteArray.mk_append_mk]
          rw [← hglue] at HBB HOW
          clear HST htwo hone HO HOA hcl hnx hql HBA hq2 hQne
          simp only [List.length_append, List.length_cons, List.length_nil, Nat.zero_add]
          go_wp2_with (go_at_call 66; refine (KG.out _).mono ?_; rintro e w' ⟨rfl, hw⟩; rw [hw])
          go_region_law (go_simp; go_at_call 67; refine (KT.out _).mono ?_; rintro e w3 ⟨rfl, hw3⟩; have hx3 := HCL.out _ hw3; have hf3 := HFZ.out _ hw3)
          all_goals
            have HO5 := hid (HOW.out _ hw3)
            have hb5 := HBB.out _ hw3
            go_wp2
            go_roundw
            case rel => exact ⟨k + 1, by omega, by go_num, HO5, hb5⟩
            case measure => simp [intOf]; omega
      · have hk1' : ¬ ((1 : Int) < (k : Int)) := by omega
        have hnx : Hid (Q ++ [t] = (ps.take (k + 1)).foldl pushL []) := show _ = _ by rw [HST.out, push_new (by omega)]
        have HNV := hid (one_new wr 9 (.string ⟨t.toArray⟩))
        clear HST htwo hone HO KG
        go_wp2_with (at_builtin; refine wp_appT _ rfl (.tmp 30) (.tmp 32) 46 rfl w.heap.size 9 i0 (.string .empty) Tryd.underlying46 hi hz0 hz1 hz2 rfl _ Q rfl (HOA.out _) ⟨_, 0, none⟩ 1 [t] 1 rfl rfl (by exact HNV.out) (by omega) w (HBA.out _) (by have := hb.size; simp; omega) ?_; intro v5 w5 hown5 hb5 hB5)
        rw [hnx.out] at hown5
        have HO5 := hid hown5
        clear hown5
        go_wp2
        go_roundw
        case rel => exact ⟨k + 1, by omega, by go_num, HO5, hb5⟩
        case measure => simp [intOf]; omega
    · have hQ : (ps.take k).foldl pushL [] = ps.foldl pushL [] := by rw [List.take_of_length_le (by have := HN.out; omega)]
      rw [hQ] at HO
      clear hQ
      go_wp2
      go_ret
      exact ⟨_, rfl, HO.out, hb⟩

end Go.Proofs.YtagopboofmjnfaaDoor
