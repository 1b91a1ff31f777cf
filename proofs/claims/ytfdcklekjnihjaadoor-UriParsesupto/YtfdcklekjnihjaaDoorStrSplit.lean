/-
  The contract of strings.Split, at a sign of one byte.
-/
import Derived.Test.YtfdcklekjnihjaaDoorStrLib
namespace Go.Proofs.YtfdcklekjnihjaaDoor
open Go.RowKit Sc
set_option linter.unusedVariables false
set_option maxRecDepth 20000

theorem splitL_count (c : UInt8) (l : List UInt8) : (splitL c l).length = Lib.countByte l c + 1 := by
  unfold Lib.countByte
  induction l with
  | nil => rfl
  | cons x l ih =>
    obtain ⟨p, ps, hp⟩ := splitL_cons c l
    rw [splitL]
    rw [hp] at ih ⊢
    by_cases h : x = c
    · rw [if_pos h, h, List.count_cons_self]; simp at ih ⊢; omega
    · rw [if_neg h, List.count_cons_of_ne h]; simpa using ih
/-- Texts written from the head on over n empty ones. -/
def filledS (ps : List (List UInt8)) (n : Nat) : List Value := strs ps ++ List.replicate (n - ps.length) (.string .empty)
theorem filledS_len (ps : List (List UInt8)) (n : Nat) (h : ps.length ≤ n) : (filledS ps n).length = n := by simp [filledS, strs]; omega
theorem filledS_full (ps : List (List UInt8)) (n : Nat) (h : ps.length = n) : filledS ps n = strs ps := by simp [filledS, h]
theorem filledS_set (ps : List (List UInt8)) (n : Nat) (p : List UInt8) (h : ps.length < n) : (filledS ps n).set ps.length (.string ⟨p.toArray⟩) = filledS (ps ++ [p]) n := by
  have e : n - ps.length = (n - (ps.length + 1)) + 1 := by omega
  have hl : (strs ps).length = ps.length := strs_length ps
  unfold filledS
  rw [List.set_append_right _ _ (by omega), hl, Nat.sub_self, e, List.replicate_succ, List.set_cons_zero, strs_append, List.append_assoc, List.length_append]
  rfl
theorem made_rowS (w : World) (e : TypeId) (n : Nat) : RowIs (w.alloc (.cells (madeCells #[.string .empty] n) e)) w.heap.size e (filledS [] n) := by
  unfold RowIs
  rw [heap_alloc_new]
  have : madeCells #[.string .empty] n = (filledS [] n).toArray := by
    apply Array.ext
    · simp [size_madeCells, filledS, strs]
    · intro i h1 h2
      simp [madeCells, filledS, strs, Nat.mod_one]
  rw [this]

set_option maxHeartbeats 1000000 in
theorem genSplit_any (l0 : List UInt8) (c : UInt8) (w : World) (hs : l0.length ≤ 1048576) :
    Calls Tryd.prog 57 #[.string ⟨l0.toArray⟩, .string ⟨#[c]⟩, .int .i64 0, .int .i64 (-1)] w fun e w' => ∃ v, e = .returned v ∧ Own w' w.heap.size 9 v (strs (splitL c l0)) ∧ Below w.heap.size w w' := by
  obtain ⟨i0, hi, hz0, hz1, hz2⟩ := info_parts info9
  have h0 : (ByteArray.mk #[c]).size = 1 := rfl
  have hz : (⟨l0.toArray⟩ : ByteArray).size = l0.length := size_list l0
  obtain ⟨N, hN⟩ : ∃ N, N = (splitL c l0).length := ⟨_, rfl⟩
  have hN1 : N ≤ l0.length + 1 := by rw [hN]; exact splitL_len c l0
  have hcn : (Lib.countByte l0 c : Int) = (N : Int) - 1 := by rw [hN, splitL_count]; omega
  have hN0 : 1 ≤ N := by rw [hN, splitL_count]; omega
  have hmk : ∀ u : World, (Instr.makeSlice 56 (.int .i64 (N : Int)) (.int .i64 (N : Int))).run Tryd.prog u =
      .ok (.slice (some ⟨u.heap.size, 0, none⟩) N N) (u.alloc (.cells (madeCells #[.string .empty] N) 9)) := fun u => by
    have h := run_make (P := Tryd.prog) u 56 9 i0 (.string .empty) Tryd.underlying56 hi hz0 .i64 .i64 (N : Int) (N : Int) (by omega) (Int.le_refl _) (by rw [hz2]; omega) (by omega)
    simpa [hz1, Value.cells] using h
  have hr0 : Hid (RowIs (w.alloc (.cells (madeCells #[.string .empty] N) 9)) w.heap.size 9 (filledS [] N)) := made_rowS w _ _
  have hw1 : IntKind.i64.wrap ((N : Int) - 1 + 1) = (N : Int) := by
    simp [IntKind.wrap, IntKind.bits, IntKind.signed]; omega
  have hNs : Hid _ := hN
  clear hN
  go_enter Tryd.func57, Tryd.ntmps57
  go_wp2_with (go_at_call 69; refine (strCount_any _ c _).mono ?_; rintro e w' ⟨rfl, rfl⟩; rw [hcn])
  clear hmk
  go_loopw [0, 10] (fun x i wr => ∃ (r : List UInt8) (ps : List (List UInt8)), x = .string ⟨r.toArray⟩ ∧ i = .int .i64 ps.length ∧ Hid (splitL c l0 = ps ++ splitL c r) ∧ r.length ≤ l0.length ∧ Hid (RowIs wr w'.heap.size 9 (filledS ps N)) ∧ Below w'.heap.size w' wr) (fun _ i _ => N - (intOf i).toNat)
  case atStart => exact ⟨l0, [], rfl, rfl, show _ = _ from rfl, Nat.le_refl _, hr0, (Below.refl _ _).alloc (Nat.le_refl _) _⟩
  case round =>
    clear hr0 hcn hw1 hz
    obtain ⟨r, ps, rfl, rfl, hsp, hrl, hr, hb⟩ := hrel
    have hz : (⟨r.toArray⟩ : ByteArray).size = r.length := size_list r
    have hln : N = ps.length + (splitL c r).length := by rw [hNs.out, hsp.out, List.length_append]
    have hln1 : 1 ≤ (splitL c r).length := by rw [splitL_count]; omega
    have hf := hr.out.frozen ps.length
    obtain ⟨x, hc⟩ : ∃ x, wr.cell? ⟨w'.heap.size, ps.length, none⟩ = some x := ⟨_, hr.out.cell ps.length (by rw [filledS_len _ _ (by omega)]; omega)⟩
    by_cases hlt : ps.length < N - 1
    · have hin : c ∈ r := by
        apply Classical.byContradiction
        intro hno
        rw [splitL_cut, cutL_miss hno] at hln
        simp at hln; omega
      rcases idx_cases r c with ⟨h1, _⟩ | ⟨a, b, h1, h2, h3⟩
      · exact absurd hin h1
      · have hd : (⟨r.toArray⟩ : ByteArray).data.toList = a ++ c :: b := h1
        obtain ⟨e1, e2, e3⟩ := cut_data ⟨r.toArray⟩ hd
        rw [hz] at e3
        have hcut : cutL c r = (a, b, true) := by rw [h1]; exact cutL_hit h2
        have hsp2 : Hid (splitL c l0 = (ps ++ [a]) ++ splitL c b) := show _ = _ by
          have := splitL_next hsp.out (by rw [hcut]); rw [hcut] at this; exact this
        have hr' : Hid (RowIs (wr.setCell ⟨w'.heap.size, ps.length, none⟩ (.string ⟨a.toArray⟩)) w'.heap.size 9 (filledS (ps ++ [a]) N)) := by
          have h := hr.out.set ps.length (.string ⟨a.toArray⟩)
          rw [filledS_set ps N a (by omega)] at h
          exact h
        have hwr : IntKind.i64.wrap ((a.length : Int) + 1) = ((a.length + 1 : Nat) : Int) := by
          simp [IntKind.wrap, IntKind.bits, IntKind.signed]; omega
        have h3' : Lib.indexByte (⟨r.toArray⟩ : ByteArray).data.toList c = (a.length : Int) := h3
        rw [hz, e3] at e2
        clear hd hcut hin h1 h2 hsp hr hln hln1
        go_wp2_with (go_at_call 70; refine (strIndex_any _ c _).mono ?_; rintro e w2 ⟨rfl, rfl⟩; rw [h3'])
        go_roundw
        case rel => exact ⟨b, ps ++ [a], by first | rfl | rw [e2], by simp, hsp2, by omega, hr', hb.setCell (Nat.le_refl _) _⟩
        case measure => simp [intOf]; omega
    · have hone : splitL c r = [r] := by
        have : (splitL c r).length = 1 := by omega
        rw [splitL_count, Lib.countByte] at this
        exact splitL_cut c r ▸ (by
          have hno : c ∉ r := List.count_eq_zero.1 (by omega)
          rw [cutL_miss hno]; rfl)
      have hr' : Hid (Own (wr.setCell ⟨w'.heap.size, ps.length, none⟩ (.string ⟨r.toArray⟩)) w'.heap.size 9 (.slice (some ⟨w'.heap.size, 0, none⟩) N N) (strs (splitL c l0))) := by
        have h := hr.out.set ps.length (.string ⟨r.toArray⟩)
        rw [filledS_set ps N r (by omega), filledS_full _ _ (by rw [List.length_append, hln, hone])] at h
        rw [hsp.out, hone]
        exact h.own _ N (Nat.le_refl _) (by rw [strs_length, List.length_append, hln, hone]) (by unfold maxLen; omega)
      have hN2 : ps.length + 1 = N := by rw [hone] at hln; simp at hln; omega
      clear hone hr hsp hln hln1
      go_wp2
      go_ret
      exact ⟨_, rfl, by first | exact hr'.out | (have := hr'.out; simpa [hN2] using this), hb.setCell (Nat.le_refl _) _⟩

set_option maxHeartbeats 400000 in
theorem strSplit_any (s : ByteArray) (c : UInt8) (w : World) (hs : s.size ≤ 1048576) :
    Calls Tryd.prog 30 #[.string s, .string ⟨#[c]⟩] w fun e w' => ∃ v, e = .returned v ∧ Own w' w.heap.size 9 v (strs (splitL c s.data.toList)) ∧ Below w.heap.size w w' := by
  have hs0 : s = ⟨s.data.toList.toArray⟩ := by apply ByteArray.ext; simp
  have hl := len_data s
  generalize s.data.toList = l0 at hs0 hl ⊢
  subst hs0
  rw [← hl] at hs
  go_enter Tryd.func30, Tryd.ntmps30
  go_wp2_with (go_at_call 57; refine (genSplit_any _ c _ hs).mono ?_; rintro e w' ⟨v, rfl, hown, hb⟩)
  go_ret
  exact ⟨_, rfl, hown, hb⟩

end Go.Proofs.YtfdcklekjnihjaaDoor
