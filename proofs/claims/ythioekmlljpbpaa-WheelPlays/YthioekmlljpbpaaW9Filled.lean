/-
  A wheel with timers.
-/
import Derived.Test.YthioekmlljpbpaaW9Shows
import Derived.Test.YthioekmlljpbpaaOpenInts
namespace Go.Proofs.Ythioekmlljpbpaa
open Go.RowKit Go.Sort
set_option linter.unusedVariables false
set_option maxRecDepth 20000
set_option linter.unusedSimpArgs false

/-- The row behind k settings. -/
def fillT (ats : List Int) : Nat → List Tm
  | 0 => []
  | k + 1 => setR (fillT ats k) ((k % 97 : Nat) : Int) (ats.getD k 0)
def fillL (ats : List Int) : List Tm := fillT ats (min ats.length 500)
theorem wf_small {x : Int} (h0 : 0 ≤ x) (h1 : x ≤ 1099511627776) : (Lit.int .i64 x).wf = true := by
  simp [Lit.wf, IntKind.min, IntKind.max, IntKind.signed, IntKind.bits]
  omega
/-- What may be in a wheel that was filled so. -/
def okT (t : Tm) : Prop := 0 ≤ t.2 ∧ t.2 < 97 ∧ 0 ≤ t.1 ∧ t.1 ≤ 1099511627776
theorem ok_set {l : List Tm} (h : ∀ t ∈ l, okT t) {id a : Int} (h0 : 0 ≤ id) (h1 : id < 97) : ∀ t ∈ setR l id a, okT t := by
  unfold setR
  split
  · exact h
  · rename_i hb
    split
    · exact h
    · intro t ht
      rcases set_mem.1 ht with rfl | ⟨ht, _⟩
      · unfold badS at hb
        exact ⟨h0, h1, by simp only; omega, by simp only; omega⟩
      · exact h t ht
theorem ok_fill (ats : List Int) : ∀ k, ∀ t ∈ fillT ats k, okT t
  | 0 => by intro t ht; simp [fillT] at ht
  | k + 1 => by
    rw [fillT]
    exact ok_set (ok_fill ats k) (by omega) (by omega)
theorem tmod97 (k : Nat) : (k : Int).tmod 97 = ((k % 97 : Nat) : Int) := by
  rw [Int.tmod_eq_emod_of_nonneg (by omega)]; omega

set_option maxHeartbeats 4000000 in
set_option maxRecDepth 100000 in
theorem filled_any {w : World} {v : Value} {ats : List Int} (h : IntsAt w v ats) :
    Calls Try.prog 21 #[v] w fun e w' => ∃ b, e = .returned (.pointer (some ⟨b, 0, none⟩)) ∧ WW w.heap.size b w' (fillL ats) ∧ Below w.heap.size w w' := by
  have HI := hid h
  obtain ⟨ao, cap, rfl, _⟩ := h
  obtain ⟨n, hnn⟩ : ∃ n, n = ats.length := ⟨_, rfl⟩
  have HF : Hid (∀ k, k ≤ n → k ≤ 500 → (k < n → ¬ k < 500) → fillT ats k = fillL ats) := fun k h1 h2 h3 => by
    unfold fillL
    congr 1
    rw [← hnn]; omega
  rw [← hnn] at HI ⊢
  have HN := hid hnn
  clear hnn
  go_enter Try.func21, Try.ntmps21
  go_wp2_with fail
  refine (wwnew_any _).mono ?_
  rintro e w1 ⟨b, rfl, hw1, hb1⟩
  have HW1 := hid hw1
  have HB1 := hid hb1
  clear hw1 hb1
  go_wp2
  go_loopw [4] (fun i wr => ∃ k : Nat, k ≤ n ∧ k ≤ 500 ∧ i = .int .i64 k ∧ Hid (WW w.heap.size b wr (fillT ats k)) ∧ Hid (Below w.heap.size w wr)) (fun i _ => n - (intOf i).toNat)
  case atStart => exact ⟨0, by omega, by omega, rfl, HW1, HB1⟩
  case round =>
    clear HW1 HB1
    obtain ⟨k, hk, hk5, rfl, HW, HB⟩ := hrel
    by_cases hlt : k < n
    · have hlt' : (k : Int) < (n : Int) := by omega
      by_cases h5 : k < 500
      · have h5' : (k : Int) < 500 := by omega
        have hkl : k < ats.length := by rw [← HN.out]; exact hlt
        obtain ⟨ao', cap', hv', hc⟩ := HI.out
        injection hv' with e1 e2 e3
        subst e1
        obtain ⟨a, ha, hlt2, hwf, hcell⟩ := hc k hkl
        subst ha
        have c0 := ocell_below HB.out (by rw [oadd_block]; exact hlt2) hcell
        have hmod := tmod97 k
        have hst : fillT ats (k + 1) = setR (fillT ats k) ((k % 97 : Nat) : Int) ats[k] := by
          rw [fillT, List.getD_eq_getElem?_getD, List.getElem?_eq_getElem hkl]; rfl
        have KS := hid (wwset_any HW.out (id := ((k % 97 : Nat) : Int)) (a := ats[k]) (wf_small (by omega) (by omega)))
        rw [← hst] at KS
        have hm0 : ((k % 97 : Nat) : Int) < 97 := by omega
        clear hst hcell hc e2 e3 hwf
        generalize ats[k] = x at c0 KS
        generalize ((k % 97 : Nat) : Int) = q at hmod KS hm0
        generalize setE _ _ _ = er at KS
        go_wp2_with fail
        refine KS.out.mono ?_
        rintro e w3 ⟨rfl, hw3, hf3⟩
        have W3 := hid hw3
        have B3 := hid (HB.out.trans hf3.below)
        clear KS HW HB hw3 hf3 c0
        go_wp2
        go_roundw
        case rel => exact ⟨k + 1, by omega, by omega, by go_num, W3, B3⟩
        case measure => simp [intOf]; omega
      · have h5' : decide ((k : Int) < 500) = false := decide_eq_false (by omega)
        have he := HF.out k hk hk5 (fun _ => h5)
        rw [he] at HW
        go_wp2
        go_ret
        exact ⟨b, rfl, HW.out, HB.out⟩
    · have hlt' : decide ((k : Int) < (n : Int)) = false := decide_eq_false (by omega)
      have he := HF.out k hk hk5 (fun h => absurd h hlt)
      rw [he] at HW
      go_wp2
      go_ret
      exact ⟨b, rfl, HW.out, HB.out⟩
end Go.Proofs.Ythioekmlljpbpaa
