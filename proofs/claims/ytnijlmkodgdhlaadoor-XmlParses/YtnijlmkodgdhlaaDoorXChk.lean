/-
  Contracts: package xml's find, attrsMayBe, placed, Check.
-/
import Derived.Test.YtnijlmkodgdhlaaDoorYQ
import Derived.Test.YtnijlmkodgdhlaaDoorYR
import Derived.Test.YtnijlmkodgdhlaaDoorRX9
namespace Go.Proofs.YtnijlmkodgdhlaaDoor
open Go.RowKit Sc
set_option linter.unusedVariables false
set_option maxRecDepth 20000
set_option linter.unusedSimpArgs false

/-- The place of the first attribute of a name; below 0: there is none. -/
def findX (nm : List UInt8) : List Par → Nat → Int
  | [], _ => -1
  | p :: ps, k => if p.name = nm then (k : Int) else findX nm ps (k + 1)
theorem findX_at {nm : List UInt8} {l : List Par} {k : Nat} (hk : k < l.length) : findX nm (l.drop k) k = if l[k].name = nm then (k : Int) else findX nm (l.drop (k + 1)) (k + 1) := by
  rw [List.drop_eq_getElem_cons hk, findX]
theorem findX_end {nm : List UInt8} {l : List Par} {k : Nat} (hk : l.length ≤ k) : findX nm (l.drop k) k = -1 := by
  rw [List.drop_eq_nil_of_le hk]; rfl
theorem findX_ge (nm : List UInt8) : ∀ (l : List Par) (k : Nat), findX nm l k = -1 ∨ (k : Int) ≤ findX nm l k
  | [], k => .inl rfl
  | p :: ps, k => by
    rw [findX]
    split
    · exact .inr (Int.le_refl _)
    · rcases findX_ge nm ps (k + 1) with h | h
      · exact .inl h
      · exact .inr (by omega)
/-- An attribute's name is its own just if none ahead has it. -/
theorem find_own {l : List Par} {j : Nat} (hj : j < l.length) : ∀ k, k ≤ j → (findX l[j].name (l.drop k) k = (j : Int) ↔ ∀ m (hm : m < j), k ≤ m → (l[m]'(by omega)).name ≠ l[j].name) := by
  intro k hk
  induction hd : j - k generalizing k with
  | zero =>
    have : k = j := by omega
    subst this
    rw [findX_at hj, if_pos rfl]
    exact ⟨fun _ m hm hk => by omega, fun _ => rfl⟩
  | succ n ih =>
    have hkl : k < l.length := by omega
    rw [findX_at hkl]
    by_cases h : l[k].name = l[j].name
    · rw [if_pos h]
      constructor
      · intro e; omega
      · intro e; exact absurd h (e k (by omega) (Nat.le_refl _))
    · rw [if_neg h, ih (k + 1) (by omega) (by omega)]
      constructor
      · intro e m hm hkm
        by_cases hq : m = k
        · subst hq; exact h
        · exact e m hm (by omega)
      · intro e m hm hkm
        exact e m hm (by omega)
theorem lt_of_at {w : World} {p : Addr} {v : Value} (h : w.cell? p = some v) : p.block < w.heap.size := World.block_lt_of_cell? _ _ h
set_option maxHeartbeats 2000000 in
set_option maxRecDepth 100000 in
theorem xfind_any (v : Value) (ps : List Par) (nm : List UInt8) (w : World) (hz : ps.length ≤ 140737488355328) (hv : ParsAt w v ps) :
    Calls Tryd.prog 42 #[v, .string ⟨nm.toArray⟩] w fun e w' => e = .returned (.int .i64 (findX nm ps 0)) ∧ Below w.heap.size w w' := by
  obtain ⟨ao, cap, rfl, hc⟩ := hv.open
  have HC := hid hc
  clear hc hv
  obtain ⟨R, hR⟩ : ∃ R, R = findX nm ps 0 := ⟨_, rfl⟩
  rw [← hR]
  have HR : Hid (R = findX nm (ps.drop 0) 0) := hR
  obtain ⟨n, hn⟩ : ∃ n, n = ps.length := ⟨_, rfl⟩
  rw [← hn] at hz ⊢
  have HL := hid hn
  clear hn hR
  go_enter Tryd.func42, Tryd.ntmps42
  go_wp2
  go_loopw [9] (fun i wr => ∃ k : Nat, k ≤ n ∧ i = .int .i64 k ∧ Hid (R = findX nm (ps.drop k) k) ∧ Below w.heap.size w wr) (fun i _ => n - (intOf i).toNat)
  case atStart => exact ⟨0, Nat.zero_le _, rfl, HR, Below.refl _ _⟩
  case round =>
    obtain ⟨k, hk, rfl, hv, hb⟩ := hrel
    clear HR
    by_cases hlt : k < n
    · have hkl : k < ps.length := by have := HL.out; omega
      obtain ⟨ad, hao, hab, c0, c1, c2⟩ := HC.out k hkl
      subst hao
      have hv2 := hv.out
      rw [findX_at hkl] at hv2
      have q6 : (k : Int) < (n : Int) := by omega
      have a0 := cell_below hb (by rw [add_block]; exact hab) c0
      have a1 := cell_below hb (by simp only [add_block]; exact hab) c1
      have a2 := cell_below hb (by simp only [add_block]; exact hab) c2
      have hbn : Below w.heap.size w (wr.alloc (.cells #[.string ⟨ps[k].name.toArray⟩, .string ⟨ps[k].value.toArray⟩, .bool ps[k].has] 45)) := hb.alloc hb.size _
      clear c0 c1 c2
      generalize ps[k] = P at a0 a1 a2 hv2 hbn
      obtain ⟨pn, pv, ph⟩ := P
      simp only at a0 a1 a2 hv2 hbn
      by_cases he : pn = nm
      · rw [if_pos he] at hv2
        have hE := hid hv2
        have e1 : (pn == nm) = true := by rw [beq_iff_eq]; exact he
        clear hv hv2 he
        go_wp2
        go_ret
        exact ⟨by rw [hE.out]; rfl, hbn⟩
      · rw [if_neg he] at hv2
        have hE := hid hv2
        have e1 : (pn == nm) = false := by rw [beq_eq_false_iff_ne]; exact he
        clear hv hv2 he
        go_wp2
        go_roundw
        case rel => exact ⟨k + 1, by omega, by go_num, hE, hbn⟩
        case measure => simp [intOf]; omega
    · have hE : Hid (R = -1) := show _ = _ by rw [hv.out]; exact findX_end (by have := HL.out; omega)
      clear hv
      go_wp2
      go_ret
      exact ⟨by rw [hE.out]; rfl, hb⟩
end Go.Proofs.YtnijlmkodgdhlaaDoor
