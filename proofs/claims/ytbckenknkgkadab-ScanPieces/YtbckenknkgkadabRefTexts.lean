/-
  The contract of the document's own Texts, of two equal lists.
-/
import Derived.Test.YtbckenknkgkadabParts
import Derived.Deep.QuietTactic
import Derived.BigQuiet
namespace Go.Proofs.Ytbckenknkgkadab
open Go.RowKit Sc
set_option linter.unusedVariables false

theorem own_strs {w : World} {B e : Nat} {v : Value} {ps : List (List UInt8)} (h : Own w B e v (strs ps)) (hne : ps ≠ []) :
    ∃ g cap, v = .slice (some ⟨g, 0, none⟩) ps.length cap ∧ ∀ j (hj : j < ps.length), w.cell? ⟨g, j, none⟩ = some (.string ⟨(ps[j]).toArray⟩) := by
  rcases h.2 with ⟨rfl, hn⟩ | ⟨g, cap, cur, rfl, hb, hg, _⟩
  · rw [strs_length] at hn
    exact absurd (List.eq_nil_of_length_eq_zero hn) hne
  · refine ⟨g, cap, by rw [strs_length], fun j hj => ?_⟩
    have := World.ownsRow.cells h (g := g) rfl j (.string ⟨(ps[j]).toArray⟩) (by simp [strs, hj])
    unfold Addr.add at this
    by_cases h0 : j = 0
    · subst h0; simpa using this
    · simpa [h0] using this

set_option maxHeartbeats 1000000 in
theorem texts_eq (B1 B2 : Nat) (v1 v2 : Value) (ps : List (List UInt8)) (w : World) (h1 : Own w B1 9 v1 (strs ps)) (h2 : Own w B2 9 v2 (strs ps)) (hne : ps ≠ []) (hl : ps.length ≤ 281474976710656) :
    Calls Try.prog 7 #[v1, v2] w fun e w' => e = .returned (.bool true) ∧ ∃ q, w' = w.drewN q := by
  obtain ⟨g1, c1, rfl, k1⟩ := own_strs h1 hne
  obtain ⟨g2, c2, rfl, k2⟩ := own_strs h2 hne
  have K1 : Hid (∀ j (hj : j < ps.length), w.cell? ⟨g1, j, none⟩ = some (.string ⟨(ps[j]).toArray⟩)) := k1
  have K2 : Hid (∀ j (hj : j < ps.length), w.cell? ⟨g2, j, none⟩ = some (.string ⟨(ps[j]).toArray⟩)) := k2
  clear k1 k2 h1 h2 hne
  go_enter Try.func7, Try.ntmps7
  go_wp2
  go_loopw [5] (fun i wr => ∃ (k q : Nat), k ≤ ps.length ∧ i = .int .i64 k ∧ wr = w.drewN q) (fun i _ => ps.length - (intOf i).toNat)
  case atStart => exact ⟨0, 0, Nat.zero_le _, rfl, rfl⟩
  case round =>
    obtain ⟨k, q, hk, rfl, rfl⟩ := hrel
    by_cases hlt : k < ps.length
    · have f1 := K1.out k hlt
      have f2 := K2.out k hlt
      have q6 : (k : Int) < (ps.length : Int) := by omega
      go_wp2
      go_quiet (fail)
      go_wp2
      go_roundw
      case rel => exact ⟨k + 1, q + nq, by omega, by go_num, rfl⟩
      case measure => simp [intOf]; omega
    · go_wp2
      go_ret
      exact ⟨rfl, q, rfl⟩

end Go.Proofs.Ytbckenknkgkadab
