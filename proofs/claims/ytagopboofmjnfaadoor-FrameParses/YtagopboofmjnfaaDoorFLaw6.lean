/-
  Contracts over messages as the laws of layer 6 hand them on.
-/
import Derived.Test.YtagopboofmjnfaaDoorFAwake
import Derived.Test.YtagopboofmjnfaaDoorOpenMsg
import Derived.Test.YtagopboofmjnfaaDoorOpenBytes
import Derived.Test.YtagopboofmjnfaaDoorFMax
namespace Go.Proofs.YtagopboofmjnfaaDoor
open Go.RowKit Go.Sort Sc
set_option linter.unusedVariables false
set_option maxRecDepth 20000

theorem hdrG_lens (rest : List UInt8) (hr : rest.length ≤ 4096) {N : Nat} (hN : 16 ≤ N) : ∀ (ts : List (List UInt8)) (m : Ms) (size : Nat) (told : Bool) (r : Ms) (n : Int), hdrG rest m size told ts = (r, n) → (∀ t ∈ ts, t.length ≤ N) → (∀ p ∈ m.headers, p.name.length ≤ N + 16 ∧ p.value.length ≤ N + 16) → m.method.length ≤ N → m.target.length ≤ N → m.reason.length ≤ N → m.body.length ≤ 4096 →
    (∀ p ∈ r.headers, p.name.length ≤ N + 16 ∧ p.value.length ≤ N + 16) ∧ r.method.length ≤ N ∧ r.target.length ≤ N ∧ r.reason.length ≤ N ∧ r.body.length ≤ 4096
  | [], m, size, told, r, n, h, ht, hp, h1, h2, h3, h4 => by
    rw [hdrG] at h
    split at h
    · obtain ⟨rfl, rfl⟩ := Prod.mk.inj h; simp [noM]
    · obtain ⟨rfl, rfl⟩ := Prod.mk.inj h
      exact ⟨hp, h1, h2, h3, by simp only [List.length_take]; omega⟩
  | t :: ts, m, size, told, r, n, h, ht, hp, h1, h2, h3, h4 => by
    rw [hdrG] at h
    split at h
    · obtain ⟨rfl, rfl⟩ := Prod.mk.inj h; simp [noM]
    · split at h
      · split at h
        · obtain ⟨rfl, rfl⟩ := Prod.mk.inj h; simp [noM]
        · refine hdrG_lens rest hr hN ts _ size told r n h (fun x hx => ht x (by simp [hx])) ?_ h1 h2 h3 h4
          intro p hp2
          rcases List.mem_append.1 hp2 with hp2 | hp2
          · exact hp p hp2
          · simp at hp2; subst hp2
            have := headerC_len t
            have htl := ht t (by simp)
            unfold headerC at this
            simp only at this ⊢
            omega
      · split at h
        · obtain ⟨rfl, rfl⟩ := Prod.mk.inj h; simp [noM]
        · exact hdrG_lens rest hr hN ts m _ true r n h (fun x hx => ht x (by simp [hx])) hp h1 h2 h3 h4
theorem startC_lens (s : List UInt8) : (startC s).1.method.length ≤ s.length ∧ (startC s).1.target.length ≤ s.length ∧ (startC s).1.reason.length ≤ s.length := by
  have l1 := cutL_len 32 s
  have l2 := cutL_len 32 (cutL 32 s).2.1
  unfold startC
  split
  · simp [noM]
  · split
    · simp only [List.length_nil]; omega
    · split
      · simp only [List.length_nil]; omega
      · simp [noM]
/-- What is parsed is small. -/
theorem parseM_small {s : List UInt8} {m : Ms} (h : parseM s = (m, 0)) : SmallM 140737488355328 m ∧ m.headers.length ≤ 64 := by
  have hck := parseM_checked h
  obtain ⟨f1, f2, f3⟩ := checkM_ok hck
  refine ⟨?_, f2⟩
  by_cases h4 : 4096 < s.length
  · rw [parse_long h4] at h; simp at h
  · by_cases he : (Lib.cut s crlf4).2.2 = false ∨ List.isPrefixOf crlf s = true
    · rw [parse_end h4 he] at h; simp at h
    · simp only [not_or, Bool.not_eq_false, Bool.not_eq_true] at he
      have hcl := cut4_len s
      obtain ⟨a, b, en, hcut⟩ : ∃ a b en, Lib.cut s crlf4 = (a, b, en) := ⟨_, _, _, rfl⟩
      rw [hcut] at he hcl
      simp only at he hcl
      obtain ⟨rfl, hp⟩ := he
      obtain ⟨q1, q2, q3⟩ := lines_len a
      have hh := (head_cut s.length s [] (Nat.le_refl _) hp).1
      rw [hcut, if_pos rfl] at hh
      have hv : headV s = some (linesV a, b) := by rw [headF_is]; exact hh
      rw [parseM, if_neg h4, hv] at h
      simp only at h
      rw [if_neg (by intro e; rw [e] at q2; simp at q2), start_is] at h
      have hl0 : ((linesV a).headD []).length ≤ 4 * a.length + 6 := by
        cases hL : linesV a with
        | nil => simp
        | cons x xs => exact q3 x (by rw [hL]; simp)
      have hs := startC_lens ((linesV a).headD [])
      have hs2 := startC_hs ((linesV a).headD [])
      cases hsb : (startC ((linesV a).headD [])).2 with
      | false => rw [hsb] at h; simp at h
      | true =>
        rw [hsb] at h
        simp only [if_true] at h
        have := hdrG_lens b (by omega) (N := 20000) (by omega) (linesV a).tail _ b.length false m 0 h (fun t ht => by have := q3 t (List.mem_of_mem_tail ht); omega) (by rw [hs2.1]; simp) (by omega) (by omega) (by omega) (by rw [hs2.2]; simp)
        obtain ⟨r1, r2, r3, r4, r5⟩ := this
        exact ⟨by omega, by omega, by omega, by omega, by omega, fun p hp => by have := r1 p hp; omega⟩

end Go.Proofs.YtagopboofmjnfaaDoor
