/-
  The walk of the law UriSigns.
-/
import Derived.Test.YtfdcklekjnihjabDoorWUriBack
namespace Go.Proofs.YtfdcklekjnihjabDoor
open Go.RowKit Sc
set_option linter.unusedVariables false
set_option maxRecDepth 20000

/-- A byte that can stand in a message as it is. -/
def okb (b : UInt8) : Bool := decide (33 ≤ b.toNat) && (decide (b.toNat ≤ 126) && !hasL b [34, 60, 62, 92, 123, 125, 124, 94])
theorem okb_users (b : UInt8) (h : okw usersK b = true) : okb b = true := byte_all (P := fun b => okw usersK b = true → okb b = true) (by decide +kernel) b h
theorem okb_params (b : UInt8) (h : okw paramsK b = true) : okb b = true := byte_all (P := fun b => okw paramsK b = true → okb b = true) (by decide +kernel) b h
theorem okb_headers (b : UInt8) (h : okw headersK b = true) : okb b = true := byte_all (P := fun b => okw headersK b = true → okb b = true) (by decide +kernel) b h
theorem okb_host (b : UInt8) (h : hob b = true) : okb b = true := byte_all (P := fun b => hob b = true → okb b = true) (by decide +kernel) b h
theorem okb_digit (b : UInt8) (h : isB b.toNat 1 = true) : okb b = true := byte_all (P := fun b => isB b.toNat 1 = true → okb b = true) (by decide +kernel) b h
theorem scheme_okb {l : List UInt8} (h : schemeB l = true) : (∀ b ∈ l, okb b = true) ∧ (44 : UInt8) ∉ l ∧ (64 : UInt8) ∉ l := by
  simp only [schemeB, Bool.or_eq_true, beq_iff_eq] at h
  rcases h with rfl | rfl | rfl <;> exact ⟨by decide +kernel, by decide, by decide⟩
theorem port_mem' {n : Int} {b : UInt8} (hb : b ∈ portT n) : b = 58 ∨ isB b.toNat 1 = true := by
  unfold portT at hb
  split at hb
  · simp at hb
  · rw [List.singleton_append, List.mem_cons] at hb
    rcases hb with h | h
    · exact Or.inl h
    · exact Or.inr (digL_mem h)
theorem textT_is (u : Uri) : textT u = u.scheme ++ ([58] ++ (userT u.user ++ (u.host ++ (portT u.port ++ (parsT u.params ++ hdrT u.headers))))) := by
  show u.scheme ++ [58] ++ userT u.user ++ u.host ++ portT u.port ++ parsT u.params ++ hdrT u.headers = _
  simp
theorem text_okb {u : Uri} (hc : checkV u = 0) : ∀ b ∈ textT u, okb b = true := by
  obtain ⟨c1, c2, c3, c4, c5, c6, c7, c8⟩ := check_ok hc
  intro b hb
  rw [textT_is] at hb
  simp only [List.mem_append, List.mem_singleton] at hb
  rcases hb with h | h | h | h | h | h | h
  · exact (scheme_okb c1).1 b h
  · subst h; decide +kernel
  · unfold userT at h
    split at h
    · simp at h
    · rcases List.mem_append.1 h with h | h
      · exact okb_users b (escL_ok _ _ b h)
      · have : b = 64 := by simpa using h
        subst this; decide +kernel
  · exact okb_host b ((host_facts c3).1 b h)
  · rcases port_mem' h with rfl | h
    · decide +kernel
    · exact okb_digit b h
  · rcases parsT_mem h with rfl | rfl | h
    · decide +kernel
    · decide +kernel
    · exact okb_params b h
  · rcases hdrT_mem h with rfl | rfl | rfl | h
    · decide +kernel
    · decide +kernel
    · decide +kernel
    · exact okb_headers b h
/-- No comma, but in the user. -/
theorem text_comma {u : Uri} (hc : checkV u = 0) : hasL 44 (if (cutL 64 (textT u)).2.2 = true then (cutL 64 (textT u)).2.1 else textT u) = false := by
  obtain ⟨c1, c2, c3, c4, c5, c6, c7, c8⟩ := check_ok hc
  obtain ⟨s1, s2, s3⟩ := scheme_okb c1
  have hrest : ∀ c : UInt8, c = 44 ∨ c = 64 → c ∉ u.host ++ (portT u.port ++ (parsT u.params ++ hdrT u.headers)) := by
    intro c hcc
    simp only [List.mem_append, not_or]
    rcases hcc with rfl | rfl
    · exact ⟨host_not c3 (by decide +kernel), portT_not (by decide) (by decide +kernel), parsT_not (by decide) (by decide) (by decide +kernel), hdrT_not (by decide) (by decide) (by decide) (by decide +kernel)⟩
    · exact ⟨host_not c3 (by decide +kernel), portT_not (by decide) (by decide +kernel), parsT_not (by decide) (by decide) (by decide +kernel), hdrT_not (by decide) (by decide) (by decide) (by decide +kernel)⟩
  have hno : ∀ l : List UInt8, (44 : UInt8) ∉ l → hasL 44 l = false := by
    intro l h; unfold hasL; simpa using h
  rw [textT_is]
  by_cases hu : u.user = []
  · have e : userT u.user = [] := by rw [userT, if_pos hu]
    rw [e, List.nil_append]
    have h64 : (64 : UInt8) ∉ u.scheme ++ ([58] ++ (u.host ++ (portT u.port ++ (parsT u.params ++ hdrT u.headers)))) := by
      rw [List.mem_append, List.mem_append, not_or, not_or]
      exact ⟨s3, by decide, hrest 64 (Or.inr rfl)⟩
    rw [cutL_miss h64]
    simp only [Bool.false_eq_true, if_false]
    apply hno
    rw [List.mem_append, List.mem_append, not_or, not_or]
    exact ⟨s2, by decide, hrest 44 (Or.inl rfl)⟩
  · have e : userT u.user = escL usersK u.user ++ [64] := by rw [userT, if_neg hu]
    have e2 : u.scheme ++ ([58] ++ (userT u.user ++ (u.host ++ (portT u.port ++ (parsT u.params ++ hdrT u.headers))))) = (u.scheme ++ ([58] ++ escL usersK u.user)) ++ 64 :: (u.host ++ (portT u.port ++ (parsT u.params ++ hdrT u.headers))) := by
      rw [e]; simp
    have h64 : (64 : UInt8) ∉ u.scheme ++ ([58] ++ escL usersK u.user) := by
      rw [List.mem_append, List.mem_append, not_or, not_or]
      exact ⟨s3, by decide, escL_not (by decide +kernel)⟩
    rw [e2, cutL_hit h64]
    simp only [if_true]
    exact hno _ (hrest 44 (Or.inl rfl))
theorem okb_of {b : UInt8} (h : okb b = true) : 33 ≤ (b.toNat : Int) ∧ (b.toNat : Int) ≤ 126 ∧ hasL b [34, 60, 62, 92, 123, 125, 124, 94] = false := by
  simp only [okb, Bool.and_eq_true, decide_eq_true_eq, Bool.not_eq_true'] at h
  exact ⟨by omega, by omega, h.2.2⟩
theorem has3_list (l : List UInt8) (c : UInt8) (w : World) (hs : l.length ≤ 9223372036854775807) :
    Calls Tryd.prog 7 #[.string ⟨l.toArray⟩, .int .u8 c.toNat] w fun e w' => e = .returned (.bool (hasL c l)) ∧ w' = w :=
  has3_any ⟨l.toArray⟩ c w (by rw [size_list]; exact hs)

end Go.Proofs.YtfdcklekjnihjabDoor
namespace Go.Proofs.YtfdcklekjnihjabDoor.uriSigns
open Go.RowKit Sc
set_option linter.unusedVariables false

end Go.Proofs.YtfdcklekjnihjabDoor.uriSigns
