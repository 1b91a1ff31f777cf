/-
  The walk of the law UriSigns.
-/
import Derived.Test.YtfdcklekjnihjabDoorAwakeUri
import Derived.Test.YtfdcklekjnihjabDoorUBackL
import Derived.Test.YtfdcklekjnihjabDoorOpenUri
import Derived.Test.YtfdcklekjnihjabDoorTextLen
namespace Go.Proofs.YtfdcklekjnihjabDoor
open Go.RowKit Sc
set_option linter.unusedVariables false
set_option maxRecDepth 20000

/-- A byte that can stand in a message as it is. -/
def okb (b : UInt8) : Bool := decide (33 ≤ b.toNat) && (decide (b.toNat ≤ 126) && !hasL b [34, 60, 62, 92, 123, 125, 124, 94])
theorem okb_users (b : UInt8) (h : okw usersK b = true) : okb b = true := byte_all (P := fun b => okw usersK b = true → okb b = true) (by decide +kernel) b h
theorem okb_params (b : UInt8) (h : okw paramsK b = true) : okb b = true := byte_all (P := fun b => okw paramsK b = true → okb b = true) (by decide +kernel) b h
theorem okb_headers (b : UInt8) (h : okw headersK b = true) : okb b = true := byte_all (P := fun b => okw headersK b = true → okb b = true) (by decide +kernel) b h
theorem okb_host (b : UInt8) (h : hob b = true) : okb b = true := byte_all (P := fun b => hob b = true → okb b = true) (by decide +kernel) b h
theorem okb_digit (b : UInt8) (h : isB b.toNat 1 = true) : okb b = true := byte_all (P := fun b => isB b.toNat 1 = true → okb b = true) (by decide +kernel) b h
theorem scheme_okb {l : List UInt8} (h : schemeB l = true) : (∀ b ∈ l, okb b = true) ∧ (44 : UInt8) ∉ l ∧ (64 : UInt8) ∉ l := by
  simp only [schemeB, Bool.or_eq_true, beq_iff_eq] at h
  rcases h with rfl | rfl | rfl <;> exact ⟨by decide +kernel, by decide, by decide⟩
theorem port_mem' {n : Int} {b : UInt8} (hb : b ∈ portT n) : b = 58 ∨ isB b.toNat 1 = true := by
  unfold portT at hb
  split at hb
  · simp at hb
  · rw [List.singleton_append, List.mem_cons] at hb
    rcases hb with h | h
    · exact Or.inl h
    · exact Or.inr (digL_mem h)
theorem textT_is (u : Uri) : textT u = u.scheme ++ ([58] ++ (userT u.user ++ (u.host ++ (portT u.port ++ (parsT u.params ++ hdrT u.headers))))) := by
  show u.scheme ++ [58] ++ userT u.user ++ u.host ++ portT u.port ++ parsT u.params ++ hdrT u.headers = _
  simp
theorem text_okb {u : Uri} (hc : checkV u = 0) : ∀ b ∈ textT u, okb b = true := by
  obtain ⟨c1, c2, c3, c4, c5, c6, c7, c8⟩ := check_ok hc
  intro b hb
  rw [textT_is] at hb
  simp only [List.mem_append, List.mem_singleton] at hb
  rcases hb with h | h | h | h | h | h | h
  · exact (scheme_okb c1).1 b h
  · subst h; decide +kernel
  · unfold userT at h
    split at h
    · simp at h
    · rcases List.mem_append.1 h with h | h
      · exact okb_users b (escL_ok _ _ b h)
      · have : b = 64 := by simpa using h
        subst this; decide +kernel
  · exact okb_host b ((host_facts c3).1 b h)
  · rcases port_mem' h with rfl | h
    · decide +kernel
    · exact okb_digit b h
  · rcases parsT_mem h with rfl | rfl | h
    · decide +kernel
    · decide +kernel
    · exact okb_params b h
  · rcases hdrT_mem h with rfl | rfl | rfl | h
    · decide +kernel
    · decide +kernel
    · decide +kernel
    · exact okb_headers b h
/-- No comma, but in the user. -/
theorem text_comma {u : Uri} (hc : checkV u = 0) : hasL 44 (if (cutL 64 (textT u)).2.2 = true then (cutL 64 (textT u)).2.1 else textT u) = false := by
  obtain ⟨c1, c2, c3, c4, c5, c6, c7, c8⟩ := check_ok hc
  obtain ⟨s1, s2, s3⟩ := scheme_okb c1
  have hrest : ∀ c : UInt8, c = 44 ∨ c = 64 → c ∉ u.host ++ (portT u.port ++ (parsT u.params ++ hdrT u.headers)) := by
    intro c hcc
    simp only [List.mem_append, not_or]
    rcases hcc with rfl | rfl
    · exact ⟨host_not c3 (by decide +kernel), portT_not (by decide) (by decide +kernel), parsT_not (by decide) (by decide) (by decide +kernel), hdrT_not (by decide) (by decide) (by decide) (by decide +kernel)⟩
    · exact ⟨host_not c3 (by decide +kernel), portT_not (by decide) (by decide +kernel), parsT_not (by decide) (by decide) (by decide +kernel), hdrT_not (by decide) (by decide) (by decide) (by decide +kernel)⟩
  have hno : ∀ l : List UInt8, (44 : UInt8) ∉ l → hasL 44 l = false := by
    intro l h; unfold hasL; simpa using h
  rw [textT_is]
  by_cases hu : u.user = []
  · have e : userT u.user = [] := by rw [userT, if_pos hu]
    rw [e, List.nil_append]
    have h64 : (64 : UInt8) ∉ u.scheme ++ ([58] ++ (u.host ++ (portT u.port ++ (parsT u.params ++ hdrT u.headers)))) := by
      rw [List.mem_append, List.mem_append, not_or, not_or]
      exact ⟨s3, by decide, hrest 64 (Or.inr rfl)⟩
    rw [cutL_miss h64]
    simp only [Bool.false_eq_true, if_false]
    apply hno
    rw [List.mem_append, List.mem_append, not_or, not_or]
    exact ⟨s2, by decide, hrest 44 (Or.inl rfl)⟩
  · have e : userT u.user = escL usersK u.user ++ [64] := by rw [userT, if_neg hu]
    have e2 : u.scheme ++ ([58] ++ (userT u.user ++ (u.host ++ (portT u.port ++ (parsT u.params ++ hdrT u.headers))))) = (u.scheme ++ ([58] ++ escL usersK u.user)) ++ 64 :: (u.host ++ (portT u.port ++ (parsT u.params ++ hdrT u.headers))) := by
      rw [e]; simp
    have h64 : (64 : UInt8) ∉ u.scheme ++ ([58] ++ escL usersK u.user) := by
      rw [List.mem_append, List.mem_append, not_or, not_or]
      exact ⟨s3, by decide, escL_not (by decide +kernel)⟩
    rw [e2, cutL_hit h64]
    simp only [if_true]
    exact hno _ (hrest 44 (Or.inl rfl))
theorem okb_of {b : UInt8} (h : okb b = true) : 33 ≤ (b.toNat : Int) ∧ (b.toNat : Int) ≤ 126 ∧ hasL b [34, 60, 62, 92, 123, 125, 124, 94] = false := by
  simp only [okb, Bool.and_eq_true, decide_eq_true_eq, Bool.not_eq_true'] at h
  exact ⟨by omega, by omega, h.2.2⟩
theorem has3_list (l : List UInt8) (c : UInt8) (w : World) (hs : l.length ≤ 9223372036854775807) :
    Calls Tryd.prog 7 #[.string ⟨l.toArray⟩, .int .u8 c.toNat] w fun e w' => e = .returned (.bool (hasL c l)) ∧ w' = w :=
  has3_any ⟨l.toArray⟩ c w (by rw [size_list]; exact hs)

end Go.Proofs.YtfdcklekjnihjabDoor
namespace Go.Proofs.YtfdcklekjnihjabDoor.uriSigns
open Go.RowKit Sc
set_option linter.unusedVariables false

set_option maxHeartbeats 4000000 in
set_option maxRecDepth 100000 in
theorem law_walk (w : World) (v0 : Value) (k0 : UriIn 140737488351232 w v0) :
    Calls Tryd.prog 3 #[v0] w fun e w' => e = .returned (.bool true) ∧ Below w.heap.size w w' := by
  obtain ⟨u, p, h, rfl, hp, hh, hsm0, hwf⟩ := k0
  have hsm : SmallU 140737488355328 u := ⟨by have := hsm0.1; omega, by have := hsm0.2.1; omega, by have := hsm0.2.2.1; omega, hsm0.2.2.2.1.le (by omega), hsm0.2.2.2.2.le (by omega)⟩
  have hbw : Below w.heap.size w (w.alloc (.cells #[.string ⟨u.scheme.toArray⟩, .string ⟨u.user.toArray⟩, .string ⟨u.host.toArray⟩, .int .i64 u.port, p, h] 24)) := (Below.refl _ w).alloc (Nat.le_refl _) _
  have K1 : Hid _ := fun w' hb => print_any u p h w' hsm (hp.below hb) (hh.below hb)
  by_cases hok : checkV u = 0
  · have hpv : printV u = (textT u, 0) := by rw [printV, if_pos hok]
    rw [hpv] at K1
    have hlen := textT_bound hok
    have hokb := text_okb hok
    have hcom := text_comma hok
    have hcl := cutL_len 64 (textT u)
    simp only at K1
    clear hsm hsm0 hp hh hpv hok
    generalize textT u = l at K1 hlen hokb hcom hcl
    have K2 : Hid _ := fun w' => cut3_list l 64 w' (by omega)
    obtain ⟨ca, cb, cc, hcut⟩ : ∃ ca cb cc, cutL 64 l = (ca, cb, cc) := ⟨_, _, _, rfl⟩
    rw [hcut] at K2 hcom hcl
    simp only at K2 hcom hcl
    have HOK : Hid _ := hokb; clear hokb
    have HCM : Hid _ := hcom; clear hcom
    unfold uriV at K1 ⊢
    go_enter Tryd.func3, Tryd.ntmps3
    go_wp2_with fail
    refine (K1.out _ hbw).mono ?_
    rintro e w2 ⟨rfl, hw2⟩
    have hb2 := hbw.trans (hw2.mono hbw.size)
    clear hbw hw2 K1
    go_wp2_with fail
    refine (K2.out _).mono ?_
    rintro e w3 ⟨rfl, q, rfl⟩
    have hb3 := hb2.trans ((below_drewN w2 q).mono hb2.size)
    clear K2 hb2 hcut
    generalize w2.drewN q = w3 at hb3 ⊢
    obtain ⟨t, ht⟩ : ∃ t : ByteArray, t = ⟨l.toArray⟩ := ⟨_, rfl⟩
    have htl : t.data.toList = l := by rw [ht]
    have hts : t.size = l.length := by rw [ht, size_list]
    have HOT : Hid (∀ k (hk : k < t.size), okb t[k] = true) := fun k hk => HOK.out _ (by
      rw [← htl]; exact List.mem_of_getElem? (getL t k hk))
    have hbeh : ∃ beh : List UInt8, beh.length ≤ l.length ∧ Hid (hasL 44 beh = false) ∧ beh = (if cc = true then cb else l) := ⟨_, by split <;> omega, HCM.out, rfl⟩
    obtain ⟨beh, hbl, hbc, hbe⟩ := hbeh
    rw [← ht]
    cases cc with
    | true =>
      simp only [if_true] at hbe
      subst hbe
      clear HOK HCM ht htl
      go_wp2
      go_loop [8] (fun i => ∃ k : Nat, k ≤ t.size ∧ i = .int .i64 k) (fun i => t.size - (intOf i).toNat)
      case atStart => exact ⟨0, by omega, rfl⟩
      case round =>
        obtain ⟨k, hk, rfl⟩ := hrel
        by_cases hlt : k < t.size
        · obtain ⟨o1, o2, o3⟩ := okb_of (HOT.out k hlt)
          go_wp2_with (go_at_call 7; refine (has3_list [34, 60, 62, 92, 123, 125, 124, 94] t[k] _ (by decide)).mono ?_; rintro e w' ⟨rfl, rfl⟩; rw [o3])
          go_round
          case rel => exact ⟨k + 1, by omega, by go_num⟩
          case measure => simp [intOf]; omega
        · go_wp2_with (first
            | (go_at_call 7; refine (has3_list beh 44 _ (by omega)).mono ?_; rintro e w' ⟨rfl, rfl⟩; rw [hbc.out])
            | (go_at_call 5; refine (awake_any _).mono ?_; rintro e w7 ⟨rfl, hw7⟩))
          go_ret
          exact ⟨rfl, hb3.trans (hw7.mono hb3.size)⟩
    | false =>
      simp only [Bool.false_eq_true, if_false] at hbe
      subst hbe
      have K4 : Hid _ := fun w' => has3_list beh 44 w' (by omega)
      rw [← ht] at K4
      clear HOK HCM ht htl
      go_wp2
      go_loop [8] (fun i => ∃ k : Nat, k ≤ t.size ∧ i = .int .i64 k) (fun i => t.size - (intOf i).toNat)
      case atStart => exact ⟨0, by omega, rfl⟩
      case round =>
        obtain ⟨k, hk, rfl⟩ := hrel
        by_cases hlt : k < t.size
        · obtain ⟨o1, o2, o3⟩ := okb_of (HOT.out k hlt)
          go_wp2_with (go_at_call 7; refine (has3_list [34, 60, 62, 92, 123, 125, 124, 94] t[k] _ (by decide)).mono ?_; rintro e w' ⟨rfl, rfl⟩; rw [o3])
          go_round
          case rel => exact ⟨k + 1, by omega, by go_num⟩
          case measure => simp [intOf]; omega
        · go_wp2_with (first
            | (go_at_call 7; refine (K4.out _).mono ?_; rintro e w' ⟨rfl, rfl⟩; rw [hbc.out])
            | (go_at_call 5; refine (awake_any _).mono ?_; rintro e w7 ⟨rfl, hw7⟩))
          go_ret
          exact ⟨rfl, hb3.trans (hw7.mono hb3.size)⟩
  · have hpv : printV u = ([], checkV u) := by rw [printV, if_neg hok]
    rw [hpv] at K1
    have hn : (checkV u != 0) = true := by simpa using hok
    have hn2 : (checkV u == 0) = false := by simpa using hok
    clear hsm hsm0 hp hh hpv hok
    simp only at K1
    unfold uriV at K1 ⊢
    go_enter Tryd.func3, Tryd.ntmps3
    go_wp2_with fail
    refine (K1.out _ hbw).mono ?_
    rintro e w2 ⟨rfl, hw2⟩
    have hb2 := hbw.trans (hw2.mono hbw.size)
    clear hbw hw2 K1
    go_wp2_with (go_at_call 5; refine (awake_any _).mono ?_; rintro e w5 ⟨rfl, hw5⟩)
    go_ret
    exact ⟨rfl, hb2.trans (hw5.mono hb2.size)⟩

end Go.Proofs.YtfdcklekjnihjabDoor.uriSigns
