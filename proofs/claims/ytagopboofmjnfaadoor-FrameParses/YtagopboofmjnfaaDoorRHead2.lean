/-
  The contract of the document's own head of layer 6.
-/
import Derived.Test.YtagopboofmjnfaaDoorRHead
namespace Go.Proofs.YtagopboofmjnfaaDoor
open Go.RowKit Go.Sort Sc
set_option linter.unusedVariables false
set_option maxRecDepth 20000

/-- What head hands back. -/
def HeadRes (H : Option (List (List UInt8) × List UInt8)) (s : List UInt8) (w w' : World) (e : Ending) : Prop :=
  (H = none ∧ e = .returned (.tuple #[.slice none 0 0, .int .i64 (-1)])) ∨ ∃ (Q : List (List UInt8)) (k : Nat) (v : Value), H = some (Q, s.drop k) ∧ e = .returned (.tuple #[v, .int .i64 k]) ∧ Own w' w.heap.size 9 v (strs Q) ∧ k ≤ s.length ∧ sumL Q ≤ 8192

set_option maxHeartbeats 4000000 in
set_option maxRecDepth 100000 in
theorem rhead_any (s : List UInt8) (w : World) (hs : s.length ≤ 4096) :
    Calls Tryd.prog 45 #[.string ⟨s.toArray⟩] w fun e w' => HeadRes (headV s) s w w' e ∧ Below w.heap.size w w' := by
  obtain ⟨i0, hi, hz0, hz1, hz2⟩ := info_parts info9
  obtain ⟨H, hH⟩ : ∃ H, H = headV s := ⟨_, rfl⟩
  rw [← hH]
  have HH : Hid (H = headF [] (s.drop 0)) := show _ = _ by rw [hH, headF_is, List.drop_zero]
  clear hH
  go_enter Tryd.func45, Tryd.ntmps45
  go_wp2
  go_loopw [4, 5] (fun x i wr => ∃ (k : Nat) (Q : List (List UInt8)), k ≤ s.length ∧ i = .int .i64 k ∧ Hid (H = headF Q (s.drop k)) ∧ sumL Q ≤ 2 * k ∧ Hid (Own wr w.heap.size 9 x (strs Q)) ∧ Below w.heap.size w wr) (fun _ i _ => s.length - (intOf i).toNat)
  case atStart => exact ⟨0, [], Nat.zero_le _, rfl, HH, by simp [sumL], Own.nil _ _ _, Below.refl _ _⟩
  case round =>
    obtain ⟨k, Q, hk, rfl, hF, hsum, HO, hb⟩ := hrel
    have KL := hid (fun w' => rline_list s k w' hs hk)
    have hQl : Q.length ≤ sumL Q := by
      rw [sumL_is]; omega
    cases hlv : lineV (s.drop k) with
    | none =>
      rw [lineI_none hlv] at KL
      have hv := hid (hF.out.trans (headF_none hlv))
      clear hlv hF HO
      go_wp2_with (go_at_call 73; refine (KL.out _).mono ?_; rintro e w' ⟨rfl, hw⟩; rw [hw])
      go_ret2
      exact ⟨Or.inl ⟨hv.out, rfl⟩, hb⟩
    | some y =>
      obtain ⟨t, r⟩ := y
      rw [lineI_some hlv] at KL
      obtain ⟨hr, hnl, hloop⟩ := line_rest hlv
      clear hloop
      by_cases ht : t = []
      · subst ht
        have hv : Hid (H = some (Q, s.drop (k + 2))) := show _ = _ by
          rw [hF.out, headF_end hlv, hr]; simp
        simp only [List.length_nil, Nat.add_zero] at KL hnl
        clear hlv hF hr
        obtain ⟨xa, xc, hxe⟩ := HO.out.form
        subst hxe
        go_wp2_with (go_at_call 73; refine (KL.out _).mono ?_; rintro e w' ⟨rfl, hw⟩; rw [hw])
        go_ret2
        exact ⟨Or.inr ⟨Q, k + 2, _, hv.out, by first | rfl | go_num, HO.out, by omega, by omega⟩, hb⟩
      · have hnx := hF.out.trans (headF_on hlv ht)
        rw [hr] at hnx
        have hps := push_sum Q t
        have htl : 1 ≤ t.length := by cases t with | nil => exact absurd rfl ht | cons _ _ => simp
        have hie : t.isEmpty = false := by cases t with | nil => exact absurd rfl ht | cons _ _ => rfl
        have KT := hid (fun w' => reftrim_list t w' (by omega))
        have htr := trimL_len t
        obtain ⟨N, hN⟩ : ∃ N, N = k + t.length + 2 := ⟨_, rfl⟩
        rw [← hN] at KL hnx hnl
        have hkN : k < N := by omega
        have htN : t.length ≤ 4096 := by omega
        have hsN : sumL (pushL Q t) ≤ 2 * N := by omega
        have HNX := hid hnx
        clear hnx hN hr hlv hF hps
        obtain ⟨xa, xc, hxe⟩ := HO.out.form
        subst hxe
        rw [strs_length] at HO ⊢
        have HBA := hid (fun o => hb.alloc hb.size o)
        have HOA := hid (fun o => HO.out.alloc o)
        have happend : (¬ (2 ≤ Q.length ∧ t.head?.any blk = true)) → Hid (Q ++ [t] = pushL Q t) := fun h => (push_new h).symm
        have z0 : 0 < (⟨t.toArray⟩ : ByteArray).size := by rw [size_list]; omega
        have hbd := u8_bd ((⟨t.toArray⟩ : ByteArray)[0]'z0)
        have hblk : t.head?.any blk = (cls ((⟨t.toArray⟩ : ByteArray)[0]'z0).toNat == 32) := by
          rw [← blk_cls]
          cases t with
          | nil => exact absurd rfl ht
          | cons b r => rfl
        by_cases hq2 : 2 ≤ Q.length
        · have hq2' : (2 : Int) ≤ (Q.length : Int) := by omega
          cases hbk : (cls ((⟨t.toArray⟩ : ByteArray)[0]'z0).toNat == 32) with
          | false =>
            have hpn := happend (by rw [hblk, hbk]; simp)
            have HNV := hid (one_new wr 9 (.string ⟨t.toArray⟩))
            clear happend HO hblk KT
            go_wp2_with (first
              | (go_at_call 73; refine (KL.out _).mono ?_; rintro e w' ⟨rfl, hw⟩; rw [hw])
              | (go_at_call 60; refine (refclass_any _ _ hbd.1 hbd.2).mono ?_; rintro e w' ⟨rfl, hw⟩; rw [hw])
              | (at_builtin; refine wp_appT _ rfl (.tmp 46) (.tmp 48) 46 rfl w.heap.size 9 i0 (.string .empty) Tryd.underlying46 hi hz0 hz1 hz2 rfl _ Q rfl (HOA.out _) ⟨_, 0, none⟩ 1 [t] 1 rfl rfl (by exact HNV.out) (by omega) w (HBA.out _) (by have := hb.size; simp; omega) ?_; intro v5 w5 hown5 hb5 hB5))
            rw [hpn.out] at hown5
            have HO5 := hid hown5
            clear hown5
            go_wp2
            go_roundw
            case rel => exact ⟨N, pushL Q t, hnl, rfl, HNX, hsN, HO5, hb5⟩
            case measure => simp [intOf]; omega
          | true =>
            rw [hbk] at hblk
            have hQne : Q ≠ [] := by intro e; rw [e] at hq2; simp at hq2
            obtain ⟨I, z, rfl⟩ : ∃ I z, Q = I ++ [z] := ⟨Q.dropLast, Q.getLast hQne, (List.dropLast_concat_getLast _).symm⟩
            have hzl : z.length ≤ 8192 := by have := sumL_mem (I ++ [z]) z (by simp); omega
            have hset : Hid (strs ((I ++ [z]).set I.length ((z ++ [32]) ++ trimL t)) = strs (pushL (I ++ [z]) t)) := show _ = _ by
              rw [push_fold hq2 hblk]; simp
            obtain ⟨g, cp, hve, hpc, hg, hBg, hcl⟩ := own_cells HO.out hQne
            have hz1c := hcl I.length (by simp)
            simp only [List.getElem_concat_length] at hz1c
            simp only [Value.slice.injEq] at hve
            obtain ⟨rfl, _, rfl⟩ := hve
            have hql : (I ++ [z]).length = I.length + 1 := by simp
            rw [hql] at HO hpc hq2 hq2'
            have hqI : I.length ≤ 8192 := by omega
            have hwr : IntKind.i64.wrap (I.length : Int) = (I.length : Int) := by
              simp [IntKind.wrap, IntKind.bits, IntKind.signed]; omega
            have hin : 0 ≤ (I.length : Int) ∧ (I.length : Int) < (I.length : Int) + 1 := by omega
            generalize trimL t = tr at KT htr hset
            have hf0 := own_frozen HO.out I.length
            have HOW := own_set HO.out I.length (.string ⟨((z ++ [32]) ++ tr).toArray⟩)
            have HBB := hb.setCell (p := ⟨g, I.length, none⟩) hBg (.string ⟨((z ++ [32]) ++ tr).toArray⟩)
            rw [strs_set, hset.out] at HOW
            have q1 : ¬ 9223372036854775807 < z.length + 1 := by omega
            have q2 : ¬ 9223372036854775807 < z.length + 1 + tr.length := by omega
            have hglue : ((⟨z.toArray⟩ : ByteArray) ++ ⟨#[32]⟩) ++ ⟨tr.toArray⟩ = ⟨((z ++ [32]) ++ tr).toArray⟩ := by
              rw [show (⟨#[32]⟩ : ByteArray) = ⟨[32].toArray⟩ from rfl, ByteArray.mk_append_mk, ByteArray.mk_append_mk]
            rw [show (z ++ [32]) ++ tr = z ++ 32 :: tr by simp] at HBB HOW
            have HOW2 := hid HOW.drew
            have HBB2 := hid HBB.drew
            clear HOW HBB happend HO HOA hcl hset hql HBA hQne
            simp only [List.length_append, List.length_cons, List.length_nil, Nat.zero_add]
            go_wp2_with (first
              | (go_at_call 73; refine (KL.out _).mono ?_; rintro e w' ⟨rfl, hw⟩; rw [hw])
              | (go_at_call 60; refine (refclass_any _ _ hbd.1 hbd.2).mono ?_; rintro e w' ⟨rfl, hw⟩; rw [hw]))
            go_region_law (go_simp; go_at_call 49; refine (KT.out _).mono ?_; rintro e w3 ⟨rfl, hw3⟩; rw [hw3])
            all_goals
              go_wp2
              go_roundw
              case rel => exact ⟨N, pushL (I ++ [z]) t, hnl, rfl, HNX, hsN, HOW2, HBB2.out⟩
              case measure => simp [intOf]; omega
        · have hq2' : ¬ ((2 : Int) ≤ (Q.length : Int)) := by omega
          have hpn := happend (by omega)
          have HNV := hid (one_new wr 9 (.string ⟨t.toArray⟩))
          clear happend HO hblk KT
          go_wp2_with (first
            | (go_at_call 73; refine (KL.out _).mono ?_; rintro e w' ⟨rfl, hw⟩; rw [hw])
            | (at_builtin; refine wp_appT _ rfl (.tmp 46) (.tmp 48) 46 rfl w.heap.size 9 i0 (.string .empty) Tryd.underlying46 hi hz0 hz1 hz2 rfl _ Q rfl (HOA.out _) ⟨_, 0, none⟩ 1 [t] 1 rfl rfl (by exact HNV.out) (by omega) w (HBA.out _) (by have := hb.size; simp; omega) ?_; intro v5 w5 hown5 hb5 hB5))
          rw [hpn.out] at hown5
          have HO5 := hid hown5
          clear hown5
          go_wp2
          go_roundw
          case rel => exact ⟨N, pushL Q t, hnl, rfl, HNX, hsN, HO5, hb5⟩
          case measure => simp [intOf]; omega

end Go.Proofs.YtagopboofmjnfaaDoor
