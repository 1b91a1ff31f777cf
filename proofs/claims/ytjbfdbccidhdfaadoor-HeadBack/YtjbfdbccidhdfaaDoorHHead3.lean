/-
  Contracts: package head's Type and Accepts.
-/
import Derived.Test.YtjbfdbccidhdfaaDoorHHead1
import Derived.Test.YtjbfdbccidhdfaaDoorHRef7
namespace Go.Proofs.YtjbfdbccidhdfaaDoor
open Go.RowKit Sc
set_option linter.unusedVariables false
set_option maxRecDepth 20000
set_option linter.unusedSimpArgs false

theorem typeOk_two {t a b : List UInt8} {f : Bool} (h : cutL 47 t = (a, b, f)) : typeOk t = (tokenB a && tokenB b) := by
  unfold typeOk
  rw [h]
  cases f with
  | true => rfl
  | false =>
    have hb := cutL_not 47 t (by rw [h])
    rw [h] at hb
    simp only [Prod.mk.injEq] at hb
    obtain ⟨_, hb, _⟩ := hb
    subst hb
    have : tokenB [] = false := by decide +kernel
    simp [this]
theorem takesB_yes {t : List UInt8} (h : typeOk t = true) (hl : lowL t = t) (r : List UInt8) : takesB t r = (typeT r == t || (typeT r == [42, 47, 42] || typeT r == (cutL 47 t).1 ++ [47, 42])) := by
  rw [takesB_is, h, Bool.true_and]
  generalize typeT r = rt
  have h1 := star_ok.1
  have h2 := (front_ok h hl).1
  unfold starK at h1
  cases e1 : (rt == t) with
  | true => rw [eq_of_beq e1, h]; rfl
  | false =>
    cases e2 : (rt == [42, 47, 42]) with
    | true => rw [eq_of_beq e2, h1]; rfl
    | false =>
      cases e3 : (rt == (cutL 47 t).1 ++ [47, 42]) with
      | true => rw [eq_of_beq e3, h2]; rfl
      | false => simp

set_option maxHeartbeats 1000000 in
set_option maxRecDepth 100000 in
theorem htype_any (s : List UInt8) (w : World) (hs : s.length ≤ 1048576) :
    Calls Tryd.prog 29 #[.string ⟨s.toArray⟩] w fun e w' => e = .returned (.tuple #[.string ⟨(typeT s).toArray⟩, .bool (typeOk (typeT s))]) ∧ Below w.heap.size w w' := by
  obtain ⟨p0', ps0, hpt⟩ := partsG_cons 59 s pl0 []
  have hpt2 : partsV 59 s = p0' :: ps0 := hpt
  have hmem := h_mem_len 59 s
  rw [hpt2] at hmem
  have hp0 := hmem p0' (by simp)
  have htp := trimL_len p0'
  have KP := hid (fun w' => parts_of hpt2 w' (by omega))
  have KTT := hid (fun w' => trim_list p0' w' (by omega))
  have KL := hid (fun w' => lower_list (trimL p0') w' (by omega))
  rw [typeT_of hpt2]
  have hll : (lowL (trimL p0')).length = (trimL p0').length := by simp [lowL]
  generalize trimL p0' = tp at KTT KL htp hll ⊢
  generalize lowL tp = t at KL hll ⊢
  obtain ⟨a, b, f, hcut⟩ : ∃ a b f, cutL 47 t = (a, b, f) := ⟨_, _, _, rfl⟩
  have hcl := cutL_len 47 t
  rw [hcut] at hcl
  simp only at hcl
  have KC := hid (fun w' => hcutS_of (c := 47) hcut w' (by omega))
  have KA := hid (fun w' => token_list a w' (by omega))
  have KB := hid (fun w' => token_list b w' (by omega))
  have HV := hid (typeOk_two hcut)
  generalize typeOk t = R at HV ⊢
  clear hpt hpt2 hmem hcut
  go_enter Tryd.func29, Tryd.ntmps29
  go_wp2_with fail
  refine (KP.out _).mono ?_
  rintro e w5 ⟨g, cap, rfl, hcap, hgl, hcells, hw5⟩
  have hg0 := hcells 0 (by simp)
  simp only [List.getElem_cons_zero] at hg0
  clear hcells KP
  go_wp2_with fail
  refine (KTT.out _).mono ?_
  rintro e w6 ⟨rfl, hw6⟩
  have hb6 := hw5.trans (hw6.mono hw5.size)
  clear hg0 KTT hw5 hw6
  go_wp2_with fail
  refine (KL.out _).mono ?_
  rintro e w7 ⟨rfl, hw7⟩
  have hb7 := hb6.trans (hw7.mono hb6.size)
  clear hb6 hw7 KL
  go_wp2_with fail
  refine (KC.out _).mono ?_
  rintro e w8 ⟨rfl, hw8⟩
  have hb8 := hb7.trans (hw8.mono hb7.size)
  clear KC hw8 hb7
  cases hta : tokenB a with
  | false =>
    rw [hta] at KA HV
    go_wp2_with fail
    refine (KA.out _).mono ?_
    rintro e wx ⟨rfl, hwx⟩
    rw [hwx]
    clear hwx
    go_wp2
    go_ret2
    exact ⟨by rw [HV.out]; rfl, hb8⟩
  | true =>
    rw [hta] at KA HV
    go_wp2_with fail
    refine (KA.out _).mono ?_
    rintro e wx ⟨rfl, hwx⟩
    rw [hwx]
    clear hwx
    cases htb : tokenB b with
    | false =>
      rw [htb] at KB HV
      go_wp2_with fail
      refine (KB.out _).mono ?_
      rintro e wx ⟨rfl, hwx⟩
      rw [hwx]
      clear hwx
      go_wp2
      go_ret2
      exact ⟨by rw [HV.out]; rfl, hb8⟩
    | true =>
      rw [htb] at KB HV
      go_wp2_with fail
      refine (KB.out _).mono ?_
      rintro e wx ⟨rfl, hwx⟩
      rw [hwx]
      clear hwx
      go_wp2
      go_ret2
      exact ⟨by rw [HV.out]; rfl, hb8⟩

set_option maxHeartbeats 2000000 in
set_option maxRecDepth 100000 in
theorem haccepts_any (v : Value) (ls : List (List UInt8)) (s : List UInt8) (w : World) (hl : ∀ l ∈ ls, l.length ≤ 1048576) (hn : ls.length ≤ 4194304) (hs : s.length ≤ 1048576) (hv : StrsAt w v ls) :
    Calls Tryd.prog 31 #[v, .string ⟨s.toArray⟩] w fun e w' => e = .returned (.bool (acceptsB ls s)) ∧ Below w.heap.size w w' := by
  obtain ⟨ao, cap, rfl, hc⟩ := hv
  have HC := hid hc
  have HL := hid hl
  have KT := hid (fun w' => htype_any s w' hs)
  have htl := typeT_len s
  have HHIT := hid (fun k (hk : k < ls.length) (h : takesB (typeT s) ls[k] = true) => accepts_hit hk h)
  have HNONE := hid (fun (h : ∀ r ∈ ls, takesB (typeT s) r = false) => accepts_none h)
  have HTK := hid (fun (h : typeOk (typeT s) = true) r => takesB_yes h (type_low s) r)
  have HNO : Hid (typeOk (typeT s) = false → acceptsB ls s = false) := fun h => accepts_not h
  generalize acceptsB ls s = R at HHIT HNONE HNO ⊢
  generalize typeT s = t at KT htl HHIT HNONE HTK HNO
  obtain ⟨a, b, f, hcut⟩ : ∃ a b f, cutL 47 t = (a, b, f) := ⟨_, _, _, rfl⟩
  have hcl := cutL_len 47 t
  rw [hcut] at hcl
  simp only at hcl
  have KC := hid (fun w' => hcutS_of (c := 47) hcut w' (by omega))
  rw [hcut] at HTK
  simp only at HTK
  generalize typeOk t = ok at KT HTK HNO
  have hga := starglue a
  have hafl : (a ++ [47, 42]).length ≤ 1048578 := by simp; omega
  generalize a ++ [47, 42] = af at hga HTK hafl
  have HTB : ∃ F : List UInt8 → Bool, F = takesB t := ⟨_, rfl⟩
  obtain ⟨F, hF⟩ := HTB
  rw [← hF] at HHIT HNONE HTK
  clear hc hl hcut hF
  obtain ⟨n, hn'⟩ : ∃ n, n = ls.length := ⟨_, rfl⟩
  rw [← hn'] at hn ⊢
  have HN := hid hn'
  clear hn'
  go_enter Tryd.func31, Tryd.ntmps31
  go_wp2_with fail
  refine (KT.out _).mono ?_
  rintro e w1 ⟨rfl, hw1⟩
  clear KT
  cases ok with
  | false =>
    have HR := hid (HNO.out rfl)
    go_wp2
    go_ret
    exact ⟨ret_bool HR.out.symm, hw1⟩
  | true =>
  have HTK2 := hid (HTK.out rfl)
  clear HTK HNO
  go_wp2_with fail
  refine (KC.out _).mono ?_
  rintro e w2 ⟨rfl, hw2⟩
  have hb2 := hw1.trans (hw2.mono hw1.size)
  clear KC hw1 hw2
  go_wp2
  go_loopw [29] (fun i wr => ∃ k : Nat, k ≤ n ∧ i = .int .i64 k ∧ Hid (∀ r ∈ ls.take k, F r = false) ∧ Below w.heap.size w wr) (fun i _ => n - (intOf i).toNat)
  case atStart => exact ⟨0, by omega, rfl, hid (by simp), hb2⟩
  case round =>
    clear hb2
    obtain ⟨k, hk, rfl, HA, hb⟩ := hrel
    by_cases hlt : k < n
    · have hkl : k < ls.length := by have := HN.out; omega
      obtain ⟨ad, hao, hab, hcell⟩ := HC.out k hkl
      have hcell2 := cell_below hb (by rw [add_block]; exact hab) hcell
      have hll := HL.out _ (List.getElem_mem hkl)
      subst hao
      have KR := hid (fun w' => htype_any ls[k] w' hll)
      have hhit := HHIT.out k hkl
      have htk := HTK2.out ls[k]
      have htake : ls.take (k + 1) = ls.take k ++ [ls[k]] := List.take_succ_eq_append_getElem hkl
      have HA2 : Hid (F ls[k] = false → ∀ r ∈ ls.take (k + 1), F r = false) := fun h r hr => by
        rw [htake] at hr
        rcases List.mem_append.1 hr with hr | hr
        · exact HA.out r hr
        · simp at hr; subst hr; exact h
      clear hcell hll htake HA
      have HHK := hid hhit
      have HTK1 := hid htk
      clear hhit htk
      generalize F ls[k] = tb at HHK HTK1 HA2
      generalize typeT ls[k] = rt at KR HTK1
      generalize typeOk rt = ri at KR
      go_wp2_with fail
      refine (KR.out _).mono ?_
      rintro e w3 ⟨rfl, hw3⟩
      have hb3 := hb.trans (hw3.mono hb.size)
      clear KR hw3 hb hcell2
      cases h1 : (rt == t) with
      | true =>
        have HR := hid (HHK.out (by rw [HTK1.out, h1]; rfl))
        go_wp2
        go_ret
        exact ⟨ret_bool HR.out.symm, hb3⟩
      | false =>
        cases h2 : (rt == [42, 47, 42]) with
        | true =>
          have HR := hid (HHK.out (by rw [HTK1.out, h1, h2]; rfl))
          go_wp2
          go_ret
          exact ⟨ret_bool HR.out.symm, hb3⟩
        | false =>
          cases h3 : (rt == af) with
          | true =>
            have HR := hid (HHK.out (by rw [HTK1.out, h1, h2, h3]; rfl))
            go_wp2
            go_ret
            exact ⟨ret_bool HR.out.symm, hb3⟩
          | false =>
            have HF : Hid (tb = false) := show _ = _ by rw [HTK1.out, h1, h2, h3]; rfl
            go_wp2
            go_roundw
            case rel => exact ⟨k + 1, by omega, by go_num, hid (HA2.out HF.out), hb3⟩
            case measure => simp [intOf]; omega
    · have hall : ∀ r ∈ ls, F r = false := by
        have := HA.out
        rw [List.take_of_length_le (by have := HN.out; omega)] at this
        exact this
      have HR := hid (HNONE.out hall)
      clear hall
      go_wp2
      go_ret
      exact ⟨ret_bool HR.out.symm, hb⟩

end Go.Proofs.YtjbfdbccidhdfaaDoor
