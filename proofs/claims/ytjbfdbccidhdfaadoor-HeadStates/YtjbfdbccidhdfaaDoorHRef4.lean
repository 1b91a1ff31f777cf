/-
  Contracts: the document's own Type and Accepts.
-/
import Derived.Test.YtjbfdbccidhdfaaDoorHRef2
namespace Go.Proofs.YtjbfdbccidhdfaaDoor
open Go.RowKit Sc
set_option linter.unusedVariables false
set_option maxRecDepth 20000

theorem typeT_of {s p0 : List UInt8} {ps : List (List UInt8)} (h : partsV 59 s = p0 :: ps) : typeT s = lowL (trimL p0) := by
  unfold typeT; rw [h]; rfl
theorem typeT_len (s : List UInt8) : (typeT s).length ≤ s.length := by
  obtain ⟨p0, ps, hpt⟩ := partsG_cons 59 s pl0 []
  have hpt2 : partsV 59 s = p0 :: ps := hpt
  have hm := h_mem_len 59 s p0 (by rw [hpt2]; simp)
  have := trimL_len p0
  rw [typeT_of hpt2]; simp [lowL]; omega

set_option maxHeartbeats 1000000 in
set_option maxRecDepth 100000 in
theorem rtype_any (s : List UInt8) (w : World) (hs : s.length ≤ 1048576) :
    Calls Tryd.prog 30 #[.string ⟨s.toArray⟩] w fun e w' => e = .returned (.tuple #[.string ⟨(typeT s).toArray⟩, .bool (typeOk (typeT s))]) ∧ Below w.heap.size w w' := by
  obtain ⟨p0', ps0, hpt⟩ := partsG_cons 59 s pl0 []
  have hpt2 : partsV 59 s = p0' :: ps0 := hpt
  have hmem := h_mem_len 59 s
  rw [hpt2] at hmem
  have hp0 := hmem p0' (by simp)
  have htp := trimL_len p0'
  have KP := hid (fun w' => refparts_of hpt2 w' (by omega))
  have KTT := hid (fun w' => reftrim_list p0' w' (by omega))
  have KL := hid (fun w' => reflower_l (trimL p0') w' (by omega))
  rw [typeT_of hpt2]
  have hll : (lowL (trimL p0')).length = (trimL p0').length := by simp [lowL]
  generalize trimL p0' = tp at KTT KL htp hll ⊢
  generalize lowL tp = t at KL hll ⊢
  obtain ⟨a, b, f, hcut⟩ : ∃ a b f, cutL 47 t = (a, b, f) := ⟨_, _, _, rfl⟩
  have hcl := cutL_len 47 t
  rw [hcut] at hcl
  simp only at hcl
  have KC := hid (fun w' => cut3_of (c := 47) hcut w' (by omega))
  have KA := hid (fun w' => reftoken_list a w' (by omega))
  have KB := hid (fun w' => reftoken_list b w' (by omega))
  have HV : Hid (typeOk t = (f && (tokenB a && tokenB b))) := show _ = _ by unfold typeOk; rw [hcut]
  generalize typeOk t = R at HV ⊢
  clear hpt hpt2 hmem hcut
  go_enter Tryd.func30, Tryd.ntmps30
  go_wp2_with fail
  refine (KP.out _).mono ?_
  rintro e w5 ⟨g, cap, rfl, hcap, hgl, hcells, hw5⟩
  have hg0 := hcells 0 (by simp)
  simp only [List.getElem_cons_zero] at hg0
  clear hcells KP
  go_wp2_with fail
  refine (KTT.out _).mono ?_
  rintro e w6 ⟨rfl, rfl⟩
  clear hg0 KTT
  go_wp2_with fail
  refine (KL.out _).mono ?_
  rintro e w7 ⟨rfl, hw7⟩
  have hb7 := hw5.trans (hw7.mono hw5.size)
  clear hw5 hw7 KL
  go_wp2_with fail
  refine (KC.out _).mono ?_
  rintro e w8 ⟨rfl, hw8⟩
  have hb8 := hb7.trans (hw8.mono hb7.size)
  clear KC hw8 hb7
  cases f with
  | false =>
    go_wp2
    go_ret2
    exact ⟨by rw [HV.out]; rfl, hb8⟩
  | true =>
    cases hta : tokenB a with
    | false =>
      rw [hta] at KA HV
      go_wp2_with fail
      refine (KA.out _).mono ?_
      rintro e wx ⟨rfl, hwx⟩
      rw [hwx]
      clear hwx
      go_wp2
      go_ret2
      exact ⟨by rw [HV.out]; rfl, hb8⟩
    | true =>
      rw [hta] at KA HV
      go_wp2_with fail
      refine (KA.out _).mono ?_
      rintro e wx ⟨rfl, hwx⟩
      rw [hwx]
      clear hwx
      cases htb : tokenB b with
      | false =>
        rw [htb] at KB HV
        go_wp2_with fail
        refine (KB.out _).mono ?_
        rintro e wx ⟨rfl, hwx⟩
        rw [hwx]
        clear hwx
        go_wp2
        go_ret2
        exact ⟨by rw [HV.out]; rfl, hb8⟩
      | true =>
        rw [htb] at KB HV
        go_wp2_with fail
        refine (KB.out _).mono ?_
        rintro e wx ⟨rfl, hwx⟩
        rw [hwx]
        clear hwx
        go_wp2
        go_ret2
        exact ⟨by rw [HV.out]; rfl, hb8⟩

end Go.Proofs.YtjbfdbccidhdfaaDoor
