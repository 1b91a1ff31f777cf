/-
  The contract of the document's own Accepts.
-/
import Derived.Test.YtjbfdbccidhdfaaDoorHRef4
namespace Go.Proofs.YtjbfdbccidhdfaaDoor
open Go.RowKit Sc
set_option linter.unusedVariables false
set_option maxRecDepth 20000

theorem starglue (a : List UInt8) : (⟨a.toArray⟩ : ByteArray) ++ (⟨#[47, 42]⟩ : ByteArray) = ⟨(a ++ [47, 42]).toArray⟩ := by
  have e0 : (⟨#[47, 42]⟩ : ByteArray) = ⟨[47, 42].toArray⟩ := rfl
  rw [e0, ByteArray.mk_append_mk]
theorem takesB_is (t r : List UInt8) : takesB t r = (typeOk t && (typeOk (typeT r) && (typeT r == t || (typeT r == [42, 47, 42] || typeT r == (cutL 47 t).1 ++ [47, 42])))) := rfl
theorem accepts_hit {ls : List (List UInt8)} {s : List UInt8} {k : Nat} (hk : k < ls.length) (h : takesB (typeT s) ls[k] = true) : acceptsB ls s = true := by
  unfold acceptsB
  exact List.any_eq_true.2 ⟨ls[k], List.getElem_mem hk, h⟩
theorem accepts_none {ls : List (List UInt8)} {s : List UInt8} (h : ∀ r ∈ ls, takesB (typeT s) r = false) : acceptsB ls s = false := by
  unfold acceptsB
  rw [List.any_eq_false]
  intro r hr; simp [h r hr]

set_option maxHeartbeats 2000000 in
set_option maxRecDepth 100000 in
theorem raccepts_any (v : Value) (ls : List (List UInt8)) (s : List UInt8) (w : World) (hl : ∀ l ∈ ls, l.length ≤ 1048576) (hn : ls.length ≤ 4194304) (hs : s.length ≤ 1048576) (hv : StrsAt w v ls) :
    Calls Tryd.prog 32 #[v, .string ⟨s.toArray⟩] w fun e w' => e = .returned (.bool (acceptsB ls s)) ∧ Below w.heap.size w w' := by
  obtain ⟨ao, cap, rfl, hc⟩ := hv
  have HC := hid hc
  have HL := hid hl
  have KT := hid (fun w' => rtype_any s w' hs)
  have htl := typeT_len s
  have HHIT := hid (fun k (hk : k < ls.length) (h : takesB (typeT s) ls[k] = true) => accepts_hit hk h)
  have HNONE := hid (fun (h : ∀ r ∈ ls, takesB (typeT s) r = false) => accepts_none h)
  generalize acceptsB ls s = R at HHIT HNONE ⊢
  have HTK := hid (fun r => takesB_is (typeT s) r)
  generalize typeT s = t at KT htl HHIT HNONE HTK
  obtain ⟨a, b, f, hcut⟩ : ∃ a b f, cutL 47 t = (a, b, f) := ⟨_, _, _, rfl⟩
  have hcl := cutL_len 47 t
  rw [hcut] at hcl
  simp only at hcl
  have KC := hid (fun w' => cut3_of (c := 47) hcut w' (by omega))
  rw [hcut] at HTK
  simp only at HTK
  generalize typeOk t = ok at KT HTK
  have hga := starglue a
  have hafl : (a ++ [47, 42]).length ≤ 1048578 := by simp; omega
  generalize a ++ [47, 42] = af at hga HTK hafl
  have HTB : ∃ F : List UInt8 → Bool, F = takesB t := ⟨_, rfl⟩
  obtain ⟨F, hF⟩ := HTB
  rw [← hF] at HHIT HNONE HTK
  clear hc hl hcut hF
  obtain ⟨n, hn'⟩ : ∃ n, n = ls.length := ⟨_, rfl⟩
  rw [← hn'] at hn ⊢
  have HN := hid hn'
  clear hn'
  go_enter Tryd.func32, Tryd.ntmps32
  go_wp2_with fail
  refine (KT.out _).mono ?_
  rintro e w1 ⟨rfl, hw1⟩
  clear KT
  go_wp2_with fail
  refine (KC.out _).mono ?_
  rintro e w2 ⟨rfl, hw2⟩
  have hb2 := hw1.trans (hw2.mono hw1.size)
  clear KC hw1 hw2
  go_wp2
  go_loopw [9] (fun i wr => ∃ k : Nat, k ≤ n ∧ i = .int .i64 k ∧ Hid (∀ r ∈ ls.take k, F r = false) ∧ Below w.heap.size w wr) (fun i _ => n - (intOf i).toNat)
  case atStart => exact ⟨0, by omega, rfl, hid (by simp), hb2⟩
  case round =>
    clear hb2
    obtain ⟨k, hk, rfl, HA, hb⟩ := hrel
    by_cases hlt : k < n
    · have hkl : k < ls.length := by have := HN.out; omega
      obtain ⟨ad, hao, hab, hcell⟩ := HC.out k hkl
      have hcell2 := cell_below hb (by rw [add_block]; exact hab) hcell
      have hll := HL.out _ (List.getElem_mem hkl)
      subst hao
      have KR := hid (fun w' => rtype_any ls[k] w' hll)
      have hhit := HHIT.out k hkl
      have htk := HTK.out ls[k]
      have htake : ls.take (k + 1) = ls.take k ++ [ls[k]] := List.take_succ_eq_append_getElem hkl
      have HA2 : Hid (F ls[k] = false → ∀ r ∈ ls.take (k + 1), F r = false) := fun h r hr => by
        rw [htake] at hr
        rcases List.mem_append.1 hr with hr | hr
        · exact HA.out r hr
        · simp at hr; subst hr; exact h
      clear hcell hll htake HA
      have HHK := hid hhit
      have HTK1 := hid htk
      clear hhit htk
      generalize F ls[k] = tb at HHK HTK1 HA2
      generalize typeT ls[k] = rt at KR HTK1
      generalize typeOk rt = ri at KR HTK1
      go_wp2_with fail
      refine (KR.out _).mono ?_
      rintro e w3 ⟨rfl, hw3⟩
      have hb3 := hb.trans (hw3.mono hb.size)
      clear KR hw3 hb hcell2
      cases ok with
      | false =>
        have HF : Hid (tb = false) := show _ = _ by rw [HTK1.out]; rfl
        go_wp2
        go_roundw
        case rel => exact ⟨k + 1, by omega, by go_num, hid (HA2.out HF.out), hb3⟩
        case measure => simp [intOf]; omega
      | true =>
        cases ri with
        | false =>
          have HF : Hid (tb = false) := show _ = _ by rw [HTK1.out]; rfl
          go_wp2
          go_roundw
          case rel => exact ⟨k + 1, by omega, by go_num, hid (HA2.out HF.out), hb3⟩
          case measure => simp [intOf]; omega
        | true =>
          cases h1 : (rt == t) with
          | true =>
            have HR := hid (HHK.out (by rw [HTK1.out, h1]; rfl))
            go_wp2
            go_ret
            exact ⟨ret_bool HR.out.symm, hb3⟩
          | false =>
            cases h2 : (rt == [42, 47, 42]) with
            | true =>
              have HR := hid (HHK.out (by rw [HTK1.out, h1, h2]; rfl))
              go_wp2
              go_ret
              exact ⟨ret_bool HR.out.symm, hb3⟩
            | false =>
              cases h3 : (rt == af) with
              | true =>
                have HR := hid (HHK.out (by rw [HTK1.out, h1, h2, h3]; rfl))
                go_wp2
                go_ret
                exact ⟨ret_bool HR.out.symm, hb3⟩
              | false =>
                have HF : Hid (tb = false) := show _ = _ by rw [HTK1.out, h1, h2, h3]; rfl
                go_wp2
                go_roundw
                case rel => exact ⟨k + 1, by omega, by go_num, hid (HA2.out HF.out), hb3⟩
                case measure => simp [intOf]; omega
    · have hall : ∀ r ∈ ls, F r = false := by
        have := HA.out
        rw [List.take_of_length_le (by have := HN.out; omega)] at this
        exact this
      have HR := hid (HNONE.out hall)
      clear hall
      go_wp2
      go_ret
      exact ⟨ret_bool HR.out.symm, hb⟩

end Go.Proofs.YtjbfdbccidhdfaaDoor
