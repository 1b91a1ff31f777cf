/-
  The contract of package frame's headersOf.
-/
import Derived.Test.YtagopboofmjnfaaDoorFHeader
namespace Go.Proofs.YtagopboofmjnfaaDoor
open Go.RowKit Go.Sort Sc
set_option linter.unusedVariables false
set_option maxRecDepth 20000

/-- Texts in a row, from an address on, if there is one. -/
def TxtsIn (w : World) (ao : Option Addr) (ts : List (List UInt8)) : Prop := ∀ j (hj : j < ts.length), ∃ a, ao = some a ∧ a.block < w.heap.size ∧ w.cell? (a.add j) = some (.string ⟨(ts[j]).toArray⟩)
theorem TxtsIn.below {w w' : World} {ao : Option Addr} {ts : List (List UInt8)} (h : TxtsIn w ao ts) (hb : Below w.heap.size w w') : TxtsIn w' ao ts := fun j hj => by
  obtain ⟨a, h1, h2, h3⟩ := h j hj
  exact ⟨a, h1, Nat.lt_of_lt_of_le h2 hb.size, cell_below hb (by rw [add_block]; exact h2) h3⟩
theorem hC_end {ts : List (List UInt8)} {l : List Hdr} {n : Int} {k : Nat} (hk : ¬ k < ts.length) : headersC l n (ts.drop k) = (l, n, 0) := by
  rw [List.drop_of_length_le (by omega), headersC]
theorem hC_step {ts : List (List UInt8)} {l : List Hdr} {n : Int} {k : Nat} (hk : k < ts.length) : headersC l n (ts.drop k) =
    if (headerC ts[k]).2 = false then ([], 0, 61)
    else if lengthB (headerC ts[k]).1.name = true then
      (if (numV 4096 (headerC ts[k]).1.value).2 ≠ 0 ∨ 0 ≤ n then ([], 0, 62) else headersC l (numV 4096 (headerC ts[k]).1.value).1 (ts.drop (k + 1)))
    else if l.length = 64 then ([], 0, 4) else headersC (l ++ [(headerC ts[k]).1]) n (ts.drop (k + 1)) := by
  rw [List.drop_eq_getElem_cons hk, headersC]
theorem headerC_len (t : List UInt8) : (headerC t).1.name.length ≤ t.length + 16 ∧ (headerC t).1.value.length ≤ t.length := by
  have h1 := cutL_len 58 t
  have h2 := behind_len (cutL 58 t).1
  have h3 := long_len (behindL (cutL 58 t).1)
  have h4 := trimL_len (cutL 58 t).2.1
  unfold headerC
  simp only
  omega
/-- What headersOf hands back. -/
def HdrsRes (R : List Hdr × Int × Int) (w w' : World) (e : Ending) : Prop := ∃ v, e = .returned (.tuple #[v, .int .i64 R.2.1, .int .i64 R.2.2]) ∧ OwnH w' w.heap.size v R.1
theorem hres_bad {R : List Hdr × Int × Int} {n : Int} {w w' : World} (h : R = ([], 0, n)) : HdrsRes R w w' (.returned (.tuple #[.slice none 0 0, .int .i64 0, .int .i64 n])) := ⟨_, by rw [h], by rw [h]; exact OwnH.nil _ _⟩
theorem OwnH.form {w : World} {B : Nat} {v : Value} {hs : List Hdr} (h : OwnH w B v hs) : ∃ a cap, v = .slice a hs.length cap := h.hdrsAt.form

set_option maxHeartbeats 4000000 in
set_option maxRecDepth 100000 in
theorem fheaders_any (ts : List (List UInt8)) (ao : Option Addr) (cap : Nat) (w : World) (hat : TxtsIn w ao ts) (hn : ts.length ≤ 5000) (hl : ∀ t ∈ ts, t.length ≤ 90000) :
    Calls Tryd.prog 44 #[.slice ao ts.length cap] w fun e w' => HdrsRes (headersC [] (-1) ts) w w' e ∧ Below w.heap.size w w' := by
  obtain ⟨i0, hi, hz0, hz1, hz2⟩ := info_parts infoHdr
  have HAT := hid hat
  have HL := hid hl
  clear hat hl
  obtain ⟨N, hNN⟩ : ∃ N, N = ts.length := ⟨_, rfl⟩
  rw [← hNN] at hn ⊢
  have HN := hid hNN
  clear hNN
  obtain ⟨R, hR⟩ : ∃ R, R = headersC [] (-1) ts := ⟨_, rfl⟩
  rw [← hR]
  have HR := hid hR
  clear hR
  go_enter Tryd.func44, Tryd.ntmps44
  go_wp2
  go_loopw [5, 6, 15] (fun x y i wr => ∃ (k : Nat) (l : List Hdr) (n : Int), k ≤ N ∧ i = .int .i64 k ∧ y = .int .i64 n ∧ -1 ≤ n ∧ n ≤ 4096 ∧ Hid (R = headersC l n (ts.drop k)) ∧ l.length ≤ 64 ∧ Hid (OwnH wr w.heap.size x l) ∧ Below w.heap.size w wr) (fun _ _ i _ => N - (intOf i).toNat)
  case atStart => exact ⟨0, [], -1, Nat.zero_le _, rfl, rfl, by omega, by omega, hid (by rw [List.drop_zero]; exact HR.out), by simp, OwnH.nil _ _, Below.refl _ _⟩
  case round =>
    obtain ⟨k, l, n, hk, rfl, rfl, hn0, hn1, hps, hll, HO, hb⟩ := hrel
    by_cases hlt : k < N
    · have hkl : k < ts.length := by have := HN.out; omega
      obtain ⟨a, ha, hab, h0⟩ := HAT.out k hkl
      have hcell := cell_below hb (by rw [add_block]; exact hab) h0
      have htl := HL.out _ (List.getElem_mem hkl)
      have hst : R = _ := hps.out.trans (hC_step hkl)
      have hcl := headerC_len ts[k]
      have KH := hid (fun w' => fheader_any ts[k] w' (by omega))
      clear hab h0 hps
      subst ha
      generalize ts[k] = t at hcell htl hst hcl KH
      generalize headerC t = hc at hst hcl KH
      obtain ⟨⟨nm, vl⟩, hk2⟩ := hc
      unfold hdrV at KH
      simp only at hst hcl KH
      have KN := hid (fun w' => flength_list nm w' (by omega))
      have KM := hid (fun w' => num_list vl 4096 w' (by omega) (by omega) (by omega))
      have hnn := @numV_nonneg 4096 (by decide) vl
      generalize lengthB nm = lb at hst KN
      generalize numV 4096 vl = nv at hst KM hnn
      obtain ⟨nz, ne⟩ := nv
      simp only at hst KM hnn
      have HST := hid hst
      have HNN := hid hnn
      clear hst hnn
      obtain ⟨xa, xc, hxe⟩ := HO.out.form
      subst hxe
      go_wp2_with fail
      refine (KH.out _).mono ?_
      rintro e w2 ⟨rfl, hw2⟩
      have HO2 := hid (HO.out.below hw2)
      have hb2 := hb.trans (hw2.mono hb.size)
      clear HO hw2 hb KH hcell
      have HBX := hid (boxH_new w2 ⟨nm, vl⟩)
      have hA := (Below.refl _ w2).alloc (Nat.le_refl _) (objH ⟨nm, vl⟩)
      have hltA := alloc_lt w2 (objH ⟨nm, vl⟩)
      unfold objH at HBX hA hltA
      simp only at HBX hA hltA
      have hbA := hb2.trans (hA.mono hb2.size)
      cases hk2 with
      | false =>
        have HR2 : Hid (R = ([], 0, 61)) := show _ = _ by rw [HST.out, if_pos rfl]
        clear HST
        go_wp2
        go_ret3
        exact ⟨hres_bad HR2.out, hbA⟩
      | true =>
        rw [if_neg (by simp)] at HST
        obtain ⟨x0, x1⟩ := HBX.out
        simp only at x0 x1
        go_wp2_with fail
        refine (KN.out _).mono ?_
        rintro e w3 ⟨rfl, hw3⟩
        have HB3 := hid (BoxH.below HBX.out hw3 hltA)
        have HO3 := hid ((HO2.out.below hA).below hw3)
        have hb3 := hbA.trans (hw3.mono hbA.size)
        clear HBX HO2 hA hltA hbA hb2 hw3 x0 x1 KN
        obtain ⟨x0, x1⟩ := HB3.out
        simp only at x0 x1
        cases lb with
        | true =>
          rw [if_pos rfl] at HST
          by_cases hne : ne = 0
          · subst hne
            by_cases hn2 : 0 ≤ n
            · have HR2 : Hid (R = ([], 0, 62)) := show _ = _ by rw [HST.out, if_pos (Or.inr hn2)]
              clear HST
              go_wp2_with (go_at_call 72; refine (KM.out _).mono ?_; rintro e w' ⟨rfl, hw⟩; rw [hw])
              go_ret3
              exact ⟨hres_bad HR2.out, hb3⟩
            · have HR2 : Hid (R = headersC l nz (ts.drop (k + 1))) := show _ = _ by rw [HST.out, if_neg (by simp; omega)]
              obtain ⟨z0, z1⟩ := HNN.out rfl
              clear HST HNN
              go_wp2_with (go_at_call 72; refine (KM.out _).mono ?_; rintro e w' ⟨rfl, hw⟩; rw [hw])
              go_roundw
              case rel => exact ⟨k + 1, l, nz, by omega, by go_num, rfl, by omega, z1, HR2, hll, HO3, hb3⟩
              case measure => simp [intOf]; omega
          · have hne2 : (ne != 0) = true := by simpa using hne
            have HR2 : Hid (R = ([], 0, 62)) := show _ = _ by rw [HST.out, if_pos (Or.inl hne)]
            clear HST HNN
            go_wp2_with (go_at_call 72; refine (KM.out _).mono ?_; rintro e w' ⟨rfl, hw⟩; rw [hw])
            go_ret3
            exact ⟨hres_bad HR2.out, hb3⟩
        | false =>
          rw [if_neg (by simp)] at HST
          by_cases h64 : l.length = 64
          · have h64' : ((l.length : Int) == 64) = true := by rw [h64]; rfl
            have HR2 : Hid (R = ([], 0, 4)) := show _ = _ by rw [HST.out, if_pos h64]
            clear HST HNN KM
            go_wp2
            go_ret3
            exact ⟨hres_bad HR2.out, hb3⟩
          · have h64' : ((l.length : Int) == 64) = false := beq_eq_false_iff_ne.2 (by omega)
            have HR2 : Hid (R = headersC (l ++ [⟨nm, vl⟩]) n (ts.drop (k + 1))) := show _ = _ by rw [HST.out, if_neg h64]
            have HNV := hid (new_hdr w3 ⟨nm, vl⟩ 51)
            have HOA := hid (fun o => HO3.out.alloc o)
            have HBA := hid (fun o => hb3.alloc hb3.size o)
            simp only at HNV
            clear HST HNN KM HO3
            go_wp2_with (at_builtin; refine wp_appH _ rfl (.tmp 24) (.tmp 26) 22 rfl w.heap.size i0 _ Tryd.underlying22 hi hz0 hz1 hz2 rfl _ l rfl (HOA.out _) ⟨_, 0, none⟩ 1 ⟨nm, vl⟩ rfl (by exact HNV.out) (by omega) w (HBA.out _) (by have := hb3.size; simp; omega) ?_; intro v5 w5 hown5 hb5 _ hB5)
            have HO5 := hid hown5
            clear hown5
            go_wp2
            go_roundw
            case rel => exact ⟨k + 1, l ++ [⟨nm, vl⟩], n, by omega, by go_num, rfl, hn0, hn1, HR2, by simp; omega, HO5, hb5⟩
            case measure => simp [intOf]; omega
    · have HR2 : Hid (R = (l, n, 0)) := show _ = _ by rw [hps.out]; exact hC_end (by have := HN.out; omega)
      clear hps
      go_wp2
      go_ret3
      exact ⟨⟨_, by rw [HR2.out]; rfl, by rw [HR2.out]; exact HO.out⟩, hb⟩

end Go.Proofs.YtagopboofmjnfaaDoor
