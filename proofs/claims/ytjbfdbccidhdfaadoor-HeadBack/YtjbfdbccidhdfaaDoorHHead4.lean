/-
  Contracts: package head's Call, mayGive, lasting, mayShow and Show.
-/
import Derived.Test.YtjbfdbccidhdfaaDoorHHead1
import Derived.Test.YtjbfdbccidhdfaaDoorHRef5
import Derived.Test.YtjbfdbccidhdfaaDoorFN
namespace Go.Proofs.YtjbfdbccidhdfaaDoor
open Go.RowKit Go.Sort Sc
set_option linter.unusedVariables false
set_option maxRecDepth 20000
set_option linter.unusedSimpArgs false

set_option maxHeartbeats 1000000 in
set_option maxRecDepth 100000 in
theorem hcall_any (s : List UInt8) (w : World) (hs : s.length ≤ 140737488355328) :
    Calls Tryd.prog 15 #[.string ⟨s.toArray⟩] w fun e w' => e = .returned (.bool (callB s)) ∧ Below w.heap.size w w' := by
  have HN := hid (fun k (hk : k < s.length) (h : visB1 s[k] = false) => callB_bad hk h)
  have HS := hid (fun (h : ∀ b ∈ s, visB1 b = true) => callB_good h)
  have H0 := hid (callB_is s)
  have hz := size_list s
  generalize callB s = R at HN HS H0 ⊢
  cases hem : s.isEmpty with
  | true =>
    have he : (s == []) = true := by simpa using hem
    have HR : Hid (R = false) := show _ = _ by
      have h0 : s = [] := by simpa using hem
      rw [H0.out, h0]; rfl
    clear HN HS H0
    go_enter Tryd.func15, Tryd.ntmps15
    go_wp2
    go_ret
    exact ⟨ret_bool HR.out.symm, Below.refl _ _⟩
  | false =>
    have he : (s == []) = false := by cases s with | nil => simp at hem | cons a b => rfl
    have hpos : 1 ≤ s.length := by cases s with | nil => simp at hem | cons a b => simp
    by_cases hlong : 128 < s.length
    · have hl2 : decide ((128 : Int) < (s.length : Int)) = true := decide_eq_true (by omega)
      have HR : Hid (R = false) := show _ = _ by
        rw [H0.out, decide_eq_false (show ¬ s.length ≤ 128 by omega)]; simp
      clear HN HS H0
      go_enter Tryd.func15, Tryd.ntmps15
      go_wp2
      go_ret
      exact ⟨ret_bool HR.out.symm, Below.refl _ _⟩
    · have hl2 : decide ((128 : Int) < (s.length : Int)) = false := decide_eq_false (by omega)
      have HY : Hid ((∀ b ∈ s, visB1 b = true) → R = true) := fun h => by
        rw [HS.out h, decide_eq_true hpos, decide_eq_true (show s.length ≤ 128 by omega)]; rfl
      clear HS H0
      go_enter Tryd.func15, Tryd.ntmps15
      go_wp2
      go_loopw [13] (fun i wr => ∃ k : Nat, k ≤ s.length ∧ i = .int .i64 k ∧ Hid (∀ b ∈ s.take k, visB1 b = true) ∧ wr = w) (fun i _ => s.length - (intOf i).toNat)
      case atStart => exact ⟨0, by omega, rfl, hid (by simp), rfl⟩
      case round =>
        obtain ⟨k, hk, rfl, HA, rfl⟩ := hrel
        by_cases hlt : k < s.length
        · have hk2 : k < (⟨s.toArray⟩ : ByteArray).size := by rw [size_list]; exact hlt
          have hki : (k : Int) < (s.length : Int) := by omega
          have hge : (⟨s.toArray⟩ : ByteArray)[k]'hk2 = s[k] := rfl
          have hn := HN.out k hlt
          have htk : s.take (k + 1) = s.take k ++ [s[k]] := List.take_succ_eq_append_getElem hlt
          have HTK := hid htk
          clear htk
          generalize s[k] = x at hge hn HTK
          have hxb : visB1 x = (decide (33 ≤ x.toNat) && decide (x.toNat ≤ 126)) := rfl
          by_cases g1 : (x.toNat : Int) < 33
          · have HR : Hid (R = false) := hn (by rw [hxb]; simp; omega)
            have dg : decide ((x.toNat : Int) < 33) = true := decide_eq_true g1
            clear hn HTK hxb
            go_wp2
            go_ret
            exact ⟨ret_bool HR.out.symm, Below.refl _ _⟩
          · have dg : decide ((x.toNat : Int) < 33) = false := decide_eq_false g1
            by_cases g2 : (126 : Int) < (x.toNat : Int)
            · have HR : Hid (R = false) := hn (by rw [hxb]; simp; omega)
              have dg2 : decide ((126 : Int) < (x.toNat : Int)) = true := decide_eq_true g2
              clear hn HTK hxb
              go_wp2
              go_ret
              exact ⟨ret_bool HR.out.symm, Below.refl _ _⟩
            · have dg2 : decide ((126 : Int) < (x.toNat : Int)) = false := decide_eq_false g2
              have hx : visB1 x = true := by rw [hxb]; simp; omega
              have HA2 : Hid (∀ b ∈ s.take (k + 1), visB1 b = true) := fun b hb => by
                rw [HTK.out] at hb
                rcases List.mem_append.1 hb with hb | hb
                · exact HA.out b hb
                · simp at hb; subst hb; exact hx
              clear hn HTK hxb hx
              go_wp2
              go_roundw
              case rel => exact ⟨k + 1, by omega, by go_num, HA2, by first | rfl | trivial⟩
              case measure => simp [intOf]; omega
        · have hall : ∀ b ∈ s, visB1 b = true := by
            have := HA.out
            rw [List.take_of_length_le (by omega)] at this
            exact this
          have HR := hid (HY.out hall)
          clear hall
          go_wp2
          go_ret
          exact ⟨ret_bool HR.out.symm, Below.refl _ _⟩

/-- May a text be a state's reason? -/
def mgB (re : List UInt8) : Bool := re.isEmpty || tokenB re
set_option maxHeartbeats 400000 in
theorem hmaygive_any (re : List UInt8) (w : World) (hs : re.length ≤ 140737488355328) :
    Calls Tryd.prog 54 #[.string ⟨re.toArray⟩] w fun e w' => e = .returned (.bool (mgB re)) ∧ w' = w := by
  have KK := hid (fun w' => token_list re w' hs)
  have HV : Hid (mgB re = (re.isEmpty || tokenB re)) := show _ = _ from rfl
  generalize mgB re = R at HV ⊢
  generalize tokenB re = tk at HV KK
  cases hem : re.isEmpty with
  | true =>
    have he : (re == []) = true := by simpa using hem
    have HR : Hid (R = true) := show _ = _ by rw [HV.out, hem]; rfl
    clear HV
    go_enter Tryd.func54, Tryd.ntmps54
    go_wp2
    go_ret
    exact ⟨ret_bool HR.out.symm, rfl⟩
  | false =>
    have he : (re == []) = false := by cases re with | nil => simp at hem | cons a b => rfl
    have HR : Hid (R = tk) := show _ = _ by rw [HV.out, hem]; rfl
    clear HV
    go_enter Tryd.func54, Tryd.ntmps54
    go_wp2_with fail
    refine (KK.out _).mono ?_
    rintro e w1 ⟨rfl, hw1⟩
    rw [hw1]
    go_wp2
    go_ret
    exact ⟨ret_bool HR.out.symm, rfl⟩

/-- The seconds that parameters tell. -/
def lastV (ps : List Par) : Int × Int := if (valV ps expiresK).2 = false then (-1, 0) else timeV (valV ps expiresK).1
set_option maxHeartbeats 400000 in
theorem hlasting_any (q : Value) (ps : List Par) (w : World) (hsm : SmallP 140737488355328 ps) (h : ParsAt w q ps) (hl : (valV ps expiresK).1.length ≤ 140737488355328) :
    Calls Tryd.prog 53 #[q] w fun e w' => e = .returned (.tuple #[.int .i64 (lastV ps).1, .int .i64 (lastV ps).2]) ∧ Below w.heap.size w w' := by
  have KV := hid (fun w' (hb : Below w.heap.size w w') => value_any q ps expiresK w' (by decide) hsm (h.below hb))
  have HV : Hid (lastV ps = if (valV ps expiresK).2 = false then (-1, 0) else timeV (valV ps expiresK).1) := show _ = _ from rfl
  generalize lastV ps = R at HV ⊢
  obtain ⟨a3, c3, rfl⟩ := h.form
  clear h hsm
  generalize valV ps expiresK = vv at HV KV hl
  obtain ⟨xt, xb⟩ := vv
  simp only at HV KV hl
  unfold expiresK at KV
  have KT := hid (fun w' => htime_any xt w' hl)
  generalize timeV xt = tv at HV KT
  obtain ⟨tn, te⟩ := tv
  simp only at KT
  go_enter Tryd.func53, Tryd.ntmps53
  go_wp2_with fail
  refine (KV.out _ (Below.refl _ _)).mono ?_
  rintro e w1 ⟨rfl, hw1⟩
  cases xb with
  | false =>
    have HR : Hid (R = (-1, 0)) := show _ = _ by rw [HV.out]; rfl
    clear HV
    go_wp2
    go_ret2
    exact ⟨by rw [HR.out]; rfl, hw1⟩
  | true =>
    have HR : Hid (R = (tn, te)) := show _ = _ by rw [HV.out]; rfl
    clear HV
    go_wp2_with fail
    refine (KT.out _).mono ?_
    rintro e w2 ⟨rfl, hw2⟩
    go_wp2
    go_ret2
    exact ⟨by rw [HR.out]; rfl, hw1.trans (hw2.mono hw1.size)⟩

theorem mayS_no1 {v : Stt} (h : tokenB v.name = false) : sttB v = false := by simp [sttB, h]
theorem mayS_no2 {v : Stt} (h : (v.name == lowL v.name) = false) : sttB v = false := by
  have : (lowL v.name == v.name) = false := by rw [beq_eq_false_iff_ne] at h ⊢; exact fun e => h e.symm
  simp [sttB, this]
theorem mayS_no3 {v : Stt} (h : ¬ (-1 ≤ v.expires)) : sttB v = false := by
  rw [sttB, decide_eq_false (fun c => h c.1)]; simp
theorem mayS_no4 {v : Stt} (h : ¬ (v.expires ≤ 2147483647)) : sttB v = false := by
  have hm : (maxS : Int) = 2147483647 := rfl
  rw [sttB, decide_eq_false (fun c => h (hm ▸ c.2))]; simp
theorem mayS_yes {v : Stt} (h1 : tokenB v.name = true) (h2 : (v.name == lowL v.name) = true) (h3 : -1 ≤ v.expires) (h4 : v.expires ≤ 2147483647) : sttB v = mgB v.reason := by
  have e : lowL v.name = v.name := (eq_of_beq h2).symm
  have hm : (maxS : Int) = 2147483647 := rfl
  rw [sttB, h1, e, decide_eq_true ⟨h3, by rw [hm]; exact h4⟩]
  simp [mgB]

set_option maxHeartbeats 4000000 in
set_option maxRecDepth 100000 in
theorem hmayshow_any (s : Stt) (w : World) (hnl : s.name.length ≤ 140737488355328) (hrl : s.reason.length ≤ 140737488355328) (hwf : (Lit.int .i64 s.expires).wf = true) :
    Calls Tryd.prog 57 #[sttV s] w fun e w' => e = .returned (.bool (sttB s)) ∧ Below w.heap.size w w' := by
  have n1 := hid (@mayS_no1 s)
  have n2 := hid (@mayS_no2 s)
  have n3 := hid (@mayS_no3 s)
  have n4 := hid (@mayS_no4 s)
  have ny := hid (@mayS_yes s)
  obtain ⟨q0, q1⟩ := i64_of hwf
  have K1 := hid (fun w' => h_below (token_list s.name w' hnl))
  have K2 := hid (fun w' => lower_list s.name w' (by omega))
  have K3 := hid (fun w' => hmaygive_any s.reason w' hrl)
  have hb0 : Below w.heap.size w (w.alloc (objS s)) := (Below.refl _ w).alloc (Nat.le_refl _) _
  have HBX := hid (boxS_new w s)
  clear hwf
  obtain ⟨nm, ex, re⟩ := s
  unfold sttV
  unfold objS at hb0 HBX
  simp only at n1 n2 n3 n4 ny K1 K2 K3 HBX hb0 hnl hrl q0 q1 ⊢
  generalize sttB _ = R at n1 n2 n3 n4 ny ⊢
  generalize mgB re = mg at ny K3
  have c1 := hid (fun (d : Nat) (os : Array Obj) => Calls.regrown_of (K1.out (grow (redrawn (w.alloc (.cells #[.string ⟨nm.toArray⟩, .int .i64 ex, .string ⟨re.toArray⟩] 50)) d) os)))
  have c2 := hid (fun (d : Nat) (os : Array Obj) => Calls.regrown_of (K2.out (grow (redrawn (w.alloc (.cells #[.string ⟨nm.toArray⟩, .int .i64 ex, .string ⟨re.toArray⟩] 50)) d) os)))
  clear K1 K2
  generalize lowL nm = ln at n2 ny c2
  obtain ⟨x0, x1, x2⟩ := HBX.out
  simp only at x0 x1 x2
  have x0 := cell_regrown x0
  have x1 := cell_regrown x1
  have x2 := cell_regrown x2
  cases t1 : tokenB nm with
  | false =>
    rw [t1] at c1
    have HR := hid (n1.out t1)
    clear n1 n2 n3 n4 ny
    go_enter Tryd.func57, Tryd.ntmps57
    go_wp2
    refine wp_region_quiet_below followsMixed5 (by kernel_rfl) ?_
    repeat (go_big_quiet_step (first | with_reducible exact c1.out _ _ | with_reducible exact c2.out _ _))
    refine wpQuiet_nil ?_
    intro _ hw'
    obtain ⟨⟨dq, osq⟩, hw''⟩ := hw'
    subst hw''
    have hb1 := below_re5 hb0 dq osq
    clear x0 x1 x2 c1 c2 hb0
    go_wp2
    go_ret
    exact ⟨ret_bool HR.out.symm, hb1⟩
  | true =>
    rw [t1] at c1
    cases t2 : (nm == ln) with
    | false =>
      have HR := hid (n2.out t2)
      clear n1 n2 n3 n4 ny
      go_enter Tryd.func57, Tryd.ntmps57
      go_wp2
      refine wp_region_quiet_below followsMixed5 (by kernel_rfl) ?_
      repeat (go_big_quiet_step (first | with_reducible exact c1.out _ _ | with_reducible exact c2.out _ _))
      refine wpQuiet_nil ?_
      intro _ hw'
      obtain ⟨⟨dq, osq⟩, hw''⟩ := hw'
      subst hw''
      have hb1 := below_re5 hb0 dq osq
      clear x0 x1 x2 c1 c2 hb0
      go_wp2
      go_ret
      exact ⟨ret_bool HR.out.symm, hb1⟩
    | true =>
      go_enter Tryd.func57, Tryd.ntmps57
      go_wp2
      refine wp_region_quiet_below followsMixed5 (by kernel_rfl) ?_
      repeat (go_big_quiet_step (first | with_reducible exact c1.out _ _ | with_reducible exact c2.out _ _))
      refine wpQuiet_nil ?_
      intro _ hw'
      obtain ⟨⟨dq, osq⟩, hw''⟩ := hw'
      subst hw''
      have hb1 := below_re5 hb0 dq osq
      have y0 := x0 dq osq
      have y1 := x1 dq osq
      have y2 := x2 dq osq
      clear x0 x1 x2 c1 c2 hb0 HBX
      generalize grow _ _ = W at y0 y1 y2 hb1 ⊢
      by_cases t3 : -1 ≤ ex
      · have t3b : decide (-1 ≤ ex) = true := decide_eq_true t3
        by_cases t4 : ex ≤ 2147483647
        · have t4b : decide (ex ≤ 2147483647) = true := decide_eq_true t4
          have HR := hid (ny.out t1 t2 t3 t4)
          clear n1 n2 n3 n4 ny
          go_wp2_with (go_at_call 54; refine (K3.out _).mono ?_; rintro e wx ⟨rfl, hwx⟩; rw [hwx])
          go_ret
          exact ⟨ret_bool HR.out.symm, hb1⟩
        · have t4b : decide (ex ≤ 2147483647) = false := decide_eq_false t4
          have HR := hid (n4.out (by omega))
          clear n1 n2 n3 n4 ny
          go_wp2
          go_ret
          exact ⟨ret_bool HR.out.symm, hb1⟩
      · have t3b : decide (-1 ≤ ex) = false := decide_eq_false t3
        have HR := hid (n3.out (by omega))
        clear n1 n2 n3 n4 ny
        go_wp2
        go_ret
        exact ⟨ret_bool HR.out.symm, hb1⟩

theorem hglue1 (a r : List UInt8) : (⟨a.toArray⟩ : ByteArray) ++ ((⟨#[59, 114, 101, 97, 115, 111, 110, 61]⟩ : ByteArray) ++ ⟨r.toArray⟩) = ⟨(a ++ ([59] ++ reasonK ++ [61] ++ r) ++ []).toArray⟩ := by
  have e : (⟨#[59, 114, 101, 97, 115, 111, 110, 61]⟩ : ByteArray) = ⟨([59] ++ reasonK ++ [61]).toArray⟩ := rfl
  rw [e, ByteArray.mk_append_mk, ByteArray.mk_append_mk]; simp
theorem hglue2 (a d : List UInt8) : (⟨a.toArray⟩ : ByteArray) ++ ((⟨#[59, 101, 120, 112, 105, 114, 101, 115, 61]⟩ : ByteArray) ++ ⟨d.toArray⟩) = ⟨(a ++ [] ++ ([59] ++ expiresK ++ [61] ++ d)).toArray⟩ := by
  have e : (⟨#[59, 101, 120, 112, 105, 114, 101, 115, 61]⟩ : ByteArray) = ⟨([59] ++ expiresK ++ [61]).toArray⟩ := rfl
  rw [e, ByteArray.mk_append_mk, ByteArray.mk_append_mk]; simp
theorem hglue3 (a r d : List UInt8) : ((⟨a.toArray⟩ : ByteArray) ++ ((⟨#[59, 114, 101, 97, 115, 111, 110, 61]⟩ : ByteArray) ++ ⟨r.toArray⟩)) ++ ((⟨#[59, 101, 120, 112, 105, 114, 101, 115, 61]⟩ : ByteArray) ++ ⟨d.toArray⟩) = ⟨(a ++ ([59] ++ reasonK ++ [61] ++ r) ++ ([59] ++ expiresK ++ [61] ++ d)).toArray⟩ := by
  rw [hglue1]
  have e2 : (⟨#[59, 101, 120, 112, 105, 114, 101, 115, 61]⟩ : ByteArray) = ⟨([59] ++ expiresK ++ [61]).toArray⟩ := rfl
  rw [e2, ByteArray.mk_append_mk, ByteArray.mk_append_mk]; simp
theorem sttB_facts {v : Stt} (h : sttB v = true) : v.name.length ≤ 64 ∧ v.reason.length ≤ 64 ∧ -1 ≤ v.expires ∧ v.expires ≤ 2147483647 := by
  have hm : (maxS : Int) = 2147483647 := rfl
  simp only [sttB, Bool.and_eq_true, Bool.or_eq_true, beq_iff_eq, decide_eq_true_eq, List.isEmpty_iff] at h
  obtain ⟨h1, h2, ⟨h3, h4⟩, h5⟩ := h
  refine ⟨(tok_facts h1).2.1, ?_, h3, by rw [← hm]; exact h4⟩
  rcases h5 with h5 | h5
  · rw [h5]; simp
  · exact (tok_facts h5).2.1

set_option maxHeartbeats 4000000 in
set_option maxRecDepth 100000 in
theorem hshow_any (s : Stt) (w : World) (hnl : s.name.length ≤ 140737488355328) (hrl : s.reason.length ≤ 140737488355328) (hwf : (Lit.int .i64 s.expires).wf = true) :
    Calls Tryd.prog 27 #[sttV s] w fun e w' => e = .returned (.tuple #[.string ⟨(sttShow s).1.toArray⟩, .int .i64 (sttShow s).2]) ∧ Below w.heap.size w w' := by
  have HV : Hid (sttShow s = if sttB s = true then (sttT s, 0) else ([], 82)) := show _ = _ from rfl
  have HTT : Hid (sttT s = s.name ++ (if s.reason = [] then [] else [59] ++ reasonK ++ [61] ++ s.reason) ++ (if s.expires = -1 then [] else [59] ++ expiresK ++ [61] ++ digL s.expires.toNat)) := show _ = _ from rfl
  obtain ⟨q0, q1⟩ := i64_of hwf
  have KM := hid (fun w' => hmayshow_any s w' hnl hrl hwf)
  have KC := hid (fun w' => hclone_list s.name w' hnl)
  have KD := hid (fun (h0 : 0 ≤ s.expires) w' => hdigits_h s.expires w' h0 q1)
  have HF := hid (@sttB_facts s)
  have HDL : Hid (s.expires ≤ 2147483647 → (digL s.expires.toNat).length ≤ 19) := fun h => digL_len19 (by omega)
  have hb0 : Below w.heap.size w (w.alloc (objS s)) := (Below.refl _ w).alloc (Nat.le_refl _) _
  have hlt := alloc_lt w (objS s)
  have HBX := hid (boxS_new w s)
  clear hwf
  obtain ⟨nm, ex, re⟩ := s
  unfold sttV at KM ⊢
  unfold objS at hb0 hlt HBX
  simp only at HV HTT KM KC KD HF HDL HBX hb0 hlt hnl hrl q0 q1 ⊢
  generalize sttShow _ = R at HV ⊢
  generalize sttT _ = T at HV HTT
  generalize sttB _ = B at HV KM HF
  generalize digL ex.toNat = dl at HTT KD HDL
  obtain ⟨x0, x1, x2⟩ := HBX.out
  simp only at x0 x1 x2
  go_enter Tryd.func27, Tryd.ntmps27
  go_wp2_with fail
  refine (KM.out _).mono ?_
  rintro e w1 ⟨rfl, hw1⟩
  have HB1 := hid (BoxS.below HBX.out hw1 hlt)
  have hb1 := hb0.trans (hw1.mono hb0.size)
  have hlt1 := Nat.lt_of_lt_of_le hlt hw1.size
  clear x0 x1 x2 HBX hb0 hw1 hlt KM
  cases B with
  | false =>
    have HR : Hid (R = ([], 82)) := show _ = _ by rw [HV.out]; rfl
    clear HV HTT
    go_wp2
    go_ret2
    exact ⟨by rw [HR.out]; rfl, hb1⟩
  | true =>
    have HR : Hid (R = (T, 0)) := show _ = _ by rw [HV.out]; rfl
    obtain ⟨hn64, hr64, hx0, hx1⟩ := HF.out rfl
    clear HV HF
    obtain ⟨x0, x1, x2⟩ := HB1.out
    simp only at x0 x1 x2
    go_wp2_with fail
    refine (KC.out _).mono ?_
    rintro e w2 ⟨rfl, hw2⟩
    have HB2 := hid (BoxS.below HB1.out hw2 hlt1)
    have hb2 := hb1.trans (hw2.mono hb1.size)
    clear x0 x1 x2 HB1 hb1 hw2 hlt1 KC
    obtain ⟨x0, x1, x2⟩ := HB2.out
    simp only at x0 x1 x2
    have hdl := HDL.out hx1
    cases t5 : re.isEmpty with
    | true =>
      have t5a : re = [] := by simpa using t5
      have t5b : (re != []) = false := by rw [t5a]; rfl
      have HT5 := hid t5a
      clear t5a
      by_cases t6 : ex = -1
      · have HT : Hid (T = nm ++ [] ++ []) := show _ = _ by rw [HTT.out, if_pos HT5.out, if_pos t6]
        have t6b : (ex != -1) = false := by simpa using t6
        clear HTT KD
        go_wp2
        go_ret2
        exact ⟨by rw [HR.out, HT.out, ← showglue0]; rfl, hb2⟩
      · have HT : Hid (T = nm ++ [] ++ ([59] ++ expiresK ++ [61] ++ dl)) := show _ = _ by rw [HTT.out, if_pos HT5.out, if_neg t6]
        have t6b : (ex != -1) = true := by simpa using t6
        have KD2 := hid (fun w' => KD.out (by omega) w')
        clear HTT KD
        go_wp2_with fail
        refine (KD2.out _).mono ?_
        rintro e w3 ⟨rfl, hw3⟩
        have hb3 := hb2.trans (hw3.mono hb2.size)
        clear x0 x1 x2
        go_wp2
        go_ret2
        exact ⟨by rw [HR.out, HT.out, ← hglue2]; rfl, hb3⟩
    | false =>
      have t5a : re ≠ [] := by intro h; rw [h] at t5; simp at t5
      have t5b : (re != []) = true := bne_iff_ne.2 t5a
      by_cases t6 : ex = -1
      · have HT : Hid (T = nm ++ ([59] ++ reasonK ++ [61] ++ re) ++ []) := show _ = _ by rw [HTT.out, if_neg t5a, if_pos t6]
        have t6b : (ex != -1) = false := by simpa using t6
        clear HTT KD
        go_wp2
        go_ret2
        exact ⟨by rw [HR.out, HT.out, ← hglue1]; rfl, hb2⟩
      · have HT : Hid (T = nm ++ ([59] ++ reasonK ++ [61] ++ re) ++ ([59] ++ expiresK ++ [61] ++ dl)) := show _ = _ by rw [HTT.out, if_neg t5a, if_neg t6]
        have t6b : (ex != -1) = true := by simpa using t6
        have KD2 := hid (fun w' => KD.out (by omega) w')
        clear HTT KD
        go_wp2_with fail
        refine (KD2.out _).mono ?_
        rintro e w3 ⟨rfl, hw3⟩
        have hb3 := hb2.trans (hw3.mono hb2.size)
        clear x0 x1 x2
        go_wp2
        go_ret2
        exact ⟨by rw [HR.out, HT.out, ← hglue3]; rfl, hb3⟩

end Go.Proofs.YtjbfdbccidhdfaaDoor
