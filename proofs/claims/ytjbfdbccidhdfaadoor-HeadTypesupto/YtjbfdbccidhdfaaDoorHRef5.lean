/-
  The contract of the document's own Show of states.
-/
import Derived.Test.YtjbfdbccidhdfaaDoorHRef2
import Derived.BigQuiet
import Derived.Lib.QuietBelow
namespace Go.Proofs.YtjbfdbccidhdfaaDoor
open Go.RowKit Go.Sort Sc
set_option linter.unusedVariables false
set_option maxRecDepth 20000

theorem stt_no1 {v : Stt} (h : tokenB v.name = false) : sttShow v = ([], 82) := by rw [sttShow, if_neg]; simp [sttB, h]
theorem stt_no2 {v : Stt} (h : (lowL v.name == v.name) = false) : sttShow v = ([], 82) := by rw [sttShow, if_neg]; simp [sttB, h]
theorem stt_no3 {v : Stt} (h : v.expires < -1) : sttShow v = ([], 82) := by rw [sttShow, if_neg]; simp only [sttB, Bool.and_eq_true, decide_eq_true_eq]; omega
theorem stt_no4 {v : Stt} (h : 2147483647 < v.expires) : sttShow v = ([], 82) := by rw [sttShow, if_neg]; have hm : (maxS : Int) = 2147483647 := rfl; simp only [sttB, Bool.and_eq_true, decide_eq_true_eq]; omega
theorem stt_no5 {v : Stt} (h : v.reason ≠ []) (h2 : tokenB v.reason = false) : sttShow v = ([], 82) := by
  rw [sttShow, if_neg]
  have : v.reason.isEmpty = false := by cases hr : v.reason with | nil => exact absurd hr h | cons a b => rfl
  simp [sttB, h2, this]
theorem stt_yes {v : Stt} (h1 : tokenB v.name = true) (h2 : (lowL v.name == v.name) = true) (h3 : ¬ v.expires < -1) (h4 : ¬ 2147483647 < v.expires) (h5 : v.reason = [] ∨ tokenB v.reason = true) : sttShow v = (sttT v, 0) := by
  rw [sttShow, if_pos]
  have hm : (maxS : Int) = 2147483647 := rfl
  simp only [sttB, h1, h2, Bool.true_and, Bool.and_eq_true, decide_eq_true_eq, Bool.or_eq_true, List.isEmpty_iff]
  exact ⟨by omega, h5⟩
theorem showglue0 (a : List UInt8) : (⟨a.toArray⟩ : ByteArray) = ⟨(a ++ [] ++ []).toArray⟩ := by simp
theorem showglue1 (a r : List UInt8) : ((⟨a.toArray⟩ : ByteArray) ++ (⟨#[59, 114, 101, 97, 115, 111, 110, 61]⟩ : ByteArray)) ++ ⟨r.toArray⟩ = ⟨(a ++ ([59] ++ reasonK ++ [61] ++ r) ++ []).toArray⟩ := by
  have e : (⟨#[59, 114, 101, 97, 115, 111, 110, 61]⟩ : ByteArray) = ⟨([59] ++ reasonK ++ [61]).toArray⟩ := rfl
  rw [e, ByteArray.mk_append_mk, ByteArray.mk_append_mk]; simp
theorem showglue2 (a d : List UInt8) : ((⟨a.toArray⟩ : ByteArray) ++ (⟨#[59, 101, 120, 112, 105, 114, 101, 115, 61]⟩ : ByteArray)) ++ ⟨d.toArray⟩ = ⟨(a ++ [] ++ ([59] ++ expiresK ++ [61] ++ d)).toArray⟩ := by
  have e : (⟨#[59, 101, 120, 112, 105, 114, 101, 115, 61]⟩ : ByteArray) = ⟨([59] ++ expiresK ++ [61]).toArray⟩ := rfl
  rw [e, ByteArray.mk_append_mk, ByteArray.mk_append_mk]; simp
theorem showglue3 (a r d : List UInt8) : ((((⟨a.toArray⟩ : ByteArray) ++ (⟨#[59, 114, 101, 97, 115, 111, 110, 61]⟩ : ByteArray)) ++ ⟨r.toArray⟩) ++ (⟨#[59, 101, 120, 112, 105, 114, 101, 115, 61]⟩ : ByteArray)) ++ ⟨d.toArray⟩ = ⟨(a ++ ([59] ++ reasonK ++ [61] ++ r) ++ ([59] ++ expiresK ++ [61] ++ d)).toArray⟩ := by
  have e : (⟨#[59, 114, 101, 97, 115, 111, 110, 61]⟩ : ByteArray) = ⟨([59] ++ reasonK ++ [61]).toArray⟩ := rfl
  have e2 : (⟨#[59, 101, 120, 112, 105, 114, 101, 115, 61]⟩ : ByteArray) = ⟨([59] ++ expiresK ++ [61]).toArray⟩ := rfl
  rw [e, e2, ByteArray.mk_append_mk, ByteArray.mk_append_mk, ByteArray.mk_append_mk, ByteArray.mk_append_mk]; simp
theorem h_below {P : Program} {f : FuncId} {args : Array Value} {w : World} {v : Value} (h : Calls P f args w fun e w' => e = .returned v ∧ w' = w) : Calls P f args w fun e w' => e = .returned v ∧ Below w.heap.size w w' := h.mono fun _ _ ⟨he, hw⟩ => ⟨he, by rw [hw]; exact Below.refl _ _⟩

set_option maxHeartbeats 4000000 in
set_option maxRecDepth 100000 in
theorem rshow_any (s : Stt) (w : World) (hnl : s.name.length ≤ 140737488355328) (hrl : s.reason.length ≤ 140737488355328) (hwf : (Lit.int .i64 s.expires).wf = true) :
    Calls Tryd.prog 28 #[sttV s] w fun e w' => e = .returned (.tuple #[.string ⟨(sttShow s).1.toArray⟩, .int .i64 (sttShow s).2]) ∧ Below w.heap.size w w' := by
  have n1 := hid (@stt_no1 s)
  have n2 := hid (@stt_no2 s)
  have n3 := hid (@stt_no3 s)
  have n4 := hid (@stt_no4 s)
  have n5 := hid (@stt_no5 s)
  have ny := hid (@stt_yes s)
  have HTT : Hid (sttT s = s.name ++ (if s.reason = [] then [] else [59] ++ reasonK ++ [61] ++ s.reason) ++ (if s.expires = -1 then [] else [59] ++ expiresK ++ [61] ++ digL s.expires.toNat)) := show _ = _ from rfl
  obtain ⟨q0, q1⟩ := i64_of hwf
  have K1 := hid (fun w' => h_below (reftoken_list s.name w' hnl))
  have K2 := hid (fun w' => reflower_l s.name w' hnl)
  have K3 := hid (fun w' => h_below (reftoken_list s.reason w' hrl))
  have KD := hid (fun (h0 : 0 ≤ s.expires) w' => refdigits_h s.expires w' h0 q1)
  have htl : tokenB s.name = true → s.name.length ≤ 64 := fun h => (tok_facts h).2.1
  have hrt : tokenB s.reason = true → s.reason.length ≤ 64 := fun h => (tok_facts h).2.1
  have hdl : s.expires ≤ 2147483647 → (digL s.expires.toNat).length ≤ 19 := fun h => digL_len19 (by omega)
  have hbx := boxS_new w s
  have hb0 : Below w.heap.size w (w.alloc (objS s)) := (Below.refl _ w).alloc (Nat.le_refl _) _
  have hlt := alloc_lt w (objS s)
  have HBX := hid hbx
  have HTL := hid htl
  have HRT := hid hrt
  have HDL := hid hdl
  clear hbx hwf htl hrt hdl
  obtain ⟨nm, ex, re⟩ := s
  unfold sttV
  unfold objS at hb0 hlt HBX
  simp only at n1 n2 n3 n4 n5 ny HTT K1 K2 K3 KD HTL HRT HDL HBX hb0 hlt hnl hrl q0 q1 ⊢
  generalize sttShow _ = R at n1 n2 n3 n4 n5 ny ⊢
  generalize sttT _ = T at ny HTT
  generalize digL ex.toNat = dl at HTT KD HDL
  have c1 := hid (fun (d : Nat) (os : Array Obj) => Calls.regrown_of (K1.out (grow (redrawn (w.alloc (.cells #[.string ⟨nm.toArray⟩, .int .i64 ex, .string ⟨re.toArray⟩] 50)) d) os)))
  have c2 := hid (fun (d : Nat) (os : Array Obj) => Calls.regrown_of (K2.out (grow (redrawn (w.alloc (.cells #[.string ⟨nm.toArray⟩, .int .i64 ex, .string ⟨re.toArray⟩] 50)) d) os)))
  have c3 := hid (fun (d : Nat) (os : Array Obj) => Calls.regrown_of (K3.out (grow (redrawn (w.alloc (.cells #[.string ⟨nm.toArray⟩, .int .i64 ex, .string ⟨re.toArray⟩] 50)) d) os)))
  clear K1 K2 K3
  generalize lowL nm = ln at n2 ny c2
  obtain ⟨x0, x1, x2⟩ := HBX.out
  simp only at x0 x1 x2
  have x0 := cell_regrown x0
  have x1 := cell_regrown x1
  have x2 := cell_regrown x2
  cases t1 : tokenB nm with
  | false =>
    rw [t1] at c1
    have HR := hid (n1.out t1)
    clear n1 n2 n3 n4 n5 ny
    go_enter Tryd.func28, Tryd.ntmps28
    go_wp2
    refine wp_region_quiet_below followsMixed5 (by kernel_rfl) ?_
    repeat (go_big_quiet_step (first | with_reducible exact c1.out _ _ | with_reducible exact c2.out _ _ | with_reducible exact c3.out _ _))
    refine wpQuiet_nil ?_
    intro _ hw'
    obtain ⟨⟨dq, osq⟩, hw''⟩ := hw'
    subst hw''
    have hb1 := below_re5 hb0 dq osq
    clear x0 x1 x2 c1 c2 c3 hb0
    go_wp2
    go_ret2
    exact ⟨by rw [HR.out]; rfl, hb1⟩
  | true =>
    rw [t1] at c1
    cases t2 : (ln == nm) with
    | false =>
      have t2b : (ln != nm) = true := by rw [bne, t2]; rfl
      have HR := hid (n2.out t2)
      clear n1 n2 n3 n4 n5 ny
      go_enter Tryd.func28, Tryd.ntmps28
      go_wp2
      refine wp_region_quiet_below followsMixed5 (by kernel_rfl) ?_
      repeat (go_big_quiet_step (first | with_reducible exact c1.out _ _ | with_reducible exact c2.out _ _ | with_reducible exact c3.out _ _))
      refine wpQuiet_nil ?_
      intro _ hw'
      obtain ⟨⟨dq, osq⟩, hw''⟩ := hw'
      subst hw''
      have hb1 := below_re5 hb0 dq osq
      clear x0 x1 x2 c1 c2 c3 hb0
      go_wp2
      go_ret2
      exact ⟨by rw [HR.out]; rfl, hb1⟩
    | true =>
      have t2b : (ln != nm) = false := by rw [bne, t2]; rfl
      by_cases t3 : ex < -1
      · have t3b : decide (ex < -1) = true := decide_eq_true t3
        have HR := hid (n3.out t3)
        clear n1 n2 n3 n4 n5 ny
        go_enter Tryd.func28, Tryd.ntmps28
        go_wp2
        refine wp_region_quiet_below followsMixed5 (by kernel_rfl) ?_
        repeat (go_big_quiet_step (first | with_reducible exact c1.out _ _ | with_reducible exact c2.out _ _ | with_reducible exact c3.out _ _))
        refine wpQuiet_nil ?_
        intro _ hw'
        obtain ⟨⟨dq, osq⟩, hw''⟩ := hw'
        subst hw''
        have hb1 := below_re5 hb0 dq osq
        clear x0 x1 x2 c1 c2 c3 hb0
        go_wp2
        go_ret2
        exact ⟨by rw [HR.out]; rfl, hb1⟩
      · have t3b : decide (ex < -1) = false := decide_eq_false t3
        by_cases t4 : 2147483647 < ex
        · have t4b : decide (2147483647 < ex) = true := decide_eq_true t4
          have HR := hid (n4.out t4)
          clear n1 n2 n3 n4 n5 ny
          go_enter Tryd.func28, Tryd.ntmps28
          go_wp2
          refine wp_region_quiet_below followsMixed5 (by kernel_rfl) ?_
          repeat (go_big_quiet_step (first | with_reducible exact c1.out _ _ | with_reducible exact c2.out _ _ | with_reducible exact c3.out _ _))
          refine wpQuiet_nil ?_
          intro _ hw'
          obtain ⟨⟨dq, osq⟩, hw''⟩ := hw'
          subst hw''
          have hb1 := below_re5 hb0 dq osq
          clear x0 x1 x2 c1 c2 c3 hb0
          go_wp2
          go_ret2
          exact ⟨by rw [HR.out]; rfl, hb1⟩
        · have t4b : decide (2147483647 < ex) = false := decide_eq_false t4
          have hn64 := HTL.out t1
          by_cases t5 : re = []
          · have HR := hid (ny.out t1 t2 t3 t4 (Or.inl t5))
            have t5b : (re != []) = false := by rw [t5]; rfl
            have t5c : re.isEmpty = true := by rw [t5]; rfl
            have HT5 := hid t5
            clear n1 n2 n3 n4 n5 ny t5
            go_enter Tryd.func28, Tryd.ntmps28
            go_wp2
            refine wp_region_quiet_below followsMixed5 (by kernel_rfl) ?_
            repeat (go_big_quiet_step (first | with_reducible exact c1.out _ _ | with_reducible exact c2.out _ _ | with_reducible exact c3.out _ _))
            refine wpQuiet_nil ?_
            intro _ hw'
            obtain ⟨⟨dq, osq⟩, hw''⟩ := hw'
            subst hw''
            have hb1 := below_re5 hb0 dq osq
            have hb2 := hid (below_re5 (Below.refl _ (w.alloc (.cells #[.string ⟨nm.toArray⟩, .int .i64 ex, .string ⟨re.toArray⟩] 50))) dq osq)
            have y0 := x0 dq osq
            have y1 := x1 dq osq
            have y2 := x2 dq osq
            have hlt2 := Nat.lt_of_lt_of_le hlt hb2.out.size
            have HB2 := hid (show BoxS (grow (redrawn (w.alloc (.cells #[.string ⟨nm.toArray⟩, .int .i64 ex, .string ⟨re.toArray⟩] 50)) dq) osq) w.heap.size ⟨nm, ex, re⟩ from ⟨y0, y1, y2⟩)
            clear x0 x1 x2 c1 c2 c3 hb0 HBX hb2 hlt
            generalize grow _ _ = W at y0 y1 y2 hb1 HB2 hlt2 ⊢
            by_cases t6 : ex = -1
            · have HT : Hid (T = nm ++ [] ++ []) := show _ = _ by rw [HTT.out, if_pos HT5.out, if_pos t6]
              have t6b : (ex != -1) = false := by simpa using t6
              clear HTT KD
              go_wp2
              go_ret2
              exact ⟨by rw [HR.out, HT.out, ← showglue0]; rfl, hb1⟩
            · have HT : Hid (T = nm ++ [] ++ ([59] ++ expiresK ++ [61] ++ dl)) := show _ = _ by rw [HTT.out, if_pos HT5.out, if_neg t6]
              have t6b : (ex != -1) = true := by simpa using t6
              have hd := HDL.out (by omega)
              have KD2 := hid (fun w' => KD.out (by omega) w')
              clear HTT KD
              go_wp2_with fail
              refine (KD2.out _).mono ?_
              rintro e w3 ⟨rfl, hw3⟩
              have hb3 := hb1.trans (hw3.mono hb1.size)
              clear y0 y1 y2
              go_wp2
              go_ret2
              exact ⟨by rw [HR.out, HT.out, ← showglue2]; rfl, hb3⟩
          · have t5b : (re != []) = true := bne_iff_ne.2 t5
            have t5c : re.isEmpty = false := by cases re with | nil => exact absurd rfl t5 | cons a b => rfl
            cases t7 : tokenB re with
            | false =>
              rw [t7] at c3
              have HR := hid (n5.out t5 t7)
              clear n1 n2 n3 n4 n5 ny
              go_enter Tryd.func28, Tryd.ntmps28
              go_wp2
              refine wp_region_quiet_below followsMixed5 (by kernel_rfl) ?_
              repeat (go_big_quiet_step (first | with_reducible exact c1.out _ _ | with_reducible exact c2.out _ _ | with_reducible exact c3.out _ _))
              refine wpQuiet_nil ?_
              intro _ hw'
              obtain ⟨⟨dq, osq⟩, hw''⟩ := hw'
              subst hw''
              have hb1 := below_re5 hb0 dq osq
              clear x0 x1 x2 c1 c2 c3 hb0
              go_wp2
              go_ret2
              exact ⟨by rw [HR.out]; rfl, hb1⟩
            | true =>
              rw [t7] at c3
              have HR := hid (ny.out t1 t2 t3 t4 (Or.inr t7))
              have hr64 := HRT.out t7
              clear n1 n2 n3 n4 n5 ny
              go_enter Tryd.func28, Tryd.ntmps28
              go_wp2
              refine wp_region_quiet_below followsMixed5 (by kernel_rfl) ?_
              repeat (go_big_quiet_step (first | with_reducible exact c1.out _ _ | with_reducible exact c2.out _ _ | with_reducible exact c3.out _ _))
              refine wpQuiet_nil ?_
              intro _ hw'
              obtain ⟨⟨dq, osq⟩, hw''⟩ := hw'
              subst hw''
              have hb1 := below_re5 hb0 dq osq
              have hb2 := hid (below_re5 (Below.refl _ (w.alloc (.cells #[.string ⟨nm.toArray⟩, .int .i64 ex, .string ⟨re.toArray⟩] 50))) dq osq)
              have y0 := x0 dq osq
              have y1 := x1 dq osq
              have y2 := x2 dq osq
              have hlt2 := Nat.lt_of_lt_of_le hlt hb2.out.size
              have HB2 := hid (show BoxS (grow (redrawn (w.alloc (.cells #[.string ⟨nm.toArray⟩, .int .i64 ex, .string ⟨re.toArray⟩] 50)) dq) osq) w.heap.size ⟨nm, ex, re⟩ from ⟨y0, y1, y2⟩)
              clear x0 x1 x2 c1 c2 c3 hb0 HBX hb2 hlt
              generalize grow _ _ = W at y0 y1 y2 hb1 HB2 hlt2 ⊢
              by_cases t6 : ex = -1
              · have HT : Hid (T = nm ++ ([59] ++ reasonK ++ [61] ++ re) ++ []) := show _ = _ by rw [HTT.out, if_neg t5, if_pos t6]
                have t6b : (ex != -1) = false := by simpa using t6
                clear HTT KD
                go_wp2
                go_ret2
                exact ⟨by rw [HR.out, HT.out, ← showglue1]; rfl, hb1⟩
              · have HT : Hid (T = nm ++ ([59] ++ reasonK ++ [61] ++ re) ++ ([59] ++ expiresK ++ [61] ++ dl)) := show _ = _ by rw [HTT.out, if_neg t5, if_neg t6]
                have t6b : (ex != -1) = true := by simpa using t6
                have hd := HDL.out (by omega)
                have KD2 := hid (fun w' => KD.out (by omega) w')
                clear HTT KD
                go_wp2_with fail
                refine (KD2.out _).mono ?_
                rintro e w3 ⟨rfl, hw3⟩
                have hb3 := hb1.trans (hw3.mono hb1.size)
                clear y0 y1 y2
                go_wp2
                go_ret2
                exact ⟨by rw [HR.out, HT.out, ← showglue3]; rfl, hb3⟩

end Go.Proofs.YtjbfdbccidhdfaaDoor
