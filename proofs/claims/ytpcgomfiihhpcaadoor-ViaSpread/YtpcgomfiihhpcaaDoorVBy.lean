/-
  Contracts: By, of package via and the document's own.
-/
import Derived.Test.YtpcgomfiihhpcaaDoorVWho
import Derived.BigQuiet
import Derived.Lib.QuietBelow
namespace Go.Proofs.YtpcgomfiihhpcaaDoor
open Go.RowKit Sc
set_option linter.unusedVariables false
set_option maxRecDepth 20000

open Go.Sort
theorem digI_5060 : digI 5060 = [53, 48, 54, 48] := by decide +kernel
theorem whoglue (a d : List UInt8) : ((⟨a.toArray⟩ : ByteArray) ++ (⟨#[58]⟩ : ByteArray)) ++ ⟨d.toArray⟩ = ⟨(a ++ [58] ++ d).toArray⟩ := by
  have e0 : (⟨#[58]⟩ : ByteArray) = ⟨[58].toArray⟩ := rfl
  rw [e0, ByteArray.mk_append_mk, ByteArray.mk_append_mk]
theorem whoglue2 (a : List UInt8) : (⟨a.toArray⟩ : ByteArray) ++ (⟨#[58, 53, 48, 54, 48]⟩ : ByteArray) = ⟨(a ++ [58] ++ [53, 48, 54, 48]).toArray⟩ := by
  have e0 : (⟨#[58, 53, 48, 54, 48]⟩ : ByteArray) = ⟨([58] ++ [53, 48, 54, 48] : List UInt8).toArray⟩ := rfl
  rw [e0, ByteArray.mk_append_mk, List.append_assoc]

set_option maxHeartbeats 1000000 in
set_option maxRecDepth 100000 in
theorem vby_any (c : HopC) (w : World) (hsm : SmallV 140737488355328 c.h) (hat : c.At w) :
    Calls Tryd.prog 16 #[hpV c.h c.q] w fun e w' => e = .returned (.string ⟨(whoH c.h).toArray⟩) ∧ Below w.heap.size w w' := by
  obtain ⟨a, q⟩ := c
  obtain ⟨h3, hcap⟩ := hat
  simp only at h3 hcap hsm ⊢
  have hpo := hsm.port
  have hho := hsm.1
  have KD := hid (fun w' => digits_i64 (if a.port = 0 then 5060 else a.port) w' (by split <;> omega) (by split <;> omega))
  have hdl := digI_len (n := if a.port = 0 then 5060 else a.port) (by split <;> omega)
  have HR : Hid (whoH a = a.host ++ [58] ++ digI (if a.port = 0 then 5060 else a.port)) := show _ = _ from rfl
  have hbx := boxV_new w a q
  have hb0 : Below w.heap.size w (w.alloc (objV a q)) := (Below.refl _ w).alloc (Nat.le_refl _) _
  have hlt := alloc_lt w (objV a q)
  obtain ⟨a3, c3, rfl⟩ := h3.form
  clear h3 hsm hcap
  obtain ⟨ho, po, ps⟩ := a
  unfold hpV
  unfold objV at hb0 hbx hlt
  simp only at KD hb0 hbx hlt hpo hho hdl HR ⊢
  generalize whoH _ = R at HR ⊢
  have HBX := hid hbx
  clear hbx
  obtain ⟨x0, x1, x2⟩ := HBX.out
  simp only at x0 x1 x2
  by_cases hp : po = 0
  · rw [if_pos hp] at KD hdl HR
    subst hp
    generalize digI _ = dl at KD hdl HR
    replace x0 := cell_regrown x0
    replace x1 := cell_regrown x1
    replace x2 := cell_regrown x2
    have c := hid (fun (d : Nat) (os : Array Obj) => Calls.regrown_of (KD.out (grow (redrawn (w.alloc (.cells #[.string ⟨ho.toArray⟩, .int .i64 0, .slice a3 ps.length c3] 24)) d) os)))
    clear KD HBX
    go_enter Tryd.func16, Tryd.ntmps16
    go_wp2
    refine wp_region_quiet_below followsMixed5 (by kernel_rfl) ?_
    repeat (go_big_quiet_step (with_reducible exact c.out _ _))
    refine wpQuiet_nil ?_
    intro _ hw'
    obtain ⟨⟨dq, osq⟩, hw''⟩ := hw'
    subst hw''
    have hb1 := below_re5 hb0 dq osq
    clear c x0 x1 x2 hb0
    go_wp2
    go_ret
    exact ⟨by rw [HR.out, ← whoglue]; rfl, hb1⟩
  · have hp1 : (po == 0) = false := by simpa using hp
    rw [if_neg hp] at KD hdl HR
    generalize digI _ = dl at KD hdl HR
    replace x0 := cell_regrown x0
    replace x1 := cell_regrown x1
    replace x2 := cell_regrown x2
    have c := hid (fun (d : Nat) (os : Array Obj) => Calls.regrown_of (KD.out (grow (redrawn (w.alloc (.cells #[.string ⟨ho.toArray⟩, .int .i64 po, .slice a3 ps.length c3] 24)) d) os)))
    clear KD HBX
    go_enter Tryd.func16, Tryd.ntmps16
    go_wp2
    refine wp_region_quiet_below followsMixed5 (by kernel_rfl) ?_
    repeat (go_big_quiet_step (with_reducible exact c.out _ _))
    refine wpQuiet_nil ?_
    intro _ hw'
    obtain ⟨⟨dq, osq⟩, hw''⟩ := hw'
    subst hw''
    have hb1 := below_re5 hb0 dq osq
    clear c x0 x1 x2 hb0
    go_wp2
    go_ret
    exact ⟨by rw [HR.out, ← whoglue]; rfl, hb1⟩

set_option maxHeartbeats 1000000 in
set_option maxRecDepth 100000 in
theorem rvby_any (c : HopC) (w : World) (hsm : SmallV 140737488355328 c.h) (hat : c.At w) :
    Calls Tryd.prog 17 #[hpV c.h c.q] w fun e w' => e = .returned (.string ⟨(whoH c.h).toArray⟩) ∧ Below w.heap.size w w' := by
  obtain ⟨a, q⟩ := c
  obtain ⟨h3, hcap⟩ := hat
  simp only at h3 hcap hsm ⊢
  have hpo := hsm.port
  have hho := hsm.1
  have KD := hid (fun w' => refdigits_i64 (if a.port = 0 then 5060 else a.port) w' (by split <;> omega) (by split <;> omega))
  have hdl := digI_len (n := if a.port = 0 then 5060 else a.port) (by split <;> omega)
  have HR : Hid (whoH a = a.host ++ [58] ++ digI (if a.port = 0 then 5060 else a.port)) := show _ = _ from rfl
  have hbx := boxV_new w a q
  have hb0 : Below w.heap.size w (w.alloc (objV a q)) := (Below.refl _ w).alloc (Nat.le_refl _) _
  have hlt := alloc_lt w (objV a q)
  obtain ⟨a3, c3, rfl⟩ := h3.form
  clear h3 hsm hcap
  obtain ⟨ho, po, ps⟩ := a
  unfold hpV
  unfold objV at hb0 hbx hlt
  simp only at KD hb0 hbx hlt hpo hho hdl HR ⊢
  generalize whoH _ = R at HR ⊢
  have HBX := hid hbx
  clear hbx
  obtain ⟨x0, x1, x2⟩ := HBX.out
  simp only at x0 x1 x2
  by_cases hp : po = 0
  · rw [if_pos hp] at HR
    subst hp
    clear KD hdl
    go_enter Tryd.func17, Tryd.ntmps17
    go_wp2
    go_ret
    exact ⟨by rw [HR.out, digI_5060, ← whoglue2]; rfl, hb0⟩
  · have hp1 : (po == 0) = false := by simpa using hp
    rw [if_neg hp] at KD hdl HR
    generalize digI _ = dl at KD hdl HR
    replace x0 := cell_regrown x0
    replace x1 := cell_regrown x1
    replace x2 := cell_regrown x2
    have c := hid (fun (d : Nat) (os : Array Obj) => Calls.regrown_of (KD.out (grow (redrawn (w.alloc (.cells #[.string ⟨ho.toArray⟩, .int .i64 po, .slice a3 ps.length c3] 24)) d) os)))
    clear KD HBX
    go_enter Tryd.func17, Tryd.ntmps17
    go_wp2
    refine wp_region_quiet_below followsMixed5 (by kernel_rfl) ?_
    repeat (go_big_quiet_step (with_reducible exact c.out _ _))
    refine wpQuiet_nil ?_
    intro _ hw'
    obtain ⟨⟨dq, osq⟩, hw''⟩ := hw'
    subst hw''
    have hb1 := below_re5 hb0 dq osq
    clear c x0 x1 x2 hb0
    go_wp2
    go_ret
    exact ⟨by rw [HR.out, ← whoglue]; rfl, hb1⟩

end Go.Proofs.YtpcgomfiihhpcaaDoor
