/-
  Contracts: the document's own Same of messages that are one; the laws' small.
-/
import Derived.Test.YtagopboofmjnfaaDoorFAll
import Derived.Laws.StructEq
namespace Go.Proofs.YtagopboofmjnfaaDoor
open Go.RowKit Go.Sort Sc
set_option linter.unusedVariables false
set_option maxRecDepth 20000

set_option maxHeartbeats 2000000 in
set_option maxRecDepth 100000 in
theorem rsame_any (m : Ms) (h h' : Value) (w : World) (hl : m.headers.length ≤ 4398046511104) (hat : HdrsAt w h m.headers) (hat' : HdrsAt w h' m.headers) :
    Calls Tryd.prog 19 #[msgV m h, msgV m h'] w fun e w' => e = .returned (.bool true) ∧ Below w.heap.size w w' := by
  obtain ⟨ao, cap, rfl, hcell⟩ := hat.get
  obtain ⟨ao', cap', rfl, hcell'⟩ := hat'.get
  have HC := hid hcell
  have HC' := hid hcell'
  have HBX := hid (boxM_new w m (.slice ao m.headers.length cap))
  have hb0 : Below w.heap.size w (w.alloc (objM m (.slice ao m.headers.length cap))) := (Below.refl _ w).alloc (Nat.le_refl _) _
  have hlt := alloc_lt w (objM m (.slice ao m.headers.length cap))
  have HBY := hid (boxM_new (w.alloc (objM m (.slice ao m.headers.length cap))) m (.slice ao' m.headers.length cap'))
  have hA := (Below.refl _ (w.alloc (objM m (.slice ao m.headers.length cap)))).alloc (Nat.le_refl _) (objM m (.slice ao' m.headers.length cap'))
  have HBX2 := hid (BoxM.below HBX.out hA hlt)
  have hb1 := hb0.trans (hA.mono hb0.size)
  rw [show (w.alloc (objM m (.slice ao m.headers.length cap))).heap.size = w.heap.size + 1 by simp] at HBY
  clear hat hat' hcell hcell' HBX hb0 hlt hA
  obtain ⟨me, ta, st, re, hs, bo⟩ := m
  unfold msgV
  unfold objM at HBX2 HBY hb1
  simp only at HC HC' HBX2 HBY hb1 hl ⊢
  obtain ⟨n, hn⟩ : ∃ n, n = hs.length := ⟨_, rfl⟩
  rw [← hn] at HBX2 HBY hb1 hl ⊢
  have HN := hid hn
  clear hn
  obtain ⟨x0, x1, x2, x3, x4, x5⟩ := HBX2.out
  obtain ⟨y0, y1, y2, y3, y4, y5⟩ := HBY.out
  simp only at x0 x1 x2 x3 x4 x5 y0 y1 y2 y3 y4 y5
  have q1 : (me != me) = false := by simp
  have q2 : (ta != ta) = false := by simp
  have q3 : (st != st) = false := by simp
  have q4 : (re != re) = false := by simp
  have q5 : (bo != bo) = false := by simp
  have HB1 := hid hb1
  have hg := guardHdr
  generalize hW : (World.alloc (World.alloc w _) _) = W at HBX2 HBY hb1 HB1 x0 x1 x2 x3 x4 x5 y0 y1 y2 y3 y4 y5
  go_enter Tryd.func19, Tryd.ntmps19
  go_wp2
  clear hW
  go_loopw [5] (fun i wr => ∃ k q : Nat, k ≤ n ∧ i = .int .i64 k ∧ wr = W.drewN q) (fun i _ => n - (intOf i).toNat)
  case atStart => exact ⟨0, 0, Nat.zero_le _, rfl, rfl⟩
  case round =>
    obtain ⟨k, q, hk, rfl, rfl⟩ := hrel
    by_cases hlt2 : k < n
    · have hkl : k < hs.length := by have := HN.out; omega
      obtain ⟨a, ha, hab, h0, h1⟩ := HC.out k hkl
      obtain ⟨a', ha', hab', h0', h1'⟩ := HC'.out k hkl
      have d0 := cell_below HB1.out (by rw [add_block]; exact hab) h0
      have d1 := cell_below HB1.out (by simp only [add_block]; exact hab) h1
      have e0 := cell_below HB1.out (by rw [add_block]; exact hab') h0'
      have e1 := cell_below HB1.out (by simp only [add_block]; exact hab') h1'
      have hcmp : ∀ u, (binOp .neq 51 (.agg #[.string ⟨hs[k].name.toArray⟩, .string ⟨hs[k].value.toArray⟩]) (.agg #[.string ⟨hs[k].name.toArray⟩, .string ⟨hs[k].value.toArray⟩])).run Tryd.prog u = .ok (.bool false) u := fun u => by
        rw [neqHdr]; simp
      clear hab h0 h1 hab' h0' h1'
      subst ha ha'
      generalize hs[k] = x at d0 d1 e0 e1 hcmp
      obtain ⟨xn, xv⟩ := x
      simp only at d0 d1 e0 e1 hcmp
      go_wp2
      go_quiet (fail)
      go_wp2
      go_roundw
      case rel => exact ⟨k + 1, q + nq, by omega, by go_num, by first | rfl | rw [World.drewN_drewN]⟩
      case measure => simp [intOf]; omega
    · go_wp2
      go_ret
      exact ⟨rfl, HB1.out.trans ((below_drewN W q).mono HB1.out.size)⟩

theorem sumH_le (hs : List Hdr) (k : Nat) : sumH (hs.take k) ≤ sumH hs := by
  have := congrArg sumH (List.take_append_drop k hs)
  unfold sumH at this ⊢
  rw [List.map_append, List.sum_append] at this
  omega
theorem sumH_bound {B : Nat} : ∀ hs : List Hdr, (∀ p ∈ hs, p.name.length ≤ B ∧ p.value.length ≤ B) → sumH hs ≤ hs.length * (2 * B + 10)
  | [], _ => by simp [sumH]
  | x :: hs, h => by
    have ih := sumH_bound hs (fun p hp => h p (by simp [hp]))
    have hx := h x (by simp)
    have e : sumH (x :: hs) = 10 + x.name.length + x.value.length + sumH hs := by simp [sumH]
    rw [e, List.length_cons, Nat.add_mul]; omega

set_option maxHeartbeats 2000000 in
set_option maxRecDepth 100000 in
theorem small_few (m : Ms) (h : Value) (w : World) (hsm : SmallM 140737488355328 m) (h64 : m.headers.length ≤ 64) (hat : HdrsAt w h m.headers) :
    Calls Tryd.prog 9 #[msgV m h] w fun e w' => e = .returned (.bool (decide (sumM m ≤ 20000))) ∧ Below w.heap.size w w' := by
  obtain ⟨ao, cap, rfl, hcell⟩ := hat.get
  have HC := hid hcell
  have HBX := hid (boxM_new w m (.slice ao m.headers.length cap))
  have hb0 : Below w.heap.size w (w.alloc (objM m (.slice ao m.headers.length cap))) := (Below.refl _ w).alloc (Nat.le_refl _) _
  have hsb := sumH_bound m.headers hsm.2.2.2.2.2
  have hmm : m.headers.length * (2 * 140737488355328 + 10) ≤ 64 * (2 * 140737488355328 + 10) := Nat.mul_le_mul_right _ h64
  obtain ⟨k1, k2, k3, k4, _⟩ := hsm
  have hv : sumM m = m.method.length + m.target.length + m.reason.length + m.body.length + sumH m.headers := rfl
  clear hat hcell
  obtain ⟨me, ta, st, re, hs, bo⟩ := m
  unfold msgV
  unfold objM at HBX hb0
  simp only at HC HBX hb0 k1 k2 k3 k4 hsb hmm hv h64 ⊢
  have hSB : sumH hs ≤ 18014398509482624 := by omega
  generalize sumM _ = S at hv ⊢
  have HV := hid hv
  clear hsb hmm hv
  obtain ⟨n, hn⟩ : ∃ n, n = hs.length := ⟨_, rfl⟩
  rw [← hn] at HBX hb0 h64 ⊢
  have HN := hid hn
  clear hn
  obtain ⟨x0, x1, x2, x3, x4, x5⟩ := HBX.out
  simp only at x0 x1 x2 x3 x4 x5
  have z1 := size_list me
  have z2 := size_list ta
  have z3 := size_list re
  have z4 := size_list bo
  have HB0 := hid hb0
  generalize hW : World.alloc w _ = W at HBX hb0 HB0 x0 x1 x2 x3 x4 x5
  go_enter Tryd.func9, Tryd.ntmps9
  go_wp2
  clear hW
  go_loopw [3, 4] (fun x i wr => ∃ k q t : Nat, k ≤ n ∧ i = .int .i64 k ∧ x = .int .i64 t ∧ t ≤ 27021597764222976 ∧ Hid (t = me.length + ta.length + re.length + bo.length + sumH (hs.take k)) ∧ wr = W.drewN q) (fun _ i _ => n - (intOf i).toNat)
  case atStart => exact ⟨0, 0, me.length + ta.length + re.length + bo.length, Nat.zero_le _, rfl, by go_num, by omega, hid (by simp [sumH]), rfl⟩
  case round =>
    obtain ⟨k, q, t, hk, rfl, rfl, ht4, ht, rfl⟩ := hrel
    by_cases hlt2 : k < n
    · have hkl : k < hs.length := by have := HN.out; omega
      obtain ⟨a, ha, hab, h0, h1⟩ := HC.out k hkl
      have d0 := cell_below HB0.out (by rw [add_block]; exact hab) h0
      have d1 := cell_below HB0.out (by simp only [add_block]; exact hab) h1
      have hst := hid (sumH_step hkl)
      have hle := sumH_le hs (k + 1)
      clear hab h0 h1
      subst ha
      generalize hs[k] = x at d0 d1 hst
      obtain ⟨xn, xv⟩ := x
      simp only at d0 d1 hst
      have s1 := size_list xn
      have s2 := size_list xv
      have hbig : t + 10 + xn.length + xv.length ≤ 27021597764222976 := by have h1 := hst.out; have h2 := ht.out; omega
      have w1 : IntKind.i64.wrap ((t : Int) + 10) = ((t + 10 : Nat) : Int) := by
        simp [IntKind.wrap, IntKind.bits, IntKind.signed]; omega
      have w2 : IntKind.i64.wrap ((t : Int) + 10 + (xn.length : Int)) = ((t + 10 + xn.length : Nat) : Int) := by
        simp [IntKind.wrap, IntKind.bits, IntKind.signed]; omega
      have w3 : IntKind.i64.wrap ((t : Int) + 10 + (xn.length : Int) + (xv.length : Int)) = ((t + 10 + xn.length + xv.length : Nat) : Int) := by
        simp [IntKind.wrap, IntKind.bits, IntKind.signed]; omega
      have hnx : Hid (t + 10 + xn.length + xv.length = me.length + ta.length + re.length + bo.length + sumH (hs.take (k + 1))) := show _ = _ by rw [hst.out, ht.out]; omega
      clear hst ht hle
      go_wp2
      go_quiet (fail)
      go_wp2
      go_roundw
      case rel => exact ⟨k + 1, q + nq, t + 10 + xn.length + xv.length, by omega, by go_num, by first | rfl | (simp only [w3, w2, w1]; go_num) | go_num, hbig, hnx, by first | rfl | rw [World.drewN_drewN]⟩
      case measure => simp [intOf]; omega
    · have hv : Hid (t = S) := show _ = _ by rw [ht.out, HV.out, List.take_of_length_le (by have := HN.out; omega)]
      clear ht
      go_wp2
      go_ret
      exact ⟨ret_bool (by rw [hv.out]; simp; omega), HB0.out.trans ((below_drewN W q).mono HB0.out.size)⟩

set_option maxHeartbeats 2000000 in
set_option maxRecDepth 100000 in
theorem small_many (m : Ms) (h : Value) (w : World) (hsm : SmallM 140737488355328 m) (hl : m.headers.length ≤ 4398046511104) (hat : HdrsAt w h m.headers) :
    Calls Tryd.prog 9 #[msgV m h] w fun e w' => (∃ b, e = .returned (.bool b)) ∧ Below w.heap.size w w' := by
  obtain ⟨ao, cap, rfl, hcell⟩ := hat.get
  have HC := hid hcell
  have HBX := hid (boxM_new w m (.slice ao m.headers.length cap))
  have hb0 : Below w.heap.size w (w.alloc (objM m (.slice ao m.headers.length cap))) := (Below.refl _ w).alloc (Nat.le_refl _) _
  obtain ⟨k1, k2, k3, k4, _⟩ := hsm
  clear hat hcell
  obtain ⟨me, ta, st, re, hs, bo⟩ := m
  unfold msgV
  unfold objM at HBX hb0
  simp only at HC HBX hb0 k1 k2 k3 k4 hl ⊢
  obtain ⟨n, hn⟩ : ∃ n, n = hs.length := ⟨_, rfl⟩
  rw [← hn] at HBX hb0 hl ⊢
  have HN := hid hn
  clear hn
  obtain ⟨x0, x1, x2, x3, x4, x5⟩ := HBX.out
  simp only at x0 x1 x2 x3 x4 x5
  have z1 := size_list me
  have z2 := size_list ta
  have z3 := size_list re
  have z4 := size_list bo
  have HB0 := hid hb0
  generalize hW : World.alloc w _ = W at HBX hb0 HB0 x0 x1 x2 x3 x4 x5
  go_enter Tryd.func9, Tryd.ntmps9
  go_wp2
  clear hW
  go_loopw [3, 4] (fun x i wr => ∃ (k q : Nat) (t : Int), k ≤ n ∧ i = .int .i64 k ∧ x = .int .i64 t ∧ wr = W.drewN q) (fun _ i _ => n - (intOf i).toNat)
  case atStart => exact ⟨0, 0, _, Nat.zero_le _, rfl, rfl, rfl⟩
  case round =>
    obtain ⟨k, q, t, hk, rfl, rfl, rfl⟩ := hrel
    by_cases hlt2 : k < n
    · have hkl : k < hs.length := by have := HN.out; omega
      obtain ⟨a, ha, hab, h0, h1⟩ := HC.out k hkl
      have d0 := cell_below HB0.out (by rw [add_block]; exact hab) h0
      have d1 := cell_below HB0.out (by simp only [add_block]; exact hab) h1
      clear hab h0 h1
      subst ha
      generalize hs[k] = x at d0 d1
      obtain ⟨xn, xv⟩ := x
      simp only at d0 d1
      have s1 := size_list xn
      have s2 := size_list xv
      go_wp2
      go_quiet (fail)
      go_wp2
      go_roundw
      case rel => exact ⟨k + 1, q + nq, _, by omega, by go_num, rfl, by first | rfl | rw [World.drewN_drewN]⟩
      case measure => simp [intOf]; omega
    · go_wp2
      go_ret
      exact ⟨by first | exact ⟨_, rfl⟩ | (by_cases hz : t ≤ 20000 <;> simp [hz]), HB0.out.trans ((below_drewN W q).mono HB0.out.size)⟩

end Go.Proofs.YtagopboofmjnfaaDoor
