/-
  Base texts, one behind another: XAwake, XAttrG, XSmLaw.
-/
import Derived.Test.YtnijlmkodgdhlaaDoorYV
import Derived.Test.YtnijlmkodgdhlaaDoorYR
import Derived.Test.YtnijlmkodgdhlaaDoorXChk
import Derived.Test.YtnijlmkodgdhlaaDoorXAttr
import Derived.Test.YtnijlmkodgdhlaaDoorYM
import Derived.Test.YtnijlmkodgdhlaaDoorYK
import Derived.Test.YtnijlmkodgdhlaaDoorYU
import Derived.BigQuiet

/-
  The laws' own awake of layer 13; elements that a law lays itself.
-/
namespace Go.Proofs.YtnijlmkodgdhlaaDoor
open Go.RowKit Sc
set_option linter.unusedVariables false
set_option maxRecDepth 20000
set_option linter.unusedSimpArgs false

theorem row_at {w : World} {g : Nat} {e : TypeId} {l : List Value} (h : RowIs w g e l) {j : Nat} {u : Value} (hu : l[j]? = some u) : w.cell? ⟨g, j, none⟩ = some u := by
  obtain ⟨hj, rfl⟩ := List.getElem?_eq_some_iff.1 hu
  exact h.cell j hj
theorem add_zero_lit (g j : Nat) : (⟨g, 0, none⟩ : Addr).add j = ⟨g, j, none⟩ := by unfold Addr.add; split <;> simp_all
theorem row_nds {w : World} {g cap : Nat} {cs : List NdC} (h : RowIs w g 48 (ndsCells cs)) (hp : ∀ k (hk : k < cs.length), ParsAt w cs[k].a cs[k].nd.attrs) : NdsAt w (.slice (some ⟨g, 0, none⟩) cs.length cap) cs := by
  refine ⟨_, cap, rfl, fun k hk => ⟨_, rfl, (Array.getElem?_eq_some_iff.1 h).1, ?_, hp k hk⟩⟩
  have c : ∀ j u, (ndCells cs[k])[j]? = some u → w.cell? ⟨g, k * 4 + j, none⟩ = some u := fun j u hj => row_at h (ndsCells_get cs k hk j u hj)
  refine ⟨?_, ?_, ?_, ?_⟩
  · rw [add_zero_lit]; exact c 0 _ rfl
  · rw [add_zero_lit]; exact c 1 _ rfl
  · rw [add_zero_lit]; exact c 2 _ rfl
  · rw [add_zero_lit]; exact c 3 _ rfl
theorem row_pars {w : World} {g cap : Nat} {ps : List Par} (h : RowIs w g 45 (parsCells ps)) : ParsAt w (.slice (some ⟨g, 0, none⟩) ps.length cap) ps := by
  refine .inr ⟨_, cap, rfl, fun k hk => ⟨(Array.getElem?_eq_some_iff.1 h).1, ?_⟩⟩
  obtain ⟨c0, c1, c2⟩ := parsCells_get ps k hk
  refine ⟨?_, ?_, ?_⟩
  · rw [add_zero_lit]; exact row_at h c0
  · rw [add_zero_lit]; exact row_at h c1
  · rw [add_zero_lit]; exact row_at h c2
def awk1 : List UInt8 := [60, 97, 32, 98, 61, 39, 49, 39, 62, 32, 60, 99, 47, 62, 120, 60, 47, 97, 62]
def awk2 : List UInt8 := [60, 97, 32, 98, 61, 39, 49, 39, 62, 32, 60, 99, 62, 120, 32, 38, 108, 116, 59, 32, 121, 32, 60, 47, 99, 62, 60, 47, 97, 62]
def awkN : List Nd := [⟨0, [97], [⟨[98], [49], true⟩], []⟩, ⟨1, [99], [], [120, 32, 60, 32, 121]⟩]
theorem awk1_is : parseX awk1 = ([], 130) := by decide +kernel
theorem awk2_is : parseX awk2 = (awkN, 0) := by decide +kernel
def awkC (g : Nat) : List NdC := [⟨⟨0, [97], [⟨[98], [49], true⟩], []⟩, .slice (some ⟨g, 0, none⟩) 1 1⟩, ⟨⟨1, [99], [], [120, 32, 60, 32, 121]⟩, .slice none 0 0⟩]
theorem below_row {w : World} {g : Nat} {e : TypeId} {l : List Value} (h : RowIs w g e l) (o : Obj) : RowIs (w.alloc o) g e l := h.below ((Below.refl _ w).alloc (Nat.le_refl _) o) (Array.getElem?_eq_some_iff.1 h).1
theorem awk_nds (W : World) : NdsAt ((W.alloc (.cells #[.string ⟨#[98]⟩, .string ⟨#[49]⟩, .bool true] 45)).alloc (.cells #[.int .i64 0, .string ⟨#[97]⟩, .slice (some ⟨W.heap.size, 0, none⟩) 1 1, .string ⟨#[]⟩, .int .i64 1, .string ⟨#[99]⟩, .slice none 0 0, .string ⟨#[120, 32, 60, 32, 121]⟩] 48)) (.slice (some ⟨W.heap.size + 1, 0, none⟩) 2 2) (awkC W.heap.size) := by
  have h1 : RowIs (W.alloc (.cells #[.string ⟨#[98]⟩, .string ⟨#[49]⟩, .bool true] 45)) W.heap.size 45 (parsCells [⟨[98], [49], true⟩]) := by unfold RowIs; rw [heap_alloc_new]; rfl
  have hs : (W.alloc (.cells #[.string ⟨#[98]⟩, .string ⟨#[49]⟩, .bool true] 45)).heap.size = W.heap.size + 1 := by simp
  generalize W.alloc (.cells #[.string ⟨#[98]⟩, .string ⟨#[49]⟩, .bool true] 45) = W1 at h1 hs ⊢
  have h2 : RowIs (W1.alloc (.cells #[.int .i64 0, .string ⟨#[97]⟩, .slice (some ⟨W.heap.size, 0, none⟩) 1 1, .string ⟨#[]⟩, .int .i64 1, .string ⟨#[99]⟩, .slice none 0 0, .string ⟨#[120, 32, 60, 32, 121]⟩] 48)) (W.heap.size + 1) 48 (ndsCells (awkC W.heap.size)) := by
    unfold RowIs; rw [← hs, heap_alloc_new]; rfl
  refine row_nds (cs := awkC W.heap.size) h2 fun k hk => ?_
  match k, hk with
  | 0, _ => exact row_pars (ps := [⟨[98], [49], true⟩]) (cap := 1) (below_row h1 _)
  | 1, _ => exact .inl ⟨rfl, rfl⟩
set_option maxHeartbeats 2000000 in
set_option maxRecDepth 100000 in
theorem awake13_any (w : World) : Calls Tryd.prog 10 #[] w fun e w' => e = .returned (.bool true) ∧ Below w.heap.size w w' := by
  have K1 := hid (fun w' => xparse_any awk1 w' (by decide))
  have K2 := hid (fun w' => xparse_any awk2 w' (by decide))
  rw [awk1_is] at K1
  rw [awk2_is] at K2
  simp only [ParP] at K1 K2
  have E1 : Hid ((⟨#[60, 97, 32, 98, 61, 39, 49, 39, 62, 32, 60, 99, 47, 62, 120, 60, 47, 97, 62]⟩ : ByteArray) = ⟨awk1.toArray⟩) := rfl
  have E2 : Hid ((⟨#[60, 97, 32, 98, 61, 39, 49, 39, 62, 32, 60, 99, 62, 120, 32, 38, 108, 116, 59, 32, 121, 32, 60, 47, 99, 62, 60, 47, 97, 62]⟩ : ByteArray) = ⟨awk2.toArray⟩) := rfl
  have HA := hid awk_nds
  have KS := hid (fun v u cs w' (hk : ndsL cs = awkN) (hv : NdsAt w' v cs) (g : Nat) (hu : NdsAt w' u (awkC g)) => rsame13_any v u cs (awkC g) w' (by have := congrArg List.length hk; rw [ndsL_len] at this; rw [this]; decide) (by show (2 : Nat) ≤ _; decide) (fun c hc => by
    have hm : c.nd ∈ awkN := by rw [← hk]; exact List.mem_map.2 ⟨c, hc, rfl⟩
    simp only [awkN, List.mem_cons, List.not_mem_nil, or_false] at hm
    rcases hm with h | h <;> (rw [h]; decide)) hv hu)
  have HQ : Hid (∀ cs g, ndsL cs = awkN → decide (ndsL cs = ndsL (awkC g)) = true) := fun cs g h => by rw [h]; rfl
  go_enter Tryd.func10, Tryd.ntmps10
  go_wp2_with fail
  rw [E1.out]
  refine (K1.out _).mono ?_
  rintro e w1 ⟨v1, cs1, rfl, hk1, hown1, hw1⟩
  go_wp2_with fail
  rw [E2.out]
  refine (K2.out _).mono ?_
  rintro e w2 ⟨v2, cs2, rfl, hk2, hown2, hw2⟩
  have hb2 := hw1.trans (hw2.mono hw1.size)
  have HN2 := hid hown2.ndsAt
  have HK2 := hid hk2
  have hA := HA.out w2
  have hbA : Below w2.heap.size w2 ((w2.alloc (.cells #[.string ⟨#[98]⟩, .string ⟨#[49]⟩, .bool true] 45)).alloc (.cells #[.int .i64 0, .string ⟨#[97]⟩, .slice (some ⟨w2.heap.size, 0, none⟩) 1 1, .string ⟨#[]⟩, .int .i64 1, .string ⟨#[99]⟩, .slice none 0 0, .string ⟨#[120, 32, 60, 32, 121]⟩] 48)) := ((Below.refl _ w2).alloc (Nat.le_refl _) _).alloc (by simp) _
  clear hk1 hk2 hown1 hown2
  go_wp2_with fail
  generalize World.alloc _ _ = W4 at hA hbA ⊢
  refine (KS.out _ _ cs2 W4 HK2.out (HN2.out.below hbA) _ hA).mono ?_
  rintro e w5 ⟨rfl, q, rfl⟩
  rw [HQ.out cs2 _ HK2.out]
  go_wp2
  go_ret
  exact ⟨rfl, (hb2.trans (hbA.mono hb2.size)).trans ((below_drewN _ _).mono (Nat.le_trans hb2.size hbA.size))⟩
end Go.Proofs.YtnijlmkodgdhlaaDoor

/-
  Contracts: package xml's Attr.
-/
namespace Go.Proofs.YtnijlmkodgdhlaaDoor
open Go.RowKit Sc
set_option linter.unusedVariables false
set_option maxRecDepth 20000
set_option linter.unusedSimpArgs false

def attrGet (nm : List UInt8) : List Par → Option (List UInt8)
  | [] => none
  | p :: ps => if p.name = nm then some p.value else attrGet nm ps
theorem findX_get (nm : List UInt8) : ∀ (ps : List Par) (k : Nat), (findX nm ps k = -1 ∧ attrGet nm ps = none) ∨ ∃ (j : Nat) (h : j < ps.length), findX nm ps k = ((k + j : Nat) : Int) ∧ attrGet nm ps = some ps[j].value
  | [], k => .inl ⟨rfl, rfl⟩
  | p :: ps, k => by
    rw [findX, attrGet]
    by_cases h : p.name = nm
    · rw [if_pos h, if_pos h]
      exact .inr ⟨0, by simp, by simp, rfl⟩
    · rw [if_neg h, if_neg h]
      rcases findX_get nm ps (k + 1) with ⟨h1, h2⟩ | ⟨j, hj, h1, h2⟩
      · exact .inl ⟨h1, h2⟩
      · exact .inr ⟨j + 1, by simp; omega, by rw [h1]; omega, by rw [h2]; rfl⟩
def xattR (o : Option (List UInt8)) : Value := match o with
  | none => .tuple #[.string ⟨#[]⟩, .bool false]
  | some v => .tuple #[.string ⟨v.toArray⟩, .bool true]
set_option maxHeartbeats 2000000 in
set_option maxRecDepth 100000 in
theorem xattr_any (x : Nd) (a : Value) (nm : List UInt8) (w : World) (hz : SmallP 140737488355328 x.attrs) (hv : ParsAt w a x.attrs) :
    Calls Tryd.prog 22 #[ndV x a, .string ⟨nm.toArray⟩] w fun e w' => e = .returned (xattR (attrGet nm x.attrs)) ∧ Below w.heap.size w w' := by
  obtain ⟨xd, xn, ps, xt⟩ := x
  unfold ndV
  simp only at hz hv ⊢
  have KF := hid (fun w' (hb : Below w.heap.size w w') => xfind_any a ps nm w' hz.1 (hv.below hb))
  obtain ⟨ao, cap, rfl, hc⟩ := hv.open
  have hbn : Below w.heap.size w (w.alloc (.cells #[.int .i64 xd, .string ⟨xn.toArray⟩, .slice ao ps.length cap, .string ⟨xt.toArray⟩] 48)) := (Below.refl _ w).alloc (Nat.le_refl _) _
  have hr := rc_row4 w (.int .i64 xd) (.string ⟨xn.toArray⟩) (.slice ao ps.length cap) (.string ⟨xt.toArray⟩) 48
  have hlt := alloc_lt w (.cells #[.int .i64 xd, .string ⟨xn.toArray⟩, .slice ao ps.length cap, .string ⟨xt.toArray⟩] 48)
  obtain ⟨b0, b1, b2, b3, _, _, _, _⟩ := hr.rc4
  have HR := hid hr
  have HC := hid hc
  have HZ := hid hz
  have hz1 := hz.1
  clear hc hv hr hz
  rcases findX_get nm ps 0 with ⟨h1, h2⟩ | ⟨j, hj, h1, h2⟩
  · rw [h1] at KF
    rw [h2]
    clear h1 h2 HC HZ
    generalize ps.length = n at KF HR hbn hlt b0 b1 b2 b3 hz1 ⊢
    go_enter Tryd.func22, Tryd.ntmps22
    go_wp2_with fail
    refine (KF.out _ hbn).mono ?_
    rintro e w1 ⟨rfl, hw1⟩
    have hb1 := hbn.trans (hw1.mono hbn.size)
    go_wp2
    go_ret2
    exact ⟨rfl, hb1⟩
  · rw [h1] at KF
    rw [h2]
    obtain ⟨ad, hao, hab, c0, c1, c2⟩ := HC.out j hj
    subst hao
    have hvl := (HZ.out.2 _ (List.getElem_mem hj)).2
    have KC := hid (fun w' => xclone_list ps[j].value w' hvl)
    have c1 : w.cell? ⟨(ad.add (j * 3)).block, (ad.add (j * 3)).off + 1, none⟩ = some (.string ⟨ps[j].value.toArray⟩) := c1
    clear h1 h2 HC HZ c0 c2
    generalize ps[j].value = V at KC c1 hvl ⊢
    obtain ⟨n, hn⟩ : ∃ n, n = ps.length := ⟨_, rfl⟩
    rw [← hn] at KF HR hbn hlt b0 b1 b2 b3 hz1 ⊢
    have hj : j < n := by omega
    clear hn
    rw [Nat.zero_add] at KF
    go_enter Tryd.func22, Tryd.ntmps22
    go_wp2_with fail
    refine (KF.out _ hbn).mono ?_
    rintro e w1 ⟨rfl, hw1⟩
    have hb1 := hbn.trans (hw1.mono hbn.size)
    have c1' := cell_below hb1 (by simp only [add_block]; exact hab) c1
    have hr1 := hid (HR.out.below hw1 hlt)
    clear b0 b1 b2 b3 hw1 c1
    obtain ⟨b0, b1, b2, b3, _, _, _, _⟩ := hr1.out.rc4
    go_wp2_with fail
    refine (KC.out _).mono ?_
    rintro e w2 ⟨rfl, hw2⟩
    go_wp2
    go_ret2
    exact ⟨rfl, hb1.trans (hw2.mono hb1.size)⟩
end Go.Proofs.YtnijlmkodgdhlaaDoor

/-
  The laws' own small of layer 13.
-/
namespace Go.Proofs.YtnijlmkodgdhlaaDoor
open Go.RowKit Sc
set_option linter.unusedVariables false
set_option maxRecDepth 20000
set_option linter.unusedSimpArgs false

theorem ndsW_step {cs : List NdC} {k : Nat} (hk : k < cs.length) : ndsW (ndsL (cs.take (k + 1))) = ndsW (ndsL (cs.take k)) + (5 + cs[k].nd.name.length + cs[k].nd.text.length) + attsW cs[k].nd.attrs := by
  have e : ndsL (cs.take k ++ [cs[k]]) = ndsL (cs.take k) ++ [cs[k].nd] := by unfold ndsL; rw [List.map_append]; rfl
  have e2 : ndsW [cs[k].nd] = ndW cs[k].nd := by simp [ndsW]
  rw [List.take_succ_eq_append_getElem hk, e, ndsW_app, e2, ndW]; omega
theorem attsW_step {ps : List Par} {k : Nat} (hk : k < ps.length) : attsW (ps.take (k + 1)) = attsW (ps.take k) + (5 + ps[k].name.length + ps[k].value.length) := by
  have e2 : attsW [ps[k]] = attW ps[k] := by simp [attsW]
  rw [List.take_succ_eq_append_getElem hk, attsW_app, e2, attW]
theorem ndsW_take (cs : List NdC) (k : Nat) : ndsW (ndsL (cs.take k)) ≤ ndsW (ndsL cs) := by
  have h : ndsL cs = ndsL (cs.take k) ++ ndsL (cs.drop k) := by simp [ndsL, ← List.map_append]
  rw [h, ndsW_app]; omega
theorem attsW_take (ps : List Par) (k : Nat) : attsW (ps.take k) ≤ attsW ps := by
  have h : ps = ps.take k ++ ps.drop k := by simp
  rw [congrArg attsW h, attsW_app]; omega
set_option maxHeartbeats 2000000 in
set_option maxRecDepth 100000 in
theorem lsmall13 (v : Value) (cs : List NdC) (w : World) (hz : cs.length ≤ 140737488355328) (hsm : ∀ c ∈ cs, SmallN 140737488355328 c.nd) (hv : NdsAt w v cs) :
    Calls Tryd.prog 9 #[v] w fun e w' => ∃ b, e = .returned (.bool b) ∧ (ndsW (ndsL cs) ≤ 4611686018427387904 → b = decide (ndsW (ndsL cs) ≤ 5000)) ∧ ∃ q, w' = w.drewN q := by
  obtain ⟨ao, cap, rfl, hc⟩ := hv
  have HC := hid hc
  have HS := hid hsm
  obtain ⟨S, hS⟩ : ∃ S, S = ndsW (ndsL cs) := ⟨_, rfl⟩
  rw [← hS]
  have HSE : Hid (S = ndsW (ndsL (cs.take cs.length))) := show _ = _ by rw [List.take_length]; exact hS
  have HST := hid (fun k (hk : k < cs.length) => @ndsW_step cs k hk)
  have HSL := hid (fun k => hS ▸ ndsW_take cs k)
  obtain ⟨n, hn⟩ : ∃ n, n = cs.length := ⟨_, rfl⟩
  rw [← hn] at hz HSE ⊢
  have HL := hid hn
  clear hn hS hc hsm
  go_enter Tryd.func9, Tryd.ntmps9
  go_wp2
  go_loopw [3, 4] (fun x i wr => ∃ (k q : Nat) (t : Int), k ≤ n ∧ i = .int .i64 k ∧ x = .int .i64 t ∧ Hid (S ≤ 4611686018427387904 → t = (ndsW (ndsL (cs.take k)) : Int)) ∧ wr = w.drewN q) (fun _ i _ => n - (intOf i).toNat)
  case atStart => exact ⟨0, 0, 0, Nat.zero_le _, rfl, rfl, fun _ => by simp [ndsL, ndsW], rfl⟩
  case round =>
    obtain ⟨k, q, t, hk, rfl, rfl, ht, rfl⟩ := hrel
    by_cases hlt : k < n
    · have hkl : k < cs.length := by have := HL.out; omega
      obtain ⟨ad, hao, hab, ⟨c0, c1, c2, c3⟩, hpa⟩ := HC.out k hkl
      subst hao
      obtain ⟨s1, s2, s3, _⟩ := HS.out cs[k] (List.getElem_mem hkl)
      have hst := hid (HST.out k hkl)
      have hle := hid (HSL.out (k + 1))
      obtain ⟨po, pc, hpo, hpc⟩ := hpa.open
      have q6 : (k : Int) < (n : Int) := by omega
      clear HST HSL HC HS HSE hpa
      generalize cs[k] = C at c0 c1 c2 c3 hpo hpc hst s1 s2 s3
      obtain ⟨⟨cd, cn, cp, ct⟩, ca⟩ := C
      simp only at c0 c1 c2 c3 hpo hpc hst s1 s2 s3
      subst hpo
      have z1 := size_list cn
      have z2 := size_list ct
      have HPC := hid hpc
      have HPS := hid s3.2
      have s31 := s3.1
      have PST := hid (fun j (hj : j < cp.length) => @attsW_step cp j hj)
      have PLE := hid (fun j => attsW_take cp j)
      have HPE : Hid (attsW cp = attsW (cp.take cp.length)) := show _ = _ by rw [List.take_length]
      obtain ⟨A0, hA0⟩ : ∃ A0, A0 = attsW cp := ⟨_, rfl⟩
      rw [← hA0] at hst PLE HPE
      obtain ⟨m, hm⟩ : ∃ m, m = cp.length := ⟨_, rfl⟩
      rw [← hm] at c2 HPE s31
      have HM := hid hm
      clear hpc s3 hA0 hm
      obtain ⟨P0, hP0⟩ : ∃ P0, P0 = ndsW (ndsL (cs.take k)) := ⟨_, rfl⟩
      rw [← hP0] at ht hst
      obtain ⟨P1, hP1⟩ : ∃ P1, P1 = ndsW (ndsL (cs.take (k + 1))) := ⟨_, rfl⟩
      rw [← hP1] at hst hle
      have HP1 := hid hP1
      clear hP0 hP1
      go_wp2
      go_quiet (fail)
      go_wp2
      go_loopw [3, 5] (fun x i wr => ∃ (j q : Nat) (t : Int), j ≤ m ∧ i = .int .i64 j ∧ x = .int .i64 t ∧ Hid (S ≤ 4611686018427387904 → t = (P0 : Int) + (5 + (cn.length : Int) + (ct.length : Int)) + (attsW (cp.take j) : Int)) ∧ wr = w.drewN q) (fun _ i _ => m - (intOf i).toNat)
      case atStart =>
        refine ⟨0, q + nq, _, Nat.zero_le _, rfl, rfl, fun hM => ?_, by first | rfl | simp⟩
        have h1 := ht.out hM
        have h2 := hst.out
        have h3 := hle.out
        have h4 : attsW (cp.take 0) = 0 := by simp [attsW]
        unfold wrap64
        omega
      case round =>
        obtain ⟨j, q2, t2, hj, rfl, rfl, ht2, rfl⟩ := hrel
        by_cases hlt2 : j < m
        · have hjl : j < cp.length := by have := HM.out; omega
          obtain ⟨bd, hbo, hbb, d0, d1, d2⟩ := HPC.out j hjl
          subst hbo
          obtain ⟨r1, r2⟩ := HPS.out cp[j] (List.getElem_mem hjl)
          have pst := hid (PST.out j hjl)
          have ple := hid (PLE.out (j + 1))
          have q7 : (j : Int) < (m : Int) := by omega
          clear PST PLE HPC HPS HPE
          generalize cp[j] = X at d0 d1 d2 pst r1 r2
          obtain ⟨xn, xv, xh⟩ := X
          simp only at d0 d1 d2 pst r1 r2
          have z3 := size_list xn
          have z4 := size_list xv
          go_wp2
          go_quiet (fail)
          go_wp2
          go_roundw
          case rel =>
            refine ⟨j + 1, q2 + nq, _, by omega, by go_num, rfl, fun hM => ?_, by first | rfl | simp⟩
            have h1 := ht2.out hM
            have h2 := hst.out
            have h3 := hle.out
            have h4 := pst.out
            have h5 := ple.out
            unfold wrap64
            omega
          case measure => simp [intOf]; omega
        · have hjm : j = m := by omega
          subst hjm
          go_wp2
          go_roundw
          case rel =>
            refine ⟨k + 1, q2, t2, by omega, by go_num, rfl, fun hM => ?_, rfl⟩
            have h1 := ht2.out hM
            have h2 := hst.out
            have h3 := HPE.out
            rw [← HP1.out]
            omega
          case measure => simp [intOf]; omega
    · have hkn : k = n := by omega
      subst hkn
      have hv : Hid (S ≤ 4611686018427387904 → t = (S : Int)) := fun h => by rw [ht.out h, HSE.out]
      clear ht
      go_wp2
      go_ret
      refine ⟨_, rfl, fun hM => ?_, q, rfl⟩
      rw [hv.out hM]
      simp
      omega
end Go.Proofs.YtnijlmkodgdhlaaDoor
