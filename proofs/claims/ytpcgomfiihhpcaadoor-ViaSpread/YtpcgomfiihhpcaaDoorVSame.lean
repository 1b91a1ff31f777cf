/-
  Contracts: the document's own Same and All of hops.
-/
import Derived.Test.YtpcgomfiihhpcaaDoorVOwn
import Derived.Test.YtpcgomfiihhpcaaDoorFF
import Derived.Test.YtpcgomfiihhpcaaDoorAText
import Derived.BigQuiet
import Derived.Lib.QuietBelow
namespace Go.Proofs.YtpcgomfiihhpcaaDoor
open Go.RowKit Go.Sort Sc
set_option linter.unusedVariables false
set_option maxRecDepth 20000

theorem hop_eq (a b : Hop) : decide (a = b) = (a.host == b.host && (a.port == b.port && decide (a.params = b.params))) := by
  obtain ⟨d, u, p⟩ := a
  obtain ⟨d', u', p'⟩ := b
  rw [Bool.eq_iff_iff]; simp [Hop.mk.injEq]

set_option maxHeartbeats 1000000 in
set_option maxRecDepth 100000 in
theorem vsame_any (c c' : HopC) (w : World) (z3 : c.h.params.length ≤ 140737488355328) (h : c.At w) (h' : c'.At w) :
    Calls Tryd.prog 20 #[hpV c.h c.q, hpV c'.h c'.q] w fun e w' => e = .returned (.bool (decide (c.h = c'.h))) ∧ Below w.heap.size w w' := by
  obtain ⟨a, q⟩ := c
  obtain ⟨a', q'⟩ := c'
  obtain ⟨h3, _⟩ := h
  obtain ⟨k3, _⟩ := h'
  simp only at h3 k3 z3 ⊢
  have hd := hop_eq a a'
  have KL := hid (fun w' (hb : Below w.heap.size w w') => lists_any q q' a.params a'.params w' z3 (h3.below hb) (k3.below hb))
  have hbx := boxV_new w a q
  have hb0 : Below w.heap.size w (w.alloc (objV a q)) := (Below.refl _ w).alloc (Nat.le_refl _) _
  have hlt := alloc_lt w (objV a q)
  have hby := boxV_new (w.alloc (objV a q)) a' q'
  have hb1 : Below w.heap.size w ((w.alloc (objV a q)).alloc (objV a' q')) := hb0.alloc hb0.size _
  have hbz := hbx.below ((Below.refl _ (w.alloc (objV a q))).alloc (Nat.le_refl _) (objV a' q')) hlt
  have hs1 : (w.alloc (objV a q)).heap.size = w.heap.size + 1 := by simp
  rw [hs1] at hby
  clear hbx hb0 hlt
  obtain ⟨a3, c3, rfl⟩ := h3.form
  obtain ⟨a6, c6, rfl⟩ := k3.form
  clear h3 k3 z3
  generalize decide (a = a') = R at hd ⊢
  generalize decide (a.params = a'.params) = rp at hd KL
  obtain ⟨ho, po, ps⟩ := a
  obtain ⟨ho', po', ps'⟩ := a'
  unfold hpV
  unfold objV at hb1 hbz hby hs1
  simp only at KL hb1 hbz hby hd hs1 ⊢
  have HD := hid hd
  clear hd hs1
  obtain ⟨x0, x1, x2⟩ := hbz
  obtain ⟨y0, y1, y2⟩ := hby
  simp only at x0 x1 x2 y0 y1 y2
  by_cases hdd : ho = ho'
  · subst hdd
    by_cases hpp : po = po'
    · subst hpp
      go_enter Tryd.func20, Tryd.ntmps20
      go_wp2_with fail
      refine (KL.out _ hb1).mono ?_
      rintro e w3 ⟨rfl, q3, rfl⟩
      go_wp2
      go_ret
      exact ⟨ret_bool (by rw [HD.out]; simp), hb1.trans ((below_drewN _ _).mono hb1.size)⟩
    · have hpn : (po == po') = false := by simpa using hpp
      go_enter Tryd.func20, Tryd.ntmps20
      go_wp2
      go_ret
      exact ⟨ret_bool (by rw [HD.out]; simp [hpp]), hb1⟩
  · go_enter Tryd.func20, Tryd.ntmps20
    go_wp2
    go_ret
    exact ⟨ret_bool (by rw [HD.out]; simp [hdd]), hb1⟩

structure TriAt (w : World) (ad : Addr) (k : Nat) (c : HopC) : Prop where
  c0 : w.cell? (ad.add (k * 3)) = some (.string ⟨c.h.host.toArray⟩)
  c1 : w.cell? ⟨(ad.add (k * 3)).block, (ad.add (k * 3)).off + 1, none⟩ = some (.int .i64 c.h.port)
  c2 : w.cell? ⟨(ad.add (k * 3)).block, (ad.add (k * 3)).off + 2, none⟩ = some c.q
theorem TriAt.below {w w' : World} {ad : Addr} {k : Nat} {c : HopC} (h : TriAt w ad k c) (hb : Below w.heap.size w w') (hlt : ad.block < w.heap.size) : TriAt w' ad k c := by
  have hl : (ad.add (k * 3)).block < w.heap.size := by rw [add_block]; exact hlt
  exact ⟨cell_below hb hl h.c0, cell_below (a := ⟨(ad.add (k * 3)).block, (ad.add (k * 3)).off + 1, none⟩) hb hl h.c1, cell_below (a := ⟨(ad.add (k * 3)).block, (ad.add (k * 3)).off + 2, none⟩) hb hl h.c2⟩
theorem HopsAt.tri {w : World} {v : Value} {cs : List HopC} (h : HopsAt w v cs) (k : Nat) (hk : k < cs.length) : ∃ ad cap, v = .slice (some ad) cs.length cap ∧ ad.block < w.heap.size ∧ TriAt w ad k cs[k] := by
  obtain ⟨⟨ao, cap, rfl, hc⟩, _⟩ := h
  obtain ⟨ad, rfl, hlt, hcell⟩ := hc k hk
  exact ⟨ad, cap, rfl, hlt, hcell 0 _ rfl, hcell 1 _ rfl, hcell 2 _ rfl⟩

set_option maxHeartbeats 1000000 in
set_option maxRecDepth 100000 in
theorem vall_any (v v' : Value) (cs cs' : List HopC) (w : World) (hl : cs.length ≤ 1048576) (hsm : ∀ c ∈ cs, SmallV 140737488355328 c.h) (he : cs.map HopC.h = cs'.map HopC.h) (h : HopsAt w v cs) (h' : HopsAt w v' cs') :
    Calls Tryd.prog 23 #[v, v'] w fun e w' => e = .returned (.bool true) ∧ Below w.heap.size w w' := by
  have hlen : cs'.length = cs.length := by have := congrArg List.length he; simpa using this.symm
  obtain ⟨n, hn⟩ : ∃ n, n = cs.length := ⟨_, rfl⟩
  have HE := hid (fun k (hk : k < cs.length) => h.tri k hk)
  have HE' := hid (fun k (hk : k < cs'.length) => h'.tri k hk)
  have HAT := hid h
  have HAT' := hid h'
  obtain ⟨a1, c1, e1⟩ := h.form
  obtain ⟨a2, c2, e2⟩ := h'.form
  rw [hlen, ← hn] at e2
  rw [← hn] at e1 hl
  have HLEN := hid hlen
  have HN := hid hn
  have HSM := hid hsm
  have HEQ := hid he
  clear h h' hlen hn hsm he
  subst e1 e2
  go_enter Tryd.func23, Tryd.ntmps23
  go_wp2
  go_loopw [5] (fun i wr => ∃ (k : Nat), k ≤ n ∧ i = .int .i64 k ∧ Below w.heap.size w wr) (fun i _ => n - (intOf i).toNat)
  case atStart => exact ⟨0, by omega, rfl, Below.refl _ _⟩
  case round =>
    obtain ⟨k, hkn, rfl, hb⟩ := hrel
    by_cases hlt : k < n
    · have hkl : k < cs.length := by have := HN.out; omega
      have hkl' : k < cs'.length := by have := HN.out; have := HLEN.out; omega
      obtain ⟨ad, cap, e1, hab, hei⟩ := HE.out k hkl
      obtain ⟨ad', cap', e1', hab', hei'⟩ := HE'.out k hkl'
      simp only [Value.slice.injEq] at e1 e1'
      obtain ⟨rfl, _, rfl⟩ := e1
      obtain ⟨rfl, _, rfl⟩ := e1'
      have heq : cs[k].h = cs'[k].h := by
        have h1 : (cs.map HopC.h)[k]? = (cs'.map HopC.h)[k]? := by rw [HEQ.out]
        rw [List.getElem?_map, List.getElem?_map, List.getElem?_eq_getElem hkl, List.getElem?_eq_getElem hkl'] at h1
        simpa using h1
      have hss := HSM.out _ (List.getElem_mem hkl)
      have KS := hid (fun w' (hb' : Below w.heap.size w w') => vsame_any cs[k] cs'[k] w' hss.2.1.1 ((HAT.out.2 _ (List.getElem_mem hkl)).below hb') ((HAT'.out.2 _ (List.getElem_mem hkl')).below hb'))
      have hat := HAT.out.2 _ (List.getElem_mem hkl)
      have hat' := HAT'.out.2 _ (List.getElem_mem hkl')
      have hei2 := hei.below hb hab
      have hei2' := hei'.below hb hab'
      clear hei hei' hss
      generalize cs[k] = c at heq KS hei2 hat
      generalize cs'[k] = c' at heq KS hei2' hat'
      obtain ⟨x, q⟩ := c
      obtain ⟨x', q'⟩ := c'
      simp only at heq
      subst heq
      obtain ⟨b3, j3, r3⟩ := hat.1.form
      obtain ⟨b6, j6, r6⟩ := hat'.1.form
      simp only at r3 r6
      subst r3 r6
      clear hat hat'
      obtain ⟨ho, po, ps⟩ := x
      obtain ⟨x0, x1, x2⟩ := hei2
      obtain ⟨y0, y1, y2⟩ := hei2'
      unfold hpV at KS
      simp only [decide_true] at KS x0 x1 x2 y0 y1 y2
      replace x0 := cell_regrown x0
      replace x1 := cell_regrown x1
      replace x2 := cell_regrown x2
      replace y0 := cell_regrown y0
      replace y1 := cell_regrown y1
      replace y2 := cell_regrown y2
      have c := hid (fun (d : Nat) (os : Array Obj) => Calls.regrown_of (KS.out (grow (redrawn wr d) os) (below_re5 hb d os)))
      clear KS
      go_wp2
      refine wp_region_quiet_below followsMixed5 (by kernel_rfl) ?_
      repeat (go_big_quiet_step (with_reducible exact c.out _ _))
      refine wpQuiet_nil ?_
      intro _ hw'
      obtain ⟨⟨dq, osq⟩, hw''⟩ := hw'
      subst hw''
      have hb1 := below_re5 hb dq osq
      clear c x0 x1 x2 y0 y1 y2 hb
      go_wp2
      go_roundw
      case rel => exact ⟨k + 1, by omega, by go_num, hb1⟩
      case measure => simp [intOf]; omega
    · go_wp2
      go_ret
      exact ⟨rfl, hb⟩

end Go.Proofs.YtpcgomfiihhpcaaDoor
