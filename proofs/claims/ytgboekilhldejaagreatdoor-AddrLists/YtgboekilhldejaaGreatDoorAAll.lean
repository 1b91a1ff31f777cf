/-
  The contract of the document's own All, of rows of the same addresses.
-/
import Derived.Test.YtgboekilhldejaaGreatDoorAList
import Derived.Test.YtgboekilhldejaaGreatDoorAOnceL
namespace Go.Proofs.YtgboekilhldejaaGreatDoor
open Go.RowKit Go.Sort Sc
set_option linter.unusedVariables false
set_option maxRecDepth 20000

structure EightAt (w : World) (ad : Addr) (k : Nat) (c : AdrC) : Prop where
  c0 : w.cell? (ad.add (k * 8)) = some (.string ⟨c.a.display.toArray⟩)
  c1 : w.cell? ⟨(ad.add (k * 8)).block, (ad.add (k * 8)).off + 1, none⟩ = some (.string ⟨c.a.uri.scheme.toArray⟩)
  c2 : w.cell? ⟨(ad.add (k * 8)).block, (ad.add (k * 8)).off + 2, none⟩ = some (.string ⟨c.a.uri.user.toArray⟩)
  c3 : w.cell? ⟨(ad.add (k * 8)).block, (ad.add (k * 8)).off + 3, none⟩ = some (.string ⟨c.a.uri.host.toArray⟩)
  c4 : w.cell? ⟨(ad.add (k * 8)).block, (ad.add (k * 8)).off + 4, none⟩ = some (.int .i64 c.a.uri.port)
  c5 : w.cell? ⟨(ad.add (k * 8)).block, (ad.add (k * 8)).off + 5, none⟩ = some c.p
  c6 : w.cell? ⟨(ad.add (k * 8)).block, (ad.add (k * 8)).off + 6, none⟩ = some c.h
  c7 : w.cell? ⟨(ad.add (k * 8)).block, (ad.add (k * 8)).off + 7, none⟩ = some c.q
theorem EightAt.below {w w' : World} {ad : Addr} {k : Nat} {c : AdrC} (h : EightAt w ad k c) (hb : Below w.heap.size w w') (hlt : ad.block < w.heap.size) : EightAt w' ad k c := by
  have hl : (ad.add (k * 8)).block < w.heap.size := by rw [add_block]; exact hlt
  exact ⟨cell_below hb hl h.c0, cell_below (a := ⟨(ad.add (k * 8)).block, (ad.add (k * 8)).off + 1, none⟩) hb hl h.c1, cell_below (a := ⟨(ad.add (k * 8)).block, (ad.add (k * 8)).off + 2, none⟩) hb hl h.c2, cell_below (a := ⟨(ad.add (k * 8)).block, (ad.add (k * 8)).off + 3, none⟩) hb hl h.c3, cell_below (a := ⟨(ad.add (k * 8)).block, (ad.add (k * 8)).off + 4, none⟩) hb hl h.c4, cell_below (a := ⟨(ad.add (k * 8)).block, (ad.add (k * 8)).off + 5, none⟩) hb hl h.c5, cell_below (a := ⟨(ad.add (k * 8)).block, (ad.add (k * 8)).off + 6, none⟩) hb hl h.c6, cell_below (a := ⟨(ad.add (k * 8)).block, (ad.add (k * 8)).off + 7, none⟩) hb hl h.c7⟩
theorem AdrsAt.eight {w : World} {v : Value} {cs : List AdrC} (h : AdrsAt w v cs) (k : Nat) (hk : k < cs.length) : ∃ ad cap, v = .slice (some ad) cs.length cap ∧ ad.block < w.heap.size ∧ EightAt w ad k cs[k] := by
  obtain ⟨⟨ao, cap, rfl, hc⟩, _⟩ := h
  obtain ⟨ad, rfl, hlt, hcell⟩ := hc k hk
  exact ⟨ad, cap, rfl, hlt, hcell 0 _ rfl, hcell 1 _ rfl, hcell 2 _ rfl, hcell 3 _ rfl, hcell 4 _ rfl, hcell 5 _ rfl, hcell 6 _ rfl, hcell 7 _ rfl⟩

set_option maxHeartbeats 1000000 in
set_option maxRecDepth 100000 in
theorem aall_any (v v' : Value) (cs cs' : List AdrC) (w : World) (hl : cs.length ≤ 1048576) (hsm : ∀ c ∈ cs, SmallA 140737488355328 c.a) (he : cs.map AdrC.a = cs'.map AdrC.a) (h : AdrsAt w v cs) (h' : AdrsAt w v' cs') :
    Calls Tryz.prog 24 #[v, v'] w fun e w' => e = .returned (.bool true) ∧ Below w.heap.size w w' := by
  have hlen : cs'.length = cs.length := by have := congrArg List.length he; simpa using this.symm
  obtain ⟨n, hn⟩ : ∃ n, n = cs.length := ⟨_, rfl⟩
  have HE := hid (fun k (hk : k < cs.length) => h.eight k hk)
  have HE' := hid (fun k (hk : k < cs'.length) => h'.eight k hk)
  have HAT := hid h
  have HAT' := hid h'
  obtain ⟨a1, c1, e1⟩ := h.form
  obtain ⟨a2, c2, e2⟩ := h'.form
  rw [hlen, ← hn] at e2
  rw [← hn] at e1 hl
  have HLEN := hid hlen
  have HN := hid hn
  have HSM := hid hsm
  have HEQ := hid he
  clear h h' hlen hn hsm he
  subst e1 e2
  go_enter Tryz.func24, Tryz.ntmps24
  go_wp2
  go_loopw [5] (fun i wr => ∃ (k : Nat), k ≤ n ∧ i = .int .i64 k ∧ Below w.heap.size w wr) (fun i _ => n - (intOf i).toNat)
  case atStart => exact ⟨0, by omega, rfl, Below.refl _ _⟩
  case round =>
    obtain ⟨k, hkn, rfl, hb⟩ := hrel
    by_cases hlt : k < n
    · have hkl : k < cs.length := by have := HN.out; omega
      have hkl' : k < cs'.length := by have := HN.out; have := HLEN.out; omega
      obtain ⟨ad, cap, e1, hab, hei⟩ := HE.out k hkl
      obtain ⟨ad', cap', e1', hab', hei'⟩ := HE'.out k hkl'
      simp only [Value.slice.injEq] at e1 e1'
      obtain ⟨rfl, _, rfl⟩ := e1
      obtain ⟨rfl, _, rfl⟩ := e1'
      have heq : cs[k].a = cs'[k].a := by
        have h1 : (cs.map AdrC.a)[k]? = (cs'.map AdrC.a)[k]? := by rw [HEQ.out]
        rw [List.getElem?_map, List.getElem?_map, List.getElem?_eq_getElem hkl, List.getElem?_eq_getElem hkl'] at h1
        simpa using h1
      have hss := HSM.out _ (List.getElem_mem hkl)
      have KS := hid (fun w' (hb' : Below w.heap.size w w') => asame_any cs[k] cs'[k] w' hss.2.1.2.2.2.1.1 hss.2.1.2.2.2.2.1 hss.2.2.1 ((HAT.out.2 _ (List.getElem_mem hkl)).below hb') ((HAT'.out.2 _ (List.getElem_mem hkl')).below hb'))
      have hat := HAT.out.2 _ (List.getElem_mem hkl)
      have hat' := HAT'.out.2 _ (List.getElem_mem hkl')
      have hei2 := hei.below hb hab
      have hei2' := hei'.below hb hab'
      clear hei hei' hss
      generalize cs[k] = c at heq KS hei2 hat
      generalize cs'[k] = c' at heq KS hei2' hat'
      obtain ⟨x, p, h, q⟩ := c
      obtain ⟨x', p', h', q'⟩ := c'
      simp only at heq
      subst heq
      obtain ⟨b1, j1, r1⟩ := hat.1.form
      obtain ⟨b2, j2, r2⟩ := hat.2.1.form
      obtain ⟨b3, j3, r3⟩ := hat.2.2.1.form
      obtain ⟨b4, j4, r4⟩ := hat'.1.form
      obtain ⟨b5, j5, r5⟩ := hat'.2.1.form
      obtain ⟨b6, j6, r6⟩ := hat'.2.2.1.form
      simp only at r1 r2 r3 r4 r5 r6
      subst r1 r2 r3 r4 r5 r6
      clear hat hat'
      obtain ⟨d, ⟨us, uu, uh, up, upp, uhh⟩, ps⟩ := x
      obtain ⟨x0, x1, x2, x3, x4, x5, x6, x7⟩ := hei2
      obtain ⟨y0, y1, y2, y3, y4, y5, y6, y7⟩ := hei2'
      unfold adrV at KS
      simp only [decide_true] at KS x0 x1 x2 x3 x4 x5 x6 x7 y0 y1 y2 y3 y4 y5 y6 y7
      replace x0 := cell_regrown x0
      replace x1 := cell_regrown x1
      replace x2 := cell_regrown x2
      replace x3 := cell_regrown x3
      replace x4 := cell_regrown x4
      replace x5 := cell_regrown x5
      replace x6 := cell_regrown x6
      replace x7 := cell_regrown x7
      replace y0 := cell_regrown y0
      replace y1 := cell_regrown y1
      replace y2 := cell_regrown y2
      replace y3 := cell_regrown y3
      replace y4 := cell_regrown y4
      replace y5 := cell_regrown y5
      replace y6 := cell_regrown y6
      replace y7 := cell_regrown y7
      have c := hid (fun (d : Nat) (os : Array Obj) => Calls.regrown_of (KS.out (grow (redrawn wr d) os) (below_re5 hb d os)))
      clear KS
      go_wp2
      refine wp_region_quiet_below followsMixed5 (by kernel_rfl) ?_
      repeat (go_big_quiet_step (with_reducible exact c.out _ _))
      refine wpQuiet_nil ?_
      intro _ hw'
      obtain ⟨⟨dq, osq⟩, hw''⟩ := hw'
      subst hw''
      have hb1 := below_re5 hb dq osq
      clear c x0 x1 x2 x3 x4 x5 x6 x7 y0 y1 y2 y3 y4 y5 y6 y7 hb
      go_wp2
      go_roundw
      case rel => exact ⟨k + 1, by omega, by go_num, hb1⟩
      case measure => simp [intOf]; omega
    · go_wp2
      go_ret
      exact ⟨rfl, hb⟩

end Go.Proofs.YtgboekilhldejaaGreatDoor
