/-
  The contract of package addr's List.
-/
import Derived.Test.YtgboekilhldejaaGreatDoorAOwn
import Derived.Test.YtgboekilhldejaaGreatDoorAAwake
namespace Go.Proofs.YtgboekilhldejaaGreatDoor
open Go.RowKit Sc
set_option linter.unusedVariables false
set_option maxRecDepth 20000

theorem list_on {qs : List (List UInt8)} {out : List Adr} {k : Nat} {a : Adr} (hk : k < qs.length) (h : listG [] qs = listG out (qs.drop k)) (hp : parseA qs[k] = (a, 0)) : listG [] qs = listG (out ++ [a]) (qs.drop (k + 1)) := by
  rw [h, List.drop_eq_getElem_cons hk, listG, hp]; simp
theorem list_bad {qs : List (List UInt8)} {out : List Adr} {k : Nat} {a : Adr} {n : Int} (hk : k < qs.length) (h : listG [] qs = listG out (qs.drop k)) (hp : parseA qs[k] = (a, n)) (hn : n ≠ 0) : listG [] qs = ([], n) := by
  rw [h, List.drop_eq_getElem_cons hk, listG, hp]; simp [hn]
theorem new_adr (w4 : World) (c : AdrC) (t : TypeId) : ∀ (j : Nat) (u : Value), (adrCells c)[j]? = some u → (w4.alloc (.cells #[.string ⟨c.a.display.toArray⟩, .string ⟨c.a.uri.scheme.toArray⟩, .string ⟨c.a.uri.user.toArray⟩, .string ⟨c.a.uri.host.toArray⟩, .int .i64 c.a.uri.port, c.p, c.h, c.q] t)).cell? ((⟨w4.heap.size, 0, none⟩ : Addr).add j) = some u := by
  intro j u hj
  have e : (⟨w4.heap.size, 0, none⟩ : Addr).add j = ⟨w4.heap.size, j, none⟩ := by unfold Addr.add; split <;> simp_all
  rw [e]
  unfold World.cell?
  rw [heap_alloc_new]
  simpa [adrCells] using hj
/-- Parts, as a row that stands somewhere. -/
theorem parts_at {l p0 : List UInt8} {ps : List (List UInt8)} {c : Int} (h : partsV c l = p0 :: ps) (w : World) (hs : l.length ≤ 1048576) :
    Calls Tryz.prog 45 #[.string ⟨l.toArray⟩, .int .u8 c] w fun e w' => ∃ (a : Addr) (cap : Nat), e = .returned (.slice (some a) (ps.length + 1) cap) ∧ (∀ j (hj : j < (p0 :: ps).length), a.block < w'.heap.size ∧ w'.cell? (a.add j) = some (.string ⟨((p0 :: ps)[j]).toArray⟩)) ∧ Below w.heap.size w w' := by
  refine (parts_of h w hs).mono ?_
  rintro e w' ⟨g, cap, rfl, _, hg, hc, hb⟩
  refine ⟨⟨g, 0, none⟩, cap, rfl, fun j hj => ⟨hg, ?_⟩, hb⟩
  have e : (⟨g, 0, none⟩ : Addr).add j = ⟨g, j, none⟩ := by unfold Addr.add; split <;> simp_all
  rw [e]
  exact hc j hj
/-- What List hands back. -/
def ListRes (R : List Adr × Int) (w w' : World) (e : Ending) : Prop := ∃ v cs, e = .returned (.tuple #[v, .int .i64 R.2]) ∧ cs.map AdrC.a = R.1 ∧ OwnA w' w.heap.size v cs
theorem lres_bad {R : List Adr × Int} {n : Int} {w w' : World} (h : R = ([], n)) : ListRes R w w' (.returned (.tuple #[.slice none 0 0, .int .i64 n])) := ⟨_, [], by rw [h], by rw [h]; rfl, OwnA.nil _ _⟩

set_option maxHeartbeats 1000000 in
set_option maxRecDepth 100000 in
theorem alist_any (s : List UInt8) (w : World) (hs : s.length ≤ 1048576) :
    Calls Tryz.prog 22 #[.string ⟨s.toArray⟩] w fun e w' => ListRes (listA s) w w' e ∧ Below w.heap.size w w' := by
  obtain ⟨i0, hi, hz0, hz1, hz2⟩ := info_parts infoAdr
  obtain ⟨p0, ps0, hpt⟩ := partsG_cons 44 s pl0 []
  have hpt2 : partsV 44 s = p0 :: ps0 := hpt
  have hmem := parts_mem_len 44 s
  rw [hpt2] at hmem
  have KP := hid (fun w' => parts_at hpt2 w' (by omega))
  have HM : Hid (∀ l ∈ p0 :: ps0, l.length ≤ 1048576) := fun l hl => by have := hmem l hl; omega
  have HLA : Hid (listA s = if 16 < (p0 :: ps0).length then ([], 4) else listG [] (p0 :: ps0)) := show _ = _ by rw [listA, hpt2]
  generalize listA s = R at HLA ⊢
  clear hpt hpt2 hmem
  obtain ⟨n, hn⟩ : ∃ n, n = ps0.length + 1 := ⟨_, rfl⟩
  have HN : Hid ((p0 :: ps0).length = n) := by show _ = _; rw [hn]; rfl
  rw [← hn] at KP
  clear hn
  generalize p0 :: ps0 = qs at KP HM HLA HN
  go_enter Tryz.func22, Tryz.ntmps22
  go_wp2_with fail
  refine (KP.out _).mono ?_
  rintro e w1 ⟨a, cap, rfl, hc, hw1⟩
  have HC := hid hc
  clear hc KP
  by_cases h16 : n ≤ 16
  case neg =>
    have h16' : (16 : Int) < (n : Int) := by omega
    have HR : Hid (R = ([], 4)) := show _ = _ by rw [HLA.out, if_pos (by rw [HN.out]; omega)]
    clear HLA
    go_wp2
    go_ret2
    exact ⟨lres_bad HR.out, hw1⟩
  have HR : Hid (R = listG [] qs) := show _ = _ by rw [HLA.out, if_neg (by rw [HN.out]; omega)]
  clear HLA
  go_wp2
  go_loopw [5, 17] (fun x i wr => ∃ (k : Nat) (cs : List AdrC), k ≤ n ∧ i = .int .i64 k ∧ Hid (listG [] qs = listG (cs.map AdrC.a) (qs.drop k)) ∧ Hid (cs.length = k) ∧ Hid (OwnA wr w1.heap.size x cs) ∧ Below w1.heap.size w1 wr ∧ w1.heap.size ≤ wr.heap.size) (fun _ i _ => n - (intOf i).toNat)
  case atStart => exact ⟨0, [], by omega, rfl, rfl, hid rfl, OwnA.nil _ _, Below.refl _ _, Nat.le_refl _⟩
  case round =>
    obtain ⟨k, cs, hkn, rfl, hps, hpl, hown, hb, hB⟩ := hrel
    by_cases hlt : k < n
    · have hkl : k < qs.length := by have := HN.out; omega
      obtain ⟨hab, hcell⟩ := HC.out k hkl
      have hcell2 := cell_below hb (by rw [add_block]; exact hab) hcell
      have hll := HM.out _ (List.getElem_mem hkl)
      clear hcell
      have KA := hid (fun w' => aparse_any qs[k] w' hll)
      have hon := @list_on qs (cs.map AdrC.a) k
      have hbad := @list_bad qs (cs.map AdrC.a) k
      obtain ⟨x, er, hpv⟩ : ∃ x er, parseA qs[k] = (x, er) := ⟨_, _, rfl⟩
      rw [hpv] at KA
      obtain ⟨xa, xc, hxe⟩ := hown.out.form
      subst hxe
      by_cases he : er = 0
      · subst he
        have hnext := hid (hon hkl hps.out hpv)
        clear hon hbad hpv hps
        obtain ⟨d, ⟨us, uu, uh, up, upp, uhh⟩, ps⟩ := x
        unfold ParseRes adrV at KA
        simp only at KA
        go_wp2_with fail
        refine (KA.out _).mono ?_
        rintro e w2 ⟨⟨p, h, q, rfl, o1, o2, o3⟩, hw2⟩
        have HC2 : Hid (AdrC.Own w2 w1.heap.size ⟨⟨d, ⟨us, uu, uh, up, upp, uhh⟩, ps⟩, p, h, q⟩) := ⟨o1.mono hB, o2.mono hB, o3.mono hB⟩
        obtain ⟨a1, k1, e1⟩ := o1.parsAt.form
        obtain ⟨a2, k2, e2⟩ := o2.parsAt.form
        obtain ⟨a3, k3, e3⟩ := o3.parsAt.form
        subst e1 e2 e3
        have hown2 := hown.out.below hw2
        have hb2 := hb.trans (hw2.mono hB)
        have hB2 := hb2.size
        clear o1 o2 o3 hown hw2 KA hb
        have HNW := hid (fun (wx : World) (t : TypeId) => new_adr wx ⟨⟨d, ⟨us, uu, uh, up, upp, uhh⟩, ps⟩, .slice a1 upp.length k1, .slice a2 uhh.length k2, .slice a3 ps.length k3⟩ t)
        simp only at HNW
        have HNV := hid (HNW.out (w2.alloc (.cells #[.string ⟨d.toArray⟩, .string ⟨us.toArray⟩, .string ⟨uu.toArray⟩, .string ⟨uh.toArray⟩, .int .i64 up, .slice a1 upp.length k1, .slice a2 uhh.length k2, .slice a3 ps.length k3] 39)))
        rw [show (w2.alloc (.cells #[.string ⟨d.toArray⟩, .string ⟨us.toArray⟩, .string ⟨uu.toArray⟩, .string ⟨uh.toArray⟩, .int .i64 up, .slice a1 upp.length k1, .slice a2 uhh.length k2, .slice a3 ps.length k3] 39)).heap.size = w2.heap.size + 1 by simp] at HNV
        clear HNW
        have hA := hid ((Below.refl _ w2).alloc (Nat.le_refl _) (.cells #[.string ⟨d.toArray⟩, .string ⟨us.toArray⟩, .string ⟨uu.toArray⟩, .string ⟨uh.toArray⟩, .int .i64 up, .slice a1 upp.length k1, .slice a2 uhh.length k2, .slice a3 ps.length k3] 39))
        have hA2 := hid (fun o => hA.out.trans (((Below.refl _ _).alloc (Nat.le_refl _) o).mono hA.out.size))
        have hO3 := hid (fun o => hown2.below (hA2.out o))
        have hC3 := hid (fun o => HC2.out.below (hA2.out o))
        have hb3 := hid (fun o => hb2.trans ((hA2.out o).mono hB2))
        clear hown2 HC2 hA hb2
        go_wp2_with (at_builtin; refine wp_appA _ rfl (.tmp 29) (.tmp 31) 52 rfl w1.heap.size i0 _ Tryz.underlying52 hi hz0 hz1 hz2 rfl _ cs rfl (hO3.out _) ⟨_, 0, none⟩ 1 ⟨⟨d, ⟨us, uu, uh, up, upp, uhh⟩, ps⟩, .slice a1 upp.length k1, .slice a2 uhh.length k2, .slice a3 ps.length k3⟩ (hC3.out _) rfl (by exact HNV.out _) (by have := hpl.out; omega) w1 (hb3.out _) (by simp; omega) ?_; intro v5 w5 hown5 hb5 hB5)
        have HO5 := hid hown5
        clear hown5
        go_wp2
        go_roundw
        case rel => exact ⟨k + 1, cs ++ [⟨⟨d, ⟨us, uu, uh, up, upp, uhh⟩, ps⟩, .slice a1 upp.length k1, .slice a2 uhh.length k2, .slice a3 ps.length k3⟩], by omega, by go_num, hid (by rw [List.map_append]; exact hnext.out), hid (by have := hpl.out; simp; omega), HO5, hb5, hB5⟩
        case measure => simp [intOf]; omega
      · have hn : (er != 0) = true := by simpa using he
        have hn2 : (er == 0) = false := by simpa using he
        have HR2 : Hid (R = ([], er)) := show _ = _ by rw [HR.out]; exact hbad hkl hps.out hpv he
        clear hon hbad hpv hps
        obtain ⟨d, ⟨us, uu, uh, up, upp, uhh⟩, ps⟩ := x
        unfold ParseRes adrV at KA
        simp only at KA
        go_wp2_with fail
        refine (KA.out _).mono ?_
        rintro e w2 ⟨⟨p, h, q, rfl, o1, o2, o3⟩, hw2⟩
        obtain ⟨a1, k1, e1⟩ := o1.parsAt.form
        obtain ⟨a2, k2, e2⟩ := o2.parsAt.form
        obtain ⟨a3, k3, e3⟩ := o3.parsAt.form
        subst e1 e2 e3
        have hb2 := hb.trans (hw2.mono hB)
        have hb3 := fun o => hb2.alloc hb2.size o
        clear o1 o2 o3 hw2 KA hb
        go_wp2
        go_ret2
        exact ⟨lres_bad HR2.out, hw1.trans ((hb3 _).mono hw1.size)⟩
    · have hend : Hid (R = (cs.map AdrC.a, 0)) := show _ = _ by
        have h := hps.out
        have e := HN.out
        rw [List.drop_of_length_le (by omega), listG] at h
        rw [HR.out, h]
      clear hps
      go_wp2
      go_ret2
      exact ⟨⟨_, cs, by rw [hend.out]; rfl, by rw [hend.out], hown.out.mono hw1.size⟩, hw1.trans (hb.mono hw1.size)⟩

end Go.Proofs.YtgboekilhldejaaGreatDoor
