/-
  Base texts, one behind another: RefPair, RefPrint.
-/
import Derived.Test.YtgboekilhldejaaGreatDoorBaseC
import Derived.Test.YtgboekilhldejaaGreatDoorBaseE
import Derived.Test.YtgboekilhldejaaGreatDoorBaseB

/-
  The contract of the document's own pair.
-/
namespace Go.Proofs.YtgboekilhldejaaGreatDoor
open Go.RowKit Sc
set_option linter.unusedVariables false
set_option maxRecDepth 20000

theorem refesc_list (s keep : List UInt8) (w : World) (hs : s.length ≤ 1048576) (hk : keep.length ≤ 64) :
    Calls Tryz.prog 69 #[.string ⟨s.toArray⟩, .string ⟨keep.toArray⟩] w fun e w' => e = .returned (.string ⟨(escL keep s).toArray⟩) ∧ Below w.heap.size w w' :=
  refescape_any ⟨s.toArray⟩ ⟨keep.toArray⟩ w (by rw [size_list]; omega) (by rw [size_list]; unfold maxLen; omega)
theorem escP_len (keep s : List UInt8) : (escL keep s).length ≤ 3 * s.length := by
  have := esc_cells_len (kpF keep) s
  rw [Lib.byteCells_length] at this
  exact this

theorem app_list (a b : List UInt8) : (⟨a.toArray⟩ : ByteArray) ++ (⟨b.toArray⟩ : ByteArray) = ⟨(a ++ b).toArray⟩ := by
  apply ByteArray.ext; simp

set_option maxHeartbeats 2000000 in
theorem pair_any (p : Par) (keep : List UInt8) (w : World) (h1 : p.name.length ≤ 1048576) (h2 : p.value.length ≤ 1048576) (hk : keep.length ≤ 64) :
    Calls Tryz.prog 71 #[.agg #[.string ⟨p.name.toArray⟩, .string ⟨p.value.toArray⟩, .bool p.has], .string ⟨keep.toArray⟩] w fun e w' => e = .returned (.string ⟨(pairV keep p).toArray⟩) ∧ Below w.heap.size w w' := by
  obtain ⟨nm, vl, hs⟩ := p
  simp only at h1 h2
  cases hs with
  | false =>
    have hv : Hid (pairV keep ⟨nm, vl, false⟩ = escL keep nm) := rfl
    have hb : ∀ o, Below w.heap.size w (w.alloc o) := fun o => (Below.refl _ w).alloc (Nat.le_refl _) o
    go_enter Tryz.func71, Tryz.ntmps71
    go_wp2_with (go_at_call 69; refine (refesc_list _ _ _ h1 hk).mono ?_; rintro e w1 ⟨rfl, hw1⟩)
    go_ret
    exact ⟨by rw [hv.out]; rfl, (hb _).trans (hw1.mono (hb _).size)⟩
  | true =>
    have hv : Hid (pairV keep ⟨nm, vl, true⟩ = escL keep nm ++ [61] ++ escL keep vl) := rfl
    have hb : ∀ o, Below w.heap.size w (w.alloc o) := fun o => (Below.refl _ w).alloc (Nat.le_refl _) o
    have l1 := escP_len keep nm
    have l2 := escP_len keep vl
    have hcv : ∀ w1, Below (w.alloc (.cells #[.string ⟨nm.toArray⟩, .string ⟨vl.toArray⟩, .bool true] 59)).drew.heap.size (w.alloc (.cells #[.string ⟨nm.toArray⟩, .string ⟨vl.toArray⟩, .bool true] 59)).drew w1 → w1.cell? ⟨w.heap.size, 1, none⟩ = some (.string ⟨vl.toArray⟩) := fun w1 hw => by
      refine cell_below hw (by simp [World.drew]) ?_
      show (w.alloc (.cells #[.string ⟨nm.toArray⟩, .string ⟨vl.toArray⟩, .bool true] 59)).cell? ⟨w.heap.size, 1, none⟩ = _
      unfold World.cell?; rw [heap_alloc_new]; rfl
    have hacc : Below w.heap.size w (w.alloc (.cells #[.string ⟨nm.toArray⟩, .string ⟨vl.toArray⟩, .bool true] 59)).drew := (hb _).drew
    have q1 : ¬ 9223372036854775807 < (escL keep nm).length + 1 := by omega
    have q2 : ¬ 9223372036854775807 < (escL keep nm).length + 1 + (escL keep vl).length := by omega
    go_enter Tryz.func71, Tryz.ntmps71
    go_wp2
    go_region_law (go_simp; go_at_call 69; refine (refesc_list _ keep _ (by first | exact h1 | exact h2) hk).mono ?_; rintro e w1 ⟨rfl, hw1⟩; have hacc := hacc.trans (hw1.mono hacc.size); try have hc1 := hcv _ hw1)
    all_goals (
      go_wp2
      go_ret
      exact ⟨by rw [hv.out, ← app_list, ← app_list]; rfl, hacc⟩)

end Go.Proofs.YtgboekilhldejaaGreatDoor

/-
  The contract of the document's own Print.
-/
namespace Go.Proofs.YtgboekilhldejaaGreatDoor
open Go.RowKit Sc
set_option linter.unusedVariables false
set_option maxRecDepth 20000

theorem ret_print {p : List UInt8 × Int} {x : List UInt8} {a : Int} (h : p = (x, a)) : Ending.returned (.tuple #[.string ⟨x.toArray⟩, .int .i64 a]) = .returned (.tuple #[.string ⟨p.1.toArray⟩, .int .i64 p.2]) := by rw [h]
theorem refdigits_nat (n : Int) (w : World) (h0 : 0 ≤ n) (h1 : n ≤ 65535) :
    Calls Tryz.prog 70 #[.int .i64 n] w fun e w' => e = .returned (.string ⟨(digL n.toNat).toArray⟩) ∧ ∃ q, w' = w.drewN q :=
  refdigits_any n.toNat n w (by omega) h0 (by omega)
theorem pairV_len (keep : List UInt8) (p : Par) (h : parB p = true) : (pairV keep p).length ≤ 400 := by
  have hp := parB_ok h
  have l1 := escP_len keep p.name
  have l2 := escP_len keep p.value
  unfold pairV
  split
  · simp; omega
  · omega

set_option maxHeartbeats 2000000 in
set_option maxRecDepth 100000 in
theorem refprint_bad (u : Uri) (p h : Value) (w : World) (hsm : SmallU 140737488355328 u) (hp : ParsAt w p u.params) (hh : ParsAt w h u.headers) (hne : ¬ checkV u = 0) :
    Calls Tryz.prog 36 #[uriV u p h] w fun e w' => e = .returned (.tuple #[.string ⟨(printV u).1.toArray⟩, .int .i64 (printV u).2]) ∧ Below w.heap.size w w' := by
  have hv : Hid (printV u = ([], checkV u)) := show _ = _ by rw [printV, if_neg hne]
  have hn : (checkV u != 0) = true := by simpa using hne
  have hbox := box_new w u p h
  have hbw : Below w.heap.size w (w.alloc (.cells #[.string ⟨u.scheme.toArray⟩, .string ⟨u.user.toArray⟩, .string ⟨u.host.toArray⟩, .int .i64 u.port, p, h] 37)) := (Below.refl _ w).alloc (Nat.le_refl _) _
  have hws : w.heap.size < (w.alloc (.cells #[.string ⟨u.scheme.toArray⟩, .string ⟨u.user.toArray⟩, .string ⟨u.host.toArray⟩, .int .i64 u.port, p, h] 37)).heap.size := by simp
  clear hne
  unfold uriV
  go_enter Tryz.func36, Tryz.ntmps36
  go_wp2_with fail
  refine (refcheck_any u p h _ hsm (hp.below hbw) (hh.below hbw)).mono ?_
  rintro e w2 ⟨rfl, hw2⟩
  have hb2 := hbw.trans (hw2.mono hbw.size)
  obtain ⟨g0, g1, g2, g3, g4, g5⟩ := hbox.below hw2 hws
  go_wp2_with fail
  refine (refcheck_any u p h _ hsm (hp.below hb2) (hh.below hb2)).mono ?_
  rintro e w3 ⟨rfl, hw3⟩
  go_wp2
  go_ret2
  exact ⟨ret_print (x := []) hv.out, hb2.trans (hw3.mono hb2.size)⟩

theorem ParsAt.at {w : World} {ao : Option Addr} {n cap : Nat} {ps : List Par} (h : ParsAt w (.slice ao n cap) ps) (k : Nat) (hk : k < ps.length) : ∃ a, ao = some a ∧ a.block < w.heap.size ∧ ParAt w a k ps[k] := by
  rcases h with ⟨_, rfl⟩ | ⟨a, c, hv, hc⟩
  · simp at hk
  · simp only [Value.slice.injEq] at hv
    exact ⟨a, hv.1, hc k hk⟩

set_option maxHeartbeats 4000000 in
set_option maxRecDepth 100000 in
theorem refprint_ok (u : Uri) (p h : Value) (w : World) (hsm : SmallU 140737488355328 u) (hp : ParsAt w p u.params) (hh : ParsAt w h u.headers) (hok : checkV u = 0) :
    Calls Tryz.prog 36 #[uriV u p h] w fun e w' => e = .returned (.tuple #[.string ⟨(printV u).1.toArray⟩, .int .i64 (printV u).2]) ∧ Below w.heap.size w w' := by
  have hv : Hid (printV u = (textT u, 0)) := show _ = _ by rw [printV, if_pos hok]
  obtain ⟨k1, k2, k3, k4, k5, k6, k7, k8⟩ := check_ok hok
  have hl1 := schemeB_ok k1
  have hl3 := hostB_ok k3
  have hpl := listB_ok k6
  have hhl := listB_ok k7
  have hbox := box_new w u p h
  have hbw : Below w.heap.size w (w.alloc (.cells #[.string ⟨u.scheme.toArray⟩, .string ⟨u.user.toArray⟩, .string ⟨u.host.toArray⟩, .int .i64 u.port, p, h] 37)) := (Below.refl _ w).alloc (Nat.le_refl _) _
  have hws : w.heap.size < (w.alloc (.cells #[.string ⟨u.scheme.toArray⟩, .string ⟨u.user.toArray⟩, .string ⟨u.host.toArray⟩, .int .i64 u.port, p, h] 37)).heap.size := by simp
  have el := escP_len usersK u.user
  have dl := digL_len19 (n := u.port.toNat) (by omega)
  clear k1 k3 k6 k7 k8
  have HPL : Hid _ := hpl.2
  have HHL : Hid _ := hhl.2
  have hp16 := hpl.1
  have hh16 := hhl.1
  clear hpl hhl
  unfold uriV
  go_enter Tryz.func36, Tryz.ntmps36
  go_wp2_with fail
  refine (refcheck_any u p h _ hsm (hp.below hbw) (hh.below hbw)).mono ?_
  rintro e w2 ⟨rfl, hw2⟩
  rw [hok]
  have hb2 := hbw.trans (hw2.mono hbw.size)
  have hx2 := hbox.below hw2 hws
  have hs2 : w.heap.size < w2.heap.size := Nat.lt_of_lt_of_le hws hw2.size
  obtain ⟨ap, cp, rfl⟩ := hp.form
  obtain ⟨ah, ch, rfl⟩ := hh.form
  obtain ⟨g0, g1, g2, g3, g4, g5⟩ := hx2
  have hx2 : Hid (BoxU w2 w.heap.size u (.slice ap u.params.length cp) (.slice ah u.headers.length ch)) := ⟨g0, g1, g2, g3, g4, g5⟩
  clear hbox hbw hws hw2 hok
  have HP : Hid _ := hp
  have HH : Hid _ := hh
  clear hp hh
  by_cases eu : u.user = []
  · have hue : u.user.isEmpty = true := by simp [eu]
    by_cases ep : u.port = 0
    · have hpe : (u.port != 0) = false := by simp [ep]
      have hfr : Hid (frontT u = u.scheme ++ [58] ++ u.host) := show _ = _ by simp [frontT, eu, ep]
      clear eu ep
      go_wp2
      have hF : Value.string (ByteArray.mk u.scheme.toArray ++ ByteArray.mk #[58] ++ ByteArray.mk u.host.toArray) = .string ⟨(frontT u).toArray⟩ := by rw [hfr.out, ← app_list, ← app_list]
      have hxB := hx2.out
      have hbB := hb2
      have hsB := hs2
      clear g0 g1 g2 g3 g4 g5 hx2 hb2 hs2
      generalize w2 = wB at hxB hbB hsB ⊢
      have HXB : Hid _ := hxB; clear hxB
      have HF : Hid _ := hF; clear hF
      go_loopw [4, 5] (fun x i wr => ∃ (k : Nat) (l : List UInt8), k ≤ u.params.length ∧ i = .int .i64 k ∧ x = .string ⟨l.toArray⟩ ∧ l.length ≤ 500 + 401 * k ∧ Hid (l = frontT u ++ parsT (u.params.take k)) ∧ Below wB.heap.size wB wr) (fun _ i _ => u.params.length - (intOf i).toNat)
      case atStart => exact ⟨0, frontT u, by omega, rfl, HF.out, by rw [hfr.out]; simp; omega, show _ = _ by simp [parsT], Below.refl _ _⟩
      case round =>
        obtain ⟨k, l, hk, rfl, rfl, hll, hle, hbr⟩ := hrel
        have hbx := hbB.trans (hbr.mono hbB.size)
        obtain ⟨g0, g1, g2, g3, g4, g5⟩ := BoxU.below (b := w.heap.size) (u := u) HXB.out hbr hsB
        by_cases hlt : k < u.params.length
        · obtain ⟨a, hap, hab, hpar⟩ := ParsAt.at HP.out k hlt
          rw [hap] at g4
          clear hap
          obtain ⟨c0, c1, c2⟩ := hpar.below hbx hab
          have hpb := HPL.out _ (List.getElem_mem hlt)
          have hpo := parB_ok hpb
          have hpl2 := pairV_len paramsK _ hpb
          have hsn := parsT_snoc hlt
          have HSN : Hid _ := hsn; clear hsn hpb
          go_wp2_with fail
          refine (pair_any u.params[k] paramsK _ (by omega) (by omega) (by decide)).mono ?_
          rintro e w5 ⟨rfl, hw5⟩
          go_wp2
          go_roundw
          case rel => exact ⟨k + 1, l ++ [59] ++ pairV paramsK u.params[k], by omega, by go_num, by rw [← app_list, ← app_list], by simp; omega, show _ = _ by rw [hle.out, HSN.out]; simp, hbr.trans (hw5.mono hbr.size)⟩
          case measure => simp [intOf]; omega
        · have hle2 : Hid (l = frontT u ++ parsT u.params) := show _ = _ by
            have := hle.out
            rw [List.take_of_length_le (by omega)] at this; exact this
          have hll2 : l.length ≤ 7000 := by omega
          have HG : Hid (BoxU wr w.heap.size u (.slice ap u.params.length cp) (.slice ah u.headers.length ch)) := ⟨g0, g1, g2, g3, g4, g5⟩
          have hsr : w.heap.size < wr.heap.size := Nat.lt_of_lt_of_le hsB hbr.size
          clear hle hll
          go_wp2
          clear g0 g1 g2 g3 g4 g5
          go_loopw [4, 6] (fun x i wq => ∃ (k : Nat) (m : List UInt8), k ≤ u.headers.length ∧ i = .int .i64 k ∧ x = .string ⟨m.toArray⟩ ∧ m.length ≤ 7000 + 401 * k ∧ Hid (m = l ++ hdrT (u.headers.take k)) ∧ Below wr.heap.size wr wq) (fun _ i _ => u.headers.length - (intOf i).toNat)
          case atStart => exact ⟨0, l, by omega, rfl, rfl, by omega, show _ = _ by simp [hdrT], Below.refl _ _⟩
          case round =>
            obtain ⟨k, m, hk, rfl, rfl, hmm, hme, hbq⟩ := hrel
            have hbz := hbx.trans (hbq.mono hbx.size)
            obtain ⟨g0, g1, g2, g3, g4, g5⟩ := HG.out.below hbq hsr
            by_cases hlt : k < u.headers.length
            · obtain ⟨a, hap, hab, hpar⟩ := ParsAt.at HH.out k hlt
              rw [hap] at g5
              clear hap
              obtain ⟨c0, c1, c2⟩ := hpar.below hbz hab
              have hpb := HHL.out _ (List.getElem_mem hlt)
              have hpo := parB_ok hpb
              have hpl2 := pairV_len headersK _ hpb
              have hsn := hdrT_snoc hlt
              have HSN : Hid _ := hsn; clear hsn hpb
              by_cases hk0 : k = 0
              · have ek : ((k : Int) == 0) = true := by simp [hk0]
                rw [if_pos hk0] at HSN
                have HK : Hid _ := hk0; clear hk0
                go_wp2_with fail
                refine (pair_any u.headers[k] headersK _ (by omega) (by omega) (by decide)).mono ?_
                rintro e w5 ⟨rfl, hw5⟩
                go_wp2
                go_roundw
                case rel => exact ⟨k + 1, m ++ [63] ++ pairV headersK u.headers[k], by omega, by go_num, by rw [← app_list, ← app_list], by simp; omega, show _ = _ by rw [hme.out, HSN.out]; simp, hbq.trans (hw5.mono hbq.size)⟩
                case measure => simp [intOf]; omega
              · have ek : ((k : Int) == 0) = false := by simp only [beq_eq_false_iff_ne, ne_eq]; omega
                rw [if_neg hk0] at HSN
                go_wp2_with fail
                refine (pair_any u.headers[k] headersK _ (by omega) (by omega) (by decide)).mono ?_
                rintro e w5 ⟨rfl, hw5⟩
                go_wp2
                go_roundw
                case rel => exact ⟨k + 1, m ++ [38] ++ pairV headersK u.headers[k], by omega, by go_num, by rw [← app_list, ← app_list], by simp; omega, show _ = _ by rw [hme.out, HSN.out]; simp, hbq.trans (hw5.mono hbq.size)⟩
                case measure => simp [intOf]; omega
            · have hend : Hid (m = textT u) := show _ = _ by
                have := hme.out
                rw [List.take_of_length_le (by omega), hle2.out] at this
                rw [this, textT]
              clear hme
              go_wp2
              go_ret2
              exact ⟨ret_print (by rw [hv.out, hend.out]), hbz⟩
    · have hpe : (u.port != 0) = true := by simpa using ep
      have hfr : Hid (frontT u = u.scheme ++ [58] ++ u.host ++ [58] ++ digL u.port.toNat) := show _ = _ by simp [frontT, eu, ep]
      clear eu ep
      go_wp2_with (go_at_call 70; refine (refdigits_nat _ _ k4 k5).mono ?_; rintro e w3 ⟨rfl, q, rfl⟩)
      have hF : Value.string (ByteArray.mk u.scheme.toArray ++ ByteArray.mk #[58] ++ ByteArray.mk u.host.toArray ++ ByteArray.mk #[58] ++ ByteArray.mk (digL u.port.toNat).toArray) = .string ⟨(frontT u).toArray⟩ := by rw [hfr.out, ← app_list, ← app_list, ← app_list, ← app_list]
      have hxB := hx2.out.below (below_drewN w2 q) hs2
      have hbB := hb2.trans ((below_drewN w2 q).mono hb2.size)
      have hsB : w.heap.size < (w2.drewN q).heap.size := hs2
      clear g0 g1 g2 g3 g4 g5 hx2 hb2 hs2
      generalize w2.drewN q = wB at hxB hbB hsB ⊢
      have HXB : Hid _ := hxB; clear hxB
      have HF : Hid _ := hF; clear hF
      go_loopw [4, 5] (fun x i wr => ∃ (k : Nat) (l : List UInt8), k ≤ u.params.length ∧ i = .int .i64 k ∧ x = .string ⟨l.toArray⟩ ∧ l.length ≤ 500 + 401 * k ∧ Hid (l = frontT u ++ parsT (u.params.take k)) ∧ Below wB.heap.size wB wr) (fun _ i _ => u.params.length - (intOf i).toNat)
      case atStart => exact ⟨0, frontT u, by omega, rfl, HF.out, by rw [hfr.out]; simp; omega, show _ = _ by simp [parsT], Below.refl _ _⟩
      case round =>
        obtain ⟨k, l, hk, rfl, rfl, hll, hle, hbr⟩ := hrel
        have hbx := hbB.trans (hbr.mono hbB.size)
        obtain ⟨g0, g1, g2, g3, g4, g5⟩ := BoxU.below (b := w.heap.size) (u := u) HXB.out hbr hsB
        by_cases hlt : k < u.params.length
        · obtain ⟨a, hap, hab, hpar⟩ := ParsAt.at HP.out k hlt
          rw [hap] at g4
          clear hap
          obtain ⟨c0, c1, c2⟩ := hpar.below hbx hab
          have hpb := HPL.out _ (List.getElem_mem hlt)
          have hpo := parB_ok hpb
          have hpl2 := pairV_len paramsK _ hpb
          have hsn := parsT_snoc hlt
          have HSN : Hid _ := hsn; clear hsn hpb
          go_wp2_with fail
          refine (pair_any u.params[k] paramsK _ (by omega) (by omega) (by decide)).mono ?_
          rintro e w5 ⟨rfl, hw5⟩
          go_wp2
          go_roundw
          case rel => exact ⟨k + 1, l ++ [59] ++ pairV paramsK u.params[k], by omega, by go_num, by rw [← app_list, ← app_list], by simp; omega, show _ = _ by rw [hle.out, HSN.out]; simp, hbr.trans (hw5.mono hbr.size)⟩
          case measure => simp [intOf]; omega
        · have hle2 : Hid (l = frontT u ++ parsT u.params) := show _ = _ by
            have := hle.out
            rw [List.take_of_length_le (by omega)] at this; exact this
          have hll2 : l.length ≤ 7000 := by omega
          have HG : Hid (BoxU wr w.heap.size u (.slice ap u.params.length cp) (.slice ah u.headers.length ch)) := ⟨g0, g1, g2, g3, g4, g5⟩
          have hsr : w.heap.size < wr.heap.size := Nat.lt_of_lt_of_le hsB hbr.size
          clear hle hll
          go_wp2
          clear g0 g1 g2 g3 g4 g5
          go_loopw [4, 6] (fun x i wq => ∃ (k : Nat) (m : List UInt8), k ≤ u.headers.length ∧ i = .int .i64 k ∧ x = .string ⟨m.toArray⟩ ∧ m.length ≤ 7000 + 401 * k ∧ Hid (m = l ++ hdrT (u.headers.take k)) ∧ Below wr.heap.size wr wq) (fun _ i _ => u.headers.length - (intOf i).toNat)
          case atStart => exact ⟨0, l, by omega, rfl, rfl, by omega, show _ = _ by simp [hdrT], Below.refl _ _⟩
          case round =>
            obtain ⟨k, m, hk, rfl, rfl, hmm, hme, hbq⟩ := hrel
            have hbz := hbx.trans (hbq.mono hbx.size)
            obtain ⟨g0, g1, g2, g3, g4, g5⟩ := HG.out.below hbq hsr
            by_cases hlt : k < u.headers.length
            · obtain ⟨a, hap, hab, hpar⟩ := ParsAt.at HH.out k hlt
              rw [hap] at g5
              clear hap
              obtain ⟨c0, c1, c2⟩ := hpar.below hbz hab
              have hpb := HHL.out _ (List.getElem_mem hlt)
              have hpo := parB_ok hpb
              have hpl2 := pairV_len headersK _ hpb
              have hsn := hdrT_snoc hlt
              have HSN : Hid _ := hsn; clear hsn hpb
              by_cases hk0 : k = 0
              · have ek : ((k : Int) == 0) = true := by simp [hk0]
                rw [if_pos hk0] at HSN
                have HK : Hid _ := hk0; clear hk0
                go_wp2_with fail
                refine (pair_any u.headers[k] headersK _ (by omega) (by omega) (by decide)).mono ?_
                rintro e w5 ⟨rfl, hw5⟩
                go_wp2
                go_roundw
                case rel => exact ⟨k + 1, m ++ [63] ++ pairV headersK u.headers[k], by omega, by go_num, by rw [← app_list, ← app_list], by simp; omega, show _ = _ by rw [hme.out, HSN.out]; simp, hbq.trans (hw5.mono hbq.size)⟩
                case measure => simp [intOf]; omega
              · have ek : ((k : Int) == 0) = false := by simp only [beq_eq_false_iff_ne, ne_eq]; omega
                rw [if_neg hk0] at HSN
                go_wp2_with fail
                refine (pair_any u.headers[k] headersK _ (by omega) (by omega) (by decide)).mono ?_
                rintro e w5 ⟨rfl, hw5⟩
                go_wp2
                go_roundw
                case rel => exact ⟨k + 1, m ++ [38] ++ pairV headersK u.headers[k], by omega, by go_num, by rw [← app_list, ← app_list], by simp; omega, show _ = _ by rw [hme.out, HSN.out]; simp, hbq.trans (hw5.mono hbq.size)⟩
                case measure => simp [intOf]; omega
            · have hend : Hid (m = textT u) := show _ = _ by
                have := hme.out
                rw [List.take_of_length_le (by omega), hle2.out] at this
                rw [this, textT]
              clear hme
              go_wp2
              go_ret2
              exact ⟨ret_print (by rw [hv.out, hend.out]), hbz⟩
  · have hue : u.user.isEmpty = false := by simpa using eu
    by_cases ep : u.port = 0
    · have hpe : (u.port != 0) = false := by simp [ep]
      have hfr : Hid (frontT u = u.scheme ++ [58] ++ escL usersK u.user ++ [64] ++ u.host) := show _ = _ by simp [frontT, eu, ep]
      clear eu ep
      go_wp2_with fail
      refine (refesc_list u.user usersK _ (by omega) (by decide)).mono ?_
      rintro e w3 ⟨rfl, hw3⟩
      have hb3 := hb2.trans (hw3.mono hb2.size)
      have hs3 : w.heap.size < w3.heap.size := Nat.lt_of_lt_of_le hs2 hw3.size
      have hx3 := hx2.out.below hw3 hs2
      clear g0 g1 g2 g3 g4 g5 hx2 hb2 hs2 hw3
      obtain ⟨g0, g1, g2, g3, g4, g5⟩ := hx3
      have hxB : BoxU w3 w.heap.size u (.slice ap u.params.length cp) (.slice ah u.headers.length ch) := ⟨g0, g1, g2, g3, g4, g5⟩
      have hxB' : Hid _ := hxB; clear hxB
      go_wp2
      have hF : Value.string (ByteArray.mk u.scheme.toArray ++ ByteArray.mk #[58] ++ ByteArray.mk (escL usersK u.user).toArray ++ ByteArray.mk #[64] ++ ByteArray.mk u.host.toArray) = .string ⟨(frontT u).toArray⟩ := by rw [hfr.out, ← app_list, ← app_list, ← app_list, ← app_list]
      have hxB := hxB'.out
      have hbB := hb3
      have hsB := hs3
      clear g0 g1 g2 g3 g4 g5 hb3 hs3 hxB'
      generalize w3 = wB at hxB hbB hsB ⊢
      have HXB : Hid _ := hxB; clear hxB
      have HF : Hid _ := hF; clear hF
      go_loopw [4, 5] (fun x i wr => ∃ (k : Nat) (l : List UInt8), k ≤ u.params.length ∧ i = .int .i64 k ∧ x = .string ⟨l.toArray⟩ ∧ l.length ≤ 500 + 401 * k ∧ Hid (l = frontT u ++ parsT (u.params.take k)) ∧ Below wB.heap.size wB wr) (fun _ i _ => u.params.length - (intOf i).toNat)
      case atStart => exact ⟨0, frontT u, by omega, rfl, HF.out, by rw [hfr.out]; simp; omega, show _ = _ by simp [parsT], Below.refl _ _⟩
      case round =>
        obtain ⟨k, l, hk, rfl, rfl, hll, hle, hbr⟩ := hrel
        have hbx := hbB.trans (hbr.mono hbB.size)
        obtain ⟨g0, g1, g2, g3, g4, g5⟩ := BoxU.below (b := w.heap.size) (u := u) HXB.out hbr hsB
        by_cases hlt : k < u.params.length
        · obtain ⟨a, hap, hab, hpar⟩ := ParsAt.at HP.out k hlt
          rw [hap] at g4
          clear hap
          obtain ⟨c0, c1, c2⟩ := hpar.below hbx hab
          have hpb := HPL.out _ (List.getElem_mem hlt)
          have hpo := parB_ok hpb
          have hpl2 := pairV_len paramsK _ hpb
          have hsn := parsT_snoc hlt
          have HSN : Hid _ := hsn; clear hsn hpb
          go_wp2_with fail
          refine (pair_any u.params[k] paramsK _ (by omega) (by omega) (by decide)).mono ?_
          rintro e w5 ⟨rfl, hw5⟩
          go_wp2
          go_roundw
          case rel => exact ⟨k + 1, l ++ [59] ++ pairV paramsK u.params[k], by omega, by go_num, by rw [← app_list, ← app_list], by simp; omega, show _ = _ by rw [hle.out, HSN.out]; simp, hbr.trans (hw5.mono hbr.size)⟩
          case measure => simp [intOf]; omega
        · have hle2 : Hid (l = frontT u ++ parsT u.params) := show _ = _ by
            have := hle.out
            rw [List.take_of_length_le (by omega)] at this; exact this
          have hll2 : l.length ≤ 7000 := by omega
          have HG : Hid (BoxU wr w.heap.size u (.slice ap u.params.length cp) (.slice ah u.headers.length ch)) := ⟨g0, g1, g2, g3, g4, g5⟩
          have hsr : w.heap.size < wr.heap.size := Nat.lt_of_lt_of_le hsB hbr.size
          clear hle hll
          go_wp2
          clear g0 g1 g2 g3 g4 g5
          go_loopw [4, 6] (fun x i wq => ∃ (k : Nat) (m : List UInt8), k ≤ u.headers.length ∧ i = .int .i64 k ∧ x = .string ⟨m.toArray⟩ ∧ m.length ≤ 7000 + 401 * k ∧ Hid (m = l ++ hdrT (u.headers.take k)) ∧ Below wr.heap.size wr wq) (fun _ i _ => u.headers.length - (intOf i).toNat)
          case atStart => exact ⟨0, l, by omega, rfl, rfl, by omega, show _ = _ by simp [hdrT], Below.refl _ _⟩
          case round =>
            obtain ⟨k, m, hk, rfl, rfl, hmm, hme, hbq⟩ := hrel
            have hbz := hbx.trans (hbq.mono hbx.size)
            obtain ⟨g0, g1, g2, g3, g4, g5⟩ := HG.out.below hbq hsr
            by_cases hlt : k < u.headers.length
            · obtain ⟨a, hap, hab, hpar⟩ := ParsAt.at HH.out k hlt
              rw [hap] at g5
              clear hap
              obtain ⟨c0, c1, c2⟩ := hpar.below hbz hab
              have hpb := HHL.out _ (List.getElem_mem hlt)
              have hpo := parB_ok hpb
              have hpl2 := pairV_len headersK _ hpb
              have hsn := hdrT_snoc hlt
              have HSN : Hid _ := hsn; clear hsn hpb
              by_cases hk0 : k = 0
              · have ek : ((k : Int) == 0) = true := by simp [hk0]
                rw [if_pos hk0] at HSN
                have HK : Hid _ := hk0; clear hk0
                go_wp2_with fail
                refine (pair_any u.headers[k] headersK _ (by omega) (by omega) (by decide)).mono ?_
                rintro e w5 ⟨rfl, hw5⟩
                go_wp2
                go_roundw
                case rel => exact ⟨k + 1, m ++ [63] ++ pairV headersK u.headers[k], by omega, by go_num, by rw [← app_list, ← app_list], by simp; omega, show _ = _ by rw [hme.out, HSN.out]; simp, hbq.trans (hw5.mono hbq.size)⟩
                case measure => simp [intOf]; omega
              · have ek : ((k : Int) == 0) = false := by simp only [beq_eq_false_iff_ne, ne_eq]; omega
                rw [if_neg hk0] at HSN
                go_wp2_with fail
                refine (pair_any u.headers[k] headersK _ (by omega) (by omega) (by decide)).mono ?_
                rintro e w5 ⟨rfl, hw5⟩
                go_wp2
                go_roundw
                case rel => exact ⟨k + 1, m ++ [38] ++ pairV headersK u.headers[k], by omega, by go_num, by rw [← app_list, ← app_list], by simp; omega, show _ = _ by rw [hme.out, HSN.out]; simp, hbq.trans (hw5.mono hbq.size)⟩
                case measure => simp [intOf]; omega
            · have hend : Hid (m = textT u) := show _ = _ by
                have := hme.out
                rw [List.take_of_length_le (by omega), hle2.out] at this
                rw [this, textT]
              clear hme
              go_wp2
              go_ret2
              exact ⟨ret_print (by rw [hv.out, hend.out]), hbz⟩
    · have hpe : (u.port != 0) = true := by simpa using ep
      have hfr : Hid (frontT u = u.scheme ++ [58] ++ escL usersK u.user ++ [64] ++ u.host ++ [58] ++ digL u.port.toNat) := show _ = _ by simp [frontT, eu, ep]
      clear eu ep
      go_wp2_with fail
      refine (refesc_list u.user usersK _ (by omega) (by decide)).mono ?_
      rintro e w3 ⟨rfl, hw3⟩
      have hb3 := hb2.trans (hw3.mono hb2.size)
      have hs3 : w.heap.size < w3.heap.size := Nat.lt_of_lt_of_le hs2 hw3.size
      have hx3 := hx2.out.below hw3 hs2
      clear g0 g1 g2 g3 g4 g5 hx2 hb2 hs2 hw3
      obtain ⟨g0, g1, g2, g3, g4, g5⟩ := hx3
      have hxB : BoxU w3 w.heap.size u (.slice ap u.params.length cp) (.slice ah u.headers.length ch) := ⟨g0, g1, g2, g3, g4, g5⟩
      have hxB' : Hid _ := hxB; clear hxB
      go_wp2_with (go_at_call 70; refine (refdigits_nat _ _ k4 k5).mono ?_; rintro e w4 ⟨rfl, q, rfl⟩)
      have hF : Value.string (ByteArray.mk u.scheme.toArray ++ ByteArray.mk #[58] ++ ByteArray.mk (escL usersK u.user).toArray ++ ByteArray.mk #[64] ++ ByteArray.mk u.host.toArray ++ ByteArray.mk #[58] ++ ByteArray.mk (digL u.port.toNat).toArray) = .string ⟨(frontT u).toArray⟩ := by rw [hfr.out, ← app_list, ← app_list, ← app_list, ← app_list, ← app_list, ← app_list]
      have hxB := BoxU.below (b := w.heap.size) (u := u) hxB'.out (below_drewN w3 q) hs3
      have hbB := hb3.trans ((below_drewN w3 q).mono hb3.size)
      have hsB : w.heap.size < (w3.drewN q).heap.size := hs3
      clear g0 g1 g2 g3 g4 g5 hb3 hs3 hxB'
      generalize w3.drewN q = wB at hxB hbB hsB ⊢
      have HXB : Hid _ := hxB; clear hxB
      have HF : Hid _ := hF; clear hF
      go_loopw [4, 5] (fun x i wr => ∃ (k : Nat) (l : List UInt8), k ≤ u.params.length ∧ i = .int .i64 k ∧ x = .string ⟨l.toArray⟩ ∧ l.length ≤ 500 + 401 * k ∧ Hid (l = frontT u ++ parsT (u.params.take k)) ∧ Below wB.heap.size wB wr) (fun _ i _ => u.params.length - (intOf i).toNat)
      case atStart => exact ⟨0, frontT u, by omega, rfl, HF.out, by rw [hfr.out]; simp; omega, show _ = _ by simp [parsT], Below.refl _ _⟩
      case round =>
        obtain ⟨k, l, hk, rfl, rfl, hll, hle, hbr⟩ := hrel
        have hbx := hbB.trans (hbr.mono hbB.size)
        obtain ⟨g0, g1, g2, g3, g4, g5⟩ := BoxU.below (b := w.heap.size) (u := u) HXB.out hbr hsB
        by_cases hlt : k < u.params.length
        · obtain ⟨a, hap, hab, hpar⟩ := ParsAt.at HP.out k hlt
          rw [hap] at g4
          clear hap
          obtain ⟨c0, c1, c2⟩ := hpar.below hbx hab
          have hpb := HPL.out _ (List.getElem_mem hlt)
          have hpo := parB_ok hpb
          have hpl2 := pairV_len paramsK _ hpb
          have hsn := parsT_snoc hlt
          have HSN : Hid _ := hsn; clear hsn hpb
          go_wp2_with fail
          refine (pair_any u.params[k] paramsK _ (by omega) (by omega) (by decide)).mono ?_
          rintro e w5 ⟨rfl, hw5⟩
          go_wp2
          go_roundw
          case rel => exact ⟨k + 1, l ++ [59] ++ pairV paramsK u.params[k], by omega, by go_num, by rw [← app_list, ← app_list], by simp; omega, show _ = _ by rw [hle.out, HSN.out]; simp, hbr.trans (hw5.mono hbr.size)⟩
          case measure => simp [intOf]; omega
        · have hle2 : Hid (l = frontT u ++ parsT u.params) := show _ = _ by
            have := hle.out
            rw [List.take_of_length_le (by omega)] at this; exact this
          have hll2 : l.length ≤ 7000 := by omega
          have HG : Hid (BoxU wr w.heap.size u (.slice ap u.params.length cp) (.slice ah u.headers.length ch)) := ⟨g0, g1, g2, g3, g4, g5⟩
          have hsr : w.heap.size < wr.heap.size := Nat.lt_of_lt_of_le hsB hbr.size
          clear hle hll
          go_wp2
          clear g0 g1 g2 g3 g4 g5
          go_loopw [4, 6] (fun x i wq => ∃ (k : Nat) (m : List UInt8), k ≤ u.headers.length ∧ i = .int .i64 k ∧ x = .string ⟨m.toArray⟩ ∧ m.length ≤ 7000 + 401 * k ∧ Hid (m = l ++ hdrT (u.headers.take k)) ∧ Below wr.heap.size wr wq) (fun _ i _ => u.headers.length - (intOf i).toNat)
          case atStart => exact ⟨0, l, by omega, rfl, rfl, by omega, show _ = _ by simp [hdrT], Below.refl _ _⟩
          case round =>
            obtain ⟨k, m, hk, rfl, rfl, hmm, hme, hbq⟩ := hrel
            have hbz := hbx.trans (hbq.mono hbx.size)
            obtain ⟨g0, g1, g2, g3, g4, g5⟩ := HG.out.below hbq hsr
            by_cases hlt : k < u.headers.length
            · obtain ⟨a, hap, hab, hpar⟩ := ParsAt.at HH.out k hlt
              rw [hap] at g5
              clear hap
              obtain ⟨c0, c1, c2⟩ := hpar.below hbz hab
              have hpb := HHL.out _ (List.getElem_mem hlt)
              have hpo := parB_ok hpb
              have hpl2 := pairV_len headersK _ hpb
              have hsn := hdrT_snoc hlt
              have HSN : Hid _ := hsn; clear hsn hpb
              by_cases hk0 : k = 0
              · have ek : ((k : Int) == 0) = true := by simp [hk0]
                rw [if_pos hk0] at HSN
                have HK : Hid _ := hk0; clear hk0
                go_wp2_with fail
                refine (pair_any u.headers[k] headersK _ (by omega) (by omega) (by decide)).mono ?_
                rintro e w5 ⟨rfl, hw5⟩
                go_wp2
                go_roundw
                case rel => exact ⟨k + 1, m ++ [63] ++ pairV headersK u.headers[k], by omega, by go_num, by rw [← app_list, ← app_list], by simp; omega, show _ = _ by rw [hme.out, HSN.out]; simp, hbq.trans (hw5.mono hbq.size)⟩
                case measure => simp [intOf]; omega
              · have ek : ((k : Int) == 0) = false := by simp only [beq_eq_false_iff_ne, ne_eq]; omega
                rw [if_neg hk0] at HSN
                go_wp2_with fail
                refine (pair_any u.headers[k] headersK _ (by omega) (by omega) (by decide)).mono ?_
                rintro e w5 ⟨rfl, hw5⟩
                go_wp2
                go_roundw
                case rel => exact ⟨k + 1, m ++ [38] ++ pairV headersK u.headers[k], by omega, by go_num, by rw [← app_list, ← app_list], by simp; omega, show _ = _ by rw [hme.out, HSN.out]; simp, hbq.trans (hw5.mono hbq.size)⟩
                case measure => simp [intOf]; omega
            · have hend : Hid (m = textT u) := show _ = _ by
                have := hme.out
                rw [List.take_of_length_le (by omega), hle2.out] at this
                rw [this, textT]
              clear hme
              go_wp2
              go_ret2
              exact ⟨ret_print (by rw [hv.out, hend.out]), hbz⟩

theorem refprint_any (u : Uri) (p h : Value) (w : World) (hsm : SmallU 140737488355328 u) (hp : ParsAt w p u.params) (hh : ParsAt w h u.headers) :
    Calls Tryz.prog 36 #[uriV u p h] w fun e w' => e = .returned (.tuple #[.string ⟨(printV u).1.toArray⟩, .int .i64 (printV u).2]) ∧ Below w.heap.size w w' := by
  by_cases hok : checkV u = 0
  · exact refprint_ok u p h w hsm hp hh hok
  · exact refprint_bad u p h w hsm hp hh hok

end Go.Proofs.YtgboekilhldejaaGreatDoor
