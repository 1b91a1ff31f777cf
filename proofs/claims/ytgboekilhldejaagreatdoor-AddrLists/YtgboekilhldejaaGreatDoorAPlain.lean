/-
  Contracts: package addr's cutPlain, cut.
-/
import Derived.Test.YtgboekilhldejaaGreatDoorACuts
import Derived.Test.YtgboekilhldejaaGreatDoorAAny4
namespace Go.Proofs.YtgboekilhldejaaGreatDoor
open Go.RowKit Sc
set_option linter.unusedVariables false
set_option maxRecDepth 20000

def plainR (s : List UInt8) : Pcs × Bool := (⟨[], trimL (cutL 59 s).1, if (cutL 59 s).2.2 = true then 59 :: (cutL 59 s).2.1 else []⟩, !anyB (trimL (cutL 59 s).1))
theorem semi_app (b : List UInt8) : (⟨#[59]⟩ : ByteArray) ++ ⟨b.toArray⟩ = ⟨(59 :: b).toArray⟩ := by
  have e : (⟨#[59]⟩ : ByteArray) = ⟨[59].toArray⟩ := rfl
  rw [e, ByteArray.mk_append_mk]; rfl

set_option maxHeartbeats 1000000 in
set_option maxRecDepth 100000 in
theorem cutPlain_any (s : List UInt8) (w : World) (hs : s.length ≤ 1048576) :
    Calls Tryz.prog 82 #[.string ⟨s.toArray⟩] w fun e w' => e = .returned (.tuple #[pcsV (plainR s).1, .bool (plainR s).2]) ∧ Below w.heap.size w w' := by
  have hcl := cutL_len 59 s
  obtain ⟨ca, cb, cc, hcut⟩ : ∃ ca cb cc, cutL 59 s = (ca, cb, cc) := ⟨_, _, _, rfl⟩
  rw [hcut] at hcl
  simp only at hcl
  have hv : plainR s = (⟨[], trimL ca, if cc = true then 59 :: cb else []⟩, !anyB (trimL ca)) := by rw [plainR, hcut]
  have hta := trimL_len ca
  have KC := hid (fun w' => strCut_of hcut w' (by omega))
  have KT := hid (fun w' => trim_list ca w' (by omega))
  have KA := hid (fun w' => containsAny_any (trimL ca) w' (by omega))
  clear hcut
  generalize plainR s = R at hv ⊢
  generalize trimL ca = u at hv hta KT KA
  generalize anyB u = ab at hv KA
  have HV := hid hv
  clear hv hta
  have zb := size_list cb
  have hr0 := row3_any w (.string ⟨#[]⟩) (.string ⟨#[]⟩) (.string ⟨#[]⟩) 75
  have hb0 : Below w.heap.size w (w.alloc (.cells #[.string ⟨#[]⟩, .string ⟨#[]⟩, .string ⟨#[]⟩] 75)) := (Below.refl _ w).alloc (Nat.le_refl _) _
  have hlt0 := alloc_lt w (.cells #[.string ⟨#[]⟩, .string ⟨#[]⟩, .string ⟨#[]⟩] 75)
  go_enter Tryz.func82, Tryz.ntmps82
  go_wp2_with fail
  refine (KC.out _).mono ?_
  rintro e w1 ⟨rfl, hw1⟩
  have hr1 := hr0.below hw1 hlt0
  have hb1 := hb0.trans (hw1.mono hb0.size)
  have hlt1 := Nat.lt_of_lt_of_le hlt0 hw1.size
  clear hr0 hb0 hlt0 hw1 KC
  go_wp2_with fail
  refine (KT.out _).mono ?_
  rintro e w3 ⟨rfl, hw2⟩
  have hr3 := hr1.below hw2 hlt1
  have hb3 := hb1.trans (hw2.mono hb1.size)
  have hlt3 := Nat.lt_of_lt_of_le hlt1 hw2.size
  clear hr1 hb1 hlt1 hw2 KT
  have key : ∀ (w4 : World) (B : Nat) (rt : List UInt8), w.heap.size < B → B < w4.heap.size → RowIs w4 B 75 [.string ⟨#[]⟩, .string ⟨u.toArray⟩, .string ⟨rt.toArray⟩] → RowIs w4 w.heap.size 75 [.string ⟨#[]⟩, .string ⟨#[]⟩, .string ⟨#[]⟩] → Below w.heap.size w w4 →
      ∀ w5, Below w4.heap.size w4.drew w5 → (Three w5 B (.string ⟨#[]⟩) (.string ⟨u.toArray⟩) (.string ⟨rt.toArray⟩) ∧ Three w5 w.heap.size (.string ⟨#[]⟩) (.string ⟨#[]⟩) (.string ⟨#[]⟩) ∧ RowIs w5 w.heap.size 75 [.string ⟨#[]⟩, .string ⟨#[]⟩, .string ⟨#[]⟩] ∧ Below w.heap.size w w5) := by
    intro w4 B rt hB1 hB2 hp hr hb w5 h5
    refine ⟨RowIs.three (RowIs.below (show RowIs w4.drew B 75 _ from hp) h5 hB2), RowIs.three (RowIs.below (show RowIs w4.drew w.heap.size 75 _ from hr) h5 (Nat.lt_trans hB1 hB2)), RowIs.below (show RowIs w4.drew w.heap.size 75 _ from hr) h5 (Nat.lt_trans hB1 hB2), hb.drew.trans (h5.mono hb.size)⟩
  have KEY := hid key
  clear key
  have hp4 := row3_any w3 (.string ⟨#[]⟩) (.string ⟨u.toArray⟩) (.string ⟨#[]⟩) 75
  have hr4 := hr3.below ((Below.refl _ w3).alloc (Nat.le_refl _) (.cells #[.string ⟨#[]⟩, .string ⟨u.toArray⟩, .string ⟨#[]⟩] 75)) hlt3
  have hb4 := hb3.alloc hb3.size (.cells #[.string ⟨#[]⟩, .string ⟨u.toArray⟩, .string ⟨#[]⟩] 75)
  have hlt4 := alloc_lt w3 (.cells #[.string ⟨#[]⟩, .string ⟨u.toArray⟩, .string ⟨#[]⟩] 75)
  obtain ⟨p0, p1, p2, g0, g1, g2⟩ := hp4.three
  obtain ⟨y0, y1, y2, f0, f1, f2⟩ := hr4.three
  cases cc with
  | false =>
    have HV2 : Hid (R = (⟨[], u, []⟩, !ab)) := show _ = _ by rw [HV.out]; rfl
    clear HV
    have KR := hid (KEY.out _ _ [] hlt3 hlt4 hp4 hr4 hb4)
    go_wp2
    generalize World.alloc w3 _ = w4 at hp4 hr4 hb4 hlt4 p0 p1 p2 g0 g1 g2 y0 y1 y2 f0 f1 f2 KR ⊢
    go_region_with (go_at_call 107; refine (KA.out _).mono ?_; rintro e w5 ⟨rfl, hw5⟩; obtain ⟨⟨q0, q1, q2, _, _, _⟩, ⟨z0, z1, z2, k0, k1, k2⟩, hr5, hb5⟩ := KR.out w5 hw5)
    all_goals (
      have hr7 := row_store3 hr5 (.string ⟨#[]⟩) (.string ⟨u.toArray⟩) (.string ⟨#[]⟩)
      have hb7 := store_below3 hb5 w.heap.size (Nat.le_refl _) (.string ⟨#[]⟩) (.string ⟨u.toArray⟩) (.string ⟨#[]⟩)
      generalize World.setCell _ _ _ = w7 at hr7 hb7 ⊢
      obtain ⟨d0, d1, d2, _, _, _⟩ := hr7.three
      go_wp2
      try simp only [Exit.inBlock, Exit.then]
      refine bodyPost_ret (v := .tuple #[.agg #[.string ⟨#[]⟩, .string ⟨u.toArray⟩, .string ⟨#[]⟩], .bool (!ab)]) (by simp [results, Tryz.results82, go_sem, d0, d1, d2]; try rfl) rfl ?_
      exact ⟨ret_pcs (d := []) (r := []) HV2.out, hb7⟩)
  | true =>
    have HV2 : Hid (R = (⟨[], u, 59 :: cb⟩, !ab)) := show _ = _ by rw [HV.out]; rfl
    clear HV
    have hp5 := row3_any w3 (.string ⟨#[]⟩) (.string ⟨u.toArray⟩) (.string ⟨(59 :: cb).toArray⟩) 75
    have hr5 : RowIs (w3.alloc (.cells #[.string ⟨#[]⟩, .string ⟨u.toArray⟩, .string ⟨(59 :: cb).toArray⟩] 75)) w.heap.size 75 [.string ⟨#[]⟩, .string ⟨#[]⟩, .string ⟨#[]⟩] := hr3.below ((Below.refl _ w3).alloc (Nat.le_refl _) _) hlt3
    have hb5 : Below w.heap.size w (w3.alloc (.cells #[.string ⟨#[]⟩, .string ⟨u.toArray⟩, .string ⟨(59 :: cb).toArray⟩] 75)) := hb3.alloc hb3.size _
    have hlt5 : w3.heap.size < (w3.alloc (.cells #[.string ⟨#[]⟩, .string ⟨u.toArray⟩, .string ⟨(59 :: cb).toArray⟩] 75)).heap.size := alloc_lt w3 _
    have KR := hid (KEY.out _ _ (59 :: cb) hlt3 hlt5 hp5 hr5 hb5)
    clear hp4 hr4 hb4 hlt4 p0 p1 p2 g0 g1 g2 y0 y1 y2 f0 f1 f2 hr3 hb3
    have HSA := hid (semi_app cb)
    have HF := hid (And.intro hp5.three hr5.three)
    clear hp5
    go_wp2
    rw [HSA.out]
    generalize World.alloc w3 _ = w4 at KR hb5 hlt5 hr5 HF ⊢
    obtain ⟨⟨p0, p1, p2, g0, g1, g2⟩, ⟨y0, y1, y2, f0, f1, f2⟩⟩ := HF.out
    go_region_with (go_at_call 107; refine (KA.out _).mono ?_; rintro e w5 ⟨rfl, hw5⟩; obtain ⟨⟨q0, q1, q2, _, _, _⟩, ⟨z0, z1, z2, k0, k1, k2⟩, hr6, hb6⟩ := KR.out w5 hw5)
    all_goals (
      have hr7 := row_store3 hr6 (.string ⟨#[]⟩) (.string ⟨u.toArray⟩) (.string ⟨(59 :: cb).toArray⟩)
      have hb7 := store_below3 hb6 w.heap.size (Nat.le_refl _) (.string ⟨#[]⟩) (.string ⟨u.toArray⟩) (.string ⟨(59 :: cb).toArray⟩)
      generalize World.setCell _ _ _ = w7 at hr7 hb7 ⊢
      obtain ⟨d0, d1, d2, _, _, _⟩ := hr7.three
      go_wp2
      try simp only [Exit.inBlock, Exit.then]
      refine bodyPost_ret (v := .tuple #[.agg #[.string ⟨#[]⟩, .string ⟨u.toArray⟩, .string ⟨(59 :: cb).toArray⟩], .bool (!ab)]) (by simp [results, Tryz.results82, go_sem, d0, d1, d2]; try rfl) rfl ?_
      exact ⟨ret_pcs (d := []) HV2.out, hb7⟩)

def cutR (s : List UInt8) : Pcs × Bool := match openV false s with | some k => angR (s.take k) (s.drop (k + 1)) | none => plainR s

end Go.Proofs.YtgboekilhldejaaGreatDoor
