/-
  Contracts: package addr's cut.
-/
import Derived.Test.YtgboekilhldejaaGreatDoorAPlain
namespace Go.Proofs.YtgboekilhldejaaGreatDoor
open Go.RowKit Sc
set_option linter.unusedVariables false
set_option maxRecDepth 20000

theorem angle_list (l : List UInt8) (w : World) (h : l.length ≤ 1048576) :
    Calls Tryz.prog 80 #[.string ⟨l.toArray⟩] w fun e w' => e = .returned (.int .i64 (openI l)) ∧ w' = w := angle_any ⟨l.toArray⟩ w (by rw [size_list]; omega)
theorem ext_take (l : List UInt8) (k : Nat) : (⟨l.toArray⟩ : ByteArray).extract 0 k = ⟨(l.take k).toArray⟩ := by rw [ext_list]; simp
theorem ext_drop (l : List UInt8) (k : Nat) : (⟨l.toArray⟩ : ByteArray).extract k (⟨l.toArray⟩ : ByteArray).size = ⟨(l.drop k).toArray⟩ := by
  rw [ext_list, size_list]
  congr 2
  rw [List.take_of_length_le]
  simp

set_option maxHeartbeats 1000000 in
set_option maxRecDepth 100000 in
theorem cut_any (s : List UInt8) (w : World) (hs : s.length ≤ 1048576) :
    Calls Tryz.prog 42 #[.string ⟨s.toArray⟩] w fun e w' => e = .returned (.tuple #[pcsV (cutR s).1, .bool (cutR s).2]) ∧ Below w.heap.size w w' := by
  have KA := hid (fun w' => angle_list s w' hs)
  have hr0 := row3_any w (.string ⟨#[]⟩) (.string ⟨#[]⟩) (.string ⟨#[]⟩) 75
  have hb0 : Below w.heap.size w (w.alloc (.cells #[.string ⟨#[]⟩, .string ⟨#[]⟩, .string ⟨#[]⟩] 75)) := (Below.refl _ w).alloc (Nat.le_refl _) _
  have hlt0 := alloc_lt w (.cells #[.string ⟨#[]⟩, .string ⟨#[]⟩, .string ⟨#[]⟩] 75)
  cases ho : openV false s with
  | none =>
    have hv : cutR s = plainR s := by rw [cutR, ho]
    rw [openI_none ho] at KA
    have KP := hid (fun w' => cutPlain_any s w' hs)
    generalize cutR s = R at hv ⊢
    generalize plainR s = P at hv KP
    subst hv
    obtain ⟨⟨d, u, r⟩, b⟩ := R
    unfold pcsV at KP
    simp only at KP
    go_enter Tryz.func42, Tryz.ntmps42
    go_wp2_with fail
    refine (KA.out _).mono ?_
    rintro e w1 ⟨rfl, rfl⟩
    go_wp2_with fail
    refine (KP.out _).mono ?_
    rintro e w2 ⟨rfl, hw2⟩
    have hr2 := hr0.below hw2 hlt0
    have hb2 := hb0.trans (hw2.mono hb0.size)
    obtain ⟨y0, y1, y2, f0, f1, f2⟩ := hr2.three
    clear hr0 hb0 hlt0 hw2
    go_wp2
    have hr7 := row_store3 hr2 (.string ⟨d.toArray⟩) (.string ⟨u.toArray⟩) (.string ⟨r.toArray⟩)
    have hb7 := store_below3 hb2 w.heap.size (Nat.le_refl _) (.string ⟨d.toArray⟩) (.string ⟨u.toArray⟩) (.string ⟨r.toArray⟩)
    generalize World.setCell _ _ _ = w7 at hr7 hb7 ⊢
    obtain ⟨d0, d1, d2, _, _, _⟩ := hr7.three
    try simp only [Exit.inBlock, Exit.then]
    refine bodyPost_ret (v := .tuple #[.agg #[.string ⟨d.toArray⟩, .string ⟨u.toArray⟩, .string ⟨r.toArray⟩], .bool b]) (by simp [results, Tryz.results42, go_sem, d0, d1, d2]; try rfl) rfl ?_
    exact ⟨rfl, hb7⟩
  | some k =>
    obtain ⟨hk, _⟩ := openV_lt _ s false k (Nat.le_refl _) ho
    have hv : cutR s = angR (s.take k) (s.drop (k + 1)) := by rw [cutR, ho]
    rw [openI_some ho] at KA
    have KP := hid (fun w' => cutAngled_any (s.take k) (s.drop (k + 1)) w' (by rw [List.length_take]; omega) (by rw [List.length_drop]; omega))
    rw [← ext_take, ← ext_drop] at KP
    generalize cutR s = R at hv ⊢
    generalize angR (s.take k) (s.drop (k + 1)) = P at hv KP
    subst hv
    obtain ⟨⟨d, u, r⟩, b⟩ := R
    unfold pcsV at KP
    simp only at KP
    have z := size_list s
    have hk1 : (k : Int) ≤ ((⟨s.toArray⟩ : ByteArray).size : Int) := by rw [z]; omega
    have hk2 : (k : Int) + 1 ≤ ((⟨s.toArray⟩ : ByteArray).size : Int) := by rw [z]; omega
    have hw1 : IntKind.i64.wrap ((k : Int) + 1) = ((k + 1 : Nat) : Int) := by rw [IntKind.wrap_i64]; omega
    have KR := hid (fun w5 (h5 : Below (w.alloc (.cells #[.string ⟨#[]⟩, .string ⟨#[]⟩, .string ⟨#[]⟩] 75)).heap.size (w.alloc (.cells #[.string ⟨#[]⟩, .string ⟨#[]⟩, .string ⟨#[]⟩] 75)).drew w5) => And.intro (RowIs.three (RowIs.below (show RowIs (w.alloc (.cells #[.string ⟨#[]⟩, .string ⟨#[]⟩, .string ⟨#[]⟩] 75)).drew w.heap.size 75 _ from hr0) h5 hlt0)) (And.intro (RowIs.below (show RowIs (w.alloc (.cells #[.string ⟨#[]⟩, .string ⟨#[]⟩, .string ⟨#[]⟩] 75)).drew w.heap.size 75 _ from hr0) h5 hlt0) (hb0.drew.trans (h5.mono hb0.size))))
    go_enter Tryz.func42, Tryz.ntmps42
    go_wp2_with fail
    refine (KA.out _).mono ?_
    rintro e w1 ⟨rfl, rfl⟩
    go_wp2
    go_region_with (go_at_call 81; refine (KP.out _).mono ?_; rintro e w5 ⟨rfl, hw5⟩; obtain ⟨⟨z0, z1, z2, k0, k1, k2⟩, hr6, hb6⟩ := KR.out w5 hw5)
    all_goals (
      have hr7 := row_store3 hr6 (.string ⟨d.toArray⟩) (.string ⟨u.toArray⟩) (.string ⟨r.toArray⟩)
      have hb7 := store_below3 hb6 w.heap.size (Nat.le_refl _) (.string ⟨d.toArray⟩) (.string ⟨u.toArray⟩) (.string ⟨r.toArray⟩)
      generalize World.setCell _ _ _ = w7 at hr7 hb7 ⊢
      obtain ⟨d0, d1, d2, _, _, _⟩ := hr7.three
      go_wp2
      try simp only [Exit.inBlock, Exit.then]
      refine bodyPost_ret (v := .tuple #[.agg #[.string ⟨d.toArray⟩, .string ⟨u.toArray⟩, .string ⟨r.toArray⟩], .bool b]) (by simp [results, Tryz.results42, go_sem, d0, d1, d2]; try rfl) rfl ?_
      exact ⟨rfl, hb7⟩)

end Go.Proofs.YtgboekilhldejaaGreatDoor
