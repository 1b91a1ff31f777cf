/-
  Contracts: package frame's header, headersOf.
-/
import Derived.Test.YtagopboofmjnfaaDoorFUnfold
namespace Go.Proofs.YtagopboofmjnfaaDoor
open Go.RowKit Go.Sort Sc
set_option linter.unusedVariables false
set_option maxRecDepth 20000

theorem rowH_new (w : World) : RowIs (w.alloc (.cells #[.string ⟨#[]⟩, .string ⟨#[]⟩] 51)) w.heap.size 51 [.string ⟨#[]⟩, .string ⟨#[]⟩] := by
  unfold RowIs; rw [heap_alloc_new]
theorem row_store2 {w : World} {b : Nat} {e : TypeId} {u0 u1 : Value} (h : RowIs w b e [u0, u1]) (v0 v1 : Value) : RowIs ((w.setCell ⟨b, 0, none⟩ v0).setCell ⟨b, 1, none⟩ v1) b e [v0, v1] := by
  have := (h.set 0 v0).set 1 v1
  simpa using this
theorem headerC_of {s a b : List UInt8} {ok : Bool} (h : cutL 58 s = (a, b, ok)) : headerC s = (⟨longV (behindL a), trimL b⟩, ok && (tokenB (behindL a) && visB b)) := by
  unfold headerC; simp only [h]
theorem behind_len (l : List UInt8) : (behindL l).length ≤ l.length := by
  unfold behindL
  rw [List.length_reverse]
  refine Nat.le_trans (List.dropWhile_sublist _).length_le ?_
  rw [List.length_reverse]; exact Nat.le_refl _

set_option maxHeartbeats 2000000 in
set_option maxRecDepth 100000 in
theorem fheader_any (s : List UInt8) (w : World) (hs : s.length ≤ 100000) :
    Calls Tryd.prog 71 #[.string ⟨s.toArray⟩] w fun e w' => e = .returned (.tuple #[hdrV (headerC s).1, .bool (headerC s).2]) ∧ Below w.heap.size w w' := by
  have l1 := cutL_len 58 s
  obtain ⟨a, b, ok, h1⟩ : ∃ a b ok, cutL 58 s = (a, b, ok) := ⟨_, _, _, rfl⟩
  have hv := headerC_of h1
  rw [h1] at l1
  simp only at l1
  have lb := behind_len a
  have KC := hid (fun w' => cutS_of h1 w' (by omega))
  have KE := hid (fun w' => trimEnd_list a w' (by omega))
  have KL := hid (fun w' => flong_list (behindL a) w' (by omega))
  have KT := hid (fun w' => trim_list b w' (by omega))
  have KK := hid (fun w' => token_list (behindL a) w' (by omega))
  have KV := hid (fun w' => fvisible_list b w' (by omega))
  generalize headerC s = R at hv ⊢
  subst hv
  simp only
  generalize longV (behindL a) = nm at KL ⊢
  generalize tokenB (behindL a) = tb at KK ⊢
  generalize behindL a = nb at KE KL KK
  generalize trimL b = vl at KT ⊢
  generalize visB b = vb at KV ⊢
  have hr0 := rowH_new w
  have hb0 : Below w.heap.size w (w.alloc (.cells #[.string ⟨#[]⟩, .string ⟨#[]⟩] 51)) := (Below.refl _ w).alloc (Nat.le_refl _) _
  have hlt0 := alloc_lt w (.cells #[.string ⟨#[]⟩, .string ⟨#[]⟩] 51)
  clear h1 l1 lb
  go_enter Tryd.func71, Tryd.ntmps71
  go_wp2_with fail
  refine (KC.out _).mono ?_
  rintro e w1 ⟨rfl, hw1⟩
  have hr1 := hr0.below hw1 hlt0
  have hb1 := hb0.trans (hw1.mono hb0.size)
  have hlt1 := Nat.lt_of_lt_of_le hlt0 hw1.size
  clear hr0 hb0 hlt0 hw1 KC
  go_wp2_with fail
  refine (KE.out _).mono ?_
  rintro e w2 ⟨rfl, hw2⟩
  have hr2 := hr1.below hw2 hlt1
  have hb2 := hb1.trans (hw2.mono hb1.size)
  have hlt2 := Nat.lt_of_lt_of_le hlt1 hw2.size
  clear hr1 hb1 hlt1 hw2 KE
  go_wp2_with fail
  refine (KL.out _).mono ?_
  rintro e w3 ⟨rfl, hw3⟩
  have hr3 := hr2.below hw3 hlt2
  have hb3 := hb2.trans (hw3.mono hb2.size)
  have hlt3 := Nat.lt_of_lt_of_le hlt2 hw3.size
  clear hr2 hb2 hlt2 hw3 KL
  go_wp2_with fail
  refine (KT.out _).mono ?_
  rintro e w4 ⟨rfl, hw4⟩
  have hr4 := hr3.below hw4 hlt3
  have hb4 := hb3.trans (hw4.mono hb3.size)
  clear hr3 hb3 hlt3 hw4 KT
  have c0 := hr4.cell 0 (by simp)
  have c1 := hr4.cell 1 (by simp)
  have f0 := hr4.frozen 0
  have f1 := hr4.frozen 1
  simp only [List.getElem_cons_zero, List.getElem_cons_succ] at c0 c1
  have hr7 := row_store2 hr4 (.string ⟨nm.toArray⟩) (.string ⟨vl.toArray⟩)
  have hb7 := (hb4.setCell (p := ⟨w.heap.size, 0, none⟩) (Nat.le_refl _) (.string ⟨nm.toArray⟩)).setCell (p := ⟨w.heap.size, 1, none⟩) (Nat.le_refl _) (.string ⟨vl.toArray⟩)
  cases ok <;> cases tb
  all_goals (
    go_wp2_with (first
      | (go_at_call 57; refine (KK.out _).mono ?_; rintro e w' ⟨rfl, hw⟩; rw [hw])
      | (go_at_call 76; refine (KV.out _).mono ?_; rintro e w' ⟨rfl, hw⟩; rw [hw]))
    generalize World.setCell (World.setCell _ _ _) _ _ = w7 at hr7 hb7 ⊢
    have d0 := hr7.cell 0 (by simp)
    have d1 := hr7.cell 1 (by simp)
    simp only [List.getElem_cons_zero, List.getElem_cons_succ] at d0 d1
    try simp only [Exit.inBlock, Exit.then]
    first
      | (refine bodyPost_ret (v := .tuple #[.agg #[.string ⟨nm.toArray⟩, .string ⟨vl.toArray⟩], .bool false]) (by simp [results, Tryd.results71, go_sem, d0, d1]; try rfl) rfl ?_; exact ⟨rfl, hb7⟩)
      | (refine bodyPost_ret (v := .tuple #[.agg #[.string ⟨nm.toArray⟩, .string ⟨vl.toArray⟩], .bool vb]) (by simp [results, Tryd.results71, go_sem, d0, d1]; try rfl) rfl ?_; exact ⟨rfl, hb7⟩))

end Go.Proofs.YtagopboofmjnfaaDoor
