/-
  The wheel's New and Stop.
-/
import Derived.Test.YthioekmlljpbpaaWWhen
namespace Go.Proofs.Ythioekmlljpbpaa
open Go.RowKit Go.Maps Go.WideMaps
set_option linter.unusedVariables false
set_option maxRecDepth 20000

section
variable {bw m B : Nat} {v : Value} {f : Nat → It} {n : Nat} {D : DataW Unit} {w : World} {l : List Tm}
/-- The blocks of a wheel. -/
def WS (bw m : Nat) (v : Value) (f : Nat → It) (n : Nat) (k : Nat) : Prop := k = m ∨ HS2 bw bw v f n k
/-- What changes none of a wheel's blocks keeps it. -/
theorem WH.chg {S : Nat → Prop} {w' : World} (h : WH bw m B v f n D w l) (hc : Chg S w w') (hn : ∀ k, WS bw m v f n k → ¬ S k) : WH bw m B v f n D w' l := by
  refine ⟨⟨h.q.wheel.chg hc (hn _ (.inr (.inl rfl))), ?_, fun i hi => (h.q.item i hi).chg hc (hn _ (.inr (.inr (.inr (.inr ⟨i, hi, rfl⟩))))), h.q.inj, h.q.lo⟩, h.k, own_chg h.mp hc (hn _ (.inl rfl)), h.has, h.at', h.size, h.wlo, h.mlo, h.wf⟩
  obtain ⟨h1, h2⟩ := h.q.own
  refine ⟨h1, ?_⟩
  rcases h2 with h2 | ⟨g, cap, cur, hv, hg, hh, r⟩
  · exact Or.inl h2
  · exact Or.inr ⟨g, cap, cur, hv, hg, by rw [hc.block g (Array.getElem?_eq_some_iff.1 hh).1 (hn g (.inr (.inr (.inr (.inl (by rw [hv]; rfl))))))]; exact hh, r⟩
theorem step_del {ops : Array Oper} {o : Oper} {a : Act} {K : Act → World → Prop} {Q : Exit → Act → World → Prop} {E : Prop} (hgd : o.guard = none) (x y : Operand) (hop : o.op = Op.call { callee := Callee.builtin Builtin.delete, args := #[x, y], argTypes := #[61, 3] })
    (hown : w.ownsMap Try.prog 3 ptrE m n D) (hm : a.eval x = .map (some m)) {id : Int} (hx : a.eval y = .int .i64 id) (hwf : (Lit.int .i64 id).wf = true)
    (h : ∀ w', w'.ownsMap Try.prog 3 ptrE m n (D.del (idK id)) → w.grownBy w' (some m) → K (a.put o.dst (.tuple #[])) w') :
    if Region.wanted o (yielded ops a.tmps) = true then Oper.wp Try.prog o a w K Q else E := by
  have hw : Region.wanted o (yielded ops a.tmps) = true := by simp [Region.wanted, hgd]
  rw [if_pos hw]
  obtain ⟨w', hrun, r1, r2⟩ := hown.drop keyI Try.underlying61 (key_int hwf) o.type
  unfold Oper.wp
  simp [execOp, hop, resolve, invoke, builtin, hm, hx, hrun, Result.andThen]
  exact h w' r1 r2.grown
theorem WH.ws_w (h : WH bw m B v f n D w l) {k : Nat} (hk : WS bw m v f n k) : k < w.heap.size := by
  rcases hk with rfl | rfl | rfl | hk | ⟨i, hi, rfl⟩
  · exact h.mp.lt
  · exact (Array.getElem?_eq_some_iff.1 h.q.wheel).1
  · exact (Array.getElem?_eq_some_iff.1 h.q.wheel).1
  · rcases h.q.own.2 with ⟨h2, _⟩ | ⟨g, cap, cur, hv, hg, hh, _⟩
    · rw [h2] at hk; cases hk
    · rw [hv] at hk
      simp [Value.ownBlock] at hk
      subst hk
      exact (Array.getElem?_eq_some_iff.1 hh).1
  · exact (Array.getElem?_eq_some_iff.1 (h.q.item i hi)).1
/-- One is taken away, of the heap and of the map. -/
theorem WH.drop {v' : Value} {f' : Nat → It} {w' : World} {i : Nat} (h : WH bw m B v f (n + 1) D w l) (hi : i < n + 1) (hq : HQ bw m B v' w' f' n) (hre : Re n (swapF f i n) f') (hh : Heap itLt f (n + 1) → Heap itLt f' n)
    (hm : w'.ownsMap Try.prog 3 ptrE m (n + 1) (D.del (idK (f i).tm.2))) : WH bw m B v' f' n (D.del (idK (f i).tm.2)) w' (stopT l (f i).tm.2) := by
  have hs := Re.swap f hi (show n < n + 1 by omega)
  have hl : swapF f i n n = f i := swap_r f i n
  have hids := hs.ids h.q.inj h.k.ids
  have hK := h.k.drop hi hre (hh h.k.heap)
  -- each item that is left was there, and is another one
  have old : ∀ j, j < n → ∃ a, a < n + 1 ∧ f' j = f a ∧ (f a).tm.2 ≠ (f i).tm.2 := fun j hj => by
    obtain ⟨b, hb, eb⟩ := (hre.mem (f' j)).1 ⟨j, hj, rfl⟩
    obtain ⟨a, ha, ea⟩ := (hs.mem (swapF f i n b)).1 ⟨b, by omega, rfl⟩
    refine ⟨a, ha, by rw [← eb, ← ea], fun e => ?_⟩
    have := hids b n (by omega) (by omega) (by rw [← ea, hl]; exact e)
    omega
  have hsz : Maps.size (D.del (idK (f i).tm.2)) = n := by
    have := Maps.size_del (k := idK (f i).tm.2) (h.mp.tidy keyI)
    rw [if_pos ((h.has _).2 ⟨i, hi, rfl⟩), h.size] at this
    omega
  refine ⟨hq, hK, by have := own_tight hm; rwa [hsz] at this, fun id => ?_, fun j hj z => ?_, hsz, h.wlo, h.mlo, fun j hj => ?_⟩
  · by_cases e : id = (f i).tm.2
    · subst e
      rw [Maps.has_del_same]
      constructor
      · intro x; cases x
      · rintro ⟨j, hj, ej⟩
        obtain ⟨a, _, ea, hne⟩ := old j hj
        exact absurd (by rw [← ea]; exact ej) hne
    · rw [Maps.has_del_other (idK_ne e), h.has]
      constructor
      · rintro ⟨a, ha, rfl⟩
        have hm1 : (f a).tm ∈ stopT l (f i).tm.2 := stop_mem.2 ⟨(h.k.mem _).2 ⟨a, ha, rfl⟩, e⟩
        obtain ⟨j, hj, ej⟩ := (hK.mem _).1 hm1
        exact ⟨j, hj, by rw [ej]⟩
      · rintro ⟨j, hj, ej⟩
        obtain ⟨a, ha, ea, _⟩ := old j hj
        exact ⟨a, ha, by rw [← ea]; exact ej⟩
  · obtain ⟨a, ha, ea, hne⟩ := old j hj
    rw [ea, Maps.atKey_del_other (idK_ne hne)]
    exact h.at' a ha z
  · obtain ⟨a, ha, ea, _⟩ := old j hj
    rw [ea]; exact h.wf a ha

theorem hs_drop {v1 : Value} {f1 : Nat → It} {i k : Nat} (hi : i < n + 1) (hre : Re n (swapF f i n) f1) (hv : v1.ownBlock = v.ownBlock) (hk : HS2 bw bw v1 f1 n k) : HS2 bw bw v f (n + 1) k := by
  rcases hk with hk | hk | hk | ⟨j, hj, e⟩
  · exact .inl hk
  · exact .inl hk
  · exact .inr (.inr (.inl (hv ▸ hk)))
  · obtain ⟨b, hb, eb⟩ := (hre.mem (f1 j)).1 ⟨j, hj, rfl⟩
    obtain ⟨a, ha, ea⟩ := ((Re.swap f hi (show n < n + 1 by omega)).mem (swapF f i n b)).1 ⟨b, by omega, rfl⟩
    exact .inr (.inr (.inr ⟨a, ha, by rw [ea, eb]; exact e⟩))

theorem ws_drop {v1 : Value} {f1 : Nat → It} {i k : Nat} (hi : i < n + 1) (hre : Re n (swapF f i n) f1) (hv : v1.ownBlock = v.ownBlock) (hk : WS bw m v1 f1 n k) : WS bw m v f (n + 1) k := by
  rcases hk with hk | hk
  · exact .inl hk
  · exact .inr (hs_drop hi hre hv hk)
/-- What the wheel is behind take. -/
def TakeOut (B bw m : Nat) (v : Value) (f : Nat → It) (n : Nat) (w : World) (l : List Tm) (i : Nat) (w' : World) : Prop :=
  ∃ v' f' D', WH bw m B v' f' n D' w' (stopT l (f i).tm.2) ∧ (∀ k, WS bw m v' f' n k → WS bw m v f (n + 1) k) ∧ Chg (WS bw m v f (n + 1)) w w'
theorem take_out {v1 : Value} {f1 : Nat → It} {w1 w2 : World} {i : Nat} {x y : Value} {o : Obj} (h : WH bw m B v f (n + 1) D w l) (hi : i < n + 1) (hq1 : HQ bw m B v1 w1 f1 n) (hv1 : v1.ownBlock = v.ownBlock) (hre1 : Re n (swapF f i n) f1) (hh1 : Heap itLt f (n + 1) → Heap itLt f1 n)
    (hc1 : Chg (HS2 bw bw v f (n + 1)) (w.alloc o) w1) (hm2 : w2.ownsMap Try.prog 3 ptrE m (n + 1) (D.del (idK (f i).tm.2))) (hg2 : w1.drew.grownBy w2 (some m)) :
    TakeOut B bw m v f n w l i ((w2.setCell ⟨w.heap.size, 0, none⟩ x).setCell ⟨w.heap.size, 1, none⟩ y) := by
  have NO1 : ¬ HS2 bw bw v1 f1 n m := fun z => h.no2 (hs_drop hi hre1 hv1 z)
  have W2 := h.drop hi (hq1.drew.grown hg2 NO1) hre1 hh1 hm2
  have hsub : ∀ k, WS bw m v1 f1 n k → WS bw m v f (n + 1) k := fun k hk => ws_drop hi hre1 hv1 hk
  have C2 : Chg (WS bw m v f (n + 1)) w w2 := ((((Chg.refl _ w).alloc o).step hc1 fun k _ z => .inr z).drew).grown hg2 fun k e _ => .inl (by injection e with e; exact e.symm)
  refine ⟨v1, f1, _, W2.chg (S := fun k => k = w.heap.size) (((Chg.refl (fun k => k = w.heap.size) w2).setCell (p := ⟨w.heap.size, 0, none⟩) (fun _ => rfl) x).setCell (p := ⟨w.heap.size, 1, none⟩) (fun _ => rfl) y) (fun k hk e => ?_), hsub, (C2.setCell (p := ⟨w.heap.size, 0, none⟩) (fun e => absurd e (Nat.lt_irrefl _)) x).setCell (p := ⟨w.heap.size, 1, none⟩) (fun e => absurd e (Nat.lt_irrefl _)) y⟩
  have := h.ws_w (hsub k hk)
  omega

set_option maxHeartbeats 4000000 in
set_option maxRecDepth 100000 in
theorem take_any (h : WH bw m B v f (n + 1) D w l) {i : Nat} (hi : i < n + 1) (hn : n + 1 ≤ 1000000) :
    Calls Try.prog 28 #[.pointer (some ⟨bw, 0, none⟩), .int .i64 i] w fun e w' => e = .returned (.agg #[.int .i64 (f i).tm.1, .int .i64 (f i).tm.2]) ∧ TakeOut B bw m v f n w l i w' := by
  have KR := hid (fun (o : Obj) => hremove_any (h.q.new o) hi hn)
  have hta := as_item (f i).blk
  have MC := hid (fun (o : Obj) (w1 : World) (hc : Chg (HS2 bw bw v f (n + 1)) (w.alloc o) w1) => own_chg (h.mp.alloc o) hc h.no2)
  have TO := hid (fun (v1 : Value) (f1 : Nat → It) (w1 w2 : World) (x y : Value) (o : Obj) a1 a2 a3 a4 a5 a6 a7 => take_out (v1 := v1) (f1 := f1) (w1 := w1) (w2 := w2) (x := x) (y := y) (o := o) h hi a1 a2 a3 a4 a5 a6 a7)
  have RB := hid (fun (w1 : World) (hc : Chg (HS2 bw bw v f (n + 1)) (w.alloc (.cells #[.int .i64 0, .int .i64 0] 49)) w1) => (show RowIs (w.alloc (.cells #[.int .i64 0, .int .i64 0] 49)) w.heap.size 49 [.int .i64 0, .int .i64 0] by unfold RowIs; rw [heap_alloc_new]).chg hc (fun x => absurd (h.ws_w (.inr x)) (Nat.lt_irrefl _)))
  have hwf := hid (h.wf i hi)
  have hml := hid (Nat.ne_of_gt h.mp.lt : w.heap.size ≠ m)
  clear h
  unfold hV at KR
  go_enter Try.func28, Try.ntmps28
  go_wp2_with (go_at_call 32; refine (KR.out _).mono ?_; rintro e w1 ⟨rfl, v1, f1, hq1, hv1, hr1, hre1, hh1, hc1⟩; have cm1 : w1.cell? ⟨bw, 1, none⟩ = some (.map (some m)) := hq1.wheel.cell 1 (by simp); have ci1 : w1.cell? ⟨(f i).blk, 1, none⟩ = some (.int .i64 (f i).tm.2) := hr1.cell 1 (by simp [itemL]); have MB := hid (fun e => map_no_row (MC.out _ _ hc1) _ _ _ (by rw [e]; exact hr1) : ¬ m = (f i).blk); replace hq1 := hid hq1; replace hre1 := hid hre1; replace hh1 := hid hh1; replace hc1 := hid hc1; replace hr1 := hid hr1; replace hv1 := hid hv1)
  go_region_law (refine step_del rfl _ _ rfl (MC.out _ _ hc1.out).drew rfl rfl hwf.out ?_; intro w2 hm2 hg2)
  all_goals (
    have hr2 := (show RowIs w1.drew _ _ _ from hr1.out).gr hg2 (fun e => MB.out (by injection e))
    have a20 : w2.cell? ⟨(f i).blk, 0, none⟩ = some (.int .i64 (f i).tm.1) := hr2.cell 0 (by simp [itemL])
    have a21 : w2.cell? ⟨(f i).blk, 1, none⟩ = some (.int .i64 (f i).tm.2) := hr2.cell 1 (by simp [itemL])
    have rb2 := (show RowIs w1.drew _ _ _ from RB.out _ hc1.out.drew).gr hg2 (fun e => hml.out (by injection e with e; exact e.symm))
    have r0 : w2.cell? ⟨w.heap.size, 0, none⟩ = some (.int .i64 0) := rb2.cell 0 (by simp)
    have r1 : w2.cell? ⟨w.heap.size, 1, none⟩ = some (.int .i64 0) := rb2.cell 1 (by simp)
    have f0 := rb2.frozen 0
    have f1' := rb2.frozen 1
    have rb3 := (rb2.set 0 (.int .i64 (f i).tm.1)).set 1 (.int .i64 (f i).tm.2)
    have z0 := rb3.cell 0 (by simp)
    have z1 := rb3.cell 1 (by simp)
    simp only [List.set_cons_zero, List.set_cons_succ, List.getElem_cons_zero, List.getElem_cons_succ] at z0 z1
    have TK := hid (TO.out _ _ _ _ (.int .i64 (f i).tm.1) (.int .i64 (f i).tm.2) _ hq1.out hv1.out hre1.out hh1.out hc1.out hm2 hg2)
    clear hr2 rb2 rb3 hm2 hg2 hr1 hq1 hre1 hh1 hc1 MC TO RB
    go_wp2
    refine bodyPost_ret (v := .agg #[.int .i64 (f i).tm.1, .int .i64 (f i).tm.2]) (by simp [results, Try.results28, go_sem, z0, z1]) rfl ⟨rfl, TK.out⟩)

set_option maxHeartbeats 4000000 in
set_option maxRecDepth 100000 in
theorem stop_any (h : WH bw m B v f n D w l) {id : Int} (hwf : (Lit.int .i64 id).wf = true) (hn : n ≤ 1000000) :
    Calls Try.prog 15 #[.pointer (some ⟨bw, 0, none⟩), .int .i64 id] w fun e w' => e = .returned (.bool (whenT l id).isSome) ∧ ∃ v' f' n' D', WH bw m B v' f' n' D' w' (stopT l id) ∧ n' ≤ n ∧ Chg (WS bw m v f n) w w' := by
  have cm := h.mapAt
  have MP := hid h.mp
  have KM := hid (made_any h)
  by_cases hx : ∃ i, i < n ∧ (f i).tm.2 = id
  · obtain ⟨i, hi, rfl⟩ := hx
    obtain ⟨n, rfl⟩ : ∃ k, n = k + 1 := ⟨n - 1, by omega⟩
    obtain ⟨h1, h2⟩ := h.hasOne hi
    have h3 := h.at' i hi
    have cp := (h.q.item i hi).cell 2 (by simp [itemL])
    simp only [itemL, List.getElem_cons_zero, List.getElem_cons_succ] at cp
    rw [h2]
    have KT := hid (take_any h hi hn)
    clear h h2
    have H1 := hid h1
    have H3 := hid h3
    have HW := hid hwf
    clear h1 h3 hwf
    go_enter Try.func15, Try.ntmps15
    go_wp2_with (first
      | (go_at_call 25; refine KM.out.mono ?_; rintro e w0 ⟨rfl, hw0⟩; rw [hw0]; clear hw0)
      | (at_lookup; refine wp_look_has rfl _ _ rfl MP.out rfl rfl HW.out H1.out H3.out ?_)
      | (go_at_call 28; refine KT.out.mono ?_; rintro e w1 ⟨rfl, v1, f1, D1, hw1, hs1, hc1⟩))
    go_ret
    exact ⟨rfl, v1, f1, n, D1, hw1, by omega, hc1⟩
  · obtain ⟨h1, h2⟩ := h.hasNot hx
    have hst : stopT l id = l := by
      unfold stopT
      rw [List.filter_eq_self]
      intro t ht
      have := (when_none id).1 h2 t ht
      simp [this]
    have HH := hid h
    rw [h2]
    clear h h2 hx
    have H1 := hid h1
    have HW := hid hwf
    clear h1 hwf
    go_enter Try.func15, Try.ntmps15
    go_wp2_with (first
      | (go_at_call 25; refine KM.out.mono ?_; rintro e w0 ⟨rfl, hw0⟩; rw [hw0]; clear hw0)
      | (at_lookup; refine wp_look_no rfl _ _ rfl MP.out rfl rfl HW.out H1.out ?_))
    go_ret
    exact ⟨rfl, v, f, n, D, by rw [hst]; exact HH.out, Nat.le_refl _, Chg.refl _ _⟩
end
end Go.Proofs.Ythioekmlljpbpaa
