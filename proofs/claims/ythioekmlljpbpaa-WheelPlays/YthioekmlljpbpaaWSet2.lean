/-
  The wheel's Set, walked.
-/
import Derived.Test.YthioekmlljpbpaaWSet
namespace Go.Proofs.Ythioekmlljpbpaa
open Go.RowKit Go.Maps Go.WideMaps
set_option linter.unusedVariables false
set_option maxRecDepth 20000

section
variable {bw m B : Nat} {v : Value} {f : Nat → It} {n : Nat} {D : DataW Unit} {w : World} {l : List Tm}
/-- What a wheel's call may change: its record, its map, its items, and a row of pointers, all from B on. -/
def SS (B bw m : Nat) (f : Nat → It) (n : Nat) (w : World) (k : Nat) : Prop := B ≤ k ∧ (k = m ∨ k = bw ∨ (∃ i, i < n ∧ (f i).blk = k) ∨ ∃ cs, w.heap[k]? = some (.cells cs 66 (0, 0)))
theorem WH.ss (h : WH bw m B v f n D w l) {k : Nat} (hk : WS bw m v f n k) : SS B bw m f n w k := by
  rcases hk with rfl | hk
  · exact ⟨h.mlo, .inl rfl⟩
  · obtain ⟨h1, h2⟩ := h.q.hs3 h.wlo h.wlo hk
    rcases h2 with h2 | h2 | h2 | h2
    · exact ⟨h1, .inr (.inl h2)⟩
    · exact ⟨h1, .inr (.inl h2)⟩
    · exact ⟨h1, .inr (.inr (.inl h2))⟩
    · exact ⟨h1, .inr (.inr (.inr h2))⟩
/-- A wheel behind a call. -/
def WOut (B bw m : Nat) (f : Nat → It) (n : Nat) (w w' : World) (l' : List Tm) : Prop := ∃ v' f' n' D', WH bw m B v' f' n' D' w' l' ∧ n' ≤ 4096 ∧ Chg (SS B bw m f n w) w w'
def badS (id a : Int) : Prop := id < 0 ∨ a < 0 ∨ 1099511627776 < a
instance (id a : Int) : Decidable (badS id a) := by unfold badS; infer_instance
def setE (l : List Tm) (id a : Int) : Int := if badS id a then 1 else if whenT l id = none ∧ 4096 ≤ l.length then 5 else 0
def setR (l : List Tm) (id a : Int) : List Tm := if badS id a then l else if whenT l id = none ∧ 4096 ≤ l.length then l else setT l id a

/-- A new item, in the map, is pushed. -/
theorem set_new {id a : Int} {O : Obj} {w1 : World} {p0 : Value} (h : WH bw m B v f n D w l) (hx : ¬ ∃ i, i < n ∧ (f i).tm.2 = id) (hwf : (Lit.int .i64 id).wf = true) (rb0 : RowIs (w.alloc O) w.heap.size 69 [.int .i64 a, .int .i64 id, p0])
    (hnb : ∀ i, i < n → (f i).blk ≠ w.heap.size) (hg1 : (w.alloc O).grownBy w1 (some m)) (hm1 : w1.ownsMap Try.prog 3 ptrE m (n + 1) (D.put (idK id) (.lit (.int .i64 w.heap.size)))) (hn : n + 1 ≤ 4096) :
    Calls Try.prog 31 #[hV bw, .iface 66 (.pointer (some ⟨w.heap.size, 0, none⟩))] w1 fun e w' => e = .returned (.tuple #[]) ∧ WOut B bw m f n w w' (setT l id a) := by
  have bwl : bw < w.heap.size := (Array.getElem?_eq_some_iff.1 h.q.wheel).1
  have hBw : B ≤ w.heap.size := Nat.le_trans h.wlo (Nat.le_of_lt bwl)
  have ml := h.mp.lt
  have Q1 := (h.q.new O).grown hg1 h.no2
  have rb1 := rb0.gr hg1 (fun e => by injection e with e; omega)
  have hB1 : B ≤ w1.heap.size := Nat.le_trans (Nat.le_trans hBw (by simp)) hg1.size
  refine (hpush_any Q1 (b := w.heap.size) (t := (a, id)) rb1 hnb hBw h.wlo (by omega) hB1).mono ?_
  rintro e w2 ⟨rfl, v2, f2, hq2, hre2, hh2, hc2⟩
  have no3 : ¬ HS3 B bw w.heap.size f n w1 m := by
    rintro ⟨_, e | e | ⟨i, hi, e⟩ | ⟨cs, e⟩⟩
    · exact map_no_row hm1 _ _ _ (by rw [e]; exact Q1.wheel)
    · omega
    · exact map_no_row hm1 _ _ _ (by rw [← e]; exact Q1.item i hi)
    · exact map_no_row hm1 _ _ _ e
  refine ⟨rfl, v2, f2, n + 1, _, h.push hx hwf hnb hq2 hre2 hh2 (own_chg hm1 hc2 no3), hn, ?_⟩
  have c1 : Chg (SS B bw m f n w) w w1 := ((Chg.refl _ w).alloc O).grown hg1 fun k hk _ => by injection hk with hk; subst hk; exact h.ss (.inl rfl)
  refine c1.step hc2 ?_
  rintro k hk ⟨hB, e | e | e | ⟨cs, e⟩⟩
  · exact ⟨hB, .inr (.inl e)⟩
  · omega
  · exact ⟨hB, .inr (.inr (.inl e))⟩
  · by_cases hkm : k = m
    · exact ⟨hB, .inl hkm⟩
    · rw [hg1.block k (Nat.lt_of_lt_of_le hk (by simp)) (fun x => hkm (by injection x)), Below.heap_alloc _ _ _ hk] at e
      exact ⟨hB, .inr (.inr (.inr ⟨cs, e⟩))⟩

/-- A wheel behind a call that first made memory. -/
theorem WOut.old {o : Obj} {w' : World} {l' : List Tm} (h : WOut B bw m f n (w.alloc o) w' l') : WOut B bw m f n w w' l' := by
  obtain ⟨v', f', n', D', h1, h2, hc⟩ := h
  refine ⟨v', f', n', D', h1, h2, ((Chg.refl _ w).alloc o).step hc ?_⟩
  rintro k hk ⟨hB, e | e | e | ⟨cs, e⟩⟩
  · exact ⟨hB, .inl e⟩
  · exact ⟨hB, .inr (.inl e)⟩
  · exact ⟨hB, .inr (.inr (.inl e))⟩
  · rw [Below.heap_alloc _ _ _ hk] at e
    exact ⟨hB, .inr (.inr (.inr ⟨cs, e⟩))⟩

theorem heap_size_alloc' (w : World) (o : Obj) : (w.alloc o).heap.size = w.heap.size + 1 := by simp
set_option maxHeartbeats 4000000 in
set_option maxRecDepth 100000 in
theorem add_any (h : WH bw m B v f n D w l) {id a : Int} (hx : ¬ ∃ i, i < n ∧ (f i).tm.2 = id) (hwf : (Lit.int .i64 id).wf = true) (hn : n + 1 ≤ 4096) :
    Calls Try.prog 27 #[.pointer (some ⟨bw, 0, none⟩), .agg #[.int .i64 a, .int .i64 id]] w fun e w' => e = .returned (.tuple #[]) ∧ WOut B bw m f n w w' (setT l id a) := by
  have cm := h.mapAt
  have bwl : bw < w.heap.size := (Array.getElem?_eq_some_iff.1 h.q.wheel).1
  obtain ⟨O1, hO1⟩ : ∃ O, O = Obj.cells #[.int .i64 a, .int .i64 id] 49 := ⟨_, rfl⟩
  obtain ⟨O, hO⟩ : ∃ O, O = Obj.cells #[.int .i64 a, .int .i64 id, .int .i64 0] 69 := ⟨_, rfl⟩
  have h1 := h.new O1
  have cm2 := fun o => (h1.new o).mapAt
  have rb0 : RowIs ((w.alloc O1).alloc O) (w.alloc O1).heap.size 69 [.int .i64 a, .int .i64 id, .int .i64 0] := by unfold RowIs; rw [heap_alloc_new, hO]
  have hnb : ∀ i, i < n → (f i).blk ≠ (w.alloc O1).heap.size := fun i hi e => by have := (Array.getElem?_eq_some_iff.1 (h1.q.item i hi)).1; omega
  have FI := hid (fun (w1 : World) (hg1 : ((w.alloc O1).alloc O).drew.grownBy w1 (some m)) (hm1 : w1.ownsMap Try.prog 3 ptrE m (n + 1) (D.put (idK id) (.lit (.int .i64 (w.alloc O1).heap.size)))) => (set_new h1 hx hwf rb0 hnb (show ((w.alloc O1).alloc O).grownBy w1 (some m) from ⟨hg1.os, hg1.tape, hg1.output, hg1.size, hg1.block⟩) hm1 hn).mono (fun e w' (z : e = _ ∧ WOut _ _ _ _ _ _ _ _) => (⟨z.1, z.2.old⟩ : e = .returned (.tuple #[]) ∧ WOut B bw m f n w w' (setT l id a))))
  obtain ⟨w1, hrun, hm1, hg1⟩ := ((h1.mp.alloc O).drew).update keyI Try.underlying61 (by unfold maxLen; omega) (key_int hwf) (show ptrE (.pointer (some ⟨(w.alloc O1).heap.size, 0, none⟩)) = some (.lit (.int .i64 (w.alloc O1).heap.size), []) from rfl)
  have KP := hid (FI.out _ hg1 hm1)
  clear FI hm1 hg1
  have ci := rb0.cell 1 (by simp)
  simp only [List.getElem_cons_zero, List.getElem_cons_succ] at ci
  have z1 := two_new w a id
  rw [hO1] at hrun KP ci cm2
  rw [hO] at hrun ci
  rw [heap_size_alloc'] at hrun KP ci
  have cm2' := cell_dr (cm2 (Obj.cells #[.int .i64 a, .int .i64 id, .int .i64 0] 69))
  have ci' := cell_dr ci
  clear h h1 rb0 hO hO1 hnb
  have HW := hid hwf
  clear hwf hx
  unfold hV at KP
  go_enter Try.func27, Try.ntmps27
  go_wp2
  go_region
  all_goals (
    go_wp2_with (go_at_call 31; refine KP.out.mono ?_; rintro e w2 ⟨rfl, hw2⟩)
    go_end0
    exact ⟨rfl, hw2⟩)

set_option maxHeartbeats 4000000 in
set_option maxRecDepth 100000 in
theorem move_any (h : WH bw m B v f n D w l) {i : Nat} {a : Int} (hi : i < n) (hn : n ≤ 4096) :
    Calls Try.prog 26 #[.pointer (some ⟨bw, 0, none⟩), .pointer (some ⟨(f i).blk, 0, none⟩), .int .i64 a] w fun e w' => e = .returned (.tuple #[]) ∧ WOut B bw m f n w w' (setT l (f i).tm.2 a) := by
  have c0 := (h.q.item i hi).cell 0 (by simp [itemL])
  have f0 := (h.q.item i hi).frozen 0
  have cp := ((h.q.item i hi).set 0 (.int .i64 a)).cell 2 (by simp [itemL])
  simp only [itemL, List.getElem_cons_zero, List.getElem_cons_succ, List.set_cons_zero] at c0 cp
  have HQ1 := hid (h.q.retime hi a)
  have KF := hid (fun (w' : World) (hq : HQ bw m B v w' (putF f i ⟨(f i).blk, (a, (f i).tm.2)⟩) n) => hfix_any hq hi (by omega))
  have HF := hid (fun (f' : Nat → It) (w' : World) x y z u => h.fix (f' := f') (w' := w') (a := a) hi x y z u)
  have SSk := hid (fun k (x : WS bw m v f n k) => h.ss x)
  have NO := hid h.no2
  have MO := hid (h.mp.setCell (a := ⟨(f i).blk, 0, none⟩) (fun e => NO.out (.inr (.inr (.inr ⟨i, hi, e.symm⟩)))) (.int .i64 a))
  clear h
  unfold hV at KF
  go_enter Try.func26, Try.ntmps26
  go_wp2
  go_region_law (go_simp; go_at_call 30; refine (KF.out _ HQ1.out.drew).mono ?_; rintro e w1 ⟨rfl, f1, hq1, hre1, hh1, hc1⟩)
  go_wp2
  go_end0
  have hS : ∀ k, HS v (putF f i ⟨(f i).blk, (a, (f i).tm.2)⟩) n k → HS v f n k := fun k x => by
    rcases x with x | ⟨j, hj, e⟩
    · exact .inl x
    · refine .inr ⟨j, hj, ?_⟩
      by_cases e' : j = i
      · subst e'; rw [put_at] at e; exact e
      · rw [put_ne _ _ e'] at e; exact e
  refine ⟨rfl, v, f1, n, D, HF.out _ _ hq1 hre1 hh1 (own_chg MO.out.drew hc1 fun x => NO.out (.inr (.inr (hS _ x)))), hn, ?_⟩
  exact (((Chg.refl _ w).setCell (p := ⟨(f i).blk, 0, none⟩) (fun _ => SSk.out _ (.inr (.inr (.inr (.inr ⟨i, hi, rfl⟩))))) _).drew).step hc1 fun k _ x => SSk.out k (.inr (.inr (.inr (hS k x))))

set_option maxHeartbeats 4000000 in
set_option maxRecDepth 100000 in
theorem set_any (h : WH bw m B v f n D w l) {id a : Int} (hwf : (Lit.int .i64 id).wf = true) (hn : n ≤ 4096) :
    Calls Try.prog 13 #[.pointer (some ⟨bw, 0, none⟩), .int .i64 id, .int .i64 a] w fun e w' => e = .returned (.int .i64 (setE l id a)) ∧ WOut B bw m f n w w' (setR l id a) := by
  have cm := h.mapAt
  have MP := hid h.mp
  have KM := hid (made_any h)
  have KL := hid (wlen_n h)
  unfold setE setR
  by_cases hbad : badS id a
  · rw [if_pos hbad, if_pos hbad]
    have HH := hid h
    clear h
    unfold badS at hbad
    by_cases h1 : id < 0
    · go_enter Try.func13, Try.ntmps13
      go_wp2_with (go_at_call 25; refine KM.out.mono ?_; rintro e w0 ⟨rfl, hw0⟩; rw [hw0]; clear hw0)
      go_ret
      exact ⟨rfl, v, f, n, D, HH.out, hn, Chg.refl _ _⟩
    · by_cases h2 : a < 0
      · go_enter Try.func13, Try.ntmps13
        go_wp2_with (go_at_call 25; refine KM.out.mono ?_; rintro e w0 ⟨rfl, hw0⟩; rw [hw0]; clear hw0)
        go_ret
        exact ⟨rfl, v, f, n, D, HH.out, hn, Chg.refl _ _⟩
      · have h3 : 1099511627776 < a := by omega
        clear hbad
        go_enter Try.func13, Try.ntmps13
        go_wp2_with (go_at_call 25; refine KM.out.mono ?_; rintro e w0 ⟨rfl, hw0⟩; rw [hw0]; clear hw0)
        go_ret
        exact ⟨rfl, v, f, n, D, HH.out, hn, Chg.refl _ _⟩
  · rw [if_neg hbad, if_neg hbad]
    unfold badS at hbad
    have h1 : ¬ id < 0 := fun x => hbad (.inl x)
    have h2 : ¬ a < 0 := fun x => hbad (.inr (.inl x))
    have h3 : ¬ 1099511627776 < a := fun x => hbad (.inr (.inr x))
    clear hbad
    by_cases hx : ∃ i, i < n ∧ (f i).tm.2 = id
    · obtain ⟨i, hi, rfl⟩ := hx
      obtain ⟨g1, g2⟩ := h.hasOne hi
      rw [g2, if_neg (by simp), if_neg (by simp)]
      have g3 := h.at' i hi
      have KV := hid (move_any h (a := a) hi hn)
      clear h g2
      have H1 := hid g1
      have H3 := hid g3
      have HW := hid hwf
      clear g1 g3 hwf
      go_enter Try.func13, Try.ntmps13
      go_wp2_with (first
        | (go_at_call 25; refine KM.out.mono ?_; rintro e w0 ⟨rfl, hw0⟩; rw [hw0]; clear hw0)
        | (at_lookup; refine wp_look_has rfl _ _ rfl MP.out rfl rfl HW.out H1.out H3.out ?_)
        | (go_at_call 26; refine KV.out.mono ?_; rintro e w1 ⟨rfl, hw1⟩))
      go_ret
      exact ⟨rfl, hw1⟩
    · obtain ⟨g1, g2⟩ := h.hasNot hx
      by_cases hful : 4096 ≤ n
      · have hl : 4096 ≤ l.length := by rw [h.k.len]; exact hful
        rw [if_pos ⟨g2, hl⟩, if_pos ⟨g2, hl⟩]
        have hfi : (4096 : Int) ≤ (n : Int) := by omega
        have HH := hid h
        clear h
        have H1 := hid g1
        have HW := hid hwf
        clear g1 g2 hwf hx hl
        go_enter Try.func13, Try.ntmps13
        go_wp2_with (first
          | (go_at_call 25; refine KM.out.mono ?_; rintro e w0 ⟨rfl, hw0⟩; rw [hw0]; clear hw0)
          | (go_at_call 22; refine KL.out.mono ?_; rintro e w0 ⟨rfl, hw0⟩; rw [hw0]; clear hw0)
          | (at_lookup; refine wp_look_no rfl _ _ rfl MP.out rfl rfl HW.out H1.out ?_))
        go_ret
        exact ⟨rfl, v, f, n, D, HH.out, hn, Chg.refl _ _⟩
      · have hl : ¬ (whenT l id = none ∧ 4096 ≤ l.length) := fun x => hful (by rw [← h.k.len]; exact x.2)
        rw [if_neg hl, if_neg hl]
        have hfi : ¬ ((4096 : Int) ≤ (n : Int)) := by omega
        have KA := hid (add_any h (a := a) hx hwf (by omega))
        clear h
        have H1 := hid g1
        have HW := hid hwf
        clear g1 g2 hwf hl hx
        go_enter Try.func13, Try.ntmps13
        go_wp2_with (first
          | (go_at_call 25; refine KM.out.mono ?_; rintro e w0 ⟨rfl, hw0⟩; rw [hw0]; clear hw0)
          | (go_at_call 22; refine KL.out.mono ?_; rintro e w0 ⟨rfl, hw0⟩; rw [hw0]; clear hw0)
          | (at_lookup; refine wp_look_no rfl _ _ rfl MP.out rfl rfl HW.out H1.out ?_)
          | (go_at_call 27; refine KA.out.mono ?_; rintro e w2 ⟨rfl, hw2⟩))
        go_ret
        exact ⟨rfl, hw2⟩
end
end Go.Proofs.Ythioekmlljpbpaa
