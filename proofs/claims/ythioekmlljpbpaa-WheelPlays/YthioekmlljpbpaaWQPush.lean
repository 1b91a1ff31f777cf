/-
  The heap's Push and Pop.
-/
import Derived.Test.YthioekmlljpbpaaWQDown
namespace Go.Proofs.Ythioekmlljpbpaa
open Go.RowKit
set_option linter.unusedVariables false
set_option maxRecDepth 20000

theorem infoPtr : (Try.prog.info? 66).map (fun i => (i.zero, i.size, i.bytes)) = some (some (.pointer none), 1, 8) := by kernel_rfl
theorem as_item (b : Nat) (w : World) : (Instr.typeAssert (.iface 66 (.pointer (some ⟨b, 0, none⟩))) 20 66 false).run Try.prog w = .ok (.pointer (some ⟨b, 0, none⟩)) w := by kernel_rfl
theorem RowIs.gr {w w' : World} {b : Nat} {e : TypeId} {l : List Value} {row : Option Nat} (h : RowIs w b e l) (hg : w.grownBy w' row) (hne : row ≠ some b) : RowIs w' b e l := by
  unfold RowIs at *
  rw [hg.block b (Array.getElem?_eq_some_iff.1 h).1 (fun e => hne e.symm)]; exact h
theorem RowIs.new {w : World} {b : Nat} {e : TypeId} {l : List Value} (h : RowIs w b e l) (o : Obj) : RowIs (w.alloc o) b e l := by
  unfold RowIs at *
  rw [Below.heap_alloc _ _ _ (Array.getElem?_eq_some_iff.1 h).1]; exact h
theorem wp_appQ {P : Program} (w : World) {ops : Array Oper} {rest : List Oper} {o : Oper} {a : Act} {Q : Exit → Act → World → Prop} (hgd : o.guard = none)
    (s x : Operand) (t : TypeId) (ho : o.op = Op.call { callee := Callee.builtin Builtin.append, args := #[s, x], argTypes := #[t, t] }) (B : Nat) (e : TypeId) (i : TypeInfo)
    (z : Value) (ht : P.underlying t = some (TypeDesc.slice e)) (hi : P.info? e = some i) (hz : i.zero = some z) (hsize : i.size = 1) (hby : i.bytes = 8) (hzs : z.cells.size = 1)
    (v : Value) (xs : List Value) (hs : a.eval s = v) (hown : Own w B e v xs) (ad : Addr) (p : Value) (hx : a.eval x = Value.slice (some ad) 1 1) (hp : w.cell? ad = some p) (h1 : p.oneCell' = true)
    (hlen : xs.length + 1 ≤ 4000000) (hB : B ≤ w.heap.size)
    (h : ∀ (v' : Value) (w' : World), Own w' B e v' (xs ++ [p]) → w.grownBy w' v.ownBlock → wpList P ops Q rest (a.put o.dst v') w') : wpList P ops Q (o :: rest) a w := by
  refine wpList_append_own w hgd s x t ho B e i z 1 8 ht hi hz hsize hby hzs (by decide) v xs.length xs hs hown ad 1 1 [p] hx (by simp) ?_ (by simpa using h1) (by unfold maxLen; omega) (by omega) hB ?_
  · intro j u hj
    match j, hj with
    | 0, hj => simp at hj; subst hj; simpa [Addr.add] using hp
  · intro v' w' hown' hgr _
    refine h v' w' ?_ hgr
    unfold Own
    rw [List.length_append]
    exact hown'
/-- What the record, the row and the items are behind Push. -/
theorem HQ.push {bw m B : Nat} {v : Value} {w : World} {f : Nat → It} {n : Nat} (h : HQ bw m B v w f n) {b : Nat} {t : Tm} {p0 : Value} (hb : RowIs w b 69 [.int .i64 t.1, .int .i64 t.2, p0]) (hnb : ∀ i, i < n → (f i).blk ≠ b) (hlo : B ≤ b)
    {v' : Value} {w3 : World} (o : Obj) (hg : ((w.setCell ⟨b, 2, none⟩ (.int .i64 n)).alloc o).grownBy w3 v.ownBlock) (ho : Own w3 B 66 v' (ptrs f n ++ [.pointer (some ⟨b, 0, none⟩)])) :
    HQ bw m B v' (w3.setCell ⟨bw, 0, none⟩ v') (putF f n ⟨b, t⟩) (n + 1) := by
  have hwb : bw ≠ b := row_block_ne h.wheel hb (by decide)
  have hwi : ∀ k, k < n → bw ≠ (f k).blk := fun k hk => row_block_ne h.wheel (h.item k hk) (by decide)
  have w3w := ((h.wheel.other hwb (.int .i64 n) (j := 2)).new o).gr hg (own_block_ne h.own h.wheel (by decide))
  have w3b := ((hb.set 2 (.int .i64 n)).new o).gr hg (own_block_ne h.own hb (by decide))
  have w3i : ∀ k, k < n → RowIs w3 (f k).blk 69 (itemL (f k) k) := fun k hk => (((h.item k hk).other (hnb k hk) (.int .i64 n) (j := 2)).new o).gr hg (own_block_ne h.own (h.item k hk) (by decide))
  refine ⟨w3w.set 0 v', ?_, ?_, ?_, ?_⟩
  · rw [ptrs_succ, put_at, ptrs_congr (fun i hi => put_ne f _ (by omega))]
    exact own_other ho (own_block_ne ho w3w (by decide)) _
  · intro k hk
    by_cases e : k = n
    · subst e; rw [put_at]; exact w3b.other (fun e => hwb e.symm) _
    · rw [put_ne f _ e]; exact (w3i k (by omega)).other (fun e' => hwi k (by omega) e'.symm) _
  · intro i j hi hj he
    by_cases e1 : i = n <;> by_cases e2 : j = n
    · omega
    · subst e1; rw [put_at, put_ne _ _ e2] at he; exact absurd he.symm (hnb j (by omega))
    · subst e2; rw [put_at, put_ne _ _ e1] at he; exact absurd he (hnb i (by omega))
    · rw [put_ne _ _ e1, put_ne _ _ e2] at he; exact h.inj i j (by omega) (by omega) he
  · intro k hk
    by_cases e : k = n
    · subst e; rw [put_at]; exact hlo
    · rw [put_ne f _ e]; exact h.lo k (by omega)
/-- The blocks of a heap, with its record and one more. -/
def HS2 (bw b : Nat) (v : Value) (f : Nat → It) (n : Nat) (k : Nat) : Prop := k = bw ∨ k = b ∨ HS v f n k

set_option maxHeartbeats 4000000 in
set_option maxRecDepth 100000 in
theorem qpush_any {bw m B : Nat} {v : Value} {w : World} {f : Nat → It} {n : Nat} (h : HQ bw m B v w f n) {b : Nat} {t : Tm} {p0 : Value} (hb : RowIs w b 69 [.int .i64 t.1, .int .i64 t.2, p0]) (hnb : ∀ i, i < n → (f i).blk ≠ b) (hlo : B ≤ b) (hn : n ≤ 1000000) (hB : B ≤ w.heap.size) :
    Calls Try.prog 55 #[.pointer (some ⟨bw, 0, none⟩), .iface 66 (.pointer (some ⟨b, 0, none⟩))] w fun e w' => e = .returned (.tuple #[]) ∧ ∃ v', HQ bw m B v' w' (putF f n ⟨b, t⟩) (n + 1) ∧ Chg (HS2 bw b v f n) w w' := by
  obtain ⟨i0, hi, hz0, hz1, hz2⟩ := info_parts infoPtr
  obtain ⟨ao, cap, rfl⟩ := h.form
  have hwb : bw ≠ b := row_block_ne h.wheel hb (by decide)
  have cq := h.at
  have cb := hb.cell 2 (by simp)
  have fb := hb.frozen 2
  have rw1 := h.wheel.other hwb (.int .i64 n) (j := 2)
  have cq1 := rw1.cell 0 (by simp)
  simp only [List.getElem_cons_zero, List.getElem_cons_succ] at cb cq1
  have HP := hid (fun (o : Obj) (v' : Value) (w3 : World) hg ho => h.push hb hnb hlo (v' := v') (w3 := w3) o hg ho)
  have OW := hid (own_other h.own (own_block_ne h.own hb (by decide)) (.int .i64 n) (j := 2))
  have CH := hid (((Chg.refl (HS2 bw b (.slice ao n cap) f n) w).setCell (p := ⟨b, 2, none⟩) (fun _ => .inr (.inl rfl)) (.int .i64 n)))
  have RW := hid (fun (o : Obj) (w3 : World) (hg : ((w.setCell ⟨b, 2, none⟩ (.int .i64 n)).alloc o).grownBy w3 (Value.slice ao n cap).ownBlock) => (rw1.new o).gr hg (own_block_ne h.own h.wheel (by decide)))
  have PL := ptrs_len f n
  have hsz : (w.setCell ⟨b, 2, none⟩ (.int .i64 n)).heap.size = w.heap.size := by simp [World.setCell]
  have NW : Hid (((w.setCell ⟨b, 2, none⟩ (.int .i64 n)).alloc (.cells #[.pointer (some ⟨b, 0, none⟩)] 66)).cell? ⟨w.heap.size, 0, none⟩ = some (.pointer (some ⟨b, 0, none⟩))) := by
    have := one_new (w.setCell ⟨b, 2, none⟩ (.int .i64 n)) 66 (.pointer (some ⟨b, 0, none⟩)) 0 _ rfl
    rw [hsz] at this
    exact this
  have HB2 := hid (fun (o : Obj) => show B ≤ ((w.setCell ⟨b, 2, none⟩ (.int .i64 n)).alloc o).heap.size from Nat.le_trans hB (Nat.le_trans (Nat.le_of_eq hsz.symm) (by simp)))
  clear hsz
  have hta := as_item b
  clear h hb rw1
  go_enter Try.func55, Try.ntmps55
  go_wp2_with (at_builtin; refine wp_appQ _ rfl (.tmp 17) (.tmp 19) 60 rfl B 66 i0 (.pointer none) Try.underlying60 hi hz0 hz1 hz2 rfl (.slice ao n cap) (ptrs f n) rfl (OW.out.alloc _) ⟨_, 0, none⟩ (.pointer (some ⟨b, 0, none⟩)) rfl NW.out rfl (by omega) (HB2.out _) ?_; intro v3 w3 hown3 hgr3; have q3 : w3.cell? ⟨bw, 0, none⟩ = some (.slice ao n cap) := (RW.out _ _ hgr3).cell 0 (by simp); have f3 := (RW.out _ _ hgr3).frozen 0; (obtain ⟨oa, oc, hoe⟩ := hown3.form); simp only [List.length_append, PL, List.length_cons, List.length_nil, Nat.zero_add] at hoe; subst hoe; replace hown3 := hid hown3; replace hgr3 := hid hgr3)
  go_end0
  refine ⟨rfl, _, HP.out _ _ _ hgr3.out hown3.out, ?_⟩
  exact ((CH.out.alloc _).grown hgr3.out (fun k hk _ => .inr (.inr (.inl hk)))).setCell (p := ⟨bw, 0, none⟩) (fun _ => .inl rfl) _
end Go.Proofs.Ythioekmlljpbpaa
