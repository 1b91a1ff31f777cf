/-
  Base texts, one behind another: WMap, WWhen, WStop, WSet, WSet2, WTm, WDue, WW, WNew, SvW, WSetU.
-/
import Derived.Test.YtgikbpaejmdnoaaWB
import Derived.Maps.OwnOps
import Derived.Maps.OwnSet

/-
  A wheel in memory: the heap, and the map that leads to its items; what its calls keep.
-/
namespace Go.Proofs.Ytgikbpaejmdnoaa
open Go.RowKit Go.Maps Go.WideMaps
set_option linter.unusedVariables false
set_option maxRecDepth 20000

/-- How a pointer to an item reads: the block's number. -/
def ptrE : Value → Option (DataW Unit × List MemPlace)
  | .pointer (some ⟨b, 0, none⟩) => some (.lit (.int .i64 b), [])
  | .pointer none => some (.lit (.int .i64 (-1)), [])
  | _ => none
theorem ptrE_inv {v : Value} {b : Nat} {ps : List MemPlace} (h : ptrE v = some (.lit (.int .i64 b), ps)) : v = .pointer (some ⟨b, 0, none⟩) := by
  unfold ptrE at h
  split at h
  · rename_i b'
    simp at h
    obtain ⟨h, _⟩ := h
    have e : b' = b := by omega
    subst e; rfl
  · simp at h <;> omega
  · cases h
theorem ptrE_nil {v : Value} {ps : List MemPlace} (h : ptrE v = some (.lit (.int .i64 (-1)), ps)) : v = .pointer none := by
  unfold ptrE at h
  split at h
  · simp at h <;> omega
  · rfl
  · cases h
def idK (id : Int) : Lit := .int .i64 id
theorem idK_ne {a b : Int} (h : a ≠ b) : idK a ≠ idK b := fun e => h (by injection e)
theorem keyI : Keyed Try.prog 3 := int_keyed Try.underlying3
theorem key_int {id : Int} (h : (Lit.int .i64 id).wf = true) : keyOf Try.prog 3 (.int .i64 id) = some (idK id) := keyOf_int_mk Try.underlying3 h
theorem zeroPtr (w : World) : (zeroValue 99).run Try.prog w = .ok (.pointer none) w := by kernel_rfl
theorem own_tight {P : Program} {k : TypeId} {R : Value → Option (DataW Unit × List MemPlace)} {w : World} {b n : Nat} {D : DataW Unit} (h : w.ownsMap P k R b n D) : w.ownsMap P k R b (Maps.size D) D := by
  obtain ⟨es, clock, hb, F, hs, rfl⟩ := h
  exact ⟨es, clock, hb, F, by simp [Maps.size, length_sorted], rfl⟩
theorem own_chg {S : Nat → Prop} {P : Program} {k : TypeId} {R : Value → Option (DataW Unit × List MemPlace)} {w w' : World} {b n : Nat} {D : DataW Unit} (h : w.ownsMap P k R b n D) (hc : Chg S w w') (hn : ¬ S b) : w'.ownsMap P k R b n D := by
  have hl := h.lt
  obtain ⟨es, clock, hb, F, hs, rfl⟩ := h
  exact ⟨es, clock, by rw [hc.block b hl hn]; exact hb, F, hs, rfl⟩
theorem map_no_row {P : Program} {k : TypeId} {R : Value → Option (DataW Unit × List MemPlace)} {w : World} {b n : Nat} {D : DataW Unit} (h : w.ownsMap P k R b n D) (cs : Array Value) (e : TypeId) (x : Nat × Nat) : w.heap[b]? ≠ some (.cells cs e x) := by
  obtain ⟨es, clock, hb, _⟩ := h
  rw [hb]; simp

structure WH (bw m B : Nat) (v : Value) (f : Nat → It) (n : Nat) (D : DataW Unit) (w : World) (l : List Tm) : Prop where
  q : HQ bw m B v w f n
  k : Keeps f n l
  mp : w.ownsMap Try.prog 3 ptrE m n D
  has : ∀ id, Maps.has D (idK id) = true ↔ ∃ i, i < n ∧ (f i).tm.2 = id
  at' : ∀ i, i < n → ∀ z, D.atKey (idK (f i).tm.2) z = .lit (.int .i64 (f i).blk)
  size : Maps.size D = n
  wlo : B ≤ bw
  mlo : B ≤ m
  wf : ∀ i, i < n → (Lit.int .i64 (f i).tm.2).wf = true
/-- The map's block is none of the heap's. -/
theorem WH.no2 {bw m B : Nat} {v : Value} {f : Nat → It} {n : Nat} {D : DataW Unit} {w : World} {l : List Tm} (h : WH bw m B v f n D w l) : ¬ HS2 bw bw v f n m := by
  rintro (e | e | hk | ⟨i, hi, e⟩)
  · exact map_no_row h.mp _ _ _ (by rw [e]; exact h.q.wheel)
  · exact map_no_row h.mp _ _ _ (by rw [e]; exact h.q.wheel)
  · rcases h.q.own.2 with ⟨h2, _⟩ | ⟨g, cap, cur, hv, hg, hh, _⟩
    · rw [h2] at hk; cases hk
    · rw [hv] at hk; simp [Value.ownBlock] at hk; subst hk; exact map_no_row h.mp _ _ _ hh
  · exact map_no_row h.mp _ _ _ (e ▸ h.q.item i hi)
theorem HQ.grown {bw m B : Nat} {v : Value} {w w' : World} {f : Nat → It} {n : Nat} (h : HQ bw m B v w f n) (hg : w.grownBy w' (some m)) (hno : ¬ HS2 bw bw v f n m) : HQ bw m B v w' f n :=
  ⟨h.wheel.gr hg (fun e => hno (.inl (by injection e))), World.ownsRow.kept h.own hg (by
      by_cases e : v.ownBlock = none
      · exact .inl e
      · exact .inr fun e' => hno (.inr (.inr (.inl e')))), fun i hi => (h.item i hi).gr hg (fun e => hno (.inr (.inr (.inr ⟨i, hi, by injection e with e; exact e.symm⟩)))), h.inj, h.lo⟩
section
variable {bw m B : Nat} {v : Value} {f : Nat → It} {n : Nat} {D : DataW Unit} {w : World} {l : List Tm}
theorem HQ.new (h : HQ bw m B v w f n) (o : Obj) : HQ bw m B v (w.alloc o) f n := ⟨h.wheel.new o, h.own.alloc o, fun i hi => (h.item i hi).new o, h.inj, h.lo⟩
theorem WH.new (h : WH bw m B v f n D w l) (o : Obj) : WH bw m B v f n D (w.alloc o) l := ⟨h.q.new o, h.k, h.mp.alloc o, h.has, h.at', h.size, h.wlo, h.mlo, h.wf⟩
theorem WH.drew (h : WH bw m B v f n D w l) : WH bw m B v f n D w.drew l := ⟨h.q.drew, h.k, h.mp.drew, h.has, h.at', h.size, h.wlo, h.mlo, h.wf⟩
end
end Go.Proofs.Ytgikbpaejmdnoaa

/-
  The wheel's When, Len and Next.
-/
namespace Go.Proofs.Ytgikbpaejmdnoaa
open Go.RowKit Go.Maps Go.WideMaps
set_option linter.unusedVariables false
set_option maxRecDepth 20000

section
variable {bw m B : Nat} {v : Value} {f : Nat → It} {n : Nat} {D : DataW Unit} {w : World} {l : List Tm}
theorem wp_look_has {ops : Array Oper} {rest : List Oper} {o : Oper} {a : Act} {Q : Exit → Act → World → Prop} (hg : o.guard = none) (x y : Operand) (hop : o.op = Op.lookup 90 x y true)
    (hown : w.ownsMap Try.prog 3 ptrE m n D) (hm : a.eval x = .map (some m)) {id : Int} (hx : a.eval y = .int .i64 id) (hwf : (Lit.int .i64 id).wf = true) {b : Nat} (hh : Maps.has D (idK id) = true) (hat : ∀ z, D.atKey (idK id) z = .lit (.int .i64 b))
    (hK : wpList Try.prog ops Q rest (a.put o.dst (.tuple #[.pointer (some ⟨b, 0, none⟩), .bool true])) w) : wpList Try.prog ops Q (o :: rest) a w := by
  refine wpList_lookup_own_ok w hg x y 90 hop 3 99 keyI Try.underlying90 ptrE (zeroPtr w) (.lit (.int .i64 (-1))) [] rfl m n D hm hown _ (idK id) hx (key_int hwf) ?_
  intro v ps hv
  rw [hat] at hv
  obtain rfl := ptrE_inv hv
  rw [hh]; exact hK
theorem wp_look_no {ops : Array Oper} {rest : List Oper} {o : Oper} {a : Act} {Q : Exit → Act → World → Prop} (hg : o.guard = none) (x y : Operand) (hop : o.op = Op.lookup 90 x y true)
    (hown : w.ownsMap Try.prog 3 ptrE m n D) (hm : a.eval x = .map (some m)) {id : Int} (hx : a.eval y = .int .i64 id) (hwf : (Lit.int .i64 id).wf = true) (hh : Maps.has D (idK id) = false)
    (hK : wpList Try.prog ops Q rest (a.put o.dst (.tuple #[.pointer none, .bool false])) w) : wpList Try.prog ops Q (o :: rest) a w := by
  refine wpList_lookup_own_ok w hg x y 90 hop 3 99 keyI Try.underlying90 ptrE (zeroPtr w) (.lit (.int .i64 (-1))) [] rfl m n D hm hown _ (idK id) hx (key_int hwf) ?_
  intro v ps hv
  rw [Maps.atKey_of_not_has hh] at hv
  obtain rfl := ptrE_nil hv
  rw [hh]; exact hK
theorem WH.hasNot (h : WH bw m B v f n D w l) {id : Int} (hno : ¬ ∃ i, i < n ∧ (f i).tm.2 = id) : Maps.has D (idK id) = false ∧ whenT l id = none := by
  constructor
  · cases e : Maps.has D (idK id) with
    | false => rfl
    | true => exact absurd ((h.has id).1 e) hno
  · rw [when_none]
    intro t ht e
    obtain ⟨i, hi, he⟩ := (h.k.mem t).1 ht
    exact hno ⟨i, hi, by rw [he]; exact e⟩
theorem WH.hasOne (h : WH bw m B v f n D w l) {i : Nat} (hi : i < n) : Maps.has D (idK (f i).tm.2) = true ∧ whenT l (f i).tm.2 = some (f i).tm.1 :=
  ⟨(h.has _).2 ⟨i, hi, rfl⟩, (when_iff h.k.row _ _).2 ((h.k.mem _).2 ⟨i, hi, rfl⟩)⟩
theorem cellB {B : Nat} {w w' : World} (h : Below B w w') {a : Addr} (ha : a.block < B) {v : Value} (hc : w.cell? a = some v) : w'.cell? a = some v := by
  rw [World.cell?_of_block (h.block a.block ha)]; exact hc
theorem WH.mapAt (h : WH bw m B v f n D w l) : w.cell? ⟨bw, 1, none⟩ = some (.map (some m)) := h.q.wheel.cell 1 (by simp)

set_option maxHeartbeats 4000000 in
set_option maxRecDepth 100000 in
theorem made_any (h : WH bw m B v f n D w l) :
    Calls Try.prog 39 #[.pointer (some ⟨bw, 0, none⟩)] w fun e w' => e = .returned (.bool true) ∧ w' = w := by
  have cm := h.mapAt
  have q61 : ∀ (w : World) (r : Option Nat), (binOp .neq 90 (.map r) (.map none)).run Try.prog w = .ok (.bool (!r.isNone)) w := fun w r => run_neq_map_nil w _ _ _ r Try.underlying90
  clear h
  go_enter Try.func39, Try.ntmps39
  go_wp2
  go_ret
  exact ⟨rfl, rfl⟩

def whenV (l : List Tm) (id : Int) : Value := match whenT l id with | some a => .tuple #[.int .i64 a, .bool true] | none => .tuple #[.int .i64 0, .bool false]
set_option maxHeartbeats 4000000 in
set_option maxRecDepth 100000 in
theorem wlen_n (h : WH bw m B v f n D w l) :
    Calls Try.prog 34 #[.pointer (some ⟨bw, 0, none⟩)] w fun e w' => e = .returned (.int .i64 n) ∧ w' = w := by
  have KM := hid (made_any h)
  have cq := h.q.at
  obtain ⟨ao, cap, hv⟩ := h.q.form
  rw [hv] at cq
  clear h hv
  go_enter Try.func34, Try.ntmps34
  go_wp2_with (go_at_call 39; refine KM.out.mono ?_; rintro e w0 ⟨rfl, hw0⟩; rw [hw0]; clear hw0)
  go_ret
  exact ⟨rfl, rfl⟩
theorem wlen_any (h : WH bw m B v f n D w l) :
    Calls Try.prog 34 #[.pointer (some ⟨bw, 0, none⟩)] w fun e w' => e = .returned (.int .i64 l.length) ∧ w' = w := by
  rw [h.k.len]; exact wlen_n h

theorem two_new (w : World) (a b : Int) : (w.alloc (.cells #[.int .i64 a, .int .i64 b] 84)).cell? ⟨w.heap.size, 0, none⟩ = some (.int .i64 a) ∧ (w.alloc (.cells #[.int .i64 a, .int .i64 b] 84)).cell? ⟨w.heap.size, 1, none⟩ = some (.int .i64 b) := by
  have h : RowIs (w.alloc (.cells #[.int .i64 a, .int .i64 b] 84)) w.heap.size 84 [.int .i64 a, .int .i64 b] := by unfold RowIs; rw [heap_alloc_new]
  exact ⟨h.cell 0 (by simp), h.cell 1 (by simp)⟩
def nextV (l : List Tm) : Value := match l with | t :: _ => .tuple #[.agg #[.int .i64 t.1, .int .i64 t.2], .bool true] | [] => .tuple #[.agg #[.int .i64 0, .int .i64 0], .bool false]
set_option maxHeartbeats 4000000 in
set_option maxRecDepth 100000 in
theorem next_any (h : WH bw m B v f n D w l) :
    Calls Try.prog 27 #[.pointer (some ⟨bw, 0, none⟩)] w fun e w' => e = .returned (nextV l) ∧ Below w.heap.size w w' := by
  have cq := h.q.at
  have KL := hid (fun (o : Obj) => wlen_n (h.new o))
  obtain ⟨ao, cap, hv⟩ := h.q.form
  have bwl : bw < w.heap.size := (Array.getElem?_eq_some_iff.1 h.q.wheel).1
  cases l with
  | nil =>
    have hn := h.k.empty
    subst hn
    rw [hv] at cq
    have cq1 := fun o => cellB (a := ⟨bw, 0, none⟩) ((Below.refl w.heap.size w).alloc (Nat.le_refl _) o) bwl cq
    have hb := (Below.refl w.heap.size w).alloc (Nat.le_refl _) (.cells #[.int .i64 0, .int .i64 0] 84)
    have hz := two_new w 0 0
    clear h
    go_enter Try.func27, Try.ntmps27
    go_wp2_with (go_at_call 34; refine (KL.out _).mono ?_; rintro e w0 ⟨rfl, hw0⟩; rw [hw0]; clear hw0)
    refine bodyPost_ret (v := .tuple #[.agg #[.int .i64 0, .int .i64 0], .bool false]) (by simp [results, Try.results27, go_sem, hz.1, hz.2]) rfl ⟨rfl, hb⟩
  | cons t l =>
    obtain ⟨hn, ht⟩ := h.k.first
    obtain ⟨g, cap', hv'⟩ := h.q.block hn
    have hq := h.q
    rw [hv'] at hq cq
    have c0 := hq.cell 0 hn
    have a0 := (hq.item 0 hn).cell 0 (by simp [itemL])
    have a1 := (hq.item 0 hn).cell 1 (by simp [itemL])
    simp only [itemL, ptrV, List.getElem_cons_zero, List.getElem_cons_succ] at c0 a0 a1
    rw [ht] at a0 a1
    have bl : (f 0).blk < w.heap.size := (Array.getElem?_eq_some_iff.1 (hq.item 0 hn)).1
    have gl : g < w.heap.size := World.block_lt_of_cell? w ⟨g, 0, none⟩ c0
    have BA := fun o => (Below.refl w.heap.size w).alloc (Nat.le_refl _) o
    have cq1 := fun o => cellB (a := ⟨bw, 0, none⟩) (BA o) bwl cq
    have c01 := fun o => cellB (a := ⟨g, 0, none⟩) (BA o) gl c0
    have a01 := fun o => cellB (a := ⟨(f 0).blk, 0, none⟩) (BA o) bl a0
    have a11 := fun o => cellB (a := ⟨(f 0).blk, 1, none⟩) (BA o) bl a1
    have hn0 : ((n : Int) == 0) = false := by rw [beq_eq_false_iff_ne]; omega
    have hni : (0 : Int) < n := by omega
    have hnn : ¬ n = 0 := by omega
    clear h hq hv hv'
    go_enter Try.func27, Try.ntmps27
    go_wp2_with (go_at_call 34; refine (KL.out _).mono ?_; rintro e w0 ⟨rfl, hw0⟩; rw [hw0]; clear hw0)
    have hz := two_new w t.1 t.2
    refine bodyPost_ret (v := .tuple #[.agg #[.int .i64 t.1, .int .i64 t.2], .bool true]) (by simp [results, Try.results27, go_sem, hz.1, hz.2]) rfl ⟨rfl, BA _⟩
end
end Go.Proofs.Ytgikbpaejmdnoaa

/-
  The wheel's New and Stop.
-/
namespace Go.Proofs.Ytgikbpaejmdnoaa
open Go.RowKit Go.Maps Go.WideMaps
set_option linter.unusedVariables false
set_option maxRecDepth 20000

section
variable {bw m B : Nat} {v : Value} {f : Nat → It} {n : Nat} {D : DataW Unit} {w : World} {l : List Tm}
/-- The blocks of a wheel. -/
def WS (bw m : Nat) (v : Value) (f : Nat → It) (n : Nat) (k : Nat) : Prop := k = m ∨ HS2 bw bw v f n k
/-- What changes none of a wheel's blocks keeps it. -/
theorem WH.chg {S : Nat → Prop} {w' : World} (h : WH bw m B v f n D w l) (hc : Chg S w w') (hn : ∀ k, WS bw m v f n k → ¬ S k) : WH bw m B v f n D w' l := by
  refine ⟨⟨h.q.wheel.chg hc (hn _ (.inr (.inl rfl))), ?_, fun i hi => (h.q.item i hi).chg hc (hn _ (.inr (.inr (.inr (.inr ⟨i, hi, rfl⟩))))), h.q.inj, h.q.lo⟩, h.k, own_chg h.mp hc (hn _ (.inl rfl)), h.has, h.at', h.size, h.wlo, h.mlo, h.wf⟩
  obtain ⟨h1, h2⟩ := h.q.own
  refine ⟨h1, ?_⟩
  rcases h2 with h2 | ⟨g, cap, cur, hv, hg, hh, r⟩
  · exact Or.inl h2
  · exact Or.inr ⟨g, cap, cur, hv, hg, by rw [hc.block g (Array.getElem?_eq_some_iff.1 hh).1 (hn g (.inr (.inr (.inr (.inl (by rw [hv]; rfl))))))]; exact hh, r⟩
theorem step_del {ops : Array Oper} {o : Oper} {a : Act} {K : Act → World → Prop} {Q : Exit → Act → World → Prop} {E : Prop} (hgd : o.guard = none) (x y : Operand) (hop : o.op = Op.call { callee := Callee.builtin Builtin.delete, args := #[x, y], argTypes := #[90, 3] })
    (hown : w.ownsMap Try.prog 3 ptrE m n D) (hm : a.eval x = .map (some m)) {id : Int} (hx : a.eval y = .int .i64 id) (hwf : (Lit.int .i64 id).wf = true)
    (h : ∀ w', w'.ownsMap Try.prog 3 ptrE m n (D.del (idK id)) → w.grownBy w' (some m) → K (a.put o.dst (.tuple #[])) w') :
    if Region.wanted o (yielded ops a.tmps) = true then Oper.wp Try.prog o a w K Q else E := by
  have hw : Region.wanted o (yielded ops a.tmps) = true := by simp [Region.wanted, hgd]
  rw [if_pos hw]
  obtain ⟨w', hrun, r1, r2⟩ := hown.drop keyI Try.underlying90 (key_int hwf) o.type
  unfold Oper.wp
  simp [execOp, hop, resolve, invoke, builtin, hm, hx, hrun, Result.andThen]
  exact h w' r1 r2.grown
theorem WH.ws_w (h : WH bw m B v f n D w l) {k : Nat} (hk : WS bw m v f n k) : k < w.heap.size := by
  rcases hk with rfl | rfl | rfl | hk | ⟨i, hi, rfl⟩
  · exact h.mp.lt
  · exact (Array.getElem?_eq_some_iff.1 h.q.wheel).1
  · exact (Array.getElem?_eq_some_iff.1 h.q.wheel).1
  · rcases h.q.own.2 with ⟨h2, _⟩ | ⟨g, cap, cur, hv, hg, hh, _⟩
    · rw [h2] at hk; cases hk
    · rw [hv] at hk
      simp [Value.ownBlock] at hk
      subst hk
      exact (Array.getElem?_eq_some_iff.1 hh).1
  · exact (Array.getElem?_eq_some_iff.1 (h.q.item i hi)).1
/-- One is taken away, of the heap and of the map. -/
theorem WH.drop {v' : Value} {f' : Nat → It} {w' : World} {i : Nat} (h : WH bw m B v f (n + 1) D w l) (hi : i < n + 1) (hq : HQ bw m B v' w' f' n) (hre : Re n (swapF f i n) f') (hh : Heap itLt f (n + 1) → Heap itLt f' n)
    (hm : w'.ownsMap Try.prog 3 ptrE m (n + 1) (D.del (idK (f i).tm.2))) : WH bw m B v' f' n (D.del (idK (f i).tm.2)) w' (stopT l (f i).tm.2) := by
  have hs := Re.swap f hi (show n < n + 1 by omega)
  have hl : swapF f i n n = f i := swap_r f i n
  have hids := hs.ids h.q.inj h.k.ids
  have hK := h.k.drop hi hre (hh h.k.heap)
  -- each item that is left was there, and is another one
  have old : ∀ j, j < n → ∃ a, a < n + 1 ∧ f' j = f a ∧ (f a).tm.2 ≠ (f i).tm.2 := fun j hj => by
    obtain ⟨b, hb, eb⟩ := (hre.mem (f' j)).1 ⟨j, hj, rfl⟩
    obtain ⟨a, ha, ea⟩ := (hs.mem (swapF f i n b)).1 ⟨b, by omega, rfl⟩
    refine ⟨a, ha, by rw [← eb, ← ea], fun e => ?_⟩
    have := hids b n (by omega) (by omega) (by rw [← ea, hl]; exact e)
    omega
  have hsz : Maps.size (D.del (idK (f i).tm.2)) = n := by
    have := Maps.size_del (k := idK (f i).tm.2) (h.mp.tidy keyI)
    rw [if_pos ((h.has _).2 ⟨i, hi, rfl⟩), h.size] at this
    omega
  refine ⟨hq, hK, by have := own_tight hm; rwa [hsz] at this, fun id => ?_, fun j hj z => ?_, hsz, h.wlo, h.mlo, fun j hj => ?_⟩
  · by_cases e : id = (f i).tm.2
    · subst e
      rw [Maps.has_del_same]
      constructor
      · intro x; cases x
      · rintro ⟨j, hj, ej⟩
        obtain ⟨a, _, ea, hne⟩ := old j hj
        exact absurd (by rw [← ea]; exact ej) hne
    · rw [Maps.has_del_other (idK_ne e), h.has]
      constructor
      · rintro ⟨a, ha, rfl⟩
        have hm1 : (f a).tm ∈ stopT l (f i).tm.2 := stop_mem.2 ⟨(h.k.mem _).2 ⟨a, ha, rfl⟩, e⟩
        obtain ⟨j, hj, ej⟩ := (hK.mem _).1 hm1
        exact ⟨j, hj, by rw [ej]⟩
      · rintro ⟨j, hj, ej⟩
        obtain ⟨a, ha, ea, _⟩ := old j hj
        exact ⟨a, ha, by rw [← ea]; exact ej⟩
  · obtain ⟨a, ha, ea, hne⟩ := old j hj
    rw [ea, Maps.atKey_del_other (idK_ne hne)]
    exact h.at' a ha z
  · obtain ⟨a, ha, ea, _⟩ := old j hj
    rw [ea]; exact h.wf a ha

theorem hs_drop {v1 : Value} {f1 : Nat → It} {i k : Nat} (hi : i < n + 1) (hre : Re n (swapF f i n) f1) (hv : v1.ownBlock = v.ownBlock) (hk : HS2 bw bw v1 f1 n k) : HS2 bw bw v f (n + 1) k := by
  rcases hk with hk | hk | hk | ⟨j, hj, e⟩
  · exact .inl hk
  · exact .inl hk
  · exact .inr (.inr (.inl (hv ▸ hk)))
  · obtain ⟨b, hb, eb⟩ := (hre.mem (f1 j)).1 ⟨j, hj, rfl⟩
    obtain ⟨a, ha, ea⟩ := ((Re.swap f hi (show n < n + 1 by omega)).mem (swapF f i n b)).1 ⟨b, by omega, rfl⟩
    exact .inr (.inr (.inr ⟨a, ha, by rw [ea, eb]; exact e⟩))

theorem ws_drop {v1 : Value} {f1 : Nat → It} {i k : Nat} (hi : i < n + 1) (hre : Re n (swapF f i n) f1) (hv : v1.ownBlock = v.ownBlock) (hk : WS bw m v1 f1 n k) : WS bw m v f (n + 1) k := by
  rcases hk with hk | hk
  · exact .inl hk
  · exact .inr (hs_drop hi hre hv hk)
/-- What the wheel is behind take. -/
def TakeOut (B bw m : Nat) (v : Value) (f : Nat → It) (n : Nat) (w : World) (l : List Tm) (i : Nat) (w' : World) : Prop :=
  ∃ v' f' D', WH bw m B v' f' n D' w' (stopT l (f i).tm.2) ∧ (∀ k, WS bw m v' f' n k → WS bw m v f (n + 1) k) ∧ Chg (WS bw m v f (n + 1)) w w'
theorem take_out {v1 : Value} {f1 : Nat → It} {w1 w2 : World} {i : Nat} {x y : Value} {o : Obj} (h : WH bw m B v f (n + 1) D w l) (hi : i < n + 1) (hq1 : HQ bw m B v1 w1 f1 n) (hv1 : v1.ownBlock = v.ownBlock) (hre1 : Re n (swapF f i n) f1) (hh1 : Heap itLt f (n + 1) → Heap itLt f1 n)
    (hc1 : Chg (HS2 bw bw v f (n + 1)) (w.alloc o) w1) (hm2 : w2.ownsMap Try.prog 3 ptrE m (n + 1) (D.del (idK (f i).tm.2))) (hg2 : w1.drew.grownBy w2 (some m)) :
    TakeOut B bw m v f n w l i ((w2.setCell ⟨w.heap.size, 0, none⟩ x).setCell ⟨w.heap.size, 1, none⟩ y) := by
  have NO1 : ¬ HS2 bw bw v1 f1 n m := fun z => h.no2 (hs_drop hi hre1 hv1 z)
  have W2 := h.drop hi (hq1.drew.grown hg2 NO1) hre1 hh1 hm2
  have hsub : ∀ k, WS bw m v1 f1 n k → WS bw m v f (n + 1) k := fun k hk => ws_drop hi hre1 hv1 hk
  have C2 : Chg (WS bw m v f (n + 1)) w w2 := ((((Chg.refl _ w).alloc o).step hc1 fun k _ z => .inr z).drew).grown hg2 fun k e _ => .inl (by injection e with e; exact e.symm)
  refine ⟨v1, f1, _, W2.chg (S := fun k => k = w.heap.size) (((Chg.refl (fun k => k = w.heap.size) w2).setCell (p := ⟨w.heap.size, 0, none⟩) (fun _ => rfl) x).setCell (p := ⟨w.heap.size, 1, none⟩) (fun _ => rfl) y) (fun k hk e => ?_), hsub, (C2.setCell (p := ⟨w.heap.size, 0, none⟩) (fun e => absurd e (Nat.lt_irrefl _)) x).setCell (p := ⟨w.heap.size, 1, none⟩) (fun e => absurd e (Nat.lt_irrefl _)) y⟩
  have := h.ws_w (hsub k hk)
  omega

set_option maxHeartbeats 4000000 in
set_option maxRecDepth 100000 in
theorem take_any (h : WH bw m B v f (n + 1) D w l) {i : Nat} (hi : i < n + 1) (hn : n + 1 ≤ 1000000) :
    Calls Try.prog 45 #[.pointer (some ⟨bw, 0, none⟩), .int .i64 i] w fun e w' => e = .returned (.agg #[.int .i64 (f i).tm.1, .int .i64 (f i).tm.2]) ∧ TakeOut B bw m v f n w l i w' := by
  have KR := hid (fun (o : Obj) => hremove_any (h.q.new o) hi hn)
  have hta := as_item (f i).blk
  have MC := hid (fun (o : Obj) (w1 : World) (hc : Chg (HS2 bw bw v f (n + 1)) (w.alloc o) w1) => own_chg (h.mp.alloc o) hc h.no2)
  have TO := hid (fun (v1 : Value) (f1 : Nat → It) (w1 w2 : World) (x y : Value) (o : Obj) a1 a2 a3 a4 a5 a6 a7 => take_out (v1 := v1) (f1 := f1) (w1 := w1) (w2 := w2) (x := x) (y := y) (o := o) h hi a1 a2 a3 a4 a5 a6 a7)
  have RB := hid (fun (w1 : World) (hc : Chg (HS2 bw bw v f (n + 1)) (w.alloc (.cells #[.int .i64 0, .int .i64 0] 84)) w1) => (show RowIs (w.alloc (.cells #[.int .i64 0, .int .i64 0] 84)) w.heap.size 84 [.int .i64 0, .int .i64 0] by unfold RowIs; rw [heap_alloc_new]).chg hc (fun x => absurd (h.ws_w (.inr x)) (Nat.lt_irrefl _)))
  have hwf := hid (h.wf i hi)
  have hml := hid (Nat.ne_of_gt h.mp.lt : w.heap.size ≠ m)
  clear h
  unfold hV at KR
  go_enter Try.func45, Try.ntmps45
  go_wp2_with (go_at_call 48; refine (KR.out _).mono ?_; rintro e w1 ⟨rfl, v1, f1, hq1, hv1, hr1, hre1, hh1, hc1⟩; have cm1 : w1.cell? ⟨bw, 1, none⟩ = some (.map (some m)) := hq1.wheel.cell 1 (by simp); have ci1 : w1.cell? ⟨(f i).blk, 1, none⟩ = some (.int .i64 (f i).tm.2) := hr1.cell 1 (by simp [itemL]); have MB := hid (fun e => map_no_row (MC.out _ _ hc1) _ _ _ (by rw [e]; exact hr1) : ¬ m = (f i).blk); replace hq1 := hid hq1; replace hre1 := hid hre1; replace hh1 := hid hh1; replace hc1 := hid hc1; replace hr1 := hid hr1; replace hv1 := hid hv1)
  go_region_law (refine step_del rfl _ _ rfl (MC.out _ _ hc1.out).drew rfl rfl hwf.out ?_; intro w2 hm2 hg2)
  all_goals (
    have hr2 := (show RowIs w1.drew _ _ _ from hr1.out).gr hg2 (fun e => MB.out (by injection e))
    have a20 : w2.cell? ⟨(f i).blk, 0, none⟩ = some (.int .i64 (f i).tm.1) := hr2.cell 0 (by simp [itemL])
    have a21 : w2.cell? ⟨(f i).blk, 1, none⟩ = some (.int .i64 (f i).tm.2) := hr2.cell 1 (by simp [itemL])
    have rb2 := (show RowIs w1.drew _ _ _ from RB.out _ hc1.out.drew).gr hg2 (fun e => hml.out (by injection e with e; exact e.symm))
    have r0 : w2.cell? ⟨w.heap.size, 0, none⟩ = some (.int .i64 0) := rb2.cell 0 (by simp)
    have r1 : w2.cell? ⟨w.heap.size, 1, none⟩ = some (.int .i64 0) := rb2.cell 1 (by simp)
    have f0 := rb2.frozen 0
    have f1' := rb2.frozen 1
    have rb3 := (rb2.set 0 (.int .i64 (f i).tm.1)).set 1 (.int .i64 (f i).tm.2)
    have z0 := rb3.cell 0 (by simp)
    have z1 := rb3.cell 1 (by simp)
    simp only [List.set_cons_zero, List.set_cons_succ, List.getElem_cons_zero, List.getElem_cons_succ] at z0 z1
    have TK := hid (TO.out _ _ _ _ (.int .i64 (f i).tm.1) (.int .i64 (f i).tm.2) _ hq1.out hv1.out hre1.out hh1.out hc1.out hm2 hg2)
    clear hr2 rb2 rb3 hm2 hg2 hr1 hq1 hre1 hh1 hc1 MC TO RB
    go_wp2
    refine bodyPost_ret (v := .agg #[.int .i64 (f i).tm.1, .int .i64 (f i).tm.2]) (by simp [results, Try.results45, go_sem, z0, z1]) rfl ⟨rfl, TK.out⟩)

set_option maxHeartbeats 4000000 in
set_option maxRecDepth 100000 in
theorem stop_any (h : WH bw m B v f n D w l) {id : Int} (hwf : (Lit.int .i64 id).wf = true) (hn : n ≤ 1000000) :
    Calls Try.prog 40 #[.pointer (some ⟨bw, 0, none⟩), .int .i64 id] w fun e w' => e = .returned (.bool (whenT l id).isSome) ∧ ∃ v' f' n' D', WH bw m B v' f' n' D' w' (stopT l id) ∧ n' ≤ n ∧ Chg (WS bw m v f n) w w' := by
  have cm := h.mapAt
  have MP := hid h.mp
  have KM := hid (made_any h)
  by_cases hx : ∃ i, i < n ∧ (f i).tm.2 = id
  · obtain ⟨i, hi, rfl⟩ := hx
    obtain ⟨n, rfl⟩ : ∃ k, n = k + 1 := ⟨n - 1, by omega⟩
    obtain ⟨h1, h2⟩ := h.hasOne hi
    have h3 := h.at' i hi
    have cp := (h.q.item i hi).cell 2 (by simp [itemL])
    simp only [itemL, List.getElem_cons_zero, List.getElem_cons_succ] at cp
    rw [h2]
    have KT := hid (take_any h hi hn)
    clear h h2
    have H1 := hid h1
    have H3 := hid h3
    have HW := hid hwf
    clear h1 h3 hwf
    go_enter Try.func40, Try.ntmps40
    go_wp2_with (first
      | (go_at_call 39; refine KM.out.mono ?_; rintro e w0 ⟨rfl, hw0⟩; rw [hw0]; clear hw0)
      | (at_lookup; refine wp_look_has rfl _ _ rfl MP.out rfl rfl HW.out H1.out H3.out ?_)
      | (go_at_call 45; refine KT.out.mono ?_; rintro e w1 ⟨rfl, v1, f1, D1, hw1, hs1, hc1⟩))
    go_ret
    exact ⟨rfl, v1, f1, n, D1, hw1, by omega, hc1⟩
  · obtain ⟨h1, h2⟩ := h.hasNot hx
    have hst : stopT l id = l := by
      unfold stopT
      rw [List.filter_eq_self]
      intro t ht
      have := (when_none id).1 h2 t ht
      simp [this]
    have HH := hid h
    rw [h2]
    clear h h2 hx
    have H1 := hid h1
    have HW := hid hwf
    clear h1 hwf
    go_enter Try.func40, Try.ntmps40
    go_wp2_with (first
      | (go_at_call 39; refine KM.out.mono ?_; rintro e w0 ⟨rfl, hw0⟩; rw [hw0]; clear hw0)
      | (at_lookup; refine wp_look_no rfl _ _ rfl MP.out rfl rfl HW.out H1.out ?_))
    go_ret
    exact ⟨rfl, v, f, n, D, by rw [hst]; exact HH.out, Nat.le_refl _, Chg.refl _ _⟩
end
end Go.Proofs.Ytgikbpaejmdnoaa

/-
  The wheel's Set.
-/
namespace Go.Proofs.Ytgikbpaejmdnoaa
open Go.RowKit Go.Maps Go.WideMaps
set_option linter.unusedVariables false
set_option maxRecDepth 20000

section
variable {bw m B : Nat} {v : Value} {f : Nat → It} {n : Nat} {D : DataW Unit} {w : World} {l : List Tm}
theorem HQ.retime (h : HQ bw m B v w f n) {i : Nat} (hi : i < n) (a : Int) : HQ bw m B v (w.setCell ⟨(f i).blk, 0, none⟩ (.int .i64 a)) (putF f i ⟨(f i).blk, (a, (f i).tm.2)⟩) n := by
  have hbl : ∀ k, (putF f i ⟨(f i).blk, (a, (f i).tm.2)⟩ k).blk = (f k).blk := fun k => by
    by_cases e : k = i
    · subst e; rw [put_at]
    · rw [put_ne _ _ e]
  have hp : ptrs (putF f i ⟨(f i).blk, (a, (f i).tm.2)⟩) n = ptrs f n := by
    unfold ptrs; apply List.map_congr_left; intro k _; unfold ptrV; rw [hbl]
  refine ⟨h.wheel.other (row_block_ne h.wheel (h.item i hi) (by decide)) _, by rw [hp]; exact own_other h.own (own_block_ne h.own (h.item i hi) (by decide)) _, fun k hk => ?_, fun j k hj hk e => h.inj j k hj hk (by rw [hbl, hbl] at e; exact e), fun k hk => by rw [hbl]; exact h.lo k hk⟩
  by_cases e : k = i
  · subst e; rw [put_at]; exact (h.item k hk).set 0 _
  · rw [put_ne _ _ e]; exact (h.item k hk).other (fun e' => e (h.inj k i hk hi e')) _
theorem WH.fix {f' : Nat → It} {w' : World} {i : Nat} {a : Int} (h : WH bw m B v f n D w l) (hi : i < n) (hq : HQ bw m B v w' f' n) (hre : Re n (putF f i ⟨(f i).blk, (a, (f i).tm.2)⟩) f') (hh : FixOK itLt (putF f i ⟨(f i).blk, (a, (f i).tm.2)⟩) n i → Heap itLt f' n)
    (hm : w'.ownsMap Try.prog 3 ptrE m n D) : WH bw m B v f' n D w' (setT l (f i).tm.2 a) := by
  have hP : ∀ k, (putF f i ⟨(f i).blk, (a, (f i).tm.2)⟩ k).blk = (f k).blk ∧ (putF f i ⟨(f i).blk, (a, (f i).tm.2)⟩ k).tm.2 = (f k).tm.2 := fun k => by
    by_cases e : k = i
    · subst e; rw [put_at]; exact ⟨rfl, rfl⟩
    · rw [put_ne _ _ e]; exact ⟨rfl, rfl⟩
  have hK := h.k.fix hi hre (hh (fix_ok it_ord h.k.heap hi fun k hk => put_ne f _ hk))
  have old : ∀ j, j < n → ∃ c, c < n ∧ (f' j).blk = (f c).blk ∧ (f' j).tm.2 = (f c).tm.2 := fun j hj => by
    obtain ⟨c, hc, ec⟩ := (hre.mem (f' j)).1 ⟨j, hj, rfl⟩
    exact ⟨c, hc, by rw [← ec, (hP c).1], by rw [← ec, (hP c).2]⟩
  refine ⟨hq, hK, hm, fun id => ?_, fun j hj z => ?_, h.size, h.wlo, h.mlo, fun j hj => ?_⟩
  · rw [h.has]
    constructor
    · rintro ⟨c, hc, rfl⟩
      obtain ⟨j, hj, ej⟩ := (hre.mem (putF f i ⟨(f i).blk, (a, (f i).tm.2)⟩ c)).2 ⟨c, hc, rfl⟩
      exact ⟨j, hj, by rw [ej, (hP c).2]⟩
    · rintro ⟨j, hj, rfl⟩
      obtain ⟨c, hc, _, e⟩ := old j hj
      exact ⟨c, hc, e.symm⟩
  · obtain ⟨c, hc, e1, e2⟩ := old j hj
    rw [e2, e1]; exact h.at' c hc z
  · obtain ⟨c, hc, _, e2⟩ := old j hj
    rw [e2]; exact h.wf c hc
theorem WH.push {v' : Value} {f' : Nat → It} {w' : World} {b : Nat} {a id : Int} (h : WH bw m B v f n D w l) (hno : ¬ ∃ i, i < n ∧ (f i).tm.2 = id) (hwf : (Lit.int .i64 id).wf = true) (hb : ∀ i, i < n → (f i).blk ≠ b) (hq : HQ bw m B v' w' f' (n + 1))
    (hre : Re (n + 1) (putF f n ⟨b, (a, id)⟩) f') (hh : Heap itLt f n → Heap itLt f' (n + 1)) (hm : w'.ownsMap Try.prog 3 ptrE m (n + 1) (D.put (idK id) (.lit (.int .i64 b)))) :
    WH bw m B v' f' (n + 1) (D.put (idK id) (.lit (.int .i64 b))) w' (setT l id a) := by
  have hnl : ∀ t ∈ l, t.2 ≠ id := (when_none id).1 (h.hasNot hno).2
  have hK := h.k.push hnl hb hre (hh h.k.heap)
  have hisM := h.mp.isMap
  have old : ∀ j, j < n + 1 → (f' j = ⟨b, (a, id)⟩) ∨ ∃ c, c < n ∧ f' j = f c := fun j hj => by
    obtain ⟨c, hc, ec⟩ := (hre.mem (f' j)).1 ⟨j, hj, rfl⟩
    by_cases e : c = n
    · subst e; rw [put_at] at ec; exact .inl ec.symm
    · rw [put_ne _ _ e] at ec; exact .inr ⟨c, by omega, ec.symm⟩
  have new : ∃ j, j < n + 1 ∧ f' j = ⟨b, (a, id)⟩ := by
    obtain ⟨j, hj, e⟩ := (hre.mem ⟨b, (a, id)⟩).2 ⟨n, by omega, put_at f n _⟩
    exact ⟨j, hj, e⟩
  have keep : ∀ c, c < n → ∃ j, j < n + 1 ∧ f' j = f c := fun c hc => by
    obtain ⟨j, hj, e⟩ := (hre.mem (f c)).2 ⟨c, by omega, put_ne f _ (by omega)⟩
    exact ⟨j, hj, e⟩
  have hsz : Maps.size (D.put (idK id) (.lit (.int .i64 b))) = n + 1 := by
    rw [Maps.size_put (h.mp.tidy keyI), if_neg (by rw [(h.hasNot hno).1]; simp), h.size]
  refine ⟨hq, hK, hm, fun id' => ?_, fun j hj z => ?_, hsz, h.wlo, h.mlo, fun j hj => ?_⟩
  · by_cases e : id' = id
    · subst e
      rw [Maps.has_put_same hisM (by trivial)]
      obtain ⟨j, hj, ej⟩ := new
      simp only [true_iff]
      exact ⟨j, hj, by rw [ej]⟩
    · rw [Maps.has_put_other (idK_ne e), h.has]
      constructor
      · rintro ⟨c, hc, rfl⟩
        obtain ⟨j, hj, ej⟩ := keep c hc
        exact ⟨j, hj, by rw [ej]⟩
      · rintro ⟨j, hj, rfl⟩
        rcases old j hj with ej | ⟨c, hc, ec⟩
        · exact absurd (by rw [ej]) e
        · exact ⟨c, hc, by rw [ec]⟩
  · rcases old j hj with ej | ⟨c, hc, ec⟩
    · rw [ej]; exact Maps.atKey_put_same hisM (by trivial) _ _
    · rw [ec, Maps.atKey_put_other (idK_ne fun e => hno ⟨c, hc, e⟩)]
      exact h.at' c hc z
  · rcases old j hj with ej | ⟨c, hc, ec⟩
    · rw [ej]; exact hwf
    · rw [ec]; exact h.wf c hc
end
end Go.Proofs.Ytgikbpaejmdnoaa

/-
  The wheel's Set, walked.
-/
namespace Go.Proofs.Ytgikbpaejmdnoaa
open Go.RowKit Go.Maps Go.WideMaps
set_option linter.unusedVariables false
set_option maxRecDepth 20000

section
variable {bw m B : Nat} {v : Value} {f : Nat → It} {n : Nat} {D : DataW Unit} {w : World} {l : List Tm}
/-- What a wheel's call may change: its record, its map, its items, and a row of pointers, all from B on. -/
def SS (B bw m : Nat) (f : Nat → It) (n : Nat) (w : World) (k : Nat) : Prop := B ≤ k ∧ (k = m ∨ k = bw ∨ (∃ i, i < n ∧ (f i).blk = k) ∨ ∃ cs, w.heap[k]? = some (.cells cs 99 (0, 0)))
theorem WH.ss (h : WH bw m B v f n D w l) {k : Nat} (hk : WS bw m v f n k) : SS B bw m f n w k := by
  rcases hk with rfl | hk
  · exact ⟨h.mlo, .inl rfl⟩
  · obtain ⟨h1, h2⟩ := h.q.hs3 h.wlo h.wlo hk
    rcases h2 with h2 | h2 | h2 | h2
    · exact ⟨h1, .inr (.inl h2)⟩
    · exact ⟨h1, .inr (.inl h2)⟩
    · exact ⟨h1, .inr (.inr (.inl h2))⟩
    · exact ⟨h1, .inr (.inr (.inr h2))⟩
/-- A wheel behind a call. -/
def WOut (B bw m : Nat) (f : Nat → It) (n : Nat) (w w' : World) (l' : List Tm) : Prop := ∃ v' f' n' D', WH bw m B v' f' n' D' w' l' ∧ n' ≤ 4096 ∧ Chg (SS B bw m f n w) w w'
def badS (id a : Int) : Prop := id < 0 ∨ a < 0 ∨ 1099511627776 < a
instance (id a : Int) : Decidable (badS id a) := by unfold badS; infer_instance
def setE (l : List Tm) (id a : Int) : Int := if badS id a then 1 else if whenT l id = none ∧ 4096 ≤ l.length then 5 else 0
def setR (l : List Tm) (id a : Int) : List Tm := if badS id a then l else if whenT l id = none ∧ 4096 ≤ l.length then l else setT l id a

/-- A new item, in the map, is pushed. -/
theorem set_new {id a : Int} {O : Obj} {w1 : World} {p0 : Value} (h : WH bw m B v f n D w l) (hx : ¬ ∃ i, i < n ∧ (f i).tm.2 = id) (hwf : (Lit.int .i64 id).wf = true) (rb0 : RowIs (w.alloc O) w.heap.size 98 [.int .i64 a, .int .i64 id, p0])
    (hnb : ∀ i, i < n → (f i).blk ≠ w.heap.size) (hg1 : (w.alloc O).grownBy w1 (some m)) (hm1 : w1.ownsMap Try.prog 3 ptrE m (n + 1) (D.put (idK id) (.lit (.int .i64 w.heap.size)))) (hn : n + 1 ≤ 4096) :
    Calls Try.prog 47 #[hV bw, .iface 99 (.pointer (some ⟨w.heap.size, 0, none⟩))] w1 fun e w' => e = .returned (.tuple #[]) ∧ WOut B bw m f n w w' (setT l id a) := by
  have bwl : bw < w.heap.size := (Array.getElem?_eq_some_iff.1 h.q.wheel).1
  have hBw : B ≤ w.heap.size := Nat.le_trans h.wlo (Nat.le_of_lt bwl)
  have ml := h.mp.lt
  have Q1 := (h.q.new O).grown hg1 h.no2
  have rb1 := rb0.gr hg1 (fun e => by injection e with e; omega)
  have hB1 : B ≤ w1.heap.size := Nat.le_trans (Nat.le_trans hBw (by simp)) hg1.size
  refine (hpush_any Q1 (b := w.heap.size) (t := (a, id)) rb1 hnb hBw h.wlo (by omega) hB1).mono ?_
  rintro e w2 ⟨rfl, v2, f2, hq2, hre2, hh2, hc2⟩
  have no3 : ¬ HS3 B bw w.heap.size f n w1 m := by
    rintro ⟨_, e | e | ⟨i, hi, e⟩ | ⟨cs, e⟩⟩
    · exact map_no_row hm1 _ _ _ (by rw [e]; exact Q1.wheel)
    · omega
    · exact map_no_row hm1 _ _ _ (by rw [← e]; exact Q1.item i hi)
    · exact map_no_row hm1 _ _ _ e
  refine ⟨rfl, v2, f2, n + 1, _, h.push hx hwf hnb hq2 hre2 hh2 (own_chg hm1 hc2 no3), hn, ?_⟩
  have c1 : Chg (SS B bw m f n w) w w1 := ((Chg.refl _ w).alloc O).grown hg1 fun k hk _ => by injection hk with hk; subst hk; exact h.ss (.inl rfl)
  refine c1.step hc2 ?_
  rintro k hk ⟨hB, e | e | e | ⟨cs, e⟩⟩
  · exact ⟨hB, .inr (.inl e)⟩
  · omega
  · exact ⟨hB, .inr (.inr (.inl e))⟩
  · by_cases hkm : k = m
    · exact ⟨hB, .inl hkm⟩
    · rw [hg1.block k (Nat.lt_of_lt_of_le hk (by simp)) (fun x => hkm (by injection x)), Below.heap_alloc _ _ _ hk] at e
      exact ⟨hB, .inr (.inr (.inr ⟨cs, e⟩))⟩

/-- A wheel behind a call that first made memory. -/
theorem WOut.old {o : Obj} {w' : World} {l' : List Tm} (h : WOut B bw m f n (w.alloc o) w' l') : WOut B bw m f n w w' l' := by
  obtain ⟨v', f', n', D', h1, h2, hc⟩ := h
  refine ⟨v', f', n', D', h1, h2, ((Chg.refl _ w).alloc o).step hc ?_⟩
  rintro k hk ⟨hB, e | e | e | ⟨cs, e⟩⟩
  · exact ⟨hB, .inl e⟩
  · exact ⟨hB, .inr (.inl e)⟩
  · exact ⟨hB, .inr (.inr (.inl e))⟩
  · rw [Below.heap_alloc _ _ _ hk] at e
    exact ⟨hB, .inr (.inr (.inr ⟨cs, e⟩))⟩

theorem heap_size_alloc' (w : World) (o : Obj) : (w.alloc o).heap.size = w.heap.size + 1 := by simp
set_option maxHeartbeats 4000000 in
set_option maxRecDepth 100000 in
theorem add_any (h : WH bw m B v f n D w l) {id a : Int} (hx : ¬ ∃ i, i < n ∧ (f i).tm.2 = id) (hwf : (Lit.int .i64 id).wf = true) (hn : n + 1 ≤ 4096) :
    Calls Try.prog 43 #[.pointer (some ⟨bw, 0, none⟩), .agg #[.int .i64 a, .int .i64 id]] w fun e w' => e = .returned (.tuple #[]) ∧ WOut B bw m f n w w' (setT l id a) := by
  have cm := h.mapAt
  have bwl : bw < w.heap.size := (Array.getElem?_eq_some_iff.1 h.q.wheel).1
  obtain ⟨O1, hO1⟩ : ∃ O, O = Obj.cells #[.int .i64 a, .int .i64 id] 84 := ⟨_, rfl⟩
  obtain ⟨O, hO⟩ : ∃ O, O = Obj.cells #[.int .i64 a, .int .i64 id, .int .i64 0] 98 := ⟨_, rfl⟩
  have h1 := h.new O1
  have cm2 := fun o => (h1.new o).mapAt
  have rb0 : RowIs ((w.alloc O1).alloc O) (w.alloc O1).heap.size 98 [.int .i64 a, .int .i64 id, .int .i64 0] := by unfold RowIs; rw [heap_alloc_new, hO]
  have hnb : ∀ i, i < n → (f i).blk ≠ (w.alloc O1).heap.size := fun i hi e => by have := (Array.getElem?_eq_some_iff.1 (h1.q.item i hi)).1; omega
  have FI := hid (fun (w1 : World) (hg1 : ((w.alloc O1).alloc O).drew.grownBy w1 (some m)) (hm1 : w1.ownsMap Try.prog 3 ptrE m (n + 1) (D.put (idK id) (.lit (.int .i64 (w.alloc O1).heap.size)))) => (set_new h1 hx hwf rb0 hnb (show ((w.alloc O1).alloc O).grownBy w1 (some m) from ⟨hg1.os, hg1.tape, hg1.output, hg1.size, hg1.block⟩) hm1 hn).mono (fun e w' (z : e = _ ∧ WOut _ _ _ _ _ _ _ _) => (⟨z.1, z.2.old⟩ : e = .returned (.tuple #[]) ∧ WOut B bw m f n w w' (setT l id a))))
  obtain ⟨w1, hrun, hm1, hg1⟩ := ((h1.mp.alloc O).drew).update keyI Try.underlying90 (by unfold maxLen; omega) (key_int hwf) (show ptrE (.pointer (some ⟨(w.alloc O1).heap.size, 0, none⟩)) = some (.lit (.int .i64 (w.alloc O1).heap.size), []) from rfl)
  have KP := hid (FI.out _ hg1 hm1)
  clear FI hm1 hg1
  have ci := rb0.cell 1 (by simp)
  simp only [List.getElem_cons_zero, List.getElem_cons_succ] at ci
  have z1 := two_new w a id
  rw [hO1] at hrun KP ci cm2
  rw [hO] at hrun ci
  rw [heap_size_alloc'] at hrun KP ci
  have cm2' := cell_dr (cm2 (Obj.cells #[.int .i64 a, .int .i64 id, .int .i64 0] 98))
  have ci' := cell_dr ci
  clear h h1 rb0 hO hO1 hnb
  have HW := hid hwf
  clear hwf hx
  unfold hV at KP
  go_enter Try.func43, Try.ntmps43
  go_wp2
  go_region
  all_goals (
    go_wp2_with (go_at_call 47; refine KP.out.mono ?_; rintro e w2 ⟨rfl, hw2⟩)
    go_end0
    exact ⟨rfl, hw2⟩)

set_option maxHeartbeats 4000000 in
set_option maxRecDepth 100000 in
theorem move_any (h : WH bw m B v f n D w l) {i : Nat} {a : Int} (hi : i < n) (hn : n ≤ 4096) :
    Calls Try.prog 42 #[.pointer (some ⟨bw, 0, none⟩), .pointer (some ⟨(f i).blk, 0, none⟩), .int .i64 a] w fun e w' => e = .returned (.tuple #[]) ∧ WOut B bw m f n w w' (setT l (f i).tm.2 a) := by
  have c0 := (h.q.item i hi).cell 0 (by simp [itemL])
  have f0 := (h.q.item i hi).frozen 0
  have cp := ((h.q.item i hi).set 0 (.int .i64 a)).cell 2 (by simp [itemL])
  simp only [itemL, List.getElem_cons_zero, List.getElem_cons_succ, List.set_cons_zero] at c0 cp
  have HQ1 := hid (h.q.retime hi a)
  have KF := hid (fun (w' : World) (hq : HQ bw m B v w' (putF f i ⟨(f i).blk, (a, (f i).tm.2)⟩) n) => hfix_any hq hi (by omega))
  have HF := hid (fun (f' : Nat → It) (w' : World) x y z u => h.fix (f' := f') (w' := w') (a := a) hi x y z u)
  have SSk := hid (fun k (x : WS bw m v f n k) => h.ss x)
  have NO := hid h.no2
  have MO := hid (h.mp.setCell (a := ⟨(f i).blk, 0, none⟩) (fun e => NO.out (.inr (.inr (.inr ⟨i, hi, e.symm⟩)))) (.int .i64 a))
  clear h
  unfold hV at KF
  go_enter Try.func42, Try.ntmps42
  go_wp2
  go_region_law (go_simp; go_at_call 46; refine (KF.out _ HQ1.out.drew).mono ?_; rintro e w1 ⟨rfl, f1, hq1, hre1, hh1, hc1⟩)
  go_wp2
  go_end0
  have hS : ∀ k, HS v (putF f i ⟨(f i).blk, (a, (f i).tm.2)⟩) n k → HS v f n k := fun k x => by
    rcases x with x | ⟨j, hj, e⟩
    · exact .inl x
    · refine .inr ⟨j, hj, ?_⟩
      by_cases e' : j = i
      · subst e'; rw [put_at] at e; exact e
      · rw [put_ne _ _ e'] at e; exact e
  refine ⟨rfl, v, f1, n, D, HF.out _ _ hq1 hre1 hh1 (own_chg MO.out.drew hc1 fun x => NO.out (.inr (.inr (hS _ x)))), hn, ?_⟩
  exact (((Chg.refl _ w).setCell (p := ⟨(f i).blk, 0, none⟩) (fun _ => SSk.out _ (.inr (.inr (.inr (.inr ⟨i, hi, rfl⟩))))) _).drew).step hc1 fun k _ x => SSk.out k (.inr (.inr (.inr (hS k x))))

set_option maxHeartbeats 4000000 in
set_option maxRecDepth 100000 in
theorem set_any (h : WH bw m B v f n D w l) {id a : Int} (hwf : (Lit.int .i64 id).wf = true) (hn : n ≤ 4096) :
    Calls Try.prog 37 #[.pointer (some ⟨bw, 0, none⟩), .int .i64 id, .int .i64 a] w fun e w' => e = .returned (.int .i64 (setE l id a)) ∧ WOut B bw m f n w w' (setR l id a) := by
  have cm := h.mapAt
  have MP := hid h.mp
  have KM := hid (made_any h)
  have KL := hid (wlen_n h)
  unfold setE setR
  by_cases hbad : badS id a
  · rw [if_pos hbad, if_pos hbad]
    have HH := hid h
    clear h
    unfold badS at hbad
    by_cases h1 : id < 0
    · go_enter Try.func37, Try.ntmps37
      go_wp2_with (go_at_call 39; refine KM.out.mono ?_; rintro e w0 ⟨rfl, hw0⟩; rw [hw0]; clear hw0)
      go_ret
      exact ⟨rfl, v, f, n, D, HH.out, hn, Chg.refl _ _⟩
    · by_cases h2 : a < 0
      · go_enter Try.func37, Try.ntmps37
        go_wp2_with (go_at_call 39; refine KM.out.mono ?_; rintro e w0 ⟨rfl, hw0⟩; rw [hw0]; clear hw0)
        go_ret
        exact ⟨rfl, v, f, n, D, HH.out, hn, Chg.refl _ _⟩
      · have h3 : 1099511627776 < a := by omega
        clear hbad
        go_enter Try.func37, Try.ntmps37
        go_wp2_with (go_at_call 39; refine KM.out.mono ?_; rintro e w0 ⟨rfl, hw0⟩; rw [hw0]; clear hw0)
        go_ret
        exact ⟨rfl, v, f, n, D, HH.out, hn, Chg.refl _ _⟩
  · rw [if_neg hbad, if_neg hbad]
    unfold badS at hbad
    have h1 : ¬ id < 0 := fun x => hbad (.inl x)
    have h2 : ¬ a < 0 := fun x => hbad (.inr (.inl x))
    have h3 : ¬ 1099511627776 < a := fun x => hbad (.inr (.inr x))
    clear hbad
    by_cases hx : ∃ i, i < n ∧ (f i).tm.2 = id
    · obtain ⟨i, hi, rfl⟩ := hx
      obtain ⟨g1, g2⟩ := h.hasOne hi
      rw [g2, if_neg (by simp), if_neg (by simp)]
      have g3 := h.at' i hi
      have KV := hid (move_any h (a := a) hi hn)
      clear h g2
      have H1 := hid g1
      have H3 := hid g3
      have HW := hid hwf
      clear g1 g3 hwf
      go_enter Try.func37, Try.ntmps37
      go_wp2_with (first
        | (go_at_call 39; refine KM.out.mono ?_; rintro e w0 ⟨rfl, hw0⟩; rw [hw0]; clear hw0)
        | (at_lookup; refine wp_look_has rfl _ _ rfl MP.out rfl rfl HW.out H1.out H3.out ?_)
        | (go_at_call 42; refine KV.out.mono ?_; rintro e w1 ⟨rfl, hw1⟩))
      go_ret
      exact ⟨rfl, hw1⟩
    · obtain ⟨g1, g2⟩ := h.hasNot hx
      by_cases hful : 4096 ≤ n
      · have hl : 4096 ≤ l.length := by rw [h.k.len]; exact hful
        rw [if_pos ⟨g2, hl⟩, if_pos ⟨g2, hl⟩]
        have hfi : (4096 : Int) ≤ (n : Int) := by omega
        have HH := hid h
        clear h
        have H1 := hid g1
        have HW := hid hwf
        clear g1 g2 hwf hx hl
        go_enter Try.func37, Try.ntmps37
        go_wp2_with (first
          | (go_at_call 39; refine KM.out.mono ?_; rintro e w0 ⟨rfl, hw0⟩; rw [hw0]; clear hw0)
          | (go_at_call 34; refine KL.out.mono ?_; rintro e w0 ⟨rfl, hw0⟩; rw [hw0]; clear hw0)
          | (at_lookup; refine wp_look_no rfl _ _ rfl MP.out rfl rfl HW.out H1.out ?_))
        go_ret
        exact ⟨rfl, v, f, n, D, HH.out, hn, Chg.refl _ _⟩
      · have hl : ¬ (whenT l id = none ∧ 4096 ≤ l.length) := fun x => hful (by rw [← h.k.len]; exact x.2)
        rw [if_neg hl, if_neg hl]
        have hfi : ¬ ((4096 : Int) ≤ (n : Int)) := by omega
        have KA := hid (add_any h (a := a) hx hwf (by omega))
        clear h
        have H1 := hid g1
        have HW := hid hwf
        clear g1 g2 hwf hl hx
        go_enter Try.func37, Try.ntmps37
        go_wp2_with (first
          | (go_at_call 39; refine KM.out.mono ?_; rintro e w0 ⟨rfl, hw0⟩; rw [hw0]; clear hw0)
          | (go_at_call 34; refine KL.out.mono ?_; rintro e w0 ⟨rfl, hw0⟩; rw [hw0]; clear hw0)
          | (at_lookup; refine wp_look_no rfl _ _ rfl MP.out rfl rfl HW.out H1.out ?_)
          | (go_at_call 43; refine KA.out.mono ?_; rintro e w2 ⟨rfl, hw2⟩))
        go_ret
        exact ⟨rfl, hw2⟩
end
end Go.Proofs.Ytgikbpaejmdnoaa

/-
  Rows of timers that a call made; how they and a wheel keep each other.
-/
namespace Go.Proofs.Ytgikbpaejmdnoaa
open Go.RowKit Go.Maps Go.WideMaps
set_option linter.unusedVariables false
set_option maxRecDepth 20000

def tmCells (t : Tm) : List Value := [.int .i64 t.1, .int .i64 t.2]
def tmsCells (ts : List Tm) : List Value := ts.flatMap tmCells
theorem tmsCells_get (ts : List Tm) : ∀ (k : Nat) (hk : k < ts.length), (tmsCells ts)[k * 2]? = some (.int .i64 ts[k].1) ∧ (tmsCells ts)[k * 2 + 1]? = some (.int .i64 ts[k].2) := by
  induction ts with
  | nil => intro k hk; simp at hk
  | cons t ts ih =>
    intro k hk
    have e : tmsCells (t :: ts) = tmCells t ++ tmsCells ts := by simp [tmsCells]
    cases k with
    | zero => rw [e]; simp [tmCells]
    | succ k =>
      have := ih k (by simpa using hk)
      rw [e, show (k + 1) * 2 = k * 2 + 2 by omega]
      simpa [tmCells] using this
/-- The slice v owns the timers ts, in a block from B on. -/
def OwnT (w : World) (B : Nat) (v : Value) (ts : List Tm) : Prop := w.ownsRow B 84 2 v ts.length (tmsCells ts)
theorem OwnT.nil (w : World) (B : Nat) : OwnT w B (.slice none 0 0) [] := World.ownsRow_nil _ _ _ _
theorem OwnT.alloc {w : World} {B : Nat} {v : Value} {ts : List Tm} (h : OwnT w B v ts) (o : Obj) : OwnT (w.alloc o) B v ts := World.ownsRow.alloc h o
theorem OwnT.drew {w : World} {B : Nat} {v : Value} {ts : List Tm} (h : OwnT w B v ts) : OwnT w.drew B v ts := World.ownsRow.drew h
theorem OwnT.form {w : World} {B : Nat} {v : Value} {ts : List Tm} (h : OwnT w B v ts) : ∃ a cap, v = .slice a ts.length cap := by
  rcases h.2 with ⟨rfl, hn⟩ | ⟨g, cap, cur, rfl, _⟩
  · exact ⟨none, 0, by rw [hn]⟩
  · exact ⟨_, cap, rfl⟩
theorem OwnT.chg {S : Nat → Prop} {w w' : World} {B : Nat} {v : Value} {ts : List Tm} (h : OwnT w B v ts) (hc : Chg S w w') (hn : ∀ k, v.ownBlock = some k → ¬ S k) : OwnT w' B v ts := by
  obtain ⟨h1, h2⟩ := h
  refine ⟨h1, ?_⟩
  rcases h2 with h2 | ⟨g, cap, cur, hv, hg, hh, r⟩
  · exact Or.inl h2
  · exact Or.inr ⟨g, cap, cur, hv, hg, by rw [hc.block g (Array.getElem?_eq_some_iff.1 hh).1 (hn g (by rw [hv]; rfl))]; exact hh, r⟩
theorem OwnT.row {w : World} {B k : Nat} {v : Value} {ts : List Tm} (h : OwnT w B v ts) (hk : v.ownBlock = some k) : B ≤ k ∧ ∃ cs, w.heap[k]? = some (.cells cs 84 (0, 0)) := by
  rcases h.2 with ⟨rfl, _⟩ | ⟨g, cap, cur, rfl, hg, hh, _⟩
  · cases hk
  · simp [Value.ownBlock] at hk; subst hk; exact ⟨hg, cur, hh⟩
theorem infoTm : (Try.prog.info? 84).map (fun i => (i.zero, i.size, i.bytes)) = some (some (.agg #[.int .i64 0, .int .i64 0]), 2, 16) := by kernel_rfl
theorem wp_appTm {P : Program} (w : World) {ops : Array Oper} {rest : List Oper} {o : Oper} {a : Act} {Q : Exit → Act → World → Prop} (hgd : o.guard = none)
    (s x : Operand) (t : TypeId) (ho : o.op = Op.call { callee := Callee.builtin Builtin.append, args := #[s, x], argTypes := #[t, t] }) (B : Nat) (i : TypeInfo)
    (z : Value) (ht : P.underlying t = some (TypeDesc.slice 84)) (hi : P.info? 84 = some i) (hz : i.zero = some z) (hsize : i.size = 2) (hby : i.bytes = 16) (hzs : z.cells.size = 2)
    (v : Value) (ts : List Tm) (hs : a.eval s = v) (hown : OwnT w B v ts) (ad : Addr) (c : Nat) (p : Tm) (hx : a.eval x = Value.slice (some ad) 1 c)
    (hnews : ∀ (j : Nat) (u : Value), (tmCells p)[j]? = some u → w.cell? (ad.add j) = some u)
    (hlen : ts.length ≤ 2000000) (hB : B ≤ w.heap.size)
    (h : ∀ (v' : Value) (w' : World), OwnT w' B v' (ts ++ [p]) → w.grownBy w' v.ownBlock → wpList P ops Q rest (a.put o.dst v') w') : wpList P ops Q (o :: rest) a w := by
  refine wpList_append_own w hgd s x t ho B 84 i z 2 16 ht hi hz hsize hby hzs (by decide) v ts.length (tmsCells ts) hs hown ad 1 c (tmCells p) hx rfl hnews (by intro u hu; simp [tmCells] at hu; rcases hu with rfl | rfl <;> rfl) (by unfold maxLen; omega) (by omega) hB ?_
  intro v' w' hown' hgr _
  refine h v' w' ?_ hgr
  unfold OwnT
  have e : tmsCells (ts ++ [p]) = tmsCells ts ++ tmCells p := by simp [tmsCells]
  rw [e, List.length_append]
  exact hown'
section
variable {bw m B : Nat} {v : Value} {f : Nat → It} {n : Nat} {D : DataW Unit} {w : World} {l : List Tm}
theorem cells_ne {w : World} {k : Nat} {cs : Array Value} {e e' : TypeId} {l : List Value} (h : w.heap[k]? = some (.cells cs e (0, 0))) (hr : RowIs w k e' l) (hne : e ≠ e') : False := by
  unfold RowIs at hr
  rw [hr] at h
  simp at h
  exact hne h.2.symm
/-- A block of timers is none of a wheel's. -/
theorem WH.noT (h : WH bw m B v f n D w l) {k : Nat} {cs : Array Value} (hk : w.heap[k]? = some (.cells cs 84 (0, 0))) : ¬ SS B bw m f n w k := by
  rintro ⟨_, rfl | rfl | ⟨i, hi, rfl⟩ | ⟨cs', e⟩⟩
  · exact map_no_row h.mp _ _ _ hk
  · exact cells_ne hk h.q.wheel (by decide)
  · exact cells_ne hk (h.q.item i hi) (by decide)
  · rw [e] at hk
    simp at hk
theorem WH.noTs (h : WH bw m B v f n D w l) {B' : Nat} {va : Value} {ts : List Tm} (ho : OwnT w B' va ts) : ∀ k, va.ownBlock = some k → ¬ SS B bw m f n w k := fun k hk => by
  obtain ⟨_, cs, hc⟩ := ho.row hk
  exact h.noT hc
/-- An append to a row of timers keeps a wheel. -/
theorem WH.app (h : WH bw m B v f n D w l) {B' : Nat} {va : Value} {ts : List Tm} {w' : World} (ho : OwnT w B' va ts) (hg : w.grownBy w' va.ownBlock) : WH bw m B v f n D w' l :=
  h.chg (S := fun k => va.ownBlock = some k) ((Chg.refl _ w).grown hg fun k hk _ => hk) fun k hk e => h.noTs ho k e (h.ss hk)
end
end Go.Proofs.Ytgikbpaejmdnoaa

/-
  The wheel's Due.
-/
namespace Go.Proofs.Ytgikbpaejmdnoaa
open Go.RowKit Go.Maps Go.WideMaps
set_option linter.unusedVariables false
set_option maxRecDepth 20000

def lenV : Value → Nat | .slice _ n _ => n | _ => 0
theorem due_stop {l : List Tm} {now : Int} {k : Nat} (h1 : ∀ t ∈ l.take k, t.1 ≤ now) (h2 : ∀ t r, l.drop k = t :: r → ¬ t.1 ≤ now) : dueT l now = l.take k ∧ leftT l now = l.drop k := by
  have e := (List.take_append_drop k l).symm
  have p1 : ∀ t ∈ l.take k, decide (t.1 ≤ now) = true := fun t ht => decide_eq_true (h1 t ht)
  have q : (l.drop k).takeWhile (fun t => decide (t.1 ≤ now)) = [] ∧ (l.drop k).dropWhile (fun t => decide (t.1 ≤ now)) = l.drop k := by
    cases hd : l.drop k with
    | nil => exact ⟨rfl, rfl⟩
    | cons t r =>
      have := h2 t r hd
      constructor
      · rw [List.takeWhile_cons, if_neg (by simpa using this)]
      · rw [List.dropWhile_cons, if_neg (by simpa using this)]
  unfold dueT leftT
  constructor
  · conv => lhs; rw [e]
    rw [List.takeWhile_append_of_pos p1, q.1, List.append_nil]
  · conv => lhs; rw [e]
    rw [List.dropWhile_append_of_pos p1, q.2]
section
variable {bw m B : Nat} {v : Value} {f : Nat → It} {n : Nat} {D : DataW Unit} {w : World} {l : List Tm}
/-- Where Due stands: k timers are out, the others are as they were. -/
def DueIn (B bw m : Nat) (v : Value) (f : Nat → It) (n : Nat) (w : World) (l : List Tm) (now : Int) (va : Value) (wr : World) : Prop :=
  ∃ k v' f' n' D', (∀ t ∈ l.take k, t.1 ≤ now) ∧ OwnT wr w.heap.size va (l.take k) ∧ WH bw m B v' f' n' D' wr (l.drop k) ∧ n' + k = n ∧ (∀ x, WS bw m v' f' n' x → WS bw m v f n x) ∧ Chg (WS bw m v f n) w wr
def DueOut (B bw m : Nat) (v : Value) (f : Nat → It) (n : Nat) (w : World) (l : List Tm) (now : Int) (va : Value) (w' : World) : Prop := OwnT w' w.heap.size va (dueT l now) ∧ ∃ v' f' n' D', WH bw m B v' f' n' D' w' (leftT l now) ∧ n' ≤ n ∧ (∀ x, WS bw m v' f' n' x → WS bw m v f n x) ∧ Chg (WS bw m v f n) w w'
theorem tm_new (w : World) (t : Tm) : ∀ (j : Nat) (u : Value), (tmCells t)[j]? = some u → (w.alloc (.cells #[.int .i64 t.1, .int .i64 t.2] 84)).cell? ((⟨w.heap.size, 0, none⟩ : Addr).add j) = some u := by
  intro j u hj
  match j, hj with
  | 0, hj => simp [tmCells] at hj; subst hj; simp [Addr.add]
  | 1, hj => simp [tmCells] at hj; subst hj; simp [Addr.add]
/-- One more is out. -/
theorem due_step {now : Int} {va v' va' : Value} {f' : Nat → It} {n' k : Nat} {D' : DataW Unit} {wr w2 w4 : World} {t : Tm} {r : List Tm} (hd : l.drop k = t :: r) (ht : t.1 ≤ now) (hall : ∀ t ∈ l.take k, t.1 ≤ now) (hw : WH bw m B v' f' (n' + 1) D' wr (t :: r))
    (hnk : n' + 1 + k = n) (hss : ∀ x, WS bw m v' f' (n' + 1) x → WS bw m v f n x) (hch : Chg (WS bw m v f n) w wr)
    (hto : TakeOut B bw m v' f' n' wr (t :: r) 0 w2) (o : Obj) (ho4 : OwnT w4 w.heap.size va' (l.take k ++ [t])) (hown : OwnT (w2.alloc o) w.heap.size va (l.take k)) (hg4 : (w2.alloc o).grownBy w4 va.ownBlock) :
    DueIn B bw m v f n w l now va' w4 := by
  have hft := hw.k.first.2
  obtain ⟨v1, f1, D1, W2, hs2, hc2⟩ := hto
  rw [hft, stop_first hw.k.row] at W2
  have W4 := (W2.new o).app hown hg4
  have hk : k < l.length := by
    have := congrArg List.length hd
    simp at this
    omega
  have hlk : l[k] = t := by
    have e := List.drop_eq_getElem_cons hk
    rw [hd] at e
    injection e with e _
    exact e.symm
  have htk : l.take (k + 1) = l.take k ++ [t] := by rw [List.take_succ_eq_append_getElem hk, hlk]
  have hdk : l.drop (k + 1) = r := by
    have e := List.drop_eq_getElem_cons hk
    rw [hd] at e
    injection e with _ e
    exact e.symm
  refine ⟨k + 1, v1, f1, n', _, ?_, by rw [htk]; exact ho4, by rw [hdk]; exact W4, by omega, fun x hs => hss x (hs2 x hs), ?_⟩
  · intro t' h'
    rw [htk] at h'
    rcases List.mem_append.1 h' with h' | h'
    · exact hall t' h'
    · simp at h'; subst h'; exact ht
  · refine ((hch.step hc2 fun x _ hs => hss x hs).alloc o).grown hg4 fun x e hx => ?_
    have := (hown.row e).1
    omega

def dueB (l : List Tm) (now : Int) : Bool := match l with | t :: _ => decide (t.1 ≤ now) | [] => false
end
end Go.Proofs.Ytgikbpaejmdnoaa

/-
  A wheel, from outside: which row it keeps, and what its calls leave as it was.
-/
namespace Go.Proofs.Ytgikbpaejmdnoaa
open Go.RowKit Go.Maps Go.WideMaps
set_option linter.unusedVariables false
set_option maxRecDepth 20000

/-- The wheel at b, in blocks from B on and below U, keeps the row l. -/
def WWu (B U b : Nat) (w : World) (l : List Tm) : Prop := ∃ m v f n D, WH b m B v f n D w l ∧ n ≤ 4096 ∧ ∀ k, WS b m v f n k → k < U
def WW (B b : Nat) (w : World) (l : List Tm) : Prop := WWu B w.heap.size b w l
/-- What a wheel's call leaves: all below B, and every block of cells that is of none of a wheel's types. -/
structure Fr (B : Nat) (w w' : World) : Prop where
  below : Below B w w'
  keep : ∀ (k : Nat) (cs : Array Value) (e : TypeId) (x : Nat × Nat), w.heap[k]? = some (Obj.cells cs e x) → e ≠ 94 → e ≠ 98 → e ≠ 99 → w'.heap[k]? = some (Obj.cells cs e x)
theorem Fr.refl (B : Nat) (w : World) : Fr B w w := ⟨Below.refl _ _, fun _ _ _ _ h _ _ _ => h⟩
theorem Fr.trans {B : Nat} {a b c : World} (h : Fr B a b) (k : Fr B b c) : Fr B a c := ⟨h.below.trans k.below, fun i cs e x hh n1 n2 n3 => k.keep i cs e x (h.keep i cs e x hh n1 n2 n3) n1 n2 n3⟩
theorem Fr.of {B : Nat} {w w' : World} (h : Below w.heap.size w w') (hB : B ≤ w.heap.size) : Fr B w w' :=
  ⟨h.mono hB, fun k cs e x hh _ _ _ => by rw [h.block k (Array.getElem?_eq_some_iff.1 hh).1]; exact hh⟩
theorem Fr.mono {B B' : Nat} {w w' : World} (h : Fr B w w') (hB : B' ≤ B) : Fr B' w w' := ⟨h.below.mono hB, h.keep⟩
theorem Fr.row {B : Nat} {w w' : World} {b : Nat} {e : TypeId} {l : List Value} (h : Fr B w w') (hr : RowIs w b e l) (n1 : e ≠ 94) (n2 : e ≠ 98) (n3 : e ≠ 99) : RowIs w' b e l := by
  unfold RowIs at hr ⊢
  exact h.keep _ _ _ _ hr n1 n2 n3
section
variable {bw m B U : Nat} {v : Value} {f : Nat → It} {n : Nat} {D : DataW Unit} {w w' : World} {l : List Tm}
theorem WH.ws_lt (h : WH bw m B v f n D w l) {k : Nat} (hk : WS bw m v f n k) : B ≤ k ∧ k < w.heap.size := by
  refine ⟨(h.ss hk).1, ?_⟩
  rcases (h.ss hk).2 with rfl | rfl | ⟨i, hi, rfl⟩ | ⟨cs, e⟩
  · exact h.mp.lt
  · exact (Array.getElem?_eq_some_iff.1 h.q.wheel).1
  · exact (Array.getElem?_eq_some_iff.1 (h.q.item i hi)).1
  · exact (Array.getElem?_eq_some_iff.1 e).1
theorem WH.fr (h : WH bw m B v f n D w l) (hc : Chg (SS B bw m f n w) w w') : Fr B w w' := by
  have hB : B ≤ w.heap.size := Nat.le_trans h.wlo (Nat.le_of_lt (Array.getElem?_eq_some_iff.1 h.q.wheel).1)
  refine ⟨hc.below hB fun k hk => hk.1, fun k cs e x hh n1 n2 n3 => ?_⟩
  rw [hc.block k (Array.getElem?_eq_some_iff.1 hh).1]
  · exact hh
  · rintro ⟨_, rfl | rfl | ⟨i, hi, rfl⟩ | ⟨cs', e'⟩⟩
    · exact map_no_row h.mp _ _ _ hh
    · have := h.q.wheel
      unfold RowIs at this
      rw [this] at hh
      simp at hh
      exact n1 hh.2.1.symm
    · have := h.q.item i hi
      unfold RowIs at this
      rw [this] at hh
      simp at hh
      exact n2 hh.2.1.symm
    · rw [e'] at hh
      simp at hh
      exact n3 hh.2.1.symm
theorem WH.ww (h : WH bw m B v f n D w l) (hn : n ≤ 4096) : WW B bw w l := ⟨m, v, f, n, D, h, hn, fun k hk => (h.ws_lt hk).2⟩
theorem WWu.ww (h : WWu B U bw w l) : WW B bw w l := by
  obtain ⟨m, v, f, n, D, h, hn, _⟩ := h
  exact h.ww hn
theorem WW.row (h : WW B bw w l) : Row9 l ∧ l.length ≤ 4096 := by
  obtain ⟨m, v, f, n, D, h, hn, _⟩ := h
  exact ⟨h.k.row, by rw [h.k.len]; exact hn⟩
theorem WW.lo (h : WW B bw w l) : B ≤ w.heap.size := by
  obtain ⟨m, v, f, n, D, h, hn, _⟩ := h
  exact Nat.le_trans h.wlo (Nat.le_of_lt (Array.getElem?_eq_some_iff.1 h.q.wheel).1)
theorem WWu.chg {S : Nat → Prop} (h : WWu B U bw w l) (hc : Chg S w w') (hn : ∀ k, B ≤ k → k < U → ¬ S k) : WWu B U bw w' l := by
  obtain ⟨m, v, f, n, D, h, h4, hu⟩ := h
  exact ⟨m, v, f, n, D, h.chg hc fun k hk => hn k (h.ws_lt hk).1 (hu k hk), h4, hu⟩
theorem WWu.below (h : WWu B U bw w l) (hb : Below U w w') : WWu B U bw w' l := h.chg (S := fun k => U ≤ k) ⟨hb.os, hb.tape, hb.output, hb.size, fun k _ hn => hb.block k (by omega)⟩ (fun k _ h1 h2 => by omega)
/-- What only makes memory keeps a wheel. -/
theorem WW.below (h : WW B bw w l) (hb : Below w.heap.size w w') : WW B bw w' l := (WWu.below h hb).ww
theorem WW.new (h : WW B bw w l) (o : Obj) : WW B bw (w.alloc o) l := h.below ((Below.refl _ _).alloc (Nat.le_refl _) o)
theorem WW.drew (h : WW B bw w l) : WW B bw w.drew l := h.below (Below.refl _ _).drew
theorem TmsAt'.fr {ts : List Tm} {va : Value} {B' : Nat} (h : OwnT w B' va ts) (hf : Fr B w w') : OwnT w' B' va ts := by
  obtain ⟨h1, h2⟩ := h
  refine ⟨h1, ?_⟩
  rcases h2 with h2 | ⟨g, cap, cur, hv, hg, hh, r⟩
  · exact Or.inl h2
  · exact Or.inr ⟨g, cap, cur, hv, hg, hf.keep g _ _ _ hh (by decide) (by decide) (by decide), r⟩
/-- An append to a row of timers keeps a wheel. -/
theorem WW.app (h : WW B bw w l) {B' : Nat} {va : Value} {ts : List Tm} (ho : OwnT w B' va ts) (hg : w.grownBy w' va.ownBlock) : WW B bw w' l := by
  obtain ⟨m, v, f, n, D, h, h4, _⟩ := h
  exact (h.app ho hg).ww h4

theorem wwlen_any (h : WW B bw w l) :
    Calls Try.prog 34 #[.pointer (some ⟨bw, 0, none⟩)] w fun e w' => e = .returned (.int .i64 l.length) ∧ w' = w := by
  obtain ⟨m, v, f, n, D, h, hn, _⟩ := h
  exact wlen_any h
theorem wwnext_any (h : WW B bw w l) :
    Calls Try.prog 27 #[.pointer (some ⟨bw, 0, none⟩)] w fun e w' => e = .returned (nextV l) ∧ Below w.heap.size w w' := by
  obtain ⟨m, v, f, n, D, h, hn, _⟩ := h
  exact next_any h
theorem wwset_any (h : WW B bw w l) {id a : Int} (hwf : (Lit.int .i64 id).wf = true) :
    Calls Try.prog 37 #[.pointer (some ⟨bw, 0, none⟩), .int .i64 id, .int .i64 a] w fun e w' => e = .returned (.int .i64 (setE l id a)) ∧ WW B bw w' (setR l id a) ∧ Fr B w w' := by
  obtain ⟨m, v, f, n, D, h, hn, _⟩ := h
  refine (set_any h hwf hn).mono ?_
  rintro e w' ⟨rfl, v', f', n', D', h', hn', hc⟩
  exact ⟨rfl, h'.ww hn', h.fr hc⟩
theorem wwstop_any (h : WW B bw w l) {id : Int} (hwf : (Lit.int .i64 id).wf = true) :
    Calls Try.prog 40 #[.pointer (some ⟨bw, 0, none⟩), .int .i64 id] w fun e w' => e = .returned (.bool (whenT l id).isSome) ∧ WW B bw w' (stopT l id) ∧ Fr B w w' := by
  obtain ⟨m, v, f, n, D, h, hn, _⟩ := h
  refine (stop_any h hwf (by omega)).mono ?_
  rintro e w' ⟨rfl, v', f', n', D', h', hn', hc⟩
  exact ⟨rfl, h'.ww (by omega), h.fr (hc.mono fun k _ x => h.ss x)⟩
end
end Go.Proofs.Ytgikbpaejmdnoaa

/-
  The wheel's New.
-/
namespace Go.Proofs.Ytgikbpaejmdnoaa
open Go.RowKit Go.Maps Go.WideMaps
set_option linter.unusedVariables false
set_option maxRecDepth 20000

theorem WH.begin (w : World) : WH (w.heap.size + 1) w.heap.size w.heap.size (.slice none 0 0) (fun _ => ⟨0, (0, 0)⟩) 0 (.map []) ((w.alloc (.map #[] 0)).alloc (.cells #[.slice none 0 0, .map (some w.heap.size)] 94)) [] := by
  have hs : (w.alloc (.map #[] 0)).heap.size = w.heap.size + 1 := by simp
  refine ⟨⟨?_, ?_, fun i hi => by omega, fun i j hi => by omega, fun i hi => by omega⟩, keeps_nil _, (World.ownsMap_made w _ _ _).alloc _, fun id => ?_, fun i hi => by omega, rfl, by omega, Nat.le_refl _, fun i hi => by omega⟩
  · unfold RowIs
    rw [← hs, heap_alloc_new]
  · exact World.ownsRow_nil _ _ _ _
  · constructor
    · intro h; simp [Maps.has] at h
    · rintro ⟨i, hi, _⟩; omega
theorem makeW (u : World) : (Instr.makeMap 90 none).run Try.prog u = .ok (.map (some u.heap.size)) (u.alloc (.map #[] 0)) := by kernel_rfl
set_option maxHeartbeats 1000000 in
set_option maxRecDepth 100000 in
theorem wwnew_any (w : World) : Calls Try.prog 18 #[] w fun e w' => ∃ b, e = .returned (.pointer (some ⟨b, 0, none⟩)) ∧ WW w.heap.size b w' [] ∧ Below w.heap.size w w' := by
  have hm := makeW
  have H0 := hid ((WH.begin w).ww (by omega))
  have HB : Hid (Below w.heap.size w ((w.alloc (.map #[] 0)).alloc (.cells #[.slice none 0 0, .map (some w.heap.size)] 94))) := ((Below.refl _ w).alloc (Nat.le_refl _) _).alloc (by simp) _
  go_enter Try.func18, Try.ntmps18
  go_wp2
  go_ret
  exact ⟨_, rfl, H0.out, HB.out⟩
end Go.Proofs.Ytgikbpaejmdnoaa

/-
  A wheel from outside, its map's block told: what its calls leave as it was, maps too.
-/
namespace Go.Proofs.Ytgikbpaejmdnoaa
open Go.RowKit Go.Maps Go.WideMaps
set_option linter.unusedVariables false
set_option maxRecDepth 20000

/-- The wheel at b, whose map lies at m, in blocks from B on, keeps the row l. -/
def WWm (m B b : Nat) (w : World) (l : List Tm) : Prop := ∃ v f n D, WH b m B v f n D w l ∧ n ≤ 4096
/-- What a wheel's call leaves: also every map but its own. -/
structure FrM (m B : Nat) (w w' : World) : Prop where
  fr : Fr B w w'
  map : ∀ (k : Nat) (es : Array MapEntry) (c : Nat), k ≠ m → w.heap[k]? = some (Obj.map es c) → w'.heap[k]? = some (Obj.map es c)
section
variable {bw m B : Nat} {v : Value} {f : Nat → It} {n : Nat} {D : DataW Unit} {w w' : World} {l : List Tm}
theorem WH.frm (h : WH bw m B v f n D w l) (hc : Chg (SS B bw m f n w) w w') : FrM m B w w' := by
  refine ⟨h.fr hc, fun k es c hk hh => ?_⟩
  rw [hc.block k (Array.getElem?_eq_some_iff.1 hh).1]
  · exact hh
  · rintro ⟨_, rfl | rfl | ⟨i, hi, rfl⟩ | ⟨cs', e'⟩⟩
    · exact hk rfl
    · have := h.q.wheel
      unfold RowIs at this
      rw [this] at hh; simp at hh
    · have := h.q.item i hi
      unfold RowIs at this
      rw [this] at hh; simp at hh
    · rw [e'] at hh; simp at hh
theorem FrM.own {P : Program} {k : TypeId} {R : Value → Option (DataW Unit × List MemPlace)} {b N : Nat} {D : DataW Unit} (hf : FrM m B w w') (h : w.ownsMap P k R b N D) (hb : b ≠ m) : w'.ownsMap P k R b N D := by
  obtain ⟨es, clock, hh, F, hs, rfl⟩ := h
  exact ⟨es, clock, hf.map b es clock hb hh, F, hs, rfl⟩
theorem WWm.row (h : WWm m B bw w l) : Row9 l ∧ l.length ≤ 4096 := by
  obtain ⟨v, f, n, D, h, hn⟩ := h
  exact ⟨h.k.row, by rw [h.k.len]; exact hn⟩
theorem WWm.lo (h : WWm m B bw w l) : B ≤ w.heap.size := by
  obtain ⟨v, f, n, D, h, hn⟩ := h
  exact Nat.le_trans h.wlo (Nat.le_of_lt (Array.getElem?_eq_some_iff.1 h.q.wheel).1)
theorem WWm.lt (h : WWm m B bw w l) : m < w.heap.size ∧ B ≤ m := by
  obtain ⟨v, f, n, D, h, hn⟩ := h
  exact ⟨h.mp.lt, h.mlo⟩
/-- What changes only blocks that are none of a wheel's keeps it. -/
theorem WWm.chg {S : Nat → Prop} (h : WWm m B bw w l) (hc : Chg S w w') (hn : ∀ k, B ≤ k → S k → k ≠ m ∧ ∀ cs e x, w.heap[k]? = some (Obj.cells cs e x) → e ≠ 94 ∧ e ≠ 98 ∧ e ≠ 99) : WWm m B bw w' l := by
  obtain ⟨v, f, n, D, h, h4⟩ := h
  refine ⟨v, f, n, D, h.chg hc fun k hk hS => ?_, h4⟩
  obtain ⟨hB, hs⟩ := h.ss hk
  obtain ⟨n0, n1⟩ := hn k hB hS
  rcases hs with rfl | rfl | ⟨i, hi, rfl⟩ | ⟨cs, e⟩
  · exact n0 rfl
  · have := h.q.wheel
    unfold RowIs at this
    exact (n1 _ _ _ this).1 rfl
  · have := h.q.item i hi
    unfold RowIs at this
    exact (n1 _ _ _ this).2.1 rfl
  · exact (n1 _ _ _ e).2.2 rfl
theorem WWm.below (h : WWm m B bw w l) (hb : Below w.heap.size w w') : WWm m B bw w' l := by
  obtain ⟨v, f, n, D, h, h4⟩ := h
  exact ⟨v, f, n, D, h.chg (S := fun k => w.heap.size ≤ k) ⟨hb.os, hb.tape, hb.output, hb.size, fun k _ hn => hb.block k (by omega)⟩ (fun k hk h2 => by have := (h.ws_lt hk).2; omega), h4⟩
theorem wmset_any (h : WWm m B bw w l) {id a : Int} (hwf : (Lit.int .i64 id).wf = true) :
    Calls Try.prog 37 #[.pointer (some ⟨bw, 0, none⟩), .int .i64 id, .int .i64 a] w fun e w' => e = .returned (.int .i64 (setE l id a)) ∧ WWm m B bw w' (setR l id a) ∧ FrM m B w w' := by
  obtain ⟨v, f, n, D, h, hn⟩ := h
  refine (set_any h hwf hn).mono ?_
  rintro e w' ⟨rfl, v', f', n', D', h', hn', hc⟩
  exact ⟨rfl, ⟨v', f', n', D', h', hn'⟩, h.frm hc⟩
set_option maxHeartbeats 1000000 in
set_option maxRecDepth 100000 in
theorem wmnew_any (w : World) : Calls Try.prog 18 #[] w fun e w' => e = .returned (.pointer (some ⟨w.heap.size + 1, 0, none⟩)) ∧ w' = (w.alloc (.map #[] 0)).alloc (.cells #[.slice none 0 0, .map (some w.heap.size)] 94) := by
  have hm := makeW
  go_enter Try.func18, Try.ntmps18
  go_wp2
  go_ret
  exact ⟨rfl, rfl⟩
theorem WWm.begin (w : World) : WWm w.heap.size w.heap.size (w.heap.size + 1) ((w.alloc (.map #[] 0)).alloc (.cells #[.slice none 0 0, .map (some w.heap.size)] 94)) [] := ⟨_, _, _, _, WH.begin w, by omega⟩
end
end Go.Proofs.Ytgikbpaejmdnoaa

/-
  The wheel's Set of a timer that is there, and Stop: none of its blocks is made anew. A wheel from outside, its blocks below a bound.
-/
namespace Go.Proofs.Ytgikbpaejmdnoaa
open Go.RowKit Go.Maps Go.WideMaps
set_option linter.unusedVariables false
set_option maxRecDepth 20000

section
variable {bw m B U : Nat} {v : Value} {f : Nat → It} {n : Nat} {D : DataW Unit} {w w' : World} {l : List Tm}
/-- A wheel behind a call that made none of its blocks anew. -/
def WSame (B bw m : Nat) (v : Value) (f : Nat → It) (n : Nat) (w w' : World) (l' : List Tm) : Prop := ∃ v' f' n' D', WH bw m B v' f' n' D' w' l' ∧ n' ≤ n ∧ (∀ k, WS bw m v' f' n' k → WS bw m v f n k) ∧ Chg (WS bw m v f n) w w'
set_option maxHeartbeats 4000000 in
set_option maxRecDepth 100000 in
theorem move_ws (h : WH bw m B v f n D w l) {i : Nat} {a : Int} (hi : i < n) (hn : n ≤ 4096) :
    Calls Try.prog 42 #[.pointer (some ⟨bw, 0, none⟩), .pointer (some ⟨(f i).blk, 0, none⟩), .int .i64 a] w fun e w' => e = .returned (.tuple #[]) ∧ WSame B bw m v f n w w' (setT l (f i).tm.2 a) := by
  have c0 := (h.q.item i hi).cell 0 (by simp [itemL])
  have f0 := (h.q.item i hi).frozen 0
  have cp := ((h.q.item i hi).set 0 (.int .i64 a)).cell 2 (by simp [itemL])
  simp only [itemL, List.getElem_cons_zero, List.getElem_cons_succ, List.set_cons_zero] at c0 cp
  have HQ1 := hid (h.q.retime hi a)
  have KF := hid (fun (w' : World) (hq : HQ bw m B v w' (putF f i ⟨(f i).blk, (a, (f i).tm.2)⟩) n) => hfix_any hq hi (by omega))
  have HF := hid (fun (f' : Nat → It) (w' : World) x y z u => h.fix (f' := f') (w' := w') (a := a) hi x y z u)
  have NO := hid h.no2
  have MO := hid (h.mp.setCell (a := ⟨(f i).blk, 0, none⟩) (fun e => NO.out (.inr (.inr (.inr ⟨i, hi, e.symm⟩)))) (.int .i64 a))
  clear h
  unfold hV at KF
  go_enter Try.func42, Try.ntmps42
  go_wp2
  go_region_law (go_simp; go_at_call 46; refine (KF.out _ HQ1.out.drew).mono ?_; rintro e w1 ⟨rfl, f1, hq1, hre1, hh1, hc1⟩)
  go_wp2
  go_end0
  have hb : ∀ j, (putF f i ⟨(f i).blk, (a, (f i).tm.2)⟩ j).blk = (f j).blk := fun j => by
    by_cases e' : j = i
    · subst e'; rw [put_at]
    · rw [put_ne _ _ e']
  have hS : ∀ k, HS v (putF f i ⟨(f i).blk, (a, (f i).tm.2)⟩) n k → HS v f n k := fun k x => by
    rcases x with x | ⟨j, hj, e⟩
    · exact .inl x
    · exact .inr ⟨j, hj, by rw [← hb j]; exact e⟩
  have hS1 : ∀ k, HS v f1 n k → HS v f n k := fun k x => by
    rcases x with x | ⟨j, hj, e⟩
    · exact .inl x
    · obtain ⟨c, hc, ec⟩ := (hre1.mem (f1 j)).1 ⟨j, hj, rfl⟩
      exact .inr ⟨c, hc, by rw [← hb c, ec]; exact e⟩
  refine ⟨rfl, v, f1, n, D, HF.out _ _ hq1 hre1 hh1 (own_chg MO.out.drew hc1 fun x => NO.out (.inr (.inr (hS _ x)))), Nat.le_refl _, fun k hk => ?_, ?_⟩
  · rcases hk with hk | hk | hk | hk
    · exact .inl hk
    · exact .inr (.inl hk)
    · exact .inr (.inr (.inl hk))
    · exact .inr (.inr (.inr (hS1 k hk)))
  · exact (((Chg.refl _ w).setCell (p := ⟨(f i).blk, 0, none⟩) (fun _ => .inr (.inr (.inr (.inr ⟨i, hi, rfl⟩)))) _).drew).step hc1 fun k _ x => .inr (.inr (.inr (hS k x)))
set_option maxHeartbeats 4000000 in
set_option maxRecDepth 100000 in
theorem set_ws (h : WH bw m B v f n D w l) {id a : Int} (hwf : (Lit.int .i64 id).wf = true) (hn : n ≤ 4096) (hx : ∃ i, i < n ∧ (f i).tm.2 = id) (hbad : ¬ badS id a) :
    Calls Try.prog 37 #[.pointer (some ⟨bw, 0, none⟩), .int .i64 id, .int .i64 a] w fun e w' => e = .returned (.int .i64 0) ∧ WSame B bw m v f n w w' (setT l id a) := by
  have cm := h.mapAt
  have MP := hid h.mp
  have KM := hid (made_any h)
  unfold badS at hbad
  have h1 : ¬ id < 0 := fun x => hbad (.inl x)
  have h2 : ¬ a < 0 := fun x => hbad (.inr (.inl x))
  have h3 : ¬ 1099511627776 < a := fun x => hbad (.inr (.inr x))
  clear hbad
  obtain ⟨i, hi, rfl⟩ := hx
  obtain ⟨g1, g2⟩ := h.hasOne hi
  have g3 := h.at' i hi
  have KV := hid (move_ws h (a := a) hi hn)
  clear h g2
  have H1 := hid g1
  have H3 := hid g3
  have HW := hid hwf
  clear g1 g3 hwf
  go_enter Try.func37, Try.ntmps37
  go_wp2_with (first
    | (go_at_call 39; refine KM.out.mono ?_; rintro e w0 ⟨rfl, hw0⟩; rw [hw0]; clear hw0)
    | (at_lookup; refine wp_look_has rfl _ _ rfl MP.out rfl rfl HW.out H1.out H3.out ?_)
    | (go_at_call 42; refine KV.out.mono ?_; rintro e w1 ⟨rfl, hw1⟩))
  go_ret
  exact ⟨rfl, hw1⟩
set_option maxHeartbeats 4000000 in
set_option maxRecDepth 100000 in
theorem stop_ws (h : WH bw m B v f n D w l) {id : Int} (hwf : (Lit.int .i64 id).wf = true) (hn : n ≤ 1000000) (hx : ∃ i, i < n ∧ (f i).tm.2 = id) :
    Calls Try.prog 40 #[.pointer (some ⟨bw, 0, none⟩), .int .i64 id] w fun e w' => e = .returned (.bool true) ∧ WSame B bw m v f n w w' (stopT l id) := by
  have cm := h.mapAt
  have MP := hid h.mp
  have KM := hid (made_any h)
  obtain ⟨i, hi, rfl⟩ := hx
  obtain ⟨n, rfl⟩ : ∃ k, n = k + 1 := ⟨n - 1, by omega⟩
  obtain ⟨h1, h2⟩ := h.hasOne hi
  have h3 := h.at' i hi
  have cp := (h.q.item i hi).cell 2 (by simp [itemL])
  simp only [itemL, List.getElem_cons_zero, List.getElem_cons_succ] at cp
  have KT := hid (take_any h hi hn)
  clear h h2
  have H1 := hid h1
  have H3 := hid h3
  have HW := hid hwf
  clear h1 h3 hwf
  go_enter Try.func40, Try.ntmps40
  go_wp2_with (first
    | (go_at_call 39; refine KM.out.mono ?_; rintro e w0 ⟨rfl, hw0⟩; rw [hw0]; clear hw0)
    | (at_lookup; refine wp_look_has rfl _ _ rfl MP.out rfl rfl HW.out H1.out H3.out ?_)
    | (go_at_call 45; refine KT.out.mono ?_; rintro e w1 ⟨rfl, v1, f1, D1, hw1, hs1, hc1⟩))
  go_ret
  exact ⟨rfl, v1, f1, n, D1, hw1, by omega, hs1, hc1⟩
/-- The wheel at b, whose map lies at m, in blocks from B on and below U, keeps the row l. -/
def WWq (m B U b : Nat) (w : World) (l : List Tm) : Prop := ∃ v f n D, WH b m B v f n D w l ∧ n ≤ 4096 ∧ ∀ k, WS b m v f n k → k < U
/-- What a wheel's call leaves: also every map but its own, and all from U on that was there. -/
structure FrU (m B U : Nat) (w w' : World) : Prop where
  frm : FrM m B w w'
  up : ∀ k, U ≤ k → k < w.heap.size → w'.heap[k]? = w.heap[k]?
theorem WWq.wm (h : WWq m B U bw w l) : WWm m B bw w l := by
  obtain ⟨v, f, n, D, h, hn, _⟩ := h
  exact ⟨v, f, n, D, h, hn⟩
theorem WWm.q (h : WWm m B bw w l) : WWq m B w.heap.size bw w l := by
  obtain ⟨v, f, n, D, h, hn⟩ := h
  exact ⟨v, f, n, D, h, hn, fun k hk => (h.ws_lt hk).2⟩
theorem WWq.mono {U' : Nat} (h : WWq m B U bw w l) (hu : U ≤ U') : WWq m B U' bw w l := by
  obtain ⟨v, f, n, D, h, hn, hk⟩ := h
  exact ⟨v, f, n, D, h, hn, fun k x => Nat.lt_of_lt_of_le (hk k x) hu⟩
theorem WWq.mU (h : WWq m B U bw w l) : m < U := by
  obtain ⟨v, f, n, D, h, hn, hk⟩ := h
  exact hk m (.inl rfl)
theorem WWq.chg {S : Nat → Prop} (h : WWq m B U bw w l) (hc : Chg S w w') (hn : ∀ k, B ≤ k → k < U → S k → k ≠ m ∧ ∀ cs e x, w.heap[k]? = some (Obj.cells cs e x) → e ≠ 94 ∧ e ≠ 98 ∧ e ≠ 99) : WWq m B U bw w' l := by
  obtain ⟨v, f, n, D, h, h4, hu⟩ := h
  refine ⟨v, f, n, D, h.chg hc fun k hk hS => ?_, h4, hu⟩
  obtain ⟨hB, hs⟩ := h.ss hk
  obtain ⟨n0, n1⟩ := hn k hB (hu k hk) hS
  rcases hs with rfl | rfl | ⟨i, hi, rfl⟩ | ⟨cs, e⟩
  · exact n0 rfl
  · have := h.q.wheel
    unfold RowIs at this
    exact (n1 _ _ _ this).1 rfl
  · have := h.q.item i hi
    unfold RowIs at this
    exact (n1 _ _ _ this).2.1 rfl
  · exact (n1 _ _ _ e).2.2 rfl
theorem WWq.out (h : WWq m B U bw w l) {w' : World} {l' : List Tm} (hs : ∀ v f n D, WH bw m B v f n D w l → n ≤ 4096 → WSame B bw m v f n w w' l') : WWq m B U bw w' l' ∧ FrU m B U w w' := by
  obtain ⟨v, f, n, D, h, h4, hu⟩ := h
  obtain ⟨v', f', n', D', h', hn', hsub, hc⟩ := hs v f n D h h4
  exact ⟨⟨v', f', n', D', h', by omega, fun k hk => hu k (hsub k hk)⟩, ⟨h.frm (hc.mono fun k _ x => h.ss x), fun k hk hlt => hc.block k hlt fun x => by have := hu k x; omega⟩⟩
theorem in_row (h : WH bw m B v f n D w l) {id : Int} (hx : ∃ t ∈ l, t.2 = id) : ∃ i, i < n ∧ (f i).tm.2 = id := by
  obtain ⟨t, ht, e⟩ := hx
  obtain ⟨i, hi, ei⟩ := (h.k.mem t).1 ht
  exact ⟨i, hi, by rw [ei]; exact e⟩
theorem wqset_has (h : WWq m B U bw w l) {id a : Int} (hwf : (Lit.int .i64 id).wf = true) (hx : ∃ t ∈ l, t.2 = id) (hbad : ¬ badS id a) :
    Calls Try.prog 37 #[.pointer (some ⟨bw, 0, none⟩), .int .i64 id, .int .i64 a] w fun e w' => e = .returned (.int .i64 0) ∧ WWq m B U bw w' (setT l id a) ∧ FrU m B U w w' := by
  obtain ⟨v, f, n, D, h, h4, hu⟩ := h
  refine (set_ws h hwf h4 (in_row h hx) hbad).mono ?_
  rintro e w' ⟨rfl, v', f', n', D', h', hn', hsub, hc⟩
  exact ⟨rfl, ⟨v', f', n', D', h', by omega, fun k hk => hu k (hsub k hk)⟩, ⟨h.frm (hc.mono fun k _ x => h.ss x), fun k hk hlt => hc.block k hlt fun x => by have := hu k x; omega⟩⟩
theorem wqstop_has (h : WWq m B U bw w l) {id : Int} (hwf : (Lit.int .i64 id).wf = true) (hx : ∃ t ∈ l, t.2 = id) :
    Calls Try.prog 40 #[.pointer (some ⟨bw, 0, none⟩), .int .i64 id] w fun e w' => e = .returned (.bool true) ∧ WWq m B U bw w' (stopT l id) ∧ FrU m B U w w' := by
  obtain ⟨v, f, n, D, h, h4, hu⟩ := h
  refine (stop_ws h hwf (by omega) (in_row h hx)).mono ?_
  rintro e w' ⟨rfl, v', f', n', D', h', hn', hsub, hc⟩
  exact ⟨rfl, ⟨v', f', n', D', h', by omega, fun k hk => hu k (hsub k hk)⟩, ⟨h.frm (hc.mono fun k _ x => h.ss x), fun k hk hlt => hc.block k hlt fun x => by have := hu k x; omega⟩⟩
/-- A new timer: blocks are made. -/
theorem wqset_new (h : WWq m B U bw w l) {id a : Int} (hwf : (Lit.int .i64 id).wf = true) (hbad : ¬ badS id a) (hlen : l.length < 4096) :
    Calls Try.prog 37 #[.pointer (some ⟨bw, 0, none⟩), .int .i64 id, .int .i64 a] w fun e w' => e = .returned (.int .i64 0) ∧ WWq m B w'.heap.size bw w' (setT l id a) ∧ FrU m B w.heap.size w w' := by
  refine (wmset_any h.wm (id := id) (a := a) hwf).mono ?_
  rintro e w' ⟨rfl, hw, hf⟩
  have e1 : setE l id a = 0 := by unfold setE; rw [if_neg hbad, if_neg (fun x => by omega)]
  have e2 : setR l id a = setT l id a := by unfold setR; rw [if_neg hbad, if_neg (fun x => by omega)]
  rw [e1]
  rw [e2] at hw
  exact ⟨rfl, hw.q, hf, fun k h1 h2 => by omega⟩
theorem wqnext_any (h : WWq m B U bw w l) :
    Calls Try.prog 27 #[.pointer (some ⟨bw, 0, none⟩)] w fun e w' => e = .returned (nextV l) ∧ Below w.heap.size w w' := by
  obtain ⟨v, f, n, D, h, hn, _⟩ := h
  exact next_any h
end
end Go.Proofs.Ytgikbpaejmdnoaa
