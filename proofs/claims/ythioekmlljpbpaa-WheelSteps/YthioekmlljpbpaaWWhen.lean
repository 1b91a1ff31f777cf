/-
  The wheel's When, Len and Next.
-/
import Derived.Test.YthioekmlljpbpaaWMap
namespace Go.Proofs.Ythioekmlljpbpaa
open Go.RowKit Go.Maps Go.WideMaps
set_option linter.unusedVariables false
set_option maxRecDepth 20000

section
variable {bw m B : Nat} {v : Value} {f : Nat → It} {n : Nat} {D : DataW Unit} {w : World} {l : List Tm}
theorem wp_look_has {ops : Array Oper} {rest : List Oper} {o : Oper} {a : Act} {Q : Exit → Act → World → Prop} (hg : o.guard = none) (x y : Operand) (hop : o.op = Op.lookup 61 x y true)
    (hown : w.ownsMap Try.prog 3 ptrE m n D) (hm : a.eval x = .map (some m)) {id : Int} (hx : a.eval y = .int .i64 id) (hwf : (Lit.int .i64 id).wf = true) {b : Nat} (hh : Maps.has D (idK id) = true) (hat : ∀ z, D.atKey (idK id) z = .lit (.int .i64 b))
    (hK : wpList Try.prog ops Q rest (a.put o.dst (.tuple #[.pointer (some ⟨b, 0, none⟩), .bool true])) w) : wpList Try.prog ops Q (o :: rest) a w := by
  refine wpList_lookup_own_ok w hg x y 61 hop 3 66 keyI Try.underlying61 ptrE (zeroPtr w) (.lit (.int .i64 (-1))) [] rfl m n D hm hown _ (idK id) hx (key_int hwf) ?_
  intro v ps hv
  rw [hat] at hv
  obtain rfl := ptrE_inv hv
  rw [hh]; exact hK
theorem wp_look_no {ops : Array Oper} {rest : List Oper} {o : Oper} {a : Act} {Q : Exit → Act → World → Prop} (hg : o.guard = none) (x y : Operand) (hop : o.op = Op.lookup 61 x y true)
    (hown : w.ownsMap Try.prog 3 ptrE m n D) (hm : a.eval x = .map (some m)) {id : Int} (hx : a.eval y = .int .i64 id) (hwf : (Lit.int .i64 id).wf = true) (hh : Maps.has D (idK id) = false)
    (hK : wpList Try.prog ops Q rest (a.put o.dst (.tuple #[.pointer none, .bool false])) w) : wpList Try.prog ops Q (o :: rest) a w := by
  refine wpList_lookup_own_ok w hg x y 61 hop 3 66 keyI Try.underlying61 ptrE (zeroPtr w) (.lit (.int .i64 (-1))) [] rfl m n D hm hown _ (idK id) hx (key_int hwf) ?_
  intro v ps hv
  rw [Maps.atKey_of_not_has hh] at hv
  obtain rfl := ptrE_nil hv
  rw [hh]; exact hK
theorem WH.hasNot (h : WH bw m B v f n D w l) {id : Int} (hno : ¬ ∃ i, i < n ∧ (f i).tm.2 = id) : Maps.has D (idK id) = false ∧ whenT l id = none := by
  constructor
  · cases e : Maps.has D (idK id) with
    | false => rfl
    | true => exact absurd ((h.has id).1 e) hno
  · rw [when_none]
    intro t ht e
    obtain ⟨i, hi, he⟩ := (h.k.mem t).1 ht
    exact hno ⟨i, hi, by rw [he]; exact e⟩
theorem WH.hasOne (h : WH bw m B v f n D w l) {i : Nat} (hi : i < n) : Maps.has D (idK (f i).tm.2) = true ∧ whenT l (f i).tm.2 = some (f i).tm.1 :=
  ⟨(h.has _).2 ⟨i, hi, rfl⟩, (when_iff h.k.row _ _).2 ((h.k.mem _).2 ⟨i, hi, rfl⟩)⟩
theorem cellB {B : Nat} {w w' : World} (h : Below B w w') {a : Addr} (ha : a.block < B) {v : Value} (hc : w.cell? a = some v) : w'.cell? a = some v := by
  rw [World.cell?_of_block (h.block a.block ha)]; exact hc
theorem WH.mapAt (h : WH bw m B v f n D w l) : w.cell? ⟨bw, 1, none⟩ = some (.map (some m)) := h.q.wheel.cell 1 (by simp)

set_option maxHeartbeats 4000000 in
set_option maxRecDepth 100000 in
theorem made_any (h : WH bw m B v f n D w l) :
    Calls Try.prog 25 #[.pointer (some ⟨bw, 0, none⟩)] w fun e w' => e = .returned (.bool true) ∧ w' = w := by
  have cm := h.mapAt
  have q61 : ∀ (w : World) (r : Option Nat), (binOp .neq 61 (.map r) (.map none)).run Try.prog w = .ok (.bool (!r.isNone)) w := fun w r => run_neq_map_nil w _ _ _ r Try.underlying61
  clear h
  go_enter Try.func25, Try.ntmps25
  go_wp2
  go_ret
  exact ⟨rfl, rfl⟩

def whenV (l : List Tm) (id : Int) : Value := match whenT l id with | some a => .tuple #[.int .i64 a, .bool true] | none => .tuple #[.int .i64 0, .bool false]
set_option maxHeartbeats 4000000 in
set_option maxRecDepth 100000 in
theorem when_any (h : WH bw m B v f n D w l) {id : Int} (hwf : (Lit.int .i64 id).wf = true) :
    Calls Try.prog 10 #[.pointer (some ⟨bw, 0, none⟩), .int .i64 id] w fun e w' => e = .returned (whenV l id) ∧ w' = w := by
  have cm := h.mapAt
  have MP := hid h.mp
  have KM := hid (made_any h)
  by_cases hx : ∃ i, i < n ∧ (f i).tm.2 = id
  · obtain ⟨i, hi, rfl⟩ := hx
    obtain ⟨h1, h2⟩ := h.hasOne hi
    have h3 := h.at' i hi
    have ca := (h.q.item i hi).cell 0 (by simp [itemL])
    simp only [itemL, List.getElem_cons_zero] at ca
    unfold whenV
    rw [h2]
    clear h h2
    have H1 := hid h1
    have H3 := hid h3
    have HW := hid hwf
    clear h1 h3 hwf
    go_enter Try.func10, Try.ntmps10
    go_wp2_with (first
      | (go_at_call 25; refine KM.out.mono ?_; rintro e w0 ⟨rfl, hw0⟩; rw [hw0]; clear hw0)
      | (at_lookup; refine wp_look_has rfl _ _ rfl MP.out rfl rfl HW.out H1.out H3.out ?_))
    go_ret2
    exact ⟨rfl, rfl⟩
  · obtain ⟨h1, h2⟩ := h.hasNot hx
    unfold whenV
    rw [h2]
    clear h h2 hx
    have H1 := hid h1
    have HW := hid hwf
    clear h1 hwf
    go_enter Try.func10, Try.ntmps10
    go_wp2_with (first
      | (go_at_call 25; refine KM.out.mono ?_; rintro e w0 ⟨rfl, hw0⟩; rw [hw0]; clear hw0)
      | (at_lookup; refine wp_look_no rfl _ _ rfl MP.out rfl rfl HW.out H1.out ?_))
    go_ret2
    exact ⟨rfl, rfl⟩

set_option maxHeartbeats 4000000 in
set_option maxRecDepth 100000 in
theorem wlen_n (h : WH bw m B v f n D w l) :
    Calls Try.prog 22 #[.pointer (some ⟨bw, 0, none⟩)] w fun e w' => e = .returned (.int .i64 n) ∧ w' = w := by
  have KM := hid (made_any h)
  have cq := h.q.at
  obtain ⟨ao, cap, hv⟩ := h.q.form
  rw [hv] at cq
  clear h hv
  go_enter Try.func22, Try.ntmps22
  go_wp2_with (go_at_call 25; refine KM.out.mono ?_; rintro e w0 ⟨rfl, hw0⟩; rw [hw0]; clear hw0)
  go_ret
  exact ⟨rfl, rfl⟩
theorem wlen_any (h : WH bw m B v f n D w l) :
    Calls Try.prog 22 #[.pointer (some ⟨bw, 0, none⟩)] w fun e w' => e = .returned (.int .i64 l.length) ∧ w' = w := by
  rw [h.k.len]; exact wlen_n h

theorem two_new (w : World) (a b : Int) : (w.alloc (.cells #[.int .i64 a, .int .i64 b] 49)).cell? ⟨w.heap.size, 0, none⟩ = some (.int .i64 a) ∧ (w.alloc (.cells #[.int .i64 a, .int .i64 b] 49)).cell? ⟨w.heap.size, 1, none⟩ = some (.int .i64 b) := by
  have h : RowIs (w.alloc (.cells #[.int .i64 a, .int .i64 b] 49)) w.heap.size 49 [.int .i64 a, .int .i64 b] := by unfold RowIs; rw [heap_alloc_new]
  exact ⟨h.cell 0 (by simp), h.cell 1 (by simp)⟩
def nextV (l : List Tm) : Value := match l with | t :: _ => .tuple #[.agg #[.int .i64 t.1, .int .i64 t.2], .bool true] | [] => .tuple #[.agg #[.int .i64 0, .int .i64 0], .bool false]
set_option maxHeartbeats 4000000 in
set_option maxRecDepth 100000 in
theorem next_any (h : WH bw m B v f n D w l) :
    Calls Try.prog 24 #[.pointer (some ⟨bw, 0, none⟩)] w fun e w' => e = .returned (nextV l) ∧ Below w.heap.size w w' := by
  have cq := h.q.at
  have KL := hid (fun (o : Obj) => wlen_n (h.new o))
  obtain ⟨ao, cap, hv⟩ := h.q.form
  have bwl : bw < w.heap.size := (Array.getElem?_eq_some_iff.1 h.q.wheel).1
  cases l with
  | nil =>
    have hn := h.k.empty
    subst hn
    rw [hv] at cq
    have cq1 := fun o => cellB (a := ⟨bw, 0, none⟩) ((Below.refl w.heap.size w).alloc (Nat.le_refl _) o) bwl cq
    have hb := (Below.refl w.heap.size w).alloc (Nat.le_refl _) (.cells #[.int .i64 0, .int .i64 0] 49)
    have hz := two_new w 0 0
    clear h
    go_enter Try.func24, Try.ntmps24
    go_wp2_with (go_at_call 22; refine (KL.out _).mono ?_; rintro e w0 ⟨rfl, hw0⟩; rw [hw0]; clear hw0)
    refine bodyPost_ret (v := .tuple #[.agg #[.int .i64 0, .int .i64 0], .bool false]) (by simp [results, Try.results24, go_sem, hz.1, hz.2]) rfl ⟨rfl, hb⟩
  | cons t l =>
    obtain ⟨hn, ht⟩ := h.k.first
    obtain ⟨g, cap', hv'⟩ := h.q.block hn
    have hq := h.q
    rw [hv'] at hq cq
    have c0 := hq.cell 0 hn
    have a0 := (hq.item 0 hn).cell 0 (by simp [itemL])
    have a1 := (hq.item 0 hn).cell 1 (by simp [itemL])
    simp only [itemL, ptrV, List.getElem_cons_zero, List.getElem_cons_succ] at c0 a0 a1
    rw [ht] at a0 a1
    have bl : (f 0).blk < w.heap.size := (Array.getElem?_eq_some_iff.1 (hq.item 0 hn)).1
    have gl : g < w.heap.size := World.block_lt_of_cell? w ⟨g, 0, none⟩ c0
    have BA := fun o => (Below.refl w.heap.size w).alloc (Nat.le_refl _) o
    have cq1 := fun o => cellB (a := ⟨bw, 0, none⟩) (BA o) bwl cq
    have c01 := fun o => cellB (a := ⟨g, 0, none⟩) (BA o) gl c0
    have a01 := fun o => cellB (a := ⟨(f 0).blk, 0, none⟩) (BA o) bl a0
    have a11 := fun o => cellB (a := ⟨(f 0).blk, 1, none⟩) (BA o) bl a1
    have hn0 : ((n : Int) == 0) = false := by rw [beq_eq_false_iff_ne]; omega
    have hni : (0 : Int) < n := by omega
    have hnn : ¬ n = 0 := by omega
    clear h hq hv hv'
    go_enter Try.func24, Try.ntmps24
    go_wp2_with (go_at_call 22; refine (KL.out _).mono ?_; rintro e w0 ⟨rfl, hw0⟩; rw [hw0]; clear hw0)
    have hz := two_new w t.1 t.2
    refine bodyPost_ret (v := .tuple #[.agg #[.int .i64 t.1, .int .i64 t.2], .bool true]) (by simp [results, Try.results24, go_sem, hz.1, hz.2]) rfl ⟨rfl, BA _⟩
end
end Go.Proofs.Ythioekmlljpbpaa
