/-
  Base texts, one behind another: WQ, WQLess, WQSwap, WQM, WQUp, WQDown, WQPush, WQPop, WQHeap, WQFix.
-/
import Derived.Test.YtgikbpaejmdnoaaWA
import Derived.Test.YtgikbpaejmdnoaaRow
import Derived.BigQuiet

/-
  A heap of timers in memory: the row of pointers, the items, and the record that holds the row.
-/
namespace Go.Proofs.Ytgikbpaejmdnoaa
open Go.RowKit
set_option linter.unusedVariables false
set_option maxRecDepth 20000

/-- A world changed at the blocks of S alone, what is new aside. -/
structure Chg (S : Nat → Prop) (w w' : World) : Prop where
  os : w'.os = w.os
  tape : w'.tape = w.tape
  output : w'.output = w.output
  size : w.heap.size ≤ w'.heap.size
  block : ∀ k, k < w.heap.size → ¬ S k → w'.heap[k]? = w.heap[k]?
theorem Chg.refl (S : Nat → Prop) (w : World) : Chg S w w := ⟨rfl, rfl, rfl, Nat.le_refl _, fun _ _ _ => rfl⟩
theorem Chg.drew {S : Nat → Prop} {a w : World} (h : Chg S a w) : Chg S a w.drew := ⟨h.os, h.tape, h.output, h.size, h.block⟩
theorem Chg.step {S S' : Nat → Prop} {a b c : World} (h : Chg S a b) (k : Chg S' b c) (hs : ∀ i, i < a.heap.size → S' i → S i) : Chg S a c :=
  ⟨k.os.trans h.os, k.tape.trans h.tape, k.output.trans h.output, Nat.le_trans h.size k.size, fun i hi hn => (k.block i (Nat.lt_of_lt_of_le hi h.size) (fun x => hn (hs i hi x))).trans (h.block i hi hn)⟩
theorem Chg.trans {S : Nat → Prop} {a b c : World} (h : Chg S a b) (k : Chg S b c) : Chg S a c := h.step k fun _ _ x => x
theorem Chg.mono {S S' : Nat → Prop} {a b : World} (h : Chg S a b) (hs : ∀ i, i < a.heap.size → S i → S' i) : Chg S' a b := ⟨h.os, h.tape, h.output, h.size, fun k hk hn => h.block k hk fun x => hn (hs k hk x)⟩
theorem Chg.setCell {S : Nat → Prop} {a w : World} (h : Chg S a w) {p : Addr} (hp : p.block < a.heap.size → S p.block) (u : Value) : Chg S a (w.setCell p u) :=
  ⟨h.os, h.tape, h.output, by simpa [World.setCell] using h.size, fun k hk hn => by
    rw [Below.heap_setCell w p u k (fun e => by subst e; exact hn (hp hk))]; exact h.block k hk hn⟩
theorem Chg.alloc {S : Nat → Prop} {a w : World} (h : Chg S a w) (o : Obj) : Chg S a (w.alloc o) :=
  ⟨h.os, h.tape, h.output, Nat.le_trans h.size (by simp), fun k hk hn => by rw [Below.heap_alloc _ _ _ (Nat.lt_of_lt_of_le hk h.size)]; exact h.block k hk hn⟩
theorem Chg.grown {S : Nat → Prop} {a w w' : World} {row : Option Nat} (h : Chg S a w) (hg : w.grownBy w' row) (hr : ∀ k, row = some k → k < a.heap.size → S k) : Chg S a w' :=
  ⟨hg.os.trans h.os, hg.tape.trans h.tape, hg.output.trans h.output, Nat.le_trans h.size hg.size, fun k hk hn => (hg.block k (Nat.lt_of_lt_of_le hk h.size) (fun e => hn (hr k e.symm hk))).trans (h.block k hk hn)⟩
theorem Chg.below {S : Nat → Prop} {w w' : World} {B : Nat} (h : Chg S w w') (hB : B ≤ w.heap.size) (hS : ∀ k, S k → B ≤ k) : Below B w w' :=
  ⟨h.os, h.tape, h.output, h.size, fun k hk => h.block k (by omega) (fun hs => by have := hS k hs; omega)⟩
theorem chg_below {S : Nat → Prop} {w w' : World} (h : Below w.heap.size w w') : Chg S w w' := ⟨h.os, h.tape, h.output, h.size, fun k hk _ => h.block k hk⟩
theorem RowIs.chg {S : Nat → Prop} {w w' : World} {b : Nat} {e : TypeId} {l : List Value} (h : RowIs w b e l) (hc : Chg S w w') (hn : ¬ S b) : RowIs w' b e l := by
  unfold RowIs at *
  rw [hc.block b (Array.getElem?_eq_some_iff.1 h).1 hn]; exact h
theorem RowIs.other {w : World} {b g j : Nat} {e : TypeId} {l : List Value} (h : RowIs w b e l) (hne : b ≠ g) (x : Value) : RowIs (w.setCell ⟨g, j, none⟩ x) b e l := by
  unfold RowIs at *
  rw [Below.heap_setCell _ _ _ _ hne]; exact h
theorem own_other {w : World} {B b j : Nat} {e : TypeId} {v : Value} {xs : List Value} (h : Own w B e v xs) (hne : v.ownBlock ≠ some b) (x : Value) : Own (w.setCell ⟨b, j, none⟩ x) B e v xs := by
  obtain ⟨h1, h2⟩ := h
  refine ⟨h1, ?_⟩
  rcases h2 with h2 | ⟨g, cap, cur, hv, hg, hh, r⟩
  · exact Or.inl h2
  · subst hv
    exact Or.inr ⟨g, cap, cur, rfl, hg, by rw [Below.heap_setCell _ _ _ _ (fun e => hne (by simp [Value.ownBlock]; exact e))]; exact hh, r⟩
theorem own_cell {w : World} {B g cap n : Nat} {e : TypeId} {xs : List Value} (h : Own w B e (.slice (some ⟨g, 0, none⟩) n cap) xs) (i : Nat) (hi : i < xs.length) : w.cell? ⟨g, i, none⟩ = some xs[i] := by
  rcases h.2 with ⟨h2, _⟩ | ⟨g', cap', cur, hv, hb, hg, hnc, hcm, hcs, ht⟩
  · cases h2
  · simp only [Value.slice.injEq, Option.some.injEq, Addr.mk.injEq, and_true] at hv
    obtain ⟨rfl, _, rfl⟩ := hv
    have : cur[i]? = some xs[i] := by
      rw [← Array.getElem?_toList]
      have e : (cur.toList.take (xs.length * 1))[i]? = some xs[i] := by rw [ht]; simp [hi]
      rw [List.getElem?_take] at e
      rwa [if_pos (by omega)] at e
    simp [World.cell?, hg, this]
theorem ownq_set {w : World} {B : Nat} {e : TypeId} {g cap n : Nat} {xs : List Value} (h : Own w B e (.slice (some ⟨g, 0, none⟩) n cap) xs) (i : Nat) (x : Value) : Own (w.setCell ⟨g, i, none⟩ x) B e (.slice (some ⟨g, 0, none⟩) n cap) (xs.set i x) := by
  obtain ⟨h1, h2⟩ := h
  rcases h2 with ⟨h2, _⟩ | ⟨g', cap', cur, hv, hb, hg, hnc, hcm, hcs, ht⟩
  · cases h2
  · simp only [Value.slice.injEq, Option.some.injEq, Addr.mk.injEq, and_true] at hv
    obtain ⟨rfl, hn, rfl⟩ := hv
    refine ⟨by simp, Or.inr ⟨g, cap, cur.setIfInBounds i x, by rw [List.length_set, hn], hb, heap_setCell_same w g i cur e x hg, by simpa using hnc, hcm, by simpa using hcs, ?_⟩⟩
    rw [Array.toList_setIfInBounds, List.take_set, List.length_set, ht]
theorem ownq_frozen {w : World} {B : Nat} {e : TypeId} {g cap n : Nat} {xs : List Value} (h : Own w B e (.slice (some ⟨g, 0, none⟩) n cap) xs) (i : Nat) : w.frozen? ⟨g, i, none⟩ = false := by
  rcases h.2 with ⟨h2, _⟩ | ⟨g', cap', cur, hv, hb, hg, _⟩
  · cases h2
  · simp only [Value.slice.injEq, Option.some.injEq, Addr.mk.injEq, and_true] at hv
    obtain ⟨rfl, _⟩ := hv
    simp [World.frozen?, hg]
theorem own_block_ne {w : World} {B b : Nat} {e e' : TypeId} {v : Value} {xs l : List Value} (h : Own w B e v xs) (hr : RowIs w b e' l) (hne : e ≠ e') : v.ownBlock ≠ some b := by
  rcases h.2 with ⟨rfl, _⟩ | ⟨g, cap, cur, rfl, _, hg, _⟩
  · simp [Value.ownBlock]
  · simp only [Value.ownBlock, ne_eq, Option.some.injEq]
    rintro rfl
    unfold RowIs at hr
    rw [hr] at hg
    simp at hg
    exact hne hg.2.symm
theorem row_block_ne {w : World} {b c : Nat} {e e' : TypeId} {l l' : List Value} (h : RowIs w b e l) (hr : RowIs w c e' l') (hne : e ≠ e') : b ≠ c := by
  rintro rfl
  unfold RowIs at *
  rw [hr] at h
  simp at h
  exact hne h.2.symm

def ptrV (x : It) : Value := .pointer (some ⟨x.blk, 0, none⟩)
def ptrs (f : Nat → It) (n : Nat) : List Value := (List.range n).map fun i => ptrV (f i)
theorem ptrs_len (f : Nat → It) (n : Nat) : (ptrs f n).length = n := by simp [ptrs]
theorem ptrs_at (f : Nat → It) (n i : Nat) (h : i < n) : (ptrs f n)[i]'(by rw [ptrs_len]; exact h) = ptrV (f i) := by simp [ptrs]
theorem ptrs_succ (f : Nat → It) (n : Nat) : ptrs f (n + 1) = ptrs f n ++ [ptrV (f n)] := by simp [ptrs, List.range_succ]
theorem ptrs_congr {f g : Nat → It} {n : Nat} (h : ∀ i, i < n → g i = f i) : ptrs g n = ptrs f n := by
  unfold ptrs; apply List.map_congr_left; intro i hi; rw [h i (List.mem_range.1 hi)]
theorem ptrs_swap (f : Nat → It) (n : Nat) {i j : Nat} (hi : i < n) (hj : j < n) : ((ptrs f n).set i (ptrV (f j))).set j (ptrV (f i)) = ptrs (swapF f i j) n := by
  apply List.ext_getElem
  · simp [ptrs]
  · intro k h1 h2
    have hk : k < n := by rw [ptrs_len] at h2; exact h2
    rw [ptrs_at _ _ _ hk, List.getElem_set]
    by_cases e1 : j = k
    · subst e1; rw [if_pos rfl, swap_r]
    · rw [if_neg e1, List.getElem_set]
      by_cases e2 : i = k
      · subst e2; rw [if_pos rfl, swap_l]
      · rw [if_neg e2, swap_o f (fun h => e2 h.symm) (fun h => e1 h.symm), ptrs_at _ _ _ hk]
def itemL (x : It) (i : Nat) : List Value := [.int .i64 x.tm.1, .int .i64 x.tm.2, .int .i64 i]
/-- The first n items of f lie in a heap: the record at bw holds the row v of pointers (and the map m). -/
structure HQ (bw m B : Nat) (v : Value) (w : World) (f : Nat → It) (n : Nat) : Prop where
  wheel : RowIs w bw 94 [v, .map (some m)]
  own : Own w B 99 v (ptrs f n)
  item : ∀ i, i < n → RowIs w (f i).blk 98 (itemL (f i) i)
  inj : ∀ i j, i < n → j < n → (f i).blk = (f j).blk → i = j
  lo : ∀ i, i < n → B ≤ (f i).blk
/-- The blocks of a heap. -/
def HS (v : Value) (f : Nat → It) (n : Nat) (k : Nat) : Prop := v.ownBlock = some k ∨ ∃ i, i < n ∧ (f i).blk = k
theorem HQ.drew {bw m B : Nat} {v : Value} {w : World} {f : Nat → It} {n : Nat} (h : HQ bw m B v w f n) : HQ bw m B v w.drew f n := ⟨h.wheel, h.own.drew, h.item, h.inj, h.lo⟩
theorem HQ.form {bw m B : Nat} {v : Value} {w : World} {f : Nat → It} {n : Nat} (h : HQ bw m B v w f n) : ∃ a cap, v = .slice a n cap := by
  have := h.own.form
  rw [ptrs_len] at this
  exact this
theorem HQ.block {bw m B : Nat} {v : Value} {w : World} {f : Nat → It} {n : Nat} (h : HQ bw m B v w f n) (hn : 0 < n) : ∃ g cap, v = .slice (some ⟨g, 0, none⟩) n cap := by
  rcases h.own.2 with ⟨_, h0⟩ | ⟨g, cap, cur, hv, _⟩
  · rw [ptrs_len] at h0; omega
  · rw [ptrs_len] at hv; exact ⟨g, cap, hv⟩
theorem HQ.cell {bw m B g cap : Nat} {w : World} {f : Nat → It} {n : Nat} (h : HQ bw m B (.slice (some ⟨g, 0, none⟩) n cap) w f n) (i : Nat) (hi : i < n) : w.cell? ⟨g, i, none⟩ = some (ptrV (f i)) := by
  have := own_cell h.own i (by rw [ptrs_len]; exact hi)
  rwa [ptrs_at _ _ _ hi] at this
theorem HQ.swap {bw m B g cap : Nat} {w : World} {f : Nat → It} {n : Nat} (h : HQ bw m B (.slice (some ⟨g, 0, none⟩) n cap) w f n) {i j : Nat} (hi : i < n) (hj : j < n) :
    HQ bw m B (.slice (some ⟨g, 0, none⟩) n cap) ((((w.setCell ⟨g, i, none⟩ (ptrV (f j))).setCell ⟨g, j, none⟩ (ptrV (f i))).setCell ⟨(f j).blk, 2, none⟩ (.int .i64 i)).setCell ⟨(f i).blk, 2, none⟩ (.int .i64 j)) (swapF f i j) n := by
  have hre := Re.swap f hi hj
  have gi : ∀ k, k < n → (f k).blk ≠ g := fun k hk e => own_block_ne h.own (h.item k hk) (by decide) (by rw [e]; rfl)
  have wg : bw ≠ g := fun e => own_block_ne h.own h.wheel (by decide) (by rw [e]; rfl)
  have wi : ∀ k, k < n → bw ≠ (f k).blk := fun k hk => row_block_ne h.wheel (h.item k hk) (by decide)
  refine ⟨(((h.wheel.other wg _).other wg _).other (wi j hj) _).other (wi i hi) _, ?_, ?_, hre.inj h.inj, ?_⟩
  · rw [← ptrs_swap f n hi hj]
    exact own_other (own_other (ownq_set (ownq_set h.own i _) j _) (fun e => gi j hj (by simpa [Value.ownBlock] using e.symm)) _) (fun e => gi i hi (by simpa [Value.ownBlock] using e.symm)) _
  · intro k hk
    have base : ∀ k, k < n → RowIs ((w.setCell ⟨g, i, none⟩ (ptrV (f j))).setCell ⟨g, j, none⟩ (ptrV (f i))) (f k).blk 98 (itemL (f k) k) := fun k hk => ((h.item k hk).other (gi k hk) _).other (gi k hk) _
    generalize (w.setCell ⟨g, i, none⟩ (ptrV (f j))).setCell ⟨g, j, none⟩ (ptrV (f i)) = W at base
    by_cases e2 : k = j
    · subst e2
      rw [swap_r]
      by_cases e1 : i = k
      · subst e1; exact ((base i hi).set 2 _).set 2 _
      · exact (((base i hi).other (fun e => e1 (h.inj i k hi hk e)) _).set 2 _)
    · by_cases e1 : k = i
      · subst e1
        rw [swap_l]
        exact (((base j hj).set 2 _).other (fun e => e2 (h.inj k j hk hj e.symm)) _)
      · rw [swap_o f e1 e2]
        exact ((base k hk).other (fun e => e2 (h.inj k j hk hj e)) _).other (fun e => e1 (h.inj k i hk hi e)) _
  · intro k hk
    obtain ⟨k', hk', he⟩ := (hre.mem (swapF f i j k)).1 ⟨k, hk, rfl⟩
    rw [← he]; exact h.lo k' hk'
end Go.Proofs.Ytgikbpaejmdnoaa

/-
  The heap's Less and Len.
-/
namespace Go.Proofs.Ytgikbpaejmdnoaa
open Go.RowKit
set_option linter.unusedVariables false
set_option maxRecDepth 20000

def No (_ : Nat) : Prop := False
set_option maxHeartbeats 4000000 in
set_option maxRecDepth 100000 in
theorem less_any {bw m B : Nat} {v : Value} {w : World} {f : Nat → It} {n : Nat} (h : HQ bw m B v w f n) {i j : Nat} (hi : i < n) (hj : j < n) :
    Calls Try.prog 68 #[v, .int .i64 i, .int .i64 j] w fun e w' => e = .returned (.bool (itLt (f i) (f j))) ∧ HQ bw m B v w' f n ∧ Chg No w w' := by
  obtain ⟨g, cap, rfl⟩ := h.block (by omega)
  have HH := hid h
  have ci := h.cell i hi
  have cj := h.cell j hj
  have ai := (h.item i hi).cell 0 (by simp [itemL])
  have bi := (h.item i hi).cell 1 (by simp [itemL])
  have aj := (h.item j hj).cell 0 (by simp [itemL])
  have bj := (h.item j hj).cell 1 (by simp [itemL])
  simp only [itemL, ptrV, List.getElem_cons_zero, List.getElem_cons_succ] at ci cj ai bi aj bj
  have ci1 : w.drew.cell? _ = _ := ci
  have cj1 : w.drew.cell? _ = _ := cj
  have ai1 : w.drew.cell? _ = _ := ai
  have aj1 : w.drew.cell? _ = _ := aj
  have bi1 : w.drew.cell? _ = _ := bi
  have bj1 : w.drew.cell? _ = _ := bj
  have hii : (i : Int) < n := by omega
  have hjj : (j : Int) < n := by omega
  have C1 := hid ((Chg.refl No w).drew.drew)
  have hlt : itLt (f i) (f j) = if (f i).tm.1 != (f j).tm.1 then decide ((f i).tm.1 < (f j).tm.1) else decide ((f i).tm.2 < (f j).tm.2) := by
    unfold itLt ahd
    by_cases e : (f i).tm.1 = (f j).tm.1
    · simp [e]
    · simp [e]
  rw [hlt]
  clear h hlt
  generalize (f i).tm.1 = x1 at *
  generalize (f j).tm.1 = y1 at *
  generalize (f i).tm.2 = x2 at *
  generalize (f j).tm.2 = y2 at *
  cases e : (x1 != y1) with
  | true =>
    go_enter Try.func68, Try.ntmps68
    go_wp2
    go_region
    all_goals go_wp2
    all_goals go_region
    all_goals go_wp2
    all_goals go_ret
    all_goals exact ⟨rfl, HH.out.drew.drew, C1.out⟩
  | false =>
    go_enter Try.func68, Try.ntmps68
    go_wp2
    go_region
    all_goals go_wp2
    all_goals go_region
    all_goals go_wp2
    all_goals go_ret
    all_goals exact ⟨rfl, HH.out.drew.drew, C1.out⟩

set_option maxHeartbeats 4000000 in
set_option maxRecDepth 100000 in
theorem qlen_any {bw m B : Nat} {v : Value} {w : World} {f : Nat → It} {n : Nat} (h : HQ bw m B v w f n) (hn : n ≤ 1000000) :
    Calls Try.prog 67 #[v] w fun e w' => e = .returned (.int .i64 n) ∧ w' = w := by
  obtain ⟨a, cap, rfl⟩ := h.form
  clear h
  go_enter Try.func67, Try.ntmps67
  go_wp2
  go_ret
  exact ⟨rfl, rfl⟩
end Go.Proofs.Ytgikbpaejmdnoaa

/-
  The heap's Swap.
-/
namespace Go.Proofs.Ytgikbpaejmdnoaa
open Go.RowKit
set_option linter.unusedVariables false
set_option maxRecDepth 20000

theorem cell_dr {w : World} {a : Addr} {v : Option Value} (h : w.cell? a = v) : w.drew.cell? a = v := h
set_option maxHeartbeats 4000000 in
set_option maxRecDepth 100000 in
theorem swap_any {bw m B : Nat} {v : Value} {w : World} {f : Nat → It} {n : Nat} (h : HQ bw m B v w f n) {i j : Nat} (hi : i < n) (hj : j < n) :
    Calls Try.prog 69 #[v, .int .i64 i, .int .i64 j] w fun e w' => e = .returned (.tuple #[]) ∧ HQ bw m B v w' (swapF f i j) n ∧ Chg (HS v f n) w w' := by
  obtain ⟨g, cap, rfl⟩ := h.block (by omega)
  have H4 := hid ((h.swap hi hj).drew.drew)
  have ci := h.cell i hi
  have cj := h.cell j hj
  have gi : ∀ k, k < n → (f k).blk ≠ g := fun k hk e => own_block_ne h.own (h.item k hk) (by decide) (by rw [e]; rfl)
  have fr := ownq_frozen h.own
  have o1 := ownq_set h.own i (ptrV (f j))
  have e1 : (w.setCell ⟨g, i, none⟩ (ptrV (f j))).cell? ⟨g, j, none⟩ = some (ptrV (f j)) := by
    have := own_cell o1 j (by simp [ptrs_len, hj])
    rw [List.getElem_set] at this
    rw [this, ptrs_at _ _ _ hj]
    split <;> rfl
  have o2 := ownq_set o1 j (ptrV (f i))
  have e2 := own_cell o2 i (by simp [ptrs_len, hi])
  have hsw := ptrs_swap f n hi hj
  simp only [hsw, ptrs_at _ _ _ hi, swap_l] at e2
  have it : ∀ k, k < n → RowIs ((w.setCell ⟨g, i, none⟩ (ptrV (f j))).setCell ⟨g, j, none⟩ (ptrV (f i))) (f k).blk 98 (itemL (f k) k) := fun k hk => ((h.item k hk).other (gi k hk) _).other (gi k hk) _
  have c2 := (it j hj).cell 2 (by simp [itemL])
  have fj := (h.item j hj).frozen 2
  have fi := (h.item i hi).frozen 2
  have e3 := own_cell o2 j (by simp [ptrs_len, hj])
  simp only [hsw, ptrs_at _ _ _ hj, swap_r] at e3
  have e2d := cell_dr e2
  have e3d := cell_dr e3
  obtain ⟨u3, c3⟩ : ∃ u, (((w.setCell ⟨g, i, none⟩ (ptrV (f j))).setCell ⟨g, j, none⟩ (ptrV (f i))).setCell ⟨(f j).blk, 2, none⟩ (.int .i64 i)).cell? ⟨(f i).blk, 2, none⟩ = some u := by
    by_cases e : i = j
    · subst e; exact ⟨_, ((it i hi).set 2 (.int .i64 i)).cell 2 (by simp [itemL])⟩
    · exact ⟨_, ((it i hi).other (fun e' => e (h.inj i j hi hj e')) _).cell 2 (by simp [itemL])⟩
  simp only [itemL, List.getElem_cons_zero, List.getElem_cons_succ] at c2
  have c2d := cell_dr c2
  have c3d : World.cell? (World.setCell (World.drew ((w.setCell ⟨g, i, none⟩ (ptrV (f j))).setCell ⟨g, j, none⟩ (ptrV (f i)))) ⟨(f j).blk, 2, none⟩ (.int .i64 i)) _ = _ := c3
  have C := hid (((((Chg.refl (HS (.slice (some ⟨g, 0, none⟩) n cap) f n) w).setCell (p := ⟨g, i, none⟩) (fun _ => .inl rfl) (ptrV (f j))).setCell (p := ⟨g, j, none⟩) (fun _ => .inl rfl) (ptrV (f i))).setCell (p := ⟨(f j).blk, 2, none⟩) (fun _ => .inr ⟨j, hj, rfl⟩) (.int .i64 i)).setCell (p := ⟨(f i).blk, 2, none⟩) (fun _ => .inr ⟨i, hi, rfl⟩) (.int .i64 j)).drew.drew
  have hii : (i : Int) < n := by omega
  have hjj : (j : Int) < n := by omega
  clear h o1 o2 it hsw gi
  unfold ptrV at *
  go_enter Try.func69, Try.ntmps69
  go_wp2
  go_region
  all_goals go_wp2
  all_goals go_region
  all_goals go_wp2
  all_goals go_end0
  all_goals exact ⟨rfl, H4.out, C.out⟩
end Go.Proofs.Ytgikbpaejmdnoaa

/-
  The heap's methods, through the interface (the first number: the model's own bound, the types and a hundred).
-/
namespace Go.Proofs.Ytgikbpaejmdnoaa
open Go.RowKit
set_option linter.unusedVariables false
set_option maxRecDepth 20000

def hV (bw : Nat) : Value := .iface 110 (.pointer (some ⟨bw, 0, none⟩))
theorem m_less0 (b : Nat) (w : World) : (method 235 110 (.pointer (some ⟨b, 0, none⟩)) "Less").run Try.prog w = (do let v ← loadVar 92 ⟨b, 0, none⟩; pure (68, v)).run Try.prog w := by kernel_rfl
theorem m_less {b : Nat} {w : World} {a : Option Addr} {n c : Nat} (h : w.cell? ⟨b, 0, none⟩ = some (.slice a n c)) : (method 235 110 (.pointer (some ⟨b, 0, none⟩)) "Less").run Try.prog w = .ok (68, .slice a n c) w := by
  rw [m_less0]
  go_simp
theorem m_swap0 (b : Nat) (w : World) : (method 235 110 (.pointer (some ⟨b, 0, none⟩)) "Swap").run Try.prog w = (do let v ← loadVar 92 ⟨b, 0, none⟩; pure (69, v)).run Try.prog w := by kernel_rfl
theorem m_swap {b : Nat} {w : World} {a : Option Addr} {n c : Nat} (h : w.cell? ⟨b, 0, none⟩ = some (.slice a n c)) : (method 235 110 (.pointer (some ⟨b, 0, none⟩)) "Swap").run Try.prog w = .ok (69, .slice a n c) w := by
  rw [m_swap0]
  go_simp
theorem m_len0 (b : Nat) (w : World) : (method 235 110 (.pointer (some ⟨b, 0, none⟩)) "Len").run Try.prog w = (do let v ← loadVar 92 ⟨b, 0, none⟩; pure (67, v)).run Try.prog w := by kernel_rfl
theorem m_len {b : Nat} {w : World} {a : Option Addr} {n c : Nat} (h : w.cell? ⟨b, 0, none⟩ = some (.slice a n c)) : (method 235 110 (.pointer (some ⟨b, 0, none⟩)) "Len").run Try.prog w = .ok (67, .slice a n c) w := by
  rw [m_len0]
  go_simp
theorem m_push (b : Nat) (w : World) : (method 235 110 (.pointer (some ⟨b, 0, none⟩)) "Push").run Try.prog w = .ok (71, .pointer (some ⟨b, 0, none⟩)) w := by kernel_rfl
theorem m_pop (b : Nat) (w : World) : (method 235 110 (.pointer (some ⟨b, 0, none⟩)) "Pop").run Try.prog w = .ok (70, .pointer (some ⟨b, 0, none⟩)) w := by kernel_rfl
theorem par_int {k : Nat} (h : 0 < k) : ((k : Int) - 1).tdiv 2 = (par k : Nat) := by
  have : (k : Int) - 1 = ((k - 1 : Nat) : Int) := by omega
  rw [this]
  unfold par
  rfl
theorem HQ.at {bw m B : Nat} {v : Value} {w : World} {f : Nat → It} {n : Nat} (h : HQ bw m B v w f n) : w.cell? ⟨bw, 0, none⟩ = some v := h.wheel.cell 0 (by simp)
theorem Chg.no {S : Nat → Prop} {a b c : World} (h : Chg S a b) (k : Chg No b c) : Chg S a c := h.step k fun _ _ x => x.elim
/-- Of the same items the blocks are the same. -/
theorem Re.hs {n : Nat} {f g : Nat → It} {v : Value} (h : Re n f g) {k : Nat} (hk : HS v g n k) : HS v f n k := by
  rcases hk with hk | ⟨i, hi, he⟩
  · exact .inl hk
  · obtain ⟨a, ha, e⟩ := (h.mem (g i)).1 ⟨i, hi, rfl⟩
    exact .inr ⟨a, ha, by rw [e]; exact he⟩
end Go.Proofs.Ytgikbpaejmdnoaa

/-
  container/heap's up, over a heap of timers.
-/
namespace Go.Proofs.Ytgikbpaejmdnoaa
open Go.RowKit
set_option linter.unusedVariables false
set_option maxRecDepth 20000

set_option maxHeartbeats 4000000 in
set_option maxRecDepth 100000 in
theorem up_any {bw m B : Nat} {v : Value} {w : World} {f : Nat → It} {N : Nat} (h : HQ bw m B v w f N) {j n : Nat} (hj : j < n) (hnN : n ≤ N) (hN : N ≤ 1000000) :
    Calls Try.prog 50 #[hV bw, .int .i64 j] w fun e w' => e = .returned (.tuple #[]) ∧ ∃ f', HQ bw m B v w' f' N ∧ Re n f f' ∧ (UpOK itLt f n j → Heap itLt f' n) ∧ Chg (HS v f N) w w' := by
  unfold hV
  obtain ⟨ao, cap, rfl⟩ := h.form
  have H0 := hid h
  have HIN := hid h.inj
  clear h
  go_enter Try.func50, Try.ntmps50
  go_wp2
  go_loopw [1] (fun i wr => ∃ (k : Nat) (f' : Nat → It), k < n ∧ i = .int .i64 k ∧ Hid (HQ bw m B (.slice ao N cap) wr f' N) ∧ Hid (Re n f f') ∧ Hid (UpOK itLt f n j → UpOK itLt f' n k) ∧ Hid (Chg (HS (.slice ao N cap) f N) w wr)) (fun i _ => (intOf i).toNat)
  case atStart => exact ⟨j, f, hj, rfl, H0, Re.refl _ _, fun x => x, Chg.refl _ _⟩
  case round =>
    obtain ⟨k, f', hk, rfl, hq, hre, hup, hch⟩ := hrel
    by_cases hk0 : k = 0
    · subst hk0
      go_wp2
      go_end0
      exact ⟨rfl, f', hq.out, hre.out, fun x => up_stop (hup.out x) (.inl rfl), hch.out⟩
    · have hp := par_int (k := k) (by omega)
      have hpl := par_lt (k := k) (by omega)
      have hne : ((par k : Int) == (k : Int)) = false := by rw [beq_eq_false_iff_ne]; omega
      have hM := m_less hq.out.at
      have KL := hid (less_any hq.out (show k < N by omega) (show par k < N by omega))
      clear H0
      cases hl : itLt (f' k) (f' (par k)) with
      | false =>
        rw [hl] at KL
        go_wp2_with (go_at_call 68; refine KL.out.mono ?_; rintro e w1 ⟨rfl, hq1, hc1⟩)
        go_end0
        exact ⟨rfl, f', hq1, hre.out, fun x => up_stop (hup.out x) (.inr hl), hch.out.no hc1⟩
      | true =>
        rw [hl] at KL
        have HL := hid hl
        clear hl
        go_wp2_with (first
          | (go_at_call 68; refine KL.out.mono ?_; rintro e w1 ⟨rfl, hq1, hc1⟩; have hM2 := m_swap hq1.at; have KS := hid (swap_any hq1 (show par k < N by omega) (show k < N by omega)); replace hc1 := hid hc1; replace hq1 := hid hq1)
          | (go_at_call 69; refine KS.out.mono ?_; rintro e w2 ⟨rfl, hq2, hc2⟩))
        go_roundw
        case rel => exact ⟨par k, swapF f' (par k) k, by omega, rfl, hq2, hre.out.trans (Re.swap f' (by omega) hk), fun x => up_step it_ord (hup.out x) (by omega) hk HL.out, (hch.out.no hc1.out).step hc2 fun _ _ x => (hre.out.more hnN HIN.out).hs x⟩
        case measure => simp [intOf]; omega
end Go.Proofs.Ytgikbpaejmdnoaa

/-
  container/heap's down, over a heap of timers.
-/
namespace Go.Proofs.Ytgikbpaejmdnoaa
open Go.RowKit
set_option linter.unusedVariables false
set_option maxRecDepth 20000

/-- Where down stands: nothing is swapped yet, or all but the one at k and its children are in order. -/
def DownAt (f f' : Nat → It) (n i0 k : Nat) : Prop := (k = i0 ∧ f' = f) ∨ (i0 < k ∧ (FixOK itLt f n i0 → DownOK itLt f' n k))
def DownEnd (f f' : Nat → It) (n i0 : Nat) (b : Bool) : Prop := FixOK itLt f n i0 → (b = true → Heap itLt f' n) ∧ (b = false → f' = f ∧ UpOK itLt f n i0)
theorem DownAt.stop {f f' : Nat → It} {n i0 k : Nat} (h : DownAt f f' n i0 k) (hs : ∀ c, 0 < c → c < n → par c = k → itLt (f' c) (f' k) = false) : DownEnd f f' n i0 (decide (i0 < k)) := by
  intro hf
  rcases h with ⟨rfl, rfl⟩ | ⟨hk, hd⟩
  · simp
    exact down_stop0 hf hs
  · simp [hk]
    exact down_stop (hd hf) hs
theorem DownAt.next {f f' : Nat → It} {n i0 k j : Nat} (h : DownAt f f' n i0 k) (hj : 0 < j) (hn : j < n) (hp : par j = k) (hl : itLt (f' j) (f' k) = true) (hm : ∀ c, 0 < c → c < n → par c = k → itLt (f' c) (f' j) = false) :
    DownAt f (swapF f' k j) n i0 j := by
  have hkj : k < j := by have := par_lt hj; omega
  rcases h with ⟨rfl, rfl⟩ | ⟨hk, hd⟩
  · exact .inr ⟨hkj, fun hf => down_step it_ord hf hj hn hp hl hm⟩
  · exact .inr ⟨by omega, fun hf => down_step it_ord (hd hf).fix hj hn hp hl hm⟩
theorem kid_r (k : Nat) : par (2 * k + 2) = k := by unfold par; omega
theorem kid_l (k : Nat) : par (2 * k + 1) = k := by unfold par; omega

set_option maxHeartbeats 8000000 in
set_option maxRecDepth 100000 in
theorem down_any {bw m B : Nat} {v : Value} {w : World} {f : Nat → It} {N : Nat} (h : HQ bw m B v w f N) {i0 n : Nat} (hi : i0 ≤ n) (hnN : n ≤ N) (hN : N ≤ 1000000) :
    Calls Try.prog 49 #[hV bw, .int .i64 i0, .int .i64 n] w fun e w' => ∃ b, e = .returned (.bool b) ∧ ∃ f', HQ bw m B v w' f' N ∧ Re n f f' ∧ DownEnd f f' n i0 b ∧ Chg (HS v f N) w w' := by
  unfold hV
  obtain ⟨ao, cap, rfl⟩ := h.form
  have H0 := hid h
  have HIN := hid h.inj
  clear h
  go_enter Try.func49, Try.ntmps49
  go_wp2
  go_loopw [7] (fun i wr => ∃ (k : Nat) (f' : Nat → It), k ≤ n ∧ i0 ≤ k ∧ i = .int .i64 k ∧ Hid (HQ bw m B (.slice ao N cap) wr f' N) ∧ Hid (Re n f f') ∧ Hid (DownAt f f' n i0 k) ∧ Hid (Chg (HS (.slice ao N cap) f N) w wr)) (fun i _ => n - (intOf i).toNat)
  case atStart => exact ⟨i0, f, hi, by omega, rfl, H0, Re.refl _ _, .inl ⟨rfl, rfl⟩, Chg.refl _ _⟩
  case round =>
    obtain ⟨k, f', hk, hik, rfl, hq, hre, hda, hch⟩ := hrel
    clear H0
    by_cases hc : n ≤ 2 * k + 1
    · have hci : (n : Int) ≤ 2 * (k : Int) + 1 := by omega
      go_wp2
      go_ret
      exact ⟨_, rfl, f', hq.out, hre.out, hda.out.stop (no_child hc), hch.out⟩
    · have hci : ¬ ((n : Int) ≤ 2 * (k : Int) + 1) := by omega
      have hneg : ¬ (2 * (k : Int) + 1 < 0) := by omega
      have hkN : k < N := by omega
      have hlN : 2 * k + 1 < N := by omega
      have hln : 2 * k + 1 < n := by omega
      have hM := m_less hq.out.at
      have LE := hid (fun (w' : World) (hq' : HQ bw m B (.slice ao N cap) w' f' N) (a b : Nat) (ha : a < N) (hb : b < N) (I J : Int) (hI : I = a) (hJ : J = b) => by have k := less_any hq' ha hb; rw [← hI, ← hJ] at k; exact k)
      have SW := hid (fun (w' : World) (hq' : HQ bw m B (.slice ao N cap) w' f' N) (a b : Nat) (ha : a < N) (hb : b < N) (I J : Int) (hI : I = a) (hJ : J = b) => by have k := swap_any hq' ha hb; rw [← hI, ← hJ] at k; exact k)
      by_cases hr : 2 * k + 2 < n
      · have hri : 2 * (k : Int) + 1 + 1 < n := by omega
        cases hrl : itLt (f' (2 * k + 2)) (f' (2 * k + 1)) with
        | true =>
          have hmn := hid (child_r (f := f') (n := n) it_ord hrl)
          cases hjk : itLt (f' (2 * k + 2)) (f' k) with
          | false =>
            go_wp2_with (first
              | (go_at_call 68; refine (LE.out _ hq.out (2 * k + 2) (2 * k + 1) (by omega) (by omega) _ _ (by omega) (by omega)).mono ?_; rw [hrl]; rintro e w1 ⟨rfl, hq1, hc1⟩; have hM1 := m_less hq1.at; replace hq1 := hid hq1; replace hc1 := hid hc1)
              | (go_at_call 68; refine (LE.out _ hq1.out (2 * k + 2) k (by omega) (by omega) _ _ (by omega) rfl).mono ?_; rw [hjk]; rintro e w2 ⟨rfl, hq2, hc2⟩; have hM2 := m_swap hq2.at; replace hq2 := hid hq2; replace hc2 := hid hc2))
            go_ret
            exact ⟨_, rfl, f', hq2.out, hre.out, hda.out.stop (none_less it_ord hmn.out hjk), ((hch.out.no hc1.out).no hc2.out)⟩
          | true =>
            go_wp2_with (first
              | (go_at_call 68; refine (LE.out _ hq.out (2 * k + 2) (2 * k + 1) (by omega) (by omega) _ _ (by omega) (by omega)).mono ?_; rw [hrl]; rintro e w1 ⟨rfl, hq1, hc1⟩; have hM1 := m_less hq1.at; replace hq1 := hid hq1; replace hc1 := hid hc1)
              | (go_at_call 68; refine (LE.out _ hq1.out (2 * k + 2) k (by omega) (by omega) _ _ (by omega) rfl).mono ?_; rw [hjk]; rintro e w2 ⟨rfl, hq2, hc2⟩; have hM2 := m_swap hq2.at; replace hq2 := hid hq2; replace hc2 := hid hc2)
              | (go_at_call 69; refine (SW.out _ hq2.out k (2 * k + 2) (by omega) (by omega) _ _ rfl (by omega)).mono ?_; rintro e w3 ⟨rfl, hq3, hc3⟩))
            go_roundw
            case rel => exact ⟨2 * k + 2, swapF f' k (2 * k + 2), by omega, by omega, congrArg (Value.int .i64) (by omega), hq3, hre.out.trans (Re.swap f' (by omega) (by omega)), hda.out.next (by omega) (by omega) (kid_r k) hjk hmn.out, ((hch.out.no hc1.out).no hc2.out).step hc3 fun _ _ x => (hre.out.more hnN HIN.out).hs x⟩
            case measure => simp [intOf]; omega
        | false =>
          have hmn := hid (child_l (f := f') (n := n) it_ord hln (by rw [hrl]; simp))
          cases hjk : itLt (f' (2 * k + 1)) (f' k) with
          | false =>
            go_wp2_with (first
              | (go_at_call 68; refine (LE.out _ hq.out (2 * k + 2) (2 * k + 1) (by omega) (by omega) _ _ (by omega) (by omega)).mono ?_; rw [hrl]; rintro e w1 ⟨rfl, hq1, hc1⟩; have hM1 := m_less hq1.at; replace hq1 := hid hq1; replace hc1 := hid hc1)
              | (go_at_call 68; refine (LE.out _ hq1.out (2 * k + 1) k (by omega) (by omega) _ _ (by omega) rfl).mono ?_; rw [hjk]; rintro e w2 ⟨rfl, hq2, hc2⟩; have hM2 := m_swap hq2.at; replace hq2 := hid hq2; replace hc2 := hid hc2))
            go_ret
            exact ⟨_, rfl, f', hq2.out, hre.out, hda.out.stop (none_less it_ord hmn.out hjk), ((hch.out.no hc1.out).no hc2.out)⟩
          | true =>
            go_wp2_with (first
              | (go_at_call 68; refine (LE.out _ hq.out (2 * k + 2) (2 * k + 1) (by omega) (by omega) _ _ (by omega) (by omega)).mono ?_; rw [hrl]; rintro e w1 ⟨rfl, hq1, hc1⟩; have hM1 := m_less hq1.at; replace hq1 := hid hq1; replace hc1 := hid hc1)
              | (go_at_call 68; refine (LE.out _ hq1.out (2 * k + 1) k (by omega) (by omega) _ _ (by omega) rfl).mono ?_; rw [hjk]; rintro e w2 ⟨rfl, hq2, hc2⟩; have hM2 := m_swap hq2.at; replace hq2 := hid hq2; replace hc2 := hid hc2)
              | (go_at_call 69; refine (SW.out _ hq2.out k (2 * k + 1) (by omega) (by omega) _ _ rfl (by omega)).mono ?_; rintro e w3 ⟨rfl, hq3, hc3⟩))
            go_roundw
            case rel => exact ⟨2 * k + 1, swapF f' k (2 * k + 1), by omega, by omega, congrArg (Value.int .i64) (by omega), hq3, hre.out.trans (Re.swap f' (by omega) (by omega)), hda.out.next (by omega) (by omega) (kid_l k) hjk hmn.out, ((hch.out.no hc1.out).no hc2.out).step hc3 fun _ _ x => (hre.out.more hnN HIN.out).hs x⟩
            case measure => simp [intOf]; omega
      · have hri : ¬ (2 * (k : Int) + 1 + 1 < n) := by omega
        have hmn := hid (child_l (f := f') (n := n) it_ord hln (fun x => hr x.1))
        cases hjk : itLt (f' (2 * k + 1)) (f' k) with
        | false =>
          go_wp2_with (first
            | (go_at_call 68; refine (LE.out _ hq.out (2 * k + 1) k (by omega) (by omega) _ _ (by omega) rfl).mono ?_; rw [hjk]; rintro e w2 ⟨rfl, hq2, hc2⟩; have hM2 := m_swap hq2.at; replace hq2 := hid hq2; replace hc2 := hid hc2))
          go_ret
          exact ⟨_, rfl, f', hq2.out, hre.out, hda.out.stop (none_less it_ord hmn.out hjk), (hch.out.no hc2.out)⟩
        | true =>
          go_wp2_with (first
            | (go_at_call 68; refine (LE.out _ hq.out (2 * k + 1) k (by omega) (by omega) _ _ (by omega) rfl).mono ?_; rw [hjk]; rintro e w2 ⟨rfl, hq2, hc2⟩; have hM2 := m_swap hq2.at; replace hq2 := hid hq2; replace hc2 := hid hc2)
            | (go_at_call 69; refine (SW.out _ hq2.out k (2 * k + 1) (by omega) (by omega) _ _ rfl (by omega)).mono ?_; rintro e w3 ⟨rfl, hq3, hc3⟩))
          go_roundw
          case rel => exact ⟨2 * k + 1, swapF f' k (2 * k + 1), by omega, by omega, congrArg (Value.int .i64) (by omega), hq3, hre.out.trans (Re.swap f' (by omega) (by omega)), hda.out.next (by omega) (by omega) (kid_l k) hjk hmn.out, (hch.out.no hc2.out).step hc3 fun _ _ x => (hre.out.more hnN HIN.out).hs x⟩
          case measure => simp [intOf]; omega
end Go.Proofs.Ytgikbpaejmdnoaa

/-
  The heap's Push and Pop.
-/
namespace Go.Proofs.Ytgikbpaejmdnoaa
open Go.RowKit
set_option linter.unusedVariables false
set_option maxRecDepth 20000

theorem infoPtr : (Try.prog.info? 99).map (fun i => (i.zero, i.size, i.bytes)) = some (some (.pointer none), 1, 8) := by kernel_rfl
theorem as_item (b : Nat) (w : World) : (Instr.typeAssert (.iface 99 (.pointer (some ⟨b, 0, none⟩))) 20 99 false).run Try.prog w = .ok (.pointer (some ⟨b, 0, none⟩)) w := by kernel_rfl
theorem RowIs.gr {w w' : World} {b : Nat} {e : TypeId} {l : List Value} {row : Option Nat} (h : RowIs w b e l) (hg : w.grownBy w' row) (hne : row ≠ some b) : RowIs w' b e l := by
  unfold RowIs at *
  rw [hg.block b (Array.getElem?_eq_some_iff.1 h).1 (fun e => hne e.symm)]; exact h
theorem RowIs.new {w : World} {b : Nat} {e : TypeId} {l : List Value} (h : RowIs w b e l) (o : Obj) : RowIs (w.alloc o) b e l := by
  unfold RowIs at *
  rw [Below.heap_alloc _ _ _ (Array.getElem?_eq_some_iff.1 h).1]; exact h
theorem wp_appQ {P : Program} (w : World) {ops : Array Oper} {rest : List Oper} {o : Oper} {a : Act} {Q : Exit → Act → World → Prop} (hgd : o.guard = none)
    (s x : Operand) (t : TypeId) (ho : o.op = Op.call { callee := Callee.builtin Builtin.append, args := #[s, x], argTypes := #[t, t] }) (B : Nat) (e : TypeId) (i : TypeInfo)
    (z : Value) (ht : P.underlying t = some (TypeDesc.slice e)) (hi : P.info? e = some i) (hz : i.zero = some z) (hsize : i.size = 1) (hby : i.bytes = 8) (hzs : z.cells.size = 1)
    (v : Value) (xs : List Value) (hs : a.eval s = v) (hown : Own w B e v xs) (ad : Addr) (p : Value) (hx : a.eval x = Value.slice (some ad) 1 1) (hp : w.cell? ad = some p) (h1 : p.oneCell' = true)
    (hlen : xs.length + 1 ≤ 4000000) (hB : B ≤ w.heap.size)
    (h : ∀ (v' : Value) (w' : World), Own w' B e v' (xs ++ [p]) → w.grownBy w' v.ownBlock → wpList P ops Q rest (a.put o.dst v') w') : wpList P ops Q (o :: rest) a w := by
  refine wpList_append_own w hgd s x t ho B e i z 1 8 ht hi hz hsize hby hzs (by decide) v xs.length xs hs hown ad 1 1 [p] hx (by simp) ?_ (by simpa using h1) (by unfold maxLen; omega) (by omega) hB ?_
  · intro j u hj
    match j, hj with
    | 0, hj => simp at hj; subst hj; simpa [Addr.add] using hp
  · intro v' w' hown' hgr _
    refine h v' w' ?_ hgr
    unfold Own
    rw [List.length_append]
    exact hown'
/-- What the record, the row and the items are behind Push. -/
theorem HQ.push {bw m B : Nat} {v : Value} {w : World} {f : Nat → It} {n : Nat} (h : HQ bw m B v w f n) {b : Nat} {t : Tm} {p0 : Value} (hb : RowIs w b 98 [.int .i64 t.1, .int .i64 t.2, p0]) (hnb : ∀ i, i < n → (f i).blk ≠ b) (hlo : B ≤ b)
    {v' : Value} {w3 : World} (o : Obj) (hg : ((w.setCell ⟨b, 2, none⟩ (.int .i64 n)).alloc o).grownBy w3 v.ownBlock) (ho : Own w3 B 99 v' (ptrs f n ++ [.pointer (some ⟨b, 0, none⟩)])) :
    HQ bw m B v' (w3.setCell ⟨bw, 0, none⟩ v') (putF f n ⟨b, t⟩) (n + 1) := by
  have hwb : bw ≠ b := row_block_ne h.wheel hb (by decide)
  have hwi : ∀ k, k < n → bw ≠ (f k).blk := fun k hk => row_block_ne h.wheel (h.item k hk) (by decide)
  have w3w := ((h.wheel.other hwb (.int .i64 n) (j := 2)).new o).gr hg (own_block_ne h.own h.wheel (by decide))
  have w3b := ((hb.set 2 (.int .i64 n)).new o).gr hg (own_block_ne h.own hb (by decide))
  have w3i : ∀ k, k < n → RowIs w3 (f k).blk 98 (itemL (f k) k) := fun k hk => (((h.item k hk).other (hnb k hk) (.int .i64 n) (j := 2)).new o).gr hg (own_block_ne h.own (h.item k hk) (by decide))
  refine ⟨w3w.set 0 v', ?_, ?_, ?_, ?_⟩
  · rw [ptrs_succ, put_at, ptrs_congr (fun i hi => put_ne f _ (by omega))]
    exact own_other ho (own_block_ne ho w3w (by decide)) _
  · intro k hk
    by_cases e : k = n
    · subst e; rw [put_at]; exact w3b.other (fun e => hwb e.symm) _
    · rw [put_ne f _ e]; exact (w3i k (by omega)).other (fun e' => hwi k (by omega) e'.symm) _
  · intro i j hi hj he
    by_cases e1 : i = n <;> by_cases e2 : j = n
    · omega
    · subst e1; rw [put_at, put_ne _ _ e2] at he; exact absurd he.symm (hnb j (by omega))
    · subst e2; rw [put_at, put_ne _ _ e1] at he; exact absurd he (hnb i (by omega))
    · rw [put_ne _ _ e1, put_ne _ _ e2] at he; exact h.inj i j (by omega) (by omega) he
  · intro k hk
    by_cases e : k = n
    · subst e; rw [put_at]; exact hlo
    · rw [put_ne f _ e]; exact h.lo k (by omega)
/-- The blocks of a heap, with its record and one more. -/
def HS2 (bw b : Nat) (v : Value) (f : Nat → It) (n : Nat) (k : Nat) : Prop := k = bw ∨ k = b ∨ HS v f n k

set_option maxHeartbeats 4000000 in
set_option maxRecDepth 100000 in
theorem qpush_any {bw m B : Nat} {v : Value} {w : World} {f : Nat → It} {n : Nat} (h : HQ bw m B v w f n) {b : Nat} {t : Tm} {p0 : Value} (hb : RowIs w b 98 [.int .i64 t.1, .int .i64 t.2, p0]) (hnb : ∀ i, i < n → (f i).blk ≠ b) (hlo : B ≤ b) (hn : n ≤ 1000000) (hB : B ≤ w.heap.size) :
    Calls Try.prog 71 #[.pointer (some ⟨bw, 0, none⟩), .iface 99 (.pointer (some ⟨b, 0, none⟩))] w fun e w' => e = .returned (.tuple #[]) ∧ ∃ v', HQ bw m B v' w' (putF f n ⟨b, t⟩) (n + 1) ∧ Chg (HS2 bw b v f n) w w' := by
  obtain ⟨i0, hi, hz0, hz1, hz2⟩ := info_parts infoPtr
  obtain ⟨ao, cap, rfl⟩ := h.form
  have hwb : bw ≠ b := row_block_ne h.wheel hb (by decide)
  have cq := h.at
  have cb := hb.cell 2 (by simp)
  have fb := hb.frozen 2
  have rw1 := h.wheel.other hwb (.int .i64 n) (j := 2)
  have cq1 := rw1.cell 0 (by simp)
  simp only [List.getElem_cons_zero, List.getElem_cons_succ] at cb cq1
  have HP := hid (fun (o : Obj) (v' : Value) (w3 : World) hg ho => h.push hb hnb hlo (v' := v') (w3 := w3) o hg ho)
  have OW := hid (own_other h.own (own_block_ne h.own hb (by decide)) (.int .i64 n) (j := 2))
  have CH := hid (((Chg.refl (HS2 bw b (.slice ao n cap) f n) w).setCell (p := ⟨b, 2, none⟩) (fun _ => .inr (.inl rfl)) (.int .i64 n)))
  have RW := hid (fun (o : Obj) (w3 : World) (hg : ((w.setCell ⟨b, 2, none⟩ (.int .i64 n)).alloc o).grownBy w3 (Value.slice ao n cap).ownBlock) => (rw1.new o).gr hg (own_block_ne h.own h.wheel (by decide)))
  have PL := ptrs_len f n
  have hsz : (w.setCell ⟨b, 2, none⟩ (.int .i64 n)).heap.size = w.heap.size := by simp [World.setCell]
  have NW : Hid (((w.setCell ⟨b, 2, none⟩ (.int .i64 n)).alloc (.cells #[.pointer (some ⟨b, 0, none⟩)] 99)).cell? ⟨w.heap.size, 0, none⟩ = some (.pointer (some ⟨b, 0, none⟩))) := by
    have := one_new (w.setCell ⟨b, 2, none⟩ (.int .i64 n)) 99 (.pointer (some ⟨b, 0, none⟩)) 0 _ rfl
    rw [hsz] at this
    exact this
  have HB2 := hid (fun (o : Obj) => show B ≤ ((w.setCell ⟨b, 2, none⟩ (.int .i64 n)).alloc o).heap.size from Nat.le_trans hB (Nat.le_trans (Nat.le_of_eq hsz.symm) (by simp)))
  clear hsz
  have hta := as_item b
  clear h hb rw1
  go_enter Try.func71, Try.ntmps71
  go_wp2_with (at_builtin; refine wp_appQ _ rfl (.tmp 17) (.tmp 19) 92 rfl B 99 i0 (.pointer none) Try.underlying92 hi hz0 hz1 hz2 rfl (.slice ao n cap) (ptrs f n) rfl (OW.out.alloc _) ⟨_, 0, none⟩ (.pointer (some ⟨b, 0, none⟩)) rfl NW.out rfl (by omega) (HB2.out _) ?_; intro v3 w3 hown3 hgr3; have q3 : w3.cell? ⟨bw, 0, none⟩ = some (.slice ao n cap) := (RW.out _ _ hgr3).cell 0 (by simp); have f3 := (RW.out _ _ hgr3).frozen 0; (obtain ⟨oa, oc, hoe⟩ := hown3.form); simp only [List.length_append, PL, List.length_cons, List.length_nil, Nat.zero_add] at hoe; subst hoe; replace hown3 := hid hown3; replace hgr3 := hid hgr3)
  go_end0
  refine ⟨rfl, _, HP.out _ _ _ hgr3.out hown3.out, ?_⟩
  exact ((CH.out.alloc _).grown hgr3.out (fun k hk _ => .inr (.inr (.inl hk)))).setCell (p := ⟨bw, 0, none⟩) (fun _ => .inl rfl) _
end Go.Proofs.Ytgikbpaejmdnoaa

/-
  The heap's Pop.
-/
namespace Go.Proofs.Ytgikbpaejmdnoaa
open Go.RowKit
set_option linter.unusedVariables false
set_option maxRecDepth 20000

theorem own_take {w : World} {B g cap n : Nat} {e : TypeId} {xs : List Value} {x : Value} (h : Own w B e (.slice (some ⟨g, 0, none⟩) (n + 1) cap) (xs ++ [x])) (hn : xs.length = n) : Own w B e (.slice (some ⟨g, 0, none⟩) n cap) xs := by
  rcases h.2 with ⟨h2, _⟩ | ⟨g', cap', cur, hv, hb, hg, hnc, hcm, hcs, ht⟩
  · cases h2
  · simp only [Value.slice.injEq, Option.some.injEq, Addr.mk.injEq, and_true] at hv
    obtain ⟨rfl, _, rfl⟩ := hv
    refine ⟨by simp, Or.inr ⟨g, cap, cur, by rw [hn], hb, hg, by simp at hnc; omega, hcm, hcs, ?_⟩⟩
    have := congrArg (List.take (xs.length * 1)) ht
    rw [List.take_take] at this
    simp only [Nat.mul_one, List.length_append, List.length_cons, List.length_nil, List.take_left'] at this ⊢
    rw [Nat.min_eq_left (by omega)] at this
    exact this
theorem HQ.pop {bw m B g cap : Nat} {w : World} {f : Nat → It} {n : Nat} (h : HQ bw m B (.slice (some ⟨g, 0, none⟩) (n + 1) cap) w f (n + 1)) (u : Value) :
    HQ bw m B (.slice (some ⟨g, 0, none⟩) n cap) ((w.setCell ⟨g, n, none⟩ u).setCell ⟨bw, 0, none⟩ (.slice (some ⟨g, 0, none⟩) n cap)) f n := by
  have gi : ∀ k, k < n + 1 → (f k).blk ≠ g := fun k hk e => own_block_ne h.own (h.item k hk) (by decide) (by rw [e]; rfl)
  have wg : bw ≠ g := fun e => own_block_ne h.own h.wheel (by decide) (by rw [e]; rfl)
  have wi : ∀ k, k < n + 1 → bw ≠ (f k).blk := fun k hk => row_block_ne h.wheel (h.item k hk) (by decide)
  have o1 := ownq_set h.own n u
  rw [ptrs_succ, List.set_append_right _ _ (by rw [ptrs_len]; omega), ptrs_len, Nat.sub_self, List.set_cons_zero] at o1
  have o2 := own_take o1 (ptrs_len f n)
  refine ⟨(h.wheel.other wg _).set 0 _, own_other o2 (by simp [Value.ownBlock]; exact fun e => wg e.symm) _, fun k hk => ((h.item k (by omega)).other (gi k (by omega)) _).other (fun e => wi k (by omega) e.symm) _, fun i j hi hj => h.inj i j (by omega) (by omega), fun i hi => h.lo i (by omega)⟩

set_option maxHeartbeats 4000000 in
set_option maxRecDepth 100000 in
theorem qpop_any {bw m B : Nat} {v : Value} {w : World} {f : Nat → It} {n : Nat} (h : HQ bw m B v w f (n + 1)) (hn : n ≤ 1000000) :
    Calls Try.prog 70 #[.pointer (some ⟨bw, 0, none⟩)] w fun e w' => e = .returned (.iface 99 (.pointer (some ⟨(f n).blk, 0, none⟩))) ∧ ∃ v', HQ bw m B v' w' f n ∧ v'.ownBlock = v.ownBlock ∧ RowIs w' (f n).blk 98 (itemL (f n) n) ∧ Chg (HS2 bw bw v f (n + 1)) w w' := by
  obtain ⟨g, cap, rfl⟩ := h.block (by omega)
  have wg : bw ≠ g := fun e => own_block_ne h.own h.wheel (by decide) (by rw [e]; rfl)
  have cq := h.at
  have cn := h.cell n (by omega)
  unfold ptrV at cn
  have fn := ownq_frozen h.own n
  have r1 := h.wheel.other wg (.pointer none) (j := n)
  have cq1 : (w.setCell ⟨g, n, none⟩ (.pointer none)).cell? ⟨bw, 0, none⟩ = some (.slice (some ⟨g, 0, none⟩) (n + 1) cap) := r1.cell 0 (by simp)
  have fq := h.wheel.frozen 0
  have H4 := hid (h.pop (.pointer none))
  have H5 := hid (((h.item n (by omega)).other (fun e => own_block_ne h.own (h.item n (by omega)) (by decide) (by rw [e]; rfl)) (.pointer none) (g := g) (j := n)).other (row_block_ne h.wheel (h.item n (by omega)) (by decide)).symm (.slice (some ⟨g, 0, none⟩) n cap) (g := bw) (j := 0))
  have C := hid (((Chg.refl (HS2 bw bw (.slice (some ⟨g, 0, none⟩) (n + 1) cap) f (n + 1)) w).setCell (p := ⟨g, n, none⟩) (fun _ => .inr (.inr (.inl rfl))) (.pointer none)).setCell (p := ⟨bw, 0, none⟩) (fun _ => .inl rfl) (.slice (some ⟨g, 0, none⟩) n cap))
  have hnc : n + 1 ≤ cap := by
    rcases h.own.2 with ⟨h2, _⟩ | ⟨g', cap', cur, hv, hb, hg, hnc, _⟩
    · cases h2
    · simp only [Value.slice.injEq, Option.some.injEq, Addr.mk.injEq, and_true] at hv
      obtain ⟨_, h1, rfl⟩ := hv
      omega
  have hlt : (n : Int) < (n : Int) + 1 := by omega
  have hle : (n : Int) ≤ (cap : Int) := by omega
  have hle' : n ≤ cap := by omega
  clear h r1
  go_enter Try.func70, Try.ntmps70
  go_wp2
  go_ret
  exact ⟨rfl, _, H4.out, rfl, H5.out, C.out⟩
end Go.Proofs.Ytgikbpaejmdnoaa

/-
  container/heap's Push, Fix, Remove and Pop, over a heap of timers.
-/
namespace Go.Proofs.Ytgikbpaejmdnoaa
open Go.RowKit
set_option linter.unusedVariables false
set_option maxRecDepth 20000

/-- The blocks that Push may change: the record, the new item, the items, and a row of pointers, all from B on. -/
def HS3 (B bw b : Nat) (f : Nat → It) (n : Nat) (w : World) (k : Nat) : Prop := B ≤ k ∧ (k = bw ∨ k = b ∨ (∃ i, i < n ∧ (f i).blk = k) ∨ ∃ cs, w.heap[k]? = some (.cells cs 99 (0, 0)))
theorem HQ.hs3 {bw m B b : Nat} {v : Value} {w : World} {f : Nat → It} {n : Nat} (h : HQ bw m B v w f n) (hw : B ≤ bw) (hb : B ≤ b) {k : Nat} (hk : HS2 bw b v f n k) : HS3 B bw b f n w k := by
  rcases hk with rfl | rfl | hk | ⟨i, hi, rfl⟩
  · exact ⟨hw, .inl rfl⟩
  · exact ⟨hb, .inr (.inl rfl)⟩
  · rcases h.own.2 with ⟨h2, _⟩ | ⟨g, cap, cur, hv, hg, hh, _⟩
    · rw [h2] at hk; cases hk
    · rw [hv] at hk
      simp [Value.ownBlock] at hk
      subst hk
      exact ⟨hg, .inr (.inr (.inr ⟨cur, hh⟩))⟩
  · exact ⟨h.lo i hi, .inr (.inr (.inl ⟨i, hi, rfl⟩))⟩
theorem HQ.hs4 {bw m B b : Nat} {v v1 : Value} {w w1 : World} {f : Nat → It} {n : Nat} {t : Tm} (h : HQ bw m B v w f n) (hw : B ≤ bw) (hb : B ≤ b) (h1 : HQ bw m B v1 w1 (putF f n ⟨b, t⟩) (n + 1)) (hc : Chg (HS2 bw b v f n) w w1) :
    ∀ i, i < w.heap.size → HS v1 (putF f n ⟨b, t⟩) (n + 1) i → HS3 B bw b f n w i := by
  intro k hk hs
  by_cases h2 : HS2 bw b v f n k
  · exact h.hs3 hw hb h2
  · rcases hs with hs | ⟨i, hi, he⟩
    · rcases h1.own.2 with ⟨e2, _⟩ | ⟨g, cap, cur, hv, hg, hh, _⟩
      · rw [e2] at hs; cases hs
      · rw [hv] at hs
        simp [Value.ownBlock] at hs
        subst hs
        rw [hc.block _ hk h2] at hh
        exact ⟨hg, .inr (.inr (.inr ⟨cur, hh⟩))⟩
    · by_cases e : i = n
      · subst e; rw [put_at] at he; exact absurd (.inr (.inl he.symm)) h2
      · rw [put_ne _ _ e] at he; exact absurd (.inr (.inr (.inr ⟨i, by omega, he⟩))) h2

set_option maxHeartbeats 4000000 in
set_option maxRecDepth 100000 in
theorem hpush_any {bw m B : Nat} {v : Value} {w : World} {f : Nat → It} {n : Nat} (h : HQ bw m B v w f n) {b : Nat} {t : Tm} {p0 : Value} (hb : RowIs w b 98 [.int .i64 t.1, .int .i64 t.2, p0]) (hnb : ∀ i, i < n → (f i).blk ≠ b) (hlo : B ≤ b) (hwlo : B ≤ bw) (hn : n + 1 ≤ 1000000) (hB : B ≤ w.heap.size) :
    Calls Try.prog 47 #[hV bw, .iface 99 (.pointer (some ⟨b, 0, none⟩))] w fun e w' => e = .returned (.tuple #[]) ∧ ∃ v' f', HQ bw m B v' w' f' (n + 1) ∧ Re (n + 1) (putF f n ⟨b, t⟩) f' ∧ (Heap itLt f n → Heap itLt f' (n + 1)) ∧ Chg (HS3 B bw b f n w) w w' := by
  have K1 := hid (qpush_any h hb hnb hlo (by omega) hB)
  have H3 := hid (fun k => h.hs3 hwlo hlo (k := k))
  have H4 := hid (fun (v' : Value) (w' : World) h' hc' => h.hs4 (b := b) (t := t) (v1 := v') (w1 := w') hwlo hlo h' hc')
  have hM := m_push bw
  have KU := hid (fun (v' : Value) (w' : World) (h' : HQ bw m B v' w' (putF f n ⟨b, t⟩) (n + 1)) => up_any h' (j := n) (n := n + 1) (by omega) (by omega) hn)
  have KL := hid (fun (v' : Value) (w' : World) (h' : HQ bw m B v' w' (putF f n ⟨b, t⟩) (n + 1)) => qlen_any h' hn)
  have PU := hid (fun (hh : Heap itLt f n) => push_ok (lt := itLt) (f := f) (g := putF f n ⟨b, t⟩) hh (fun k hk => put_ne f _ (by omega)))
  have hsub : ((n : Int) + 1 - 1) = n := by omega
  unfold hV at *
  clear h hb
  go_enter Try.func47, Try.ntmps47
  go_wp2_with (first
    | (go_at_call 71; refine K1.out.mono ?_; rintro e w1 ⟨rfl, v1, hq1, hc1⟩; (obtain ⟨oa, oc, rfl⟩ := hq1.form); have hM1 := m_len hq1.at; replace hq1 := hid hq1; replace hc1 := hid hc1)
    | (go_at_call 67; refine (KL.out _ _ hq1.out).mono ?_; rintro e w2 ⟨rfl, hw2⟩; rw [hw2]; clear hw2)
    | (go_at_call 50; refine (KU.out _ _ hq1.out).mono ?_; rintro e w3 ⟨rfl, f3, hq3, hre3, hh3, hc3⟩))
  go_end0
  refine ⟨rfl, _, f3, hq3, hre3, fun x => hh3 (PU.out x), ?_⟩
  exact (hc1.out.mono fun i hi x => H3.out i x).step hc3 (H4.out _ _ hq1.out hc1.out)
end Go.Proofs.Ytgikbpaejmdnoaa

/-
  container/heap's Fix, Remove and Pop, over a heap of timers.
-/
namespace Go.Proofs.Ytgikbpaejmdnoaa
open Go.RowKit
set_option linter.unusedVariables false
set_option maxRecDepth 20000

set_option maxHeartbeats 4000000 in
set_option maxRecDepth 100000 in
theorem hfix_any {bw m B : Nat} {v : Value} {w : World} {f : Nat → It} {n : Nat} (h : HQ bw m B v w f n) {i : Nat} (hi : i < n) (hn : n ≤ 1000000) :
    Calls Try.prog 46 #[hV bw, .int .i64 i] w fun e w' => e = .returned (.tuple #[]) ∧ ∃ f', HQ bw m B v w' f' n ∧ Re n f f' ∧ (FixOK itLt f n i → Heap itLt f' n) ∧ Chg (HS v f n) w w' := by
  obtain ⟨ao, cap, rfl⟩ := h.form
  have KD := hid (down_any h (i0 := i) (n := n) (by omega) (by omega) hn)
  have KL := hid (qlen_any h hn)
  have KU := hid (fun (f' : Nat → It) (w' : World) (h' : HQ bw m B (.slice ao n cap) w' f' n) => up_any h' (j := i) (n := n) hi (by omega) hn)
  have hM := m_len h.at
  unfold hV at *
  clear h
  go_enter Try.func46, Try.ntmps46
  go_wp2_with (go_at_call 67; refine KL.out.mono ?_; rintro e w0 ⟨rfl, hw0⟩; rw [hw0]; clear hw0)
  refine KD.out.mono ?_
  rintro e w1 ⟨b, rfl, f1, hq1, hre1, hd1, hc1⟩
  cases b with
  | true =>
    go_wp2
    go_end0
    exact ⟨rfl, f1, hq1, hre1, fun x => (hd1 x).1 rfl, hc1⟩
  | false =>
    have KU1 := hid (KU.out f1 _ hq1)
    go_wp2_with (go_at_call 50; refine KU1.out.mono ?_; rintro e w2 ⟨rfl, f2, hq2, hre2, hh2, hc2⟩)
    go_end0
    exact ⟨rfl, f2, hq2, hre1.trans hre2, fun x => by obtain ⟨e, u⟩ := (hd1 x).2 rfl; subst e; exact hh2 u, hc1.step hc2 fun _ _ x => hre1.hs x⟩

theorem swap_self {α : Type} (f : Nat → α) (n : Nat) : swapF f n n = f := by
  funext k; unfold swapF; split
  · simp_all
  · rfl
theorem HQ.hs2 {bw : Nat} {v : Value} {f g : Nat → It} {n : Nat} (h : Re n f g) {k : Nat} (hk : HS v g n k) : HS2 bw bw v f n k := .inr (.inr (h.hs hk))
theorem Re.hs2 {n bw : Nat} {f g : Nat → It} {v v' : Value} (h : Re n f g) (hv : v'.ownBlock = v.ownBlock) {k : Nat} (hk : HS2 bw bw v' g n k) : HS2 bw bw v f n k := by
  rcases hk with hk | hk | hk
  · exact .inl hk
  · exact .inl hk
  · rcases h.hs hk with hk | hk
    · exact .inr (.inr (.inl (hv ▸ hk)))
    · exact .inr (.inr (.inr hk))

set_option maxHeartbeats 4000000 in
set_option maxRecDepth 100000 in
theorem hremove_any {bw m B : Nat} {v : Value} {w : World} {f : Nat → It} {n : Nat} (h : HQ bw m B v w f (n + 1)) {i : Nat} (hi : i < n + 1) (hn : n + 1 ≤ 1000000) :
    Calls Try.prog 48 #[hV bw, .int .i64 i] w fun e w' => e = .returned (.iface 99 (.pointer (some ⟨(f i).blk, 0, none⟩))) ∧ ∃ v' f', HQ bw m B v' w' f' n ∧ v'.ownBlock = v.ownBlock ∧ RowIs w' (f i).blk 98 (itemL (f i) n) ∧ Re n (swapF f i n) f' ∧ (Heap itLt f (n + 1) → Heap itLt f' n) ∧ Chg (HS2 bw bw v f (n + 1)) w w' := by
  obtain ⟨ao, cap, rfl⟩ := h.form
  have KL := hid (qlen_any h hn)
  have hM := m_len h.at
  have hMp := m_pop bw
  have KP := hid (fun (f' : Nat → It) (w' : World) (h' : HQ bw m B (.slice ao (n + 1) cap) w' f' (n + 1)) => qpop_any h' (by omega))
  have hsub : ((n : Int) + 1 - 1) = n := by omega
  by_cases hin : i = n
  · have KP0 := hid (KP.out f _ h)
    subst hin
    clear h KP
    unfold hV at *
    go_enter Try.func48, Try.ntmps48
    go_wp2_with (first
      | (go_at_call 67; refine KL.out.mono ?_; rintro e w0 ⟨rfl, hw0⟩; rw [hw0]; clear hw0)
      | (go_at_call 70; refine KP0.out.mono ?_; rintro e w5 ⟨rfl, v5, hq5, hv5, hr5, hc5⟩))
    go_ret
    exact ⟨rfl, v5, f, hq5, hv5, hr5, by rw [swap_self]; exact Re.refl _ _, fun x k h0 h1 => x k h0 (by omega), hc5⟩
  · have hne : ((n : Int) != (i : Int)) = true := by rw [bne_iff_ne]; omega
    have hil : i < n := by omega
    have KS := hid (swap_any h hi (show n < n + 1 by omega))
    have hMs := m_swap h.at
    have INJ := hid ((Re.swap f hi (show n < n + 1 by omega)).inj h.inj)
    have RS := hid (Re.swap f hi (show n < n + 1 by omega))
    have KD := hid (fun (w' : World) (h' : HQ bw m B (.slice ao (n + 1) cap) w' (swapF f i n) (n + 1)) => down_any h' (i0 := i) (n := n) (by omega) (by omega) hn)
    have KU := hid (fun (f' : Nat → It) (w' : World) (h' : HQ bw m B (.slice ao (n + 1) cap) w' f' (n + 1)) => up_any h' (j := i) (n := n) hil (by omega) hn)
    have RO := hid (fun (hh : Heap itLt f (n + 1)) => remove_ok it_ord hh hil)
    clear h
    unfold hV at *
    go_enter Try.func48, Try.ntmps48
    go_wp2_with (first
      | (go_at_call 67; refine KL.out.mono ?_; rintro e w0 ⟨rfl, hw0⟩; rw [hw0]; clear hw0)
      | (go_at_call 69; refine KS.out.mono ?_; rintro e w1 ⟨rfl, hq1, hc1⟩; have KD1 := hid (KD.out _ hq1); replace hc1 := hid hc1; clear hq1))
    refine KD1.out.mono ?_
    rintro e w2 ⟨b, rfl, f2, hq2, hre2, hd2, hc2⟩
    have C2 : Chg (HS2 bw bw (.slice ao (n + 1) cap) f (n + 1)) w w2 := (hc1.out.mono fun i hi x => .inr (.inr x)).step hc2 fun _ _ x => .inr (.inr (RS.out.hs x))
    have M2 := hre2.more (by omega) INJ.out
    have E2 : f2 n = f i := by rw [hre2.rest n (Nat.le_refl _), swap_r]
    cases b with
    | true =>
      have KP2 := hid (KP.out f2 _ hq2)
      rw [E2] at KP2
      clear hq2
      replace hd2 := hid hd2
      replace C2 := hid C2
      replace M2 := hid M2
      replace hre2 := hid hre2
      clear hc2 E2
      go_wp2_with (go_at_call 70; refine KP2.out.mono ?_; rintro e w5 ⟨rfl, v5, hq5, hv5, hr5, hc5⟩)
      go_ret
      exact ⟨rfl, v5, f2, hq5, hv5, hr5, hre2.out, fun x => (hd2.out (RO.out x)).1 rfl, C2.out.step hc5 fun _ _ x => RS.out.hs2 rfl (M2.out.hs2 rfl x)⟩
    | false =>
      have KU2 := hid (KU.out f2 _ hq2)
      clear hq2
      replace hd2 := hid hd2
      replace C2 := hid C2
      replace M2 := hid M2
      replace hre2 := hid hre2
      replace E2 := hid E2
      clear hc2
      go_wp2_with (first
        | (go_at_call 50; refine KU2.out.mono ?_; rintro e w3 ⟨rfl, f3, hq3, hre3, hh3, hc3⟩; have KP3 := hid (KP.out f3 _ hq3); rw [hre3.rest n (Nat.le_refl _), E2.out] at KP3; replace hre3 := hid hre3; replace hh3 := hid hh3; replace hc3 := hid hc3; clear hq3)
        | (go_at_call 70; refine KP3.out.mono ?_; rintro e w5 ⟨rfl, v5, hq5, hv5, hr5, hc5⟩))
      go_ret
      refine ⟨rfl, v5, f3, hq5, hv5, hr5, hre2.out.trans hre3.out, fun x => ?_, ?_⟩
      · obtain ⟨e, u⟩ := (hd2.out (RO.out x)).2 rfl
        subst e
        exact hh3.out u
      · have M3 := hre3.out.more (Nat.le_succ n) (M2.out.inj INJ.out)
        refine (C2.out.step hc3.out fun _ _ x => .inr (.inr (RS.out.hs (M2.out.hs x)))).step hc5 fun _ _ x => RS.out.hs2 rfl (M2.out.hs2 rfl (M3.hs2 rfl x))

end Go.Proofs.Ytgikbpaejmdnoaa
