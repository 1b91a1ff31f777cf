/-
  A heap of timers in memory: the row of pointers, the items, and the record that holds the row.
-/
import Derived.Test.YthioekmlljpbpaaWheelM
import Derived.Test.YthioekmlljpbpaaRow
namespace Go.Proofs.Ythioekmlljpbpaa
open Go.RowKit
set_option linter.unusedVariables false
set_option maxRecDepth 20000

/-- A world changed at the blocks of S alone, what is new aside. -/
structure Chg (S : Nat → Prop) (w w' : World) : Prop where
  os : w'.os = w.os
  tape : w'.tape = w.tape
  output : w'.output = w.output
  size : w.heap.size ≤ w'.heap.size
  block : ∀ k, k < w.heap.size → ¬ S k → w'.heap[k]? = w.heap[k]?
theorem Chg.refl (S : Nat → Prop) (w : World) : Chg S w w := ⟨rfl, rfl, rfl, Nat.le_refl _, fun _ _ _ => rfl⟩
theorem Chg.drew {S : Nat → Prop} {a w : World} (h : Chg S a w) : Chg S a w.drew := ⟨h.os, h.tape, h.output, h.size, h.block⟩
theorem Chg.step {S S' : Nat → Prop} {a b c : World} (h : Chg S a b) (k : Chg S' b c) (hs : ∀ i, i < a.heap.size → S' i → S i) : Chg S a c :=
  ⟨k.os.trans h.os, k.tape.trans h.tape, k.output.trans h.output, Nat.le_trans h.size k.size, fun i hi hn => (k.block i (Nat.lt_of_lt_of_le hi h.size) (fun x => hn (hs i hi x))).trans (h.block i hi hn)⟩
theorem Chg.trans {S : Nat → Prop} {a b c : World} (h : Chg S a b) (k : Chg S b c) : Chg S a c := h.step k fun _ _ x => x
theorem Chg.mono {S S' : Nat → Prop} {a b : World} (h : Chg S a b) (hs : ∀ i, i < a.heap.size → S i → S' i) : Chg S' a b := ⟨h.os, h.tape, h.output, h.size, fun k hk hn => h.block k hk fun x => hn (hs k hk x)⟩
theorem Chg.setCell {S : Nat → Prop} {a w : World} (h : Chg S a w) {p : Addr} (hp : p.block < a.heap.size → S p.block) (u : Value) : Chg S a (w.setCell p u) :=
  ⟨h.os, h.tape, h.output, by simpa [World.setCell] using h.size, fun k hk hn => by
    rw [Below.heap_setCell w p u k (fun e => by subst e; exact hn (hp hk))]; exact h.block k hk hn⟩
theorem Chg.alloc {S : Nat → Prop} {a w : World} (h : Chg S a w) (o : Obj) : Chg S a (w.alloc o) :=
  ⟨h.os, h.tape, h.output, Nat.le_trans h.size (by simp), fun k hk hn => by rw [Below.heap_alloc _ _ _ (Nat.lt_of_lt_of_le hk h.size)]; exact h.block k hk hn⟩
theorem Chg.grown {S : Nat → Prop} {a w w' : World} {row : Option Nat} (h : Chg S a w) (hg : w.grownBy w' row) (hr : ∀ k, row = some k → k < a.heap.size → S k) : Chg S a w' :=
  ⟨hg.os.trans h.os, hg.tape.trans h.tape, hg.output.trans h.output, Nat.le_trans h.size hg.size, fun k hk hn => (hg.block k (Nat.lt_of_lt_of_le hk h.size) (fun e => hn (hr k e.symm hk))).trans (h.block k hk hn)⟩
theorem Chg.below {S : Nat → Prop} {w w' : World} {B : Nat} (h : Chg S w w') (hB : B ≤ w.heap.size) (hS : ∀ k, S k → B ≤ k) : Below B w w' :=
  ⟨h.os, h.tape, h.output, h.size, fun k hk => h.block k (by omega) (fun hs => by have := hS k hs; omega)⟩
theorem chg_below {S : Nat → Prop} {w w' : World} (h : Below w.heap.size w w') : Chg S w w' := ⟨h.os, h.tape, h.output, h.size, fun k hk _ => h.block k hk⟩
theorem RowIs.chg {S : Nat → Prop} {w w' : World} {b : Nat} {e : TypeId} {l : List Value} (h : RowIs w b e l) (hc : Chg S w w') (hn : ¬ S b) : RowIs w' b e l := by
  unfold RowIs at *
  rw [hc.block b (Array.getElem?_eq_some_iff.1 h).1 hn]; exact h
theorem RowIs.other {w : World} {b g j : Nat} {e : TypeId} {l : List Value} (h : RowIs w b e l) (hne : b ≠ g) (x : Value) : RowIs (w.setCell ⟨g, j, none⟩ x) b e l := by
  unfold RowIs at *
  rw [Below.heap_setCell _ _ _ _ hne]; exact h
theorem own_other {w : World} {B b j : Nat} {e : TypeId} {v : Value} {xs : List Value} (h : Own w B e v xs) (hne : v.ownBlock ≠ some b) (x : Value) : Own (w.setCell ⟨b, j, none⟩ x) B e v xs := by
  obtain ⟨h1, h2⟩ := h
  refine ⟨h1, ?_⟩
  rcases h2 with h2 | ⟨g, cap, cur, hv, hg, hh, r⟩
  · exact Or.inl h2
  · subst hv
    exact Or.inr ⟨g, cap, cur, rfl, hg, by rw [Below.heap_setCell _ _ _ _ (fun e => hne (by simp [Value.ownBlock]; exact e))]; exact hh, r⟩
theorem own_cell {w : World} {B g cap n : Nat} {e : TypeId} {xs : List Value} (h : Own w B e (.slice (some ⟨g, 0, none⟩) n cap) xs) (i : Nat) (hi : i < xs.length) : w.cell? ⟨g, i, none⟩ = some xs[i] := by
  rcases h.2 with ⟨h2, _⟩ | ⟨g', cap', cur, hv, hb, hg, hnc, hcm, hcs, ht⟩
  · cases h2
  · simp only [Value.slice.injEq, Option.some.injEq, Addr.mk.injEq, and_true] at hv
    obtain ⟨rfl, _, rfl⟩ := hv
    have : cur[i]? = some xs[i] := by
      rw [← Array.getElem?_toList]
      have e : (cur.toList.take (xs.length * 1))[i]? = some xs[i] := by rw [ht]; simp [hi]
      rw [List.getElem?_take] at e
      rwa [if_pos (by omega)] at e
    simp [World.cell?, hg, this]
theorem ownq_set {w : World} {B : Nat} {e : TypeId} {g cap n : Nat} {xs : List Value} (h : Own w B e (.slice (some ⟨g, 0, none⟩) n cap) xs) (i : Nat) (x : Value) : Own (w.setCell ⟨g, i, none⟩ x) B e (.slice (some ⟨g, 0, none⟩) n cap) (xs.set i x) := by
  obtain ⟨h1, h2⟩ := h
  rcases h2 with ⟨h2, _⟩ | ⟨g', cap', cur, hv, hb, hg, hnc, hcm, hcs, ht⟩
  · cases h2
  · simp only [Value.slice.injEq, Option.some.injEq, Addr.mk.injEq, and_true] at hv
    obtain ⟨rfl, hn, rfl⟩ := hv
    refine ⟨by simp, Or.inr ⟨g, cap, cur.setIfInBounds i x, by rw [List.length_set, hn], hb, heap_setCell_same w g i cur e x hg, by simpa using hnc, hcm, by simpa using hcs, ?_⟩⟩
    rw [Array.toList_setIfInBounds, List.take_set, List.length_set, ht]
theorem ownq_frozen {w : World} {B : Nat} {e : TypeId} {g cap n : Nat} {xs : List Value} (h : Own w B e (.slice (some ⟨g, 0, none⟩) n cap) xs) (i : Nat) : w.frozen? ⟨g, i, none⟩ = false := by
  rcases h.2 with ⟨h2, _⟩ | ⟨g', cap', cur, hv, hb, hg, _⟩
  · cases h2
  · simp only [Value.slice.injEq, Option.some.injEq, Addr.mk.injEq, and_true] at hv
    obtain ⟨rfl, _⟩ := hv
    simp [World.frozen?, hg]
theorem own_block_ne {w : World} {B b : Nat} {e e' : TypeId} {v : Value} {xs l : List Value} (h : Own w B e v xs) (hr : RowIs w b e' l) (hne : e ≠ e') : v.ownBlock ≠ some b := by
  rcases h.2 with ⟨rfl, _⟩ | ⟨g, cap, cur, rfl, _, hg, _⟩
  · simp [Value.ownBlock]
  · simp only [Value.ownBlock, ne_eq, Option.some.injEq]
    rintro rfl
    unfold RowIs at hr
    rw [hr] at hg
    simp at hg
    exact hne hg.2.symm
theorem row_block_ne {w : World} {b c : Nat} {e e' : TypeId} {l l' : List Value} (h : RowIs w b e l) (hr : RowIs w c e' l') (hne : e ≠ e') : b ≠ c := by
  rintro rfl
  unfold RowIs at *
  rw [hr] at h
  simp at h
  exact hne h.2.symm

def ptrV (x : It) : Value := .pointer (some ⟨x.blk, 0, none⟩)
def ptrs (f : Nat → It) (n : Nat) : List Value := (List.range n).map fun i => ptrV (f i)
theorem ptrs_len (f : Nat → It) (n : Nat) : (ptrs f n).length = n := by simp [ptrs]
theorem ptrs_at (f : Nat → It) (n i : Nat) (h : i < n) : (ptrs f n)[i]'(by rw [ptrs_len]; exact h) = ptrV (f i) := by simp [ptrs]
theorem ptrs_succ (f : Nat → It) (n : Nat) : ptrs f (n + 1) = ptrs f n ++ [ptrV (f n)] := by simp [ptrs, List.range_succ]
theorem ptrs_congr {f g : Nat → It} {n : Nat} (h : ∀ i, i < n → g i = f i) : ptrs g n = ptrs f n := by
  unfold ptrs; apply List.map_congr_left; intro i hi; rw [h i (List.mem_range.1 hi)]
theorem ptrs_swap (f : Nat → It) (n : Nat) {i j : Nat} (hi : i < n) (hj : j < n) : ((ptrs f n).set i (ptrV (f j))).set j (ptrV (f i)) = ptrs (swapF f i j) n := by
  apply List.ext_getElem
  · simp [ptrs]
  · intro k h1 h2
    have hk : k < n := by rw [ptrs_len] at h2; exact h2
    rw [ptrs_at _ _ _ hk, List.getElem_set]
    by_cases e1 : j = k
    · subst e1; rw [if_pos rfl, swap_r]
    · rw [if_neg e1, List.getElem_set]
      by_cases e2 : i = k
      · subst e2; rw [if_pos rfl, swap_l]
      · rw [if_neg e2, swap_o f (fun h => e2 h.symm) (fun h => e1 h.symm), ptrs_at _ _ _ hk]
def itemL (x : It) (i : Nat) : List Value := [.int .i64 x.tm.1, .int .i64 x.tm.2, .int .i64 i]
/-- The first n items of f lie in a heap: the record at bw holds the row v of pointers (and the map m). -/
structure HQ (bw m B : Nat) (v : Value) (w : World) (f : Nat → It) (n : Nat) : Prop where
  wheel : RowIs w bw 63 [v, .map (some m)]
  own : Own w B 66 v (ptrs f n)
  item : ∀ i, i < n → RowIs w (f i).blk 69 (itemL (f i) i)
  inj : ∀ i j, i < n → j < n → (f i).blk = (f j).blk → i = j
  lo : ∀ i, i < n → B ≤ (f i).blk
/-- The blocks of a heap. -/
def HS (v : Value) (f : Nat → It) (n : Nat) (k : Nat) : Prop := v.ownBlock = some k ∨ ∃ i, i < n ∧ (f i).blk = k
theorem HQ.drew {bw m B : Nat} {v : Value} {w : World} {f : Nat → It} {n : Nat} (h : HQ bw m B v w f n) : HQ bw m B v w.drew f n := ⟨h.wheel, h.own.drew, h.item, h.inj, h.lo⟩
theorem HQ.form {bw m B : Nat} {v : Value} {w : World} {f : Nat → It} {n : Nat} (h : HQ bw m B v w f n) : ∃ a cap, v = .slice a n cap := by
  have := h.own.form
  rw [ptrs_len] at this
  exact this
theorem HQ.block {bw m B : Nat} {v : Value} {w : World} {f : Nat → It} {n : Nat} (h : HQ bw m B v w f n) (hn : 0 < n) : ∃ g cap, v = .slice (some ⟨g, 0, none⟩) n cap := by
  rcases h.own.2 with ⟨_, h0⟩ | ⟨g, cap, cur, hv, _⟩
  · rw [ptrs_len] at h0; omega
  · rw [ptrs_len] at hv; exact ⟨g, cap, hv⟩
theorem HQ.cell {bw m B g cap : Nat} {w : World} {f : Nat → It} {n : Nat} (h : HQ bw m B (.slice (some ⟨g, 0, none⟩) n cap) w f n) (i : Nat) (hi : i < n) : w.cell? ⟨g, i, none⟩ = some (ptrV (f i)) := by
  have := own_cell h.own i (by rw [ptrs_len]; exact hi)
  rwa [ptrs_at _ _ _ hi] at this
theorem HQ.swap {bw m B g cap : Nat} {w : World} {f : Nat → It} {n : Nat} (h : HQ bw m B (.slice (some ⟨g, 0, none⟩) n cap) w f n) {i j : Nat} (hi : i < n) (hj : j < n) :
    HQ bw m B (.slice (some ⟨g, 0, none⟩) n cap) ((((w.setCell ⟨g, i, none⟩ (ptrV (f j))).setCell ⟨g, j, none⟩ (ptrV (f i))).setCell ⟨(f j).blk, 2, none⟩ (.int .i64 i)).setCell ⟨(f i).blk, 2, none⟩ (.int .i64 j)) (swapF f i j) n := by
  have hre := Re.swap f hi hj
  have gi : ∀ k, k < n → (f k).blk ≠ g := fun k hk e => own_block_ne h.own (h.item k hk) (by decide) (by rw [e]; rfl)
  have wg : bw ≠ g := fun e => own_block_ne h.own h.wheel (by decide) (by rw [e]; rfl)
  have wi : ∀ k, k < n → bw ≠ (f k).blk := fun k hk => row_block_ne h.wheel (h.item k hk) (by decide)
  refine ⟨(((h.wheel.other wg _).other wg _).other (wi j hj) _).other (wi i hi) _, ?_, ?_, hre.inj h.inj, ?_⟩
  · rw [← ptrs_swap f n hi hj]
    exact own_other (own_other (ownq_set (ownq_set h.own i _) j _) (fun e => gi j hj (by simpa [Value.ownBlock] using e.symm)) _) (fun e => gi i hi (by simpa [Value.ownBlock] using e.symm)) _
  · intro k hk
    have base : ∀ k, k < n → RowIs ((w.setCell ⟨g, i, none⟩ (ptrV (f j))).setCell ⟨g, j, none⟩ (ptrV (f i))) (f k).blk 69 (itemL (f k) k) := fun k hk => ((h.item k hk).other (gi k hk) _).other (gi k hk) _
    generalize (w.setCell ⟨g, i, none⟩ (ptrV (f j))).setCell ⟨g, j, none⟩ (ptrV (f i)) = W at base
    by_cases e2 : k = j
    · subst e2
      rw [swap_r]
      by_cases e1 : i = k
      · subst e1; exact ((base i hi).set 2 _).set 2 _
      · exact (((base i hi).other (fun e => e1 (h.inj i k hi hk e)) _).set 2 _)
    · by_cases e1 : k = i
      · subst e1
        rw [swap_l]
        exact (((base j hj).set 2 _).other (fun e => e2 (h.inj k j hk hj e.symm)) _)
      · rw [swap_o f e1 e2]
        exact ((base k hk).other (fun e => e2 (h.inj k j hk hj e)) _).other (fun e => e1 (h.inj k i hk hi e)) _
  · intro k hk
    obtain ⟨k', hk', he⟩ := (hre.mem (swapF f i j k)).1 ⟨k, hk, rfl⟩
    rw [← he]; exact h.lo k' hk'
end Go.Proofs.Ythioekmlljpbpaa
