/-
  The wheel's Set.
-/
import Derived.Test.YthioekmlljpbpaaWStop
namespace Go.Proofs.Ythioekmlljpbpaa
open Go.RowKit Go.Maps Go.WideMaps
set_option linter.unusedVariables false
set_option maxRecDepth 20000

section
variable {bw m B : Nat} {v : Value} {f : Nat → It} {n : Nat} {D : DataW Unit} {w : World} {l : List Tm}
theorem HQ.retime (h : HQ bw m B v w f n) {i : Nat} (hi : i < n) (a : Int) : HQ bw m B v (w.setCell ⟨(f i).blk, 0, none⟩ (.int .i64 a)) (putF f i ⟨(f i).blk, (a, (f i).tm.2)⟩) n := by
  have hbl : ∀ k, (putF f i ⟨(f i).blk, (a, (f i).tm.2)⟩ k).blk = (f k).blk := fun k => by
    by_cases e : k = i
    · subst e; rw [put_at]
    · rw [put_ne _ _ e]
  have hp : ptrs (putF f i ⟨(f i).blk, (a, (f i).tm.2)⟩) n = ptrs f n := by
    unfold ptrs; apply List.map_congr_left; intro k _; unfold ptrV; rw [hbl]
  refine ⟨h.wheel.other (row_block_ne h.wheel (h.item i hi) (by decide)) _, by rw [hp]; exact own_other h.own (own_block_ne h.own (h.item i hi) (by decide)) _, fun k hk => ?_, fun j k hj hk e => h.inj j k hj hk (by rw [hbl, hbl] at e; exact e), fun k hk => by rw [hbl]; exact h.lo k hk⟩
  by_cases e : k = i
  · subst e; rw [put_at]; exact (h.item k hk).set 0 _
  · rw [put_ne _ _ e]; exact (h.item k hk).other (fun e' => e (h.inj k i hk hi e')) _
theorem WH.fix {f' : Nat → It} {w' : World} {i : Nat} {a : Int} (h : WH bw m B v f n D w l) (hi : i < n) (hq : HQ bw m B v w' f' n) (hre : Re n (putF f i ⟨(f i).blk, (a, (f i).tm.2)⟩) f') (hh : FixOK itLt (putF f i ⟨(f i).blk, (a, (f i).tm.2)⟩) n i → Heap itLt f' n)
    (hm : w'.ownsMap Try.prog 3 ptrE m n D) : WH bw m B v f' n D w' (setT l (f i).tm.2 a) := by
  have hP : ∀ k, (putF f i ⟨(f i).blk, (a, (f i).tm.2)⟩ k).blk = (f k).blk ∧ (putF f i ⟨(f i).blk, (a, (f i).tm.2)⟩ k).tm.2 = (f k).tm.2 := fun k => by
    by_cases e : k = i
    · subst e; rw [put_at]; exact ⟨rfl, rfl⟩
    · rw [put_ne _ _ e]; exact ⟨rfl, rfl⟩
  have hK := h.k.fix hi hre (hh (fix_ok it_ord h.k.heap hi fun k hk => put_ne f _ hk))
  have old : ∀ j, j < n → ∃ c, c < n ∧ (f' j).blk = (f c).blk ∧ (f' j).tm.2 = (f c).tm.2 := fun j hj => by
    obtain ⟨c, hc, ec⟩ := (hre.mem (f' j)).1 ⟨j, hj, rfl⟩
    exact ⟨c, hc, by rw [← ec, (hP c).1], by rw [← ec, (hP c).2]⟩
  refine ⟨hq, hK, hm, fun id => ?_, fun j hj z => ?_, h.size, h.wlo, h.mlo, fun j hj => ?_⟩
  · rw [h.has]
    constructor
    · rintro ⟨c, hc, rfl⟩
      obtain ⟨j, hj, ej⟩ := (hre.mem (putF f i ⟨(f i).blk, (a, (f i).tm.2)⟩ c)).2 ⟨c, hc, rfl⟩
      exact ⟨j, hj, by rw [ej, (hP c).2]⟩
    · rintro ⟨j, hj, rfl⟩
      obtain ⟨c, hc, _, e⟩ := old j hj
      exact ⟨c, hc, e.symm⟩
  · obtain ⟨c, hc, e1, e2⟩ := old j hj
    rw [e2, e1]; exact h.at' c hc z
  · obtain ⟨c, hc, _, e2⟩ := old j hj
    rw [e2]; exact h.wf c hc
theorem WH.push {v' : Value} {f' : Nat → It} {w' : World} {b : Nat} {a id : Int} (h : WH bw m B v f n D w l) (hno : ¬ ∃ i, i < n ∧ (f i).tm.2 = id) (hwf : (Lit.int .i64 id).wf = true) (hb : ∀ i, i < n → (f i).blk ≠ b) (hq : HQ bw m B v' w' f' (n + 1))
    (hre : Re (n + 1) (putF f n ⟨b, (a, id)⟩) f') (hh : Heap itLt f n → Heap itLt f' (n + 1)) (hm : w'.ownsMap Try.prog 3 ptrE m (n + 1) (D.put (idK id) (.lit (.int .i64 b)))) :
    WH bw m B v' f' (n + 1) (D.put (idK id) (.lit (.int .i64 b))) w' (setT l id a) := by
  have hnl : ∀ t ∈ l, t.2 ≠ id := (when_none id).1 (h.hasNot hno).2
  have hK := h.k.push hnl hb hre (hh h.k.heap)
  have hisM := h.mp.isMap
  have old : ∀ j, j < n + 1 → (f' j = ⟨b, (a, id)⟩) ∨ ∃ c, c < n ∧ f' j = f c := fun j hj => by
    obtain ⟨c, hc, ec⟩ := (hre.mem (f' j)).1 ⟨j, hj, rfl⟩
    by_cases e : c = n
    · subst e; rw [put_at] at ec; exact .inl ec.symm
    · rw [put_ne _ _ e] at ec; exact .inr ⟨c, by omega, ec.symm⟩
  have new : ∃ j, j < n + 1 ∧ f' j = ⟨b, (a, id)⟩ := by
    obtain ⟨j, hj, e⟩ := (hre.mem ⟨b, (a, id)⟩).2 ⟨n, by omega, put_at f n _⟩
    exact ⟨j, hj, e⟩
  have keep : ∀ c, c < n → ∃ j, j < n + 1 ∧ f' j = f c := fun c hc => by
    obtain ⟨j, hj, e⟩ := (hre.mem (f c)).2 ⟨c, by omega, put_ne f _ (by omega)⟩
    exact ⟨j, hj, e⟩
  have hsz : Maps.size (D.put (idK id) (.lit (.int .i64 b))) = n + 1 := by
    rw [Maps.size_put (h.mp.tidy keyI), if_neg (by rw [(h.hasNot hno).1]; simp), h.size]
  refine ⟨hq, hK, hm, fun id' => ?_, fun j hj z => ?_, hsz, h.wlo, h.mlo, fun j hj => ?_⟩
  · by_cases e : id' = id
    · subst e
      rw [Maps.has_put_same hisM (by trivial)]
      obtain ⟨j, hj, ej⟩ := new
      simp only [true_iff]
      exact ⟨j, hj, by rw [ej]⟩
    · rw [Maps.has_put_other (idK_ne e), h.has]
      constructor
      · rintro ⟨c, hc, rfl⟩
        obtain ⟨j, hj, ej⟩ := keep c hc
        exact ⟨j, hj, by rw [ej]⟩
      · rintro ⟨j, hj, rfl⟩
        rcases old j hj with ej | ⟨c, hc, ec⟩
        · exact absurd (by rw [ej]) e
        · exact ⟨c, hc, by rw [ec]⟩
  · rcases old j hj with ej | ⟨c, hc, ec⟩
    · rw [ej]; exact Maps.atKey_put_same hisM (by trivial) _ _
    · rw [ec, Maps.atKey_put_other (idK_ne fun e => hno ⟨c, hc, e⟩)]
      exact h.at' c hc z
  · rcases old j hj with ej | ⟨c, hc, ec⟩
    · rw [ej]; exact hwf
    · rw [ec]; exact h.wf c hc
end
end Go.Proofs.Ythioekmlljpbpaa
