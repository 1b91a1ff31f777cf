/-
  The contract of the document's own Long.
-/
import Derived.Test.YtagopboofmjnfaaDoorFLong
namespace Go.Proofs.YtagopboofmjnfaaDoor
open Go.RowKit Go.Sort Sc
set_option linter.unusedVariables false
set_option maxRecDepth 20000

theorem followsF : Tryd.prog.follows .mixedOrders = true := by kernel_rfl
theorem below_reF {w W : World} (h : Below w.heap.size w W) (d : Nat) (os : Array Obj) : Below w.heap.size w (grow (redrawn W d) os) := h.trans ((below_regrown W d os).mono h.size)
def lettersK : ByteArray := ⟨#[118, 102, 116, 105, 109, 101, 108, 99, 115, 107, 111, 117]⟩
theorem long_sign {k : Nat} (hk : k < longT.length) : lettersK.extract k (k + 1) = ⟨[longT[k].1].toArray⟩ := by
  have h : ∀ k : Fin 12, lettersK.extract k.val (k.val + 1) = ⟨[(longT[k.val]'k.isLt).1].toArray⟩ := by decide +kernel
  exact h ⟨k, hk⟩
theorem long_row {k : Nat} (hk : k < longT.length) : (strs (longT.map Prod.snd))[k]? = some (.string ⟨longT[k].2.toArray⟩) := by
  simp [strs, hk]
theorem long_apart : ∀ a b : Fin 12, (longT[a.val]'a.isLt).1 = (longT[b.val]'b.isLt).1 → a = b := by decide +kernel
theorem long_at {l : List UInt8} {k : Nat} (hk : k < longT.length) (h : lowL l = [longT[k].1]) : longV l = longT[k].2 := by
  rcases long_cases l with ⟨j, hj, h1, h2⟩ | ⟨h1, _⟩
  · have e := long_apart ⟨j, hj⟩ ⟨k, hk⟩ (by rw [h] at h1; exact (List.cons.inj h1.symm).1)
    obtain rfl : j = k := congrArg Fin.val e
    exact h2
  · exact absurd h (h1 _ (List.getElem_mem hk))
theorem long_none {l : List UInt8} (h : ∀ j (hj : j < longT.length), lowL l ≠ [longT[j].1]) : longV l = l := by
  rcases long_cases l with ⟨j, hj, h1, h2⟩ | ⟨_, h2⟩
  · exact absurd h1 (h j hj)
  · exact h2

set_option maxHeartbeats 1000000 in
set_option maxRecDepth 100000 in
theorem rlong_list (l : List UInt8) (w : World) (h : l.length ≤ 140737488355328) :
    Calls Tryd.prog 16 #[.string ⟨l.toArray⟩] w fun e w' => e = .returned (.string ⟨(longV l).toArray⟩) ∧ Below w.heap.size w w' := by
  have KL := hid (fun w' => reflower_l l w' h)
  have HAT : Hid (∀ k (hk : k < longT.length), lowL l = [longT[k].1] → longV l = longT[k].2) := fun k hk h => long_at hk h
  have HNONE : Hid ((∀ j (hj : j < longT.length), lowL l ≠ [longT[j].1]) → longV l = l) := fun h => long_none h
  generalize lowL l = t at KL HAT HNONE
  have HR := hid (show RowIs (w.alloc (.cells (strs (longT.map Prod.snd)).toArray 9)) w.heap.size 9 (strs (longT.map Prod.snd)) by unfold RowIs; rw [heap_alloc_new])
  have hA := (Below.refl _ w).alloc (Nat.le_refl _) (.cells (strs (longT.map Prod.snd)).toArray 9)
  have hlt := alloc_lt w (.cells (strs (longT.map Prod.snd)).toArray 9)
  have hz12 : (ByteArray.mk #[118, 102, 116, 105, 109, 101, 108, 99, 115, 107, 111, 117]).size = 12 := rfl
  go_enter Tryd.func16, Tryd.ntmps16
  go_wp2
  generalize hW : w.alloc _ = W
  rw [show w.alloc (.cells (strs (longT.map Prod.snd)).toArray 9) = W from hW] at HR hA hlt
  clear hW
  go_loopw [5] (fun i wr => ∃ k : Nat, k ≤ 12 ∧ i = .int .i64 k ∧ Hid (∀ j (hj : j < longT.length), j < k → t ≠ [longT[j].1]) ∧ Below W.heap.size W wr) (fun i _ => 12 - (intOf i).toNat)
  case atStart => exact ⟨0, by omega, rfl, fun j _ h => by omega, Below.refl _ _⟩
  case round =>
    obtain ⟨k, hk, rfl, hno, hb⟩ := hrel
    by_cases hlt2 : k < 12
    · have hkl : k < longT.length := hlt2
      have hsg : (ByteArray.mk #[118, 102, 116, 105, 109, 101, 108, 99, 115, 107, 111, 117]).extract k (k + 1) = ⟨[longT[k].1].toArray⟩ := long_sign hkl
      have hcell : wr.cell? ⟨w.heap.size, k, none⟩ = some (.string ⟨longT[k].2.toArray⟩) := by
        have h1 := (HR.out.below hb hlt).cell k (by rw [strs_length]; exact hkl)
        rw [h1]
        have h2 := long_row hkl
        rw [List.getElem?_eq_getElem (by rw [strs_length]; exact hkl)] at h2
        exact h2
      have hat := hid (HAT.out k hkl)
      have hext : Hid (t ≠ [longT[k].1] → ∀ j (hj : j < longT.length), j < k + 1 → t ≠ [longT[j].1]) := fun hne j hj hjk => by
        by_cases e : j = k
        · subst e; exact hne
        · exact hno.out j hj (by omega)
      have hwr : IntKind.i64.wrap ((k : Int) + 1) = ((k + 1 : Nat) : Int) := by
        simp [IntKind.wrap, IntKind.bits, IntKind.signed]; omega
      have c := hid (fun (d : Nat) (os : Array Obj) => Calls.regrown_of (KL.out (grow (redrawn wr d) os)))
      generalize longT[k].1 = s at hsg hat hext
      generalize longT[k].2 = v at hcell hat
      replace hcell := cell_regrown hcell
      clear hno hkl
      by_cases he : t = [s]
      · have heq : (t == [s]) = true := by simpa using he
        have hv := hid (hat.out he)
        subst he
        clear hat hext
        go_wp2
        refine wp_region_quiet_below followsF (by kernel_rfl) ?_
        repeat (go_big_quiet_step (with_reducible exact c.out _ _))
        refine wpQuiet_nil ?_
        intro _ hw'
        obtain ⟨⟨dq, osq⟩, hw''⟩ := hw'
        subst hw''
        have hb1 := below_reF hb dq osq
        have hc1 := hcell dq osq
        clear c hcell
        go_wp2
        go_ret
        exact ⟨by rw [hv.out]; rfl, hA.trans (hb1.mono hA.size)⟩
      · have heq : (t == [s]) = false := by simpa using he
        have hnx := hid (hext.out he)
        clear hat hext he
        go_wp2
        refine wp_region_quiet_below followsF (by kernel_rfl) ?_
        repeat (go_big_quiet_step (with_reducible exact c.out _ _))
        refine wpQuiet_nil ?_
        intro _ hw'
        obtain ⟨⟨dq, osq⟩, hw''⟩ := hw'
        subst hw''
        have hb1 := below_reF hb dq osq
        clear c hcell
        go_wp2
        go_roundw
        case rel => exact ⟨k + 1, by omega, by go_num, hnx, hb1⟩
        case measure => simp [intOf]; omega
    · have hv := hid (HNONE.out fun j hj => hno.out j hj (by have : j < 12 := hj; omega))
      clear hno
      go_wp2
      go_ret
      exact ⟨by rw [hv.out]; rfl, hA.trans (hb.mono hA.size)⟩

end Go.Proofs.YtagopboofmjnfaaDoor
