/-
  Go's sort, over a row of numbers of the call's own.
-/
import Derived.Test.YtbnmdljlfldgoaaSShelf
import Derived.Test.YtbnmdljlfldgoaaSB
import Derived.Sort.OwnSortedInts
namespace Go.Proofs.Ytbnmdljlfldgoaa
open Go.RowKit Go.Maps Go.WideMaps
set_option linter.unusedVariables false
set_option maxRecDepth 20000
set_option linter.unusedSimpArgs false

theorem sort_len (xs : List Int) : (sortI xs).length = xs.length := (List.mergeSort_perm _ _).length_eq
theorem sort_all : SortI := by
  intro u B v xs ho hn
  have hcl : (idCells xs).length = xs.length := by simp [idCells]
  have ho0 := ho
  obtain ⟨h1, h2⟩ := ho
  rcases h2 with ⟨rfl, h0⟩ | ⟨g, cap, cur, rfl, hg, hh, hnc, hcm, hcs, ht⟩
  · have hx : xs = [] := List.eq_nil_of_length_eq_zero (by rw [← hcl]; exact h0)
    subst hx
    refine (slices_Sort_int_none none 0 u).mono ?_
    rintro e u' ⟨rfl, rfl⟩
    have e0 : sortI [] = [] := by simp [sortI]
    rw [e0]
    exact ⟨rfl, ho0, ⟨rfl, rfl, rfl, Nat.le_refl _, fun _ _ _ => rfl⟩⟩
  · rw [hcl] at ht hnc ⊢
    rw [Nat.mul_one] at ht
    have hH := holds_of_blockI (ss := xs) hh ht
    refine (slices_Sort_int g 0 cap xs u hH (Array.getElem?_eq_some_iff.1 hh).1 (by omega)).mono ?_
    rintro e u' ⟨rfl, n, os, rfl⟩
    refine ⟨rfl, ?_, grownBy_sortedI _⟩
    have hl : (idCells (sortI xs)).length = xs.length := by simp [idCells, sort_len]
    unfold Own
    rw [hl]
    exact ownsRow_sortedI (ss := xs) (ts := sortI xs) (sort_len xs) hg hh hnc hcm (by simpa using hcs)
end Go.Proofs.Ytbnmdljlfldgoaa
