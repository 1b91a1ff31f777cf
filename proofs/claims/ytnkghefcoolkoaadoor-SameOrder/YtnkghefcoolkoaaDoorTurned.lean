/-
  The law's own function 'turned' (layer 4): a list the other way round.
-/
import Derived.Test.YtnkghefcoolkoaaDoorBaseD
import Derived.Test.YtnkghefcoolkoaaDoorBaseE
namespace Go.Proofs.YtnkghefcoolkoaaDoor
open Go.RowKit Sc
set_option linter.unusedVariables false
set_option maxRecDepth 20000
set_option linter.unusedSimpArgs false

theorem drop_rev {ps : List Par} {m : Nat} (h : m < ps.length) : (ps.drop m).reverse = (ps.drop (m + 1)).reverse ++ [ps[m]] := by
  rw [List.drop_eq_getElem_cons h, List.reverse_cons]

set_option maxHeartbeats 1000000 in
set_option maxRecDepth 100000 in
theorem turned_row (a : Addr) (cap : Nat) (ps : List Par) (w : World) (hz : ps.length ≤ 200) (hc : ∀ k (hk : k < ps.length), a.block < w.heap.size ∧ ParAt w a k ps[k]) :
    Calls Tryd.prog 19 #[.slice (some a) ps.length cap] w fun e w' => ∃ v, e = .returned v ∧ OwnP w' w.heap.size v ps.reverse ∧ Below w.heap.size w w' := by
  have HC := hid hc; clear hc
  obtain ⟨i0, hi, hz0, hz1, hz2⟩ := info_parts infoPar
  obtain ⟨n, hn⟩ : ∃ n, n = ps.length := ⟨_, rfl⟩
  rw [← hn] at hz ⊢
  have HN := hid hn; clear hn
  go_enter Tryd.func19, Tryd.ntmps19
  go_wp2
  go_loopw [3, 4] (fun o i wr => ∃ j : Nat, j ≤ n ∧ i = .int .i64 ((j : Int) - 1) ∧ OwnP wr w.heap.size o (ps.drop j).reverse ∧ Below w.heap.size w wr ∧ w.heap.size ≤ wr.heap.size) (fun o i _ => (intOf i + 1).toNat)
  case atStart => exact ⟨n, Nat.le_refl _, rfl, by rw [List.drop_of_length_le (by have := HN.out; omega)]; exact OwnP.nil _ _, Below.refl _ _, Nat.le_refl _⟩
  case round =>
    obtain ⟨j, hj, rfl, hown, hb, hB⟩ := hrel
    cases j with
    | zero =>
      have hd : Hid ((ps.drop 0).reverse = ps.reverse) := show _ = _ by simp
      rw [hd.out] at hown
      go_wp2
      go_ret
      exact ⟨_, rfl, hown, hb⟩
    | succ m =>
      have e1 : (((m + 1 : Nat) : Int) - 1) = (m : Int) := by omega
      rw [e1]
      have hkl : m < ps.length := by have := HN.out; omega
      obtain ⟨hab, hpa⟩ := HC.out m hkl
      obtain ⟨c0, c1, c2⟩ := hpa.below hb hab
      have hdr := hid (drop_rev hkl)
      have hdl : (ps.drop (m + 1)).reverse.length ≤ 2000000 := by have := HN.out; simp; omega
      generalize ps[m] = q at c0 c1 c2 hdr
      obtain ⟨na, nb, cc⟩ := q
      simp only at c0 c1 c2
      clear hpa
      have hnew : ∀ (wr : World) (j : Nat) (u : Value), (parCells ⟨na, nb, cc⟩)[j]? = some u → (wr.alloc (.cells #[.string ⟨na.toArray⟩, .string ⟨nb.toArray⟩, .bool cc] 42)).cell? ((⟨wr.heap.size, 0, none⟩ : Addr).add j) = some u := by
        intro w4 j u hj
        have e : (⟨w4.heap.size, 0, none⟩ : Addr).add j = ⟨w4.heap.size, j, none⟩ := by unfold Addr.add; split <;> simp_all
        rw [e]
        unfold World.cell?
        rw [heap_alloc_new]
        simpa [parCells] using hj
      have HNW := hid hnew; clear hnew
      generalize (ps.drop (m + 1)).reverse = qs at hown hdr hdl
      go_wp2_with (at_builtin; refine wp_appP _ rfl (.tmp 12) (.tmp 17) 22 rfl w.heap.size i0 _ Tryd.underlying22 hi hz0 hz1 hz2 rfl _ qs rfl (hown.alloc _) ⟨_, 0, none⟩ 1 ⟨na, nb, cc⟩ rfl (by exact HNW.out _) hdl w (hb.alloc hB _) (by simp; omega) ?_; intro v5 w5 hown5 hb5 hB5)
      go_wp2
      go_roundw
      case rel => exact ⟨m, by omega, rfl, by rw [hdr.out]; exact hown5, hb5, hB5⟩
      case measure => simp [intOf]
set_option maxHeartbeats 400000 in
theorem turned_nil (a : Option Addr) (cap : Nat) (w : World) :
    Calls Tryd.prog 19 #[.slice a 0 cap] w fun e w' => e = .returned (.slice none 0 0) ∧ w' = w := by
  go_enter Tryd.func19, Tryd.ntmps19
  go_wp2
  go_loop [3, 4] (fun o i => o = .slice none 0 0 ∧ i = .int .i64 (-1)) (fun o i => 0)
  case atStart => exact ⟨rfl, rfl⟩
  case round =>
    obtain ⟨rfl, rfl⟩ := hrel
    go_wp2
    go_ret
    exact ⟨rfl, rfl⟩
theorem turned_any (v : Value) (ps : List Par) (w : World) (hz : ps.length ≤ 200) (h : ParsAt w v ps) :
    Calls Tryd.prog 19 #[v] w fun e w' => ∃ a c, e = .returned (.slice a ps.length c) ∧ OwnP w' w.heap.size (.slice a ps.length c) ps.reverse ∧ Below w.heap.size w w' := by
  rcases h with ⟨rfl, rfl⟩ | ⟨a, cap, rfl, hc⟩
  · refine (turned_nil none 0 w).mono ?_
    rintro e w' ⟨rfl, rfl⟩
    exact ⟨none, 0, rfl, OwnP.nil _ _, Below.refl _ _⟩
  · refine (turned_row a cap ps w hz hc).mono ?_
    rintro e w' ⟨v, rfl, ho, hb⟩
    obtain ⟨a', c', e⟩ := ho.parsAt.form
    rw [List.length_reverse] at e
    subst e
    exact ⟨a', c', rfl, ho, hb⟩

end Go.Proofs.YtnkghefcoolkoaaDoor
