/-
  The document's own When and Due, over a row of timers.
-/
import Derived.Test.YthioekmlljpbpaaWWhen
import Derived.Test.YthioekmlljpbpaaWTm
namespace Go.Proofs.Ythioekmlljpbpaa
open Go.RowKit
set_option linter.unusedVariables false
set_option maxRecDepth 20000

/-- The slice v shows the timers ts. -/
def TmsAt (w : World) (v : Value) (ts : List Tm) : Prop :=
  ∃ ao cap, v = .slice ao ts.length cap ∧ ts.length ≤ cap ∧ (ts ≠ [] → ∃ g off cs, ao = some ⟨g, off, none⟩ ∧ w.heap[g]? = some (.cells cs 49 (0, 0)) ∧ ∀ k (hk : k < ts.length), cs[off + k * 2]? = some (.int .i64 ts[k].1) ∧ cs[off + k * 2 + 1]? = some (.int .i64 ts[k].2))
theorem cells_at {w : World} {g : Nat} {cs : Array Value} {e : TypeId} {j : Nat} {u : Value} (h : w.heap[g]? = some (.cells cs e (0, 0))) (hj : cs[j]? = some u) : w.cell? ⟨g, j, none⟩ = some u := by
  simp [World.cell?, h, hj]
theorem TmsAt.chg {S : Nat → Prop} {w w' : World} {v : Value} {ts : List Tm} (h : TmsAt w v ts) (hc : Chg S w w') (hn : ∀ k cs, w.heap[k]? = some (.cells cs 49 (0, 0)) → ¬ S k) : TmsAt w' v ts := by
  obtain ⟨ao, cap, hv, hcap, hr⟩ := h
  refine ⟨ao, cap, hv, hcap, fun hne => ?_⟩
  obtain ⟨g, off, cs, he, hh, hk⟩ := hr hne
  exact ⟨g, off, cs, he, by rw [hc.block g (Array.getElem?_eq_some_iff.1 hh).1 (hn g cs hh)]; exact hh, hk⟩
theorem TmsAt.nil (w : World) : TmsAt w (.slice none 0 0) [] := ⟨none, 0, rfl, by simp, fun h => absurd rfl h⟩
theorem TmsAt.below {w w' : World} {v : Value} {ts : List Tm} (h : TmsAt w v ts) (hb : Below w.heap.size w w') : TmsAt w' v ts := h.chg (chg_below (S := fun _ => False) hb) fun _ _ _ x => x
theorem OwnT.at {w : World} {B : Nat} {v : Value} {ts : List Tm} (h : OwnT w B v ts) : TmsAt w v ts := by
  rcases h.2 with ⟨rfl, hn⟩ | ⟨g, cap, cur, hv, hg, hh, hnc, _, hcs, ht⟩
  · have : ts = [] := List.eq_nil_of_length_eq_zero hn
    subst this
    exact TmsAt.nil w
  · refine ⟨_, cap, hv, hnc, fun _ => ⟨g, 0, cur, rfl, hh, fun k hk => ?_⟩⟩
    obtain ⟨c0, c1⟩ := tmsCells_get ts k hk
    rw [← ht, List.getElem?_take] at c0 c1
    rw [if_pos (by omega)] at c0 c1
    rw [Array.getElem?_toList] at c0 c1
    simp only [Nat.zero_add]
    exact ⟨c0, c1⟩
theorem when_step {l : List Tm} {id : Int} {k : Nat} (hk : k < l.length) (hne : l[k].2 ≠ id) : whenT (l.drop k) id = whenT (l.drop (k + 1)) id := by
  rw [List.drop_eq_getElem_cons hk]
  conv => lhs; unfold whenT
  rw [if_neg hne]
theorem when_hit {l : List Tm} {id : Int} {k : Nat} (hk : k < l.length) (he : l[k].2 = id) : whenT (l.drop k) id = some l[k].1 := by
  rw [List.drop_eq_getElem_cons hk]
  unfold whenT
  rw [if_pos he]

set_option maxHeartbeats 4000000 in
set_option maxRecDepth 100000 in
theorem refwhen_any {w : World} {v : Value} {l : List Tm} (h : TmsAt w v l) {id : Int} (hn : l.length ≤ 1000000) :
    Calls Try.prog 11 #[v, .int .i64 id] w fun e w' => e = .returned (whenV l id) ∧ w' = w := by
  obtain ⟨ao, cap, rfl, hcap, hr⟩ := h
  have HR := hid hr
  obtain ⟨n, hnn⟩ : ∃ n, n = l.length := ⟨_, rfl⟩
  rw [← hnn] at hn hcap ⊢
  have HN := hid hnn
  clear hr hnn
  go_enter Try.func11, Try.ntmps11
  go_wp2
  go_loopw [6] (fun i wr => ∃ k : Nat, k ≤ n ∧ i = .int .i64 k ∧ wr = w ∧ Hid (whenT l id = whenT (l.drop k) id)) (fun i _ => n - (intOf i).toNat)
  case atStart => exact ⟨0, by omega, rfl, rfl, rfl⟩
  case round =>
    obtain ⟨k, hk, rfl, hwr, hinv⟩ := hrel
    rw [hwr]
    clear hwr
    by_cases hlt : k < n
    · have hlt' : (k : Int) < n := by omega
      have hkl : k < l.length := by rw [← HN.out]; exact hlt
      obtain ⟨g, off, cs, hao, hh, hcell⟩ := HR.out (by intro e; rw [e] at hkl; simp at hkl)
      subst hao
      have c0 := cells_at hh (hcell k hkl).1
      have c1 := cells_at hh (hcell k hkl).2
      have ST := hid (fun x => when_step (l := l) (id := id) hkl x)
      have HT := hid (fun x => when_hit (l := l) (id := id) hkl x)
      clear hh hcell
      generalize l[k] = t at c0 c1 ST HT
      by_cases he : t.2 = id
      · have hv : whenV l id = .tuple #[.int .i64 t.1, .bool true] := by unfold whenV; rw [hinv.out, HT.out he]
        have HV := hid hv
        have heb : (t.2 == id) = true := by rw [beq_iff_eq]; exact he
        clear hv ST HT he hinv HR
        go_wp2
        go_ret2
        exact ⟨by rw [HV.out]; rfl, rfl⟩
      · have heb : (t.2 == id) = false := by rw [beq_eq_false_iff_ne]; exact he
        have hinv2 := hid (hinv.out.trans (ST.out he))
        clear ST HT he hinv HR
        go_wp2
        go_roundw
        case rel => exact ⟨k + 1, by omega, by go_num, by first | rfl | trivial, hinv2.out⟩
        case measure => simp [intOf]; omega
    · have hlt' : ¬ ((k : Int) < n) := by omega
      have hv : whenV l id = .tuple #[.int .i64 0, .bool false] := by
        unfold whenV
        rw [hinv.out, List.drop_eq_nil_of_le (by rw [← HN.out]; omega)]
        rfl
      have HV := hid hv
      clear hv hinv HR
      go_wp2
      go_ret2
      exact ⟨by rw [HV.out]; rfl, rfl⟩
end Go.Proofs.Ythioekmlljpbpaa
