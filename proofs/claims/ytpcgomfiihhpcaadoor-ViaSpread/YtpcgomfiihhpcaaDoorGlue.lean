/-
  The contract of the document's own Glue.
-/
import Derived.Test.YtpcgomfiihhpcaaDoorFH
import Derived.Lib.AppendStr
namespace Go.Proofs.YtpcgomfiihhpcaaDoor
open Go.RowKit Sc
set_option linter.unusedVariables false
set_option maxRecDepth 20000

/-- append(b, s...), s a text -/
theorem wp_appstr {P : Program} (w : World) {ops : Array Oper} {rest : List Oper} {o : Oper} {a : Act} {Q : Exit → Act → World → Prop} (hgd : o.guard = none) (sl x : Operand) (t u : TypeId)
    (ho : o.op = .call { callee := .builtin .append, args := #[sl, x], argTypes := #[t, u] })
    (B : Nat) (e : TypeId) (i : TypeInfo) (ht : P.underlying t = some (.slice e)) (hu : P.underlying u = some .string) (hi : P.info? e = some i) (hz : i.zero = some (.int .u8 0))
    (hsize : i.size = 1) (hby : i.bytes = 1) (v : Value) (l : List UInt8) (hs : a.eval sl = v) (hown : Own w B e v (Lib.byteCells l)) (s : ByteArray) (hx : a.eval x = .string s)
    (h63 : l.length + s.size ≤ 140737488355328) (w0 : World) (hb : Below B w0 w) (hB : B ≤ w.heap.size) {e2 : TypeId} {v2 : Value} {xs2 : List Value} {B2 : Nat} (hown2 : Own w B2 e2 v2 xs2) (hne : e2 ≠ e)
    (h : ∀ v' w', Own w' B e v' (Lib.byteCells (l ++ s.data.toList)) → Own w' B2 e2 v2 xs2 → Below B w0 w' → B ≤ w'.heap.size → wpList P ops Q rest (a.put o.dst v') w') : wpList P ops Q (o :: rest) a w := by
  have hl : (Lib.byteCells l).length = l.length := Lib.byteCells_length l
  have hsl : (Lib.strCells s).length = s.size := Lib.strCells_length s
  refine Lib.wpList_append_own_string w hgd sl x t u ho B e i ht hu hi hz hsize hby v (Lib.byteCells l).length (Lib.byteCells l) hs hown s hx (by rw [hl]; unfold maxLen; omega) (by rw [hl]; exact h63) hB ?_
  intro v' w' ho' hgr _
  refine h v' w' ?_ (World.ownsRow.kept hown2 hgr ?_) (hb.grown hgr hB (fun k hk => (World.ownsRow.lt hown k hk).1)) (Nat.le_trans hB hgr.size)
  · unfold Own
    rw [Lib.byteCells_append, List.length_append, ← Lib.strCells_eq, hsl]
    exact ho'
  · rcases hown2.2 with ⟨rfl, _⟩ | ⟨g2, c2, u2, rfl, _, hg2, _⟩
    · exact Or.inl rfl
    · right
      rcases hown.2 with ⟨rfl, _⟩ | ⟨g1, c1, u1, rfl, _, hg1, _⟩
      · simp [Value.ownBlock]
      · simp only [Value.ownBlock]
        intro e'
        injection e' with e'
        rw [e', hg1] at hg2
        injection hg2 with hg2
        injection hg2 with _ hg2
        exact hne hg2.symm

/-- The first k texts with t between. -/
def glueK (t : List UInt8) (ps : List (List UInt8)) : Nat → List UInt8
  | 0 => []
  | k + 1 => glueK t ps k ++ (if 0 < k then t else []) ++ ps.getD k []
theorem glueK_mono (t : List UInt8) (ps : List (List UInt8)) {k n : Nat} (h : k ≤ n) : (glueK t ps k).length ≤ (glueK t ps n).length := by
  induction n with
  | zero => have : k = 0 := by omega
            subst this; exact Nat.le_refl _
  | succ n ih =>
    by_cases e : k = n + 1
    · subst e; exact Nat.le_refl _
    · have := ih (by omega)
      rw [glueK]; simp only [List.length_append]; omega
theorem getD_at {ps : List (List UInt8)} {k : Nat} (h : k < ps.length) : ps.getD k [] = ps[k] := by simp [List.getD, h]
theorem glue_first (t : List UInt8) (ps : List (List UInt8)) (h : 0 < ps.length) : glueK t ps 1 = ps[0] := by
  rw [glueK, glueK, getD_at h]; rfl
theorem glue_next (t : List UInt8) (ps : List (List UInt8)) {k : Nat} (h : k < ps.length) (h0 : 0 < k) : glueK t ps (k + 1) = glueK t ps k ++ t ++ ps[k] := by
  rw [glueK, if_pos h0, getD_at h]

theorem mkd (l : List UInt8) : (ByteArray.mk l.toArray).data.toList = l := rfl
theorem mks (l : List UInt8) : (ByteArray.mk l.toArray).size = l.length := by show l.toArray.size = _; simp

set_option maxHeartbeats 1000000 in
theorem glue_any (B1 : Nat) (v1 : Value) (ps : List (List UInt8)) (t : ByteArray) (w : World) (h1 : Own w B1 9 v1 (strs ps)) (hne : ps ≠ []) (hl : ps.length ≤ 281474976710656)
    (hlen : (glueK t.data.toList ps ps.length).length ≤ 140737488355328) :
    Calls Tryd.prog 24 #[v1, .string t] w fun e w' => e = .returned (.string ⟨(glueK t.data.toList ps ps.length).toArray⟩) ∧ Below w.heap.size w w' := by
  obtain ⟨i0, hi, hz0, hz1, hz2⟩ := info_parts info5
  obtain ⟨g1, c1, hv1, k1⟩ := own_strs h1 hne
  subst hv1
  have K1 : Hid (∀ j (hj : j < ps.length), w.cell? ⟨g1, j, none⟩ = some (.string ⟨(ps[j]).toArray⟩)) := k1
  have hpos : 0 < ps.length := by cases ps with | nil => exact absurd rfl hne | cons x r => simp
  have hg1 : g1 < w.heap.size := World.block_lt_of_cell? w ⟨g1, 0, none⟩ (k1 0 hpos)
  have HM : Hid (∀ k, k ≤ ps.length → (glueK t.data.toList ps k).length ≤ 140737488355328) := fun k hk => Nat.le_trans (glueK_mono _ _ hk) hlen
  have htl := len_data t
  have HT : Hid (t.data.toList.length = t.size) := htl
  clear k1 hne hlen htl
  go_enter Tryd.func24, Tryd.ntmps24
  go_wp2
  go_loopw [5, 6] (fun v i wr => ∃ k : Nat, k ≤ ps.length ∧ i = .int .i64 k ∧ Own wr w.heap.size 5 v (Lib.byteCells (glueK t.data.toList ps k)) ∧ Below w.heap.size w wr ∧ w.heap.size ≤ wr.heap.size) (fun _ i _ => ps.length - (intOf i).toNat)
  case atStart => exact ⟨0, Nat.zero_le _, rfl, Own.nil _ _ _, Below.refl _ _, Nat.le_refl _⟩
  case round =>
    obtain ⟨k, hk, rfl, hown, hb, hB⟩ := hrel
    by_cases hlt : k < ps.length
    · have f1 : wr.cell? ⟨g1, k, none⟩ = some (.string ⟨(ps[k]).toArray⟩) := (hb.cell (p := ⟨g1, k, none⟩) hg1).trans (K1.out k hlt)
      have hm1 := HM.out (k + 1) (by omega)
      by_cases h0 : k = 0
      · subst h0
        have hs1 := glue_first t.data.toList ps hlt
        rw [hs1] at hm1
        have HS : Hid (glueK t.data.toList ps 1 = ps[0]) := hs1
        clear hs1
        go_wp2_with (at_builtin; refine wp_appstr _ rfl (.tmp 18) (.tmp 22) 78 9 rfl w.heap.size 5 i0 Tryd.underlying78 Tryd.underlying9 hi hz0 hz1 hz2 _ _ rfl hown ⟨(ps[0]).toArray⟩ rfl (by rw [mks]; simp [glueK]; omega) w hb hB (h1.below hb) (by decide) ?_; intro v3 w3 hown3 _ hb3 hB3)
        go_wp2
        go_roundw
        case rel => exact ⟨1, by omega, by go_num, by rw [HS.out]; exact hown3, hb3, hB3⟩
        case measure => simp [intOf]; omega
      · have hs1 := glue_next t.data.toList ps hlt (by omega)
        rw [hs1] at hm1
        simp only [List.length_append] at hm1
        have HS : Hid (glueK t.data.toList ps (k + 1) = glueK t.data.toList ps k ++ t.data.toList ++ ps[k]) := hs1
        have hpk : (0 : Int) < (k : Int) := by omega
        clear hs1
        go_wp2_with (first
          | (at_builtin; refine wp_appstr _ rfl (.tmp 15) (.tmp 16) 78 9 rfl w.heap.size 5 i0 Tryd.underlying78 Tryd.underlying9 hi hz0 hz1 hz2 _ _ rfl hown t rfl (by have := HT.out; omega) w hb hB (h1.below hb) (by decide) ?_; intro v2 w2 hown2 hk2 hb2 hB2; replace f1 : w2.cell? ⟨g1, k, none⟩ = some (.string ⟨(ps[k]).toArray⟩) := (hb2.cell (p := ⟨g1, k, none⟩) hg1).trans (K1.out k hlt))
          | (at_builtin; refine wp_appstr _ rfl (.tmp 18) (.tmp 22) 78 9 rfl w.heap.size 5 i0 Tryd.underlying78 Tryd.underlying9 hi hz0 hz1 hz2 _ _ rfl hown2 ⟨(ps[k]).toArray⟩ rfl (by rw [mks, List.length_append]; omega) w hb2 hB2 (h1.below hb2) (by decide) ?_; intro v3 w3 hown3 _ hb3 hB3))
        go_wp2
        go_roundw
        case rel => exact ⟨k + 1, by omega, by go_num, by rw [HS.out]; exact hown3, hb3, hB3⟩
        case measure => simp [intOf]; omega
    · have hke : k = ps.length := by omega
      rw [hke] at hown
      have hcv := conv_own (P := Tryd.prog) _ Tryd.underlying78 Tryd.underlying5 Tryd.underlying9 hown
      clear hke
      go_wp2
      go_ret
      exact ⟨rfl, hb⟩

end Go.Proofs.YtpcgomfiihhpcaaDoor
