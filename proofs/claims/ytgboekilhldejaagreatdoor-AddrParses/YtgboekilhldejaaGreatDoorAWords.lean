/-
  Contracts: package addr's words, name.
-/
import Derived.Test.YtgboekilhldejaaGreatDoorWordsL
import Derived.Lib.AppendStr
import Derived.WalkMore
import Derived.Deep.LoopGhost
namespace Go.Proofs.YtgboekilhldejaaGreatDoor
open Go.RowKit Sc
set_option linter.unusedVariables false
set_option maxRecDepth 20000

theorem strCells_is (l : List UInt8) : Lib.strCells ⟨l.toArray⟩ = Lib.byteCells l := by
  simp [Lib.strCells, Lib.byteCells]
theorem RowIs.only {w w' : World} {b c : Nat} {e : TypeId} {l : List Value} (h : RowIs w c e l) (ho : Only b w w') (hne : c ≠ b) : RowIs w' c e l := by
  unfold RowIs at *; rw [ho.other c hne]; exact h
theorem row_grown {w w' : World} {B c : Nat} {e : TypeId} {l : List Value} (h : RowIs w c e l) (hb : Below B w w') (hlt : c < B) : RowIs w' c e l := h.below hb hlt
theorem ret_words {s x : List UInt8} {b : Bool} (h : wordsR s = (x, b)) : Ending.returned (.tuple #[.string ⟨x.toArray⟩, .bool b]) = .returned (.tuple #[.string ⟨(wordsR s).1.toArray⟩, .bool (wordsR s).2]) := by rw [h]

/-- append(b, s...) -/
theorem wp_appS {P : Program} (w : World) {ops : Array Oper} {rest : List Oper} {o : Oper} {a : Act} {Q : Exit → Act → World → Prop} (hgd : o.guard = none)
    (sl x : Operand) (t u : TypeId) (ho : o.op = Op.call { callee := Callee.builtin Builtin.append, args := #[sl, x], argTypes := #[t, u] }) (B : Nat) (e : TypeId) (i : TypeInfo)
    (ht : P.underlying t = some (TypeDesc.slice e)) (hu : P.underlying u = some .string) (hi : P.info? e = some i) (hz : i.zero = some (.int .u8 0)) (hsize : i.size = 1) (hby : i.bytes = 1)
    (v : Value) (l : List UInt8) (hs : a.eval sl = v) (hown : Own w B e v (Lib.byteCells l)) (r : List UInt8) (hx : a.eval x = .string ⟨r.toArray⟩) (hlen : l.length + r.length ≤ 140737488355328) (hB : B ≤ w.heap.size)
    (h : ∀ (v' : Value) (w' : World), Own w' B e v' (Lib.byteCells (l ++ r)) → Below B w w' → B ≤ w'.heap.size → wpList P ops Q rest (a.put o.dst v') w') : wpList P ops Q (o :: rest) a w := by
  have e1 : (Lib.byteCells l).length = l.length := Lib.byteCells_length l
  have e2 : (⟨r.toArray⟩ : ByteArray).size = r.length := size_list r
  refine Lib.wpList_append_own_string w hgd sl x t u ho B e i ht hu hi hz hsize hby v (Lib.byteCells l).length (Lib.byteCells l) hs hown ⟨r.toArray⟩ hx (by rw [e1, e2]; unfold maxLen; omega) (by rw [e1, e2]; exact hlen) hB ?_
  intro v' w' hown' hgr _
  refine h v' w' ?_ ((Below.refl B w).grown hgr hB (fun k hk => (World.ownsRow.lt hown k hk).1)) (Nat.le_trans hB hgr.size)
  unfold Own
  have e3 : Lib.byteCells (l ++ r) = Lib.byteCells l ++ Lib.strCells ⟨r.toArray⟩ := by rw [strCells_is]; simp [Lib.byteCells]
  rw [e3, List.length_append]
  have e4 : (Lib.strCells ⟨r.toArray⟩).length = (⟨r.toArray⟩ : ByteArray).size := by rw [strCells_is, Lib.byteCells_length, e2]
  rw [e4]
  exact hown'
theorem one_ext {s : ByteArray} {i j : Nat} : s.extract i j = ⟨((s.data.toList.drop i).take (j - i)).toArray⟩ := ext_list s i j

set_option maxHeartbeats 1000000 in
set_option maxRecDepth 100000 in
theorem words_any (s : ByteArray) (w : World) (hs : s.size ≤ 1048576) :
    Calls Tryz.prog 118 #[.string s] w fun e w' => e = .returned (.tuple #[.string ⟨(wordsR s.data.toList).1.toArray⟩, .bool (wordsR s.data.toList).2]) ∧ Below w.heap.size w w' := by
  obtain ⟨i0, hi, hz0, hz1, hz2⟩ := info_parts info5
  have hl := len_data s
  have hmf : ∀ (fn : Fn) (first cap : Array Value) (w : World), (Instr.makeFunc fn first cap).run Tryz.prog w = .ok (.func fn first cap) w := fun _ _ _ _ => rfl
  go_enter Tryz.func118, Tryz.ntmps118
  go_wp2
  go_step3
  go_wp2
  go_step3
  go_wp2
  have hr0 : RowIs ((w.alloc (.cells #[.string s] 9)).alloc (.cells #[.int .i64 0] 3)) w.heap.size 9 [.string s] :=
    RowIs.below (w := w.alloc (.cells #[.string s] 9)) (by unfold RowIs; rw [heap_alloc_new]) ((Below.refl _ _).alloc (Nat.le_refl _) _) (by simp)
  have hr1 : RowIs ((w.alloc (.cells #[.string s] 9)).alloc (.cells #[.int .i64 0] 3)) (w.heap.size + 1) 3 [.int .i64 ((0 : Nat) : Int)] := by
    have := heap_alloc_new (w.alloc (.cells #[.string s] 9)) (.cells #[.int .i64 0] 3)
    unfold RowIs
    simpa using this
  have hb0 : Below w.heap.size w ((w.alloc (.cells #[.string s] 9)).alloc (.cells #[.int .i64 0] 3)) := ((Below.refl _ w).alloc (Nat.le_refl _) _).alloc (by simp) _
  have hz : w.heap.size + 2 ≤ ((w.alloc (.cells #[.string s] 9)).alloc (.cells #[.int .i64 0] 3)).heap.size := by simp
  have HR0 := hid hr0
  have HR1 := hid hr1
  clear hr0 hr1
  generalize World.alloc (World.alloc w _) _ = W at HR0 HR1 hb0 hz ⊢
  go_loopg [6, 7] s.size (fun g x _ wx => ∃ (k : Nat) (ws : List (List UInt8)), Hid (k + g = s.size) ∧ k ≤ s.size ∧ Hid (RowIs wx w.heap.size 9 [.string s]) ∧ Hid (RowIs wx (w.heap.size + 1) 3 [.int .i64 (k : Int)]) ∧ Hid (Own wx (w.heap.size + 2) 5 x (Lib.byteCells (joinB ws))) ∧ Hid (wordsG [] s.data.toList = ws ++ wordsG [] (s.data.toList.drop k)) ∧ Hid (∀ t ∈ ws, t ≠ []) ∧ Hid (s.data.toList.all okD = (s.data.toList.drop k).all okD) ∧ Hid ((joinB ws).length ≤ 2 * k) ∧ Below w.heap.size w wx ∧ w.heap.size + 2 ≤ wx.heap.size)
  case atStart => exact ⟨0, [], hid (by omega), by omega, HR0, HR1, Own.nil _ _ _, hid (by simp), hid (by simp), hid (by simp), hid (by simp [joinB]), hb0, hz⟩
  case round =>
    clear HR0 HR1 hb0 hz
    obtain ⟨k, ws, hkg, hk, hr0, hr1, hown, hwd, hne, hall, hlen, hb, hz⟩ := hrel
    have KN := hid (next_any w.heap.size (w.heap.size + 1) s k wr (by omega) hk (by omega) hr0.out hr1.out)
    go_wp2_with fail
    refine KN.out.mono ?_
    rintro e w1 ⟨i, j, hnx, rfl, hrow1, hon⟩
    rw [one_ext]
    have HR1 := hid hrow1
    have HR0 := hid (hr0.out.only hon (by omega))
    have HO := hid (hown.out.only hon (by omega))
    have hb1 : Below w.heap.size w w1 := hb.trans (hon.below.mono (by omega))
    have hz1' : w.heap.size + 2 ≤ w1.heap.size := by rw [hon.size]; exact hz
    have h1 := hid (@words_next s.data.toList k i j hnx)
    have h2 := hid (@words_none s.data.toList k i j hnx)
    have h3 := hid (all_next hnx)
    have h4 := hid hnx.skip
    have hji : i ≤ j := hnx.le2
    have hjk : k ≤ i := hnx.le1
    have hjl : j ≤ s.size := by have := hnx.le3; omega
    have hol : ((s.data.toList.drop i).take (j - i)).length = j - i := by rw [List.length_take, List.length_drop]; omega
    clear hnx hrow1 hon hown hr0 hr1 hb hz KN
    generalize (s.data.toList.drop i).take (j - i) = one at h1 h2 h3 hol ⊢
    cases hie : one.isEmpty with
    | true =>
      have hoe : one = [] := by simpa using hie
      have hfin : Hid (wordsR s.data.toList = (joinB ws, decide (((joinB ws).length : Int) ≤ 64))) := show _ = _ by
        have e0 := h2.out hoe
        have e1 : wordsG [] (s.data.toList.drop k) = [] := by rw [words_skip, h4.out, e0]; rfl
        have e2 : (s.data.toList.drop k).all okD = true := by rw [all_skip, h4.out, e0]; rfl
        have e3 : decide (((joinB ws).length : Int) ≤ 64) = decide ((joinB ws).length ≤ 64) := by congr 1; apply propext; omega
        rw [wordsR, hall.out, e2, if_pos rfl, hwd.out, e1, List.append_nil, e3]
      subst hoe
      have hcv := conv_own (P := Tryz.prog) (joinB ws) Tryz.underlying92 Tryz.underlying5 Tryz.underlying9 HO.out
      obtain ⟨oa, oc, ho⟩ := HO.out.form
      have hlo : (Lib.byteCells (joinB ws)).length = (joinB ws).length := Lib.byteCells_length _
      have hl2 := hlen.out
      rw [hlo] at ho
      subst ho
      clear HO h1 h2 h3 h4 hwd hall hne hlo hlen hol
      generalize joinB ws = jw at hfin hcv hl2 ⊢
      go_wp2
      rw [Exit.noGoto_ret]
      go_ret2
      exact ⟨ret_words hfin.out, hb1⟩
    | false =>
      have hoe : one ≠ [] := by intro h; rw [h] at hie; cases hie
      have hj1 : 1 ≤ j - i := by rw [← hol]; cases one with | nil => exact absurd rfl hoe | cons a b => simp
      have KA := hid (fun w' => all_l one 8 w' (by omega))
      have hnw := h1.out hoe
      cases hab : allB 8 one with
      | false =>
        have hfin : Hid (wordsR s.data.toList = ([], false)) := show _ = _ by
          have e2 : s.data.toList.all okD = false := by rw [hall.out, h3.out, hab]; rfl
          rw [wordsR, e2]; rfl
        rw [hab] at KA
        clear h1 h2 h3 h4 hwd hall hne hlen hnw HO hoe hab
        go_wp2_with fail
        refine (KA.out _).mono ?_
        rintro e w2 ⟨rfl, rfl⟩
        go_wp2
        rw [Exit.noGoto_ret]
        go_ret2
        exact ⟨ret_words (x := []) hfin.out, hb1⟩
      | true =>
        have hall2 : Hid (s.data.toList.all okD = (s.data.toList.drop j).all okD) := show _ = _ by rw [hall.out, h3.out, hab]; rfl
        have hwd2 : Hid (wordsG [] s.data.toList = (ws ++ [one]) ++ wordsG [] (s.data.toList.drop j)) := show _ = _ by rw [hwd.out, hnw]; simp
        have hne2 : Hid (∀ t ∈ ws ++ [one], t ≠ []) := fun t ht => by
          rcases List.mem_append.1 ht with h | h
          · exact hne.out t h
          · rw [List.mem_singleton.1 h]; exact hoe
        have hjs : Hid ((joinB ws).length = 0 → joinB (ws ++ [one]) = joinB ws ++ one) := fun h => by
          have e0 : joinB ws = [] := List.eq_nil_of_length_eq_zero h
          have e1 : ws = [] := Classical.byContradiction fun hw => join_ne ws hne.out hw e0
          rw [join_snoc, if_pos e1, e0]; rfl
        have hjn : Hid (0 < (joinB ws).length → joinB (ws ++ [one]) = (joinB ws ++ [32]) ++ one) := fun h => by
          have e1 : ws ≠ [] := fun hw => by rw [hw] at h; simp [joinB] at h
          rw [join_snoc, if_neg e1]
        rw [hab] at KA
        obtain ⟨oa, oc, ho⟩ := HO.out.form
        have hlo : (Lib.byteCells (joinB ws)).length = (joinB ws).length := Lib.byteCells_length _
        have hl2 := hlen.out
        rw [hlo] at ho
        subst ho
        clear h1 h2 h3 h4 hwd hall hne hlen hnw hab hlo hoe
        have hgk : Hid (s.size - j < gk) := show _ < _ by have := hkg.out; omega
        have hkj : Hid (j + (s.size - j) = s.size) := show _ = _ by omega
        generalize joinB ws = jw at HO hl2 hjs hjn ⊢
        have hbl : Hid ((Lib.byteCells jw).length = jw.length) := Lib.byteCells_length jw
        by_cases hpos : 0 < jw.length
        · have hposI : (0 : Int) < (jw.length : Int) := by omega
          have hnew := hid (hjn.out hpos)
          clear hjs hjn
          have hbc : Hid (Lib.byteCells jw ++ Lib.byteCells [32] = Lib.byteCells (jw ++ [32])) := show _ = _ by simp [Lib.byteCells]
          have hl3 : Hid ((jw ++ [32]).length + one.length ≤ 140737488355328) := show _ ≤ _ by simp; omega
          go_wp2_with (first | (go_at_call 46; refine (KA.out _).mono ?_; rintro e w2 ⟨rfl, rfl⟩) | (at_builtin; refine wp_appS _ rfl (.tmp 25) (.tmp 26) 92 9 rfl (w.heap.size + 2) 5 i0 Tryz.underlying92 Tryz.underlying9 hi hz0 hz1 hz2 _ (jw ++ [32]) rfl hown2 one rfl hl3.out hB2 ?_; intro v3 w3 hown3 hb3 hB3) | (at_builtin; refine wp_app _ rfl (.tmp 22) (.tmp 23) 92 rfl (w.heap.size + 2) 5 i0 (.int .u8 0) 1 Tryz.underlying92 hi hz0 hz1 hz2 rfl _ _ rfl (HO.out.alloc _) ⟨_, 0, none⟩ 1 1 (Lib.byteCells [32]) rfl rfl (by exact one_new _ _ _) (byteCells_one _) (by rw [hbl.out]; unfold maxLen; omega) (by rw [hbl.out]; omega) _ ((Below.refl _ _).alloc hz1' _) (by simp; omega) ?_; intro v2 w4 hown2 hb2 hB2; rw [hbc.out] at hown2))
          rw [← hnew.out] at hown3
          have hO3 := hid hown3
          have hR0 := hid ((HR0.out.below hb2 (by omega)).below hb3 (by omega))
          have hR1 := hid ((HR1.out.below hb2 (by omega)).below hb3 (by omega))
          have hb4 := (hb1.trans (hb2.mono (by omega))).trans (hb3.mono (by omega))
          have hln : Hid ((joinB (ws ++ [one])).length ≤ 2 * j) := show _ ≤ _ by rw [hnew.out, List.length_append, List.length_append]; simp; omega
          clear hown3
          go_wp2
          go_roundg (s.size - j)
          case measure => exact hgk.out
          case rel => exact ⟨j, ws ++ [one], hkj, hjl, hR0, hR1, hO3, hwd2, hne2, hall2, hln, hb4, hB3⟩
        · have hposI : ¬ ((0 : Int) < (jw.length : Int)) := by omega
          have hnew := hid (hjs.out (by omega))
          clear hjs hjn
          go_wp2_with (first | (go_at_call 46; refine (KA.out _).mono ?_; rintro e w2 ⟨rfl, rfl⟩) | (at_builtin; refine wp_appS _ rfl (.tmp 25) (.tmp 26) 92 9 rfl (w.heap.size + 2) 5 i0 Tryz.underlying92 Tryz.underlying9 hi hz0 hz1 hz2 _ jw rfl HO.out one rfl (by omega) hz1' ?_; intro v3 w3 hown3 hb3 hB3))
          rw [← hnew.out] at hown3
          have hO3 := hid hown3
          have hR0 := hid (HR0.out.below hb3 (by omega))
          have hR1 := hid (HR1.out.below hb3 (by omega))
          have hb4 := hb1.trans (hb3.mono (by omega))
          have hln : Hid ((joinB (ws ++ [one])).length ≤ 2 * j) := show _ ≤ _ by rw [hnew.out, List.length_append]; omega
          clear hown3
          go_wp2
          go_roundg (s.size - j)
          case measure => exact hgk.out
          case rel => exact ⟨j, ws ++ [one], hkj, hjl, hR0, hR1, hO3, hwd2, hne2, hall2, hln, hb4, hB3⟩

end Go.Proofs.YtgboekilhldejaaGreatDoor
