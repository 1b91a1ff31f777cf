/-
  The contracts of pass and of Parts.
-/
import Derived.Test.YtbckenknkgkadabClone
namespace Go.Proofs.Ytbckenknkgkadab
open Go.RowKit Sc
set_option linter.unusedVariables false

structure Pl where
  q : Bool
  e : Bool
  a : Bool
/-- What is open behind a byte, and whether the byte stands free. -/
def pst (p : Pl) (c : Int) : Pl × Bool :=
  if p.e then (⟨p.q, false, p.a⟩, false) else if c = 34 then (⟨!p.q, p.e, p.a⟩, false) else if p.q then (⟨p.q, c == 92, p.a⟩, false)
  else if c = 60 then (⟨p.q, p.e, true⟩, false) else if c = 62 then (⟨p.q, p.e, false⟩, false) else (p, !p.a)

def PlaceAt (w : World) (g : Nat) (p : Pl) : Prop :=
  (w.cell? ⟨g, 0, none⟩ = some (.bool p.q) ∧ w.cell? ⟨g, 1, none⟩ = some (.bool p.e) ∧ w.cell? ⟨g, 2, none⟩ = some (.bool p.a)) ∧
  w.frozen? ⟨g, 0, none⟩ = false ∧ w.frozen? ⟨g, 1, none⟩ = false ∧ w.frozen? ⟨g, 2, none⟩ = false

theorem place_below {w w' : World} {g : Nat} {p : Pl} (h : PlaceAt w g p) (hb : Below (g + 1) w w') : PlaceAt w' g p := by
  obtain ⟨⟨h1, h2, h3⟩, h4, h5, h6⟩ := h
  have c := fun o => hb.cell (p := ⟨g, o, none⟩) (Nat.lt_succ_self g)
  have f := fun o => hb.frozen (p := ⟨g, o, none⟩) (Nat.lt_succ_self g)
  exact ⟨⟨(c 0).trans h1, (c 1).trans h2, (c 2).trans h3⟩, (f 0).trans h4, (f 1).trans h5, (f 2).trans h6⟩

theorem place_q {w : World} {g : Nat} {p : Pl} (h : PlaceAt w g p) (b : Bool) : PlaceAt (w.setCell ⟨g, 0, none⟩ (.bool b)) g ⟨b, p.e, p.a⟩ := by
  obtain ⟨⟨h1, h2, h3⟩, h4, h5, h6⟩ := h
  refine ⟨⟨World.cell?_setCell_same _ _ _ h1, ?_, ?_⟩, ?_, ?_, ?_⟩
  · rw [World.cell?_setCell_other _ _ _ _ (by simp)]; exact h2
  · rw [World.cell?_setCell_other _ _ _ _ (by simp)]; exact h3
  all_goals rw [World.frozen?_setCell]; assumption
theorem place_e {w : World} {g : Nat} {p : Pl} (h : PlaceAt w g p) (b : Bool) : PlaceAt (w.setCell ⟨g, 1, none⟩ (.bool b)) g ⟨p.q, b, p.a⟩ := by
  obtain ⟨⟨h1, h2, h3⟩, h4, h5, h6⟩ := h
  refine ⟨⟨?_, World.cell?_setCell_same _ _ _ h2, ?_⟩, ?_, ?_, ?_⟩
  · rw [World.cell?_setCell_other _ _ _ _ (by simp)]; exact h1
  · rw [World.cell?_setCell_other _ _ _ _ (by simp)]; exact h3
  all_goals rw [World.frozen?_setCell]; assumption
theorem place_a {w : World} {g : Nat} {p : Pl} (h : PlaceAt w g p) (b : Bool) : PlaceAt (w.setCell ⟨g, 2, none⟩ (.bool b)) g ⟨p.q, p.e, b⟩ := by
  obtain ⟨⟨h1, h2, h3⟩, h4, h5, h6⟩ := h
  refine ⟨⟨?_, ?_, World.cell?_setCell_same _ _ _ h3⟩, ?_, ?_, ?_⟩
  · rw [World.cell?_setCell_other _ _ _ _ (by simp)]; exact h1
  · rw [World.cell?_setCell_other _ _ _ _ (by simp)]; exact h2
  all_goals rw [World.frozen?_setCell]; assumption

/-- What pass leaves. -/
def Passed (w w' : World) (g : Nat) (p : Pl) (c : Int) : Prop := PlaceAt w' g (pst p c).1 ∧ w.grownBy w' (some g)

theorem grown_refl (w : World) (r : Option Nat) : w.grownBy w r := ⟨rfl, rfl, rfl, Nat.le_refl _, fun _ _ _ => rfl⟩

set_option maxHeartbeats 1000000 in
theorem pass_any (g : Nat) (p : Pl) (c : Int) (w : World) (hp : PlaceAt w g p) :
    Calls Try.prog 18 #[.pointer (some ⟨g, 0, none⟩), .int .u8 c] w fun e w' => e = .returned (.bool (pst p c).2) ∧ Passed w w' g p c := by
  have HP : Hid (PlaceAt w g p) := hp
  obtain ⟨⟨h1, h2, h3⟩, h4, h5, h6⟩ := hp
  obtain ⟨q, e, a⟩ := p
  simp only at h1 h2 h3
  cases e with
  | true =>
    go_enter Try.func18, Try.ntmps18
    go_wp2
    go_ret
    exact ⟨ret_bool (by simp [pst]), by simpa [pst] using place_e HP.out false, Lib.grownBy_setCell _ _ _ _⟩
  | false =>
    by_cases c1 : c = 34
    · subst c1
      go_enter Try.func18, Try.ntmps18
      go_wp2
      go_ret
      exact ⟨ret_bool (by simp [pst]), by simpa [pst] using place_q HP.out (!q), Lib.grownBy_setCell _ _ _ _⟩
    · cases q with
      | true =>
        go_enter Try.func18, Try.ntmps18
        go_wp2
        go_ret
        exact ⟨ret_bool (by simp [pst, c1]), by simpa [pst, c1] using place_e HP.out (c == 92), Lib.grownBy_setCell _ _ _ _⟩
      | false =>
        by_cases c2 : c = 60
        · subst c2
          go_enter Try.func18, Try.ntmps18
          go_wp2
          go_ret
          exact ⟨ret_bool (by simp [pst]), by simpa [pst] using place_a HP.out true, Lib.grownBy_setCell _ _ _ _⟩
        · by_cases c3 : c = 62
          · subst c3
            go_enter Try.func18, Try.ntmps18
            go_wp2
            go_ret
            exact ⟨ret_bool (by simp [pst]), by simpa [pst] using place_a HP.out false, Lib.grownBy_setCell _ _ _ _⟩
          · go_enter Try.func18, Try.ntmps18
            go_wp2
            go_ret
            exact ⟨ret_bool (by simp [pst, c1, c2, c3]), by simpa [pst, c1, c2, c3] using HP.out, grown_refl _ _⟩

theorem info9 : (Try.prog.info? 9).map (fun i => (i.zero, i.size, i.bytes)) = some (some (.string .empty), 1, 16) := by kernel_rfl

def pl0 : Pl := ⟨false, false, false⟩
/-- The parts of a text, from a place on: cur is what stands since the last cut. -/
def partsG (sep : Int) : Pl → List UInt8 → List UInt8 → List (List UInt8)
  | _, cur, [] => [cur]
  | p, cur, b :: r => if (pst p b.toNat).2 = true ∧ (b.toNat : Int) = sep then cur :: partsG sep (pst p b.toNat).1 [] r else partsG sep (pst p b.toNat).1 (cur ++ [b]) r
def partsV (sep : Int) (l : List UInt8) : List (List UInt8) := partsG sep pl0 [] l

/-- The place behind the first k bytes. -/
def plAt (l : List UInt8) (k : Nat) : Pl := (l.take k).foldl (fun p b => (pst p b.toNat).1) pl0
theorem plAt_succ (s : ByteArray) (k : Nat) (h : k < s.size) : plAt s.data.toList (k + 1) = (pst (plAt s.data.toList k) s[k].toNat).1 := by
  rw [plAt, take_snoc s k h, List.foldl_append]; rfl

def strs (ps : List (List UInt8)) : List Value := ps.map fun p => Value.string ⟨p.toArray⟩
theorem strs_one (ps : List (List UInt8)) : ∀ u ∈ strs ps, u.oneCell' = true := by
  intro u hu
  simp only [strs, List.mem_map] at hu
  obtain ⟨b, _, rfl⟩ := hu
  rfl
theorem strs_length (ps : List (List UInt8)) : (strs ps).length = ps.length := by simp [strs]
theorem strs_append (a b : List (List UInt8)) : strs (a ++ b) = strs a ++ strs b := by simp [strs]

def mid (l : List UInt8) (a b : Nat) : List UInt8 := (l.drop a).take (b - a)
theorem mid_snoc (s : ByteArray) (a k : Nat) (ha : a ≤ k) (hk : k < s.size) : mid s.data.toList a (k + 1) = mid s.data.toList a k ++ [s[k]] := by
  have e : k + 1 - a = (k - a) + 1 := by omega
  have hl : k - a < (s.data.toList.drop a).length := by rw [List.length_drop, len_data]; omega
  rw [mid, mid, e, List.take_succ_eq_append_getElem hl]
  congr 2
  rw [List.getElem_drop]
  simp only [show a + (k - a) = k by omega]
  rfl
theorem mid_self (l : List UInt8) (a : Nat) : mid l a a = [] := by simp [mid]

theorem partsG_cut {sep : Int} {p : Pl} {s : ByteArray} {a k : Nat} (hk : k < s.size) (h1 : (pst p s[k].toNat).2 = true) (h2 : (s[k].toNat : Int) = sep) :
    partsG sep p (mid s.data.toList a k) (s.data.toList.drop k) = mid s.data.toList a k :: partsG sep (pst p s[k].toNat).1 (mid s.data.toList (k + 1) (k + 1)) (s.data.toList.drop (k + 1)) := by
  rw [drop_cons s k hk, partsG, if_pos ⟨h1, h2⟩, mid_self]
theorem partsG_on {sep : Int} {p : Pl} {s : ByteArray} {a k : Nat} (ha : a ≤ k) (hk : k < s.size) (h : ¬ ((pst p s[k].toNat).2 = true ∧ (s[k].toNat : Int) = sep)) :
    partsG sep p (mid s.data.toList a k) (s.data.toList.drop k) = partsG sep (pst p s[k].toNat).1 (mid s.data.toList a (k + 1)) (s.data.toList.drop (k + 1)) := by
  rw [drop_cons s k hk, partsG, if_neg h, mid_snoc s a k ha hk]

theorem Own.kept {w w' : World} {B g : Nat} {e : TypeId} {v : Value} {xs : List Value} (h : Own w B e v xs) (hg : w.grownBy w' (some g)) (hlt : g < B) : Own w' B e v xs := by
  refine World.ownsRow.kept h hg ?_
  cases ho : v.ownBlock with
  | none => exact Or.inl rfl
  | some k => right; intro e; injection e with e; have := (World.ownsRow.lt h k ho).1; omega

theorem place0 (w : World) : PlaceAt (w.alloc (.cells #[.bool false, .bool false, .bool false] 39)) w.heap.size pl0 := by
  refine ⟨⟨?_, ?_, ?_⟩, ?_, ?_, ?_⟩ <;> simp [pl0]

set_option maxHeartbeats 1000000 in
theorem parts_any (s : ByteArray) (sep : Int) (w : World) (hs : (s.size + 1) * 16 ≤ 140737488355328) :
    Calls Try.prog 8 #[.string s, .int .u8 sep] w fun e w' => ∃ v, e = .returned v ∧ Own w' (w.heap.size + 1) 9 v (strs (partsV sep s.data.toList)) ∧ Below w.heap.size w w' := by
  obtain ⟨i0, hi, hz0, hz1, hz2⟩ := info_parts info9
  have hp0 := place0 w
  have HP0 : Hid (PlaceAt (w.alloc (.cells #[.bool false, .bool false, .bool false] 39)) w.heap.size pl0) := hp0
  clear hp0
  go_enter Try.func8, Try.ntmps8
  go_wp2
  go_loopw [5, 7, 12] (fun v fr i wr => ∃ (k a : Nat) (ps : List (List UInt8)), k ≤ s.size ∧ i = .int .i64 k ∧ fr = .int .i64 a ∧ a ≤ k ∧ ps.length ≤ k ∧ Own wr (w.heap.size + 1) 9 v (strs ps) ∧
      Hid (PlaceAt wr w.heap.size (plAt s.data.toList k)) ∧ Below w.heap.size w wr ∧ w.heap.size + 1 ≤ wr.heap.size ∧ Hid (partsV sep s.data.toList = ps ++ partsG sep (plAt s.data.toList k) (mid s.data.toList a k) (s.data.toList.drop k)))
    (fun _ _ i _ => s.size - (intOf i).toNat)
  case atStart => exact ⟨0, 0, [], Nat.zero_le _, rfl, rfl, Nat.le_refl _, Nat.le_refl _, Own.nil _ _ _, HP0, (Below.refl _ _).alloc (Nat.le_refl _) _, by simp, rfl⟩
  case round =>
    clear HP0
    obtain ⟨k, a, ps, hk, rfl, rfl, hak, hpl, hown, hpc, hb, hB, hpv⟩ := hrel
    by_cases hlt : k < s.size
    · have hnx := plAt_succ s k hlt
      have HNX : Hid (plAt s.data.toList (k + 1) = (pst (plAt s.data.toList k) s[k].toNat).1) := hnx
      clear hnx
      by_cases hfr : (pst (plAt s.data.toList k) s[k].toNat).2 = true
      · by_cases hsep : (s[k].toNat : Int) = sep
        · have hsb : ((s[k].toNat : Int) == sep) = true := by simpa using hsep
          have hcut : Hid (partsV sep s.data.toList = ps ++ [mid s.data.toList a k] ++ partsG sep (plAt s.data.toList (k + 1)) (mid s.data.toList (k + 1) (k + 1)) (s.data.toList.drop (k + 1))) := by
            show _ = _
            rw [hpv.out, partsG_cut hlt hfr hsep, HNX.out, List.append_assoc]; rfl
          clear hsep hpv
          go_wp2_with (first
            | (go_at_call 18; refine (pass_any w.heap.size (plAt s.data.toList k) _ _ hpc.out).mono ?_; rintro e w1 ⟨rfl, hpas⟩)
            | (go_at_call 19; refine (piece_any s a k _ (by omega) hak (by omega)).mono ?_; rintro e w2 ⟨rfl, hb2⟩; have hB1 := Nat.le_trans hB hpas.2.size; have hown2 := (hown.kept hpas.2 (Nat.lt_succ_self _)).below hb2)
            | (at_builtin; refine wp_app _ rfl (.tmp 27) (.tmp 32) 23 rfl (w.heap.size + 1) 9 i0 (.string .empty) 16 Try.underlying23 hi hz0 hz1 hz2 rfl _ _ rfl (hown2.alloc _) ⟨_, 0, none⟩ 1 1 [.string (s.extract a k)] rfl rfl (by exact one_new _ _ _) (by intro u hu; simp at hu; subst hu; rfl) (by rw [strs_length]; unfold maxLen; omega) (by rw [strs_length]; omega) w1 ((hb2.mono hB1).alloc (by have := hb2.size; omega) _) (by have := hb2.size; simp; omega) ?_; intro v3 w3 hown3 hb3 hB3))
          have e1 : [Value.string (s.extract a k)] = strs [mid s.data.toList a k] := by simp [strs, ext_list, mid]
          rw [e1, ← strs_append] at hown3
          have hp3 : Hid (PlaceAt w3 w.heap.size (plAt s.data.toList (k + 1))) := by rw [HNX.out]; exact place_below hpas.1 hb3
          have hbw : Below w.heap.size w w3 := (hb.grown hpas.2 (by omega) (fun k hk => by injection hk with hk; omega)).trans (hb3.mono (by omega))
          clear e1
          go_wp2
          go_roundw
          case rel => exact ⟨k + 1, k + 1, _, by omega, by go_num, by go_num, Nat.le_refl _, by simp; omega, hown3, hp3, hbw, hB3, hcut⟩
          case measure => simp [intOf]; omega
        · have hsb : ((s[k].toNat : Int) == sep) = false := by simpa using hsep
          have hcut : Hid (partsV sep s.data.toList = ps ++ partsG sep (plAt s.data.toList (k + 1)) (mid s.data.toList a (k + 1)) (s.data.toList.drop (k + 1))) := by
            show _ = _
            rw [hpv.out, partsG_on hak hlt (by simp [hsep]), HNX.out]
          clear hsep hpv
          go_wp2_with (go_at_call 18; refine (pass_any w.heap.size (plAt s.data.toList k) _ _ hpc.out).mono ?_; rintro e w1 ⟨rfl, hpas⟩)
          have hp3 : Hid (PlaceAt w1 w.heap.size (plAt s.data.toList (k + 1))) := by rw [HNX.out]; exact hpas.1
          have hbw : Below w.heap.size w w1 := hb.grown hpas.2 (by omega) (fun k hk => by injection hk with hk; omega)
          go_roundw
          case rel => exact ⟨k + 1, a, ps, by omega, by go_num, rfl, by omega, by omega, hown.kept hpas.2 (Nat.lt_succ_self _), hp3, hbw, Nat.le_trans hB hpas.2.size, hcut⟩
          case measure => simp [intOf]; omega
      · have hfr' : (pst (plAt s.data.toList k) s[k].toNat).2 = false := by simpa using hfr
        have hcut : Hid (partsV sep s.data.toList = ps ++ partsG sep (plAt s.data.toList (k + 1)) (mid s.data.toList a (k + 1)) (s.data.toList.drop (k + 1))) := by
          show _ = _
          rw [hpv.out, partsG_on hak hlt (by simp [hfr']), HNX.out]
        clear hfr hpv
        go_wp2_with (go_at_call 18; refine (pass_any w.heap.size (plAt s.data.toList k) _ _ hpc.out).mono ?_; rintro e w1 ⟨rfl, hpas⟩)
        have hp3 : Hid (PlaceAt w1 w.heap.size (plAt s.data.toList (k + 1))) := by rw [HNX.out]; exact hpas.1
        have hbw : Below w.heap.size w w1 := hb.grown hpas.2 (by omega) (fun k hk => by injection hk with hk; omega)
        go_roundw
        case rel => exact ⟨k + 1, a, ps, by omega, by go_num, rfl, by omega, by omega, hown.kept hpas.2 (Nat.lt_succ_self _), hp3, hbw, Nat.le_trans hB hpas.2.size, hcut⟩
        case measure => simp [intOf]; omega
    · have hks : k = s.size := by omega
      have hfin : Hid (partsV sep s.data.toList = ps ++ [mid s.data.toList a s.size]) := by
        show _ = _
        rw [hpv.out, drop_all s k (by omega), hks]; rfl
      have HKS : Hid (k = s.size) := hks
      clear hpv hks
      go_wp2_with (first
        | (go_at_call 19; refine (piece_any s a s.size _ (by omega) (by have := HKS.out; omega) (Nat.le_refl _)).mono ?_; rintro e w2 ⟨rfl, hb2⟩; have hown2 := hown.below hb2)
        | (at_builtin; refine wp_app _ rfl (.tmp 37) (.tmp 43) 23 rfl (w.heap.size + 1) 9 i0 (.string .empty) 16 Try.underlying23 hi hz0 hz1 hz2 rfl _ _ rfl (hown2.alloc _) ⟨_, 0, none⟩ 1 1 [.string (s.extract a s.size)] rfl rfl (by exact one_new _ _ _) (by intro u hu; simp at hu; subst hu; rfl) (by rw [strs_length]; unfold maxLen; omega) (by rw [strs_length]; omega) wr ((hb2.mono hB).alloc (by have := hb2.size; omega) _) (by have := hb2.size; simp; omega) ?_; intro v3 w3 hown3 hb3 hB3))
      have e1 : [Value.string (s.extract a s.size)] = strs [mid s.data.toList a s.size] := by simp [strs, ext_list, mid]
      rw [e1, ← strs_append, ← hfin.out] at hown3
      clear e1
      go_ret
      exact ⟨_, rfl, hown3, hb.trans (hb3.mono (by omega))⟩

end Go.Proofs.Ytbckenknkgkadab
