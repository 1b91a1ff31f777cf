/-
  Base texts, one behind another: Parts, CutL, HostL, RefCut.
-/
import Derived.Test.YtjbfdbccidhdfaaDoorFA
import Derived.Test.YtjbfdbccidhdfaaDoorFB
import Derived.Deep.QuietTactic
import Derived.BigQuiet

/-
  The contracts of pass and of Parts.
-/
namespace Go.Proofs.YtjbfdbccidhdfaaDoor
open Go.RowKit Sc
set_option linter.unusedVariables false
set_option maxRecDepth 20000

structure Pl where
  q : Bool
  e : Bool
  a : Bool
/-- What is open behind a byte, and whether the byte stands free. -/
def pst (p : Pl) (c : Int) : Pl × Bool :=
  if p.e then (⟨p.q, false, p.a⟩, false) else if c = 34 then (⟨!p.q, p.e, p.a⟩, false) else if p.q then (⟨p.q, c == 92, p.a⟩, false)
  else if c = 60 then (⟨p.q, p.e, true⟩, false) else if c = 62 then (⟨p.q, p.e, false⟩, false) else (p, !p.a)

def PlaceAt (w : World) (g : Nat) (p : Pl) : Prop :=
  (w.cell? ⟨g, 0, none⟩ = some (.bool p.q) ∧ w.cell? ⟨g, 1, none⟩ = some (.bool p.e) ∧ w.cell? ⟨g, 2, none⟩ = some (.bool p.a)) ∧
  w.frozen? ⟨g, 0, none⟩ = false ∧ w.frozen? ⟨g, 1, none⟩ = false ∧ w.frozen? ⟨g, 2, none⟩ = false

theorem place_below {w w' : World} {g : Nat} {p : Pl} (h : PlaceAt w g p) (hb : Below (g + 1) w w') : PlaceAt w' g p := by
  obtain ⟨⟨h1, h2, h3⟩, h4, h5, h6⟩ := h
  have c := fun o => hb.cell (p := ⟨g, o, none⟩) (Nat.lt_succ_self g)
  have f := fun o => hb.frozen (p := ⟨g, o, none⟩) (Nat.lt_succ_self g)
  exact ⟨⟨(c 0).trans h1, (c 1).trans h2, (c 2).trans h3⟩, (f 0).trans h4, (f 1).trans h5, (f 2).trans h6⟩

theorem place_q {w : World} {g : Nat} {p : Pl} (h : PlaceAt w g p) (b : Bool) : PlaceAt (w.setCell ⟨g, 0, none⟩ (.bool b)) g ⟨b, p.e, p.a⟩ := by
  obtain ⟨⟨h1, h2, h3⟩, h4, h5, h6⟩ := h
  refine ⟨⟨World.cell?_setCell_same _ _ _ h1, ?_, ?_⟩, ?_, ?_, ?_⟩
  · rw [World.cell?_setCell_other _ _ _ _ (by simp)]; exact h2
  · rw [World.cell?_setCell_other _ _ _ _ (by simp)]; exact h3
  all_goals rw [World.frozen?_setCell]; assumption
theorem place_e {w : World} {g : Nat} {p : Pl} (h : PlaceAt w g p) (b : Bool) : PlaceAt (w.setCell ⟨g, 1, none⟩ (.bool b)) g ⟨p.q, b, p.a⟩ := by
  obtain ⟨⟨h1, h2, h3⟩, h4, h5, h6⟩ := h
  refine ⟨⟨?_, World.cell?_setCell_same _ _ _ h2, ?_⟩, ?_, ?_, ?_⟩
  · rw [World.cell?_setCell_other _ _ _ _ (by simp)]; exact h1
  · rw [World.cell?_setCell_other _ _ _ _ (by simp)]; exact h3
  all_goals rw [World.frozen?_setCell]; assumption
theorem place_a {w : World} {g : Nat} {p : Pl} (h : PlaceAt w g p) (b : Bool) : PlaceAt (w.setCell ⟨g, 2, none⟩ (.bool b)) g ⟨p.q, p.e, b⟩ := by
  obtain ⟨⟨h1, h2, h3⟩, h4, h5, h6⟩ := h
  refine ⟨⟨?_, ?_, World.cell?_setCell_same _ _ _ h3⟩, ?_, ?_, ?_⟩
  · rw [World.cell?_setCell_other _ _ _ _ (by simp)]; exact h1
  · rw [World.cell?_setCell_other _ _ _ _ (by simp)]; exact h2
  all_goals rw [World.frozen?_setCell]; assumption

/-- What pass leaves. -/
def Passed (w w' : World) (g : Nat) (p : Pl) (c : Int) : Prop := PlaceAt w' g (pst p c).1 ∧ w.grownBy w' (some g)

theorem grown_refl (w : World) (r : Option Nat) : w.grownBy w r := ⟨rfl, rfl, rfl, Nat.le_refl _, fun _ _ _ => rfl⟩

set_option maxHeartbeats 1000000 in
theorem pass_any (g : Nat) (p : Pl) (c : Int) (w : World) (hp : PlaceAt w g p) :
    Calls Tryd.prog 66 #[.pointer (some ⟨g, 0, none⟩), .int .u8 c] w fun e w' => e = .returned (.bool (pst p c).2) ∧ Passed w w' g p c := by
  have HP : Hid (PlaceAt w g p) := hp
  obtain ⟨⟨h1, h2, h3⟩, h4, h5, h6⟩ := hp
  obtain ⟨q, e, a⟩ := p
  simp only at h1 h2 h3
  cases e with
  | true =>
    go_enter Tryd.func66, Tryd.ntmps66
    go_wp2
    go_ret
    exact ⟨ret_bool (by simp [pst]), by simpa [pst] using place_e HP.out false, Lib.grownBy_setCell _ _ _ _⟩
  | false =>
    by_cases c1 : c = 34
    · subst c1
      go_enter Tryd.func66, Tryd.ntmps66
      go_wp2
      go_ret
      exact ⟨ret_bool (by simp [pst]), by simpa [pst] using place_q HP.out (!q), Lib.grownBy_setCell _ _ _ _⟩
    · cases q with
      | true =>
        go_enter Tryd.func66, Tryd.ntmps66
        go_wp2
        go_ret
        exact ⟨ret_bool (by simp [pst, c1]), by simpa [pst, c1] using place_e HP.out (c == 92), Lib.grownBy_setCell _ _ _ _⟩
      | false =>
        by_cases c2 : c = 60
        · subst c2
          go_enter Tryd.func66, Tryd.ntmps66
          go_wp2
          go_ret
          exact ⟨ret_bool (by simp [pst]), by simpa [pst] using place_a HP.out true, Lib.grownBy_setCell _ _ _ _⟩
        · by_cases c3 : c = 62
          · subst c3
            go_enter Tryd.func66, Tryd.ntmps66
            go_wp2
            go_ret
            exact ⟨ret_bool (by simp [pst]), by simpa [pst] using place_a HP.out false, Lib.grownBy_setCell _ _ _ _⟩
          · go_enter Tryd.func66, Tryd.ntmps66
            go_wp2
            go_ret
            exact ⟨ret_bool (by simp [pst, c1, c2, c3]), by simpa [pst, c1, c2, c3] using HP.out, grown_refl _ _⟩

theorem info9 : (Tryd.prog.info? 9).map (fun i => (i.zero, i.size, i.bytes)) = some (some (.string .empty), 1, 16) := by kernel_rfl

def pl0 : Pl := ⟨false, false, false⟩
/-- The parts of a text, from a place on: cur is what stands since the last cut. -/
def partsG (sep : Int) : Pl → List UInt8 → List UInt8 → List (List UInt8)
  | _, cur, [] => [cur]
  | p, cur, b :: r => if (pst p b.toNat).2 = true ∧ (b.toNat : Int) = sep then cur :: partsG sep (pst p b.toNat).1 [] r else partsG sep (pst p b.toNat).1 (cur ++ [b]) r
def partsV (sep : Int) (l : List UInt8) : List (List UInt8) := partsG sep pl0 [] l

/-- The place behind the first k bytes. -/
def plAt (l : List UInt8) (k : Nat) : Pl := (l.take k).foldl (fun p b => (pst p b.toNat).1) pl0
theorem plAt_succ (s : ByteArray) (k : Nat) (h : k < s.size) : plAt s.data.toList (k + 1) = (pst (plAt s.data.toList k) s[k].toNat).1 := by
  rw [plAt, take_snoc s k h, List.foldl_append]; rfl

def strs (ps : List (List UInt8)) : List Value := ps.map fun p => Value.string ⟨p.toArray⟩
theorem strs_one (ps : List (List UInt8)) : ∀ u ∈ strs ps, u.oneCell' = true := by
  intro u hu
  simp only [strs, List.mem_map] at hu
  obtain ⟨b, _, rfl⟩ := hu
  rfl
theorem strs_length (ps : List (List UInt8)) : (strs ps).length = ps.length := by simp [strs]
theorem strs_append (a b : List (List UInt8)) : strs (a ++ b) = strs a ++ strs b := by simp [strs]

def mid (l : List UInt8) (a b : Nat) : List UInt8 := (l.drop a).take (b - a)
theorem mid_snoc (s : ByteArray) (a k : Nat) (ha : a ≤ k) (hk : k < s.size) : mid s.data.toList a (k + 1) = mid s.data.toList a k ++ [s[k]] := by
  have e : k + 1 - a = (k - a) + 1 := by omega
  have hl : k - a < (s.data.toList.drop a).length := by rw [List.length_drop, len_data]; omega
  rw [mid, mid, e, List.take_succ_eq_append_getElem hl]
  congr 2
  rw [List.getElem_drop]
  simp only [show a + (k - a) = k by omega]
  rfl
theorem mid_self (l : List UInt8) (a : Nat) : mid l a a = [] := by simp [mid]

theorem partsG_cut {sep : Int} {p : Pl} {s : ByteArray} {a k : Nat} (hk : k < s.size) (h1 : (pst p s[k].toNat).2 = true) (h2 : (s[k].toNat : Int) = sep) :
    partsG sep p (mid s.data.toList a k) (s.data.toList.drop k) = mid s.data.toList a k :: partsG sep (pst p s[k].toNat).1 (mid s.data.toList (k + 1) (k + 1)) (s.data.toList.drop (k + 1)) := by
  rw [drop_cons s k hk, partsG, if_pos ⟨h1, h2⟩, mid_self]
theorem partsG_on {sep : Int} {p : Pl} {s : ByteArray} {a k : Nat} (ha : a ≤ k) (hk : k < s.size) (h : ¬ ((pst p s[k].toNat).2 = true ∧ (s[k].toNat : Int) = sep)) :
    partsG sep p (mid s.data.toList a k) (s.data.toList.drop k) = partsG sep (pst p s[k].toNat).1 (mid s.data.toList a (k + 1)) (s.data.toList.drop (k + 1)) := by
  rw [drop_cons s k hk, partsG, if_neg h, mid_snoc s a k ha hk]

theorem Own.kept {w w' : World} {B g : Nat} {e : TypeId} {v : Value} {xs : List Value} (h : Own w B e v xs) (hg : w.grownBy w' (some g)) (hlt : g < B) : Own w' B e v xs := by
  refine World.ownsRow.kept h hg ?_
  cases ho : v.ownBlock with
  | none => exact Or.inl rfl
  | some k => right; intro e; injection e with e; have := (World.ownsRow.lt h k ho).1; omega

theorem place0 (w : World) : PlaceAt (w.alloc (.cells #[.bool false, .bool false, .bool false] 91)) w.heap.size pl0 := by
  refine ⟨⟨?_, ?_, ?_⟩, ?_, ?_, ?_⟩ <;> simp [pl0]

set_option maxHeartbeats 1000000 in
theorem parts_any (s : ByteArray) (sep : Int) (w : World) (hs : (s.size + 1) * 16 ≤ 140737488355328) :
    Calls Tryd.prog 43 #[.string s, .int .u8 sep] w fun e w' => ∃ v, e = .returned v ∧ Own w' (w.heap.size + 1) 9 v (strs (partsV sep s.data.toList)) ∧ Below w.heap.size w w' := by
  obtain ⟨i0, hi, hz0, hz1, hz2⟩ := info_parts info9
  have hp0 := place0 w
  have HP0 : Hid (PlaceAt (w.alloc (.cells #[.bool false, .bool false, .bool false] 91)) w.heap.size pl0) := hp0
  clear hp0
  go_enter Tryd.func43, Tryd.ntmps43
  go_wp2
  go_loopw [5, 7, 12] (fun v fr i wr => ∃ (k a : Nat) (ps : List (List UInt8)), k ≤ s.size ∧ i = .int .i64 k ∧ fr = .int .i64 a ∧ a ≤ k ∧ ps.length ≤ k ∧ Own wr (w.heap.size + 1) 9 v (strs ps) ∧
      Hid (PlaceAt wr w.heap.size (plAt s.data.toList k)) ∧ Below w.heap.size w wr ∧ w.heap.size + 1 ≤ wr.heap.size ∧ Hid (partsV sep s.data.toList = ps ++ partsG sep (plAt s.data.toList k) (mid s.data.toList a k) (s.data.toList.drop k)))
    (fun _ _ i _ => s.size - (intOf i).toNat)
  case atStart => exact ⟨0, 0, [], Nat.zero_le _, rfl, rfl, Nat.le_refl _, Nat.le_refl _, Own.nil _ _ _, HP0, (Below.refl _ _).alloc (Nat.le_refl _) _, by simp, rfl⟩
  case round =>
    clear HP0
    obtain ⟨k, a, ps, hk, rfl, rfl, hak, hpl, hown, hpc, hb, hB, hpv⟩ := hrel
    by_cases hlt : k < s.size
    · have hnx := plAt_succ s k hlt
      have HNX : Hid (plAt s.data.toList (k + 1) = (pst (plAt s.data.toList k) s[k].toNat).1) := hnx
      clear hnx
      by_cases hfr : (pst (plAt s.data.toList k) s[k].toNat).2 = true
      · by_cases hsep : (s[k].toNat : Int) = sep
        · have hsb : ((s[k].toNat : Int) == sep) = true := by simpa using hsep
          have hcut : Hid (partsV sep s.data.toList = ps ++ [mid s.data.toList a k] ++ partsG sep (plAt s.data.toList (k + 1)) (mid s.data.toList (k + 1) (k + 1)) (s.data.toList.drop (k + 1))) := by
            show _ = _
            rw [hpv.out, partsG_cut hlt hfr hsep, HNX.out, List.append_assoc]; rfl
          clear hsep hpv
          go_wp2_with (first
            | (go_at_call 66; refine (pass_any w.heap.size (plAt s.data.toList k) _ _ hpc.out).mono ?_; rintro e w1 ⟨rfl, hpas⟩)
            | (go_at_call 62; refine (piece_any s a k _ (by omega) hak (by omega)).mono ?_; rintro e w2 ⟨rfl, hb2⟩; have hB1 := Nat.le_trans hB hpas.2.size; have hown2 := (hown.kept hpas.2 (Nat.lt_succ_self _)).below hb2)
            | (at_builtin; refine wp_app _ rfl (.tmp 27) (.tmp 32) 58 rfl (w.heap.size + 1) 9 i0 (.string .empty) 16 Tryd.underlying58 hi hz0 hz1 hz2 rfl _ _ rfl (hown2.alloc _) ⟨_, 0, none⟩ 1 1 [.string (s.extract a k)] rfl rfl (by exact one_new _ _ _) (by intro u hu; simp at hu; subst hu; rfl) (by rw [strs_length]; unfold maxLen; omega) (by rw [strs_length]; omega) w1 ((hb2.mono hB1).alloc (by have := hb2.size; omega) _) (by have := hb2.size; simp; omega) ?_; intro v3 w3 hown3 hb3 hB3))
          have e1 : [Value.string (s.extract a k)] = strs [mid s.data.toList a k] := by simp [strs, ext_list, mid]
          rw [e1, ← strs_append] at hown3
          have hp3 : Hid (PlaceAt w3 w.heap.size (plAt s.data.toList (k + 1))) := by rw [HNX.out]; exact place_below hpas.1 hb3
          have hbw : Below w.heap.size w w3 := (hb.grown hpas.2 (by omega) (fun k hk => by injection hk with hk; omega)).trans (hb3.mono (by omega))
          clear e1
          go_wp2
          go_roundw
          case rel => exact ⟨k + 1, k + 1, _, by omega, by go_num, by go_num, Nat.le_refl _, by simp; omega, hown3, hp3, hbw, hB3, hcut⟩
          case measure => simp [intOf]; omega
        · have hsb : ((s[k].toNat : Int) == sep) = false := by simpa using hsep
          have hcut : Hid (partsV sep s.data.toList = ps ++ partsG sep (plAt s.data.toList (k + 1)) (mid s.data.toList a (k + 1)) (s.data.toList.drop (k + 1))) := by
            show _ = _
            rw [hpv.out, partsG_on hak hlt (by simp [hsep]), HNX.out]
          clear hsep hpv
          go_wp2_with (go_at_call 66; refine (pass_any w.heap.size (plAt s.data.toList k) _ _ hpc.out).mono ?_; rintro e w1 ⟨rfl, hpas⟩)
          have hp3 : Hid (PlaceAt w1 w.heap.size (plAt s.data.toList (k + 1))) := by rw [HNX.out]; exact hpas.1
          have hbw : Below w.heap.size w w1 := hb.grown hpas.2 (by omega) (fun k hk => by injection hk with hk; omega)
          go_roundw
          case rel => exact ⟨k + 1, a, ps, by omega, by go_num, rfl, by omega, by omega, hown.kept hpas.2 (Nat.lt_succ_self _), hp3, hbw, Nat.le_trans hB hpas.2.size, hcut⟩
          case measure => simp [intOf]; omega
      · have hfr' : (pst (plAt s.data.toList k) s[k].toNat).2 = false := by simpa using hfr
        have hcut : Hid (partsV sep s.data.toList = ps ++ partsG sep (plAt s.data.toList (k + 1)) (mid s.data.toList a (k + 1)) (s.data.toList.drop (k + 1))) := by
          show _ = _
          rw [hpv.out, partsG_on hak hlt (by simp [hfr']), HNX.out]
        clear hfr hpv
        go_wp2_with (go_at_call 66; refine (pass_any w.heap.size (plAt s.data.toList k) _ _ hpc.out).mono ?_; rintro e w1 ⟨rfl, hpas⟩)
        have hp3 : Hid (PlaceAt w1 w.heap.size (plAt s.data.toList (k + 1))) := by rw [HNX.out]; exact hpas.1
        have hbw : Below w.heap.size w w1 := hb.grown hpas.2 (by omega) (fun k hk => by injection hk with hk; omega)
        go_roundw
        case rel => exact ⟨k + 1, a, ps, by omega, by go_num, rfl, by omega, by omega, hown.kept hpas.2 (Nat.lt_succ_self _), hp3, hbw, Nat.le_trans hB hpas.2.size, hcut⟩
        case measure => simp [intOf]; omega
    · have hks : k = s.size := by omega
      have hfin : Hid (partsV sep s.data.toList = ps ++ [mid s.data.toList a s.size]) := by
        show _ = _
        rw [hpv.out, drop_all s k (by omega), hks]; rfl
      have HKS : Hid (k = s.size) := hks
      clear hpv hks
      go_wp2_with (first
        | (go_at_call 62; refine (piece_any s a s.size _ (by omega) (by have := HKS.out; omega) (Nat.le_refl _)).mono ?_; rintro e w2 ⟨rfl, hb2⟩; have hown2 := hown.below hb2)
        | (at_builtin; refine wp_app _ rfl (.tmp 37) (.tmp 43) 58 rfl (w.heap.size + 1) 9 i0 (.string .empty) 16 Tryd.underlying58 hi hz0 hz1 hz2 rfl _ _ rfl (hown2.alloc _) ⟨_, 0, none⟩ 1 1 [.string (s.extract a s.size)] rfl rfl (by exact one_new _ _ _) (by intro u hu; simp at hu; subst hu; rfl) (by rw [strs_length]; unfold maxLen; omega) (by rw [strs_length]; omega) wr ((hb2.mono hB).alloc (by have := hb2.size; omega) _) (by have := hb2.size; simp; omega) ?_; intro v3 w3 hown3 hb3 hB3))
      have e1 : [Value.string (s.extract a s.size)] = strs [mid s.data.toList a s.size] := by simp [strs, ext_list, mid]
      rw [e1, ← strs_append, ← hfin.out] at hown3
      clear e1
      go_ret
      exact ⟨_, rfl, hown3, hb.trans (hb3.mono (by omega))⟩

end Go.Proofs.YtjbfdbccidhdfaaDoor

/-
  Texts cut at a sign, and parted by it. Of no program.
-/
namespace Go.Proofs.YtjbfdbccidhdfaaDoor

/-- What stands ahead of the first sign, behind it, and whether there is one. -/
def cutL (c : UInt8) : List UInt8 → List UInt8 × List UInt8 × Bool
  | [] => ([], [], false)
  | x :: l => if x = c then ([], l, true) else (x :: (cutL c l).1, (cutL c l).2.1, (cutL c l).2.2)
/-- The parts between any two signs. -/
def splitL (c : UInt8) : List UInt8 → List (List UInt8)
  | [] => [[]]
  | x :: l => if x = c then [] :: splitL c l else (x :: (splitL c l).headD []) :: (splitL c l).tail

def hasL (c : UInt8) (l : List UInt8) : Bool := l.contains c

theorem cutL_miss {c : UInt8} {l : List UInt8} (h : c ∉ l) : cutL c l = (l, [], false) := by
  induction l with
  | nil => rfl
  | cons x l ih =>
    simp only [List.mem_cons, not_or] at h
    rw [cutL, if_neg (fun e => h.1 e.symm), ih h.2]
theorem cutL_hit {c : UInt8} {a b : List UInt8} (h : c ∉ a) : cutL c (a ++ c :: b) = (a, b, true) := by
  induction a with
  | nil => simp [cutL]
  | cons x a ih =>
    simp only [List.mem_cons, not_or] at h
    rw [List.cons_append, cutL, if_neg (fun e => h.1 e.symm), ih h.2]
theorem cutL_has (c : UInt8) (l : List UInt8) : (cutL c l).2.2 = hasL c l := by
  unfold hasL
  induction l with
  | nil => rfl
  | cons x l ih =>
    rw [cutL]
    by_cases h : x = c
    · simp [h]
    · rw [if_neg h]; simp [ih]; intro e; exact absurd e.symm h
theorem cutL_join (c : UInt8) (l : List UInt8) : (cutL c l).2.2 = true → l = (cutL c l).1 ++ c :: (cutL c l).2.1 := by
  induction l with
  | nil => intro h; simp [cutL] at h
  | cons x l ih =>
    rw [cutL]
    by_cases h : x = c
    · simp [h]
    · rw [if_neg h]; intro h2; simp only [List.cons_append]; rw [← ih h2]
theorem cutL_not (c : UInt8) (l : List UInt8) : (cutL c l).2.2 = false → cutL c l = (l, [], false) := by
  intro h
  apply cutL_miss
  rw [cutL_has, hasL] at h
  simpa using h
theorem cutL_len (c : UInt8) (l : List UInt8) : (cutL c l).1.length ≤ l.length ∧ (cutL c l).2.1.length ≤ l.length := by
  induction l with
  | nil => simp [cutL]
  | cons x l ih =>
    rw [cutL]
    by_cases h : x = c
    · simp [h]
    · rw [if_neg h]; simp; omega
theorem splitL_cons (c : UInt8) (l : List UInt8) : ∃ p ps, splitL c l = p :: ps := by
  cases l with
  | nil => exact ⟨_, _, rfl⟩
  | cons x l => rw [splitL]; split <;> exact ⟨_, _, rfl⟩
theorem splitL_cut (c : UInt8) (l : List UInt8) : splitL c l = if (cutL c l).2.2 = true then (cutL c l).1 :: splitL c (cutL c l).2.1 else [(cutL c l).1] := by
  induction l with
  | nil => rfl
  | cons x l ih =>
    rw [splitL, cutL]
    by_cases h : x = c
    · simp [h]
    · rw [if_neg h, if_neg h]
      simp only
      rw [ih]
      split <;> simp
theorem splitL_len (c : UInt8) (l : List UInt8) : (splitL c l).length ≤ l.length + 1 := by
  induction l with
  | nil => simp [splitL]
  | cons x l ih =>
    obtain ⟨p, ps, hp⟩ := splitL_cons c l
    rw [splitL]
    split
    · simp; omega
    · rw [hp] at ih ⊢; simp at ih ⊢; omega

end Go.Proofs.YtjbfdbccidhdfaaDoor

/-
  Which texts are schemes and hosts, as plain functions on lists of bytes.
-/
namespace Go.Proofs.YtjbfdbccidhdfaaDoor
open Go.RowKit Sc
set_option linter.unusedVariables false
set_option maxRecDepth 20000

def okc (b : UInt8) : Bool := b == 58 || (b == 46 || isB b.toNat 4)
def brkB (l : List UInt8) : Bool := decide (4 ≤ l.length) && ((l.getD (l.length - 1) 0 == 93) && ((mid l 1 (l.length - 1)).all okc && decide (2 ≤ (mid l 1 (l.length - 1)).count 58)))
def labB (p : List UInt8) : Bool := decide (1 ≤ p.length) && (allB 64 p && (!(p.getD 0 0 == 45) && !(p.getD (p.length - 1) 0 == 45)))
def hostB (l : List UInt8) : Bool := decide (1 ≤ l.length) && (decide (l.length ≤ 64) && ((lowL l == l) && (if l.getD 0 0 = 91 then brkB l else (splitL 46 l).all labB)))
def schemeB (l : List UInt8) : Bool := l == [115, 105, 112] || (l == [115, 105, 112, 115] || l == [112, 114, 101, 115])

theorem host_short {l : List UInt8} (h : l.length = 0) : hostB l = false := by
  unfold hostB; simp [h]
theorem host_long {l : List UInt8} (h : 64 < l.length) : hostB l = false := by
  have : decide (l.length ≤ 64) = false := by simp; omega
  unfold hostB; simp [this]
theorem host_caps {l : List UInt8} (h : (lowL l == l) = false) : hostB l = false := by
  unfold hostB; simp only [h, Bool.false_and, Bool.and_false]
theorem host_brk {l : List UInt8} (h1 : 1 ≤ l.length) (h2 : l.length ≤ 64) (h : (lowL l == l) = true) (hb : l.getD 0 0 = 91) : hostB l = brkB l := by
  unfold hostB; simp only [h, if_pos hb, decide_eq_true h1, decide_eq_true h2, Bool.true_and]
theorem host_lab {l : List UInt8} (h1 : 1 ≤ l.length) (h2 : l.length ≤ 64) (h : (lowL l == l) = true) (hb : ¬ l.getD 0 0 = 91) : hostB l = (splitL 46 l).all labB := by
  unfold hostB; simp only [h, if_neg hb, decide_eq_true h1, decide_eq_true h2, Bool.true_and]
theorem getD_s (s : ByteArray) (k : Nat) (h : k < s.size) : s.data.toList.getD k 0 = s[k] := by
  rw [List.getD_eq_getElem?_getD, getL s k h]; rfl
theorem mid_prefix (l : List UInt8) (a k m : Nat) (h : k ≤ m) : ∃ r, mid l a m = mid l a k ++ r := by
  refine ⟨((l.drop a).take (m - a)).drop (k - a), ?_⟩
  unfold mid
  conv => lhs; rw [← List.take_append_drop (k - a) ((l.drop a).take (m - a))]
  rw [List.take_take, Nat.min_eq_left (by omega)]
theorem brk_bad {s : ByteArray} {k : Nat} (h1 : 1 ≤ k) (h : k + 1 < s.size) (hb : okc s[k] = false) : brkB s.data.toList = false := by
  obtain ⟨r, hr⟩ := mid_prefix s.data.toList 1 (k + 1) (s.size - 1) (by omega)
  unfold brkB
  rw [len_data, hr, mid_snoc s 1 k h1 (by omega)]
  simp [hb]
theorem brk_end {s : ByteArray} {k n : Nat} (h4 : 4 ≤ s.size) (hk : k = s.size - 1) (ha : (mid s.data.toList 1 k).all okc = true) (hn : (mid s.data.toList 1 k).count 58 = n) (hl : s.data.toList.getD k 0 = 93) : brkB s.data.toList = decide (2 ≤ n) := by
  subst hk
  unfold brkB
  rw [len_data, ha, hn, hl]
  simp [h4]
theorem brk_short {s : ByteArray} (h4 : ¬ 4 ≤ s.size) : brkB s.data.toList = false := by
  unfold brkB; rw [len_data]; simp [h4]
theorem brk_last {s : ByteArray} {k : Nat} (hk : k = s.size - 1) (hl : ¬ s.data.toList.getD k 0 = 93) : brkB s.data.toList = false := by
  subst hk
  have : (s.data.toList.getD (s.size - 1) 0 == 93) = false := by simpa using hl
  unfold brkB; rw [len_data, this]; simp
theorem okc_of {b : UInt8} : okc b = true ↔ b = 58 ∨ b = 46 ∨ isB b.toNat 4 = true := by simp [okc]
theorem splitL_mem_len (c : UInt8) (l : List UInt8) : ∀ p ∈ splitL c l, p.length ≤ l.length := by
  induction l with
  | nil => simp [splitL]
  | cons x l ih =>
    obtain ⟨p, ps, hp⟩ := splitL_cons c l
    rw [splitL]
    rw [hp] at ih ⊢
    split
    · intro q hq
      simp only [List.mem_cons] at hq
      rcases hq with rfl | hq
      · simp
      · have := ih q (by simpa using hq); simp; omega
    · intro q hq
      simp only [List.headD_cons, List.tail_cons, List.mem_cons] at hq
      rcases hq with rfl | hq
      · have := ih p (by simp); simp; omega
      · have := ih q (by simp [hq]); simp; omega

end Go.Proofs.YtjbfdbccidhdfaaDoor

/-
  Contracts of the document's own Has, Cut and Split.
-/
namespace Go.Proofs.YtjbfdbccidhdfaaDoor
open Go.RowKit Sc
set_option linter.unusedVariables false
set_option maxRecDepth 20000

theorem u8_eq {a b : UInt8} (h : a = b) : ((a.toNat : Int) == (b.toNat : Int)) = true := by simp [h]
theorem u8_ne {a b : UInt8} (h : ¬ a = b) : ((a.toNat : Int) == (b.toNat : Int)) = false := by
  simp only [beq_eq_false_iff_ne, ne_eq]
  intro e; exact h (UInt8.toNat_inj.1 (by omega))
theorem notMem_snoc {c : UInt8} {s : ByteArray} {k : Nat} (hk : k < s.size) (h : c ∉ s.data.toList.take k) (hc : ¬ s[k] = c) : c ∉ s.data.toList.take (k + 1) := by
  rw [take_snoc s k hk]
  simp only [List.mem_append, List.mem_singleton, not_or]
  exact ⟨h, fun e => hc e.symm⟩
theorem split_at (s : ByteArray) (k : Nat) (hk : k < s.size) : s.data.toList = s.data.toList.take k ++ s[k] :: s.data.toList.drop (k + 1) := by
  rw [← drop_cons s k hk, List.take_append_drop]

theorem ret_cut {p : List UInt8 × List UInt8 × Bool} {x y : ByteArray} {b : Bool} (h : p = (x.data.toList, y.data.toList, b)) : Ending.returned (.tuple #[.string x, .string y, .bool b]) = .returned (.tuple #[.string ⟨p.1.toArray⟩, .string ⟨p.2.1.toArray⟩, .bool p.2.2]) := by
  have hx : (⟨x.data.toList.toArray⟩ : ByteArray) = x := by apply ByteArray.ext; simp
  have hy : (⟨y.data.toList.toArray⟩ : ByteArray) = y := by apply ByteArray.ext; simp
  rw [h, hx, hy]

set_option maxHeartbeats 400000 in
theorem cut3_any (s : ByteArray) (c : UInt8) (w : World) (hs : s.size ≤ maxLen) :
    Calls Tryd.prog 59 #[.string s, .int .u8 c.toNat] w fun e w' => e = .returned (.tuple #[.string ⟨(cutL c s.data.toList).1.toArray⟩, .string ⟨(cutL c s.data.toList).2.1.toArray⟩, .bool (cutL c s.data.toList).2.2]) ∧ ∃ q, w' = w.drewN q := by
  unfold maxLen at hs
  go_enter Tryd.func59, Tryd.ntmps59
  go_wp2
  go_loop [7] (fun i => ∃ k : Nat, k ≤ s.size ∧ i = .int .i64 k ∧ Hid (c ∉ s.data.toList.take k)) (fun i => s.size - (intOf i).toNat)
  case atStart => exact ⟨0, Nat.zero_le _, rfl, show _ ∉ _ by simp⟩
  case round =>
    obtain ⟨k, hk, rfl, hno⟩ := hrel
    by_cases hlt : k < s.size
    · by_cases hc : s[k] = c
      · have he := u8_eq hc
        have hv : Hid (cutL c s.data.toList = (s.data.toList.take k, s.data.toList.drop (k + 1), true)) := show _ = _ by
          conv => lhs; rw [split_at s k hlt, hc]
          exact cutL_hit hno.out
        have e1 : Hid ((s.extract 0 k).data.toList = s.data.toList.take k) := show _ = _ by rw [ext_list]; simp
        have e2 : Hid ((s.extract (k + 1) s.size).data.toList = s.data.toList.drop (k + 1)) := show _ = _ by
          rw [ext_list, List.take_of_length_le (by rw [List.length_drop, len_data]; omega)]
        clear hc hno
        have hwr : IntKind.i64.wrap ((k : Int) + 1) = ((k + 1 : Nat) : Int) := by
          simp [IntKind.wrap, IntKind.bits, IntKind.signed]; omega
        go_wp2
        go_quiet (fail)
        go_wp2
        go_ret3
        exact ⟨ret_cut (by rw [hv.out, e1.out, e2.out]), nq, rfl⟩
      · have he := u8_ne hc
        have hno2 : Hid (c ∉ s.data.toList.take (k + 1)) := notMem_snoc hlt hno.out hc
        clear hc hno
        go_wp2
        go_round
        case rel => exact ⟨k + 1, by omega, by go_num, hno2⟩
        case measure => simp [intOf]; omega
    · have hv : Hid (cutL c s.data.toList = (s.data.toList, [], false)) := show _ = _ by
        have := hno.out
        rw [take_all s k (by omega)] at this
        exact cutL_miss this
      clear hno
      go_wp2
      go_ret3
      exact ⟨ret_cut hv.out, 0, rfl⟩

theorem cut3_list (r : List UInt8) (c : UInt8) (w : World) (hs : r.length ≤ 9223372036854775807) :
    Calls Tryd.prog 59 #[.string ⟨r.toArray⟩, .int .u8 c.toNat] w fun e w' => e = .returned (.tuple #[.string ⟨(cutL c r).1.toArray⟩, .string ⟨(cutL c r).2.1.toArray⟩, .bool (cutL c r).2.2]) ∧ ∃ q, w' = w.drewN q :=
  cut3_any ⟨r.toArray⟩ c w (by unfold maxLen; simp [ByteArray.size]; omega)
def lenOf : Value → Nat
  | .string s => s.size
  | _ => 0
def boolOf : Value → Nat
  | .bool true => 1
  | _ => 0
theorem size_list (l : List UInt8) : (⟨l.toArray⟩ : ByteArray).size = l.length := by simp [ByteArray.size]
theorem splitL_next {c : UInt8} {l0 r : List UInt8} {ps : List (List UInt8)} (h : splitL c l0 = ps ++ splitL c r) (hb : (cutL c r).2.2 = true) : splitL c l0 = (ps ++ [(cutL c r).1]) ++ splitL c (cutL c r).2.1 := by
  rw [h, splitL_cut c r, if_pos hb]; simp
theorem splitL_last {c : UInt8} {l0 r : List UInt8} {ps : List (List UInt8)} (h : splitL c l0 = ps ++ splitL c r) (hb : (cutL c r).2.2 = false) : splitL c l0 = ps ++ [(cutL c r).1] := by
  rw [h, splitL_cut c r, if_neg (by simp [hb])]
theorem cutL_dec {c : UInt8} {r : List UInt8} (hb : (cutL c r).2.2 = true) : (cutL c r).2.1.length < r.length := by
  have h := cutL_join c r hb
  have := congrArg List.length h
  simp at this; omega

set_option maxHeartbeats 1000000 in
theorem split3_any (s : ByteArray) (c : UInt8) (w : World) (hs : s.size ≤ 1048576) :
    Calls Tryd.prog 104 #[.string s, .int .u8 c.toNat] w fun e w' => ∃ v, e = .returned v ∧ Own w' w.heap.size 9 v (strs (splitL c s.data.toList)) ∧ Below w.heap.size w w' := by
  obtain ⟨i0, hi, hz0, hz1, hz2⟩ := info_parts info9
  go_enter Tryd.func104, Tryd.ntmps104
  go_wp2
  have hs0 : s = ⟨s.data.toList.toArray⟩ := by apply ByteArray.ext; simp
  have hl := len_data s
  generalize s.data.toList = l0 at hs0 hl ⊢
  subst hs0
  go_loopw [0, 5, 6] (fun x v m wr => ∃ (r : List UInt8) (ps : List (List UInt8)) (b : Bool), x = .string ⟨r.toArray⟩ ∧ m = .bool b ∧ Own wr w.heap.size 9 v (strs ps) ∧ Below w.heap.size w wr ∧ w.heap.size ≤ wr.heap.size ∧ ps.length + r.length ≤ l0.length + 1 ∧ r.length ≤ l0.length ∧
      Hid (if b = true then splitL c l0 = ps ++ splitL c r ∧ ps.length + r.length ≤ l0.length else splitL c l0 = ps)) (fun x _ m _ => lenOf x + boolOf m)
  case atStart => exact ⟨l0, [], true, rfl, rfl, Own.nil _ _ _, Below.refl _ _, Nat.le_refl _, by simp, by omega, show _ = _ ∧ _ from ⟨rfl, by simp⟩⟩
  case round =>
    obtain ⟨r, ps, b, rfl, rfl, hown, hb, hB, hln, hrl, hsp⟩ := hrel
    cases b with
    | false =>
      go_wp2
      go_ret
      exact ⟨_, rfl, by have := hsp.out; simp at this; rw [this]; exact hown, hb⟩
    | true =>
      have hsp2 := hsp.out
      rw [if_pos rfl] at hsp2
      have hsp3 : Hid _ := hsp2
      clear hsp hsp2
      have hcl := cutL_len c r
      have hdec := @cutL_dec c r
      have hnx := @splitL_next c l0 r ps hsp3.out.1
      have hlast := @splitL_last c l0 r ps hsp3.out.1
      have hl2 := hsp3.out.2
      rw [size_list] at hs
      clear hsp3 hl
      go_wp2_with fail
      refine (cut3_list r c _ (by omega)).mono ?_
      rintro e w' ⟨rfl, q, rfl⟩
      generalize cutL c r = p at hcl hdec hnx hlast ⊢
      obtain ⟨p1, p2, b⟩ := p
      have HD : Hid _ := hdec; clear hdec
      have HN : Hid _ := hnx; clear hnx
      have HL : Hid _ := hlast; clear hlast
      have hown1 := hown.below (below_drewN wr q)
      have hb1 := hb.trans ((below_drewN wr q).mono hB)
      have hB1 : w.heap.size ≤ (wr.drewN q).heap.size := hB
      clear hown hb hB
      generalize wr.drewN q = w1 at hown1 hb1 hB1 ⊢
      go_wp2_with (at_builtin; refine wp_app _ rfl (.tmp 16) (.tmp 18) 58 rfl w.heap.size 9 i0 (.string .empty) 16 Tryd.underlying58 hi hz0 hz1 hz2 rfl _ _ rfl (hown1.alloc _) ⟨_, 0, none⟩ 1 1 [.string ⟨p1.toArray⟩] rfl rfl (by exact one_new _ _ _) (by intro u hu; simp at hu; subst hu; rfl) (by rw [strs_length]; unfold maxLen; omega) (by rw [strs_length]; omega) w (hb1.alloc (by omega) _) (by simp; omega) ?_; intro v3 w3 hown3 hb3 hB3)
      have e1 : [Value.string ⟨p1.toArray⟩] = strs [p1] := rfl
      rw [e1, ← strs_append] at hown3
      cases b with
      | true =>
        have hd : p2.length < r.length := HD.out rfl
        have hn : Hid (splitL c l0 = ps ++ [p1] ++ splitL c p2) := HN.out rfl
        clear HD HN HL
        go_wp2
        go_roundw
        case rel => exact ⟨p2, ps ++ [p1], true, rfl, rfl, hown3, hb3, hB3, by simp; omega, by omega, show _ = _ ∧ _ from ⟨hn.out, by simp; omega⟩⟩
        case measure => simp [lenOf, boolOf, size_list]; omega
      | false =>
        have hn : Hid (splitL c l0 = ps ++ [p1]) := HL.out rfl
        clear HD HN HL
        go_wp2
        go_roundw
        case rel => exact ⟨p2, ps ++ [p1], false, rfl, rfl, hown3, hb3, hB3, by simp; omega, by omega, hn⟩
        case measure => simp [lenOf, boolOf, size_list]; omega

end Go.Proofs.YtjbfdbccidhdfaaDoor
