/-
  Contracts: package xml's signOf and plain: what a value or a text stands for.
-/
import Derived.Test.YtnijlmkodgdhlaaDoorYN
import Derived.Test.YtnijlmkodgdhlaaDoorYC
namespace Go.Proofs.YtnijlmkodgdhlaaDoor
open Go.RowKit Sc
set_option linter.unusedVariables false
set_option maxRecDepth 20000
set_option linter.unusedSimpArgs false

/-- The sign that a name stands for. -/
def sgnV (n : List UInt8) : Option UInt8 :=
  if n = [97, 109, 112] then some 38 else if n = [108, 116] then some 60 else if n = [103, 116] then some 62 else if n = [113, 117, 111, 116] then some 34 else if n = [97, 112, 111, 115] then some 39 else none
theorem take_cut (m n b : List UInt8) (hm : (59 : UInt8) ∉ m) (hn : (59 : UInt8) ∉ n) : (n ++ 59 :: b).take (m.length + 1) = m ++ [59] ↔ n = m := by
  constructor
  · intro h
    have h1 := List.take_append_drop (m.length + 1) (n ++ 59 :: b)
    rw [h, List.append_assoc] at h1
    have h2 := congrArg (cutL 59) h1
    rw [show m ++ ([59] ++ (n ++ 59 :: b).drop (m.length + 1)) = m ++ 59 :: (n ++ 59 :: b).drop (m.length + 1) from rfl, cutL_hit hm, cutL_hit hn] at h2
    exact (congrArg (·.1) h2).symm
  · rintro rfl
    rw [List.take_append, List.take_of_length_le (by omega)]
    simp
theorem ent_hit {n b : List UInt8} (hn : (59 : UInt8) ∉ n) : entX (n ++ 59 :: b) = (sgnV n).map (fun c => (c, n.length + 1)) := by
  have t1 := take_cut [97, 109, 112] n b (by decide) hn
  have t2 := take_cut [108, 116] n b (by decide) hn
  have t3 := take_cut [103, 116] n b (by decide) hn
  have t4 := take_cut [113, 117, 111, 116] n b (by decide) hn
  have t5 := take_cut [97, 112, 111, 115] n b (by decide) hn
  simp only [List.length_cons, List.length_nil, List.cons_append, List.nil_append, Nat.zero_add, Nat.reduceAdd] at t1 t2 t3 t4 t5
  unfold entX sgnV
  simp only [t1, t2, t3, t4, t5]
  split
  · next h => rw [h]; rfl
  · split
    · next h => rw [h]; rfl
    · split
      · next h => rw [h]; rfl
      · split
        · next h => rw [h]; rfl
        · split
          · next h => rw [h]; rfl
          · rfl
theorem ent_miss {r : List UInt8} (h : (59 : UInt8) ∉ r) : entX r = none := by
  have no : ∀ (k : Nat) (m : List UInt8), (59 : UInt8) ∈ m → ¬ r.take k = m := fun k m hm e => h (List.mem_of_mem_take (by rw [e]; exact hm))
  unfold entX
  rw [if_neg (no _ _ (by decide)), if_neg (no _ _ (by decide)), if_neg (no _ _ (by decide)), if_neg (no _ _ (by decide)), if_neg (no _ _ (by decide))]
/-- What is read behind an &, by the next ;. -/
theorem read_amp {r n b : List UInt8} {f : Bool} (h : cutL 59 r = (n, b, f)) : readX (38 :: r) = (if f then (sgnV n) else none).bind (fun c => (readX b).map (c :: ·)) := by
  cases f with
  | false =>
    have hn : (59 : UInt8) ∉ r := by
      intro hm
      have := cutL_has 59 r
      rw [h] at this
      simp [hasL, hm] at this
    have := readX_none (l := 38 :: r) (k := 0) (by simp) rfl (by simpa using ent_miss hn)
    simpa using this
  | true =>
    have hj := cutL_join 59 r (by rw [h])
    rw [h] at hj
    simp only at hj
    have hn : (59 : UInt8) ∉ n := by
      intro hm
      have h2 := cutL_has 59 n
      obtain ⟨p, q, hp, hpq⟩ : ∃ p q, n = p ++ 59 :: q ∧ (59 : UInt8) ∉ p := by
        have hc := cutL_join 59 n (by rw [h2]; simp [hasL, hm])
        rcases idx_cases n 59 with ⟨h1, _⟩ | ⟨a, c, h1, h3, _⟩
        · exact absurd hm h1
        · exact ⟨a, c, h1, h3⟩
      rw [hj, hp, List.append_assoc, List.cons_append, cutL_hit hpq] at h
      have := congrArg (fun x => x.1.length) h
      simp at this
    rw [hj]
    have he := ent_hit (b := b) hn
    cases hs : sgnV n with
    | none =>
      rw [hs] at he
      have := readX_none (l := 38 :: (n ++ 59 :: b)) (k := 0) (by simp) rfl (by simpa using he)
      simpa [hs] using this
    | some c =>
      rw [hs] at he
      have := read_ent (q := b) he (by rw [← List.drop_drop, List.drop_left]; rfl)
      rw [this]; rfl
theorem read_plain : ∀ {a : List UInt8} (r : List UInt8), (38 : UInt8) ∉ a → readX (a ++ r) = (readX r).map (a ++ ·)
  | [], r, _ => by cases h : readX r <;> simp [h]
  | b :: a, r, h => by
    have hb : b ≠ 38 := fun e => h (by rw [e]; exact List.mem_cons_self ..)
    have ha : (38 : UInt8) ∉ a := fun e => h (List.mem_cons_of_mem _ e)
    rw [List.cons_append, read_cons hb, read_plain r ha]
    cases readX r <;> rfl
theorem read_cut {s a r : List UInt8} {f : Bool} (h : cutL 38 s = (a, r, f)) : readX s = (if f then readX (38 :: r) else some []).map (a ++ ·) := by
  cases f with
  | false =>
    have := cutL_not 38 s (by rw [h])
    rw [h] at this
    have e : a = s := congrArg (·.1) this
    subst e
    have hn : (38 : UInt8) ∉ a := by
      intro hm
      have := cutL_has 38 a
      rw [h] at this
      simp [hasL, hm] at this
    have := read_plain (a := a) [] hn
    rw [List.append_nil] at this
    rw [this]; rfl
  | true =>
    have hj := cutL_join 38 s (by rw [h])
    rw [h] at hj
    simp only at hj
    have hn : (38 : UInt8) ∉ a := by
      intro hm
      rcases idx_cases a 38 with ⟨h1, _⟩ | ⟨p, c, h1, h3, _⟩
      · exact h1 hm
      · rw [hj, h1, List.append_assoc, List.cons_append, cutL_hit h3] at h
        have := congrArg (fun x => x.1.length) h
        simp at this
    rw [hj]
    exact read_plain _ hn
theorem xcut_of {r a b : List UInt8} {f : Bool} {c : UInt8} (h : cutL c r = (a, b, f)) (w : World) (hs : r.length ≤ 140737488355328) :
    Calls Tryd.prog 101 #[.string ⟨r.toArray⟩, .string ⟨#[c]⟩] w fun e w' => e = .returned (.tuple #[.string ⟨a.toArray⟩, .string ⟨b.toArray⟩, .bool f]) ∧ Below w.heap.size w w' := by
  have k := strCut_any ⟨r.toArray⟩ c w (by rw [size_list]; omega)
  have e : cutL c (⟨r.toArray⟩ : ByteArray).data.toList = (a, b, f) := h
  rw [e] at k
  refine k.mono ?_
  rintro e w' ⟨rfl, q, rfl⟩
  exact ⟨rfl, below_drewN w q⟩
theorem cutL_sum (c : UInt8) (l : List UInt8) : (cutL c l).1.length + (cutL c l).2.1.length ≤ l.length := by
  cases h : (cutL c l).2.2 with
  | true =>
    have := congrArg List.length (cutL_join c l h)
    simp only [List.length_append, List.length_cons] at this
    omega
  | false => rw [cutL_not c l h]; simp
theorem OwnB.mono {w : World} {B C : Nat} {v : Value} {l : List UInt8} (h : OwnB w B v l) (hc : C ≤ B) : OwnB w C v l := by
  obtain ⟨g, cap, cur, fz, hv, hB, r⟩ := h
  exact ⟨g, cap, cur, fz, hv, Nat.le_trans hc hB, r⟩
def sgnR (o : Option UInt8) : Value := match o with | some c => .tuple #[.int .u8 c.toNat, .bool true] | none => .tuple #[.int .u8 0, .bool false]
theorem xlist_beq (a b : List UInt8) : ((⟨a.toArray⟩ : ByteArray).toList == (⟨b.toArray⟩ : ByteArray).toList) = (a == b) := by
  have e : ∀ l : List UInt8, (⟨l.toArray⟩ : ByteArray).toList = l := fun l => by rw [ByteArray.toList_eq]
  rw [e, e]
set_option maxHeartbeats 1000000 in
theorem signOf_any (n : List UInt8) (w : World) : Calls Tryd.prog 102 #[.string ⟨n.toArray⟩] w fun e w' => e = .returned (sgnR (sgnV n)) ∧ w' = w := by
  by_cases h1 : n = [97, 109, 112]
  · subst h1
    go_enter Tryd.func102, Tryd.ntmps102
    go_wp2
    go_ret2
    exact ⟨rfl, rfl⟩
  by_cases h2 : n = [108, 116]
  · subst h2
    go_enter Tryd.func102, Tryd.ntmps102
    go_wp2
    go_ret2
    exact ⟨rfl, rfl⟩
  by_cases h3 : n = [103, 116]
  · subst h3
    go_enter Tryd.func102, Tryd.ntmps102
    go_wp2
    go_ret2
    exact ⟨rfl, rfl⟩
  by_cases h4 : n = [113, 117, 111, 116]
  · subst h4
    go_enter Tryd.func102, Tryd.ntmps102
    go_wp2
    go_ret2
    exact ⟨rfl, rfl⟩
  by_cases h5 : n = [97, 112, 111, 115]
  · subst h5
    go_enter Tryd.func102, Tryd.ntmps102
    go_wp2
    go_ret2
    exact ⟨rfl, rfl⟩
  have hR : Hid (sgnV n = none) := show _ = _ by unfold sgnV; rw [if_neg h1, if_neg h2, if_neg h3, if_neg h4, if_neg h5]
  have e1 : (n == [97, 109, 112]) = false := by rw [beq_eq_false_iff_ne]; exact h1
  have e2 : (n == [108, 116]) = false := by rw [beq_eq_false_iff_ne]; exact h2
  have e3 : (n == [103, 116]) = false := by rw [beq_eq_false_iff_ne]; exact h3
  have e4 : (n == [113, 117, 111, 116]) = false := by rw [beq_eq_false_iff_ne]; exact h4
  have e5 : (n == [97, 112, 111, 115]) = false := by rw [beq_eq_false_iff_ne]; exact h5
  clear h1 h2 h3 h4 h5
  go_enter Tryd.func102, Tryd.ntmps102
  go_wp2
  go_ret2
  exact ⟨by rw [hR.out]; rfl, rfl⟩
/-- The reader's answer, or that it gives up. -/
def ReadsTo (o : Option (List UInt8)) (w : World) (e : Ending) (w' : World) : Prop := (match o with | some r => e = .returned (.string ⟨r.toArray⟩) | none => e = gaveUp) ∧ Below w.heap.size w w'
def readW (more : Bool) (rest : List UInt8) : Option (List UInt8) := if more then readX (38 :: rest) else some []
def xlenOf : Value → Nat | .string t => t.size | _ => 0
def xboolOf : Value → Bool | .bool b => b | _ => false
set_option maxHeartbeats 4000000 in
set_option maxRecDepth 100000 in
theorem plain_any (s : List UInt8) (w : World) (hs : s.length ≤ 1048576) : Calls Tryd.prog 90 #[.string ⟨s.toArray⟩] w (ReadsTo (readX s) w) := by
  obtain ⟨i0, hi, hz0, hz1, hz2⟩ := info_parts info5
  obtain ⟨⟨a0, r0, f0⟩, hc0⟩ : ∃ x, cutL 38 s = x := ⟨_, rfl⟩
  have hl0 := cutL_len 38 s
  rw [hc0] at hl0
  simp only at hl0
  have HR : Hid (readX s = (readW f0 r0).map (a0 ++ ·)) := show _ = _ from read_cut hc0
  have K0 := hid (fun w' => xcut_of hc0 w' (by omega))
  have hsum : a0.length + r0.length ≤ 1048576 := by have := cutL_sum 38 s; rw [hc0] at this; simp only at this; omega
  generalize readX s = R at HR ⊢
  clear hc0
  go_enter Tryd.func90, Tryd.ntmps90
  go_wp2_with fail
  refine (K0.out _).mono ?_
  rintro e w1 ⟨rfl, hw1⟩
  obtain ⟨v2, w2, hcv, hown2, hb2⟩ := ownB_of w1 a0 (by omega)
  have hcv2 := hcv (P := Tryd.prog) Tryd.underlying9 Tryd.underlying53 Tryd.underlying5
  have hb12 := hw1.trans (hb2.mono hw1.size)
  have hown2' := hown2.mono (C := w.heap.size) hw1.size
  have hB2 : w.heap.size ≤ w2.heap.size := hb12.size
  clear hcv K0 hown2 hb2 hw1
  go_wp2
  clear hcv2
  go_loopw [3, 4, 5, 6] (fun av rv mv ov wr => ∃ (a r acc : List UInt8) (f : Bool), av = .string ⟨a.toArray⟩ ∧ rv = .string ⟨r.toArray⟩ ∧ mv = .bool f ∧ acc.length + r.length ≤ 1048576 ∧ Hid (R = (readW f r).map (acc ++ ·)) ∧ OwnB wr w.heap.size ov acc ∧ Below w.heap.size w wr ∧ w.heap.size ≤ wr.heap.size) (fun _ rv _ _ _ => xlenOf rv)
  case atStart => exact ⟨a0, r0, a0, f0, rfl, rfl, rfl, hsum, HR, hown2', hb12, hB2⟩
  case round =>
    obtain ⟨a, r, acc, f, rfl, rfl, rfl, hsz, hR, hown, hb, hB⟩ := hrel
    clear HR hown2' hb12 hB2
    cases f with
    | false =>
      have hE : Hid (R = some acc) := show _ = _ by rw [hR.out]; simp [readW]
      have hcb := convB (P := Tryd.prog) (src := 53) (dst := 9) acc Tryd.underlying53 Tryd.underlying5 Tryd.underlying9 hown
      clear hR
      go_wp2
      go_ret
      rw [hE.out]
      exact ⟨rfl, hb⟩
    | true =>
      obtain ⟨⟨n, b, f2⟩, hc1⟩ : ∃ x, cutL 59 r = x := ⟨_, rfl⟩
      have hl1 := cutL_len 59 r
      rw [hc1] at hl1
      simp only at hl1
      have hR2 : Hid (R = ((if f2 then (sgnV n) else none).bind (fun c => (readX b).map (c :: ·))).map (acc ++ ·)) := show _ = _ by
        rw [hR.out, readW, if_pos rfl, read_amp hc1]
      have K1 := hid (fun w' => xcut_of hc1 w' (by omega))
      have K2 := hid (fun w' => signOf_any n w')
      clear hR
      cases f2 with
      | false =>
        have hE : Hid (R = none) := show _ = _ by rw [hR2.out]; rfl
        clear hR2 hc1
        generalize sgnV n = o at K2
        go_wp2_with fail
        refine (K1.out _).mono ?_
        rintro e w3 ⟨rfl, hw3⟩
        go_wp2_with fail
        refine (K2.out _).mono ?_
        rintro e w3 ⟨rfl, rfl⟩
        cases o with
        | none =>
          simp only [sgnR]
          go_wp2_with fail
          refine (giveUp_any _).mono ?_
          rintro e w3 ⟨rfl, rfl⟩
          exact ⟨rfl, by rw [hE.out]; exact ⟨rfl, hb.trans (hw3.mono hb.size)⟩⟩
        | some c =>
          simp only [sgnR]
          go_wp2_with fail
          refine (giveUp_any _).mono ?_
          rintro e w3 ⟨rfl, rfl⟩
          exact ⟨rfl, by rw [hE.out]; exact ⟨rfl, hb.trans (hw3.mono hb.size)⟩⟩
      | true =>
        have hj := cutL_join 59 r (by rw [hc1])
        rw [hc1] at hj
        simp only at hj
        have hjl := congrArg List.length hj
        simp only [List.length_append, List.length_cons] at hjl
        have HJ := hid hjl
        clear hj hc1 hjl
        cases hsg : sgnV n with
        | none =>
          rw [hsg] at hR2 K2
          have hE : Hid (R = none) := show _ = _ by rw [hR2.out]; rfl
          clear hR2 hsg
          simp only [sgnR] at K2
          go_wp2_with fail
          refine (K1.out _).mono ?_
          rintro e w3 ⟨rfl, hw3⟩
          go_wp2_with fail
          refine (K2.out _).mono ?_
          rintro e w3 ⟨rfl, rfl⟩
          go_wp2_with fail
          refine (giveUp_any _).mono ?_
          rintro e w3 ⟨rfl, rfl⟩
          exact ⟨rfl, by rw [hE.out]; exact ⟨rfl, hb.trans (hw3.mono hb.size)⟩⟩
        | some c =>
          rw [hsg] at hR2 K2
          simp only [sgnR] at K2
          obtain ⟨⟨a2, r2, f3⟩, hc2⟩ : ∃ x, cutL 38 b = x := ⟨_, rfl⟩
          have hl2 := cutL_sum 38 b
          rw [hc2] at hl2
          simp only at hl2
          have hR3 : Hid (R = (readW f3 r2).map ((acc ++ [c] ++ a2) ++ ·)) := show _ = _ by
            rw [hR2.out, if_pos rfl, Option.bind_some, read_cut hc2]
            show ((((readW f3 r2).map (a2 ++ ·))).map (c :: ·)).map (acc ++ ·) = _
            cases readW f3 r2 with
            | none => rfl
            | some z => simp
          have K3 := hid (fun w' => xcut_of hc2 w' (by omega))
          clear hR2 hsg hc2
          have HJ2 := HJ.out
          have hl3 : Hid (r2.length < r.length) := show _ < _ by omega
          have hl4 : Hid ((acc ++ [c] ++ a2).length + r2.length ≤ 1048576) := show _ ≤ _ by simp; omega
          have hl5 : acc.length + 1 ≤ 140737488355328 := by omega
          have hl6 : (acc ++ [c]).length + a2.length ≤ 140737488355328 := by simp; omega
          have HL6 := hid hl6
          clear HJ2 HJ hl6 hl1 hl2
          go_wp2_with fail
          refine (K1.out _).mono ?_
          rintro e w3 ⟨rfl, hw3⟩
          go_wp2_with fail
          refine (K2.out _).mono ?_
          rintro e w3 ⟨rfl, rfl⟩
          go_wp2_with fail
          refine (K3.out _).mono ?_
          rintro e w4 ⟨rfl, hw4⟩
          have hb4 := (hb.trans (hw3.mono hb.size)).trans (hw4.mono (Nat.le_trans hb.size hw3.size))
          have hown4 := (hown.below hw3).below hw4
          have hB4 : w.heap.size ≤ w4.heap.size := hb4.size
          clear hown hw3 hw4 hb K1 K2 K3
          go_wp2_with (first
            | (at_builtin; refine wp_appB1 _ rfl (.tmp 45) (.tmp 47) 53 rfl w.heap.size i0 Tryd.underlying53 hi hz0 hz1 hz2 _ acc c rfl (hown4.alloc _) ⟨_, 0, none⟩ 1 rfl (by exact one_new _ _ _) hl5 w (hb4.alloc hB4 _) (by simp; omega) ?_; intro v5 w5 hown5 hb5 hB5)
            | (at_builtin; refine wp_appBS _ rfl (.tmp 49) (.tmp 50) 53 9 rfl w.heap.size i0 Tryd.underlying53 Tryd.underlying9 hi hz0 hz1 hz2 _ (acc ++ [c]) a2 rfl hown5 rfl HL6.out w hb5 hB5 ?_; intro v6 w6 hown6 hb6 hB6))
          go_roundw
          case rel => exact ⟨a2, r2, acc ++ [c] ++ a2, f3, rfl, rfl, rfl, hl4.out, hR3, hown6, hb6, hB6⟩
          case measure => show (⟨r2.toArray⟩ : ByteArray).size < (⟨r.toArray⟩ : ByteArray).size; rw [size_list, size_list]; exact hl3.out
end Go.Proofs.YtnijlmkodgdhlaaDoor
