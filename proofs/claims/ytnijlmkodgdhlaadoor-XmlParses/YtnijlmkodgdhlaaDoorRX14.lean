/-
  The document's own layer 13: Parse.
-/
import Derived.Test.YtnijlmkodgdhlaaDoorRX13
import Derived.Test.YtnijlmkodgdhlaaDoorYV
import Derived.Test.YtnijlmkodgdhlaaDoorXEqB
namespace Go.Proofs.YtnijlmkodgdhlaaDoor
open Go.RowKit Sc
set_option linter.unusedVariables false
set_option maxRecDepth 20000
set_option linter.unusedSimpArgs false

def xmlK : List UInt8 := [60, 63, 120, 109, 108]
def tailP (o : Option (List Nd × List UInt8)) : List Nd × Int := match o with
  | none => ([], 130)
  | some (ns, r2) => if r2.dropWhile xblk = [] ∧ checkX ns = 0 then (ns, 0) else ([], 130)
theorem body_no {l : List UInt8} (h : isAt l 0 xmlK = false) : bodyX l = some (l.drop 0) := by
  unfold isAt at h
  rw [List.drop_zero] at h
  unfold bodyX
  rw [if_neg (show ¬ l.take 5 = [60, 63, 120, 109, 108] from of_decide_eq_false h), List.drop_zero]
theorem body_yes {l : List UInt8} {u : Nat} (h : isAt l 0 xmlK = true) (hu : u = runL (· != 63) l 5) : bodyX l = if isAt l u [63, 62] = true then some (l.drop (u + 2)) else none := by
  unfold isAt at h
  rw [List.drop_zero] at h
  unfold bodyX
  rw [if_pos (show l.take 5 = [60, 63, 120, 109, 108] from of_decide_eq_true h), ← run_drop, ← hu]
  unfold isAt
  by_cases h2 : (l.drop u).take 2 = [63, 62]
  · rw [if_pos h2, if_pos (show decide (List.take [(63 : UInt8), 62].length (l.drop u) = [63, 62]) = true from decide_eq_true h2), List.drop_drop]
  · rw [if_neg h2, if_neg (show ¬ decide (List.take [(63 : UInt8), 62].length (l.drop u) = [63, 62]) = true from fun h => h2 (of_decide_eq_true h))]
theorem parse_tail {l : List UInt8} {q : Nat} (h4 : ¬ 4096 < l.length) (h : bodyX l = some (l.drop q)) : parseX l = tailP (elemX (l.length + 1) 0 0 (l.drop (runL xblk l q))) := by
  unfold parseX
  rw [if_neg h4, h]
  simp only
  rw [← run_drop]
  unfold tailP
  generalize elemX (l.length + 1) 0 0 (l.drop (runL xblk l q)) = E
  cases E <;> rfl
theorem parse_bad {l : List UInt8} (h4 : ¬ 4096 < l.length) (h : bodyX l = none) : parseX l = ([], 130) := by
  unfold parseX
  rw [if_neg h4, h]
theorem isAt_len {l t : List UInt8} {k : Nat} (h : isAt l k t = true) (ht : t ≠ []) : k + t.length ≤ l.length := by
  apply Classical.byContradiction
  intro hh
  rw [isAt_long (by omega) (.inl ht)] at h
  cases h
theorem elem_sm {n : Nat} {s : List UInt8} {ns : List Nd} {r : List UInt8} (h : elemX n 0 0 s = some (ns, r)) (hs : s.length ≤ 4096) : ∀ x ∈ ns, SmNd 4096 x :=
  elemC_small 4096 _ 0 _ _ _ (by omega) (elem_XC _ _ _ _ _ _ h (s.length + 1) (Nat.lt_succ_self _))
theorem rupto63 (s : ByteArray) (w : World) (hs : s.size ≤ 1048576) (hk : 5 ≤ s.size) :
    Calls Tryd.prog 38 #[.string s, .int .i64 5, .string ⟨#[63]⟩] w fun e w' => e = .returned (.int .i64 (runL (· != 63) s.data.toList 5)) ∧ w' = w :=
  rupto_at s 5 #[63] (· != 63) 5 rfl (fun b => has_one 63 b) w (by omega) (by decide) hk
/-- What the tail of Parse has to know. -/
structure TailK (s : ByteArray) (q : Nat) (R : List Nd × Int) (w : World) : Prop where
  ov : ∀ w', Calls Tryd.prog 40 #[.string s, .int .i64 (q : Int)] w' fun e w'' => e = .returned (.int .i64 (runL xblk s.data.toList q)) ∧ w'' = w'
  le : runL xblk s.data.toList q ≤ s.size
  el : Calls Tryd.prog 39 #[.string s, .int .i64 (runL xblk s.data.toList q : Int), .int .i64 0, .slice none 0 0] w fun e w' => ElPost (elemX (s.size + 1) 0 0 (s.data.toList.drop (runL xblk s.data.toList q))) s [] w.heap.size (.slice none 0 0) w e w'
  no : elemX (s.size + 1) 0 0 (s.data.toList.drop (runL xblk s.data.toList q)) = none → R = ([], 130)
  ok : ∀ ns r, elemX (s.size + 1) 0 0 (s.data.toList.drop (runL xblk s.data.toList q)) = some (ns, r) → R = (if r.dropWhile xblk = [] ∧ checkX ns = 0 then (ns, 0) else ([], 130)) ∧ r.length ≤ s.size ∧ s.data.toList.drop (s.size - r.length) = r ∧ (∀ x ∈ ns, SmNd 4096 x) ∧ ns.length ≤ 200
theorem tailK_of (s : ByteArray) (q : Nat) (w : World) (h4 : s.size ≤ 4096) (hq : q ≤ s.size) (hb : bodyX s.data.toList = some (s.data.toList.drop q)) : TailK s q (parseX s.data.toList) w := by
  have hl := len_data s
  have hr := run_le (p := xblk) (l := s.data.toList) (k := q) (by omega)
  rw [hl] at hr
  have hp := parse_tail (l := s.data.toList) (q := q) (by omega) hb
  rw [hl] at hp
  rw [hp]
  refine ⟨fun w' => rover_at s q (q : Int) rfl w' (by omega) hq, hr.2, ?_, fun h => by rw [h]; rfl, fun ns r h => ?_⟩
  · exact (rboth s (by omega) (s.size + 1)).1 (runL xblk s.data.toList q) 0 (.slice none 0 0) [] w.heap.size w (OwnN.nil _ _) (Nat.le_refl _) hr.2 (by omega) (by simp) (by omega)
  · have h1 := (elem_suf _ _ _ _ _ _ h).1.trans (List.drop_suffix _ _)
    have h2 := h1.length_le
    rw [hl] at h2
    have h3 := suf_drop h1
    rw [hl] at h3
    exact ⟨by rw [h]; rfl, h2, h3.symm, elem_sm h (by rw [List.length_drop, hl]; omega), by have := elem_cap _ _ _ _ _ _ h; omega⟩

set_option maxHeartbeats 4000000 in
set_option maxRecDepth 100000 in
theorem rparse13_any (s : ByteArray) (w : World) (hs : s.size ≤ 140737488355328) :
    Calls Tryd.prog 18 #[.string s] w fun e w' => ParP (parseX s.data.toList) w e w' := by
  have hl := len_data s
  by_cases h4 : 4096 < s.size
  · have hP : parseX s.data.toList = ([], 2) := by unfold parseX; rw [if_pos (by omega)]
    rw [hP]
    have r4 : (4096 : Int) < (s.size : Int) := by omega
    clear hP
    go_enter Tryd.func18, Tryd.ntmps18
    go_wp2
    go_ret2
    exact ⟨.slice none 0 0, [], rfl, rfl, OwnN.nil _ _, Below.refl _ _⟩
  have r4 : ¬ (4096 : Int) < (s.size : Int) := by omega
  have KI := hid (fun w' => ris_at s 0 #[60, 63, 120, 109, 108] 0 rfl w' (by omega) (by decide) (by decide) (by omega))
  rw [show (#[60, 63, 120, 109, 108] : Array UInt8).toList = xmlK from rfl] at KI
  cases h5 : isAt s.data.toList 0 xmlK with
  | false =>
    rw [h5] at KI
    have TK := hid (tailK_of s 0 w (by omega) (by omega) (body_no h5))
    clear h5
    generalize parseX s.data.toList = R at TK ⊢
    go_enter Tryd.func18, Tryd.ntmps18
    go_wp2_with fail
    refine (KI.out _).mono ?_
    rintro e w' ⟨rfl, hw'⟩; rw [hw']; clear hw' w' KI
    have KO := hid (TK.out.ov)
    rw [show ((0 : Nat) : Int) = 0 from rfl] at KO
    have KE := hid (TK.out.el)
    have HNO := hid (TK.out.no)
    have HOK := hid (TK.out.ok)
    have hle := TK.out.le
    clear TK
    generalize runL xblk s.data.toList 0 = e0 at KO KE HNO HOK hle
    generalize elemX (s.size + 1) 0 0 (s.data.toList.drop e0) = E at KE HNO HOK
    go_wp2_with fail
    refine (KO.out _).mono ?_
    rintro e w' ⟨rfl, hw'⟩; rw [hw']; clear hw' w' KO
    go_wp2_with fail
    refine (KE.out).mono ?_
    cases E with
    | none =>
      rintro e w2 ⟨rfl, hf2⟩
      go_wp2
      go_ret2
      rw [HNO.out (by first | rfl | trivial)]
      exact ⟨.slice none 0 0, [], rfl, rfl, OwnN.nil _ _, hf2.to (Nat.le_refl _) (fun g hg => by cases hg)⟩
    | some x =>
      obtain ⟨ns, r⟩ := x
      rintro e w2 ⟨v2, cs2, rfl, hk2, hown2, hf2⟩
      rw [List.nil_append] at hown2
      have hb2 := hf2.to (Nat.le_refl _) (fun g hg => by cases hg)
      obtain ⟨hR, hrl, hdr, hsm, hc2⟩ := HOK.out ns r rfl
      obtain ⟨t2, ht2⟩ : ∃ t2, t2 = s.size - r.length := ⟨_, rfl⟩
      rw [← ht2] at hdr ⊢
      have htl : t2 ≤ s.size := by omega
      have KO2 := hid (fun w' => rover_at s t2 (t2 : Int) rfl w' (by omega) htl)
      have hr3 := run_le (p := xblk) (l := s.data.toList) (k := t2) (by omega)
      rw [hl] at hr3
      have hdw : r.dropWhile xblk = [] ↔ runL xblk s.data.toList t2 = s.size := by
        rw [← hdr, ← run_drop, drop_none (by omega), hl]
      have q9 : ¬ (t2 : Int) < 0 := by omega
      obtain ⟨va, vc, e5⟩ := hown2.form
      have hsmN : ∀ c ∈ cs2, SmallN 140737488355328 c.nd := fun c hm => (hsm c.nd (by rw [← hk2]; exact List.mem_map.2 ⟨c, hm, rfl⟩)).small (by decide)
      have KC := hid (fun w' (h' : Below w2.heap.size w2 w') (hz : cs2.length ≤ 140737488355328) => rcheck13_any v2 cs2 w' hz hsmN (hown2.ndsAt.below h'))
      rw [hk2] at KC
      have HR := hid hR
      have HO2 := hid hown2
      have HK2 := hid hk2
      generalize runL xblk s.data.toList t2 = e2 at KO2 hr3 hdw
      have HDW := hid hdw
      obtain ⟨n2, hn2⟩ : ∃ n2, n2 = cs2.length := ⟨_, rfl⟩
      rw [← hn2] at e5 KC
      have hz : n2 ≤ 140737488355328 := by rw [hn2, ← ndsL_len, hk2]; omega
      have hN2 := hid hn2
      subst e5
      clear HOK HNO KE hR hsm hsmN hown2 hk2 hdw hdr ht2 hn2 hf2
      by_cases he2 : e2 = s.size
      · have q8 : ¬ (e2 : Int) < (s.size : Int) := by omega
        have hd0 := HDW.out.2 he2
        have KC2 := hid (KC.out _ (Below.refl _ _) hz)
        clear KC he2
        go_wp2_with fail
        refine (KO2.out _).mono ?_
        rintro e w' ⟨rfl, hw'⟩; rw [hw']; clear hw' w'
        go_wp2_with fail
        refine (KC2.out).mono ?_
        rintro e w3 ⟨rfl, hw3⟩
        by_cases hck : checkX ns = 0
        · rw [hck]
          go_wp2
          go_ret2
          rw [HR.out, if_pos ⟨hd0, hck⟩]
          exact ⟨_, cs2, rfl, HK2.out, HO2.out.below hw3, hb2.trans (hw3.mono hb2.size)⟩
        · have qc : (checkX ns != 0) = true := by simpa using hck
          have hRn : Hid (R = ([], 130)) := show _ = _ by rw [HR.out, if_neg (fun h => hck h.2)]
          clear HR hck
          generalize checkX ns = ck at qc ⊢
          go_wp2
          go_ret2
          rw [hRn.out]
          exact ⟨.slice none 0 0, [], rfl, rfl, OwnN.nil _ _, hb2.trans (hw3.mono hb2.size)⟩
      · have q8 : (e2 : Int) < (s.size : Int) := by omega
        have hRn : Hid (R = ([], 130)) := show _ = _ by rw [HR.out, if_neg (fun h => he2 (HDW.out.1 h.1))]
        clear HR KC HDW he2
        go_wp2_with fail
        refine (KO2.out _).mono ?_
        rintro e w' ⟨rfl, hw'⟩; rw [hw']; clear hw' w'
        go_wp2
        go_ret2
        rw [hRn.out]
        exact ⟨.slice none 0 0, [], rfl, rfl, OwnN.nil _ _, hb2⟩
  | true =>
    rw [h5] at KI
    have h5l := isAt_len h5 (by decide)
    rw [hl] at h5l
    have h5m : 5 ≤ s.size := by have : xmlK.length = 5 := rfl; omega
    have KU := hid (fun w' => rupto63 s w' (by omega) h5m)
    have hul := run_le (p := (· != 63)) (l := s.data.toList) (k := 5) (by omega)
    rw [hl] at hul
    have hby := body_yes (u := runL (· != 63) s.data.toList 5) h5 rfl
    generalize runL (· != 63) s.data.toList 5 = u at KU hul hby
    have KI2 := hid (fun w' => ris_at s u #[63, 62] (u : Int) rfl w' (by omega) (by decide) (by decide) (by omega))
    rw [show (#[63, 62] : Array UInt8).toList = [63, 62] from rfl] at KI2
    cases h6 : isAt s.data.toList u [63, 62] with
    | false =>
      rw [h6] at KI2
      have hP : Hid (parseX s.data.toList = ([], 130)) := parse_bad (by omega) (by rw [hby, if_neg (by rw [h6]; simp)])
      generalize parseX s.data.toList = R at hP ⊢
      clear h5 h6 hby h5l
      go_enter Tryd.func18, Tryd.ntmps18
      go_wp2_with fail
      refine (KI.out _).mono ?_
      rintro e w' ⟨rfl, hw'⟩; rw [hw']; clear hw' w'
      go_wp2_with fail
      refine (KU.out _).mono ?_
      rintro e w' ⟨rfl, hw'⟩; rw [hw']; clear hw' w'
      go_wp2_with fail
      refine (KI2.out _).mono ?_
      rintro e w' ⟨rfl, hw'⟩; rw [hw']; clear hw' w'
      go_wp2
      go_ret2
      rw [hP.out]
      exact ⟨.slice none 0 0, [], rfl, rfl, OwnN.nil _ _, Below.refl _ _⟩
    | true =>
      rw [h6] at KI2
      have hu2 := isAt_len h6 (by decide)
      rw [hl] at hu2
      have hu3 : u + 2 ≤ s.size := hu2
      rw [if_pos h6] at hby
      have TK := hid (tailK_of s (u + 2) w (by omega) hu3 hby)
      clear h5 h6 hby h5l hu2
      generalize parseX s.data.toList = R at TK ⊢
      have hwu : IntKind.i64.wrap ((u : Int) + 2) = (u : Int) + 2 := by rw [IntKind.wrap_i64]; omega
      go_enter Tryd.func18, Tryd.ntmps18
      go_wp2_with fail
      refine (KI.out _).mono ?_
      rintro e w' ⟨rfl, hw'⟩; rw [hw']; clear hw' w' KI
      go_wp2_with fail
      refine (KU.out _).mono ?_
      rintro e w' ⟨rfl, hw'⟩; rw [hw']; clear hw' w' KU
      go_wp2_with fail
      refine (KI2.out _).mono ?_
      rintro e w' ⟨rfl, hw'⟩; rw [hw']; clear hw' w' KI2
      have KO := hid (TK.out.ov)
      rw [show ((u + 2 : Nat) : Int) = (u : Int) + 2 from by omega] at KO
      have KE := hid (TK.out.el)
      have HNO := hid (TK.out.no)
      have HOK := hid (TK.out.ok)
      have hle := TK.out.le
      clear TK
      generalize runL xblk s.data.toList (u + 2) = e0 at KO KE HNO HOK hle
      generalize elemX (s.size + 1) 0 0 (s.data.toList.drop e0) = E at KE HNO HOK
      go_wp2_with fail
      refine (KO.out _).mono ?_
      rintro e w' ⟨rfl, hw'⟩; rw [hw']; clear hw' w' KO
      go_wp2_with fail
      refine (KE.out).mono ?_
      cases E with
      | none =>
        rintro e w2 ⟨rfl, hf2⟩
        go_wp2
        go_ret2
        rw [HNO.out (by first | rfl | trivial)]
        exact ⟨.slice none 0 0, [], rfl, rfl, OwnN.nil _ _, hf2.to (Nat.le_refl _) (fun g hg => by cases hg)⟩
      | some x =>
        obtain ⟨ns, r⟩ := x
        rintro e w2 ⟨v2, cs2, rfl, hk2, hown2, hf2⟩
        rw [List.nil_append] at hown2
        have hb2 := hf2.to (Nat.le_refl _) (fun g hg => by cases hg)
        obtain ⟨hR, hrl, hdr, hsm, hc2⟩ := HOK.out ns r rfl
        obtain ⟨t2, ht2⟩ : ∃ t2, t2 = s.size - r.length := ⟨_, rfl⟩
        rw [← ht2] at hdr ⊢
        have htl : t2 ≤ s.size := by omega
        have KO2 := hid (fun w' => rover_at s t2 (t2 : Int) rfl w' (by omega) htl)
        have hr3 := run_le (p := xblk) (l := s.data.toList) (k := t2) (by omega)
        rw [hl] at hr3
        have hdw : r.dropWhile xblk = [] ↔ runL xblk s.data.toList t2 = s.size := by
          rw [← hdr, ← run_drop, drop_none (by omega), hl]
        have q9 : ¬ (t2 : Int) < 0 := by omega
        obtain ⟨va, vc, e5⟩ := hown2.form
        have hsmN : ∀ c ∈ cs2, SmallN 140737488355328 c.nd := fun c hm => (hsm c.nd (by rw [← hk2]; exact List.mem_map.2 ⟨c, hm, rfl⟩)).small (by decide)
        have KC := hid (fun w' (h' : Below w2.heap.size w2 w') (hz : cs2.length ≤ 140737488355328) => rcheck13_any v2 cs2 w' hz hsmN (hown2.ndsAt.below h'))
        rw [hk2] at KC
        have HR := hid hR
        have HO2 := hid hown2
        have HK2 := hid hk2
        generalize runL xblk s.data.toList t2 = e2 at KO2 hr3 hdw
        have HDW := hid hdw
        obtain ⟨n2, hn2⟩ : ∃ n2, n2 = cs2.length := ⟨_, rfl⟩
        rw [← hn2] at e5 KC
        have hz : n2 ≤ 140737488355328 := by rw [hn2, ← ndsL_len, hk2]; omega
        have hN2 := hid hn2
        subst e5
        clear HOK HNO KE hR hsm hsmN hown2 hk2 hdw hdr ht2 hn2 hf2
        by_cases he2 : e2 = s.size
        · have q8 : ¬ (e2 : Int) < (s.size : Int) := by omega
          have hd0 := HDW.out.2 he2
          have KC2 := hid (KC.out _ (Below.refl _ _) hz)
          clear KC he2
          go_wp2_with fail
          refine (KO2.out _).mono ?_
          rintro e w' ⟨rfl, hw'⟩; rw [hw']; clear hw' w'
          go_wp2_with fail
          refine (KC2.out).mono ?_
          rintro e w3 ⟨rfl, hw3⟩
          by_cases hck : checkX ns = 0
          · rw [hck]
            go_wp2
            go_ret2
            rw [HR.out, if_pos ⟨hd0, hck⟩]
            exact ⟨_, cs2, rfl, HK2.out, HO2.out.below hw3, hb2.trans (hw3.mono hb2.size)⟩
          · have qc : (checkX ns != 0) = true := by simpa using hck
            have hRn : Hid (R = ([], 130)) := show _ = _ by rw [HR.out, if_neg (fun h => hck h.2)]
            clear HR hck
            generalize checkX ns = ck at qc ⊢
            go_wp2
            go_ret2
            rw [hRn.out]
            exact ⟨.slice none 0 0, [], rfl, rfl, OwnN.nil _ _, hb2.trans (hw3.mono hb2.size)⟩
        · have q8 : (e2 : Int) < (s.size : Int) := by omega
          have hRn : Hid (R = ([], 130)) := show _ = _ by rw [HR.out, if_neg (fun h => he2 (HDW.out.1 h.1))]
          clear HR KC HDW he2
          go_wp2_with fail
          refine (KO2.out _).mono ?_
          rintro e w' ⟨rfl, hw'⟩; rw [hw']; clear hw' w'
          go_wp2
          go_ret2
          rw [hRn.out]
          exact ⟨.slice none 0 0, [], rfl, rfl, OwnN.nil _ _, hb2⟩
end Go.Proofs.YtnijlmkodgdhlaaDoor
