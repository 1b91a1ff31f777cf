/-
  Hops: plain facts, in the shape in which the code goes.
-/
import Derived.Test.YtpcgomfiihhpcaaDoorOpenHop
import Derived.Test.YtpcgomfiihhpcaaDoorBAny
import Derived.Test.YtpcgomfiihhpcaaDoorFN
import Derived.Test.YtpcgomfiihhpcaaDoorAText
namespace Go.Proofs.YtpcgomfiihhpcaaDoor
open Go.RowKit Sc
set_option linter.unusedVariables false
set_option maxRecDepth 20000
set_option linter.unusedSimpArgs false

-- the word ahead of the first blank
theorem wordN_cons (b : UInt8) (l : List UInt8) : wordN (b :: l) = if blk b = true then 0 else wordN l + 1 := by
  unfold wordN
  rw [List.takeWhile_cons]
  cases blk b <;> simp
theorem wordN_le (l : List UInt8) : wordN l ≤ l.length := by
  unfold wordN
  exact (List.takeWhile_sublist _).length_le
theorem wordN_at : ∀ (l : List UInt8), wordN l < l.length → ∃ b r, l.drop (wordN l) = b :: r ∧ blk b = true ∧ l.drop (wordN l + 1) = r
  | [], h => by simp at h
  | b :: l, h => by
    rw [wordN_cons] at h ⊢
    split
    · rename_i hb
      exact ⟨b, l, rfl, hb, rfl⟩
    · rename_i hb
      rw [if_neg hb] at h
      obtain ⟨c, r, h1, h2, h3⟩ := wordN_at l (by simpa using h)
      exact ⟨c, r, by simpa using h1, h2, by simpa using h3⟩
theorem index_word : ∀ l : List UInt8, Lib.indexAny l blkL = if wordN l = l.length then -1 else (wordN l : Int)
  | [] => rfl
  | b :: l => by
    have ih := index_word l
    have hle := wordN_le l
    have hb := blkL_is b
    rw [Lib.indexAny, hb, wordN_cons, ih]
    cases hk : blk b with
    | true => simp
    | false =>
      simp only [Bool.false_eq_true, if_false, List.length_cons]
      by_cases he : wordN l = l.length
      · have he2 : wordN l + 1 = l.length + 1 := by omega
        simp [he, he2]
      · have he2 : ¬ wordN l + 1 = l.length + 1 := by omega
        have h3 : ((wordN l : Int) == -1) = false := by simp
        simp only [he, he2, if_false, h3]
        simp
theorem wordN_pos {l : List UInt8} {k : Nat} (hk : k < l.length) (hp : k ≤ wordN l) (hb : blk l[k] = true) : wordN l = k := by
  induction l generalizing k with
  | nil => simp at hk
  | cons b l ih =>
    rw [wordN_cons] at hp ⊢
    cases k with
    | zero => rw [if_pos (by simpa using hb)]
    | succ k =>
      split
      · rename_i h; rw [if_pos h] at hp; omega
      · rename_i h
        rw [if_neg h] at hp
        rw [ih (by simpa using hk) (by omega) (by simpa using hb)]
theorem wordN_more {l : List UInt8} {k : Nat} (hk : k < l.length) (hp : k ≤ wordN l) (hb : blk l[k] = false) : k + 1 ≤ wordN l := by
  induction l generalizing k with
  | nil => simp at hk
  | cons b l ih =>
    rw [wordN_cons] at hp ⊢
    cases k with
    | zero => rw [if_neg (by simpa using hb)]; omega
    | succ k =>
      split
      · rename_i h; rw [if_pos h] at hp; omega
      · rename_i h
        rw [if_neg h] at hp
        have := ih (k := k) (by simpa using hk) (by omega) (by simpa using hb)
        omega
theorem blk_two : ∀ b : UInt8, blk b = true → b = 32 ∨ b = 9 := by apply byte_all; decide +kernel
theorem trimL_blk {b : UInt8} (h : blk b = true) (l : List UInt8) : trimL (b :: l) = trimL l := by unfold trimL; rw [List.dropWhile_cons, h]; rfl
theorem partsG_cur (sep : Int) (c : List UInt8) : ∀ (l : List UInt8) (p : Pl) (cur : List UInt8), ∃ x xs, partsG sep p cur l = x :: xs ∧ partsG sep p (c ++ cur) l = (c ++ x) :: xs
  | [], p, cur => ⟨cur, [], rfl, rfl⟩
  | b :: r, p, cur => by
    rw [partsG, partsG]
    split
    · exact ⟨cur, _, rfl, rfl⟩
    · obtain ⟨x, xs, h1, h2⟩ := partsG_cur sep c r (pst p b.toNat).1 (cur ++ [b])
      exact ⟨x, xs, h1, by rw [List.append_assoc]; exact h2⟩
theorem parts_blk {b : UInt8} (h : blk b = true) (r : List UInt8) : ∃ x xs, partsV 59 r = x :: xs ∧ partsV 59 (b :: r) = (b :: x) :: xs := by
  obtain ⟨x, xs, h1, h2⟩ := partsG_cur 59 [b] r pl0 []
  refine ⟨x, xs, h1, ?_⟩
  unfold partsV
  rw [partsG]
  have hb : (pst pl0 (b.toNat : Int)).1 = pl0 ∧ ¬ ((b.toNat : Int) = 59) := by
    rcases blk_two b h with rfl | rfl
    · exact ⟨by simp [pst, pl0], by decide⟩
    · exact ⟨by simp [pst, pl0], by decide⟩
  rw [if_neg (fun k => hb.2 k.2), hb.1]
  exact h2
theorem restH_of {q p0 : List UInt8} {ps : List (List UInt8)} (h : partsV 59 q = p0 :: ps) : restH q = if (whereV (trimL p0)).2.2 ≠ 0 then (noH, (whereV (trimL p0)).2.2) else if (fieldsV ps).2 ≠ 0 then (noH, (fieldsV ps).2) else (⟨(whereV (trimL p0)).1, (whereV (trimL p0)).2.1, (fieldsV ps).1⟩, 0) := by
  unfold restH
  rw [h]
  rfl
theorem restH_blk {b : UInt8} (h : blk b = true) (r : List UInt8) : restH (b :: r) = restH r := by
  obtain ⟨x, xs, h1, h2⟩ := parts_blk h r
  rw [restH_of h1, restH_of h2, trimL_blk h]
/-- What stands behind the protocol and its blank. -/
def behV (t : List UInt8) : List UInt8 × Bool := if wordN t = t.length ∨ sameB (t.take (wordN t)) protoK = false then ([], false) else (t.drop (wordN t + 1), true)
theorem behV_none {t : List UInt8} (h : wordN t = t.length) : behV t = ([], false) := by rw [behV, if_pos (Or.inl h)]
theorem behV_other {t : List UInt8} (h : sameB (t.take (wordN t)) protoK = false) : behV t = ([], false) := by rw [behV, if_pos (Or.inr h)]
theorem behV_yes {t : List UInt8} (h : wordN t ≠ t.length) (h2 : sameB (t.take (wordN t)) protoK = true) : behV t = (t.drop (wordN t + 1), true) := by
  rw [behV, if_neg]; rintro (k | k)
  · exact h k
  · rw [h2] at k; cases k
theorem behV_len (t : List UInt8) : (behV t).1.length ≤ t.length := by
  unfold behV
  split
  · simp
  · simp
theorem parseH_beh (s : List UInt8) : parseH s = if (behV (trimL s)).2 = false then (noH, 70) else restH (behV (trimL s)).1 := by
  unfold parseH behV
  by_cases h : wordN (trimL s) = (trimL s).length ∨ sameB ((trimL s).take (wordN (trimL s))) protoK = false
  · rw [if_pos h, if_pos h]; rfl
  · rw [if_neg h, if_neg h]
    have hlt : wordN (trimL s) < (trimL s).length := by
      have := wordN_le (trimL s)
      have h2 : ¬ wordN (trimL s) = (trimL s).length := fun k => h (Or.inl k)
      omega
    obtain ⟨b, r, h1, h2, h3⟩ := wordN_at _ hlt
    rw [h1, restH_blk h2, h3]; rfl
theorem parseH_none {s : List UInt8} {v : Hop} {n : Int} (h : parseH s = (v, n)) (hn : n ≠ 0) : v = noH := by
  unfold parseH at h
  split at h
  · exact (Prod.mk.inj h).1.symm
  · unfold restH at h
    split at h
    · exact (Prod.mk.inj h).1.symm
    · split at h
      · exact (Prod.mk.inj h).1.symm
      · exact absurd (Prod.mk.inj h).2.symm hn

-- who, and which branch
def branchK : List UInt8 := [98, 114, 97, 110, 99, 104]
def brOf (b : List UInt8) : List UInt8 × Bool := if b.length ≤ 7 ∨ b.take 7 ≠ cookieK then ([], false) else (b, true)
def brV (ps : List Par) : List UInt8 × Bool := brOf (valV ps branchK).1
theorem prefix_take (b : List UInt8) : List.isPrefixOf cookieK b = decide (b.take 7 = cookieK) := by
  rw [Bool.eq_iff_iff, List.isPrefixOf_iff_prefix, List.prefix_iff_eq_take, decide_eq_true_iff]
  exact eq_comm
theorem br_seven {b : List UInt8} (h : b.length = 7) : brOf b = ([], false) := by rw [brOf, if_pos (Or.inl (by omega))]
theorem br_short {b : List UInt8} (h : b.length ≤ 7) : brOf b = ([], false) := by rw [brOf, if_pos (Or.inl h)]
theorem br_not {b : List UInt8} (h : b.take 7 ≠ cookieK) : brOf b = ([], false) := by rw [brOf, if_pos (Or.inr h)]
theorem br_no {b : List UInt8} (h : List.isPrefixOf cookieK b = false) : brOf b = ([], false) := by
  rw [prefix_take] at h
  exact br_not (of_decide_eq_false h)
theorem br_yes {b : List UInt8} (h : b.length ≠ 7) (h2 : List.isPrefixOf cookieK b = true) : brOf b = (b, true) := by
  rw [prefix_take] at h2
  have h3 := of_decide_eq_true h2
  have hl := congrArg List.length h3
  simp [cookieK] at hl
  rw [brOf, if_neg]
  rintro (k | k)
  · omega
  · exact k h3
theorem br_good {b : List UInt8} (h : ¬ b.length ≤ 7) (h2 : b.take 7 = cookieK) : brOf b = (b, true) := by
  rw [brOf, if_neg]
  rintro (k | k)
  · exact h k
  · exact k h2
/-- The digits of any number: none below nought. -/
def digI (n : Int) : List UInt8 := if n < 0 then [] else digL n.toNat
theorem digI_len {n : Int} (h : n ≤ 9223372036854775807) : (digI n).length ≤ 19 := by
  unfold digI
  split
  · simp
  · exact digL_len19 (by omega)
def whoH (h : Hop) : List UInt8 := h.host ++ [58] ++ digI (if h.port = 0 then 5060 else h.port)

theorem textH_small {v : Hop} (h : checkH v = 0) : (textH v).length ≤ 4000 := by
  obtain ⟨k1, k2, k3, k4, k5⟩ := checkH_ok h
  have h1 := hostB_ok k1
  have h2 := parsA_small v.params [] k5
  have h3 := digL_len19 (n := v.port.toNat) (by omega)
  unfold textH
  simp only [List.length_append, protoK, List.length_cons, List.length_nil]
  have : (portT v.port).length ≤ 20 := by unfold portT; split <;> simp; omega
  omega
theorem may_small : ∀ (ps b : List Par), mayGo b ps = true → ∀ p ∈ ps, p.name.length ≤ 140737488355328 ∧ p.value.length ≤ 140737488355328
  | [], b, h, p, hp => by simp at hp
  | q :: ps, b, h, p, hp => by
    rw [mayGo, Bool.and_eq_true] at h
    rcases List.mem_cons.1 hp with rfl | hp
    · obtain ⟨m1, _, m3, _, _⟩ := may_facts h.1
      obtain ⟨_, t2, _⟩ := tok_facts m1
      omega
    · exact may_small ps _ h.2 p hp
theorem wf_port {n : Int} (h0 : 0 ≤ n) (h1 : n ≤ 65535) : (Lit.int .i64 n).wf = true := by
  simp [Lit.wf, IntKind.min, IntKind.max, IntKind.signed, IntKind.bits]
  omega
theorem smallV_ok {v : Hop} (h : checkH v = 0) : SmallV 140737488355328 v := by
  obtain ⟨k1, k2, k3, k4, k5⟩ := checkH_ok h
  have h1 := hostB_ok k1
  exact ⟨by omega, ⟨by omega, may_small _ _ k5⟩, wf_port k2 k3⟩
theorem smallV_no : SmallV 140737488355328 noH := ⟨by decide, ⟨by decide, by intro p hp; simp [noH] at hp⟩, wf_port (by decide) (by decide)⟩
theorem parseH_small {s : List UInt8} : SmallV 140737488355328 (parseH s).1 := by
  cases h : parseH s with
  | mk v n =>
    by_cases hn : n = 0
    · subst hn; exact smallV_ok (parseH_checked h)
    · rw [parseH_none h hn]; exact smallV_no
theorem checkH_1 {v : Hop} (h : hostB v.host = false) : checkH v = 32 := by rw [checkH, if_pos h]
theorem checkH_2 {v : Hop} (h : hostB v.host = true) (h2 : v.port < 0 ∨ 65535 < v.port) : checkH v = 33 := by rw [checkH, if_neg (by simp [h]), if_pos h2]
theorem checkH_3 {v : Hop} (h : hostB v.host = true) (h2 : ¬ v.port < 0) (h3 : ¬ 65535 < v.port) : checkH v = (textV v.params).2 := by rw [checkH, if_neg (by simp [h]), if_neg (by omega)]

-- several
def restQ (vals : List (List UInt8)) (i : Nat) : List (List UInt8) := (vals.drop i).flatMap (partsV 44)
theorem hop_next {vals : List (List UInt8)} {i : Nat} (hi : i < vals.length) : restQ vals i = partsV 44 vals[i] ++ restQ vals (i + 1) := by
  unfold restQ
  rw [List.drop_eq_getElem_cons hi, List.flatMap_cons]
theorem hop_over {vals : List (List UInt8)} {i : Nat} (hi : vals.length ≤ i) : restQ vals i = [] := by
  unfold restQ
  rw [List.drop_of_length_le hi]; rfl
theorem hop_on {F : List Hop × Int} {qs rest : List (List UInt8)} {out : List Hop} {k : Nat} {v : Hop} (hk : k < qs.length) (h : F = hopsG out (qs.drop k ++ rest)) (hp : parseH qs[k] = (v, 0)) (hl : out.length < 16) : F = hopsG (out ++ [v]) (qs.drop (k + 1) ++ rest) := by
  rw [h, List.drop_eq_getElem_cons hk, List.cons_append, hopsG, hp]
  simp only [ne_eq, not_true, if_false]
  rw [if_neg (by omega)]
theorem hop_full {F : List Hop × Int} {qs rest : List (List UInt8)} {out : List Hop} {k : Nat} {v : Hop} (hk : k < qs.length) (h : F = hopsG out (qs.drop k ++ rest)) (hp : parseH qs[k] = (v, 0)) (hl : 16 ≤ out.length) : F = ([], 4) := by
  rw [h, List.drop_eq_getElem_cons hk, List.cons_append, hopsG, hp]
  simp only [ne_eq, not_true, if_false]
  rw [if_pos hl]
theorem hop_bad {F : List Hop × Int} {qs rest : List (List UInt8)} {out : List Hop} {k : Nat} {v : Hop} {n : Int} (hk : k < qs.length) (h : F = hopsG out (qs.drop k ++ rest)) (hp : parseH qs[k] = (v, n)) (hn : n ≠ 0) : F = ([], n) := by
  rw [h, List.drop_eq_getElem_cons hk, List.cons_append, hopsG, hp]; simp [hn]
theorem hop_done {F : List Hop × Int} {qs rest : List (List UInt8)} {out : List Hop} {k : Nat} (hk : qs.length ≤ k) (h : F = hopsG out (qs.drop k ++ rest)) : F = hopsG out rest := by
  rw [h, List.drop_of_length_le hk, List.nil_append]
theorem hopsV_is (vals : List (List UInt8)) : hopsV vals = if (hopsG [] (restQ vals 0)).2 ≠ 0 then ([], (hopsG [] (restQ vals 0)).2) else if (hopsG [] (restQ vals 0)).1 = [] then ([], 100) else ((hopsG [] (restQ vals 0)).1, 0) := rfl

end Go.Proofs.YtpcgomfiihhpcaaDoor
