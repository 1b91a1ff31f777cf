/-
  Small headers, read and written: plain functions; there and back.
-/
import Derived.Test.YtjbfdbccidhdfaaDoorFK
import Derived.Test.YtjbfdbccidhdfaaDoorFI
namespace Go.Proofs.YtjbfdbccidhdfaaDoor
open Go.RowKit Sc
set_option linter.unusedVariables false
set_option maxRecDepth 20000
set_option linter.unusedSimpArgs false

def maxS : Nat := 2147483647
def seqV (s : List UInt8) : Int × List UInt8 × Int :=
  if (numV maxS ((trimL s).take (wordN (trimL s)))).2 ≠ 0 ∨ tokenB (trimL ((trimL s).drop (wordN (trimL s)))) = false then (0, [], 80)
  else ((numV maxS ((trimL s).take (wordN (trimL s)))).1, trimL ((trimL s).drop (wordN (trimL s))), 0)
def cseqV (n : Int) (m : List UInt8) : List UInt8 × Int := if n < 0 ∨ (maxS : Int) < n ∨ tokenB m = false then ([], 80) else (digL n.toNat ++ [32] ++ m, 0)
def callB (s : List UInt8) : Bool := s.all (fun b => decide (33 ≤ b.toNat ∧ b.toNat ≤ 126)) && decide (1 ≤ s.length ∧ s.length ≤ 128)
def timeV (s : List UInt8) : Int × Int := if (numV maxS (trimL s)).2 = 9 then (maxS, 0) else numV maxS (trimL s)

structure Ev where
  name : List UInt8
  params : List Par
deriving DecidableEq
def noE : Ev := ⟨[], []⟩
def eventV (s : List UInt8) : Ev × Int :=
  if tokenB (trimL ((partsV 59 s).headD [])) = false ∨ (fieldsV (partsV 59 s).tail).2 ≠ 0 then (noE, 81) else (⟨trimL ((partsV 59 s).headD []), (fieldsV (partsV 59 s).tail).1⟩, 0)
def evT (v : Ev) : List UInt8 := v.name ++ parsA v.params
def evB (v : Ev) : Bool := tokenB v.name && (decide (v.params.length ≤ 16) && mayGo [] v.params)
def evPrint (v : Ev) : List UInt8 × Int := if evB v = true then (evT v, 0) else ([], 81)
def idK : List UInt8 := [105, 100]
def evIs (a b : Ev) : Bool := a.name == b.name && ((findV a.params idK).isSome == (findV b.params idK).isSome && (((findV a.params idK).map (·.value)).getD [] == ((findV b.params idK).map (·.value)).getD []))

structure Stt where
  name : List UInt8
  expires : Int
  reason : List UInt8
deriving DecidableEq
def noS : Stt := ⟨[], 0, []⟩
def reasonK : List UInt8 := [114, 101, 97, 115, 111, 110]
def expiresK : List UInt8 := [101, 120, 112, 105, 114, 101, 115]
def valOf (ps : List Par) (nm : List UInt8) : List UInt8 := ((findV ps nm).map (·.value)).getD []
def stateV (s : List UInt8) : Stt × Int :=
  if (eventV s).2 ≠ 0 then (noS, 82)
  else if valOf (eventV s).1.params reasonK ≠ [] ∧ tokenB (valOf (eventV s).1.params reasonK) = false then (noS, 82)
  else match findV (eventV s).1.params expiresK with
    | none => (⟨lowL (eventV s).1.name, -1, valOf (eventV s).1.params reasonK⟩, 0)
    | some p => if (timeV p.value).2 ≠ 0 then (noS, 82) else (⟨lowL (eventV s).1.name, (timeV p.value).1, valOf (eventV s).1.params reasonK⟩, 0)
def sttB (v : Stt) : Bool := tokenB v.name && (lowL v.name == v.name && (decide (-1 ≤ v.expires ∧ v.expires ≤ maxS) && (v.reason.isEmpty || tokenB v.reason)))
/-- A state's parameters. -/
def sttP (v : Stt) : List Par := (if v.reason = [] then [] else [⟨reasonK, v.reason, true⟩]) ++ (if v.expires = -1 then [] else [⟨expiresK, digL v.expires.toNat, true⟩])
def sttT (v : Stt) : List UInt8 := v.name ++ (if v.reason = [] then [] else [59] ++ reasonK ++ [61] ++ v.reason) ++ (if v.expires = -1 then [] else [59] ++ expiresK ++ [61] ++ digL v.expires.toNat)
def sttShow (v : Stt) : List UInt8 × Int := if sttB v = true then (sttT v, 0) else ([], 82)

-- numbers with a method
theorem word_of {a r : List UInt8} (h : ∀ b ∈ a, blk b = false) : wordN (a ++ 32 :: r) = a.length := by
  unfold wordN
  rw [List.takeWhile_append_of_pos (fun b hb => by rw [h b hb]; rfl), List.takeWhile_cons, blk32]; simp
theorem seq_back {n : Int} {m t : List UInt8} (h : cseqV n m = (t, 0)) : seqV t = (n, m, 0) := by
  unfold cseqV at h
  split at h
  · simp at h
  · rename_i hc
    simp only [not_or, Int.not_lt, Bool.not_eq_false] at hc
    simp only [Prod.mk.injEq, and_true] at h
    subst h
    obtain ⟨h1, h2, h3⟩ := hc
    obtain ⟨k, rfl⟩ := Int.eq_ofNat_of_zero_le h1
    have hd : ∀ b ∈ digL k, blk b = false := fun b hb => (dig_facts b (dig_mem hb)).2.2
    obtain ⟨t1, _, t3⟩ := tok_facts h3
    have hm : ∀ b ∈ m, blk b = false := fun b hb => (tokc_facts b (t3 b hb)).2.2.2.1
    have e : digL (k : Int).toNat ++ [32] ++ m = digL k ++ 32 :: m := by simp
    have ht : trimL (digL k ++ 32 :: m) = digL k ++ 32 :: m := by
      apply trimL_id
      · intro b hb
        cases hq : digL k with
        | nil => exact absurd hq (digits_ne k)
        | cons x r => rw [hq] at hb; simp at hb; subst hb; exact hd x (by rw [hq]; simp)
      · intro b hb
        rw [show digL k ++ 32 :: m = (digL k ++ [32]) ++ m by simp] at hb
        exact hm b (List.mem_of_mem_getLast? (last_app t1 hb))
    unfold seqV
    rw [e, ht, word_of hd]
    have e1 : (digL k ++ 32 :: m).take (digL k).length = digL k := by simp
    have e2 : (digL k ++ 32 :: m).drop (digL k).length = 32 :: m := by simp
    rw [e1, e2, trimL_cons, trimL_all hm, dig_num (by unfold maxS at h2 ⊢; omega), if_neg (by simp [h3])]

-- events
theorem ev_facts {v : Ev} (h : evB v = true) : tokenB v.name = true ∧ v.params.length ≤ 16 ∧ mayGo [] v.params = true := by
  simp only [evB, Bool.and_eq_true, decide_eq_true_eq] at h; exact h
theorem event_back {v : Ev} (h : evB v = true) : eventV (evT v) = (v, 0) := by
  obtain ⟨h1, h2, h3⟩ := ev_facts h
  obtain ⟨t1, _, t3⟩ := tok_facts h1
  have hw : ∀ b ∈ v.name, wch b = true := fun b hb => tok_wch (t3 b hb)
  have cn : Clo 59 v.name := clo_plain fun b hb => by
    obtain ⟨_, n1, n2, n3, n4, _⟩ := wch_facts b (hw b hb)
    exact ⟨n1, n2, n3, fun e => n4 (by apply UInt8.toNat_inj.1; show b.toNat = 59; omega)⟩
  have e1 : partsV 59 (evT v) = v.name :: v.params.map parT := by
    unfold partsV evT
    rw [cn [], List.nil_append, parts_pars v.params [] _ h3]
  have e2 : fieldsV (v.params.map parT) = (v.params, 0) := by
    unfold fieldsV
    rw [if_neg (by simp; omega), fields_back v.params [] h3]; simp
  unfold eventV
  rw [e1]
  simp only [List.headD_cons, List.tail_cons, e2]
  rw [trimL_all fun b hb => (wch_facts b (hw b hb)).1, if_neg (by simp [h1])]
theorem event_checked {s : List UInt8} {v : Ev} (h : eventV s = (v, 0)) : evB v = true := by
  unfold eventV at h
  split at h
  · simp at h
  · rename_i hc
    simp only [not_or, Bool.not_eq_false, ne_eq, Decidable.not_not] at hc
    simp only [Prod.mk.injEq, and_true] at h
    subst h
    obtain ⟨f1, f2⟩ := fieldsV_may hc.2
    simp only [evB, hc.1, f2, Bool.true_and, Bool.and_true, decide_eq_true_eq]; exact f1

-- states
theorem tok_word {l : List UInt8} (h : tokenB l = true) : wordB l = true := by simp [wordB, h]
theorem tok_bar {l : List UInt8} (h : tokenB l = true) : hasBar l = false := by
  obtain ⟨_, _, h3⟩ := tok_facts h
  have hb : ∀ b : UInt8, tokc b = true → barB b.toNat = false := by apply byte_all; decide +kernel
  unfold hasBar
  rw [List.any_eq_false]
  intro b hx; simp [hb b (h3 b hx)]
theorem dig_tok {n : Nat} (h : (digL n).length ≤ 64) : tokenB (digL n) = true := by
  have ht : ∀ b : UInt8, isB b.toNat 1 = true → isB b.toNat 8 = true := by apply byte_all; decide +kernel
  unfold tokenB
  have h1 : 1 ≤ (digL n).length := by
    cases hq : digL n with
    | nil => exact absurd hq (digits_ne n)
    | cons x r => simp
  have h2 : allB 8 (digL n) = true := by
    unfold allB
    exact List.all_eq_true.2 fun b hb => ht b (dig_mem hb)
  simp [h1, h, h2]
theorem dig_len : ∀ (k n : Nat), n < 10 ^ (k + 1) → (digL n).length ≤ k + 1
  | 0, n, h => by rw [digL_small (by simpa using h)]; simp
  | k + 1, n, h => by
    by_cases hn : n < 10
    · rw [digL_small hn]; simp
    · rw [digL_big hn, List.length_append]
      have := dig_len k (n / 10) (by rw [Nat.pow_succ] at h; omega)
      simp; omega
theorem stt_text {v : Stt} (h : sttB v = true) : sttT v = evT ⟨v.name, sttP v⟩ ∧ evB ⟨v.name, sttP v⟩ = true := by
  simp only [sttB, Bool.and_eq_true, Bool.or_eq_true, beq_iff_eq, decide_eq_true_eq, List.isEmpty_iff] at h
  obtain ⟨h1, h2, ⟨h3, h4⟩, h5⟩ := h
  have hdl : (digL v.expires.toNat).length ≤ 10 := dig_len 9 _ (by unfold maxS at h4; omega)
  have hdt : tokenB (digL v.expires.toNat) = true := dig_tok (by omega)
  have hrt : v.reason ≠ [] → tokenB v.reason = true := fun hne => h5.resolve_left hne
  have kr : tokenB reasonK = true := by decide +kernel
  have ke : tokenB expiresK = true := by decide +kernel
  have nre : sameB reasonK expiresK = false := by decide +kernel
  unfold sttT sttP evT evB
  simp only
  by_cases hr : v.reason = []
  · by_cases he : v.expires = -1
    · simp [hr, he, parsA, h1, mayGo]
    · simp only [hr, he, if_true, if_false, List.nil_append, List.append_nil]
      refine ⟨by simp [parsA, parT, valT, tok_word hdt], ?_⟩
      simp [h1, mayGo, mayB, ke, findV, tok_bar hdt]; omega
  · have ht := hrt hr
    obtain ⟨_, hrl, _⟩ := tok_facts ht
    by_cases he : v.expires = -1
    · simp only [hr, he, if_true, if_false, List.append_nil]
      refine ⟨by simp [parsA, parT, valT, tok_word ht], ?_⟩
      simp [h1, mayGo, mayB, kr, findV, tok_bar ht]; exact hrl
    · simp only [hr, he, if_false]
      refine ⟨by simp [parsA, parT, valT, tok_word ht, tok_word hdt], ?_⟩
      simp [h1, mayGo, mayB, kr, ke, findV, nre, tok_bar ht, tok_bar hdt]; exact ⟨hrl, by omega⟩
theorem stt_back {v : Stt} (h : sttB v = true) : stateV (sttT v) = (v, 0) := by
  obtain ⟨e1, e2⟩ := stt_text h
  have eb := event_back e2
  simp only [sttB, Bool.and_eq_true, Bool.or_eq_true, beq_iff_eq, decide_eq_true_eq, List.isEmpty_iff] at h
  obtain ⟨h1, h2, ⟨h3, h4⟩, h5⟩ := h
  have srr : sameB reasonK reasonK = true := sameB_self _
  have see : sameB expiresK expiresK = true := sameB_self _
  have ser : sameB expiresK reasonK = false := by decide +kernel
  have sre : sameB reasonK expiresK = false := by decide +kernel
  have hv : valOf (sttP v) reasonK = v.reason := by
    unfold valOf sttP findV
    by_cases hr : v.reason = []
    · by_cases he : v.expires = -1
      · simp [hr, he]
      · simp [hr, he, ser]
    · simp [hr, srr]
  have hx : findV (sttP v) expiresK = if v.expires = -1 then none else some ⟨expiresK, digL v.expires.toNat, true⟩ := by
    unfold sttP findV
    by_cases hr : v.reason = []
    · by_cases he : v.expires = -1
      · simp [hr, he]
      · simp [hr, he, see]
    · by_cases he : v.expires = -1
      · simp [hr, he, sre]
      · simp [hr, he, sre, see]
  unfold stateV
  rw [e1, eb]
  simp only
  rw [if_neg (by simp), hv, hx, if_neg (by rintro ⟨c1, c2⟩; rcases h5 with h5 | h5; exact c1 h5; rw [h5] at c2; simp at c2)]
  by_cases he : v.expires = -1
  · simp only [he, if_true]
    rw [h2]
    obtain ⟨nm, ex, re⟩ := v
    simp only at he; subst he; rfl
  · simp only [he, if_false]
    have hn : timeV (digL v.expires.toNat) = (v.expires, 0) := by
      have hd : trimL (digL v.expires.toNat) = digL v.expires.toNat := trimL_all fun b hb => (dig_facts b (dig_mem hb)).2.2
      have := dig_num (n := v.expires.toNat) (most := maxS) (by omega)
      unfold timeV
      rw [hd, this, if_neg (by simp)]
      congr 1; omega
    rw [hn]
    simp only [ne_eq, not_true, if_false]
    rw [h2]
theorem time_ok {s : List UInt8} (h : (timeV s).2 = 0) : 0 ≤ (timeV s).1 ∧ (timeV s).1 ≤ maxS := by
  unfold timeV at h ⊢
  split
  · exact ⟨by simp, by simp⟩
  · rename_i hc; rw [if_neg hc] at h; exact numV_bd h
theorem low_tok {l : List UInt8} (h : tokenB l = true) : tokenB (lowL l) = true := by
  obtain ⟨t1, t2, t3⟩ := tok_facts h
  have hb : ∀ b : UInt8, tokc b = true → tokc (lowb b) = true := by apply byte_all; decide +kernel
  unfold tokenB at h ⊢
  rw [lowL_len]
  simp only [Bool.and_eq_true, decide_eq_true_eq] at h ⊢
  refine ⟨h.1, ?_⟩
  unfold allB lowL
  rw [List.all_map]
  exact List.all_eq_true.2 fun b hx => hb b (t3 b hx)
theorem low_low (l : List UInt8) : lowL (lowL l) = lowL l := by
  have hb : ∀ b : UInt8, lowb (lowb b) = lowb b := by apply byte_all; decide +kernel
  unfold lowL
  rw [List.map_map]
  exact List.map_congr_left fun b _ => hb b
theorem state_checked {s : List UInt8} {v : Stt} (h : stateV s = (v, 0)) : sttB v = true := by
  unfold stateV at h
  split at h
  · simp at h
  · rename_i h0
    have hev : eventV s = ((eventV s).1, 0) := by
      have : (eventV s).2 = 0 := by simpa using h0
      rw [← this]
    obtain ⟨k1, _, _⟩ := ev_facts (event_checked hev)
    split at h
    · simp at h
    · rename_i hr
      have hrr : valOf (eventV s).1.params reasonK = [] ∨ tokenB (valOf (eventV s).1.params reasonK) = true := by
        by_cases e : valOf (eventV s).1.params reasonK = []
        · exact Or.inl e
        · refine Or.inr ?_
          cases ht : tokenB (valOf (eventV s).1.params reasonK) with
          | true => rfl
          | false => exact absurd ⟨e, ht⟩ hr
      split at h
      · simp only [Prod.mk.injEq, and_true] at h
        subst h
        simp only [sttB, low_tok k1, low_low, Bool.true_and, beq_self_eq_true, Bool.and_eq_true, decide_eq_true_eq, Bool.or_eq_true, List.isEmpty_iff]
        exact ⟨⟨by omega, by unfold maxS; omega⟩, hrr⟩
      · split at h
        · simp at h
        · rename_i p _ ht
          simp only [Prod.mk.injEq, and_true] at h
          subst h
          have := time_ok (s := p.value) (by simpa using ht)
          simp only [sttB, low_tok k1, low_low, Bool.true_and, beq_self_eq_true, Bool.and_eq_true, decide_eq_true_eq, Bool.or_eq_true, List.isEmpty_iff]
          exact ⟨⟨by omega, by omega⟩, hrr⟩

end Go.Proofs.YtjbfdbccidhdfaaDoor
