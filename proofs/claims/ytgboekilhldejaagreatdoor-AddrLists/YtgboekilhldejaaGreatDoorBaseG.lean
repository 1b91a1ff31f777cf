/-
  Base texts, one behind another: AddrL, AddrBackL, AddrManyL, AddrStepL.
-/
import Derived.Test.YtgboekilhldejaaGreatDoorBaseB
import Derived.Test.YtgboekilhldejaaGreatDoorBaseA

/-
  Addresses, read and written: plain functions.
-/
namespace Go.Proofs.YtgboekilhldejaaGreatDoor
open Go.RowKit Sc
set_option linter.unusedVariables false
set_option maxRecDepth 20000
set_option linter.unusedSimpArgs false

/-- An address' parts. -/
structure Adr where
  display : List UInt8
  uri : Uri
  params : List Par
deriving DecidableEq
def noA : Adr := ⟨[], noU, []⟩

def wordB (l : List UInt8) : Bool := tokenB l || hostB (lowL l)
def mayB (before : List Par) (p : Par) : Bool := tokenB p.name && ((findV before p.name).isNone && (decide (p.value.length ≤ 64) && (!hasBar p.value && (p.has || p.value.isEmpty))))
def quoB (l : List UInt8) : Bool := l.head? == some 34
/-- A value as it stands behind a =, blanks taken off. -/
def valueP (v : List UInt8) (has : Bool) : Option (List UInt8) :=
  if quoB v = true then (if (unquoteV v).2 = 0 then some (unquoteV v).1 else none) else if has = true ∧ wordB v = false then none else some v
def fieldOf (q : List UInt8) : Option Par := (valueP (trimL (cutL 61 q).2.1) (cutL 61 q).2.2).map fun v => ⟨trimL (cutL 61 q).1, v, (cutL 61 q).2.2⟩
def fieldsG : List Par → List (List UInt8) → Option (List Par)
  | out, [] => some out
  | out, q :: qs => match fieldOf q with | none => none | some p => if mayB out p = true then fieldsG (out ++ [p]) qs else none
def fieldsV (qs : List (List UInt8)) : List Par × Int := if 16 < qs.length then ([], 4) else match fieldsG [] qs with | some ps => (ps, 0) | none => ([], 34)

def valT (v : List UInt8) : List UInt8 := if wordB v = true then v else 34 :: quo v ++ [34]
def parT (p : Par) : List UInt8 := if p.has = true then p.name ++ [61] ++ valT p.value else p.name
def mayGo : List Par → List Par → Bool
  | _, [] => true
  | b, p :: ps => mayB b p && mayGo (b ++ [p]) ps
def parsA (ps : List Par) : List UInt8 := ps.flatMap fun p => [59] ++ parT p
def textV (ps : List Par) : List UInt8 × Int := if 16 < ps.length then ([], 4) else if mayGo [] ps = true then (parsA ps, 0) else ([], 34)

def checkA (a : Adr) : Int := if 64 < a.display.length ∨ hasBar a.display = true then 50 else if checkV a.uri ≠ 0 then checkV a.uri else (textV a.params).2
def dispT (l : List UInt8) : List UInt8 := if l = [] then [] else (34 :: quo l ++ [34]) ++ [32]
def textA (a : Adr) : List UInt8 := dispT a.display ++ ([60] ++ textT a.uri ++ [62] ++ parsA a.params)
def printA (a : Adr) : List UInt8 × Int := if checkA a = 0 then (textA a, 0) else ([], checkA a)

/-- The words of a text, between blanks. -/
def wordsG : List UInt8 → List UInt8 → List (List UInt8)
  | cur, [] => if cur = [] then [] else [cur]
  | cur, b :: r => if blk b = true then (if cur = [] then wordsG [] r else cur :: wordsG [] r) else wordsG (cur ++ [b]) r
def tokc (b : UInt8) : Bool := isB b.toNat 8
def joinB : List (List UInt8) → List UInt8
  | [] => []
  | [w] => w
  | w :: ws => w ++ [32] ++ joinB ws
def displayV (l : List UInt8) : Option (List UInt8) :=
  if quoB (trimL l) = true then (if (unquoteV (trimL l)).2 = 0 then some (unquoteV (trimL l)).1 else none)
  else if (trimL l).all (fun b => blk b || tokc b) = true then some (joinB (wordsG [] (trimL l))) else none
/-- Where the first < stands that is not within a quoted text. -/
def openV : Bool → List UInt8 → Option Nat
  | _, [] => none
  | true, [b] => none
  | true, b :: c :: r => if b = 92 then (openV true r).map (· + 2) else if b = 34 then (openV false (c :: r)).map (· + 1) else (openV true (c :: r)).map (· + 1)
  | false, b :: r => if b = 60 then some 0 else if b = 34 then (openV true r).map (· + 1) else (openV false r).map (· + 1)
/-- The URI's text and what is left behind it, of a text without angles. -/
def plainV (s : List UInt8) : List UInt8 × List UInt8 := if hasL 59 s = true then ((cutL 59 s).1, 59 :: (cutL 59 s).2.1) else (s, [])
/-- From the URI's text on. -/
def tailV (d whr bhd : List UInt8) : Adr × Int :=
  if (parseV whr).2 ≠ 0 then (noA, (parseV whr).2)
  else if trimL ((partsV 59 bhd).headD []) ≠ [] then (noA, 50)
  else if (fieldsV (partsV 59 bhd).tail).2 ≠ 0 then (noA, (fieldsV (partsV 59 bhd).tail).2)
  else (⟨d, (parseV whr).1, (fieldsV (partsV 59 bhd).tail).1⟩, 0)
def parseT (s : List UInt8) : Adr × Int :=
  match openV false s with
  | some k => (match displayV (s.take k) with
      | none => (noA, 50)
      | some d => if 64 < d.length ∨ hasL 62 (s.drop k) = false then (noA, 50) else tailV d (cutL 62 (s.drop (k + 1))).1 (cutL 62 (s.drop (k + 1))).2.1)
  | none => if hasL 63 (trimL (plainV s).1) = true ∨ hasL 44 (trimL (plainV s).1) = true ∨ hasL 34 (trimL (plainV s).1) = true then (noA, 50) else tailV [] (trimL (plainV s).1) (plainV s).2
def parseA (s : List UInt8) : Adr × Int := parseT (trimL s)

-- quoted texts
theorem bare_not {b : UInt8} (h : bareB b.toNat = true) : b ≠ 92 ∧ b ≠ 34 := by
  revert h; revert b; apply byte_all; decide +kernel
theorem bad_of {b : UInt8} (h : bareB b.toNat = false) (k : barB b.toNat = false) : badB b.toNat = false := by
  revert h k; revert b; apply byte_all; decide +kernel
theorem bareN {b : UInt8} (h : bareB b.toNat = true) : (b.toNat : Int) ≠ 92 := by
  revert h; revert b; apply byte_all; decide +kernel
theorem unqQuo : ∀ (l : List UInt8), hasBar l = false → unq (quo l) = some l
  | [], _ => rfl
  | b :: r, h => by
    have hb : barB b.toNat = false ∧ hasBar r = false := by simpa [hasBar] using h
    rw [quo]
    cases hq : bareB b.toNat with
    | true =>
      simp only [if_true, List.singleton_append]
      rw [unq_plain (Or.inl (bareN hq)), hq, unqQuo r hb.2]; rfl
    | false =>
      simp only [Bool.false_eq_true, if_false, List.cons_append, List.nil_append]
      rw [unq_esc (by decide), bad_of hq hb.1, unqQuo r hb.2]; rfl
theorem unquote_quo {l : List UInt8} (h : hasBar l = false) : unquoteV (34 :: quo l ++ [34]) = (l, 0) := by
  have hm : mid (34 :: quo l ++ [34]) 1 ((34 :: quo l ++ [34]).length - 1) = quo l := by unfold mid; simp
  refine unquoteV_some ?_ (by rw [hm]; exact unqQuo l h)
  simp
/-- What is unquoted can be quoted. -/
theorem unq_bar : ∀ (n : Nat) (l r : List UInt8), l.length ≤ n → unq l = some r → hasBar r = false
  | 0, l, r, hl, h => by
    obtain rfl := List.eq_nil_of_length_eq_zero (Nat.le_zero.1 hl)
    simp [unq] at h; subst h; rfl
  | n + 1, l, r, hl, h => by
    have hbb : ∀ b : UInt8, bareB b.toNat = true → barB b.toNat = false := by apply byte_all; decide +kernel
    have hbd : ∀ b : UInt8, badB b.toNat = false → barB b.toNat = false := by apply byte_all; decide +kernel
    match l, hl, h with
    | [], _, h => simp [unq] at h; subst h; rfl
    | [b], _, h =>
      rw [unq] at h
      split at h
      · rename_i hb; simp at h; subst h; simp [hasBar, hbb b hb]
      · simp at h
    | b :: c :: r', hl, h =>
      rw [unq] at h
      split at h
      · split at h
        · simp at h
        · rename_i hbad
          simp only [Option.map_eq_some_iff] at h
          obtain ⟨x, hx, rfl⟩ := h
          have := unq_bar n r' x (by simp at hl; omega) hx
          have hc := hbd c (by simpa using hbad)
          simp [hasBar, hc] at this ⊢; exact this
      · split at h
        · rename_i hb
          simp only [Option.map_eq_some_iff] at h
          obtain ⟨x, hx, rfl⟩ := h
          have := unq_bar n (c :: r') x (by simp at hl ⊢; omega) hx
          simp [hasBar, hbb b hb] at this ⊢; exact this
        · simp at h
theorem unquote_bar {l r : List UInt8} (h : unquoteV l = (r, 0)) : hasBar r = false := by
  unfold unquoteV at h
  split at h
  · simp at h
  · split at h
    · rename_i x hx; simp at h; subst h; exact unq_bar _ _ _ (Nat.le_refl _) hx
    · simp at h

end Go.Proofs.YtgboekilhldejaaGreatDoor

/-
  Addresses there and back: plain facts.
-/
namespace Go.Proofs.YtgboekilhldejaaGreatDoor
open Go.RowKit Sc
set_option linter.unusedVariables false
set_option maxRecDepth 20000
set_option linter.unusedSimpArgs false

-- blanks at the ends
theorem dropW_id {l : List UInt8} (h : ∀ b, l.head? = some b → blk b = false) : l.dropWhile blk = l := by
  cases l with
  | nil => rfl
  | cons x l => rw [List.dropWhile_cons, h x rfl]; rfl
theorem trimL_id {l : List UInt8} (h1 : ∀ b, l.head? = some b → blk b = false) (h2 : ∀ b, l.getLast? = some b → blk b = false) : trimL l = l := by
  unfold trimL
  rw [dropW_id h1, dropW_id (by intro b hb; rw [List.head?_reverse] at hb; exact h2 b hb), List.reverse_reverse]
theorem trimL_all {l : List UInt8} (h : ∀ b ∈ l, blk b = false) : trimL l = l :=
  trimL_id (fun b hb => h b (List.mem_of_mem_head? hb)) (fun b hb => h b (List.mem_of_mem_getLast? hb))
theorem blk32 : blk 32 = true := by decide +kernel
theorem dropW_snoc {l : List UInt8} (x : UInt8) (hx : blk x = true) : ((l ++ [x]).dropWhile blk).reverse.dropWhile blk = (l.dropWhile blk).reverse.dropWhile blk := by
  induction l with
  | nil => simp [List.dropWhile_cons, hx]
  | cons y l ih =>
    rw [List.cons_append, List.dropWhile_cons, List.dropWhile_cons]
    split
    · exact ih
    · rw [← List.cons_append, List.reverse_append, List.reverse_singleton, List.singleton_append, List.dropWhile_cons, hx]; rfl
theorem trimL_snoc (l : List UInt8) : trimL (l ++ [32]) = trimL l := by unfold trimL; rw [dropW_snoc 32 blk32]
theorem trimL_cons (l : List UInt8) : trimL (32 :: l) = trimL l := by unfold trimL; rw [List.dropWhile_cons, blk32]; rfl
theorem last_app {a b : List UInt8} (hb : b ≠ []) {x : UInt8} (h : (a ++ b).getLast? = some x) : b.getLast? = some x := by
  rw [List.getLast?_append] at h
  cases hl : b.getLast? with
  | none => exact absurd (List.getLast?_eq_none_iff.1 hl) hb
  | some y => rw [hl] at h; simpa using h

-- words and tokens
def wch (b : UInt8) : Bool := tokc b || hob (lowb b)
theorem tok_facts {l : List UInt8} (h : tokenB l = true) : l ≠ [] ∧ l.length ≤ 64 ∧ ∀ b ∈ l, tokc b = true := by
  unfold tokenB at h
  simp only [Bool.and_eq_true, decide_eq_true_eq] at h
  refine ⟨by intro e; subst e; simp at h, h.1.2, fun b hb => ?_⟩
  have := h.2
  unfold allB at this
  exact List.all_eq_true.1 this b hb
theorem word_facts {l : List UInt8} (h : wordB l = true) : l ≠ [] ∧ ∀ b ∈ l, wch b = true := by
  unfold wordB at h
  rw [Bool.or_eq_true] at h
  rcases h with h | h
  · obtain ⟨h1, _, h3⟩ := tok_facts h
    exact ⟨h1, fun b hb => by simp [wch, h3 b hb]⟩
  · have hf := (host_facts h).1
    have hk := hostB_ok h
    refine ⟨by intro e; subst e; simp [lowL] at hk, fun b hb => ?_⟩
    have := hf (lowb b) (by unfold lowL; exact List.mem_map_of_mem hb)
    simp [wch, this]
theorem wch_facts : ∀ b : UInt8, wch b = true → blk b = false ∧ b ≠ 34 ∧ b ≠ 60 ∧ b ≠ 62 ∧ b ≠ 59 ∧ b ≠ 44 ∧ b ≠ 61 := by apply byte_all; decide +kernel
theorem tok_wch {b : UInt8} (h : tokc b = true) : wch b = true := by simp [wch, h]

-- quoted texts and angles, at places
/-- A text that stands whole between any two cuts at a sign. -/
def Clo (sep : Int) (t : List UInt8) : Prop := ∀ cur r, partsG sep pl0 cur (t ++ r) = partsG sep pl0 (cur ++ t) r
theorem Clo.nil (sep : Int) : Clo sep [] := fun cur r => by simp
theorem Clo.app {sep : Int} {a b : List UInt8} (ha : Clo sep a) (hb : Clo sep b) : Clo sep (a ++ b) := fun cur r => by
  rw [List.append_assoc, ha, hb, List.append_assoc]
theorem clo_plain {sep : Int} {t : List UInt8} (h : ∀ b ∈ t, b ≠ 34 ∧ b ≠ 60 ∧ b ≠ 62 ∧ (b.toNat : Int) ≠ sep) : Clo sep t := by
  induction t with
  | nil => exact Clo.nil sep
  | cons x t ih =>
    intro cur r
    obtain ⟨h1, h2, h3, h4⟩ := h x (by simp)
    have hp : ∀ y : UInt8, y ≠ 34 → y ≠ 60 → y ≠ 62 → pst pl0 (y.toNat : Int) = (pl0, true) := by
      intro y e1 e2 e3
      have f1 : ¬ (y.toNat : Int) = 34 := fun e => e1 (by apply UInt8.toNat_inj.1; show y.toNat = 34; omega)
      have f2 : ¬ (y.toNat : Int) = 60 := fun e => e2 (by apply UInt8.toNat_inj.1; show y.toNat = 60; omega)
      have f3 : ¬ (y.toNat : Int) = 62 := fun e => e3 (by apply UInt8.toNat_inj.1; show y.toNat = 62; omega)
      simp [pst, pl0, f1, f2, f3]
    rw [List.cons_append, partsG, hp x h1 h2 h3, if_neg (by simp [h4])]
    simp only
    rw [ih (fun b hb => h b (by simp [hb]))]
    simp
theorem quo_run (sep : Int) : ∀ (l cur r : List UInt8), partsG sep ⟨true, false, false⟩ cur (quo l ++ 34 :: r) = partsG sep pl0 (cur ++ quo l ++ [34]) r
  | [], cur, r => by
    rw [quo, List.nil_append, partsG]
    simp [pst, pl0]
  | b :: l, cur, r => by
    rw [quo]
    cases hb : bareB b.toNat with
    | true =>
      obtain ⟨n1, n2⟩ := bare_not hb
      have f1 : ¬ (b.toNat : Int) = 34 := fun e => n2 (by apply UInt8.toNat_inj.1; show b.toNat = 34; omega)
      have f2 : ((b.toNat : Int) == 92) = false := by rw [beq_eq_false_iff_ne]; exact bareN hb
      simp only [if_true, List.singleton_append, List.cons_append, List.nil_append]
      rw [partsG]
      simp only [pst, f1, f2, if_false, Bool.false_eq_true, false_and, if_true]
      rw [quo_run sep l]
      simp
    | false =>
      simp only [Bool.false_eq_true, if_false, List.cons_append, List.nil_append]
      rw [partsG]
      have e1 : pst ⟨true, false, false⟩ ((92 : UInt8).toNat : Int) = (⟨true, true, false⟩, false) := by simp [pst]
      rw [e1]
      simp only [Bool.false_eq_true, false_and, if_false]
      rw [partsG]
      have e2 : pst ⟨true, true, false⟩ (b.toNat : Int) = (⟨true, false, false⟩, false) := by simp [pst]
      rw [e2]
      simp only [Bool.false_eq_true, false_and, if_false]
      rw [quo_run sep l]
      simp
theorem clo_quo (sep : Int) (l : List UInt8) : Clo sep (34 :: quo l ++ [34]) := fun cur r => by
  rw [List.append_assoc, List.cons_append, partsG]
  have e1 : pst pl0 ((34 : UInt8).toNat : Int) = (⟨true, false, false⟩, false) := by simp [pst, pl0]
  rw [e1]
  simp only [Bool.false_eq_true, false_and, if_false]
  rw [List.singleton_append, quo_run sep l]
  simp
theorem ang_run (sep : Int) : ∀ (l cur r : List UInt8), (∀ b ∈ l, b ≠ 34 ∧ b ≠ 60 ∧ b ≠ 62) → partsG sep ⟨false, false, true⟩ cur (l ++ 62 :: r) = partsG sep pl0 (cur ++ l ++ [62]) r
  | [], cur, r, _ => by
    rw [List.nil_append, partsG]
    simp [pst, pl0]
  | b :: l, cur, r, h => by
    obtain ⟨n1, n2, n3⟩ := h b (by simp)
    have f1 : ¬ (b.toNat : Int) = 34 := fun e => n1 (by apply UInt8.toNat_inj.1; show b.toNat = 34; omega)
    have f2 : ¬ (b.toNat : Int) = 60 := fun e => n2 (by apply UInt8.toNat_inj.1; show b.toNat = 60; omega)
    have f3 : ¬ (b.toNat : Int) = 62 := fun e => n3 (by apply UInt8.toNat_inj.1; show b.toNat = 62; omega)
    rw [List.cons_append, partsG]
    have e2 : pst ⟨false, false, true⟩ (b.toNat : Int) = (⟨false, false, true⟩, false) := by simp [pst, f1, f2, f3]
    rw [e2]
    simp only [Bool.false_eq_true, false_and, if_false]
    rw [ang_run sep l _ _ (fun x hx => h x (by simp [hx]))]
    simp
theorem clo_ang (sep : Int) {l : List UInt8} (h : ∀ b ∈ l, b ≠ 34 ∧ b ≠ 60 ∧ b ≠ 62) : Clo sep ([60] ++ l ++ [62]) := fun cur r => by
  rw [List.append_assoc, List.append_assoc, List.singleton_append, partsG]
  have e1 : pst pl0 ((60 : UInt8).toNat : Int) = (⟨false, false, true⟩, false) := by simp [pst, pl0]
  rw [e1]
  simp only [Bool.false_eq_true, false_and, if_false]
  rw [List.singleton_append, ang_run sep l _ _ h]
  simp

-- the signs of a printed URI
theorem text_not {u : Uri} (hc : checkV u = 0) {c : UInt8} (h0 : hob c = false) (h1 : okw usersK c = false) (h2 : okw paramsK c = false) (h3 : okw headersK c = false) (h4 : isB c.toNat 1 = false)
    (h5 : c ≠ 58 ∧ c ≠ 59 ∧ c ≠ 61 ∧ c ≠ 63 ∧ c ≠ 38 ∧ c ≠ 64) (h6 : c ∉ ([115, 105, 112, 115, 101, 114] : List UInt8)) : c ∉ textT u := by
  obtain ⟨k1, k2, k3, k4, k5, k6, k7, k8⟩ := check_ok hc
  obtain ⟨n1, n2, n3, n4, n5, n6⟩ := h5
  have hs : c ∉ u.scheme := by
    unfold schemeB at k1
    simp only [Bool.or_eq_true, beq_iff_eq] at k1
    simp only [List.mem_cons, List.not_mem_nil, or_false, not_or] at h6
    rcases k1 with e | e | e <;> rw [e] <;> simp [h6]
  have hu : c ∉ escL usersK u.user := escL_not h1
  have hp := portT_not (n := u.port) n1 h4
  unfold portT at hp
  have hq : c ∉ parsT u.params := parsT_not n2 n3 h2
  have hr : c ∉ hdrT u.headers := hdrT_not n4 n5 n3 h3
  have hh : c ∉ u.host := host_not k3 h0
  unfold textT frontT
  simp only [List.mem_append, not_or]
  refine ⟨⟨⟨⟨⟨⟨hs, by simpa using n1⟩, ?_⟩, hh⟩, ?_⟩, hq⟩, hr⟩
  · split
    · simp
    · simp only [List.mem_append, not_or]; exact ⟨hu, by simpa using n6⟩
  · exact hp
theorem text_signs {u : Uri} (hc : checkV u = 0) : (34 : UInt8) ∉ textT u ∧ (60 : UInt8) ∉ textT u ∧ (62 : UInt8) ∉ textT u :=
  ⟨text_not hc (by decide +kernel) (by decide +kernel) (by decide +kernel) (by decide +kernel) (by decide +kernel) (by decide) (by decide),
   text_not hc (by decide +kernel) (by decide +kernel) (by decide +kernel) (by decide +kernel) (by decide +kernel) (by decide) (by decide),
   text_not hc (by decide +kernel) (by decide +kernel) (by decide +kernel) (by decide +kernel) (by decide +kernel) (by decide) (by decide)⟩

-- parameters
theorem may_facts {b : List Par} {p : Par} (h : mayB b p = true) : tokenB p.name = true ∧ findV b p.name = none ∧ p.value.length ≤ 64 ∧ hasBar p.value = false ∧ (p.has = true ∨ p.value = []) := by
  simp only [mayB, Bool.and_eq_true, Bool.or_eq_true, Option.isNone_iff_eq_none, decide_eq_true_eq, Bool.not_eq_true', List.isEmpty_iff] at h
  exact ⟨h.1, h.2.1, h.2.2.1, h.2.2.2.1, h.2.2.2.2⟩
theorem name_facts {l : List UInt8} (h : tokenB l = true) : (61 : UInt8) ∉ l ∧ trimL l = l := by
  obtain ⟨_, _, h3⟩ := tok_facts h
  exact ⟨fun hm => (wch_facts 61 (tok_wch (h3 61 hm))).2.2.2.2.2.2 rfl, trimL_all fun b hb => (wch_facts b (tok_wch (h3 b hb))).1⟩
theorem trim_quo (l : List UInt8) : trimL (34 :: quo l ++ [34]) = 34 :: quo l ++ [34] := by
  apply trimL_id
  · intro b hb; simp at hb; subst hb; decide +kernel
  · intro b hb
    have := last_app (a := 34 :: quo l) (b := [34]) (by simp) hb
    simp at this; subst this; decide +kernel
theorem value_back {v : List UInt8} (h : hasBar v = false) : valueP (trimL (valT v)) true = some v := by
  unfold valT
  split
  · rename_i hw
    obtain ⟨_, hf⟩ := word_facts hw
    rw [trimL_all fun b hb => (wch_facts b (hf b hb)).1]
    unfold valueP
    have hq : quoB v = false := by
      unfold quoB
      cases v with
      | nil => rfl
      | cons x v => have := (wch_facts x (hf x (by simp))).2.1; simpa using this
    rw [hq]; simp [hw]
  · rw [trim_quo]
    unfold valueP
    have hq : quoB (34 :: quo v ++ [34]) = true := by simp [quoB]
    rw [hq, if_pos rfl, unquote_quo h]; simp
theorem field_back {b : List Par} {p : Par} (h : mayB b p = true) : fieldOf (parT p) = some p := by
  obtain ⟨h1, _, _, h4, h5⟩ := may_facts h
  obtain ⟨n1, n2⟩ := name_facts h1
  obtain ⟨nm, vl, hs⟩ := p
  simp only at h1 h4 h5 n1 n2
  unfold parT fieldOf
  cases hs with
  | true =>
    simp only [if_true]
    rw [List.append_assoc, List.singleton_append, cutL_hit n1]
    simp only
    rw [value_back h4, n2]; rfl
  | false =>
    simp only [Bool.false_eq_true, if_false]
    rw [cutL_miss n1]
    rcases h5 with h5 | h5
    · simp at h5
    · subst h5
      have e : trimL ([] : List UInt8) = [] := rfl
      simp only [e, n2]
      rfl
theorem fields_back : ∀ (ps b : List Par), mayGo b ps = true → fieldsG b (ps.map parT) = some (b ++ ps)
  | [], b, _ => by simp [fieldsG]
  | p :: ps, b, h => by
    rw [mayGo, Bool.and_eq_true] at h
    rw [List.map_cons, fieldsG, field_back h.1]
    simp only [h.1, if_true]
    rw [fields_back ps _ h.2]; simp
theorem clo_par {sep : Int} (hsep : sep = 59 ∨ sep = 44) {b : List Par} {p : Par} (h : mayB b p = true) : Clo sep (parT p) := by
  obtain ⟨h1, _, _, h4, h5⟩ := may_facts h
  have ns : ∀ b : UInt8, wch b = true → (b.toNat : Int) ≠ sep := by
    intro b hb
    obtain ⟨_, _, _, _, n1, n2, _⟩ := wch_facts b hb
    rcases hsep with rfl | rfl
    · exact fun e => n1 (by apply UInt8.toNat_inj.1; show b.toNat = 59; omega)
    · exact fun e => n2 (by apply UInt8.toNat_inj.1; show b.toNat = 44; omega)
  have cw : ∀ l : List UInt8, (∀ b ∈ l, wch b = true) → Clo sep l := fun l hl => clo_plain fun b hb => ⟨(wch_facts b (hl b hb)).2.1, (wch_facts b (hl b hb)).2.2.1, (wch_facts b (hl b hb)).2.2.2.1, ns b (hl b hb)⟩
  have cn : Clo sep p.name := cw _ fun b hb => tok_wch ((tok_facts h1).2.2 b hb)
  unfold parT
  split
  · refine (cn.app (clo_plain fun b hb => ?_)).app ?_
    · simp at hb; subst hb; refine ⟨by decide, by decide, by decide, ?_⟩
      rcases hsep with rfl | rfl <;> decide
    · unfold valT
      split
      · rename_i hw; exact cw _ (word_facts hw).2
      · exact clo_quo sep _
  · exact cn
theorem parts_pars : ∀ (ps b : List Par) (cur : List UInt8), mayGo b ps = true → partsG 59 pl0 cur (parsA ps) = cur :: ps.map parT
  | [], b, cur, _ => by simp [parsA, partsG]
  | p :: ps, b, cur, h => by
    rw [mayGo, Bool.and_eq_true] at h
    have e : parsA (p :: ps) = 59 :: (parT p ++ parsA ps) := by simp [parsA]
    rw [e, partsG]
    have e1 : pst pl0 ((59 : UInt8).toNat : Int) = (pl0, true) := by simp [pst, pl0]
    rw [e1]
    simp only [true_and]
    rw [if_pos (by decide), clo_par (Or.inl rfl) h.1, List.nil_append, parts_pars ps _ _ h.2]; rfl
theorem clo_pars : ∀ (ps b : List Par), mayGo b ps = true → Clo 44 (parsA ps)
  | [], b, _ => Clo.nil 44
  | p :: ps, b, h => by
    rw [mayGo, Bool.and_eq_true] at h
    have e : parsA (p :: ps) = ([59] ++ parT p) ++ parsA ps := by simp [parsA]
    rw [e]
    exact ((clo_plain fun b hb => by simp at hb; subst hb; decide).app (clo_par (Or.inr rfl) h.1)).app (clo_pars ps _ h.2)

end Go.Proofs.YtgboekilhldejaaGreatDoor

/-
  Addresses there and back, whole; what is parsed may be; lists: plain facts.
-/
namespace Go.Proofs.YtgboekilhldejaaGreatDoor
open Go.RowKit Sc
set_option linter.unusedVariables false
set_option maxRecDepth 20000
set_option linter.unusedSimpArgs false

theorem checkA_ok {a : Adr} (h : checkA a = 0) : a.display.length ≤ 64 ∧ hasBar a.display = false ∧ checkV a.uri = 0 ∧ a.params.length ≤ 16 ∧ mayGo [] a.params = true := by
  unfold checkA at h
  split at h
  · simp at h
  · rename_i h1
    split at h
    · rename_i h2; exact absurd h h2
    · rename_i h2
      unfold textV at h
      split at h
      · simp at h
      · split at h
        · rename_i h3 h4
          refine ⟨?_, ?_, by simpa using h2, by omega, h4⟩
          · by_cases e : 64 < a.display.length
            · exact absurd (Or.inl e) h1
            · omega
          · cases e : hasBar a.display with
            | false => rfl
            | true => exact absurd (Or.inr e) h1
        · simp at h
theorem checkA_of {a : Adr} (h1 : a.display.length ≤ 64) (h2 : hasBar a.display = false) (h3 : checkV a.uri = 0) (h4 : a.params.length ≤ 16) (h5 : mayGo [] a.params = true) : checkA a = 0 := by
  unfold checkA textV
  rw [if_neg (by rw [h2]; simp; omega), if_neg (by simp [h3]), if_neg (by omega), if_pos h5]

-- the ends of what is printed
theorem parT_last {b : List Par} {p : Par} (h : mayB b p = true) : parT p ≠ [] ∧ ∀ x, (parT p).getLast? = some x → blk x = false := by
  obtain ⟨h1, _, _, h4, _⟩ := may_facts h
  obtain ⟨t1, _, t3⟩ := tok_facts h1
  unfold parT
  split
  · have hv : valT p.value ≠ [] ∧ ∀ x, (valT p.value).getLast? = some x → blk x = false := by
      unfold valT
      split
      · rename_i hw
        obtain ⟨w1, w2⟩ := word_facts hw
        exact ⟨w1, fun x hx => (wch_facts x (w2 x (List.mem_of_mem_getLast? hx))).1⟩
      · refine ⟨by simp, fun x hx => ?_⟩
        have := last_app (a := 34 :: quo p.value) (b := [34]) (by simp) hx
        simp at this; subst this; decide +kernel
    exact ⟨by simp, fun x hx => hv.2 x (last_app hv.1 hx)⟩
  · exact ⟨t1, fun x hx => (wch_facts x (tok_wch (t3 x (List.mem_of_mem_getLast? hx)))).1⟩
theorem parsA_last : ∀ (ps b : List Par), mayGo b ps = true → ∀ x, (parsA ps).getLast? = some x → blk x = false
  | [], b, _, x, hx => by simp [parsA] at hx
  | p :: ps, b, h, x, hx => by
    rw [mayGo, Bool.and_eq_true] at h
    obtain ⟨h1, h2⟩ := parT_last h.1
    have e : parsA (p :: ps) = ([59] ++ parT p) ++ parsA ps := by simp [parsA]
    rw [e] at hx
    by_cases hp : parsA ps = []
    · rw [hp, List.append_nil] at hx
      exact h2 x (last_app h1 hx)
    · exact parsA_last ps _ h.2 x (last_app hp hx)
theorem textA_head (a : Adr) : ∀ x, (textA a).head? = some x → blk x = false := by
  intro x hx
  unfold textA dispT at hx
  split at hx
  · simp at hx; subst hx; decide +kernel
  · simp at hx; subst hx; decide +kernel
theorem textA_last {a : Adr} (h : mayGo [] a.params = true) : ∀ x, (textA a).getLast? = some x → blk x = false := by
  intro x hx
  unfold textA at hx
  by_cases hp : parsA a.params = []
  · rw [hp, List.append_nil] at hx
    have hx2 := last_app (b := [60] ++ textT a.uri ++ [62]) (by simp) hx
    have hx3 := last_app (a := [60] ++ textT a.uri) (b := [62]) (by simp) hx2
    simp at hx3; subst hx3; decide +kernel
  · have hx2 := last_app (b := [60] ++ textT a.uri ++ [62] ++ parsA a.params) (by simp) hx
    exact parsA_last _ _ h x (last_app hp hx2)
theorem trim_textA {a : Adr} (h : mayGo [] a.params = true) : trimL (textA a) = textA a := trimL_id (textA_head a) (textA_last h)

-- where the angle opens
theorem openV_cons {b : UInt8} {t : List UInt8} (ht : t ≠ []) : openV true (b :: t) = if b = 92 then (openV true t.tail).map (· + 2) else if b = 34 then (openV false t).map (· + 1) else (openV true t).map (· + 1) := by
  cases t with
  | nil => exact absurd rfl ht
  | cons c r => rw [openV]; rfl
theorem open_quo : ∀ (l r : List UInt8), openV true (quo l ++ 34 :: r) = (openV false r).map (· + ((quo l).length + 1))
  | [], r => by
    rw [quo, List.nil_append]
    cases r with
    | nil => simp [openV]
    | cons c r => rw [openV]; simp
  | b :: l, r => by
    rw [quo]
    cases hb : bareB b.toNat with
    | true =>
      obtain ⟨n1, n2⟩ := bare_not hb
      simp only [if_true, List.singleton_append, List.cons_append, List.nil_append]
      rw [openV_cons (by simp), if_neg n1, if_neg n2, open_quo l r, Option.map_map]
      congr 1
    | false =>
      simp only [Bool.false_eq_true, if_false, List.cons_append, List.nil_append]
      rw [openV_cons (by simp), if_pos rfl, List.tail_cons, open_quo l r, Option.map_map]
      congr 1
theorem open_textA (d r : List UInt8) : openV false (dispT d ++ 60 :: r) = some (dispT d).length := by
  unfold dispT
  split
  · rw [List.nil_append, openV]; simp
  · rw [List.append_assoc, List.append_assoc, List.cons_append, openV]
    simp only [List.singleton_append]
    rw [if_neg (by decide), if_pos trivial]
    rw [open_quo, openV, openV]
    simp
    omega
theorem disp_back {d : List UInt8} (h : hasBar d = false) : displayV (dispT d) = some d := by
  unfold dispT
  split
  · rename_i e; subst e; rfl
  · unfold displayV
    rw [trimL_snoc, trim_quo]
    have hq : quoB (34 :: quo d ++ [34]) = true := by simp [quoB]
    rw [hq, if_pos rfl, unquote_quo h]; simp
theorem tail_back {d : List UInt8} {u : Uri} {ps : List Par} (hu : checkV u = 0) (hl : ps.length ≤ 16) (hp : mayGo [] ps = true) : tailV d (textT u) (parsA ps) = (⟨d, u, ps⟩, 0) := by
  have e1 : partsV 59 (parsA ps) = [] :: ps.map parT := parts_pars ps [] [] hp
  have e2 : fieldsV (ps.map parT) = (ps, 0) := by
    unfold fieldsV
    rw [if_neg (by simp; omega), fields_back ps [] hp]; simp
  unfold tailV
  rw [parse_text hu, e1]
  simp only [List.headD_cons, List.tail_cons, e2]
  simp [trimL]
theorem parse_textA {a : Adr} (h : checkA a = 0) : parseA (textA a) = (a, 0) := by
  obtain ⟨h1, h2, h3, h4, h5⟩ := checkA_ok h
  unfold parseA
  rw [trim_textA h5]
  have ho : openV false (textA a) = some (dispT a.display).length := by
    unfold textA; rw [List.append_assoc, List.append_assoc, List.singleton_append]; exact open_textA _ _
  unfold parseT
  rw [ho]
  simp only
  have ht : (textA a).take (dispT a.display).length = dispT a.display := by unfold textA; simp
  have hd : (textA a).drop (dispT a.display).length = [60] ++ textT a.uri ++ [62] ++ parsA a.params := by unfold textA; simp
  have hd1 : (textA a).drop ((dispT a.display).length + 1) = textT a.uri ++ 62 :: parsA a.params := by
    rw [← List.drop_drop, hd]; simp
  rw [ht, disp_back h2, hd, hd1]
  simp only
  rw [if_neg (by simp [hasL]; omega), cutL_hit (text_signs h3).2.2]
  simp only
  rw [tail_back h3 h4 h5]

-- what is parsed may be
theorem mayGo_snoc (b : List Par) (p : Par) : ∀ (l : List Par) , mayGo b (l ++ [p]) = (mayGo b l && mayB (b ++ l) p) := by
  intro l
  induction l generalizing b with
  | nil => simp [mayGo]
  | cons q l ih => rw [List.cons_append, mayGo, mayGo, ih]; simp [Bool.and_assoc]
theorem fields_may : ∀ (qs : List (List UInt8)) (out ps : List Par), mayGo [] out = true → fieldsG out qs = some ps → mayGo [] ps = true ∧ ps.length = out.length + qs.length
  | [], out, ps, h, e => by rw [fieldsG] at e; simp at e; subst e; exact ⟨h, by simp⟩
  | q :: qs, out, ps, h, e => by
    rw [fieldsG] at e
    split at e
    · simp at e
    · rename_i p hp
      split at e
      · rename_i hm
        have := fields_may qs (out ++ [p]) ps (by rw [mayGo_snoc, h]; simpa using hm) e
        exact ⟨this.1, by rw [this.2]; simp; omega⟩
      · simp at e
theorem join_mem : ∀ (ws : List (List UInt8)) (b : UInt8), b ∈ joinB ws → b = 32 ∨ ∃ w ∈ ws, b ∈ w
  | [], b, h => by simp [joinB] at h
  | [w], b, h => Or.inr ⟨w, by simp, by simpa [joinB] using h⟩
  | w :: x :: ws, b, h => by
    rw [joinB] at h
    · simp only [List.mem_append, List.mem_singleton] at h
      rcases h with (h | h) | h
      · exact Or.inr ⟨w, by simp, h⟩
      · exact Or.inl h
      · rcases join_mem (x :: ws) b h with h | ⟨y, hy, hb⟩
        · exact Or.inl h
        · exact Or.inr ⟨y, by simp at hy ⊢; exact Or.inr hy, hb⟩
    · simp
theorem words_mem : ∀ (t cur w : List UInt8), w ∈ wordsG cur t → ∀ b ∈ w, b ∈ cur ∨ b ∈ t
  | [], cur, w, h, b, hb => by
    rw [wordsG] at h
    split at h
    · simp at h
    · simp at h; subst h; exact Or.inl hb
  | x :: t, cur, w, h, b, hb => by
    rw [wordsG] at h
    split at h
    · split at h
      · rcases words_mem t [] w h b hb with h | h
        · simp at h
        · exact Or.inr (by simp [h])
      · rcases List.mem_cons.1 h with h | h
        · subst h; exact Or.inl hb
        · rcases words_mem t [] w h b hb with h | h
          · simp at h
          · exact Or.inr (by simp [h])
    · rcases words_mem t (cur ++ [x]) w h b hb with h | h
      · simp at h
        rcases h with h | h
        · exact Or.inl h
        · exact Or.inr (by simp [h])
      · exact Or.inr (by simp [h])
theorem disp_bar {l d : List UInt8} (h : displayV l = some d) : hasBar d = false := by
  unfold displayV at h
  split at h
  · split at h
    · rename_i e
      simp at h; subst h
      exact unquote_bar (l := trimL l) (by rw [← e])
    · simp at h
  · split at h
    · rename_i ha
      simp at h; subst h
      rw [List.all_eq_true] at ha
      have hc : ∀ b : UInt8, (b = 32 ∨ (blk b || tokc b) = true) → barB b.toNat = false := by apply byte_all; decide +kernel
      unfold hasBar
      rw [List.any_eq_false]
      intro b hb
      simp only [Bool.not_eq_true]
      rcases join_mem _ b hb with e | ⟨w, hw, hbw⟩
      · exact hc b (Or.inl e)
      · rcases words_mem _ _ w hw b hbw with e | e
        · simp at e
        · exact hc b (Or.inr (ha b e))
    · simp at h
theorem tail_checked {d whr bhd : List UInt8} {a : Adr} (h : tailV d whr bhd = (a, 0)) (hd : d.length ≤ 64) (hb : hasBar d = false) : checkA a = 0 := by
  unfold tailV at h
  split at h
  · rename_i e; simp at h; exact absurd h.2 e
  · rename_i e1
    split at h
    · simp at h
    · split at h
      · rename_i e; simp at h; exact absurd h.2 e
      · rename_i e3
        simp only [Prod.mk.injEq, and_true] at h
        subst h
        have hp : parseV whr = ((parseV whr).1, 0) := by
          have : (parseV whr).2 = 0 := by simpa using e1
          rw [← this]
        have hf : (fieldsV (partsV 59 bhd).tail).2 = 0 := by simpa using e3
        have hfm : (fieldsV (partsV 59 bhd).tail).1.length ≤ 16 ∧ mayGo [] (fieldsV (partsV 59 bhd).tail).1 = true := by
          unfold fieldsV at hf ⊢
          split
          · rename_i hl; rw [if_pos hl] at hf; simp at hf
          · rename_i hl
            rw [if_neg hl] at hf
            cases hg : fieldsG [] (partsV 59 bhd).tail with
            | none => rw [hg] at hf; simp at hf
            | some ps =>
              obtain ⟨m1, m2⟩ := fields_may _ [] ps rfl hg
              simp only
              exact ⟨by rw [m2]; simp at hl ⊢; omega, m1⟩
        exact checkA_of hd hb (parse_checked hp) hfm.1 hfm.2
theorem parseA_checked {s : List UInt8} {a : Adr} (h : parseA s = (a, 0)) : checkA a = 0 := by
  unfold parseA parseT at h
  split at h
  · split at h
    · simp at h
    · rename_i d hd
      split at h
      · simp at h
      · rename_i hl
        refine tail_checked h ?_ (disp_bar hd)
        by_cases e : 64 < d.length
        · exact absurd (Or.inl e) hl
        · omega
  · split at h
    · simp at h
    · exact tail_checked h (by simp) rfl

-- lists
def listG : List Adr → List (List UInt8) → List Adr × Int
  | out, [] => (out, 0)
  | out, q :: qs => if (parseA q).2 ≠ 0 then ([], (parseA q).2) else listG (out ++ [(parseA q).1]) qs
def listA (s : List UInt8) : List Adr × Int := if 16 < (partsV 44 s).length then ([], 4) else listG [] (partsV 44 s)
/-- Texts with a comma and a blank between. -/
def commaT : List (List UInt8) → List UInt8
  | [] => []
  | [t] => t
  | t :: ts => t ++ [44, 32] ++ commaT ts
theorem clo_textA {a : Adr} (h : checkA a = 0) : Clo 44 (textA a) := by
  obtain ⟨h1, h2, h3, h4, h5⟩ := checkA_ok h
  obtain ⟨s1, s2, s3⟩ := text_signs h3
  unfold textA
  refine Clo.app ?_ ((clo_ang 44 fun b hb => ⟨fun e => s1 (e ▸ hb), fun e => s2 (e ▸ hb), fun e => s3 (e ▸ hb)⟩).app (clo_pars _ _ h5))
  unfold dispT
  split
  · exact Clo.nil 44
  · exact (clo_quo 44 _).app (clo_plain fun b hb => by simp at hb; subst hb; decide)
theorem parts_comma : ∀ (ts : List (List UInt8)) (t cur : List UInt8), (∀ x ∈ t :: ts, Clo 44 x) → partsG 44 pl0 cur (commaT (t :: ts)) = (cur ++ t) :: ts.map (32 :: ·)
  | [], t, cur, h => by
    have := h t (by simp) cur []
    rw [List.append_nil] at this
    rw [commaT, this, partsG]; rfl
  | x :: ts, t, cur, h => by
    rw [commaT]
    · rw [List.append_assoc, h t (by simp) cur]
      rw [show ([44, 32] : List UInt8) ++ commaT (x :: ts) = 44 :: 32 :: commaT (x :: ts) from rfl, partsG]
      have e1 : pst pl0 ((44 : UInt8).toNat : Int) = (pl0, true) := by simp [pst, pl0]
      rw [e1]
      simp only [true_and]
      rw [if_pos (by decide), partsG]
      have e2 : pst pl0 ((32 : UInt8).toNat : Int) = (pl0, true) := by simp [pst, pl0]
      rw [e2]
      simp only [true_and]
      rw [if_neg (by decide), List.nil_append, parts_comma ts x [32] (fun y hy => h y (by simp at hy ⊢; exact Or.inr hy))]
      simp
    · simp
theorem parse_blank (s : List UInt8) : parseA (32 :: s) = parseA s := by unfold parseA; rw [trimL_cons]
theorem list_back : ∀ (al out : List Adr), (∀ a ∈ al, checkA a = 0) → listG out (al.map fun a => 32 :: textA a) = (out ++ al, 0)
  | [], out, _ => by simp [listG]
  | a :: al, out, h => by
    rw [List.map_cons, listG, parse_blank, parse_textA (h a (by simp))]
    simp only [ne_eq, not_true, if_false]
    rw [list_back al _ (fun x hx => h x (by simp [hx]))]; simp
theorem many_back {al : List Adr} (hne : al ≠ []) (hl : al.length ≤ 16) (h : ∀ a ∈ al, checkA a = 0) : listA (commaT (al.map textA)) = (al, 0) := by
  cases al with
  | nil => exact absurd rfl hne
  | cons a al =>
    have e : partsV 44 (commaT ((a :: al).map textA)) = textA a :: (al.map textA).map (32 :: ·) := by
      unfold partsV
      rw [List.map_cons, parts_comma]
      · rfl
      · intro x hx
        simp only [List.mem_cons, List.mem_map] at hx
        rcases hx with rfl | ⟨y, hy, rfl⟩
        · exact clo_textA (h a (by simp))
        · exact clo_textA (h y (by simp [hy]))
    unfold listA
    rw [e, if_neg (by simp at hl ⊢; omega), listG, parse_textA (h a (by simp))]
    simp only [ne_eq, not_true, if_false]
    rw [List.map_map]
    have := list_back al [a] (fun x hx => h x (by simp [hx]))
    exact this

end Go.Proofs.YtgboekilhldejaaGreatDoor

/-
  Steps of the loops of layer 5: plain facts.
-/
namespace Go.Proofs.YtgboekilhldejaaGreatDoor
open Go.RowKit Sc
set_option linter.unusedVariables false
set_option maxRecDepth 20000
set_option linter.unusedSimpArgs false

-- Text
theorem mayGo_step {ps : List Par} {k : Nat} (hk : k < ps.length) : mayGo [] (ps.take (k + 1)) = (mayGo [] (ps.take k) && mayB (ps.take k) ps[k]) := by
  rw [List.take_succ_eq_append_getElem hk, mayGo_snoc]; rfl
theorem mayGo_take : ∀ (ps b : List Par) (k : Nat), mayGo b ps = true → mayGo b (ps.take k) = true
  | [], b, k, h => by simpa using h
  | p :: ps, b, 0, h => rfl
  | p :: ps, b, k + 1, h => by
    rw [mayGo, Bool.and_eq_true] at h
    rw [List.take_succ_cons, mayGo, h.1, mayGo_take ps _ k h.2]; rfl
theorem mayGo_bad {ps : List Par} {k : Nat} (hk : k < ps.length) (h : mayB (ps.take k) ps[k] = false) : mayGo [] ps = false := by
  cases e : mayGo [] ps with
  | false => rfl
  | true =>
    have := mayGo_take ps [] (k + 1) e
    rw [mayGo_step hk, h] at this; simp at this
theorem parsA_step {ps : List Par} {k : Nat} (hk : k < ps.length) : parsA (ps.take (k + 1)) = parsA (ps.take k) ++ ([59] ++ parT ps[k]) := by
  unfold parsA
  rw [List.take_succ_eq_append_getElem hk, List.flatMap_append]; simp
theorem text_many {ps : List Par} (h : 16 < ps.length) : textV ps = ([], 4) := by rw [textV, if_pos h]
theorem text_bad {ps : List Par} (h : ps.length ≤ 16) (h2 : mayGo [] ps = false) : textV ps = ([], 34) := by rw [textV, if_neg (by omega), if_neg (by rw [h2]; simp)]
theorem text_good {ps : List Par} (h : ps.length ≤ 16) (h2 : mayGo [] ps = true) : textV ps = (parsA ps, 0) := by rw [textV, if_neg (by omega), if_pos h2]
theorem valT_len (v : List UInt8) : (valT v).length ≤ 2 * v.length + 2 := by
  unfold valT
  split
  · omega
  · have := quo_len v; simp; omega
theorem parT_len (p : Par) : (parT p).length ≤ p.name.length + 2 * p.value.length + 3 := by
  unfold parT
  have := valT_len p.value
  split <;> simp <;> omega
theorem parsA_len (N : Nat) : ∀ ps : List Par, (∀ p ∈ ps, p.name.length ≤ N ∧ p.value.length ≤ N) → (parsA ps).length ≤ ps.length * (3 * N + 4)
  | [], _ => by simp [parsA]
  | p :: ps, h => by
    have h1 := h p (by simp)
    have h2 := parsA_len N ps (fun q hq => h q (by simp [hq]))
    have h3 := parT_len p
    have e : parsA (p :: ps) = ([59] ++ parT p) ++ parsA ps := by simp [parsA]
    rw [e, List.length_append, List.length_append, List.length_cons (a := p), Nat.succ_mul]
    simp only [List.length_cons, List.length_nil]
    omega

-- Fields
theorem fields_on {qs : List (List UInt8)} {out : List Par} {k : Nat} {p : Par} (hk : k < qs.length) (h : fieldsG [] qs = fieldsG out (qs.drop k)) (hp : fieldOf qs[k] = some p) (hm : mayB out p = true) : fieldsG [] qs = fieldsG (out ++ [p]) (qs.drop (k + 1)) := by
  rw [h, List.drop_eq_getElem_cons hk, fieldsG, hp]; simp only [hm, if_true]
theorem fields_none {qs : List (List UInt8)} {out : List Par} {k : Nat} (hk : k < qs.length) (h : fieldsG [] qs = fieldsG out (qs.drop k)) (hp : fieldOf qs[k] = none) : fieldsG [] qs = none := by
  rw [h, List.drop_eq_getElem_cons hk, fieldsG, hp]
theorem fields_not {qs : List (List UInt8)} {out : List Par} {k : Nat} {p : Par} (hk : k < qs.length) (h : fieldsG [] qs = fieldsG out (qs.drop k)) (hp : fieldOf qs[k] = some p) (hm : mayB out p = false) : fieldsG [] qs = none := by
  rw [h, List.drop_eq_getElem_cons hk, fieldsG, hp]; simp [hm]
theorem fieldsV_bad {qs : List (List UInt8)} (hl : qs.length ≤ 16) (h : fieldsG [] qs = none) : fieldsV qs = ([], 34) := by rw [fieldsV, if_neg (by omega), h]
theorem fieldsV_ok {qs : List (List UInt8)} {ps : List Par} (hl : qs.length ≤ 16) (h : fieldsG [] qs = some ps) : fieldsV qs = (ps, 0) := by rw [fieldsV, if_neg (by omega), h]
theorem fieldsV_many {qs : List (List UInt8)} (hl : 16 < qs.length) : fieldsV qs = ([], 4) := by rw [fieldsV, if_pos hl]

-- words of a Display
theorem words_blank1 {b : UInt8} {r : List UInt8} (hb : blk b = true) : wordsG [] (b :: r) = wordsG [] r := by rw [wordsG, if_pos hb, if_pos rfl]
theorem words_blank2 {b : UInt8} {r cur : List UInt8} (hb : blk b = true) (hc : cur ≠ []) : wordsG cur (b :: r) = cur :: wordsG [] r := by rw [wordsG, if_pos hb, if_neg hc]
theorem words_sign {b : UInt8} {r cur : List UInt8} (hb : blk b = false) : wordsG cur (b :: r) = wordsG (cur ++ [b]) r := by rw [wordsG, if_neg (by rw [hb]; simp)]

-- where an angle opens
theorem open_esc {b : UInt8} {r : List UInt8} (hb : b = 92) : openV true (b :: r) = (openV true (r.drop 1)).map (· + 2) := by
  subst hb
  cases r with
  | nil => rfl
  | cons c r => rw [openV_cons (by simp), if_pos rfl]; rfl
theorem open_q2 {b : UInt8} {r : List UInt8} (hb : b = 34) : openV true (b :: r) = (openV false r).map (· + 1) := by
  subst hb
  cases r with
  | nil => rfl
  | cons c r => rw [openV_cons (by simp), if_neg (by decide), if_pos rfl]
theorem open_in {b : UInt8} {r : List UInt8} (h1 : b ≠ 92) (h2 : b ≠ 34) : openV true (b :: r) = (openV true r).map (· + 1) := by
  cases r with
  | nil => rfl
  | cons c r => rw [openV_cons (by simp), if_neg h1, if_neg h2]
theorem open_hit {r : List UInt8} : openV false (60 :: r) = some 0 := by rw [openV, if_pos rfl]
theorem open_q1 {r : List UInt8} : openV false (34 :: r) = (openV true r).map (· + 1) := by rw [openV, if_neg (by decide), if_pos rfl]
theorem open_out {b : UInt8} {r : List UInt8} (h1 : b ≠ 60) (h2 : b ≠ 34) : openV false (b :: r) = (openV false r).map (· + 1) := by rw [openV, if_neg h1, if_neg h2]
theorem openV_lt : ∀ (n : Nat) (l : List UInt8) (q : Bool) (k : Nat), l.length ≤ n → openV q l = some k → k < l.length ∧ l[k]? = some 60
  | 0, l, q, k, hl, h => by
    obtain rfl := List.eq_nil_of_length_eq_zero (Nat.le_zero.1 hl)
    cases q <;> simp [openV] at h
  | n + 1, [], q, k, hl, h => by cases q <;> simp [openV] at h
  | n + 1, b :: r, q, k, hl, h => by
    simp only [List.length_cons] at hl
    cases q with
    | false =>
      by_cases h1 : b = 60
      · subst h1; rw [open_hit] at h; simp at h; subst h; simp
      · by_cases h2 : b = 34
        · subst h2; rw [open_q1] at h
          simp only [Option.map_eq_some_iff] at h
          obtain ⟨x, hx, rfl⟩ := h
          have := openV_lt n r true x (by omega) hx
          simp; exact this
        · rw [open_out h1 h2] at h
          simp only [Option.map_eq_some_iff] at h
          obtain ⟨x, hx, rfl⟩ := h
          have := openV_lt n r false x (by omega) hx
          simp; exact this
    | true =>
      by_cases h1 : b = 92
      · rw [open_esc h1] at h
        simp only [Option.map_eq_some_iff] at h
        obtain ⟨x, hx, rfl⟩ := h
        have := openV_lt n (r.drop 1) true x (by simp; omega) hx
        rw [List.getElem?_drop] at this
        simp only [List.length_drop] at this
        refine ⟨by simp; omega, ?_⟩
        rw [List.getElem?_cons_succ, ← this.2]; congr 1; omega
      · by_cases h2 : b = 34
        · rw [open_q2 h2] at h
          simp only [Option.map_eq_some_iff] at h
          obtain ⟨x, hx, rfl⟩ := h
          have := openV_lt n r false x (by omega) hx
          simp; exact this
        · rw [open_in h1 h2] at h
          simp only [Option.map_eq_some_iff] at h
          obtain ⟨x, hx, rfl⟩ := h
          have := openV_lt n r true x (by omega) hx
          simp; exact this

end Go.Proofs.YtgboekilhldejaaGreatDoor
