/-
  Base texts, one behind another: SameL, AddrL, AddrBackL.
-/
import Derived.Test.YtnijlmkodgdhlaaDoorYG
import Derived.Test.YtnijlmkodgdhlaaDoorYE

/-
  When two URIs are one, and whose a URI is: plain facts.
-/
namespace Go.Proofs.YtnijlmkodgdhlaaDoor
open Go.RowKit Sc
set_option linter.unusedVariables false
set_option maxRecDepth 20000

def findV (ps : List Par) (nm : List UInt8) : Option Par := ps.find? fun p => sameB p.name nm
def noP : Par := ⟨[], [], false⟩
def graveB (nm : List UInt8) : Bool := lowL nm == [117, 115, 101, 114] || (lowL nm == [116, 116, 108] || (lowL nm == [109, 101, 116, 104, 111, 100] || lowL nm == [109, 97, 100, 100, 114]))
def okP (qs : List Par) (p : Par) : Bool := match findV qs p.name with | none => !graveB p.name | some q => q.has == p.has && sameB q.value p.value
def okH (qs : List Par) (p : Par) : Bool := match findV qs p.name with | none => false | some q => q.value == p.value
/-- The code's own test of a header: Has plays a part. -/
def okM (qs : List Par) (p : Par) : Bool := match findV qs p.name with | none => false | some q => q.value == p.value && q.has == p.has
/-- The plain parts are the same. -/
def partsB (u v : Uri) : Bool := u.scheme == v.scheme && (u.user == v.user && (u.host == v.host && u.port == v.port))
def equalV (u v : Uri) : Bool :=
  decide (checkV u = 0) && (decide (checkV v = 0) && (partsB u v &&
    (u.params.all (okP v.params) && (u.headers.all (okH v.headers) && (v.params.all (okP u.params) && v.headers.all (okH u.headers))))))

theorem find_snoc {ps : List Par} {k : Nat} {nm : List UInt8} (hk : k < ps.length) (h : findV (ps.take k) nm = none) (hs : sameB ps[k].name nm = false) : findV (ps.take (k + 1)) nm = none := by
  unfold findV at *
  rw [List.take_succ_eq_append_getElem hk, List.find?_append, h]
  simp [hs]
theorem find_hit {ps : List Par} {k : Nat} {nm : List UInt8} (hk : k < ps.length) (h : findV (ps.take k) nm = none) (hs : sameB ps[k].name nm = true) : findV ps nm = some ps[k] := by
  unfold findV at *
  have e : ps = ps.take k ++ ps[k] :: ps.drop (k + 1) := by rw [← List.drop_eq_getElem_cons hk, List.take_append_drop]
  conv => lhs; rw [e]
  rw [List.find?_append, h, List.find?_cons, hs]; rfl
theorem all_snoc {f : Par → Bool} {ps : List Par} {k : Nat} (hk : k < ps.length) (h : (ps.take k).all f = true) (hb : f ps[k] = true) : (ps.take (k + 1)).all f = true := by
  rw [List.take_succ_eq_append_getElem hk, List.all_append, h]; simp [hb]
theorem all_bad {f : Par → Bool} {ps : List Par} {k : Nat} (hk : k < ps.length) (hb : f ps[k] = false) : ps.all f = false := by
  rw [List.all_eq_false]; exact ⟨ps[k], List.getElem_mem hk, by simp [hb]⟩

/-- Names apart. -/
def Apart (ps : List Par) : Prop := ps.Pairwise fun p q => sameB p.name q.name = false
theorem sameB_comm (a b : List UInt8) : sameB a b = sameB b a := by unfold sameB; exact BEq.comm
theorem sameB_self (a : List UInt8) : sameB a a = true := by simp [sameB]
theorem sameB_trans {a b c : List UInt8} (h : sameB a b = true) (k : sameB b c = true) : sameB a c = true := by simp only [sameB, beq_iff_eq] at *; exact h.trans k
theorem listGo_iff (ps : List Par) : ∀ before : List Par, listGo before ps = true ↔ (∀ p ∈ ps, parB p = true) ∧ Apart ps ∧ ∀ b ∈ before, ∀ p ∈ ps, sameB b.name p.name = false := by
  induction ps with
  | nil => intro before; simp [listGo, Apart]
  | cons q ps ih =>
    intro before
    rw [listGo, Bool.and_eq_true, Bool.and_eq_true, ih]
    unfold Apart apartB
    simp only [List.all_eq_true, Bool.not_eq_true', List.mem_cons, List.mem_append, List.pairwise_cons, List.not_mem_nil, or_false]
    constructor
    · rintro ⟨h1, h2, h3, h4, h5⟩
      refine ⟨?_, ⟨fun p hp => h5 q (Or.inr rfl) p hp, h4⟩, ?_⟩
      · rintro p (rfl | hp)
        · exact h1
        · exact h3 p hp
      · rintro b hb p (rfl | hp)
        · exact h2 b hb
        · exact h5 b (Or.inl hb) p hp
    · rintro ⟨h1, ⟨h2, h3⟩, h4⟩
      refine ⟨h1 q (Or.inl rfl), fun b hb => h4 b hb q (Or.inl rfl), fun p hp => h1 p (Or.inr hp), h3, ?_⟩
      rintro b (hb | rfl) p hp
      · exact h4 b hb p (Or.inr hp)
      · exact h2 p hp
theorem listB_iff (ps : List Par) : listB ps = true ↔ ps.length ≤ 16 ∧ (∀ p ∈ ps, parB p = true) ∧ Apart ps := by
  rw [listB, Bool.and_eq_true, decide_eq_true_eq, listGo_iff]; simp
theorem apart_rev {ps : List Par} (h : Apart ps) : Apart ps.reverse := by
  unfold Apart at *
  rw [List.pairwise_reverse]
  exact h.imp fun {a b} e => by rw [sameB_comm]; exact e
theorem listB_rev (ps : List Par) : listB ps.reverse = listB ps := by
  rw [Bool.eq_iff_iff, listB_iff, listB_iff]
  simp only [List.length_reverse, List.mem_reverse]
  constructor
  · rintro ⟨h1, h2, h3⟩; exact ⟨h1, h2, by simpa using apart_rev h3⟩
  · rintro ⟨h1, h2, h3⟩; exact ⟨h1, h2, apart_rev h3⟩
theorem find_iff {ps : List Par} (h : Apart ps) (nm : List UInt8) (p : Par) : findV ps nm = some p ↔ p ∈ ps ∧ sameB p.name nm = true := by
  unfold findV
  induction ps with
  | nil => simp
  | cons q ps ih =>
    unfold Apart at h
    rw [List.pairwise_cons] at h
    rw [List.find?_cons]
    cases hq : sameB q.name nm with
    | true =>
      simp only [Option.some.injEq, List.mem_cons]
      constructor
      · rintro rfl; exact ⟨Or.inl rfl, hq⟩
      · rintro ⟨rfl | hp, hs⟩
        · rfl
        · have := h.1 p hp
          rw [sameB_trans hq (by rw [sameB_comm]; exact hs)] at this; cases this
    | false =>
      simp only [List.mem_cons]
      rw [ih h.2]
      constructor
      · rintro ⟨h1, h2⟩; exact ⟨Or.inr h1, h2⟩
      · rintro ⟨rfl | hp, hs⟩
        · rw [hq] at hs; cases hs
        · exact ⟨hp, hs⟩
theorem find_rev {ps : List Par} (h : Apart ps) (nm : List UInt8) : findV ps.reverse nm = findV ps nm := by
  apply Option.ext
  intro p
  show findV ps.reverse nm = some p ↔ findV ps nm = some p
  rw [find_iff h, find_iff (apart_rev h), List.mem_reverse]
theorem find_self {ps : List Par} (h : Apart ps) {p : Par} (hp : p ∈ ps) : findV ps p.name = some p := (find_iff h _ _).2 ⟨hp, sameB_self _⟩
theorem okP_self {ps : List Par} (h : Apart ps) : ps.all (okP ps) = true := by
  rw [List.all_eq_true]; intro p hp; simp [okP, find_self h hp, sameB_self]
theorem okH_self {ps : List Par} (h : Apart ps) : ps.all (okH ps) = true := by
  rw [List.all_eq_true]; intro p hp; simp [okH, find_self h hp]

theorem apart_of {u : Uri} (h : checkV u = 0) : Apart u.params ∧ Apart u.headers := by
  obtain ⟨_, _, _, _, _, h1, h2, _⟩ := check_ok h
  exact ⟨((listB_iff _).1 h1).2.2, ((listB_iff _).1 h2).2.2⟩
theorem equal_self (u : Uri) : equalV u u = decide (checkV u = 0) := by
  unfold equalV
  by_cases h : checkV u = 0
  · obtain ⟨a1, a2⟩ := apart_of h
    rw [okP_self a1, okH_self a2]; simp [h, partsB]
  · simp [h]
theorem equal_comm (u v : Uri) : equalV u v = equalV v u := by
  unfold equalV
  have e : partsB u v = partsB v u := by
    rw [Bool.eq_iff_iff]; simp only [partsB, Bool.and_eq_true, beq_iff_eq]
    constructor <;> (rintro ⟨h1, h2, h3, h4⟩; exact ⟨h1.symm, h2.symm, h3.symm, h4.symm⟩)
  rw [e]
  cases decide (checkV u = 0) <;> cases decide (checkV v = 0) <;> cases u.params.all (okP v.params) <;> cases u.headers.all (okH v.headers) <;> cases v.params.all (okP u.params) <;> cases v.headers.all (okH u.headers) <;> simp
/-- The lists the other way round. -/
def turnU (u : Uri) : Uri := { u with params := u.params.reverse, headers := u.headers.reverse }
theorem check_turn (u : Uri) : checkV (turnU u) = checkV u := by
  unfold checkV turnU
  simp only [listB_rev, List.all_reverse]
theorem okP_rev {ps : List Par} (h : Apart ps) : okP ps.reverse = okP ps := by funext p; unfold okP; rw [find_rev h]
theorem okH_rev {ps : List Par} (h : Apart ps) : okH ps.reverse = okH ps := by funext p; unfold okH; rw [find_rev h]
theorem equal_turn (u v : Uri) : equalV (turnU u) v = equalV u v := by
  by_cases h : checkV u = 0
  · obtain ⟨a1, a2⟩ := apart_of h
    unfold equalV
    rw [check_turn]
    unfold turnU partsB
    simp only [List.all_reverse, okP_rev a1, okH_rev a2]
  · unfold equalV; rw [check_turn]; simp [h]
theorem equal_turned {u : Uri} (h : checkV u = 0) : equalV u (turnU u) = true := by
  rw [equal_comm, equal_turn, equal_self]; simp [h]

/-- A URI without its lists. -/
def bareU (u : Uri) : Uri := { u with params := [], headers := [] }
theorem equal_bare {u v : Uri} (h1 : checkV (bareU u) = 0) (h2 : checkV (bareU v) = 0) : equalV (bareU u) (bareU v) = (textT (bareU u) == textT (bareU v)) := by
  rw [Bool.eq_iff_iff]
  unfold equalV
  rw [decide_eq_true h1, decide_eq_true h2]
  simp only [Bool.true_and, bareU, List.all_nil, Bool.and_true, partsB, Bool.and_eq_true, beq_iff_eq]
  constructor
  · rintro ⟨e1, e2, e3, e4⟩; rw [e1, e2, e3, e4]
  · intro e
    have k1 := parse_text h1
    have k2 := parse_text h2
    simp only [bareU] at k1 k2
    rw [e, k2] at k1
    simp only [Prod.mk.injEq, and_true, Uri.mk.injEq] at k1
    obtain ⟨e1, e2, e3, e4⟩ := k1
    exact ⟨e1.symm, e2.symm, e3.symm, e4.symm⟩

def sipK : List UInt8 := [115, 105, 112]
def whoT (u : Uri) : List UInt8 := escL usersK u.user ++ [64] ++ u.host
def whoV (u : Uri) : List UInt8 × Int := if checkV u ≠ 0 then ([], checkV u) else if u.user = [] then ([], 31) else (whoT u, 0)
/-- The URI that a name is printed of. -/
def nameU (sch : List UInt8) (u : Uri) : Uri := ⟨sch, u.user, u.host, 0, [], []⟩
theorem check_name {sch : List UInt8} {u : Uri} (hs : schemeB sch = true) (h : checkV u = 0) : checkV (nameU sch u) = 0 := by
  obtain ⟨_, h2, h3, _⟩ := check_ok h
  have h2' : ¬ 64 < u.user.length := by omega
  simp [checkV, nameU, hs, h2', h3, listB, listGo]
theorem text_name {u : Uri} (hu : u.user ≠ []) : textT (nameU sipK u) = [115, 105, 112, 58] ++ whoT u := by
  simp [textT, frontT, nameU, hu, parsT, hdrT, whoT, sipK]
theorem print_name {u : Uri} (h : checkV u = 0) (hu : u.user ≠ []) : printV (nameU sipK u) = ([115, 105, 112, 58] ++ whoT u, 0) := by
  rw [printV, if_pos (check_name (by decide +kernel) h), text_name hu]
def hostV (s : List UInt8) : List UInt8 × Int :=
  if (parseV ([115, 105, 112, 58] ++ s)).2 ≠ 0 then ([], (parseV ([115, 105, 112, 58] ++ s)).2)
  else if whoV (parseV ([115, 105, 112, 58] ++ s)).1 = (s, 0) then ((parseV ([115, 105, 112, 58] ++ s)).1.host, 0) else ([], 31)
theorem parse_name {u : Uri} (h : checkV u = 0) (hu : u.user ≠ []) : parseV ([115, 105, 112, 58] ++ whoT u) = (nameU sipK u, 0) := by
  rw [← text_name hu]; exact parse_text (check_name (by decide +kernel) h)
theorem who_name {sch : List UInt8} {u : Uri} (hs : schemeB sch = true) (h : checkV u = 0) (hu : u.user ≠ []) : whoV (nameU sch u) = (whoT u, 0) := by
  rw [whoV, if_neg (by simp [check_name hs h]), if_neg (by simpa [nameU] using hu)]; rfl
theorem host_who {u : Uri} (h : checkV u = 0) (hu : u.user ≠ []) : hostV (whoT u) = (u.host, 0) := by
  rw [hostV, parse_name h hu]
  simp only [ne_eq, not_true, if_false]
  rw [who_name (by decide +kernel) h hu]; simp [nameU]
theorem who_inj {u v : Uri} (h : checkV u = 0) (hu : u.user ≠ []) (k : checkV v = 0) (kv : v.user ≠ []) : (whoT u == whoT v) = decide (u.user = v.user ∧ u.host = v.host) := by
  rw [Bool.eq_iff_iff]
  simp only [beq_iff_eq, decide_eq_true_eq]
  constructor
  · intro e
    have k1 := parse_name h hu
    rw [e, parse_name k kv] at k1
    simp only [nameU, Prod.mk.injEq, and_true, Uri.mk.injEq, true_and] at k1
    exact ⟨k1.1.symm, k1.2.symm⟩
  · rintro ⟨e1, e2⟩; rw [whoT, whoT, e1, e2]
theorem escL_len (keep l : List UInt8) : (escL keep l).length ≤ 3 * l.length := by
  unfold escL
  induction l with
  | nil => simp [esc]
  | cons b l ih =>
    rw [esc]
    split <;> simp <;> omega
theorem whoT_len {u : Uri} (h : checkV u = 0) : (whoT u).length ≤ 257 := by
  obtain ⟨_, h2, h3, _⟩ := check_ok h
  have := hostB_ok h3
  have := escL_len usersK u.user
  simp [whoT]; omega

end Go.Proofs.YtnijlmkodgdhlaaDoor

/-
  Addresses, read and written: plain functions.
-/
namespace Go.Proofs.YtnijlmkodgdhlaaDoor
open Go.RowKit Sc
set_option linter.unusedVariables false
set_option maxRecDepth 20000
set_option linter.unusedSimpArgs false

/-- An address' parts. -/
structure Adr where
  display : List UInt8
  uri : Uri
  params : List Par
deriving DecidableEq
def noA : Adr := ⟨[], noU, []⟩

def wordB (l : List UInt8) : Bool := tokenB l || hostB (lowL l)
def mayB (before : List Par) (p : Par) : Bool := tokenB p.name && ((findV before p.name).isNone && (decide (p.value.length ≤ 64) && (!hasBar p.value && (p.has || p.value.isEmpty))))
def quoB (l : List UInt8) : Bool := l.head? == some 34
/-- A value as it stands behind a =, blanks taken off. -/
def valueP (v : List UInt8) (has : Bool) : Option (List UInt8) :=
  if quoB v = true then (if (unquoteV v).2 = 0 then some (unquoteV v).1 else none) else if has = true ∧ wordB v = false then none else some v
def fieldOf (q : List UInt8) : Option Par := (valueP (trimL (cutL 61 q).2.1) (cutL 61 q).2.2).map fun v => ⟨trimL (cutL 61 q).1, v, (cutL 61 q).2.2⟩
def fieldsG : List Par → List (List UInt8) → Option (List Par)
  | out, [] => some out
  | out, q :: qs => match fieldOf q with | none => none | some p => if mayB out p = true then fieldsG (out ++ [p]) qs else none
def fieldsV (qs : List (List UInt8)) : List Par × Int := if 16 < qs.length then ([], 4) else match fieldsG [] qs with | some ps => (ps, 0) | none => ([], 34)

def valT (v : List UInt8) : List UInt8 := if wordB v = true then v else 34 :: quo v ++ [34]
def parT (p : Par) : List UInt8 := if p.has = true then p.name ++ [61] ++ valT p.value else p.name
def mayGo : List Par → List Par → Bool
  | _, [] => true
  | b, p :: ps => mayB b p && mayGo (b ++ [p]) ps
def parsA (ps : List Par) : List UInt8 := ps.flatMap fun p => [59] ++ parT p
def textV (ps : List Par) : List UInt8 × Int := if 16 < ps.length then ([], 4) else if mayGo [] ps = true then (parsA ps, 0) else ([], 34)

def checkA (a : Adr) : Int := if 64 < a.display.length ∨ hasBar a.display = true then 50 else if checkV a.uri ≠ 0 then checkV a.uri else (textV a.params).2
def dispT (l : List UInt8) : List UInt8 := if l = [] then [] else (34 :: quo l ++ [34]) ++ [32]
def textA (a : Adr) : List UInt8 := dispT a.display ++ ([60] ++ textT a.uri ++ [62] ++ parsA a.params)
def printA (a : Adr) : List UInt8 × Int := if checkA a = 0 then (textA a, 0) else ([], checkA a)

/-- The words of a text, between blanks. -/
def wordsG : List UInt8 → List UInt8 → List (List UInt8)
  | cur, [] => if cur = [] then [] else [cur]
  | cur, b :: r => if blk b = true then (if cur = [] then wordsG [] r else cur :: wordsG [] r) else wordsG (cur ++ [b]) r
def tokc (b : UInt8) : Bool := isB b.toNat 8
def joinB : List (List UInt8) → List UInt8
  | [] => []
  | [w] => w
  | w :: ws => w ++ [32] ++ joinB ws
def displayV (l : List UInt8) : Option (List UInt8) :=
  if quoB (trimL l) = true then (if (unquoteV (trimL l)).2 = 0 then some (unquoteV (trimL l)).1 else none)
  else if (trimL l).all (fun b => blk b || tokc b) = true then some (joinB (wordsG [] (trimL l))) else none
/-- Where the first < stands that is not within a quoted text. -/
def openV : Bool → List UInt8 → Option Nat
  | _, [] => none
  | true, [b] => none
  | true, b :: c :: r => if b = 92 then (openV true r).map (· + 2) else if b = 34 then (openV false (c :: r)).map (· + 1) else (openV true (c :: r)).map (· + 1)
  | false, b :: r => if b = 60 then some 0 else if b = 34 then (openV true r).map (· + 1) else (openV false r).map (· + 1)
/-- The URI's text and what is left behind it, of a text without angles. -/
def plainV (s : List UInt8) : List UInt8 × List UInt8 := if hasL 59 s = true then ((cutL 59 s).1, 59 :: (cutL 59 s).2.1) else (s, [])
/-- From the URI's text on. -/
def tailV (d whr bhd : List UInt8) : Adr × Int :=
  if (parseV whr).2 ≠ 0 then (noA, (parseV whr).2)
  else if trimL ((partsV 59 bhd).headD []) ≠ [] then (noA, 50)
  else if (fieldsV (partsV 59 bhd).tail).2 ≠ 0 then (noA, (fieldsV (partsV 59 bhd).tail).2)
  else (⟨d, (parseV whr).1, (fieldsV (partsV 59 bhd).tail).1⟩, 0)
def parseT (s : List UInt8) : Adr × Int :=
  match openV false s with
  | some k => (match displayV (s.take k) with
      | none => (noA, 50)
      | some d => if 64 < d.length ∨ hasL 62 (s.drop k) = false then (noA, 50) else tailV d (cutL 62 (s.drop (k + 1))).1 (cutL 62 (s.drop (k + 1))).2.1)
  | none => if hasL 63 (trimL (plainV s).1) = true ∨ hasL 44 (trimL (plainV s).1) = true ∨ hasL 34 (trimL (plainV s).1) = true then (noA, 50) else tailV [] (trimL (plainV s).1) (plainV s).2
def parseA (s : List UInt8) : Adr × Int := parseT (trimL s)

-- quoted texts
theorem bare_not {b : UInt8} (h : bareB b.toNat = true) : b ≠ 92 ∧ b ≠ 34 := by
  revert h; revert b; apply byte_all; decide +kernel
theorem bad_of {b : UInt8} (h : bareB b.toNat = false) (k : barB b.toNat = false) : badB b.toNat = false := by
  revert h k; revert b; apply byte_all; decide +kernel
theorem bareN {b : UInt8} (h : bareB b.toNat = true) : (b.toNat : Int) ≠ 92 := by
  revert h; revert b; apply byte_all; decide +kernel
theorem unqQuo : ∀ (l : List UInt8), hasBar l = false → unq (quo l) = some l
  | [], _ => rfl
  | b :: r, h => by
    have hb : barB b.toNat = false ∧ hasBar r = false := by simpa [hasBar] using h
    rw [quo]
    cases hq : bareB b.toNat with
    | true =>
      simp only [if_true, List.singleton_append]
      rw [unq_plain (Or.inl (bareN hq)), hq, unqQuo r hb.2]; rfl
    | false =>
      simp only [Bool.false_eq_true, if_false, List.cons_append, List.nil_append]
      rw [unq_esc (by decide), bad_of hq hb.1, unqQuo r hb.2]; rfl
theorem unquote_quo {l : List UInt8} (h : hasBar l = false) : unquoteV (34 :: quo l ++ [34]) = (l, 0) := by
  have hm : mid (34 :: quo l ++ [34]) 1 ((34 :: quo l ++ [34]).length - 1) = quo l := by unfold mid; simp
  refine unquoteV_some ?_ (by rw [hm]; exact unqQuo l h)
  simp
/-- What is unquoted can be quoted. -/
theorem unq_bar : ∀ (n : Nat) (l r : List UInt8), l.length ≤ n → unq l = some r → hasBar r = false
  | 0, l, r, hl, h => by
    obtain rfl := List.eq_nil_of_length_eq_zero (Nat.le_zero.1 hl)
    simp [unq] at h; subst h; rfl
  | n + 1, l, r, hl, h => by
    have hbb : ∀ b : UInt8, bareB b.toNat = true → barB b.toNat = false := by apply byte_all; decide +kernel
    have hbd : ∀ b : UInt8, badB b.toNat = false → barB b.toNat = false := by apply byte_all; decide +kernel
    match l, hl, h with
    | [], _, h => simp [unq] at h; subst h; rfl
    | [b], _, h =>
      rw [unq] at h
      split at h
      · rename_i hb; simp at h; subst h; simp [hasBar, hbb b hb]
      · simp at h
    | b :: c :: r', hl, h =>
      rw [unq] at h
      split at h
      · split at h
        · simp at h
        · rename_i hbad
          simp only [Option.map_eq_some_iff] at h
          obtain ⟨x, hx, rfl⟩ := h
          have := unq_bar n r' x (by simp at hl; omega) hx
          have hc := hbd c (by simpa using hbad)
          simp [hasBar, hc] at this ⊢; exact this
      · split at h
        · rename_i hb
          simp only [Option.map_eq_some_iff] at h
          obtain ⟨x, hx, rfl⟩ := h
          have := unq_bar n (c :: r') x (by simp at hl ⊢; omega) hx
          simp [hasBar, hbb b hb] at this ⊢; exact this
        · simp at h
theorem unquote_bar {l r : List UInt8} (h : unquoteV l = (r, 0)) : hasBar r = false := by
  unfold unquoteV at h
  split at h
  · simp at h
  · split at h
    · rename_i x hx; simp at h; subst h; exact unq_bar _ _ _ (Nat.le_refl _) hx
    · simp at h

end Go.Proofs.YtnijlmkodgdhlaaDoor

/-
  Addresses there and back: plain facts.
-/
namespace Go.Proofs.YtnijlmkodgdhlaaDoor
open Go.RowKit Sc
set_option linter.unusedVariables false
set_option maxRecDepth 20000
set_option linter.unusedSimpArgs false

-- blanks at the ends
theorem dropW_id {l : List UInt8} (h : ∀ b, l.head? = some b → blk b = false) : l.dropWhile blk = l := by
  cases l with
  | nil => rfl
  | cons x l => rw [List.dropWhile_cons, h x rfl]; rfl
theorem trimL_id {l : List UInt8} (h1 : ∀ b, l.head? = some b → blk b = false) (h2 : ∀ b, l.getLast? = some b → blk b = false) : trimL l = l := by
  unfold trimL
  rw [dropW_id h1, dropW_id (by intro b hb; rw [List.head?_reverse] at hb; exact h2 b hb), List.reverse_reverse]
theorem trimL_all {l : List UInt8} (h : ∀ b ∈ l, blk b = false) : trimL l = l :=
  trimL_id (fun b hb => h b (List.mem_of_mem_head? hb)) (fun b hb => h b (List.mem_of_mem_getLast? hb))
theorem blk32 : blk 32 = true := by decide +kernel
theorem dropW_snoc {l : List UInt8} (x : UInt8) (hx : blk x = true) : ((l ++ [x]).dropWhile blk).reverse.dropWhile blk = (l.dropWhile blk).reverse.dropWhile blk := by
  induction l with
  | nil => simp [List.dropWhile_cons, hx]
  | cons y l ih =>
    rw [List.cons_append, List.dropWhile_cons, List.dropWhile_cons]
    split
    · exact ih
    · rw [← List.cons_append, List.reverse_append, List.reverse_singleton, List.singleton_append, List.dropWhile_cons, hx]; rfl
theorem trimL_snoc (l : List UInt8) : trimL (l ++ [32]) = trimL l := by unfold trimL; rw [dropW_snoc 32 blk32]
theorem trimL_cons (l : List UInt8) : trimL (32 :: l) = trimL l := by unfold trimL; rw [List.dropWhile_cons, blk32]; rfl
theorem last_app {a b : List UInt8} (hb : b ≠ []) {x : UInt8} (h : (a ++ b).getLast? = some x) : b.getLast? = some x := by
  rw [List.getLast?_append] at h
  cases hl : b.getLast? with
  | none => exact absurd (List.getLast?_eq_none_iff.1 hl) hb
  | some y => rw [hl] at h; simpa using h

-- words and tokens
def wch (b : UInt8) : Bool := tokc b || hob (lowb b)
theorem tok_facts {l : List UInt8} (h : tokenB l = true) : l ≠ [] ∧ l.length ≤ 64 ∧ ∀ b ∈ l, tokc b = true := by
  unfold tokenB at h
  simp only [Bool.and_eq_true, decide_eq_true_eq] at h
  refine ⟨by intro e; subst e; simp at h, h.1.2, fun b hb => ?_⟩
  have := h.2
  unfold allB at this
  exact List.all_eq_true.1 this b hb
theorem word_facts {l : List UInt8} (h : wordB l = true) : l ≠ [] ∧ ∀ b ∈ l, wch b = true := by
  unfold wordB at h
  rw [Bool.or_eq_true] at h
  rcases h with h | h
  · obtain ⟨h1, _, h3⟩ := tok_facts h
    exact ⟨h1, fun b hb => by simp [wch, h3 b hb]⟩
  · have hf := (host_facts h).1
    have hk := hostB_ok h
    refine ⟨by intro e; subst e; simp [lowL] at hk, fun b hb => ?_⟩
    have := hf (lowb b) (by unfold lowL; exact List.mem_map_of_mem hb)
    simp [wch, this]
theorem wch_facts : ∀ b : UInt8, wch b = true → blk b = false ∧ b ≠ 34 ∧ b ≠ 60 ∧ b ≠ 62 ∧ b ≠ 59 ∧ b ≠ 44 ∧ b ≠ 61 := by apply byte_all; decide +kernel
theorem tok_wch {b : UInt8} (h : tokc b = true) : wch b = true := by simp [wch, h]

-- quoted texts and angles, at places
/-- A text that stands whole between any two cuts at a sign. -/
def Clo (sep : Int) (t : List UInt8) : Prop := ∀ cur r, partsG sep pl0 cur (t ++ r) = partsG sep pl0 (cur ++ t) r
theorem Clo.nil (sep : Int) : Clo sep [] := fun cur r => by simp
theorem Clo.app {sep : Int} {a b : List UInt8} (ha : Clo sep a) (hb : Clo sep b) : Clo sep (a ++ b) := fun cur r => by
  rw [List.append_assoc, ha, hb, List.append_assoc]
theorem clo_plain {sep : Int} {t : List UInt8} (h : ∀ b ∈ t, b ≠ 34 ∧ b ≠ 60 ∧ b ≠ 62 ∧ (b.toNat : Int) ≠ sep) : Clo sep t := by
  induction t with
  | nil => exact Clo.nil sep
  | cons x t ih =>
    intro cur r
    obtain ⟨h1, h2, h3, h4⟩ := h x (by simp)
    have hp : ∀ y : UInt8, y ≠ 34 → y ≠ 60 → y ≠ 62 → pst pl0 (y.toNat : Int) = (pl0, true) := by
      intro y e1 e2 e3
      have f1 : ¬ (y.toNat : Int) = 34 := fun e => e1 (by apply UInt8.toNat_inj.1; show y.toNat = 34; omega)
      have f2 : ¬ (y.toNat : Int) = 60 := fun e => e2 (by apply UInt8.toNat_inj.1; show y.toNat = 60; omega)
      have f3 : ¬ (y.toNat : Int) = 62 := fun e => e3 (by apply UInt8.toNat_inj.1; show y.toNat = 62; omega)
      simp [pst, pl0, f1, f2, f3]
    rw [List.cons_append, partsG, hp x h1 h2 h3, if_neg (by simp [h4])]
    simp only
    rw [ih (fun b hb => h b (by simp [hb]))]
    simp
theorem quo_run (sep : Int) : ∀ (l cur r : List UInt8), partsG sep ⟨true, false, false⟩ cur (quo l ++ 34 :: r) = partsG sep pl0 (cur ++ quo l ++ [34]) r
  | [], cur, r => by
    rw [quo, List.nil_append, partsG]
    simp [pst, pl0]
  | b :: l, cur, r => by
    rw [quo]
    cases hb : bareB b.toNat with
    | true =>
      obtain ⟨n1, n2⟩ := bare_not hb
      have f1 : ¬ (b.toNat : Int) = 34 := fun e => n2 (by apply UInt8.toNat_inj.1; show b.toNat = 34; omega)
      have f2 : ((b.toNat : Int) == 92) = false := by rw [beq_eq_false_iff_ne]; exact bareN hb
      simp only [if_true, List.singleton_append, List.cons_append, List.nil_append]
      rw [partsG]
      simp only [pst, f1, f2, if_false, Bool.false_eq_true, false_and, if_true]
      rw [quo_run sep l]
      simp
    | false =>
      simp only [Bool.false_eq_true, if_false, List.cons_append, List.nil_append]
      rw [partsG]
      have e1 : pst ⟨true, false, false⟩ ((92 : UInt8).toNat : Int) = (⟨true, true, false⟩, false) := by simp [pst]
      rw [e1]
      simp only [Bool.false_eq_true, false_and, if_false]
      rw [partsG]
      have e2 : pst ⟨true, true, false⟩ (b.toNat : Int) = (⟨true, false, false⟩, false) := by simp [pst]
      rw [e2]
      simp only [Bool.false_eq_true, false_and, if_false]
      rw [quo_run sep l]
      simp
theorem clo_quo (sep : Int) (l : List UInt8) : Clo sep (34 :: quo l ++ [34]) := fun cur r => by
  rw [List.append_assoc, List.cons_append, partsG]
  have e1 : pst pl0 ((34 : UInt8).toNat : Int) = (⟨true, false, false⟩, false) := by simp [pst, pl0]
  rw [e1]
  simp only [Bool.false_eq_true, false_and, if_false]
  rw [List.singleton_append, quo_run sep l]
  simp
theorem ang_run (sep : Int) : ∀ (l cur r : List UInt8), (∀ b ∈ l, b ≠ 34 ∧ b ≠ 60 ∧ b ≠ 62) → partsG sep ⟨false, false, true⟩ cur (l ++ 62 :: r) = partsG sep pl0 (cur ++ l ++ [62]) r
  | [], cur, r, _ => by
    rw [List.nil_append, partsG]
    simp [pst, pl0]
  | b :: l, cur, r, h => by
    obtain ⟨n1, n2, n3⟩ := h b (by simp)
    have f1 : ¬ (b.toNat : Int) = 34 := fun e => n1 (by apply UInt8.toNat_inj.1; show b.toNat = 34; omega)
    have f2 : ¬ (b.toNat : Int) = 60 := fun e => n2 (by apply UInt8.toNat_inj.1; show b.toNat = 60; omega)
    have f3 : ¬ (b.toNat : Int) = 62 := fun e => n3 (by apply UInt8.toNat_inj.1; show b.toNat = 62; omega)
    rw [List.cons_append, partsG]
    have e2 : pst ⟨false, false, true⟩ (b.toNat : Int) = (⟨false, false, true⟩, false) := by simp [pst, f1, f2, f3]
    rw [e2]
    simp only [Bool.false_eq_true, false_and, if_false]
    rw [ang_run sep l _ _ (fun x hx => h x (by simp [hx]))]
    simp
theorem clo_ang (sep : Int) {l : List UInt8} (h : ∀ b ∈ l, b ≠ 34 ∧ b ≠ 60 ∧ b ≠ 62) : Clo sep ([60] ++ l ++ [62]) := fun cur r => by
  rw [List.append_assoc, List.append_assoc, List.singleton_append, partsG]
  have e1 : pst pl0 ((60 : UInt8).toNat : Int) = (⟨false, false, true⟩, false) := by simp [pst, pl0]
  rw [e1]
  simp only [Bool.false_eq_true, false_and, if_false]
  rw [List.singleton_append, ang_run sep l _ _ h]
  simp

-- the signs of a printed URI
theorem text_not {u : Uri} (hc : checkV u = 0) {c : UInt8} (h0 : hob c = false) (h1 : okw usersK c = false) (h2 : okw paramsK c = false) (h3 : okw headersK c = false) (h4 : isB c.toNat 1 = false)
    (h5 : c ≠ 58 ∧ c ≠ 59 ∧ c ≠ 61 ∧ c ≠ 63 ∧ c ≠ 38 ∧ c ≠ 64) (h6 : c ∉ ([115, 105, 112, 115, 101, 114] : List UInt8)) : c ∉ textT u := by
  obtain ⟨k1, k2, k3, k4, k5, k6, k7, k8⟩ := check_ok hc
  obtain ⟨n1, n2, n3, n4, n5, n6⟩ := h5
  have hs : c ∉ u.scheme := by
    unfold schemeB at k1
    simp only [Bool.or_eq_true, beq_iff_eq] at k1
    simp only [List.mem_cons, List.not_mem_nil, or_false, not_or] at h6
    rcases k1 with e | e | e <;> rw [e] <;> simp [h6]
  have hu : c ∉ escL usersK u.user := escL_not h1
  have hp := portT_not (n := u.port) n1 h4
  unfold portT at hp
  have hq : c ∉ parsT u.params := parsT_not n2 n3 h2
  have hr : c ∉ hdrT u.headers := hdrT_not n4 n5 n3 h3
  have hh : c ∉ u.host := host_not k3 h0
  unfold textT frontT
  simp only [List.mem_append, not_or]
  refine ⟨⟨⟨⟨⟨⟨hs, by simpa using n1⟩, ?_⟩, hh⟩, ?_⟩, hq⟩, hr⟩
  · split
    · simp
    · simp only [List.mem_append, not_or]; exact ⟨hu, by simpa using n6⟩
  · exact hp
theorem text_signs {u : Uri} (hc : checkV u = 0) : (34 : UInt8) ∉ textT u ∧ (60 : UInt8) ∉ textT u ∧ (62 : UInt8) ∉ textT u :=
  ⟨text_not hc (by decide +kernel) (by decide +kernel) (by decide +kernel) (by decide +kernel) (by decide +kernel) (by decide) (by decide),
   text_not hc (by decide +kernel) (by decide +kernel) (by decide +kernel) (by decide +kernel) (by decide +kernel) (by decide) (by decide),
   text_not hc (by decide +kernel) (by decide +kernel) (by decide +kernel) (by decide +kernel) (by decide +kernel) (by decide) (by decide)⟩

-- parameters
theorem may_facts {b : List Par} {p : Par} (h : mayB b p = true) : tokenB p.name = true ∧ findV b p.name = none ∧ p.value.length ≤ 64 ∧ hasBar p.value = false ∧ (p.has = true ∨ p.value = []) := by
  simp only [mayB, Bool.and_eq_true, Bool.or_eq_true, Option.isNone_iff_eq_none, decide_eq_true_eq, Bool.not_eq_true', List.isEmpty_iff] at h
  exact ⟨h.1, h.2.1, h.2.2.1, h.2.2.2.1, h.2.2.2.2⟩
theorem name_facts {l : List UInt8} (h : tokenB l = true) : (61 : UInt8) ∉ l ∧ trimL l = l := by
  obtain ⟨_, _, h3⟩ := tok_facts h
  exact ⟨fun hm => (wch_facts 61 (tok_wch (h3 61 hm))).2.2.2.2.2.2 rfl, trimL_all fun b hb => (wch_facts b (tok_wch (h3 b hb))).1⟩
theorem trim_quo (l : List UInt8) : trimL (34 :: quo l ++ [34]) = 34 :: quo l ++ [34] := by
  apply trimL_id
  · intro b hb; simp at hb; subst hb; decide +kernel
  · intro b hb
    have := last_app (a := 34 :: quo l) (b := [34]) (by simp) hb
    simp at this; subst this; decide +kernel
theorem value_back {v : List UInt8} (h : hasBar v = false) : valueP (trimL (valT v)) true = some v := by
  unfold valT
  split
  · rename_i hw
    obtain ⟨_, hf⟩ := word_facts hw
    rw [trimL_all fun b hb => (wch_facts b (hf b hb)).1]
    unfold valueP
    have hq : quoB v = false := by
      unfold quoB
      cases v with
      | nil => rfl
      | cons x v => have := (wch_facts x (hf x (by simp))).2.1; simpa using this
    rw [hq]; simp [hw]
  · rw [trim_quo]
    unfold valueP
    have hq : quoB (34 :: quo v ++ [34]) = true := by simp [quoB]
    rw [hq, if_pos rfl, unquote_quo h]; simp
theorem field_back {b : List Par} {p : Par} (h : mayB b p = true) : fieldOf (parT p) = some p := by
  obtain ⟨h1, _, _, h4, h5⟩ := may_facts h
  obtain ⟨n1, n2⟩ := name_facts h1
  obtain ⟨nm, vl, hs⟩ := p
  simp only at h1 h4 h5 n1 n2
  unfold parT fieldOf
  cases hs with
  | true =>
    simp only [if_true]
    rw [List.append_assoc, List.singleton_append, cutL_hit n1]
    simp only
    rw [value_back h4, n2]; rfl
  | false =>
    simp only [Bool.false_eq_true, if_false]
    rw [cutL_miss n1]
    rcases h5 with h5 | h5
    · simp at h5
    · subst h5
      have e : trimL ([] : List UInt8) = [] := rfl
      simp only [e, n2]
      rfl
theorem fields_back : ∀ (ps b : List Par), mayGo b ps = true → fieldsG b (ps.map parT) = some (b ++ ps)
  | [], b, _ => by simp [fieldsG]
  | p :: ps, b, h => by
    rw [mayGo, Bool.and_eq_true] at h
    rw [List.map_cons, fieldsG, field_back h.1]
    simp only [h.1, if_true]
    rw [fields_back ps _ h.2]; simp
theorem clo_par {sep : Int} (hsep : sep = 59 ∨ sep = 44) {b : List Par} {p : Par} (h : mayB b p = true) : Clo sep (parT p) := by
  obtain ⟨h1, _, _, h4, h5⟩ := may_facts h
  have ns : ∀ b : UInt8, wch b = true → (b.toNat : Int) ≠ sep := by
    intro b hb
    obtain ⟨_, _, _, _, n1, n2, _⟩ := wch_facts b hb
    rcases hsep with rfl | rfl
    · exact fun e => n1 (by apply UInt8.toNat_inj.1; show b.toNat = 59; omega)
    · exact fun e => n2 (by apply UInt8.toNat_inj.1; show b.toNat = 44; omega)
  have cw : ∀ l : List UInt8, (∀ b ∈ l, wch b = true) → Clo sep l := fun l hl => clo_plain fun b hb => ⟨(wch_facts b (hl b hb)).2.1, (wch_facts b (hl b hb)).2.2.1, (wch_facts b (hl b hb)).2.2.2.1, ns b (hl b hb)⟩
  have cn : Clo sep p.name := cw _ fun b hb => tok_wch ((tok_facts h1).2.2 b hb)
  unfold parT
  split
  · refine (cn.app (clo_plain fun b hb => ?_)).app ?_
    · simp at hb; subst hb; refine ⟨by decide, by decide, by decide, ?_⟩
      rcases hsep with rfl | rfl <;> decide
    · unfold valT
      split
      · rename_i hw; exact cw _ (word_facts hw).2
      · exact clo_quo sep _
  · exact cn
theorem parts_pars : ∀ (ps b : List Par) (cur : List UInt8), mayGo b ps = true → partsG 59 pl0 cur (parsA ps) = cur :: ps.map parT
  | [], b, cur, _ => by simp [parsA, partsG]
  | p :: ps, b, cur, h => by
    rw [mayGo, Bool.and_eq_true] at h
    have e : parsA (p :: ps) = 59 :: (parT p ++ parsA ps) := by simp [parsA]
    rw [e, partsG]
    have e1 : pst pl0 ((59 : UInt8).toNat : Int) = (pl0, true) := by simp [pst, pl0]
    rw [e1]
    simp only [true_and]
    rw [if_pos (by decide), clo_par (Or.inl rfl) h.1, List.nil_append, parts_pars ps _ _ h.2]; rfl
theorem clo_pars : ∀ (ps b : List Par), mayGo b ps = true → Clo 44 (parsA ps)
  | [], b, _ => Clo.nil 44
  | p :: ps, b, h => by
    rw [mayGo, Bool.and_eq_true] at h
    have e : parsA (p :: ps) = ([59] ++ parT p) ++ parsA ps := by simp [parsA]
    rw [e]
    exact ((clo_plain fun b hb => by simp at hb; subst hb; decide).app (clo_par (Or.inr rfl) h.1)).app (clo_pars ps _ h.2)

end Go.Proofs.YtnijlmkodgdhlaaDoor
