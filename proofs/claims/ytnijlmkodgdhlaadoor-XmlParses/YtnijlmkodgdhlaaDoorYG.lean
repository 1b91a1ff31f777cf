/-
  Base texts, one behind another: CheckL, WhereL, BackL, ParseL, UBackL, AnySet.
-/
import Derived.Test.YtnijlmkodgdhlaaDoorYF
import Derived.Test.YtnijlmkodgdhlaaDoorYD
import Derived.Test.YtnijlmkodgdhlaaDoorYE
import Derived.Test.YtnijlmkodgdhlaaDoorYA
import Derived.Test.YtnijlmkodgdhlaaDoorYC
import Derived.Lib.AsciiSet
import Derived.Laws.RangeAny
import Derived.Laws.Runes
import Derived.Laws.ResultCell
import Derived.Deep.WholeRow
import Derived.Deep.LoopGhost

/-
  What holds of a URI that may be. Plain facts.
-/
namespace Go.Proofs.YtnijlmkodgdhlaaDoor
open Go.RowKit Sc
set_option linter.unusedVariables false
set_option maxRecDepth 20000

theorem listGo_par (b ps : List Par) (h : listGo b ps = true) : ∀ p ∈ ps, parB p = true := by
  induction ps generalizing b with
  | nil => simp
  | cons q ps ih =>
    rw [listGo, Bool.and_eq_true, Bool.and_eq_true] at h
    intro p hp
    rcases List.mem_cons.1 hp with rfl | hp
    · exact h.1
    · exact ih _ h.2.2 p hp
theorem listB_ok {ps : List Par} (h : listB ps = true) : ps.length ≤ 16 ∧ ∀ p ∈ ps, parB p = true := by
  rw [listB, Bool.and_eq_true] at h
  exact ⟨by simpa using h.1, listGo_par [] ps h.2⟩
theorem parB_ok {p : Par} (h : parB p = true) : 1 ≤ p.name.length ∧ p.name.length ≤ 64 ∧ p.value.length ≤ 64 ∧ (p.has = true ∨ p.value = []) := by
  simp only [parB, Bool.and_eq_true, decide_eq_true_eq, Bool.or_eq_true, List.isEmpty_iff] at h
  exact h
theorem hostB_ok {l : List UInt8} (h : hostB l = true) : 1 ≤ l.length ∧ l.length ≤ 64 := by
  simp only [hostB, Bool.and_eq_true, decide_eq_true_eq] at h
  exact ⟨h.1, h.2.1⟩
theorem schemeB_ok {l : List UInt8} (h : schemeB l = true) : l.length ≤ 4 := by
  simp only [schemeB, Bool.or_eq_true, beq_iff_eq] at h
  rcases h with rfl | rfl | rfl <;> decide
theorem check_ok {u : Uri} (h : checkV u = 0) : schemeB u.scheme = true ∧ u.user.length ≤ 64 ∧ hostB u.host = true ∧ 0 ≤ u.port ∧ u.port ≤ 65535 ∧ listB u.params = true ∧ listB u.headers = true ∧ u.headers.all (·.has) = true := by
  unfold checkV at h
  cases e1 : schemeB u.scheme
  · simp [e1] at h
  rw [e1, if_neg (by simp)] at h
  by_cases e2 : 64 < u.user.length
  · simp [e2] at h
  rw [if_neg e2] at h
  cases e3 : hostB u.host
  · simp [e3] at h
  rw [e3, if_neg (by simp)] at h
  by_cases e4 : u.port < 0 ∨ 65535 < u.port
  · simp [e4] at h
  rw [if_neg e4] at h
  cases e5 : listB u.params
  · simp [e5] at h
  rw [e5, if_neg (by simp)] at h
  cases e6 : listB u.headers
  · simp [e6] at h
  rw [e6, if_neg (by simp)] at h
  cases e7 : u.headers.all (·.has)
  · simp [e7] at h
  exact ⟨rfl, by omega, rfl, by omega, by omega, rfl, rfl, rfl⟩

end Go.Proofs.YtnijlmkodgdhlaaDoor

/-
  Which host and port a text is, as plain functions on lists of bytes.
-/
namespace Go.Proofs.YtnijlmkodgdhlaaDoor
open Go.RowKit Sc
set_option linter.unusedVariables false
set_option maxRecDepth 20000

def insN (ins : Bool) (x : UInt8) : Bool := if x = 93 then false else if x = 91 then true else ins
/-- How many bytes stand ahead of the first colon that is not between [ and ]. -/
def whereGo : Bool → List UInt8 → Nat
  | _, [] => 0
  | ins, x :: l => if ins = false ∧ x = 58 then 0 else 1 + whereGo (insN ins x) l
def portV (host l : List UInt8) (k : Nat) : List UInt8 × Int × Int :=
  if k = l.length then (host, 0, 0)
  else if (numV 65535 (l.drop (k + 1))).2 ≠ 0 ∨ (numV 65535 (l.drop (k + 1))).1 = 0 then ([], 0, 33) else (host, (numV 65535 (l.drop (k + 1))).1, 0)
def whereV (l : List UInt8) : List UInt8 × Int × Int :=
  if hostB (lowL (l.take (whereGo false l))) = true then portV (lowL (l.take (whereGo false l))) l (whereGo false l) else ([], 0, 32)

theorem whereGo_le (b : Bool) (l : List UInt8) : whereGo b l ≤ l.length := by
  induction l generalizing b with
  | nil => simp [whereGo]
  | cons x l ih =>
    rw [whereGo]
    split
    · simp
    · have := ih (insN b x); simp; omega

end Go.Proofs.YtnijlmkodgdhlaaDoor

/-
  What is escaped is unescaped; a number's digits are its. Plain facts.
-/
namespace Go.Proofs.YtnijlmkodgdhlaaDoor
open Go.RowKit Sc
set_option linter.unusedVariables false
set_option maxRecDepth 20000

theorem hexd_hex (n : Nat) (h : n < 16) : isB (hexd n).toNat 4 = true := by
  have hh : ∀ n : Fin 16, isB ((hexd n.val).toNat : Int) 4 = true := by decide +kernel
  exact hh ⟨n, h⟩
theorem hexd_back (b : UInt8) : hxb (hexd (b.toNat / 16)) (hexd (b.toNat % 16)) = b := by
  have hh : ∀ n : Fin 256, hxb (hexd (n.val / 16)) (hexd (n.val % 16)) = UInt8.ofNat n.val := by decide +kernel
  have := hh ⟨b.toNat, b.toNat_lt⟩
  simpa using this
theorem une_esc (keep : List UInt8) : ∀ l : List UInt8, une (esc (kpF keep) l) = some l
  | [] => rfl
  | b :: r => by
    have ih := une_esc keep r
    by_cases hf : free (kpF keep) b = true
    · have h37 : (b.toNat : Int) ≠ 37 := by
        intro e
        have e' : b.toNat = 37 := by omega
        rw [free, kpF, if_pos e', e'] at hf
        exact absurd hf (by decide +kernel)
      rw [esc, if_pos hf]
      show une (b :: esc (kpF keep) r) = _
      rw [une_plain h37, ih]; rfl
    · rw [esc, if_neg hf]
      show une (37 :: hexd (b.toNat / 16) :: hexd (b.toNat % 16) :: esc (kpF keep) r) = _
      have := b.toNat_lt
      rw [une_hex (by decide) (hexd_hex _ (by omega)) (hexd_hex _ (Nat.mod_lt _ (by decide))), ih, hexd_back]; rfl

theorem numL_append (most : Int) : ∀ (a b : List UInt8) (n : Int), numL most n (a ++ b) = (numL most n a).bind fun x => numL most x b
  | [], b, n => rfl
  | c :: a, b, n => by
    simp only [List.cons_append, numL]
    split
    · rfl
    · exact numL_append most a b _
theorem numL_digits (k : Nat) : ∀ (m most : Nat), m ≤ k → m ≤ most → numL most 0 (digL m) = some (m : Int) := by
  induction k with
  | zero =>
    intro m most hk hm
    have h0 : m = 0 := by omega
    subst h0
    rw [digL_small (by omega), numL, if_neg (by rw [digb_toNat]; omega), numL, digb_toNat]
    congr 1
  | succ k ih =>
    intro m most hk hm
    by_cases h : m < 10
    · rw [digL_small h, numL, if_neg (by rw [digb_toNat]; omega), numL, digb_toNat]
      congr 1
      omega
    · rw [digL_big h, numL_append, ih (m / 10) most (by omega) (by omega)]
      show numL (most : Int) ((m / 10 : Nat) : Int) [digb m] = _
      rw [numL, if_neg (by rw [digb_toNat]; omega), numL, digb_toNat]
      congr 1
      omega
theorem digits_all (k : Nat) : ∀ m : Nat, m ≤ k → allB 1 (digL m) = true := by
  have hd : ∀ m, isB (digb m).toNat 1 = true := by
    intro m
    have hb := u8_bd (digb m)
    rw [isB_digit _ hb.1 hb.2, digb_toNat]
    simp
    omega
  induction k with
  | zero => intro m hm; rw [digL_small (by omega)]; simp [allB, hd]
  | succ k ih =>
    intro m hm
    by_cases h : m < 10
    · rw [digL_small h]; simp [allB, hd]
    · rw [digL_big h, allB_snoc, ih (m / 10) (by omega), hd]; rfl
theorem digits_ne (m : Nat) : digL m ≠ [] := by
  by_cases h : m < 10
  · rw [digL_small h]; simp
  · rw [digL_big h]; simp
theorem back_num (n : Nat) : numV n (digL n) = ((n : Int), 0) := by
  rw [numV, if_neg (by simp [digits_ne, digits_all n n (Nat.le_refl _)]), numL_digits n n n (Nat.le_refl _) (Nat.le_refl _)]


end Go.Proofs.YtnijlmkodgdhlaaDoor

/-
  Which URI a text is. Plain functions.
-/
namespace Go.Proofs.YtnijlmkodgdhlaaDoor
open Go.RowKit Sc
set_option linter.unusedVariables false
set_option maxRecDepth 20000

def noU : Uri := ⟨[], [], [], 0, [], []⟩
def userV (s : List UInt8) : List UInt8 × List UInt8 × Int :=
  if (cutL 64 s).2.2 = true then
    (if (writtenV usersK (cutL 64 s).1).2 = false ∨ (writtenV usersK (cutL 64 s).1).1 = [] ∨ 64 < (writtenV usersK (cutL 64 s).1).1.length then ([], [], 31)
     else ((writtenV usersK (cutL 64 s).1).1, (cutL 64 s).2.1, 0))
  else ([], s, 0)
def headsV (asked : Bool) (back : List UInt8) : Option (List Par) := if asked = true then parsOf headersK (splitL 38 back) else some []
def fillV (w : List UInt8 × Int × Int) : Option (List Par) → Option (List Par) → Uri × Int
  | some ps, some hs => (⟨[], [], w.1, w.2.1, ps, hs⟩, 0)
  | _, _ => (noU, 34)
def restV (s : List UInt8) : Uri × Int :=
  if (whereV ((splitL 59 (cutL 63 s).1).headD [])).2.2 ≠ 0 then (noU, (whereV ((splitL 59 (cutL 63 s).1).headD [])).2.2)
  else fillV (whereV ((splitL 59 (cutL 63 s).1).headD [])) (parsOf paramsK (splitL 59 (cutL 63 s).1).tail) (headsV (cutL 63 s).2.2 (cutL 63 s).2.1)
def endV (u : Uri) : Uri × Int := if checkV u ≠ 0 then (noU, checkV u) else (u, 0)
def bothV (sch us : List UInt8) (r : Uri × Int) : Uri × Int := if r.2 ≠ 0 then (noU, r.2) else endV { r.1 with scheme := sch, user := us }
def parseV (s : List UInt8) : Uri × Int :=
  if (cutL 58 s).2.2 = false ∨ schemeB (lowL (cutL 58 s).1) = false then (noU, 30)
  else if (userV (cutL 58 s).2.1).2.2 ≠ 0 then (noU, (userV (cutL 58 s).2.1).2.2)
  else bothV (lowL (cutL 58 s).1) (userV (cutL 58 s).2.1).1 (restV (userV (cutL 58 s).2.1).2.1)

/-- The signs that an escaped text can have. -/
theorem esc_free (kp : Nat → Bool) : ∀ (l : List UInt8), ∀ b ∈ esc kp l, b = 37 ∨ isB b.toNat 16 = true ∨ kp b.toNat = true
  | [], b, h => by simp [esc] at h
  | x :: r, b, h => by
    have ih := esc_free kp r b
    rw [esc] at h
    by_cases hf : free kp x = true
    · rw [if_pos hf] at h
      rcases List.mem_append.1 h with h | h
      · have : b = x := by simpa using h
        subst this
        right; simpa [free] using hf
      · exact ih h
    · rw [if_neg hf] at h
      have hx : ∀ n : Fin 16, isB ((hexd n.val).toNat : Int) 16 = true := by decide +kernel
      rcases List.mem_append.1 h with h | h
      · simp only [List.mem_cons, List.not_mem_nil, or_false] at h
        have := x.toNat_lt
        rcases h with rfl | rfl | rfl
        · exact .inl rfl
        · exact .inr (.inl (hx ⟨x.toNat / 16, by omega⟩))
        · exact .inr (.inl (hx ⟨x.toNat % 16, Nat.mod_lt _ (by decide)⟩))
      · exact ih h
theorem inK_mem (keep : List UInt8) (b : UInt8) : inK keep b.toNat = hasL b keep := by
  unfold inK hasL
  induction keep with
  | nil => rfl
  | cons x l ih =>
    simp only [List.any_cons, List.contains_cons, ih]
    congr 1
    rw [Bool.eq_iff_iff]
    simp only [beq_iff_eq]
    constructor
    · intro h; exact (UInt8.toNat_inj.1 h).symm
    · intro h; rw [h]
theorem escL_ok (keep l : List UInt8) : ∀ b ∈ escL keep l, okw keep b = true := by
  intro b hb
  rcases esc_free _ l b hb with h | h | h
  · simp [okw, h]
  · simp [okw, h]
  · unfold kpF at h
    by_cases e : b.toNat = 37
    · rw [if_pos e] at h; simp at h
    · rw [if_neg e, inK_mem] at h
      simp [okw, h]
theorem written_esc (keep l : List UInt8) : writtenV keep (escL keep l) = (l, true) := by
  rw [written_all (by rw [List.all_eq_true]; exact escL_ok keep l), escL, unescV_some (une_esc keep l)]; rfl
theorem escL_not {keep l : List UInt8} {c : UInt8} (h : okw keep c = false) : c ∉ escL keep l := by
  intro hc; rw [escL_ok keep l c hc] at h; cases h
theorem escL_ne {keep l : List UInt8} (h : l ≠ []) : escL keep l ≠ [] := by
  intro e
  have := une_esc keep l
  rw [escL] at e
  rw [e] at this
  simp [une] at this
  exact h this

/-- A parameter's text is read as it was. -/
theorem par_back {keep : List UInt8} {p : Par} (h61 : okw keep 61 = false) (hp : parB p = true) : parOf keep (pairV keep p) = some p := by
  obtain ⟨h1, h2, h3, h4⟩ := parB_ok hp
  unfold parOf pairV
  cases hh : p.has
  · have hv : p.value = [] := by rcases h4 with h | h; · rw [hh] at h; cases h
                                 · exact h
    simp only [Bool.false_eq_true, if_false]
    rw [cutL_miss (escL_not h61)]
    have e0 : writtenV keep [] = ([], true) := by rfl
    simp only [written_esc, e0, and_self, if_true]
    cases p; simp_all
  · simp only [if_true]
    rw [List.append_assoc, List.singleton_append, cutL_hit (escL_not h61)]
    simp only [written_esc, and_self, if_true]
    cases p; simp_all

theorem splitL_miss {c : UInt8} {a : List UInt8} (h : c ∉ a) : splitL c a = [a] := by
  rw [splitL_cut, cutL_miss h]; simp
theorem splitL_hit {c : UInt8} {a b : List UInt8} (h : c ∉ a) : splitL c (a ++ c :: b) = a :: splitL c b := by
  rw [splitL_cut, cutL_hit h]; simp
/-- Texts with a sign ahead of each are parted at the sign. -/
theorem splitL_many {c : UInt8} {a : List UInt8} (h : c ∉ a) (ls : List (List UInt8)) (hl : ∀ l ∈ ls, c ∉ l) : splitL c (a ++ ls.flatMap fun l => [c] ++ l) = a :: ls := by
  induction ls generalizing a with
  | nil => simp [splitL_miss h]
  | cons l ls ih =>
    rw [List.flatMap_cons, List.append_assoc, List.singleton_append, splitL_hit h, ih (hl l (by simp)) (fun x hx => hl x (by simp [hx]))]
theorem parsT_eq (ps : List Par) : parsT ps = (ps.map (pairV paramsK)).flatMap fun l => [59] ++ l := by
  rw [parsT, List.flatMap_map]
theorem pars_back {keep : List UInt8} (h61 : okw keep 61 = false) (ps : List Par) (hp : ∀ p ∈ ps, parB p = true) : parsOf keep (ps.map (pairV keep)) = some ps := by
  induction ps with
  | nil => rfl
  | cons p ps ih =>
    rw [List.map_cons, parsOf, par_back h61 (hp p (by simp)), ih (fun q hq => hp q (by simp [hq]))]
theorem hdrT_cons (p : Par) (ps : List Par) : hdrT (p :: ps) = 63 :: (pairV headersK p ++ (ps.map (pairV headersK)).flatMap fun l => [38] ++ l) := by
  have key : ∀ (n : Nat) (qs : List Par), ((qs.zipIdx (n + 1)).flatMap fun (p, i) => (if i = 0 then ([63] : List UInt8) else [38]) ++ pairV headersK p) = (qs.map (pairV headersK)).flatMap fun l => [38] ++ l := by
    intro n qs
    induction qs generalizing n with
    | nil => rfl
    | cons q qs ih =>
      rw [List.zipIdx_cons, List.flatMap_cons, ih (n + 1), List.map_cons, List.flatMap_cons]
      simp
  rw [hdrT, List.zipIdx_cons, List.flatMap_cons, key 0]
  simp
theorem pairV_mem {keep : List UInt8} {p : Par} {b : UInt8} (h : b ∈ pairV keep p) : b = 61 ∨ okw keep b = true := by
  unfold pairV at h
  split at h
  · simp only [List.mem_append, List.mem_singleton] at h
    rcases h with (h | h) | h
    · exact .inr (escL_ok _ _ _ h)
    · exact .inl h
    · exact .inr (escL_ok _ _ _ h)
  · exact .inr (escL_ok _ _ _ h)
theorem pairV_not {keep : List UInt8} {p : Par} {c : UInt8} (h1 : c ≠ 61) (h2 : okw keep c = false) : c ∉ pairV keep p := by
  intro h
  rcases pairV_mem h with h | h
  · exact h1 h
  · rw [h2] at h; cases h
theorem parsT_mem {ps : List Par} {b : UInt8} (h : b ∈ parsT ps) : b = 59 ∨ b = 61 ∨ okw paramsK b = true := by
  unfold parsT at h
  rw [List.mem_flatMap] at h
  obtain ⟨p, _, hb⟩ := h
  simp only [List.mem_append, List.mem_singleton] at hb
  rcases hb with h | h
  · exact .inl h
  · exact .inr (pairV_mem h)
theorem hdrT_mem {ps : List Par} {b : UInt8} (h : b ∈ hdrT ps) : b = 63 ∨ b = 38 ∨ b = 61 ∨ okw headersK b = true := by
  unfold hdrT at h
  rw [List.mem_flatMap] at h
  obtain ⟨⟨p, i⟩, _, hb⟩ := h
  simp only [List.mem_append] at hb
  rcases hb with h | h
  · split at h
    · exact .inl (by simpa using h)
    · exact .inr (.inl (by simpa using h))
  · exact .inr (.inr (pairV_mem h))

end Go.Proofs.YtnijlmkodgdhlaaDoor

/-
  What is printed is parsed as it was, in whatever letters scheme and host stand. Plain facts.
-/
namespace Go.Proofs.YtnijlmkodgdhlaaDoor
open Go.RowKit Sc
set_option linter.unusedVariables false
set_option maxRecDepth 20000

def passB : Bool → List UInt8 → Bool
  | _, [] => true
  | ins, x :: l => !(!ins && x == 58) && passB (insN ins x) l
theorem whereGo_pass (ins : Bool) (a r : List UInt8) (h : passB ins a = true) : whereGo ins (a ++ r) = a.length + whereGo (a.foldl insN ins) r := by
  induction a generalizing ins with
  | nil => simp
  | cons x a ih =>
    rw [passB, Bool.and_eq_true] at h
    rw [List.cons_append, whereGo, if_neg (by rintro ⟨e1, e2⟩; simp [e1, e2] at h), ih _ h.2, List.foldl_cons, List.length_cons]; omega
theorem lowb_at {c : UInt8} (x : UInt8) (hc : ¬ (97 ≤ c.toNat ∧ c.toNat ≤ 122)) (hc2 : ¬ (65 ≤ c.toNat ∧ c.toNat ≤ 90)) : lowb x = c ↔ x = c := by
  unfold lowb
  have hx := x.toNat_lt
  split
  · rename_i h
    have e : (x + 32).toNat = x.toNat + 32 := by rw [UInt8.toNat_add]; show (x.toNat + 32) % 256 = _; omega
    constructor
    · intro h2; rw [← h2, e] at hc; omega
    · intro h2; rw [← h2] at hc2; omega
  · rfl
theorem insN_low (ins : Bool) (x : UInt8) : insN ins (lowb x) = insN ins x := by
  unfold insN
  simp only [lowb_at x (c := 93) (by decide) (by decide), lowb_at x (c := 91) (by decide) (by decide)]
theorem passB_low (ins : Bool) (l : List UInt8) : passB ins (lowL l) = passB ins l := by
  induction l generalizing ins with
  | nil => rfl
  | cons x l ih =>
    have e : (lowb x == 58) = (x == 58) := by
      rw [Bool.eq_iff_iff]; simp only [beq_iff_eq]; exact lowb_at x (by decide) (by decide)
    show passB ins (lowb x :: lowL l) = _
    rw [passB, passB, insN_low, ih, e]
theorem fold_low (ins : Bool) (l : List UInt8) : (lowL l).foldl insN ins = l.foldl insN ins := by
  induction l generalizing ins with
  | nil => rfl
  | cons x l ih =>
    show (lowb x :: lowL l).foldl insN ins = _
    rw [List.foldl_cons, List.foldl_cons, insN_low, ih]
theorem lowL_mem {c : UInt8} {l : List UInt8} (hc : ¬ (97 ≤ c.toNat ∧ c.toNat ≤ 122)) (hc2 : ¬ (65 ≤ c.toNat ∧ c.toNat ≤ 90)) : c ∈ lowL l ↔ c ∈ l := by
  unfold lowL
  rw [List.mem_map]
  constructor
  · rintro ⟨x, hx, e⟩; rw [lowb_at x hc hc2] at e; exact e ▸ hx
  · intro h; exact ⟨c, h, (lowb_at c hc hc2).2 rfl⟩
theorem splitL_mem {c b : UInt8} {l : List UInt8} (h : b ∈ l) : b = c ∨ ∃ p ∈ splitL c l, b ∈ p := by
  induction l with
  | nil => simp at h
  | cons x l ih =>
    obtain ⟨p, ps, hp⟩ := splitL_cons c l
    rw [splitL]
    by_cases hx : x = c
    · rw [if_pos hx]
      rcases List.mem_cons.1 h with h | h
      · exact .inl (h.trans hx)
      · rcases ih h with h | ⟨q, hq, hb⟩
        · exact .inl h
        · exact .inr ⟨q, by simp [hq], hb⟩
    · rw [if_neg hx]
      rw [hp] at ih ⊢
      simp only [List.headD_cons, List.tail_cons]
      rcases List.mem_cons.1 h with h | h
      · exact .inr ⟨x :: p, by simp, by simp [h]⟩
      · rcases ih h with h | ⟨q, hq, hb⟩
        · exact .inl h
        · rcases List.mem_cons.1 hq with h | h
          · exact .inr ⟨x :: p, by simp, by simp [← h, hb]⟩
          · exact .inr ⟨q, by simp [h], hb⟩
theorem byte_all {P : UInt8 → Prop} (h : ∀ n : Fin 256, P (UInt8.ofNat n.val)) (b : UInt8) : P b := by
  have := h ⟨b.toNat, b.toNat_lt⟩
  simpa using this

/-- The bytes that a host can have. -/
def hob (b : UInt8) : Bool := b == 91 || (b == 93 || (okc b || isB b.toNat 64))
theorem pass_plain (ins : Bool) (l : List UInt8) (h : ∀ b ∈ l, b ≠ 58 ∧ b ≠ 91 ∧ b ≠ 93) : passB ins l = true ∧ l.foldl insN ins = ins := by
  induction l generalizing ins with
  | nil => exact ⟨rfl, rfl⟩
  | cons x l ih =>
    obtain ⟨h1, h2, h3⟩ := h x (by simp)
    have e : insN ins x = ins := by unfold insN; rw [if_neg h3, if_neg h2]
    have := ih ins (fun b hb => h b (by simp [hb]))
    refine ⟨?_, ?_⟩
    · rw [passB, e, this.1]; simp [h1]
    · rw [List.foldl_cons, e, this.2]
theorem pass_in (l : List UInt8) (h : ∀ b ∈ l, b ≠ 91 ∧ b ≠ 93) : passB true l = true ∧ l.foldl insN true = true := by
  induction l with
  | nil => exact ⟨rfl, rfl⟩
  | cons x l ih =>
    obtain ⟨h2, h3⟩ := h x (by simp)
    have e : insN true x = true := by unfold insN; rw [if_neg h3, if_neg h2]
    have := ih (fun b hb => h b (by simp [hb]))
    refine ⟨?_, ?_⟩
    · rw [passB, e, this.1]; simp
    · rw [List.foldl_cons, e, this.2]
theorem passB_append (ins : Bool) (a b : List UInt8) : passB ins (a ++ b) = (passB ins a && passB (a.foldl insN ins) b) := by
  induction a generalizing ins with
  | nil => simp [passB]
  | cons x a ih => rw [List.cons_append, passB, passB, ih, List.foldl_cons, Bool.and_assoc]
theorem ends_of {l : List UInt8} (h : 2 ≤ l.length) : l = l.getD 0 0 :: (mid l 1 (l.length - 1) ++ [l.getD (l.length - 1) 0]) := by
  cases l with
  | nil => simp at h
  | cons x l =>
    have hne : l ≠ [] := by intro e; subst e; simp at h
    have e1 : mid (x :: l) 1 ((x :: l).length - 1) = l.dropLast := by
      unfold mid; rw [List.dropLast_eq_take]; simp
    rw [e1]
    have e2 : (x :: l).getD ((x :: l).length - 1) 0 = l.getLast hne := by
      rw [List.getLast_eq_getElem, List.getD_eq_getElem?_getD]
      have hl : 0 < l.length := List.length_pos_iff.2 hne
      have : (x :: l).length - 1 = (l.length - 1) + 1 := by simp; omega
      rw [this, List.getElem?_cons_succ, List.getElem?_eq_getElem (by omega)]; rfl
    rw [e2, List.dropLast_concat_getLast hne]; rfl
theorem host_facts {l : List UInt8} (h : hostB l = true) : (∀ b ∈ l, hob b = true) ∧ passB false l = true ∧ l.foldl insN false = false ∧ lowL l = l := by
  have hok := hostB_ok h
  simp only [hostB, Bool.and_eq_true, decide_eq_true_eq, beq_iff_eq] at h
  obtain ⟨h1, h2, h3, h4⟩ := h
  by_cases hb : l.getD 0 0 = 91
  · rw [if_pos hb] at h4
    simp only [brkB, Bool.and_eq_true, decide_eq_true_eq, beq_iff_eq] at h4
    obtain ⟨h5, h6, h7, h8⟩ := h4
    have e := ends_of (l := l) (by omega)
    rw [hb, h6] at e
    generalize mid l 1 (l.length - 1) = m at e h7
    have hm : ∀ b ∈ m, okc b = true := by rwa [List.all_eq_true] at h7
    have hno : ∀ b : UInt8, okc b = true → b ≠ 91 ∧ b ≠ 93 := by
      apply byte_all; decide +kernel
    have hp := pass_in m (fun b hbm => hno b (hm b hbm))
    refine ⟨?_, ?_, ?_, h3⟩
    · rw [e]
      intro b hbm
      simp only [List.mem_cons, List.mem_append, List.not_mem_nil, or_false] at hbm
      rcases hbm with rfl | hbm | rfl
      · rfl
      · simp [hob, hm b hbm]
      · rfl
    · rw [e, passB, passB_append]
      show (_ && (passB true m && passB (m.foldl insN true) [93])) = true
      rw [hp.1, hp.2]; rfl
    · rw [e, List.foldl_cons, List.foldl_append]
      show ([93] : List UInt8).foldl insN (m.foldl insN true) = false
      rw [hp.2]; rfl
  · rw [if_neg hb] at h4
    rw [List.all_eq_true] at h4
    have hall : ∀ b ∈ l, b = 46 ∨ isB b.toNat 64 = true := by
      intro b hbm
      rcases splitL_mem (c := 46) hbm with h | ⟨p, hp, hbp⟩
      · exact .inl h
      · right
        have := h4 p hp
        simp only [labB, Bool.and_eq_true, allB, List.all_eq_true] at this
        exact this.2.1 b hbp
    have hno : ∀ b : UInt8, (b = 46 ∨ isB b.toNat 64 = true) → b ≠ 58 ∧ b ≠ 91 ∧ b ≠ 93 := by
      apply byte_all; decide +kernel
    have hp := pass_plain false l (fun b hbm => hno b (hall b hbm))
    refine ⟨?_, hp.1, hp.2, h3⟩
    intro b hbm
    rcases hall b hbm with rfl | h
    · rfl
    · simp [hob, h]

def portT (n : Int) : List UInt8 := if n = 0 then [] else [58] ++ digL n.toNat
theorem digL_mem {n : Nat} {b : UInt8} (h : b ∈ digL n) : isB b.toNat 1 = true := by
  have := digits_all n n (Nat.le_refl _)
  rw [allB, List.all_eq_true] at this
  exact this b h
theorem where_back {h : List UInt8} {n : Int} (hh : hostB (lowL h) = true) (h0 : 0 ≤ n) (h1 : n ≤ 65535) : whereV (h ++ portT n) = (lowL h, n, 0) := by
  obtain ⟨_, hp, hf, _⟩ := host_facts hh
  rw [passB_low] at hp
  rw [fold_low] at hf
  unfold portT
  by_cases hn : n = 0
  · subst hn
    have e : whereGo false h = h.length := by
      have := whereGo_pass false h [] hp
      rw [List.append_nil] at this
      rw [this]; simp [whereGo]
    rw [if_pos rfl, List.append_nil, whereV, e, List.take_length, if_pos hh, portV, if_pos rfl]
  · rw [if_neg hn]
    have e : whereGo false (h ++ ([58] ++ digL n.toNat)) = h.length := by
      rw [whereGo_pass false h _ hp, hf]; simp [whereGo]
    have hnum : numV 65535 (digL n.toNat) = (n, 0) := by
      have := numL_digits n.toNat n.toNat 65535 (Nat.le_refl _) (by omega)
      rw [numV, if_neg (by simp [digits_ne, digits_all n.toNat n.toNat (Nat.le_refl _)])]
      have e2 : ((65535 : Nat) : Int) = 65535 := rfl
      rw [← e2, this]
      have : ((n.toNat : Nat) : Int) = n := by omega
      simp [this]
    have ed : (h ++ ([58] ++ digL n.toNat)).drop (h.length + 1) = digL n.toNat := by
      rw [List.drop_append, List.drop_eq_nil_of_le (by omega)]; simp
    rw [whereV, e, List.take_left, if_pos hh, portV, ed, hnum, if_neg (by simp), if_neg (by simp [hn])]

theorem not_of_low {c : UInt8} {l m : List UInt8} (e : lowL l = m) (hc : ¬ (97 ≤ c.toNat ∧ c.toNat ≤ 122)) (hc2 : ¬ (65 ≤ c.toNat ∧ c.toNat ≤ 90)) (h : c ∉ m) : c ∉ l := by
  rw [← lowL_mem hc hc2, e]; exact h
theorem host_not {c : UInt8} {l : List UInt8} (h : hostB l = true) (hc : hob c = false) : c ∉ l := by
  intro hm; rw [(host_facts h).1 c hm] at hc; cases hc
theorem scheme_not {l : List UInt8} (h : schemeB l = true) : (58 : UInt8) ∉ l ∧ lowL l = l := by
  simp only [schemeB, Bool.or_eq_true, beq_iff_eq] at h
  rcases h with rfl | rfl | rfl <;> exact ⟨by decide, by decide⟩
theorem portT_not {n : Int} {c : UInt8} (h58 : c ≠ 58) (hd : isB c.toNat 1 = false) : c ∉ portT n := by
  unfold portT
  split
  · simp
  · intro h
    rw [List.singleton_append, List.mem_cons] at h
    rcases h with h | h
    · exact h58 h
    · rw [digL_mem h] at hd; cases hd
theorem parsT_not {ps : List Par} {c : UInt8} (h1 : c ≠ 59) (h2 : c ≠ 61) (h : okw paramsK c = false) : c ∉ parsT ps := by
  intro hm
  rcases parsT_mem hm with e | e | e
  · exact h1 e
  · exact h2 e
  · rw [h] at e; cases e
theorem hdrT_not {ps : List Par} {c : UInt8} (h0 : c ≠ 63) (h1 : c ≠ 38) (h2 : c ≠ 61) (h : okw headersK c = false) : c ∉ hdrT ps := by
  intro hm
  rcases hdrT_mem hm with e | e | e | e
  · exact h0 e
  · exact h1 e
  · exact h2 e
  · rw [h] at e; cases e

theorem rest_back {h : List UInt8} {n : Int} {ps hs : List Par} (hh : hostB (lowL h) = true) (h0 : 0 ≤ n) (h1 : n ≤ 65535) (hp : listB ps = true) (hq : listB hs = true) :
    restV (h ++ portT n ++ parsT ps ++ hdrT hs) = (⟨[], [], lowL h, n, ps, hs⟩, 0) := by
  have hps := (listB_ok hp).2
  have hqs := (listB_ok hq).2
  have a59 : (59 : UInt8) ∉ h ++ portT n := by
    rw [List.mem_append, not_or]
    exact ⟨not_of_low rfl (by decide) (by decide) (host_not hh (by decide +kernel)), portT_not (by decide) (by decide +kernel)⟩
  have a63 : (63 : UInt8) ∉ h ++ portT n ++ parsT ps := by
    rw [List.mem_append, List.mem_append, not_or, not_or]
    exact ⟨⟨not_of_low rfl (by decide) (by decide) (host_not hh (by decide +kernel)), portT_not (by decide) (by decide +kernel)⟩, parsT_not (by decide) (by decide) (by decide +kernel)⟩
  have hsp : splitL 59 (h ++ portT n ++ parsT ps) = (h ++ portT n) :: ps.map (pairV paramsK) := by
    rw [parsT_eq]
    apply splitL_many a59
    intro l hl
    obtain ⟨p, _, rfl⟩ := List.mem_map.1 hl
    exact pairV_not (by decide) (by decide +kernel)
  have hw := where_back hh h0 h1
  have hpp := pars_back (keep := paramsK) (by decide +kernel) ps hps
  cases hs with
  | nil =>
    have e : hdrT [] = [] := rfl
    rw [e, List.append_nil, restV, cutL_miss a63]
    simp only [hsp, List.headD_cons, List.tail_cons, hw, hpp]
    rfl
  | cons q qs =>
    have hcut : cutL 63 (h ++ portT n ++ parsT ps ++ hdrT (q :: qs)) = (h ++ portT n ++ parsT ps, pairV headersK q ++ (qs.map (pairV headersK)).flatMap fun l => [38] ++ l, true) := by
      rw [hdrT_cons, cutL_hit a63]
    have hsq : splitL 38 (pairV headersK q ++ (qs.map (pairV headersK)).flatMap fun l => [38] ++ l) = (q :: qs).map (pairV headersK) := by
      rw [splitL_many]
      · rfl
      · exact pairV_not (by decide) (by decide +kernel)
      · intro l hl
        obtain ⟨p, _, rfl⟩ := List.mem_map.1 hl
        exact pairV_not (by decide) (by decide +kernel)
    have hqq := pars_back (keep := headersK) (by decide +kernel) (q :: qs) hqs
    rw [restV, hcut]
    simp only [hsp, List.headD_cons, List.tail_cons, hw, hpp, headsV, if_true, hsq, hqq]
    rfl

def userT (l : List UInt8) : List UInt8 := if l = [] then [] else escL usersK l ++ [64]
theorem parse_of {u : Uri} {sch h : List UInt8} (hc : checkV u = 0) (e1 : lowL sch = u.scheme) (e2 : lowL h = u.host) :
    parseV (sch ++ [58] ++ userT u.user ++ h ++ portT u.port ++ parsT u.params ++ hdrT u.headers) = (u, 0) := by
  obtain ⟨c1, c2, c3, c4, c5, c6, c7, c8⟩ := check_ok hc
  have hh : hostB (lowL h) = true := by rw [e2]; exact c3
  have hrest := rest_back (h := h) hh c4 c5 c6 c7
  have a58 : (58 : UInt8) ∉ sch := not_of_low e1 (by decide) (by decide) (scheme_not c1).1
  have hcut : cutL 58 (sch ++ [58] ++ userT u.user ++ h ++ portT u.port ++ parsT u.params ++ hdrT u.headers) = (sch, userT u.user ++ (h ++ portT u.port ++ parsT u.params ++ hdrT u.headers), true) := by
    have : sch ++ [58] ++ userT u.user ++ h ++ portT u.port ++ parsT u.params ++ hdrT u.headers = sch ++ 58 :: (userT u.user ++ (h ++ portT u.port ++ parsT u.params ++ hdrT u.headers)) := by simp
    rw [this, cutL_hit a58]
  have huser : userV (userT u.user ++ (h ++ portT u.port ++ parsT u.params ++ hdrT u.headers)) = (u.user, h ++ portT u.port ++ parsT u.params ++ hdrT u.headers, 0) := by
    by_cases hu : u.user = []
    · have a64 : (64 : UInt8) ∉ h ++ portT u.port ++ parsT u.params ++ hdrT u.headers := by
        simp only [List.mem_append, not_or]
        exact ⟨⟨⟨not_of_low rfl (by decide) (by decide) (host_not hh (by decide +kernel)), portT_not (by decide) (by decide +kernel)⟩, parsT_not (by decide) (by decide) (by decide +kernel)⟩, hdrT_not (by decide) (by decide) (by decide) (by decide +kernel)⟩
      rw [userT, if_pos hu, List.nil_append, userV, cutL_miss a64, if_neg (by simp), hu]
    · rw [userT, if_neg hu, List.append_assoc, List.singleton_append, userV, cutL_hit (escL_not (by decide +kernel))]
      simp only [if_true, written_esc]
      rw [if_neg (by simp [hu]; omega)]
  rw [parseV, hcut]
  simp only [e1, c1, huser, hrest]
  rw [if_neg (by simp), if_neg (by simp), bothV, if_neg (by simp), endV]
  have : ({ (⟨[], [], lowL h, u.port, u.params, u.headers⟩ : Uri) with scheme := u.scheme, user := u.user } : Uri) = u := by
    cases u; simp only at e2 ⊢; rw [e2]
  rw [this, if_neg (by simp [hc])]
theorem parse_text {u : Uri} (hc : checkV u = 0) : parseV (textT u) = (u, 0) := by
  obtain ⟨c1, c2, c3, c4, c5, c6, c7, c8⟩ := check_ok hc
  have := parse_of hc (scheme_not c1).2 (host_facts c3).2.2.2
  have e : textT u = u.scheme ++ [58] ++ userT u.user ++ u.host ++ portT u.port ++ parsT u.params ++ hdrT u.headers := rfl
  rw [e, this]
theorem parse_checked {s : List UInt8} {u : Uri} (h : parseV s = (u, 0)) : checkV u = 0 := by
  unfold parseV at h
  split at h
  · have := congrArg Prod.snd h; simp at this
  split at h
  · rename_i h2; exact absurd (congrArg Prod.snd h) h2
  unfold bothV at h
  split at h
  · rename_i h2; exact absurd (congrArg Prod.snd h) h2
  unfold endV at h
  split at h
  · rename_i h2; exact absurd (congrArg Prod.snd h) h2
  · rename_i h2
    have := congrArg Prod.fst h
    simp only at this
    rw [← this]
    exact Classical.not_not.1 h2

end Go.Proofs.YtnijlmkodgdhlaaDoor

/-
  Sets of signs: what strings.IndexAny, ContainsAny and TrimRight make of them.
-/
namespace Go.Proofs.YtnijlmkodgdhlaaDoor
open Go.RowKit Sc
set_option linter.unusedVariables false
set_option maxRecDepth 20000

theorem infoSet : (Tryd.prog.info? 95).map (fun i => (i.zero, i.size)) = some (some (.agg (Array.replicate 256 (.bool false))), 256) := by kernel_rfl
theorem underSet : Tryd.prog.underlying 95 = some (.array 256 4) := by kernel_rfl

-- what is decoded
theorem decode_wide (s : ByteArray) (pos : Nat) (h : pos < s.size) : 1 ≤ (Utf8.decode s pos).2 ∧ pos + (Utf8.decode s pos).2 ≤ s.size ∧ ∀ k, 1 ≤ k → k < (Utf8.decode s pos).2 → ∃ hk : pos + k < s.size, 128 ≤ (s[pos + k]'hk).toNat := by
  have hg : ∀ k (hk : pos + k < s.size), s.get! (pos + k) = s[pos + k]'hk := fun k hk => by simp [ByteArray.get!, getElem!_pos, hk]; rfl
  have hc : ∀ k, (decide (pos + k < s.size) && ((s.get! (pos + k)).toNat / 64 == 2)) = true → ∃ hk : pos + k < s.size, 128 ≤ (s[pos + k]'hk).toNat := fun k hk => by
    simp only [Bool.and_eq_true, decide_eq_true_eq, beq_iff_eq] at hk
    refine ⟨hk.1, ?_⟩
    have := hk.2
    rw [hg k hk.1] at this
    omega
  have hlt : ∀ k, (decide (pos + k < s.size) && ((s.get! (pos + k)).toNat / 64 == 2)) = true → pos + k < s.size := fun k hk => (hc k hk).1
  have fin : ∀ (m : Nat), 1 ≤ m → (∀ k, 1 ≤ k → k < m → (decide (pos + k < s.size) && ((s.get! (pos + k)).toNat / 64 == 2)) = true) → 1 ≤ m ∧ pos + m ≤ s.size ∧ ∀ k, 1 ≤ k → k < m → ∃ hk : pos + k < s.size, 128 ≤ (s[pos + k]'hk).toNat := by
    intro m hm hall
    refine ⟨hm, ?_, fun k h1 h2 => hc k (hall k h1 h2)⟩
    by_cases h1 : m = 1
    · omega
    · have := hlt (m - 1) (hall (m - 1) (by omega) (by omega)); omega
  have two : ∀ {a : Bool}, (a && (decide (pos + 1 < s.size) && ((s.get! (pos + 1)).toNat / 64 == 2))) = true → ∀ k, 1 ≤ k → k < 2 → (decide (pos + k < s.size) && ((s.get! (pos + k)).toNat / 64 == 2)) = true := by
    intro a ha k h1 h2
    rw [Bool.and_eq_true] at ha
    obtain rfl : k = 1 := by omega
    exact ha.2
  simp only [Utf8.decode]
  split
  · exact fin 1 (Nat.le_refl _) (fun k h1 h2 => by omega)
  split
  · rename_i h2
    split
    · exact fin 2 (by omega) (two h2)
    · exact fin 1 (Nat.le_refl _) (fun k h1 h2 => by omega)
  split
  · rename_i h3
    split
    · refine fin 3 (by omega) (fun k h1 h2 => ?_)
      rw [Bool.and_eq_true, Bool.and_eq_true] at h3
      obtain ⟨⟨_, a1⟩, a2⟩ := h3
      rcases (show k = 1 ∨ k = 2 by omega) with rfl | rfl
      · exact a1
      · exact a2
    · exact fin 1 (Nat.le_refl _) (fun k h1 h2 => by omega)
  split
  · rename_i h3
    split
    · refine fin 4 (by omega) (fun k h1 h2 => ?_)
      rw [Bool.and_eq_true, Bool.and_eq_true, Bool.and_eq_true] at h3
      obtain ⟨⟨⟨_, a1⟩, a2⟩, a3⟩ := h3
      rcases (show k = 1 ∨ k = 2 ∨ k = 3 by omega) with rfl | rfl | rfl
      · exact a1
      · exact a2
      · exact a3
    · exact fin 1 (Nat.le_refl _) (fun k h1 h2 => by omega)
  · exact fin 1 (Nat.le_refl _) (fun k h1 h2 => by omega)
theorem encode_high {c : Nat} (h : 128 ≤ c) : ∃ (r : List UInt8) (b : UInt8), Utf8.encode (c : Int) = ⟨(r ++ [b]).toArray⟩ ∧ 1 ≤ r.length ∧ r.length ≤ 3 ∧ 128 ≤ b.toNat := by
  have hb : ∀ n : Nat, n < 64 → 128 ≤ (UInt8.ofNat (128 + n)).toNat := fun n hn => by simp [UInt8.toNat_ofNat']; omega
  unfold Utf8.encode
  generalize hd : (if Utf8.valid (c : Int) = true then (c : Int).toNat else Utf8.runeError) = d
  have hd2 : 128 ≤ d := by
    rw [← hd]
    split
    · simpa using h
    · decide
  have h3 := hb (d % 64) (by omega)
  simp only
  rw [if_neg (by omega)]
  split
  · exact ⟨[UInt8.ofNat (192 + d / 64)], UInt8.ofNat (128 + d % 64), rfl, by simp, by simp, h3⟩
  split
  · exact ⟨[UInt8.ofNat (224 + d / 4096), UInt8.ofNat (128 + d / 64 % 64)], UInt8.ofNat (128 + d % 64), rfl, by simp, by simp, h3⟩
  · exact ⟨[UInt8.ofNat (240 + d / 262144), UInt8.ofNat (128 + d / 4096 % 64), UInt8.ofNat (128 + d / 64 % 64)], UInt8.ofNat (128 + d % 64), rfl, by simp, by simp, h3⟩

-- IndexRune in the three signs
/-- A whole array out of, and into, the block that was made last. -/
theorem wp_load_new {P : Program} {w : World} {ops : Array Oper} {rest : List Oper} {o : Oper} {a : Act} {Q : Exit → Act → World → Prop} (hgd : o.guard = none) (p : Operand) (t : TypeId) (ho : o.op = Op.load t p)
    (c : Array Value) (n : Nat) (e : TypeId) (hu : P.underlying t = some (.array n e)) (hi : (P.info? t).map (·.size) = some c.size) (hp : a.eval p = .pointer (some ⟨w.heap.size, 0, none⟩))
    (h : wpList P ops Q rest (a.put o.dst (.agg c)) (w.alloc (.cells c t))) : wpList P ops Q (o :: rest) a (w.alloc (.cells c t)) := by
  refine wpList_plain hgd fun K hK => ?_
  have hr := run_loadAt_new (P := P) w t c n e hu hi
  unfold Oper.wp execOp
  simp only [ho, hp, Sem.run_bind, Sem.run_pure, Result.andThen_ok, hr]
  exact hK _ _ h
theorem wp_store_new {P : Program} {w : World} {ops : Array Oper} {rest : List Oper} {o : Oper} {a : Act} {Q : Exit → Act → World → Prop} (hgd : o.guard = none) (p x : Operand) (t : TypeId) (ho : o.op = Op.store t p x) (hd : o.dst = none)
    (c c' : Array Value) (hi : (P.info? t).map (·.size) = some c'.size) (hcc : c.size = c'.size) (h1 : c'.all (·.oneCell') = true) (g : Nat) (hg : w.heap.size = g) (hp : a.eval p = .pointer (some ⟨g, 0, none⟩)) (hx : a.eval x = .agg c')
    (h : wpList P ops Q rest a (w.alloc (.cells c' t))) : wpList P ops Q (o :: rest) a (w.alloc (.cells c t)) := by
  refine wpList_plain hgd fun K hK => ?_
  have hr := run_storeAt_new (P := P) w t c c' hi hcc h1
  rw [hg] at hr
  unfold Oper.wp execOp
  simp only [ho, hp, hx, Sem.run_bind, Sem.run_pure, Result.andThen_ok, hr]
  exact hK _ _ (by rw [hd]; exact h)
set_option maxHeartbeats 1000000 in
set_option maxRecDepth 100000 in
theorem makeSet_any (chars : ByteArray) (w : World) (hs : chars.size < 4294967281) (hascii : ∀ (j : Nat) b, chars.data.toList[j]? = some b → b.toNat < 128) :
    Calls Tryd.prog 67 #[.string chars] w fun e w' => e = .returned (.tuple #[.agg (Lib.setCells chars.data.toList), .bool true]) ∧ w' = w.alloc (.cells (Lib.setCells chars.data.toList) 95) := by
  have HA := hid hascii
  clear hascii
  have hzv := (zero_of_info infoSet).1
  go_enter Tryd.func67, Tryd.ntmps67
  go_wp2
  rw [← Lib.setCells_nil]
  go_loopg [4] chars.size (fun g s4 wx => ∃ i : Nat, i + g = chars.size ∧ s4 = .int .i64 i ∧ wx = w.alloc (.cells (Lib.setCells (chars.data.toList.take i)) 95))
  case atStart => exact ⟨0, by omega, rfl, rfl⟩
  case round =>
    obtain ⟨i, hig, rfl, rfl⟩ := hrel
    cases gk with
    | zero =>
      obtain rfl : i = chars.size := by omega
      have hiz : ¬ ((chars.size : Int) < (chars.size : Int)) := by omega
      rw [show chars.data.toList.take chars.size = chars.data.toList from take_all chars chars.size (Nat.le_refl _)]
      have hi138 := (zero_of_info infoSet).2
      have hsz := Lib.setCells_size chars.data.toList
      have hi2 := hid (show (Tryd.prog.info? 95).map (·.size) = some (Lib.setCells chars.data.toList).size by rw [hsz]; exact hi138)
      have hld := run_loadVar_new (P := Tryd.prog) w 95 (Lib.setCells chars.data.toList) 256 4 underSet (by rw [hsz]; exact hi138)
      clear hig
      have HLD := hid hld
      clear hld hi138
      go_wp2_with (first | (refine wp_load_new rfl (.tmp 2) 95 rfl (Lib.setCells chars.data.toList) 256 4 underSet hi2.out rfl ?_) | (refine wp_store_new rfl (.tmp 2) (.tmp 20) 95 rfl rfl (Lib.setCells chars.data.toList) (Lib.setCells chars.data.toList) hi2.out rfl (Lib.setCells_one _) _ rfl rfl rfl ?_))
      (try simp only [Exit.inBlock, Exit.then])
      refine bodyPost_ret (v := .tuple #[.agg (Lib.setCells chars.data.toList), .bool true]) ?_ rfl ⟨rfl, rfl⟩
      rw [results_cell_tmp rfl]
      simp [asAddr, Result.andThen, HLD.out]
    | succ g =>
      have hi : i < chars.size := by omega
      have hiz : (i : Int) < (chars.size : Int) := by omega
      obtain ⟨x, hx⟩ : ∃ x : UInt8, chars[i]'hi = x := ⟨_, rfl⟩
      have hxl : chars.data.toList[i]? = some x := by rw [← hx]; exact getL chars i hi
      have hx128 : ¬ ((128 : Int) ≤ (x.toNat : Int)) := by have := HA.out i x hxl; omega
      have hx256 : (x.toNat : Int) < 256 := by have := HA.out i x hxl; omega
      have hcell := Lib.setCells_at (chars.data.toList.take i) x
      have Hx := hid hxl
      clear hxl
      go_wp2
      go_roundg g
      case measure => omega
      case rel => exact ⟨i + 1, by omega, by first | rfl | simp, by rw [List.take_add_one, Hx.out]; simp only [Option.toList]; rw [Lib.setCells_snoc]⟩
set_option maxHeartbeats 400000 in
theorem setHas_any (b : Nat) (x : UInt8) (v : Bool) (w : World) (hc : w.cell? ⟨b, x.toNat, none⟩ = some (.bool v)) :
    Calls Tryd.prog 81 #[.pointer (some ⟨b, 0, none⟩), .int .u8 x.toNat] w fun e w' => e = .returned (.bool v) ∧ w' = w := by
  have hx256 : (x.toNat : Int) < 256 := by have := UInt8.toNat_lt x; omega
  go_enter Tryd.func81, Tryd.ntmps81
  go_wp2
  go_ret
  exact ⟨rfl, rfl⟩
set_option maxHeartbeats 400000 in
theorem useSet_any (n : Int) (w : World) : Calls Tryd.prog 87 #[.int .i64 n] w fun e w' => e = .returned (.bool (decide (8 < n))) ∧ w' = w := by
  go_enter Tryd.func87, Tryd.ntmps87
  go_wp2
  go_ret
  exact ⟨rfl, rfl⟩
set_option maxHeartbeats 400000 in
theorem validRune_any (c : Nat) (w : World) : Calls Tryd.prog 95 #[.int .i32 c] w fun e w' => (∃ b, e = .returned (.bool b)) ∧ w' = w := by
  have h0 : (0 : Int) ≤ (c : Int) := by omega
  by_cases h1 : (c : Int) < 55296
  · go_enter Tryd.func95, Tryd.ntmps95
    go_wp2
    go_ret
    exact ⟨by first | exact Or.inl rfl | exact Or.inr rfl | exact ⟨_, rfl⟩, rfl⟩
  · by_cases h2 : (57343 : Int) < (c : Int)
    · by_cases h3 : (c : Int) ≤ 1114111
      · go_enter Tryd.func95, Tryd.ntmps95
        go_wp2
        go_ret
        exact ⟨by first | exact Or.inl rfl | exact Or.inr rfl | exact ⟨_, rfl⟩, rfl⟩
      · go_enter Tryd.func95, Tryd.ntmps95
        go_wp2
        go_ret
        exact ⟨by first | exact Or.inl rfl | exact Or.inr rfl | exact ⟨_, rfl⟩, rfl⟩
    · go_enter Tryd.func95, Tryd.ntmps95
      go_wp2
      go_ret
      exact ⟨by first | exact Or.inl rfl | exact Or.inr rfl | exact ⟨_, rfl⟩, rfl⟩

end Go.Proofs.YtnijlmkodgdhlaaDoor
