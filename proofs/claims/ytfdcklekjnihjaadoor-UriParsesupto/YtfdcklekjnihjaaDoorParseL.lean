/-
  Which URI a text is. Plain functions.
-/
import Derived.Test.YtfdcklekjnihjaaDoorCheckL
import Derived.Test.YtfdcklekjnihjaaDoorWhereL
import Derived.Test.YtfdcklekjnihjaaDoorBackL
namespace Go.Proofs.YtfdcklekjnihjaaDoor
open Go.RowKit Sc
set_option linter.unusedVariables false
set_option maxRecDepth 20000

def noU : Uri := ⟨[], [], [], 0, [], []⟩
def userV (s : List UInt8) : List UInt8 × List UInt8 × Int :=
  if (cutL 64 s).2.2 = true then
    (if (writtenV usersK (cutL 64 s).1).2 = false ∨ (writtenV usersK (cutL 64 s).1).1 = [] ∨ 64 < (writtenV usersK (cutL 64 s).1).1.length then ([], [], 31)
     else ((writtenV usersK (cutL 64 s).1).1, (cutL 64 s).2.1, 0))
  else ([], s, 0)
def headsV (asked : Bool) (back : List UInt8) : Option (List Par) := if asked = true then parsOf headersK (splitL 38 back) else some []
def fillV (w : List UInt8 × Int × Int) : Option (List Par) → Option (List Par) → Uri × Int
  | some ps, some hs => (⟨[], [], w.1, w.2.1, ps, hs⟩, 0)
  | _, _ => (noU, 34)
def restV (s : List UInt8) : Uri × Int :=
  if (whereV ((splitL 59 (cutL 63 s).1).headD [])).2.2 ≠ 0 then (noU, (whereV ((splitL 59 (cutL 63 s).1).headD [])).2.2)
  else fillV (whereV ((splitL 59 (cutL 63 s).1).headD [])) (parsOf paramsK (splitL 59 (cutL 63 s).1).tail) (headsV (cutL 63 s).2.2 (cutL 63 s).2.1)
def endV (u : Uri) : Uri × Int := if checkV u ≠ 0 then (noU, checkV u) else (u, 0)
def bothV (sch us : List UInt8) (r : Uri × Int) : Uri × Int := if r.2 ≠ 0 then (noU, r.2) else endV { r.1 with scheme := sch, user := us }
def parseV (s : List UInt8) : Uri × Int :=
  if (cutL 58 s).2.2 = false ∨ schemeB (lowL (cutL 58 s).1) = false then (noU, 30)
  else if (userV (cutL 58 s).2.1).2.2 ≠ 0 then (noU, (userV (cutL 58 s).2.1).2.2)
  else bothV (lowL (cutL 58 s).1) (userV (cutL 58 s).2.1).1 (restV (userV (cutL 58 s).2.1).2.1)

/-- The signs that an escaped text can have. -/
theorem esc_free (kp : Nat → Bool) : ∀ (l : List UInt8), ∀ b ∈ esc kp l, b = 37 ∨ isB b.toNat 16 = true ∨ kp b.toNat = true
  | [], b, h => by simp [esc] at h
  | x :: r, b, h => by
    have ih := esc_free kp r b
    rw [esc] at h
    by_cases hf : free kp x = true
    · rw [if_pos hf] at h
      rcases List.mem_append.1 h with h | h
      · have : b = x := by simpa using h
        subst this
        right; simpa [free] using hf
      · exact ih h
    · rw [if_neg hf] at h
      have hx : ∀ n : Fin 16, isB ((hexd n.val).toNat : Int) 16 = true := by decide +kernel
      rcases List.mem_append.1 h with h | h
      · simp only [List.mem_cons, List.not_mem_nil, or_false] at h
        have := x.toNat_lt
        rcases h with rfl | rfl | rfl
        · exact .inl rfl
        · exact .inr (.inl (hx ⟨x.toNat / 16, by omega⟩))
        · exact .inr (.inl (hx ⟨x.toNat % 16, Nat.mod_lt _ (by decide)⟩))
      · exact ih h
theorem inK_mem (keep : List UInt8) (b : UInt8) : inK keep b.toNat = hasL b keep := by
  unfold inK hasL
  induction keep with
  | nil => rfl
  | cons x l ih =>
    simp only [List.any_cons, List.contains_cons, ih]
    congr 1
    rw [Bool.eq_iff_iff]
    simp only [beq_iff_eq]
    constructor
    · intro h; exact (UInt8.toNat_inj.1 h).symm
    · intro h; rw [h]
theorem escL_ok (keep l : List UInt8) : ∀ b ∈ escL keep l, okw keep b = true := by
  intro b hb
  rcases esc_free _ l b hb with h | h | h
  · simp [okw, h]
  · simp [okw, h]
  · unfold kpF at h
    by_cases e : b.toNat = 37
    · rw [if_pos e] at h; simp at h
    · rw [if_neg e, inK_mem] at h
      simp [okw, h]
theorem written_esc (keep l : List UInt8) : writtenV keep (escL keep l) = (l, true) := by
  rw [written_all (by rw [List.all_eq_true]; exact escL_ok keep l), escL, unescV_some (une_esc keep l)]; rfl
theorem escL_not {keep l : List UInt8} {c : UInt8} (h : okw keep c = false) : c ∉ escL keep l := by
  intro hc; rw [escL_ok keep l c hc] at h; cases h
theorem escL_ne {keep l : List UInt8} (h : l ≠ []) : escL keep l ≠ [] := by
  intro e
  have := une_esc keep l
  rw [escL] at e
  rw [e] at this
  simp [une] at this
  exact h this

/-- A parameter's text is read as it was. -/
theorem par_back {keep : List UInt8} {p : Par} (h61 : okw keep 61 = false) (hp : parB p = true) : parOf keep (pairV keep p) = some p := by
  obtain ⟨h1, h2, h3, h4⟩ := parB_ok hp
  unfold parOf pairV
  cases hh : p.has
  · have hv : p.value = [] := by rcases h4 with h | h; · rw [hh] at h; cases h
                                 · exact h
    simp only [Bool.false_eq_true, if_false]
    rw [cutL_miss (escL_not h61)]
    have e0 : writtenV keep [] = ([], true) := by rfl
    simp only [written_esc, e0, and_self, if_true]
    cases p; simp_all
  · simp only [if_true]
    rw [List.append_assoc, List.singleton_append, cutL_hit (escL_not h61)]
    simp only [written_esc, and_self, if_true]
    cases p; simp_all

theorem splitL_miss {c : UInt8} {a : List UInt8} (h : c ∉ a) : splitL c a = [a] := by
  rw [splitL_cut, cutL_miss h]; simp
theorem splitL_hit {c : UInt8} {a b : List UInt8} (h : c ∉ a) : splitL c (a ++ c :: b) = a :: splitL c b := by
  rw [splitL_cut, cutL_hit h]; simp
/-- Texts with a sign ahead of each are parted at the sign. -/
theorem splitL_many {c : UInt8} {a : List UInt8} (h : c ∉ a) (ls : List (List UInt8)) (hl : ∀ l ∈ ls, c ∉ l) : splitL c (a ++ ls.flatMap fun l => [c] ++ l) = a :: ls := by
  induction ls generalizing a with
  | nil => simp [splitL_miss h]
  | cons l ls ih =>
    rw [List.flatMap_cons, List.append_assoc, List.singleton_append, splitL_hit h, ih (hl l (by simp)) (fun x hx => hl x (by simp [hx]))]
theorem parsT_eq (ps : List Par) : parsT ps = (ps.map (pairV paramsK)).flatMap fun l => [59] ++ l := by
  rw [parsT, List.flatMap_map]
theorem pars_back {keep : List UInt8} (h61 : okw keep 61 = false) (ps : List Par) (hp : ∀ p ∈ ps, parB p = true) : parsOf keep (ps.map (pairV keep)) = some ps := by
  induction ps with
  | nil => rfl
  | cons p ps ih =>
    rw [List.map_cons, parsOf, par_back h61 (hp p (by simp)), ih (fun q hq => hp q (by simp [hq]))]
theorem hdrT_cons (p : Par) (ps : List Par) : hdrT (p :: ps) = 63 :: (pairV headersK p ++ (ps.map (pairV headersK)).flatMap fun l => [38] ++ l) := by
  have key : ∀ (n : Nat) (qs : List Par), ((qs.zipIdx (n + 1)).flatMap fun (p, i) => (if i = 0 then ([63] : List UInt8) else [38]) ++ pairV headersK p) = (qs.map (pairV headersK)).flatMap fun l => [38] ++ l := by
    intro n qs
    induction qs generalizing n with
    | nil => rfl
    | cons q qs ih =>
      rw [List.zipIdx_cons, List.flatMap_cons, ih (n + 1), List.map_cons, List.flatMap_cons]
      simp
  rw [hdrT, List.zipIdx_cons, List.flatMap_cons, key 0]
  simp
theorem pairV_mem {keep : List UInt8} {p : Par} {b : UInt8} (h : b ∈ pairV keep p) : b = 61 ∨ okw keep b = true := by
  unfold pairV at h
  split at h
  · simp only [List.mem_append, List.mem_singleton] at h
    rcases h with (h | h) | h
    · exact .inr (escL_ok _ _ _ h)
    · exact .inl h
    · exact .inr (escL_ok _ _ _ h)
  · exact .inr (escL_ok _ _ _ h)
theorem pairV_not {keep : List UInt8} {p : Par} {c : UInt8} (h1 : c ≠ 61) (h2 : okw keep c = false) : c ∉ pairV keep p := by
  intro h
  rcases pairV_mem h with h | h
  · exact h1 h
  · rw [h2] at h; cases h
theorem parsT_mem {ps : List Par} {b : UInt8} (h : b ∈ parsT ps) : b = 59 ∨ b = 61 ∨ okw paramsK b = true := by
  unfold parsT at h
  rw [List.mem_flatMap] at h
  obtain ⟨p, _, hb⟩ := h
  simp only [List.mem_append, List.mem_singleton] at hb
  rcases hb with h | h
  · exact .inl h
  · exact .inr (pairV_mem h)
theorem hdrT_mem {ps : List Par} {b : UInt8} (h : b ∈ hdrT ps) : b = 63 ∨ b = 38 ∨ b = 61 ∨ okw headersK b = true := by
  unfold hdrT at h
  rw [List.mem_flatMap] at h
  obtain ⟨⟨p, i⟩, _, hb⟩ := h
  simp only [List.mem_append] at hb
  rcases hb with h | h
  · split at h
    · exact .inl (by simpa using h)
    · exact .inr (.inl (by simpa using h))
  · exact .inr (.inr (pairV_mem h))

end Go.Proofs.YtfdcklekjnihjaaDoor
