/-
  Hops in one header or several: plain facts; a record that a call fills by appends.
-/
import Derived.Test.YtpcgomfiihhpcaaDoorVList
import Derived.Test.YtpcgomfiihhpcaaDoorGlue
namespace Go.Proofs.YtpcgomfiihhpcaaDoor
open Go.RowKit Sc
set_option linter.unusedVariables false
set_option maxRecDepth 20000
set_option linter.unusedSimpArgs false

-- texts with another one between
def joinT (t : List UInt8) : List (List UInt8) → List UInt8
  | [] => []
  | [x] => x
  | x :: y :: xs => x ++ t ++ joinT t (y :: xs)
theorem join_cons (t x : List UInt8) : ∀ {ts : List (List UInt8)}, ts ≠ [] → joinT t (x :: ts) = x ++ t ++ joinT t ts
  | [], h => absurd rfl h
  | y :: ts, _ => by rw [joinT]
theorem join_snoc (t : List UInt8) : ∀ (ts : List (List UInt8)) (x : List UInt8), joinT t (ts ++ [x]) = if ts = [] then x else joinT t ts ++ t ++ x
  | [], x => by simp [joinT]
  | [y], x => by simp [joinT]
  | y :: u :: ts, x => by
    have h := join_snoc t (u :: ts) x
    rw [if_neg (by simp)] at h
    rw [List.cons_append, join_cons t y (by simp), h, join_cons t y (by simp)]
    simp
theorem glue_join (t : List UInt8) (ps : List (List UInt8)) : ∀ k, k ≤ ps.length → glueK t ps k = joinT t (ps.take k)
  | 0, _ => by simp [glueK, joinT]
  | k + 1, h => by
    have ih := glue_join t ps k (by omega)
    rw [List.take_succ_eq_append_getElem (by omega), join_snoc]
    by_cases h0 : k = 0
    · subst h0; rw [glue_first _ _ (by omega)]; simp
    · rw [glue_next _ _ (by omega) (by omega), ih, if_neg (by intro e; have := congrArg List.length e; rw [List.length_take] at this; simp only [List.length_nil] at this; omega)]
theorem join_len (t : List UInt8) (N : Nat) : ∀ (ts : List (List UInt8)), (∀ x ∈ ts, x.length ≤ N) → (joinT t ts).length ≤ ts.length * (N + t.length)
  | [], _ => by simp [joinT]
  | [x], h => by have := h x (by simp); simp [joinT]; omega
  | x :: u :: ts, h => by
    have h1 := h x (by simp)
    have h2 := join_len t N (u :: ts) (fun y hy => h y (by simp at hy ⊢; exact Or.inr hy))
    rw [join_cons t x (by simp)]
    simp only [List.length_append, List.length_cons] at h2 ⊢
    rw [Nat.succ_mul]
    omega
theorem join_sep (a b : List UInt8) : ∀ ts : List (List UInt8), joinT (a ++ [44] ++ b) ts = sepT a b ts
  | [] => rfl
  | [x] => rfl
  | x :: y :: ts => by
    have e : sepT a b (x :: y :: ts) = x ++ a ++ [44] ++ b ++ sepT a b (y :: ts) := by rw [sepT]; simp
    rw [joinT, join_sep a b (y :: ts), e]
    simp only [List.append_assoc]
theorem join_parts {a b : List UInt8} (ha : Clo 44 a) (hb : Clo 44 b) (pa : ∀ x, parseH (x ++ a) = parseH x) (pb : ∀ x, parseH (b ++ x) = parseH x) {ts : List (List UInt8)} (hne : ts ≠ []) (h : ∀ x ∈ ts, Clo 44 x) :
    (partsV 44 (joinT (a ++ [44] ++ b) ts)).map parseH = ts.map parseH := by
  cases ts with
  | nil => exact absurd rfl hne
  | cons t ts =>
    rw [join_sep]
    exact parts_sep ha hb pa pb ts t [] (fun x => rfl) h
theorem clo_nil (sep : Int) : Clo sep [] := clo_plain (fun b hb => by simp at hb)
theorem comma_parts {ts : List (List UInt8)} (hne : ts ≠ []) (h : ∀ x ∈ ts, Clo 44 x) : (partsV 44 (joinT [44] ts)).map parseH = ts.map parseH :=
  join_parts (a := []) (b := []) (clo_nil 44) (clo_nil 44) (fun x => by simp) (fun x => by simp) hne h
theorem blank_parts {ts : List (List UInt8)} (hne : ts ≠ []) (h : ∀ x ∈ ts, Clo 44 x) : (partsV 44 (joinT [32, 44, 32] ts)).map parseH = ts.map parseH :=
  join_parts (a := [32]) (b := [32]) (clo_sign 44 32 (by decide)) (clo_sign 44 32 (by decide)) parseH_trim2 parseH_trim hne h
theorem one_parts {t : List UInt8} (h : Clo 44 t) : partsV 44 t = [t] := by
  have := h [] []
  rw [List.append_nil, List.nil_append] at this
  unfold partsV
  rw [this, partsG]
theorem each_parts : ∀ {ts : List (List UInt8)}, (∀ x ∈ ts, Clo 44 x) → ts.flatMap (partsV 44) = ts
  | [], _ => rfl
  | t :: ts, h => by rw [List.flatMap_cons, one_parts (h t (by simp)), each_parts (fun x hx => h x (by simp [hx]))]; rfl

def toH : Hdr := ⟨[84, 111], [120]⟩
def viaU : List UInt8 := [86, 73, 65]
def viaS : List UInt8 := [118, 105, 97]
def oneM (hs : List Hdr) : Ms := ⟨[], [], 0, [], hs, []⟩
theorem via_all (ts : List (List UInt8)) : allV (oneM (ts.map fun t => ⟨viaK, t⟩)) viaK = ts := by
  have h : sameB viaK viaK = true := by decide +kernel
  unfold allV oneM
  simp only
  induction ts with
  | nil => rfl
  | cons t ts ih =>
    rw [List.map_cons, List.filter_cons, if_pos h, List.map_cons, ih]
/-- The headers of the second message. -/
def twoH (ts : List (List UInt8)) (c : Nat) : List Hdr := toH :: ((if 0 < c then [⟨viaU, joinT [44] (ts.take c)⟩] else []) ++ (if c < ts.length then [⟨viaS, joinT [32, 44, 32] (ts.drop c)⟩] else []))
theorem two_all (ts : List (List UInt8)) (c : Nat) : allV (oneM (twoH ts c)) viaK = (if 0 < c then [joinT [44] (ts.take c)] else []) ++ (if c < ts.length then [joinT [32, 44, 32] (ts.drop c)] else []) := by
  have h0 : sameB toH.name viaK = false := by decide +kernel
  have h1 : sameB viaU viaK = true := by decide +kernel
  have h2 : sameB viaS viaK = true := by decide +kernel
  unfold allV oneM twoH
  simp only
  rw [List.filter_cons, if_neg (by rw [h0]; simp)]
  by_cases hc : 0 < c <;> by_cases hn : c < ts.length <;> simp [hc, hn, h1, h2]
/-- However the hops are spread, they are read as they were. -/
theorem spread_one {vs : List Hop} (hne : vs ≠ []) (hl : vs.length ≤ 16) (h : ∀ v ∈ vs, checkH v = 0) : hopsV (allV (oneM ((vs.map textH).map fun t => ⟨viaK, t⟩)) viaK) = (vs, 0) := by
  rw [via_all]
  refine hopsV_back hne hl h ?_
  rw [each_parts (fun x hx => by simp at hx; obtain ⟨v, hv, rfl⟩ := hx; exact clo_textH (h v hv))]
theorem spread_two {vs : List Hop} (hne : vs ≠ []) (hl : vs.length ≤ 16) (h : ∀ v ∈ vs, checkH v = 0) (c : Nat) (hc : c ≤ vs.length) : hopsV (allV (oneM (twoH (vs.map textH) c)) viaK) = (vs, 0) := by
  rw [two_all]
  refine hopsV_back hne hl h ?_
  have hclo : ∀ x ∈ vs.map textH, Clo 44 x := fun x hx => by simp at hx; obtain ⟨v, hv, rfl⟩ := hx; exact clo_textH (h v hv)
  have htn : (vs.map textH).length = vs.length := List.length_map _
  have hvp : 0 < vs.length := by cases vs with | nil => exact absurd rfl hne | cons a b => simp
  generalize vs.map textH = ts at hclo htn
  rw [List.flatMap_append, List.map_append]
  have e1 : ((if 0 < c then [joinT [44] (ts.take c)] else []).flatMap (partsV 44)).map parseH = (ts.take c).map parseH := by
    by_cases h0 : 0 < c
    · rw [if_pos h0]
      simp only [List.flatMap_cons, List.flatMap_nil, List.append_nil]
      exact comma_parts (by intro e; have := congrArg List.length e; rw [List.length_take, List.length_nil] at this; omega) (fun x hx => hclo x (List.mem_of_mem_take hx))
    · rw [if_neg h0, show c = 0 by omega]; rfl
  have e2 : ((if c < ts.length then [joinT [32, 44, 32] (ts.drop c)] else []).flatMap (partsV 44)).map parseH = (ts.drop c).map parseH := by
    by_cases h0 : c < ts.length
    · rw [if_pos h0]
      simp only [List.flatMap_cons, List.flatMap_nil, List.append_nil]
      exact blank_parts (by intro e; have := congrArg List.length e; rw [List.length_drop, List.length_nil] at this; omega) (fun x hx => hclo x (List.mem_of_mem_drop hx))
    · rw [if_neg h0, List.drop_of_length_le (by omega)]; rfl
  rw [e1, e2, ← List.map_append, List.take_append_drop]

end Go.Proofs.YtpcgomfiihhpcaaDoor
