/-
  An element by places: plain facts.
-/
import Derived.Test.YtnijlmkodgdhlaaDoorYT
namespace Go.Proofs.YtnijlmkodgdhlaaDoor
open Go.RowKit Sc
set_option linter.unusedVariables false
set_option maxRecDepth 20000
set_option linter.unusedSimpArgs false

theorem run_self {p : UInt8 → Bool} {l : List UInt8} {k : Nat} (hk : k ≤ l.length) : runL p l k = k ↔ ((l.drop k).head?.any p = false) := by
  by_cases h : k < l.length
  · rw [List.drop_eq_getElem_cons h, List.head?_cons, Option.any_some]
    cases hp : p l[k] with
    | false => simp [run_stop h hp]
    | true =>
      have h1 := run_step h hp
      have h2 := run_le (p := p) (l := l) (k := k + 1) (by omega)
      simp
      omega
  · rw [run_end (by omega), List.drop_eq_nil_of_le (by omega)]; simp
section
variable {l : List UInt8} {m tq a : Nat} {acc : List Par}
theorem ax_go (htq : tq ≤ l.length) (ha : a = runL xblk l tq) (hal : a < l.length) (h47 : l[a] ≠ 47) (h62 : l[a] ≠ 62) :
    attrsX (m + 1) acc (l.drop tq) = if a = tq then none else match attrP l a with | none => none | some (p, n) => attrsX m (acc ++ [p]) (l.drop n) := by
  have e : (l.drop tq).dropWhile xblk = l.drop a := by rw [ha, run_drop]
  rw [attrsX, e, List.drop_eq_getElem_cons hal]
  simp only
  rw [if_neg (by simp [h47, h62])]
  have hs := run_self (p := xblk) htq
  rw [← ha] at hs
  by_cases h : a = tq
  · rw [if_pos (hs.1 h), if_pos h]
  · rw [if_neg (fun q => h (hs.2 q)), if_neg h, ← List.drop_eq_getElem_cons hal, attr_place (by omega)]
    cases attrP l a <;> rfl
theorem ax_end (htq : tq ≤ l.length) (ha : a = runL xblk l tq) (hal : a < l.length) (h : l[a] = 47 ∨ l[a] = 62) : attrsX (m + 1) acc (l.drop tq) = some (acc, l.drop a) := by
  have e : (l.drop tq).dropWhile xblk = l.drop a := by rw [ha, run_drop]
  rw [attrsX, e, List.drop_eq_getElem_cons hal]
  simp only
  rw [if_pos h]
theorem ax_len (htq : tq ≤ l.length) (ha : a = runL xblk l tq) (hal : a = l.length) : attrsX m acc (l.drop tq) = none ∨ attrsX m acc (l.drop tq) = some (acc, []) := by
  cases m with
  | zero => exact .inl rfl
  | succ m =>
    right
    have e : (l.drop tq).dropWhile xblk = l.drop a := by rw [ha, run_drop]
    rw [attrsX, e, hal, List.drop_length]
end
/-- What stands behind an element's attributes. -/
def elemT (n d c : Nat) (nm : List UInt8) (o : Option (List Par × List UInt8)) : Option (List Nd × List UInt8) := match o with
  | none => none
  | some (at', r2) => match r2 with
    | 47 :: 62 :: r3 => some ([⟨d, nm, at', []⟩], r3)
    | 62 :: r3 => contX n ⟨d, nm, at', []⟩ d c [] [] r3
    | _ => none
theorem elem_bad {n d c : Nat} {l : List UInt8} {k : Nat} (h : 8 ≤ d ∨ 200 ≤ c ∨ l[k]? ≠ some 60) : elemX (n + 1) d c (l.drop k) = none := by
  by_cases hk : k < l.length
  · rw [List.drop_eq_getElem_cons hk, elemX, if_pos]
    rcases h with h | h | h
    · exact .inl h
    · exact .inr (.inl h)
    · rw [List.getElem?_eq_getElem hk] at h
      exact .inr (.inr (by simpa using h))
  · rw [List.drop_eq_nil_of_le (by omega)]; rfl
theorem elem_go {n d c : Nat} {l : List UInt8} {k : Nat} (hd : ¬ 8 ≤ d) (hc : ¬ 200 ≤ c) (hk : k < l.length) (h : l[k] = 60) :
    elemX (n + 1) d c (l.drop k) = if runL (fun b => !endc b) l (k + 1) = l.length then none else elemT n d c ((l.drop (k + 1)).take (runL (fun b => !endc b) l (k + 1) - (k + 1))) (attrsX (l.length - (k + 1)) [] (l.drop (runL (fun b => !endc b) l (k + 1)))) := by
  have hr := run_le (p := fun b => !endc b) (l := l) (k := k + 1) (by omega)
  rw [List.drop_eq_getElem_cons hk, elemX, if_neg (by simp [hd, hc, h]), ← run_drop (p := fun b => !endc b), ← run_take (p := fun b => !endc b), List.length_drop]
  generalize runL (fun b => !endc b) l (k + 1) = t at hr ⊢
  by_cases ht : t = l.length
  · rw [if_pos ((drop_none hr.2).2 ht), if_pos ht]
  · rw [if_neg (fun e => ht ((drop_none hr.2).1 e)), if_neg ht]
    unfold elemT
    rfl
theorem elemT_one {n d c : Nat} {nm : List UInt8} {acc : List Par} {l : List UInt8} {a : Nat} (h : isAt l a [47, 62] = true) : elemT n d c nm (some (acc, l.drop a)) = some ([⟨d, nm, acc, []⟩], l.drop (a + 2)) := by
  have e : (l.drop a).take 2 = [47, 62] := by unfold isAt at h; simpa using h
  have e2 := List.take_append_drop 2 (l.drop a)
  rw [e, List.drop_drop] at e2
  rw [← e2]
  rfl
theorem elemT_in {n d c : Nat} {nm : List UInt8} {acc : List Par} {l : List UInt8} {a : Nat} (h : l[a]? = some 62) : elemT n d c nm (some (acc, l.drop a)) = contX n ⟨d, nm, acc, []⟩ d c [] [] (l.drop (a + 1)) := by
  rw [drop_get h]; rfl
theorem elemT_no {n d c : Nat} {nm : List UInt8} {acc : List Par} {l : List UInt8} {a : Nat} (h1 : isAt l a [47, 62] = false) (h2 : l[a]? ≠ some 62) : elemT n d c nm (some (acc, l.drop a)) = none := by
  unfold elemT
  simp only
  split
  · next r3 he =>
    exfalso
    unfold isAt at h1
    rw [he] at h1
    simp at h1
  · next r3 he =>
    exfalso
    apply h2
    have := congrArg List.head? he
    rw [List.head?_drop] at this
    simpa using this
  · rfl
end Go.Proofs.YtnijlmkodgdhlaaDoor
