/-
  Base texts, one behind another: RX5, RXS.
-/
import Derived.Test.YtnijlmkodgdhlaaDoorYQ
import Derived.Test.YtnijlmkodgdhlaaDoorYM
import Derived.Test.YtnijlmkodgdhlaaDoorYL

/-
  The document's own layer 13: an attribute.
-/
namespace Go.Proofs.YtnijlmkodgdhlaaDoor
open Go.RowKit Sc
set_option linter.unusedVariables false
set_option maxRecDepth 20000
set_option linter.unusedSimpArgs false

/-- An attribute by places. -/
def attrP (l : List UInt8) (k : Nat) : Option (Par × Nat) :=
  let t := runL (· != 61) l k
  if t = l.length then none else
  let a := runL xblk l (t + 1)
  match l[a]? with
  | none => none
  | some q => if q ≠ 34 ∧ q ≠ 39 then none else
    let u := runL (fun b => b != q && b != 60) l (a + 1)
    if l[u]? ≠ some q then none else
    (readX ((l.drop (a + 1)).take (u - (a + 1)))).map fun v => (⟨xbehind ((l.drop k).take (t - k)), v, true⟩, u + 1)
theorem drop_none {l : List UInt8} {k : Nat} (hk : k ≤ l.length) : l.drop k = [] ↔ k = l.length := by
  rw [List.drop_eq_nil_iff]; omega
theorem drop_get {l : List UInt8} {k : Nat} {c : UInt8} (h : l[k]? = some c) : l.drop k = c :: l.drop (k + 1) := by
  obtain ⟨hk, rfl⟩ := List.getElem?_eq_some_iff.1 h
  exact List.drop_eq_getElem_cons hk
theorem attr_place {l : List UInt8} {k : Nat} (hk : k ≤ l.length) : attrX (l.drop k) = (attrP l k).map fun x => (x.1, l.drop x.2) := by
  unfold attrX attrP
  simp only
  rw [← run_drop (p := (· != 61)), ← run_take (p := (· != 61))]
  have h1 := run_le (p := (· != 61)) hk
  generalize runL (· != 61) l k = t at h1 ⊢
  by_cases ht : t = l.length
  · rw [if_pos ht, (drop_none h1.2).2 ht]; rfl
  · rw [if_neg ht, List.drop_eq_getElem_cons (by omega)]
    simp only
    rw [← run_drop (p := xblk)]
    have h2 := run_le (p := xblk) (l := l) (k := t + 1) (by omega)
    generalize runL xblk l (t + 1) = a at h2 ⊢
    cases ha : l[a]? with
    | none =>
      have : a = l.length := by have := List.getElem?_eq_none_iff.1 ha; omega
      rw [(drop_none h2.2).2 this]; rfl
    | some q =>
      have hal : a < l.length := (List.getElem?_eq_some_iff.1 ha).1
      rw [drop_get ha]
      simp only
      by_cases hq : q ≠ 34 ∧ q ≠ 39
      · rw [if_pos hq, if_pos hq]; rfl
      · rw [if_neg hq, if_neg hq, ← run_drop (p := fun b => b != q && b != 60), ← run_take (p := fun b => b != q && b != 60)]
        have h3 := run_le (p := fun b => b != q && b != 60) (l := l) (k := a + 1) (by omega)
        generalize runL (fun b => b != q && b != 60) l (a + 1) = u at h3 ⊢
        cases hu : l[u]? with
        | none =>
          have : u = l.length := by have := List.getElem?_eq_none_iff.1 hu; omega
          rw [(drop_none h3.2).2 this, if_pos (by simp)]; rfl
        | some e =>
          rw [drop_get hu]
          simp only
          by_cases he : e = q
          · rw [if_neg (by simp [he]), if_neg (by simp [he])]
            cases readX ((l.drop (a + 1)).take (u - (a + 1))) <;> rfl
          · rw [if_pos he, if_pos (by simpa using he)]; rfl
theorem attrP_le {l : List UInt8} {k n : Nat} {p : Par} (hk : k ≤ l.length) (h : attrP l k = some (p, n)) : k < n ∧ n ≤ l.length := by
  unfold attrP at h
  simp only at h
  have h1 := run_le (p := (· != 61)) hk
  generalize runL (· != 61) l k = t at h1 h
  split at h
  · cases h
  have h2 := run_le (p := xblk) (l := l) (k := t + 1) (by omega)
  generalize runL xblk l (t + 1) = a at h2 h
  split at h
  · cases h
  next q hq =>
  have hal : a < l.length := (List.getElem?_eq_some_iff.1 hq).1
  split at h
  · cases h
  have h3 := run_le (p := fun b => b != q && b != 60) (l := l) (k := a + 1) (by omega)
  generalize runL (fun b => b != q && b != 60) l (a + 1) = u at h3 h
  split at h
  · cases h
  next hu =>
  have hul : u < l.length := by
    have : l[u]? = some q := by simpa using hu
    exact (List.getElem?_eq_some_iff.1 this).1
  cases hr : readX ((l.drop (a + 1)).take (u - (a + 1))) with
  | none => rw [hr] at h; cases h
  | some v =>
    rw [hr] at h
    simp only [Option.map_some, Option.some.injEq, Prod.mk.injEq] at h
    omega
def attrR (o : Option (Par × Nat)) : Value := match o with
  | some (p, n) => .tuple #[.agg #[.string ⟨p.name.toArray⟩, .string ⟨p.value.toArray⟩, .bool p.has], .int .i64 n]
  | none => .tuple #[.agg #[.string ⟨#[]⟩, .string ⟨#[]⟩, .bool false], .int .i64 (-1)]
end Go.Proofs.YtnijlmkodgdhlaaDoor

/-
  What reading an element leaves is an end of the text: plain facts.
-/
namespace Go.Proofs.YtnijlmkodgdhlaaDoor
open Go.RowKit Sc
set_option linter.unusedVariables false
set_option maxRecDepth 20000
set_option linter.unusedSimpArgs false

theorem suf_drop {a b : List UInt8} (h : a <:+ b) : a = b.drop (b.length - a.length) := by
  obtain ⟨t, rfl⟩ := h
  rw [List.length_append, Nat.add_sub_cancel, List.drop_left]
theorem suf_dw (p : UInt8 → Bool) (l : List UInt8) : l.dropWhile p <:+ l := List.dropWhile_suffix p
theorem attr_suf {s r : List UInt8} {p : Par} (h : attrX s = some (p, r)) : r <:+ s ∧ r.length < s.length := by
  have e := attr_place (l := s) (k := 0) (Nat.zero_le _)
  rw [List.drop_zero, h] at e
  cases ha : attrP s 0 with
  | none => rw [ha] at e; cases e
  | some x =>
    obtain ⟨p', n⟩ := x
    rw [ha] at e
    simp only [Option.map_some, Option.some.injEq, Prod.mk.injEq] at e
    have := attrP_le (Nat.zero_le _) ha
    rw [e.2]
    exact ⟨List.drop_suffix _ _, by rw [List.length_drop]; omega⟩
theorem attrs_suf : ∀ (n : Nat) (acc : List Par) (s : List UInt8) (l : List Par) (r : List UInt8), attrsX n acc s = some (l, r) → r <:+ s
  | 0, _, _, _, _, h => by rw [attrsX] at h; cases h
  | n + 1, acc, s, l, r, h => by
    rw [attrsX] at h
    have hd := suf_dw xblk s
    split at h
    · simp only [Option.some.injEq, Prod.mk.injEq] at h
      rw [← h.2]; exact List.nil_suffix
    · next b q hq =>
      rw [hq] at hd
      split at h
      · simp only [Option.some.injEq, Prod.mk.injEq] at h
        rw [← h.2]; exact hd
      · split at h
        · cases h
        · split at h
          · cases h
          · next p r2 ha =>
            exact (attrs_suf n _ _ _ _ h).trans ((attr_suf ha).1.trans hd)
mutual
theorem elem_suf : ∀ (n d c : Nat) (s : List UInt8) (l : List Nd) (r : List UInt8), elemX n d c s = some (l, r) → r <:+ s ∧ r.length + 2 < s.length
  | 0, _, _, _, _, _, h => by rw [elemX] at h; cases h
  | n + 1, d, c, s, l, r, h => by
    cases s with
    | nil => simp [elemX] at h
    | cons b q =>
      rw [elemX] at h
      split at h
      · cases h
      · split at h
        · cases h
        · split at h
          · cases h
          · next at' r2 ha =>
            have h1 := (attrs_suf _ _ _ _ _ ha).trans (suf_dw _ q)
            split at h
            · next r3 =>
              simp only [Option.some.injEq, Prod.mk.injEq] at h
              rw [← h.2]
              have h2 : r3 <:+ q := (List.suffix_append [47, 62] r3).trans h1
              have h3 := h1.length_le
              simp only [List.length_cons] at h3 ⊢
              exact ⟨h2.trans (List.suffix_cons _ _), by omega⟩
            · next r3 =>
              have h2 : r3 <:+ q := (List.suffix_cons 62 r3).trans h1
              have h3 := h1.length_le
              obtain ⟨k1, k2⟩ := cont_suf n _ _ _ _ _ _ _ _ h
              simp only [List.length_cons] at h3 ⊢
              exact ⟨(k1.trans h2).trans (List.suffix_cons _ _), by omega⟩
            · cases h
theorem cont_suf : ∀ (n : Nat) (x : Nd) (d c : Nat) (txt : List UInt8) (kids : List Nd) (s : List UInt8) (l : List Nd) (r : List UInt8), contX n x d c txt kids s = some (l, r) → r <:+ s ∧ r.length + 2 < s.length
  | 0, _, _, _, _, _, _, _, _, h => by rw [contX] at h; cases h
  | n + 1, x, d, c, txt, kids, s, l, r, h => by
    rw [contX] at h
    have hd := suf_dw (· != 60) s
    split at h
    · cases h
    · next b q hq =>
      rw [hq] at hd
      split at h
      · next h47 =>
        split at h
        · cases h
        · split at h
          · next r3 he =>
            cases hv : readX (xtrim (txt ++ s.takeWhile (· != 60))) with
            | none => rw [hv] at h; cases h
            | some t =>
              rw [hv] at h
              simp only [Option.map_some, Option.some.injEq, Prod.mk.injEq] at h
              rw [← h.2]
              have h1 : (62 :: r3) <:+ q.tail := by rw [← he]; exact (suf_dw _ _).trans (List.drop_suffix _ _)
              have h2 : q.tail <:+ q := List.tail_suffix q
              have h3 := h1.length_le
              have h4 : q.tail.length + 1 = q.length := by
                cases q with
                | nil => simp at h47
                | cons a b => simp
              have h5 := hd.length_le
              simp only [List.length_cons] at h3 h5 ⊢
              exact ⟨(((List.suffix_cons 62 r3).trans h1).trans h2).trans ((List.suffix_cons b q).trans hd), by omega⟩
          · cases h
      · split at h
        · cases h
        · next ks r3 he =>
          obtain ⟨k1, k2⟩ := elem_suf n _ _ _ _ _ he
          obtain ⟨m1, m2⟩ := cont_suf n _ _ _ _ _ _ _ _ h
          have h5 := hd.length_le
          exact ⟨m1.trans (k1.trans hd), by omega⟩
end
end Go.Proofs.YtnijlmkodgdhlaaDoor
