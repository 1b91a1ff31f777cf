/-
  Base texts, one behind another: AddrManyL, AddrStepL, ViaL.
-/
import Derived.Test.YtjbfdbccidhdfaaDoorFG

/-
  Addresses there and back, whole; what is parsed may be; lists: plain facts.
-/
namespace Go.Proofs.YtjbfdbccidhdfaaDoor
open Go.RowKit Sc
set_option linter.unusedVariables false
set_option maxRecDepth 20000
set_option linter.unusedSimpArgs false

theorem checkA_ok {a : Adr} (h : checkA a = 0) : a.display.length ≤ 64 ∧ hasBar a.display = false ∧ checkV a.uri = 0 ∧ a.params.length ≤ 16 ∧ mayGo [] a.params = true := by
  unfold checkA at h
  split at h
  · simp at h
  · rename_i h1
    split at h
    · rename_i h2; exact absurd h h2
    · rename_i h2
      unfold textV at h
      split at h
      · simp at h
      · split at h
        · rename_i h3 h4
          refine ⟨?_, ?_, by simpa using h2, by omega, h4⟩
          · by_cases e : 64 < a.display.length
            · exact absurd (Or.inl e) h1
            · omega
          · cases e : hasBar a.display with
            | false => rfl
            | true => exact absurd (Or.inr e) h1
        · simp at h
theorem checkA_of {a : Adr} (h1 : a.display.length ≤ 64) (h2 : hasBar a.display = false) (h3 : checkV a.uri = 0) (h4 : a.params.length ≤ 16) (h5 : mayGo [] a.params = true) : checkA a = 0 := by
  unfold checkA textV
  rw [if_neg (by rw [h2]; simp; omega), if_neg (by simp [h3]), if_neg (by omega), if_pos h5]

-- the ends of what is printed
theorem parT_last {b : List Par} {p : Par} (h : mayB b p = true) : parT p ≠ [] ∧ ∀ x, (parT p).getLast? = some x → blk x = false := by
  obtain ⟨h1, _, _, h4, _⟩ := may_facts h
  obtain ⟨t1, _, t3⟩ := tok_facts h1
  unfold parT
  split
  · have hv : valT p.value ≠ [] ∧ ∀ x, (valT p.value).getLast? = some x → blk x = false := by
      unfold valT
      split
      · rename_i hw
        obtain ⟨w1, w2⟩ := word_facts hw
        exact ⟨w1, fun x hx => (wch_facts x (w2 x (List.mem_of_mem_getLast? hx))).1⟩
      · refine ⟨by simp, fun x hx => ?_⟩
        have := last_app (a := 34 :: quo p.value) (b := [34]) (by simp) hx
        simp at this; subst this; decide +kernel
    exact ⟨by simp, fun x hx => hv.2 x (last_app hv.1 hx)⟩
  · exact ⟨t1, fun x hx => (wch_facts x (tok_wch (t3 x (List.mem_of_mem_getLast? hx)))).1⟩
theorem parsA_last : ∀ (ps b : List Par), mayGo b ps = true → ∀ x, (parsA ps).getLast? = some x → blk x = false
  | [], b, _, x, hx => by simp [parsA] at hx
  | p :: ps, b, h, x, hx => by
    rw [mayGo, Bool.and_eq_true] at h
    obtain ⟨h1, h2⟩ := parT_last h.1
    have e : parsA (p :: ps) = ([59] ++ parT p) ++ parsA ps := by simp [parsA]
    rw [e] at hx
    by_cases hp : parsA ps = []
    · rw [hp, List.append_nil] at hx
      exact h2 x (last_app h1 hx)
    · exact parsA_last ps _ h.2 x (last_app hp hx)
theorem textA_head (a : Adr) : ∀ x, (textA a).head? = some x → blk x = false := by
  intro x hx
  unfold textA dispT at hx
  split at hx
  · simp at hx; subst hx; decide +kernel
  · simp at hx; subst hx; decide +kernel
theorem textA_last {a : Adr} (h : mayGo [] a.params = true) : ∀ x, (textA a).getLast? = some x → blk x = false := by
  intro x hx
  unfold textA at hx
  by_cases hp : parsA a.params = []
  · rw [hp, List.append_nil] at hx
    have hx2 := last_app (b := [60] ++ textT a.uri ++ [62]) (by simp) hx
    have hx3 := last_app (a := [60] ++ textT a.uri) (b := [62]) (by simp) hx2
    simp at hx3; subst hx3; decide +kernel
  · have hx2 := last_app (b := [60] ++ textT a.uri ++ [62] ++ parsA a.params) (by simp) hx
    exact parsA_last _ _ h x (last_app hp hx2)
theorem trim_textA {a : Adr} (h : mayGo [] a.params = true) : trimL (textA a) = textA a := trimL_id (textA_head a) (textA_last h)

-- where the angle opens
theorem openV_cons {b : UInt8} {t : List UInt8} (ht : t ≠ []) : openV true (b :: t) = if b = 92 then (openV true t.tail).map (· + 2) else if b = 34 then (openV false t).map (· + 1) else (openV true t).map (· + 1) := by
  cases t with
  | nil => exact absurd rfl ht
  | cons c r => rw [openV]; rfl
theorem open_quo : ∀ (l r : List UInt8), openV true (quo l ++ 34 :: r) = (openV false r).map (· + ((quo l).length + 1))
  | [], r => by
    rw [quo, List.nil_append]
    cases r with
    | nil => simp [openV]
    | cons c r => rw [openV]; simp
  | b :: l, r => by
    rw [quo]
    cases hb : bareB b.toNat with
    | true =>
      obtain ⟨n1, n2⟩ := bare_not hb
      simp only [if_true, List.singleton_append, List.cons_append, List.nil_append]
      rw [openV_cons (by simp), if_neg n1, if_neg n2, open_quo l r, Option.map_map]
      congr 1
    | false =>
      simp only [Bool.false_eq_true, if_false, List.cons_append, List.nil_append]
      rw [openV_cons (by simp), if_pos rfl, List.tail_cons, open_quo l r, Option.map_map]
      congr 1
theorem open_textA (d r : List UInt8) : openV false (dispT d ++ 60 :: r) = some (dispT d).length := by
  unfold dispT
  split
  · rw [List.nil_append, openV]; simp
  · rw [List.append_assoc, List.append_assoc, List.cons_append, openV]
    simp only [List.singleton_append]
    rw [if_neg (by decide), if_pos trivial]
    rw [open_quo, openV, openV]
    simp
    omega
theorem disp_back {d : List UInt8} (h : hasBar d = false) : displayV (dispT d) = some d := by
  unfold dispT
  split
  · rename_i e; subst e; rfl
  · unfold displayV
    rw [trimL_snoc, trim_quo]
    have hq : quoB (34 :: quo d ++ [34]) = true := by simp [quoB]
    rw [hq, if_pos rfl, unquote_quo h]; simp
theorem tail_back {d : List UInt8} {u : Uri} {ps : List Par} (hu : checkV u = 0) (hl : ps.length ≤ 16) (hp : mayGo [] ps = true) : tailV d (textT u) (parsA ps) = (⟨d, u, ps⟩, 0) := by
  have e1 : partsV 59 (parsA ps) = [] :: ps.map parT := parts_pars ps [] [] hp
  have e2 : fieldsV (ps.map parT) = (ps, 0) := by
    unfold fieldsV
    rw [if_neg (by simp; omega), fields_back ps [] hp]; simp
  unfold tailV
  rw [parse_text hu, e1]
  simp only [List.headD_cons, List.tail_cons, e2]
  simp [trimL]
theorem parse_textA {a : Adr} (h : checkA a = 0) : parseA (textA a) = (a, 0) := by
  obtain ⟨h1, h2, h3, h4, h5⟩ := checkA_ok h
  unfold parseA
  rw [trim_textA h5]
  have ho : openV false (textA a) = some (dispT a.display).length := by
    unfold textA; rw [List.append_assoc, List.append_assoc, List.singleton_append]; exact open_textA _ _
  unfold parseT
  rw [ho]
  simp only
  have ht : (textA a).take (dispT a.display).length = dispT a.display := by unfold textA; simp
  have hd : (textA a).drop (dispT a.display).length = [60] ++ textT a.uri ++ [62] ++ parsA a.params := by unfold textA; simp
  have hd1 : (textA a).drop ((dispT a.display).length + 1) = textT a.uri ++ 62 :: parsA a.params := by
    rw [← List.drop_drop, hd]; simp
  rw [ht, disp_back h2, hd, hd1]
  simp only
  rw [if_neg (by simp [hasL]; omega), cutL_hit (text_signs h3).2.2]
  simp only
  rw [tail_back h3 h4 h5]

-- what is parsed may be
theorem mayGo_snoc (b : List Par) (p : Par) : ∀ (l : List Par) , mayGo b (l ++ [p]) = (mayGo b l && mayB (b ++ l) p) := by
  intro l
  induction l generalizing b with
  | nil => simp [mayGo]
  | cons q l ih => rw [List.cons_append, mayGo, mayGo, ih]; simp [Bool.and_assoc]
theorem fields_may : ∀ (qs : List (List UInt8)) (out ps : List Par), mayGo [] out = true → fieldsG out qs = some ps → mayGo [] ps = true ∧ ps.length = out.length + qs.length
  | [], out, ps, h, e => by rw [fieldsG] at e; simp at e; subst e; exact ⟨h, by simp⟩
  | q :: qs, out, ps, h, e => by
    rw [fieldsG] at e
    split at e
    · simp at e
    · rename_i p hp
      split at e
      · rename_i hm
        have := fields_may qs (out ++ [p]) ps (by rw [mayGo_snoc, h]; simpa using hm) e
        exact ⟨this.1, by rw [this.2]; simp; omega⟩
      · simp at e
theorem join_mem : ∀ (ws : List (List UInt8)) (b : UInt8), b ∈ joinB ws → b = 32 ∨ ∃ w ∈ ws, b ∈ w
  | [], b, h => by simp [joinB] at h
  | [w], b, h => Or.inr ⟨w, by simp, by simpa [joinB] using h⟩
  | w :: x :: ws, b, h => by
    rw [joinB] at h
    · simp only [List.mem_append, List.mem_singleton] at h
      rcases h with (h | h) | h
      · exact Or.inr ⟨w, by simp, h⟩
      · exact Or.inl h
      · rcases join_mem (x :: ws) b h with h | ⟨y, hy, hb⟩
        · exact Or.inl h
        · exact Or.inr ⟨y, by simp at hy ⊢; exact Or.inr hy, hb⟩
    · simp
theorem words_mem : ∀ (t cur w : List UInt8), w ∈ wordsG cur t → ∀ b ∈ w, b ∈ cur ∨ b ∈ t
  | [], cur, w, h, b, hb => by
    rw [wordsG] at h
    split at h
    · simp at h
    · simp at h; subst h; exact Or.inl hb
  | x :: t, cur, w, h, b, hb => by
    rw [wordsG] at h
    split at h
    · split at h
      · rcases words_mem t [] w h b hb with h | h
        · simp at h
        · exact Or.inr (by simp [h])
      · rcases List.mem_cons.1 h with h | h
        · subst h; exact Or.inl hb
        · rcases words_mem t [] w h b hb with h | h
          · simp at h
          · exact Or.inr (by simp [h])
    · rcases words_mem t (cur ++ [x]) w h b hb with h | h
      · simp at h
        rcases h with h | h
        · exact Or.inl h
        · exact Or.inr (by simp [h])
      · exact Or.inr (by simp [h])
theorem disp_bar {l d : List UInt8} (h : displayV l = some d) : hasBar d = false := by
  unfold displayV at h
  split at h
  · split at h
    · rename_i e
      simp at h; subst h
      exact unquote_bar (l := trimL l) (by rw [← e])
    · simp at h
  · split at h
    · rename_i ha
      simp at h; subst h
      rw [List.all_eq_true] at ha
      have hc : ∀ b : UInt8, (b = 32 ∨ (blk b || tokc b) = true) → barB b.toNat = false := by apply byte_all; decide +kernel
      unfold hasBar
      rw [List.any_eq_false]
      intro b hb
      simp only [Bool.not_eq_true]
      rcases join_mem _ b hb with e | ⟨w, hw, hbw⟩
      · exact hc b (Or.inl e)
      · rcases words_mem _ _ w hw b hbw with e | e
        · simp at e
        · exact hc b (Or.inr (ha b e))
    · simp at h
theorem tail_checked {d whr bhd : List UInt8} {a : Adr} (h : tailV d whr bhd = (a, 0)) (hd : d.length ≤ 64) (hb : hasBar d = false) : checkA a = 0 := by
  unfold tailV at h
  split at h
  · rename_i e; simp at h; exact absurd h.2 e
  · rename_i e1
    split at h
    · simp at h
    · split at h
      · rename_i e; simp at h; exact absurd h.2 e
      · rename_i e3
        simp only [Prod.mk.injEq, and_true] at h
        subst h
        have hp : parseV whr = ((parseV whr).1, 0) := by
          have : (parseV whr).2 = 0 := by simpa using e1
          rw [← this]
        have hf : (fieldsV (partsV 59 bhd).tail).2 = 0 := by simpa using e3
        have hfm : (fieldsV (partsV 59 bhd).tail).1.length ≤ 16 ∧ mayGo [] (fieldsV (partsV 59 bhd).tail).1 = true := by
          unfold fieldsV at hf ⊢
          split
          · rename_i hl; rw [if_pos hl] at hf; simp at hf
          · rename_i hl
            rw [if_neg hl] at hf
            cases hg : fieldsG [] (partsV 59 bhd).tail with
            | none => rw [hg] at hf; simp at hf
            | some ps =>
              obtain ⟨m1, m2⟩ := fields_may _ [] ps rfl hg
              simp only
              exact ⟨by rw [m2]; simp at hl ⊢; omega, m1⟩
        exact checkA_of hd hb (parse_checked hp) hfm.1 hfm.2
theorem parseA_checked {s : List UInt8} {a : Adr} (h : parseA s = (a, 0)) : checkA a = 0 := by
  unfold parseA parseT at h
  split at h
  · split at h
    · simp at h
    · rename_i d hd
      split at h
      · simp at h
      · rename_i hl
        refine tail_checked h ?_ (disp_bar hd)
        by_cases e : 64 < d.length
        · exact absurd (Or.inl e) hl
        · omega
  · split at h
    · simp at h
    · exact tail_checked h (by simp) rfl

-- lists
def listG : List Adr → List (List UInt8) → List Adr × Int
  | out, [] => (out, 0)
  | out, q :: qs => if (parseA q).2 ≠ 0 then ([], (parseA q).2) else listG (out ++ [(parseA q).1]) qs
def listA (s : List UInt8) : List Adr × Int := if 16 < (partsV 44 s).length then ([], 4) else listG [] (partsV 44 s)
/-- Texts with a comma and a blank between. -/
def commaT : List (List UInt8) → List UInt8
  | [] => []
  | [t] => t
  | t :: ts => t ++ [44, 32] ++ commaT ts
theorem clo_textA {a : Adr} (h : checkA a = 0) : Clo 44 (textA a) := by
  obtain ⟨h1, h2, h3, h4, h5⟩ := checkA_ok h
  obtain ⟨s1, s2, s3⟩ := text_signs h3
  unfold textA
  refine Clo.app ?_ ((clo_ang 44 fun b hb => ⟨fun e => s1 (e ▸ hb), fun e => s2 (e ▸ hb), fun e => s3 (e ▸ hb)⟩).app (clo_pars _ _ h5))
  unfold dispT
  split
  · exact Clo.nil 44
  · exact (clo_quo 44 _).app (clo_plain fun b hb => by simp at hb; subst hb; decide)
theorem parts_comma : ∀ (ts : List (List UInt8)) (t cur : List UInt8), (∀ x ∈ t :: ts, Clo 44 x) → partsG 44 pl0 cur (commaT (t :: ts)) = (cur ++ t) :: ts.map (32 :: ·)
  | [], t, cur, h => by
    have := h t (by simp) cur []
    rw [List.append_nil] at this
    rw [commaT, this, partsG]; rfl
  | x :: ts, t, cur, h => by
    rw [commaT]
    · rw [List.append_assoc, h t (by simp) cur]
      rw [show ([44, 32] : List UInt8) ++ commaT (x :: ts) = 44 :: 32 :: commaT (x :: ts) from rfl, partsG]
      have e1 : pst pl0 ((44 : UInt8).toNat : Int) = (pl0, true) := by simp [pst, pl0]
      rw [e1]
      simp only [true_and]
      rw [if_pos (by decide), partsG]
      have e2 : pst pl0 ((32 : UInt8).toNat : Int) = (pl0, true) := by simp [pst, pl0]
      rw [e2]
      simp only [true_and]
      rw [if_neg (by decide), List.nil_append, parts_comma ts x [32] (fun y hy => h y (by simp at hy ⊢; exact Or.inr hy))]
      simp
    · simp
theorem parse_blank (s : List UInt8) : parseA (32 :: s) = parseA s := by unfold parseA; rw [trimL_cons]
theorem list_back : ∀ (al out : List Adr), (∀ a ∈ al, checkA a = 0) → listG out (al.map fun a => 32 :: textA a) = (out ++ al, 0)
  | [], out, _ => by simp [listG]
  | a :: al, out, h => by
    rw [List.map_cons, listG, parse_blank, parse_textA (h a (by simp))]
    simp only [ne_eq, not_true, if_false]
    rw [list_back al _ (fun x hx => h x (by simp [hx]))]; simp
theorem many_back {al : List Adr} (hne : al ≠ []) (hl : al.length ≤ 16) (h : ∀ a ∈ al, checkA a = 0) : listA (commaT (al.map textA)) = (al, 0) := by
  cases al with
  | nil => exact absurd rfl hne
  | cons a al =>
    have e : partsV 44 (commaT ((a :: al).map textA)) = textA a :: (al.map textA).map (32 :: ·) := by
      unfold partsV
      rw [List.map_cons, parts_comma]
      · rfl
      · intro x hx
        simp only [List.mem_cons, List.mem_map] at hx
        rcases hx with rfl | ⟨y, hy, rfl⟩
        · exact clo_textA (h a (by simp))
        · exact clo_textA (h y (by simp [hy]))
    unfold listA
    rw [e, if_neg (by simp at hl ⊢; omega), listG, parse_textA (h a (by simp))]
    simp only [ne_eq, not_true, if_false]
    rw [List.map_map]
    have := list_back al [a] (fun x hx => h x (by simp [hx]))
    exact this

end Go.Proofs.YtjbfdbccidhdfaaDoor

/-
  Steps of the loops of layer 5: plain facts.
-/
namespace Go.Proofs.YtjbfdbccidhdfaaDoor
open Go.RowKit Sc
set_option linter.unusedVariables false
set_option maxRecDepth 20000
set_option linter.unusedSimpArgs false

-- Text
theorem mayGo_step {ps : List Par} {k : Nat} (hk : k < ps.length) : mayGo [] (ps.take (k + 1)) = (mayGo [] (ps.take k) && mayB (ps.take k) ps[k]) := by
  rw [List.take_succ_eq_append_getElem hk, mayGo_snoc]; rfl
theorem mayGo_take : ∀ (ps b : List Par) (k : Nat), mayGo b ps = true → mayGo b (ps.take k) = true
  | [], b, k, h => by simpa using h
  | p :: ps, b, 0, h => rfl
  | p :: ps, b, k + 1, h => by
    rw [mayGo, Bool.and_eq_true] at h
    rw [List.take_succ_cons, mayGo, h.1, mayGo_take ps _ k h.2]; rfl
theorem mayGo_bad {ps : List Par} {k : Nat} (hk : k < ps.length) (h : mayB (ps.take k) ps[k] = false) : mayGo [] ps = false := by
  cases e : mayGo [] ps with
  | false => rfl
  | true =>
    have := mayGo_take ps [] (k + 1) e
    rw [mayGo_step hk, h] at this; simp at this
theorem parsA_step {ps : List Par} {k : Nat} (hk : k < ps.length) : parsA (ps.take (k + 1)) = parsA (ps.take k) ++ ([59] ++ parT ps[k]) := by
  unfold parsA
  rw [List.take_succ_eq_append_getElem hk, List.flatMap_append]; simp
theorem text_many {ps : List Par} (h : 16 < ps.length) : textV ps = ([], 4) := by rw [textV, if_pos h]
theorem text_bad {ps : List Par} (h : ps.length ≤ 16) (h2 : mayGo [] ps = false) : textV ps = ([], 34) := by rw [textV, if_neg (by omega), if_neg (by rw [h2]; simp)]
theorem text_good {ps : List Par} (h : ps.length ≤ 16) (h2 : mayGo [] ps = true) : textV ps = (parsA ps, 0) := by rw [textV, if_neg (by omega), if_pos h2]
theorem valT_len (v : List UInt8) : (valT v).length ≤ 2 * v.length + 2 := by
  unfold valT
  split
  · omega
  · have := quo_len v; simp; omega
theorem parT_len (p : Par) : (parT p).length ≤ p.name.length + 2 * p.value.length + 3 := by
  unfold parT
  have := valT_len p.value
  split <;> simp <;> omega
theorem parsA_len (N : Nat) : ∀ ps : List Par, (∀ p ∈ ps, p.name.length ≤ N ∧ p.value.length ≤ N) → (parsA ps).length ≤ ps.length * (3 * N + 4)
  | [], _ => by simp [parsA]
  | p :: ps, h => by
    have h1 := h p (by simp)
    have h2 := parsA_len N ps (fun q hq => h q (by simp [hq]))
    have h3 := parT_len p
    have e : parsA (p :: ps) = ([59] ++ parT p) ++ parsA ps := by simp [parsA]
    rw [e, List.length_append, List.length_append, List.length_cons (a := p), Nat.succ_mul]
    simp only [List.length_cons, List.length_nil]
    omega

-- Fields
theorem fields_on {qs : List (List UInt8)} {out : List Par} {k : Nat} {p : Par} (hk : k < qs.length) (h : fieldsG [] qs = fieldsG out (qs.drop k)) (hp : fieldOf qs[k] = some p) (hm : mayB out p = true) : fieldsG [] qs = fieldsG (out ++ [p]) (qs.drop (k + 1)) := by
  rw [h, List.drop_eq_getElem_cons hk, fieldsG, hp]; simp only [hm, if_true]
theorem fields_none {qs : List (List UInt8)} {out : List Par} {k : Nat} (hk : k < qs.length) (h : fieldsG [] qs = fieldsG out (qs.drop k)) (hp : fieldOf qs[k] = none) : fieldsG [] qs = none := by
  rw [h, List.drop_eq_getElem_cons hk, fieldsG, hp]
theorem fields_not {qs : List (List UInt8)} {out : List Par} {k : Nat} {p : Par} (hk : k < qs.length) (h : fieldsG [] qs = fieldsG out (qs.drop k)) (hp : fieldOf qs[k] = some p) (hm : mayB out p = false) : fieldsG [] qs = none := by
  rw [h, List.drop_eq_getElem_cons hk, fieldsG, hp]; simp [hm]
theorem fieldsV_bad {qs : List (List UInt8)} (hl : qs.length ≤ 16) (h : fieldsG [] qs = none) : fieldsV qs = ([], 34) := by rw [fieldsV, if_neg (by omega), h]
theorem fieldsV_ok {qs : List (List UInt8)} {ps : List Par} (hl : qs.length ≤ 16) (h : fieldsG [] qs = some ps) : fieldsV qs = (ps, 0) := by rw [fieldsV, if_neg (by omega), h]
theorem fieldsV_many {qs : List (List UInt8)} (hl : 16 < qs.length) : fieldsV qs = ([], 4) := by rw [fieldsV, if_pos hl]

-- words of a Display
theorem words_blank1 {b : UInt8} {r : List UInt8} (hb : blk b = true) : wordsG [] (b :: r) = wordsG [] r := by rw [wordsG, if_pos hb, if_pos rfl]
theorem words_blank2 {b : UInt8} {r cur : List UInt8} (hb : blk b = true) (hc : cur ≠ []) : wordsG cur (b :: r) = cur :: wordsG [] r := by rw [wordsG, if_pos hb, if_neg hc]
theorem words_sign {b : UInt8} {r cur : List UInt8} (hb : blk b = false) : wordsG cur (b :: r) = wordsG (cur ++ [b]) r := by rw [wordsG, if_neg (by rw [hb]; simp)]

-- where an angle opens
theorem open_esc {b : UInt8} {r : List UInt8} (hb : b = 92) : openV true (b :: r) = (openV true (r.drop 1)).map (· + 2) := by
  subst hb
  cases r with
  | nil => rfl
  | cons c r => rw [openV_cons (by simp), if_pos rfl]; rfl
theorem open_q2 {b : UInt8} {r : List UInt8} (hb : b = 34) : openV true (b :: r) = (openV false r).map (· + 1) := by
  subst hb
  cases r with
  | nil => rfl
  | cons c r => rw [openV_cons (by simp), if_neg (by decide), if_pos rfl]
theorem open_in {b : UInt8} {r : List UInt8} (h1 : b ≠ 92) (h2 : b ≠ 34) : openV true (b :: r) = (openV true r).map (· + 1) := by
  cases r with
  | nil => rfl
  | cons c r => rw [openV_cons (by simp), if_neg h1, if_neg h2]
theorem open_hit {r : List UInt8} : openV false (60 :: r) = some 0 := by rw [openV, if_pos rfl]
theorem open_q1 {r : List UInt8} : openV false (34 :: r) = (openV true r).map (· + 1) := by rw [openV, if_neg (by decide), if_pos rfl]
theorem open_out {b : UInt8} {r : List UInt8} (h1 : b ≠ 60) (h2 : b ≠ 34) : openV false (b :: r) = (openV false r).map (· + 1) := by rw [openV, if_neg h1, if_neg h2]
theorem openV_lt : ∀ (n : Nat) (l : List UInt8) (q : Bool) (k : Nat), l.length ≤ n → openV q l = some k → k < l.length ∧ l[k]? = some 60
  | 0, l, q, k, hl, h => by
    obtain rfl := List.eq_nil_of_length_eq_zero (Nat.le_zero.1 hl)
    cases q <;> simp [openV] at h
  | n + 1, [], q, k, hl, h => by cases q <;> simp [openV] at h
  | n + 1, b :: r, q, k, hl, h => by
    simp only [List.length_cons] at hl
    cases q with
    | false =>
      by_cases h1 : b = 60
      · subst h1; rw [open_hit] at h; simp at h; subst h; simp
      · by_cases h2 : b = 34
        · subst h2; rw [open_q1] at h
          simp only [Option.map_eq_some_iff] at h
          obtain ⟨x, hx, rfl⟩ := h
          have := openV_lt n r true x (by omega) hx
          simp; exact this
        · rw [open_out h1 h2] at h
          simp only [Option.map_eq_some_iff] at h
          obtain ⟨x, hx, rfl⟩ := h
          have := openV_lt n r false x (by omega) hx
          simp; exact this
    | true =>
      by_cases h1 : b = 92
      · rw [open_esc h1] at h
        simp only [Option.map_eq_some_iff] at h
        obtain ⟨x, hx, rfl⟩ := h
        have := openV_lt n (r.drop 1) true x (by simp; omega) hx
        rw [List.getElem?_drop] at this
        simp only [List.length_drop] at this
        refine ⟨by simp; omega, ?_⟩
        rw [List.getElem?_cons_succ, ← this.2]; congr 1; omega
      · by_cases h2 : b = 34
        · rw [open_q2 h2] at h
          simp only [Option.map_eq_some_iff] at h
          obtain ⟨x, hx, rfl⟩ := h
          have := openV_lt n r false x (by omega) hx
          simp; exact this
        · rw [open_in h1 h2] at h
          simp only [Option.map_eq_some_iff] at h
          obtain ⟨x, hx, rfl⟩ := h
          have := openV_lt n r true x (by omega) hx
          simp; exact this

end Go.Proofs.YtjbfdbccidhdfaaDoor

/-
  Hops, read and written: plain functions; there and back; in one header or several.
-/
namespace Go.Proofs.YtjbfdbccidhdfaaDoor
open Go.RowKit Sc
set_option linter.unusedVariables false
set_option maxRecDepth 20000
set_option linter.unusedSimpArgs false

/-- A hop's parts. -/
structure Hop where
  host : List UInt8
  port : Int
  params : List Par
deriving DecidableEq
def noH : Hop := ⟨[], 0, []⟩
def protoK : List UInt8 := [83, 73, 80, 47, 50, 46, 48, 47, 85, 68, 80]
def cookieK : List UInt8 := [122, 57, 104, 71, 52, 98, 75]
def checkH (v : Hop) : Int := if hostB v.host = false then 32 else if v.port < 0 ∨ 65535 < v.port then 33 else (textV v.params).2
def textH (v : Hop) : List UInt8 := protoK ++ [32] ++ (v.host ++ portT v.port) ++ parsA v.params
def printH (v : Hop) : List UInt8 × Int := if checkH v = 0 then (textH v, 0) else ([], checkH v)
/-- How many bytes stand ahead of the first blank. -/
def wordN (l : List UInt8) : Nat := (l.takeWhile fun b => !blk b).length
def restH (q : List UInt8) : Hop × Int :=
  if (whereV (trimL ((partsV 59 q).headD []))).2.2 ≠ 0 then (noH, (whereV (trimL ((partsV 59 q).headD []))).2.2)
  else if (fieldsV (partsV 59 q).tail).2 ≠ 0 then (noH, (fieldsV (partsV 59 q).tail).2)
  else (⟨(whereV (trimL ((partsV 59 q).headD []))).1, (whereV (trimL ((partsV 59 q).headD []))).2.1, (fieldsV (partsV 59 q).tail).1⟩, 0)
def parseH (s : List UInt8) : Hop × Int :=
  if wordN (trimL s) = (trimL s).length ∨ sameB ((trimL s).take (wordN (trimL s))) protoK = false then (noH, 70) else restH ((trimL s).drop (wordN (trimL s)))
def hopsG : List Hop → List (List UInt8) → List Hop × Int
  | out, [] => (out, 0)
  | out, q :: qs => if (parseH q).2 ≠ 0 then ([], (parseH q).2) else if 16 ≤ out.length then ([], 4) else hopsG (out ++ [(parseH q).1]) qs
/-- Of the values of several headers. -/
def hopsV (vs : List (List UInt8)) : List Hop × Int :=
  if (hopsG [] (vs.flatMap (partsV 44))).2 ≠ 0 then ([], (hopsG [] (vs.flatMap (partsV 44))).2) else if (hopsG [] (vs.flatMap (partsV 44))).1 = [] then ([], 100) else ((hopsG [] (vs.flatMap (partsV 44))).1, 0)
def branchV (v : Hop) : List UInt8 × Bool :=
  match findV v.params [98, 114, 97, 110, 99, 104] with
  | none => ([], false)
  | some p => if p.value.length ≤ 7 ∨ p.value.take 7 ≠ cookieK then ([], false) else (p.value, true)
def byV (v : Hop) : List UInt8 := v.host ++ [58] ++ (if v.port = 0 then [53, 48, 54, 48] else digL v.port.toNat)

theorem numL_bd (most : Int) : ∀ (l : List UInt8) (n m : Int), 0 ≤ n → allB 1 l = true → (l = [] → n ≤ most) → numL most n l = some m → 0 ≤ m ∧ m ≤ most
  | [], n, m, h0, _, hl, h => by rw [numL] at h; simp at h; subst h; exact ⟨h0, hl rfl⟩
  | b :: r, n, m, h0, ha, _, h => by
    have hb : isB b.toNat 1 = true ∧ allB 1 r = true := by simpa [allB] using ha
    have hd : 48 ≤ (b.toNat : Int) ∧ (b.toNat : Int) ≤ 57 := by
      have := hb.1
      rw [isB_digit _ (by omega) (by have := b.toNat_lt; omega)] at this
      simpa using this
    rw [numL] at h
    split at h
    · simp at h
    · rename_i hc
      refine numL_bd most r _ m (by omega) hb.2 (fun _ => ?_) h
      by_cases e : n > (most - ((b.toNat : Int) - 48)) / 10
      · exact absurd (Or.inr e) hc
      · omega
theorem numV_bd {most : Nat} {l : List UInt8} (h : (numV most l).2 = 0) : 0 ≤ (numV most l).1 ∧ (numV most l).1 ≤ most := by
  unfold numV at h ⊢
  split
  · rename_i hc; rw [if_pos hc] at h; simp at h
  · rename_i hc
    rw [if_neg hc] at h
    cases hn : numL most 0 l with
    | none => rw [hn] at h; simp at h
    | some m =>
      simp only
      simp only [not_or, Bool.not_eq_false] at hc
      exact numL_bd most l 0 m (by omega) hc.2 (fun e => absurd e hc.1) hn
theorem fieldsV_may {qs : List (List UInt8)} (hf : (fieldsV qs).2 = 0) : (fieldsV qs).1.length ≤ 16 ∧ mayGo [] (fieldsV qs).1 = true := by
  unfold fieldsV at hf ⊢
  split
  · rename_i hl; rw [if_pos hl] at hf; simp at hf
  · rename_i hl
    rw [if_neg hl] at hf
    cases hg : fieldsG [] qs with
    | none => rw [hg] at hf; simp at hf
    | some ps =>
      obtain ⟨m1, m2⟩ := fields_may _ [] ps rfl hg
      simp only
      exact ⟨by rw [m2]; simp; omega, m1⟩
theorem checkH_ok {v : Hop} (h : checkH v = 0) : hostB v.host = true ∧ 0 ≤ v.port ∧ v.port ≤ 65535 ∧ v.params.length ≤ 16 ∧ mayGo [] v.params = true := by
  unfold checkH at h
  split at h
  · simp at h
  · rename_i h1
    split at h
    · simp at h
    · rename_i h2
      unfold textV at h
      split at h
      · simp at h
      · split at h
        · rename_i h3 h4; exact ⟨by simpa using h1, by omega, by omega, by omega, h4⟩
        · simp at h
theorem checkH_of {v : Hop} (h1 : hostB v.host = true) (h2 : 0 ≤ v.port) (h3 : v.port ≤ 65535) (h4 : v.params.length ≤ 16) (h5 : mayGo [] v.params = true) : checkH v = 0 := by
  unfold checkH textV
  rw [if_neg (by rw [h1]; simp), if_neg (by omega), if_neg (by omega), if_pos h5]
theorem hob_facts : ∀ b : UInt8, hob b = true → blk b = false ∧ b ≠ 34 ∧ b ≠ 60 ∧ b ≠ 62 ∧ b ≠ 59 ∧ b ≠ 44 := by apply byte_all; decide +kernel
theorem dig_hob : ∀ b : UInt8, isB b.toNat 1 = true → hob b = true := by apply byte_all; decide +kernel
theorem where_bytes {h : List UInt8} {n : Int} (hh : hostB h = true) : ∀ b ∈ h ++ portT n, hob b = true := by
  intro b hb
  rcases List.mem_append.1 hb with hb | hb
  · exact (host_facts hh).1 b hb
  · unfold portT at hb
    split at hb
    · simp at hb
    · simp only [List.mem_append, List.mem_singleton] at hb
      rcases hb with rfl | hb
      · decide +kernel
      · exact dig_hob b (digL_mem hb)
theorem clo_where (sep : Int) (hsep : sep = 59 ∨ sep = 44) {l : List UInt8} (h : ∀ b ∈ l, hob b = true) : Clo sep l := clo_plain fun b hb => by
  obtain ⟨_, n1, n2, n3, n4, n5⟩ := hob_facts b (h b hb)
  refine ⟨n1, n2, n3, ?_⟩
  rcases hsep with rfl | rfl
  · exact fun e => n4 (by apply UInt8.toNat_inj.1; show b.toNat = 59; omega)
  · exact fun e => n5 (by apply UInt8.toNat_inj.1; show b.toNat = 44; omega)
theorem clo_sign (sep : Int) (b : UInt8) (h : b ≠ 34 ∧ b ≠ 60 ∧ b ≠ 62 ∧ (b.toNat : Int) ≠ sep) : Clo sep [b] := clo_plain fun x hx => by simp at hx; subst hx; exact h
theorem rest_backH {h : List UInt8} {n : Int} {ps : List Par} (hh : hostB h = true) (h0 : 0 ≤ n) (h1 : n ≤ 65535) (hl : ps.length ≤ 16) (hp : mayGo [] ps = true) : restH ([32] ++ (h ++ portT n) ++ parsA ps) = (⟨h, n, ps⟩, 0) := by
  have hb := where_bytes (n := n) hh
  have e1 : partsV 59 ([32] ++ (h ++ portT n) ++ parsA ps) = ([32] ++ (h ++ portT n)) :: ps.map parT := by
    unfold partsV
    rw [((clo_sign 59 32 (by decide)).app (clo_where 59 (Or.inl rfl) hb)) [] (parsA ps), List.nil_append, parts_pars ps [] _ hp]
  have e2 : fieldsV (ps.map parT) = (ps, 0) := by
    unfold fieldsV
    rw [if_neg (by simp; omega), fields_back ps [] hp]; simp
  have e3 : trimL ([32] ++ (h ++ portT n)) = h ++ portT n := by
    rw [show [32] ++ (h ++ portT n) = 32 :: (h ++ portT n) from rfl, trimL_cons, trimL_all fun b hx => (hob_facts b (hb b hx)).1]
  have e4 : whereV (h ++ portT n) = (h, n, 0) := by
    have := where_back (h := h) (n := n) (by rw [(host_facts hh).2.2.2]; exact hh) h0 h1
    rw [(host_facts hh).2.2.2] at this; exact this
  unfold restH
  rw [e1]
  simp only [List.headD_cons, List.tail_cons, e2, e3, e4]
  simp
theorem textH_ends {v : Hop} (h : checkH v = 0) : trimL (textH v) = textH v := by
  obtain ⟨k1, k2, k3, k4, k5⟩ := checkH_ok h
  apply trimL_id
  · intro b hb; unfold textH at hb; simp [protoK] at hb; subst hb; decide +kernel
  · intro b hb
    unfold textH at hb
    by_cases hp : parsA v.params = []
    · rw [hp, List.append_nil] at hb
      have hne : v.host ++ portT v.port ≠ [] := by
        have := hostB_ok k1
        intro e; simp at e; rw [e.1] at this; simp at this
      have := last_app hne hb
      exact (hob_facts b (where_bytes k1 b (List.mem_of_mem_getLast? this))).1
    · exact parsA_last _ _ k5 b (last_app hp hb)
theorem proto_word (r : List UInt8) : wordN (protoK ++ 32 :: r) = 11 := by
  unfold wordN
  have : (protoK ++ 32 :: r).takeWhile (fun b => !blk b) = protoK := by
    have h1 : ∀ b ∈ protoK, (!blk b) = true := by decide +kernel
    rw [List.takeWhile_append_of_pos h1, List.takeWhile_cons, blk32]; simp
  rw [this]; rfl
theorem parse_textH {v : Hop} (h : checkH v = 0) : parseH (textH v) = (v, 0) := by
  obtain ⟨k1, k2, k3, k4, k5⟩ := checkH_ok h
  have e : textH v = protoK ++ 32 :: ((v.host ++ portT v.port) ++ parsA v.params) := by unfold textH; simp
  have hw : wordN (textH v) = 11 := by rw [e]; exact proto_word _
  unfold parseH
  rw [textH_ends h, hw]
  have ht : (textH v).take 11 = protoK := by rw [e]; rfl
  have hd : (textH v).drop 11 = [32] ++ (v.host ++ portT v.port) ++ parsA v.params := by rw [e]; rfl
  rw [ht, hd, if_neg, rest_backH k1 k2 k3 k4 k5]
  rintro (c | c)
  · rw [e] at c; simp [protoK] at c
  · rw [sameB_self] at c; simp at c
theorem parseH_trim (s : List UInt8) : parseH (32 :: s) = parseH s := by unfold parseH; rw [trimL_cons]
theorem parseH_trim2 (s : List UInt8) : parseH (s ++ [32]) = parseH s := by unfold parseH; rw [trimL_snoc]
theorem where_ok {l h : List UInt8} {n : Int} (hw : whereV l = (h, n, 0)) : hostB h = true ∧ 0 ≤ n ∧ n ≤ 65535 := by
  unfold whereV at hw
  split at hw
  · rename_i hh
    unfold portV at hw
    split at hw
    · simp at hw; obtain ⟨rfl, rfl⟩ := hw; exact ⟨hh, by omega, by omega⟩
    · split at hw
      · simp at hw
      · rename_i h1 h2
        simp at hw
        obtain ⟨rfl, rfl⟩ := hw
        refine ⟨hh, ?_⟩
        have hz : (numV 65535 (l.drop (whereGo false l + 1))).2 = 0 := by
          by_cases e : (numV 65535 (l.drop (whereGo false l + 1))).2 = 0
          · exact e
          · exact absurd (Or.inl e) h2
        exact numV_bd hz
  · simp at hw
theorem parseH_checked {s : List UInt8} {v : Hop} (h : parseH s = (v, 0)) : checkH v = 0 := by
  unfold parseH at h
  split at h
  · simp at h
  · unfold restH at h
    generalize (trimL s).drop (wordN (trimL s)) = q at h
    split at h
    · rename_i e; simp only [Prod.mk.injEq] at h; exact absurd h.2 e
    · rename_i e1
      split at h
      · rename_i e; simp only [Prod.mk.injEq] at h; exact absurd h.2 e
      · rename_i e3
        simp only [Prod.mk.injEq, and_true] at h
        subst h
        have hw : whereV (trimL ((partsV 59 q).headD [])) = ((whereV (trimL ((partsV 59 q).headD []))).1, (whereV (trimL ((partsV 59 q).headD []))).2.1, 0) := by
          have : (whereV (trimL ((partsV 59 q).headD []))).2.2 = 0 := by simpa using e1
          rw [← this]
        obtain ⟨w1, w2, w3⟩ := where_ok hw
        have hf : (fieldsV (partsV 59 q).tail).2 = 0 := by simpa using e3
        have hfm : (fieldsV (partsV 59 q).tail).1.length ≤ 16 ∧ mayGo [] (fieldsV (partsV 59 q).tail).1 = true := fieldsV_may hf
        exact checkH_of w1 w2 w3 hfm.1 hfm.2

-- several
theorem clo_textH {v : Hop} (h : checkH v = 0) : Clo 44 (textH v) := by
  obtain ⟨k1, k2, k3, k4, k5⟩ := checkH_ok h
  unfold textH
  exact (((clo_plain (by decide +kernel)).app (clo_sign 44 32 (by decide))).app (clo_where 44 (Or.inr rfl) (where_bytes k1))).app (clo_pars _ _ k5)
/-- Texts with a sign between, and blanks about it. -/
def sepT (a b : List UInt8) : List (List UInt8) → List UInt8
  | [] => []
  | [t] => t
  | t :: ts => t ++ a ++ [44] ++ b ++ sepT a b ts
theorem parts_sep {a b : List UInt8} (ha : Clo 44 a) (hb : Clo 44 b) (pa : ∀ x, parseH (x ++ a) = parseH x) (pb : ∀ x, parseH (b ++ x) = parseH x) : ∀ (ts : List (List UInt8)) (t cur : List UInt8), (∀ x, parseH (cur ++ x) = parseH x) → (∀ x ∈ t :: ts, Clo 44 x) →
    (partsG 44 pl0 cur (sepT a b (t :: ts))).map parseH = (t :: ts).map parseH
  | [], t, cur, hc, h => by
    have := (h t (by simp)) cur []
    rw [List.append_nil] at this
    rw [sepT, this, partsG]
    simp [hc t]
  | x :: ts, t, cur, hc, h => by
    have h1 := h t (by simp)
    rw [sepT]
    · have e : t ++ a ++ [44] ++ b ++ sepT a b (x :: ts) = (t ++ a) ++ 44 :: (b ++ sepT a b (x :: ts)) := by simp
      rw [e, (h1.app ha) cur, partsG]
      have e1 : pst pl0 ((44 : UInt8).toNat : Int) = (pl0, true) := by simp [pst, pl0]
      rw [e1]
      simp only [true_and]
      rw [if_pos (by decide), List.map_cons, hb [], List.nil_append, parts_sep ha hb pa pb ts x b pb (fun y hy => h y (by simp at hy ⊢; exact Or.inr hy))]
      rw [List.map_cons, ← List.append_assoc, pa, hc]; rfl
    · simp
theorem hops_map (qs qs' : List (List UInt8)) (h : qs.map parseH = qs'.map parseH) : ∀ out, hopsG out qs = hopsG out qs' := by
  induction qs generalizing qs' with
  | nil =>
    intro out
    cases qs' with
    | nil => rfl
    | cons q qs' => simp at h
  | cons q qs ih =>
    intro out
    cases qs' with
    | nil => simp at h
    | cons q' qs' =>
      simp only [List.map_cons, List.cons.injEq] at h
      rw [hopsG, hopsG, h.1, ih qs' h.2]
theorem hops_back : ∀ (vs out : List Hop), (∀ v ∈ vs, checkH v = 0) → out.length + vs.length ≤ 16 → hopsG out (vs.map textH) = (out ++ vs, 0)
  | [], out, _, _ => by simp [hopsG]
  | v :: vs, out, h, hl => by
    rw [List.map_cons, hopsG, parse_textH (h v (by simp))]
    simp only [ne_eq, not_true, if_false]
    rw [if_neg (by simp at hl; omega), hops_back vs _ (fun x hx => h x (by simp [hx])) (by simp at hl ⊢; omega)]; simp
/-- However the values part to the same texts. -/
theorem hopsV_back {vs : List Hop} {ls : List (List UInt8)} (hne : vs ≠ []) (hl : vs.length ≤ 16) (h : ∀ v ∈ vs, checkH v = 0) (hp : (ls.flatMap (partsV 44)).map parseH = (vs.map textH).map parseH) : hopsV ls = (vs, 0) := by
  have e : hopsG [] (ls.flatMap (partsV 44)) = (vs, 0) := by
    rw [hops_map _ _ hp []]
    exact hops_back vs [] h (by simpa using hl)
  unfold hopsV
  rw [e]
  simp [hne]

end Go.Proofs.YtjbfdbccidhdfaaDoor
