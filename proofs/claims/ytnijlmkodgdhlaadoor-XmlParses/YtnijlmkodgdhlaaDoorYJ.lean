/-
  Base texts, one behind another: XmlPadL, RXL, XTrim.
-/
import Derived.Test.YtnijlmkodgdhlaaDoorYI
import Derived.Test.YtnijlmkodgdhlaaDoorYG

/-
  XML: blanks between elements play no part: plain facts.
-/
namespace Go.Proofs.YtnijlmkodgdhlaaDoor
open Go.RowKit Sc
set_option linter.unusedVariables false
set_option maxRecDepth 20000
set_option linter.unusedSimpArgs false

def blanksX (l : List UInt8) : Prop := ∀ b ∈ l, xblk b = true
theorem blanks_app {a b : List UInt8} (ha : blanksX a) (hb : blanksX b) : blanksX (a ++ b) := fun x hx => by
  rcases List.mem_append.1 hx with h | h
  · exact ha x h
  · exact hb x h
theorem drop_blanks {l : List UInt8} (h : blanksX l) : l.dropWhile xblk = [] := by
  induction l with
  | nil => rfl
  | cons x l ih => rw [List.dropWhile_cons, h x (by simp), if_pos rfl]; exact ih (fun b hb => h b (by simp [hb]))
theorem xtrim_blanks {l : List UInt8} (h : blanksX l) : xtrim l = [] := by unfold xtrim; rw [drop_blanks h]; rfl
theorem blanks_no60 {l : List UInt8} (h : blanksX l) : ∀ b ∈ l, (b != 60) = true := by
  have hx : ∀ b : UInt8, xblk b = true → (b != 60) = true := by apply byte_all; decide +kernel
  exact fun b hb => hx b (h b hb)

mutual
/-- A tree's text, with blanks between elements. -/
inductive PadX : XT → List UInt8 → Prop
  | leaf (n : List UInt8) (a : List Par) : PadX (.mk n a [] []) ([60] ++ n ++ attrsT a ++ [47, 62])
  | text (n : List UInt8) (a : List Par) (t : List UInt8) (h : t ≠ []) : PadX (.mk n a t []) ([60] ++ n ++ attrsT a ++ ([62] ++ escX t ++ ([60, 47] ++ n ++ [62])))
  | kids (n : List UInt8) (a : List Par) (k : List XT) (s : List UInt8) (hk : k ≠ []) (h : PadXs k s) : PadX (.mk n a [] k) ([60] ++ n ++ attrsT a ++ ([62] ++ s ++ ([60, 47] ++ n ++ [62])))
inductive PadXs : List XT → List UInt8 → Prop
  | nil (g : List UInt8) (hg : blanksX g) : PadXs [] g
  | cons (k : XT) (ks : List XT) (g s1 s2 : List UInt8) (hg : blanksX g) (h1 : PadX k s1) (h2 : PadXs ks s2) : PadXs (k :: ks) (g ++ (s1 ++ s2))
end
theorem pad_head {t : XT} {d : Nat} {s : List UInt8} (h : okX d t = true) (hp : PadX t s) : ∃ y q, s = 60 :: y :: q ∧ y ≠ 47 := by
  obtain ⟨n, a, tx, k⟩ := t
  obtain ⟨_, h2, _⟩ := okX_facts h
  obtain ⟨hne, hn⟩ := name_factsX h2
  have key : ∀ r, ∃ y q, [60] ++ n ++ r = 60 :: y :: q ∧ y ≠ 47 := by
    intro r
    cases hq : n with
    | nil => exact absurd hq hne
    | cons y q => exact ⟨y, q ++ r, by simp, (namc_facts y (hn y (by rw [hq]; simp))).2.1⟩
  cases hp with
  | leaf => rw [List.append_assoc]; exact key _
  | text _ _ _ _ => rw [List.append_assoc]; exact key _
  | kids _ _ _ s _ _ => rw [List.append_assoc]; exact key _
theorem close_pad {m : Nat} {x : Nd} {d c : Nat} {txt g : List UInt8} {acc : List Nd} {rest : List UInt8} (ht : blanksX txt) (hg : blanksX g) : contX (m + 1) x d c txt acc (g ++ ([60, 47] ++ x.name ++ [62] ++ rest)) = some ({ x with text := [] } :: acc, rest) := by
  have tw := takeW_app (p := fun b => b != 60) (a := g) (c := 60) (r := 47 :: (x.name ++ 62 :: rest)) (blanks_no60 hg) (by simp)
  have e : g ++ ([60, 47] ++ x.name ++ [62] ++ rest) = g ++ 60 :: (47 :: (x.name ++ 62 :: rest)) := by simp
  have ex : (62 :: rest).dropWhile xblk = 62 :: rest := xdrop_id (by intro b hb; simp at hb; subst hb; decide +kernel)
  have er : readX (xtrim (txt ++ g)) = some [] := by rw [xtrim_blanks (blanks_app ht hg)]; rfl
  rw [e, contX, tw.2, tw.1]
  simp only [List.head?_cons, if_true, List.tail_cons]
  have et : xtrim [] = [] := rfl
  simp [ex, er, et]
theorem tree_pad : ∀ n : Nat,
    (∀ (t : XT) (s : List UInt8) (d c : Nat) (rest : List UInt8), PadX t s → okX d t = true → szX t ≤ n → c + (flatX d t).length ≤ 200 → elemX n d c (s ++ rest) = some (flatX d t, rest)) ∧
    (∀ (ks : List XT) (s : List UInt8) (x : Nd) (d c : Nat) (txt : List UInt8) (acc : List Nd) (rest : List UInt8), PadXs ks s → blanksX txt → okXs (d + 1) ks = true → szXs ks ≤ n → c + 1 + acc.length + (flatXs (d + 1) ks).length ≤ 200 →
      contX n x d c txt acc (s ++ ([60, 47] ++ x.name ++ [62] ++ rest)) = some ({ x with text := [] } :: (acc ++ flatXs (d + 1) ks), rest))
  | 0 => by
    refine ⟨fun t s d c rest _ _ h _ => ?_, fun ks s x d c txt acc rest _ _ _ h _ => ?_⟩
    · obtain ⟨n, a, tx, k⟩ := t; rw [szX] at h; omega
    · cases ks with
      | nil => rw [szXs] at h; omega
      | cons t ks => rw [szXs] at h; omega
  | n + 1 => by
    obtain ⟨ih1, ih2⟩ := tree_pad n
    refine ⟨fun t s d c rest hp hok hsz hc => ?_, fun ks s x d c txt acc rest hp ht hok hsz hc => ?_⟩
    · cases hp with
      | leaf nm a =>
        have := (tree_back (n + 1)).1 (.mk nm a [] []) d c rest hok hsz hc
        rw [printX, if_pos (by rfl)] at this
        exact this
      | text nm a tx hne =>
        have := (tree_back (n + 1)).1 (.mk nm a tx []) d c rest hok hsz hc
        rw [printX, if_neg (by rw [printXs, List.append_nil]; intro e; exact hne (escX_nil.1 e)), printXs, List.append_nil] at this
        exact this
      | kids nm a k s hk hs =>
        obtain ⟨k1, k2, k3, k4, k5, k6⟩ := okX_facts hok
        rw [szX] at hsz
        have hfl : (flatX d (.mk nm a [] k)).length = 1 + (flatXs (d + 1) k).length := by rw [flatX]; simp; omega
        have e : [60] ++ nm ++ attrsT a ++ ([62] ++ s ++ ([60, 47] ++ nm ++ [62])) ++ rest = 60 :: (nm ++ (attrsT a ++ 62 :: (s ++ ([60, 47] ++ nm ++ [62] ++ rest)))) := by simp
        obtain ⟨f1, f2, f3, f4⟩ := front_back (n := nm) (a := a) (c := 62) (r := s ++ ([60, 47] ++ nm ++ [62] ++ rest)) k2 k3 (Or.inr rfl)
        rw [e, elemX]
        try simp only
        rw [if_neg (by rintro (c1 | c1 | c1); omega; omega; exact c1 rfl), f2, if_neg f3, f4]
        simp only
        rw [f1]
        have := ih2 k s ⟨d, nm, a, []⟩ d c [] [] rest hs (fun b hb => by simp at hb) k6 (by omega) (by simp; omega)
        rw [this, flatX]; rfl
    · cases hp with
      | nil g hg =>
        rw [flatXs]
        have := close_pad (m := n) (x := x) (d := d) (c := c) (acc := acc) (rest := rest) ht hg
        rw [List.append_nil]
        rw [this]
      | cons t ks g s1 s2 hg h1 h2 =>
        rw [okXs, Bool.and_eq_true] at hok
        rw [szXs] at hsz
        have hfl : (flatXs (d + 1) (t :: ks)).length = (flatX (d + 1) t).length + (flatXs (d + 1) ks).length := by rw [flatXs]; simp
        obtain ⟨y, q, hpq, hy⟩ := pad_head hok.1 h1
        have hel := ih1 t s1 (d + 1) (c + 1 + acc.length) (s2 ++ ([60, 47] ++ x.name ++ [62] ++ rest)) h1 hok.1 (by omega) (by omega)
        have e : g ++ (s1 ++ s2) ++ ([60, 47] ++ x.name ++ [62] ++ rest) = g ++ 60 :: (y :: (q ++ (s2 ++ ([60, 47] ++ x.name ++ [62] ++ rest)))) := by rw [hpq]; simp
        have tw := takeW_app (p := fun b => b != 60) (a := g) (c := 60) (r := y :: (q ++ (s2 ++ ([60, 47] ++ x.name ++ [62] ++ rest)))) (blanks_no60 hg) (by simp)
        rw [e, contX, tw.2, tw.1]
        simp only [List.head?_cons]
        have hy2 : ¬ (some y = some (47 : UInt8)) := by simpa using hy
        simp only [hy2, if_false]
        have hel2 : elemX n (d + 1) (c + 1 + acc.length) (60 :: (y :: (q ++ (s2 ++ ([60, 47] ++ x.name ++ [62] ++ rest))))) = some (flatX (d + 1) t, s2 ++ ([60, 47] ++ x.name ++ [62] ++ rest)) := by
          rw [hpq] at hel; simpa using hel
        rw [hel2]
        simp only
        rw [ih2 ks s2 x d c (txt ++ g) (acc ++ flatX (d + 1) t) rest h2 (blanks_app ht hg) hok.2 (by omega) (by simp; omega), flatXs]
        simp

-- blanks put in where an element's end and another's front meet
def insG (bs : Nat → List UInt8) : UInt8 → Nat → List UInt8 → List UInt8 × Nat
  | _, n, [] => ([], n)
  | p, n, b :: r => if b = 60 ∧ p = 62 then (bs n ++ b :: (insG bs b (n + 1) r).1, (insG bs b (n + 1) r).2) else (b :: (insG bs b n r).1, (insG bs b n r).2)
def lastB (p : UInt8) (l : List UInt8) : UInt8 := l.foldl (fun _ b => b) p
theorem lastB_cons (p b : UInt8) (r : List UInt8) : lastB p (b :: r) = lastB b r := rfl
theorem ins_app (bs : Nat → List UInt8) : ∀ (a b : List UInt8) (p : UInt8) (n : Nat), insG bs p n (a ++ b) = ((insG bs p n a).1 ++ (insG bs (lastB p a) (insG bs p n a).2 b).1, (insG bs (lastB p a) (insG bs p n a).2 b).2)
  | [], b, p, n => by simp [insG, lastB]
  | x :: a, b, p, n => by
    rw [List.cons_append, insG, insG, lastB_cons]
    split
    · rw [ins_app bs a b x (n + 1)]; simp
    · rw [ins_app bs a b x n]; simp
theorem ins_plain (bs : Nat → List UInt8) : ∀ (l : List UInt8) (p : UInt8) (n : Nat), (60 : UInt8) ∉ l → insG bs p n l = (l, n)
  | [], p, n, _ => rfl
  | b :: r, p, n, h => by
    rw [insG, if_neg (by rintro ⟨e, _⟩; exact h (by simp [e])), ins_plain bs r b n (fun hm => h (by simp [hm]))]
theorem ins_open (bs : Nat → List UInt8) {r : List UInt8} {p : UInt8} {n : Nat} (h : (60 : UInt8) ∉ r) (hp : p ≠ 62) : insG bs p n (60 :: r) = (60 :: r, n) := by
  rw [insG, if_neg (by rintro ⟨_, e⟩; exact hp e), ins_plain bs r 60 n h]
theorem lastB_app (p : UInt8) (a : List UInt8) (x : UInt8) : lastB p (a ++ [x]) = x := by simp [lastB]
theorem front_free {n : List UInt8} {a : List Par} (hn : nameX n = true) (ha : ∀ p ∈ a, nameX p.name = true ∧ p.has = true) : (60 : UInt8) ∉ n ++ attrsT a := by
  obtain ⟨_, hb⟩ := name_factsX hn
  intro hm
  rcases List.mem_append.1 hm with hm | hm
  · exact (namc_facts 60 (hb 60 hm)).2.2.2.2.1 rfl
  · unfold attrsT at hm
    obtain ⟨p, hp, hx⟩ := List.mem_flatMap.1 hm
    unfold attrT at hx
    simp only [List.mem_append, List.mem_cons, List.not_mem_nil, or_false] at hx
    rcases hx with (((hx | hx) | hx) | hx) | hx
    · simp at hx
    · exact (namc_facts 60 ((name_factsX (ha p hp).1).2 60 hx)).2.2.2.2.1 rfl
    · simp at hx
    · exact (escX_free p.value).1 hx
    · simp at hx
/-- What is put in makes such a text: the element is opened by a sign that is no >. -/
theorem ins_pad (bs : Nat → List UInt8) (hbs : ∀ n, blanksX (bs n)) : ∀ m : Nat,
    (∀ (t : XT) (d : Nat), szX t ≤ m → okX d t = true → ∀ (p : UInt8) (n : Nat), ∃ g s n', blanksX g ∧ PadX t s ∧ insG bs p n (printX t) = (g ++ s, n') ∧ (p ≠ 62 → g = [])) ∧
    (∀ (ks : List XT) (d : Nat), szXs ks ≤ m → okXs d ks = true → ∀ (n : Nat) (r : List UInt8), (60 : UInt8) ∉ r → ∃ s n', PadXs ks s ∧ insG bs 62 n (printXs ks ++ 60 :: r) = (s ++ 60 :: r, n'))
  | 0 => by
    refine ⟨fun t d h => ?_, fun ks d h => ?_⟩
    · obtain ⟨n, a, tx, k⟩ := t; rw [szX] at h; omega
    · cases ks with
      | nil => rw [szXs] at h; omega
      | cons t ks => rw [szXs] at h; omega
  | m + 1 => by
    obtain ⟨ih1, ih2⟩ := ins_pad bs hbs m
    refine ⟨fun t d hsz hok p n => ?_, fun ks d hsz hok n r hr => ?_⟩
    · obtain ⟨nm, a, tx, k⟩ := t
      obtain ⟨k1, k2, k3, k4, k5, k6⟩ := okX_facts hok
      rw [szX] at hsz
      have hff := front_free k2 k3
      -- the opening sign, with what is put ahead of it
      have hopen : ∀ r, ∃ g n', blanksX g ∧ insG bs p n (60 :: r) = (g ++ 60 :: (insG bs 60 n' r).1, (insG bs 60 n' r).2) ∧ (p ≠ 62 → g = []) := by
        intro r
        by_cases hp : p = 62
        · exact ⟨bs n, n + 1, hbs n, by rw [insG, if_pos ⟨rfl, hp⟩], fun h => absurd hp h⟩
        · exact ⟨[], n, fun b hb => by simp at hb, by rw [insG, if_neg (by rintro ⟨_, e⟩; exact hp e)]; rfl, fun _ => rfl⟩
      have hclose : (60 : UInt8) ∉ 47 :: (nm ++ [62]) := by
        obtain ⟨_, hb⟩ := name_factsX k2
        intro hm
        simp only [List.mem_cons, List.mem_append, List.not_mem_nil, or_false] at hm
        rcases hm with hm | hm | hm
        · simp at hm
        · exact (namc_facts 60 (hb 60 hm)).2.2.2.2.1 rfl
        · simp at hm
      rw [printX]
      by_cases hin : escX tx ++ printXs k = []
      · rw [if_pos hin]
        simp only [List.append_eq_nil_iff] at hin
        obtain rfl := escX_nil.1 hin.1
        obtain rfl := printXs_nil k6 hin.2
        have e : [60] ++ nm ++ attrsT a ++ [47, 62] = 60 :: (nm ++ attrsT a ++ [47, 62]) := by simp
        obtain ⟨g, n', h1, h2, h3⟩ := hopen (nm ++ attrsT a ++ [47, 62])
        have hfree : (60 : UInt8) ∉ nm ++ attrsT a ++ [47, 62] := by
          intro hm
          rcases List.mem_append.1 hm with hm | hm
          · exact hff hm
          · simp at hm
        refine ⟨g, [60] ++ nm ++ attrsT a ++ [47, 62], n', h1, PadX.leaf nm a, ?_, h3⟩
        rw [e, h2, ins_plain bs _ 60 n' hfree]
      · rw [if_neg hin]
        rcases k5 with rfl | rfl
        · -- a text
          have htx : tx ≠ [] := by intro e; subst e; exact hin rfl
          have hne : escX tx ≠ [] := fun e => htx (escX_nil.1 e)
          obtain ⟨q, x, hq⟩ : ∃ q x, escX tx = q ++ [x] := by
            rcases List.eq_nil_or_concat (escX tx) with e | ⟨q, x, e⟩
            · exact absurd e hne
            · exact ⟨q, x, by simpa using e⟩
          have hx62 : x ≠ 62 := fun e => (escX_free tx).2.1 (by rw [hq, e]; simp)
          have e : [60] ++ nm ++ attrsT a ++ ([62] ++ (escX tx ++ printXs []) ++ ([60, 47] ++ nm ++ [62])) = 60 :: ((nm ++ attrsT a ++ [62] ++ escX tx) ++ 60 :: (47 :: (nm ++ [62]))) := by rw [printXs]; simp
          obtain ⟨g, n', h1, h2, h3⟩ := hopen ((nm ++ attrsT a ++ [62] ++ escX tx) ++ 60 :: (47 :: (nm ++ [62])))
          have hfree : (60 : UInt8) ∉ nm ++ attrsT a ++ [62] ++ escX tx := by
            intro hm
            rcases List.mem_append.1 hm with hm | hm
            · rcases List.mem_append.1 hm with hm | hm
              · exact hff hm
              · simp at hm
            · exact (escX_free tx).1 hm
          have hlast : lastB 60 (nm ++ attrsT a ++ [62] ++ escX tx) = x := by rw [hq, ← List.append_assoc]; exact lastB_app _ _ _
          refine ⟨g, [60] ++ nm ++ attrsT a ++ ([62] ++ escX tx ++ ([60, 47] ++ nm ++ [62])), n', h1, PadX.text nm a tx htx, ?_, h3⟩
          rw [e, h2, ins_app, ins_plain bs _ 60 n' hfree, hlast]
          simp only
          rw [ins_open bs hclose hx62]
          simp
        · -- elements
          have hk : k ≠ [] := by intro e; subst e; exact hin rfl
          have he : escX ([] : List UInt8) = [] := rfl
          have e : [60] ++ nm ++ attrsT a ++ ([62] ++ (escX [] ++ printXs k) ++ ([60, 47] ++ nm ++ [62])) = 60 :: ((nm ++ attrsT a ++ [62]) ++ (printXs k ++ 60 :: (47 :: (nm ++ [62])))) := by rw [he]; simp
          obtain ⟨g, n', h1, h2, h3⟩ := hopen ((nm ++ attrsT a ++ [62]) ++ (printXs k ++ 60 :: (47 :: (nm ++ [62]))))
          have hfree : (60 : UInt8) ∉ nm ++ attrsT a ++ [62] := by
            intro hm
            rcases List.mem_append.1 hm with hm | hm
            · exact hff hm
            · simp at hm
          obtain ⟨s, n2, p1, p2⟩ := ih2 k (d + 1) (by omega) k6 n' (47 :: (nm ++ [62])) hclose
          refine ⟨g, [60] ++ nm ++ attrsT a ++ ([62] ++ s ++ ([60, 47] ++ nm ++ [62])), n2, h1, PadX.kids nm a k s hk p1, ?_, h3⟩
          rw [e, h2, ins_app, ins_plain bs _ 60 n' hfree, lastB_app]
          simp only
          rw [p2]
          simp
    · cases ks with
      | nil =>
        refine ⟨bs n, n + 1, PadXs.nil _ (hbs n), ?_⟩
        rw [printXs, List.nil_append, insG, if_pos ⟨rfl, rfl⟩, ins_plain bs r 60 (n + 1) hr]
      | cons t ks =>
        rw [okXs, Bool.and_eq_true] at hok
        rw [szXs] at hsz
        obtain ⟨g, s1, n1, a1, a2, a3, _⟩ := ih1 t d (by omega) hok.1 62 n
        obtain ⟨s2, n2, b1, b2⟩ := ih2 ks d (by omega) hok.2 n1 r hr
        have hl : lastB 62 (printX t) = 62 := by
          obtain ⟨nm, a, tx, k⟩ := t
          rw [printX]
          split
          · rw [show [60] ++ nm ++ attrsT a ++ [47, 62] = ([60] ++ nm ++ attrsT a ++ [47]) ++ [62] by simp]; exact lastB_app _ _ _
          · rw [show [60] ++ nm ++ attrsT a ++ ([62] ++ (escX tx ++ printXs k) ++ ([60, 47] ++ nm ++ [62])) = ([60] ++ nm ++ attrsT a ++ ([62] ++ (escX tx ++ printXs k) ++ ([60, 47] ++ nm))) ++ [62] by simp]; exact lastB_app _ _ _
        refine ⟨g ++ (s1 ++ s2), n2, PadXs.cons t ks g s1 s2 a1 a2 b1, ?_⟩
        rw [printXs, List.append_assoc, ins_app, a3, hl]
        simp only
        rw [b2]
        simp

end Go.Proofs.YtnijlmkodgdhlaaDoor

/-
  Reading XML from a place on: plain facts.
-/
namespace Go.Proofs.YtnijlmkodgdhlaaDoor
open Go.RowKit Sc
set_option linter.unusedVariables false
set_option maxRecDepth 20000
set_option linter.unusedSimpArgs false

/-- Where a run of signs ends that begins at a place. -/
def runL (p : UInt8 → Bool) (l : List UInt8) (at' : Nat) : Nat := at' + ((l.drop at').takeWhile p).length
section
variable {p : UInt8 → Bool} {l : List UInt8} {k : Nat}
theorem run_step (hk : k < l.length) (h : p l[k] = true) : runL p l (k + 1) = runL p l k := by
  unfold runL
  rw [List.drop_eq_getElem_cons hk, List.takeWhile_cons, if_pos h, List.length_cons]; omega
theorem run_stop (hk : k < l.length) (h : p l[k] = false) : runL p l k = k := by
  unfold runL
  rw [List.drop_eq_getElem_cons hk, List.takeWhile_cons, if_neg (by simp [h])]; simp
theorem run_end (hk : l.length ≤ k) : runL p l k = k := by
  unfold runL
  rw [List.drop_eq_nil_of_le hk]; simp
theorem run_le (hk : k ≤ l.length) : k ≤ runL p l k ∧ runL p l k ≤ l.length := by
  unfold runL
  have h1 : ((l.drop k).takeWhile p).length ≤ (l.drop k).length := by
    have := congrArg List.length (List.takeWhile_append_dropWhile (p := p) (l := l.drop k))
    rw [List.length_append] at this; omega
  rw [List.length_drop] at h1
  omega
theorem run_drop : l.drop (runL p l k) = (l.drop k).dropWhile p := by
  unfold runL
  rw [← List.drop_drop]
  have h := List.takeWhile_append_dropWhile (p := p) (l := l.drop k)
  generalize (l.drop k).takeWhile p = a at h ⊢
  generalize (l.drop k).dropWhile p = b at h ⊢
  rw [← h]; exact List.drop_left
theorem run_take : (l.drop k).take (runL p l k - k) = (l.drop k).takeWhile p := by
  unfold runL
  rw [Nat.add_sub_cancel_left]
  have h := List.takeWhile_append_dropWhile (p := p) (l := l.drop k)
  generalize (l.drop k).takeWhile p = a at h ⊢
  generalize (l.drop k).dropWhile p = b at h
  rw [← h]; exact List.take_left
theorem run_at (hk : k ≤ l.length) : runL p l k < l.length → ∃ c r, (l.drop k).dropWhile p = c :: r ∧ p c = false := fun h => by
  have e := run_drop (p := p) (l := l) (k := k)
  rw [List.drop_eq_getElem_cons h] at e
  refine ⟨_, _, e.symm, ?_⟩
  have h2 := List.head?_dropWhile_not p (l.drop k)
  rw [← e, List.head?_cons] at h2
  simpa using h2
end
/-- Does a text stand at a place? -/
def isAt (l : List UInt8) (k : Nat) (t : List UInt8) : Bool := decide ((l.drop k).take t.length = t)
theorem isAt_long {l t : List UInt8} {k : Nat} (h : l.length < k + t.length) (ht : t ≠ [] ∨ k ≤ l.length) : isAt l k t = false := by
  unfold isAt
  rw [decide_eq_false_iff_not]
  intro e
  have := congrArg List.length e
  rw [List.length_take, List.length_drop] at this
  rcases ht with ht | ht
  · have : 1 ≤ t.length := by cases t with | nil => exact absurd rfl ht | cons a b => simp
    omega
  · omega
theorem isAt_one {l : List UInt8} {k : Nat} {c : UInt8} : isAt l k [c] = decide (l[k]? = some c) := by
  unfold isAt
  congr 1
  rw [List.length_cons, List.length_nil, eq_iff_iff]
  by_cases h : k < l.length
  · rw [List.drop_eq_getElem_cons h, List.getElem?_eq_getElem h, Nat.zero_add, List.take_succ_cons, List.take_zero]; simp
  · rw [List.drop_eq_nil_of_le (by omega), List.getElem?_eq_none (by omega)]; simp
-- what is read, from a place on
theorem readX_at {l : List UInt8} {k : Nat} (hk : k < l.length) (h : l[k] ≠ 38) : readX (l.drop k) = (readX (l.drop (k + 1))).map (l[k] :: ·) := by
  rw [List.drop_eq_getElem_cons hk]; exact read_cons h
theorem readX_none {l : List UInt8} {k : Nat} (hk : k < l.length) (h : l[k] = 38) (he : entX (l.drop (k + 1)) = none) : readX (l.drop k) = none := by
  rw [List.drop_eq_getElem_cons hk, h]
  unfold readX
  rw [List.length_cons, readG, if_pos rfl, he]
theorem readX_ent {l : List UInt8} {k n : Nat} {c : UInt8} (hk : k < l.length) (h : l[k] = 38) (he : entX (l.drop (k + 1)) = some (c, n)) : readX (l.drop k) = (readX (l.drop (k + 1 + n))).map (c :: ·) := by
  rw [List.drop_eq_getElem_cons hk, h]
  exact read_ent he (by rw [List.drop_drop])
/-- The names behind a &, and their signs. -/
def entK : List (List UInt8 × UInt8) := [([97, 109, 112, 59], 38), ([108, 116, 59], 60), ([103, 116, 59], 62), ([113, 117, 111, 116, 59], 34), ([97, 112, 111, 115, 59], 39)]
/-- The last of the first k names that stands there. -/
def foundK (r : List UInt8) : Nat → Int
  | 0 => -1
  | k + 1 => match entK[k]? with
    | some e => if r.take e.1.length = e.1 then (k : Int) else foundK r k
    | none => foundK r k
theorem found_bd (r : List UInt8) : ∀ k, -1 ≤ foundK r k ∧ foundK r k < k
  | 0 => by simp [foundK]
  | k + 1 => by
    have ih := found_bd r k
    unfold foundK
    split
    · split <;> constructor <;> push_cast <;> omega
    · constructor <;> push_cast <;> omega
/-- Just one name can stand there. -/
theorem found_ent (r : List UInt8) : (foundK r 5 = -1 ∧ entX r = none) ∨ ∃ (k : Nat) (hk : k < entK.length), foundK r 5 = (k : Int) ∧ entX r = some (entK[k].2, entK[k].1.length) := by
  by_cases h0 : r.take 4 = [97, 109, 112, 59]
  · have n1 : ¬ r.take 3 = [108, 116, 59] := fun e => by have := congrArg (List.take 1) h0; have := congrArg (List.take 1) e; simp [List.take_take] at *; simp_all
    have n2 : ¬ r.take 3 = [103, 116, 59] := fun e => by have := congrArg (List.take 1) h0; have := congrArg (List.take 1) e; simp [List.take_take] at *; simp_all
    have n3 : ¬ r.take 5 = [113, 117, 111, 116, 59] := fun e => by have := congrArg (List.take 1) h0; have := congrArg (List.take 1) e; simp [List.take_take] at *; simp_all
    have n4 : ¬ r.take 5 = [97, 112, 111, 115, 59] := fun e => by have := congrArg (List.take 2) h0; have := congrArg (List.take 2) e; simp [List.take_take] at *; simp_all
    exact .inr ⟨0, by decide, by simp [foundK, entK, h0, n1, n2, n3, n4], by simp [entX, entK, h0]⟩
  · by_cases h1 : r.take 3 = [108, 116, 59]
    · have n2 : ¬ r.take 3 = [103, 116, 59] := fun e => by rw [h1] at e; simp at e
      have n3 : ¬ r.take 5 = [113, 117, 111, 116, 59] := fun e => by have := congrArg (List.take 1) h1; have := congrArg (List.take 1) e; simp [List.take_take] at *; simp_all
      have n4 : ¬ r.take 5 = [97, 112, 111, 115, 59] := fun e => by have := congrArg (List.take 1) h1; have := congrArg (List.take 1) e; simp [List.take_take] at *; simp_all
      exact .inr ⟨1, by decide, by simp [foundK, entK, h0, h1, n2, n3, n4], by simp [entX, entK, h0, h1]⟩
    · by_cases h2 : r.take 3 = [103, 116, 59]
      · have n3 : ¬ r.take 5 = [113, 117, 111, 116, 59] := fun e => by have := congrArg (List.take 1) h2; have := congrArg (List.take 1) e; simp [List.take_take] at *; simp_all
        have n4 : ¬ r.take 5 = [97, 112, 111, 115, 59] := fun e => by have := congrArg (List.take 1) h2; have := congrArg (List.take 1) e; simp [List.take_take] at *; simp_all
        exact .inr ⟨2, by decide, by simp [foundK, entK, h0, h1, h2, n3, n4], by simp [entX, entK, h0, h1, h2]⟩
      · by_cases h3 : r.take 5 = [113, 117, 111, 116, 59]
        · have n4 : ¬ r.take 5 = [97, 112, 111, 115, 59] := fun e => by rw [h3] at e; simp at e
          exact .inr ⟨3, by decide, by simp [foundK, entK, h0, h1, h2, h3, n4], by simp [entX, entK, h0, h1, h2, h3]⟩
        · by_cases h4 : r.take 5 = [97, 112, 111, 115, 59]
          · exact .inr ⟨4, by decide, by simp [foundK, entK, h0, h1, h2, h3, h4], by simp [entX, entK, h0, h1, h2, h3, h4]⟩
          · exact .inl ⟨by simp [foundK, entK, h0, h1, h2, h3, h4], by simp [entX, h0, h1, h2, h3, h4]⟩
end Go.Proofs.YtnijlmkodgdhlaaDoor

/-
  Contracts: strings.TrimLeft, TrimRight and Trim at XML's four blanks.
-/
namespace Go.Proofs.YtnijlmkodgdhlaaDoor
open Go.RowKit Sc
set_option linter.unusedVariables false
set_option maxRecDepth 20000
set_option linter.unusedSimpArgs false

def xbL : List UInt8 := [32, 9, 13, 10]
theorem xbL_is (b : UInt8) : xbL.contains b = xblk b := by
  have : ∀ b : UInt8, xbL.contains b = xblk b := by apply byte_all; decide +kernel
  exact this b
theorem xb_ascii : ∀ (j : Nat) (b : UInt8), (⟨#[32, 9, 13, 10]⟩ : ByteArray).data.toList[j]? = some b → b.toNat < 128 := by
  intro j b h
  have : b ∈ [32, 9, 13, 10] := List.mem_of_getElem? h
  simp at this
  rcases this with rfl | rfl | rfl | rfl <;> decide
theorem xbehind_drop {l : List UInt8} {b : UInt8} (h : xblk b = true) : xbehind (l ++ [b]) = xbehind l := by
  unfold xbehind; simp [h]
theorem xbehind_stop {l : List UInt8} {b : UInt8} (h : xblk b = false) : xbehind (l ++ [b]) = l ++ [b] := by
  unfold xbehind; simp [h]
theorem xbehind_len (l : List UInt8) : (xbehind l).length ≤ l.length := by
  unfold xbehind
  have := (List.dropWhile_suffix (l := l.reverse) xblk).length_le
  simpa using this
theorem xlast_split (t : ByteArray) (h : 0 < t.size) : t.data.toList = (t.extract 0 (t.size - 1)).data.toList ++ [t[t.size - 1]] := by
  have := take_snoc t (t.size - 1) (by omega)
  rw [show t.size - 1 + 1 = t.size by omega, take_all t t.size (Nat.le_refl _)] at this
  rw [Lib.extract_from_zero, ← this]
theorem xfirst_split (t : ByteArray) (h : 0 < t.size) : t.data.toList = t[0] :: (t.extract 1 t.size).data.toList := by
  have e := ext_list t 1 t.size
  have e2 : (t.extract 1 t.size).data.toList = t.data.toList.drop 1 := by
    rw [e]
    show (t.data.toList.drop 1).take (t.size - 1) = _
    rw [List.take_of_length_le]
    rw [List.length_drop, len_data]; omega
  rw [e2]
  have hl := len_data t
  have := getL t 0 h
  cases hd : t.data.toList with
  | nil => rw [hd] at hl; simp at hl; omega
  | cons a r => rw [hd] at this; simp at this; rw [this]; rfl
def xstrSize : Value → Nat | .string t => t.size | _ => 0
theorem xret_data {t : ByteArray} {l : List UInt8} (h : t.data.toList = l) : Ending.returned (.string t) = .returned (.string ⟨l.toArray⟩) := by
  rw [← h]
set_option maxHeartbeats 400000 in
theorem xtrimR_any (s : ByteArray) (b : Nat) (w : World) (hs : s.size ≤ 140737488355328) (hc : ∀ x : UInt8, w.cell? ⟨b, x.toNat, none⟩ = some (.bool (xblk x))) :
    Calls Tryd.prog 69 #[.string s, .pointer (some ⟨b, 0, none⟩)] w fun e w' => e = .returned (.string ⟨(xbehind s.data.toList).toArray⟩) ∧ w' = w := by
  have HC := hid hc
  clear hc
  go_enter Tryd.func69, Tryd.ntmps69
  go_wp2
  go_loop [0] (fun x => ∃ t : ByteArray, x = .string t ∧ t.size ≤ s.size ∧ Hid (xbehind s.data.toList = xbehind t.data.toList)) (fun x => xstrSize x)
  case atStart => exact ⟨s, rfl, Nat.le_refl _, hid rfl⟩
  case round =>
    obtain ⟨t, rfl, hts, hv⟩ := hrel
    by_cases h0 : 0 < t.size
    · have hl := xlast_split t h0
      have ht1 : ((t.size : Int) - 1).toNat = t.size - 1 := by omega
      have HZ : Hid ((t.extract 0 (t.size - 1)).size = t.size - 1) := show _ = _ by rw [ByteArray.size_extract]; omega
      have KH := hid (setHas_any b t[t.size - 1] _ _ (HC.out t[t.size - 1]))
      by_cases hb : xblk t[t.size - 1] = true
      · rw [hb] at KH
        have hnx : Hid (xbehind s.data.toList = xbehind (t.extract 0 (t.size - 1)).data.toList) := show _ = _ by rw [hv.out, hl, xbehind_drop hb]
        clear hl hb hv
        go_wp2_with (go_at_call 81; refine KH.out.mono ?_; rintro e w' ⟨rfl, hw⟩; rw [hw])
        go_round
        case rel => exact ⟨t.extract 0 (t.size - 1), rfl, by rw [HZ.out]; omega, hnx⟩
        case measure => show (t.extract 0 (t.size - 1)).size < t.size; rw [HZ.out]; omega
      · have hb2 : xblk t[t.size - 1] = false := by simpa using hb
        rw [hb2] at KH
        have hE : Hid (t.data.toList = xbehind s.data.toList) := show _ = _ by rw [hv.out, hl, xbehind_stop hb2]
        clear hl hb hb2 hv
        go_wp2_with (go_at_call 81; refine KH.out.mono ?_; rintro e w' ⟨rfl, hw⟩; rw [hw])
        go_ret
        exact ⟨xret_data hE.out, rfl⟩
    · have hE : Hid (t.data.toList = xbehind s.data.toList) := show _ = _ by
        have : t.data.toList = [] := List.eq_nil_of_length_eq_zero (by rw [len_data]; omega)
        rw [hv.out, this]; rfl
      clear hv
      go_wp2
      go_ret
      exact ⟨xret_data hE.out, rfl⟩
set_option maxHeartbeats 400000 in
theorem xtrimL_any (s : ByteArray) (b : Nat) (w : World) (hs : s.size ≤ 140737488355328) (hc : ∀ x : UInt8, w.cell? ⟨b, x.toNat, none⟩ = some (.bool (xblk x))) :
    Calls Tryd.prog 68 #[.string s, .pointer (some ⟨b, 0, none⟩)] w fun e w' => e = .returned (.string ⟨(s.data.toList.dropWhile xblk).toArray⟩) ∧ w' = w := by
  have HC := hid hc
  clear hc
  go_enter Tryd.func68, Tryd.ntmps68
  go_wp2
  go_loop [0] (fun x => ∃ t : ByteArray, x = .string t ∧ t.size ≤ s.size ∧ Hid (s.data.toList.dropWhile xblk = t.data.toList.dropWhile xblk)) (fun x => xstrSize x)
  case atStart => exact ⟨s, rfl, Nat.le_refl _, hid rfl⟩
  case round =>
    obtain ⟨t, rfl, hts, hv⟩ := hrel
    by_cases h0 : 0 < t.size
    · have hl := xfirst_split t h0
      have HZ : Hid ((t.extract 1 t.size).size = t.size - 1) := show _ = _ by rw [ByteArray.size_extract]; omega
      have KH := hid (setHas_any b t[0] _ _ (HC.out t[0]))
      have h1 : (1 : Int) ≤ (t.size : Int) := by omega
      by_cases hb : xblk t[0] = true
      · rw [hb] at KH
        have hnx : Hid (s.data.toList.dropWhile xblk = (t.extract 1 t.size).data.toList.dropWhile xblk) := show _ = _ by rw [hv.out, hl, List.dropWhile_cons, if_pos hb]
        clear hl hb hv
        go_wp2_with (go_at_call 81; refine KH.out.mono ?_; rintro e w' ⟨rfl, hw⟩; rw [hw])
        go_round
        case rel => exact ⟨t.extract 1 t.size, rfl, by rw [HZ.out]; omega, hnx⟩
        case measure => show (t.extract 1 t.size).size < t.size; rw [HZ.out]; omega
      · have hb2 : xblk t[0] = false := by simpa using hb
        rw [hb2] at KH
        have hE : Hid (t.data.toList = s.data.toList.dropWhile xblk) := show _ = _ by rw [hv.out, hl, List.dropWhile_cons, if_neg hb]
        clear hl hb hb2 hv
        go_wp2_with (go_at_call 81; refine KH.out.mono ?_; rintro e w' ⟨rfl, hw⟩; rw [hw])
        go_ret
        exact ⟨xret_data hE.out, rfl⟩
    · have hE : Hid (t.data.toList = s.data.toList.dropWhile xblk) := show _ = _ by
        have : t.data.toList = [] := List.eq_nil_of_length_eq_zero (by rw [len_data]; omega)
        rw [hv.out, this]; rfl
      clear hv
      go_wp2
      go_ret
      exact ⟨xret_data hE.out, rfl⟩
-- the callers
set_option maxHeartbeats 1000000 in
set_option maxRecDepth 100000 in
theorem xtrimRight_list (l : List UInt8) (w : World) (hl : l.length ≤ 140737488355328) :
    Calls Tryd.prog 99 #[.string ⟨l.toArray⟩, .string ⟨#[32, 9, 13, 10]⟩] w fun e w' => e = .returned (.string ⟨(xbehind l).toArray⟩) ∧ Below w.heap.size w w' := by
  cases he : l.isEmpty with
  | true =>
    obtain rfl : l = [] := by simpa using he
    have hE : Hid (xbehind [] = []) := rfl
    go_enter Tryd.func99, Tryd.ntmps99
    go_wp2
    go_ret
    exact ⟨by rw [hE.out]; rfl, Below.refl _ _⟩
  | false =>
    have KM := hid (makeSet_any ⟨#[32, 9, 13, 10]⟩ w (by decide) xb_ascii)
    have hsz := Lib.setCells_size [32, 9, 13, 10]
    have hi2 := hid (show (Tryd.prog.info? 95).map (·.size) = some (Lib.setCells [32, 9, 13, 10]).size by rw [hsz]; exact (zero_of_info infoSet).2)
    have hzv := (zero_of_info infoSet).1
    have hcellAt : ∀ x : UInt8, ((w.alloc (.cells (Lib.setCells [32, 9, 13, 10]) 95)).alloc (.cells (Lib.setCells [32, 9, 13, 10]) 95)).cell? ⟨w.heap.size + 1, x.toNat, none⟩ = some (.bool (xblk x)) := fun x => by
      rw [World.cell?_alloc_at _ _ _ _ (by simp), Lib.setCells_at, ← xbL_is]; rfl
    have KT := hid (xtrimR_any ⟨l.toArray⟩ (w.heap.size + 1) _ (by rw [size_list]; exact hl) hcellAt)
    have hb2 : Below w.heap.size w ((w.alloc (.cells (Lib.setCells [32, 9, 13, 10]) 95)).alloc (.cells (Lib.setCells [32, 9, 13, 10]) 95)) := ((Below.refl _ _).alloc (Nat.le_refl _) _).alloc (by simp) _
    have hrep : Hid ((Array.replicate 256 (Value.bool false)).size = (Lib.setCells [32, 9, 13, 10]).size) := show _ = _ by rw [hsz, Array.size_replicate]
    have HA1 : Hid ((w.alloc (.cells (Lib.setCells [32, 9, 13, 10]) 95)).heap.size = w.heap.size + 1) := show _ = _ by simp
    clear hcellAt hsz
    go_enter Tryd.func99, Tryd.ntmps99
    go_wp2_with (first
      | (go_at_call 67; refine KM.out.mono ?_; rintro e w' ⟨rfl, hw⟩; rw [hw])
      | (go_at_call 69; refine KT.out.mono ?_; rintro e w' ⟨rfl, hw⟩; rw [hw])
      | (refine wp_store_new rfl (.tmp 5) (.tmp 29) 95 rfl rfl (Array.replicate 256 (.bool false)) (Lib.setCells [32, 9, 13, 10]) hi2.out hrep.out (Lib.setCells_one _) (w.heap.size + 1) HA1.out rfl rfl ?_))
    go_ret
    exact ⟨rfl, hb2⟩
set_option maxHeartbeats 1000000 in
set_option maxRecDepth 100000 in
theorem xtrimLeft_list (l : List UInt8) (w : World) (hl : l.length ≤ 140737488355328) :
    Calls Tryd.prog 76 #[.string ⟨l.toArray⟩, .string ⟨#[32, 9, 13, 10]⟩] w fun e w' => e = .returned (.string ⟨(l.dropWhile xblk).toArray⟩) ∧ Below w.heap.size w w' := by
  cases he : l.isEmpty with
  | true =>
    obtain rfl : l = [] := by simpa using he
    have hE : Hid (List.dropWhile xblk [] = []) := rfl
    go_enter Tryd.func76, Tryd.ntmps76
    go_wp2
    go_ret
    exact ⟨by rw [hE.out]; rfl, Below.refl _ _⟩
  | false =>
    have KM := hid (makeSet_any ⟨#[32, 9, 13, 10]⟩ w (by decide) xb_ascii)
    have hsz := Lib.setCells_size [32, 9, 13, 10]
    have hi2 := hid (show (Tryd.prog.info? 95).map (·.size) = some (Lib.setCells [32, 9, 13, 10]).size by rw [hsz]; exact (zero_of_info infoSet).2)
    have hzv := (zero_of_info infoSet).1
    have hcellAt : ∀ x : UInt8, ((w.alloc (.cells (Lib.setCells [32, 9, 13, 10]) 95)).alloc (.cells (Lib.setCells [32, 9, 13, 10]) 95)).cell? ⟨w.heap.size + 1, x.toNat, none⟩ = some (.bool (xblk x)) := fun x => by
      rw [World.cell?_alloc_at _ _ _ _ (by simp), Lib.setCells_at, ← xbL_is]; rfl
    have KT := hid (xtrimL_any ⟨l.toArray⟩ (w.heap.size + 1) _ (by rw [size_list]; exact hl) hcellAt)
    have hb2 : Below w.heap.size w ((w.alloc (.cells (Lib.setCells [32, 9, 13, 10]) 95)).alloc (.cells (Lib.setCells [32, 9, 13, 10]) 95)) := ((Below.refl _ _).alloc (Nat.le_refl _) _).alloc (by simp) _
    have hrep : Hid ((Array.replicate 256 (Value.bool false)).size = (Lib.setCells [32, 9, 13, 10]).size) := show _ = _ by rw [hsz, Array.size_replicate]
    have HA1 : Hid ((w.alloc (.cells (Lib.setCells [32, 9, 13, 10]) 95)).heap.size = w.heap.size + 1) := show _ = _ by simp
    clear hcellAt hsz
    go_enter Tryd.func76, Tryd.ntmps76
    go_wp2_with (first
      | (go_at_call 67; refine KM.out.mono ?_; rintro e w' ⟨rfl, hw⟩; rw [hw])
      | (go_at_call 68; refine KT.out.mono ?_; rintro e w' ⟨rfl, hw⟩; rw [hw])
      | (refine wp_store_new rfl (.tmp 5) (.tmp 29) 95 rfl rfl (Array.replicate 256 (.bool false)) (Lib.setCells [32, 9, 13, 10]) hi2.out hrep.out (Lib.setCells_one _) (w.heap.size + 1) HA1.out rfl rfl ?_))
    go_ret
    exact ⟨rfl, hb2⟩
theorem xtrim_two (l : List UInt8) : (xbehind l).dropWhile xblk = xtrim l := by
  unfold xtrim xbehind
  by_cases h : ∀ b ∈ l, xblk b = true
  · rw [drop_blanks h]
    have h2 : l.reverse.dropWhile xblk = [] := drop_blanks (fun b hb => h b (List.mem_reverse.1 hb))
    rw [h2]; rfl
  · have hx : ∃ a c r, l = a ++ c :: r ∧ (∀ b ∈ a, xblk b = true) ∧ xblk c = false := by
      have e := List.takeWhile_append_dropWhile (p := xblk) (l := l)
      cases hd : l.dropWhile xblk with
      | nil =>
        exfalso
        apply h
        intro b hb
        rw [hd, List.append_nil] at e
        rw [← e] at hb
        exact List.all_eq_true.1 (List.all_takeWhile) b hb
      | cons c r =>
        refine ⟨l.takeWhile xblk, c, r, by rw [← hd]; exact e.symm, fun b hb => List.all_eq_true.1 (List.all_takeWhile) b hb, ?_⟩
        have := List.head?_dropWhile_not xblk l
        rw [hd] at this; simpa using this
    obtain ⟨a, c, r, rfl, ha, hc⟩ := hx
    have e1 : ∀ q : List UInt8, (a ++ c :: q).dropWhile xblk = c :: q := fun q => (takeW_app ha hc).2
    rw [e1]
    have e2 : ∀ q : List UInt8, xblk c = false → ((c :: q).reverse.dropWhile xblk).reverse = c :: (q.reverse.dropWhile xblk).reverse := fun q _ => by
      rw [List.reverse_cons]
      by_cases hq : ∀ b ∈ q, xblk b = true
      · have h2 : q.reverse.dropWhile xblk = [] := drop_blanks (fun b hb => hq b (List.mem_reverse.1 hb))
        rw [h2, List.dropWhile_append, h2]; simp [hc]
      · rw [List.dropWhile_append]
        have : (q.reverse.dropWhile xblk).isEmpty = false := by
          cases hh : q.reverse.dropWhile xblk with
          | nil =>
            exfalso; apply hq
            intro b hb
            have e3 := List.takeWhile_append_dropWhile (p := xblk) (l := q.reverse)
            rw [hh, List.append_nil] at e3
            have hb2 : b ∈ q.reverse.takeWhile xblk := by rw [e3]; exact List.mem_reverse.2 hb
            exact List.all_eq_true.1 (List.all_takeWhile) b hb2
          | cons x y => rfl
        rw [if_neg (by simp [this])]
        simp
    have e4 : ((a ++ c :: r).reverse.dropWhile xblk).reverse = a ++ ((c :: r).reverse.dropWhile xblk).reverse := by
      rw [List.reverse_append, List.dropWhile_append]
      have : ((c :: r).reverse.dropWhile xblk).isEmpty = false := by
        cases hh : (c :: r).reverse.dropWhile xblk with
        | nil => have := e2 r hc; rw [hh] at this; simp at this
        | cons x y => rfl
      rw [if_neg (by rw [this]; exact Bool.false_ne_true)]; simp
    rw [e4, e2 r hc, e1]
set_option maxHeartbeats 1000000 in
set_option maxRecDepth 100000 in
theorem xtrimAll_list (l : List UInt8) (w : World) (hl : l.length ≤ 140737488355328) :
    Calls Tryd.prog 49 #[.string ⟨l.toArray⟩, .string ⟨#[32, 9, 13, 10]⟩] w fun e w' => e = .returned (.string ⟨(xtrim l).toArray⟩) ∧ Below w.heap.size w w' := by
  cases he : l.isEmpty with
  | true =>
    obtain rfl : l = [] := by simpa using he
    have hE : Hid (xtrim [] = []) := rfl
    go_enter Tryd.func49, Tryd.ntmps49
    go_wp2
    go_ret
    exact ⟨by rw [hE.out]; rfl, Below.refl _ _⟩
  | false =>
    have KM := hid (makeSet_any ⟨#[32, 9, 13, 10]⟩ w (by decide) xb_ascii)
    have hsz := Lib.setCells_size [32, 9, 13, 10]
    have hi2 := hid (show (Tryd.prog.info? 95).map (·.size) = some (Lib.setCells [32, 9, 13, 10]).size by rw [hsz]; exact (zero_of_info infoSet).2)
    have hzv := (zero_of_info infoSet).1
    have hcellAt : ∀ x : UInt8, ((w.alloc (.cells (Lib.setCells [32, 9, 13, 10]) 95)).alloc (.cells (Lib.setCells [32, 9, 13, 10]) 95)).cell? ⟨w.heap.size + 1, x.toNat, none⟩ = some (.bool (xblk x)) := fun x => by
      rw [World.cell?_alloc_at _ _ _ _ (by simp), Lib.setCells_at, ← xbL_is]; rfl
    have KT := hid (xtrimR_any ⟨l.toArray⟩ (w.heap.size + 1) _ (by rw [size_list]; exact hl) hcellAt)
    have KL := hid (xtrimL_any ⟨(xbehind l).toArray⟩ (w.heap.size + 1) _ (by rw [size_list]; exact Nat.le_trans (xbehind_len l) hl) hcellAt)
    rw [show ((⟨(xbehind l).toArray⟩ : ByteArray).data.toList.dropWhile xblk) = xtrim l from xtrim_two l] at KL
    generalize xtrim l = R at KL
    have hb2 : Below w.heap.size w ((w.alloc (.cells (Lib.setCells [32, 9, 13, 10]) 95)).alloc (.cells (Lib.setCells [32, 9, 13, 10]) 95)) := ((Below.refl _ _).alloc (Nat.le_refl _) _).alloc (by simp) _
    have hrep : Hid ((Array.replicate 256 (Value.bool false)).size = (Lib.setCells [32, 9, 13, 10]).size) := show _ = _ by rw [hsz, Array.size_replicate]
    have HA1 : Hid ((w.alloc (.cells (Lib.setCells [32, 9, 13, 10]) 95)).heap.size = w.heap.size + 1) := show _ = _ by simp
    clear hcellAt hsz
    go_enter Tryd.func49, Tryd.ntmps49
    go_wp2_with (first
      | (go_at_call 67; refine KM.out.mono ?_; rintro e w' ⟨rfl, hw⟩; rw [hw])
      | (go_at_call 69; refine KT.out.mono ?_; rintro e w' ⟨rfl, hw⟩; rw [hw])
      | (go_at_call 68; refine KL.out.mono ?_; rintro e w' ⟨rfl, hw⟩; rw [hw])
      | (refine wp_store_new rfl (.tmp 5) (.tmp 32) 95 rfl rfl (Array.replicate 256 (.bool false)) (Lib.setCells [32, 9, 13, 10]) hi2.out hrep.out (Lib.setCells_one _) (w.heap.size + 1) HA1.out rfl rfl ?_))
    go_ret
    exact ⟨rfl, hb2⟩
end Go.Proofs.YtnijlmkodgdhlaaDoor
