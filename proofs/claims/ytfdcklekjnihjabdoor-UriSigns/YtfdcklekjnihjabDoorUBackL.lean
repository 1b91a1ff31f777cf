/-
  What is printed is parsed as it was, in whatever letters scheme and host stand. Plain facts.
-/
import Derived.Test.YtfdcklekjnihjabDoorParseL
namespace Go.Proofs.YtfdcklekjnihjabDoor
open Go.RowKit Sc
set_option linter.unusedVariables false
set_option maxRecDepth 20000

def passB : Bool → List UInt8 → Bool
  | _, [] => true
  | ins, x :: l => !(!ins && x == 58) && passB (insN ins x) l
theorem whereGo_pass (ins : Bool) (a r : List UInt8) (h : passB ins a = true) : whereGo ins (a ++ r) = a.length + whereGo (a.foldl insN ins) r := by
  induction a generalizing ins with
  | nil => simp
  | cons x a ih =>
    rw [passB, Bool.and_eq_true] at h
    rw [List.cons_append, whereGo, if_neg (by rintro ⟨e1, e2⟩; simp [e1, e2] at h), ih _ h.2, List.foldl_cons, List.length_cons]; omega
theorem lowb_at {c : UInt8} (x : UInt8) (hc : ¬ (97 ≤ c.toNat ∧ c.toNat ≤ 122)) (hc2 : ¬ (65 ≤ c.toNat ∧ c.toNat ≤ 90)) : lowb x = c ↔ x = c := by
  unfold lowb
  have hx := x.toNat_lt
  split
  · rename_i h
    have e : (x + 32).toNat = x.toNat + 32 := by rw [UInt8.toNat_add]; show (x.toNat + 32) % 256 = _; omega
    constructor
    · intro h2; rw [← h2, e] at hc; omega
    · intro h2; rw [← h2] at hc2; omega
  · rfl
theorem insN_low (ins : Bool) (x : UInt8) : insN ins (lowb x) = insN ins x := by
  unfold insN
  simp only [lowb_at x (c := 93) (by decide) (by decide), lowb_at x (c := 91) (by decide) (by decide)]
theorem passB_low (ins : Bool) (l : List UInt8) : passB ins (lowL l) = passB ins l := by
  induction l generalizing ins with
  | nil => rfl
  | cons x l ih =>
    have e : (lowb x == 58) = (x == 58) := by
      rw [Bool.eq_iff_iff]; simp only [beq_iff_eq]; exact lowb_at x (by decide) (by decide)
    show passB ins (lowb x :: lowL l) = _
    rw [passB, passB, insN_low, ih, e]
theorem fold_low (ins : Bool) (l : List UInt8) : (lowL l).foldl insN ins = l.foldl insN ins := by
  induction l generalizing ins with
  | nil => rfl
  | cons x l ih =>
    show (lowb x :: lowL l).foldl insN ins = _
    rw [List.foldl_cons, List.foldl_cons, insN_low, ih]
theorem lowL_mem {c : UInt8} {l : List UInt8} (hc : ¬ (97 ≤ c.toNat ∧ c.toNat ≤ 122)) (hc2 : ¬ (65 ≤ c.toNat ∧ c.toNat ≤ 90)) : c ∈ lowL l ↔ c ∈ l := by
  unfold lowL
  rw [List.mem_map]
  constructor
  · rintro ⟨x, hx, e⟩; rw [lowb_at x hc hc2] at e; exact e ▸ hx
  · intro h; exact ⟨c, h, (lowb_at c hc hc2).2 rfl⟩
theorem splitL_mem {c b : UInt8} {l : List UInt8} (h : b ∈ l) : b = c ∨ ∃ p ∈ splitL c l, b ∈ p := by
  induction l with
  | nil => simp at h
  | cons x l ih =>
    obtain ⟨p, ps, hp⟩ := splitL_cons c l
    rw [splitL]
    by_cases hx : x = c
    · rw [if_pos hx]
      rcases List.mem_cons.1 h with h | h
      · exact .inl (h.trans hx)
      · rcases ih h with h | ⟨q, hq, hb⟩
        · exact .inl h
        · exact .inr ⟨q, by simp [hq], hb⟩
    · rw [if_neg hx]
      rw [hp] at ih ⊢
      simp only [List.headD_cons, List.tail_cons]
      rcases List.mem_cons.1 h with h | h
      · exact .inr ⟨x :: p, by simp, by simp [h]⟩
      · rcases ih h with h | ⟨q, hq, hb⟩
        · exact .inl h
        · rcases List.mem_cons.1 hq with h | h
          · exact .inr ⟨x :: p, by simp, by simp [← h, hb]⟩
          · exact .inr ⟨q, by simp [h], hb⟩
theorem byte_all {P : UInt8 → Prop} (h : ∀ n : Fin 256, P (UInt8.ofNat n.val)) (b : UInt8) : P b := by
  have := h ⟨b.toNat, b.toNat_lt⟩
  simpa using this

/-- The bytes that a host can have. -/
def hob (b : UInt8) : Bool := b == 91 || (b == 93 || (okc b || isB b.toNat 64))
theorem pass_plain (ins : Bool) (l : List UInt8) (h : ∀ b ∈ l, b ≠ 58 ∧ b ≠ 91 ∧ b ≠ 93) : passB ins l = true ∧ l.foldl insN ins = ins := by
  induction l generalizing ins with
  | nil => exact ⟨rfl, rfl⟩
  | cons x l ih =>
    obtain ⟨h1, h2, h3⟩ := h x (by simp)
    have e : insN ins x = ins := by unfold insN; rw [if_neg h3, if_neg h2]
    have := ih ins (fun b hb => h b (by simp [hb]))
    refine ⟨?_, ?_⟩
    · rw [passB, e, this.1]; simp [h1]
    · rw [List.foldl_cons, e, this.2]
theorem pass_in (l : List UInt8) (h : ∀ b ∈ l, b ≠ 91 ∧ b ≠ 93) : passB true l = true ∧ l.foldl insN true = true := by
  induction l with
  | nil => exact ⟨rfl, rfl⟩
  | cons x l ih =>
    obtain ⟨h2, h3⟩ := h x (by simp)
    have e : insN true x = true := by unfold insN; rw [if_neg h3, if_neg h2]
    have := ih (fun b hb => h b (by simp [hb]))
    refine ⟨?_, ?_⟩
    · rw [passB, e, this.1]; simp
    · rw [List.foldl_cons, e, this.2]
theorem passB_append (ins : Bool) (a b : List UInt8) : passB ins (a ++ b) = (passB ins a && passB (a.foldl insN ins) b) := by
  induction a generalizing ins with
  | nil => simp [passB]
  | cons x a ih => rw [List.cons_append, passB, passB, ih, List.foldl_cons, Bool.and_assoc]
theorem ends_of {l : List UInt8} (h : 2 ≤ l.length) : l = l.getD 0 0 :: (mid l 1 (l.length - 1) ++ [l.getD (l.length - 1) 0]) := by
  cases l with
  | nil => simp at h
  | cons x l =>
    have hne : l ≠ [] := by intro e; subst e; simp at h
    have e1 : mid (x :: l) 1 ((x :: l).length - 1) = l.dropLast := by
      unfold mid; rw [List.dropLast_eq_take]; simp
    rw [e1]
    have e2 : (x :: l).getD ((x :: l).length - 1) 0 = l.getLast hne := by
      rw [List.getLast_eq_getElem, List.getD_eq_getElem?_getD]
      have hl : 0 < l.length := List.length_pos_iff.2 hne
      have : (x :: l).length - 1 = (l.length - 1) + 1 := by simp; omega
      rw [this, List.getElem?_cons_succ, List.getElem?_eq_getElem (by omega)]; rfl
    rw [e2, List.dropLast_concat_getLast hne]; rfl
theorem host_facts {l : List UInt8} (h : hostB l = true) : (∀ b ∈ l, hob b = true) ∧ passB false l = true ∧ l.foldl insN false = false ∧ lowL l = l := by
  have hok := hostB_ok h
  simp only [hostB, Bool.and_eq_true, decide_eq_true_eq, beq_iff_eq] at h
  obtain ⟨h1, h2, h3, h4⟩ := h
  by_cases hb : l.getD 0 0 = 91
  · rw [if_pos hb] at h4
    simp only [brkB, Bool.and_eq_true, decide_eq_true_eq, beq_iff_eq] at h4
    obtain ⟨h5, h6, h7, h8⟩ := h4
    have e := ends_of (l := l) (by omega)
    rw [hb, h6] at e
    generalize mid l 1 (l.length - 1) = m at e h7
    have hm : ∀ b ∈ m, okc b = true := by rwa [List.all_eq_true] at h7
    have hno : ∀ b : UInt8, okc b = true → b ≠ 91 ∧ b ≠ 93 := by
      apply byte_all; decide +kernel
    have hp := pass_in m (fun b hbm => hno b (hm b hbm))
    refine ⟨?_, ?_, ?_, h3⟩
    · rw [e]
      intro b hbm
      simp only [List.mem_cons, List.mem_append, List.not_mem_nil, or_false] at hbm
      rcases hbm with rfl | hbm | rfl
      · rfl
      · simp [hob, hm b hbm]
      · rfl
    · rw [e, passB, passB_append]
      show (_ && (passB true m && passB (m.foldl insN true) [93])) = true
      rw [hp.1, hp.2]; rfl
    · rw [e, List.foldl_cons, List.foldl_append]
      show ([93] : List UInt8).foldl insN (m.foldl insN true) = false
      rw [hp.2]; rfl
  · rw [if_neg hb] at h4
    rw [List.all_eq_true] at h4
    have hall : ∀ b ∈ l, b = 46 ∨ isB b.toNat 64 = true := by
      intro b hbm
      rcases splitL_mem (c := 46) hbm with h | ⟨p, hp, hbp⟩
      · exact .inl h
      · right
        have := h4 p hp
        simp only [labB, Bool.and_eq_true, allB, List.all_eq_true] at this
        exact this.2.1 b hbp
    have hno : ∀ b : UInt8, (b = 46 ∨ isB b.toNat 64 = true) → b ≠ 58 ∧ b ≠ 91 ∧ b ≠ 93 := by
      apply byte_all; decide +kernel
    have hp := pass_plain false l (fun b hbm => hno b (hall b hbm))
    refine ⟨?_, hp.1, hp.2, h3⟩
    intro b hbm
    rcases hall b hbm with rfl | h
    · rfl
    · simp [hob, h]

def portT (n : Int) : List UInt8 := if n = 0 then [] else [58] ++ digL n.toNat
theorem digL_mem {n : Nat} {b : UInt8} (h : b ∈ digL n) : isB b.toNat 1 = true := by
  have := digits_all n n (Nat.le_refl _)
  rw [allB, List.all_eq_true] at this
  exact this b h
theorem where_back {h : List UInt8} {n : Int} (hh : hostB (lowL h) = true) (h0 : 0 ≤ n) (h1 : n ≤ 65535) : whereV (h ++ portT n) = (lowL h, n, 0) := by
  obtain ⟨_, hp, hf, _⟩ := host_facts hh
  rw [passB_low] at hp
  rw [fold_low] at hf
  unfold portT
  by_cases hn : n = 0
  · subst hn
    have e : whereGo false h = h.length := by
      have := whereGo_pass false h [] hp
      rw [List.append_nil] at this
      rw [this]; simp [whereGo]
    rw [if_pos rfl, List.append_nil, whereV, e, List.take_length, if_pos hh, portV, if_pos rfl]
  · rw [if_neg hn]
    have e : whereGo false (h ++ ([58] ++ digL n.toNat)) = h.length := by
      rw [whereGo_pass false h _ hp, hf]; simp [whereGo]
    have hnum : numV 65535 (digL n.toNat) = (n, 0) := by
      have := numL_digits n.toNat n.toNat 65535 (Nat.le_refl _) (by omega)
      rw [numV, if_neg (by simp [digits_ne, digits_all n.toNat n.toNat (Nat.le_refl _)])]
      have e2 : ((65535 : Nat) : Int) = 65535 := rfl
      rw [← e2, this]
      have : ((n.toNat : Nat) : Int) = n := by omega
      simp [this]
    have ed : (h ++ ([58] ++ digL n.toNat)).drop (h.length + 1) = digL n.toNat := by
      rw [List.drop_append, List.drop_eq_nil_of_le (by omega)]; simp
    rw [whereV, e, List.take_left, if_pos hh, portV, ed, hnum, if_neg (by simp), if_neg (by simp [hn])]

theorem not_of_low {c : UInt8} {l m : List UInt8} (e : lowL l = m) (hc : ¬ (97 ≤ c.toNat ∧ c.toNat ≤ 122)) (hc2 : ¬ (65 ≤ c.toNat ∧ c.toNat ≤ 90)) (h : c ∉ m) : c ∉ l := by
  rw [← lowL_mem hc hc2, e]; exact h
theorem host_not {c : UInt8} {l : List UInt8} (h : hostB l = true) (hc : hob c = false) : c ∉ l := by
  intro hm; rw [(host_facts h).1 c hm] at hc; cases hc
theorem scheme_not {l : List UInt8} (h : schemeB l = true) : (58 : UInt8) ∉ l ∧ lowL l = l := by
  simp only [schemeB, Bool.or_eq_true, beq_iff_eq] at h
  rcases h with rfl | rfl | rfl <;> exact ⟨by decide, by decide⟩
theorem portT_not {n : Int} {c : UInt8} (h58 : c ≠ 58) (hd : isB c.toNat 1 = false) : c ∉ portT n := by
  unfold portT
  split
  · simp
  · intro h
    rw [List.singleton_append, List.mem_cons] at h
    rcases h with h | h
    · exact h58 h
    · rw [digL_mem h] at hd; cases hd
theorem parsT_not {ps : List Par} {c : UInt8} (h1 : c ≠ 59) (h2 : c ≠ 61) (h : okw paramsK c = false) : c ∉ parsT ps := by
  intro hm
  rcases parsT_mem hm with e | e | e
  · exact h1 e
  · exact h2 e
  · rw [h] at e; cases e
theorem hdrT_not {ps : List Par} {c : UInt8} (h0 : c ≠ 63) (h1 : c ≠ 38) (h2 : c ≠ 61) (h : okw headersK c = false) : c ∉ hdrT ps := by
  intro hm
  rcases hdrT_mem hm with e | e | e | e
  · exact h0 e
  · exact h1 e
  · exact h2 e
  · rw [h] at e; cases e

theorem rest_back {h : List UInt8} {n : Int} {ps hs : List Par} (hh : hostB (lowL h) = true) (h0 : 0 ≤ n) (h1 : n ≤ 65535) (hp : listB ps = true) (hq : listB hs = true) :
    restV (h ++ portT n ++ parsT ps ++ hdrT hs) = (⟨[], [], lowL h, n, ps, hs⟩, 0) := by
  have hps := (listB_ok hp).2
  have hqs := (listB_ok hq).2
  have a59 : (59 : UInt8) ∉ h ++ portT n := by
    rw [List.mem_append, not_or]
    exact ⟨not_of_low rfl (by decide) (by decide) (host_not hh (by decide +kernel)), portT_not (by decide) (by decide +kernel)⟩
  have a63 : (63 : UInt8) ∉ h ++ portT n ++ parsT ps := by
    rw [List.mem_append, List.mem_append, not_or, not_or]
    exact ⟨⟨not_of_low rfl (by decide) (by decide) (host_not hh (by decide +kernel)), portT_not (by decide) (by decide +kernel)⟩, parsT_not (by decide) (by decide) (by decide +kernel)⟩
  have hsp : splitL 59 (h ++ portT n ++ parsT ps) = (h ++ portT n) :: ps.map (pairV paramsK) := by
    rw [parsT_eq]
    apply splitL_many a59
    intro l hl
    obtain ⟨p, _, rfl⟩ := List.mem_map.1 hl
    exact pairV_not (by decide) (by decide +kernel)
  have hw := where_back hh h0 h1
  have hpp := pars_back (keep := paramsK) (by decide +kernel) ps hps
  cases hs with
  | nil =>
    have e : hdrT [] = [] := rfl
    rw [e, List.append_nil, restV, cutL_miss a63]
    simp only [hsp, List.headD_cons, List.tail_cons, hw, hpp]
    rfl
  | cons q qs =>
    have hcut : cutL 63 (h ++ portT n ++ parsT ps ++ hdrT (q :: qs)) = (h ++ portT n ++ parsT ps, pairV headersK q ++ (qs.map (pairV headersK)).flatMap fun l => [38] ++ l, true) := by
      rw [hdrT_cons, cutL_hit a63]
    have hsq : splitL 38 (pairV headersK q ++ (qs.map (pairV headersK)).flatMap fun l => [38] ++ l) = (q :: qs).map (pairV headersK) := by
      rw [splitL_many]
      · rfl
      · exact pairV_not (by decide) (by decide +kernel)
      · intro l hl
        obtain ⟨p, _, rfl⟩ := List.mem_map.1 hl
        exact pairV_not (by decide) (by decide +kernel)
    have hqq := pars_back (keep := headersK) (by decide +kernel) (q :: qs) hqs
    rw [restV, hcut]
    simp only [hsp, List.headD_cons, List.tail_cons, hw, hpp, headsV, if_true, hsq, hqq]
    rfl

def userT (l : List UInt8) : List UInt8 := if l = [] then [] else escL usersK l ++ [64]
theorem parse_of {u : Uri} {sch h : List UInt8} (hc : checkV u = 0) (e1 : lowL sch = u.scheme) (e2 : lowL h = u.host) :
    parseV (sch ++ [58] ++ userT u.user ++ h ++ portT u.port ++ parsT u.params ++ hdrT u.headers) = (u, 0) := by
  obtain ⟨c1, c2, c3, c4, c5, c6, c7, c8⟩ := check_ok hc
  have hh : hostB (lowL h) = true := by rw [e2]; exact c3
  have hrest := rest_back (h := h) hh c4 c5 c6 c7
  have a58 : (58 : UInt8) ∉ sch := not_of_low e1 (by decide) (by decide) (scheme_not c1).1
  have hcut : cutL 58 (sch ++ [58] ++ userT u.user ++ h ++ portT u.port ++ parsT u.params ++ hdrT u.headers) = (sch, userT u.user ++ (h ++ portT u.port ++ parsT u.params ++ hdrT u.headers), true) := by
    have : sch ++ [58] ++ userT u.user ++ h ++ portT u.port ++ parsT u.params ++ hdrT u.headers = sch ++ 58 :: (userT u.user ++ (h ++ portT u.port ++ parsT u.params ++ hdrT u.headers)) := by simp
    rw [this, cutL_hit a58]
  have huser : userV (userT u.user ++ (h ++ portT u.port ++ parsT u.params ++ hdrT u.headers)) = (u.user, h ++ portT u.port ++ parsT u.params ++ hdrT u.headers, 0) := by
    by_cases hu : u.user = []
    · have a64 : (64 : UInt8) ∉ h ++ portT u.port ++ parsT u.params ++ hdrT u.headers := by
        simp only [List.mem_append, not_or]
        exact ⟨⟨⟨not_of_low rfl (by decide) (by decide) (host_not hh (by decide +kernel)), portT_not (by decide) (by decide +kernel)⟩, parsT_not (by decide) (by decide) (by decide +kernel)⟩, hdrT_not (by decide) (by decide) (by decide) (by decide +kernel)⟩
      rw [userT, if_pos hu, List.nil_append, userV, cutL_miss a64, if_neg (by simp), hu]
    · rw [userT, if_neg hu, List.append_assoc, List.singleton_append, userV, cutL_hit (escL_not (by decide +kernel))]
      simp only [if_true, written_esc]
      rw [if_neg (by simp [hu]; omega)]
  rw [parseV, hcut]
  simp only [e1, c1, huser, hrest]
  rw [if_neg (by simp), if_neg (by simp), bothV, if_neg (by simp), endV]
  have : ({ (⟨[], [], lowL h, u.port, u.params, u.headers⟩ : Uri) with scheme := u.scheme, user := u.user } : Uri) = u := by
    cases u; simp only at e2 ⊢; rw [e2]
  rw [this, if_neg (by simp [hc])]
theorem parse_text {u : Uri} (hc : checkV u = 0) : parseV (textT u) = (u, 0) := by
  obtain ⟨c1, c2, c3, c4, c5, c6, c7, c8⟩ := check_ok hc
  have := parse_of hc (scheme_not c1).2 (host_facts c3).2.2.2
  have e : textT u = u.scheme ++ [58] ++ userT u.user ++ u.host ++ portT u.port ++ parsT u.params ++ hdrT u.headers := rfl
  rw [e, this]
theorem parse_checked {s : List UInt8} {u : Uri} (h : parseV s = (u, 0)) : checkV u = 0 := by
  unfold parseV at h
  split at h
  · have := congrArg Prod.snd h; simp at this
  split at h
  · rename_i h2; exact absurd (congrArg Prod.snd h) h2
  unfold bothV at h
  split at h
  · rename_i h2; exact absurd (congrArg Prod.snd h) h2
  unfold endV at h
  split at h
  · rename_i h2; exact absurd (congrArg Prod.snd h) h2
  · rename_i h2
    have := congrArg Prod.fst h
    simp only at this
    rw [← this]
    exact Classical.not_not.1 h2

end Go.Proofs.YtfdcklekjnihjabDoor
