/-
  Base texts, one behind another: SvC8, SvC9, SvC10, SvC11, SvC12, SvC13, SvC14.
-/
import Derived.Test.YtbnmdljlfldgoaaSA
import Derived.Test.YtbnmdljlfldgoaaRA

/-
  The table's Start.
-/
namespace Go.Proofs.Ytbnmdljlfldgoaa
open Go.RowKit Go.Maps Go.WideMaps
set_option linter.unusedVariables false
set_option maxRecDepth 20000
set_option linter.unusedSimpArgs false

/-- The table t lies at bt, its memory in blocks from B on. -/
def Tab (B bt : Nat) (w : World) (t : Tb) : Prop := TbOK t ∧ (∀ c ∈ t.l, SmallC c) ∧ ∃ mn ma be mw r, Sv B bt mn ma be mw w t.most t.last t.l r ∧ Ends t.l r
def startV (p : Int × Int) : Value := .tuple #[.int .i64 p.1, .int .i64 p.2]
section
variable {B bt : Nat} {w w' : World} {t : Tb}
theorem Tab.below (h : Tab B bt w t) (hb : Below w.heap.size w w') : Tab B bt w' t := by
  obtain ⟨h1, h2, mn, ma, be, mw, r, h3, h4⟩ := h
  exact ⟨h1, h2, mn, ma, be, mw, r, h3.below hb, h4⟩
theorem Tab.lo (h : Tab B bt w t) : B ≤ w.heap.size := by
  obtain ⟨h1, h2, mn, ma, be, mw, r, h3, h4⟩ := h
  exact h3.lo
theorem Tab.put (h : Tab B bt w t) {b : Nat} {e : TypeId} {us : List Value} (hr : RowIs w b e us) (n1 : e ≠ 89) (n2 : e ≠ 106) (n3 : e ≠ 97) (n4 : e ≠ 55) (hc : Chg (fun k => k = b) w w') : Tab B bt w' t := by
  obtain ⟨h1, h2, mn, ma, be, mw, r, h3, h4⟩ := h
  exact ⟨h1, h2, mn, ma, be, mw, r, h3.put hr n1 n2 n3 n4 hc, h4⟩
theorem TbOK.add (h : TbOK t) {br hop me : List UInt8} {now : Int} (hno : ∀ c ∈ t.l, ¬ (c.br = br ∧ c.hop = hop ∧ c.me = me)) (hf : ¬ t.most ≤ t.l.length) : TbOK ⟨t.most, t.last + 1, t.l ++ [newC t br hop me now]⟩ := by
  refine ⟨?_, ?_, ?_, ?_, h.most, by have := h.last; simp only; omega⟩
  · rw [List.pairwise_append]
    refine ⟨h.rise, by simp, fun a ha b hb => ?_⟩
    simp at hb; subst hb
    have := (h.pos a ha).2
    simp only [newC]; omega
  · intro c hc
    rcases List.mem_append.1 hc with hc | hc
    · have := h.pos c hc; simp only; omega
    · simp at hc; subst hc
      have := h.last
      simp only [newC]; omega
  · rw [List.pairwise_append]
    refine ⟨h.keys, by simp, fun a ha b hb => ?_⟩
    simp at hb; subst hb
    exact hno a ha
  · simp only [List.length_append, List.length_cons, List.length_nil]; omega
theorem newC_small {br hop me : List UInt8} {now : Int} (h1 : br.length ≤ 281474976710656) (h2 : hop.length ≤ 281474976710656) (h3 : me.length ≤ 281474976710656) (h0 : 0 ≤ t.last) (h9 : t.last ≤ 1000000000) : SmallC (newC t br hop me now) :=
  ⟨h1, h2, h3, by simp [newC], by simp [newC], by simp [newC, Lit.wf, IntKind.min, IntKind.max, IntKind.signed, IntKind.bits]; omega, fun _ => ⟨rfl, rfl⟩⟩
set_option maxHeartbeats 1000000 in
set_option maxRecDepth 100000 in
theorem start_any (h : Tab B bt w t) {br hop me : List UInt8} {now : Int} (h1 : br.length ≤ 281474976710656) (h2 : hop.length ≤ 281474976710656) (h3 : me.length ≤ 281474976710656) (h9 : t.last ≤ 1000000000) :
    Calls Try.prog 17 #[.pointer (some ⟨bt, 0, none⟩), .string ⟨br.toArray⟩, .string ⟨hop.toArray⟩, .string ⟨me.toArray⟩, .int .i64 now] w fun e w' => e = .returned (startV (startT t br hop me now).2) ∧ Tab B bt w' (startT t br hop me now).1 ∧ FrS B w w' := by
  have HT := hid h
  obtain ⟨hok, hsm, mn, ma, be, mw, r, hS, hE⟩ := h
  have KM := hid (smade_any hS)
  have KF := hid (sfind_any hS hsm h1 h2 h3)
  by_cases hb1 : now < 0
  · rw [start_arg (.inl hb1)]
    clear hS hE hsm hok
    go_enter Try.func17, Try.ntmps17
    go_wp2_with (go_at_call 25; refine KM.out.mono ?_; rintro e w9 ⟨rfl, hw9⟩; rw [hw9]; clear hw9)
    go_ret2
    exact ⟨rfl, HT.out, FrS.refl _ _⟩
  by_cases hb2 : 1099511627456 < now
  · rw [start_arg (.inr hb2)]
    clear hS hE hsm hok
    go_enter Try.func17, Try.ntmps17
    go_wp2_with (go_at_call 25; refine KM.out.mono ?_; rintro e w9 ⟨rfl, hw9⟩; rw [hw9]; clear hw9)
    go_ret2
    exact ⟨rfl, HT.out, FrS.refl _ _⟩
  have hnb : ¬ (now < 0 ∨ 1099511627456 < now) := by omega
  rcases find_two t.l br hop me with ⟨c, hc, _, ef⟩ | ⟨hno, ef⟩
  · rw [start_two hnb (by rw [ef])]
    rw [ef] at KF
    unfold findV at KF
    simp only at KF
    clear hS hE hsm hok hnb ef
    go_enter Try.func17, Try.ntmps17
    go_wp2_with (first
      | (go_at_call 25; refine KM.out.mono ?_; rintro e w9 ⟨rfl, hw9⟩; rw [hw9]; clear hw9)
      | (go_at_call 13; refine KF.out.mono ?_; rintro e w9 ⟨rfl, hw9⟩; rw [hw9]; clear hw9))
    go_ret2
    exact ⟨rfl, HT.out, FrS.refl _ _⟩
  have hnf : ¬ (findT t.l br hop me).2 = true := by rw [ef]; simp
  rw [ef] at KF
  unfold findV at KF
  simp only at KF
  have KL := hid (slen_any hS.drew)
  have c0 := cell_dr hS.c0
  by_cases hfu : t.most ≤ t.l.length
  · rw [start_full hnb hnf hfu]
    have hfu' : ((t.l.length : Int) < t.most) = False := by simp; omega
    have HB : Hid (Tab B bt w.drew t) := HT.out.below (Below.refl _ _).drew
    have hlo := hid hS.lo
    clear hS hE hsm hok hnb ef hnf
    go_enter Try.func17, Try.ntmps17
    go_wp2_with (first
      | (go_at_call 25; refine KM.out.mono ?_; rintro e w9 ⟨rfl, hw9⟩; rw [hw9]; clear hw9)
      | (go_at_call 13; refine KF.out.mono ?_; rintro e w9 ⟨rfl, hw9⟩; rw [hw9]; clear hw9))
    go_region_law (go_simp; go_at_call 12; refine KL.out.mono ?_; rintro e w9 ⟨rfl, hw9⟩; rw [hw9]; clear hw9)
    all_goals (
      go_wp2
      go_ret2
      exact ⟨rfl, HB.out, (FrS.refl _ _).drew⟩)
  · rw [start_new hnb hnf hfu]
    have h20 := hok.most.2
    have hlen : t.l.length ≤ 1000000 := by have := hok.len; omega
    have hrl : r.length < 4096 := by
      have := hE.length_eq
      rw [List.length_map] at this
      have := hok.len; omega
    have hid' : ∀ x ∈ t.l, x.id ≠ t.last + 1 := fun x hx => by have := (hok.pos x hx).2; omega
    have hnew := newC_small (t := t) (now := now) h1 h2 h3 hok.last h9
    have KK := hid (fun (u : World) => skeep_any u h1 h2 h3)
    have KB := hid (fun (u : World) (hu : Below w.drew.heap.size w.drew u) => sbegin_any (hS.drew.below hu) hsm (en := now + 320) hnew hno hid' hlen hok.last h9 (by omega) (by omega) hrl)
    have FIN : Hid (∀ u : World, Sv B bt mn ma be mw u t.most (t.last + 1) (t.l ++ [newC t br hop me now]) (setT r (t.last + 1) (now + 320)) → Tab B bt u ⟨t.most, t.last + 1, t.l ++ [newC t br hop me now]⟩) := fun u hu =>
      ⟨hok.add hno hfu, fun c hc => by
        rcases List.mem_append.1 hc with hc | hc
        · exact hsm c hc
        · simp at hc; subst hc; exact hnew, mn, ma, be, mw, _, hu, ends_set (c := newC t br hop me now) hE hid'⟩
    have hfu' : ((t.l.length : Int) < t.most) = True := by simp; omega
    have hlo := hid hS.lo
    have hfu2 : ¬ t.most ≤ (t.l.length : Int) := hfu
    have hnb1 : -9223372036854775808 ≤ now + 320 := by omega
    have hnb2 : now + 320 ≤ 9223372036854775807 := by omega
    unfold newC at KB
    clear hS hE hsm hok hnb ef hnf hno hid' hnew
    go_enter Try.func17, Try.ntmps17
    go_wp2_with (first
      | (go_at_call 25; refine KM.out.mono ?_; rintro e w9 ⟨rfl, hw9⟩; rw [hw9]; clear hw9)
      | (go_at_call 13; refine KF.out.mono ?_; rintro e w9 ⟨rfl, hw9⟩; rw [hw9]; clear hw9))
    go_region_law (go_simp; go_at_call 12; refine KL.out.mono ?_; rintro e w9 ⟨rfl, hw9⟩; rw [hw9]; clear hw9)
    all_goals (
      go_wp2_with (first
        | (go_at_call 29; refine (KK.out _).mono ?_; rintro e w1 ⟨rfl, hw1⟩; replace KB := hid (KB.out _ hw1); replace hw1 := hid hw1)
        | (go_at_call 28; refine KB.out.mono ?_; rintro e w2 ⟨rfl, hS2, hF2⟩; replace hS2 := hid hS2; replace hF2 := hid hF2))
      go_ret2
      exact ⟨rfl, FIN.out _ hS2.out, (((FrS.refl _ _).drew).trans (FrS.of hw1.out hlo.out)).trans hF2.out⟩)
end
end Go.Proofs.Ytbnmdljlfldgoaa

/-
  The table's Answer, Find, Cached and Len, from outside.
-/
namespace Go.Proofs.Ytbnmdljlfldgoaa
open Go.RowKit Go.Maps Go.WideMaps
set_option linter.unusedVariables false
set_option maxRecDepth 20000
set_option linter.unusedSimpArgs false

section
variable {B bt : Nat} {w w' : World} {t : Tb}
theorem tab_len (h : Tab B bt w t) : Calls Try.prog 12 #[.pointer (some ⟨bt, 0, none⟩)] w fun e w' => e = .returned (.int .i64 t.l.length) ∧ w' = w := by
  obtain ⟨hok, hsm, mn, ma, be, mw, r, hS, hE⟩ := h
  exact slen_any hS
theorem tab_find (h : Tab B bt w t) {br hop me : List UInt8} (h1 : br.length ≤ 281474976710656) (h2 : hop.length ≤ 281474976710656) (h3 : me.length ≤ 281474976710656) :
    Calls Try.prog 13 #[.pointer (some ⟨bt, 0, none⟩), .string ⟨br.toArray⟩, .string ⟨hop.toArray⟩, .string ⟨me.toArray⟩] w fun e w' => e = .returned (findV (findT t.l br hop me)) ∧ w' = w := by
  obtain ⟨hok, hsm, mn, ma, be, mw, r, hS, hE⟩ := h
  exact sfind_any hS hsm h1 h2 h3
theorem tab_cached (h : Tab B bt w t) {id : Int} (hwf : (Lit.int .i64 id).wf = true) :
    Calls Try.prog 15 #[.pointer (some ⟨bt, 0, none⟩), .int .i64 id] w fun e w' => e = .returned (cachedV (cachedT t id)) ∧ Below w.heap.size w w' := by
  obtain ⟨hok, hsm, mn, ma, be, mw, r, hS, hE⟩ := h
  exact scached_any hS hsm hwf
theorem TbOK.tell (h : TbOK t) {k : Nat} (hk : k < t.l.length) (to tx : List UInt8) : TbOK ⟨t.most, t.last, t.l.set k (tellC t.l[k] to tx)⟩ := by
  have key : ∀ i (hi : i < (t.l.set k (tellC t.l[k] to tx)).length), (t.l.set k (tellC t.l[k] to tx))[i].id = (t.l[i]'(by simpa using hi)).id ∧ (t.l.set k (tellC t.l[k] to tx))[i].br = (t.l[i]'(by simpa using hi)).br ∧ (t.l.set k (tellC t.l[k] to tx))[i].hop = (t.l[i]'(by simpa using hi)).hop ∧ (t.l.set k (tellC t.l[k] to tx))[i].me = (t.l[i]'(by simpa using hi)).me := fun i hi => by
    by_cases e : k = i
    · subst e; simp [tellC]
    · rw [List.getElem_set_ne e]; exact ⟨rfl, rfl, rfl, rfl⟩
  refine ⟨?_, ?_, ?_, by simpa using h.len, h.most, h.last⟩
  · rw [List.pairwise_iff_getElem]
    intro i j hi hj hij
    have := List.pairwise_iff_getElem.1 h.rise i j (by simpa using hi) (by simpa using hj) hij
    simp only at hi hj ⊢
    rw [(key i hi).1, (key j hj).1]; exact this
  · intro c hc
    obtain ⟨i, hi, rfl⟩ := List.mem_iff_getElem.1 hc
    simp only at hi ⊢
    rw [(key i hi).1]
    exact h.pos _ (List.getElem_mem _)
  · rw [List.pairwise_iff_getElem]
    intro i j hi hj hij
    have := List.pairwise_iff_getElem.1 h.keys i j (by simpa using hi) (by simpa using hj) hij
    simp only at hi hj ⊢
    obtain ⟨_, a1, a2, a3⟩ := key i hi
    obtain ⟨_, b1, b2, b3⟩ := key j hj
    rw [a1, a2, a3, b1, b2, b3]; exact this
theorem answer_any (h : Tab B bt w t) {id : Int} (hwf : (Lit.int .i64 id).wf = true) {to tx : List UInt8} (h1 : to.length ≤ 281474976710656) (h2 : tx.length ≤ 281474976710656) :
    Calls Try.prog 18 #[.pointer (some ⟨bt, 0, none⟩), .int .i64 id, sentV (to, tx)] w fun e w' => e = ErrR (answerT t id to tx).2 ∧ Tab B bt w' (answerT t id to tx).1 ∧ FrS B w w' := by
  have HT := h
  obtain ⟨hok, hsm, mn, ma, be, mw, r, hS, hE⟩ := h
  have hlen : t.l.length ≤ 1000000 := by have := hok.len; have := hok.most.2; omega
  have old : ∀ u, Below w.heap.size w u → Tab B bt u t ∧ FrS B w u := fun u hu => ⟨HT.below hu, FrS.of hu hS.lo⟩
  rcases place_two t.l id with ⟨_, hf, hi⟩ | ⟨k, hk, _, hf, hi⟩
  · rw [ans_none hi]
    have hno : ∀ c ∈ t.l, c.id ≠ id := fun c hc => by have := List.find?_eq_none.1 hf c hc; simpa using this
    exact sanswer_of hS (x := zeroC) (ok := false) h1 h2 (fun u hu => (hu.lookA_no hwf hno).1) (fun u => Tab B bt u t ∧ FrS B w u) 6 rfl (fun _ => old) (fun e => absurd e (by decide))
  · have hid' : t.l[k].id = id := by have := List.find?_some hf; simpa using this
    subst hid'
    have hm : t.l[k] ∈ t.l := List.getElem_mem hk
    have hs := hsm _ hm
    have hdis : ∀ j (hj : j < t.l.length), j ≠ k → t.l[j].id ≠ t.l[k].id := fun j hj hne => by
      have hP := List.pairwise_iff_getElem.1 hok.rise
      rcases Nat.lt_or_gt_of_ne hne with x | x
      · have := hP j k hj hk x; omega
      · have := hP k j hk hj x; omega
    cases ht : t.l[k].told
    · rw [ans_new hk hi ht]
      refine sanswer_of hS (x := t.l[k]) (ok := true) h1 h2 (fun u hu => (hu.lookA hm hs).1) (fun u => Tab B bt u ⟨t.most, t.last, t.l.set k (tellC t.l[k] to tx)⟩ ∧ FrS B w u) 0 (by rw [ht]; rfl) (fun e => absurd rfl e) (fun _ u hu hb => ?_)
      obtain ⟨u', hrun, g1, g2⟩ := hu.tell (to := to) (tx := tx) hk hs hdis hlen
      refine ⟨u', hrun, ⟨hok.tell hk to tx, fun c hc => ?_, mn, ma, be, mw, r, g1, ends_tell hE hk rfl⟩, (FrS.of hb hS.lo).trans g2⟩
      simp only at hc
      rcases List.mem_or_eq_of_mem_set hc with hc | rfl
      · exact hsm c hc
      · exact ⟨hs.br, hs.hop, hs.me, h1, h2, hs.id, fun e => by simp [tellC] at e⟩
    · rw [ans_told hk hi ht]
      exact sanswer_of hS (x := t.l[k]) (ok := true) h1 h2 (fun u hu => (hu.lookA hm hs).1) (fun u => Tab B bt u t ∧ FrS B w u) 7 (by rw [ht]; rfl) (fun _ => old) (fun e => absurd e (by decide))
end
end Go.Proofs.Ytbnmdljlfldgoaa

/-
  The table's end.
-/
namespace Go.Proofs.Ytbnmdljlfldgoaa
open Go.RowKit Go.Maps Go.WideMaps
set_option linter.unusedVariables false
set_option maxRecDepth 20000
set_option linter.unusedSimpArgs false

section
variable {B bt mn ma be mw : Nat} {w w' : World} {most last : Int} {l la : List Cl} {r : List Tm}
theorem filter_one {l : List Cl} {k : Nat} (hk : k < l.length) {p : Cl → Bool} (hp : ∀ j (hj : j < l.length), p l[j] = true ↔ j ≠ k) : (l.filter p).length + 1 = l.length := by
  induction l generalizing k with
  | nil => simp at hk
  | cons a l ih =>
    cases k with
    | zero =>
      have h0 : p a = false := by
        have := hp 0 (by simp)
        simp only [List.getElem_cons_zero, ne_eq, not_true_eq_false, iff_false] at this
        simpa using this
      have h1 : l.filter p = l := List.filter_eq_self.2 fun c hc => by
        obtain ⟨j, hj, rfl⟩ := List.mem_iff_getElem.1 hc
        have := (hp (j + 1) (by simpa using hj)).2 (by omega)
        simpa using this
      simp [h0, h1]
    | succ k =>
      have h0 : p a = true := (hp 0 (by simp)).2 (by omega)
      have := ih (k := k) (by simpa using hk) fun j hj => by
        have := hp (j + 1) (by simpa using hj)
        simp only [List.getElem_cons_succ] at this
        rw [this]; omega
      rw [List.filter_cons_of_pos h0, List.length_cons, List.length_cons]
      omega
theorem field_key (c : Cl) (u : World) : (Instr.field 73 (trV c) 0).run Try.prog u = .ok (keyV c.br c.hop c.me) u := by kernel_rfl
def notId (n : Int) (c : Cl) : Bool := !decide (c.id = n)
theorem notId_at {l : List Cl} (hr : l.Pairwise fun a b => a.id < b.id) {k : Nat} (hk : k < l.length) : ∀ j (hj : j < l.length), notId l[k].id l[j] = true ↔ j ≠ k := fun j hj => by
  have hP := List.pairwise_iff_getElem.1 hr
  simp only [notId, Bool.not_eq_true', decide_eq_false_iff_not]
  constructor
  · rintro h rfl; exact h rfl
  · intro hne
    rcases Nat.lt_or_gt_of_ne hne with x | x
    · have := hP j k hj hk x; omega
    · have := hP k j hk hj x; omega
theorem Sv2.dropN (h : Sv2 B bt mn ma be mw w most last l la r) (hl : ∀ c ∈ l, SmallC c) (hr : l.Pairwise fun a b => a.id < b.id) (hkey : l.Pairwise fun a b => ¬ (a.br = b.br ∧ a.hop = b.hop ∧ a.me = b.me)) {c : Cl} (hc : c ∈ l) (ty : TypeId) :
    ∃ w', (Builtin.delete_ #[51, 69] ty #[.map (some mn), keyV c.br c.hop c.me]).run Try.prog w = .ok (.tuple #[]) w' ∧ Sv2 B bt mn ma be mw w' most last (l.filter (notId c.id)) la r ∧ FrS B w w' := by
  obtain ⟨D, h1, h2⟩ := h.num
  have hs := hl c hc
  obtain ⟨w', hrun, g1, g2⟩ := h1.drop keyK Try.underlying51 (key3 hs.br hs.hop hs.me) ty
  refine ⟨w', hrun, ?_, FrS.turn h1 g2.grown h.ln⟩
  obtain ⟨k, hk, rfl⟩ := List.mem_iff_getElem.1 hc
  have hM : MpC kN dN (l.filter (notId l[k].id)) (D.del (kN3 l[k].br l[k].hop l[k].me)) := h2.del (h1.tidy keyK) hc (fun x hx => by
    obtain ⟨j, hj, rfl⟩ := List.mem_iff_getElem.1 hx
    rw [notId_at hr hk j hj, ne_eq, ne_eq, kN_inj (hl _ hx) hs]
    have hP := List.pairwise_iff_getElem.1 hkey
    constructor
    · intro hne e
      rcases Nat.lt_or_gt_of_ne hne with x | x
      · exact hP j k hj hk x e
      · exact hP k j hk hj x ⟨e.1.symm, e.2.1.symm, e.2.2.symm⟩
    · rintro e rfl; exact e ⟨rfl, rfl, rfl⟩) (filter_one hk (notId_at hr hk))
  have g1' := own_tight g1
  rw [hM.size] at g1'
  exact h.mapN g2.grown ⟨_, g1', hM⟩
theorem Sv2.dropA (h : Sv2 B bt mn ma be mw w most last l la r) (hr : la.Pairwise fun a b => a.id < b.id) {c : Cl} (hc : c ∈ la) (hs : SmallC c) (ty : TypeId) :
    ∃ w', (Builtin.delete_ #[52, 3] ty #[.map (some ma), .int .i64 c.id]).run Try.prog w = .ok (.tuple #[]) w' ∧ Sv2 B bt mn ma be mw w' most last l (la.filter (notId c.id)) r ∧ FrS B w w' := by
  obtain ⟨D, h1, h2⟩ := h.all
  obtain ⟨w', hrun, g1, g2⟩ := h1.drop keyI Try.underlying52 (key_int hs.id) ty
  refine ⟨w', hrun, ?_, FrS.turn h1 g2.grown h.lm⟩
  obtain ⟨k, hk, rfl⟩ := List.mem_iff_getElem.1 hc
  have hM : MpC kA trD (la.filter (notId la[k].id)) (D.del (idK la[k].id)) := h2.del (h1.tidy keyI) hc (fun x hx => by
    obtain ⟨j, hj, rfl⟩ := List.mem_iff_getElem.1 hx
    rw [ne_eq, kA_inj]
    simp [notId]) (filter_one hk (notId_at hr hk))
  have g1' := own_tight g1
  rw [hM.size] at g1'
  exact h.mapA g2.grown ⟨_, g1', hM⟩
set_option maxHeartbeats 1000000 in
set_option maxRecDepth 100000 in
theorem send_any (h : Sv B bt mn ma be mw w most last l r) (hl : ∀ c ∈ l, SmallC c) (hr : l.Pairwise fun a b => a.id < b.id) (hkey : l.Pairwise fun a b => ¬ (a.br = b.br ∧ a.hop = b.hop ∧ a.me = b.me)) {c : Cl} (hc : c ∈ l) :
    Calls Try.prog 31 #[.pointer (some ⟨bt, 0, none⟩), .int .i64 c.id] w fun e w' => e = .returned (.tuple #[]) ∧ Sv B bt mn ma be mw w' most last (l.filter (notId c.id)) r ∧ FrS B w w' := by
  have hs := hl c hc
  have hlk := (h.drew.lookA hc hs).2
  have c2 := cell_dr h.c2
  have c3 := cell_dr h.c3
  obtain ⟨w1, hr1, S1, F1⟩ := h.drew.dropN hl hr hkey hc 0
  have d3 := S1.c3
  obtain ⟨w2, hr2, S2, F2⟩ := S1.dropA hr hc hs 0
  have HE : Hid (Sv B bt mn ma be mw w2 most last (l.filter (notId c.id)) r ∧ FrS B w w2) := ⟨S2, ((FrS.refl B w).drew.trans F1).trans F2⟩
  have hfk := field_key c
  unfold trV at hlk
  unfold trV keyV at hfk
  unfold keyV at hr1
  clear h hl hr hkey S1 S2 F1 F2 hs hc
  go_enter Try.func31, Try.ntmps31
  go_wp2
  go_region
  all_goals (
    go_wp2
    go_end0
    exact ⟨rfl, HE.out⟩)
end
end Go.Proofs.Ytbnmdljlfldgoaa

/-
  The table's Expire, Go's sort being handed in.
-/
namespace Go.Proofs.Ytbnmdljlfldgoaa
open Go.RowKit Go.Maps Go.WideMaps
set_option linter.unusedVariables false
set_option maxRecDepth 20000
set_option linter.unusedSimpArgs false

/-- What Go's sort does with a row of numbers of the call's own. -/
def SortI : Prop := ∀ (u : World) (B : Nat) (v : Value) (xs : List Int), Own u B 3 v (idCells xs) → xs.length ≤ 1000000 →
  Calls Try.prog 32 #[v] u fun e u' => e = .returned (.tuple #[]) ∧ Own u' B 3 v (idCells (sortI xs)) ∧ u.grownBy u' v.ownBlock
theorem behind_step (l : List Cl) {ds : List Tm} {k : Nat} (hk : k < ds.length) : behind l (ds.take (k + 1)) = (behind l (ds.take k)).filter (notId ds[k].2) := by
  unfold behind
  rw [List.filter_filter]
  apply List.filter_congr
  intro c _
  rw [List.take_succ_eq_append_getElem hk, List.map_append, Bool.eq_iff_iff]
  simp [notId, Bool.and_comm, not_or, and_comm]
theorem behind_mem {l : List Cl} {ds : List Tm} {now : Int} (hp : ds.Perm ((l.filter (overC now)).map endC)) (hd : ds.Pairwise fun a b => a.2 ≠ b.2) {k : Nat} (hk : k < ds.length) : ∃ c ∈ behind l (ds.take k), c.id = ds[k].2 := by
  obtain ⟨c, hc, e⟩ := List.mem_map.1 (hp.mem_iff.1 (List.getElem_mem hk))
  have hid : c.id = ds[k].2 := by rw [← e]; rfl
  refine ⟨c, List.mem_filter.2 ⟨(List.mem_filter.1 hc).1, ?_⟩, hid⟩
  simp only [Bool.not_eq_true', List.contains_eq_mem, decide_eq_false_iff_not, List.mem_map]
  rintro ⟨t, ht, et⟩
  obtain ⟨j, hj, rfl⟩ := List.mem_iff_getElem.1 ht
  rw [List.length_take] at hj
  rw [List.getElem_take] at et
  exact List.pairwise_iff_getElem.1 hd j k (by omega) hk (by omega) (by rw [et, hid])
theorem due_ids {r : List Tm} (h : Row9 r) (now : Int) : (dueT r now).Pairwise fun a b => a.2 ≠ b.2 := by
  rw [(due_filter h now).1]; exact h.ids.filter _
theorem own_tm {w : World} {B : Nat} {oa : Option Addr} {n cap : Nat} {ts : List Tm} (h : OwnT w B (.slice oa n cap) ts) {k : Nat} (hk : k < ts.length) : ∃ g, oa = some ⟨g, 0, none⟩ ∧ w.cell? ⟨g, k * 2, none⟩ = some (.int .i64 ts[k].1) ∧ w.cell? ⟨g, k * 2 + 1, none⟩ = some (.int .i64 ts[k].2) := by
  rcases h.2 with ⟨hv, hn⟩ | ⟨g, c', cur, hv, _⟩
  · have : ts = [] := List.eq_nil_of_length_eq_zero hn
    subst this; simp at hk
  · injection hv with h1 h2 h3
    subst h1
    have e : ∀ j, (⟨g, 0, none⟩ : Addr).add j = ⟨g, j, none⟩ := fun j => by unfold Addr.add; split <;> simp_all
    obtain ⟨c0, c1⟩ := tmsCells_get ts k hk
    have a0 := World.ownsRow.cells h (g := g) rfl _ _ c0
    have a1 := World.ownsRow.cells h (g := g) rfl _ _ c1
    rw [e] at a0 a1
    exact ⟨g, rfl, a0, a1⟩
section
variable {B bt mn ma be mw : Nat} {w w' : World} {most last : Int} {l la : List Cl} {r : List Tm}
theorem Sv2.grown (h : Sv2 B bt mn ma be mw w most last l la r) {B' e s n : Nat} {v : Value} {xs : List Value} (ho : w.ownsRow B' e s v n xs) (n1 : e ≠ 89) (n2 : e ≠ 106) (n3 : e ≠ 97) (n4 : e ≠ 55) (hg : w.grownBy w' v.ownBlock) : Sv2 B bt mn ma be mw w' most last l la r := by
  refine h.chg (S := fun k => v.ownBlock = some k) ⟨hg.os, hg.tape, hg.output, hg.size, fun k hk hn => hg.block k hk fun e => hn e.symm⟩ fun k _ _ hS => ?_
  rcases ho.2 with ⟨rfl, _⟩ | ⟨g, cap, cur, rfl, _, hh, _⟩
  · cases hS
  · simp [Value.ownBlock] at hS
    subst hS
    exact ⟨_, _, _, hh, n1, n2, n3, n4⟩
theorem FrS.grown {u u' : World} (h : FrS B w u) {e s n : Nat} {v : Value} {xs : List Value} (ho : u.ownsRow w.heap.size e s v n xs) (hB : B ≤ w.heap.size) (hg : u.grownBy u' v.ownBlock) : FrS B w u' := by
  have hno : ∀ k, k < w.heap.size → some k ≠ v.ownBlock := fun k hk e => by
    rcases ho.2 with ⟨rfl, _⟩ | ⟨g, cap, cur, rfl, hl, _⟩
    · cases e
    · simp [Value.ownBlock] at e; omega
  refine ⟨⟨hg.os.trans h.below.os, hg.tape.trans h.below.tape, hg.output.trans h.below.output, Nat.le_trans h.below.size hg.size, fun k hk => ?_⟩, fun k cs e x hh n1 n2 n3 n4 => ?_⟩
  · rw [hg.block k (by have := h.below.size; omega) (hno k (by omega))]; exact h.below.block k hk
  · have hk := (Array.getElem?_eq_some_iff.1 hh).1
    rw [hg.block k (by have := h.below.size; omega) (hno k hk)]; exact h.keep k cs e x hh n1 n2 n3 n4
/-- Where Expire stands behind k of those that are over. -/
structure Ex (B bt mn ma be mw : Nat) (w : World) (most last : Int) (l : List Cl) (ds : List Tm) (rr : List Tm) (va : Value) (k : Nat) (vo : Value) (wr : World) : Prop where
  sv : Sv B bt mn ma be mw wr most last (behind l (ds.take k)) rr
  own : Own wr w.heap.size 3 vo (idCells ((ds.take k).map Prod.snd))
  fr : FrS B w wr
  due : OwnT wr w.heap.size va ds
  lo : w.heap.size ≤ wr.heap.size
theorem Ex.new {ds rr : List Tm} {va vo : Value} {k : Nat} {wr : World} (h : Ex B bt mn ma be mw w most last l ds rr va k vo wr) (o : Obj) : Ex B bt mn ma be mw w most last l ds rr va k vo (wr.alloc o) :=
  ⟨h.sv.new o, h.own.alloc o, h.fr.trans (FrS.of ((Below.refl _ _).alloc (Nat.le_refl _) o) h.sv.lo), h.due.alloc o, Nat.le_trans h.lo (by simp)⟩
/-- The one at k has been ended. -/
theorem Ex.ended {ds rr : List Tm} {va vo : Value} {k : Nat} {wr w2 : World} {hk : k < ds.length} (h : Ex B bt mn ma be mw w most last l ds rr va k vo wr) (hs : Sv B bt mn ma be mw w2 most last (behind l (ds.take (k + 1))) rr) (hf : FrS B wr w2) :
    Own w2 w.heap.size 3 vo (idCells ((ds.take k).map Prod.snd)) ∧ FrS B w w2 ∧ OwnT w2 w.heap.size va ds ∧ w.heap.size ≤ w2.heap.size :=
  ⟨hf.own h.own (by decide) (by decide) (by decide) (by decide), h.fr.trans hf, hf.own h.due (by decide) (by decide) (by decide) (by decide), Nat.le_trans h.lo hf.below.size⟩
/-- .. and its number told. -/
theorem Ex.told {ds rr : List Tm} {va vo vo' : Value} {k : Nat} {w2 w4 : World} {o : Obj} (hk : k < ds.length) (hs : Sv B bt mn ma be mw w2 most last (behind l (ds.take (k + 1))) rr)
    (h2 : Own w2 w.heap.size 3 vo (idCells ((ds.take k).map Prod.snd)) ∧ FrS B w w2 ∧ OwnT w2 w.heap.size va ds ∧ w.heap.size ≤ w2.heap.size) (hB : B ≤ w.heap.size)
    (h4 : Own w4 w.heap.size 3 vo' (idCells ((ds.take k).map Prod.snd ++ [ds[k].2]))) (hg : (w2.alloc o).grownBy w4 vo.ownBlock) : Ex B bt mn ma be mw w most last l ds rr va (k + 1) vo' w4 := by
  obtain ⟨a1, a2, a3, a4⟩ := h2
  have b1 := a1.alloc o
  have b2 := a2.trans (FrS.of (hB := hs.lo) ((Below.refl _ _).alloc (Nat.le_refl _) o))
  refine ⟨(hs.new o).grown b1 (by decide) (by decide) (by decide) (by decide) hg, ?_, b2.grown b1 hB hg, World.ownsRow.kept (a3.alloc o) hg (sv_rows_ne b1 (a3.alloc o) (by decide)), Nat.le_trans a4 (Nat.le_trans (by simp) hg.size)⟩
  rw [List.take_succ_eq_append_getElem hk, List.map_append]
  exact h4
end
end Go.Proofs.Ytbnmdljlfldgoaa

/-
  The table's Expire: the walk.
-/
namespace Go.Proofs.Ytbnmdljlfldgoaa
open Go.RowKit Go.Maps Go.WideMaps
set_option linter.unusedVariables false
set_option maxRecDepth 20000
set_option linter.unusedSimpArgs false

section
variable {B bt mn ma be mw : Nat} {w w' : World} {most last : Int} {l la : List Cl} {r : List Tm}
set_option maxHeartbeats 1000000 in
set_option maxRecDepth 100000 in
theorem sexpire_of (SO : SortI) (h : Sv B bt mn ma be mw w most last l r) (hl : ∀ c ∈ l, SmallC c) (hr : l.Pairwise fun a b => a.id < b.id) (hkey : l.Pairwise fun a b => ¬ (a.br = b.br ∧ a.hop = b.hop ∧ a.me = b.me)) (hE : Ends l r) {now : Int} :
    Calls Try.prog 19 #[.pointer (some ⟨bt, 0, none⟩), .int .i64 now] w fun e w' => ∃ v, e = .returned v ∧ Own w' w.heap.size 3 v (idCells (goneC l now)) ∧ Sv B bt mn ma be mw w' most last (leftC l now) (leftT r now) ∧ FrS B w w' := by
  obtain ⟨i1, hj, hy0, hy1, hy2⟩ := info_parts infoId
  have hrow := h.wheel.row
  obtain ⟨hp, _⟩ := ends_due hE hrow.1 now
  have hdi := due_ids hrow.1 now
  have hlen : (dueT r now).length ≤ 4096 := Nat.le_trans (by rw [(due_filter hrow.1 now).1]; exact List.length_filter_le _ _) hrow.2
  have KM := hid (smade_any h)
  have KD := hid (wmdue_any h.wheel (now := now))
  have c4 := h.c4
  have hB := h.lo
  have EX0 : Hid (∀ (u : World) (va : Value), OwnT u w.heap.size va (dueT r now) → WWm mw B be u (leftT r now) → FrM mw B w u → Ex B bt mn ma be mw w most last l (dueT r now) (leftT r now) va 0 (.slice none 0 0) u) := fun u va ho hw hf =>
    ⟨by rw [List.take_zero, behind_nil]; exact h.turnW hw hf, Own.nil _ _ _, hf.frs, ho, hf.fr.below.size⟩
  have KE : Hid (∀ (k : Nat) (hk : k < (dueT r now).length) (u : World), Sv B bt mn ma be mw u most last (behind l ((dueT r now).take k)) (leftT r now) →
      Calls Try.prog 31 #[.pointer (some ⟨bt, 0, none⟩), .int .i64 (dueT r now)[k].2] u fun e w' => e = .returned (.tuple #[]) ∧ Sv B bt mn ma be mw w' most last (behind l ((dueT r now).take (k + 1))) (leftT r now) ∧ FrS B u w') := fun k hk u hu => by
    obtain ⟨c, hc, e⟩ := behind_mem hp hdi hk
    rw [← e, behind_step l hk, ← e]
    exact send_any hu (fun x hx => hl x (List.mem_filter.1 hx).1) (hr.filter _) (hkey.filter _) hc
  have FIN : Hid (behind l (dueT r now) = leftC l now ∧ sortI ((dueT r now).map Prod.snd) = goneC l now) := ⟨behind_all hr hp, sort_gone hr hp⟩
  generalize dueT r now = ds at *
  generalize leftT r now = rr at *
  clear h hl hr hkey hE hp hdi hrow
  go_enter Try.func19, Try.ntmps19
  go_wp2_with (go_at_call 25; refine KM.out.mono ?_; rintro e w9 ⟨rfl, hw9⟩; rw [hw9]; clear hw9)
  refine KD.out.mono ?_
  rintro e w1 ⟨va, rfl, ho1, hw1, hf1⟩
  have X0 := hid (EX0.out w1 va ho1 hw1 hf1)
  obtain ⟨oa, cap, rfl⟩ := ho1.form
  clear ho1 hw1 hf1 EX0 KD KM
  obtain ⟨n, hnn⟩ : ∃ n, n = ds.length := ⟨_, rfl⟩
  rw [← hnn] at X0 hlen ⊢
  have HN := hid hnn
  clear hnn
  go_wp2
  go_loopw [18, 5] (fun i vo wr => ∃ k : Nat, k ≤ n ∧ i = .int .i64 k ∧ Hid (Ex B bt mn ma be mw w most last l ds rr (.slice oa n cap) k vo wr)) (fun i _ _ => n - (intOf i).toNat)
  case atStart => exact ⟨0, by omega, rfl, X0⟩
  case round =>
    obtain ⟨k, hk, rfl, hM⟩ := hrel
    by_cases hlt : k < n
    · have hlt' : (k : Int) < n := by omega
      have hkd : k < ds.length := by rw [← HN.out]; exact hlt
      obtain ⟨g, hoa, t0, t1⟩ := own_tm hM.out.due hkd
      subst hoa
      obtain ⟨vg, vc, hvo⟩ := hM.out.own.form
      have KE' := hid (fun u hu => KE.out k hkd u hu)
      have TOLD := hid (fun (vo vo' : Value) (w2 w4 : World) (o : Obj) x y z1 z2 => Ex.told (w := w) (l := l) (va := .slice (some ⟨g, 0, none⟩) n cap) (vo := vo) (vo' := vo') (w2 := w2) (w4 := w4) (o := o) (B := B) (bt := bt) (mn := mn) (ma := ma) (be := be) (mw := mw) (most := most) (last := last) (rr := rr) hkd x y hB z1 z2)
      have X2 := hid (fun (o : Obj) => hM.out.new o)
      have hR0 := hid (sv_row2 wr (.int .i64 ds[k].1) (.int .i64 ds[k].2) 82)
      have XE := hid (fun (w2 : World) (o : Obj) x y => Ex.ended (hk := hkd) (hM.out.new o) (w2 := w2) x y)
      have hll : ((ds.take k).map Prod.snd).length ≤ 4000000 := by simp; omega
      generalize hd : ds[k] = d at *
      generalize (ds.take k).map Prod.snd = G0 at *
      obtain ⟨d1, d2⟩ := d
      simp only at t0 t1 KE' TOLD hR0
      have hGl : (idCells G0).length = G0.length := by simp [idCells]
      rw [hGl] at hvo
      subst hvo
      have hlw : w.heap.size ≤ wr.heap.size := hM.out.lo
      go_wp2_with (first
        | (go_at_call 31; refine (KE'.out _ (X2.out _).sv).mono ?_; rintro e w3 ⟨rfl, hs3, hf3⟩; have hr3 := hf3.row hR0.out (by decide) (by decide) (by decide) (by decide); obtain ⟨b0, b1, _, _⟩ := hr3.sv2; have Y3 := hid (XE.out w3 _ hs3 hf3); replace hs3 := hid hs3; clear hr3 hf3)
        | (at_builtin; refine wp_appIs _ rfl (.tmp 26) (.tmp 29) 47 rfl w.heap.size i1 _ Try.underlying47 hj hy0 hy1 hy2 rfl _ G0 rfl (Y3.out.1.alloc _) ⟨_, 0, none⟩ 1 d2 rfl (one_new _ _ _ 0 _ rfl) hll (Nat.le_trans Y3.out.2.2.2 (by simp)) ?_; intro v4 w4 hown4 hgr4; have M4 := hid (TOLD.out _ _ _ _ _ hs3.out Y3.out hown4 hgr4); clear hown4 hgr4))
      go_roundw
      case rel => exact ⟨k + 1, by omega, by go_num, M4⟩
      case measure => simp [intOf]; omega
    · have hlt' : ¬ ((k : Int) < n) := by omega
      have hkn : k = n := by omega
      have hM' := hM.out
      rw [hkn, HN.out] at hM'
      have hown := hM'.own
      rw [List.take_length] at hown
      have KS := hid (SO _ _ _ _ hown (by rw [List.length_map, ← HN.out]; omega))
      rw [FIN.out.2] at KS
      have hsv := hM'.sv
      rw [List.take_length, FIN.out.1] at hsv
      have FI := hid (fun (u : World) (hg : wr.grownBy u _) => (⟨hsv.grown hown (by decide) (by decide) (by decide) (by decide) hg, hM'.fr.grown hown hB hg⟩ : Sv B bt mn ma be mw u most last (leftC l now) rr ∧ FrS B w u))
      clear hM' hsv hown
      go_wp2_with (go_at_call 32; refine KS.out.mono ?_; rintro e w5 ⟨rfl, ho5, hg5⟩)
      go_ret
      exact ⟨_, rfl, ho5, FI.out _ hg5⟩
end
end Go.Proofs.Ytbnmdljlfldgoaa

/-
  The table's Expire from outside, and New.
-/
namespace Go.Proofs.Ytbnmdljlfldgoaa
open Go.RowKit Go.Maps Go.WideMaps
set_option linter.unusedVariables false
set_option maxRecDepth 20000
set_option linter.unusedSimpArgs false

section
variable {B bt : Nat} {w w' : World} {t : Tb}
theorem TbOK.left (h : TbOK t) (now : Int) : TbOK (expireT t now).1 := by
  refine ⟨h.rise.filter _, fun c hc => h.pos c (List.mem_filter.1 hc).1, h.keys.filter _, ?_, h.most, h.last⟩
  have h1 : (expireT t now).1.l.length ≤ t.l.length := List.length_filter_le _ _
  have := h.len
  have e : (expireT t now).1.most = t.most := rfl
  rw [e]; omega
theorem expire_any (SO : SortI) (h : Tab B bt w t) {now : Int} :
    Calls Try.prog 19 #[.pointer (some ⟨bt, 0, none⟩), .int .i64 now] w fun e w' => ∃ v, e = .returned v ∧ Own w' w.heap.size 3 v (idCells (expireT t now).2) ∧ Tab B bt w' (expireT t now).1 ∧ FrS B w w' := by
  obtain ⟨hok, hsm, mn, ma, be, mw, r, hS, hE⟩ := h
  refine (sexpire_of SO hS hsm hok.rise hok.keys hE).mono ?_
  rintro e w' ⟨v, rfl, ho, hs, hf⟩
  exact ⟨v, rfl, ho, ⟨hok.left now, fun c hc => hsm c (List.mem_filter.1 hc).1, mn, ma, be, mw, _, hs, (ends_due hE hS.wheel.row.1 now).2⟩, hf⟩
theorem HQ.lower {bw m B B' : Nat} {v : Value} {w : World} {f : Nat → It} {n : Nat} (h : HQ bw m B v w f n) (hB : B' ≤ B) : HQ bw m B' v w f n :=
  ⟨h.wheel, sv_mono h.own hB, h.item, h.inj, fun i hi => Nat.le_trans hB (h.lo i hi)⟩
theorem WWm.lower {m bw B B' : Nat} {w : World} {l : List Tm} (h : WWm m B bw w l) (hB : B' ≤ B) : WWm m B' bw w l := by
  obtain ⟨v, f, n, D, h, h4⟩ := h
  exact ⟨v, f, n, D, ⟨h.q.lower hB, h.k, h.mp, h.has, h.at', h.size, Nat.le_trans hB h.wlo, Nat.le_trans hB h.mlo, h.wf⟩, h4⟩
theorem makeN (u : World) : (Instr.makeMap 51 none).run Try.prog u = .ok (.map (some u.heap.size)) (u.alloc (.map #[] 0)) := by kernel_rfl
theorem makeA (u : World) : (Instr.makeMap 52 none).run Try.prog u = .ok (.map (some u.heap.size)) (u.alloc (.map #[] 0)) := by kernel_rfl
theorem snew_tab (w : World) {most : Int} (h1 : 1 ≤ most) (h2 : most ≤ 200) : ∀ w1 w2 w3 w4 : World, w.alloc (.map #[] 0) = w1 → w1.alloc (.map #[] 0) = w2 → (w2.alloc (.map #[] 0)).alloc (.cells #[.slice none 0 0, .map (some w2.heap.size)] 89) = w3 →
    w3.alloc (.cells #[.int .i64 most, .int .i64 0, .map (some w.heap.size), .map (some w1.heap.size), .pointer (some ⟨w2.heap.size + 1, 0, none⟩)] 55) = w4 → Tab w.heap.size w3.heap.size w4 ⟨most, 0, []⟩ ∧ Below w.heap.size w w4 := by
  rintro w1 w2 w3 w4 rfl rfl rfl rfl
  generalize hO : (Obj.cells _ 55) = O
  have b1 := (Below.refl w.heap.size w).alloc (Nat.le_refl _) (.map #[] 0)
  have b2 := b1.alloc (show w.heap.size ≤ (w.alloc (.map #[] 0)).heap.size by simp) (.map #[] 0)
  have hN := World.ownsMap_made w Try.prog 69 numE
  have hA := World.ownsMap_made (w.alloc (.map #[] 0)) Try.prog 3 trE
  have hW := WWm.begin ((w.alloc (.map #[] 0)).alloc (.map #[] 0))
  generalize hw1 : w.alloc (.map #[] 0) = w1 at *
  have s1 : w1.heap.size = w.heap.size + 1 := by rw [← hw1]; simp
  have hN' := hN.alloc (.map #[] 0)
  generalize hw2 : w1.alloc (.map #[] 0) = w2 at *
  have s2 : w2.heap.size = w1.heap.size + 1 := by rw [← hw2]; simp
  generalize hw3 : (w2.alloc (.map #[] 0)).alloc (.cells #[.slice none 0 0, .map (some w2.heap.size)] 89) = w3 at *
  have b3 : Below w2.heap.size w2 w3 := by rw [← hw3]; exact ((Below.refl _ w2).alloc (Nat.le_refl _) _).alloc (by simp) _
  have s3 : w3.heap.size = w2.heap.size + 2 := by rw [← hw3]; simp
  have b4 : Below w3.heap.size w3 (w3.alloc O) := (Below.refl _ w3).alloc (Nat.le_refl _) _
  have b34 : Below w2.heap.size w2 (w3.alloc O) := b3.trans (b4.mono (by omega))
  have bel : ∀ {k : TypeId} {R : Value → Option (DataW Unit × List MemPlace)} {b n : Nat} {D : DataW Unit}, w2.ownsMap Try.prog k R b n D → (w3.alloc O).ownsMap Try.prog k R b n D := fun h => own_chg h (chg_below (S := fun _ => False) b34) (fun x => x)
  obtain ⟨v, f, n, D, hH, h4⟩ := hW
  refine ⟨⟨⟨.nil, fun c hc => by simp at hc, .nil, by simp; omega, ⟨h1, h2⟩, by simp⟩, fun c hc => by simp at hc, w.heap.size, w1.heap.size, w2.heap.size + 1, w2.heap.size, [], ⟨?_, ⟨_, bel hN', MpC.nil _ _⟩, ⟨_, bel hA, MpC.nil _ _⟩, ?_, by omega, by omega, by omega, by omega, by omega, by omega⟩, List.Perm.refl _⟩, b2.trans (b34.mono (by omega))⟩
  · unfold RowIs
    rw [heap_alloc_new, ← hO]
  · have hq : WWm w2.heap.size w2.heap.size (w2.heap.size + 1) (w3.alloc O) [] := ⟨v, f, n, D, hH.new O, h4⟩
    exact hq.lower (by omega)
end
end Go.Proofs.Ytbnmdljlfldgoaa

/-
  The table's New; what no call made.
-/
namespace Go.Proofs.Ytbnmdljlfldgoaa
open Go.RowKit Go.Maps Go.WideMaps
set_option linter.unusedVariables false
set_option maxRecDepth 20000
set_option linter.unusedSimpArgs false

set_option maxHeartbeats 1000000 in
set_option maxRecDepth 100000 in
theorem snew_ok (w : World) {most : Int} (h1 : 1 ≤ most) (h2 : most ≤ 200) :
    Calls Try.prog 9 #[.int .i64 most] w fun e w' => ∃ b, e = .returned (.tuple #[.pointer (some ⟨b, 0, none⟩), .int .i64 0]) ∧ Tab w.heap.size b w' ⟨most, 0, []⟩ ∧ Below w.heap.size w w' := by
  have mN := makeN
  have mA := makeA
  have n1 : ¬ most < 1 := by omega
  have n2 : ¬ 200 < most := by omega
  have HT := hid (snew_tab w h1 h2)
  clear h1 h2
  have KN := hid (fun (u : World) => wmnew_any u)
  generalize hw1 : w.alloc (.map #[] 0) = w1 at HT
  generalize hw2 : w1.alloc (.map #[] 0) = w2
  generalize hw3 : (w2.alloc (.map #[] 0)).alloc (.cells #[.slice none 0 0, .map (some w2.heap.size)] 89) = w3
  have HF := hid (HT.out w1 w2 w3 _ rfl hw2 hw3 rfl)
  have H3 := hid hw3
  clear HT hw3
  go_enter Try.func9, Try.ntmps9
  go_wp2_with (go_at_call 20; refine (KN.out _).mono ?_; rintro e w9 ⟨rfl, hw9⟩; rw [hw9, H3.out]; clear hw9)
  go_ret2
  exact ⟨_, rfl, HF.out.1, HF.out.2⟩
set_option maxHeartbeats 1000000 in
set_option maxRecDepth 100000 in
theorem snew_bad (w : World) {most : Int} (h : most < 1 ∨ 200 < most) :
    Calls Try.prog 9 #[.int .i64 most] w fun e w' => e = .returned (.tuple #[.pointer none, .int .i64 9]) ∧ w' = w := by
  by_cases h1 : most < 1
  · clear h
    go_enter Try.func9, Try.ntmps9
    go_wp2
    go_ret2
    exact ⟨rfl, rfl⟩
  · have h2 : 200 < most := by omega
    clear h
    go_enter Try.func9, Try.ntmps9
    go_wp2
    go_ret2
    exact ⟨rfl, rfl⟩
/-- A table that no call made: nil, or all zero. -/
def NoTab (w : World) (p : Value) : Prop := p = .pointer none ∨ ∃ b, p = .pointer (some ⟨b, 0, none⟩) ∧ w.cell? ⟨b, 3, none⟩ = some (.map none)
theorem NoTab.below {w w' : World} {p : Value} (h : NoTab w p) (hb : Below w.heap.size w w') (hl : ∀ b, p = .pointer (some ⟨b, 0, none⟩) → b < w.heap.size) : NoTab w' p := by
  rcases h with h | ⟨b, rfl, hc⟩
  · exact .inl h
  · exact .inr ⟨b, rfl, cell_bel hb (hl b rfl) hc⟩
set_option maxHeartbeats 1000000 in
set_option maxRecDepth 100000 in
theorem nob_smade {w : World} {p : Value} (h : NoTab w p) : Calls Try.prog 25 #[p] w fun e w' => e = .returned (.bool false) ∧ w' = w := by
  have q61 := neqA
  rcases h with rfl | ⟨b, rfl, hc⟩
  · go_enter Try.func25, Try.ntmps25
    go_wp2
    go_ret
    exact ⟨rfl, rfl⟩
  · go_enter Try.func25, Try.ntmps25
    go_wp2
    go_ret
    exact ⟨rfl, rfl⟩
set_option maxHeartbeats 1000000 in
set_option maxRecDepth 100000 in
theorem nob_slen {w : World} {p : Value} (h : NoTab w p) : Calls Try.prog 12 #[p] w fun e w' => e = .returned (.int .i64 0) ∧ w' = w := by
  have KM := hid (nob_smade h)
  clear h
  go_enter Try.func12, Try.ntmps12
  go_wp2_with (go_at_call 25; refine KM.out.mono ?_; rintro e w9 ⟨rfl, hw9⟩; rw [hw9]; clear hw9)
  go_ret
  exact ⟨rfl, rfl⟩
set_option maxHeartbeats 1000000 in
set_option maxRecDepth 100000 in
theorem nob_sexpire {w : World} {p : Value} (h : NoTab w p) (now : Int) : Calls Try.prog 19 #[p, .int .i64 now] w fun e w' => e = .returned (.slice none 0 0) ∧ w' = w := by
  have KM := hid (nob_smade h)
  clear h
  go_enter Try.func19, Try.ntmps19
  go_wp2_with (go_at_call 25; refine KM.out.mono ?_; rintro e w9 ⟨rfl, hw9⟩; rw [hw9]; clear hw9)
  go_ret
  exact ⟨rfl, rfl⟩
set_option maxHeartbeats 1000000 in
set_option maxRecDepth 100000 in
theorem nob_sfind {w : World} {p : Value} (h : NoTab w p) (x y z : ByteArray) : Calls Try.prog 13 #[p, .string x, .string y, .string z] w fun e w' => e = .returned (.tuple #[.int .i64 0, .bool false]) ∧ w' = w := by
  have KM := hid (nob_smade h)
  clear h
  go_enter Try.func13, Try.ntmps13
  go_wp2_with (go_at_call 25; refine KM.out.mono ?_; rintro e w9 ⟨rfl, hw9⟩; rw [hw9]; clear hw9)
  go_ret2
  exact ⟨rfl, rfl⟩
set_option maxHeartbeats 1000000 in
set_option maxRecDepth 100000 in
theorem nob_sstart {w : World} {p : Value} (h : NoTab w p) (x y z : ByteArray) (now : Int) : Calls Try.prog 17 #[p, .string x, .string y, .string z, .int .i64 now] w fun e w' => e = .returned (.tuple #[.int .i64 0, .int .i64 3]) ∧ w' = w := by
  have KM := hid (nob_smade h)
  clear h
  go_enter Try.func17, Try.ntmps17
  go_wp2_with (go_at_call 25; refine KM.out.mono ?_; rintro e w9 ⟨rfl, hw9⟩; rw [hw9]; clear hw9)
  go_ret2
  exact ⟨rfl, rfl⟩
set_option maxHeartbeats 1000000 in
set_option maxRecDepth 100000 in
theorem nob_sanswer {w : World} {p : Value} (h : NoTab w p) (hl : ∀ b, p = .pointer (some ⟨b, 0, none⟩) → b < w.heap.size) (id : Int) (x y : ByteArray) : Calls Try.prog 18 #[p, .int .i64 id, .agg #[.string x, .string y]] w fun e w' => e = .returned (.int .i64 3) ∧ Below w.heap.size w w' := by
  have hb : Below w.heap.size w (w.alloc (.cells #[.string x, .string y] 39)) := (Below.refl _ w).alloc (Nat.le_refl _) _
  have KM := hid (nob_smade (h.below hb hl))
  have HB := hid hb
  clear h hb
  go_enter Try.func18, Try.ntmps18
  go_wp2_with (go_at_call 25; refine KM.out.mono ?_; rintro e w9 ⟨rfl, hw9⟩; rw [hw9]; clear hw9)
  go_ret
  exact ⟨rfl, HB.out⟩
set_option maxHeartbeats 1000000 in
set_option maxRecDepth 100000 in
theorem nob_scached {w : World} {p : Value} (h : NoTab w p) (hl : ∀ b, p = .pointer (some ⟨b, 0, none⟩) → b < w.heap.size) (id : Int) : Calls Try.prog 15 #[p, .int .i64 id] w fun e w' => e = .returned (.tuple #[.agg #[.string ⟨#[]⟩, .string ⟨#[]⟩], .bool false]) ∧ Below w.heap.size w w' := by
  have hb : Below w.heap.size w (w.alloc (.cells #[.string ⟨#[]⟩, .string ⟨#[]⟩] 39)) := (Below.refl _ w).alloc (Nat.le_refl _) _
  have KM := hid (nob_smade (h.below hb hl))
  have hr := sv_row2 w (.string ⟨#[]⟩) (.string ⟨#[]⟩) 39
  have KEEP := hid (And.intro (sv_store2 hr (.string ⟨#[]⟩) (.string ⟨#[]⟩)) (sv_below2 hb w.heap.size (Nat.le_refl _) (.string ⟨#[]⟩) (.string ⟨#[]⟩)))
  generalize hw0 : w.alloc (.cells #[.string ⟨#[]⟩, .string ⟨#[]⟩] 39) = w0 at *
  obtain ⟨k0, k1, k2, k3⟩ := hr.sv2
  clear h hb hr
  go_enter Try.func15, Try.ntmps15
  go_wp2_with (go_at_call 25; refine KM.out.mono ?_; rintro e w9 ⟨rfl, hw9⟩; rw [hw9]; clear hw9)
  generalize World.setCell _ _ _ = wC at KEEP ⊢
  obtain ⟨hrC, hbC⟩ := KEEP.out
  obtain ⟨d0, d1, _, _⟩ := hrC.sv2
  try simp only [Exit.inBlock, Exit.then]
  refine bodyPost_ret (v := .tuple #[.agg #[.string ⟨#[]⟩, .string ⟨#[]⟩], .bool false]) (by simp [results, Try.results15, go_sem, d0, d1]; try rfl) rfl ?_
  exact ⟨rfl, hbC⟩
end Go.Proofs.Ytbnmdljlfldgoaa
