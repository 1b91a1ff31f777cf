/-
  Base texts, one behind another: RCq7, RCq8, RCq9.
-/
import Derived.Test.YtgikbpaejmdnoaaRA
import Derived.Test.YtgikbpaejmdnoaaRC

/-
  The document's own Live (layer 12).
-/
namespace Go.Proofs.Ytgikbpaejmdnoaa
open Go.RowKit
set_option linter.unusedVariables false
set_option maxRecDepth 20000
set_option linter.unusedSimpArgs false

theorem findQ_pre {l : List Cq} {p : Cq → Bool} {k : Nat} (hp : ∀ c ∈ l.take k, p c = false) : l.find? p = (l.drop k).find? p := by
  conv => lhs; rw [← List.take_append_drop k l]
  have h0 : (l.take k).find? p = none := List.find?_eq_none.2 fun c hc => by rw [hp c hc]; simp
  rw [List.find?_append, h0, Option.none_or]
theorem live_hit {t : Tq} {id : Int} {k : Nat} (hk : k < t.l.length) (hp : ∀ c ∈ t.l.take k, (c.id == id) = false) (he : (t.l[k].id == id) = true) : liveQ t id = decide (t.l[k].rest < 0) := by
  unfold liveQ
  rw [findQ_pre hp, List.drop_eq_getElem_cons hk, List.find?_cons_of_pos (p := fun c : Cq => c.id == id) he]
theorem live_end {t : Tq} {id : Int} (hp : ∀ c ∈ t.l.take t.l.length, (c.id == id) = false) : liveQ t id = false := by
  unfold liveQ
  rw [findQ_pre hp, List.drop_eq_nil_of_le (Nat.le_refl _)]
  rfl
set_option maxHeartbeats 4000000 in
set_option maxRecDepth 100000 in
theorem refliveq_any {w : World} {B : Nat} {v : Value} {t : Tq} (h : OwnQ w B v t.l) {id : Int} (hn : t.l.length ≤ 1000000) :
    Calls Try.prog 13 #[tqV t v, .int .i64 id] w fun e w' => e = .returned (.bool (liveQ t id)) ∧ Below w.heap.size w w' := by
  obtain ⟨most, last, l⟩ := t
  simp only at h hn ⊢
  unfold tqV
  obtain ⟨oa, cap, rfl⟩ := h.form
  have HO := hid h
  obtain ⟨n, hnn⟩ : ∃ n, n = l.length := ⟨_, rfl⟩
  rw [← hnn] at hn HO ⊢
  have HN := hid hnn
  clear h hnn
  go_enter Try.func13, Try.ntmps13
  go_wp2
  go_loopw [5] (fun i wr => ∃ k : Nat, k ≤ n ∧ i = .int .i64 k ∧ wr = w.alloc (objQ ⟨most, last, l⟩ (.slice oa n cap)) ∧ Hid (∀ c ∈ l.take k, (c.id == id) = false)) (fun i _ => n - (intOf i).toNat)
  case atStart => exact ⟨0, by omega, rfl, by first | rfl | trivial, fun c hc => by simp at hc⟩
  case round =>
    obtain ⟨k, hk, rfl, hwr, hinv⟩ := hrel
    have hbw : Below w.heap.size w wr := by rw [hwr]; exact (Below.refl _ w).alloc (Nat.le_refl _) _
    have b2 : wr.cell? ⟨w.heap.size, 2, none⟩ = some (.slice oa n cap) := by rw [hwr]; exact (boxQ_new w ⟨most, last, l⟩ _).c2
    have HB := hid hbw
    have HW := hid hwr
    clear hwr
    by_cases hlt : k < n
    · have hlt' : (k : Int) < n := by omega
      have hkl : k < l.length := by rw [← HN.out]; exact hlt
      obtain ⟨_, hnil⟩ | ⟨g, cap', hv, _, hg, hcap, hat⟩ := HO.out.get
      · exfalso; rw [hnil] at hkl; simp at hkl
      injection hv with ha hl hc
      subst ha; subst hc
      have c0 := ((hat k hkl).below hbw hg).c0
      have c4 := ((hat k hkl).below hbw hg).c4
      clear hat hbw
      have ST := hid (fun x => preQ_step (l := l) (p := fun c => c.id == id) hkl hinv.out x)
      have HT := hid (fun x => live_hit (t := ⟨most, last, l⟩) (id := id) hkl hinv.out x)
      simp only at HT
      generalize l[k] = c at c0 c4 ST HT
      cases heb : c.id == id
      · have hinv2 := hid (ST.out heb)
        clear ST HT hinv HO
        go_wp2
        go_roundw
        case rel => exact ⟨k + 1, by omega, by go_num, HW.out, hinv2.out⟩
        case measure => simp [intOf]; omega
      · have HV := hid (HT.out heb)
        clear ST HT hinv HO
        go_wp2
        go_ret
        exact ⟨by rw [HV.out]; rfl, HB.out⟩
    · have hlt' : ¬ ((k : Int) < n) := by omega
      obtain rfl : k = n := by omega
      have HV := hid (live_end (t := ⟨most, last, l⟩) (id := id) (by simp only; rw [← HN.out]; exact hinv.out))
      clear hinv HO hbw
      go_wp2
      go_ret
      exact ⟨by rw [HV.out]; rfl, HB.out⟩
end Go.Proofs.Ytgikbpaejmdnoaa

/-
  The document's own Response (layer 12).
-/
namespace Go.Proofs.Ytgikbpaejmdnoaa
open Go.RowKit
set_option linter.unusedVariables false
set_option maxRecDepth 20000
set_option linter.unusedSimpArgs false

def TqRes4 (t : Tq) (id : Int) (y : Bool) (er : Int) (B : Nat) (w w' : World) (e : Ending) : Prop := ∃ v1, e = .returned (.tuple #[tqV t v1, .int .i64 id, .bool y, .int .i64 er]) ∧ OwnQ w' B v1 t.l ∧ Below w.heap.size w w'
theorem cqs_set (l : List Cq) (k : Nat) (hk : k < l.length) (r : Int) : cqsCells (l.set k { l[k] with rest := r }) = (cqsCells l).set (k * 7 + 4) (.int .i64 r) := by
  induction l generalizing k with
  | nil => simp at hk
  | cons c l ih =>
    have e : ∀ (c : Cq) l, cqsCells (c :: l) = cqCells c ++ cqsCells l := fun _ _ => rfl
    cases k with
    | zero =>
      simp only [List.set_cons_zero, List.getElem_cons_zero]
      rw [e, e]
      rfl
    | succ k =>
      have hk' : k < l.length := by simpa using hk
      simp only [List.set_cons_succ, List.getElem_cons_succ]
      rw [e, e, ih k hk']
      have n1 : ∀ j, (k + 1) * 7 + j = (cqCells c).length + (k * 7 + j) := fun j => by rw [cqCells_len]; omega
      rw [n1]
      simp only [List.set_append_right _ _ (Nat.le_add_right _ _), Nat.add_sub_cancel_left]
theorem OwnQ.rests {w : World} {B g cap : Nat} {l : List Cq} (h : OwnQ w B (.slice (some ⟨g, 0, none⟩) l.length cap) l) (k : Nat) (hk : k < l.length) (r : Int) :
    OwnQ (w.setCell ⟨g, k * 7 + 4, none⟩ (.int .i64 r)) B (.slice (some ⟨g, 0, none⟩) l.length cap) (l.set k { l[k] with rest := r }) := by
  unfold OwnQ
  rw [cqs_set l k hk, List.length_set]
  exact (World.ownsRow.stored h _ _).1
def isQ (br : List UInt8) (c : Cq) : Bool := c.br == br && decide (c.rest < 0)
theorem respq_arg {t : Tq} {br : List UInt8} {s now : Int} (h : now < 0 ∨ 1099511627456 < now ∨ s < 100 ∨ 699 < s) : respQ t br s now = (t, 0, false, 1) := by unfold respQ; rw [if_pos h]
theorem idxq_pre {l : List Cq} {p : Cq → Bool} {k : Nat} (hk : k ≤ l.length) (hp : ∀ c ∈ l.take k, p c = false) : l.findIdx? p = ((l.drop k).findIdx? p).map (· + k) := by
  conv => lhs; rw [← List.take_append_drop k l]
  have h0 : (l.take k).findIdx? p = none := List.findIdx?_eq_none_iff.2 hp
  rw [List.findIdx?_append, h0, Option.none_or, List.length_take, Nat.min_eq_left hk]
theorem idxq_hit {l : List Cq} {p : Cq → Bool} {k : Nat} (hk : k < l.length) (hp : ∀ c ∈ l.take k, p c = false) (he : p l[k] = true) : l.findIdx? p = some k := by
  rw [idxq_pre (Nat.le_of_lt hk) hp, List.drop_eq_getElem_cons hk, List.findIdx?_cons, if_pos he]
  simp
theorem idxq_end {l : List Cq} {p : Cq → Bool} (hp : ∀ c ∈ l.take l.length, p c = false) : l.findIdx? p = none := by
  rw [List.take_length] at hp
  exact List.findIdx?_eq_none_iff.2 hp
theorem respq_none {t : Tq} {br : List UInt8} {s now : Int} (h : ¬ (now < 0 ∨ 1099511627456 < now ∨ s < 100 ∨ 699 < s)) (hp : ∀ c ∈ t.l.take t.l.length, isQ br c = false) : respQ t br s now = (t, 0, false, 6) := by
  have e := idxq_end (p := fun c => c.br == br && decide (c.rest < 0)) hp
  unfold respQ; rw [if_neg h, e]
theorem respq_more {t : Tq} {br : List UInt8} {s now : Int} {k : Nat} (h : ¬ (now < 0 ∨ 1099511627456 < now ∨ s < 100 ∨ 699 < s)) (hk : k < t.l.length) (hp : ∀ c ∈ t.l.take k, isQ br c = false) (hs : s < 200) (he : isQ br t.l[k] = true) : respQ t br s now = (t, t.l[k].id, false, 0) := by
  have e := idxq_hit (p := fun c => c.br == br && decide (c.rest < 0)) hk hp he
  unfold respQ; rw [if_neg h, e]; simp only; rw [List.getElem?_eq_getElem hk]; simp only; rw [if_pos hs]
theorem respq_last {t : Tq} {br : List UInt8} {s now : Int} {k : Nat} (h : ¬ (now < 0 ∨ 1099511627456 < now ∨ s < 100 ∨ 699 < s)) (hk : k < t.l.length) (hp : ∀ c ∈ t.l.take k, isQ br c = false) (hs : ¬ s < 200) (he : isQ br t.l[k] = true) : respQ t br s now = (⟨t.most, t.last, t.l.set k { t.l[k] with rest := now + 50 }⟩, t.l[k].id, true, 0) := by
  have e := idxq_hit (p := fun c => c.br == br && decide (c.rest < 0)) hk hp he
  unfold respQ; rw [if_neg h, e]; simp only; rw [List.getElem?_eq_getElem hk]; simp only; rw [if_neg hs]

set_option maxHeartbeats 4000000 in
set_option maxRecDepth 100000 in
theorem refrespq_any {w : World} {B : Nat} {v : Value} {t : Tq} (h : OwnQ w B v t.l) (hB : B ≤ w.heap.size) {br : List UInt8} {s now : Int} (hn : t.l.length ≤ 1000000) :
    Calls Try.prog 21 #[tqV t v, .string ⟨br.toArray⟩, .int .i64 s, .int .i64 now] w fun e w' => TqRes4 (respQ t br s now).1 (respQ t br s now).2.1 (respQ t br s now).2.2.1 (respQ t br s now).2.2.2 B w w' e := by
  obtain ⟨i0, hi, hz0, hz1, hz2⟩ := info_parts infoCq
  obtain ⟨most, last, l⟩ := t
  simp only at h hn ⊢
  obtain ⟨oa, cap, rfl⟩ := h.form
  have hb1 : Below w.heap.size w (w.alloc (objQ ⟨most, last, l⟩ (.slice oa l.length cap))) := (Below.refl _ w).alloc (Nat.le_refl _) _
  have hl1 := alloc_lt w (objQ ⟨most, last, l⟩ (.slice oa l.length cap))
  have hbx := boxQ_new w ⟨most, last, l⟩ (.slice oa l.length cap)
  generalize hw1 : w.alloc (objQ ⟨most, last, l⟩ (.slice oa l.length cap)) = w1 at hb1 hbx hl1
  have hr0 := sv_row3 w1 (.int .i64 0) (.int .i64 0) (.slice none 0 0) 31
  have hb2 : Below w1.heap.size w1 (w1.alloc (.cells #[.int .i64 0, .int .i64 0, .slice none 0 0] 31)) := (Below.refl _ w1).alloc (Nat.le_refl _) _
  have hl2 := alloc_lt w1 (.cells #[.int .i64 0, .int .i64 0, .slice none 0 0] 31)
  generalize hw2 : w1.alloc (.cells #[.int .i64 0, .int .i64 0, .slice none 0 0] 31) = w2 at hb2 hr0 hl2
  have hB2 := hb1.trans (hb2.mono hb1.size)
  have hx2 := hbx.below hb2 hl1
  have hO2 := h.below hB2
  unfold objQ at hw1
  generalize hR : respQ ⟨most, last, l⟩ br s now = R
  have HX2 := hid hx2
  obtain ⟨x0, x1, x2⟩ := hx2
  simp only at x0 x1 x2
  obtain ⟨y0, y1, y2, f0, f1, f2⟩ := hr0.sv3
  have hlw : w.heap.size ≤ w1.heap.size := by omega
  have KEEP := hid (And.intro (sv_store3 hr0 (.int .i64 most) (.int .i64 last) (.slice oa l.length cap)) (sv_below3 hB2 w1.heap.size hlw (.int .i64 most) (.int .i64 last) (.slice oa l.length cap)))
  have HO := hid h
  have HX := hid (And.intro hO2 (And.intro hr0 hB2))
  clear hr0 hO2 hB2 hb1 hb2 h hbx
  go_enter Try.func21, Try.ntmps21
  unfold tqV
  by_cases hnow : now < 0 ∨ 1099511627456 < now ∨ s < 100 ∨ 699 < s
  · have HV : Hid (R = _) := hR.symm.trans (respq_arg (t := ⟨most, last, l⟩) hnow)
    clear hR HX
    by_cases a1 : now < 0
    · go_wp2
      generalize World.setCell _ _ _ = wA at KEEP ⊢
      obtain ⟨hrA, hbA⟩ := KEEP.out
      obtain ⟨d0, d1, d2, _, _, _⟩ := hrA.sv3
      try simp only [Exit.inBlock, Exit.then]
      refine bodyPost_ret (v := .tuple #[.agg #[.int .i64 most, .int .i64 last, .slice oa l.length cap], .int .i64 0, .bool false, .int .i64 1]) (by simp [results, Try.results21, go_sem, d0, d1, d2]; try rfl) rfl ?_
      rw [HV.out]
      exact ⟨_, rfl, HO.out.below hbA, hbA⟩
    by_cases a2 : 1099511627456 < now
    · go_wp2
      generalize World.setCell _ _ _ = wA at KEEP ⊢
      obtain ⟨hrA, hbA⟩ := KEEP.out
      obtain ⟨d0, d1, d2, _, _, _⟩ := hrA.sv3
      try simp only [Exit.inBlock, Exit.then]
      refine bodyPost_ret (v := .tuple #[.agg #[.int .i64 most, .int .i64 last, .slice oa l.length cap], .int .i64 0, .bool false, .int .i64 1]) (by simp [results, Try.results21, go_sem, d0, d1, d2]; try rfl) rfl ?_
      rw [HV.out]
      exact ⟨_, rfl, HO.out.below hbA, hbA⟩
    by_cases a3 : s < 100
    · go_wp2
      generalize World.setCell _ _ _ = wA at KEEP ⊢
      obtain ⟨hrA, hbA⟩ := KEEP.out
      obtain ⟨d0, d1, d2, _, _, _⟩ := hrA.sv3
      try simp only [Exit.inBlock, Exit.then]
      refine bodyPost_ret (v := .tuple #[.agg #[.int .i64 most, .int .i64 last, .slice oa l.length cap], .int .i64 0, .bool false, .int .i64 1]) (by simp [results, Try.results21, go_sem, d0, d1, d2]; try rfl) rfl ?_
      rw [HV.out]
      exact ⟨_, rfl, HO.out.below hbA, hbA⟩
    · have a4 : 699 < s := by omega
      go_wp2
      generalize World.setCell _ _ _ = wA at KEEP ⊢
      obtain ⟨hrA, hbA⟩ := KEEP.out
      obtain ⟨d0, d1, d2, _, _, _⟩ := hrA.sv3
      try simp only [Exit.inBlock, Exit.then]
      refine bodyPost_ret (v := .tuple #[.agg #[.int .i64 most, .int .i64 last, .slice oa l.length cap], .int .i64 0, .bool false, .int .i64 1]) (by simp [results, Try.results21, go_sem, d0, d1, d2]; try rfl) rfl ?_
      rw [HV.out]
      exact ⟨_, rfl, HO.out.below hbA, hbA⟩
  have hn0 : ¬ (now < 0) := fun x => hnow (Or.inl x)
  have hn1 : ¬ (1099511627456 < now) := fun x => hnow (Or.inr (Or.inl x))
  have hn2 : ¬ (s < 100) := fun x => hnow (Or.inr (Or.inr (Or.inl x)))
  have hn3 : ¬ (699 < s) := fun x => hnow (Or.inr (Or.inr (Or.inr x)))
  have HNOW := hid hnow
  clear hnow
  go_wp2
  go_loopw [12] (fun i wr => ∃ k : Nat, k ≤ l.length ∧ i = .int .i64 k ∧ wr = w2 ∧ Hid (∀ c ∈ l.take k, isQ br c = false)) (fun i _ => l.length - (intOf i).toNat)
  case atStart => exact ⟨0, by omega, rfl, by first | rfl | trivial, fun c hc => by simp at hc⟩
  case round =>
    obtain ⟨k, hk, rfl, rfl, hinv⟩ := hrel
    by_cases hlt : k < l.length
    · have hlt' : (k : Int) < l.length := by omega
      obtain ⟨_, hnil⟩ | ⟨g, cap', hv, _, hg, hcap, hat⟩ := HX.out.1.get
      · exfalso; rw [hnil] at hlt; simp at hlt
      injection hv with ha hl hc
      subst ha; subst hc
      have c0 := (hat k hlt).c0
      have c1 := (hat k hlt).c1
      have c4 := (hat k hlt).c4
      have ST := hid (fun x => preQ_step (l := l) (p := isQ br) hlt hinv.out x)
      have HM := hid (fun x y => respq_more (t := ⟨most, last, l⟩) (br := br) (s := s) (now := now) HNOW.out hlt hinv.out x y)
      have HL := hid (fun x y => respq_last (t := ⟨most, last, l⟩) (br := br) (s := s) (now := now) HNOW.out hlt hinv.out x y)
      simp only at HM HL
      clear hat
      generalize hcg : l[k] = c at c0 c1 c4 ST HM HL
      cases heb : c.br == br
      · have hinv2 := hid (ST.out (by unfold isQ; rw [heb]; rfl))
        clear ST HM HL hinv HX KEEP
        go_wp2
        go_roundw
        case rel => exact ⟨k + 1, by omega, by go_num, by first | rfl | trivial, hinv2.out⟩
        case measure => simp [intOf]; omega
      by_cases hrs : c.rest < 0
      case neg =>
        have hinv2 := hid (ST.out (by unfold isQ; rw [decide_eq_false hrs, Bool.and_false]))
        clear ST HM HL hinv HX KEEP
        go_wp2
        go_roundw
        case rel => exact ⟨k + 1, by omega, by go_num, by first | rfl | trivial, hinv2.out⟩
        case measure => simp [intOf]; omega
      have hit : isQ br c = true := by unfold isQ; rw [heb, decide_eq_true hrs]; rfl
      by_cases hs2 : s < 200
      · have HV : Hid (R = _) := hR.symm.trans (HM.out hs2 hit)
        clear hR ST HM HL hinv hit
        go_wp2
        have KEEPD := hid (And.intro (sv_store3 (HX.out.2.1.below (Below.refl _ wr).drew hl2) (.int .i64 most) (.int .i64 last) (.slice (some ⟨g, 0, none⟩) l.length cap)) (sv_below3 HX.out.2.2.drew w1.heap.size hlw (.int .i64 most) (.int .i64 last) (.slice (some ⟨g, 0, none⟩) l.length cap)))
        refine wp_region_name ?_
        intro ops hops
        have hlow : lowB .any ops = true := by rw [hops]; kernel_rfl
        have osz : ops.size = 11 := by rw [hops]; rfl
        have o0 := congrArg (fun x : Array Oper => x[0]?) hops
        have o1 := congrArg (fun x : Array Oper => x[1]?) hops
        have o2 := congrArg (fun x : Array Oper => x[2]?) hops
        have o3 := congrArg (fun x : Array Oper => x[3]?) hops
        have o4 := congrArg (fun x : Array Oper => x[4]?) hops
        have o5 := congrArg (fun x : Array Oper => x[5]?) hops
        have o6 := congrArg (fun x : Array Oper => x[6]?) hops
        have o7 := congrArg (fun x : Array Oper => x[7]?) hops
        have o8 := congrArg (fun x : Array Oper => x[8]?) hops
        have o9 := congrArg (fun x : Array Oper => x[9]?) hops
        have o10 := congrArg (fun x : Array Oper => x[10]?) hops
        simp only [List.getElem?_toArray, List.getElem?_cons_zero, List.getElem?_cons_succ] at o0 o1 o2 o3 o4 o5 o6 o7 o8 o9 o10
        clear hops
        have SO : regrOps ops := ⟨osz, ⟨_, o0, rfl, rfl, rfl⟩, ⟨_, o1, rfl, rfl, rfl⟩, ⟨_, o2, rfl, rfl, rfl⟩, ⟨_, o3, rfl, rfl, rfl⟩, ⟨_, o4, rfl, rfl, rfl⟩, ⟨_, o5, rfl, rfl, rfl⟩, ⟨_, o6, rfl, rfl, rfl⟩, ⟨_, o8, rfl, rfl, rfl⟩, ⟨_, o9, rfl, rfl, rfl⟩, ⟨_, o10, rfl, rfl, rfl⟩, ⟨_, o7, rfl, rfl, rfl⟩, ⟨_, o2, { on := 1, ground := .data }, by simp, rfl, rfl⟩, ⟨_, o4, { on := 2, ground := .data }, by simp, rfl, rfl⟩, ⟨_, o4, { on := 3, ground := .data }, by simp, rfl, rfl⟩, ⟨_, o5, { on := 4, ground := .data }, by simp, rfl, rfl⟩, ⟨_, o6, { on := 5, ground := .data }, by simp, rfl, rfl⟩, ⟨_, o8, { on := 6, ground := .data }, by simp, rfl, rfl⟩, ⟨_, o7, { on := 0, ground := .data }, by simp, rfl, rfl⟩⟩
        clear o0 o1 o2 o3 o4 o5 o6 o7 o8 o9 o10
        refine wp_region_inv follows12 (SI (regrP wr w.heap.size w1.heap.size g most last l.length cap k hlt c.id [])) ?_ ?_ ?_
        · exact SI.begin rfl rfl (by intro e he; simp [regrP] at he; rcases he with rfl | rfl | rfl <;> rfl)
        · intro L a w9 hs hr hI
          have all := fun j (hj : j < ops.size) => all_listed hlow hs hr j hj
          rw [osz] at all
          have hdf := hI.df
          have b8 := hI.base (8, _) (by simp [regrP]; rfl)
          have q9 := hI.tab (8, 9, _) (by simp [regrP]; rfl) (all 8 (by decide))
          have q10 := hI.tab (9, 10, _) (by simp [regrP]; rfl) (all 9 (by decide))
          have q11 := hI.tab (10, 11, _) (by simp [regrP]; rfl) (all 10 (by decide))
          have hwd := hI.wd
          rw [if_pos (all _ (by simp [regrP]))] at hwd
          simp only at b8 q9 q10 q11
          clear hI all hr hs hlow SO
          have r8 : a.tmps[8]?.getD undef = .pointer (some ⟨w1.heap.size, 0, none⟩) := by rw [← Array.getD_eq_getD_getElem?]; exact b8
          have r9 : a.tmps[9]?.getD undef = .int .i64 c.id := by rw [← Array.getD_eq_getD_getElem?]; exact q9
          have r10 : a.tmps[10]?.getD undef = .bool false := by rw [← Array.getD_eq_getD_getElem?]; exact q10
          have r11 : a.tmps[11]?.getD undef = .int .i64 0 := by rw [← Array.getD_eq_getD_getElem?]; exact q11
          have hw9 : RowIs w9 w1.heap.size 31 [.int .i64 most, .int .i64 last, .slice (some ⟨g, 0, none⟩) l.length cap] ∧ Below w.heap.size w w9 := by
            rw [hwd]
            exact KEEPD.out
          clear hwd
          obtain ⟨d0, d1, d2, _, _, _⟩ := hw9.1.sv3
          try simp only [Exit.inBlock, Exit.then]
          go_wp2
          try simp only [Exit.inBlock, Exit.then]
          refine bodyPost_ret (v := .tuple #[.agg #[.int .i64 most, .int .i64 last, .slice (some ⟨g, 0, none⟩) l.length cap], .int .i64 c.id, .bool false, .int .i64 0]) (by simp [results, Try.results21, go_sem, r8, r9, r10, r11, d0, d1, d2]; try rfl) hdf ?_
          rw [HV.out]
          exact ⟨_, rfl, HO.out.below hw9.2, hw9.2⟩
        · intro L a w9 i hs hi hI
          refine regr_steps SO wr w.heap.size w1.heap.size g most last l.length cap k hlt c.id [] (fun u hu => ?_) ⟨_, _, _, HX.out.2.1.below (Below.refl _ wr).drew hl2⟩ (by intro e he; cases he) _ L a w9 i hs hi hI
          have n1 : w.heap.size ≠ w1.heap.size := by omega
          have n2 : g ≠ w1.heap.size := fun e => by
            obtain ⟨_, hnil⟩ | ⟨g', cap', cur, hv, _, hh, _⟩ := HX.out.1.2
            · rw [hnil] at hlt; omega
            · injection hv with hv1; injection hv1 with hv1; injection hv1 with hv1
              have hr' := HX.out.2.1
              unfold RowIs at hr'
              rw [← hv1, e, hr'] at hh
              simp at hh
          have D : ∀ (b j : Nat) (u' : Value), b ≠ w1.heap.size → wr.cell? ⟨b, j, none⟩ = some u' → u.cell? ⟨b, j, none⟩ = some u' := fun b j u' hb hu' => by
            rcases hu with hu | hu
            · rw [hu]; exact hu'
            · rw [hu]
              show (World.setCell _ _ _).cell? _ = _
              rw [World.cell?_of_block (a := ⟨b, j, none⟩) (set3_block _ hb _ _ _)]
              exact hu'
          exact ⟨D _ _ _ n1 x0, D _ _ _ n1 x1, D _ _ _ n1 x2, D _ _ _ n2 c0⟩
      · have HV : Hid (R = _) := hR.symm.trans (HL.out hs2 hit)
        clear hR ST HM HL hinv hit
        have hbW : Below wr.heap.size wr (wr.alloc (.cells #[] 78)) := (Below.refl _ wr).alloc (Nat.le_refl _) _
        have OE := OwnQ.empty wr wr.heap.size (Nat.le_refl _)
        have NEW : ∀ (j : Nat) (u : Value), (cqsCells l)[j]? = some u → (wr.alloc (.cells #[] 78)).cell? ((⟨g, 0, none⟩ : Addr).add j) = some u := World.ownsRow.cells (HX.out.1.alloc _) rfl
        have x2e := cell_beq hbW (Nat.lt_trans hl1 hl2) x2
        clear KEEP
        subst hcg
        go_wp2_with (at_builtin; (refine wp_appQs _ rfl (.tmp 62) (.tmp 64) 29 rfl wr.heap.size i0 _ Try.underlying29 hi hz0 hz1 hz2 rfl _ [] rfl OE ⟨g, 0, none⟩ l.length cap l rfl rfl NEW (by simp; omega) (by simp) ?_; intro v5 w5 hown5 hgr5; have hb5 := hbW.grown hgr5 (by simp) (fun k hk => (World.ownsRow.lt OE k hk).1); clear hgr5 x0 x1 x2 x2e y0 y1 y2 f0 f1 f2 c0 c1 c4 NEW OE hbW; rw [List.nil_append] at hown5; (obtain ⟨_, hnil⟩ | ⟨g5, cap5, rfl, hg5, hg5l, hcap5, hat5⟩ := hown5.get); (exfalso; rw [hnil] at hlt; simp at hlt); have c4 := (hat5 k hlt).c4; have c0 := (hat5 k hlt).c0; have q4 := World.ownsRow.frozenAt hown5 (k * 7 + 4); have H6 := hid (And.intro (hown5.rests k hlt (now + 50)) (show Below wr.heap.size wr (w5.setCell ⟨g5, k * 7 + 4, none⟩ (.int .i64 (now + 50))) from hb5.setCell hg5 _)); clear hat5 hown5 hb5))
        generalize World.setCell _ _ _ = w6 at H6 ⊢
        obtain ⟨o6, b6⟩ := H6.out
        have hx6 := HX2.out.below b6 (Nat.lt_trans hl1 hl2)
        have hr6 := (HX.out.2.1.below b6 hl2).below (Below.refl _ w6).drew (Nat.lt_of_lt_of_le hl2 b6.size)
        have hB6 := HX.out.2.2.trans (b6.mono HX.out.2.2.size)
        have hBr : B ≤ wr.heap.size := Nat.le_trans hB HX.out.2.2.size
        have c0' : w6.cell? ⟨g5, k * 7, none⟩ = some (.int .i64 l[k].id) := by
          obtain ⟨_, hnil⟩ | ⟨g', cap', hv, _, _, _, hat⟩ := o6.get
          · exfalso; have := congrArg List.length hnil; rw [List.length_set] at this; simp at this; rw [this] at hlt; simp at hlt
          · injection hv with h1 _ _; injection h1 with h1; injection h1 with h1; subst h1
            have := (hat k (by rw [List.length_set]; exact hlt)).c0
            rw [List.getElem_set_self] at this
            exact this
        have H9 := hid (And.intro (sv_store3 hr6 (.int .i64 most) (.int .i64 last) (.slice (some ⟨g5, 0, none⟩) l.length cap5)) (And.intro (sv_below3 hB6.drew w1.heap.size hlw (.int .i64 most) (.int .i64 last) (.slice (some ⟨g5, 0, none⟩) l.length cap5)) (sv_mono (sv_set3 (World.ownsRow.drew o6) hl2 (.int .i64 most) (.int .i64 last) (.slice (some ⟨g5, 0, none⟩) l.length cap5)) hBr)))
        refine wp_region_name ?_
        intro ops hops
        have hlow : lowB .any ops = true := by rw [hops]; kernel_rfl
        have osz : ops.size = 15 := by rw [hops]; rfl
        have o0 := congrArg (fun x : Array Oper => x[0]?) hops
        have o1 := congrArg (fun x : Array Oper => x[1]?) hops
        have o2 := congrArg (fun x : Array Oper => x[2]?) hops
        have o3 := congrArg (fun x : Array Oper => x[3]?) hops
        have o4 := congrArg (fun x : Array Oper => x[4]?) hops
        have o5 := congrArg (fun x : Array Oper => x[5]?) hops
        have o6 := congrArg (fun x : Array Oper => x[6]?) hops
        have o7 := congrArg (fun x : Array Oper => x[7]?) hops
        have o8 := congrArg (fun x : Array Oper => x[8]?) hops
        have o9 := congrArg (fun x : Array Oper => x[9]?) hops
        have o10 := congrArg (fun x : Array Oper => x[10]?) hops
        have o11 := congrArg (fun x : Array Oper => x[11]?) hops
        have o12 := congrArg (fun x : Array Oper => x[12]?) hops
        have o13 := congrArg (fun x : Array Oper => x[13]?) hops
        have o14 := congrArg (fun x : Array Oper => x[14]?) hops
        simp only [List.getElem?_toArray, List.getElem?_cons_zero, List.getElem?_cons_succ] at o0 o1 o2 o3 o4 o5 o6 o7 o8 o9 o10 o11 o12 o13 o14
        clear hops
        have SO : regwOps ops := ⟨osz, ⟨_, o0, rfl, rfl, rfl⟩, ⟨_, o1, rfl, rfl, rfl⟩, ⟨_, o2, rfl, rfl, rfl⟩, ⟨_, o3, rfl, rfl, rfl⟩, ⟨_, o4, rfl, rfl, rfl⟩, ⟨_, o5, rfl, rfl, rfl⟩, ⟨_, o6, rfl, rfl, rfl⟩, ⟨_, o7, rfl, rfl, rfl⟩, ⟨_, o8, rfl, rfl, rfl⟩, ⟨_, o9, rfl, rfl, rfl⟩, ⟨_, o10, rfl, rfl, rfl⟩, ⟨_, o12, rfl, rfl, rfl⟩, ⟨_, o13, rfl, rfl, rfl⟩, ⟨_, o14, rfl, rfl, rfl⟩, ⟨_, o11, rfl, rfl, rfl⟩, ⟨_, o1, { on := 0, ground := .data }, by simp, rfl, rfl⟩, ⟨_, o3, { on := 2, ground := .data }, by simp, rfl, rfl⟩, ⟨_, o5, { on := 1, ground := .data }, by simp, rfl, rfl⟩, ⟨_, o5, { on := 3, ground := .data }, by simp, rfl, rfl⟩, ⟨_, o5, { on := 4, ground := .data }, by simp, rfl, rfl⟩, ⟨_, o8, { on := 6, ground := .data }, by simp, rfl, rfl⟩, ⟨_, o8, { on := 7, ground := .data }, by simp, rfl, rfl⟩, ⟨_, o9, { on := 8, ground := .data }, by simp, rfl, rfl⟩, ⟨_, o10, { on := 9, ground := .data }, by simp, rfl, rfl⟩, ⟨_, o12, { on := 10, ground := .data }, by simp, rfl, rfl⟩, ⟨_, o11, { on := 5, ground := .data }, by simp, rfl, rfl⟩⟩
        clear o0 o1 o2 o3 o4 o5 o6 o7 o8 o9 o10 o11 o12 o13 o14
        refine wp_region_inv follows12 (SI (regwP w6 w.heap.size w1.heap.size g5 most last l.length cap5 k hlt l[k].id [])) ?_ ?_ ?_
        · exact SI.begin rfl rfl (by intro e he; simp [regwP] at he; rcases he with rfl | rfl | rfl | rfl <;> rfl)
        · intro L a w9 hs hr hI
          have all := fun j (hj : j < ops.size) => all_listed hlow hs hr j hj
          rw [osz] at all
          have hdf := hI.df
          have b8 := hI.base (8, _) (by simp [regwP]; rfl)
          have q9 := hI.tab (12, 9, _) (by simp [regwP]; rfl) (all 12 (by decide))
          have q10 := hI.tab (13, 10, _) (by simp [regwP]; rfl) (all 13 (by decide))
          have q11 := hI.tab (14, 11, _) (by simp [regwP]; rfl) (all 14 (by decide))
          have hwd := hI.wd
          rw [if_pos (all _ (by simp [regwP]))] at hwd
          simp only at b8 q9 q10 q11
          clear hI all hr hs hlow SO
          have r8 : a.tmps[8]?.getD undef = .pointer (some ⟨w1.heap.size, 0, none⟩) := by rw [← Array.getD_eq_getD_getElem?]; exact b8
          have r9 : a.tmps[9]?.getD undef = .int .i64 l[k].id := by rw [← Array.getD_eq_getD_getElem?]; exact q9
          have r10 : a.tmps[10]?.getD undef = .bool true := by rw [← Array.getD_eq_getD_getElem?]; exact q10
          have r11 : a.tmps[11]?.getD undef = .int .i64 0 := by rw [← Array.getD_eq_getD_getElem?]; exact q11
          have hw9 : RowIs w9 w1.heap.size 31 [.int .i64 most, .int .i64 last, .slice (some ⟨g5, 0, none⟩) l.length cap5] ∧ Below w.heap.size w w9 ∧ OwnQ w9 B (.slice (some ⟨g5, 0, none⟩) l.length cap5) (l.set k { l[k] with rest := now + 50 }) := by
            rw [hwd]
            exact H9.out
          clear hwd
          obtain ⟨d0, d1, d2, _, _, _⟩ := hw9.1.sv3
          try simp only [Exit.inBlock, Exit.then]
          go_wp2
          try simp only [Exit.inBlock, Exit.then]
          refine bodyPost_ret (v := .tuple #[.agg #[.int .i64 most, .int .i64 last, .slice (some ⟨g5, 0, none⟩) l.length cap5], .int .i64 l[k].id, .bool true, .int .i64 0]) (by simp [results, Try.results21, go_sem, r8, r9, r10, r11, d0, d1, d2]; try rfl) hdf ?_
          rw [HV.out]
          exact ⟨_, rfl, hw9.2.2, hw9.2.1⟩
        · intro L a w9 i hs hi hI
          refine regw_steps SO w6 w.heap.size w1.heap.size g5 most last l.length cap5 k hlt l[k].id [] (fun u hu => ?_) ⟨_, _, _, hr6⟩ (by intro e he; cases he) _ L a w9 i hs hi hI
          have n1 : w.heap.size ≠ w1.heap.size := by omega
          have n2 : g5 ≠ w1.heap.size := by omega
          have D : ∀ (b j : Nat) (u' : Value), b ≠ w1.heap.size → w6.cell? ⟨b, j, none⟩ = some u' → u.cell? ⟨b, j, none⟩ = some u' := fun b j u' hb hu' => by
            rcases hu with hu | hu
            · rw [hu]; exact hu'
            · rw [hu]
              show (World.setCell _ _ _).cell? _ = _
              rw [World.cell?_of_block (a := ⟨b, j, none⟩) (set3_block _ hb _ _ _)]
              exact hu'
          exact ⟨D _ _ _ n1 hx6.c0, D _ _ _ n1 hx6.c1, D _ _ _ n2 c0'⟩
    · have hlt' : ¬ ((k : Int) < l.length) := by omega
      have hkn : k = l.length := by omega
      have HV : Hid (R = _) := hR.symm.trans (respq_none (t := ⟨most, last, l⟩) HNOW.out (by simp only; rw [← hkn]; exact hinv.out))
      clear hR HX hinv
      go_wp2
      generalize World.setCell _ _ _ = wA at KEEP ⊢
      obtain ⟨hrA, hbA⟩ := KEEP.out
      obtain ⟨d0, d1, d2, _, _, _⟩ := hrA.sv3
      try simp only [Exit.inBlock, Exit.then]
      refine bodyPost_ret (v := .tuple #[.agg #[.int .i64 most, .int .i64 last, .slice oa l.length cap], .int .i64 0, .bool false, .int .i64 6]) (by simp [results, Try.results21, go_sem, d0, d1, d2]; try rfl) rfl ?_
      rw [HV.out]
      exact ⟨_, rfl, HO.out.below hbA, hbA⟩
end Go.Proofs.Ytgikbpaejmdnoaa

/-
  What is due (layer 12): rows of it; pieces of a row of transactions.
-/
namespace Go.Proofs.Ytgikbpaejmdnoaa
open Go.RowKit
set_option linter.unusedVariables false
set_option maxRecDepth 20000
set_option linter.unusedSimpArgs false

def duCells (d : Du) : List Value := [.int .i64 d.id, .bool d.over, .string ⟨d.to.toArray⟩, .string ⟨d.tx.toArray⟩]
def dusCells (ds : List Du) : List Value := ds.flatMap duCells
theorem duCells_len (d : Du) : (duCells d).length = 4 := rfl
theorem dusCells_len (ds : List Du) : (dusCells ds).length = ds.length * 4 := by
  induction ds with
  | nil => rfl
  | cons c cs ih =>
    have e : dusCells (c :: cs) = duCells c ++ dusCells cs := rfl
    rw [e, List.length_append, ih, duCells_len, List.length_cons]; omega
/-- The slice v owns what is due, in a block from B on. -/
def OwnD (w : World) (B : Nat) (v : Value) (ds : List Du) : Prop := w.ownsRow B 66 4 v ds.length (dusCells ds)
theorem OwnD.nil (w : World) (B : Nat) : OwnD w B (.slice none 0 0) [] := World.ownsRow_nil _ _ _ _
theorem OwnD.below {w w' : World} {B : Nat} {v : Value} {cs : List Du} (h : OwnD w B v cs) (hb : Below w.heap.size w w') : OwnD w' B v cs := by
  obtain ⟨h1, h2⟩ := h
  refine ⟨h1, ?_⟩
  rcases h2 with h2 | ⟨g, cap, cur, hv, hg, hh, r⟩
  · exact Or.inl h2
  · exact Or.inr ⟨g, cap, cur, hv, hg, by rw [hb.block g (Array.getElem?_eq_some_iff.1 hh).1]; exact hh, r⟩
theorem OwnD.alloc {w : World} {B : Nat} {v : Value} {cs : List Du} (h : OwnD w B v cs) (o : Obj) : OwnD (w.alloc o) B v cs := World.ownsRow.alloc h o
theorem OwnD.form {w : World} {B : Nat} {v : Value} {cs : List Du} (h : OwnD w B v cs) : ∃ a cap, v = .slice a cs.length cap := by
  rcases h.2 with ⟨rfl, hn⟩ | ⟨g, cap, cur, rfl, _⟩
  · exact ⟨none, 0, by rw [hn]⟩
  · exact ⟨_, cap, rfl⟩
theorem infoDu : (Try.prog.info? 66).map (fun i => (i.zero, i.size, i.bytes)) = some (some (.agg #[.int .i64 0, .bool false, .string .empty, .string .empty]), 4, 48) := by kernel_rfl
theorem dusCells_app (a b : List Du) : dusCells (a ++ b) = dusCells a ++ dusCells b := by simp [dusCells]
theorem dus_one (cs : List Du) : ∀ u ∈ dusCells cs, u.oneCell' = true := by
  intro u hu
  simp only [dusCells, List.mem_flatMap] at hu
  obtain ⟨t, _, hu⟩ := hu
  simp [duCells] at hu
  rcases hu with rfl | rfl | rfl | rfl <;> rfl
/-- append of some that are due. -/
theorem wp_appDs {P : Program} (w : World) {ops : Array Oper} {rest : List Oper} {o : Oper} {a : Act} {Q : Exit → Act → World → Prop} (hgd : o.guard = none)
    (s x : Operand) (t : TypeId) (ho : o.op = Op.call { callee := Callee.builtin Builtin.append, args := #[s, x], argTypes := #[t, t] }) (B : Nat) (i : TypeInfo)
    (z : Value) (ht : P.underlying t = some (TypeDesc.slice 66)) (hi : P.info? 66 = some i) (hz : i.zero = some z) (hsize : i.size = 4) (hby : i.bytes = 48) (hzs : z.cells.size = 4)
    (v : Value) (cs : List Du) (hs : a.eval s = v) (hown : OwnD w B v cs) (ad : Addr) (m c : Nat) (ns : List Du) (hx : a.eval x = Value.slice (some ad) m c) (hm : ns.length = m)
    (hnews : ∀ (j : Nat) (u : Value), (dusCells ns)[j]? = some u → w.cell? (ad.add j) = some u)
    (hlen : cs.length + m ≤ 4000000) (hB : B ≤ w.heap.size)
    (h : ∀ (v' : Value) (w' : World), OwnD w' B v' (cs ++ ns) → w.grownBy w' v.ownBlock → wpList P ops Q rest (a.put o.dst v') w') : wpList P ops Q (o :: rest) a w := by
  refine wpList_append_own w hgd s x t ho B 66 i z 4 48 ht hi hz hsize hby hzs (by decide) v cs.length (dusCells cs) hs hown ad m c (dusCells ns) hx (by rw [dusCells_len, hm]) hnews (dus_one ns) (by unfold maxLen; omega) (by omega) hB ?_
  intro v' w' hown' hgr _
  refine h v' w' ?_ hgr
  unfold OwnD
  rw [dusCells_app, List.length_append, hm]
  exact hown'
theorem du_new (w : World) (c : Du) (t : TypeId) : ∀ (j : Nat) (u : Value), (dusCells [c])[j]? = some u → (w.alloc (.cells (duCells c).toArray t)).cell? ((⟨w.heap.size, 0, none⟩ : Addr).add j) = some u := by
  intro j u hj
  have e : ∀ j, (⟨w.heap.size, 0, none⟩ : Addr).add j = ⟨w.heap.size, j, none⟩ := fun j => by unfold Addr.add; split <;> simp_all
  rw [e, World.cell?_alloc_new]
  have : dusCells [c] = duCells c := by simp [dusCells]
  rw [this] at hj
  simpa using hj
theorem add_q (g o j : Nat) : (⟨g, o, none⟩ : Addr).add j = ⟨g, o + j, none⟩ := by unfold Addr.add; split <;> simp_all
theorem cqs_take {l : List Cq} {k j : Nat} {u : Value} (h : (cqsCells (l.take k))[j]? = some u) : (cqsCells l)[j]? = some u := by
  have e : cqsCells l = cqsCells (l.take k) ++ cqsCells (l.drop k) := by rw [← cqsCells_app, List.take_append_drop]
  rw [e, List.getElem?_append_left (List.getElem?_eq_some_iff.1 h).1]
  exact h
theorem cqs_drop {l : List Cq} {k j : Nat} {u : Value} (hk : k ≤ l.length) (h : (cqsCells (l.drop k))[j]? = some u) : (cqsCells l)[k * 7 + j]? = some u := by
  have e : cqsCells l = cqsCells (l.take k) ++ cqsCells (l.drop k) := by rw [← cqsCells_app, List.take_append_drop]
  have hl : (cqsCells (l.take k)).length = k * 7 := by rw [cqsCells_len, List.length_take, Nat.min_eq_left hk]
  rw [e, List.getElem?_append_right (by omega), hl, Nat.add_sub_cancel_left]
  exact h
theorem OwnQ.takeNews {w : World} {B g cap : Nat} {l : List Cq} (h : OwnQ w B (.slice (some ⟨g, 0, none⟩) l.length cap) l) (k : Nat) : ∀ (j : Nat) (u : Value), (cqsCells (l.take k))[j]? = some u → w.cell? ((⟨g, 0, none⟩ : Addr).add j) = some u :=
  fun j u hj => World.ownsRow.cells h rfl j u (cqs_take hj)
/-- What lies behind the one at k, as Go's slice of it: va. -/
theorem OwnQ.dropNews {w : World} {B g cap : Nat} {l : List Cq} (h : OwnQ w B (.slice (some ⟨g, 0, none⟩) l.length cap) l) (k : Nat) (hk : k < l.length) :
    ((.slice (if cap = k + 1 then some ⟨g, 0, none⟩ else (some ⟨g, 0, none⟩ : Option Addr).map (·.add ((k + 1) * 7))) (l.length - (k + 1)) (cap - (k + 1)) : Value) = .slice none 0 0 ∧ l.drop (k + 1) = []) ∨ ∃ ad cp, (.slice (if cap = k + 1 then some ⟨g, 0, none⟩ else (some ⟨g, 0, none⟩ : Option Addr).map (·.add ((k + 1) * 7))) (l.length - (k + 1)) (cap - (k + 1)) : Value) = .slice (some ad) (l.drop (k + 1)).length cp ∧ ∀ (j : Nat) (u : Value), (cqsCells (l.drop (k + 1)))[j]? = some u → w.cell? (ad.add j) = some u := by
  have hcap : l.length ≤ cap := by
    obtain ⟨_, hn⟩ | ⟨g', cap', hv, _, _, hc, _⟩ := h.get
    · rw [hn] at hk; simp at hk
    · injection hv with _ _ hv; omega
  refine Or.inr ?_
  by_cases hc : cap = k + 1
  · rw [if_pos hc]
    refine ⟨_, _, by rw [List.length_drop], fun j u hj => ?_⟩
    rw [List.drop_eq_nil_of_le (by omega)] at hj
    simp [cqsCells] at hj
  · rw [if_neg hc]
    refine ⟨⟨g, (k + 1) * 7, none⟩, cap - (k + 1), by rw [List.length_drop]; simp [add_q], fun j u hj => ?_⟩
    have := World.ownsRow.cells h (g := g) rfl _ u (cqs_drop (by omega) hj)
    rw [add_q] at this ⊢
    rw [Nat.zero_add] at this
    exact this
theorem oneQ_ok {t : Tq} {k : Nat} (hk : k < t.l.length) (h : ∀ c ∈ t.l, CqOK c) : (∀ c ∈ (oneQ t k t.l[k]).1.l, CqOK c) ∧ (oneQ t k t.l[k]).1.l.length ≤ t.l.length ∧ (oneQ t k t.l[k]).1.most = t.most ∧ (oneQ t k t.l[k]).1.last = t.last ∧ (oneQ t k t.l[k]).2.length ≤ 1 := by
  have hc := h _ (List.getElem_mem hk)
  have hT : ∀ c ∈ t.l.take k, CqOK c := fun c hc => h c (List.mem_of_mem_take hc)
  have hD : ∀ c ∈ t.l.drop (k + 1), CqOK c := fun c hc => h c (List.mem_of_mem_drop hc)
  have hl : (t.l.take k).length = k := by rw [List.length_take]; omega
  unfold oneQ
  split
  · rename_i hx
    obtain ⟨hr, ha⟩ := hx
    have ht : t.l[k].times + 1 ≤ 11 := by
      unfold atQ at ha
      rw [if_neg (by omega)] at ha
      split at ha
      · rename_i h2
        unfold atV at h2
        split at h2
        · omega
        · simp at h2
      · omega
    refine ⟨fun c hcm => ?_, by simp; omega, rfl, rfl, by simp⟩
    simp only at hcm
    rcases List.mem_append.1 hcm with hcm | hcm
    · rcases List.mem_append.1 hcm with hcm | hcm
      · exact hT c hcm
      · simp at hcm
        subst hcm
        exact ⟨hc.b0, hc.b1, by have := hc.t0; simp only; omega, by simp only; omega, hc.r0, hc.r1⟩
    · exact hD c hcm
  · split
    · refine ⟨fun c hcm => ?_, by simp; omega, rfl, rfl, by simp⟩
      simp only at hcm
      rcases List.mem_append.1 hcm with hcm | hcm
      · exact hT c hcm
      · exact hD c hcm
    · refine ⟨fun c hcm => ?_, by simp; omega, rfl, rfl, by simp⟩
      simp only at hcm
      rcases List.mem_append.1 hcm with hcm | hcm
      · exact hT c hcm
      · exact hD c hcm
end Go.Proofs.Ytgikbpaejmdnoaa
