/-
  Base texts, one behind another: RSv1, RSv2, RSv3, RSv4, RSv5, RSv6, RSv7.
-/
import Derived.Test.YtbnmdljlfldgoaaSvL
import Derived.Test.YtbnmdljlfldgoaaKit
import Derived.OwnWalk
import Derived.Laws.OwnMore

/-
  The document's own place and Find, over a table of transactions.
-/
namespace Go.Proofs.Ytbnmdljlfldgoaa
open Go.RowKit
set_option linter.unusedVariables false
set_option maxRecDepth 20000
set_option linter.unusedSimpArgs false

/-- The table t lies at block b; v: its row. -/
structure BoxT (w : World) (b : Nat) (t : Tb) (v : Value) : Prop where
  c0 : w.cell? ⟨b, 0, none⟩ = some (.int .i64 t.most)
  c1 : w.cell? ⟨b, 1, none⟩ = some (.int .i64 t.last)
  c2 : w.cell? ⟨b, 2, none⟩ = some v
def objT (t : Tb) (v : Value) : Obj := .cells #[.int .i64 t.most, .int .i64 t.last, v] 31
theorem boxT_new (w : World) (t : Tb) (v : Value) : BoxT (w.alloc (objT t v)) w.heap.size t v := by
  unfold objT
  constructor <;> rw [World.cell?_alloc_new] <;> rfl
theorem BoxT.below {w w' : World} {b B : Nat} {t : Tb} {v : Value} (h : BoxT w b t v) (hb : Below B w w') (hl : b < B) : BoxT w' b t v :=
  ⟨cell_bel hb hl h.c0, cell_bel hb hl h.c1, cell_bel hb hl h.c2⟩
theorem place_step {l : List Cl} {id : Int} {k : Nat} (hk : k < l.length) (hp : ∀ c ∈ l.take k, (c.id == id) = false) (he : (l[k].id == id) = false) : ∀ c ∈ l.take (k + 1), (c.id == id) = false := by
  intro c hc
  rw [List.take_succ_eq_append_getElem hk] at hc
  rcases List.mem_append.1 hc with h | h
  · exact hp c h
  · simp at h; subst h; exact he
theorem idx_pre {l : List Cl} {p : Cl → Bool} {k : Nat} (hk : k ≤ l.length) (hp : ∀ c ∈ l.take k, p c = false) : l.findIdx? p = ((l.drop k).findIdx? p).map (· + k) := by
  conv => lhs; rw [← List.take_append_drop k l]
  have h0 : (l.take k).findIdx? p = none := List.findIdx?_eq_none_iff.2 hp
  rw [List.findIdx?_append, h0, Option.none_or, List.length_take, Nat.min_eq_left hk]
theorem place_hit {l : List Cl} {id : Int} {k : Nat} (hk : k < l.length) (hp : ∀ c ∈ l.take k, (c.id == id) = false) (he : (l[k].id == id) = true) : placeT l id = k := by
  unfold placeT
  rw [idx_pre (Nat.le_of_lt hk) hp, List.drop_eq_getElem_cons hk, List.findIdx?_cons, if_pos he]
  simp
theorem place_end {l : List Cl} {id : Int} (hp : ∀ c ∈ l.take l.length, (c.id == id) = false) : placeT l id = -1 := by
  unfold placeT
  rw [idx_pre (Nat.le_refl _) hp, List.drop_eq_nil_of_le (Nat.le_refl _)]
  rfl

set_option maxHeartbeats 4000000 in
set_option maxRecDepth 100000 in
theorem refplace_any {w : World} {B : Nat} {v : Value} {t : Tb} (h : OwnC w B v t.l) {id : Int} (hn : t.l.length ≤ 1000000) :
    Calls Try.prog 27 #[tbV t v, .int .i64 id] w fun e w' => e = .returned (.int .i64 (placeT t.l id)) ∧ Below w.heap.size w w' := by
  obtain ⟨most, last, l⟩ := t
  simp only at h hn ⊢
  unfold tbV
  obtain ⟨oa, cap, rfl⟩ := h.form
  have HO := hid h
  obtain ⟨n, hnn⟩ : ∃ n, n = l.length := ⟨_, rfl⟩
  rw [← hnn] at hn HO ⊢
  have HN := hid hnn
  clear h hnn
  go_enter Try.func27, Try.ntmps27
  go_wp2
  go_loopw [5] (fun i wr => ∃ k : Nat, k ≤ n ∧ i = .int .i64 k ∧ wr = w.alloc (objT ⟨most, last, l⟩ (.slice oa n cap)) ∧ Hid (∀ c ∈ l.take k, (c.id == id) = false)) (fun i _ => n - (intOf i).toNat)
  case atStart => exact ⟨0, by omega, rfl, by first | rfl | trivial, fun c hc => by simp at hc⟩
  case round =>
    obtain ⟨k, hk, rfl, hwr, hinv⟩ := hrel
    have hbw : Below w.heap.size w wr := by rw [hwr]; exact (Below.refl _ w).alloc (Nat.le_refl _) _
    have b2 : wr.cell? ⟨w.heap.size, 2, none⟩ = some (.slice oa n cap) := by rw [hwr]; exact (boxT_new w ⟨most, last, l⟩ _).c2
    have HB := hid hbw
    have HW := hid hwr
    clear hwr
    by_cases hlt : k < n
    · have hlt' : (k : Int) < n := by omega
      have hkl : k < l.length := by rw [← HN.out]; exact hlt
      obtain ⟨_, hnil⟩ | ⟨g, cap', hv, _, hg, hcap, hat⟩ := HO.out.get
      · exfalso; rw [hnil] at hkl; simp at hkl
      injection hv with ha hl hc
      subst ha; subst hc
      have c0 := ((hat k hkl).below hbw hg).c0
      clear hat hbw
      have ST := hid (fun x => place_step (l := l) (id := id) hkl hinv.out x)
      have HT := hid (fun x => place_hit (l := l) (id := id) hkl hinv.out x)
      generalize l[k] = c at c0 ST HT
      cases heb : c.id == id
      · have hinv2 := hid (ST.out heb)
        clear ST HT hinv HO
        go_wp2
        go_roundw
        case rel => exact ⟨k + 1, by omega, by go_num, HW.out, hinv2.out⟩
        case measure => simp [intOf]; omega
      · have HV := hid (HT.out heb)
        clear ST HT hinv HO
        go_wp2
        go_ret
        exact ⟨by rw [HV.out]; rfl, HB.out⟩
    · have hlt' : ¬ ((k : Int) < n) := by omega
      obtain rfl : k = n := by omega
      have HV := hid (place_end (l := l) (id := id) (by rw [← HN.out]; exact hinv.out))
      clear hinv HO hbw
      go_wp2
      go_ret
      exact ⟨by rw [HV.out]; rfl, HB.out⟩
theorem find_step {l : List Cl} {p : Cl → Bool} {k : Nat} (hk : k < l.length) (hp : ∀ c ∈ l.take k, p c = false) (he : p l[k] = false) : ∀ c ∈ l.take (k + 1), p c = false := by
  intro c hc
  rw [List.take_succ_eq_append_getElem hk] at hc
  rcases List.mem_append.1 hc with h | h
  · exact hp c h
  · simp at h; subst h; exact he
theorem find_pre {l : List Cl} {p : Cl → Bool} {k : Nat} (hp : ∀ c ∈ l.take k, p c = false) : l.find? p = (l.drop k).find? p := by
  conv => lhs; rw [← List.take_append_drop k l]
  have h0 : (l.take k).find? p = none := List.find?_eq_none.2 fun c hc => by rw [hp c hc]; simp
  rw [List.find?_append, h0, Option.none_or]
theorem find_hitC {l : List Cl} {br hop me : List UInt8} {k : Nat} (hk : k < l.length) (hp : ∀ c ∈ l.take k, isC br hop me c = false) (he : isC br hop me l[k] = true) : findT l br hop me = (l[k].id, true) := by
  unfold findT
  rw [find_pre hp, List.drop_eq_getElem_cons hk, List.find?_cons_of_pos he]
theorem find_endC {l : List Cl} {br hop me : List UInt8} (hp : ∀ c ∈ l.take l.length, isC br hop me c = false) : findT l br hop me = (0, false) := by
  unfold findT
  rw [find_pre hp, List.drop_eq_nil_of_le (Nat.le_refl _)]
  rfl

set_option maxHeartbeats 4000000 in
set_option maxRecDepth 100000 in
theorem reffind_any {w : World} {B : Nat} {v : Value} {t : Tb} (h : OwnC w B v t.l) {br hop me : List UInt8} (hn : t.l.length ≤ 1000000) :
    Calls Try.prog 14 #[tbV t v, .string ⟨br.toArray⟩, .string ⟨hop.toArray⟩, .string ⟨me.toArray⟩] w fun e w' => e = .returned (.tuple #[.int .i64 (findT t.l br hop me).1, .bool (findT t.l br hop me).2]) ∧ Below w.heap.size w w' := by
  obtain ⟨most, last, l⟩ := t
  simp only at h hn ⊢
  unfold tbV
  obtain ⟨oa, cap, rfl⟩ := h.form
  have HO := hid h
  obtain ⟨n, hnn⟩ : ∃ n, n = l.length := ⟨_, rfl⟩
  rw [← hnn] at hn HO ⊢
  have HN := hid hnn
  clear h hnn
  go_enter Try.func14, Try.ntmps14
  go_wp2
  go_loopw [10] (fun i wr => ∃ k : Nat, k ≤ n ∧ i = .int .i64 k ∧ wr = w.alloc (objT ⟨most, last, l⟩ (.slice oa n cap)) ∧ Hid (∀ c ∈ l.take k, isC br hop me c = false)) (fun i _ => n - (intOf i).toNat)
  case atStart => exact ⟨0, by omega, rfl, by first | rfl | trivial, fun c hc => by simp at hc⟩
  case round =>
    obtain ⟨k, hk, rfl, hwr, hinv⟩ := hrel
    have hbw : Below w.heap.size w wr := by rw [hwr]; exact (Below.refl _ w).alloc (Nat.le_refl _) _
    have b2 : wr.cell? ⟨w.heap.size, 2, none⟩ = some (.slice oa n cap) := by rw [hwr]; exact (boxT_new w ⟨most, last, l⟩ _).c2
    have HB := hid hbw
    have HW := hid hwr
    clear hwr
    by_cases hlt : k < n
    · have hlt' : (k : Int) < n := by omega
      have hkl : k < l.length := by rw [← HN.out]; exact hlt
      obtain ⟨_, hnil⟩ | ⟨g, cap', hv, _, hg, hcap, hat⟩ := HO.out.get
      · exfalso; rw [hnil] at hkl; simp at hkl
      injection hv with ha hl hc
      subst ha; subst hc
      obtain ⟨c0, c1, c2, c3, _, _, _, _⟩ := (hat k hkl).below hbw hg
      clear hat hbw
      have ST := hid (fun x => find_step (l := l) (p := isC br hop me) hkl hinv.out x)
      have HT := hid (fun x => find_hitC (l := l) (br := br) (hop := hop) (me := me) hkl hinv.out x)
      generalize l[k] = c at c0 c1 c2 c3 ST HT
      cases h1 : c.br == br
      · have hinv2 := hid (ST.out (by unfold isC; rw [h1]; rfl))
        clear ST HT hinv HO
        go_wp2
        go_roundw
        case rel => exact ⟨k + 1, by omega, by go_num, HW.out, hinv2.out⟩
        case measure => simp [intOf]; omega
      cases h2 : c.hop == hop
      · have hinv2 := hid (ST.out (by unfold isC; rw [h2, Bool.false_and, Bool.and_false]))
        clear ST HT hinv HO
        go_wp2
        go_roundw
        case rel => exact ⟨k + 1, by omega, by go_num, HW.out, hinv2.out⟩
        case measure => simp [intOf]; omega
      cases h3 : c.me == me
      · have hinv2 := hid (ST.out (by unfold isC; rw [h3, Bool.and_false, Bool.and_false]))
        clear ST HT hinv HO
        go_wp2
        go_roundw
        case rel => exact ⟨k + 1, by omega, by go_num, HW.out, hinv2.out⟩
        case measure => simp [intOf]; omega
      · have HV := hid (HT.out (by unfold isC; rw [h1, h2, h3]; rfl))
        clear ST HT hinv HO
        go_wp2
        go_ret2
        exact ⟨by rw [HV.out]; rfl, HB.out⟩
    · have hlt' : ¬ ((k : Int) < n) := by omega
      obtain rfl : k = n := by omega
      have HV := hid (find_endC (l := l) (br := br) (hop := hop) (me := me) (by rw [← HN.out]; exact hinv.out))
      clear hinv HO hbw
      go_wp2
      go_ret2
      exact ⟨by rw [HV.out]; rfl, HB.out⟩
end Go.Proofs.Ytbnmdljlfldgoaa

/-
  The document's own Cached.
-/
namespace Go.Proofs.Ytbnmdljlfldgoaa
open Go.RowKit
set_option linter.unusedVariables false
set_option maxRecDepth 20000
set_option linter.unusedSimpArgs false

theorem place_two (l : List Cl) (id : Int) : (placeT l id = -1 ∧ l.find? (fun c => c.id == id) = none ∧ l.findIdx? (fun c => c.id == id) = none) ∨
    ∃ k, ∃ hk : k < l.length, placeT l id = k ∧ l.find? (fun c => c.id == id) = some l[k] ∧ l.findIdx? (fun c => c.id == id) = some k := by
  unfold placeT
  cases h : l.findIdx? (fun c => c.id == id) with
  | none =>
    refine Or.inl ⟨rfl, ?_, rfl⟩
    rw [List.findIdx?_eq_none_iff] at h
    exact List.find?_eq_none.2 fun c hc => by rw [h c hc]; simp
  | some k =>
    rw [List.findIdx?_eq_some_iff_getElem] at h
    obtain ⟨hk, h1, h2⟩ := h
    refine Or.inr ⟨k, hk, rfl, ?_, rfl⟩
    have hp : ∀ c ∈ l.take k, (c.id == id) = false := fun c hc => by
      obtain ⟨j, hj, rfl⟩ := List.mem_iff_getElem.1 hc
      rw [List.length_take] at hj
      rw [List.getElem_take]
      have := h2 j (by omega)
      simpa using this
    rw [find_pre hp, List.drop_eq_getElem_cons hk]
    exact List.find?_cons_of_pos (p := fun c : Cl => c.id == id) h1
theorem sv_row2 (w : World) (v0 v1 : Value) (t : TypeId) : RowIs (w.alloc (.cells #[v0, v1] t)) w.heap.size t [v0, v1] := by
  unfold RowIs; rw [heap_alloc_new]
theorem sv_store2 {w : World} {b : Nat} {e : TypeId} {u0 u1 : Value} (h : RowIs w b e [u0, u1]) (v0 v1 : Value) : RowIs ((w.setCell ⟨b, 0, none⟩ v0).setCell ⟨b, 1, none⟩ v1) b e [v0, v1] := by
  have := (h.set 0 v0).set 1 v1
  simpa using this
theorem sv_below2 {B : Nat} {a w : World} (h : Below B a w) (b : Nat) (hb : B ≤ b) (v0 v1 : Value) : Below B a ((w.setCell ⟨b, 0, none⟩ v0).setCell ⟨b, 1, none⟩ v1) := (h.setCell hb _).setCell hb _
def sentV (r : List UInt8 × List UInt8) : Value := .agg #[.string ⟨r.1.toArray⟩, .string ⟨r.2.toArray⟩]

set_option maxHeartbeats 4000000 in
set_option maxRecDepth 100000 in
theorem refcached_any {w : World} {B : Nat} {v : Value} {t : Tb} (h : OwnC w B v t.l) {id : Int} (hn : t.l.length ≤ 1000000) :
    Calls Try.prog 16 #[tbV t v, .int .i64 id] w fun e w' => e = .returned (.tuple #[sentV (cachedT t id).1, .bool (cachedT t id).2]) ∧ Below w.heap.size w w' := by
  obtain ⟨most, last, l⟩ := t
  simp only at h hn ⊢
  obtain ⟨oa, cap, rfl⟩ := h.form
  have hbw : Below w.heap.size w (w.alloc (objT ⟨most, last, l⟩ (.slice oa l.length cap))) := (Below.refl _ w).alloc (Nat.le_refl _) _
  have hl1 := alloc_lt w (objT ⟨most, last, l⟩ (.slice oa l.length cap))
  have hbx := boxT_new w ⟨most, last, l⟩ (.slice oa l.length cap)
  generalize hw1 : w.alloc (objT ⟨most, last, l⟩ (.slice oa l.length cap)) = w1 at hbw hbx hl1
  have hr0 := sv_row2 w1 (.string ⟨#[]⟩) (.string ⟨#[]⟩) 39
  have hb1 : Below w1.heap.size w1 (w1.alloc (.cells #[.string ⟨#[]⟩, .string ⟨#[]⟩] 39)) := (Below.refl _ w1).alloc (Nat.le_refl _) _
  have hl2 := alloc_lt w1 (.cells #[.string ⟨#[]⟩, .string ⟨#[]⟩] 39)
  have hO1 := (h.below hbw).below hb1
  have hx1 := hbx.below hb1 hl1
  go_enter Try.func16, Try.ntmps16
  unfold tbV
  obtain ⟨z0, z1, z2⟩ := hx1
  simp only at z0 z1 z2
  unfold objT at hw1
  go_wp2_with fail
  refine (refplace_any (t := ⟨most, last, l⟩) hO1 (id := id) (by simp only; omega)).mono ?_
  rintro e w2 ⟨rfl, hw2⟩
  have hO2 := hO1.below hw2
  have hr2 := hr0.below hw2 hl2
  obtain ⟨x0, x1, x2⟩ := (hbx.below hb1 hl1).below hw2 (Nat.lt_trans hl1 hl2)
  simp only at x0 x1 x2
  have hb2 : Below w.heap.size w w2 := (hbw.trans (hb1.mono hbw.size)).trans (hw2.mono ((hbw.trans (hb1.mono hbw.size)).size))
  have hl12 : w.heap.size ≤ w1.heap.size := Nat.le_of_lt hl1
  clear z0 z1 z2 hO1 hr0 hw2 hbx hb1 hbw h hl2 hw1 hl1
  generalize w1.heap.size = b1 at hr2 hl12 ⊢
  obtain ⟨f0, f1⟩ : w2.frozen? ⟨b1, 0, none⟩ = false ∧ w2.frozen? ⟨b1, 1, none⟩ = false := ⟨hr2.frozen 0, hr2.frozen 1⟩
  obtain ⟨y0, y1⟩ : w2.cell? ⟨b1, 0, none⟩ = some (.string ⟨#[]⟩) ∧ w2.cell? ⟨b1, 1, none⟩ = some (.string ⟨#[]⟩) := ⟨hr2.cell 0 (by simp), hr2.cell 1 (by simp)⟩
  have hAll : ∀ ra rb : Array UInt8, Hid (RowIs ((w2.setCell ⟨b1, 0, none⟩ (.string ⟨ra⟩)).setCell ⟨b1, 1, none⟩ (.string ⟨rb⟩)) b1 39 [.string ⟨ra⟩, .string ⟨rb⟩] ∧ Below w.heap.size w ((w2.setCell ⟨b1, 0, none⟩ (.string ⟨ra⟩)).setCell ⟨b1, 1, none⟩ (.string ⟨rb⟩))) := fun ra rb => ⟨sv_store2 hr2 _ _, sv_below2 hb2 b1 hl12 _ _⟩
  clear hr2 hb2
  simp only
  rcases place_two l id with ⟨hp, hf, _⟩ | ⟨k, hk, hp, hf, _⟩
  · have HC : Hid (cachedT ⟨most, last, l⟩ id = (([], []), false)) := show _ = _ by unfold cachedT; simp only; rw [hf]
    have HA := hAll #[] #[]
    rw [hp]
    clear hf hp hAll hO2
    go_wp2
    generalize World.setCell _ _ _ = wA at HA ⊢
    obtain ⟨hrA, hbA⟩ := HA.out
    obtain ⟨d0, d1⟩ : wA.cell? ⟨b1, 0, none⟩ = some (.string ⟨#[]⟩) ∧ wA.cell? ⟨b1, 1, none⟩ = some (.string ⟨#[]⟩) := ⟨hrA.cell 0 (by simp), hrA.cell 1 (by simp)⟩
    try simp only [Exit.inBlock, Exit.then]
    refine bodyPost_ret (v := .tuple #[.agg #[.string ⟨#[]⟩, .string ⟨#[]⟩], .bool false]) (by simp [results, Try.results16, go_sem, d0, d1]; try rfl) rfl ?_
    exact ⟨by rw [HC.out]; rfl, hbA⟩
  · obtain ⟨_, hnil⟩ | ⟨g, cap', hv, _, hg, hcap, hat⟩ := hO2.get
    · exfalso; rw [hnil] at hk; simp at hk
    injection hv with ha hl hc
    subst ha; subst hc
    have c5 := (hat k hk).c5
    have c6 := (hat k hk).c6
    have c7 := (hat k hk).c7
    have HC : Hid (cachedT ⟨most, last, l⟩ id = if l[k].told = true then ((l[k].to, l[k].tx), true) else (([], []), false)) := show _ = _ by unfold cachedT; simp only; rw [hf]
    rw [hp]
    have hkl : (k : Int) < (l.length : Int) := by omega
    have hk0 : ¬ ((k : Int) < 0) := by omega
    clear hf hp hO2 hat hl
    generalize l[k] = c at HC c5 c6 c7
    cases htold : c.told
    · rw [htold] at HC c5
      have HA := hAll #[] #[]
      clear hAll
      go_wp2
      generalize World.setCell _ _ _ = wA at HA ⊢
      obtain ⟨hrA, hbA⟩ := HA.out
      obtain ⟨d0, d1⟩ : wA.cell? ⟨b1, 0, none⟩ = some (.string ⟨#[]⟩) ∧ wA.cell? ⟨b1, 1, none⟩ = some (.string ⟨#[]⟩) := ⟨hrA.cell 0 (by simp), hrA.cell 1 (by simp)⟩
      try simp only [Exit.inBlock, Exit.then]
      refine bodyPost_ret (v := .tuple #[.agg #[.string ⟨#[]⟩, .string ⟨#[]⟩], .bool false]) (by simp [results, Try.results16, go_sem, d0, d1]; try rfl) rfl ?_
      exact ⟨by rw [HC.out]; rfl, hbA⟩
    · rw [htold] at HC c5
      have HA := hAll c.to.toArray c.tx.toArray
      clear hAll
      go_wp2
      generalize World.setCell _ _ _ = wA at HA ⊢
      obtain ⟨hrA, hbA⟩ := HA.out
      obtain ⟨d0, d1⟩ : wA.cell? ⟨b1, 0, none⟩ = some (.string ⟨c.to.toArray⟩) ∧ wA.cell? ⟨b1, 1, none⟩ = some (.string ⟨c.tx.toArray⟩) := ⟨hrA.cell 0 (by simp), hrA.cell 1 (by simp)⟩
      try simp only [Exit.inBlock, Exit.then]
      refine bodyPost_ret (v := .tuple #[.agg #[.string ⟨c.to.toArray⟩, .string ⟨c.tx.toArray⟩], .bool true]) (by simp [results, Try.results16, go_sem, d0, d1]; try rfl) rfl ?_
      exact ⟨by rw [HC.out]; rfl, hbA⟩
end Go.Proofs.Ytbnmdljlfldgoaa

/-
  The document's own Ints: rows of numbers compared.
-/
namespace Go.Proofs.Ytbnmdljlfldgoaa
open Go.RowKit
set_option linter.unusedVariables false
set_option maxRecDepth 20000
set_option linter.unusedSimpArgs false

/-- The slice v shows the numbers xs. -/
def IdsAt (w : World) (v : Value) (xs : List Int) : Prop :=
  ∃ ao cap, v = .slice ao xs.length cap ∧ (xs ≠ [] → ∃ g off, ao = some ⟨g, off, none⟩ ∧ g < w.heap.size ∧ ∀ k (hk : k < xs.length), w.cell? ⟨g, off + k, none⟩ = some (.int .i64 xs[k]))
def idCells (xs : List Int) : List Value := xs.map (.int .i64)
theorem IdsAt.nil (w : World) : IdsAt w (.slice none 0 0) [] := ⟨none, 0, rfl, fun h => absurd rfl h⟩
theorem IdsAt.below {w w' : World} {v : Value} {xs : List Int} (h : IdsAt w v xs) (hb : Below w.heap.size w w') : IdsAt w' v xs := by
  obtain ⟨ao, cap, hv, hr⟩ := h
  refine ⟨ao, cap, hv, fun hne => ?_⟩
  obtain ⟨g, off, he, hg, hk⟩ := hr hne
  exact ⟨g, off, he, Nat.lt_of_lt_of_le hg hb.size, fun k hk' => cell_bel hb hg (hk k hk')⟩
theorem own_ids {w : World} {B : Nat} {e : TypeId} {v : Value} {xs : List Int} (h : Own w B e v (idCells xs)) : IdsAt w v xs := by
  have hl : (idCells xs).length = xs.length := by simp [idCells]
  have h' : w.ownsRow B e 1 v xs.length (idCells xs) := by have := h; unfold Own at this; rwa [hl] at this
  rcases h'.2 with ⟨rfl, hn⟩ | ⟨g, cap, cur, rfl, hb, hg, r⟩
  · have : xs = [] := List.eq_nil_of_length_eq_zero hn
    subst this
    exact IdsAt.nil w
  · refine ⟨_, cap, rfl, fun _ => ⟨g, 0, rfl, (Array.getElem?_eq_some_iff.1 hg).1, fun k hk => ?_⟩⟩
    have e : ∀ j, (⟨g, 0, none⟩ : Addr).add j = ⟨g, j, none⟩ := fun j => by unfold Addr.add; split <;> simp_all
    have := World.ownsRow.cells h' (g := g) rfl k (.int .i64 xs[k]) (by simp [idCells, List.getElem?_map, List.getElem?_eq_getElem hk])
    rw [e] at this
    rw [Nat.zero_add]
    exact this
theorem ids_more {l1 l2 : List Int} {k : Nat} (h1 : k < l1.length) (h2 : k < l2.length) (h : l1.take k = l2.take k) (he : l1[k] = l2[k]) : l1.take (k + 1) = l2.take (k + 1) := by
  rw [List.take_succ_eq_append_getElem h1, List.take_succ_eq_append_getElem h2, h, he]

set_option maxHeartbeats 4000000 in
set_option maxRecDepth 100000 in
theorem refints_any {w : World} {v1 v2 : Value} {l1 l2 : List Int} (h1 : IdsAt w v1 l1) (h2 : IdsAt w v2 l2) (hn1 : l1.length ≤ 1000000) (hn2 : l2.length ≤ 1000000) :
    Calls Try.prog 21 #[v1, v2] w fun e w' => e = .returned (.bool (decide (l1 = l2))) ∧ Below w.heap.size w w' := by
  obtain ⟨a1, c1, rfl, hr1⟩ := h1
  obtain ⟨a2, c2, rfl, hr2⟩ := h2
  have HR1 := hid hr1
  have HR2 := hid hr2
  clear hr1 hr2
  obtain ⟨n1, hnn1⟩ : ∃ n, n = l1.length := ⟨_, rfl⟩
  obtain ⟨n2, hnn2⟩ : ∃ n, n = l2.length := ⟨_, rfl⟩
  rw [← hnn1] at hn1 ⊢
  rw [← hnn2] at hn2 ⊢
  have HN1 := hid hnn1
  have HN2 := hid hnn2
  clear hnn1 hnn2
  by_cases hne : n1 = n2
  · subst hne
    have hnb : ((n1 : Int) != (n1 : Int)) = false := by simp
    go_enter Try.func21, Try.ntmps21
    go_wp2
    go_loopw [5] (fun i wr => ∃ k : Nat, k ≤ n1 ∧ i = .int .i64 k ∧ Hid (l1.take k = l2.take k) ∧ Hid (Below w.heap.size w wr)) (fun i _ => n1 - (intOf i).toNat)
    case atStart => exact ⟨0, by omega, rfl, rfl, Below.refl _ _⟩
    case round =>
      obtain ⟨k, hk, rfl, hinv, hb⟩ := hrel
      by_cases hlt : k < n1
      · have hlt' : (k : Int) < n1 := by omega
        have hk1 : k < l1.length := by rw [← HN1.out]; exact hlt
        have hk2 : k < l2.length := by rw [← HN2.out]; exact hlt
        obtain ⟨g1, o1, ha1, hg1, hc1⟩ := HR1.out (by intro e; rw [e] at hk1; simp at hk1)
        obtain ⟨g2, o2, ha2, hg2, hc2⟩ := HR2.out (by intro e; rw [e] at hk2; simp at hk2)
        subst ha1
        subst ha2
        have x0 := cell_bel hb.out hg1 (hc1 k hk1)
        have y0 := cell_bel hb.out hg2 (hc2 k hk2)
        have x0d : wr.drew.cell? _ = _ := x0
        have y0d : wr.drew.cell? _ = _ := y0
        have MO := hid (fun e => ids_more hk1 hk2 hinv.out e)
        have NE : Hid (¬ l1[k] = l2[k] → ¬ l1 = l2) := fun hx e => hx (by subst e; rfl)
        clear hc1 hc2
        generalize l1[k] = t1 at x0 x0d MO NE
        generalize l2[k] = t2 at y0 y0d MO NE
        by_cases he : t1 = t2
        · have hde : (t1 != t2) = false := by rw [he]; simp
          have MO2 := hid (MO.out he)
          clear MO NE hinv HR1 HR2 he
          go_wp2
          go_region
          all_goals (
            go_wp2
            go_roundw
            case rel => exact ⟨k + 1, by omega, by go_num, MO2.out, hb.out.drew⟩
            case measure => simp [intOf]; omega)
        · have hde : (t1 != t2) = true := by rw [bne_iff_ne]; exact he
          have hl : Hid (decide (l1 = l2) = false) := decide_eq_false (NE.out he)
          clear MO NE hinv HR1 HR2 he
          go_wp2
          go_region
          all_goals (
            go_wp2
            go_ret
            exact ⟨by rw [hl.out]; rfl, hb.out.drew⟩)
      · have hlt' : ¬ ((k : Int) < n1) := by omega
        obtain rfl : k = n1 := by omega
        have hl : Hid (decide (l1 = l2) = true) := decide_eq_true (by have := hinv.out; rwa [List.take_of_length_le (by rw [← HN1.out]; omega), List.take_of_length_le (by rw [← HN2.out]; omega)] at this)
        clear hinv HR1 HR2
        go_wp2
        go_ret
        exact ⟨by rw [hl.out]; rfl, hb.out⟩
  · have hnb : ((n1 : Int) != (n2 : Int)) = true := by rw [bne_iff_ne]; omega
    have hl : Hid (decide (l1 = l2) = false) := decide_eq_false (fun e => hne (by rw [HN1.out, HN2.out, e]))
    clear HR1 HR2
    go_enter Try.func21, Try.ntmps21
    go_wp2
    go_ret
    exact ⟨by rw [hl.out]; rfl, Below.refl _ _⟩
end Go.Proofs.Ytbnmdljlfldgoaa

/-
  append of transactions and of numbers.
-/
namespace Go.Proofs.Ytbnmdljlfldgoaa
open Go.RowKit
set_option linter.unusedVariables false
set_option maxRecDepth 20000
set_option linter.unusedSimpArgs false

theorem infoCl : (Try.prog.info? 71).map (fun i => (i.zero, i.size, i.bytes)) = some (some (.agg #[.int .i64 0, .string .empty, .string .empty, .string .empty, .int .i64 0, .bool false, .string .empty, .string .empty]), 8, 104) := by kernel_rfl
theorem infoId : (Try.prog.info? 3).map (fun i => (i.zero, i.size, i.bytes)) = some (some (.int .i64 0), 1, 8) := by kernel_rfl
theorem sv_parts {P : Program} {e : TypeId} {z : Option Value} {n b : Nat} (h : (P.info? e).map (fun i => (i.zero, i.size, i.bytes)) = some (z, n, b)) : ∃ i, P.info? e = some i ∧ i.zero = z ∧ i.size = n ∧ i.bytes = b := by
  cases hi : P.info? e with
  | none => rw [hi] at h; simp at h
  | some i => rw [hi] at h; simp at h; exact ⟨i, rfl, h⟩
theorem clsCells_app (a b : List Cl) : clsCells (a ++ b) = clsCells a ++ clsCells b := by simp [clsCells]
theorem cls_one (cs : List Cl) : ∀ u ∈ clsCells cs, u.oneCell' = true := by
  intro u hu
  simp only [clsCells, List.mem_flatMap] at hu
  obtain ⟨t, _, hu⟩ := hu
  simp [clCells] at hu
  rcases hu with rfl | rfl | rfl | rfl | rfl | rfl | rfl | rfl <;> rfl
theorem sv_rows_ne {w : World} {B1 B2 e1 e2 s1 s2 n1 n2 : Nat} {v1 v2 : Value} {x1 x2 : List Value} (h1 : w.ownsRow B1 e1 s1 v1 n1 x1) (h2 : w.ownsRow B2 e2 s2 v2 n2 x2) (hne : e2 ≠ e1) : v2.ownBlock = none ∨ v2.ownBlock ≠ v1.ownBlock := by
  rcases h2.2 with ⟨rfl, _⟩ | ⟨g2, c2, u2, rfl, _, hg2, _⟩
  · exact Or.inl rfl
  · right
    rcases h1.2 with ⟨rfl, _⟩ | ⟨g1, c1, u1, rfl, _, hg1, _⟩
    · simp [Value.ownBlock]
    · simp only [Value.ownBlock]
      intro e
      injection e with e
      rw [e, hg1] at hg2
      injection hg2 with hg2
      injection hg2 with _ hg2
      exact hne hg2.symm
/-- append of some transactions. -/
theorem wp_appCs {P : Program} (w : World) {ops : Array Oper} {rest : List Oper} {o : Oper} {a : Act} {Q : Exit → Act → World → Prop} (hgd : o.guard = none)
    (s x : Operand) (t : TypeId) (ho : o.op = Op.call { callee := Callee.builtin Builtin.append, args := #[s, x], argTypes := #[t, t] }) (B : Nat) (i : TypeInfo)
    (z : Value) (ht : P.underlying t = some (TypeDesc.slice 71)) (hi : P.info? 71 = some i) (hz : i.zero = some z) (hsize : i.size = 8) (hby : i.bytes = 104) (hzs : z.cells.size = 8)
    (v : Value) (cs : List Cl) (hs : a.eval s = v) (hown : OwnC w B v cs) (ad : Addr) (m c : Nat) (ns : List Cl) (hx : a.eval x = Value.slice (some ad) m c) (hm : ns.length = m)
    (hnews : ∀ (j : Nat) (u : Value), (clsCells ns)[j]? = some u → w.cell? (ad.add j) = some u)
    (hlen : cs.length + m ≤ 4000000) (hB : B ≤ w.heap.size)
    (h : ∀ (v' : Value) (w' : World), OwnC w' B v' (cs ++ ns) → w.grownBy w' v.ownBlock → wpList P ops Q rest (a.put o.dst v') w') : wpList P ops Q (o :: rest) a w := by
  refine wpList_append_own w hgd s x t ho B 71 i z 8 104 ht hi hz hsize hby hzs (by decide) v cs.length (clsCells cs) hs hown ad m c (clsCells ns) hx (by rw [clsCells_len, hm]) hnews (cls_one ns) (by unfold maxLen; omega) (by omega) hB ?_
  intro v' w' hown' hgr _
  refine h v' w' ?_ hgr
  unfold OwnC
  rw [clsCells_app, List.length_append, hm]
  exact hown'
/-- append of some numbers. -/
theorem wp_appIs {P : Program} (w : World) {ops : Array Oper} {rest : List Oper} {o : Oper} {a : Act} {Q : Exit → Act → World → Prop} (hgd : o.guard = none)
    (s x : Operand) (t : TypeId) (ho : o.op = Op.call { callee := Callee.builtin Builtin.append, args := #[s, x], argTypes := #[t, t] }) (B : Nat) (i : TypeInfo)
    (z : Value) (ht : P.underlying t = some (TypeDesc.slice 3)) (hi : P.info? 3 = some i) (hz : i.zero = some z) (hsize : i.size = 1) (hby : i.bytes = 8) (hzs : z.cells.size = 1)
    (v : Value) (xs : List Int) (hs : a.eval s = v) (hown : Own w B 3 v (idCells xs)) (ad : Addr) (c : Nat) (y : Int) (hx : a.eval x = Value.slice (some ad) 1 c)
    (hnews : w.cell? (ad.add 0) = some (.int .i64 y))
    (hlen : xs.length ≤ 4000000) (hB : B ≤ w.heap.size)
    (h : ∀ (v' : Value) (w' : World), Own w' B 3 v' (idCells (xs ++ [y])) → w.grownBy w' v.ownBlock → wpList P ops Q rest (a.put o.dst v') w') : wpList P ops Q (o :: rest) a w := by
  have hl : (idCells xs).length = xs.length := by simp [idCells]
  refine wpList_append_own w hgd s x t ho B 3 i z 1 8 ht hi hz hsize hby hzs (by decide) v (idCells xs).length (idCells xs) hs hown ad 1 c [.int .i64 y] hx rfl ?_ (by intro u hu; simp at hu; subst hu; rfl) (by unfold maxLen; omega) (by omega) hB ?_
  · intro j u hj
    match j, hj with
    | 0, hj => simp at hj; subst hj; exact hnews
  · intro v' w' hown' hgr _
    refine h v' w' ?_ hgr
    have e : idCells (xs ++ [y]) = idCells xs ++ [.int .i64 y] := by simp [idCells]
    unfold Own
    rw [e, List.length_append]
    exact hown'
theorem cl_new (w : World) (c : Cl) (t : TypeId) : ∀ (j : Nat) (u : Value), (clsCells [c])[j]? = some u → (w.alloc (.cells (clCells c).toArray t)).cell? ((⟨w.heap.size, 0, none⟩ : Addr).add j) = some u := by
  intro j u hj
  have e : ∀ j, (⟨w.heap.size, 0, none⟩ : Addr).add j = ⟨w.heap.size, j, none⟩ := fun j => by unfold Addr.add; split <;> simp_all
  rw [e, World.cell?_alloc_new]
  have : clsCells [c] = clCells c := by simp [clsCells]
  rw [this] at hj
  simpa using hj
end Go.Proofs.Ytbnmdljlfldgoaa

/-
  The document's own Expire.
-/
namespace Go.Proofs.Ytbnmdljlfldgoaa
open Go.RowKit
set_option linter.unusedVariables false
set_option maxRecDepth 20000
set_option linter.unusedSimpArgs false

theorem sv_row3 (w : World) (v0 v1 v2 : Value) (t : TypeId) : RowIs (w.alloc (.cells #[v0, v1, v2] t)) w.heap.size t [v0, v1, v2] := by
  unfold RowIs; rw [heap_alloc_new]
theorem sv_store3 {w : World} {b : Nat} {e : TypeId} {u0 u1 u2 : Value} (h : RowIs w b e [u0, u1, u2]) (v0 v1 v2 : Value) : RowIs (((w.setCell ⟨b, 0, none⟩ v0).setCell ⟨b, 1, none⟩ v1).setCell ⟨b, 2, none⟩ v2) b e [v0, v1, v2] := by
  have := ((h.set 0 v0).set 1 v1).set 2 v2
  simpa using this
theorem sv_below3 {B : Nat} {a w : World} (h : Below B a w) (b : Nat) (hb : B ≤ b) (v0 v1 v2 : Value) : Below B a (((w.setCell ⟨b, 0, none⟩ v0).setCell ⟨b, 1, none⟩ v1).setCell ⟨b, 2, none⟩ v2) := ((h.setCell hb _).setCell hb _).setCell hb _
structure Row3 (w : World) (b : Nat) (v0 v1 v2 : Value) : Prop where
  c0 : w.cell? ⟨b, 0, none⟩ = some v0
  c1 : w.cell? ⟨b, 1, none⟩ = some v1
  c2 : w.cell? ⟨b, 2, none⟩ = some v2
  f0 : w.frozen? ⟨b, 0, none⟩ = false
  f1 : w.frozen? ⟨b, 1, none⟩ = false
  f2 : w.frozen? ⟨b, 2, none⟩ = false
theorem RowIs.sv3 {w : World} {b : Nat} {e : TypeId} {v0 v1 v2 : Value} (h : RowIs w b e [v0, v1, v2]) : Row3 w b v0 v1 v2 := ⟨h.cell 0 (by simp), h.cell 1 (by simp), h.cell 2 (by simp), h.frozen 0, h.frozen 1, h.frozen 2⟩
theorem sv_mono {w : World} {B C e s n : Nat} {v : Value} {xs : List Value} (h : w.ownsRow B e s v n xs) (hc : C ≤ B) : w.ownsRow C e s v n xs := by
  obtain ⟨h1, h2⟩ := h
  refine ⟨h1, ?_⟩
  rcases h2 with h2 | ⟨g, cap, cur, hv, hg, r⟩
  · exact Or.inl h2
  · exact Or.inr ⟨g, cap, cur, hv, Nat.le_trans hc hg, r⟩
theorem sv_set3 {w : World} {B e s n b : Nat} {v : Value} {xs : List Value} (h : w.ownsRow B e s v n xs) (hb : b < B) (v0 v1 v2 : Value) : (((w.setCell ⟨b, 0, none⟩ v0).setCell ⟨b, 1, none⟩ v1).setCell ⟨b, 2, none⟩ v2).ownsRow B e s v n xs :=
  ownsRow_setCell_below (ownsRow_setCell_below (ownsRow_setCell_below h hb _) hb _) hb _
def overB (now : Int) (c : Cl) : Bool := decide (c.over ≤ now)
def leftC (l : List Cl) (now : Int) : List Cl := l.filter fun c => !overB now c
def goneC (l : List Cl) (now : Int) : List Int := (l.filter (overB now)).map Cl.id
theorem expire_eq (t : Tb) (now : Int) : expireT t now = (⟨t.most, t.last, leftC t.l now⟩, goneC t.l now) := rfl
theorem left_step {l : List Cl} {now : Int} {k : Nat} (hk : k < l.length) : leftC (l.take (k + 1)) now = leftC (l.take k) now ++ (if overB now l[k] = true then [] else [l[k]]) := by
  rw [List.take_succ_eq_append_getElem hk]
  unfold leftC
  rw [List.filter_append]
  cases h : overB now l[k] <;> simp [h]
theorem gone_step {l : List Cl} {now : Int} {k : Nat} (hk : k < l.length) : goneC (l.take (k + 1)) now = goneC (l.take k) now ++ (if overB now l[k] = true then [l[k].id] else []) := by
  rw [List.take_succ_eq_append_getElem hk]
  unfold goneC
  rw [List.filter_append, List.map_append]
  cases h : overB now l[k] <;> simp [h]
theorem left_len (l : List Cl) (now : Int) (k : Nat) : (leftC (l.take k) now).length ≤ k := by
  unfold leftC
  exact Nat.le_trans (List.length_filter_le _ _) (by rw [List.length_take]; omega)
theorem gone_len (l : List Cl) (now : Int) (k : Nat) : (goneC (l.take k) now).length ≤ k := by
  unfold goneC
  rw [List.length_map]
  exact Nat.le_trans (List.length_filter_le _ _) (by rw [List.length_take]; omega)
/-- The rows that Expire has made so far. -/
structure Made (W : World) (wr : World) (l : List Cl) (g : List Int) (va vg : Value) : Prop where
  a : OwnC wr W.heap.size va l
  b : Own wr W.heap.size 3 vg (idCells g)
  c : Below W.heap.size W wr
theorem intNe : 3 ≠ 71 := by decide
theorem Made.addC {W wr w' : World} {l l' : List Cl} {g : List Int} {va vg v' : Value} {o : Obj} (h : Made W wr l g va vg) (h' : OwnC w' W.heap.size v' l') (hgr : (wr.alloc o).grownBy w' va.ownBlock) : Made W w' l' g v' vg := by
  have hs := h.c.size
  have a1 := h.a.alloc o
  have b1 := h.b.alloc o
  refine ⟨h', ?_, (h.c.alloc hs o).grown hgr (Nat.le_trans hs (by simp)) fun k hk => (World.ownsRow.lt h.a k hk).1⟩
  exact World.ownsRow.kept b1 hgr (sv_rows_ne a1 b1 intNe)
theorem Made.addI {W wr w' : World} {l : List Cl} {g g' : List Int} {va vg v' : Value} {o : Obj} (h : Made W wr l g va vg) (h' : Own w' W.heap.size 3 v' (idCells g')) (hgr : (wr.alloc o).grownBy w' vg.ownBlock) : Made W w' l g' va v' := by
  have hs := h.c.size
  have a1 := h.a.alloc o
  have b1 := h.b.alloc o
  refine ⟨?_, h', (h.c.alloc hs o).grown hgr (Nat.le_trans hs (by simp)) fun k hk => (World.ownsRow.lt h.b k hk).1⟩
  exact World.ownsRow.kept a1 hgr (sv_rows_ne b1 a1 intNe.symm)

set_option maxHeartbeats 4000000 in
set_option maxRecDepth 100000 in
theorem refexpire_any {w : World} {B : Nat} {v : Value} {t : Tb} (h : OwnC w B v t.l) {now : Int} (hn : t.l.length ≤ 1000000) :
    Calls Try.prog 24 #[tbV t v, .int .i64 now] w fun e w' => ∃ v1 v2, e = .returned (.tuple #[tbV (expireT t now).1 v1, v2]) ∧ OwnC w' w.heap.size v1 (expireT t now).1.l ∧ Own w' w.heap.size 3 v2 (idCells (expireT t now).2) ∧ Below w.heap.size w w' := by
  obtain ⟨i0, hi, hz0, hz1, hz2⟩ := info_parts infoCl
  obtain ⟨i1, hj, hy0, hy1, hy2⟩ := info_parts infoId
  obtain ⟨most, last, l⟩ := t
  rw [expire_eq]
  simp only at h hn ⊢
  obtain ⟨oa, cap, rfl⟩ := h.form
  have hb1 : Below w.heap.size w (w.alloc (objT ⟨most, last, l⟩ (.slice oa l.length cap))) := (Below.refl _ w).alloc (Nat.le_refl _) _
  have hl1 := alloc_lt w (objT ⟨most, last, l⟩ (.slice oa l.length cap))
  have hbx := boxT_new w ⟨most, last, l⟩ (.slice oa l.length cap)
  generalize hw1 : w.alloc (objT ⟨most, last, l⟩ (.slice oa l.length cap)) = w1 at hb1 hbx hl1
  have hr0 := sv_row3 w1 (.int .i64 0) (.int .i64 0) (.slice none 0 0) 31
  have hb2 : Below w1.heap.size w1 (w1.alloc (.cells #[.int .i64 0, .int .i64 0, .slice none 0 0] 31)) := (Below.refl _ w1).alloc (Nat.le_refl _) _
  have hl2 := alloc_lt w1 (.cells #[.int .i64 0, .int .i64 0, .slice none 0 0] 31)
  have hO1 := (h.below hb1).below hb2
  have hx1 := hbx.below hb2 hl1
  have hbW := hb1.trans (hb2.mono hb1.size)
  unfold objT at hw1
  go_enter Try.func24, Try.ntmps24
  unfold tbV
  go_wp2
  generalize hW : w1.alloc (.cells #[.int .i64 0, .int .i64 0, .slice none 0 0] 31) = W at hr0 hb2 hl2 hO1 hx1 hbW ⊢
  go_loopw [8, 6, 7] (fun i va vg wr => ∃ k : Nat, k ≤ l.length ∧ i = .int .i64 k ∧ Hid (Made W wr (leftC (l.take k) now) (goneC (l.take k) now) va vg)) (fun i _ _ _ => l.length - (intOf i).toNat)
  case atStart => exact ⟨0, by omega, rfl, ⟨OwnC.nil _ _, Own.nil _ _ _, Below.refl _ _⟩⟩
  case round =>
    obtain ⟨k, hk, rfl, hM⟩ := hrel
    have hbr := hM.out.c
    obtain ⟨x0, x1, x2⟩ := hx1.below hbr (Nat.lt_trans hl1 hl2)
    simp only at x0 x1 x2
    obtain ⟨ga, ka, hga⟩ := hM.out.a.form
    obtain ⟨gb, kb, hgb⟩ := hM.out.b.form
    have hL := left_len l now k
    have hG := gone_len l now k
    have hGl : (idCells (goneC (l.take k) now)).length = (goneC (l.take k) now).length := by simp [idCells]
    rw [hGl] at hgb
    by_cases hlt : k < l.length
    · have hlt' : (k : Int) < l.length := by omega
      obtain ⟨_, hnil⟩ | ⟨g, cap', hv, _, hg, hcap, hat⟩ := hO1.get
      · exfalso; rw [hnil] at hlt; simp at hlt
      injection hv with ha hl hc
      subst ha; subst hc
      obtain ⟨c0, c1, c2, c3, c4, c5, c6, c7⟩ := (hat k hlt).below hbr hg
      have S1 := hid (left_step (l := l) (now := now) hlt)
      have S2 := hid (gone_step (l := l) (now := now) hlt)
      clear hat hl hO1 hr0 hx1
      generalize l[k] = c at *
      generalize leftC (l.take k) now = L0 at *
      generalize goneC (l.take k) now = G0 at *
      subst hga; subst hgb
      by_cases hov : c.over ≤ now
      · have ho : overB now c = true := decide_eq_true hov
        rw [ho] at S1 S2
        rw [if_pos rfl, List.append_nil] at S1
        rw [if_pos rfl] at S2
        clear ho
        go_wp2_with (at_builtin; refine wp_appIs _ rfl (.tmp 24) (.tmp 31) 47 rfl W.heap.size i1 _ Try.underlying47 hj hy0 hy1 hy2 rfl _ G0 rfl (hM.out.b.alloc _) ⟨_, 0, none⟩ 1 c.id rfl (one_new _ _ _ 0 _ rfl) (by omega) (Nat.le_trans hbr.size (by simp)) ?_; intro v4 w4 hown4 hgr4; have M4 := hid (hM.out.addI hown4 hgr4); clear hown4 hgr4)
        go_roundw
        case rel => exact ⟨k + 1, by omega, by go_num, by rw [S1.out, S2.out]; exact M4.out⟩
        case measure => simp [intOf]; omega
      · have ho : overB now c = false := decide_eq_false hov
        rw [ho] at S1 S2
        rw [if_neg (by simp), List.append_nil] at S2
        rw [if_neg (by simp)] at S1
        clear ho
        go_wp2_with (at_builtin; refine wp_appCs _ rfl (.tmp 33) (.tmp 39) 29 rfl W.heap.size i0 _ Try.underlying29 hi hz0 hz1 hz2 rfl _ L0 rfl (hM.out.a.alloc _) ⟨_, 0, none⟩ 1 1 [c] rfl rfl (cl_new _ c _) (by omega) (Nat.le_trans hbr.size (by simp)) ?_; intro v4 w4 hown4 hgr4; have M4 := hid (hM.out.addC hown4 hgr4); clear hown4 hgr4)
        go_roundw
        case rel => exact ⟨k + 1, by omega, by go_num, by rw [S1.out, S2.out]; exact M4.out⟩
        case measure => simp [intOf]; omega
    · have hlt' : ¬ ((k : Int) < l.length) := by omega
      have hkl : k = l.length := by omega
      rw [hkl, List.take_length] at hga hgb hM
      have hr9 := hr0.below hbr hl2
      obtain ⟨y0, y1, y2, f0, f1, f2⟩ := hr9.sv3
      have hb9 := hbW.trans (hbr.mono hbW.size)
      have HA : Hid (RowIs _ w1.heap.size 31 [.int .i64 most, .int .i64 last, u6] ∧ Below w.heap.size w _ ∧ OwnC _ w.heap.size u6 (leftC l now) ∧ Own _ w.heap.size 3 u7 (idCells (goneC l now))) :=
        ⟨sv_store3 hr9 (.int .i64 most) (.int .i64 last) u6, sv_below3 hb9 w1.heap.size (Nat.le_of_lt hl1) (.int .i64 most) (.int .i64 last) u6, sv_mono (sv_set3 hM.out.a hl2 (.int .i64 most) (.int .i64 last) u6) hbW.size, sv_mono (sv_set3 hM.out.b hl2 (.int .i64 most) (.int .i64 last) u6) hbW.size⟩
      clear hM hr9 hb9 hbr hr0 hO1 hx1 hbx hb2 hb1
      subst hga; subst hgb
      go_wp2
      generalize World.setCell _ _ _ = wA at HA ⊢
      obtain ⟨hrA, hbA, hoA, hiA⟩ := HA.out
      obtain ⟨d0, d1, d2, _, _, _⟩ := hrA.sv3
      try simp only [Exit.inBlock, Exit.then]
      refine bodyPost_ret (v := .tuple #[.agg #[.int .i64 most, .int .i64 last, .slice ga (leftC l now).length ka], .slice gb (goneC l now).length kb]) (by simp [results, Try.results24, go_sem, d0, d1, d2]; try rfl) rfl ?_
      exact ⟨_, _, rfl, hoA, hiA, hbA⟩
end Go.Proofs.Ytbnmdljlfldgoaa

/-
  The document's own Answer.
-/
namespace Go.Proofs.Ytbnmdljlfldgoaa
open Go.RowKit
set_option linter.unusedVariables false
set_option maxRecDepth 20000
set_option linter.unusedSimpArgs false

theorem OwnC.empty (w : World) (B : Nat) (hb : B ≤ w.heap.size) : OwnC (w.alloc (.cells #[] 71)) B (.slice (some ⟨w.heap.size, 0, none⟩) 0 0) [] := by
  have := World.ownsRow_lit (base := B) (e := 71) (size := 8) w #[] 0 hb (by decide) rfl
  exact this
/-- What Answer and Start hand back: a table, and its row is owned. -/
def TbRes (t : Tb) (ns : List Int) (B : Nat) (w w' : World) (e : Ending) : Prop := ∃ v1, e = .returned (.tuple (#[tbV t v1] ++ (ns.map (Value.int .i64)).toArray)) ∧ OwnC w' B v1 t.l ∧ Below w.heap.size w w'
theorem cls_set (l : List Cl) (k : Nat) (hk : k < l.length) (to tx : List UInt8) : clsCells (l.set k (tellC l[k] to tx)) = (((clsCells l).set (k * 8 + 5) (.bool true)).set (k * 8 + 6) (.string ⟨to.toArray⟩)).set (k * 8 + 7) (.string ⟨tx.toArray⟩) := by
  induction l generalizing k with
  | nil => simp at hk
  | cons c l ih =>
    have e : ∀ (c : Cl) l, clsCells (c :: l) = clCells c ++ clsCells l := fun _ _ => rfl
    cases k with
    | zero =>
      simp only [List.set_cons_zero, List.getElem_cons_zero]
      rw [e, e]
      rfl
    | succ k =>
      have hk' : k < l.length := by simpa using hk
      simp only [List.set_cons_succ, List.getElem_cons_succ]
      rw [e, e, ih k hk']
      have n1 : ∀ j, (k + 1) * 8 + j = (clCells c).length + (k * 8 + j) := fun j => by rw [clCells_len]; omega
      rw [n1, n1, n1]
      simp only [List.set_append_right _ _ (Nat.le_add_right _ _), Nat.add_sub_cancel_left]
theorem OwnC.tell {w : World} {B g cap : Nat} {l : List Cl} (h : OwnC w B (.slice (some ⟨g, 0, none⟩) l.length cap) l) (k : Nat) (hk : k < l.length) (to tx : List UInt8) :
    OwnC (((w.setCell ⟨g, k * 8 + 5, none⟩ (.bool true)).setCell ⟨g, k * 8 + 6, none⟩ (.string ⟨to.toArray⟩)).setCell ⟨g, k * 8 + 6 + 1, none⟩ (.string ⟨tx.toArray⟩)) B (.slice (some ⟨g, 0, none⟩) l.length cap) (l.set k (tellC l[k] to tx)) := by
  unfold OwnC
  rw [cls_set l k hk, List.length_set]
  exact (World.ownsRow.stored (World.ownsRow.stored (World.ownsRow.stored h _ _).1 _ _).1 _ _).1
theorem tell_below {C : Nat} {a w : World} (h : Below C a w) {g : Nat} (hg : C ≤ g) (i j k : Nat) (v0 v1 v2 : Value) : Below C a (((w.setCell ⟨g, i, none⟩ v0).setCell ⟨g, j, none⟩ v1).setCell ⟨g, k, none⟩ v2) := ((h.setCell hg _).setCell hg _).setCell hg _
theorem ans_none {t : Tb} {id : Int} {to tx : List UInt8} (h : t.l.findIdx? (fun c => c.id == id) = none) : answerT t id to tx = (t, 6) := by unfold answerT; rw [h]
theorem ans_told {t : Tb} {id : Int} {to tx : List UInt8} {k : Nat} (hk : k < t.l.length) (h : t.l.findIdx? (fun c => c.id == id) = some k) (ht : t.l[k].told = true) : answerT t id to tx = (t, 7) := by
  unfold answerT; rw [h]; simp only; rw [List.getElem?_eq_getElem hk]; simp only; rw [if_pos ht]
theorem ans_new {t : Tb} {id : Int} {to tx : List UInt8} {k : Nat} (hk : k < t.l.length) (h : t.l.findIdx? (fun c => c.id == id) = some k) (ht : t.l[k].told = false) : answerT t id to tx = (⟨t.most, t.last, t.l.set k (tellC t.l[k] to tx)⟩, 0) := by
  unfold answerT; rw [h]; simp only; rw [List.getElem?_eq_getElem hk]; simp only; rw [if_neg (by rw [ht]; simp)]

set_option maxHeartbeats 4000000 in
set_option maxRecDepth 100000 in
theorem refanswer_any {w : World} {B : Nat} {v : Value} {t : Tb} (h : OwnC w B v t.l) (hB : B ≤ w.heap.size) {id : Int} {to tx : List UInt8} (hn : t.l.length ≤ 1000000) :
    Calls Try.prog 23 #[tbV t v, .int .i64 id, sentV (to, tx)] w fun e w' => TbRes (answerT t id to tx).1 [(answerT t id to tx).2] B w w' e := by
  obtain ⟨i0, hi, hz0, hz1, hz2⟩ := info_parts infoCl
  obtain ⟨most, last, l⟩ := t
  simp only at h hn ⊢
  obtain ⟨oa, cap, rfl⟩ := h.form
  have hb1 : Below w.heap.size w (w.alloc (objT ⟨most, last, l⟩ (.slice oa l.length cap))) := (Below.refl _ w).alloc (Nat.le_refl _) _
  have hl1 := alloc_lt w (objT ⟨most, last, l⟩ (.slice oa l.length cap))
  have hbx := boxT_new w ⟨most, last, l⟩ (.slice oa l.length cap)
  generalize hw1 : w.alloc (objT ⟨most, last, l⟩ (.slice oa l.length cap)) = w1 at hb1 hbx hl1
  have hs0 := sv_row2 w1 (.string ⟨to.toArray⟩) (.string ⟨tx.toArray⟩) 39
  have hb2 : Below w1.heap.size w1 (w1.alloc (.cells #[.string ⟨to.toArray⟩, .string ⟨tx.toArray⟩] 39)) := (Below.refl _ w1).alloc (Nat.le_refl _) _
  have hl2 := alloc_lt w1 (.cells #[.string ⟨to.toArray⟩, .string ⟨tx.toArray⟩] 39)
  generalize hw2 : w1.alloc (.cells #[.string ⟨to.toArray⟩, .string ⟨tx.toArray⟩] 39) = w2 at hb2 hs0 hl2
  have hr0 := sv_row3 w2 (.int .i64 0) (.int .i64 0) (.slice none 0 0) 31
  have hb3 : Below w2.heap.size w2 (w2.alloc (.cells #[.int .i64 0, .int .i64 0, .slice none 0 0] 31)) := (Below.refl _ w2).alloc (Nat.le_refl _) _
  have hl3 := alloc_lt w2 (.cells #[.int .i64 0, .int .i64 0, .slice none 0 0] 31)
  generalize hw3 : w2.alloc (.cells #[.int .i64 0, .int .i64 0, .slice none 0 0] 31) = w3 at hb3 hr0 hl3
  have hB3 := (hb1.trans (hb2.mono hb1.size)).trans (hb3.mono (Nat.le_trans hb1.size hb2.size))
  have hx3 := (hbx.below hb2 hl1).below hb3 (Nat.lt_trans hl1 hl2)
  have hs3 := hs0.below hb3 hl2
  have hO3 := h.below hB3
  unfold objT at hw1
  generalize hR : answerT ⟨most, last, l⟩ id to tx = R
  go_enter Try.func23, Try.ntmps23
  unfold tbV sentV
  obtain ⟨z0, z1, z2⟩ := hx3
  simp only at z0 z1 z2
  go_wp2_with fail
  refine (refplace_any (t := ⟨most, last, l⟩) hO3 (id := id) (by simp only; omega)).mono ?_
  rintro e w4 ⟨rfl, hw4⟩
  have hO4 := hO3.below hw4
  have hr4 := hr0.below hw4 hl3
  have hs4 := hs3.below hw4 (Nat.lt_trans hl2 hl3)
  have x0 := cell_bel hw4 (Nat.lt_trans hl1 (Nat.lt_trans hl2 hl3)) z0
  have x1 := cell_bel hw4 (Nat.lt_trans hl1 (Nat.lt_trans hl2 hl3)) z1
  have x2 := cell_bel hw4 (Nat.lt_trans hl1 (Nat.lt_trans hl2 hl3)) z2
  have hb4 := hB3.trans (hw4.mono hB3.size)
  obtain ⟨y0, y1, y2, f0, f1, f2⟩ := hr4.sv3
  have s0 : w4.cell? ⟨w1.heap.size, 0, none⟩ = some (.string ⟨to.toArray⟩) := hs4.cell 0 (by simp)
  have s1 : w4.cell? ⟨w1.heap.size, 1, none⟩ = some (.string ⟨tx.toArray⟩) := hs4.cell 1 (by simp)
  have hlw : w.heap.size ≤ w2.heap.size := by omega
  have KEEP := hid (And.intro (sv_store3 hr4 (.int .i64 most) (.int .i64 last) (.slice oa l.length cap)) (sv_below3 hb4 w2.heap.size hlw (.int .i64 most) (.int .i64 last) (.slice oa l.length cap)))
  clear z0 z1 z2
  simp only
  rcases place_two l id with ⟨hp, _, hf⟩ | ⟨k, hk, hp, _, hf⟩
  · have HV : Hid (R = _) := hR.symm.trans (ans_none (t := ⟨most, last, l⟩) hf)
    rw [hp]
    clear hR
    have HO := hid h
    clear hO4 hr4 hs4 hO3 hw4 hr0 hs3 hs0 hb4 hB3 hb3 hb2 hb1 hf hp h hbx
    go_wp2
    generalize World.setCell _ _ _ = wA at KEEP ⊢
    obtain ⟨hrA, hbA⟩ := KEEP.out
    obtain ⟨d0, d1, d2, _, _, _⟩ := hrA.sv3
    try simp only [Exit.inBlock, Exit.then]
    refine bodyPost_ret (v := .tuple #[.agg #[.int .i64 most, .int .i64 last, .slice oa l.length cap], .int .i64 6]) (by simp [results, Try.results23, go_sem, d0, d1, d2]; try rfl) rfl ?_
    rw [HV.out]
    exact ⟨_, rfl, HO.out.below hbA, hbA⟩
  · rw [hp]
    have hkl : (k : Int) < (l.length : Int) := by omega
    have hk0 : ¬ ((k : Int) < 0) := by omega
    obtain ⟨_, hnil⟩ | ⟨g, cap', hv, _, hg, hcap, hat⟩ := hO4.get
    · exfalso; rw [hnil] at hk; simp at hk
    injection hv with ha hl hc
    subst ha; subst hc
    have c5 := (hat k hk).c5
    cases htold : l[k].told
    · have HV : Hid (R = _) := hR.symm.trans (ans_new (t := ⟨most, last, l⟩) hk hf htold)
      rw [htold] at c5
      have hbW := hw4.alloc hw4.size (.cells #[] 71)
      have hlw3 : w.heap.size ≤ w3.heap.size := hB3.size
      have OE := OwnC.empty w4 w3.heap.size hw4.size
      have NEW : ∀ (j : Nat) (u : Value), (clsCells l)[j]? = some u → (w4.alloc (.cells #[] 71)).cell? ((⟨g, 0, none⟩ : Addr).add j) = some u := World.ownsRow.cells (hO4.alloc _) rfl
      have HW3 := hid (And.intro hB3 (And.intro hr0 (And.intro hs3 (And.intro hl2 hl3))))
      have HX3 := hid ((hbx.below hb2 hl1).below hb3 (Nat.lt_trans hl1 hl2))
      have x2e := cell_bel hbW (Nat.lt_trans hl1 (Nat.lt_trans hl2 hl3)) HX3.out.c2
      clear hO4 hr4 hs4 hO3 hr0 hs3 hs0 hb4 hb3 hb2 hb1 hf hp h hbx hat hR KEEP hB3
      go_wp2_with (at_builtin; refine wp_appCs _ rfl (.tmp 23) (.tmp 25) 29 rfl w3.heap.size i0 _ Try.underlying29 hi hz0 hz1 hz2 rfl _ [] rfl OE ⟨g, 0, none⟩ l.length cap l rfl rfl NEW (by simp; omega) (Nat.le_trans hw4.size (by simp)) ?_; intro v5 w5 hown5 hgr5; have hb5 := hbW.grown hgr5 (Nat.le_trans hw4.size (by simp)) (fun k hk => (World.ownsRow.lt OE k hk).1); clear hgr5 x0 x1 x2 x2e y0 y1 y2 f0 f1 f2 s0 s1 c5 NEW OE hbW hw4; rw [List.nil_append] at hown5; (obtain ⟨_, hnil⟩ | ⟨g5, cap5, rfl, hg5, _, hcap5, hat5⟩ := hown5.get); (exfalso; rw [hnil] at hk; simp at hk); (obtain ⟨x0, x1, x2⟩ := HX3.out.below hb5 (Nat.lt_trans hl1 (Nat.lt_trans hl2 hl3))); simp only at x0 x1 x2)
      have c5 := (hat5 k hk).c5
      have c6 := (hat5 k hk).c6
      have c7 := (hat5 k hk).c7
      have q5 := World.ownsRow.frozenAt hown5 (k * 8 + 5)
      have q6 := World.ownsRow.frozenAt hown5 (k * 8 + 6)
      have q7 := World.ownsRow.frozenAt hown5 (k * 8 + 7)
      have s0 : w5.cell? ⟨w1.heap.size, 0, none⟩ = some (.string ⟨to.toArray⟩) := (HW3.out.2.2.1.below hb5 (Nat.lt_trans hl2 hl3)).cell 0 (by simp)
      have s1 : w5.cell? ⟨w1.heap.size, 1, none⟩ = some (.string ⟨tx.toArray⟩) := (HW3.out.2.2.1.below hb5 (Nat.lt_trans hl2 hl3)).cell 1 (by simp)
      have c5d : w5.drew.cell? _ = _ := c5
      have c6d : w5.drew.cell? _ = _ := c6
      have c7d : w5.drew.cell? _ = _ := c7
      have q5d : w5.drew.frozen? _ = _ := q5
      have q6d : w5.drew.frozen? _ = _ := q6
      have q7d : w5.drew.frozen? _ = _ := q7
      have s0d : w5.drew.cell? _ = _ := s0
      have s1d : w5.drew.cell? _ = _ := s1
      have hd5 : OwnC w5.drew w3.heap.size (.slice (some ⟨g5, 0, none⟩) l.length cap5) l := World.ownsRow.drew hown5
      have H6 := hid (And.intro (hown5.tell k hk to tx) (tell_below hb5 hg5 (k * 8 + 5) (k * 8 + 6) (k * 8 + 6 + 1) (.bool true) (.string ⟨to.toArray⟩) (.string ⟨tx.toArray⟩)))
      have n1 : w1.heap.size ≠ g5 := by omega
      clear x0 x1 x2 hat5 hown5 hb5 hd5
      go_region
      all_goals (
        generalize World.setCell _ _ _ = w6 at H6 ⊢
        obtain ⟨o6', b6'⟩ := H6.out
        have o6 : OwnC w6.drew _ _ _ := World.ownsRow.drew o6'
        have b6 := b6'.drew
        clear o6' b6' H6
        generalize w6.drew = w7 at o6 b6 ⊢
        obtain ⟨x0, x1, x2⟩ := HX3.out.below b6 (Nat.lt_trans hl1 (Nat.lt_trans hl2 hl3))
        simp only at x0 x1 x2
        have hr9 := HW3.out.2.1.below b6 hl3
        obtain ⟨y0, y1, y2, f0, f1, f2⟩ := hr9.sv3
        have hb9 := HW3.out.1.trans (b6.mono HW3.out.1.size)
        have KE := hid (And.intro (sv_store3 hr9 (.int .i64 most) (.int .i64 last) (.slice (some ⟨g5, 0, none⟩) l.length cap5)) (And.intro (sv_below3 hb9 w2.heap.size hlw (.int .i64 most) (.int .i64 last) (.slice (some ⟨g5, 0, none⟩) l.length cap5)) (sv_mono (sv_set3 o6 hl3 (.int .i64 most) (.int .i64 last) (.slice (some ⟨g5, 0, none⟩) l.length cap5)) (Nat.le_trans hB hlw3))))
        clear o6 b6 hr9 hb9 c5 c6 c7 q5 q6 q7 s0 s1 c5d c6d c7d q5d q6d q7d s0d s1d
        go_wp2
        generalize World.setCell _ _ _ = wA at KE ⊢
        obtain ⟨hrA, hbA, hoA⟩ := KE.out
        obtain ⟨d0, d1, d2, _, _, _⟩ := hrA.sv3
        try simp only [Exit.inBlock, Exit.then]
        refine bodyPost_ret (v := .tuple #[.agg #[.int .i64 most, .int .i64 last, .slice (some ⟨g5, 0, none⟩) l.length cap5], .int .i64 0]) (by simp [results, Try.results23, go_sem, d0, d1, d2]; try rfl) rfl ?_
        rw [HV.out]
        exact ⟨_, rfl, hoA, hbA⟩)
    · have HV : Hid (R = _) := hR.symm.trans (ans_told (t := ⟨most, last, l⟩) hk hf htold)
      clear hR
      rw [htold] at c5
      have HO := hid h
      clear hO4 hr4 hs4 hO3 hw4 hr0 hs3 hs0 hb4 hB3 hb3 hb2 hb1 hf hp h hbx hat
      go_wp2
      generalize World.setCell _ _ _ = wA at KEEP ⊢
      obtain ⟨hrA, hbA⟩ := KEEP.out
      obtain ⟨d0, d1, d2, _, _, _⟩ := hrA.sv3
      try simp only [Exit.inBlock, Exit.then]
      refine bodyPost_ret (v := .tuple #[.agg #[.int .i64 most, .int .i64 last, .slice (some ⟨g, 0, none⟩) l.length cap], .int .i64 7]) (by simp [results, Try.results23, go_sem, d0, d1, d2]; try rfl) rfl ?_
      rw [HV.out]
      exact ⟨_, rfl, HO.out.below hbA, hbA⟩
end Go.Proofs.Ytbnmdljlfldgoaa

/-
  The document's own Start.
-/
namespace Go.Proofs.Ytbnmdljlfldgoaa
open Go.RowKit
set_option linter.unusedVariables false
set_option maxRecDepth 20000
set_option linter.unusedSimpArgs false

theorem OwnC.drew {w : World} {B : Nat} {v : Value} {cs : List Cl} (h : OwnC w B v cs) : OwnC w.drew B v cs := h
/-- append of transactions, as one step of a region that draws its order. -/
theorem step_appC {P : Program} {ops : Array Oper} {o : Oper} {a : Act} {w : World} {K : Act → World → Prop} {Q : Exit → Act → World → Prop} {E : Prop} (hgd : o.guard = none)
    (s x : Operand) (t : TypeId) (ho : o.op = Op.call { callee := Callee.builtin Builtin.append, args := #[s, x], argTypes := #[t, t] }) (B : Nat) (i : TypeInfo)
    (z : Value) (ht : P.underlying t = some (TypeDesc.slice 71)) (hi : P.info? 71 = some i) (hz : i.zero = some z) (hsize : i.size = 8) (hby : i.bytes = 104) (hzs : z.cells.size = 8)
    (v : Value) (cs : List Cl) (hsv : a.eval s = v) (hown : OwnC w B v cs) (va : Value) (ns : List Cl) (hx : a.eval x = va)
    (hat : (va = .slice none 0 0 ∧ ns = []) ∨ ∃ ad cap, va = .slice (some ad) ns.length cap ∧ ∀ (j : Nat) (u : Value), (clsCells ns)[j]? = some u → w.cell? (ad.add j) = some u)
    (hlen : cs.length + ns.length ≤ 4000000) (hB : B ≤ w.heap.size)
    (h : ∀ (v' : Value) (w' : World), OwnC w' B v' (cs ++ ns) → w.grownBy w' v.ownBlock → K (a.put o.dst v') w') :
    if Region.wanted o (yielded ops a.tmps) = true then Oper.wp P o a w K Q else E := by
  have hw : Region.wanted o (yielded ops a.tmps) = true := by simp [Region.wanted, hgd]
  rw [if_pos hw]
  rcases hat with ⟨hv, hn⟩ | ⟨ad, cap, hv, hc⟩
  · subst hn
    rw [hv] at hx
    have hrun := run_append_owned_none (P := P) (w := w) B t o.type 71 i 8 ht hi v cs.length (clsCells cs) hown
    unfold Oper.wp
    simp [execOp, ho, resolve, invoke, builtin, hsv, hx, hrun, Result.andThen]
    exact h v w (by rw [List.append_nil]; exact hown) ⟨rfl, rfl, rfl, Nat.le_refl _, fun _ _ _ => rfl⟩
  · rw [hv] at hx
    obtain ⟨v', w', hrun, r1, hgr, _⟩ := run_append_own (P := P) w B t o.type 71 i z 8 104 ht hi hz hsize hby hzs (by decide) v cs.length (clsCells cs) hown ad ns.length cap (clsCells ns) (clsCells_len ns) hc (cls_one ns) (by unfold maxLen; omega) (by omega) hB
    unfold Oper.wp
    simp [execOp, ho, resolve, invoke, builtin, hsv, hx, hrun, Result.andThen]
    refine h v' w' ?_ hgr
    unfold OwnC
    rw [clsCells_app, List.length_append]
    exact r1
theorem OwnC.news {w : World} {B : Nat} {v : Value} {cs : List Cl} (h : OwnC w B v cs) : (v = .slice none 0 0 ∧ cs = []) ∨ ∃ ad cap, v = .slice (some ad) cs.length cap ∧ ∀ (j : Nat) (u : Value), (clsCells cs)[j]? = some u → w.cell? (ad.add j) = some u := by
  rcases h.2 with ⟨rfl, hn⟩ | ⟨g, cap, cur, rfl, _⟩
  · exact Or.inl ⟨rfl, List.eq_nil_of_length_eq_zero hn⟩
  · exact Or.inr ⟨_, cap, rfl, World.ownsRow.cells h rfl⟩
theorem OwnC.one (w : World) (B : Nat) (hb : B ≤ w.heap.size) (c : Cl) : OwnC (w.alloc (.cells (clCells c).toArray 71)) B (.slice (some ⟨w.heap.size, 0, none⟩) 1 1) [c] := by
  have := World.ownsRow_lit (base := B) (e := 71) (size := 8) w (clCells c).toArray 1 hb (by decide) rfl
  exact this
theorem cl_old {w : World} {g j : Nat} {u : Value} (h : w.cell? ((⟨g, 0, none⟩ : Addr).add j) = some u) (hg : g < w.heap.size) (o : Obj) : (w.alloc o).cell? ((⟨g, 0, none⟩ : Addr).add j) = some u := by
  have e : ∀ j, (⟨g, 0, none⟩ : Addr).add j = ⟨g, j, none⟩ := fun j => by unfold Addr.add; split <;> simp_all
  rw [e] at h ⊢
  rw [World.cell?_alloc_lt w o ⟨g, j, none⟩ hg]; exact h
theorem cl_kept {w w' : World} {g j : Nat} {u : Value} {r : Option Nat} (h : w.cell? ((⟨g, 0, none⟩ : Addr).add j) = some u) (hgr : w.drew.grownBy w' r) (hg : g < w.drew.heap.size) (hne : some g ≠ r) : w'.cell? ((⟨g, 0, none⟩ : Addr).add j) = some u := by
  have e : ∀ j, (⟨g, 0, none⟩ : Addr).add j = ⟨g, j, none⟩ := fun j => by unfold Addr.add; split <;> simp_all
  rw [e] at h ⊢
  rw [World.cell?_of_block (a := ⟨g, j, none⟩) (hgr.block g hg hne)]
  exact h
/-- What Start's last region reads: the table at bt, the transaction at bc. -/
structure Rd (w : World) (bt bc : Nat) (most last : Int) (v : Value) (c : Cl) : Prop where
  x0 : w.cell? ⟨bt, 0, none⟩ = some (.int .i64 most)
  x1 : w.cell? ⟨bt, 1, none⟩ = some (.int .i64 last)
  x2 : w.cell? ⟨bt, 2, none⟩ = some v
  c0 : w.cell? ⟨bc, 0, none⟩ = some (.int .i64 c.id)
  c1 : w.cell? ⟨bc, 1, none⟩ = some (.string ⟨c.br.toArray⟩)
  c2 : w.cell? ⟨bc, 2, none⟩ = some (.string ⟨c.hop.toArray⟩)
  c3 : w.cell? ⟨bc, 3, none⟩ = some (.string ⟨c.me.toArray⟩)
  c4 : w.cell? ⟨bc, 4, none⟩ = some (.int .i64 c.over)
  c5 : w.cell? ⟨bc, 5, none⟩ = some (.bool c.told)
  c6 : w.cell? ⟨bc, 6, none⟩ = some (.string ⟨c.to.toArray⟩)
  c7 : w.cell? ⟨bc, 7, none⟩ = some (.string ⟨c.tx.toArray⟩)
theorem Rd.below {w w' : World} {bt bc B : Nat} {most last : Int} {v : Value} {c : Cl} (h : Rd w bt bc most last v c) (hb : Below B w w') (h1 : bt < B) (h2 : bc < B) : Rd w' bt bc most last v c :=
  ⟨cell_bel hb h1 h.x0, cell_bel hb h1 h.x1, cell_bel hb h1 h.x2, cell_bel hb h2 h.c0, cell_bel hb h2 h.c1, cell_bel hb h2 h.c2, cell_bel hb h2 h.c3, cell_bel hb h2 h.c4, cell_bel hb h2 h.c5, cell_bel hb h2 h.c6, cell_bel hb h2 h.c7⟩
theorem rd_of {w : World} {bt bc : Nat} {t : Tb} {v : Value} {c : Cl} (h : BoxT w bt t v) {B : Nat} (hc : OwnC w B (.slice (some ⟨bc, 0, none⟩) 1 1) [c]) : Rd w bt bc t.most t.last v c := by
  obtain ⟨hv, _⟩ | ⟨g, cap, hv, _, _, _, hat⟩ := hc.get
  · simp at hv
  · injection hv with h1 h2 h3
    injection h1 with h1
    injection h1 with h1 _
    subst h1
    obtain ⟨a0, a1, a2, a3, a4, a5, a6, a7⟩ := hat 0 (by simp)
    simp only [Nat.zero_mul, Nat.zero_add, List.getElem_cons_zero] at a0 a1 a2 a3 a4 a5 a6 a7
    exact ⟨h.c0, h.c1, h.c2, a0, a1, a2, a3, a4, a5, a6, a7⟩
theorem start_arg {t : Tb} {br hop me : List UInt8} {now : Int} (h : now < 0 ∨ 1099511627456 < now) : startT t br hop me now = (t, 0, 1) := by unfold startT; rw [if_pos h]
theorem start_two {t : Tb} {br hop me : List UInt8} {now : Int} (h : ¬ (now < 0 ∨ 1099511627456 < now)) (hf : (findT t.l br hop me).2 = true) : startT t br hop me now = (t, 0, 7) := by unfold startT; rw [if_neg h, if_pos hf]
theorem start_full {t : Tb} {br hop me : List UInt8} {now : Int} (h : ¬ (now < 0 ∨ 1099511627456 < now)) (hf : ¬ (findT t.l br hop me).2 = true) (hm : t.most ≤ t.l.length) : startT t br hop me now = (t, 0, 5) := by unfold startT; rw [if_neg h, if_neg hf, if_pos hm]
theorem start_new {t : Tb} {br hop me : List UInt8} {now : Int} (h : ¬ (now < 0 ∨ 1099511627456 < now)) (hf : ¬ (findT t.l br hop me).2 = true) (hm : ¬ t.most ≤ t.l.length) : startT t br hop me now = (⟨t.most, t.last + 1, t.l ++ [newC t br hop me now]⟩, t.last + 1, 0) := by unfold startT; rw [if_neg h, if_neg hf, if_neg hm]

end Go.Proofs.Ytbnmdljlfldgoaa
