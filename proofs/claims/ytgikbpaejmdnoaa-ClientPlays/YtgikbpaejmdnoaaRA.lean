/-
  Base texts, one behind another: CqL, RCq1, RCq2, RCq3, RCq4, RCq5, RCq6.
-/
import Derived.Test.YtgikbpaejmdnoaaRow
import Derived.Test.YtgikbpaejmdnoaaClk
import Derived.Test.YtgikbpaejmdnoaaRefClk
import Derived.BigQuiet
import Derived.Lib.QuietBelow
import Derived.Test.YtgikbpaejmdnoaaRG

/-
  Client transactions: plain functions; a row of them in memory.
-/
namespace Go.Proofs.Ytgikbpaejmdnoaa
open Go.RowKit
set_option linter.unusedVariables false
set_option maxRecDepth 20000
set_option linter.unusedSimpArgs false

/-- A transaction: rest is when its rest ends (-1: it waits). -/
structure Cq where
  id : Int
  br : List UInt8
  begun : Int
  times : Int
  rest : Int
  to : List UInt8
  tx : List UInt8
structure Tq where
  most : Int
  last : Int
  l : List Cq
structure Du where
  id : Int
  over : Bool
  to : List UInt8
  tx : List UInt8
def atQ (c : Cq) : Int := if 0 ≤ c.rest then c.rest else if (atV (c.times + 1)).2 = true then c.begun + (atV (c.times + 1)).1 else c.begun + 320
/-- The place of the one of which something is due first, among the first n (below 0: there is none). -/
def nextQ (l : List Cq) : Nat → Int
  | 0 => -1
  | n + 1 => match l[n]? with
    | none => nextQ l n
    | some c => if nextQ l n < 0 then n else match l[(nextQ l n).toNat]? with
      | none => n
      | some d => if atQ c < atQ d then n else nextQ l n
def startQ (t : Tq) (br : List UInt8) (now : Int) (to tx : List UInt8) : Tq × Int × Int :=
  if now < 0 ∨ 1099511627136 < now then (t, 0, 1)
  else if t.l.any (fun c => c.br == br) = true then (t, 0, 7)
  else if t.most ≤ t.l.length then (t, 0, 5)
  else (⟨t.most, t.last + 1, t.l ++ [⟨t.last + 1, br, now, 1, -1, to, tx⟩]⟩, t.last + 1, 0)
def respQ (t : Tq) (br : List UInt8) (status now : Int) : Tq × Int × Bool × Int :=
  if now < 0 ∨ 1099511627456 < now ∨ status < 100 ∨ 699 < status then (t, 0, false, 1)
  else match t.l.findIdx? (fun c => c.br == br && decide (c.rest < 0)) with
    | none => (t, 0, false, 6)
    | some k => match t.l[k]? with
      | none => (t, 0, false, 6)
      | some c => if status < 200 then (t, c.id, false, 0) else (⟨t.most, t.last, t.l.set k { c with rest := now + 50 }⟩, c.id, true, 0)
def liveQ (t : Tq) (id : Int) : Bool := match t.l.find? (fun c => c.id == id) with | some c => decide (c.rest < 0) | none => false
/-- One thing that is due is done. -/
def oneQ (t : Tq) (k : Nat) (c : Cq) : Tq × List Du :=
  if c.rest < 0 ∧ atQ c - c.begun < 320 then (⟨t.most, t.last, t.l.take k ++ [{ c with times := c.times + 1 }] ++ t.l.drop (k + 1)⟩, [⟨c.id, false, c.to, c.tx⟩])
  else if c.rest < 0 then (⟨t.most, t.last, t.l.take k ++ t.l.drop (k + 1)⟩, [⟨c.id, true, [], []⟩])
  else (⟨t.most, t.last, t.l.take k ++ t.l.drop (k + 1)⟩, [])
def stepQ (now : Int) : Nat → Tq → List Du → Tq × List Du
  | 0, t, out => (t, out)
  | n + 1, t, out => if nextQ t.l t.l.length < 0 then (t, out) else match t.l[(nextQ t.l t.l.length).toNat]? with
    | none => (t, out)
    | some c => if now < atQ c then (t, out) else stepQ now n (oneQ t (nextQ t.l t.l.length).toNat c).1 (out ++ (oneQ t (nextQ t.l t.l.length).toNat c).2)

def cqCells (c : Cq) : List Value := [.int .i64 c.id, .string ⟨c.br.toArray⟩, .int .i64 c.begun, .int .i64 c.times, .int .i64 c.rest, .string ⟨c.to.toArray⟩, .string ⟨c.tx.toArray⟩]
def cqsCells (cs : List Cq) : List Value := cs.flatMap cqCells
theorem cqCells_len (c : Cq) : (cqCells c).length = 7 := rfl
theorem cqsCells_len (cs : List Cq) : (cqsCells cs).length = cs.length * 7 := by
  induction cs with
  | nil => rfl
  | cons c cs ih =>
    have e : cqsCells (c :: cs) = cqCells c ++ cqsCells cs := rfl
    rw [e, List.length_append, ih, cqCells_len, List.length_cons]; omega
theorem cqsCells_get (cs : List Cq) (k : Nat) (hk : k < cs.length) (j : Nat) (u : Value) (h : (cqCells cs[k])[j]? = some u) : (cqsCells cs)[k * 7 + j]? = some u := by
  induction cs generalizing k with
  | nil => simp at hk
  | cons c cs ih =>
    have e : cqsCells (c :: cs) = cqCells c ++ cqsCells cs := rfl
    cases k with
    | zero =>
      have hj : j < 7 := by have := (List.getElem?_eq_some_iff.1 h).1; simpa [cqCells] using this
      rw [e, List.getElem?_append_left (by rw [cqCells_len]; omega), Nat.zero_mul, Nat.zero_add]
      exact h
    | succ k =>
      have := ih k (by simpa using hk) (by simpa using h)
      rw [e, List.getElem?_append_right (by rw [cqCells_len]; omega), cqCells_len, show (k + 1) * 7 + j - 7 = k * 7 + j by omega]
      exact this
/-- The slice v owns the transactions cs, in a block from B on. -/
def OwnQ (w : World) (B : Nat) (v : Value) (cs : List Cq) : Prop := w.ownsRow B 78 7 v cs.length (cqsCells cs)
theorem OwnQ.nil (w : World) (B : Nat) : OwnQ w B (.slice none 0 0) [] := World.ownsRow_nil _ _ _ _
theorem OwnQ.below {w w' : World} {B : Nat} {v : Value} {cs : List Cq} (h : OwnQ w B v cs) (hb : Below w.heap.size w w') : OwnQ w' B v cs := by
  obtain ⟨h1, h2⟩ := h
  refine ⟨h1, ?_⟩
  rcases h2 with h2 | ⟨g, cap, cur, hv, hg, hh, r⟩
  · exact Or.inl h2
  · exact Or.inr ⟨g, cap, cur, hv, hg, by rw [hb.block g (Array.getElem?_eq_some_iff.1 hh).1]; exact hh, r⟩
theorem OwnQ.mono {w : World} {B C : Nat} {v : Value} {cs : List Cq} (h : OwnQ w B v cs) (hc : C ≤ B) : OwnQ w C v cs := by
  obtain ⟨h1, h2⟩ := h
  refine ⟨h1, ?_⟩
  rcases h2 with h2 | ⟨g, cap, cur, hv, hg, r⟩
  · exact Or.inl h2
  · exact Or.inr ⟨g, cap, cur, hv, Nat.le_trans hc hg, r⟩
theorem OwnQ.alloc {w : World} {B : Nat} {v : Value} {cs : List Cq} (h : OwnQ w B v cs) (o : Obj) : OwnQ (w.alloc o) B v cs := World.ownsRow.alloc h o
theorem OwnQ.form {w : World} {B : Nat} {v : Value} {cs : List Cq} (h : OwnQ w B v cs) : ∃ a cap, v = .slice a cs.length cap := by
  rcases h.2 with ⟨rfl, hn⟩ | ⟨g, cap, cur, rfl, _⟩
  · exact ⟨none, 0, by rw [hn]⟩
  · exact ⟨_, cap, rfl⟩
/-- Where the rows of v lie. -/
structure CqAt (w : World) (g k : Nat) (c : Cq) : Prop where
  c0 : w.cell? ⟨g, k * 7, none⟩ = some (.int .i64 c.id)
  c1 : w.cell? ⟨g, k * 7 + 1, none⟩ = some (.string ⟨c.br.toArray⟩)
  c2 : w.cell? ⟨g, k * 7 + 2, none⟩ = some (.int .i64 c.begun)
  c3 : w.cell? ⟨g, k * 7 + 3, none⟩ = some (.int .i64 c.times)
  c4 : w.cell? ⟨g, k * 7 + 4, none⟩ = some (.int .i64 c.rest)
  c5 : w.cell? ⟨g, k * 7 + 5, none⟩ = some (.string ⟨c.to.toArray⟩)
  c6 : w.cell? ⟨g, k * 7 + 6, none⟩ = some (.string ⟨c.tx.toArray⟩)
theorem OwnQ.get {w : World} {B : Nat} {v : Value} {cs : List Cq} (h : OwnQ w B v cs) : (v = .slice none 0 0 ∧ cs = []) ∨ ∃ g cap, v = .slice (some ⟨g, 0, none⟩) cs.length cap ∧ B ≤ g ∧ g < w.heap.size ∧ cs.length ≤ cap ∧ ∀ k (hk : k < cs.length), CqAt w g k cs[k] := by
  have h0 := h
  rcases h.2 with ⟨rfl, hn⟩ | ⟨g, cap, cur, rfl, hb, hg, r⟩
  · exact Or.inl ⟨rfl, List.eq_nil_of_length_eq_zero hn⟩
  · refine Or.inr ⟨g, cap, rfl, hb, (Array.getElem?_eq_some_iff.1 hg).1, r.1, fun k hk => ?_⟩
    have e : ∀ j, (⟨g, 0, none⟩ : Addr).add j = ⟨g, j, none⟩ := fun j => by unfold Addr.add; split <;> simp_all
    have a0 : ∀ j u, (cqCells cs[k])[j]? = some u → w.cell? ⟨g, k * 7 + j, none⟩ = some u := fun j u hj => by
      have := World.ownsRow.cells h0 (g := g) rfl (k * 7 + j) _ (cqsCells_get cs k hk j u hj)
      rw [e] at this; exact this
    exact ⟨a0 0 _ rfl, a0 1 _ rfl, a0 2 _ rfl, a0 3 _ rfl, a0 4 _ rfl, a0 5 _ rfl, a0 6 _ rfl⟩
theorem cell_beq {w w' : World} {B : Nat} (hb : Below B w w') {a : Addr} (ha : a.block < B) {v : Value} (h : w.cell? a = some v) : w'.cell? a = some v := by rw [World.cell?_of_block (hb.block _ ha)]; exact h
theorem CqAt.below {w w' : World} {B g k : Nat} {c : Cq} (h : CqAt w g k c) (hb : Below B w w') (hg : g < B) : CqAt w' g k c :=
  ⟨cell_beq hb hg h.c0, cell_beq hb hg h.c1, cell_beq hb hg h.c2, cell_beq hb hg h.c3, cell_beq hb hg h.c4, cell_beq hb hg h.c5, cell_beq hb hg h.c6⟩
def tqV (t : Tq) (v : Value) : Value := .agg #[.int .i64 t.most, .int .i64 t.last, v]
def cqV (c : Cq) : Value := .agg #[.int .i64 c.id, .string ⟨c.br.toArray⟩, .int .i64 c.begun, .int .i64 c.times, .int .i64 c.rest, .string ⟨c.to.toArray⟩, .string ⟨c.tx.toArray⟩]
structure BoxQ (w : World) (b : Nat) (t : Tq) (v : Value) : Prop where
  c0 : w.cell? ⟨b, 0, none⟩ = some (.int .i64 t.most)
  c1 : w.cell? ⟨b, 1, none⟩ = some (.int .i64 t.last)
  c2 : w.cell? ⟨b, 2, none⟩ = some v
def objQ (t : Tq) (v : Value) : Obj := .cells #[.int .i64 t.most, .int .i64 t.last, v] 31
theorem boxQ_new (w : World) (t : Tq) (v : Value) : BoxQ (w.alloc (objQ t v)) w.heap.size t v := by
  unfold objQ
  constructor <;> rw [World.cell?_alloc_new] <;> rfl
theorem BoxQ.below {w w' : World} {b B : Nat} {t : Tq} {v : Value} (h : BoxQ w b t v) (hb : Below B w w') (hl : b < B) : BoxQ w' b t v :=
  ⟨cell_beq hb hl h.c0, cell_beq hb hl h.c1, cell_beq hb hl h.c2⟩
end Go.Proofs.Ytgikbpaejmdnoaa

/-
  The document's own at, next and Live, over a table of client transactions.
-/
namespace Go.Proofs.Ytgikbpaejmdnoaa
open Go.RowKit
set_option linter.unusedVariables false
set_option maxRecDepth 20000
set_option linter.unusedSimpArgs false

structure CqOK (c : Cq) : Prop where
  b0 : 0 ≤ c.begun
  b1 : c.begun ≤ 1099511627776
  t0 : 0 ≤ c.times
  t1 : c.times ≤ 1099511627776
  r0 : -1 ≤ c.rest
  r1 : c.rest ≤ 1099511627776
theorem atV_bd (n : Int) : 0 ≤ (atV n).1 ∧ (atV n).1 ≤ 1000 := by
  unfold atV sumV
  repeat' split
  all_goals simp only
  all_goals omega
theorem atQ_bd {c : Cq} (h : CqOK c) : 0 ≤ atQ c ∧ atQ c ≤ 1099511628776 := by
  have := atV_bd (c.times + 1)
  obtain ⟨b0, b1, t0, t1, r0, r1⟩ := h
  unfold atQ
  repeat' split
  all_goals omega
def atObj (c : Cq) : Obj := .cells (cqCells c).toArray 78
set_option maxHeartbeats 4000000 in
set_option maxRecDepth 100000 in
theorem refat_any {w : World} {c : Cq} (h : CqOK c) :
    Calls Try.prog 31 #[cqV c] w fun e w' => e = .returned (.int .i64 (atQ c)) ∧ w' = w.alloc (atObj c) := by
  obtain ⟨id, br, begun, times, rest, to, tx⟩ := c
  obtain ⟨b0, b1, t0, t1, r0, r1⟩ := h
  have ha := atV_bd (times + 1)
  unfold cqV
  simp only at b0 b1 t0 t1 r0 r1 ⊢
  by_cases hr : 0 ≤ rest
  · have HV : Hid (atQ ⟨id, br, begun, times, rest, to, tx⟩ = rest) := show _ = _ by unfold atQ; exact if_pos hr
    go_enter Try.func31, Try.ntmps31
    go_wp2
    go_ret
    exact ⟨by rw [HV.out]; rfl, rfl⟩
  cases h2 : (atV (times + 1)).2
  · have HV : Hid (atQ ⟨id, br, begun, times, rest, to, tx⟩ = begun + 320) := show _ = _ by unfold atQ; simp only; rw [if_neg hr, h2]; rfl
    go_enter Try.func31, Try.ntmps31
    go_wp2_with (go_at_call 38; refine (rat_any _ _ (by omega)).mono ?_; rintro e w' ⟨rfl, rfl⟩)
    go_ret
    exact ⟨by rw [HV.out]; rfl, rfl⟩
  · have HV : Hid (atQ ⟨id, br, begun, times, rest, to, tx⟩ = begun + (atV (times + 1)).1) := show _ = _ by unfold atQ; simp only; rw [if_neg hr, h2]; rfl
    go_enter Try.func31, Try.ntmps31
    go_wp2_with (go_at_call 38; refine (rat_any _ _ (by omega)).mono ?_; rintro e w' ⟨rfl, rfl⟩)
    go_ret
    exact ⟨by rw [HV.out]; rfl, rfl⟩
end Go.Proofs.Ytgikbpaejmdnoaa

/-
  The document's own next and Live, over a table of client transactions.
-/
namespace Go.Proofs.Ytgikbpaejmdnoaa
open Go.RowKit Go.Sort
set_option linter.unusedVariables false
set_option maxRecDepth 20000
set_option linter.unusedSimpArgs false

theorem follows12 : Try.prog.follows .mixedOrders = true := by kernel_rfl
theorem nextQ_bd (l : List Cq) (n : Nat) : -1 ≤ nextQ l n ∧ nextQ l n < n := by
  induction n with
  | zero => exact ⟨by simp [nextQ], by simp [nextQ]⟩
  | succ n ih =>
    unfold nextQ
    repeat' split
    all_goals omega
theorem nextQ_first {l : List Cq} {n : Nat} (hn : n < l.length) (h : nextQ l n < 0) : nextQ l (n + 1) = n := by
  rw [nextQ, List.getElem?_eq_getElem hn]
  simp only
  rw [if_pos h]
theorem nextQ_less {l : List Cq} {n k : Nat} (hn : n < l.length) (hk : k < l.length) (h : nextQ l n = k) (ha : atQ l[n] < atQ l[k]) : nextQ l (n + 1) = n := by
  rw [nextQ, List.getElem?_eq_getElem hn]
  simp only
  rw [if_neg (by omega), h, Int.toNat_natCast, List.getElem?_eq_getElem hk]
  simp only
  rw [if_pos ha]
theorem nextQ_stay {l : List Cq} {n k : Nat} (hn : n < l.length) (hk : k < l.length) (h : nextQ l n = k) (ha : ¬ atQ l[n] < atQ l[k]) : nextQ l (n + 1) = k := by
  rw [nextQ, List.getElem?_eq_getElem hn]
  simp only
  rw [if_neg (by omega), h, Int.toNat_natCast, List.getElem?_eq_getElem hk]
  simp only
  rw [if_neg ha]
theorem at_re {w : World} {c : Cq} (h : CqOK c) : Calls Try.prog 31 #[cqV c] w fun e w' => e = .returned (.int .i64 (atQ c)) ∧ Below w.heap.size w w' :=
  (refat_any h).mono fun _ _ ⟨he, hw⟩ => ⟨he, by rw [hw]; exact (Below.refl _ w).alloc (Nat.le_refl _) _⟩

set_option maxHeartbeats 4000000 in
set_option maxRecDepth 100000 in
theorem refnext_any {w : World} {B : Nat} {v : Value} {t : Tq} (h : OwnQ w B v t.l) (hok : ∀ c ∈ t.l, CqOK c) (hn : t.l.length ≤ 1000000) :
    Calls Try.prog 30 #[tqV t v] w fun e w' => e = .returned (.int .i64 (nextQ t.l t.l.length)) ∧ Below w.heap.size w w' := by
  obtain ⟨most, last, l⟩ := t
  simp only at h hn hok ⊢
  unfold tqV
  obtain ⟨oa, cap, rfl⟩ := h.form
  have HO := hid h
  have HK := hid hok
  obtain ⟨n, hnn⟩ : ∃ n, n = l.length := ⟨_, rfl⟩
  rw [← hnn] at hn HO ⊢
  have HN := hid hnn
  clear h hnn hok
  go_enter Try.func30, Try.ntmps30
  go_wp2
  go_loopw [3, 4] (fun x i wr => ∃ k : Nat, k ≤ n ∧ i = .int .i64 k ∧ x = .int .i64 (nextQ l k) ∧ Below (w.heap.size + 1) (w.alloc (objQ ⟨most, last, l⟩ (.slice oa n cap))) wr) (fun _ i _ => n - (intOf i).toNat)
  case atStart => exact ⟨0, by omega, rfl, rfl, by first | exact Below.refl _ _⟩
  case round =>
    obtain ⟨k, hk, rfl, rfl, hbw⟩ := hrel
    have hbv : Below w.heap.size w (w.alloc (objQ ⟨most, last, l⟩ (.slice oa n cap))) := (Below.refl _ w).alloc (Nat.le_refl _) _
    have HB := hid (hbv.trans (hbw.mono (Nat.le_succ _)))
    have b2 : wr.cell? ⟨w.heap.size, 2, none⟩ = some (.slice oa n cap) := ((boxQ_new w ⟨most, last, l⟩ (.slice oa n cap)).below hbw (Nat.lt_succ_self _)).c2
    have HW := hid hbw
    clear hbv hbw
    by_cases hlt : k < n
    · have hlt' : (k : Int) < n := by omega
      have hkl : k < l.length := by rw [← HN.out]; exact hlt
      have hbd := nextQ_bd l k
      obtain ⟨_, hnil⟩ | ⟨g, cap', hv, _, hg, hcap, hat⟩ := HO.out.get
      · exfalso; rw [hnil] at hkl; simp at hkl
      injection hv with ha hl hc
      subst ha; subst hc
      obtain ⟨c0, c1, c2, c3, c4, c5, c6⟩ := (hat k hkl).below HB.out hg
      by_cases hneg : nextQ l k < 0
      · have HX := hid (nextQ_first hkl hneg)
        generalize nextQ l k = x at hneg
        have r2 := cell_regrown b2
        clear hat
        go_wp2
        refine wp_region_quiet_below follows12 (by kernel_rfl) ?_
        repeat (go_big_quiet_step (fail))
        refine wpQuiet_nil ?_
        intro _ hw'
        obtain ⟨⟨dq, osq⟩, hw''⟩ := hw'
        subst hw''
        have hq := below_regrown wr dq osq
        generalize grow _ _ = wx at hq ⊢
        have HWX := hid (HW.out.trans (hq.mono (by have := HW.out.size; simpa using this)))
        go_wp2
        go_roundw
        case rel => exact ⟨k + 1, by omega, by go_num, by rw [HX.out], HWX.out⟩
        case measure => simp [intOf]; omega
      · obtain ⟨j, hj⟩ : ∃ j : Nat, nextQ l k = j := ⟨(nextQ l k).toNat, by omega⟩
        have hjk : j < n := by omega
        have hjl : j < l.length := by rw [← HN.out]; exact hjk
        obtain ⟨d0, d1, d2, d3, d4, d5, d6⟩ := (hat j hjl).below HB.out hg
        have KC := hid (fun (d : Nat) (os : Array Obj) => Calls.regrown_of (at_re (w := grow (redrawn wr d) os) (HK.out _ (List.getElem_mem hkl))))
        have KD := hid (fun (d : Nat) (os : Array Obj) => Calls.regrown_of (at_re (w := grow (redrawn wr d) os) (HK.out _ (List.getElem_mem hjl))))
        have LS := hid (nextQ_less hkl hjl hj)
        have SY := hid (nextQ_stay hkl hjl hj)
        rw [hj]
        clear hat hbd hneg
        unfold cqV at KC KD
        generalize l[k] = c at c0 c1 c2 c3 c4 c5 c6 KC LS SY
        generalize l[j] = d at d0 d1 d2 d3 d4 d5 d6 KD LS SY
        obtain ⟨c_0, c_1, c_2, c_3, c_4, c_5, c_6⟩ := c
        obtain ⟨d_0, d_1, d_2, d_3, d_4, d_5, d_6⟩ := d
        simp only at c0 c1 c2 c3 c4 c5 c6 d0 d1 d2 d3 d4 d5 d6 KC KD
        generalize atQ _ = ac at KC LS SY
        generalize atQ _ = ad at KD LS SY
        have r2 := cell_regrown b2
        replace c0 := cell_regrown c0
        replace c1 := cell_regrown c1
        replace c2 := cell_regrown c2
        replace c3 := cell_regrown c3
        replace c4 := cell_regrown c4
        replace c5 := cell_regrown c5
        replace c6 := cell_regrown c6
        replace d0 := cell_regrown d0
        replace d1 := cell_regrown d1
        replace d2 := cell_regrown d2
        replace d3 := cell_regrown d3
        replace d4 := cell_regrown d4
        replace d5 := cell_regrown d5
        replace d6 := cell_regrown d6
        have hjn : (j : Int) < n := by omega
        have hj0 : decide ((j : Int) < 0) = false := decide_eq_false (by omega)
        by_cases hac : ac < ad
        · have HX := hid (LS.out hac)
          have hac' : decide (ac < ad) = true := decide_eq_true hac
          clear LS SY hac
          go_wp2
          refine wp_region_quiet_below follows12 (by kernel_rfl) ?_
          repeat (go_big_quiet_step (first | with_reducible exact KC.out _ _ | with_reducible exact KD.out _ _))
          refine wpQuiet_nil ?_
          intro _ hw'
          obtain ⟨⟨dq, osq⟩, hw''⟩ := hw'
          subst hw''
          have hq := below_regrown wr dq osq
          generalize grow _ _ = wx at hq ⊢
          have HWX := hid (HW.out.trans (hq.mono (by have := HW.out.size; simpa using this)))
          go_wp2
          go_roundw
          case rel => exact ⟨k + 1, by omega, by go_num, by rw [HX.out], HWX.out⟩
          case measure => simp [intOf]; omega
        · have HX := hid (SY.out hac)
          have hac' : decide (ac < ad) = false := decide_eq_false hac
          clear LS SY hac
          go_wp2
          refine wp_region_quiet_below follows12 (by kernel_rfl) ?_
          repeat (go_big_quiet_step (first | with_reducible exact KC.out _ _ | with_reducible exact KD.out _ _))
          refine wpQuiet_nil ?_
          intro _ hw'
          obtain ⟨⟨dq, osq⟩, hw''⟩ := hw'
          subst hw''
          have hq := below_regrown wr dq osq
          generalize grow _ _ = wx at hq ⊢
          have HWX := hid (HW.out.trans (hq.mono (by have := HW.out.size; simpa using this)))
          go_wp2
          go_roundw
          case rel => exact ⟨k + 1, by omega, by go_num, by rw [HX.out], HWX.out⟩
          case measure => simp [intOf]; omega
    · have hlt' : ¬ ((k : Int) < n) := by omega
      obtain rfl : k = n := by omega
      clear HO
      go_wp2
      go_ret
      exact ⟨by rfl, HB.out⟩
end Go.Proofs.Ytgikbpaejmdnoaa

/-
  Rows of client transactions: append; what Start reads.
-/
namespace Go.Proofs.Ytgikbpaejmdnoaa
open Go.RowKit
set_option linter.unusedVariables false
set_option maxRecDepth 20000
set_option linter.unusedSimpArgs false

theorem infoCq : (Try.prog.info? 78).map (fun i => (i.zero, i.size, i.bytes)) = some (some (.agg #[.int .i64 0, .string .empty, .int .i64 0, .int .i64 0, .int .i64 0, .string .empty, .string .empty]), 7, 80) := by kernel_rfl
theorem cqsCells_app (a b : List Cq) : cqsCells (a ++ b) = cqsCells a ++ cqsCells b := by simp [cqsCells]
theorem cqs_one (cs : List Cq) : ∀ u ∈ cqsCells cs, u.oneCell' = true := by
  intro u hu
  simp only [cqsCells, List.mem_flatMap] at hu
  obtain ⟨t, _, hu⟩ := hu
  simp [cqCells] at hu
  rcases hu with rfl | rfl | rfl | rfl | rfl | rfl | rfl <;> rfl
/-- append of some transactions. -/
theorem wp_appQs {P : Program} (w : World) {ops : Array Oper} {rest : List Oper} {o : Oper} {a : Act} {Q : Exit → Act → World → Prop} (hgd : o.guard = none)
    (s x : Operand) (t : TypeId) (ho : o.op = Op.call { callee := Callee.builtin Builtin.append, args := #[s, x], argTypes := #[t, t] }) (B : Nat) (i : TypeInfo)
    (z : Value) (ht : P.underlying t = some (TypeDesc.slice 78)) (hi : P.info? 78 = some i) (hz : i.zero = some z) (hsize : i.size = 7) (hby : i.bytes = 80) (hzs : z.cells.size = 7)
    (v : Value) (cs : List Cq) (hs : a.eval s = v) (hown : OwnQ w B v cs) (ad : Addr) (m c : Nat) (ns : List Cq) (hx : a.eval x = Value.slice (some ad) m c) (hm : ns.length = m)
    (hnews : ∀ (j : Nat) (u : Value), (cqsCells ns)[j]? = some u → w.cell? (ad.add j) = some u)
    (hlen : cs.length + m ≤ 4000000) (hB : B ≤ w.heap.size)
    (h : ∀ (v' : Value) (w' : World), OwnQ w' B v' (cs ++ ns) → w.grownBy w' v.ownBlock → wpList P ops Q rest (a.put o.dst v') w') : wpList P ops Q (o :: rest) a w := by
  refine wpList_append_own w hgd s x t ho B 78 i z 7 80 ht hi hz hsize hby hzs (by decide) v cs.length (cqsCells cs) hs hown ad m c (cqsCells ns) hx (by rw [cqsCells_len, hm]) hnews (cqs_one ns) (by unfold maxLen; omega) (by omega) hB ?_
  intro v' w' hown' hgr _
  refine h v' w' ?_ hgr
  unfold OwnQ
  rw [cqsCells_app, List.length_append, hm]
  exact hown'
theorem cq_new (w : World) (c : Cq) (t : TypeId) : ∀ (j : Nat) (u : Value), (cqsCells [c])[j]? = some u → (w.alloc (.cells (cqCells c).toArray t)).cell? ((⟨w.heap.size, 0, none⟩ : Addr).add j) = some u := by
  intro j u hj
  have e : ∀ j, (⟨w.heap.size, 0, none⟩ : Addr).add j = ⟨w.heap.size, j, none⟩ := fun j => by unfold Addr.add; split <;> simp_all
  rw [e, World.cell?_alloc_new]
  have : cqsCells [c] = cqCells c := by simp [cqsCells]
  rw [this] at hj
  simpa using hj
theorem OwnQ.empty (w : World) (B : Nat) (hb : B ≤ w.heap.size) : OwnQ (w.alloc (.cells #[] 78)) B (.slice (some ⟨w.heap.size, 0, none⟩) 0 0) [] := by
  have := World.ownsRow_lit (base := B) (e := 78) (size := 7) w #[] 0 hb (by decide) rfl
  exact this
/-- What Answer and Start hand back: a table, and its row is owned. -/
def TqRes (t : Tq) (ns : List Int) (B : Nat) (w w' : World) (e : Ending) : Prop := ∃ v1, e = .returned (.tuple (#[tqV t v1] ++ (ns.map (Value.int .i64)).toArray)) ∧ OwnQ w' B v1 t.l ∧ Below w.heap.size w w'
theorem OwnQ.drew {w : World} {B : Nat} {v : Value} {cs : List Cq} (h : OwnQ w B v cs) : OwnQ w.drew B v cs := h
/-- append of transactions, as one step of a region that draws its order. -/
theorem step_appQ {P : Program} {ops : Array Oper} {o : Oper} {a : Act} {w : World} {K : Act → World → Prop} {Q : Exit → Act → World → Prop} {E : Prop} (hgd : o.guard = none)
    (s x : Operand) (t : TypeId) (ho : o.op = Op.call { callee := Callee.builtin Builtin.append, args := #[s, x], argTypes := #[t, t] }) (B : Nat) (i : TypeInfo)
    (z : Value) (ht : P.underlying t = some (TypeDesc.slice 78)) (hi : P.info? 78 = some i) (hz : i.zero = some z) (hsize : i.size = 7) (hby : i.bytes = 80) (hzs : z.cells.size = 7)
    (v : Value) (cs : List Cq) (hsv : a.eval s = v) (hown : OwnQ w B v cs) (va : Value) (ns : List Cq) (hx : a.eval x = va)
    (hat : (va = .slice none 0 0 ∧ ns = []) ∨ ∃ ad cap, va = .slice (some ad) ns.length cap ∧ ∀ (j : Nat) (u : Value), (cqsCells ns)[j]? = some u → w.cell? (ad.add j) = some u)
    (hlen : cs.length + ns.length ≤ 4000000) (hB : B ≤ w.heap.size)
    (h : ∀ (v' : Value) (w' : World), OwnQ w' B v' (cs ++ ns) → w.grownBy w' v.ownBlock → K (a.put o.dst v') w') :
    if Region.wanted o (yielded ops a.tmps) = true then Oper.wp P o a w K Q else E := by
  have hw : Region.wanted o (yielded ops a.tmps) = true := by simp [Region.wanted, hgd]
  rw [if_pos hw]
  rcases hat with ⟨hv, hn⟩ | ⟨ad, cap, hv, hc⟩
  · subst hn
    rw [hv] at hx
    have hrun := run_append_owned_none (P := P) (w := w) B t o.type 78 i 7 ht hi v cs.length (cqsCells cs) hown
    unfold Oper.wp
    simp [execOp, ho, resolve, invoke, builtin, hsv, hx, hrun, Result.andThen]
    exact h v w (by rw [List.append_nil]; exact hown) ⟨rfl, rfl, rfl, Nat.le_refl _, fun _ _ _ => rfl⟩
  · rw [hv] at hx
    obtain ⟨v', w', hrun, r1, hgr, _⟩ := run_append_own (P := P) w B t o.type 78 i z 7 80 ht hi hz hsize hby hzs (by decide) v cs.length (cqsCells cs) hown ad ns.length cap (cqsCells ns) (cqsCells_len ns) hc (cqs_one ns) (by unfold maxLen; omega) (by omega) hB
    unfold Oper.wp
    simp [execOp, ho, resolve, invoke, builtin, hsv, hx, hrun, Result.andThen]
    refine h v' w' ?_ hgr
    unfold OwnQ
    rw [cqsCells_app, List.length_append]
    exact r1
theorem OwnQ.news {w : World} {B : Nat} {v : Value} {cs : List Cq} (h : OwnQ w B v cs) : (v = .slice none 0 0 ∧ cs = []) ∨ ∃ ad cap, v = .slice (some ad) cs.length cap ∧ ∀ (j : Nat) (u : Value), (cqsCells cs)[j]? = some u → w.cell? (ad.add j) = some u := by
  rcases h.2 with ⟨rfl, hn⟩ | ⟨g, cap, cur, rfl, _⟩
  · exact Or.inl ⟨rfl, List.eq_nil_of_length_eq_zero hn⟩
  · exact Or.inr ⟨_, cap, rfl, World.ownsRow.cells h rfl⟩
theorem OwnQ.one (w : World) (B : Nat) (hb : B ≤ w.heap.size) (c : Cq) : OwnQ (w.alloc (.cells (cqCells c).toArray 78)) B (.slice (some ⟨w.heap.size, 0, none⟩) 1 1) [c] := by
  have := World.ownsRow_lit (base := B) (e := 78) (size := 7) w (cqCells c).toArray 1 hb (by decide) rfl
  exact this
/-- What Start's last region reads: the table at bt, the transaction at bc. -/
structure RdQ (w : World) (bt bc : Nat) (most last : Int) (v : Value) (c : Cq) : Prop where
  x0 : w.cell? ⟨bt, 0, none⟩ = some (.int .i64 most)
  x1 : w.cell? ⟨bt, 1, none⟩ = some (.int .i64 last)
  x2 : w.cell? ⟨bt, 2, none⟩ = some v
  c0 : w.cell? ⟨bc, 0, none⟩ = some (.int .i64 c.id)
  c1 : w.cell? ⟨bc, 1, none⟩ = some (.string ⟨c.br.toArray⟩)
  c2 : w.cell? ⟨bc, 2, none⟩ = some (.int .i64 c.begun)
  c3 : w.cell? ⟨bc, 3, none⟩ = some (.int .i64 c.times)
  c4 : w.cell? ⟨bc, 4, none⟩ = some (.int .i64 c.rest)
  c5 : w.cell? ⟨bc, 5, none⟩ = some (.string ⟨c.to.toArray⟩)
  c6 : w.cell? ⟨bc, 6, none⟩ = some (.string ⟨c.tx.toArray⟩)
theorem RdQ.below {w w' : World} {bt bc B : Nat} {most last : Int} {v : Value} {c : Cq} (h : RdQ w bt bc most last v c) (hb : Below B w w') (h1 : bt < B) (h2 : bc < B) : RdQ w' bt bc most last v c :=
  ⟨cell_beq hb h1 h.x0, cell_beq hb h1 h.x1, cell_beq hb h1 h.x2, cell_beq hb h2 h.c0, cell_beq hb h2 h.c1, cell_beq hb h2 h.c2, cell_beq hb h2 h.c3, cell_beq hb h2 h.c4, cell_beq hb h2 h.c5, cell_beq hb h2 h.c6⟩
theorem rdq_of {w : World} {bt bc : Nat} {t : Tq} {v : Value} {c : Cq} (h : BoxQ w bt t v) {B : Nat} (hc : OwnQ w B (.slice (some ⟨bc, 0, none⟩) 1 1) [c]) : RdQ w bt bc t.most t.last v c := by
  obtain ⟨hv, _⟩ | ⟨g, cap, hv, _, _, _, hat⟩ := hc.get
  · simp at hv
  · injection hv with h1 h2 h3
    injection h1 with h1
    injection h1 with h1 _
    subst h1
    obtain ⟨a0, a1, a2, a3, a4, a5, a6⟩ := hat 0 (by simp)
    simp only [Nat.zero_mul, Nat.zero_add, List.getElem_cons_zero] at a0 a1 a2 a3 a4 a5 a6
    exact ⟨h.c0, h.c1, h.c2, a0, a1, a2, a3, a4, a5, a6⟩
end Go.Proofs.Ytgikbpaejmdnoaa

/-
  The last region of the document's Start (layer 12): what holds whatever was run ahead.
-/
namespace Go.Proofs.Ytgikbpaejmdnoaa
open Go.RowKit
set_option linter.unusedVariables false
set_option maxRecDepth 20000
set_option linter.unusedSimpArgs false

structure KQ where
  C : Cq
  most : Int
  last : Int
  l : List Cq
  v : Value
  B : Nat
  bt : Nat
  b10 : Nat
  bc : Nat
  W5 : Nat
  W0 : World
structure KQ.Ok (k : KQ) : Prop where
  h1 : k.bt < k.W5
  h2 : k.bc < k.W5
  h3 : k.b10 < k.W5
  n1 : k.b10 ≠ k.bt
  n2 : k.b10 ≠ k.bc
  lo : k.W0.heap.size ≤ k.b10
  vlt : ∀ g, k.v.ownBlock = some g → g < k.W5
def TQ9 (k : KQ) : List (Nat × Nat × Value) :=
  [(0, 50, .pointer (some ⟨k.bt, 0, none⟩)), (1, 51, .int .i64 k.most), (2, 52, .pointer (some ⟨k.bt, 1, none⟩)), (3, 53, .int .i64 k.last), (4, 54, .int .i64 (k.last + 1)), (6, 56, .pointer (some ⟨k.bt, 2, none⟩)), (7, 57, k.v), (9, 59, .agg (cqCells k.C).toArray), (13, 63, .pointer (some ⟨k.bc, 0, none⟩)), (14, 64, .int .i64 k.C.id), (16, 9, .int .i64 k.C.id), (17, 10, .int .i64 0)]
structure DynQ (k : KQ) (l5 l8 l10 l11 l12 l15 : Bool) (x54 x57 x59 x60 x61 : Value) (w : World) : Prop where
  rd : RdQ w k.bt k.bc k.most k.last k.v k.C
  bel : Below k.W0.heap.size k.W0 w
  lo : k.W5 ≤ w.heap.size
  vown : OwnQ w k.B k.v k.l
  row : RowIs w k.b10 31 (if l15 = true then [.int .i64 k.most, .int .i64 (k.last + 1), x60] else [.int .i64 0, .int .i64 0, .slice none 0 0])
  e12 : l12 = true → x61 = .agg #[.int .i64 k.most, .int .i64 (k.last + 1), x60]
  o5 : l5 = true → l8 = false → OwnQ w k.W5 x54 []
  o8 : l8 = true → l11 = false → OwnQ w k.W5 x57 k.l
  o10 : l10 = true → l11 = false → OwnQ w k.W5 x59 [k.C]
  n5 : l10 = true → l5 = true → l8 = false → x59.ownBlock ≠ x54.ownBlock
  o11 : l11 = true → OwnQ w k.W5 x60 (k.l ++ [k.C])
  c12 : l12 = true → l11 = true
  c15 : l15 = true → l11 = true
  c8 : l11 = true → l8 = true
structure InvQ (k : KQ) (L : Array Bool) (a : Act) (w : World) : Prop where
  sz : a.tmps.size = 65
  df : a.defers = []
  t5 : a.eval (.tmp 4) = .pointer (some ⟨k.bt, 0, none⟩)
  t10 : a.eval (.tmp 8) = .pointer (some ⟨k.b10, 0, none⟩)
  t15 : a.eval (.tmp 12) = .pointer (some ⟨k.bc, 0, none⟩)
  tab : TabOk (TQ9 k) L a
  dyn : DynQ k (L.getD 5 false) (L.getD 8 false) (L.getD 10 false) (L.getD 11 false) (L.getD 12 false) (L.getD 15 false) (a.eval (.tmp 55)) (a.eval (.tmp 58)) (a.eval (.tmp 60)) (a.eval (.tmp 61)) (a.eval (.tmp 62)) w
section
variable {k : KQ} {L : Array Bool} {a : Act} {w w' : World}
theorem InvQ.quiet (h : InvQ k L a w) (i d : Nat) (v : Value) (hd : d < 65) (hi : i ≠ 5 ∧ i ≠ 8 ∧ i ≠ 10 ∧ i ≠ 11 ∧ i ≠ 12 ∧ i ≠ 15) (hn : d ≠ 4 ∧ d ≠ 8 ∧ d ≠ 12 ∧ d ≠ 55 ∧ d ≠ 58 ∧ d ≠ 60 ∧ d ≠ 61 ∧ d ≠ 62)
    (hT : ∀ e ∈ TQ9 k, (e.2.1 = d ∧ e.2.2 = v) ∨ (e.1 ≠ i ∧ e.2.1 ≠ d)) : InvQ k (L.setIfInBounds i true) (a.put (some d) v) w := by
  obtain ⟨i1, i2, i3, i4, i5, i6⟩ := hi
  obtain ⟨d1, d2, d3, d4, d5, d6, d7, d8⟩ := hn
  refine ⟨by rw [put_size]; exact h.sz, by rw [put_defers]; exact h.df, by rw [eval_put_ne (Ne.symm d1)]; exact h.t5, by rw [eval_put_ne (Ne.symm d2)]; exact h.t10, by rw [eval_put_ne (Ne.symm d3)]; exact h.t15, h.tab.put (by rw [h.sz]; exact hd) hT, ?_⟩
  rw [getD_set_ne (Ne.symm i1), getD_set_ne (Ne.symm i2), getD_set_ne (Ne.symm i3), getD_set_ne (Ne.symm i4), getD_set_ne (Ne.symm i5), getD_set_ne (Ne.symm i6), eval_put_ne (Ne.symm d4), eval_put_ne (Ne.symm d5), eval_put_ne (Ne.symm d6), eval_put_ne (Ne.symm d7), eval_put_ne (Ne.symm d8)]
  exact h.dyn
theorem RdQ.kept {bt bc : Nat} {most last : Int} {v : Value} {c : Cq} (h : RdQ w bt bc most last v c) {r : Option Nat} (hg : w.grownBy w' r) (h1 : some bt ≠ r) (h2 : some bc ≠ r) : RdQ w' bt bc most last v c :=
  ⟨hg.cell h.x0 h1, hg.cell h.x1 h1, hg.cell h.x2 h1, hg.cell h.c0 h2, hg.cell h.c1 h2, hg.cell h.c2 h2, hg.cell h.c3 h2, hg.cell h.c4 h2, hg.cell h.c5 h2, hg.cell h.c6 h2⟩
variable {l5 l8 l10 l11 l12 l15 : Bool} {x54 x57 x59 x60 x61 : Value}
theorem DynQ.w0 (h : DynQ k l5 l8 l10 l11 l12 l15 x54 x57 x59 x60 x61 w) (hk : k.Ok) : k.W0.heap.size ≤ w.heap.size := h.bel.size
theorem DynQ.low (hk : k.Ok) {r : Option Nat} (hr : ∀ g, r = some g → k.W5 ≤ g) {b : Nat} (hb : b < k.W5) : some b ≠ r := fun e => by have := hr b e.symm; omega
/-- Memory is made, or a row in a block from W5 on is written. -/
theorem DynQ.grow (h : DynQ k l5 l8 l10 l11 l12 l15 x54 x57 x59 x60 x61 w) (hk : k.Ok) {r : Option Nat} (hg : w.grownBy w' r) (hr : ∀ g, r = some g → k.W5 ≤ g) :
    RdQ w' k.bt k.bc k.most k.last k.v k.C ∧ Below k.W0.heap.size k.W0 w' ∧ k.W5 ≤ w'.heap.size ∧ OwnQ w' k.B k.v k.l ∧ RowIs w' k.b10 31 (if l15 = true then [.int .i64 k.most, .int .i64 (k.last + 1), x60] else [.int .i64 0, .int .i64 0, .slice none 0 0]) := by
  have hlw : k.W0.heap.size ≤ k.W5 := by have := hk.lo; have := hk.h3; omega
  refine ⟨h.rd.kept hg (DynQ.low hk hr hk.h1) (DynQ.low hk hr hk.h2), h.bel.grown hg h.bel.size (fun g e => Nat.le_trans hlw (hr g e)), Nat.le_trans h.lo hg.size, World.ownsRow.kept h.vown hg ?_, row_kept h.row hg (DynQ.low hk hr hk.h3)⟩
  cases e : k.v.ownBlock with
  | none => exact .inl rfl
  | some g => exact .inr (DynQ.low hk hr (hk.vlt g e))
/-- A store into a row of another type keeps a row of transactions. -/
theorem ownq_far3 {B b : Nat} {v : Value} {l : List Cq} {us : List Value} (h : OwnQ w B v l) (hr : RowIs w b 31 us) (v0 v1 v2 : Value) : OwnQ (((w.setCell ⟨b, 0, none⟩ v0).setCell ⟨b, 1, none⟩ v1).setCell ⟨b, 2, none⟩ v2) B v l := by
  obtain ⟨h1, h2⟩ := h
  refine ⟨h1, ?_⟩
  rcases h2 with h2 | ⟨g, cap, cur, hv, hg, hh, r⟩
  · exact Or.inl h2
  · have hne : g ≠ b := fun e => by
      subst e
      unfold RowIs at hr
      rw [hr] at hh
      simp at hh
    exact Or.inr ⟨g, cap, cur, hv, hg, by rw [set3_block w hne]; exact hh, r⟩
theorem InvQ.s5 (h : InvQ k L a w) (hk : k.Ok) (hL : L.size = 18) : InvQ k (L.setIfInBounds 5 true) (a.put (some 55) (.slice (some ⟨w.heap.size, 0, none⟩) 0 0)) (w.alloc (.cells #[] 78)) := by
  refine ⟨by rw [put_size]; exact h.sz, by rw [put_defers]; exact h.df, by rw [eval_put_ne (by decide)]; exact h.t5, by rw [eval_put_ne (by decide)]; exact h.t10, by rw [eval_put_ne (by decide)]; exact h.t15, h.tab.put (by rw [h.sz]; decide) (by intro e he; simp [TQ9] at he; rcases he with rfl | rfl | rfl | rfl | rfl | rfl | rfl | rfl | rfl | rfl | rfl | rfl <;> simp), ?_⟩
  rw [getD_set_same (by rw [hL]; decide), getD_set_ne (by decide), getD_set_ne (by decide), getD_set_ne (by decide), getD_set_ne (by decide), getD_set_ne (by decide), eval_put_same (by rw [h.sz]; decide), eval_put_ne (by decide), eval_put_ne (by decide), eval_put_ne (by decide), eval_put_ne (by decide)]
  have d := h.dyn
  obtain ⟨g1, g2, g3, g4, g5⟩ := d.grow hk (alloc_grown w (.cells #[] 78) none) (fun g e => by cases e)
  refine ⟨g1, g2, g3, g4, g5, d.e12, fun _ _ => OwnQ.empty w k.W5 d.lo, fun a1 a2 => (d.o8 a1 a2).alloc _, fun a1 a2 => (d.o10 a1 a2).alloc _, fun a1 a2 a3 e => ?_, fun a1 => (d.o11 a1).alloc _, d.c12, d.c15, d.c8⟩
  cases h11 : L.getD 11 false
  · have := (World.ownsRow.lt (d.o10 a1 h11) w.heap.size (by rw [e]; rfl)).2
    omega
  · exact absurd (d.c8 h11) (by rw [a3]; decide)
theorem InvQ.s10 (h : InvQ k L a w) (hk : k.Ok) (hL : L.size = 18) : InvQ k (L.setIfInBounds 10 true) (a.put (some 60) (.slice (some ⟨w.heap.size, 0, none⟩) 1 1)) (w.alloc (.cells (cqCells k.C).toArray 78)) := by
  refine ⟨by rw [put_size]; exact h.sz, by rw [put_defers]; exact h.df, by rw [eval_put_ne (by decide)]; exact h.t5, by rw [eval_put_ne (by decide)]; exact h.t10, by rw [eval_put_ne (by decide)]; exact h.t15, h.tab.put (by rw [h.sz]; decide) (by intro e he; simp [TQ9] at he; rcases he with rfl | rfl | rfl | rfl | rfl | rfl | rfl | rfl | rfl | rfl | rfl | rfl <;> simp), ?_⟩
  rw [getD_set_same (by rw [hL]; decide), getD_set_ne (by decide), getD_set_ne (by decide), getD_set_ne (by decide), getD_set_ne (by decide), getD_set_ne (by decide), eval_put_same (by rw [h.sz]; decide), eval_put_ne (by decide), eval_put_ne (by decide), eval_put_ne (by decide), eval_put_ne (by decide)]
  have d := h.dyn
  obtain ⟨g1, g2, g3, g4, g5⟩ := d.grow hk (alloc_grown w (.cells (cqCells k.C).toArray 78) none) (fun g e => by cases e)
  refine ⟨g1, g2, g3, g4, g5, d.e12, fun a1 a2 => (d.o5 a1 a2).alloc _, fun a1 a2 => (d.o8 a1 a2).alloc _, fun _ _ => OwnQ.one w k.W5 d.lo k.C, fun _ a2 a3 e => ?_, fun a1 => (d.o11 a1).alloc _, d.c12, d.c15, d.c8⟩
  have := (World.ownsRow.lt (d.o5 a2 a3) w.heap.size (by rw [← e]; rfl)).2
  omega
theorem InvQ.s8 (h : InvQ k L a w) (hk : k.Ok) (hL : L.size = 18) (h5 : L.getD 5 false = true) (h8 : L.getD 8 false = false) {v' : Value} (ho : OwnQ w' k.W5 v' k.l) (hg : w.grownBy w' (a.eval (.tmp 55)).ownBlock) : InvQ k (L.setIfInBounds 8 true) (a.put (some 58) v') w' := by
  refine ⟨by rw [put_size]; exact h.sz, by rw [put_defers]; exact h.df, by rw [eval_put_ne (by decide)]; exact h.t5, by rw [eval_put_ne (by decide)]; exact h.t10, by rw [eval_put_ne (by decide)]; exact h.t15, h.tab.put (by rw [h.sz]; decide) (by intro e he; simp [TQ9] at he; rcases he with rfl | rfl | rfl | rfl | rfl | rfl | rfl | rfl | rfl | rfl | rfl | rfl <;> simp), ?_⟩
  have d := h.dyn
  have hr : ∀ g, (a.eval (.tmp 55)).ownBlock = some g → k.W5 ≤ g := fun g e => (World.ownsRow.lt (d.o5 h5 h8) g e).1
  have h11 : L.getD 11 false = false := by
    cases e : L.getD 11 false
    · rfl
    · have := d.c8 e; rw [h8] at this; cases this
  rw [getD_set_same (by rw [hL]; decide), getD_set_ne (by decide), getD_set_ne (by decide), getD_set_ne (by decide), getD_set_ne (by decide), getD_set_ne (by decide), eval_put_same (by rw [h.sz]; decide), eval_put_ne (by decide), eval_put_ne (by decide), eval_put_ne (by decide), eval_put_ne (by decide)]
  obtain ⟨g1, g2, g3, g4, g5⟩ := d.grow hk hg hr
  refine ⟨g1, g2, g3, g4, g5, d.e12, fun _ e => (by cases e), fun _ _ => ho, fun a1 a2 => World.ownsRow.kept (d.o10 a1 a2) hg (.inr (d.n5 a1 h5 h8)), fun _ _ e => (by cases e), fun a1 => (by rw [h11] at a1; cases a1), d.c12, d.c15, fun _ => rfl⟩
theorem InvQ.s11 (h : InvQ k L a w) (hk : k.Ok) (hL : L.size = 18) (h8 : L.getD 8 false = true) (h11 : L.getD 11 false = false) {v' : Value} (ho : OwnQ w' k.W5 v' (k.l ++ [k.C])) (hg : w.grownBy w' (a.eval (.tmp 58)).ownBlock) : InvQ k (L.setIfInBounds 11 true) (a.put (some 61) v') w' := by
  refine ⟨by rw [put_size]; exact h.sz, by rw [put_defers]; exact h.df, by rw [eval_put_ne (by decide)]; exact h.t5, by rw [eval_put_ne (by decide)]; exact h.t10, by rw [eval_put_ne (by decide)]; exact h.t15, h.tab.put (by rw [h.sz]; decide) (by intro e he; simp [TQ9] at he; rcases he with rfl | rfl | rfl | rfl | rfl | rfl | rfl | rfl | rfl | rfl | rfl | rfl <;> simp), ?_⟩
  have d := h.dyn
  have hr : ∀ g, (a.eval (.tmp 58)).ownBlock = some g → k.W5 ≤ g := fun g e => (World.ownsRow.lt (d.o8 h8 h11) g e).1
  have h12 : L.getD 12 false = false := by
    cases e : L.getD 12 false
    · rfl
    · have := d.c12 e; rw [h11] at this; cases this
  have h15 : L.getD 15 false = false := by
    cases e : L.getD 15 false
    · rfl
    · have := d.c15 e; rw [h11] at this; cases this
  rw [getD_set_same (by rw [hL]; decide), getD_set_ne (by decide), getD_set_ne (by decide), getD_set_ne (by decide), getD_set_ne (by decide), getD_set_ne (by decide), eval_put_same (by rw [h.sz]; decide), eval_put_ne (by decide), eval_put_ne (by decide), eval_put_ne (by decide), eval_put_ne (by decide)]
  obtain ⟨g1, g2, g3, g4, g5⟩ := d.grow hk hg hr
  rw [h12, h15, h8]
  rw [h15] at g5
  exact ⟨g1, g2, g3, g4, g5, fun e => (by cases e), fun _ e => (by cases e), fun _ e => (by cases e), fun _ e => (by cases e), fun _ _ e => (by cases e), fun _ => ho, fun e => (by cases e), fun e => (by cases e), fun _ => rfl⟩
theorem InvQ.s12 (h : InvQ k L a w) (hL : L.size = 18) (h11 : L.getD 11 false = true) : InvQ k (L.setIfInBounds 12 true) (a.put (some 62) (.agg #[.int .i64 k.most, .int .i64 (k.last + 1), a.eval (.tmp 61)])) w := by
  refine ⟨by rw [put_size]; exact h.sz, by rw [put_defers]; exact h.df, by rw [eval_put_ne (by decide)]; exact h.t5, by rw [eval_put_ne (by decide)]; exact h.t10, by rw [eval_put_ne (by decide)]; exact h.t15, h.tab.put (by rw [h.sz]; decide) (by intro e he; simp [TQ9] at he; rcases he with rfl | rfl | rfl | rfl | rfl | rfl | rfl | rfl | rfl | rfl | rfl | rfl <;> simp), ?_⟩
  have d := h.dyn
  rw [getD_set_same (by rw [hL]; decide), getD_set_ne (by decide), getD_set_ne (by decide), getD_set_ne (by decide), getD_set_ne (by decide), getD_set_ne (by decide), eval_put_same (by rw [h.sz]; decide), eval_put_ne (by decide), eval_put_ne (by decide), eval_put_ne (by decide), eval_put_ne (by decide)]
  exact ⟨d.rd, d.bel, d.lo, d.vown, d.row, fun _ => rfl, d.o5, d.o8, d.o10, d.n5, d.o11, fun _ => h11, d.c15, d.c8⟩
theorem InvQ.s15 (h : InvQ k L a w) (hk : k.Ok) (hL : L.size = 18) (h8 : L.getD 8 false = true) (h11 : L.getD 11 false = true) (h15 : L.getD 15 false = false) :
    InvQ k (L.setIfInBounds 15 true) a (((w.setCell ⟨k.b10, 0, none⟩ (.int .i64 k.most)).setCell ⟨k.b10, 1, none⟩ (.int .i64 (k.last + 1))).setCell ⟨k.b10, 2, none⟩ (a.eval (.tmp 61))) := by
  refine ⟨h.sz, h.df, h.t5, h.t10, h.t15, h.tab.skip (by intro e he; simp [TQ9] at he; rcases he with rfl | rfl | rfl | rfl | rfl | rfl | rfl | rfl | rfl | rfl | rfl | rfl <;> simp), ?_⟩
  have d := h.dyn
  rw [getD_set_same (by rw [hL]; decide), getD_set_ne (by decide), getD_set_ne (by decide), getD_set_ne (by decide), getD_set_ne (by decide), getD_set_ne (by decide), h8, h11]
  have hrow := d.row
  rw [h15, if_neg (by decide)] at hrow
  have hc : ∀ {b : Nat}, b ≠ k.b10 → ∀ (j : Nat) (u : Value), w.cell? ⟨b, j, none⟩ = some u → (((w.setCell ⟨k.b10, 0, none⟩ (.int .i64 k.most)).setCell ⟨k.b10, 1, none⟩ (.int .i64 (k.last + 1))).setCell ⟨k.b10, 2, none⟩ (a.eval (.tmp 61))).cell? ⟨b, j, none⟩ = some u := fun hb j u hu => by
    rw [World.cell?_of_block (a := ⟨_, j, none⟩) (set3_block w hb _ _ _)]
    exact hu
  have r := d.rd
  have hlw : k.W0.heap.size ≤ k.b10 := hk.lo
  have nb1 : k.bt ≠ k.b10 := Ne.symm hk.n1
  have nb2 : k.bc ≠ k.b10 := Ne.symm hk.n2
  refine ⟨⟨hc nb1 _ _ r.x0, hc nb1 _ _ r.x1, hc nb1 _ _ r.x2, hc nb2 _ _ r.c0, hc nb2 _ _ r.c1, hc nb2 _ _ r.c2, hc nb2 _ _ r.c3, hc nb2 _ _ r.c4, hc nb2 _ _ r.c5, hc nb2 _ _ r.c6⟩, sv_below3 d.bel k.b10 hlw _ _ _, by simpa using d.lo, ?_, ?_, d.e12, fun _ e => (by cases e), fun _ e => (by cases e), fun _ e => (by cases e), fun _ _ e => (by cases e), fun _ => sv_set3 (d.o11 h11) hk.h3 _ _ _, fun _ => rfl, fun _ => rfl, fun _ => rfl⟩
  · exact ownq_far3 d.vown hrow _ _ _
  · rw [if_pos rfl]; exact sv_store3 hrow _ _ _
end
end Go.Proofs.Ytgikbpaejmdnoaa

/-
  The last region of the document's Start (layer 12): its operations.
-/
namespace Go.Proofs.Ytgikbpaejmdnoaa
open Go.RowKit
set_option linter.unusedVariables false
set_option maxRecDepth 20000
set_option linter.unusedSimpArgs false

structure OpsQ (ops : Array Oper) : Prop where
  sz : ops.size = 18
  p0 : OpIs ops 0 (some 50) (.fieldAddr 31 (.tmp 4) 0)
  p1 : OpIs ops 1 (some 51) (.load 3 (.tmp 50))
  p2 : OpIs ops 2 (some 52) (.fieldAddr 31 (.tmp 4) 1)
  p3 : OpIs ops 3 (some 53) (.load 3 (.tmp 52))
  p4 : OpIs ops 4 (some 54) (.binOp .add 3 (.tmp 53) (.const (.int .i64 1)) 3)
  p5 : OpIs ops 5 (some 55) (.buildSlice 29 0 #[])
  p6 : OpIs ops 6 (some 56) (.fieldAddr 31 (.tmp 4) 2)
  p7 : OpIs ops 7 (some 57) (.load 29 (.tmp 56))
  p8 : OpIs ops 8 (some 58) (.call { callee := .builtin .append, args := #[.tmp 55, .tmp 57], argTypes := #[29, 29] })
  p9 : OpIs ops 9 (some 59) (.load 78 (.tmp 12))
  p10 : OpIs ops 10 (some 60) (.buildSlice 29 1 #[(0, .tmp 59)])
  p11 : OpIs ops 11 (some 61) (.call { callee := .builtin .append, args := #[.tmp 58, .tmp 60], argTypes := #[29, 29] })
  p12 : OpIs ops 12 (some 62) (.build 31 #[(0, .tmp 51), (1, .tmp 54), (2, .tmp 61)])
  p13 : OpIs ops 13 (some 63) (.fieldAddr 78 (.tmp 12) 0)
  p14 : OpIs ops 14 (some 64) (.load 3 (.tmp 63))
  p15 : OpIs ops 15 none (.store 31 (.tmp 8) (.tmp 62))
  p16 : OpIs ops 16 (some 9) (.assign (.tmp 64))
  p17 : OpIs ops 17 (some 10) (.assign (.const (.int .i64 0)))
  w1 : Waits ops 1 0
  w3 : Waits ops 3 2
  w4 : Waits ops 4 3
  w7 : Waits ops 7 6
  w8 : Waits ops 8 5
  v8 : Waits ops 8 7
  w10 : Waits ops 10 9
  w11 : Waits ops 11 8
  v11 : Waits ops 11 10
  w12 : Waits ops 12 1
  v12 : Waits ops 12 4
  u12 : Waits ops 12 11
  w14 : Waits ops 14 13
  w15 : Waits ops 15 12
  v15 : Waits ops 15 11
  u15 : Waits ops 15 8
  w16 : Waits ops 16 14
set_option maxHeartbeats 1000000 in
set_option maxRecDepth 100000 in
theorem stepsQ {ops : Array Oper} (S : OpsQ ops) {k : KQ} (hk : k.Ok) (hlen : k.l.length ≤ 1000000) (hl0 : 0 ≤ k.last) (hl9 : k.last ≤ 1000000000) (Q : Exit → Act → World → Prop) (L : Array Bool) (a : Act) (w : World) (i : Nat) (hs : L.size = ops.size) (hi : i ∈ Region.ready .any ops L) (hI : InvQ k L a w) :
    wpOp Try.prog ops Q i (InvQ k (L.setIfInBounds i true)) a w := by
  have hL : L.size = 18 := by rw [hs, S.sz]
  have hn0 : L.getD i false = false := by
    have := (mem_ready.1 hi).1
    rw [Array.getD_eq_getD_getElem?] at this ⊢
    cases e : L[i]? with
    | none => rw [e] at this; simp at this
    | some b => rw [e] at this; simpa using this
  have hi18 : i < 18 := by
    obtain ⟨_, o, ho, _⟩ := mem_ready.1 hi
    rw [← S.sz]; exact (Array.getElem?_eq_some_iff.1 ho).1
  have TB : ∀ j d v, (j, d, v) ∈ TQ9 k → L.getD j false = true → a.eval (.tmp d) = v := fun j d v hm hl => hI.tab (j, d, v) hm hl
  obtain ⟨i0, hif, hz0, hz1, hz2⟩ := info_parts infoCq
  have d := hI.dyn
  have evc : ∀ v, a.eval (.const v) = v := fun _ => rfl
  have t5 := hI.t5
  have t15 := hI.t15
  obtain ⟨x0, x1, x2, c0, c1, c2, c3, c4, c5, c6⟩ := d.rd
  rcases (show i = 0 ∨ i = 1 ∨ i = 2 ∨ i = 3 ∨ i = 4 ∨ i = 5 ∨ i = 6 ∨ i = 7 ∨ i = 8 ∨ i = 9 ∨ i = 10 ∨ i = 11 ∨ i = 12 ∨ i = 13 ∨ i = 14 ∨ i = 15 ∨ i = 16 ∨ i = 17 by omega) with rfl | rfl | rfl | rfl | rfl | rfl | rfl | rfl | rfl | rfl | rfl | rfl | rfl | rfl | rfl | rfl | rfl | rfl
  · refine S.p0.val (v := .pointer (some ⟨k.bt, 0, none⟩)) (w' := w) (fun o ho => ?_) (hI.quiet 0 50 _ (by decide) (by decide) (by decide) (by intro e he; simp [TQ9] at he; rcases he with rfl | rfl | rfl | rfl | rfl | rfl | rfl | rfl | rfl | rfl | rfl | rfl <;> simp))
    simp only [execOp, ho, t5]
    go_simp
  · have q := TB 0 50 _ (by simp [TQ9]; rfl) (S.w1.on hi)
    refine S.p1.val (v := .int .i64 k.most) (w' := w) (fun o ho => ?_) (hI.quiet 1 51 _ (by decide) (by decide) (by decide) (by intro e he; simp [TQ9] at he; rcases he with rfl | rfl | rfl | rfl | rfl | rfl | rfl | rfl | rfl | rfl | rfl | rfl <;> simp))
    simp only [execOp, ho, q]
    go_simp
  · refine S.p2.val (v := .pointer (some ⟨k.bt, 1, none⟩)) (w' := w) (fun o ho => ?_) (hI.quiet 2 52 _ (by decide) (by decide) (by decide) (by intro e he; simp [TQ9] at he; rcases he with rfl | rfl | rfl | rfl | rfl | rfl | rfl | rfl | rfl | rfl | rfl | rfl <;> simp))
    simp only [execOp, ho, t5]
    go_simp
  · have q := TB 2 52 _ (by simp [TQ9]; rfl) (S.w3.on hi)
    refine S.p3.val (v := .int .i64 k.last) (w' := w) (fun o ho => ?_) (hI.quiet 3 53 _ (by decide) (by decide) (by decide) (by intro e he; simp [TQ9] at he; rcases he with rfl | rfl | rfl | rfl | rfl | rfl | rfl | rfl | rfl | rfl | rfl | rfl <;> simp))
    simp only [execOp, ho, q]
    go_simp
  · have q := TB 3 53 _ (by simp [TQ9]; rfl) (S.w4.on hi)
    have hov : True := trivial
    refine S.p4.val (v := .int .i64 (k.last + 1)) (w' := w) (fun o ho => ?_) (hI.quiet 4 54 _ (by decide) (by decide) (by decide) (by intro e he; simp [TQ9] at he; rcases he with rfl | rfl | rfl | rfl | rfl | rfl | rfl | rfl | rfl | rfl | rfl | rfl <;> simp))
    simp only [execOp, ho, q, evc]
    go_simp
    simp [IntKind.wrap, IntKind.bits, IntKind.signed]
    omega
  · refine S.p5.val (v := .slice (some ⟨w.heap.size, 0, none⟩) 0 0) (w' := w.alloc (.cells #[] 78)) (fun o ho => ?_) (hI.s5 hk hL)
    simp only [execOp, ho]
    go_simp
  · refine S.p6.val (v := .pointer (some ⟨k.bt, 2, none⟩)) (w' := w) (fun o ho => ?_) (hI.quiet 6 56 _ (by decide) (by decide) (by decide) (by intro e he; simp [TQ9] at he; rcases he with rfl | rfl | rfl | rfl | rfl | rfl | rfl | rfl | rfl | rfl | rfl | rfl <;> simp))
    simp only [execOp, ho, t5]
    go_simp
  · have q := TB 6 56 _ (by simp [TQ9]; rfl) (S.w7.on hi)
    refine S.p7.val (v := k.v) (w' := w) (fun o ho => ?_) (hI.quiet 7 57 _ (by decide) (by decide) (by decide) (by intro e he; simp [TQ9] at he; rcases he with rfl | rfl | rfl | rfl | rfl | rfl | rfl | rfl | rfl | rfl | rfl | rfl <;> simp))
    simp only [execOp, ho, q]
    go_simp
  · have h5 := S.w8.on hi
    have q7 := TB 7 57 _ (by simp [TQ9]; rfl) (S.v8.on hi)
    obtain ⟨o, ho, hg, hd, hop⟩ := S.p8
    refine wpOp_of ho (E := True) (step_appQ hg (.tmp 55) (.tmp 57) 29 hop k.W5 i0 _ Try.underlying29 hif hz0 hz1 hz2 rfl _ [] rfl (d.o5 h5 hn0) _ k.l q7 d.vown.news (by simp; omega) d.lo ?_) hg
    intro v' w' ho' hg'
    rw [hd]
    exact hI.s8 hk hL h5 hn0 (by simpa using ho') hg'
  · refine S.p9.val (v := .agg (cqCells k.C).toArray) (w' := w) (fun o ho => ?_) (hI.quiet 9 59 _ (by decide) (by decide) (by decide) (by intro e he; simp [TQ9] at he; rcases he with rfl | rfl | rfl | rfl | rfl | rfl | rfl | rfl | rfl | rfl | rfl | rfl <;> simp))
    simp only [execOp, ho, t15]
    go_simp
    rfl
  · have q := TB 9 59 _ (by simp [TQ9]; rfl) (S.w10.on hi)
    refine S.p10.val (v := .slice (some ⟨w.heap.size, 0, none⟩) 1 1) (w' := w.alloc (.cells (cqCells k.C).toArray 78)) (fun o ho => ?_) (hI.s10 hk hL)
    unfold cqCells at q ⊢
    simp only [execOp, ho]
    have em : Array.map (fun x : Nat × Operand => (x.fst, a.eval x.snd)) #[(0, Operand.tmp 59)] = #[(0, .agg #[.int .i64 k.C.id, .string ⟨k.C.br.toArray⟩, .int .i64 k.C.begun, .int .i64 k.C.times, .int .i64 k.C.rest, .string ⟨k.C.to.toArray⟩, .string ⟨k.C.tx.toArray⟩])] := by simp only [List.map_toArray, List.map_cons, List.map_nil, q]
    rw [em]
    clear TB hI d S hz0 hk hi evc
    go_simp
  · have h8 := S.w11.on hi
    have h10 := S.v11.on hi
    obtain ⟨o, ho, hg, hd, hop⟩ := S.p11
    refine wpOp_of ho (E := True) (step_appQ hg (.tmp 58) (.tmp 60) 29 hop k.W5 i0 _ Try.underlying29 hif hz0 hz1 hz2 rfl _ k.l rfl (d.o8 h8 hn0) _ [k.C] rfl (d.o10 h10 hn0).news (by simp; omega) d.lo ?_) hg
    intro v' w' ho' hg'
    rw [hd]
    exact hI.s11 hk hL h8 hn0 ho' hg'
  · have h11 := S.u12.on hi
    have q1 := TB 1 51 _ (by simp [TQ9]; rfl) (S.w12.on hi)
    have q4 := TB 4 54 _ (by simp [TQ9]; rfl) (S.v12.on hi)
    obtain ⟨oa, oc, hx⟩ := (d.o11 h11).form
    have hI' := hI.s12 hL h11
    rw [hx] at hI'
    refine S.p12.val (v := _) (w' := w) (fun o ho => ?_) hI'
    simp only [execOp, ho]
    have em : Array.map (fun x : Nat × Operand => (x.fst, a.eval x.snd)) #[(0, Operand.tmp 51), (1, Operand.tmp 54), (2, Operand.tmp 61)] = #[(0, .int .i64 k.most), (1, .int .i64 (k.last + 1)), (2, .slice oa (k.l ++ [k.C]).length oc)] := by simp only [List.map_toArray, List.map_cons, List.map_nil, q1, q4, hx]
    rw [em]
    clear TB hI d S hz0 hk hi evc hI'
    go_simp
  · refine S.p13.val (v := .pointer (some ⟨k.bc, 0, none⟩)) (w' := w) (fun o ho => ?_) (hI.quiet 13 63 _ (by decide) (by decide) (by decide) (by intro e he; simp [TQ9] at he; rcases he with rfl | rfl | rfl | rfl | rfl | rfl | rfl | rfl | rfl | rfl | rfl | rfl <;> simp))
    simp only [execOp, ho, t15]
    go_simp
  · have q := TB 13 63 _ (by simp [TQ9]; rfl) (S.w14.on hi)
    refine S.p14.val (v := .int .i64 k.C.id) (w' := w) (fun o ho => ?_) (hI.quiet 14 64 _ (by decide) (by decide) (by decide) (by intro e he; simp [TQ9] at he; rcases he with rfl | rfl | rfl | rfl | rfl | rfl | rfl | rfl | rfl | rfl | rfl | rfl <;> simp))
    simp only [execOp, ho, q]
    go_simp
  · have h8 := S.u15.on hi
    have h11 := S.v15.on hi
    have e12 := d.e12 (S.w15.on hi)
    have t10 := hI.t10
    have hrow := d.row
    rw [hn0, if_neg (by decide)] at hrow
    obtain ⟨y0, y1, y2, f0, f1, f2⟩ := hrow.sv3
    obtain ⟨oa, oc, hx⟩ := (d.o11 h11).form
    have hI' := hI.s15 hk hL h8 h11 hn0
    rw [hx] at hI' e12
    refine S.p15.skip (w' := _) (fun o ho => ?_) hI'
    simp only [execOp, ho, t10, e12]
    go_simp
  · have q := TB 14 64 _ (by simp [TQ9]; rfl) (S.w16.on hi)
    refine S.p16.val (v := .int .i64 k.C.id) (w' := w) (fun o ho => ?_) (hI.quiet 16 9 _ (by decide) (by decide) (by decide) (by intro e he; simp [TQ9] at he; rcases he with rfl | rfl | rfl | rfl | rfl | rfl | rfl | rfl | rfl | rfl | rfl | rfl <;> simp))
    simp only [execOp, ho, q]
    go_simp
  · refine S.p17.val (v := .int .i64 0) (w' := w) (fun o ho => ?_) (hI.quiet 17 10 _ (by decide) (by decide) (by decide) (by intro e he; simp [TQ9] at he; rcases he with rfl | rfl | rfl | rfl | rfl | rfl | rfl | rfl | rfl | rfl | rfl | rfl <;> simp))
    simp only [execOp, ho, evc]
    go_simp
end Go.Proofs.Ytgikbpaejmdnoaa

/-
  The document's own Start (layer 12).
-/
namespace Go.Proofs.Ytgikbpaejmdnoaa
open Go.RowKit
set_option linter.unusedVariables false
set_option maxRecDepth 20000
set_option linter.unusedSimpArgs false

def newQ (t : Tq) (br : List UInt8) (now : Int) (to tx : List UInt8) : Cq := ⟨t.last + 1, br, now, 1, -1, to, tx⟩
theorem startq_arg {t : Tq} {br to tx : List UInt8} {now : Int} (h : now < 0 ∨ 1099511627136 < now) : startQ t br now to tx = (t, 0, 1) := by unfold startQ; rw [if_pos h]
theorem startq_two {t : Tq} {br to tx : List UInt8} {now : Int} (h : ¬ (now < 0 ∨ 1099511627136 < now)) (hf : t.l.any (fun c => c.br == br) = true) : startQ t br now to tx = (t, 0, 7) := by unfold startQ; rw [if_neg h, if_pos hf]
theorem startq_full {t : Tq} {br to tx : List UInt8} {now : Int} (h : ¬ (now < 0 ∨ 1099511627136 < now)) (hf : ¬ t.l.any (fun c => c.br == br) = true) (hm : t.most ≤ t.l.length) : startQ t br now to tx = (t, 0, 5) := by unfold startQ; rw [if_neg h, if_neg hf, if_pos hm]
theorem startq_new {t : Tq} {br to tx : List UInt8} {now : Int} (h : ¬ (now < 0 ∨ 1099511627136 < now)) (hf : ¬ t.l.any (fun c => c.br == br) = true) (hm : ¬ t.most ≤ t.l.length) : startQ t br now to tx = (⟨t.most, t.last + 1, t.l ++ [newQ t br now to tx]⟩, t.last + 1, 0) := by unfold startQ; rw [if_neg h, if_neg hf, if_neg hm]; rfl
theorem preQ_step {l : List Cq} {p : Cq → Bool} {k : Nat} (hk : k < l.length) (hp : ∀ c ∈ l.take k, p c = false) (he : p l[k] = false) : ∀ c ∈ l.take (k + 1), p c = false := by
  intro c hc
  rw [List.take_succ_eq_append_getElem hk] at hc
  rcases List.mem_append.1 hc with h | h
  · exact hp c h
  · simp at h; subst h; exact he
theorem anyQ_hit {l : List Cq} {p : Cq → Bool} {k : Nat} (hk : k < l.length) (he : p l[k] = true) : l.any p = true := List.any_eq_true.2 ⟨l[k], List.getElem_mem hk, he⟩
theorem anyQ_end {l : List Cq} {p : Cq → Bool} (hp : ∀ c ∈ l.take l.length, p c = false) : ¬ l.any p = true := by
  intro h
  obtain ⟨c, hc, hx⟩ := List.any_eq_true.1 h
  rw [List.take_length] at hp
  rw [hp c hc] at hx
  cases hx
theorem sent_row2 (w : World) (v0 v1 : Value) (t : TypeId) : RowIs (w.alloc (.cells #[v0, v1] t)) w.heap.size t [v0, v1] := by
  unfold RowIs; rw [heap_alloc_new]

set_option maxHeartbeats 4000000 in
set_option maxRecDepth 100000 in
theorem refstartq_any {w : World} {B : Nat} {v : Value} {t : Tq} (h : OwnQ w B v t.l) (hB : B ≤ w.heap.size) {br to tx : List UInt8} {now : Int} (hn : t.l.length ≤ 1000000) (hl0 : 0 ≤ t.last) (hl9 : t.last ≤ 1000000000) (hm9 : t.most ≤ 1000000) :
    Calls Try.prog 20 #[tqV t v, .string ⟨br.toArray⟩, .int .i64 now, .agg #[.string ⟨to.toArray⟩, .string ⟨tx.toArray⟩]] w fun e w' => TqRes (startQ t br now to tx).1 [(startQ t br now to tx).2.1, (startQ t br now to tx).2.2] B w w' e := by
  obtain ⟨i0, hi, hz0, hz1, hz2⟩ := info_parts infoCq
  obtain ⟨most, last, l⟩ := t
  simp only at h hn hl0 hl9 hm9 ⊢
  obtain ⟨oa, cap, rfl⟩ := h.form
  have hb1 : Below w.heap.size w (w.alloc (objQ ⟨most, last, l⟩ (.slice oa l.length cap))) := (Below.refl _ w).alloc (Nat.le_refl _) _
  have hl1 := alloc_lt w (objQ ⟨most, last, l⟩ (.slice oa l.length cap))
  have hbx := boxQ_new w ⟨most, last, l⟩ (.slice oa l.length cap)
  generalize hw1 : w.alloc (objQ ⟨most, last, l⟩ (.slice oa l.length cap)) = w1 at hb1 hbx hl1
  have hs0 := sent_row2 w1 (.string ⟨to.toArray⟩) (.string ⟨tx.toArray⟩) 40
  have hb2 : Below w1.heap.size w1 (w1.alloc (.cells #[.string ⟨to.toArray⟩, .string ⟨tx.toArray⟩] 40)) := (Below.refl _ w1).alloc (Nat.le_refl _) _
  have hl2 := alloc_lt w1 (.cells #[.string ⟨to.toArray⟩, .string ⟨tx.toArray⟩] 40)
  generalize hw2 : w1.alloc (.cells #[.string ⟨to.toArray⟩, .string ⟨tx.toArray⟩] 40) = w2 at hb2 hs0 hl2
  have hr0 := sv_row3 w2 (.int .i64 0) (.int .i64 0) (.slice none 0 0) 31
  have hb3 : Below w2.heap.size w2 (w2.alloc (.cells #[.int .i64 0, .int .i64 0, .slice none 0 0] 31)) := (Below.refl _ w2).alloc (Nat.le_refl _) _
  have hl3 := alloc_lt w2 (.cells #[.int .i64 0, .int .i64 0, .slice none 0 0] 31)
  generalize hw3 : w2.alloc (.cells #[.int .i64 0, .int .i64 0, .slice none 0 0] 31) = w3 at hb3 hr0 hl3
  have hB3 := (hb1.trans (hb2.mono hb1.size)).trans (hb3.mono (Nat.le_trans hb1.size hb2.size))
  have hx3 := (hbx.below hb2 hl1).below hb3 (Nat.lt_trans hl1 hl2)
  have hs3 := hs0.below hb3 hl2
  have hO3 := h.below hB3
  unfold objQ at hw1
  generalize hR : startQ ⟨most, last, l⟩ br now to tx = R
  obtain ⟨x0, x1, x2⟩ := hx3
  simp only at x0 x1 x2
  have s0 := hs3.cell 0 (by simp)
  have s1 := hs3.cell 1 (by simp)
  simp only [List.getElem_cons_zero, List.getElem_cons_succ] at s0 s1
  obtain ⟨y0, y1, y2, f0, f1, f2⟩ := hr0.sv3
  have hlw : w.heap.size ≤ w2.heap.size := by omega
  have KEEP := hid (And.intro (sv_store3 hr0 (.int .i64 most) (.int .i64 last) (.slice oa l.length cap)) (sv_below3 hB3 w2.heap.size hlw (.int .i64 most) (.int .i64 last) (.slice oa l.length cap)))
  have HO := hid h
  have HX := hid (And.intro hO3 (And.intro hr0 (And.intro hB3 hbx)))
  have HB2 := hid hb2
  have HB3 := hid hb3
  clear hr0 hO3 hB3 hb1 hb2 hb3 hs0 hs3 h hbx
  go_enter Try.func20, Try.ntmps20
  unfold tqV
  by_cases hnow : now < 0 ∨ 1099511627136 < now
  · have HV : Hid (R = _) := hR.symm.trans (startq_arg (t := ⟨most, last, l⟩) hnow)
    clear hR HX
    rcases hnow with hnow | hnow
    · go_wp2
      generalize World.setCell _ _ _ = wA at KEEP ⊢
      obtain ⟨hrA, hbA⟩ := KEEP.out
      obtain ⟨d0, d1, d2, _, _, _⟩ := hrA.sv3
      try simp only [Exit.inBlock, Exit.then]
      refine bodyPost_ret (v := .tuple #[.agg #[.int .i64 most, .int .i64 last, .slice oa l.length cap], .int .i64 0, .int .i64 1]) (by simp [results, Try.results20, go_sem, d0, d1, d2]; try rfl) rfl ?_
      rw [HV.out]
      exact ⟨_, rfl, HO.out.below hbA, hbA⟩
    · have hn0 : ¬ (now < 0) := by omega
      go_wp2
      generalize World.setCell _ _ _ = wA at KEEP ⊢
      obtain ⟨hrA, hbA⟩ := KEEP.out
      obtain ⟨d0, d1, d2, _, _, _⟩ := hrA.sv3
      try simp only [Exit.inBlock, Exit.then]
      refine bodyPost_ret (v := .tuple #[.agg #[.int .i64 most, .int .i64 last, .slice oa l.length cap], .int .i64 0, .int .i64 1]) (by simp [results, Try.results20, go_sem, d0, d1, d2]; try rfl) rfl ?_
      rw [HV.out]
      exact ⟨_, rfl, HO.out.below hbA, hbA⟩
  have hn0 : ¬ (now < 0) := fun x => hnow (Or.inl x)
  have hn1 : ¬ (1099511627136 < now) := fun x => hnow (Or.inr x)
  have HNOW := hid hnow
  clear hnow
  obtain ⟨n, hnn⟩ : ∃ n, n = l.length := ⟨_, rfl⟩
  go_wp2
  go_loopw [11] (fun i wr => ∃ k : Nat, k ≤ l.length ∧ i = .int .i64 k ∧ wr = w3 ∧ Hid (∀ c ∈ l.take k, (c.br == br) = false)) (fun i _ => l.length - (intOf i).toNat)
  case atStart => exact ⟨0, by omega, rfl, by first | rfl | trivial, fun c hc => by simp at hc⟩
  case round =>
    obtain ⟨k, hk, rfl, rfl, hinv⟩ := hrel
    by_cases hlt : k < l.length
    · have hlt' : (k : Int) < l.length := by omega
      obtain ⟨_, hnil⟩ | ⟨g, cap', hv, _, hg, hcap, hat⟩ := HX.out.1.get
      · exfalso; rw [hnil] at hlt; simp at hlt
      injection hv with ha hl hc
      subst ha; subst hc
      have c1 := (hat k hlt).c1
      have ST := hid (fun x => preQ_step (l := l) (p := fun c => c.br == br) hlt hinv.out x)
      have HT := hid (fun x => anyQ_hit (l := l) (p := fun c => c.br == br) hlt x)
      clear hat
      generalize l[k] = c at c1 ST HT
      cases heb : c.br == br
      · have hinv2 := hid (ST.out heb)
        clear ST HT hinv HX KEEP
        go_wp2
        go_roundw
        case rel => exact ⟨k + 1, by omega, by go_num, by first | rfl | trivial, hinv2.out⟩
        case measure => simp [intOf]; omega
      · have HV : Hid (R = _) := hR.symm.trans (startq_two (t := ⟨most, last, l⟩) HNOW.out (HT.out heb))
        clear hR HX ST HT hinv
        go_wp2
        generalize World.setCell _ _ _ = wA at KEEP ⊢
        obtain ⟨hrA, hbA⟩ := KEEP.out
        obtain ⟨d0, d1, d2, _, _, _⟩ := hrA.sv3
        try simp only [Exit.inBlock, Exit.then]
        refine bodyPost_ret (v := .tuple #[.agg #[.int .i64 most, .int .i64 last, .slice (some ⟨g, 0, none⟩) l.length cap], .int .i64 0, .int .i64 7]) (by simp [results, Try.results20, go_sem, d0, d1, d2]; try rfl) rfl ?_
        rw [HV.out]
        exact ⟨_, rfl, HO.out.below hbA, hbA⟩
    have hlt' : ¬ ((k : Int) < l.length) := by omega
    have hkn : k = l.length := by omega
    have HE := hid (anyQ_end (l := l) (p := fun c => c.br == br) (by rw [← hkn]; exact hinv.out))
    clear hinv
    by_cases hfull : most ≤ l.length
    · have HV : Hid (R = _) := hR.symm.trans (startq_full (t := ⟨most, last, l⟩) HNOW.out HE.out hfull)
      have hfu : (l.length : Int) ≥ most := hfull
      clear hR HX HE
      go_wp2
      generalize World.setCell _ _ _ = wA at KEEP ⊢
      obtain ⟨hrA, hbA⟩ := KEEP.out
      obtain ⟨d0, d1, d2, _, _, _⟩ := hrA.sv3
      try simp only [Exit.inBlock, Exit.then]
      refine bodyPost_ret (v := .tuple #[.agg #[.int .i64 most, .int .i64 last, .slice oa l.length cap], .int .i64 0, .int .i64 5]) (by simp [results, Try.results20, go_sem, d0, d1, d2]; try rfl) rfl ?_
      rw [HV.out]
      exact ⟨_, rfl, HO.out.below hbA, hbA⟩
    · have HV : Hid (R = _) := hR.symm.trans (startq_new (t := ⟨most, last, l⟩) HNOW.out HE.out hfull)
      have hfu : ¬ ((l.length : Int) ≥ most) := hfull
      clear hR HE KEEP y0 y1 y2 f0 f1 f2
      go_wp2
      have hb5 : Below wr.heap.size wr (wr.alloc (.cells #[.int .i64 (last + 1), .string ⟨br.toArray⟩, .int .i64 now, .int .i64 1, .int .i64 (-1), .string ⟨to.toArray⟩, .string ⟨tx.toArray⟩] 78)) := (Below.refl _ wr).alloc (Nat.le_refl _) _
      have hl4 := alloc_lt wr (.cells #[.int .i64 (last + 1), .string ⟨br.toArray⟩, .int .i64 now, .int .i64 1, .int .i64 (-1), .string ⟨to.toArray⟩, .string ⟨tx.toArray⟩] 78)
      have hc5 : OwnQ (wr.alloc (.cells #[.int .i64 (last + 1), .string ⟨br.toArray⟩, .int .i64 now, .int .i64 1, .int .i64 (-1), .string ⟨to.toArray⟩, .string ⟨tx.toArray⟩] 78)) 0 (.slice (some ⟨wr.heap.size, 0, none⟩) 1 1) [newQ ⟨most, last, l⟩ br now to tx] := OwnQ.one wr 0 (Nat.zero_le _) (newQ ⟨most, last, l⟩ br now to tx)
      generalize wr.alloc (.cells #[.int .i64 (last + 1), .string ⟨br.toArray⟩, .int .i64 now, .int .i64 1, .int .i64 (-1), .string ⟨to.toArray⟩, .string ⟨tx.toArray⟩] 78) = w5 at hb5 hl4 hc5 ⊢
      obtain ⟨hO4, hr4, hB3, hbx⟩ := HX.out
      have hO5 := hO4.below hb5
      have hr5 := hr4.below hb5 hl3
      have hbx5 := ((hbx.below HB2.out hl1).below HB3.out (Nat.lt_trans hl1 hl2)).below hb5 (by omega)
      have hbA5 := hB3.trans (hb5.mono hB3.size)
      have R5 := rdq_of hbx5 hc5
      simp only at R5
      generalize hC : newQ ⟨most, last, l⟩ br now to tx = C at *
      have hbt : w.heap.size < w5.heap.size := by omega
      have hBw5 : B ≤ w5.heap.size := by omega
      have hl15 : w2.heap.size < w5.heap.size := by omega
      obtain ⟨k, hkd⟩ : ∃ k : KQ, k = ⟨C, most, last, l, .slice oa l.length cap, B, w.heap.size, w2.heap.size, wr.heap.size, w5.heap.size, w⟩ := ⟨_, rfl⟩
      have hk : k.Ok := by subst hkd; exact ⟨hbt, hl4, hl15, by simp only; omega, by simp only; omega, by simp only; omega, fun g e => (World.ownsRow.lt hO5 g e).2⟩
      have hfol : Try.prog.follows .mixedOrders = true := by kernel_rfl
      refine wp_region_name ?_
      intro ops hops
      have hlow : lowB .any ops = true := by rw [hops]; kernel_rfl
      have osz : ops.size = 18 := by rw [hops]; rfl
      have o0 := congrArg (fun x : Array Oper => x[0]?) hops
      have o1 := congrArg (fun x : Array Oper => x[1]?) hops
      have o2 := congrArg (fun x : Array Oper => x[2]?) hops
      have o3 := congrArg (fun x : Array Oper => x[3]?) hops
      have o4 := congrArg (fun x : Array Oper => x[4]?) hops
      have o5 := congrArg (fun x : Array Oper => x[5]?) hops
      have o6 := congrArg (fun x : Array Oper => x[6]?) hops
      have o7 := congrArg (fun x : Array Oper => x[7]?) hops
      have o8 := congrArg (fun x : Array Oper => x[8]?) hops
      have o9 := congrArg (fun x : Array Oper => x[9]?) hops
      have o10 := congrArg (fun x : Array Oper => x[10]?) hops
      have o11 := congrArg (fun x : Array Oper => x[11]?) hops
      have o12 := congrArg (fun x : Array Oper => x[12]?) hops
      have o13 := congrArg (fun x : Array Oper => x[13]?) hops
      have o14 := congrArg (fun x : Array Oper => x[14]?) hops
      have o15 := congrArg (fun x : Array Oper => x[15]?) hops
      have o16 := congrArg (fun x : Array Oper => x[16]?) hops
      have o17 := congrArg (fun x : Array Oper => x[17]?) hops
      simp only [List.getElem?_toArray, List.getElem?_cons_zero, List.getElem?_cons_succ] at o0 o1 o2 o3 o4 o5 o6 o7 o8 o9 o10 o11 o12 o13 o14 o15 o16 o17
      clear hops
      refine wp_region_inv hfol (InvQ k) ?_ ?_ ?_
      · subst hkd
        have gz : ∀ j, (Array.replicate ops.size false).getD j false = false := fun j => by rw [Array.getD_eq_getD_getElem?, Array.getElem?_replicate]; split <;> rfl
        refine ⟨rfl, rfl, rfl, rfl, rfl, fun e _ hl => (by rw [gz] at hl; cases hl), ?_⟩
        rw [gz, gz, gz, gz, gz, gz]
        exact ⟨R5.below (Below.refl w5.heap.size w5).drew hbt hl4, hbA5.drew, Nat.le_refl _, hO5, by rw [if_neg (by decide)]; exact hr5, fun e => (by cases e), fun e => (by cases e), fun e => (by cases e), fun e => (by cases e), fun e => (by cases e), fun e => (by cases e), fun e => (by cases e), fun e => (by cases e), fun e => (by cases e)⟩
      · intro L a w9 hs hr hI
        have all := fun j (hj : j < 18) => all_listed hlow hs hr j (by rw [osz]; exact hj)
        have t10 := hI.t10
        have hdf := hI.df
        have q11 := hI.tab (16, 9, _) (by simp [TQ9]; rfl) (all 16 (by decide))
        have q12 := hI.tab (17, 10, _) (by simp [TQ9]; rfl) (all 17 (by decide))
        have hdy := hI.dyn
        have hrow := hdy.row
        rw [all 15 (by decide), if_pos rfl] at hrow
        have hown := hdy.o11 (all 11 (by decide))
        have hbel := hdy.bel
        subst hkd
        simp only at t10 q11 q12 hrow hown hbel
        obtain ⟨d0, d1, d2, _, _, _⟩ := hrow.sv3
        clear hI hdy all hr hs o0 o1 o2 o3 o4 o5 o6 o7 o8 o9 o10 o11 o12 o13 o14 o15 o16 o17 hlow
        generalize a.eval (.tmp 61) = x60 at hrow hown d2
        have r10 : a.tmps[8]?.getD undef = .pointer (some ⟨w2.heap.size, 0, none⟩) := by rw [← Array.getD_eq_getD_getElem?]; exact t10
        have r11 : a.tmps[9]?.getD undef = .int .i64 C.id := by rw [← Array.getD_eq_getD_getElem?]; exact q11
        have r12 : a.tmps[10]?.getD undef = .int .i64 0 := by rw [← Array.getD_eq_getD_getElem?]; exact q12
        try simp only [Exit.inBlock, Exit.then]
        go_wp2
        try simp only [Exit.inBlock, Exit.then]
        refine bodyPost_ret (v := .tuple #[.agg #[.int .i64 most, .int .i64 (last + 1), x60], .int .i64 C.id, .int .i64 0]) (by simp [results, Try.results20, go_sem, r10, r11, r12, d0, d1, d2]; try rfl) hdf ?_
        rw [HV.out]
        have hid9 : C.id = last + 1 := by rw [← hC]; rfl
        rw [hid9]
        exact ⟨_, rfl, sv_mono hown hBw5, hbel⟩
      · intro L a w9 i hs hi hI
        have S9 : OpsQ ops := ⟨osz, ⟨_, o0, rfl, rfl, rfl⟩, ⟨_, o1, rfl, rfl, rfl⟩, ⟨_, o2, rfl, rfl, rfl⟩, ⟨_, o3, rfl, rfl, rfl⟩, ⟨_, o4, rfl, rfl, rfl⟩, ⟨_, o5, rfl, rfl, rfl⟩, ⟨_, o6, rfl, rfl, rfl⟩, ⟨_, o7, rfl, rfl, rfl⟩, ⟨_, o8, rfl, rfl, rfl⟩, ⟨_, o9, rfl, rfl, rfl⟩, ⟨_, o10, rfl, rfl, rfl⟩, ⟨_, o11, rfl, rfl, rfl⟩, ⟨_, o12, rfl, rfl, rfl⟩, ⟨_, o13, rfl, rfl, rfl⟩, ⟨_, o14, rfl, rfl, rfl⟩, ⟨_, o15, rfl, rfl, rfl⟩, ⟨_, o16, rfl, rfl, rfl⟩, ⟨_, o17, rfl, rfl, rfl⟩, ⟨_, o1, { on := 0, ground := .data }, by simp, rfl, rfl⟩, ⟨_, o3, { on := 2, ground := .data }, by simp, rfl, rfl⟩, ⟨_, o4, { on := 3, ground := .data }, by simp, rfl, rfl⟩, ⟨_, o7, { on := 6, ground := .data }, by simp, rfl, rfl⟩, ⟨_, o8, { on := 5, ground := .data }, by simp, rfl, rfl⟩, ⟨_, o8, { on := 7, ground := .data }, by simp, rfl, rfl⟩, ⟨_, o10, { on := 9, ground := .data }, by simp, rfl, rfl⟩, ⟨_, o11, { on := 8, ground := .data }, by simp, rfl, rfl⟩, ⟨_, o11, { on := 10, ground := .data }, by simp, rfl, rfl⟩, ⟨_, o12, { on := 1, ground := .data }, by simp, rfl, rfl⟩, ⟨_, o12, { on := 4, ground := .data }, by simp, rfl, rfl⟩, ⟨_, o12, { on := 11, ground := .data }, by simp, rfl, rfl⟩, ⟨_, o14, { on := 13, ground := .data }, by simp, rfl, rfl⟩, ⟨_, o15, { on := 12, ground := .data }, by simp, rfl, rfl⟩, ⟨_, o15, { on := 11, ground := .chain }, by simp, rfl, rfl⟩, ⟨_, o15, { on := 8, ground := .phase }, by simp, rfl, rfl⟩, ⟨_, o16, { on := 14, ground := .data }, by simp, rfl, rfl⟩⟩
        subst hkd
        exact stepsQ S9 hk hn hl0 hl9 _ L a w9 i hs hi hI
end Go.Proofs.Ytgikbpaejmdnoaa
