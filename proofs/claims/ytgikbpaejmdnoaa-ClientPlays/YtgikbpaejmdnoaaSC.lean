/-
  Base texts, one behind another: SentEq, QSame, Q12Awake, OpenAq, Q12L.
-/
import Derived.Test.YtgikbpaejmdnoaaKit
import Derived.Laws.StructEq
import Derived.Test.YtgikbpaejmdnoaaSB
import Derived.Lib.QuietBelow
import Derived.BigQuiet
import Derived.Test.YtgikbpaejmdnoaaOwn
import Derived.Deep.Slices
import Derived.ChangeArms
import Derived.OpenShut

/-
  What is sent, compared.
-/
namespace Go.Proofs.Ytgikbpaejmdnoaa
open Go.RowKit
set_option linter.unusedVariables false
set_option maxRecDepth 20000
set_option linter.unusedSimpArgs false

theorem stoodSn : Try.prog.stoodInHeld 40 = false := by kernel_rfl
theorem guardSn : Try.prog.eqGuardType Try.prog.depth 40 = false := by kernel_rfl
theorem fieldsSn : Try.prog.underlying 40 = some (.struct (Try.prog.fieldsOf 40)) := by kernel_rfl
theorem listSn : (Try.prog.fieldsOf 40).toList.map (fun f => (f.type, f.offset, f.name == "_")) = [(9, 0, false), (9, 1, false)] := by kernel_rfl
theorem plainStrN : Try.prog.plainKey 9 = true := by kernel_rfl
theorem equalSn (x z x' z' : ByteArray) (u : World) : (Op.equalIn 10000 40 (.agg #[.string x, .string z]) (.agg #[.string x', .string z'])).run Try.prog u = .ok (x.toList == x'.toList && z.toList == z'.toList) u := by
  rw [run_equalIn_agg _ 9999 _ _ _ fieldsSn stoodSn]
  have h := listSn
  generalize (Try.prog.fieldsOf 40).toList = fs at h ⊢
  have hlen : fs.length = 2 := by have := congrArg List.length h; simpa using this
  match fs, hlen, h with
  | [f0, f1], _, h =>
    simp only [List.map_cons, List.map_nil, List.cons.injEq, Prod.mk.injEq, and_true, beq_eq_false_iff_ne] at h
    obtain ⟨⟨t0, o0, n0⟩, t1, o1, n1⟩ := h
    have p0 : ∀ (X Z : ByteArray) (v : World), (part 9 #[.string X, .string Z] 0).run Try.prog v = .ok (.string X) v := fun X Z v => run_part_plain v plainStrN rfl
    have p1 : ∀ (X Z : ByteArray) (v : World), (part 9 #[.string X, .string Z] 1).run Try.prog v = .ok (.string Z) v := fun X Z v => run_part_plain v plainStrN rfl
    have q1 : ∀ (X Y : ByteArray) (v : World), (Op.equalIn 9999 9 (.string X) (.string Y)).run Try.prog v = .ok (X.toList == Y.toList) v := fun X Y v => run_equalIn_string v 9998 _ X Y Try.underlying9
    simp only [Op.eqFields, t0, t1, o0, o1, Sem.run_bind, Sem.run_ite, if_pos n0, if_pos n1, p0, p1, q1, Result.andThen_ok]
    cases h0 : (x.toList == x'.toList) <;> cases h1 : (z.toList == z'.toList) <;> rfl
theorem eqlSn (a b : List UInt8 × List UInt8) (u : World) : (binOp .eql 40 (.agg #[.string ⟨a.1.toArray⟩, .string ⟨a.2.toArray⟩]) (.agg #[.string ⟨b.1.toArray⟩, .string ⟨b.2.toArray⟩])).run Try.prog u = .ok (.bool (decide (a = b))) u := by
  rw [run_eql_struct, equalSn]
  obtain ⟨x, y⟩ := a
  obtain ⟨x', y'⟩ := b
  simp only [Result.andThen_ok]
  congr 2
  rw [Bool.eq_iff_iff]
  simp [ByteArray.toList_eq]
theorem neqSn (a b : List UInt8 × List UInt8) (u : World) : (binOp .neq 40 (.agg #[.string ⟨a.1.toArray⟩, .string ⟨a.2.toArray⟩]) (.agg #[.string ⟨b.1.toArray⟩, .string ⟨b.2.toArray⟩])).run Try.prog u = .ok (.bool (!decide (a = b))) u := by
  rw [run_neq_struct, equalSn]
  obtain ⟨x, y⟩ := a
  obtain ⟨x', y'⟩ := b
  simp only [Result.andThen_ok]
  congr 2
  rw [Bool.eq_iff_iff]
  simp [ByteArray.toList_eq]
end Go.Proofs.Ytgikbpaejmdnoaa

/-
  What is due, compared: the laws' same.
-/
namespace Go.Proofs.Ytgikbpaejmdnoaa
open Go.RowKit Go.Sort
set_option linter.unusedVariables false
set_option maxRecDepth 20000
set_option linter.unusedSimpArgs false

theorem followsQ : Try.prog.follows .mixedOrders = true := by kernel_rfl
/-- The record d at place k of the row at g. -/
structure DuAt (w : World) (g k : Nat) (d : Du) : Prop where
  c0 : w.cell? ⟨g, k * 4, none⟩ = some (.int .i64 d.id)
  c1 : w.cell? ⟨g, k * 4 + 1, none⟩ = some (.bool d.over)
  c2 : w.cell? ⟨g, k * 4 + 2, none⟩ = some (.string ⟨d.to.toArray⟩)
  c3 : w.cell? ⟨g, k * 4 + 3, none⟩ = some (.string ⟨d.tx.toArray⟩)
theorem DuAt.below {w w' : World} {B g k : Nat} {d : Du} (h : DuAt w g k d) (hb : Below B w w') (hg : g < B) : DuAt w' g k d := ⟨cell_beq hb hg h.c0, cell_beq hb hg h.c1, cell_beq hb hg h.c2, cell_beq hb hg h.c3⟩
/-- The slice v shows what is due. -/
def DusAt (w : World) (v : Value) (ds : List Du) : Prop := ∃ ao cap, v = .slice ao ds.length cap ∧ ∀ k (hk : k < ds.length), ∃ g, ao = some ⟨g, 0, none⟩ ∧ g < w.heap.size ∧ DuAt w g k ds[k]
theorem DusAt.below {w w' : World} {v : Value} {ds : List Du} (h : DusAt w v ds) (hb : Below w.heap.size w w') : DusAt w' v ds := by
  obtain ⟨ao, cap, hv, hr⟩ := h
  refine ⟨ao, cap, hv, fun k hk => ?_⟩
  obtain ⟨g, e, hg, hd⟩ := hr k hk
  exact ⟨g, e, Nat.lt_of_lt_of_le hg hb.size, hd.below hb hg⟩
theorem dusCells_get (ds : List Du) (k : Nat) (hk : k < ds.length) (j : Nat) (u : Value) (h : (duCells ds[k])[j]? = some u) : (dusCells ds)[k * 4 + j]? = some u := by
  induction ds generalizing k with
  | nil => simp at hk
  | cons c cs ih =>
    have e : dusCells (c :: cs) = duCells c ++ dusCells cs := rfl
    cases k with
    | zero =>
      have hj : j < 4 := by have := (List.getElem?_eq_some_iff.1 h).1; simpa [duCells] using this
      rw [e, List.getElem?_append_left (by rw [duCells_len]; omega), Nat.zero_mul, Nat.zero_add]
      exact h
    | succ k =>
      have := ih k (by simpa using hk) (by simpa using h)
      rw [e, List.getElem?_append_right (by rw [duCells_len]; omega), duCells_len, show (k + 1) * 4 + j - 4 = k * 4 + j by omega]
      exact this
theorem own_dus {w : World} {B e : Nat} {v : Value} {ds : List Du} (h : w.ownsRow B e 4 v ds.length (dusCells ds)) : DusAt w v ds := by
  have h0 := h
  rcases h.2 with ⟨rfl, hn⟩ | ⟨g, cap, cur, rfl, hb, hg, r⟩
  · exact ⟨none, 0, by rw [hn], fun k hk => by omega⟩
  · refine ⟨_, cap, rfl, fun k hk => ⟨g, rfl, (Array.getElem?_eq_some_iff.1 hg).1, ?_⟩⟩
    have e : ∀ j, (⟨g, 0, none⟩ : Addr).add j = ⟨g, j, none⟩ := fun j => by unfold Addr.add; split <;> simp_all
    have a0 : ∀ j u, (duCells ds[k])[j]? = some u → w.cell? ⟨g, k * 4 + j, none⟩ = some u := fun j u hj => by
      have := World.ownsRow.cells h0 (g := g) rfl (k * 4 + j) _ (dusCells_get ds k hk j u hj)
      rw [e] at this; exact this
    exact ⟨a0 0 _ rfl, a0 1 _ rfl, a0 2 _ rfl, a0 3 _ rfl⟩
theorem OwnE.at {w : World} {B : Nat} {v : Value} {ds : List Du} (h : OwnE w B v ds) : DusAt w v ds := own_dus h
theorem OwnD.at {w : World} {B : Nat} {v : Value} {ds : List Du} (h : OwnD w B v ds) : DusAt w v ds := own_dus h
set_option maxHeartbeats 4000000 in
set_option maxRecDepth 100000 in
theorem csame_any {w : World} {v1 v2 : Value} {ds : List Du} (h1 : DusAt w v1 ds) (h2 : DusAt w v2 ds) (hn : ds.length ≤ 1000000) :
    Calls Try.prog 19 #[v1, v2] w fun e w' => e = .returned (.bool true) ∧ Below w.heap.size w w' := by
  obtain ⟨a1, c1, rfl, hr1⟩ := h1
  obtain ⟨a2, c2, rfl, hr2⟩ := h2
  have HR1 := hid hr1
  have HR2 := hid hr2
  clear hr1 hr2
  obtain ⟨n, hnn⟩ : ∃ n, n = ds.length := ⟨_, rfl⟩
  rw [← hnn] at hn ⊢
  have HN := hid hnn
  clear hnn
  have hnb : ((n : Int) != (n : Int)) = false := by simp
  have hg := guardSn
  go_enter Try.func19, Try.ntmps19
  go_wp2
  go_loopw [5] (fun i wr => ∃ k : Nat, k ≤ n ∧ i = .int .i64 k ∧ Hid (Below w.heap.size w wr)) (fun i _ => n - (intOf i).toNat)
  case atStart => exact ⟨0, by omega, rfl, Below.refl _ _⟩
  case round =>
    obtain ⟨k, hk, rfl, hb⟩ := hrel
    by_cases hlt : k < n
    · have hlt' : (k : Int) < n := by omega
      have hkl : k < ds.length := by rw [← HN.out]; exact hlt
      obtain ⟨g1, ha1, hg1, hd1⟩ := HR1.out k hkl
      obtain ⟨g2, ha2, hg2, hd2⟩ := HR2.out k hkl
      subst ha1
      subst ha2
      obtain ⟨x0, x1, x2, x3⟩ := hd1.below hb.out hg1
      obtain ⟨y0, y1, y2, y3⟩ := hd2.below hb.out hg2
      clear hd1 hd2
      generalize ds[k] = d at x0 x1 x2 x3 y0 y1 y2 y3
      obtain ⟨d1, d2, d3, d4⟩ := d
      simp only at x0 x1 x2 x3 y0 y1 y2 y3
      have e1 : (d1 != d1) = false := by simp
      have e2 : (d2 != d2) = false := by simp
      have e3 : ∀ u, (binOp .neq 40 (.agg #[.string ⟨d3.toArray⟩, .string ⟨d4.toArray⟩]) (.agg #[.string ⟨d3.toArray⟩, .string ⟨d4.toArray⟩])).run Try.prog u = .ok (.bool false) u := fun u => by have := neqSn (d3, d4) (d3, d4) u; simpa using this
      go_wp2
      replace x0 := cell_regrown x0
      replace x1 := cell_regrown x1
      replace x2 := cell_regrown x2
      replace x3 := cell_regrown x3
      replace y0 := cell_regrown y0
      replace y1 := cell_regrown y1
      replace y2 := cell_regrown y2
      replace y3 := cell_regrown y3
      refine wp_region_quiet_below followsQ (by kernel_rfl) ?_
      repeat (go_big_quiet_step (fail))
      refine wpQuiet_nil ?_
      intro _ hw'
      obtain ⟨⟨dq, osq⟩, hw''⟩ := hw'
      subst hw''
      have hq := below_regrown wr dq osq
      generalize grow _ _ = wx at hq ⊢
      have HB := hid (hb.out.trans (hq.mono hb.out.size))
      clear hq x0 x1 x2 x3 y0 y1 y2 y3
      go_wp2
      go_roundw
      case rel => exact ⟨k + 1, by omega, by go_num, HB.out⟩
      case measure => simp [intOf]; omega
    · have hlt' : ¬ ((k : Int) < n) := by omega
      go_wp2
      go_ret
      exact ⟨rfl, hb.out⟩
end Go.Proofs.Ytgikbpaejmdnoaa

/-
  The chapter's example of layer 12.
-/
namespace Go.Proofs.Ytgikbpaejmdnoaa
open Go.RowKit
set_option linter.unusedVariables false
set_option maxRecDepth 20000
set_option linter.unusedSimpArgs false

section
variable {B U bt : Nat} {w : World} {t t' : Tq}
theorem qstart_is (h : TabQ B U bt w t) {br to tx : List UInt8} {now n m : Int} (h1 : br.length ≤ 281474976710656) (h2 : to.length ≤ 281474976710656) (h3 : tx.length ≤ 281474976710656) (h9 : t.last ≤ 1000000000) (he : startQ t br now to tx = (t', n, m)) :
    Calls Try.prog 14 #[.pointer (some ⟨bt, 0, none⟩), .string ⟨br.toArray⟩, .int .i64 now, .agg #[.string ⟨to.toArray⟩, .string ⟨tx.toArray⟩]] w fun e w' => e = .returned (.tuple #[.int .i64 n, .int .i64 m]) ∧ TabQ B w'.heap.size bt w' t' ∧ FrQ B w.heap.size w w' := by
  have := qstart_any h (now := now) h1 h2 h3 h9
  rw [he] at this
  exact this
theorem qstep_is (h : TabQ B U bt w t) {now : Int} {ds : List Du} (he : stepA t now = (t', ds)) :
    Calls Try.prog 15 #[.pointer (some ⟨bt, 0, none⟩), .int .i64 now] w fun e w' => ∃ oa oc, e = .returned (.slice oa ds.length oc) ∧ OwnE w' w.heap.size (.slice oa ds.length oc) ds ∧ TabQ B U bt w' t' ∧ FrQ B U w w' := by
  have := qstep_any h (now := now)
  rw [he] at this
  refine this.mono ?_
  rintro e w' ⟨v, rfl, ho, ht, hf⟩
  obtain ⟨oa, oc, hv⟩ := ho.form
  simp only at hv
  subst hv
  exact ⟨oa, oc, rfl, ho, ht, hf⟩
theorem qresp_is (h : TabQ B U bt w t) {br : List UInt8} {s now n m : Int} {y : Bool} (h1 : br.length ≤ 281474976710656) (he : respQ t br s now = (t', n, y, m)) :
    Calls Try.prog 16 #[.pointer (some ⟨bt, 0, none⟩), .string ⟨br.toArray⟩, .int .i64 s, .int .i64 now] w fun e w' => e = .returned (.tuple #[.int .i64 n, .bool y, .int .i64 m]) ∧ TabQ B U bt w' t' ∧ FrQ B U w w' := by
  have := qresp_any h (s := s) (now := now) h1
  rw [he] at this
  exact this
end
theorem du_row (w : World) (d : Du) (e : TypeId) : DusAt (w.alloc (.cells #[.int .i64 d.id, .bool d.over, .string ⟨d.to.toArray⟩, .string ⟨d.tx.toArray⟩] e)) (.slice (some ⟨w.heap.size, 0, none⟩) 1 1) [d] := by
  refine ⟨_, 1, rfl, fun k hk => ⟨w.heap.size, rfl, by simp, ?_⟩⟩
  have : k = 0 := by simpa using hk
  subst this
  obtain ⟨c0, c1, c2, c3, _, _, _, _⟩ := (rc_row4 w (.int .i64 d.id) (.bool d.over) (.string ⟨d.to.toArray⟩) (.string ⟨d.tx.toArray⟩) e).rc4
  exact ⟨c0, c1, c2, c3⟩
def awQ (n r : Int) : Cq := ⟨1, [98], 0, n, r, [97], [98]⟩
def awDu : Du := ⟨1, false, [97], [98]⟩
theorem aq1 : startQ ⟨1, 0, []⟩ [98] 0 [97] [98] = (⟨1, 1, [awQ 1 (-1)]⟩, 1, 0) := by rfl
theorem aq2 : stepA ⟨1, 1, [awQ 1 (-1)]⟩ 4 = (⟨1, 1, [awQ 1 (-1)]⟩, []) := by rfl
theorem aq3 : stepA ⟨1, 1, [awQ 1 (-1)]⟩ 5 = (⟨1, 1, [awQ 2 (-1)]⟩, [awDu]) := by rfl
theorem aq4 : stepA ⟨1, 1, [awQ 2 (-1)]⟩ 34 = (⟨1, 1, [awQ 3 (-1)]⟩, [awDu]) := by rfl
theorem aq5 : respQ ⟨1, 1, [awQ 3 (-1)]⟩ [98] 200 34 = (⟨1, 1, [awQ 3 84]⟩, 1, true, 0) := by rfl
theorem aq6 : stepA ⟨1, 1, [awQ 3 84]⟩ 1000 = (⟨1, 1, []⟩, []) := by rfl
set_option maxHeartbeats 2000000 in
set_option maxRecDepth 100000 in
theorem awake12_any (w : World) : Calls Try.prog 9 #[] w fun e w' => e = .returned (.bool true) ∧ Below w.heap.size w w' := by
  go_enter Try.func9, Try.ntmps9
  go_wp2_with fail
  refine (qnew_ok w (most := 1) (by decide) (by decide)).mono ?_
  rintro e w1 ⟨b, rfl, T1, B1⟩
  have rs := rc_row2 w1 (.string ⟨#[97]⟩) (.string ⟨#[98]⟩) 40
  have hb2 : Below w1.heap.size w1 (w1.alloc (.cells #[.string ⟨#[97]⟩, .string ⟨#[98]⟩] 40)) := (Below.refl _ w1).alloc (Nat.le_refl _) _
  generalize hw2 : w1.alloc (.cells #[.string ⟨#[97]⟩, .string ⟨#[98]⟩] 40) = w2 at rs hb2
  obtain ⟨s0, s1, _, _⟩ := rs.rc2
  have T2 := T1.below hb2
  have B2 := B1.trans (hb2.mono B1.size)
  clear T1 B1 hb2
  go_wp2_with fail
  refine (qstart_is T2 (br := [98]) (to := [97]) (tx := [98]) (by decide) (by decide) (by decide) (by decide) aq1).mono ?_
  rintro e w3 ⟨rfl, T3, F3⟩
  have rs3 := F3.row rs (by decide) (by decide) (by decide) (by decide)
  clear s0 s1
  go_wp2_with fail
  refine (qstep_is T3 aq2).mono ?_
  rintro e w4 ⟨oa, oc, rfl, _, T4, F4⟩
  go_wp2_with fail
  refine (qstep_is T4 aq3).mono ?_
  rintro e w5 ⟨ob, od, rfl, O5, T5, F5⟩
  go_wp2_with fail
  refine (qstep_is T5 aq4).mono ?_
  rintro e w6 ⟨pa, pc, rfl, O6, T6, F6⟩
  go_wp2_with fail
  refine (qresp_is T6 (br := [98]) (by decide) aq5).mono ?_
  rintro e w7 ⟨rfl, T7, F7⟩
  go_wp2_with fail
  refine (qstep_is T7 aq6).mono ?_
  rintro e w8 ⟨qa, qc, rfl, _, T8, F8⟩
  have F58 := (F6.trans F7).trans F8
  have X8 : DusAt w8 _ _ := OwnE.at (F58.own O5 (by decide) (by decide) (by decide) (by decide))
  have Y8 : DusAt w8 _ _ := OwnE.at ((F7.trans F8).own O6 (by decide) (by decide) (by decide) (by decide))
  have rs8 := ((F4.trans F5).trans F58).row rs3 (by decide) (by decide) (by decide) (by decide)
  have B8 := B2.trans (F3.below.trans ((F4.trans F5).trans F58).below)
  obtain ⟨s0, s1, _, _⟩ := rs8.rc2
  have hb9 : Below w8.heap.size w8 (w8.alloc (.cells #[.int .i64 1, .bool false, .string ⟨#[97]⟩, .string ⟨#[98]⟩] 66)) := (Below.refl _ w8).alloc (Nat.le_refl _) _
  have Z9 := du_row w8 awDu 66
  have K9 := hid (csame_any (X8.below hb9) Z9 (by decide))
  have HT := hid T8
  have HB := hid B8
  have HY := hid Y8
  have HR := hid rs8
  have H9 := hid hb9
  clear T2 T3 T4 T5 T6 T7 T8 F3 F4 F5 F6 F7 F8 F58 B2 B8 O5 O6 X8 Y8 Z9 rs rs3 rs8 hb9
  simp only [List.length_cons, List.length_nil] at K9
  go_wp2_with fail
  refine K9.out.mono ?_
  rintro e w10 ⟨rfl, hb10⟩
  have H10 := H9.out.trans (hb10.mono H9.out.size)
  have rs10 := HR.out.below H10 HR.out.bl
  obtain ⟨s0, s1, _, _⟩ := rs10.rc2
  have hb11 : Below w10.heap.size w10 (w10.alloc (.cells #[.int .i64 1, .bool false, .string ⟨#[97]⟩, .string ⟨#[98]⟩] 66)) := (Below.refl _ w10).alloc (Nat.le_refl _) _
  have Z11 := du_row w10 awDu 66
  have H11 := H10.trans (hb11.mono H10.size)
  have K11 := hid (csame_any (HY.out.below H11) Z11 (by decide))
  have HH := hid H11
  clear H10 rs10 hb10 hb11 Z11 H11 K9
  simp only [List.length_cons, List.length_nil] at K11
  go_wp2_with fail
  refine K11.out.mono ?_
  rintro e w12 ⟨rfl, hb12⟩
  have H12 := HH.out.trans (hb12.mono HH.out.size)
  have KL := hid (tabq_len (HT.out.below H12))
  have B12 := hid (HB.out.trans (H12.mono HB.out.size))
  clear hb12 H12 HH K11 HY HR H9 HT HB
  go_wp2_with (go_at_call 11; refine KL.out.mono ?_; rintro e w9 ⟨rfl, hw9⟩; rw [hw9]; clear hw9)
  go_ret
  exact ⟨rfl, B12.out⟩
end Go.Proofs.Ytgikbpaejmdnoaa

/-
  Acts of layer 12 that come in, opened: one, and a row of them.
-/
namespace Go.Proofs.Ytgikbpaejmdnoaa
open Go.RowKit Go.ChangeShapes Go.WideShapes Go.Deep
set_option linter.unusedVariables false
set_option maxRecDepth 20000

theorem aqadd_block (a : Addr) (k : Nat) : (a.add k).block = a.block := by unfold Addr.add; split <;> rfl
theorem aqcell_lt {w : World} {a : Addr} {v : Value} (h : w.cell? a = some v) : a.block < w.heap.size := by
  unfold World.cell? at h
  cases hh : w.heap[a.block]? with
  | none => simp [hh] at h
  | some o => exact (Array.getElem?_eq_some_iff.1 hh).1
theorem aqcell_below {B : Nat} {w w' : World} (h : Below B w w') {a : Addr} (ha : a.block < B) {v : Value} (hc : w.cell? a = some v) : w'.cell? a = some v := by
  rw [World.cell?_of_block (h.block a.block ha)]; exact hc
theorem aqInt : Try.prog.cellsOf 3 = 1 := by kernel_rfl
theorem aqStr : Try.prog.cellsOf 9 = 1 := by kernel_rfl
theorem aqAct : Try.prog.cellsOf 34 = 5 := by kernel_rfl
theorem aqBytes : Try.prog.bytesOf 34 = 56 := by kernel_rfl
/-- An act: kind, branch, status, tick, text. -/
structure Aq where
  kind : Int
  br : List UInt8
  st : Int
  now : Int
  tx : List UInt8
def aqCells (t : Aq) : List Value := [.int .i64 t.kind, .string ⟨t.br.toArray⟩, .int .i64 t.st, .int .i64 t.now, .string ⟨t.tx.toArray⟩]
def aqV (t : Aq) : Value := .agg #[.int .i64 t.kind, .string ⟨t.br.toArray⟩, .int .i64 t.st, .int .i64 t.now, .string ⟨t.tx.toArray⟩]
structure AqOk (B : Nat) (t : Aq) : Prop where
  kind : (Lit.int .i64 t.kind).wf = true
  st : (Lit.int .i64 t.st).wf = true
  now : (Lit.int .i64 t.now).wf = true
  br : t.br.length ≤ B
  tx : t.tx.length ≤ B
structure AqAt (w : World) (g o : Nat) (t : Aq) : Prop where
  c1 : w.cell? ⟨g, o + 1, none⟩ = some (.string ⟨t.br.toArray⟩)
  c2 : w.cell? ⟨g, o + 2, none⟩ = some (.int .i64 t.st)
  c3 : w.cell? ⟨g, o + 3, none⟩ = some (.int .i64 t.now)
  c4 : w.cell? ⟨g, o + 4, none⟩ = some (.string ⟨t.tx.toArray⟩)
theorem AqAt.below {w w' : World} {g o B : Nat} {t : Aq} (h : AqAt w g o t) (hb : Below B w w') (hg : g < B) : AqAt w' g o t :=
  ⟨aqcell_below hb hg h.c1, aqcell_below hb hg h.c2, aqcell_below hb hg h.c3, aqcell_below hb hg h.c4⟩
/-- The slice v shows the acts l. -/
def AqsAt (w : World) (v : Value) (l : List Aq) : Prop :=
  ∃ ao cap, v = .slice ao l.length cap ∧ ∀ k (hk : k < l.length), ∃ a, ao = some a ∧ a.block < w.heap.size ∧ w.cell? (a.add (k * 5)) = some (.int .i64 l[k].kind) ∧ AqAt w (a.add (k * 5)).block (a.add (k * 5)).off l[k]
theorem AqsAt.below {w w' : World} {v : Value} {l : List Aq} (h : AqsAt w v l) (hb : Below w.heap.size w w') : AqsAt w' v l := by
  obtain ⟨ao, cap, hv, hc⟩ := h
  refine ⟨ao, cap, hv, fun k hk => ?_⟩
  obtain ⟨a, ha, hlt, h0, hx⟩ := hc k hk
  exact ⟨a, ha, Nat.lt_of_lt_of_le hlt hb.size, aqcell_below hb (by rw [aqadd_block]; exact hlt) h0, hx.below hb (by rw [aqadd_block]; exact hlt)⟩
def AqIn (B : Nat) (W : World) (v : Value) : Prop := ∃ t : Aq, v = aqV t ∧ AqOk B t
def AqsIn (B : Nat) (W : World) (v : Value) : Prop := ∃ l : List Aq, AqsAt W v l ∧ ∀ t ∈ l, AqOk B t
section
variable {H : Type} {enc : TypeId × Value → H} {W : World} {sp : Nat → Bool}
def aqD (t : Aq) : DataW H := .agg [.lit (.int .i64 t.kind), .lit (.string t.br), .lit (.int .i64 t.st), .lit (.int .i64 t.now), .lit (.string t.tx)]
theorem open_aq {fuel : Nat} {cs : List Value} {x : DataW H × List MemPlace} (h : DataW.trod enc Try.prog W 0 sp true fuel 34 cs = some x) :
    ∃ t : Aq, cs = aqCells t ∧ x.1 = aqD t ∧ (Lit.int .i64 t.kind).wf = true ∧ (Lit.int .i64 t.st).wf = true ∧ (Lit.int .i64 t.now).wf = true := by
  obtain ⟨xs, n, _, rfl, hl, hlen, hf⟩ := DataW.trod_struct Try.underlying34 h
  rw [aqAct] at hl
  match cs, hl, xs, hlen with
  | [c0, c1, c2, c3, c4], _, [y0, y1, y2, y3, y4], _ =>
    have f0 := hf 0 _ rfl
    have f1 := hf 1 _ rfl
    have f2 := hf 2 _ rfl
    have f3 := hf 3 _ rfl
    have f4 := hf 4 _ rfl
    simp [aqInt, aqStr] at f0 f1 f2 f3 f4
    obtain ⟨i0, e0, rfl, w0⟩ := DataW.trod_int Try.underlying3 f0
    obtain ⟨s1, e1, rfl, _⟩ := DataW.trod_string Try.underlying9 f1
    obtain ⟨i2, e2, rfl, w4⟩ := DataW.trod_int Try.underlying3 f2
    obtain ⟨i3, e3, rfl, w5⟩ := DataW.trod_int Try.underlying3 f3
    obtain ⟨s4, e4, rfl, _⟩ := DataW.trod_string Try.underlying9 f4
    simp only [List.cons.injEq, and_true] at e0 e1 e2 e3 e4
    subst e0 e1 e2 e3 e4
    exact ⟨⟨i0, s1.data.toList, i2, i3, s4.data.toList⟩, by simp [aqCells], by simp [aqD], w0, w4, w5⟩
theorem aq_weights (t : Aq) : (aqD (H := H) t).weights Try.prog 34 = [t.br.length, t.tx.length] := by
  simp [aqD, DataW.weights, Try.underlying34, DataW.weightsEach]
theorem aq_said {B : Nat} {r : Reach} {b0 : Nat} {v : Value} {d : DataW H} {p : List MemPlace} (hv : Value.okWide Try.prog W r b0 34 v) (h : DataW.Trod enc Try.prog W 0 sp true 34 v d p)
    (hz : ∀ n ∈ d.weights Try.prog 34, n ≤ B) : AqIn B W v := by
  obtain ⟨cs, rfl, hsz⟩ := okWide_struct Try.underlying34 hv
  obtain ⟨fuel, hf0⟩ := h
  obtain ⟨t, hc, hd, w0, w4, w5⟩ := open_aq hf0
  simp only at hd
  rw [hd, aq_weights] at hz
  refine ⟨t, ?_, w0, w4, w5, hz _ (by simp), hz _ (by simp)⟩
  obtain ⟨l⟩ := cs
  simp [Value.cells] at hc
  subst hc
  rfl
def AqDs (d : DataW H) (ps : List Aq) : Prop := (d = .nil ∧ ps = []) ∨ ∃ sp, d = .slice (ps.map aqD) sp
theorem open_aqs {fuel : Nat} {cs : List Value} {x : DataW H × List MemPlace} (h : DataW.trod enc Try.prog W 0 sp true fuel 22 cs = some x) :
    ∃ (v : Value) (l : List Aq), cs = [v] ∧ AqsAt W v l ∧ AqDs x.1 l ∧ ∀ t ∈ l, (Lit.int .i64 t.kind).wf = true ∧ (Lit.int .i64 t.st).wf = true ∧ (Lit.int .i64 t.now).wf = true := by
  rcases open_slice Try.underlying22 h with ⟨rfl, rfl⟩ | ⟨a, len, cap, m, n, D, Pl, rfl, _, hlc, hcm, hm, rfl, hall⟩
  · exact ⟨_, [], rfl, ⟨none, 0, rfl, fun k hk => by simp at hk⟩, Or.inl ⟨rfl, rfl⟩, fun t ht => by simp at ht⟩
  · have hlm : len ≤ m := by rw [hm]; split <;> omega
    have each : ∀ i, i < len → ∃ t : Aq, D i = aqD t ∧ ((a.block < W.heap.size ∧ W.cell? (a.add (i * 5)) = some (.int .i64 t.kind) ∧ AqAt W (a.add (i * 5)).block (a.add (i * 5)).off t) ∧ (Lit.int .i64 t.kind).wf = true ∧ (Lit.int .i64 t.st).wf = true ∧ (Lit.int .i64 t.now).wf = true) := by
      intro i hi
      obtain ⟨cs', h1, h2⟩ := hall i (by omega)
      obtain ⟨t, rfl, hd, hw⟩ := open_aq h2
      rw [aqAct] at h1
      obtain ⟨_, _, hc⟩ := World.cells?_some h1
      have c0 := hc 0 (by omega)
      have c1 := hc 1 (by omega)
      have c2 := hc 2 (by omega)
      have c3 := hc 3 (by omega)
      have c4 := hc 4 (by omega)
      have hc0 : W.cell? (a.add (i * 5)) = some (.int .i64 t.kind) := by simpa [Addr.add, aqCells] using c0
      refine ⟨t, hd, ⟨by have := aqcell_lt hc0; rwa [aqadd_block] at this, hc0, ⟨?_, ?_, ?_, ?_⟩⟩, hw⟩
      · simpa [Addr.add, aqCells] using c1
      · simpa [Addr.add, aqCells] using c2
      · simpa [Addr.add, aqCells] using c3
      · simpa [Addr.add, aqCells] using c4
    obtain ⟨f, hf⟩ := @choose_lt Aq ⟨⟨0, [], 0, 0, []⟩⟩ len _ each
    refine ⟨_, (List.range len).map f, rfl, ⟨some a, cap, by simp, fun k hk => ?_⟩, Or.inr ⟨(List.range (m - len)).map fun j => D (len + j), ?_⟩, fun t ht => ?_⟩
    · simp at hk
      refine ⟨a, rfl, ?_⟩
      simpa using (hf k hk).2.1
    · simp only [List.map_map]
      congr 1
      apply List.map_congr_left
      intro i hi
      exact (hf i (by simpa using hi)).1
    · obtain ⟨i, hi, rfl⟩ := List.mem_map.1 ht
      exact (hf i (by simpa using hi)).2.2
theorem aqs_weights (ps : List Aq) : ∀ t ∈ ps, ∀ n ∈ (aqD (H := H) t).weights Try.prog 34, n ∈ DataW.weightsAll Try.prog 34 (ps.map (aqD (H := H))) := by
  induction ps with
  | nil => intro t ht; simp at ht
  | cons q ps ih =>
    intro t ht n hn
    simp only [List.map_cons, DataW.weightsAll, List.mem_append]
    rcases List.mem_cons.1 ht with rfl | ht
    · exact Or.inl hn
    · exact Or.inr (ih t ht n hn)
theorem aqs_said {B : Nat} {r : Reach} {b0 : Nat} {v : Value} {d : DataW H} {p : List MemPlace} (hv : Value.okWide Try.prog W r b0 22 v) (h : DataW.Trod enc Try.prog W 0 sp true 22 v d p)
    (hz : ∀ n ∈ d.weights Try.prog 22, n ≤ B) : AqsIn B W v := by
  obtain ⟨a, len, cap, rfl⟩ := okWide_slice Try.underlying22 hv
  obtain ⟨fuel, hf0⟩ := h
  obtain ⟨v', l, hc, hat, hd, hw⟩ := open_aqs hf0
  simp [Value.cells] at hc
  subst hc
  refine ⟨l, hat, fun t ht => ?_⟩
  obtain ⟨w0, w4, w5⟩ := hw t ht
  rcases hd with ⟨_, rfl⟩ | ⟨sp', hd⟩
  · simp at ht
  · simp only at hd
    subst hd
    simp only [DataW.weights, Try.underlying22, aqBytes] at hz
    have key : ∀ n ∈ (aqD (H := H) t).weights Try.prog 34, n ≤ B := fun n hn => hz n (List.mem_cons_of_mem _ (List.mem_append.2 (Or.inl (aqs_weights l t ht n hn))))
    rw [aq_weights] at key
    exact ⟨w0, w4, w5, key _ (by simp), key _ (by simp)⟩
end
end Go.Proofs.Ytgikbpaejmdnoaa

/-
  Acts of layer 12 in boxes.
-/
namespace Go.Proofs.Ytgikbpaejmdnoaa
open Go.RowKit
set_option linter.unusedVariables false
set_option maxRecDepth 20000
set_option linter.unusedSimpArgs false

def objAq (t : Aq) : Obj := .cells #[.int .i64 t.kind, .string ⟨t.br.toArray⟩, .int .i64 t.st, .int .i64 t.now, .string ⟨t.tx.toArray⟩] 34
theorem aq_row (w : World) (t : Aq) : RowIs (w.alloc (objAq t)) w.heap.size 34 (aqCells t) := by unfold RowIs; rw [heap_alloc_new]; rfl
theorem RowIs.aq {w : World} {b : Nat} {e : TypeId} {t : Aq} (h : RowIs w b e (aqCells t)) : RowC5 w b (.int .i64 t.kind) (.string ⟨t.br.toArray⟩) (.int .i64 t.st) (.int .i64 t.now) (.string ⟨t.tx.toArray⟩) := RowIs.rc5 h
end Go.Proofs.Ytgikbpaejmdnoaa
