/-
  Base texts, one behind another: WrittenL, Params, PListL, OpenUri.
-/
import Derived.Test.YtjbfdbccidhdfaaDoorFE
import Derived.Test.YtjbfdbccidhdfaaDoorFC
import Derived.Deep.QuietTactic
import Derived.BigQuiet
import Derived.Laws.StructEq
import Derived.ChangeKeysEq
import Derived.Test.YtjbfdbccidhdfaaDoorFD
import Derived.Deep.Slices
import Derived.ChangeArms

/-
  What a text stands for that may be written with some signs; parameters of texts. Plain functions on lists of bytes.
-/
namespace Go.Proofs.YtjbfdbccidhdfaaDoor
open Go.RowKit Sc
set_option linter.unusedVariables false
set_option maxRecDepth 20000

def okw (keep : List UInt8) (b : UInt8) : Bool := b == 37 || (isB b.toNat 16 || hasL b keep)
def writtenV (keep l : List UInt8) : List UInt8 × Bool := if l.all (okw keep) = true then ((unescV l).1, (unescV l).2 == 0) else ([], false)
structure Par where
  name : List UInt8
  value : List UInt8
  has : Bool
deriving DecidableEq
def parCells (p : Par) : List Value := [.string ⟨p.name.toArray⟩, .string ⟨p.value.toArray⟩, .bool p.has]
def parOf (keep l : List UInt8) : Option Par :=
  if (writtenV keep (cutL 61 l).1).2 = true ∧ (writtenV keep (cutL 61 l).2.1).2 = true then some ⟨(writtenV keep (cutL 61 l).1).1, (writtenV keep (cutL 61 l).2.1).1, (cutL 61 l).2.2⟩ else none
def parsOf (keep : List UInt8) : List (List UInt8) → Option (List Par)
  | [] => some []
  | l :: ls => match parOf keep l, parsOf keep ls with
    | some p, some ps => some (p :: ps)
    | _, _ => none

theorem okw_snoc {keep : List UInt8} {s : ByteArray} {k : Nat} (hk : k < s.size) (h : (s.data.toList.take k).all (okw keep) = true) (hb : okw keep s[k] = true) : (s.data.toList.take (k + 1)).all (okw keep) = true := by
  rw [take_snoc s k hk, List.all_append, h]; simp [hb]
theorem written_bad {keep : List UInt8} {s : ByteArray} {k : Nat} (hk : k < s.size) (hb : okw keep s[k] = false) : writtenV keep s.data.toList = ([], false) := by
  have : s.data.toList.all (okw keep) = false := by
    rw [List.all_eq_false]
    refine ⟨s[k], ?_, by simp [hb]⟩
    have := getL s k hk
    exact List.mem_of_getElem? this
  rw [writtenV, this]; rfl
theorem written_all {keep l : List UInt8} (h : l.all (okw keep) = true) : writtenV keep l = ((unescV l).1, (unescV l).2 == 0) := by rw [writtenV, if_pos h]

end Go.Proofs.YtjbfdbccidhdfaaDoor

/-
  Lists of parameters as rows of three cells each; the document's own Lists and Same.
-/
namespace Go.Proofs.YtjbfdbccidhdfaaDoor
open Go.RowKit Sc
set_option linter.unusedVariables false
set_option maxRecDepth 20000
set_option linter.unusedSimpArgs false

/-- Element k of the row at a holds p. -/
def ParAt (w : World) (a : Addr) (k : Nat) (p : Par) : Prop :=
  w.cell? (a.add (k * 3)) = some (.string ⟨p.name.toArray⟩) ∧ w.cell? ⟨(a.add (k * 3)).block, (a.add (k * 3)).off + 1, none⟩ = some (.string ⟨p.value.toArray⟩) ∧ w.cell? ⟨(a.add (k * 3)).block, (a.add (k * 3)).off + 2, none⟩ = some (.bool p.has)
/-- The slice v holds the parameters ps. -/
def ParsAt (w : World) (v : Value) (ps : List Par) : Prop :=
  (v = .slice none 0 0 ∧ ps = []) ∨ ∃ (a : Addr) (cap : Nat), v = .slice (some a) ps.length cap ∧ ∀ k (hk : k < ps.length), a.block < w.heap.size ∧ ParAt w a k ps[k]

theorem cell_below {B : Nat} {w w' : World} (h : Below B w w') {a : Addr} (ha : a.block < B) {v : Value} (hc : w.cell? a = some v) : w'.cell? a = some v := by
  rw [← hc]
  simp only [World.cell?]
  rw [h.block a.block ha]
theorem add_block (a : Addr) (i : Nat) : (a.add i).block = a.block := by unfold Addr.add; split <;> rfl
theorem ParAt.below {B : Nat} {w w' : World} {a : Addr} {k : Nat} {p : Par} (h : ParAt w a k p) (hb : Below B w w') (ha : a.block < B) : ParAt w' a k p :=
  ⟨cell_below hb (by rw [add_block]; exact ha) h.1, cell_below hb (by simp only [add_block]; exact ha) h.2.1, cell_below hb (by simp only [add_block]; exact ha) h.2.2⟩
theorem ParsAt.below {w w' : World} {v : Value} {ps : List Par} (h : ParsAt w v ps) (hb : Below w.heap.size w w') : ParsAt w' v ps := by
  rcases h with h | ⟨a, cap, hv, hc⟩
  · exact Or.inl h
  · exact Or.inr ⟨a, cap, hv, fun k hk => ⟨Nat.lt_of_lt_of_le (hc k hk).1 hb.size, (hc k hk).2.below hb (hc k hk).1⟩⟩
theorem ParsAt.form {w : World} {v : Value} {ps : List Par} (h : ParsAt w v ps) : ∃ a cap, v = .slice a ps.length cap := by
  rcases h with ⟨rfl, rfl⟩ | ⟨a, cap, rfl, _⟩
  · exact ⟨none, 0, rfl⟩
  · exact ⟨_, cap, rfl⟩

theorem stoodPar : Tryd.prog.stoodInHeld 94 = false := by kernel_rfl
theorem guardPar : Tryd.prog.eqGuardType Tryd.prog.depth 94 = false := by kernel_rfl
theorem fieldsPar : Tryd.prog.underlying 94 = some (.struct (Tryd.prog.fieldsOf 94)) := by kernel_rfl
theorem listPar : (Tryd.prog.fieldsOf 94).toList.map (fun f => (f.type, f.offset, f.name == "_")) = [(9, 0, false), (9, 1, false), (4, 2, false)] := by kernel_rfl
theorem plainStr : Tryd.prog.plainKey 9 = true := by kernel_rfl
theorem plainBool : Tryd.prog.plainKey 4 = true := by kernel_rfl
theorem neqPar (x y x' y' : ByteArray) (b b' : Bool) (u : World) : (binOp .neq 94 (.agg #[.string x, .string y, .bool b]) (.agg #[.string x', .string y', .bool b'])).run Tryd.prog u = .ok (.bool (!(x.toList == x'.toList && (y.toList == y'.toList && b == b')))) u := by
  rw [run_neq_struct, run_equalIn_agg _ 9999 _ _ _ fieldsPar stoodPar]
  have h := listPar
  generalize (Tryd.prog.fieldsOf 94).toList = fs at h ⊢
  have hlen : fs.length = 3 := by have := congrArg List.length h; simpa using this
  match fs, hlen, h with
  | [f0, f1, f2], _, h =>
    simp only [List.map_cons, List.map_nil, List.cons.injEq, Prod.mk.injEq, and_true, beq_eq_false_iff_ne] at h
    obtain ⟨⟨t0, o0, n0⟩, ⟨t1, o1, n1⟩, t2, o2, n2⟩ := h
    have p0 : ∀ (X Y : ByteArray) (B : Bool) (v : World), (part 9 #[.string X, .string Y, .bool B] 0).run Tryd.prog v = .ok (.string X) v := fun X Y B v => run_part_plain v plainStr rfl
    have p1 : ∀ (X Y : ByteArray) (B : Bool) (v : World), (part 9 #[.string X, .string Y, .bool B] 1).run Tryd.prog v = .ok (.string Y) v := fun X Y B v => run_part_plain v plainStr rfl
    have p2 : ∀ (X Y : ByteArray) (B : Bool) (v : World), (part 4 #[.string X, .string Y, .bool B] 2).run Tryd.prog v = .ok (.bool B) v := fun X Y B v => run_part_plain v plainBool rfl
    have q1 : ∀ (X Y : ByteArray) (v : World), (Op.equalIn 9999 9 (.string X) (.string Y)).run Tryd.prog v = .ok (X.toList == Y.toList) v := fun X Y v => run_equalIn_string v 9998 _ X Y Tryd.underlying9
    have q2 : ∀ (X Y : Bool) (v : World), (Op.equalIn 9999 4 (.bool X) (.bool Y)).run Tryd.prog v = .ok (X == Y) v := fun X Y v => run_equalIn_bool' v 9998 _ X Y Tryd.underlying4
    simp only [Op.eqFields, t0, t1, t2, o0, o1, o2, Sem.run_bind, Sem.run_ite, if_pos n0, if_pos n1, if_pos n2, p0, p1, p2, q1, q2, Result.andThen_ok]
    cases h0 : (x.toList == x'.toList) <;> cases h1 : (y.toList == y'.toList) <;> cases h2 : (b == b') <;> rfl

theorem neqPar_is (p q : Par) (u : World) : (binOp .neq 94 (.agg #[.string ⟨p.name.toArray⟩, .string ⟨p.value.toArray⟩, .bool p.has]) (.agg #[.string ⟨q.name.toArray⟩, .string ⟨q.value.toArray⟩, .bool q.has])).run Tryd.prog u = .ok (.bool (decide (p ≠ q))) u := by
  rw [neqPar]
  congr 2
  obtain ⟨a, b, c⟩ := p
  obtain ⟨a', b', c'⟩ := q
  rw [Bool.eq_iff_iff]
  simp [ByteArray.toList_eq]

set_option maxHeartbeats 1000000 in
theorem lists_len (v1 v2 : Value) (ps qs : List Par) (w : World) (h1 : ParsAt w v1 ps) (h2 : ParsAt w v2 qs) (hne : ¬ ps.length = qs.length) :
    Calls Tryd.prog 50 #[v1, v2] w fun e w' => e = .returned (.bool (decide (ps = qs))) ∧ ∃ q, w' = w.drewN q := by
  have hd : Hid (decide (ps = qs) = false) := show _ = _ by simp; intro e; exact hne (by rw [e])
  obtain ⟨a1, c1, rfl⟩ := h1.form
  obtain ⟨a2, c2, rfl⟩ := h2.form
  have hn : ((ps.length : Int) != (qs.length : Int)) = true := by simp only [bne_iff_ne, ne_eq]; omega
  clear h1 h2 hne
  go_enter Tryd.func50, Tryd.ntmps50
  go_wp2
  go_ret
  exact ⟨ret_bool hd.out.symm, 0, rfl⟩

set_option maxHeartbeats 1000000 in
theorem lists_row (a b : Addr) (c1 c2 : Nat) (ps qs : List Par) (w : World) (hlen : ps.length = qs.length) (hz : ps.length ≤ 140737488355328) (h1 : ∀ k (hk : k < ps.length), ParAt w a k ps[k]) (h2 : ∀ k (hk : k < qs.length), ParAt w b k qs[k]) :
    Calls Tryd.prog 50 #[.slice (some a) ps.length c1, .slice (some b) qs.length c2] w fun e w' => e = .returned (.bool (decide (ps = qs))) ∧ ∃ q, w' = w.drewN q := by
  have H1 : Hid _ := h1; clear h1
  have H2 : Hid _ := h2; clear h2
  obtain ⟨n, hn⟩ : ∃ n, n = ps.length := ⟨_, rfl⟩
  have hn2 : qs.length = n := by omega
  rw [← hn, hn2]
  have HN : Hid _ := hn; have HN2 : Hid _ := hn2
  have hnz : n ≤ 140737488355328 := by omega
  clear hlen hz hn hn2
  go_enter Tryd.func50, Tryd.ntmps50
  go_wp2
  go_loopw [5] (fun i wr => ∃ k q : Nat, k ≤ n ∧ i = .int .i64 k ∧ wr = w.drewN q ∧ Hid (ps.take k = qs.take k)) (fun i _ => n - (intOf i).toNat)
  case atStart => exact ⟨0, 0, by omega, rfl, rfl, rfl⟩
  case round =>
    obtain ⟨k, q, hk, rfl, rfl, heq⟩ := hrel
    by_cases hlt : k < n
    · have k1 : k < ps.length := by have := HN.out; omega
      have k2 : k < qs.length := by have := HN2.out; omega
      obtain ⟨x0, x1, x2⟩ := H1.out k k1
      obtain ⟨y0, y1, y2⟩ := H2.out k k2
      have hg := guardPar
      by_cases hpq : ps[k] = qs[k]
      · have hcmp : ∀ u, (binOp .neq 94 (.agg #[.string ⟨ps[k].name.toArray⟩, .string ⟨ps[k].value.toArray⟩, .bool ps[k].has]) (.agg #[.string ⟨qs[k].name.toArray⟩, .string ⟨qs[k].value.toArray⟩, .bool qs[k].has])).run Tryd.prog u = .ok (.bool false) u := fun u => by
          rw [neqPar_is]; simp [hpq]
        have hnx : Hid (ps.take (k + 1) = qs.take (k + 1)) := show _ = _ by
          rw [List.take_succ_eq_append_getElem k1, List.take_succ_eq_append_getElem k2, heq.out, hpq]
        clear hpq heq
        go_wp2
        go_quiet (fail)
        go_wp2
        go_roundw
        case rel => exact ⟨k + 1, q + nq, by omega, by go_num, rfl, hnx⟩
        case measure => simp [intOf]; omega
      · have hcmp : ∀ u, (binOp .neq 94 (.agg #[.string ⟨ps[k].name.toArray⟩, .string ⟨ps[k].value.toArray⟩, .bool ps[k].has]) (.agg #[.string ⟨qs[k].name.toArray⟩, .string ⟨qs[k].value.toArray⟩, .bool qs[k].has])).run Tryd.prog u = .ok (.bool true) u := fun u => by
          rw [neqPar_is]; simp [hpq]
        have hnx : Hid (decide (ps = qs) = false) := show _ = _ by
          simp only [decide_eq_false_iff_not]
          intro e
          subst e
          exact hpq rfl
        clear hpq heq
        go_wp2
        go_quiet (fail)
        go_wp2
        go_ret
        exact ⟨ret_bool hnx.out.symm, q + nq, by rw [World.drewN_drewN]⟩
    · have hd : Hid (decide (ps = qs) = true) := show _ = _ by
        have h := heq.out
        have e1 := HN.out
        have e2 := HN2.out
        rw [List.take_of_length_le (by omega), List.take_of_length_le (by omega)] at h
        simpa using h
      clear heq
      go_wp2
      go_ret
      exact ⟨ret_bool hd.out.symm, q, rfl⟩

set_option maxHeartbeats 400000 in
theorem lists_nil (a b : Option Addr) (c1 c2 : Nat) (w : World) :
    Calls Tryd.prog 50 #[.slice a 0 c1, .slice b 0 c2] w fun e w' => e = .returned (.bool true) ∧ w' = w := by
  go_enter Tryd.func50, Tryd.ntmps50
  go_wp2
  go_loop [5] (fun i => i = .int .i64 0) (fun i => 0)
  case atStart => rfl
  case round =>
    subst hrel
    go_wp2
    go_ret
    exact ⟨rfl, rfl⟩

theorem lists_any (v1 v2 : Value) (ps qs : List Par) (w : World) (hz : ps.length ≤ 140737488355328) (h1 : ParsAt w v1 ps) (h2 : ParsAt w v2 qs) :
    Calls Tryd.prog 50 #[v1, v2] w fun e w' => e = .returned (.bool (decide (ps = qs))) ∧ ∃ q, w' = w.drewN q := by
  by_cases hlen : ps.length = qs.length
  · by_cases h0 : ps = []
    · have hq : qs = [] := List.eq_nil_of_length_eq_zero (by rw [← hlen, h0]; rfl)
      obtain ⟨a1, c1, rfl⟩ := h1.form
      obtain ⟨a2, c2, rfl⟩ := h2.form
      subst h0 hq
      refine (lists_nil a1 a2 c1 c2 w).mono ?_
      rintro e w' ⟨rfl, rfl⟩
      exact ⟨rfl, 0, rfl⟩
    · have hq : qs ≠ [] := by intro e; apply h0; exact List.eq_nil_of_length_eq_zero (by rw [hlen, e]; rfl)
      rcases h1 with ⟨_, e⟩ | ⟨a, c1, rfl, r1⟩
      · exact absurd e h0
      · rcases h2 with ⟨_, e⟩ | ⟨b, c2, rfl, r2⟩
        · exact absurd e hq
        · exact lists_row a b c1 c2 ps qs w hlen hz (fun k hk => (r1 k hk).2) (fun k hk => (r2 k hk).2)
  · exact lists_len v1 v2 ps qs w h1 h2 hlen

/-- A URI's parts. -/
structure Uri where
  scheme : List UInt8
  user : List UInt8
  host : List UInt8
  port : Int
  params : List Par
  headers : List Par
deriving DecidableEq
def uriV (u : Uri) (p h : Value) : Value := .agg #[.string ⟨u.scheme.toArray⟩, .string ⟨u.user.toArray⟩, .string ⟨u.host.toArray⟩, .int .i64 u.port, p, h]

theorem ParsAt.alloc {w : World} {v : Value} {ps : List Par} (h : ParsAt w v ps) (o : Obj) : ParsAt (w.alloc o) v ps := h.below ((Below.refl _ w).alloc (Nat.le_refl _) o)

end Go.Proofs.YtjbfdbccidhdfaaDoor

/-
  Which lists of parameters may be; which URIs. Plain functions.
-/
namespace Go.Proofs.YtjbfdbccidhdfaaDoor
open Go.RowKit Sc
set_option linter.unusedVariables false
set_option maxRecDepth 20000

def parB (p : Par) : Bool := decide (1 ≤ p.name.length) && (decide (p.name.length ≤ 64) && (decide (p.value.length ≤ 64) && (p.has || p.value.isEmpty)))
/-- Each stands alone by its name, as far as small letters tell. -/
def apartB (ps : List Par) (nm : List UInt8) : Bool := ps.all fun q => !sameB q.name nm
def listGo : List Par → List Par → Bool
  | _, [] => true
  | before, p :: ps => parB p && (apartB before p.name && listGo (before ++ [p]) ps)
def listB (ps : List Par) : Bool := decide (ps.length ≤ 16) && listGo [] ps
def checkV (u : Uri) : Int :=
  if schemeB u.scheme = false then 30 else if 64 < u.user.length then 31 else if hostB u.host = false then 32 else if u.port < 0 ∨ 65535 < u.port then 33
  else if listB u.params = false then 34 else if listB u.headers = false then 34 else if u.headers.all (·.has) = false then 34 else 0

theorem listGo_at (ps : List Par) (k : Nat) (hk : k < ps.length) : listGo (ps.take k) (ps.drop k) = (parB ps[k] && (apartB (ps.take k) ps[k].name && listGo (ps.take (k + 1)) (ps.drop (k + 1)))) := by
  rw [List.drop_eq_getElem_cons hk, listGo, List.take_succ_eq_append_getElem hk]

end Go.Proofs.YtjbfdbccidhdfaaDoor

/-
  A URI that comes in, opened: its texts, its port, its two lists of parameters.
-/
namespace Go.Proofs.YtjbfdbccidhdfaaDoor
open Go.RowKit Go.ChangeShapes Go.WideShapes Go.Deep
set_option linter.unusedVariables false
set_option maxRecDepth 20000

def parD {H : Type} (p : Par) : DataW H := .agg [.lit (.string p.name), .lit (.string p.value), .lit (.bool p.has)]
def ParD {H : Type} (d : DataW H) (ps : List Par) : Prop := (d = .nil ∧ ps = []) ∨ ∃ sp, d = .slice (ps.map parD) sp
theorem cellsPar : Tryd.prog.cellsOf 94 = 3 := by kernel_rfl
theorem cellsStr : Tryd.prog.cellsOf 9 = 1 := by kernel_rfl
theorem cellsBool : Tryd.prog.cellsOf 4 = 1 := by kernel_rfl
theorem cellsInt : Tryd.prog.cellsOf 3 = 1 := by kernel_rfl
theorem cellsPars : Tryd.prog.cellsOf 38 = 1 := by kernel_rfl
theorem back (s : ByteArray) : (⟨s.data.toList.toArray⟩ : ByteArray) = s := by apply ByteArray.ext; simp

section
variable {H : Type} {enc : TypeId × Value → H} {W : World} {sp : Nat → Bool}

theorem open_par {fuel : Nat} {cs : List Value} {x : DataW H × List MemPlace} (h : DataW.trod enc Tryd.prog W 0 sp true fuel 94 cs = some x) :
    ∃ p : Par, cs = parCells p ∧ x.1 = parD p := by
  obtain ⟨xs, n, _, rfl, hl, hlen, hf⟩ := DataW.trod_struct Tryd.underlying94 h
  rw [cellsPar] at hl
  match cs, hl, xs, hlen with
  | [c0, c1, c2], _, [y0, y1, y2], _ =>
    have f0 := hf 0 _ rfl
    have f1 := hf 1 _ rfl
    have f2 := hf 2 _ rfl
    simp [cellsStr, cellsBool] at f0 f1 f2
    obtain ⟨s0, e0, rfl, _⟩ := DataW.trod_string Tryd.underlying9 f0
    obtain ⟨s1, e1, rfl, _⟩ := DataW.trod_string Tryd.underlying9 f1
    obtain ⟨b2, e2, rfl⟩ := DataW.trod_bool Tryd.underlying4 f2
    simp only [List.cons.injEq, and_true] at e0 e1 e2
    subst e0 e1 e2
    exact ⟨⟨s0.data.toList, s1.data.toList, b2⟩, by simp [parCells], rfl⟩

theorem open_pars {fuel : Nat} {cs : List Value} {x : DataW H × List MemPlace} (h : DataW.trod enc Tryd.prog W 0 sp true fuel 38 cs = some x) :
    ∃ (v : Value) (ps : List Par), cs = [v] ∧ ParsAt W v ps ∧ ParD x.1 ps := by
  rcases open_slice Tryd.underlying38 h with ⟨rfl, rfl⟩ | ⟨a, len, cap, m, n, D, Pl, rfl, _, hlc, hcm, hm, rfl, hall⟩
  · exact ⟨_, [], rfl, Or.inl ⟨rfl, rfl⟩, Or.inl ⟨rfl, rfl⟩⟩
  · have hlm : len ≤ m := by rw [hm]; split <;> omega
    have each : ∀ i, i < len → ∃ p : Par, D i = parD p ∧ (a.block < W.heap.size ∧ ParAt W a i p) := by
      intro i hi
      obtain ⟨cs', h1, h2⟩ := hall i (by omega)
      obtain ⟨p, rfl, hd⟩ := open_par h2
      rw [cellsPar] at h1
      obtain ⟨_, _, hc⟩ := World.cells?_some h1
      have c0 := hc 0 (by omega)
      have c1 := hc 1 (by omega)
      have c2 := hc 2 (by omega)
      refine ⟨p, hd, ?_, ?_, ?_, ?_⟩
      · have hc0 : W.cell? (a.add (i * 3)) = some (.string ⟨p.name.toArray⟩) := by simpa [Addr.add, parCells] using c0
        have : (a.add (i * 3)).block < W.heap.size := by
          unfold World.cell? at hc0
          cases hh : W.heap[(a.add (i * 3)).block]? with
          | none => simp [hh] at hc0
          | some o => exact (Array.getElem?_eq_some_iff.1 hh).1
        rwa [add_block] at this
      · simpa [Addr.add, parCells] using c0
      · simpa [Addr.add, parCells] using c1
      · simpa [Addr.add, parCells] using c2
    obtain ⟨f, hf⟩ := @choose_lt Par ⟨⟨[], [], false⟩⟩ len _ each
    refine ⟨_, (List.range len).map f, rfl, Or.inr ⟨a, cap, by simp, fun k hk => ?_⟩, Or.inr ⟨(List.range (m - len)).map fun j => D (len + j), ?_⟩⟩
    · simp at hk
      simpa using (hf k hk).2
    · simp only [List.map_map]
      congr 1
      apply List.map_congr_left
      intro i hi
      exact (hf i (by simpa using hi)).1

/-- No text and no list of it is longer than B. -/
def SmallP (B : Nat) (ps : List Par) : Prop := ps.length ≤ B ∧ ∀ p ∈ ps, p.name.length ≤ B ∧ p.value.length ≤ B
def SmallU (B : Nat) (u : Uri) : Prop := u.scheme.length ≤ B ∧ u.user.length ≤ B ∧ u.host.length ≤ B ∧ SmallP B u.params ∧ SmallP B u.headers
/-- A URI that came in. -/
def UriIn (B : Nat) (W : World) (v : Value) : Prop :=
  ∃ (u : Uri) (pv hv : Value), v = uriV u pv hv ∧ ParsAt W pv u.params ∧ ParsAt W hv u.headers ∧ SmallU B u ∧ (Lit.int .i64 u.port).wf = true

theorem bytesPar : Tryd.prog.bytesOf 94 = 40 := by kernel_rfl
theorem par_weights (p : Par) : (parD (H := H) p).weights Tryd.prog 94 = [p.name.length, p.value.length] := by
  simp [parD, DataW.weights, Tryd.underlying94, DataW.weightsEach]
theorem pars_weights (ps : List Par) : ∀ p ∈ ps, p.name.length ∈ DataW.weightsAll Tryd.prog 94 (ps.map (parD (H := H))) ∧ p.value.length ∈ DataW.weightsAll Tryd.prog 94 (ps.map (parD (H := H))) := by
  induction ps with
  | nil => simp
  | cons q ps ih =>
    intro p hp
    simp only [List.map_cons, DataW.weightsAll, List.mem_append]
    rcases List.mem_cons.1 hp with rfl | hp
    · exact ⟨Or.inl (by rw [par_weights]; simp), Or.inl (by rw [par_weights]; simp)⟩
    · exact ⟨Or.inr (ih p hp).1, Or.inr (ih p hp).2⟩
theorem small_said {B : Nat} {d : DataW H} {ps : List Par} (hd : ParD d ps) (hz : ∀ n ∈ d.weights Tryd.prog 38, n ≤ B) : SmallP B ps := by
  rcases hd with ⟨rfl, rfl⟩ | ⟨sp, rfl⟩
  · exact ⟨by simp, by simp⟩
  · simp only [DataW.weights, Tryd.underlying38, bytesPar] at hz
    refine ⟨?_, fun p hp => ⟨?_, ?_⟩⟩
    · have := hz _ (List.mem_cons_self ..)
      simp at this; omega
    · exact hz _ (List.mem_cons_of_mem _ (List.mem_append.2 (Or.inl (pars_weights ps p hp).1)))
    · exact hz _ (List.mem_cons_of_mem _ (List.mem_append.2 (Or.inl (pars_weights ps p hp).2)))
theorem bulk_pars (ps : List Par) : (∀ p ∈ ps, p.name.length + p.value.length + 1 ≤ Rows.uptoBulkAll (ps.map (parD (H := H)))) ∧ ps.length ≤ Rows.uptoBulkAll (ps.map (parD (H := H))) := by
  induction ps with
  | nil => simp
  | cons q ps ih =>
    simp only [List.map_cons, Rows.uptoBulkAll, parD, Rows.uptoBulk] at ih ⊢
    refine ⟨fun p hp => ?_, by simp; omega⟩
    rcases List.mem_cons.1 hp with rfl | hp
    · omega
    · have := ih.1 p hp; omega
theorem small_upto {B : Nat} {d : DataW H} {ps : List Par} (hd : ParD d ps) (hz : Rows.uptoBulk d ≤ B) : SmallP B ps := by
  rcases hd with ⟨rfl, rfl⟩ | ⟨sp, rfl⟩
  · exact ⟨by simp, by simp⟩
  · simp only [Rows.uptoBulk] at hz
    have hb := bulk_pars (H := H) ps
    exact ⟨by omega, fun p hp => by have := hb.1 p hp; omega⟩
end
end Go.Proofs.YtjbfdbccidhdfaaDoor
