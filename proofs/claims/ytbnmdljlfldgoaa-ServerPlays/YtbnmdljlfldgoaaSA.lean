/-
  Base texts, one behind another: SvC1, SvC2, SvC3, SvC4, SvC5, SvC6, SvC7.
-/
import Derived.Test.YtbnmdljlfldgoaaSvM
import Derived.Test.YtbnmdljlfldgoaaWC
import Derived.Test.YtbnmdljlfldgoaaRA
import Derived.DeepKeys4
import Derived.Test.YtbnmdljlfldgoaaCA
import Derived.Laws.Tables

/-
  A table of server transactions in memory: two maps and a wheel.
-/
namespace Go.Proofs.Ytbnmdljlfldgoaa
open Go.RowKit Go.Maps Go.WideMaps
set_option linter.unusedVariables false
set_option maxRecDepth 20000
set_option linter.unusedSimpArgs false

def keyV (br hop me : List UInt8) : Value := .agg #[.string ⟨br.toArray⟩, .string ⟨hop.toArray⟩, .string ⟨me.toArray⟩]
def trV (c : Cl) : Value := .agg #[.string ⟨c.br.toArray⟩, .string ⟨c.hop.toArray⟩, .string ⟨c.me.toArray⟩, .bool c.told, .string ⟨c.to.toArray⟩, .string ⟨c.tx.toArray⟩]
def numE : Value → Option (DataW Unit × List MemPlace)
  | .int .i64 n => some (.lit (.int .i64 n), [])
  | _ => none
def sB (s : ByteArray) : DataW Unit := .lit (.string s.data.toList)
def trE : Value → Option (DataW Unit × List MemPlace)
  | .agg cs => match cs.toList with
    | [.string a, .string b, .string c, .bool t, .string d, .string e] => some (.agg [sB a, sB b, sB c, .lit (.bool t), sB d, sB e], [])
    | _ => none
  | _ => none
def sL (l : List UInt8) : DataW Unit := .lit (.string l)
def trD (c : Cl) : DataW Unit := .agg [sL c.br, sL c.hop, sL c.me, .lit (.bool c.told), sL c.to, sL c.tx]
theorem numE_inv {v : Value} {n : Int} {ps : List MemPlace} (h : numE v = some (.lit (.int .i64 n), ps)) : v = .int .i64 n := by
  unfold numE at h
  split at h
  · simp at h; rw [h.1]
  · cases h
theorem trE_mk (c : Cl) : trE (trV c) = some (trD c, []) := by simp [trE, trV, trD, sB, sL]
theorem str_inv {s : ByteArray} {l : List UInt8} (h : sB s = sL l) : s = ⟨l.toArray⟩ := by
  unfold sB sL at h
  simp at h
  apply ByteArray.ext
  rw [← h]
theorem trE_inv {v : Value} {c : Cl} {ps : List MemPlace} (h : trE v = some (trD c, ps)) : v = trV c := by
  unfold trE at h
  split at h
  · rename_i cs
    split at h
    · rename_i a b m t d e hcs
      have h1 := (Prod.mk.inj (Option.some.inj h)).1
      unfold trD at h1
      injection h1 with h1
      injection h1 with e1 h1
      injection h1 with e2 h1
      injection h1 with e3 h1
      injection h1 with e4 h1
      injection h1 with e5 h1
      injection h1 with e6 h1
      have e4' : t = c.told := by injection e4 with e4; injection e4
      have : cs = #[.string a, .string b, .string m, .bool t, .string d, .string e] := by rw [← hcs]
      unfold trV
      rw [this, str_inv e1, str_inv e2, str_inv e3, e4', str_inv e5, str_inv e6]
    · cases h
  · cases h
def zeroC : Cl := ⟨0, [], [], [], 0, false, [], []⟩
theorem zeroTr (w : World) : (zeroValue 73).run Try.prog w = .ok (trV zeroC) w := by kernel_rfl
theorem zeroI (w : World) : (zeroValue 3).run Try.prog w = .ok (.int .i64 0) w := by kernel_rfl
theorem laidS : laidOutB Try.prog = true := by kernel_rfl
theorem rowKey : (69 : TypeId) < Try.prog.types.size := of_decide_eq_true (by kernel_rfl)
theorem wideKey : (match Try.prog.underlying 69 with | some (.array _ _) | some (.struct _) => true | _ => false) = true := by kernel_rfl
theorem keyK : Keyed Try.prog 69 := Keyed.of_law (deep_law_laid laidS (m := 2) (by omega) rowKey (by kernel_rfl) wideKey)
theorem sv_size (l : List UInt8) : (⟨l.toArray⟩ : ByteArray).size = l.length := by simp [ByteArray.size]
def kN3 (br hop me : List UInt8) : Lit := .string (keyBytes [.string br, .string hop, .string me])
theorem key3 {br hop me : List UInt8} (h1 : br.length ≤ 281474976710656) (h2 : hop.length ≤ 281474976710656) (h3 : me.length ≤ 281474976710656) : keyOf Try.prog 69 (keyV br hop me) = some (kN3 br hop me) := by
  have hk : Try.prog.keyType 69 = true := by kernel_rfl
  have hc : Try.prog.cellsOf 69 = 3 := by kernel_rfl
  have hs : Try.prog.cellsOf 9 = 1 := by kernel_rfl
  have ht : ∃ n, Try.prog.types.size = n + 1 := ⟨_, rfl⟩
  obtain ⟨n, hn⟩ := ht
  have q : ∀ (l : List UInt8), l.length ≤ 281474976710656 → (⟨l.toArray⟩ : ByteArray).size ≤ maxLen := fun l hl => by rw [sv_size]; unfold maxLen; omega
  unfold keyOf
  rw [Try.underlying69, hn]
  simp [hk, Value.formed, Try.underlying69, hc, keyV, Program.keyLits, Value.cells, hs, Try.underlying9, q _ h1, q _ h2, q _ h3, kN3]
end Go.Proofs.Ytbnmdljlfldgoaa

/-
  A table of server transactions in memory, and what keeps it.
-/
namespace Go.Proofs.Ytbnmdljlfldgoaa
open Go.RowKit Go.Maps Go.WideMaps
set_option linter.unusedVariables false
set_option maxRecDepth 20000
set_option linter.unusedSimpArgs false

def kN (c : Cl) : Lit := kN3 c.br c.hop c.me
def dN (c : Cl) : DataW Unit := .lit (.int .i64 c.id)
def kA (c : Cl) : Lit := idK c.id
structure SmallC (c : Cl) : Prop where
  br : c.br.length ≤ 281474976710656
  hop : c.hop.length ≤ 281474976710656
  me : c.me.length ≤ 281474976710656
  to : c.to.length ≤ 281474976710656
  tx : c.tx.length ≤ 281474976710656
  id : (Lit.int .i64 c.id).wf = true
  un : c.told = false → c.to = [] ∧ c.tx = []
theorem kN_inj {a b : Cl} (ha : SmallC a) (hb : SmallC b) : kN a = kN b ↔ a.br = b.br ∧ a.hop = b.hop ∧ a.me = b.me := by
  constructor
  · intro e
    have h1 := key3 ha.br ha.hop ha.me
    have h2 := key3 hb.br hb.hop hb.me
    unfold kN at e
    rw [← e] at h2
    have := keyK.inj h1 h2
    unfold keyV at this
    simp at this
    exact this
  · rintro ⟨h1, h2, h3⟩; unfold kN; rw [h1, h2, h3]
theorem kA_inj {a b : Cl} : kA a = kA b ↔ a.id = b.id := by
  constructor
  · intro e; unfold kA idK at e; injection e
  · intro e; unfold kA; rw [e]
/-- The table at bt: its maps at mn and ma, its wheel at be (whose map is at mw), all in blocks from B on: the maps hold l and la, and the wheel r. -/
structure Sv2 (B bt mn ma be mw : Nat) (w : World) (most last : Int) (l la : List Cl) (r : List Tm) : Prop where
  row : RowIs w bt 55 [.int .i64 most, .int .i64 last, .map (some mn), .map (some ma), .pointer (some ⟨be, 0, none⟩)]
  num : ∃ D, w.ownsMap Try.prog 69 numE mn l.length D ∧ MpC kN dN l D
  all : ∃ D, w.ownsMap Try.prog 3 trE ma la.length D ∧ MpC kA trD la D
  wheel : WWm mw B be w r
  n1 : mn ≠ ma
  n2 : mn ≠ mw
  n3 : ma ≠ mw
  lb : B ≤ bt
  ln : B ≤ mn
  lm : B ≤ ma
abbrev Sv (B bt mn ma be mw : Nat) (w : World) (most last : Int) (l : List Cl) (r : List Tm) : Prop := Sv2 B bt mn ma be mw w most last l l r
/-- What a table's call leaves: all below B, and every block of cells that is of none of a table's types. -/
structure FrS (B : Nat) (w w' : World) : Prop where
  below : Below B w w'
  keep : ∀ (k : Nat) (cs : Array Value) (e : TypeId) (x : Nat × Nat), w.heap[k]? = some (Obj.cells cs e x) → e ≠ 89 → e ≠ 106 → e ≠ 97 → e ≠ 55 → w'.heap[k]? = some (Obj.cells cs e x)
theorem FrS.refl (B : Nat) (w : World) : FrS B w w := ⟨Below.refl _ _, fun _ _ _ _ h _ _ _ _ => h⟩
theorem FrS.trans {B : Nat} {a b c : World} (h : FrS B a b) (k : FrS B b c) : FrS B a c := ⟨h.below.trans k.below, fun i cs e x hh n1 n2 n3 n4 => k.keep i cs e x (h.keep i cs e x hh n1 n2 n3 n4) n1 n2 n3 n4⟩
theorem FrS.of {B : Nat} {w w' : World} (h : Below w.heap.size w w') (hB : B ≤ w.heap.size) : FrS B w w' :=
  ⟨h.mono hB, fun k cs e x hh _ _ _ _ => by rw [h.block k (Array.getElem?_eq_some_iff.1 hh).1]; exact hh⟩
theorem FrM.frs {m B : Nat} {w w' : World} (h : FrM m B w w') : FrS B w w' := ⟨h.fr.below, fun k cs e x hh n1 n2 n3 _ => h.fr.keep k cs e x hh n1 n2 n3⟩
theorem FrS.row {B : Nat} {w w' : World} {b : Nat} {e : TypeId} {l : List Value} (h : FrS B w w') (hr : RowIs w b e l) (n1 : e ≠ 89) (n2 : e ≠ 106) (n3 : e ≠ 97) (n4 : e ≠ 55) : RowIs w' b e l := by
  unfold RowIs at hr ⊢
  exact h.keep _ _ _ _ hr n1 n2 n3 n4
theorem FrS.own {B C e s n : Nat} {w w' : World} {v : Value} {xs : List Value} (hf : FrS C w w') (h : w.ownsRow B e s v n xs) (n1 : e ≠ 89) (n2 : e ≠ 106) (n3 : e ≠ 97) (n4 : e ≠ 55) : w'.ownsRow B e s v n xs := by
  obtain ⟨h1, h2⟩ := h
  refine ⟨h1, ?_⟩
  rcases h2 with h2 | ⟨g, cap, cur, hv, hg, hh, r⟩
  · exact Or.inl h2
  · exact Or.inr ⟨g, cap, cur, hv, hg, hf.keep g _ _ _ hh n1 n2 n3 n4, r⟩
section
variable {B bt mn ma be mw : Nat} {w w' : World} {most last : Int} {l la : List Cl} {r : List Tm}
theorem Sv2.lo (h : Sv2 B bt mn ma be mw w most last l la r) : B ≤ w.heap.size := h.wheel.lo
theorem Sv2.bt_lt (h : Sv2 B bt mn ma be mw w most last l la r) : bt < w.heap.size := (Array.getElem?_eq_some_iff.1 h.row).1
theorem Sv2.chg {S : Nat → Prop} (h : Sv2 B bt mn ma be mw w most last l la r) (hc : Chg S w w') (hn : ∀ k, B ≤ k → k < w.heap.size → S k → ∃ cs e x, w.heap[k]? = some (Obj.cells cs e x) ∧ e ≠ 89 ∧ e ≠ 106 ∧ e ≠ 97 ∧ e ≠ 55) : Sv2 B bt mn ma be mw w' most last l la r := by
  have hm : ∀ {k : TypeId} {R : Value → Option (DataW Unit × List MemPlace)} {b n : Nat} {D : DataW Unit}, w.ownsMap Try.prog k R b n D → B ≤ b → w'.ownsMap Try.prog k R b n D := fun h1 hb => own_chg h1 hc fun hS => by
    obtain ⟨cs, e, x, hh, _⟩ := hn _ hb h1.lt hS
    exact map_no_row h1 _ _ _ hh
  refine ⟨?_, ?_, ?_, ?_, h.n1, h.n2, h.n3, h.lb, h.ln, h.lm⟩
  · refine h.row.chg hc fun hS => ?_
    obtain ⟨cs, e, x, hh, _, _, _, n4⟩ := hn _ h.lb h.bt_lt hS
    have := h.row
    unfold RowIs at this
    rw [this] at hh
    simp at hh
    exact n4 hh.2.1.symm
  · obtain ⟨D, h1, h2⟩ := h.num
    exact ⟨D, hm h1 h.ln, h2⟩
  · obtain ⟨D, h1, h2⟩ := h.all
    exact ⟨D, hm h1 h.lm, h2⟩
  · have hlt := h.wheel.lt.1
    refine h.wheel.chg (S := fun k => S k ∧ k < w.heap.size) ⟨hc.os, hc.tape, hc.output, hc.size, fun k hk hS => hc.block k hk fun x => hS ⟨x, hk⟩⟩ fun k hB hS => ?_
    obtain ⟨cs, e, x, hh, n1, n2, n3, n4⟩ := hn _ hB hS.2 hS.1
    refine ⟨fun e' => ?_, fun cs' e' x' hh' => ?_⟩
    · subst e'
      obtain ⟨v, f, n, D, hW, _⟩ := h.wheel
      exact map_no_row hW.mp _ _ _ hh
    · rw [hh] at hh'
      simp at hh'
      rw [← hh'.2.1]
      exact ⟨n1, n2, n3⟩
theorem Sv2.below (h : Sv2 B bt mn ma be mw w most last l la r) (hb : Below w.heap.size w w') : Sv2 B bt mn ma be mw w' most last l la r :=
  h.chg (S := fun k => w.heap.size ≤ k) ⟨hb.os, hb.tape, hb.output, hb.size, fun k _ hn => hb.block k (by omega)⟩ (fun k _ h1 h2 => by omega)
theorem Sv2.drew (h : Sv2 B bt mn ma be mw w most last l la r) : Sv2 B bt mn ma be mw w.drew most last l la r := h.below (Below.refl _ _).drew
theorem Sv2.new (h : Sv2 B bt mn ma be mw w most last l la r) (o : Obj) : Sv2 B bt mn ma be mw (w.alloc o) most last l la r := h.below ((Below.refl _ _).alloc (Nat.le_refl _) o)
/-- A store into another row. -/
theorem Sv2.put (h : Sv2 B bt mn ma be mw w most last l la r) {b : Nat} {e : TypeId} {us : List Value} (hr : RowIs w b e us) (n1 : e ≠ 89) (n2 : e ≠ 106) (n3 : e ≠ 97) (n4 : e ≠ 55) (hc : Chg (fun k => k = b) w w') : Sv2 B bt mn ma be mw w' most last l la r :=
  h.chg hc fun k _ _ e' => by subst e'; exact ⟨_, _, _, hr, n1, n2, n3, n4⟩
theorem Sv2.c0 (h : Sv2 B bt mn ma be mw w most last l la r) : w.cell? ⟨bt, 0, none⟩ = some (.int .i64 most) := h.row.cell 0 (by simp)
theorem Sv2.c1 (h : Sv2 B bt mn ma be mw w most last l la r) : w.cell? ⟨bt, 1, none⟩ = some (.int .i64 last) := h.row.cell 1 (by simp)
theorem Sv2.c2 (h : Sv2 B bt mn ma be mw w most last l la r) : w.cell? ⟨bt, 2, none⟩ = some (.map (some mn)) := h.row.cell 2 (by simp)
theorem Sv2.c3 (h : Sv2 B bt mn ma be mw w most last l la r) : w.cell? ⟨bt, 3, none⟩ = some (.map (some ma)) := h.row.cell 3 (by simp)
theorem Sv2.c4 (h : Sv2 B bt mn ma be mw w most last l la r) : w.cell? ⟨bt, 4, none⟩ = some (.pointer (some ⟨be, 0, none⟩)) := h.row.cell 4 (by simp)
theorem Sv2.f1 (h : Sv2 B bt mn ma be mw w most last l la r) : w.frozen? ⟨bt, 1, none⟩ = false := h.row.frozen 1
/-- What the look-ups tell. -/
theorem Sv2.lookN (h : Sv2 B bt mn ma be mw w most last l la r) {c : Cl} (hc : c ∈ l) (hs : SmallC c) : (Instr.lookup 51 (.map (some mn)) (keyV c.br c.hop c.me) true).run Try.prog w = .ok (.tuple #[.int .i64 c.id, .bool true]) w := by
  obtain ⟨D, h1, h2⟩ := h.num
  obtain ⟨v, ps, hr, hv⟩ := h1.look_ok keyK Try.underlying51 (zeroI w) (zd := .lit (.int .i64 0)) (zp := []) rfl (key3 hs.br hs.hop hs.me)
  have e1 : Maps.has D (kN3 c.br c.hop c.me) = true := (h2.has c).2 ⟨c, hc, rfl⟩
  have e2 : D.atKey (kN3 c.br c.hop c.me) (.lit (.int .i64 0)) = .lit (.int .i64 c.id) := h2.at' c hc _
  rw [e2] at hv
  obtain rfl := numE_inv hv
  rw [hr, e1]
theorem Sv2.lookN_no (h : Sv2 B bt mn ma be mw w most last l la r) (hl : ∀ c ∈ l, SmallC c) {br hop me : List UInt8} (h1 : br.length ≤ 281474976710656) (h2 : hop.length ≤ 281474976710656) (h3 : me.length ≤ 281474976710656) (hno : ∀ c ∈ l, ¬ (c.br = br ∧ c.hop = hop ∧ c.me = me)) :
    (Instr.lookup 51 (.map (some mn)) (keyV br hop me) true).run Try.prog w = .ok (.tuple #[.int .i64 0, .bool false]) w := by
  obtain ⟨D, g1, g2⟩ := h.num
  obtain ⟨v, ps, hr, hv⟩ := g1.look_ok keyK Try.underlying51 (zeroI w) (zd := .lit (.int .i64 0)) (zp := []) rfl (key3 h1 h2 h3)
  have e1 : Maps.has D (kN3 br hop me) = false := by
    cases e : Maps.has D (kN3 br hop me)
    · rfl
    · obtain ⟨x, hx, ex⟩ := (g2.has ⟨0, br, hop, me, 0, false, [], []⟩).1 e
      exact absurd ((kN_inj (hl x hx) ⟨h1, h2, h3, by simp, by simp, (by decide : (Lit.int .i64 (0 : Int)).wf = true), fun _ => ⟨rfl, rfl⟩⟩).1 ex) (hno x hx)
  rw [Maps.atKey_of_not_has e1] at hv
  obtain rfl := numE_inv hv
  rw [hr, e1]
theorem Sv2.lookA (h : Sv2 B bt mn ma be mw w most last l la r) {c : Cl} (hc : c ∈ la) (hs : SmallC c) :
    (Instr.lookup 52 (.map (some ma)) (.int .i64 c.id) true).run Try.prog w = .ok (.tuple #[trV c, .bool true]) w ∧ (Instr.lookup 52 (.map (some ma)) (.int .i64 c.id) false).run Try.prog w = .ok (trV c) w := by
  obtain ⟨D, h1, h2⟩ := h.all
  have e1 : Maps.has D (idK c.id) = true := (h2.has c).2 ⟨c, hc, rfl⟩
  have e2 : ∀ z, D.atKey (idK c.id) z = trD c := fun z => h2.at' c hc z
  constructor
  · obtain ⟨v, ps, hr, hv⟩ := h1.look_ok keyI Try.underlying52 (zeroTr w) (trE_mk zeroC) (key_int hs.id)
    rw [e2] at hv
    obtain rfl := trE_inv hv
    rw [hr, e1]
  · obtain ⟨v, ps, hr, hv⟩ := h1.lookup keyI Try.underlying52 (zeroTr w) (trE_mk zeroC) (key_int hs.id)
    rw [e2] at hv
    obtain rfl := trE_inv hv
    exact hr
theorem Sv2.lookA_no (h : Sv2 B bt mn ma be mw w most last l la r) {id : Int} (hwf : (Lit.int .i64 id).wf = true) (hno : ∀ c ∈ la, c.id ≠ id) :
    (Instr.lookup 52 (.map (some ma)) (.int .i64 id) true).run Try.prog w = .ok (.tuple #[trV zeroC, .bool false]) w ∧ (Instr.lookup 52 (.map (some ma)) (.int .i64 id) false).run Try.prog w = .ok (trV zeroC) w := by
  obtain ⟨D, h1, h2⟩ := h.all
  have e1 : Maps.has D (idK id) = false := by
    cases e : Maps.has D (idK id)
    · rfl
    · obtain ⟨x, hx, ex⟩ := (h2.has ⟨id, [], [], [], 0, false, [], []⟩).1 e
      exact absurd (kA_inj.1 ex) (hno x hx)
  constructor
  · obtain ⟨v, ps, hr, hv⟩ := h1.look_ok keyI Try.underlying52 (zeroTr w) (trE_mk zeroC) (key_int hwf)
    rw [Maps.atKey_of_not_has e1] at hv
    obtain rfl := trE_inv hv
    rw [hr, e1]
  · obtain ⟨v, ps, hr, hv⟩ := h1.lookup keyI Try.underlying52 (zeroTr w) (trE_mk zeroC) (key_int hwf)
    rw [Maps.atKey_of_not_has e1] at hv
    obtain rfl := trE_inv hv
    exact hr
theorem Sv2.len (h : Sv2 B bt mn ma be mw w most last l la r) (ty : TypeId) : (Builtin.len_ #[52] ty #[.map (some ma)]).run Try.prog w = .ok (.int .i64 la.length) w := by
  obtain ⟨D, h1, h2⟩ := h.all
  rw [h1.len Try.underlying52, h2.size]
/-- A map's block turned: all else is as it was. -/
theorem MpC.same {kn : Cl → Lit} {dn : Cl → DataW Unit} {l l' : List Cl} {D : DataW Unit} (h : MpC kn dn l D) (he : l'.map (fun c => (kn c, dn c)) = l.map (fun c => (kn c, dn c))) : MpC kn dn l' D := by
  have hlen : l'.length = l.length := by have := congrArg List.length he; simpa using this
  have key : ∀ (a b : List Cl), a.map (fun c => (kn c, dn c)) = b.map (fun c => (kn c, dn c)) → ∀ x ∈ a, ∃ y ∈ b, kn y = kn x ∧ dn y = dn x := fun a b e x hx => by
    have : (kn x, dn x) ∈ b.map (fun c => (kn c, dn c)) := by rw [← e]; exact List.mem_map.2 ⟨x, hx, rfl⟩
    obtain ⟨y, hy, e⟩ := List.mem_map.1 this
    simp at e
    exact ⟨y, hy, e.1, e.2⟩
  refine ⟨fun c => ?_, fun c hc z => ?_, by rw [h.size, hlen]⟩
  · rw [h.has]
    constructor
    · rintro ⟨x, hx, ex⟩
      obtain ⟨y, hy, e1, _⟩ := key l l' he.symm x hx
      exact ⟨y, hy, by rw [e1, ex]⟩
    · rintro ⟨x, hx, ex⟩
      obtain ⟨y, hy, e1, _⟩ := key l' l he x hx
      exact ⟨y, hy, by rw [e1, ex]⟩
  · obtain ⟨y, hy, e1, e2⟩ := key l' l he c hc
    rw [← e1, h.at' y hy z, e2]
theorem grown_own {P : Program} {k : TypeId} {R : Value → Option (DataW Unit × List MemPlace)} {b m n : Nat} {D : DataW Unit} (h : w.ownsMap P k R b n D) (hg : w.grownBy w' (some m)) (hne : b ≠ m) : w'.ownsMap P k R b n D := h.kept hg (fun e => hne (by injection e))
theorem grown_chg {m : Nat} (hg : w.grownBy w' (some m)) : Chg (fun k => k = m) w w' := ⟨hg.os, hg.tape, hg.output, hg.size, fun k hk hn => hg.block k hk fun e => hn (by injection e)⟩
theorem map_lt_ne {P : Program} {k : TypeId} {R : Value → Option (DataW Unit × List MemPlace)} {b n g : Nat} {D : DataW Unit} {e : TypeId} {us : List Value} (h : w.ownsMap P k R b n D) (hr : RowIs w g e us) : g ≠ b := fun e' => by subst e'; exact map_no_row h _ _ _ hr
theorem WWm.turn {bw m B b n : Nat} {k : TypeId} {P : Program} {R : Value → Option (DataW Unit × List MemPlace)} {D : DataW Unit} {r : List Tm} (h : WWm m B bw w r) (ho : w.ownsMap P k R b n D) (hg : w.grownBy w' (some b)) (hne : b ≠ m) : WWm m B bw w' r :=
  h.chg (grown_chg hg) fun k _ e => by subst e; exact ⟨hne, fun cs e x hh => absurd hh (map_no_row ho _ _ _)⟩
theorem Sv2.mapN (h : Sv2 B bt mn ma be mw w most last l la r) {l' : List Cl} (hg : w.grownBy w' (some mn)) (hn : ∃ D, w'.ownsMap Try.prog 69 numE mn l'.length D ∧ MpC kN dN l' D) : Sv2 B bt mn ma be mw w' most last l' la r := by
  obtain ⟨D, h1, h2⟩ := h.num
  obtain ⟨E, k1, k2⟩ := h.all
  exact ⟨h.row.gr hg (fun e => map_lt_ne h1 h.row (by injection e with e; exact e.symm)), hn, ⟨E, grown_own k1 hg (Ne.symm h.n1), k2⟩, h.wheel.turn h1 hg h.n2, h.n1, h.n2, h.n3, h.lb, h.ln, h.lm⟩
theorem Sv2.mapA (h : Sv2 B bt mn ma be mw w most last l la r) {l' : List Cl} (hg : w.grownBy w' (some ma)) (hn : ∃ D, w'.ownsMap Try.prog 3 trE ma l'.length D ∧ MpC kA trD l' D) : Sv2 B bt mn ma be mw w' most last l l' r := by
  obtain ⟨D, h1, h2⟩ := h.num
  obtain ⟨E, k1, k2⟩ := h.all
  exact ⟨h.row.gr hg (fun e => map_lt_ne k1 h.row (by injection e with e; exact e.symm)), ⟨D, grown_own h1 hg h.n1, h2⟩, hn, h.wheel.turn k1 hg h.n3, h.n1, h.n2, h.n3, h.lb, h.ln, h.lm⟩
theorem Sv2.same (h : Sv2 B bt mn ma be mw w most last l la r) {l' : List Cl} (he : l'.map (fun c => (kN c, dN c)) = l.map (fun c => (kN c, dN c))) : Sv2 B bt mn ma be mw w most last l' la r := by
  obtain ⟨D, h1, h2⟩ := h.num
  have hlen : l'.length = l.length := by have := congrArg List.length he; simpa using this
  exact ⟨h.row, ⟨D, by rw [hlen]; exact h1, h2.same he⟩, h.all, h.wheel, h.n1, h.n2, h.n3, h.lb, h.ln, h.lm⟩
/-- What a map's turning leaves. -/
theorem FrS.turn {b : Nat} {k : TypeId} {P : Program} {R : Value → Option (DataW Unit × List MemPlace)} {n : Nat} {D : DataW Unit} (ho : w.ownsMap P k R b n D) (hg : w.grownBy w' (some b)) (hB : B ≤ b) : FrS B w w' := by
  have hlt := ho.lt
  refine ⟨(grown_chg hg).below (by omega) (fun k e => by omega), fun k cs e x hh _ _ _ _ => ?_⟩
  rw [hg.block k (Array.getElem?_eq_some_iff.1 hh).1 (fun e' => by injection e' with e'; subst e'; exact map_no_row ho _ _ _ hh)]
  exact hh
end
end Go.Proofs.Ytbnmdljlfldgoaa

/-
  The table's made, Len, Find; keep and apart.
-/
namespace Go.Proofs.Ytbnmdljlfldgoaa
open Go.RowKit Go.Maps Go.WideMaps
set_option linter.unusedVariables false
set_option maxRecDepth 20000
set_option linter.unusedSimpArgs false

theorem clone_l (l : List UInt8) (w : World) (hl : l.length ≤ 281474976710656) :
    Calls Try.prog 33 #[.string ⟨l.toArray⟩] w fun e w' => e = .returned (.string ⟨l.toArray⟩) ∧ Below w.heap.size w w' := sclone_any ⟨l.toArray⟩ w (by rw [sv_size]; omega)
theorem neqA (w : World) (r : Option Nat) : (binOp .neq 52 (.map r) (.map none)).run Try.prog w = .ok (.bool (!r.isNone)) w := run_neq_map_nil w _ _ _ r Try.underlying52
section
variable {B bt mn ma be mw : Nat} {w w' : World} {most last : Int} {l : List Cl} {r : List Tm}
set_option maxHeartbeats 4000000 in
set_option maxRecDepth 100000 in
theorem smade_any (h : Sv B bt mn ma be mw w most last l r) :
    Calls Try.prog 25 #[.pointer (some ⟨bt, 0, none⟩)] w fun e w' => e = .returned (.bool true) ∧ w' = w := by
  have cm := h.c3
  have q61 := neqA
  clear h
  go_enter Try.func25, Try.ntmps25
  go_wp2
  go_ret
  exact ⟨rfl, rfl⟩
set_option maxHeartbeats 4000000 in
set_option maxRecDepth 100000 in
theorem slen_any (h : Sv B bt mn ma be mw w most last l r) :
    Calls Try.prog 12 #[.pointer (some ⟨bt, 0, none⟩)] w fun e w' => e = .returned (.int .i64 l.length) ∧ w' = w := by
  have KM := hid (smade_any h)
  have cm := h.c3
  have hl := h.len
  clear h
  go_enter Try.func12, Try.ntmps12
  go_wp2_with (go_at_call 25; refine KM.out.mono ?_; rintro e w0 ⟨rfl, hw0⟩; rw [hw0]; clear hw0)
  go_ret
  exact ⟨rfl, rfl⟩
def findV (p : Int × Bool) : Value := .tuple #[.int .i64 p.1, .bool p.2]
theorem find_two (l : List Cl) (br hop me : List UInt8) : (∃ c ∈ l, (c.br = br ∧ c.hop = hop ∧ c.me = me) ∧ findT l br hop me = (c.id, true)) ∨ ((∀ c ∈ l, ¬ (c.br = br ∧ c.hop = hop ∧ c.me = me)) ∧ findT l br hop me = (0, false)) := by
  unfold findT
  cases e : l.find? (isC br hop me) with
  | some c =>
    have h1 := List.find?_some e
    have h2 := List.mem_of_find?_eq_some e
    simp [isC] at h1
    exact .inl ⟨c, h2, h1, rfl⟩
  | none =>
    refine .inr ⟨fun c hc hh => ?_, rfl⟩
    have := List.find?_eq_none.1 e c hc
    simp [isC, hh] at this
set_option maxHeartbeats 4000000 in
set_option maxRecDepth 100000 in
theorem sfind_any (h : Sv B bt mn ma be mw w most last l r) (hl : ∀ c ∈ l, SmallC c) {br hop me : List UInt8} (h1 : br.length ≤ 281474976710656) (h2 : hop.length ≤ 281474976710656) (h3 : me.length ≤ 281474976710656) :
    Calls Try.prog 13 #[.pointer (some ⟨bt, 0, none⟩), .string ⟨br.toArray⟩, .string ⟨hop.toArray⟩, .string ⟨me.toArray⟩] w fun e w' => e = .returned (findV (findT l br hop me)) ∧ w' = w := by
  have KM := hid (smade_any h)
  have cm := h.c2
  have key : ∃ p : Int × Bool, findT l br hop me = p ∧ (Instr.lookup 51 (.map (some mn)) (keyV br hop me) true).run Try.prog w = .ok (.tuple #[.int .i64 p.1, .bool p.2]) w := by
    rcases find_two l br hop me with ⟨c, hc, ⟨rfl, rfl, rfl⟩, e⟩ | ⟨hno, e⟩
    · exact ⟨_, e, h.lookN hc (hl c hc)⟩
    · exact ⟨_, e, h.lookN_no hl h1 h2 h3 hno⟩
  obtain ⟨p, hp, hrun⟩ := key
  rw [hp]
  unfold keyV at hrun
  unfold findV
  obtain ⟨p1, p2⟩ := p
  simp only at hrun ⊢
  clear h hl hp h1 h2 h3
  go_enter Try.func13, Try.ntmps13
  go_wp2_with (go_at_call 25; refine KM.out.mono ?_; rintro e w0 ⟨rfl, hw0⟩; rw [hw0]; clear hw0)
  go_ret2
  exact ⟨rfl, rfl⟩
end
end Go.Proofs.Ytbnmdljlfldgoaa

/-
  The table's keep and apart: copies.
-/
namespace Go.Proofs.Ytbnmdljlfldgoaa
open Go.RowKit Go.Maps Go.WideMaps
set_option linter.unusedVariables false
set_option maxRecDepth 20000
set_option linter.unusedSimpArgs false

set_option maxHeartbeats 4000000 in
set_option maxRecDepth 100000 in
theorem skeep_any (w : World) {br hop me : List UInt8} (h1 : br.length ≤ 281474976710656) (h2 : hop.length ≤ 281474976710656) (h3 : me.length ≤ 281474976710656) :
    Calls Try.prog 29 #[.string ⟨br.toArray⟩, .string ⟨hop.toArray⟩, .string ⟨me.toArray⟩] w fun e w' => e = .returned (keyV br hop me) ∧ Below w.heap.size w w' := by
  have hr1 := sv_row3 w (.string ⟨#[]⟩) (.string ⟨#[]⟩) (.string ⟨#[]⟩) 69
  have hb1 : Below w.heap.size w (w.alloc (.cells #[.string ⟨#[]⟩, .string ⟨#[]⟩, .string ⟨#[]⟩] 69)) := (Below.refl _ w).alloc (Nat.le_refl _) _
  have hl1 := alloc_lt w (.cells #[.string ⟨#[]⟩, .string ⟨#[]⟩, .string ⟨#[]⟩] 69)
  generalize hw1 : w.alloc (.cells #[.string ⟨#[]⟩, .string ⟨#[]⟩, .string ⟨#[]⟩] 69) = w1 at hb1 hr1 hl1
  go_enter Try.func29, Try.ntmps29
  go_wp2_with fail
  refine (clone_l br w1 h1).mono ?_
  rintro e w2 ⟨rfl, hb2⟩
  go_wp2_with fail
  refine (clone_l hop w2 h2).mono ?_
  rintro e w3 ⟨rfl, hb3⟩
  go_wp2_with fail
  refine (clone_l me w3 h3).mono ?_
  rintro e w4 ⟨rfl, hb4⟩
  have hr4 := ((hr1.below hb2 hl1).below hb3 (Nat.lt_of_lt_of_le hl1 hb2.size)).below hb4 (Nat.lt_of_lt_of_le hl1 (Nat.le_trans hb2.size hb3.size))
  have hB4 := ((hb1.trans (hb2.mono hb1.size)).trans (hb3.mono (Nat.le_trans hb1.size hb2.size))).trans (hb4.mono (Nat.le_trans hb1.size (Nat.le_trans hb2.size hb3.size)))
  have KEEP := hid (And.intro (sv_store3 hr4 (.string ⟨br.toArray⟩) (.string ⟨hop.toArray⟩) (.string ⟨me.toArray⟩)) (sv_below3 hB4 w.heap.size (Nat.le_refl _) (.string ⟨br.toArray⟩) (.string ⟨hop.toArray⟩) (.string ⟨me.toArray⟩)))
  obtain ⟨y0, y1, y2, f0, f1, f2⟩ := hr4.sv3
  clear hr4 hB4 hr1 hb1 hb2 hb3 hb4
  go_wp2
  generalize World.setCell _ _ _ = wA at KEEP ⊢
  obtain ⟨hrA, hbA⟩ := KEEP.out
  obtain ⟨d0, d1, d2, _, _, _⟩ := hrA.sv3
  try simp only [Exit.inBlock, Exit.then]
  refine bodyPost_ret (v := .agg #[.string ⟨br.toArray⟩, .string ⟨hop.toArray⟩, .string ⟨me.toArray⟩]) (by simp [results, Try.results29, go_sem, d0, d1, d2]; try rfl) rfl ?_
  exact ⟨rfl, hbA⟩
structure Row2 (w : World) (b : Nat) (v0 v1 : Value) : Prop where
  c0 : w.cell? ⟨b, 0, none⟩ = some v0
  c1 : w.cell? ⟨b, 1, none⟩ = some v1
  f0 : w.frozen? ⟨b, 0, none⟩ = false
  f1 : w.frozen? ⟨b, 1, none⟩ = false
theorem RowIs.sv2 {w : World} {b : Nat} {e : TypeId} {v0 v1 : Value} (h : RowIs w b e [v0, v1]) : Row2 w b v0 v1 := ⟨h.cell 0 (by simp), h.cell 1 (by simp), h.frozen 0, h.frozen 1⟩
/-- Where apart stands: what came in, what goes out. -/
structure ApIn (w w0 u : World) (to tx : List UInt8) : Prop where
  s : RowIs u w.heap.size 39 [.string ⟨to.toArray⟩, .string ⟨tx.toArray⟩]
  r : RowIs u w0.heap.size 39 [.string ⟨#[]⟩, .string ⟨#[]⟩]
  b : Below w.heap.size w u
  l0 : w.heap.size < u.heap.size
  l1 : w0.heap.size < u.heap.size
theorem ApIn.step {w w0 u u' : World} {to tx : List UInt8} (h : ApIn w w0 u to tx) (hb : Below u.heap.size u u') : ApIn w w0 u' to tx :=
  ⟨h.s.below hb h.l0, h.r.below hb h.l1, h.b.trans (hb.mono (Nat.le_of_lt h.l0)), Nat.lt_of_lt_of_le h.l0 hb.size, Nat.lt_of_lt_of_le h.l1 hb.size⟩
set_option maxHeartbeats 4000000 in
set_option maxRecDepth 100000 in
theorem sapart_any (w : World) {to tx : List UInt8} (h1 : to.length ≤ 281474976710656) (h2 : tx.length ≤ 281474976710656) :
    Calls Try.prog 26 #[sentV (to, tx)] w fun e w' => e = .returned (sentV (to, tx)) ∧ Below w.heap.size w w' := by
  have hs0 := sv_row2 w (.string ⟨to.toArray⟩) (.string ⟨tx.toArray⟩) 39
  have hb0 : Below w.heap.size w (w.alloc (.cells #[.string ⟨to.toArray⟩, .string ⟨tx.toArray⟩] 39)) := (Below.refl _ w).alloc (Nat.le_refl _) _
  have hl0 := alloc_lt w (.cells #[.string ⟨to.toArray⟩, .string ⟨tx.toArray⟩] 39)
  generalize hw0 : w.alloc (.cells #[.string ⟨to.toArray⟩, .string ⟨tx.toArray⟩] 39) = w0 at hb0 hs0 hl0
  have hr1 := sv_row2 w0 (.string ⟨#[]⟩) (.string ⟨#[]⟩) 39
  have hb1 : Below w0.heap.size w0 (w0.alloc (.cells #[.string ⟨#[]⟩, .string ⟨#[]⟩] 39)) := (Below.refl _ w0).alloc (Nat.le_refl _) _
  have hl1 := alloc_lt w0 (.cells #[.string ⟨#[]⟩, .string ⟨#[]⟩] 39)
  generalize hw1 : w0.alloc (.cells #[.string ⟨#[]⟩, .string ⟨#[]⟩] 39) = w1 at hb1 hr1 hl1
  have HI : Hid (ApIn w w0 w1.drew to tx) := ⟨hs0.below hb1.drew hl0, hr1, (hb0.trans (hb1.mono hb0.size)).drew, Nat.lt_trans hl0 hl1, hl1⟩
  have hlo : w.heap.size ≤ w0.heap.size := hb0.size
  have K1 := hid (fun (u : World) => clone_l to u h1)
  have K2 := hid (fun (u : World) => clone_l tx u h2)
  obtain ⟨s0, s1, _, _⟩ := (hs0.below hb1 hl0).sv2
  obtain ⟨y0, y1, f0, f1⟩ := hr1.sv2
  clear hr1 hb0 hb1 hs0 hl0 hl1
  go_enter Try.func26, Try.ntmps26
  unfold sentV
  go_wp2
  go_region_law (first
    | (go_simp; go_at_call 33; refine (K1.out _).mono ?_; rintro e w2 ⟨rfl, hb2⟩; replace HI := hid (HI.out.step hb2); clear hb2; obtain ⟨s0, s1, _, _⟩ := HI.out.s.sv2; obtain ⟨y0, y1, f0, f1⟩ := HI.out.r.sv2)
    | (go_simp; go_at_call 33; refine (K2.out _).mono ?_; rintro e w2 ⟨rfl, hb2⟩; replace HI := hid (HI.out.step hb2); clear hb2; obtain ⟨s0, s1, _, _⟩ := HI.out.s.sv2; obtain ⟨y0, y1, f0, f1⟩ := HI.out.r.sv2))
  all_goals (
    have KEEP := hid (And.intro (sv_store2 HI.out.r (.string ⟨to.toArray⟩) (.string ⟨tx.toArray⟩)) (sv_below2 HI.out.b w0.heap.size hlo (.string ⟨to.toArray⟩) (.string ⟨tx.toArray⟩)))
    go_wp2
    generalize World.setCell _ _ _ = wA at KEEP ⊢
    obtain ⟨hrA, hbA⟩ := KEEP.out
    obtain ⟨d0, d1, _, _⟩ := hrA.sv2
    try simp only [Exit.inBlock, Exit.then]
    refine bodyPost_ret (v := .agg #[.string ⟨to.toArray⟩, .string ⟨tx.toArray⟩]) (by simp [results, Try.results26, go_sem, d0, d1]; try rfl) rfl ?_
    exact ⟨rfl, hbA⟩)
end Go.Proofs.Ytbnmdljlfldgoaa

/-
  The table's Cached.
-/
namespace Go.Proofs.Ytbnmdljlfldgoaa
open Go.RowKit Go.Maps Go.WideMaps
set_option linter.unusedVariables false
set_option maxRecDepth 20000
set_option linter.unusedSimpArgs false

theorem sv_row6 (w : World) (v0 v1 v2 v3 v4 v5 : Value) (t : TypeId) : RowIs (w.alloc (.cells #[v0, v1, v2, v3, v4, v5] t)) w.heap.size t [v0, v1, v2, v3, v4, v5] := by
  unfold RowIs; rw [heap_alloc_new]
theorem sv_store6 {w : World} {b : Nat} {e : TypeId} {u0 u1 u2 u3 u4 u5 : Value} (h : RowIs w b e [u0, u1, u2, u3, u4, u5]) (v0 v1 v2 v3 v4 v5 : Value) :
    RowIs ((((((w.setCell ⟨b, 0, none⟩ v0).setCell ⟨b, 1, none⟩ v1).setCell ⟨b, 2, none⟩ v2).setCell ⟨b, 3, none⟩ v3).setCell ⟨b, 4, none⟩ v4).setCell ⟨b, 5, none⟩ v5) b e [v0, v1, v2, v3, v4, v5] := by
  have := (((((h.set 0 v0).set 1 v1).set 2 v2).set 3 v3).set 4 v4).set 5 v5
  simpa using this
theorem sv_below6 {B : Nat} {a w : World} (h : Below B a w) (b : Nat) (hb : B ≤ b) (v0 v1 v2 v3 v4 v5 : Value) :
    Below B a ((((((w.setCell ⟨b, 0, none⟩ v0).setCell ⟨b, 1, none⟩ v1).setCell ⟨b, 2, none⟩ v2).setCell ⟨b, 3, none⟩ v3).setCell ⟨b, 4, none⟩ v4).setCell ⟨b, 5, none⟩ v5) := (((((h.setCell hb _).setCell hb _).setCell hb _).setCell hb _).setCell hb _).setCell hb _
structure Row6 (w : World) (b : Nat) (v0 v1 v2 v3 v4 v5 : Value) : Prop where
  c0 : w.cell? ⟨b, 0, none⟩ = some v0
  c1 : w.cell? ⟨b, 1, none⟩ = some v1
  c2 : w.cell? ⟨b, 2, none⟩ = some v2
  c3 : w.cell? ⟨b, 3, none⟩ = some v3
  c4 : w.cell? ⟨b, 4, none⟩ = some v4
  c5 : w.cell? ⟨b, 5, none⟩ = some v5
  f0 : w.frozen? ⟨b, 0, none⟩ = false
  f1 : w.frozen? ⟨b, 1, none⟩ = false
  f2 : w.frozen? ⟨b, 2, none⟩ = false
  f3 : w.frozen? ⟨b, 3, none⟩ = false
  f4 : w.frozen? ⟨b, 4, none⟩ = false
  f5 : w.frozen? ⟨b, 5, none⟩ = false
theorem RowIs.sv6 {w : World} {b : Nat} {e : TypeId} {v0 v1 v2 v3 v4 v5 : Value} (h : RowIs w b e [v0, v1, v2, v3, v4, v5]) : Row6 w b v0 v1 v2 v3 v4 v5 :=
  ⟨h.cell 0 (by simp), h.cell 1 (by simp), h.cell 2 (by simp), h.cell 3 (by simp), h.cell 4 (by simp), h.cell 5 (by simp), h.frozen 0, h.frozen 1, h.frozen 2, h.frozen 3, h.frozen 4, h.frozen 5⟩
theorem RowIs.lt {w : World} {b : Nat} {e : TypeId} {l : List Value} (h : RowIs w b e l) : b < w.heap.size := (Array.getElem?_eq_some_iff.1 h).1
/-- What is found by a number: one, or none. -/
theorem by_id (l : List Cl) (id : Int) : (∃ c ∈ l, c.id = id ∧ l.find? (fun c => c.id == id) = some c) ∨ ((∀ c ∈ l, c.id ≠ id) ∧ l.find? (fun c => c.id == id) = none) := by
  cases e : l.find? (fun c => c.id == id) with
  | some c =>
    have h1 := List.find?_some e
    exact .inl ⟨c, List.mem_of_find?_eq_some e, by simpa using h1, rfl⟩
  | none => exact .inr ⟨fun c hc => by have := List.find?_eq_none.1 e c hc; simpa using this, rfl⟩
section
variable {B bt mn ma be mw : Nat} {w w' : World} {most last : Int} {l : List Cl} {r : List Tm}
set_option maxHeartbeats 4000000 in
set_option maxRecDepth 100000 in
theorem scached_of (h : Sv B bt mn ma be mw w most last l r) {id : Int} {x : Cl} (hx : SmallC x) (hlk : ∀ u, Sv B bt mn ma be mw u most last l r → (Instr.lookup 52 (.map (some ma)) (.int .i64 id) false).run Try.prog u = .ok (trV x) u) :
    Calls Try.prog 15 #[.pointer (some ⟨bt, 0, none⟩), .int .i64 id] w fun e w' => e = .returned (.tuple #[sentV (x.to, x.tx), .bool x.told]) ∧ Below w.heap.size w w' := by
  have hr0 := sv_row2 w (.string ⟨#[]⟩) (.string ⟨#[]⟩) 39
  have hb0 : Below w.heap.size w (w.alloc (.cells #[.string ⟨#[]⟩, .string ⟨#[]⟩] 39)) := (Below.refl _ w).alloc (Nat.le_refl _) _
  have hl0 := alloc_lt w (.cells #[.string ⟨#[]⟩, .string ⟨#[]⟩] 39)
  have h0 := h.new (.cells #[.string ⟨#[]⟩, .string ⟨#[]⟩] 39)
  generalize hw0 : w.alloc (.cells #[.string ⟨#[]⟩, .string ⟨#[]⟩] 39) = w0 at hb0 hr0 hl0 h0
  have hr1 := sv_row6 w0 (.string ⟨#[]⟩) (.string ⟨#[]⟩) (.string ⟨#[]⟩) (.bool false) (.string ⟨#[]⟩) (.string ⟨#[]⟩) 73
  have hb1 : Below w0.heap.size w0 (w0.alloc (.cells #[.string ⟨#[]⟩, .string ⟨#[]⟩, .string ⟨#[]⟩, .bool false, .string ⟨#[]⟩, .string ⟨#[]⟩] 73)) := (Below.refl _ w0).alloc (Nat.le_refl _) _
  have hl1 := alloc_lt w0 (.cells #[.string ⟨#[]⟩, .string ⟨#[]⟩, .string ⟨#[]⟩, .bool false, .string ⟨#[]⟩, .string ⟨#[]⟩] 73)
  generalize hw1 : w0.alloc (.cells #[.string ⟨#[]⟩, .string ⟨#[]⟩, .string ⟨#[]⟩, .bool false, .string ⟨#[]⟩, .string ⟨#[]⟩] 73) = w1 at hb1 hr1 hl1
  have hr01 := hr0.below hb1 hl0
  have hB1 := hb0.trans (hb1.mono hb0.size)
  have KM := hid (smade_any h0)
  have cm := h0.c3
  have hlk0 := hlk _ h0
  unfold trV at hlk0
  have lo : w.heap.size ≤ w0.heap.size := hb0.size
  have KA := hid (fun (u : World) => sapart_any u hx.to hx.tx)
  have KEEP : Hid (RowIs _ _ _ _ ∧ Below _ _ _ ∧ RowIs _ _ _ _) := And.intro (sv_store6 hr1 (.string ⟨x.br.toArray⟩) (.string ⟨x.hop.toArray⟩) (.string ⟨x.me.toArray⟩) (.bool x.told) (.string ⟨x.to.toArray⟩) (.string ⟨x.tx.toArray⟩)) (And.intro (sv_below6 hB1 w0.heap.size lo (.string ⟨x.br.toArray⟩) (.string ⟨x.hop.toArray⟩) (.string ⟨x.me.toArray⟩) (.bool x.told) (.string ⟨x.to.toArray⟩) (.string ⟨x.tx.toArray⟩)) (hr01.below (sv_below6 (Below.refl w0.heap.size w1) w0.heap.size (Nat.le_refl _) (.string ⟨x.br.toArray⟩) (.string ⟨x.hop.toArray⟩) (.string ⟨x.me.toArray⟩) (.bool x.told) (.string ⟨x.to.toArray⟩) (.string ⟨x.tx.toArray⟩)) hl0))
  obtain ⟨y0, y1, y2, y3, y4, y5, g0, g1, g2, g3, g4, g5⟩ := hr1.sv6
  clear hr1 hr01 hB1 hb1 h h0 hlk hr0 hb0
  go_enter Try.func15, Try.ntmps15
  go_wp2_with (go_at_call 25; refine KM.out.mono ?_; rintro e w9 ⟨rfl, hw9⟩; rw [hw9]; clear hw9)
  generalize World.setCell _ _ _ = wA at KEEP ⊢
  obtain ⟨hrA, hbA, hoA⟩ := KEEP.out
  obtain ⟨z0, z1, z2, z3, z4, z5, _, _, _, _, _, _⟩ := hrA.sv6
  obtain ⟨o0, o1, p0, p1⟩ := hoA.sv2
  have HR := hid hrA
  have HO := hid hoA
  have HB := hid hbA
  have hlA : w0.heap.size < wA.heap.size := hrA.lt
  clear hrA hoA hbA KEEP y0 y1 y2 y3 y4 y5 g0 g1 g2 g3 g4 g5
  unfold sentV at KA
  simp only at KA
  have NX : Hid (∀ w5 : World, Below wA.drew.heap.size wA.drew w5 → w5.cell? ⟨w0.heap.size, 3, none⟩ = some (.bool x.told) ∧ Row2 w5 w.heap.size (.string ⟨#[]⟩) (.string ⟨#[]⟩) ∧ RowIs ((w5.setCell ⟨w.heap.size, 0, none⟩ (.string ⟨x.to.toArray⟩)).setCell ⟨w.heap.size, 1, none⟩ (.string ⟨x.tx.toArray⟩)) w.heap.size 39 [.string ⟨x.to.toArray⟩, .string ⟨x.tx.toArray⟩] ∧ Below w.heap.size w ((w5.setCell ⟨w.heap.size, 0, none⟩ (.string ⟨x.to.toArray⟩)).setCell ⟨w.heap.size, 1, none⟩ (.string ⟨x.tx.toArray⟩))) := fun w5 hb5 => by
    have q3 : wA.drew.cell? ⟨w0.heap.size, 3, none⟩ = some (.bool x.told) := z3
    have qO : RowIs wA.drew w.heap.size 39 [.string ⟨#[]⟩, .string ⟨#[]⟩] := HO.out
    have hr5 := qO.below hb5 (Nat.lt_trans hl0 hlA)
    have hb5' := (show Below w.heap.size w wA.drew from HB.out.drew).trans (hb5.mono (Nat.le_of_lt (Nat.lt_trans hl0 hlA)))
    exact ⟨cell_bel hb5 hlA q3, hr5.sv2, sv_store2 hr5 _ _, sv_below2 hb5' w.heap.size (Nat.le_refl _) _ _⟩
  go_region_law (go_simp; go_at_call 26; refine (KA.out _).mono ?_; rintro e w5 ⟨rfl, hb5⟩; obtain ⟨s3, ⟨k0, k1, k2, k3⟩, KEEP⟩ := NX.out _ hb5; replace KEEP := hid KEEP; clear hb5)
  all_goals (
    go_wp2
    generalize World.setCell _ _ _ = wC at KEEP ⊢
    obtain ⟨hrC, hbC⟩ := KEEP.out
    obtain ⟨d0, d1, _, _⟩ := hrC.sv2
    try simp only [Exit.inBlock, Exit.then]
    refine bodyPost_ret (v := .tuple #[.agg #[.string ⟨x.to.toArray⟩, .string ⟨x.tx.toArray⟩], .bool x.told]) (by simp [results, Try.results15, go_sem, d0, d1]; try rfl) rfl ?_
    exact ⟨rfl, hbC⟩)
theorem zero_small : SmallC zeroC := ⟨by decide, by decide, by decide, by decide, by decide, by decide, fun _ => ⟨rfl, rfl⟩⟩
def cachedV (p : (List UInt8 × List UInt8) × Bool) : Value := .tuple #[sentV p.1, .bool p.2]
theorem scached_any {t : Tb} (h : Sv B bt mn ma be mw w most last t.l r) (hl : ∀ c ∈ t.l, SmallC c) {id : Int} (hwf : (Lit.int .i64 id).wf = true) :
    Calls Try.prog 15 #[.pointer (some ⟨bt, 0, none⟩), .int .i64 id] w fun e w' => e = .returned (cachedV (cachedT t id)) ∧ Below w.heap.size w w' := by
  rcases by_id t.l id with ⟨c, hc, rfl, hf⟩ | ⟨hno, hf⟩
  · have hs := hl c hc
    refine (scached_of h hs fun u hu => (hu.lookA hc hs).2).mono ?_
    rintro e w' ⟨rfl, hb⟩
    refine ⟨?_, hb⟩
    unfold cachedT cachedV
    rw [hf]
    cases ht : c.told
    · obtain ⟨e1, e2⟩ := hs.un ht
      simp [ht, e1, e2]
    · simp [ht]
  · refine (scached_of h zero_small fun u hu => (hu.lookA_no hwf hno).2).mono ?_
    rintro e w' ⟨rfl, hb⟩
    refine ⟨?_, hb⟩
    unfold cachedT cachedV
    rw [hf]
    rfl
end
end Go.Proofs.Ytbnmdljlfldgoaa

/-
  The table's Answer.
-/
namespace Go.Proofs.Ytbnmdljlfldgoaa
open Go.RowKit Go.Maps Go.WideMaps
set_option linter.unusedVariables false
set_option maxRecDepth 20000
set_option linter.unusedSimpArgs false

section
variable {B bt mn ma be mw : Nat} {w w' : World} {most last : Int} {l : List Cl} {r : List Tm}
/-- The answer is put into the map of all. -/
theorem Sv2.tell {k : Nat} {to tx : List UInt8} (h : Sv B bt mn ma be mw w most last l r) (hk : k < l.length) (hs : SmallC l[k]) (hd : ∀ j (hj : j < l.length), j ≠ k → l[j].id ≠ l[k].id) (hn : l.length ≤ 1000000) :
    ∃ w', (Instr.mapUpdate 52 (.map (some ma)) (.int .i64 l[k].id) (trV (tellC l[k] to tx))).run Try.prog w = .ok () w' ∧ Sv B bt mn ma be mw w' most last (l.set k (tellC l[k] to tx)) r ∧ FrS B w w' := by
  obtain ⟨D, h1, h2⟩ := h.all
  obtain ⟨w', hrun, g1, g2⟩ := h1.update keyI Try.underlying52 (by unfold maxLen; omega) (key_int hs.id) (trE_mk (tellC l[k] to tx))
  refine ⟨w', hrun, ?_, FrS.turn h1 g2 h.lm⟩
  have hM : MpC kA trD (l.set k (tellC l[k] to tx)) (D.put (idK l[k].id) (trD (tellC l[k] to tx))) := h2.set h1.isMap (h1.tidy keyI) hk (c := tellC l[k] to tx) (by unfold kA; trivial) rfl (fun j hj hne e => hd j hj hne (kA_inj.1 e))
  have g1' := own_tight g1
  rw [hM.size] at g1'
  have hA := h.mapA g2 ⟨_, g1', hM⟩
  refine hA.same ?_
  rw [List.map_set]
  apply List.ext_getElem (by simp)
  intro i a1 a2
  by_cases e : k = i
  · subst e; simp [kN, dN, tellC]
  · rw [List.getElem_set_ne e]
def ErrR (n : Int) : Ending := .returned (.int .i64 n)
set_option maxHeartbeats 1000000 in
set_option maxRecDepth 100000 in
theorem sanswer_of (h : Sv B bt mn ma be mw w most last l r) {id : Int} {to tx : List UInt8} {x : Cl} {ok : Bool} (h1 : to.length ≤ 281474976710656) (h2 : tx.length ≤ 281474976710656)
    (hlk : ∀ u, Sv B bt mn ma be mw u most last l r → (Instr.lookup 52 (.map (some ma)) (.int .i64 id) true).run Try.prog u = .ok (.tuple #[trV x, .bool ok]) u)
    (R : World → Prop) (n : Int) (hn : (if ok = false then 6 else if x.told = true then 7 else 0) = n) (hold : n ≠ 0 → ∀ u, Below w.heap.size w u → R u)
    (hup : n = 0 → ∀ u, Sv B bt mn ma be mw u most last l r → Below w.heap.size w u → ∃ u', (Instr.mapUpdate 52 (.map (some ma)) (.int .i64 id) (trV (tellC x to tx))).run Try.prog u = .ok () u' ∧ R u') :
    Calls Try.prog 18 #[.pointer (some ⟨bt, 0, none⟩), .int .i64 id, sentV (to, tx)] w fun e w' => e = ErrR n ∧ R w' := by
  have hs0 := sv_row2 w (.string ⟨to.toArray⟩) (.string ⟨tx.toArray⟩) 39
  have hb0 : Below w.heap.size w (w.alloc (.cells #[.string ⟨to.toArray⟩, .string ⟨tx.toArray⟩] 39)) := (Below.refl _ w).alloc (Nat.le_refl _) _
  have hl0 := alloc_lt w (.cells #[.string ⟨to.toArray⟩, .string ⟨tx.toArray⟩] 39)
  have h0 := h.new (.cells #[.string ⟨to.toArray⟩, .string ⟨tx.toArray⟩] 39)
  generalize hw0 : w.alloc (.cells #[.string ⟨to.toArray⟩, .string ⟨tx.toArray⟩] 39) = w0 at hb0 hs0 hl0 h0
  obtain ⟨tb, htb⟩ : ∃ b, b = x.told := ⟨_, rfl⟩
  have hr1 := sv_row6 w0 (.string ⟨x.br.toArray⟩) (.string ⟨x.hop.toArray⟩) (.string ⟨x.me.toArray⟩) (.bool tb) (.string ⟨x.to.toArray⟩) (.string ⟨x.tx.toArray⟩) 73
  have hb1 : Below w0.heap.size w0 (w0.alloc (.cells #[.string ⟨x.br.toArray⟩, .string ⟨x.hop.toArray⟩, .string ⟨x.me.toArray⟩, .bool tb, .string ⟨x.to.toArray⟩, .string ⟨x.tx.toArray⟩] 73)) := (Below.refl _ w0).alloc (Nat.le_refl _) _
  have hl1 := alloc_lt w0 (.cells #[.string ⟨x.br.toArray⟩, .string ⟨x.hop.toArray⟩, .string ⟨x.me.toArray⟩, .bool tb, .string ⟨x.to.toArray⟩, .string ⟨x.tx.toArray⟩] 73)
  generalize hw1 : w0.alloc (.cells #[.string ⟨x.br.toArray⟩, .string ⟨x.hop.toArray⟩, .string ⟨x.me.toArray⟩, .bool tb, .string ⟨x.to.toArray⟩, .string ⟨x.tx.toArray⟩] 73) = w1 at hb1 hr1 hl1
  have hs1 := hs0.below hb1 hl0
  have hB1 := hb0.trans (hb1.mono hb0.size)
  have KM := hid (smade_any h0)
  have cm := h0.c3
  have hlk0 := hlk _ h0
  unfold trV at hlk0
  rw [← htb] at hlk0 hn
  have lo : w.heap.size ≤ w0.heap.size := hb0.size
  have KA := hid (fun (u : World) => sapart_any u h1 h2)
  have y3 : w1.cell? ⟨w0.heap.size, 3, none⟩ = some (.bool tb) := hr1.sv6.c3
  obtain ⟨s0, s1, _, _⟩ := hs1.sv2
  have HB := hid hB1
  have HR := hid hr1
  have HS := hid h
  have UP := hid hup
  have OLD := hid hold
  clear hr1 hs1 hB1 hb1 h h0 hlk hs0 hb0 hup hold htb
  go_enter Try.func18, Try.ntmps18
  unfold sentV
  simp only
  cases ok
  · rw [if_pos rfl] at hn
    subst hn
    go_wp2_with (first
      | (go_at_call 25; refine KM.out.mono ?_; rintro e w9 ⟨rfl, hw9⟩; rw [hw9]; clear hw9))
    go_ret
    exact ⟨rfl, OLD.out (by decide) _ HB.out⟩
  · rw [if_neg (by decide)] at hn
    cases tb
    · rw [if_neg (by decide)] at hn
      go_wp2_with (first
        | (go_at_call 25; refine KM.out.mono ?_; rintro e w9 ⟨rfl, hw9⟩; rw [hw9]; clear hw9))
      refine (KA.out w1).mono ?_
      rintro e w2 ⟨rfl, hb2⟩
      have hr2 := HR.out.below hb2 hl1
      have hB2 := HB.out.trans (hb2.mono HB.out.size)
      have hr3 := ((hr2.set 3 (.bool true)).set 4 (.string ⟨to.toArray⟩)).set 5 (.string ⟨tx.toArray⟩)
      have hB3 : Below w.heap.size w (((w2.setCell ⟨w0.heap.size, 3, none⟩ (.bool true)).setCell ⟨w0.heap.size, 4, none⟩ (.string ⟨to.toArray⟩)).setCell ⟨w0.heap.size, 5, none⟩ (.string ⟨tx.toArray⟩)) := ((hB2.setCell lo _).setCell lo _).setCell lo _
      have KEEP : Hid (RowIs _ w0.heap.size 73 [.string ⟨x.br.toArray⟩, .string ⟨x.hop.toArray⟩, .string ⟨x.me.toArray⟩, .bool true, .string ⟨to.toArray⟩, .string ⟨tx.toArray⟩] ∧ Below w.heap.size w _) := And.intro (by simpa using hr3) hB3
      obtain ⟨v0, v1, v2, v3, v4, v5, q0, q1, q2, q3, q4, q5⟩ := hr2.sv6
      clear hr2 hB2 hr3 hB3 hb2 y3 s0 s1 cm hlk0 KM
      unfold sentV
      simp only
      go_wp2
      generalize World.setCell _ _ _ = wA at KEEP ⊢
      obtain ⟨hrA, hbA⟩ := KEEP.out
      have hSA := HS.out.below hbA
      have cmA : wA.drew.cell? ⟨bt, 3, none⟩ = some (.map (some ma)) := hSA.c3
      obtain ⟨z0, z1, z2, z3, z4, z5, _, _, _, _, _, _⟩ := (show RowIs wA.drew _ _ _ from hrA).sv6
      obtain ⟨w6, hrun, hR⟩ := UP.out hn.symm wA.drew hSA.drew hbA.drew
      unfold trV tellC at hrun
      simp only at hrun
      have HF := hid hR
      clear hrA hbA hSA KEEP UP OLD HS HR HB hR v0 v1 v2 v3 v4 v5 q0 q1 q2 q3 q4 q5
      go_region
      all_goals (
        go_wp2
        go_ret
        exact ⟨by rw [← hn]; rfl, HF.out⟩)
    · rw [if_pos rfl] at hn
      subst hn
      go_wp2_with (first
        | (go_at_call 25; refine KM.out.mono ?_; rintro e w9 ⟨rfl, hw9⟩; rw [hw9]; clear hw9))
      go_ret
      exact ⟨rfl, OLD.out (by decide) _ HB.out⟩
end
end Go.Proofs.Ytbnmdljlfldgoaa

/-
  The table's begin.
-/
namespace Go.Proofs.Ytbnmdljlfldgoaa
open Go.RowKit Go.Maps Go.WideMaps
set_option linter.unusedVariables false
set_option maxRecDepth 20000
set_option linter.unusedSimpArgs false

section
variable {B bt mn ma be mw : Nat} {w w' : World} {most last : Int} {l la : List Cl} {r : List Tm}
theorem FrS.put {b j : Nat} {us : List Value} (hr : RowIs w b 55 us) (hB : B ≤ b) (v : Value) : FrS B w (w.setCell ⟨b, j, none⟩ v) := by
  have hc : Chg (fun k => k = b) w (w.setCell ⟨b, j, none⟩ v) := (Chg.refl (fun k => k = b) w).setCell (p := ⟨b, j, none⟩) (fun _ => rfl) v
  refine ⟨(Below.refl B w).setCell hB v, fun k cs e x hh _ _ _ n4 => ?_⟩
  rw [hc.block k (Array.getElem?_eq_some_iff.1 hh).1]
  · exact hh
  · intro e'
    subst e'
    unfold RowIs at hr
    rw [hr] at hh
    simp at hh
    exact n4 hh.2.1.symm
/-- The count of those begun. -/
theorem Sv2.count (h : Sv2 B bt mn ma be mw w most last l la r) (n : Int) : Sv2 B bt mn ma be mw (w.setCell ⟨bt, 1, none⟩ (.int .i64 n)) most n l la r ∧ FrS B w (w.setCell ⟨bt, 1, none⟩ (.int .i64 n)) := by
  have hc : Chg (fun k => k = bt) w (w.setCell ⟨bt, 1, none⟩ (.int .i64 n)) := (Chg.refl (fun k => k = bt) w).setCell (p := ⟨bt, 1, none⟩) (fun _ => rfl) _
  obtain ⟨D, h1, h2⟩ := h.num
  obtain ⟨E, k1, k2⟩ := h.all
  refine ⟨⟨?_, ⟨D, own_chg h1 hc (Ne.symm (map_lt_ne h1 h.row)), h2⟩, ⟨E, own_chg k1 hc (Ne.symm (map_lt_ne k1 h.row)), k2⟩, ?_, h.n1, h.n2, h.n3, h.lb, h.ln, h.lm⟩, FrS.put h.row h.lb _⟩
  · have := h.row.set 1 (.int .i64 n)
    simpa using this
  · refine h.wheel.chg hc fun k _ e => ?_
    subst e
    refine ⟨fun e => ?_, fun cs e x hh => ?_⟩
    · subst e
      obtain ⟨v, f, n, D, hW, _⟩ := h.wheel
      exact map_lt_ne hW.mp h.row rfl
    · have := h.row
      unfold RowIs at this
      rw [this] at hh
      simp at hh
      rw [← hh.2.1]
      exact ⟨by decide, by decide, by decide⟩
theorem Sv2.addN (h : Sv2 B bt mn ma be mw w most last l la r) (hl : ∀ c ∈ l, SmallC c) {c : Cl} (hs : SmallC c) (hno : ∀ x ∈ l, ¬ (x.br = c.br ∧ x.hop = c.hop ∧ x.me = c.me)) (hn : l.length ≤ 1000000) :
    ∃ w', (Instr.mapUpdate 51 (.map (some mn)) (keyV c.br c.hop c.me) (.int .i64 c.id)).run Try.prog w = .ok () w' ∧ Sv2 B bt mn ma be mw w' most last (l ++ [c]) la r ∧ FrS B w w' := by
  obtain ⟨D, h1, h2⟩ := h.num
  obtain ⟨w', hrun, g1, g2⟩ := h1.update keyK Try.underlying51 (by unfold maxLen; omega) (key3 hs.br hs.hop hs.me) (show numE (.int .i64 c.id) = some (dN c, []) from rfl)
  refine ⟨w', hrun, ?_, FrS.turn h1 g2 h.ln⟩
  have hM : MpC kN dN (l ++ [c]) (D.put (kN3 c.br c.hop c.me) (dN c)) := h2.add h1.isMap (h1.tidy keyK) (c := c) (by unfold kN kN3; trivial) (fun x hx e => hno x hx ((kN_inj (hl x hx) hs).1 e))
  have g1' := own_tight g1
  rw [hM.size] at g1'
  exact h.mapN g2 ⟨_, g1', hM⟩
theorem Sv2.addA (h : Sv2 B bt mn ma be mw w most last l la r) {c : Cl} (hs : SmallC c) (hno : ∀ x ∈ la, x.id ≠ c.id) (hn : la.length ≤ 1000000) :
    ∃ w', (Instr.mapUpdate 52 (.map (some ma)) (.int .i64 c.id) (trV c)).run Try.prog w = .ok () w' ∧ Sv2 B bt mn ma be mw w' most last l (la ++ [c]) r ∧ FrS B w w' := by
  obtain ⟨D, h1, h2⟩ := h.all
  obtain ⟨w', hrun, g1, g2⟩ := h1.update keyI Try.underlying52 (by unfold maxLen; omega) (key_int hs.id) (trE_mk c)
  refine ⟨w', hrun, ?_, FrS.turn h1 g2 h.lm⟩
  have hM : MpC kA trD (la ++ [c]) (D.put (idK c.id) (trD c)) := h2.add h1.isMap (h1.tidy keyI) (c := c) (by unfold kA; trivial) (fun x hx e => hno x hx (kA_inj.1 e))
  have g1' := own_tight g1
  rw [hM.size] at g1'
  exact h.mapA g2 ⟨_, g1', hM⟩
/-- A timer is set. -/
theorem Sv2.turnW (h : Sv2 B bt mn ma be mw w most last l la r) {r' : List Tm} (hw : WWm mw B be w' r') (hf : FrM mw B w w') : Sv2 B bt mn ma be mw w' most last l la r' := by
  obtain ⟨D, h1, h2⟩ := h.num
  obtain ⟨E, k1, k2⟩ := h.all
  exact ⟨hf.fr.row h.row (by decide) (by decide) (by decide), ⟨D, hf.own h1 h.n2, h2⟩, ⟨E, hf.own k1 h.n3, k2⟩, hw, h.n1, h.n2, h.n3, h.lb, h.ln, h.lm⟩
theorem FrS.drew (h : FrS B w w') : FrS B w w'.drew := ⟨h.below.drew, h.keep⟩
set_option maxHeartbeats 1000000 in
set_option maxRecDepth 100000 in
theorem sbegin_any (h : Sv B bt mn ma be mw w most last l r) (hl : ∀ c ∈ l, SmallC c) {br hop me : List UInt8} {en : Int} (hs : SmallC ⟨last + 1, br, hop, me, en, false, [], []⟩) (hno : ∀ x ∈ l, ¬ (x.br = br ∧ x.hop = hop ∧ x.me = me)) (hid' : ∀ x ∈ l, x.id ≠ last + 1)
    (hn : l.length ≤ 1000000) (h0 : 0 ≤ last) (h9 : last ≤ 1000000000) (he0 : 0 ≤ en) (he1 : en ≤ 1099511627776) (hr : r.length < 4096) :
    Calls Try.prog 28 #[.pointer (some ⟨bt, 0, none⟩), keyV br hop me, .int .i64 en] w fun e w' => e = .returned (.int .i64 (last + 1)) ∧ Sv B bt mn ma be mw w' most (last + 1) (l ++ [⟨last + 1, br, hop, me, en, false, [], []⟩]) (setT r (last + 1) en) ∧ FrS B w w' := by
  have hs0 := sv_row3 w (.string ⟨br.toArray⟩) (.string ⟨hop.toArray⟩) (.string ⟨me.toArray⟩) 69
  have hb0 : Below w.heap.size w (w.alloc (.cells #[.string ⟨br.toArray⟩, .string ⟨hop.toArray⟩, .string ⟨me.toArray⟩] 69)) := (Below.refl _ w).alloc (Nat.le_refl _) _
  have hl0 := alloc_lt w (.cells #[.string ⟨br.toArray⟩, .string ⟨hop.toArray⟩, .string ⟨me.toArray⟩] 69)
  have S0 := h.new (.cells #[.string ⟨br.toArray⟩, .string ⟨hop.toArray⟩, .string ⟨me.toArray⟩] 69)
  have F0 := FrS.of hb0 h.lo
  have hbt := h.bt_lt
  generalize hw0 : w.alloc (.cells #[.string ⟨br.toArray⟩, .string ⟨hop.toArray⟩, .string ⟨me.toArray⟩] 69) = w0 at hb0 hs0 hl0 S0 F0
  obtain ⟨S1, F1⟩ := S0.count (last + 1)
  have hs1 : RowIs (w0.setCell ⟨bt, 1, none⟩ (.int .i64 (last + 1))) w.heap.size 69 _ := F1.row hs0 (by decide) (by decide) (by decide) (by decide)
  have c1 := S0.c1
  have f1 := S0.f1
  generalize hw1 : w0.setCell ⟨bt, 1, none⟩ (.int .i64 (last + 1)) = w1 at hs1 S1 F1
  obtain ⟨w2, hrun2, S2, F2⟩ := S1.drew.addN hl hs hno hn
  have hs2 := F2.row (show RowIs w1.drew _ _ _ from hs1) (by decide) (by decide) (by decide) (by decide)
  obtain ⟨w3, hrun3, S3, F3⟩ := S2.drew.addA hs hid' hn
  have KS := hid (wmset_any S3.drew.wheel (id := last + 1) (a := en) hs.id)
  have FF := (((F0.trans F1).drew.trans F2).drew.trans F3).drew
  have hset : setR r (last + 1) en = setT r (last + 1) en := by
    unfold setR
    rw [if_neg (by unfold badS; omega), if_neg (fun x => by omega)]
  unfold keyV trV at *
  simp only at hrun2 hrun3
  have a21 := cell_dr S1.c1
  have a22 := cell_dr S1.c2
  obtain ⟨k0, k1, k2, _, _, _⟩ := (show RowIs w1.drew _ _ _ from hs1).sv3
  have a31 := cell_dr S2.c1
  have a33 := cell_dr S2.c3
  obtain ⟨m0, m1, m2, _, _, _⟩ := (show RowIs w2.drew _ _ _ from hs2).sv3
  have a41 := cell_dr S3.c1
  have a44 := cell_dr S3.c4
  have HS3 := hid S3
  have HFF := hid FF
  clear S0 S1 S2 S3 F0 F1 F2 F3 hs0 hs1 hs2 hb0 FF h hl hs hno hid'
  have hov : last + 1 ≤ 1000000001 := by omega
  go_enter Try.func28, Try.ntmps28
  go_wp2
  go_region
  all_goals (
    go_wp2
    go_region
    all_goals (
      go_wp2
      go_region_law (go_simp; go_at_call 34; refine KS.out.mono ?_; rintro e w5 ⟨rfl, hw5, hf5⟩)
      all_goals (
        have S5 := HS3.out.drew.turnW hw5 hf5
        have a51 := S5.c1
        have F5 := HFF.out.trans hf5.frs
        have HE := hid (And.intro S5 F5)
        clear S5 F5 hw5 hf5
        go_wp2
        go_ret
        refine ⟨rfl, ?_, HE.out.2⟩
        have := HE.out.1
        rw [hset] at this
        exact this)))
end
end Go.Proofs.Ytbnmdljlfldgoaa
