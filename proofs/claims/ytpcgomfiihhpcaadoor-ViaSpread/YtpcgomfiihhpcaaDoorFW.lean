/-
  Base texts, one behind another: FVis, FLong, RLong, FCheck, FFirst, FPieces.
-/
import Derived.Test.YtpcgomfiihhpcaaDoorFU
import Derived.Test.YtpcgomfiihhpcaaDoorBAny
import Derived.Lib.QuietBelow
import Derived.BigQuiet

/-
  Contracts: package frame's visible, isValue, isTarget, isLength, trimEnd; the document's own Visible, Value, behind, length.
-/
namespace Go.Proofs.YtpcgomfiihhpcaaDoor
open Go.RowKit Sc
set_option linter.unusedVariables false
set_option maxRecDepth 20000

theorem vis_snoc (l : List UInt8) (b : UInt8) : visB (l ++ [b]) = (visB l && visc b) := by simp [visB]
theorem vis_bad {s : ByteArray} {k : Nat} (h : k < s.size) (hb : visc s[k] = false) : visB s.data.toList = false := by
  unfold visB
  rw [List.all_eq_false]
  exact ⟨s[k], by rw [split_at s k h]; simp, by rw [hb]; simp⟩
theorem visc_is (b : UInt8) : visc b = !((decide (b.toNat < 32) && b != 9) || b == 127) := rfl
theorem list_beq (a b : List UInt8) : ((⟨a.toArray⟩ : ByteArray).toList == (⟨b.toArray⟩ : ByteArray).toList) = (a == b) := by
  have e : ∀ l : List UInt8, (⟨l.toArray⟩ : ByteArray).toList = l := fun l => by rw [ByteArray.toList_eq]
  rw [e, e]

def tgtB (l : List UInt8) : Bool := !l.isEmpty && (visB l && !blkB l)
theorem behind_drop {l : List UInt8} {b : UInt8} (h : blk b = true) : behindL (l ++ [b]) = behindL l := by
  unfold behindL; simp [h]
theorem behind_stop {l : List UInt8} {b : UInt8} (h : blk b = false) : behindL (l ++ [b]) = l ++ [b] := by
  unfold behindL; simp [h]
theorem last_split (t : ByteArray) (h : 0 < t.size) : t.data.toList = (t.extract 0 (t.size - 1)).data.toList ++ [t[t.size - 1]] := by
  have := take_snoc t (t.size - 1) (by omega)
  rw [show t.size - 1 + 1 = t.size by omega, take_all t t.size (Nat.le_refl _)] at this
  rw [Lib.extract_from_zero, ← this]
def strSize : Value → Nat | .string t => t.size | _ => 0
theorem ret_data {t : ByteArray} {l : List UInt8} (h : t.data.toList = l) : Ending.returned (.string t) = .returned (.string ⟨l.toArray⟩) := by
  rw [← h]
end Go.Proofs.YtpcgomfiihhpcaaDoor

/-
  Contracts: Long of package frame and the document's own.
-/
namespace Go.Proofs.YtpcgomfiihhpcaaDoor
open Go.RowKit Sc
set_option linter.unusedVariables false
set_option maxRecDepth 20000

theorem long_cases (l : List UInt8) : (∃ k, ∃ h : k < longT.length, lowL l = [longT[k].1] ∧ longV l = longT[k].2) ∨ ((∀ x ∈ longT, lowL l ≠ [x.1]) ∧ longV l = l) := by
  unfold longV
  cases h : longT.find? (fun x => lowL l == [x.1]) with
  | none =>
    right
    refine ⟨fun x hx e => ?_, rfl⟩
    have := List.find?_eq_none.1 h x hx
    rw [e] at this; simp at this
  | some x =>
    left
    obtain ⟨k, hk, he⟩ := List.getElem_of_mem (List.mem_of_find?_eq_some h)
    have h2 := List.find?_some h
    refine ⟨k, hk, ?_, ?_⟩
    · rw [he]; simpa using h2
    · rw [he]
theorem long_len (l : List UInt8) : (longV l).length ≤ l.length + 16 := by
  rcases long_cases l with ⟨k, hk, h1, h2⟩ | ⟨h1, h2⟩
  · rw [h2]
    have : ∀ x ∈ longT, x.2.length ≤ 16 := by decide
    have := this _ (List.getElem_mem hk); omega
  · rw [h2]; omega
theorem beq_no {t : List UInt8} {b : UInt8} (h : t ≠ [b]) : (t == [b]) = false := by simpa using h

end Go.Proofs.YtpcgomfiihhpcaaDoor

/-
  The contract of the document's own Long.
-/
namespace Go.Proofs.YtpcgomfiihhpcaaDoor
open Go.RowKit Go.Sort Sc
set_option linter.unusedVariables false
set_option maxRecDepth 20000

theorem followsF : Tryd.prog.follows .mixedOrders = true := by kernel_rfl
theorem below_reF {w W : World} (h : Below w.heap.size w W) (d : Nat) (os : Array Obj) : Below w.heap.size w (grow (redrawn W d) os) := h.trans ((below_regrown W d os).mono h.size)
def lettersK : ByteArray := ⟨#[118, 102, 116, 105, 109, 101, 108, 99, 115, 107, 111, 117]⟩
theorem long_sign {k : Nat} (hk : k < longT.length) : lettersK.extract k (k + 1) = ⟨[longT[k].1].toArray⟩ := by
  have h : ∀ k : Fin 12, lettersK.extract k.val (k.val + 1) = ⟨[(longT[k.val]'k.isLt).1].toArray⟩ := by decide +kernel
  exact h ⟨k, hk⟩
theorem long_row {k : Nat} (hk : k < longT.length) : (strs (longT.map Prod.snd))[k]? = some (.string ⟨longT[k].2.toArray⟩) := by
  simp [strs, hk]
theorem long_apart : ∀ a b : Fin 12, (longT[a.val]'a.isLt).1 = (longT[b.val]'b.isLt).1 → a = b := by decide +kernel
theorem long_at {l : List UInt8} {k : Nat} (hk : k < longT.length) (h : lowL l = [longT[k].1]) : longV l = longT[k].2 := by
  rcases long_cases l with ⟨j, hj, h1, h2⟩ | ⟨h1, _⟩
  · have e := long_apart ⟨j, hj⟩ ⟨k, hk⟩ (by rw [h] at h1; exact (List.cons.inj h1.symm).1)
    obtain rfl : j = k := congrArg Fin.val e
    exact h2
  · exact absurd h (h1 _ (List.getElem_mem hk))
theorem long_none {l : List UInt8} (h : ∀ j (hj : j < longT.length), lowL l ≠ [longT[j].1]) : longV l = l := by
  rcases long_cases l with ⟨j, hj, h1, h2⟩ | ⟨_, h2⟩
  · exact absurd h1 (h j hj)
  · exact h2

end Go.Proofs.YtpcgomfiihhpcaaDoor

/-
  Contracts: package frame's headerMayBe, startMayBe, Check.
-/
namespace Go.Proofs.YtpcgomfiihhpcaaDoor
open Go.RowKit Go.Sort Sc
set_option linter.unusedVariables false
set_option maxRecDepth 20000

theorem all_blk (l : List UInt8) : l.all (fun b => !blk b) = !blkB l := by
  unfold blkB
  induction l with
  | nil => rfl
  | cons b l ih => rw [List.all_cons, List.any_cons, ih]; cases blk b <;> rfl
theorem first_resp {m : Ms} (h : m.method.isEmpty = true) : firstB m = (decide (100 ≤ m.status) && (decide (m.status ≤ 699) && (valB m.reason && m.target.isEmpty))) := by
  unfold firstB
  rw [if_pos (by simpa using h)]
  by_cases h1 : 100 ≤ m.status <;> by_cases h2 : m.status ≤ 699 <;> simp [h1, h2] <;> (generalize m.target.isEmpty = a; generalize valB m.reason = b; revert a b; decide)
theorem first_req {m : Ms} (h : m.method.isEmpty = false) : firstB m = (tokenB m.method && (tgtB m.target && (decide (m.status = 0) && m.reason.isEmpty))) := by
  unfold firstB
  rw [if_neg (by intro e; rw [e] at h; cases h), all_blk, tgtB]
  generalize blkB m.target = a
  generalize tokenB m.method = b
  generalize m.target.isEmpty = c
  generalize visB m.target = d
  generalize decide (m.status = 0) = e
  generalize m.reason.isEmpty = f
  revert a b c d e f; decide
theorem tok_below (l : List UInt8) (w : World) (h : l.length ≤ 140737488355328) :
    Calls Tryd.prog 76 #[.string ⟨l.toArray⟩] w fun e w' => e = .returned (.bool (tokenB l)) ∧ Below w.heap.size w w' := (token_list l w h).mono fun _ _ ⟨h1, h2⟩ => ⟨h1, by rw [h2]; exact Below.refl _ _⟩
/-- A header's two cells. -/
def BoxH (w : World) (b : Nat) (x : Hdr) : Prop := w.cell? ⟨b, 0, none⟩ = some (.string ⟨x.name.toArray⟩) ∧ w.cell? ⟨b, 1, none⟩ = some (.string ⟨x.value.toArray⟩)
theorem BoxH.below {w w' : World} {b B : Nat} {x : Hdr} (k : BoxH w b x) (hb : Below B w w') (hlt : b < B) : BoxH w' b x := ⟨cell_below hb hlt k.1, cell_below hb hlt k.2⟩
def objH (x : Hdr) : Obj := .cells #[.string ⟨x.name.toArray⟩, .string ⟨x.value.toArray⟩] 47
theorem boxH_new (w : World) (x : Hdr) : BoxH (w.alloc (objH x)) w.heap.size x := by
  unfold BoxH World.cell? objH
  simp only [heap_alloc_new]
  exact ⟨rfl, rfl⟩
def hdrV (x : Hdr) : Value := .agg #[.string ⟨x.name.toArray⟩, .string ⟨x.value.toArray⟩]

end Go.Proofs.YtpcgomfiihhpcaaDoor

/-
  Contracts: package frame's startMayBe, Check.
-/
namespace Go.Proofs.YtpcgomfiihhpcaaDoor
open Go.RowKit Go.Sort Sc
set_option linter.unusedVariables false
set_option maxRecDepth 20000

theorem checkM_1 {m : Ms} (h : firstB m = false) : checkM m = 60 := by rw [checkM, if_pos h]
theorem checkM_2 {m : Ms} (h : firstB m = true) (h2 : 64 < m.headers.length) : checkM m = 4 := by rw [checkM, if_neg (by simp [h]), if_pos h2]
theorem checkM_3 {m : Ms} (h : firstB m = true) (h2 : ¬ 64 < m.headers.length) (h3 : m.headers.all hdrB = false) : checkM m = 61 := by rw [checkM, if_neg (by simp [h]), if_neg h2, if_pos h3]
theorem checkM_4 {m : Ms} (h : firstB m = true) (h2 : ¬ 64 < m.headers.length) (h3 : m.headers.all hdrB = true) : checkM m = 0 := by rw [checkM, if_neg (by simp [h]), if_neg h2, if_neg (by simp [h3])]
theorem hdrs_bad {hs : List Hdr} {k : Nat} (hk : k < hs.length) (h : hdrB hs[k] = false) : hs.all hdrB = false := by
  rw [List.all_eq_false]; exact ⟨hs[k], List.getElem_mem hk, by rw [h]; simp⟩
theorem hdrs_more {hs : List Hdr} {k : Nat} (hk : k < hs.length) (h : (hs.take k).all hdrB = true) (h2 : hdrB hs[k] = true) : (hs.take (k + 1)).all hdrB = true := by
  rw [List.take_succ_eq_append_getElem hk, List.all_append, h]; simp [h2]
theorem HdrsAt.get {w : World} {v : Value} {hs : List Hdr} (h : HdrsAt w v hs) : ∃ (ao : Option Addr) (cap : Nat), v = .slice ao hs.length cap ∧ ∀ k (hk : k < hs.length), ∃ a, ao = some a ∧ a.block < w.heap.size ∧ HdrAt w a k hs[k] := by
  rcases h with ⟨rfl, rfl⟩ | ⟨a, cap, rfl, _, hc⟩
  · exact ⟨none, 0, rfl, fun k hk => by simp at hk⟩
  · exact ⟨some a, cap, rfl, fun k hk => ⟨a, rfl, (hc k hk).1, (hc k hk).2⟩⟩

end Go.Proofs.YtpcgomfiihhpcaaDoor

/-
  Contracts: package frame's startPieces, lengthOf; rows of texts that a call appends to.
-/
namespace Go.Proofs.YtpcgomfiihhpcaaDoor
open Go.RowKit Go.Sort Sc
set_option linter.unusedVariables false
set_option maxRecDepth 20000

def startP (m : Ms) : List (List UInt8) := if m.method = [] then [versionK, [32], digL m.status.toNat, [32], m.reason, crlf] else [m.method, [32], m.target, [32], versionK, crlf]
def hdrP (x : Hdr) : List (List UInt8) := [x.name, [58, 32], x.value, crlf]
def lastP (b : List UInt8) : List (List UInt8) := [lengthK, [58, 32], digL b.length, crlf, crlf, b]
def piecesM (m : Ms) : List (List UInt8) := startP m ++ m.headers.flatMap hdrP ++ lastP m.body
theorem startP_len (m : Ms) : (startP m).length = 6 := by unfold startP; split <;> rfl
theorem startP_flat (m : Ms) : (startP m).flatten = lineT m ++ crlf := by
  unfold startP lineT
  split <;> simp
theorem hdrsP_flat : ∀ hs : List Hdr, (hs.flatMap hdrP).flatten = (hs.map hdrLine).flatMap (fun l => l ++ crlf)
  | [] => rfl
  | x :: hs => by
    rw [List.flatMap_cons, List.flatten_append, hdrsP_flat hs]
    simp [hdrP, hdrLine]
theorem hdrsP_len : ∀ hs : List Hdr, (hs.flatMap hdrP).length = 4 * hs.length
  | [] => rfl
  | x :: hs => by
    rw [List.flatMap_cons, List.length_append, hdrsP_len hs]
    simp [hdrP]; omega
theorem hdrsP_step {hs : List Hdr} {k : Nat} (hk : k < hs.length) : (hs.take (k + 1)).flatMap hdrP = (hs.take k).flatMap hdrP ++ hdrP hs[k] := by
  rw [List.take_succ_eq_append_getElem hk, List.flatMap_append]; simp
theorem pieces_flat (m : Ms) : (piecesM m).flatten = textM m := by
  unfold piecesM textM linesT
  rw [List.flatten_append, List.flatten_append, startP_flat, hdrsP_flat, List.flatMap_cons, List.flatMap_append]
  simp [lastP, lenLine]

/-- append of some texts. -/
theorem wp_appT {P : Program} (w : World) {ops : Array Oper} {rest : List Oper} {o : Oper} {a : Act} {Q : Exit → Act → World → Prop} (hgd : o.guard = none)
    (s x : Operand) (t : TypeId) (ho : o.op = Op.call { callee := Callee.builtin Builtin.append, args := #[s, x], argTypes := #[t, t] }) (B : Nat) (e : TypeId) (i : TypeInfo)
    (z : Value) (ht : P.underlying t = some (TypeDesc.slice e)) (hi : P.info? e = some i) (hz : i.zero = some z) (hsize : i.size = 1) (hby : i.bytes = 16) (hzs : z.cells.size = 1)
    (v : Value) (xs : List (List UInt8)) (hs : a.eval s = v) (hown : Own w B e v (strs xs)) (ad : Addr) (c : Nat) (news : List (List UInt8)) (m : Nat) (hm : news.length = m) (hx : a.eval x = Value.slice (some ad) m c)
    (hnews : ∀ (j : Nat) (u : Value), (strs news)[j]? = some u → w.cell? (ad.add j) = some u)
    (hlen : xs.length + m ≤ 8796093022208) (w0 : World) (hb : Below B w0 w) (hB : B ≤ w.heap.size)
    (h : ∀ (v' : Value) (w' : World), Own w' B e v' (strs (xs ++ news)) → Below B w0 w' → B ≤ w'.heap.size → wpList P ops Q rest (a.put o.dst v') w') : wpList P ops Q (o :: rest) a w := by
  refine wp_app w hgd s x t ho B e i z 16 ht hi hz hsize hby hzs v (strs xs) hs hown ad m c (strs news) hx (by rw [strs_length]; exact hm) hnews (by intro u hu; simp [strs] at hu; obtain ⟨p, _, rfl⟩ := hu; rfl) (by rw [strs_length]; unfold maxLen; omega) (by rw [strs_length]; omega) w0 hb hB ?_
  intro v' w' h1 h2 h3
  refine h v' w' ?_ h2 h3
  have e : strs (xs ++ news) = strs xs ++ strs news := by simp [strs]
  rw [e]; exact h1
theorem step_appT {P : Program} {ops : Array Oper} {o : Oper} {a : Act} {w : World} {K : Act → World → Prop} {Q : Exit → Act → World → Prop} {E : Prop} (hgd : o.guard = none)
    (s x : Operand) (t : TypeId) (ho : o.op = Op.call { callee := Callee.builtin Builtin.append, args := #[s, x], argTypes := #[t, t] }) (B : Nat) (e : TypeId) (i : TypeInfo)
    (z : Value) (ht : P.underlying t = some (TypeDesc.slice e)) (hi : P.info? e = some i) (hz : i.zero = some z) (hsize : i.size = 1) (hby : i.bytes = 16) (hzs : z.cells.size = 1)
    (v : Value) (xs : List (List UInt8)) (hs : a.eval s = v) (hown : Own w B e v (strs xs)) (ad : Addr) (c : Nat) (news : List (List UInt8)) (m : Nat) (hm : news.length = m) (hx : a.eval x = Value.slice (some ad) m c)
    (hnews : ∀ (j : Nat) (u : Value), (strs news)[j]? = some u → w.cell? (ad.add j) = some u)
    (hlen : xs.length + m ≤ 8796093022208) (w0 : World) (hb : Below B w0 w) (hB : B ≤ w.heap.size)
    (h : ∀ (v' : Value) (w' : World), Own w' B e v' (strs (xs ++ news)) → Below B w0 w' → B ≤ w'.heap.size → K (a.put o.dst v') w') :
    if Region.wanted o (yielded ops a.tmps) = true then Oper.wp P o a w K Q else E := by
  refine step_app hgd s x t ho B e i z 16 ht hi hz hsize hby hzs v (strs xs) hs hown ad m c (strs news) hx (by rw [strs_length]; exact hm) hnews (by intro u hu; simp [strs] at hu; obtain ⟨p, _, rfl⟩ := hu; rfl) (by rw [strs_length]; unfold maxLen; omega) (by rw [strs_length]; omega) w0 hb hB ?_
  intro v' w' h1 h2 h3
  refine h v' w' ?_ h2 h3
  have e : strs (xs ++ news) = strs xs ++ strs news := by simp [strs]
  rw [e]; exact h1
theorem new_txts (w : World) (e : TypeId) (ps : List (List UInt8)) : ∀ (j : Nat) (u : Value), (strs ps)[j]? = some u → (w.alloc (.cells (strs ps).toArray e)).cell? ((⟨w.heap.size, 0, none⟩ : Addr).add j) = some u := by
  intro j u hj
  rw [add_at, Nat.zero_add]
  unfold World.cell?
  rw [heap_alloc_new]
  simpa using hj
theorem own_new (w : World) (ps : List (List UInt8)) (B : Nat) (hB : B ≤ w.heap.size) (hl : ps.length ≤ 1000) : Own (w.alloc (.cells (strs ps).toArray 9)) B 9 (.slice (some ⟨w.heap.size, 0, none⟩) ps.length ps.length) (strs ps) := by
  have hr : RowIs (w.alloc (.cells (strs ps).toArray 9)) w.heap.size 9 (strs ps) := by unfold RowIs; rw [heap_alloc_new]
  exact hr.own B ps.length hB (strs_length ps) (by unfold maxLen; omega)

theorem sum_step {ps : List (List UInt8)} {k : Nat} (hk : k < ps.length) : (ps.take (k + 1)).flatten.length = (ps.take k).flatten.length + ps[k].length := by
  rw [List.take_succ_eq_append_getElem hk, List.flatten_append, List.length_append]; simp
theorem sum_le {ps : List (List UInt8)} (k : Nat) : (ps.take k).flatten.length ≤ ps.flatten.length := by
  have := congrArg (fun l => (List.flatten l).length) (List.take_append_drop k ps)
  simp only [List.flatten_append, List.length_append] at this; omega
end Go.Proofs.YtpcgomfiihhpcaaDoor
