/-
  Contracts: package frame's startPieces, lengthOf; rows of texts that a call appends to.
-/
import Derived.Test.YtagopboofmjnfaaDoorFFirst
namespace Go.Proofs.YtagopboofmjnfaaDoor
open Go.RowKit Go.Sort Sc
set_option linter.unusedVariables false
set_option maxRecDepth 20000

def startP (m : Ms) : List (List UInt8) := if m.method = [] then [versionK, [32], digL m.status.toNat, [32], m.reason, crlf] else [m.method, [32], m.target, [32], versionK, crlf]
def hdrP (x : Hdr) : List (List UInt8) := [x.name, [58, 32], x.value, crlf]
def lastP (b : List UInt8) : List (List UInt8) := [lengthK, [58, 32], digL b.length, crlf, crlf, b]
def piecesM (m : Ms) : List (List UInt8) := startP m ++ m.headers.flatMap hdrP ++ lastP m.body
theorem startP_len (m : Ms) : (startP m).length = 6 := by unfold startP; split <;> rfl
theorem startP_flat (m : Ms) : (startP m).flatten = lineT m ++ crlf := by
  unfold startP lineT
  split <;> simp
theorem hdrsP_flat : ∀ hs : List Hdr, (hs.flatMap hdrP).flatten = (hs.map hdrLine).flatMap (fun l => l ++ crlf)
  | [] => rfl
  | x :: hs => by
    rw [List.flatMap_cons, List.flatten_append, hdrsP_flat hs]
    simp [hdrP, hdrLine]
theorem hdrsP_len : ∀ hs : List Hdr, (hs.flatMap hdrP).length = 4 * hs.length
  | [] => rfl
  | x :: hs => by
    rw [List.flatMap_cons, List.length_append, hdrsP_len hs]
    simp [hdrP]; omega
theorem hdrsP_step {hs : List Hdr} {k : Nat} (hk : k < hs.length) : (hs.take (k + 1)).flatMap hdrP = (hs.take k).flatMap hdrP ++ hdrP hs[k] := by
  rw [List.take_succ_eq_append_getElem hk, List.flatMap_append]; simp
theorem pieces_flat (m : Ms) : (piecesM m).flatten = textM m := by
  unfold piecesM textM linesT
  rw [List.flatten_append, List.flatten_append, startP_flat, hdrsP_flat, List.flatMap_cons, List.flatMap_append]
  simp [lastP, lenLine]

/-- append of some texts. -/
theorem wp_appT {P : Program} (w : World) {ops : Array Oper} {rest : List Oper} {o : Oper} {a : Act} {Q : Exit → Act → World → Prop} (hgd : o.guard = none)
    (s x : Operand) (t : TypeId) (ho : o.op = Op.call { callee := Callee.builtin Builtin.append, args := #[s, x], argTypes := #[t, t] }) (B : Nat) (e : TypeId) (i : TypeInfo)
    (z : Value) (ht : P.underlying t = some (TypeDesc.slice e)) (hi : P.info? e = some i) (hz : i.zero = some z) (hsize : i.size = 1) (hby : i.bytes = 16) (hzs : z.cells.size = 1)
    (v : Value) (xs : List (List UInt8)) (hs : a.eval s = v) (hown : Own w B e v (strs xs)) (ad : Addr) (c : Nat) (news : List (List UInt8)) (m : Nat) (hm : news.length = m) (hx : a.eval x = Value.slice (some ad) m c)
    (hnews : ∀ (j : Nat) (u : Value), (strs news)[j]? = some u → w.cell? (ad.add j) = some u)
    (hlen : xs.length + m ≤ 8796093022208) (w0 : World) (hb : Below B w0 w) (hB : B ≤ w.heap.size)
    (h : ∀ (v' : Value) (w' : World), Own w' B e v' (strs (xs ++ news)) → Below B w0 w' → B ≤ w'.heap.size → wpList P ops Q rest (a.put o.dst v') w') : wpList P ops Q (o :: rest) a w := by
  refine wp_app w hgd s x t ho B e i z 16 ht hi hz hsize hby hzs v (strs xs) hs hown ad m c (strs news) hx (by rw [strs_length]; exact hm) hnews (by intro u hu; simp [strs] at hu; obtain ⟨p, _, rfl⟩ := hu; rfl) (by rw [strs_length]; unfold maxLen; omega) (by rw [strs_length]; omega) w0 hb hB ?_
  intro v' w' h1 h2 h3
  refine h v' w' ?_ h2 h3
  have e : strs (xs ++ news) = strs xs ++ strs news := by simp [strs]
  rw [e]; exact h1
theorem step_appT {P : Program} {ops : Array Oper} {o : Oper} {a : Act} {w : World} {K : Act → World → Prop} {Q : Exit → Act → World → Prop} {E : Prop} (hgd : o.guard = none)
    (s x : Operand) (t : TypeId) (ho : o.op = Op.call { callee := Callee.builtin Builtin.append, args := #[s, x], argTypes := #[t, t] }) (B : Nat) (e : TypeId) (i : TypeInfo)
    (z : Value) (ht : P.underlying t = some (TypeDesc.slice e)) (hi : P.info? e = some i) (hz : i.zero = some z) (hsize : i.size = 1) (hby : i.bytes = 16) (hzs : z.cells.size = 1)
    (v : Value) (xs : List (List UInt8)) (hs : a.eval s = v) (hown : Own w B e v (strs xs)) (ad : Addr) (c : Nat) (news : List (List UInt8)) (m : Nat) (hm : news.length = m) (hx : a.eval x = Value.slice (some ad) m c)
    (hnews : ∀ (j : Nat) (u : Value), (strs news)[j]? = some u → w.cell? (ad.add j) = some u)
    (hlen : xs.length + m ≤ 8796093022208) (w0 : World) (hb : Below B w0 w) (hB : B ≤ w.heap.size)
    (h : ∀ (v' : Value) (w' : World), Own w' B e v' (strs (xs ++ news)) → Below B w0 w' → B ≤ w'.heap.size → K (a.put o.dst v') w') :
    if Region.wanted o (yielded ops a.tmps) = true then Oper.wp P o a w K Q else E := by
  refine step_app hgd s x t ho B e i z 16 ht hi hz hsize hby hzs v (strs xs) hs hown ad m c (strs news) hx (by rw [strs_length]; exact hm) hnews (by intro u hu; simp [strs] at hu; obtain ⟨p, _, rfl⟩ := hu; rfl) (by rw [strs_length]; unfold maxLen; omega) (by rw [strs_length]; omega) w0 hb hB ?_
  intro v' w' h1 h2 h3
  refine h v' w' ?_ h2 h3
  have e : strs (xs ++ news) = strs xs ++ strs news := by simp [strs]
  rw [e]; exact h1
theorem new_txts (w : World) (e : TypeId) (ps : List (List UInt8)) : ∀ (j : Nat) (u : Value), (strs ps)[j]? = some u → (w.alloc (.cells (strs ps).toArray e)).cell? ((⟨w.heap.size, 0, none⟩ : Addr).add j) = some u := by
  intro j u hj
  rw [add_at, Nat.zero_add]
  unfold World.cell?
  rw [heap_alloc_new]
  simpa using hj
theorem own_new (w : World) (ps : List (List UInt8)) (B : Nat) (hB : B ≤ w.heap.size) (hl : ps.length ≤ 1000) : Own (w.alloc (.cells (strs ps).toArray 9)) B 9 (.slice (some ⟨w.heap.size, 0, none⟩) ps.length ps.length) (strs ps) := by
  have hr : RowIs (w.alloc (.cells (strs ps).toArray 9)) w.heap.size 9 (strs ps) := by unfold RowIs; rw [heap_alloc_new]
  exact hr.own B ps.length hB (strs_length ps) (by unfold maxLen; omega)

set_option maxHeartbeats 2000000 in
set_option maxRecDepth 100000 in
theorem spieces_any (m : Ms) (ao : Option Addr) (hn hc : Nat) (w : World) (h0 : 0 ≤ m.status) (h1 : m.status ≤ 699) :
    Calls Tryd.prog 25 #[msgV m (.slice ao hn hc)] w fun e w' => ∃ v, e = .returned v ∧ Own w' w.heap.size 9 v (strs (startP m)) ∧ Below w.heap.size w w' := by
  have HBX := hid (boxM_new w m (.slice ao hn hc))
  have hb0 : Below w.heap.size w (w.alloc (objM m (.slice ao hn hc))) := (Below.refl _ w).alloc (Nat.le_refl _) _
  have hlt := alloc_lt w (objM m (.slice ao hn hc))
  have hsp : startP m = if m.method = [] then [versionK, [32], digL m.status.toNat, [32], m.reason, crlf] else [m.method, [32], m.target, [32], versionK, crlf] := rfl
  obtain ⟨me, ta, st, re, hs, bo⟩ := m
  unfold msgV
  unfold objM at HBX hb0 hlt
  simp only at HBX hb0 hlt h0 h1 hsp ⊢
  generalize startP _ = sp at hsp ⊢
  obtain ⟨x0, x1, x2, x3, x4, x5⟩ := HBX.out
  simp only at x0 x1 x2 x3 x4 x5
  cases he : me.isEmpty with
  | true =>
    rw [if_pos (by simpa using he)] at hsp
    obtain ⟨n, rfl⟩ := Int.eq_ofNat_of_zero_le h0
    have KD := hid (fun w' => digits_any n w' (by omega))
    rw [Int.toNat_natCast] at hsp
    generalize digL n = dg at KD hsp
    have HO := hid (fun (wx : World) (hB : w.heap.size ≤ wx.heap.size) => own_new wx sp w.heap.size hB (by rw [hsp]; simp))
    rw [hsp] at HO ⊢
    clear hsp
    have hacc : Below w.heap.size w (w.alloc (.cells #[.string ⟨me.toArray⟩, .string ⟨ta.toArray⟩, .int .i64 n, .string ⟨re.toArray⟩, .slice ao hn hc, .string ⟨bo.toArray⟩] 24)).drew := hb0.drew
    have hlt' : w.heap.size < (w.alloc (.cells #[.string ⟨me.toArray⟩, .string ⟨ta.toArray⟩, .int .i64 n, .string ⟨re.toArray⟩, .slice ao hn hc, .string ⟨bo.toArray⟩] 24)).drew.heap.size := hlt
    have HC3 := hid (fun (w1 : World) (hw : Below (w.alloc (.cells #[.string ⟨me.toArray⟩, .string ⟨ta.toArray⟩, .int .i64 n, .string ⟨re.toArray⟩, .slice ao hn hc, .string ⟨bo.toArray⟩] 24)).drew.heap.size (w.alloc (.cells #[.string ⟨me.toArray⟩, .string ⟨ta.toArray⟩, .int .i64 n, .string ⟨re.toArray⟩, .slice ao hn hc, .string ⟨bo.toArray⟩] 24)).drew w1) => cell_below hw hlt' x3)
    go_enter Tryd.func25, Tryd.ntmps25
    go_wp2
    go_region_law (go_simp; go_at_call 26; refine (KD.out _).mono ?_; rintro e w1 ⟨rfl, hw1⟩; have hacc := hacc.trans (hw1.mono hacc.size); have hc3 := HC3.out _ hw1)
    all_goals (
      go_wp2
      go_ret
      exact ⟨_, rfl, HO.out _ hacc.size, hacc.alloc hacc.size _⟩)
  | false =>
    rw [if_neg (by intro e; rw [e] at he; cases he)] at hsp
    have HO := hid (fun (wx : World) (hB : w.heap.size ≤ wx.heap.size) => own_new wx sp w.heap.size hB (by rw [hsp]; simp))
    rw [hsp] at HO ⊢
    clear hsp
    have HO2 := hid (HO.out _ hb0.size)
    rw [show (w.alloc (.cells #[.string ⟨me.toArray⟩, .string ⟨ta.toArray⟩, .int .i64 st, .string ⟨re.toArray⟩, .slice ao hn hc, .string ⟨bo.toArray⟩] 24)).heap.size = w.heap.size + 1 by simp] at HO2
    clear HO
    go_enter Tryd.func25, Tryd.ntmps25
    go_wp2
    go_ret
    exact ⟨_, rfl, HO2.out, hb0.alloc hb0.size _⟩

theorem sum_step {ps : List (List UInt8)} {k : Nat} (hk : k < ps.length) : (ps.take (k + 1)).flatten.length = (ps.take k).flatten.length + ps[k].length := by
  rw [List.take_succ_eq_append_getElem hk, List.flatten_append, List.length_append]; simp
theorem sum_le {ps : List (List UInt8)} (k : Nat) : (ps.take k).flatten.length ≤ ps.flatten.length := by
  have := congrArg (fun l => (List.flatten l).length) (List.take_append_drop k ps)
  simp only [List.flatten_append, List.length_append] at this; omega
set_option maxHeartbeats 1000000 in
theorem lengthOf_any (ps : List (List UInt8)) (a : Addr) (cap : Nat) (w : World) (hat : TxtsAt w a ps) (hn : ps.length ≤ 1000000) (hl : ps.flatten.length ≤ 4611686018427387904) :
    Calls Tryd.prog 27 #[.slice (some a) ps.length cap] w fun e w' => e = .returned (.int .i64 ps.flatten.length) ∧ w' = w := by
  have HAT := hid hat
  clear hat
  obtain ⟨n, hnn⟩ : ∃ n, n = ps.length := ⟨_, rfl⟩
  rw [← hnn] at hn ⊢
  have HN := hid hnn
  clear hnn
  obtain ⟨L, hL⟩ : ∃ L, L = ps.flatten.length := ⟨_, rfl⟩
  rw [← hL] at hl ⊢
  have HL := hid hl
  have HLL := hid hL
  clear hl hL
  go_enter Tryd.func27, Tryd.ntmps27
  go_wp2
  go_loop [3, 8] (fun x i => ∃ (k t : Nat), k ≤ n ∧ i = .int .i64 k ∧ x = .int .i64 t ∧ Hid (t = (ps.take k).flatten.length)) (fun _ i => n - (intOf i).toNat)
  case atStart => exact ⟨0, 0, Nat.zero_le _, rfl, rfl, hid (by simp)⟩
  case round =>
    obtain ⟨k, t, hk, rfl, rfl, ht⟩ := hrel
    by_cases hlt : k < n
    · have hkl : k < ps.length := by have := HN.out; omega
      have hcell := (HAT.out k hkl).2
      have hs := hid (sum_step hkl)
      have hz : (⟨ps[k].toArray⟩ : ByteArray).size = ps[k].length := size_list _
      have hb1 : t + ps[k].length ≤ 4611686018427387904 := by
        have h1 := hs.out; have h2 := sum_le (ps := ps) (k + 1); have h3 := HL.out; have h4 := ht.out; have h5 := HLL.out; omega
      have hnx : Hid (t + ps[k].length = (ps.take (k + 1)).flatten.length) := show _ = _ by rw [hs.out, ht.out]
      clear hs ht
      generalize ps[k] = p at hcell hz hb1 hnx
      go_wp2
      go_round
      case rel => exact ⟨k + 1, t + p.length, by omega, by go_num, by go_num, hnx⟩
      case measure => simp [intOf]; omega
    · have hv : Hid (t = L) := show _ = _ by rw [ht.out, HLL.out, List.take_of_length_le (by have := HN.out; omega)]
      clear ht
      go_wp2
      go_ret
      exact ⟨ret_int (by rw [hv.out]), rfl⟩

end Go.Proofs.YtagopboofmjnfaaDoor
