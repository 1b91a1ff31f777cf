/-
  The last region of the document's Start: its operations, each from whatever was run ahead.
-/
import Derived.Test.YtbnmdljlfldgoaaRSt9
namespace Go.Proofs.Ytbnmdljlfldgoaa
open Go.RowKit
set_option linter.unusedVariables false
set_option maxRecDepth 20000
set_option linter.unusedSimpArgs false

/-- The operation at i. -/
def OpIs (ops : Array Oper) (i : Nat) (d : Option Nat) (op : Op) : Prop := ∃ o, ops[i]? = some o ∧ o.guard = none ∧ o.dst = d ∧ o.op = op
/-- The operation at i waits for the one at j. -/
def Waits (ops : Array Oper) (i j : Nat) : Prop := ∃ o, ops[i]? = some o ∧ ∃ e ∈ o.after, Region.binds .any e = true ∧ e.on = j
section
variable {P : Program} {ops : Array Oper} {Q : Exit → Act → World → Prop} {L : Array Bool} {a : Act} {w : World} {i j d : Nat} {K : Act → World → Prop}
theorem Waits.on (h : Waits ops i j) (hi : i ∈ Region.ready .any ops L) : L.getD j false = true := by
  obtain ⟨o, ho, e, he, hb, rfl⟩ := h
  obtain ⟨_, o', ho', hall⟩ := mem_ready.1 hi
  rw [ho] at ho'
  injection ho' with e'
  subst e'
  exact hall e he hb
theorem OpIs.val {op : Op} (h : OpIs ops i (some d) op) {v : Value} {w' : World} (hr : ∀ o : Oper, o.op = op → (execOp a.eval o).run P w = .ok (.value v) w') (hK : K (a.put (some d) v) w') : wpOp P ops Q i K a w := by
  obtain ⟨o, ho, hg, hd, hop⟩ := h
  refine wpOp_val ho hg (hr o hop) ?_
  rw [hd]; exact hK
theorem OpIs.skip {op : Op} (h : OpIs ops i none op) {w' : World} (hr : ∀ o : Oper, o.op = op → (execOp a.eval o).run P w = .ok .skip w') (hK : K a w') : wpOp P ops Q i K a w := by
  obtain ⟨o, ho, hg, hd, hop⟩ := h
  unfold wpOp
  rw [ho]
  simp only
  have hw : Region.wanted o (yielded ops a.tmps) = true := by simp [Region.wanted, hg]
  rw [if_pos hw]
  refine Or.inl ?_
  unfold Oper.wp
  rw [hr o hop, Oper.upon_skip, hd]
  exact hK
end
structure Ops9 (ops : Array Oper) : Prop where
  sz : ops.size = 18
  p0 : OpIs ops 0 (some 49) (.fieldAddr 31 (.tmp 5) 0)
  p1 : OpIs ops 1 (some 50) (.load 3 (.tmp 49))
  p2 : OpIs ops 2 (some 51) (.fieldAddr 31 (.tmp 5) 1)
  p3 : OpIs ops 3 (some 52) (.load 3 (.tmp 51))
  p4 : OpIs ops 4 (some 53) (.binOp .add 3 (.tmp 52) (.const (.int .i64 1)) 3)
  p5 : OpIs ops 5 (some 54) (.buildSlice 29 0 #[])
  p6 : OpIs ops 6 (some 55) (.fieldAddr 31 (.tmp 5) 2)
  p7 : OpIs ops 7 (some 56) (.load 29 (.tmp 55))
  p8 : OpIs ops 8 (some 57) (.call { callee := .builtin .append, args := #[.tmp 54, .tmp 56], argTypes := #[29, 29] })
  p9 : OpIs ops 9 (some 58) (.load 71 (.tmp 15))
  p10 : OpIs ops 10 (some 59) (.buildSlice 29 1 #[(0, .tmp 58)])
  p11 : OpIs ops 11 (some 60) (.call { callee := .builtin .append, args := #[.tmp 57, .tmp 59], argTypes := #[29, 29] })
  p12 : OpIs ops 12 (some 61) (.build 31 #[(0, .tmp 50), (1, .tmp 53), (2, .tmp 60)])
  p13 : OpIs ops 13 (some 62) (.fieldAddr 71 (.tmp 15) 0)
  p14 : OpIs ops 14 (some 63) (.load 3 (.tmp 62))
  p15 : OpIs ops 15 none (.store 31 (.tmp 10) (.tmp 61))
  p16 : OpIs ops 16 (some 11) (.assign (.tmp 63))
  p17 : OpIs ops 17 (some 12) (.assign (.const (.int .i64 0)))
  w1 : Waits ops 1 0
  w3 : Waits ops 3 2
  w4 : Waits ops 4 3
  w7 : Waits ops 7 6
  w8 : Waits ops 8 5
  v8 : Waits ops 8 7
  w10 : Waits ops 10 9
  w11 : Waits ops 11 8
  v11 : Waits ops 11 10
  w12 : Waits ops 12 1
  v12 : Waits ops 12 4
  u12 : Waits ops 12 11
  w14 : Waits ops 14 13
  w15 : Waits ops 15 12
  v15 : Waits ops 15 11
  u15 : Waits ops 15 8
  w16 : Waits ops 16 14
set_option maxHeartbeats 1000000 in
set_option maxRecDepth 100000 in
theorem steps9 {ops : Array Oper} (S : Ops9 ops) {k : K9} (hk : k.Ok) (hlen : k.l.length ≤ 1000000) (hl0 : 0 ≤ k.last) (hl9 : k.last ≤ 1000000000) (Q : Exit → Act → World → Prop) (L : Array Bool) (a : Act) (w : World) (i : Nat) (hs : L.size = ops.size) (hi : i ∈ Region.ready .any ops L) (hI : Inv9 k L a w) :
    wpOp Try.prog ops Q i (Inv9 k (L.setIfInBounds i true)) a w := by
  have hL : L.size = 18 := by rw [hs, S.sz]
  have hn0 : L.getD i false = false := by
    have := (mem_ready.1 hi).1
    rw [Array.getD_eq_getD_getElem?] at this ⊢
    cases e : L[i]? with
    | none => rw [e] at this; simp at this
    | some b => rw [e] at this; simpa using this
  have hi18 : i < 18 := by
    obtain ⟨_, o, ho, _⟩ := mem_ready.1 hi
    rw [← S.sz]; exact (Array.getElem?_eq_some_iff.1 ho).1
  have TB : ∀ j d v, (j, d, v) ∈ T9 k → L.getD j false = true → a.eval (.tmp d) = v := fun j d v hm hl => hI.tab (j, d, v) hm hl
  obtain ⟨i0, hif, hz0, hz1, hz2⟩ := info_parts infoCl
  have d := hI.dyn
  have evc : ∀ v, a.eval (.const v) = v := fun _ => rfl
  have t5 := hI.t5
  have t15 := hI.t15
  obtain ⟨x0, x1, x2, c0, c1, c2, c3, c4, c5, c6, c7⟩ := d.rd
  rcases (show i = 0 ∨ i = 1 ∨ i = 2 ∨ i = 3 ∨ i = 4 ∨ i = 5 ∨ i = 6 ∨ i = 7 ∨ i = 8 ∨ i = 9 ∨ i = 10 ∨ i = 11 ∨ i = 12 ∨ i = 13 ∨ i = 14 ∨ i = 15 ∨ i = 16 ∨ i = 17 by omega) with rfl | rfl | rfl | rfl | rfl | rfl | rfl | rfl | rfl | rfl | rfl | rfl | rfl | rfl | rfl | rfl | rfl | rfl
  · refine S.p0.val (v := .pointer (some ⟨k.bt, 0, none⟩)) (w' := w) (fun o ho => ?_) (hI.quiet 0 49 _ (by decide) (by decide) (by decide) (by intro e he; simp [T9] at he; rcases he with rfl | rfl | rfl | rfl | rfl | rfl | rfl | rfl | rfl | rfl | rfl | rfl <;> simp))
    simp only [execOp, ho, t5]
    go_simp
  · have q := TB 0 49 _ (by simp [T9]; rfl) (S.w1.on hi)
    refine S.p1.val (v := .int .i64 k.most) (w' := w) (fun o ho => ?_) (hI.quiet 1 50 _ (by decide) (by decide) (by decide) (by intro e he; simp [T9] at he; rcases he with rfl | rfl | rfl | rfl | rfl | rfl | rfl | rfl | rfl | rfl | rfl | rfl <;> simp))
    simp only [execOp, ho, q]
    go_simp
  · refine S.p2.val (v := .pointer (some ⟨k.bt, 1, none⟩)) (w' := w) (fun o ho => ?_) (hI.quiet 2 51 _ (by decide) (by decide) (by decide) (by intro e he; simp [T9] at he; rcases he with rfl | rfl | rfl | rfl | rfl | rfl | rfl | rfl | rfl | rfl | rfl | rfl <;> simp))
    simp only [execOp, ho, t5]
    go_simp
  · have q := TB 2 51 _ (by simp [T9]; rfl) (S.w3.on hi)
    refine S.p3.val (v := .int .i64 k.last) (w' := w) (fun o ho => ?_) (hI.quiet 3 52 _ (by decide) (by decide) (by decide) (by intro e he; simp [T9] at he; rcases he with rfl | rfl | rfl | rfl | rfl | rfl | rfl | rfl | rfl | rfl | rfl | rfl <;> simp))
    simp only [execOp, ho, q]
    go_simp
  · have q := TB 3 52 _ (by simp [T9]; rfl) (S.w4.on hi)
    have hov : True := trivial
    refine S.p4.val (v := .int .i64 (k.last + 1)) (w' := w) (fun o ho => ?_) (hI.quiet 4 53 _ (by decide) (by decide) (by decide) (by intro e he; simp [T9] at he; rcases he with rfl | rfl | rfl | rfl | rfl | rfl | rfl | rfl | rfl | rfl | rfl | rfl <;> simp))
    simp only [execOp, ho, q, evc]
    go_simp
    simp [IntKind.wrap, IntKind.bits, IntKind.signed]
    omega
  · refine S.p5.val (v := .slice (some ⟨w.heap.size, 0, none⟩) 0 0) (w' := w.alloc (.cells #[] 71)) (fun o ho => ?_) (hI.s5 hk hL)
    simp only [execOp, ho]
    go_simp
  · refine S.p6.val (v := .pointer (some ⟨k.bt, 2, none⟩)) (w' := w) (fun o ho => ?_) (hI.quiet 6 55 _ (by decide) (by decide) (by decide) (by intro e he; simp [T9] at he; rcases he with rfl | rfl | rfl | rfl | rfl | rfl | rfl | rfl | rfl | rfl | rfl | rfl <;> simp))
    simp only [execOp, ho, t5]
    go_simp
  · have q := TB 6 55 _ (by simp [T9]; rfl) (S.w7.on hi)
    refine S.p7.val (v := k.v) (w' := w) (fun o ho => ?_) (hI.quiet 7 56 _ (by decide) (by decide) (by decide) (by intro e he; simp [T9] at he; rcases he with rfl | rfl | rfl | rfl | rfl | rfl | rfl | rfl | rfl | rfl | rfl | rfl <;> simp))
    simp only [execOp, ho, q]
    go_simp
  · have h5 := S.w8.on hi
    have q7 := TB 7 56 _ (by simp [T9]; rfl) (S.v8.on hi)
    obtain ⟨o, ho, hg, hd, hop⟩ := S.p8
    refine wpOp_of ho (E := True) (step_appC hg (.tmp 54) (.tmp 56) 29 hop k.W5 i0 _ Try.underlying29 hif hz0 hz1 hz2 rfl _ [] rfl (d.o5 h5 hn0) _ k.l q7 d.vown.news (by simp; omega) d.lo ?_) hg
    intro v' w' ho' hg'
    rw [hd]
    exact hI.s8 hk hL h5 hn0 (by simpa using ho') hg'
  · refine S.p9.val (v := .agg (clCells k.C).toArray) (w' := w) (fun o ho => ?_) (hI.quiet 9 58 _ (by decide) (by decide) (by decide) (by intro e he; simp [T9] at he; rcases he with rfl | rfl | rfl | rfl | rfl | rfl | rfl | rfl | rfl | rfl | rfl | rfl <;> simp))
    simp only [execOp, ho, t15]
    go_simp
    rfl
  · have q := TB 9 58 _ (by simp [T9]; rfl) (S.w10.on hi)
    refine S.p10.val (v := .slice (some ⟨w.heap.size, 0, none⟩) 1 1) (w' := w.alloc (.cells (clCells k.C).toArray 71)) (fun o ho => ?_) (hI.s10 hk hL)
    unfold clCells at q ⊢
    simp only [execOp, ho]
    have em : Array.map (fun x : Nat × Operand => (x.fst, a.eval x.snd)) #[(0, Operand.tmp 58)] = #[(0, .agg #[.int .i64 k.C.id, .string ⟨k.C.br.toArray⟩, .string ⟨k.C.hop.toArray⟩, .string ⟨k.C.me.toArray⟩, .int .i64 k.C.over, .bool k.C.told, .string ⟨k.C.to.toArray⟩, .string ⟨k.C.tx.toArray⟩])] := by simp only [List.map_toArray, List.map_cons, List.map_nil, q]
    rw [em]
    clear TB hI d S hz0 hk hi evc
    go_simp
  · have h8 := S.w11.on hi
    have h10 := S.v11.on hi
    obtain ⟨o, ho, hg, hd, hop⟩ := S.p11
    refine wpOp_of ho (E := True) (step_appC hg (.tmp 57) (.tmp 59) 29 hop k.W5 i0 _ Try.underlying29 hif hz0 hz1 hz2 rfl _ k.l rfl (d.o8 h8 hn0) _ [k.C] rfl (d.o10 h10 hn0).news (by simp; omega) d.lo ?_) hg
    intro v' w' ho' hg'
    rw [hd]
    exact hI.s11 hk hL h8 hn0 ho' hg'
  · have h11 := S.u12.on hi
    have q1 := TB 1 50 _ (by simp [T9]; rfl) (S.w12.on hi)
    have q4 := TB 4 53 _ (by simp [T9]; rfl) (S.v12.on hi)
    obtain ⟨oa, oc, hx⟩ := (d.o11 h11).form
    have hI' := hI.s12 hL h11
    rw [hx] at hI'
    refine S.p12.val (v := _) (w' := w) (fun o ho => ?_) hI'
    simp only [execOp, ho]
    have em : Array.map (fun x : Nat × Operand => (x.fst, a.eval x.snd)) #[(0, Operand.tmp 50), (1, Operand.tmp 53), (2, Operand.tmp 60)] = #[(0, .int .i64 k.most), (1, .int .i64 (k.last + 1)), (2, .slice oa (k.l ++ [k.C]).length oc)] := by simp only [List.map_toArray, List.map_cons, List.map_nil, q1, q4, hx]
    rw [em]
    clear TB hI d S hz0 hk hi evc hI'
    go_simp
  · refine S.p13.val (v := .pointer (some ⟨k.bc, 0, none⟩)) (w' := w) (fun o ho => ?_) (hI.quiet 13 62 _ (by decide) (by decide) (by decide) (by intro e he; simp [T9] at he; rcases he with rfl | rfl | rfl | rfl | rfl | rfl | rfl | rfl | rfl | rfl | rfl | rfl <;> simp))
    simp only [execOp, ho, t15]
    go_simp
  · have q := TB 13 62 _ (by simp [T9]; rfl) (S.w14.on hi)
    refine S.p14.val (v := .int .i64 k.C.id) (w' := w) (fun o ho => ?_) (hI.quiet 14 63 _ (by decide) (by decide) (by decide) (by intro e he; simp [T9] at he; rcases he with rfl | rfl | rfl | rfl | rfl | rfl | rfl | rfl | rfl | rfl | rfl | rfl <;> simp))
    simp only [execOp, ho, q]
    go_simp
  · have h8 := S.u15.on hi
    have h11 := S.v15.on hi
    have e12 := d.e12 (S.w15.on hi)
    have t10 := hI.t10
    have hrow := d.row
    rw [hn0, if_neg (by decide)] at hrow
    obtain ⟨y0, y1, y2, f0, f1, f2⟩ := hrow.sv3
    obtain ⟨oa, oc, hx⟩ := (d.o11 h11).form
    have hI' := hI.s15 hk hL h8 h11 hn0
    rw [hx] at hI' e12
    refine S.p15.skip (w' := _) (fun o ho => ?_) hI'
    simp only [execOp, ho, t10, e12]
    go_simp
  · have q := TB 14 63 _ (by simp [T9]; rfl) (S.w16.on hi)
    refine S.p16.val (v := .int .i64 k.C.id) (w' := w) (fun o ho => ?_) (hI.quiet 16 11 _ (by decide) (by decide) (by decide) (by intro e he; simp [T9] at he; rcases he with rfl | rfl | rfl | rfl | rfl | rfl | rfl | rfl | rfl | rfl | rfl | rfl <;> simp))
    simp only [execOp, ho, q]
    go_simp
  · refine S.p17.val (v := .int .i64 0) (w' := w) (fun o ho => ?_) (hI.quiet 17 12 _ (by decide) (by decide) (by decide) (by intro e he; simp [T9] at he; rcases he with rfl | rfl | rfl | rfl | rfl | rfl | rfl | rfl | rfl | rfl | rfl | rfl <;> simp))
    simp only [execOp, ho, evc]
    go_simp
end Go.Proofs.Ytbnmdljlfldgoaa
