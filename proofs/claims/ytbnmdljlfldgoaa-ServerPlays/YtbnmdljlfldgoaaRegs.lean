/-
  The document's Start inside does: its region.
-/
import Derived.Test.YtbnmdljlfldgoaaRegCall
namespace Go.Proofs.Ytbnmdljlfldgoaa
open Go.RowKit
set_option linter.unusedVariables false
set_option maxRecDepth 20000
set_option linter.unusedSimpArgs false

def regsP (W : World) (B br ba : Nat) (most last : Int) (v : Value) (b1 b2 b3 : List UInt8) (now : Int) (t1 : Tb) (n1 m1 : Int) (ex : List (Nat × Value)) : RP (Option Addr × Nat) where
  W := W
  n := 108
  base := [(1, (.pointer (some ⟨br, 0, none⟩))), (5, (.pointer (some ⟨ba, 0, none⟩)))] ++ ex
  T := [(0, 28, (.pointer (some ⟨br, 0, none⟩))), (1, 29, (.pointer (some ⟨br, 0, none⟩))), (2, 30, (.agg #[.int .i64 most, .int .i64 last, v])), (3, 31, (.pointer (some ⟨ba, 1, none⟩))), (4, 32, (.string ⟨b1.toArray⟩)), (5, 33, (.pointer (some ⟨ba, 2, none⟩))), (6, 34, (.string ⟨b2.toArray⟩)), (7, 35, (.pointer (some ⟨ba, 3, none⟩))), (8, 36, (.string ⟨b3.toArray⟩)), (9, 37, (.pointer (some ⟨ba, 5, none⟩))), (10, 38, (.int .i64 now))]
  D := fun x => [(11, 39, .tuple #[(.agg #[.int .i64 t1.most, .int .i64 t1.last, .slice x.1 t1.l.length x.2]), .int .i64 n1, .int .i64 m1]), (12, 27, .tuple #[(.agg #[.int .i64 t1.most, .int .i64 t1.last, .slice x.1 t1.l.length x.2]), .int .i64 n1, .int .i64 m1]), (13, 40, (.agg #[.int .i64 t1.most, .int .i64 t1.last, .slice x.1 t1.l.length x.2])), (14, 41, .int .i64 n1), (15, 42, .int .i64 m1), (18, 9, .int .i64 n1), (19, 10, .int .i64 m1)]
  R := fun x u => OwnC u B (.slice x.1 t1.l.length x.2) t1.l
  c := 11
  al := 16
  dal := 8
  st := 17
  Ty := 31
  zero := [.int .i64 0, .int .i64 0, .slice none 0 0]
  cells := fun x => [.int .i64 t1.most, .int .i64 t1.last, .slice x.1 t1.l.length x.2]
structure regsOps (ops : Array Oper) : Prop where
  sz : ops.size = 20
  p0 : OpIs ops 0 (some 28) (.move (.tmp 1))
  p1 : OpIs ops 1 (some 29) (.nilCheck (.tmp 28))
  p2 : OpIs ops 2 (some 30) (.load 31 (.tmp 29))
  p3 : OpIs ops 3 (some 31) (.fieldAddr 33 (.tmp 5) 1)
  p4 : OpIs ops 4 (some 32) (.load 9 (.tmp 31))
  p5 : OpIs ops 5 (some 33) (.fieldAddr 33 (.tmp 5) 2)
  p6 : OpIs ops 6 (some 34) (.load 9 (.tmp 33))
  p7 : OpIs ops 7 (some 35) (.fieldAddr 33 (.tmp 5) 3)
  p8 : OpIs ops 8 (some 36) (.load 9 (.tmp 35))
  p9 : OpIs ops 9 (some 37) (.fieldAddr 33 (.tmp 5) 5)
  p10 : OpIs ops 10 (some 38) (.load 3 (.tmp 37))
  p11 : OpIs ops 11 (some 39) (.call { callee := .value (.func 22), args := #[.tmp 30, .tmp 32, .tmp 34, .tmp 36, .tmp 38], argTypes := #[28, 9, 9, 9, 3] })
  p12 : OpIs ops 12 (some 27) (.move (.tmp 39))
  p13 : OpIs ops 13 (some 40) (.extract (.tmp 27) 0)
  p14 : OpIs ops 14 (some 41) (.extract (.tmp 27) 1)
  p15 : OpIs ops 15 (some 42) (.extract (.tmp 27) 2)
  p18 : OpIs ops 18 (some 9) (.assign (.tmp 41))
  p19 : OpIs ops 19 (some 10) (.assign (.tmp 42))
  p16 : OpIs ops 16 (some 8) (.alloc 31)
  p17 : OpIs ops 17 none (.store 31 (.tmp 8) (.tmp 40))
  w1_0 : Waits ops 1 0
  w2_1 : Waits ops 2 1
  w4_3 : Waits ops 4 3
  w6_5 : Waits ops 6 5
  w8_7 : Waits ops 8 7
  w10_9 : Waits ops 10 9
  w11_2 : Waits ops 11 2
  w11_4 : Waits ops 11 4
  w11_6 : Waits ops 11 6
  w11_8 : Waits ops 11 8
  w11_10 : Waits ops 11 10
  w12_11 : Waits ops 12 11
  w13_12 : Waits ops 13 12
  w14_12 : Waits ops 14 12
  w15_12 : Waits ops 15 12
  w18_14 : Waits ops 18 14
  w19_15 : Waits ops 19 15
  w17_16 : Waits ops 17 16
  w17_13 : Waits ops 17 13
set_option maxHeartbeats 2000000 in
set_option maxRecDepth 100000 in
theorem regs_steps {ops : Array Oper} (S : regsOps ops) (W : World) (B br ba : Nat) (most last : Int) (v : Value) (b1 b2 b3 : List UInt8) (now : Int) (t1 : Tb) (n1 m1 : Int) (ex : List (Nat × Value))
    (HC : ∀ u : World, Below W.heap.size W u → u.cell? ⟨br, 0, none⟩ = some (.int .i64 most) ∧ u.cell? ⟨br, 1, none⟩ = some (.int .i64 last) ∧ u.cell? ⟨br, 2, none⟩ = some v ∧ u.cell? ⟨ba, 1, none⟩ = some (.string ⟨b1.toArray⟩) ∧ u.cell? ⟨ba, 2, none⟩ = some (.string ⟨b2.toArray⟩) ∧ u.cell? ⟨ba, 3, none⟩ = some (.string ⟨b3.toArray⟩) ∧ u.cell? ⟨ba, 5, none⟩ = some (.int .i64 now))
    (KC : ∀ u : World, Below W.heap.size W u → Calls Try.prog 22 #[(.agg #[.int .i64 most, .int .i64 last, v]), (.string ⟨b1.toArray⟩), (.string ⟨b2.toArray⟩), (.string ⟨b3.toArray⟩), (.int .i64 now)] u fun e u' => ∃ x : Option Addr × Nat, e = .returned (.tuple #[(.agg #[.int .i64 t1.most, .int .i64 t1.last, .slice x.1 t1.l.length x.2]), .int .i64 n1, .int .i64 m1]) ∧ (regsP W B br ba most last v b1 b2 b3 now t1 n1 m1 ex).R x u' ∧ Below u.heap.size u u')
    (hra : ∀ (x : Option Addr × Nat) (u : World) (o : Obj), (regsP W B br ba most last v b1 b2 b3 now t1 n1 m1 ex).R x u → (regsP W B br ba most last v b1 b2 b3 now t1 n1 m1 ex).R x (u.alloc o))
    (hrs : ∀ (x : Option Addr × Nat) (u : World) (nb : Nat), (regsP W B br ba most last v b1 b2 b3 now t1 n1 m1 ex).R x u → RowIs u nb 31 ([.int .i64 0, .int .i64 0, .slice none 0 0]) → (regsP W B br ba most last v b1 b2 b3 now t1 n1 m1 ex).R x (((u.setCell ⟨nb, 0, none⟩ (.int .i64 t1.most)).setCell ⟨nb, 1, none⟩ (.int .i64 t1.last)).setCell ⟨nb, 2, none⟩ (.slice x.1 t1.l.length x.2)))
    (hx : ∀ e ∈ ex, e.1 ∉ [28, 29, 30, 31, 32, 33, 34, 35, 36, 37, 38, 39, 27, 40, 41, 42, 9, 10, 8])
    (Q : Exit → Act → World → Prop) (L : Array Bool) (a : Act) (w : World) (i : Nat) (hs : L.size = ops.size) (hi : i ∈ Region.ready .any ops L) (hI : ∃ x nb, GI (regsP W B br ba most last v b1 b2 b3 now t1 n1 m1 ex) L a w x nb) :
    wpOp Try.prog ops Q i (fun a' w' => ∃ x nb, GI (regsP W B br ba most last v b1 b2 b3 now t1 n1 m1 ex) (L.setIfInBounds i true) a' w' x nb) a w := by
  obtain ⟨x, nb, hI⟩ := hI
  have hL : L.size = 20 := by rw [hs, S.sz]
  have hn0 : L.getD i false = false := by
    have := (mem_ready.1 hi).1
    rw [Array.getD_eq_getD_getElem?] at this ⊢
    cases e : L[i]? with
    | none => rw [e] at this; simp at this
    | some b => rw [e] at this; simpa using this
  have hi18 : i < 20 := by
    obtain ⟨_, o, ho, _⟩ := mem_ready.1 hi
    rw [← S.sz]; exact (Array.getElem?_eq_some_iff.1 ho).1
  have bs1 : a.eval (.tmp 1) = (.pointer (some ⟨br, 0, none⟩)) := hI.base (1, (.pointer (some ⟨br, 0, none⟩))) (by simp [regsP])
  have bs5 : a.eval (.tmp 5) = (.pointer (some ⟨ba, 0, none⟩)) := hI.base (5, (.pointer (some ⟨ba, 0, none⟩))) (by simp [regsP])
  have TB : ∀ jj dd vv, (jj, dd, vv) ∈ (regsP W B br ba most last v b1 b2 b3 now t1 n1 m1 ex).T → L.getD jj false = true → a.eval (.tmp dd) = vv := fun jj dd vv hm hl => hI.tab (jj, dd, vv) hm hl
  have TD : ∀ jj dd vv, (jj, dd, vv) ∈ (regsP W B br ba most last v b1 b2 b3 now t1 n1 m1 ex).D x → L.getD jj false = true → a.eval (.tmp dd) = vv := fun jj dd vv hm hl => hI.dyn (jj, dd, vv) hm hl
  have hC := HC w hI.bel
  rcases (show i = 0 ∨ i = 1 ∨ i = 2 ∨ i = 3 ∨ i = 4 ∨ i = 5 ∨ i = 6 ∨ i = 7 ∨ i = 8 ∨ i = 9 ∨ i = 10 ∨ i = 11 ∨ i = 12 ∨ i = 13 ∨ i = 14 ∨ i = 15 ∨ i = 16 ∨ i = 17 ∨ i = 18 ∨ i = 19 by omega) with rfl | rfl | rfl | rfl | rfl | rfl | rfl | rfl | rfl | rfl | rfl | rfl | rfl | rfl | rfl | rfl | rfl | rfl | rfl | rfl
  · refine S.p0.val (v := (.pointer (some ⟨br, 0, none⟩))) (w' := w) (fun o ho => ?_) ⟨x, nb, hI.put 0 28 _ (by simp [regsP]) (by simp [regsP]) (by simp [regsP]) (by intro e he; simp [regsP] at he; rcases he with rfl | rfl | he <;> first | (simp [regsP]; done) | (intro h; exact hx e he (by rw [h]; simp [regsP]))) (by intro e he; simp [regsP] at he; rcases he with rfl | rfl | rfl | rfl | rfl | rfl | rfl | rfl | rfl | rfl | rfl <;> simp [regsP]) (by intro e he; simp [regsP] at he; rcases he with rfl | rfl | rfl | rfl | rfl | rfl | rfl <;> simp [regsP]) (by rintro ⟨e, he, h⟩; simp [regsP] at he; rcases he with rfl | rfl | rfl | rfl | rfl | rfl | rfl <;> simp at h)⟩
    simp only [execOp, ho, bs1]
    obtain ⟨z0, z1, z2, z3, z4, z5, z6⟩ := hC
    clear hI TB TD KC HC hra hrs S
    go_simp
  · have q0 := TB 0 28 ((.pointer (some ⟨br, 0, none⟩))) (by simp [regsP]) (S.w1_0.on hi)
    refine S.p1.val (v := (.pointer (some ⟨br, 0, none⟩))) (w' := w) (fun o ho => ?_) ⟨x, nb, hI.put 1 29 _ (by simp [regsP]) (by simp [regsP]) (by simp [regsP]) (by intro e he; simp [regsP] at he; rcases he with rfl | rfl | he <;> first | (simp [regsP]; done) | (intro h; exact hx e he (by rw [h]; simp [regsP]))) (by intro e he; simp [regsP] at he; rcases he with rfl | rfl | rfl | rfl | rfl | rfl | rfl | rfl | rfl | rfl | rfl <;> simp [regsP]) (by intro e he; simp [regsP] at he; rcases he with rfl | rfl | rfl | rfl | rfl | rfl | rfl <;> simp [regsP]) (by rintro ⟨e, he, h⟩; simp [regsP] at he; rcases he with rfl | rfl | rfl | rfl | rfl | rfl | rfl <;> simp at h)⟩
    simp only [execOp, ho, q0]
    obtain ⟨z0, z1, z2, z3, z4, z5, z6⟩ := hC
    clear hI TB TD KC HC hra hrs S
    go_simp
  · have q1 := TB 1 29 ((.pointer (some ⟨br, 0, none⟩))) (by simp [regsP]) (S.w2_1.on hi)
    refine S.p2.val (v := (.agg #[.int .i64 most, .int .i64 last, v])) (w' := w) (fun o ho => ?_) ⟨x, nb, hI.put 2 30 _ (by simp [regsP]) (by simp [regsP]) (by simp [regsP]) (by intro e he; simp [regsP] at he; rcases he with rfl | rfl | he <;> first | (simp [regsP]; done) | (intro h; exact hx e he (by rw [h]; simp [regsP]))) (by intro e he; simp [regsP] at he; rcases he with rfl | rfl | rfl | rfl | rfl | rfl | rfl | rfl | rfl | rfl | rfl <;> simp [regsP]) (by intro e he; simp [regsP] at he; rcases he with rfl | rfl | rfl | rfl | rfl | rfl | rfl <;> simp [regsP]) (by rintro ⟨e, he, h⟩; simp [regsP] at he; rcases he with rfl | rfl | rfl | rfl | rfl | rfl | rfl <;> simp at h)⟩
    simp only [execOp, ho, q1]
    obtain ⟨z0, z1, z2, z3, z4, z5, z6⟩ := hC
    clear hI TB TD KC HC hra hrs S
    go_simp
  · refine S.p3.val (v := (.pointer (some ⟨ba, 1, none⟩))) (w' := w) (fun o ho => ?_) ⟨x, nb, hI.put 3 31 _ (by simp [regsP]) (by simp [regsP]) (by simp [regsP]) (by intro e he; simp [regsP] at he; rcases he with rfl | rfl | he <;> first | (simp [regsP]; done) | (intro h; exact hx e he (by rw [h]; simp [regsP]))) (by intro e he; simp [regsP] at he; rcases he with rfl | rfl | rfl | rfl | rfl | rfl | rfl | rfl | rfl | rfl | rfl <;> simp [regsP]) (by intro e he; simp [regsP] at he; rcases he with rfl | rfl | rfl | rfl | rfl | rfl | rfl <;> simp [regsP]) (by rintro ⟨e, he, h⟩; simp [regsP] at he; rcases he with rfl | rfl | rfl | rfl | rfl | rfl | rfl <;> simp at h)⟩
    simp only [execOp, ho, bs5]
    obtain ⟨z0, z1, z2, z3, z4, z5, z6⟩ := hC
    clear hI TB TD KC HC hra hrs S
    go_simp
  · have q3 := TB 3 31 ((.pointer (some ⟨ba, 1, none⟩))) (by simp [regsP]) (S.w4_3.on hi)
    refine S.p4.val (v := (.string ⟨b1.toArray⟩)) (w' := w) (fun o ho => ?_) ⟨x, nb, hI.put 4 32 _ (by simp [regsP]) (by simp [regsP]) (by simp [regsP]) (by intro e he; simp [regsP] at he; rcases he with rfl | rfl | he <;> first | (simp [regsP]; done) | (intro h; exact hx e he (by rw [h]; simp [regsP]))) (by intro e he; simp [regsP] at he; rcases he with rfl | rfl | rfl | rfl | rfl | rfl | rfl | rfl | rfl | rfl | rfl <;> simp [regsP]) (by intro e he; simp [regsP] at he; rcases he with rfl | rfl | rfl | rfl | rfl | rfl | rfl <;> simp [regsP]) (by rintro ⟨e, he, h⟩; simp [regsP] at he; rcases he with rfl | rfl | rfl | rfl | rfl | rfl | rfl <;> simp at h)⟩
    simp only [execOp, ho, q3]
    obtain ⟨z0, z1, z2, z3, z4, z5, z6⟩ := hC
    clear hI TB TD KC HC hra hrs S
    go_simp
  · refine S.p5.val (v := (.pointer (some ⟨ba, 2, none⟩))) (w' := w) (fun o ho => ?_) ⟨x, nb, hI.put 5 33 _ (by simp [regsP]) (by simp [regsP]) (by simp [regsP]) (by intro e he; simp [regsP] at he; rcases he with rfl | rfl | he <;> first | (simp [regsP]; done) | (intro h; exact hx e he (by rw [h]; simp [regsP]))) (by intro e he; simp [regsP] at he; rcases he with rfl | rfl | rfl | rfl | rfl | rfl | rfl | rfl | rfl | rfl | rfl <;> simp [regsP]) (by intro e he; simp [regsP] at he; rcases he with rfl | rfl | rfl | rfl | rfl | rfl | rfl <;> simp [regsP]) (by rintro ⟨e, he, h⟩; simp [regsP] at he; rcases he with rfl | rfl | rfl | rfl | rfl | rfl | rfl <;> simp at h)⟩
    simp only [execOp, ho, bs5]
    obtain ⟨z0, z1, z2, z3, z4, z5, z6⟩ := hC
    clear hI TB TD KC HC hra hrs S
    go_simp
  · have q5 := TB 5 33 ((.pointer (some ⟨ba, 2, none⟩))) (by simp [regsP]) (S.w6_5.on hi)
    refine S.p6.val (v := (.string ⟨b2.toArray⟩)) (w' := w) (fun o ho => ?_) ⟨x, nb, hI.put 6 34 _ (by simp [regsP]) (by simp [regsP]) (by simp [regsP]) (by intro e he; simp [regsP] at he; rcases he with rfl | rfl | he <;> first | (simp [regsP]; done) | (intro h; exact hx e he (by rw [h]; simp [regsP]))) (by intro e he; simp [regsP] at he; rcases he with rfl | rfl | rfl | rfl | rfl | rfl | rfl | rfl | rfl | rfl | rfl <;> simp [regsP]) (by intro e he; simp [regsP] at he; rcases he with rfl | rfl | rfl | rfl | rfl | rfl | rfl <;> simp [regsP]) (by rintro ⟨e, he, h⟩; simp [regsP] at he; rcases he with rfl | rfl | rfl | rfl | rfl | rfl | rfl <;> simp at h)⟩
    simp only [execOp, ho, q5]
    obtain ⟨z0, z1, z2, z3, z4, z5, z6⟩ := hC
    clear hI TB TD KC HC hra hrs S
    go_simp
  · refine S.p7.val (v := (.pointer (some ⟨ba, 3, none⟩))) (w' := w) (fun o ho => ?_) ⟨x, nb, hI.put 7 35 _ (by simp [regsP]) (by simp [regsP]) (by simp [regsP]) (by intro e he; simp [regsP] at he; rcases he with rfl | rfl | he <;> first | (simp [regsP]; done) | (intro h; exact hx e he (by rw [h]; simp [regsP]))) (by intro e he; simp [regsP] at he; rcases he with rfl | rfl | rfl | rfl | rfl | rfl | rfl | rfl | rfl | rfl | rfl <;> simp [regsP]) (by intro e he; simp [regsP] at he; rcases he with rfl | rfl | rfl | rfl | rfl | rfl | rfl <;> simp [regsP]) (by rintro ⟨e, he, h⟩; simp [regsP] at he; rcases he with rfl | rfl | rfl | rfl | rfl | rfl | rfl <;> simp at h)⟩
    simp only [execOp, ho, bs5]
    obtain ⟨z0, z1, z2, z3, z4, z5, z6⟩ := hC
    clear hI TB TD KC HC hra hrs S
    go_simp
  · have q7 := TB 7 35 ((.pointer (some ⟨ba, 3, none⟩))) (by simp [regsP]) (S.w8_7.on hi)
    refine S.p8.val (v := (.string ⟨b3.toArray⟩)) (w' := w) (fun o ho => ?_) ⟨x, nb, hI.put 8 36 _ (by simp [regsP]) (by simp [regsP]) (by simp [regsP]) (by intro e he; simp [regsP] at he; rcases he with rfl | rfl | he <;> first | (simp [regsP]; done) | (intro h; exact hx e he (by rw [h]; simp [regsP]))) (by intro e he; simp [regsP] at he; rcases he with rfl | rfl | rfl | rfl | rfl | rfl | rfl | rfl | rfl | rfl | rfl <;> simp [regsP]) (by intro e he; simp [regsP] at he; rcases he with rfl | rfl | rfl | rfl | rfl | rfl | rfl <;> simp [regsP]) (by rintro ⟨e, he, h⟩; simp [regsP] at he; rcases he with rfl | rfl | rfl | rfl | rfl | rfl | rfl <;> simp at h)⟩
    simp only [execOp, ho, q7]
    obtain ⟨z0, z1, z2, z3, z4, z5, z6⟩ := hC
    clear hI TB TD KC HC hra hrs S
    go_simp
  · refine S.p9.val (v := (.pointer (some ⟨ba, 5, none⟩))) (w' := w) (fun o ho => ?_) ⟨x, nb, hI.put 9 37 _ (by simp [regsP]) (by simp [regsP]) (by simp [regsP]) (by intro e he; simp [regsP] at he; rcases he with rfl | rfl | he <;> first | (simp [regsP]; done) | (intro h; exact hx e he (by rw [h]; simp [regsP]))) (by intro e he; simp [regsP] at he; rcases he with rfl | rfl | rfl | rfl | rfl | rfl | rfl | rfl | rfl | rfl | rfl <;> simp [regsP]) (by intro e he; simp [regsP] at he; rcases he with rfl | rfl | rfl | rfl | rfl | rfl | rfl <;> simp [regsP]) (by rintro ⟨e, he, h⟩; simp [regsP] at he; rcases he with rfl | rfl | rfl | rfl | rfl | rfl | rfl <;> simp at h)⟩
    simp only [execOp, ho, bs5]
    obtain ⟨z0, z1, z2, z3, z4, z5, z6⟩ := hC
    clear hI TB TD KC HC hra hrs S
    go_simp
  · have q9 := TB 9 37 ((.pointer (some ⟨ba, 5, none⟩))) (by simp [regsP]) (S.w10_9.on hi)
    refine S.p10.val (v := (.int .i64 now)) (w' := w) (fun o ho => ?_) ⟨x, nb, hI.put 10 38 _ (by simp [regsP]) (by simp [regsP]) (by simp [regsP]) (by intro e he; simp [regsP] at he; rcases he with rfl | rfl | he <;> first | (simp [regsP]; done) | (intro h; exact hx e he (by rw [h]; simp [regsP]))) (by intro e he; simp [regsP] at he; rcases he with rfl | rfl | rfl | rfl | rfl | rfl | rfl | rfl | rfl | rfl | rfl <;> simp [regsP]) (by intro e he; simp [regsP] at he; rcases he with rfl | rfl | rfl | rfl | rfl | rfl | rfl <;> simp [regsP]) (by rintro ⟨e, he, h⟩; simp [regsP] at he; rcases he with rfl | rfl | rfl | rfl | rfl | rfl | rfl <;> simp at h)⟩
    simp only [execOp, ho, q9]
    obtain ⟨z0, z1, z2, z3, z4, z5, z6⟩ := hC
    clear hI TB TD KC HC hra hrs S
    go_simp
  · have q2 := TB 2 30 ((.agg #[.int .i64 most, .int .i64 last, v])) (by simp [regsP]) (S.w11_2.on hi)
    have q4 := TB 4 32 ((.string ⟨b1.toArray⟩)) (by simp [regsP]) (S.w11_4.on hi)
    have q6 := TB 6 34 ((.string ⟨b2.toArray⟩)) (by simp [regsP]) (S.w11_6.on hi)
    have q8 := TB 8 36 ((.string ⟨b3.toArray⟩)) (by simp [regsP]) (S.w11_8.on hi)
    have q10 := TB 10 38 ((.int .i64 now)) (by simp [regsP]) (S.w11_10.on hi)
    refine S.p11.enter (vals := #[(.agg #[.int .i64 most, .int .i64 last, v]), (.string ⟨b1.toArray⟩), (.string ⟨b2.toArray⟩), (.string ⟨b3.toArray⟩), (.int .i64 now)]) (by simp only [List.map_toArray, List.map_cons, List.map_nil, q2, q4, q6, q8, q10]) (fun xs u => by kernel_rfl) ?_
    refine (KC w hI.bel).mono ?_
    rintro e w' ⟨x', rfl, hr, hb⟩
    exact ⟨_, rfl, x', nb, hI.call (x' := x') (by rw [hL]; simp [regsP]) 39 _ hn0 (by simp [regsP]) (by simp [regsP]) (by simp [regsP]) (by intro e he; simp [regsP] at he; rcases he with rfl | rfl | he <;> first | (simp [regsP]; done) | (intro h; exact hx e he (by rw [h]; simp [regsP]))) (by intro e he; simp [regsP] at he; rcases he with rfl | rfl | rfl | rfl | rfl | rfl | rfl | rfl | rfl | rfl | rfl <;> simp [regsP]) (by intro e he; simp [regsP] at he; rcases he with rfl | rfl | rfl | rfl | rfl | rfl | rfl <;> simp [regsP]) (by simp [regsP]) hb hr⟩
  · have q11 := TD 11 39 (.tuple #[(.agg #[.int .i64 t1.most, .int .i64 t1.last, .slice x.1 t1.l.length x.2]), .int .i64 n1, .int .i64 m1]) (by simp [regsP]) (S.w12_11.on hi)
    have hcl := hI.clo (11, 39, .tuple #[(.agg #[.int .i64 t1.most, .int .i64 t1.last, .slice x.1 t1.l.length x.2]), .int .i64 n1, .int .i64 m1]) (by simp [regsP]) (S.w12_11.on hi)
    refine S.p12.val (v := .tuple #[(.agg #[.int .i64 t1.most, .int .i64 t1.last, .slice x.1 t1.l.length x.2]), .int .i64 n1, .int .i64 m1]) (w' := w) (fun o ho => ?_) ⟨x, nb, hI.put 12 27 _ (by simp [regsP]) (by simp [regsP]) (by simp [regsP]) (by intro e he; simp [regsP] at he; rcases he with rfl | rfl | he <;> first | (simp [regsP]; done) | (intro h; exact hx e he (by rw [h]; simp [regsP]))) (by intro e he; simp [regsP] at he; rcases he with rfl | rfl | rfl | rfl | rfl | rfl | rfl | rfl | rfl | rfl | rfl <;> simp [regsP]) (by intro e he; simp [regsP] at he; rcases he with rfl | rfl | rfl | rfl | rfl | rfl | rfl <;> simp [regsP]) (fun _ => hcl)⟩
    simp only [execOp, ho, q11]
    clear hI TB TD KC HC hra hrs S hC
    go_simp
  · have q12 := TD 12 27 (.tuple #[(.agg #[.int .i64 t1.most, .int .i64 t1.last, .slice x.1 t1.l.length x.2]), .int .i64 n1, .int .i64 m1]) (by simp [regsP]) (S.w13_12.on hi)
    have hcl := hI.clo (12, 27, .tuple #[(.agg #[.int .i64 t1.most, .int .i64 t1.last, .slice x.1 t1.l.length x.2]), .int .i64 n1, .int .i64 m1]) (by simp [regsP]) (S.w13_12.on hi)
    refine S.p13.val (v := (.agg #[.int .i64 t1.most, .int .i64 t1.last, .slice x.1 t1.l.length x.2])) (w' := w) (fun o ho => ?_) ⟨x, nb, hI.put 13 40 _ (by simp [regsP]) (by simp [regsP]) (by simp [regsP]) (by intro e he; simp [regsP] at he; rcases he with rfl | rfl | he <;> first | (simp [regsP]; done) | (intro h; exact hx e he (by rw [h]; simp [regsP]))) (by intro e he; simp [regsP] at he; rcases he with rfl | rfl | rfl | rfl | rfl | rfl | rfl | rfl | rfl | rfl | rfl <;> simp [regsP]) (by intro e he; simp [regsP] at he; rcases he with rfl | rfl | rfl | rfl | rfl | rfl | rfl <;> simp [regsP]) (fun _ => hcl)⟩
    simp only [execOp, ho, q12]
    clear hI TB TD KC HC hra hrs S hC
    go_simp
  · have q12 := TD 12 27 (.tuple #[(.agg #[.int .i64 t1.most, .int .i64 t1.last, .slice x.1 t1.l.length x.2]), .int .i64 n1, .int .i64 m1]) (by simp [regsP]) (S.w14_12.on hi)
    have hcl := hI.clo (12, 27, .tuple #[(.agg #[.int .i64 t1.most, .int .i64 t1.last, .slice x.1 t1.l.length x.2]), .int .i64 n1, .int .i64 m1]) (by simp [regsP]) (S.w14_12.on hi)
    refine S.p14.val (v := .int .i64 n1) (w' := w) (fun o ho => ?_) ⟨x, nb, hI.put 14 41 _ (by simp [regsP]) (by simp [regsP]) (by simp [regsP]) (by intro e he; simp [regsP] at he; rcases he with rfl | rfl | he <;> first | (simp [regsP]; done) | (intro h; exact hx e he (by rw [h]; simp [regsP]))) (by intro e he; simp [regsP] at he; rcases he with rfl | rfl | rfl | rfl | rfl | rfl | rfl | rfl | rfl | rfl | rfl <;> simp [regsP]) (by intro e he; simp [regsP] at he; rcases he with rfl | rfl | rfl | rfl | rfl | rfl | rfl <;> simp [regsP]) (fun _ => hcl)⟩
    simp only [execOp, ho, q12]
    clear hI TB TD KC HC hra hrs S hC
    go_simp
  · have q12 := TD 12 27 (.tuple #[(.agg #[.int .i64 t1.most, .int .i64 t1.last, .slice x.1 t1.l.length x.2]), .int .i64 n1, .int .i64 m1]) (by simp [regsP]) (S.w15_12.on hi)
    have hcl := hI.clo (12, 27, .tuple #[(.agg #[.int .i64 t1.most, .int .i64 t1.last, .slice x.1 t1.l.length x.2]), .int .i64 n1, .int .i64 m1]) (by simp [regsP]) (S.w15_12.on hi)
    refine S.p15.val (v := .int .i64 m1) (w' := w) (fun o ho => ?_) ⟨x, nb, hI.put 15 42 _ (by simp [regsP]) (by simp [regsP]) (by simp [regsP]) (by intro e he; simp [regsP] at he; rcases he with rfl | rfl | he <;> first | (simp [regsP]; done) | (intro h; exact hx e he (by rw [h]; simp [regsP]))) (by intro e he; simp [regsP] at he; rcases he with rfl | rfl | rfl | rfl | rfl | rfl | rfl | rfl | rfl | rfl | rfl <;> simp [regsP]) (by intro e he; simp [regsP] at he; rcases he with rfl | rfl | rfl | rfl | rfl | rfl | rfl <;> simp [regsP]) (fun _ => hcl)⟩
    simp only [execOp, ho, q12]
    clear hI TB TD KC HC hra hrs S hC
    go_simp
  · refine S.p16.val (v := .pointer (some ⟨w.heap.size, 0, none⟩)) (w' := w.alloc (.cells ([.int .i64 0, .int .i64 0, .slice none 0 0] : List Value).toArray 31)) (fun o ho => ?_) ⟨x, w.heap.size, hI.alloc (by rw [hL]; simp [regsP]) hn0 (by simp [regsP]) (by simp [regsP]) (by intro e he; simp [regsP] at he; rcases he with rfl | rfl | he <;> first | (simp [regsP]; done) | (intro h; exact hx e he (by rw [h]; simp [regsP]))) (by intro e he; simp [regsP] at he; rcases he with rfl | rfl | rfl | rfl | rfl | rfl | rfl | rfl | rfl | rfl | rfl <;> simp [regsP]) (by intro e he; simp [regsP] at he; rcases he with rfl | rfl | rfl | rfl | rfl | rfl | rfl <;> simp [regsP]) (hra x)⟩
    simp only [execOp, ho]
    clear hI TB TD KC HC hra hrs S hC
    go_simp
  · have q := TD 13 40 ((.agg #[.int .i64 t1.most, .int .i64 t1.last, .slice x.1 t1.l.length x.2])) (by simp [regsP]) (S.w17_13.on hi)
    have hcl := hI.clo (13, 40, (.agg #[.int .i64 t1.most, .int .i64 t1.last, .slice x.1 t1.l.length x.2])) (by simp [regsP]) (S.w17_13.on hi)
    have hal := S.w17_16.on hi
    obtain ⟨ht0, htn, hrow⟩ := hI.al hal
    rw [show L.getD (regsP W B br ba most last v b1 b2 b3 now t1 n1 m1 ex).st false = false from hn0, if_neg (by decide)] at hrow
    have hrow' : RowIs w nb 31 ([.int .i64 0, .int .i64 0, .slice none 0 0]) := hrow
    have t0' : a.eval (.tmp 8) = .pointer (some ⟨nb, 0, none⟩) := ht0
    have hI' := hI.store (w' := ((w.setCell ⟨nb, 0, none⟩ (.int .i64 t1.most)).setCell ⟨nb, 1, none⟩ (.int .i64 t1.last)).setCell ⟨nb, 2, none⟩ (.slice x.1 t1.l.length x.2)) (by rw [hL]; simp [regsP]) hn0 hcl hal (by simp [regsP]) (by intro e he; simp [regsP] at he; rcases he with rfl | rfl | rfl | rfl | rfl | rfl | rfl | rfl | rfl | rfl | rfl <;> simp [regsP]) (by intro e he; simp [regsP] at he; rcases he with rfl | rfl | rfl | rfl | rfl | rfl | rfl <;> simp [regsP]) (sv_below3 (Below.refl _ w) nb htn _ _ _) (hrs x w nb (hI.r hcl) hrow') (sv_store3 hrow' _ _ _)
    obtain ⟨y0, y1, y2, y3, y4, y5⟩ := hrow'.sv3
    refine S.p17.skip (w' := _) (fun o ho => ?_) ⟨x, nb, hI'⟩
    simp only [execOp, ho, t0', q]
    clear hI TB TD KC HC hra hrs S hC hI' hrow hrow'
    go_simp
  · have q14 := TD 14 41 (.int .i64 n1) (by simp [regsP]) (S.w18_14.on hi)
    have hcl := hI.clo (14, 41, .int .i64 n1) (by simp [regsP]) (S.w18_14.on hi)
    refine S.p18.val (v := .int .i64 n1) (w' := w) (fun o ho => ?_) ⟨x, nb, hI.put 18 9 _ (by simp [regsP]) (by simp [regsP]) (by simp [regsP]) (by intro e he; simp [regsP] at he; rcases he with rfl | rfl | he <;> first | (simp [regsP]; done) | (intro h; exact hx e he (by rw [h]; simp [regsP]))) (by intro e he; simp [regsP] at he; rcases he with rfl | rfl | rfl | rfl | rfl | rfl | rfl | rfl | rfl | rfl | rfl <;> simp [regsP]) (by intro e he; simp [regsP] at he; rcases he with rfl | rfl | rfl | rfl | rfl | rfl | rfl <;> simp [regsP]) (fun _ => hcl)⟩
    simp only [execOp, ho, q14]
    clear hI TB TD KC HC hra hrs S hC
    go_simp
  · have q15 := TD 15 42 (.int .i64 m1) (by simp [regsP]) (S.w19_15.on hi)
    have hcl := hI.clo (15, 42, .int .i64 m1) (by simp [regsP]) (S.w19_15.on hi)
    refine S.p19.val (v := .int .i64 m1) (w' := w) (fun o ho => ?_) ⟨x, nb, hI.put 19 10 _ (by simp [regsP]) (by simp [regsP]) (by simp [regsP]) (by intro e he; simp [regsP] at he; rcases he with rfl | rfl | he <;> first | (simp [regsP]; done) | (intro h; exact hx e he (by rw [h]; simp [regsP]))) (by intro e he; simp [regsP] at he; rcases he with rfl | rfl | rfl | rfl | rfl | rfl | rfl | rfl | rfl | rfl | rfl <;> simp [regsP]) (by intro e he; simp [regsP] at he; rcases he with rfl | rfl | rfl | rfl | rfl | rfl | rfl <;> simp [regsP]) (fun _ => hcl)⟩
    simp only [execOp, ho, q15]
    clear hI TB TD KC HC hra hrs S hC
    go_simp
end Go.Proofs.Ytbnmdljlfldgoaa
