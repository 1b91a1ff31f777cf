/-
  The document's Response inside does (layer 12): its region.
-/
import Derived.Test.YtgikbpaejmdnoaaRG
import Derived.Test.YtgikbpaejmdnoaaRE
namespace Go.Proofs.Ytgikbpaejmdnoaa
open Go.RowKit
set_option linter.unusedVariables false
set_option maxRecDepth 20000
set_option linter.unusedSimpArgs false

def regyP (W : World) (B br ba : Nat) (most last : Int) (v : Value) (b1 : List UInt8) (sv now : Int) (t1 : Tq) (n1 : Int) (y1 : Bool) (m1 : Int) (ex : List (Nat × Value)) : RP (Option Addr × Nat) where
  W := W
  n := 128
  base := [(1, (.pointer (some ⟨br, 0, none⟩))), (5, (.pointer (some ⟨ba, 0, none⟩)))] ++ ex
  T := [(0, 68, (.pointer (some ⟨br, 0, none⟩))), (1, 69, (.pointer (some ⟨br, 0, none⟩))), (2, 70, (.agg #[.int .i64 most, .int .i64 last, v])), (3, 71, (.pointer (some ⟨ba, 1, none⟩))), (4, 72, (.string ⟨b1.toArray⟩)), (5, 73, (.pointer (some ⟨ba, 2, none⟩))), (6, 74, (.int .i64 sv)), (7, 75, (.pointer (some ⟨ba, 3, none⟩))), (8, 76, (.int .i64 now))]
  D := fun x => [(9, 77, .tuple #[(.agg #[.int .i64 t1.most, .int .i64 t1.last, .slice x.1 t1.l.length x.2]), .int .i64 n1, .bool y1, .int .i64 m1]), (10, 67, .tuple #[(.agg #[.int .i64 t1.most, .int .i64 t1.last, .slice x.1 t1.l.length x.2]), .int .i64 n1, .bool y1, .int .i64 m1]), (11, 78, (.agg #[.int .i64 t1.most, .int .i64 t1.last, .slice x.1 t1.l.length x.2])), (12, 79, .int .i64 n1), (13, 80, .bool y1), (14, 81, .int .i64 m1), (17, 14, .int .i64 n1), (18, 15, .bool y1), (19, 16, .int .i64 m1)]
  R := fun x u => OwnQ u B (.slice x.1 t1.l.length x.2) t1.l
  c := 9
  al := 15
  dal := 13
  st := 16
  Ty := 31
  zero := [.int .i64 0, .int .i64 0, .slice none 0 0]
  cells := fun x => [.int .i64 t1.most, .int .i64 t1.last, .slice x.1 t1.l.length x.2]
structure regyOps (ops : Array Oper) : Prop where
  sz : ops.size = 20
  p0 : OpIs ops 0 (some 68) (.move (.tmp 1))
  p1 : OpIs ops 1 (some 69) (.nilCheck (.tmp 68))
  p2 : OpIs ops 2 (some 70) (.load 31 (.tmp 69))
  p3 : OpIs ops 3 (some 71) (.fieldAddr 34 (.tmp 5) 1)
  p4 : OpIs ops 4 (some 72) (.load 9 (.tmp 71))
  p5 : OpIs ops 5 (some 73) (.fieldAddr 34 (.tmp 5) 2)
  p6 : OpIs ops 6 (some 74) (.load 3 (.tmp 73))
  p7 : OpIs ops 7 (some 75) (.fieldAddr 34 (.tmp 5) 3)
  p8 : OpIs ops 8 (some 76) (.load 3 (.tmp 75))
  p9 : OpIs ops 9 (some 77) (.call { callee := .value (.func 21), args := #[.tmp 70, .tmp 72, .tmp 74, .tmp 76], argTypes := #[28, 9, 3, 3] })
  p10 : OpIs ops 10 (some 67) (.move (.tmp 77))
  p11 : OpIs ops 11 (some 78) (.extract (.tmp 67) 0)
  p12 : OpIs ops 12 (some 79) (.extract (.tmp 67) 1)
  p13 : OpIs ops 13 (some 80) (.extract (.tmp 67) 2)
  p14 : OpIs ops 14 (some 81) (.extract (.tmp 67) 3)
  p17 : OpIs ops 17 (some 14) (.assign (.tmp 79))
  p18 : OpIs ops 18 (some 15) (.assign (.tmp 80))
  p19 : OpIs ops 19 (some 16) (.assign (.tmp 81))
  p15 : OpIs ops 15 (some 13) (.alloc 31)
  p16 : OpIs ops 16 none (.store 31 (.tmp 13) (.tmp 78))
  w1_0 : Waits ops 1 0
  w2_1 : Waits ops 2 1
  w4_3 : Waits ops 4 3
  w6_5 : Waits ops 6 5
  w8_7 : Waits ops 8 7
  w9_2 : Waits ops 9 2
  w9_4 : Waits ops 9 4
  w9_6 : Waits ops 9 6
  w9_8 : Waits ops 9 8
  w10_9 : Waits ops 10 9
  w11_10 : Waits ops 11 10
  w12_10 : Waits ops 12 10
  w13_10 : Waits ops 13 10
  w14_10 : Waits ops 14 10
  w17_12 : Waits ops 17 12
  w18_13 : Waits ops 18 13
  w19_14 : Waits ops 19 14
  w16_15 : Waits ops 16 15
  w16_11 : Waits ops 16 11
set_option maxHeartbeats 2000000 in
set_option maxRecDepth 100000 in
theorem regy_steps {ops : Array Oper} (S : regyOps ops) (W : World) (B br ba : Nat) (most last : Int) (v : Value) (b1 : List UInt8) (sv now : Int) (t1 : Tq) (n1 : Int) (y1 : Bool) (m1 : Int) (ex : List (Nat × Value))
    (HC : ∀ u : World, Below W.heap.size W u → u.cell? ⟨br, 0, none⟩ = some (.int .i64 most) ∧ u.cell? ⟨br, 1, none⟩ = some (.int .i64 last) ∧ u.cell? ⟨br, 2, none⟩ = some v ∧ u.cell? ⟨ba, 1, none⟩ = some (.string ⟨b1.toArray⟩) ∧ u.cell? ⟨ba, 2, none⟩ = some (.int .i64 sv) ∧ u.cell? ⟨ba, 3, none⟩ = some (.int .i64 now))
    (KC : ∀ u : World, Below W.heap.size W u → Calls Try.prog 21 #[(.agg #[.int .i64 most, .int .i64 last, v]), (.string ⟨b1.toArray⟩), (.int .i64 sv), (.int .i64 now)] u fun e u' => ∃ x : Option Addr × Nat, e = .returned (.tuple #[(.agg #[.int .i64 t1.most, .int .i64 t1.last, .slice x.1 t1.l.length x.2]), .int .i64 n1, .bool y1, .int .i64 m1]) ∧ (regyP W B br ba most last v b1 sv now t1 n1 y1 m1 ex).R x u' ∧ Below u.heap.size u u')
    (hra : ∀ (x : Option Addr × Nat) (u : World) (o : Obj), (regyP W B br ba most last v b1 sv now t1 n1 y1 m1 ex).R x u → (regyP W B br ba most last v b1 sv now t1 n1 y1 m1 ex).R x (u.alloc o))
    (hrs : ∀ (x : Option Addr × Nat) (u : World) (nb : Nat), (regyP W B br ba most last v b1 sv now t1 n1 y1 m1 ex).R x u → RowIs u nb 31 ([.int .i64 0, .int .i64 0, .slice none 0 0]) → (regyP W B br ba most last v b1 sv now t1 n1 y1 m1 ex).R x (((u.setCell ⟨nb, 0, none⟩ (.int .i64 t1.most)).setCell ⟨nb, 1, none⟩ (.int .i64 t1.last)).setCell ⟨nb, 2, none⟩ (.slice x.1 t1.l.length x.2)))
    (hx : ∀ e ∈ ex, e.1 ∉ [68, 69, 70, 71, 72, 73, 74, 75, 76, 77, 67, 78, 79, 80, 81, 14, 15, 16, 13])
    (Q : Exit → Act → World → Prop) (L : Array Bool) (a : Act) (w : World) (i : Nat) (hs : L.size = ops.size) (hi : i ∈ Region.ready .any ops L) (hI : ∃ x nb, GI (regyP W B br ba most last v b1 sv now t1 n1 y1 m1 ex) L a w x nb) :
    wpOp Try.prog ops Q i (fun a' w' => ∃ x nb, GI (regyP W B br ba most last v b1 sv now t1 n1 y1 m1 ex) (L.setIfInBounds i true) a' w' x nb) a w := by
  obtain ⟨x, nb, hI⟩ := hI
  have hL : L.size = 20 := by rw [hs, S.sz]
  have hn0 : L.getD i false = false := by
    have := (mem_ready.1 hi).1
    rw [Array.getD_eq_getD_getElem?] at this ⊢
    cases e : L[i]? with
    | none => rw [e] at this; simp at this
    | some b => rw [e] at this; simpa using this
  have hi18 : i < 20 := by
    obtain ⟨_, o, ho, _⟩ := mem_ready.1 hi
    rw [← S.sz]; exact (Array.getElem?_eq_some_iff.1 ho).1
  have bs1 : a.eval (.tmp 1) = (.pointer (some ⟨br, 0, none⟩)) := hI.base (1, (.pointer (some ⟨br, 0, none⟩))) (by simp [regyP])
  have bs5 : a.eval (.tmp 5) = (.pointer (some ⟨ba, 0, none⟩)) := hI.base (5, (.pointer (some ⟨ba, 0, none⟩))) (by simp [regyP])
  have TB : ∀ jj dd vv, (jj, dd, vv) ∈ (regyP W B br ba most last v b1 sv now t1 n1 y1 m1 ex).T → L.getD jj false = true → a.eval (.tmp dd) = vv := fun jj dd vv hm hl => hI.tab (jj, dd, vv) hm hl
  have TD : ∀ jj dd vv, (jj, dd, vv) ∈ (regyP W B br ba most last v b1 sv now t1 n1 y1 m1 ex).D x → L.getD jj false = true → a.eval (.tmp dd) = vv := fun jj dd vv hm hl => hI.dyn (jj, dd, vv) hm hl
  have hC := HC w hI.bel
  rcases (show i = 0 ∨ i = 1 ∨ i = 2 ∨ i = 3 ∨ i = 4 ∨ i = 5 ∨ i = 6 ∨ i = 7 ∨ i = 8 ∨ i = 9 ∨ i = 10 ∨ i = 11 ∨ i = 12 ∨ i = 13 ∨ i = 14 ∨ i = 15 ∨ i = 16 ∨ i = 17 ∨ i = 18 ∨ i = 19 by omega) with rfl | rfl | rfl | rfl | rfl | rfl | rfl | rfl | rfl | rfl | rfl | rfl | rfl | rfl | rfl | rfl | rfl | rfl | rfl | rfl
  · refine S.p0.val (v := (.pointer (some ⟨br, 0, none⟩))) (w' := w) (fun o ho => ?_) ⟨x, nb, hI.put 0 68 _ (by simp [regyP]) (by simp [regyP]) (by simp [regyP]) (by intro e he; simp [regyP] at he; rcases he with rfl | rfl | he <;> first | (simp [regyP]; done) | (intro h; exact hx e he (by rw [h]; simp [regyP]))) (by intro e he; simp [regyP] at he; rcases he with rfl | rfl | rfl | rfl | rfl | rfl | rfl | rfl | rfl <;> simp [regyP]) (by intro e he; simp [regyP] at he; rcases he with rfl | rfl | rfl | rfl | rfl | rfl | rfl | rfl | rfl <;> simp [regyP]) (by rintro ⟨e, he, h⟩; simp [regyP] at he; rcases he with rfl | rfl | rfl | rfl | rfl | rfl | rfl | rfl | rfl <;> simp at h)⟩
    simp only [execOp, ho, bs1]
    obtain ⟨z0, z1, z2, z3, z4, z5⟩ := hC
    clear hI TB TD KC HC hra hrs S
    go_simp
  · have q0 := TB 0 68 ((.pointer (some ⟨br, 0, none⟩))) (by simp [regyP]) (S.w1_0.on hi)
    refine S.p1.val (v := (.pointer (some ⟨br, 0, none⟩))) (w' := w) (fun o ho => ?_) ⟨x, nb, hI.put 1 69 _ (by simp [regyP]) (by simp [regyP]) (by simp [regyP]) (by intro e he; simp [regyP] at he; rcases he with rfl | rfl | he <;> first | (simp [regyP]; done) | (intro h; exact hx e he (by rw [h]; simp [regyP]))) (by intro e he; simp [regyP] at he; rcases he with rfl | rfl | rfl | rfl | rfl | rfl | rfl | rfl | rfl <;> simp [regyP]) (by intro e he; simp [regyP] at he; rcases he with rfl | rfl | rfl | rfl | rfl | rfl | rfl | rfl | rfl <;> simp [regyP]) (by rintro ⟨e, he, h⟩; simp [regyP] at he; rcases he with rfl | rfl | rfl | rfl | rfl | rfl | rfl | rfl | rfl <;> simp at h)⟩
    simp only [execOp, ho, q0]
    obtain ⟨z0, z1, z2, z3, z4, z5⟩ := hC
    clear hI TB TD KC HC hra hrs S
    go_simp
  · have q1 := TB 1 69 ((.pointer (some ⟨br, 0, none⟩))) (by simp [regyP]) (S.w2_1.on hi)
    refine S.p2.val (v := (.agg #[.int .i64 most, .int .i64 last, v])) (w' := w) (fun o ho => ?_) ⟨x, nb, hI.put 2 70 _ (by simp [regyP]) (by simp [regyP]) (by simp [regyP]) (by intro e he; simp [regyP] at he; rcases he with rfl | rfl | he <;> first | (simp [regyP]; done) | (intro h; exact hx e he (by rw [h]; simp [regyP]))) (by intro e he; simp [regyP] at he; rcases he with rfl | rfl | rfl | rfl | rfl | rfl | rfl | rfl | rfl <;> simp [regyP]) (by intro e he; simp [regyP] at he; rcases he with rfl | rfl | rfl | rfl | rfl | rfl | rfl | rfl | rfl <;> simp [regyP]) (by rintro ⟨e, he, h⟩; simp [regyP] at he; rcases he with rfl | rfl | rfl | rfl | rfl | rfl | rfl | rfl | rfl <;> simp at h)⟩
    simp only [execOp, ho, q1]
    obtain ⟨z0, z1, z2, z3, z4, z5⟩ := hC
    clear hI TB TD KC HC hra hrs S
    go_simp
  · refine S.p3.val (v := (.pointer (some ⟨ba, 1, none⟩))) (w' := w) (fun o ho => ?_) ⟨x, nb, hI.put 3 71 _ (by simp [regyP]) (by simp [regyP]) (by simp [regyP]) (by intro e he; simp [regyP] at he; rcases he with rfl | rfl | he <;> first | (simp [regyP]; done) | (intro h; exact hx e he (by rw [h]; simp [regyP]))) (by intro e he; simp [regyP] at he; rcases he with rfl | rfl | rfl | rfl | rfl | rfl | rfl | rfl | rfl <;> simp [regyP]) (by intro e he; simp [regyP] at he; rcases he with rfl | rfl | rfl | rfl | rfl | rfl | rfl | rfl | rfl <;> simp [regyP]) (by rintro ⟨e, he, h⟩; simp [regyP] at he; rcases he with rfl | rfl | rfl | rfl | rfl | rfl | rfl | rfl | rfl <;> simp at h)⟩
    simp only [execOp, ho, bs5]
    obtain ⟨z0, z1, z2, z3, z4, z5⟩ := hC
    clear hI TB TD KC HC hra hrs S
    go_simp
  · have q3 := TB 3 71 ((.pointer (some ⟨ba, 1, none⟩))) (by simp [regyP]) (S.w4_3.on hi)
    refine S.p4.val (v := (.string ⟨b1.toArray⟩)) (w' := w) (fun o ho => ?_) ⟨x, nb, hI.put 4 72 _ (by simp [regyP]) (by simp [regyP]) (by simp [regyP]) (by intro e he; simp [regyP] at he; rcases he with rfl | rfl | he <;> first | (simp [regyP]; done) | (intro h; exact hx e he (by rw [h]; simp [regyP]))) (by intro e he; simp [regyP] at he; rcases he with rfl | rfl | rfl | rfl | rfl | rfl | rfl | rfl | rfl <;> simp [regyP]) (by intro e he; simp [regyP] at he; rcases he with rfl | rfl | rfl | rfl | rfl | rfl | rfl | rfl | rfl <;> simp [regyP]) (by rintro ⟨e, he, h⟩; simp [regyP] at he; rcases he with rfl | rfl | rfl | rfl | rfl | rfl | rfl | rfl | rfl <;> simp at h)⟩
    simp only [execOp, ho, q3]
    obtain ⟨z0, z1, z2, z3, z4, z5⟩ := hC
    clear hI TB TD KC HC hra hrs S
    go_simp
  · refine S.p5.val (v := (.pointer (some ⟨ba, 2, none⟩))) (w' := w) (fun o ho => ?_) ⟨x, nb, hI.put 5 73 _ (by simp [regyP]) (by simp [regyP]) (by simp [regyP]) (by intro e he; simp [regyP] at he; rcases he with rfl | rfl | he <;> first | (simp [regyP]; done) | (intro h; exact hx e he (by rw [h]; simp [regyP]))) (by intro e he; simp [regyP] at he; rcases he with rfl | rfl | rfl | rfl | rfl | rfl | rfl | rfl | rfl <;> simp [regyP]) (by intro e he; simp [regyP] at he; rcases he with rfl | rfl | rfl | rfl | rfl | rfl | rfl | rfl | rfl <;> simp [regyP]) (by rintro ⟨e, he, h⟩; simp [regyP] at he; rcases he with rfl | rfl | rfl | rfl | rfl | rfl | rfl | rfl | rfl <;> simp at h)⟩
    simp only [execOp, ho, bs5]
    obtain ⟨z0, z1, z2, z3, z4, z5⟩ := hC
    clear hI TB TD KC HC hra hrs S
    go_simp
  · have q5 := TB 5 73 ((.pointer (some ⟨ba, 2, none⟩))) (by simp [regyP]) (S.w6_5.on hi)
    refine S.p6.val (v := (.int .i64 sv)) (w' := w) (fun o ho => ?_) ⟨x, nb, hI.put 6 74 _ (by simp [regyP]) (by simp [regyP]) (by simp [regyP]) (by intro e he; simp [regyP] at he; rcases he with rfl | rfl | he <;> first | (simp [regyP]; done) | (intro h; exact hx e he (by rw [h]; simp [regyP]))) (by intro e he; simp [regyP] at he; rcases he with rfl | rfl | rfl | rfl | rfl | rfl | rfl | rfl | rfl <;> simp [regyP]) (by intro e he; simp [regyP] at he; rcases he with rfl | rfl | rfl | rfl | rfl | rfl | rfl | rfl | rfl <;> simp [regyP]) (by rintro ⟨e, he, h⟩; simp [regyP] at he; rcases he with rfl | rfl | rfl | rfl | rfl | rfl | rfl | rfl | rfl <;> simp at h)⟩
    simp only [execOp, ho, q5]
    obtain ⟨z0, z1, z2, z3, z4, z5⟩ := hC
    clear hI TB TD KC HC hra hrs S
    go_simp
  · refine S.p7.val (v := (.pointer (some ⟨ba, 3, none⟩))) (w' := w) (fun o ho => ?_) ⟨x, nb, hI.put 7 75 _ (by simp [regyP]) (by simp [regyP]) (by simp [regyP]) (by intro e he; simp [regyP] at he; rcases he with rfl | rfl | he <;> first | (simp [regyP]; done) | (intro h; exact hx e he (by rw [h]; simp [regyP]))) (by intro e he; simp [regyP] at he; rcases he with rfl | rfl | rfl | rfl | rfl | rfl | rfl | rfl | rfl <;> simp [regyP]) (by intro e he; simp [regyP] at he; rcases he with rfl | rfl | rfl | rfl | rfl | rfl | rfl | rfl | rfl <;> simp [regyP]) (by rintro ⟨e, he, h⟩; simp [regyP] at he; rcases he with rfl | rfl | rfl | rfl | rfl | rfl | rfl | rfl | rfl <;> simp at h)⟩
    simp only [execOp, ho, bs5]
    obtain ⟨z0, z1, z2, z3, z4, z5⟩ := hC
    clear hI TB TD KC HC hra hrs S
    go_simp
  · have q7 := TB 7 75 ((.pointer (some ⟨ba, 3, none⟩))) (by simp [regyP]) (S.w8_7.on hi)
    refine S.p8.val (v := (.int .i64 now)) (w' := w) (fun o ho => ?_) ⟨x, nb, hI.put 8 76 _ (by simp [regyP]) (by simp [regyP]) (by simp [regyP]) (by intro e he; simp [regyP] at he; rcases he with rfl | rfl | he <;> first | (simp [regyP]; done) | (intro h; exact hx e he (by rw [h]; simp [regyP]))) (by intro e he; simp [regyP] at he; rcases he with rfl | rfl | rfl | rfl | rfl | rfl | rfl | rfl | rfl <;> simp [regyP]) (by intro e he; simp [regyP] at he; rcases he with rfl | rfl | rfl | rfl | rfl | rfl | rfl | rfl | rfl <;> simp [regyP]) (by rintro ⟨e, he, h⟩; simp [regyP] at he; rcases he with rfl | rfl | rfl | rfl | rfl | rfl | rfl | rfl | rfl <;> simp at h)⟩
    simp only [execOp, ho, q7]
    obtain ⟨z0, z1, z2, z3, z4, z5⟩ := hC
    clear hI TB TD KC HC hra hrs S
    go_simp
  · have q2 := TB 2 70 ((.agg #[.int .i64 most, .int .i64 last, v])) (by simp [regyP]) (S.w9_2.on hi)
    have q4 := TB 4 72 ((.string ⟨b1.toArray⟩)) (by simp [regyP]) (S.w9_4.on hi)
    have q6 := TB 6 74 ((.int .i64 sv)) (by simp [regyP]) (S.w9_6.on hi)
    have q8 := TB 8 76 ((.int .i64 now)) (by simp [regyP]) (S.w9_8.on hi)
    refine S.p9.enter (vals := #[(.agg #[.int .i64 most, .int .i64 last, v]), (.string ⟨b1.toArray⟩), (.int .i64 sv), (.int .i64 now)]) (by simp only [List.map_toArray, List.map_cons, List.map_nil, q2, q4, q6, q8]) (fun xs u => by kernel_rfl) ?_
    refine (KC w hI.bel).mono ?_
    rintro e w' ⟨x', rfl, hr, hb⟩
    exact ⟨_, rfl, x', nb, hI.call (x' := x') (by rw [hL]; simp [regyP]) 77 _ hn0 (by simp [regyP]) (by simp [regyP]) (by simp [regyP]) (by intro e he; simp [regyP] at he; rcases he with rfl | rfl | he <;> first | (simp [regyP]; done) | (intro h; exact hx e he (by rw [h]; simp [regyP]))) (by intro e he; simp [regyP] at he; rcases he with rfl | rfl | rfl | rfl | rfl | rfl | rfl | rfl | rfl <;> simp [regyP]) (by intro e he; simp [regyP] at he; rcases he with rfl | rfl | rfl | rfl | rfl | rfl | rfl | rfl | rfl <;> simp [regyP]) (by simp [regyP]) hb hr⟩
  · have q9 := TD 9 77 (.tuple #[(.agg #[.int .i64 t1.most, .int .i64 t1.last, .slice x.1 t1.l.length x.2]), .int .i64 n1, .bool y1, .int .i64 m1]) (by simp [regyP]) (S.w10_9.on hi)
    have hcl := hI.clo (9, 77, .tuple #[(.agg #[.int .i64 t1.most, .int .i64 t1.last, .slice x.1 t1.l.length x.2]), .int .i64 n1, .bool y1, .int .i64 m1]) (by simp [regyP]) (S.w10_9.on hi)
    refine S.p10.val (v := .tuple #[(.agg #[.int .i64 t1.most, .int .i64 t1.last, .slice x.1 t1.l.length x.2]), .int .i64 n1, .bool y1, .int .i64 m1]) (w' := w) (fun o ho => ?_) ⟨x, nb, hI.put 10 67 _ (by simp [regyP]) (by simp [regyP]) (by simp [regyP]) (by intro e he; simp [regyP] at he; rcases he with rfl | rfl | he <;> first | (simp [regyP]; done) | (intro h; exact hx e he (by rw [h]; simp [regyP]))) (by intro e he; simp [regyP] at he; rcases he with rfl | rfl | rfl | rfl | rfl | rfl | rfl | rfl | rfl <;> simp [regyP]) (by intro e he; simp [regyP] at he; rcases he with rfl | rfl | rfl | rfl | rfl | rfl | rfl | rfl | rfl <;> simp [regyP]) (fun _ => hcl)⟩
    simp only [execOp, ho, q9]
    clear hI TB TD KC HC hra hrs S hC
    go_simp
  · have q10 := TD 10 67 (.tuple #[(.agg #[.int .i64 t1.most, .int .i64 t1.last, .slice x.1 t1.l.length x.2]), .int .i64 n1, .bool y1, .int .i64 m1]) (by simp [regyP]) (S.w11_10.on hi)
    have hcl := hI.clo (10, 67, .tuple #[(.agg #[.int .i64 t1.most, .int .i64 t1.last, .slice x.1 t1.l.length x.2]), .int .i64 n1, .bool y1, .int .i64 m1]) (by simp [regyP]) (S.w11_10.on hi)
    refine S.p11.val (v := (.agg #[.int .i64 t1.most, .int .i64 t1.last, .slice x.1 t1.l.length x.2])) (w' := w) (fun o ho => ?_) ⟨x, nb, hI.put 11 78 _ (by simp [regyP]) (by simp [regyP]) (by simp [regyP]) (by intro e he; simp [regyP] at he; rcases he with rfl | rfl | he <;> first | (simp [regyP]; done) | (intro h; exact hx e he (by rw [h]; simp [regyP]))) (by intro e he; simp [regyP] at he; rcases he with rfl | rfl | rfl | rfl | rfl | rfl | rfl | rfl | rfl <;> simp [regyP]) (by intro e he; simp [regyP] at he; rcases he with rfl | rfl | rfl | rfl | rfl | rfl | rfl | rfl | rfl <;> simp [regyP]) (fun _ => hcl)⟩
    simp only [execOp, ho, q10]
    clear hI TB TD KC HC hra hrs S hC
    go_simp
  · have q10 := TD 10 67 (.tuple #[(.agg #[.int .i64 t1.most, .int .i64 t1.last, .slice x.1 t1.l.length x.2]), .int .i64 n1, .bool y1, .int .i64 m1]) (by simp [regyP]) (S.w12_10.on hi)
    have hcl := hI.clo (10, 67, .tuple #[(.agg #[.int .i64 t1.most, .int .i64 t1.last, .slice x.1 t1.l.length x.2]), .int .i64 n1, .bool y1, .int .i64 m1]) (by simp [regyP]) (S.w12_10.on hi)
    refine S.p12.val (v := .int .i64 n1) (w' := w) (fun o ho => ?_) ⟨x, nb, hI.put 12 79 _ (by simp [regyP]) (by simp [regyP]) (by simp [regyP]) (by intro e he; simp [regyP] at he; rcases he with rfl | rfl | he <;> first | (simp [regyP]; done) | (intro h; exact hx e he (by rw [h]; simp [regyP]))) (by intro e he; simp [regyP] at he; rcases he with rfl | rfl | rfl | rfl | rfl | rfl | rfl | rfl | rfl <;> simp [regyP]) (by intro e he; simp [regyP] at he; rcases he with rfl | rfl | rfl | rfl | rfl | rfl | rfl | rfl | rfl <;> simp [regyP]) (fun _ => hcl)⟩
    simp only [execOp, ho, q10]
    clear hI TB TD KC HC hra hrs S hC
    go_simp
  · have q10 := TD 10 67 (.tuple #[(.agg #[.int .i64 t1.most, .int .i64 t1.last, .slice x.1 t1.l.length x.2]), .int .i64 n1, .bool y1, .int .i64 m1]) (by simp [regyP]) (S.w13_10.on hi)
    have hcl := hI.clo (10, 67, .tuple #[(.agg #[.int .i64 t1.most, .int .i64 t1.last, .slice x.1 t1.l.length x.2]), .int .i64 n1, .bool y1, .int .i64 m1]) (by simp [regyP]) (S.w13_10.on hi)
    refine S.p13.val (v := .bool y1) (w' := w) (fun o ho => ?_) ⟨x, nb, hI.put 13 80 _ (by simp [regyP]) (by simp [regyP]) (by simp [regyP]) (by intro e he; simp [regyP] at he; rcases he with rfl | rfl | he <;> first | (simp [regyP]; done) | (intro h; exact hx e he (by rw [h]; simp [regyP]))) (by intro e he; simp [regyP] at he; rcases he with rfl | rfl | rfl | rfl | rfl | rfl | rfl | rfl | rfl <;> simp [regyP]) (by intro e he; simp [regyP] at he; rcases he with rfl | rfl | rfl | rfl | rfl | rfl | rfl | rfl | rfl <;> simp [regyP]) (fun _ => hcl)⟩
    simp only [execOp, ho, q10]
    clear hI TB TD KC HC hra hrs S hC
    go_simp
  · have q10 := TD 10 67 (.tuple #[(.agg #[.int .i64 t1.most, .int .i64 t1.last, .slice x.1 t1.l.length x.2]), .int .i64 n1, .bool y1, .int .i64 m1]) (by simp [regyP]) (S.w14_10.on hi)
    have hcl := hI.clo (10, 67, .tuple #[(.agg #[.int .i64 t1.most, .int .i64 t1.last, .slice x.1 t1.l.length x.2]), .int .i64 n1, .bool y1, .int .i64 m1]) (by simp [regyP]) (S.w14_10.on hi)
    refine S.p14.val (v := .int .i64 m1) (w' := w) (fun o ho => ?_) ⟨x, nb, hI.put 14 81 _ (by simp [regyP]) (by simp [regyP]) (by simp [regyP]) (by intro e he; simp [regyP] at he; rcases he with rfl | rfl | he <;> first | (simp [regyP]; done) | (intro h; exact hx e he (by rw [h]; simp [regyP]))) (by intro e he; simp [regyP] at he; rcases he with rfl | rfl | rfl | rfl | rfl | rfl | rfl | rfl | rfl <;> simp [regyP]) (by intro e he; simp [regyP] at he; rcases he with rfl | rfl | rfl | rfl | rfl | rfl | rfl | rfl | rfl <;> simp [regyP]) (fun _ => hcl)⟩
    simp only [execOp, ho, q10]
    clear hI TB TD KC HC hra hrs S hC
    go_simp
  · refine S.p15.val (v := .pointer (some ⟨w.heap.size, 0, none⟩)) (w' := w.alloc (.cells ([.int .i64 0, .int .i64 0, .slice none 0 0] : List Value).toArray 31)) (fun o ho => ?_) ⟨x, w.heap.size, hI.alloc (by rw [hL]; simp [regyP]) hn0 (by simp [regyP]) (by simp [regyP]) (by intro e he; simp [regyP] at he; rcases he with rfl | rfl | he <;> first | (simp [regyP]; done) | (intro h; exact hx e he (by rw [h]; simp [regyP]))) (by intro e he; simp [regyP] at he; rcases he with rfl | rfl | rfl | rfl | rfl | rfl | rfl | rfl | rfl <;> simp [regyP]) (by intro e he; simp [regyP] at he; rcases he with rfl | rfl | rfl | rfl | rfl | rfl | rfl | rfl | rfl <;> simp [regyP]) (hra x)⟩
    simp only [execOp, ho]
    clear hI TB TD KC HC hra hrs S hC
    go_simp
  · have q := TD 11 78 ((.agg #[.int .i64 t1.most, .int .i64 t1.last, .slice x.1 t1.l.length x.2])) (by simp [regyP]) (S.w16_11.on hi)
    have hcl := hI.clo (11, 78, (.agg #[.int .i64 t1.most, .int .i64 t1.last, .slice x.1 t1.l.length x.2])) (by simp [regyP]) (S.w16_11.on hi)
    have hal := S.w16_15.on hi
    obtain ⟨ht0, htn, hrow⟩ := hI.al hal
    rw [show L.getD (regyP W B br ba most last v b1 sv now t1 n1 y1 m1 ex).st false = false from hn0, if_neg (by decide)] at hrow
    have hrow' : RowIs w nb 31 ([.int .i64 0, .int .i64 0, .slice none 0 0]) := hrow
    have t0' : a.eval (.tmp 13) = .pointer (some ⟨nb, 0, none⟩) := ht0
    have hI' := hI.store (w' := ((w.setCell ⟨nb, 0, none⟩ (.int .i64 t1.most)).setCell ⟨nb, 1, none⟩ (.int .i64 t1.last)).setCell ⟨nb, 2, none⟩ (.slice x.1 t1.l.length x.2)) (by rw [hL]; simp [regyP]) hn0 hcl hal (by simp [regyP]) (by intro e he; simp [regyP] at he; rcases he with rfl | rfl | rfl | rfl | rfl | rfl | rfl | rfl | rfl <;> simp [regyP]) (by intro e he; simp [regyP] at he; rcases he with rfl | rfl | rfl | rfl | rfl | rfl | rfl | rfl | rfl <;> simp [regyP]) (sv_below3 (Below.refl _ w) nb htn _ _ _) (hrs x w nb (hI.r hcl) hrow') (sv_store3 hrow' _ _ _)
    obtain ⟨y0, y1, y2, y3, y4, y5⟩ := hrow'.sv3
    refine S.p16.skip (w' := _) (fun o ho => ?_) ⟨x, nb, hI'⟩
    simp only [execOp, ho, t0', q]
    clear hI TB TD KC HC hra hrs S hC hI' hrow hrow'
    go_simp
  · have q12 := TD 12 79 (.int .i64 n1) (by simp [regyP]) (S.w17_12.on hi)
    have hcl := hI.clo (12, 79, .int .i64 n1) (by simp [regyP]) (S.w17_12.on hi)
    refine S.p17.val (v := .int .i64 n1) (w' := w) (fun o ho => ?_) ⟨x, nb, hI.put 17 14 _ (by simp [regyP]) (by simp [regyP]) (by simp [regyP]) (by intro e he; simp [regyP] at he; rcases he with rfl | rfl | he <;> first | (simp [regyP]; done) | (intro h; exact hx e he (by rw [h]; simp [regyP]))) (by intro e he; simp [regyP] at he; rcases he with rfl | rfl | rfl | rfl | rfl | rfl | rfl | rfl | rfl <;> simp [regyP]) (by intro e he; simp [regyP] at he; rcases he with rfl | rfl | rfl | rfl | rfl | rfl | rfl | rfl | rfl <;> simp [regyP]) (fun _ => hcl)⟩
    simp only [execOp, ho, q12]
    clear hI TB TD KC HC hra hrs S hC
    go_simp
  · have q13 := TD 13 80 (.bool y1) (by simp [regyP]) (S.w18_13.on hi)
    have hcl := hI.clo (13, 80, .bool y1) (by simp [regyP]) (S.w18_13.on hi)
    refine S.p18.val (v := .bool y1) (w' := w) (fun o ho => ?_) ⟨x, nb, hI.put 18 15 _ (by simp [regyP]) (by simp [regyP]) (by simp [regyP]) (by intro e he; simp [regyP] at he; rcases he with rfl | rfl | he <;> first | (simp [regyP]; done) | (intro h; exact hx e he (by rw [h]; simp [regyP]))) (by intro e he; simp [regyP] at he; rcases he with rfl | rfl | rfl | rfl | rfl | rfl | rfl | rfl | rfl <;> simp [regyP]) (by intro e he; simp [regyP] at he; rcases he with rfl | rfl | rfl | rfl | rfl | rfl | rfl | rfl | rfl <;> simp [regyP]) (fun _ => hcl)⟩
    simp only [execOp, ho, q13]
    clear hI TB TD KC HC hra hrs S hC
    go_simp
  · have q14 := TD 14 81 (.int .i64 m1) (by simp [regyP]) (S.w19_14.on hi)
    have hcl := hI.clo (14, 81, .int .i64 m1) (by simp [regyP]) (S.w19_14.on hi)
    refine S.p19.val (v := .int .i64 m1) (w' := w) (fun o ho => ?_) ⟨x, nb, hI.put 19 16 _ (by simp [regyP]) (by simp [regyP]) (by simp [regyP]) (by intro e he; simp [regyP] at he; rcases he with rfl | rfl | he <;> first | (simp [regyP]; done) | (intro h; exact hx e he (by rw [h]; simp [regyP]))) (by intro e he; simp [regyP] at he; rcases he with rfl | rfl | rfl | rfl | rfl | rfl | rfl | rfl | rfl <;> simp [regyP]) (by intro e he; simp [regyP] at he; rcases he with rfl | rfl | rfl | rfl | rfl | rfl | rfl | rfl | rfl <;> simp [regyP]) (fun _ => hcl)⟩
    simp only [execOp, ho, q14]
    clear hI TB TD KC HC hra hrs S hC
    go_simp
end Go.Proofs.Ytgikbpaejmdnoaa
