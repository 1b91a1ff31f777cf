/-
  The document's Start inside does (layer 12): its region.
-/
import Derived.Test.YtgikbpaejmdnoaaRG
import Derived.Test.YtgikbpaejmdnoaaRE
namespace Go.Proofs.Ytgikbpaejmdnoaa
open Go.RowKit
set_option linter.unusedVariables false
set_option maxRecDepth 20000
set_option linter.unusedSimpArgs false

def regxP (W : World) (B br ba bs : Nat) (most last : Int) (v : Value) (b1 b2 b3 : List UInt8) (now : Int) (t1 : Tq) (n1 m1 : Int) (ex : List (Nat × Value)) : RP (Option Addr × Nat) where
  W := W
  n := 128
  base := [(1, (.pointer (some ⟨br, 0, none⟩))), (5, (.pointer (some ⟨ba, 0, none⟩))), (7, (.pointer (some ⟨bs, 0, none⟩)))] ++ ex
  T := [(0, 32, (.pointer (some ⟨br, 0, none⟩))), (1, 33, (.pointer (some ⟨br, 0, none⟩))), (2, 34, (.agg #[.int .i64 most, .int .i64 last, v])), (3, 35, (.pointer (some ⟨ba, 1, none⟩))), (4, 36, (.string ⟨b1.toArray⟩)), (5, 37, (.pointer (some ⟨ba, 3, none⟩))), (6, 38, (.int .i64 now)), (7, 39, (.agg #[.string ⟨b2.toArray⟩, .string ⟨b3.toArray⟩]))]
  D := fun x => [(8, 40, .tuple #[(.agg #[.int .i64 t1.most, .int .i64 t1.last, .slice x.1 t1.l.length x.2]), .int .i64 n1, .int .i64 m1]), (9, 31, .tuple #[(.agg #[.int .i64 t1.most, .int .i64 t1.last, .slice x.1 t1.l.length x.2]), .int .i64 n1, .int .i64 m1]), (10, 41, (.agg #[.int .i64 t1.most, .int .i64 t1.last, .slice x.1 t1.l.length x.2])), (11, 42, .int .i64 n1), (12, 43, .int .i64 m1), (15, 9, .int .i64 n1), (16, 10, .int .i64 m1)]
  R := fun x u => OwnQ u B (.slice x.1 t1.l.length x.2) t1.l
  c := 8
  al := 13
  dal := 8
  st := 14
  Ty := 31
  zero := [.int .i64 0, .int .i64 0, .slice none 0 0]
  cells := fun x => [.int .i64 t1.most, .int .i64 t1.last, .slice x.1 t1.l.length x.2]
structure regxOps (ops : Array Oper) : Prop where
  sz : ops.size = 17
  p0 : OpIs ops 0 (some 32) (.move (.tmp 1))
  p1 : OpIs ops 1 (some 33) (.nilCheck (.tmp 32))
  p2 : OpIs ops 2 (some 34) (.load 31 (.tmp 33))
  p3 : OpIs ops 3 (some 35) (.fieldAddr 34 (.tmp 5) 1)
  p4 : OpIs ops 4 (some 36) (.load 9 (.tmp 35))
  p5 : OpIs ops 5 (some 37) (.fieldAddr 34 (.tmp 5) 3)
  p6 : OpIs ops 6 (some 38) (.load 3 (.tmp 37))
  p7 : OpIs ops 7 (some 39) (.load 40 (.tmp 7))
  p8 : OpIs ops 8 (some 40) (.call { callee := .value (.func 20), args := #[.tmp 34, .tmp 36, .tmp 38, .tmp 39], argTypes := #[28, 9, 3, 40] })
  p9 : OpIs ops 9 (some 31) (.move (.tmp 40))
  p10 : OpIs ops 10 (some 41) (.extract (.tmp 31) 0)
  p11 : OpIs ops 11 (some 42) (.extract (.tmp 31) 1)
  p12 : OpIs ops 12 (some 43) (.extract (.tmp 31) 2)
  p15 : OpIs ops 15 (some 9) (.assign (.tmp 42))
  p16 : OpIs ops 16 (some 10) (.assign (.tmp 43))
  p13 : OpIs ops 13 (some 8) (.alloc 31)
  p14 : OpIs ops 14 none (.store 31 (.tmp 8) (.tmp 41))
  w1_0 : Waits ops 1 0
  w2_1 : Waits ops 2 1
  w4_3 : Waits ops 4 3
  w6_5 : Waits ops 6 5
  w8_2 : Waits ops 8 2
  w8_4 : Waits ops 8 4
  w8_6 : Waits ops 8 6
  w8_7 : Waits ops 8 7
  w9_8 : Waits ops 9 8
  w10_9 : Waits ops 10 9
  w11_9 : Waits ops 11 9
  w12_9 : Waits ops 12 9
  w15_11 : Waits ops 15 11
  w16_12 : Waits ops 16 12
  w14_13 : Waits ops 14 13
  w14_10 : Waits ops 14 10
set_option maxHeartbeats 2000000 in
set_option maxRecDepth 100000 in
theorem regx_steps {ops : Array Oper} (S : regxOps ops) (W : World) (B br ba bs : Nat) (most last : Int) (v : Value) (b1 b2 b3 : List UInt8) (now : Int) (t1 : Tq) (n1 m1 : Int) (ex : List (Nat × Value))
    (HC : ∀ u : World, Below W.heap.size W u → u.cell? ⟨br, 0, none⟩ = some (.int .i64 most) ∧ u.cell? ⟨br, 1, none⟩ = some (.int .i64 last) ∧ u.cell? ⟨br, 2, none⟩ = some v ∧ u.cell? ⟨ba, 1, none⟩ = some (.string ⟨b1.toArray⟩) ∧ u.cell? ⟨ba, 3, none⟩ = some (.int .i64 now) ∧ u.cell? ⟨bs, 0, none⟩ = some (.string ⟨b2.toArray⟩) ∧ u.cell? ⟨bs, 1, none⟩ = some (.string ⟨b3.toArray⟩))
    (KC : ∀ u : World, Below W.heap.size W u → Calls Try.prog 20 #[(.agg #[.int .i64 most, .int .i64 last, v]), (.string ⟨b1.toArray⟩), (.int .i64 now), (.agg #[.string ⟨b2.toArray⟩, .string ⟨b3.toArray⟩])] u fun e u' => ∃ x : Option Addr × Nat, e = .returned (.tuple #[(.agg #[.int .i64 t1.most, .int .i64 t1.last, .slice x.1 t1.l.length x.2]), .int .i64 n1, .int .i64 m1]) ∧ (regxP W B br ba bs most last v b1 b2 b3 now t1 n1 m1 ex).R x u' ∧ Below u.heap.size u u')
    (hra : ∀ (x : Option Addr × Nat) (u : World) (o : Obj), (regxP W B br ba bs most last v b1 b2 b3 now t1 n1 m1 ex).R x u → (regxP W B br ba bs most last v b1 b2 b3 now t1 n1 m1 ex).R x (u.alloc o))
    (hrs : ∀ (x : Option Addr × Nat) (u : World) (nb : Nat), (regxP W B br ba bs most last v b1 b2 b3 now t1 n1 m1 ex).R x u → RowIs u nb 31 ([.int .i64 0, .int .i64 0, .slice none 0 0]) → (regxP W B br ba bs most last v b1 b2 b3 now t1 n1 m1 ex).R x (((u.setCell ⟨nb, 0, none⟩ (.int .i64 t1.most)).setCell ⟨nb, 1, none⟩ (.int .i64 t1.last)).setCell ⟨nb, 2, none⟩ (.slice x.1 t1.l.length x.2)))
    (hx : ∀ e ∈ ex, e.1 ∉ [32, 33, 34, 35, 36, 37, 38, 39, 40, 31, 41, 42, 43, 9, 10, 8])
    (Q : Exit → Act → World → Prop) (L : Array Bool) (a : Act) (w : World) (i : Nat) (hs : L.size = ops.size) (hi : i ∈ Region.ready .any ops L) (hI : ∃ x nb, GI (regxP W B br ba bs most last v b1 b2 b3 now t1 n1 m1 ex) L a w x nb) :
    wpOp Try.prog ops Q i (fun a' w' => ∃ x nb, GI (regxP W B br ba bs most last v b1 b2 b3 now t1 n1 m1 ex) (L.setIfInBounds i true) a' w' x nb) a w := by
  obtain ⟨x, nb, hI⟩ := hI
  have hL : L.size = 17 := by rw [hs, S.sz]
  have hn0 : L.getD i false = false := by
    have := (mem_ready.1 hi).1
    rw [Array.getD_eq_getD_getElem?] at this ⊢
    cases e : L[i]? with
    | none => rw [e] at this; simp at this
    | some b => rw [e] at this; simpa using this
  have hi18 : i < 17 := by
    obtain ⟨_, o, ho, _⟩ := mem_ready.1 hi
    rw [← S.sz]; exact (Array.getElem?_eq_some_iff.1 ho).1
  have bs1 : a.eval (.tmp 1) = (.pointer (some ⟨br, 0, none⟩)) := hI.base (1, (.pointer (some ⟨br, 0, none⟩))) (by simp [regxP])
  have bs5 : a.eval (.tmp 5) = (.pointer (some ⟨ba, 0, none⟩)) := hI.base (5, (.pointer (some ⟨ba, 0, none⟩))) (by simp [regxP])
  have bs7 : a.eval (.tmp 7) = (.pointer (some ⟨bs, 0, none⟩)) := hI.base (7, (.pointer (some ⟨bs, 0, none⟩))) (by simp [regxP])
  have TB : ∀ jj dd vv, (jj, dd, vv) ∈ (regxP W B br ba bs most last v b1 b2 b3 now t1 n1 m1 ex).T → L.getD jj false = true → a.eval (.tmp dd) = vv := fun jj dd vv hm hl => hI.tab (jj, dd, vv) hm hl
  have TD : ∀ jj dd vv, (jj, dd, vv) ∈ (regxP W B br ba bs most last v b1 b2 b3 now t1 n1 m1 ex).D x → L.getD jj false = true → a.eval (.tmp dd) = vv := fun jj dd vv hm hl => hI.dyn (jj, dd, vv) hm hl
  have hC := HC w hI.bel
  rcases (show i = 0 ∨ i = 1 ∨ i = 2 ∨ i = 3 ∨ i = 4 ∨ i = 5 ∨ i = 6 ∨ i = 7 ∨ i = 8 ∨ i = 9 ∨ i = 10 ∨ i = 11 ∨ i = 12 ∨ i = 13 ∨ i = 14 ∨ i = 15 ∨ i = 16 by omega) with rfl | rfl | rfl | rfl | rfl | rfl | rfl | rfl | rfl | rfl | rfl | rfl | rfl | rfl | rfl | rfl | rfl
  · refine S.p0.val (v := (.pointer (some ⟨br, 0, none⟩))) (w' := w) (fun o ho => ?_) ⟨x, nb, hI.put 0 32 _ (by simp [regxP]) (by simp [regxP]) (by simp [regxP]) (by intro e he; simp [regxP] at he; rcases he with rfl | rfl | rfl | he <;> first | (simp [regxP]; done) | (intro h; exact hx e he (by rw [h]; simp [regxP]))) (by intro e he; simp [regxP] at he; rcases he with rfl | rfl | rfl | rfl | rfl | rfl | rfl | rfl <;> simp [regxP]) (by intro e he; simp [regxP] at he; rcases he with rfl | rfl | rfl | rfl | rfl | rfl | rfl <;> simp [regxP]) (by rintro ⟨e, he, h⟩; simp [regxP] at he; rcases he with rfl | rfl | rfl | rfl | rfl | rfl | rfl <;> simp at h)⟩
    simp only [execOp, ho, bs1]
    obtain ⟨z0, z1, z2, z3, z4, z5, z6⟩ := hC
    clear hI TB TD KC HC hra hrs S
    go_simp
  · have q0 := TB 0 32 ((.pointer (some ⟨br, 0, none⟩))) (by simp [regxP]) (S.w1_0.on hi)
    refine S.p1.val (v := (.pointer (some ⟨br, 0, none⟩))) (w' := w) (fun o ho => ?_) ⟨x, nb, hI.put 1 33 _ (by simp [regxP]) (by simp [regxP]) (by simp [regxP]) (by intro e he; simp [regxP] at he; rcases he with rfl | rfl | rfl | he <;> first | (simp [regxP]; done) | (intro h; exact hx e he (by rw [h]; simp [regxP]))) (by intro e he; simp [regxP] at he; rcases he with rfl | rfl | rfl | rfl | rfl | rfl | rfl | rfl <;> simp [regxP]) (by intro e he; simp [regxP] at he; rcases he with rfl | rfl | rfl | rfl | rfl | rfl | rfl <;> simp [regxP]) (by rintro ⟨e, he, h⟩; simp [regxP] at he; rcases he with rfl | rfl | rfl | rfl | rfl | rfl | rfl <;> simp at h)⟩
    simp only [execOp, ho, q0]
    obtain ⟨z0, z1, z2, z3, z4, z5, z6⟩ := hC
    clear hI TB TD KC HC hra hrs S
    go_simp
  · have q1 := TB 1 33 ((.pointer (some ⟨br, 0, none⟩))) (by simp [regxP]) (S.w2_1.on hi)
    refine S.p2.val (v := (.agg #[.int .i64 most, .int .i64 last, v])) (w' := w) (fun o ho => ?_) ⟨x, nb, hI.put 2 34 _ (by simp [regxP]) (by simp [regxP]) (by simp [regxP]) (by intro e he; simp [regxP] at he; rcases he with rfl | rfl | rfl | he <;> first | (simp [regxP]; done) | (intro h; exact hx e he (by rw [h]; simp [regxP]))) (by intro e he; simp [regxP] at he; rcases he with rfl | rfl | rfl | rfl | rfl | rfl | rfl | rfl <;> simp [regxP]) (by intro e he; simp [regxP] at he; rcases he with rfl | rfl | rfl | rfl | rfl | rfl | rfl <;> simp [regxP]) (by rintro ⟨e, he, h⟩; simp [regxP] at he; rcases he with rfl | rfl | rfl | rfl | rfl | rfl | rfl <;> simp at h)⟩
    simp only [execOp, ho, q1]
    obtain ⟨z0, z1, z2, z3, z4, z5, z6⟩ := hC
    clear hI TB TD KC HC hra hrs S
    go_simp
  · refine S.p3.val (v := (.pointer (some ⟨ba, 1, none⟩))) (w' := w) (fun o ho => ?_) ⟨x, nb, hI.put 3 35 _ (by simp [regxP]) (by simp [regxP]) (by simp [regxP]) (by intro e he; simp [regxP] at he; rcases he with rfl | rfl | rfl | he <;> first | (simp [regxP]; done) | (intro h; exact hx e he (by rw [h]; simp [regxP]))) (by intro e he; simp [regxP] at he; rcases he with rfl | rfl | rfl | rfl | rfl | rfl | rfl | rfl <;> simp [regxP]) (by intro e he; simp [regxP] at he; rcases he with rfl | rfl | rfl | rfl | rfl | rfl | rfl <;> simp [regxP]) (by rintro ⟨e, he, h⟩; simp [regxP] at he; rcases he with rfl | rfl | rfl | rfl | rfl | rfl | rfl <;> simp at h)⟩
    simp only [execOp, ho, bs5]
    obtain ⟨z0, z1, z2, z3, z4, z5, z6⟩ := hC
    clear hI TB TD KC HC hra hrs S
    go_simp
  · have q3 := TB 3 35 ((.pointer (some ⟨ba, 1, none⟩))) (by simp [regxP]) (S.w4_3.on hi)
    refine S.p4.val (v := (.string ⟨b1.toArray⟩)) (w' := w) (fun o ho => ?_) ⟨x, nb, hI.put 4 36 _ (by simp [regxP]) (by simp [regxP]) (by simp [regxP]) (by intro e he; simp [regxP] at he; rcases he with rfl | rfl | rfl | he <;> first | (simp [regxP]; done) | (intro h; exact hx e he (by rw [h]; simp [regxP]))) (by intro e he; simp [regxP] at he; rcases he with rfl | rfl | rfl | rfl | rfl | rfl | rfl | rfl <;> simp [regxP]) (by intro e he; simp [regxP] at he; rcases he with rfl | rfl | rfl | rfl | rfl | rfl | rfl <;> simp [regxP]) (by rintro ⟨e, he, h⟩; simp [regxP] at he; rcases he with rfl | rfl | rfl | rfl | rfl | rfl | rfl <;> simp at h)⟩
    simp only [execOp, ho, q3]
    obtain ⟨z0, z1, z2, z3, z4, z5, z6⟩ := hC
    clear hI TB TD KC HC hra hrs S
    go_simp
  · refine S.p5.val (v := (.pointer (some ⟨ba, 3, none⟩))) (w' := w) (fun o ho => ?_) ⟨x, nb, hI.put 5 37 _ (by simp [regxP]) (by simp [regxP]) (by simp [regxP]) (by intro e he; simp [regxP] at he; rcases he with rfl | rfl | rfl | he <;> first | (simp [regxP]; done) | (intro h; exact hx e he (by rw [h]; simp [regxP]))) (by intro e he; simp [regxP] at he; rcases he with rfl | rfl | rfl | rfl | rfl | rfl | rfl | rfl <;> simp [regxP]) (by intro e he; simp [regxP] at he; rcases he with rfl | rfl | rfl | rfl | rfl | rfl | rfl <;> simp [regxP]) (by rintro ⟨e, he, h⟩; simp [regxP] at he; rcases he with rfl | rfl | rfl | rfl | rfl | rfl | rfl <;> simp at h)⟩
    simp only [execOp, ho, bs5]
    obtain ⟨z0, z1, z2, z3, z4, z5, z6⟩ := hC
    clear hI TB TD KC HC hra hrs S
    go_simp
  · have q5 := TB 5 37 ((.pointer (some ⟨ba, 3, none⟩))) (by simp [regxP]) (S.w6_5.on hi)
    refine S.p6.val (v := (.int .i64 now)) (w' := w) (fun o ho => ?_) ⟨x, nb, hI.put 6 38 _ (by simp [regxP]) (by simp [regxP]) (by simp [regxP]) (by intro e he; simp [regxP] at he; rcases he with rfl | rfl | rfl | he <;> first | (simp [regxP]; done) | (intro h; exact hx e he (by rw [h]; simp [regxP]))) (by intro e he; simp [regxP] at he; rcases he with rfl | rfl | rfl | rfl | rfl | rfl | rfl | rfl <;> simp [regxP]) (by intro e he; simp [regxP] at he; rcases he with rfl | rfl | rfl | rfl | rfl | rfl | rfl <;> simp [regxP]) (by rintro ⟨e, he, h⟩; simp [regxP] at he; rcases he with rfl | rfl | rfl | rfl | rfl | rfl | rfl <;> simp at h)⟩
    simp only [execOp, ho, q5]
    obtain ⟨z0, z1, z2, z3, z4, z5, z6⟩ := hC
    clear hI TB TD KC HC hra hrs S
    go_simp
  · refine S.p7.val (v := (.agg #[.string ⟨b2.toArray⟩, .string ⟨b3.toArray⟩])) (w' := w) (fun o ho => ?_) ⟨x, nb, hI.put 7 39 _ (by simp [regxP]) (by simp [regxP]) (by simp [regxP]) (by intro e he; simp [regxP] at he; rcases he with rfl | rfl | rfl | he <;> first | (simp [regxP]; done) | (intro h; exact hx e he (by rw [h]; simp [regxP]))) (by intro e he; simp [regxP] at he; rcases he with rfl | rfl | rfl | rfl | rfl | rfl | rfl | rfl <;> simp [regxP]) (by intro e he; simp [regxP] at he; rcases he with rfl | rfl | rfl | rfl | rfl | rfl | rfl <;> simp [regxP]) (by rintro ⟨e, he, h⟩; simp [regxP] at he; rcases he with rfl | rfl | rfl | rfl | rfl | rfl | rfl <;> simp at h)⟩
    simp only [execOp, ho, bs7]
    obtain ⟨z0, z1, z2, z3, z4, z5, z6⟩ := hC
    clear hI TB TD KC HC hra hrs S
    go_simp
  · have q2 := TB 2 34 ((.agg #[.int .i64 most, .int .i64 last, v])) (by simp [regxP]) (S.w8_2.on hi)
    have q4 := TB 4 36 ((.string ⟨b1.toArray⟩)) (by simp [regxP]) (S.w8_4.on hi)
    have q6 := TB 6 38 ((.int .i64 now)) (by simp [regxP]) (S.w8_6.on hi)
    have q7 := TB 7 39 ((.agg #[.string ⟨b2.toArray⟩, .string ⟨b3.toArray⟩])) (by simp [regxP]) (S.w8_7.on hi)
    refine S.p8.enter (vals := #[(.agg #[.int .i64 most, .int .i64 last, v]), (.string ⟨b1.toArray⟩), (.int .i64 now), (.agg #[.string ⟨b2.toArray⟩, .string ⟨b3.toArray⟩])]) (by simp only [List.map_toArray, List.map_cons, List.map_nil, q2, q4, q6, q7]) (fun xs u => by kernel_rfl) ?_
    refine (KC w hI.bel).mono ?_
    rintro e w' ⟨x', rfl, hr, hb⟩
    exact ⟨_, rfl, x', nb, hI.call (x' := x') (by rw [hL]; simp [regxP]) 40 _ hn0 (by simp [regxP]) (by simp [regxP]) (by simp [regxP]) (by intro e he; simp [regxP] at he; rcases he with rfl | rfl | rfl | he <;> first | (simp [regxP]; done) | (intro h; exact hx e he (by rw [h]; simp [regxP]))) (by intro e he; simp [regxP] at he; rcases he with rfl | rfl | rfl | rfl | rfl | rfl | rfl | rfl <;> simp [regxP]) (by intro e he; simp [regxP] at he; rcases he with rfl | rfl | rfl | rfl | rfl | rfl | rfl <;> simp [regxP]) (by simp [regxP]) hb hr⟩
  · have q8 := TD 8 40 (.tuple #[(.agg #[.int .i64 t1.most, .int .i64 t1.last, .slice x.1 t1.l.length x.2]), .int .i64 n1, .int .i64 m1]) (by simp [regxP]) (S.w9_8.on hi)
    have hcl := hI.clo (8, 40, .tuple #[(.agg #[.int .i64 t1.most, .int .i64 t1.last, .slice x.1 t1.l.length x.2]), .int .i64 n1, .int .i64 m1]) (by simp [regxP]) (S.w9_8.on hi)
    refine S.p9.val (v := .tuple #[(.agg #[.int .i64 t1.most, .int .i64 t1.last, .slice x.1 t1.l.length x.2]), .int .i64 n1, .int .i64 m1]) (w' := w) (fun o ho => ?_) ⟨x, nb, hI.put 9 31 _ (by simp [regxP]) (by simp [regxP]) (by simp [regxP]) (by intro e he; simp [regxP] at he; rcases he with rfl | rfl | rfl | he <;> first | (simp [regxP]; done) | (intro h; exact hx e he (by rw [h]; simp [regxP]))) (by intro e he; simp [regxP] at he; rcases he with rfl | rfl | rfl | rfl | rfl | rfl | rfl | rfl <;> simp [regxP]) (by intro e he; simp [regxP] at he; rcases he with rfl | rfl | rfl | rfl | rfl | rfl | rfl <;> simp [regxP]) (fun _ => hcl)⟩
    simp only [execOp, ho, q8]
    clear hI TB TD KC HC hra hrs S hC
    go_simp
  · have q9 := TD 9 31 (.tuple #[(.agg #[.int .i64 t1.most, .int .i64 t1.last, .slice x.1 t1.l.length x.2]), .int .i64 n1, .int .i64 m1]) (by simp [regxP]) (S.w10_9.on hi)
    have hcl := hI.clo (9, 31, .tuple #[(.agg #[.int .i64 t1.most, .int .i64 t1.last, .slice x.1 t1.l.length x.2]), .int .i64 n1, .int .i64 m1]) (by simp [regxP]) (S.w10_9.on hi)
    refine S.p10.val (v := (.agg #[.int .i64 t1.most, .int .i64 t1.last, .slice x.1 t1.l.length x.2])) (w' := w) (fun o ho => ?_) ⟨x, nb, hI.put 10 41 _ (by simp [regxP]) (by simp [regxP]) (by simp [regxP]) (by intro e he; simp [regxP] at he; rcases he with rfl | rfl | rfl | he <;> first | (simp [regxP]; done) | (intro h; exact hx e he (by rw [h]; simp [regxP]))) (by intro e he; simp [regxP] at he; rcases he with rfl | rfl | rfl | rfl | rfl | rfl | rfl | rfl <;> simp [regxP]) (by intro e he; simp [regxP] at he; rcases he with rfl | rfl | rfl | rfl | rfl | rfl | rfl <;> simp [regxP]) (fun _ => hcl)⟩
    simp only [execOp, ho, q9]
    clear hI TB TD KC HC hra hrs S hC
    go_simp
  · have q9 := TD 9 31 (.tuple #[(.agg #[.int .i64 t1.most, .int .i64 t1.last, .slice x.1 t1.l.length x.2]), .int .i64 n1, .int .i64 m1]) (by simp [regxP]) (S.w11_9.on hi)
    have hcl := hI.clo (9, 31, .tuple #[(.agg #[.int .i64 t1.most, .int .i64 t1.last, .slice x.1 t1.l.length x.2]), .int .i64 n1, .int .i64 m1]) (by simp [regxP]) (S.w11_9.on hi)
    refine S.p11.val (v := .int .i64 n1) (w' := w) (fun o ho => ?_) ⟨x, nb, hI.put 11 42 _ (by simp [regxP]) (by simp [regxP]) (by simp [regxP]) (by intro e he; simp [regxP] at he; rcases he with rfl | rfl | rfl | he <;> first | (simp [regxP]; done) | (intro h; exact hx e he (by rw [h]; simp [regxP]))) (by intro e he; simp [regxP] at he; rcases he with rfl | rfl | rfl | rfl | rfl | rfl | rfl | rfl <;> simp [regxP]) (by intro e he; simp [regxP] at he; rcases he with rfl | rfl | rfl | rfl | rfl | rfl | rfl <;> simp [regxP]) (fun _ => hcl)⟩
    simp only [execOp, ho, q9]
    clear hI TB TD KC HC hra hrs S hC
    go_simp
  · have q9 := TD 9 31 (.tuple #[(.agg #[.int .i64 t1.most, .int .i64 t1.last, .slice x.1 t1.l.length x.2]), .int .i64 n1, .int .i64 m1]) (by simp [regxP]) (S.w12_9.on hi)
    have hcl := hI.clo (9, 31, .tuple #[(.agg #[.int .i64 t1.most, .int .i64 t1.last, .slice x.1 t1.l.length x.2]), .int .i64 n1, .int .i64 m1]) (by simp [regxP]) (S.w12_9.on hi)
    refine S.p12.val (v := .int .i64 m1) (w' := w) (fun o ho => ?_) ⟨x, nb, hI.put 12 43 _ (by simp [regxP]) (by simp [regxP]) (by simp [regxP]) (by intro e he; simp [regxP] at he; rcases he with rfl | rfl | rfl | he <;> first | (simp [regxP]; done) | (intro h; exact hx e he (by rw [h]; simp [regxP]))) (by intro e he; simp [regxP] at he; rcases he with rfl | rfl | rfl | rfl | rfl | rfl | rfl | rfl <;> simp [regxP]) (by intro e he; simp [regxP] at he; rcases he with rfl | rfl | rfl | rfl | rfl | rfl | rfl <;> simp [regxP]) (fun _ => hcl)⟩
    simp only [execOp, ho, q9]
    clear hI TB TD KC HC hra hrs S hC
    go_simp
  · refine S.p13.val (v := .pointer (some ⟨w.heap.size, 0, none⟩)) (w' := w.alloc (.cells ([.int .i64 0, .int .i64 0, .slice none 0 0] : List Value).toArray 31)) (fun o ho => ?_) ⟨x, w.heap.size, hI.alloc (by rw [hL]; simp [regxP]) hn0 (by simp [regxP]) (by simp [regxP]) (by intro e he; simp [regxP] at he; rcases he with rfl | rfl | rfl | he <;> first | (simp [regxP]; done) | (intro h; exact hx e he (by rw [h]; simp [regxP]))) (by intro e he; simp [regxP] at he; rcases he with rfl | rfl | rfl | rfl | rfl | rfl | rfl | rfl <;> simp [regxP]) (by intro e he; simp [regxP] at he; rcases he with rfl | rfl | rfl | rfl | rfl | rfl | rfl <;> simp [regxP]) (hra x)⟩
    simp only [execOp, ho]
    clear hI TB TD KC HC hra hrs S hC
    go_simp
  · have q := TD 10 41 ((.agg #[.int .i64 t1.most, .int .i64 t1.last, .slice x.1 t1.l.length x.2])) (by simp [regxP]) (S.w14_10.on hi)
    have hcl := hI.clo (10, 41, (.agg #[.int .i64 t1.most, .int .i64 t1.last, .slice x.1 t1.l.length x.2])) (by simp [regxP]) (S.w14_10.on hi)
    have hal := S.w14_13.on hi
    obtain ⟨ht0, htn, hrow⟩ := hI.al hal
    rw [show L.getD (regxP W B br ba bs most last v b1 b2 b3 now t1 n1 m1 ex).st false = false from hn0, if_neg (by decide)] at hrow
    have hrow' : RowIs w nb 31 ([.int .i64 0, .int .i64 0, .slice none 0 0]) := hrow
    have t0' : a.eval (.tmp 8) = .pointer (some ⟨nb, 0, none⟩) := ht0
    have hI' := hI.store (w' := ((w.setCell ⟨nb, 0, none⟩ (.int .i64 t1.most)).setCell ⟨nb, 1, none⟩ (.int .i64 t1.last)).setCell ⟨nb, 2, none⟩ (.slice x.1 t1.l.length x.2)) (by rw [hL]; simp [regxP]) hn0 hcl hal (by simp [regxP]) (by intro e he; simp [regxP] at he; rcases he with rfl | rfl | rfl | rfl | rfl | rfl | rfl | rfl <;> simp [regxP]) (by intro e he; simp [regxP] at he; rcases he with rfl | rfl | rfl | rfl | rfl | rfl | rfl <;> simp [regxP]) (sv_below3 (Below.refl _ w) nb htn _ _ _) (hrs x w nb (hI.r hcl) hrow') (sv_store3 hrow' _ _ _)
    obtain ⟨y0, y1, y2, y3, y4, y5⟩ := hrow'.sv3
    refine S.p14.skip (w' := _) (fun o ho => ?_) ⟨x, nb, hI'⟩
    simp only [execOp, ho, t0', q]
    clear hI TB TD KC HC hra hrs S hC hI' hrow hrow'
    go_simp
  · have q11 := TD 11 42 (.int .i64 n1) (by simp [regxP]) (S.w15_11.on hi)
    have hcl := hI.clo (11, 42, .int .i64 n1) (by simp [regxP]) (S.w15_11.on hi)
    refine S.p15.val (v := .int .i64 n1) (w' := w) (fun o ho => ?_) ⟨x, nb, hI.put 15 9 _ (by simp [regxP]) (by simp [regxP]) (by simp [regxP]) (by intro e he; simp [regxP] at he; rcases he with rfl | rfl | rfl | he <;> first | (simp [regxP]; done) | (intro h; exact hx e he (by rw [h]; simp [regxP]))) (by intro e he; simp [regxP] at he; rcases he with rfl | rfl | rfl | rfl | rfl | rfl | rfl | rfl <;> simp [regxP]) (by intro e he; simp [regxP] at he; rcases he with rfl | rfl | rfl | rfl | rfl | rfl | rfl <;> simp [regxP]) (fun _ => hcl)⟩
    simp only [execOp, ho, q11]
    clear hI TB TD KC HC hra hrs S hC
    go_simp
  · have q12 := TD 12 43 (.int .i64 m1) (by simp [regxP]) (S.w16_12.on hi)
    have hcl := hI.clo (12, 43, .int .i64 m1) (by simp [regxP]) (S.w16_12.on hi)
    refine S.p16.val (v := .int .i64 m1) (w' := w) (fun o ho => ?_) ⟨x, nb, hI.put 16 10 _ (by simp [regxP]) (by simp [regxP]) (by simp [regxP]) (by intro e he; simp [regxP] at he; rcases he with rfl | rfl | rfl | he <;> first | (simp [regxP]; done) | (intro h; exact hx e he (by rw [h]; simp [regxP]))) (by intro e he; simp [regxP] at he; rcases he with rfl | rfl | rfl | rfl | rfl | rfl | rfl | rfl <;> simp [regxP]) (by intro e he; simp [regxP] at he; rcases he with rfl | rfl | rfl | rfl | rfl | rfl | rfl <;> simp [regxP]) (fun _ => hcl)⟩
    simp only [execOp, ho, q12]
    clear hI TB TD KC HC hra hrs S hC
    go_simp
end Go.Proofs.Ytgikbpaejmdnoaa
