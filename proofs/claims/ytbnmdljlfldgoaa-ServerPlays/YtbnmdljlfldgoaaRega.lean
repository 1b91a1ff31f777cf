/-
  The document's Answer inside does: its region.
-/
import Derived.Test.YtbnmdljlfldgoaaRegCall
namespace Go.Proofs.Ytbnmdljlfldgoaa
open Go.RowKit
set_option linter.unusedVariables false
set_option maxRecDepth 20000
set_option linter.unusedSimpArgs false

def regaP (W : World) (B br ba bs : Nat) (most last : Int) (v : Value) (id : Int) (b1 b2 : List UInt8) (t1 : Tb) (m1 : Int) (ex : List (Nat × Value)) : RP (Option Addr × Nat) where
  W := W
  n := 108
  base := [(1, (.pointer (some ⟨br, 0, none⟩))), (5, (.pointer (some ⟨ba, 0, none⟩))), (7, (.pointer (some ⟨bs, 0, none⟩)))] ++ ex
  T := [(0, 70, (.pointer (some ⟨br, 0, none⟩))), (1, 71, (.pointer (some ⟨br, 0, none⟩))), (2, 72, (.agg #[.int .i64 most, .int .i64 last, v])), (3, 73, (.pointer (some ⟨ba, 4, none⟩))), (4, 74, (.int .i64 id)), (5, 75, (.agg #[.string ⟨b1.toArray⟩, .string ⟨b2.toArray⟩]))]
  D := fun x => [(6, 76, .tuple #[(.agg #[.int .i64 t1.most, .int .i64 t1.last, .slice x.1 t1.l.length x.2]), .int .i64 m1]), (7, 69, .tuple #[(.agg #[.int .i64 t1.most, .int .i64 t1.last, .slice x.1 t1.l.length x.2]), .int .i64 m1]), (8, 77, (.agg #[.int .i64 t1.most, .int .i64 t1.last, .slice x.1 t1.l.length x.2])), (9, 78, .int .i64 m1), (12, 14, .int .i64 m1)]
  R := fun x u => OwnC u B (.slice x.1 t1.l.length x.2) t1.l
  c := 6
  al := 10
  dal := 13
  st := 11
  Ty := 31
  zero := [.int .i64 0, .int .i64 0, .slice none 0 0]
  cells := fun x => [.int .i64 t1.most, .int .i64 t1.last, .slice x.1 t1.l.length x.2]
structure regaOps (ops : Array Oper) : Prop where
  sz : ops.size = 13
  p0 : OpIs ops 0 (some 70) (.move (.tmp 1))
  p1 : OpIs ops 1 (some 71) (.nilCheck (.tmp 70))
  p2 : OpIs ops 2 (some 72) (.load 31 (.tmp 71))
  p3 : OpIs ops 3 (some 73) (.fieldAddr 33 (.tmp 5) 4)
  p4 : OpIs ops 4 (some 74) (.load 3 (.tmp 73))
  p5 : OpIs ops 5 (some 75) (.load 39 (.tmp 7))
  p6 : OpIs ops 6 (some 76) (.call { callee := .value (.func 23), args := #[.tmp 72, .tmp 74, .tmp 75], argTypes := #[28, 3, 39] })
  p7 : OpIs ops 7 (some 69) (.move (.tmp 76))
  p8 : OpIs ops 8 (some 77) (.extract (.tmp 69) 0)
  p9 : OpIs ops 9 (some 78) (.extract (.tmp 69) 1)
  p12 : OpIs ops 12 (some 14) (.assign (.tmp 78))
  p10 : OpIs ops 10 (some 13) (.alloc 31)
  p11 : OpIs ops 11 none (.store 31 (.tmp 13) (.tmp 77))
  w1_0 : Waits ops 1 0
  w2_1 : Waits ops 2 1
  w4_3 : Waits ops 4 3
  w6_2 : Waits ops 6 2
  w6_4 : Waits ops 6 4
  w6_5 : Waits ops 6 5
  w7_6 : Waits ops 7 6
  w8_7 : Waits ops 8 7
  w9_7 : Waits ops 9 7
  w12_9 : Waits ops 12 9
  w11_10 : Waits ops 11 10
  w11_8 : Waits ops 11 8
set_option maxHeartbeats 2000000 in
set_option maxRecDepth 100000 in
theorem rega_steps {ops : Array Oper} (S : regaOps ops) (W : World) (B br ba bs : Nat) (most last : Int) (v : Value) (id : Int) (b1 b2 : List UInt8) (t1 : Tb) (m1 : Int) (ex : List (Nat × Value))
    (HC : ∀ u : World, Below W.heap.size W u → u.cell? ⟨br, 0, none⟩ = some (.int .i64 most) ∧ u.cell? ⟨br, 1, none⟩ = some (.int .i64 last) ∧ u.cell? ⟨br, 2, none⟩ = some v ∧ u.cell? ⟨ba, 4, none⟩ = some (.int .i64 id) ∧ u.cell? ⟨bs, 0, none⟩ = some (.string ⟨b1.toArray⟩) ∧ u.cell? ⟨bs, 1, none⟩ = some (.string ⟨b2.toArray⟩))
    (KC : ∀ u : World, Below W.heap.size W u → Calls Try.prog 23 #[(.agg #[.int .i64 most, .int .i64 last, v]), (.int .i64 id), (.agg #[.string ⟨b1.toArray⟩, .string ⟨b2.toArray⟩])] u fun e u' => ∃ x : Option Addr × Nat, e = .returned (.tuple #[(.agg #[.int .i64 t1.most, .int .i64 t1.last, .slice x.1 t1.l.length x.2]), .int .i64 m1]) ∧ (regaP W B br ba bs most last v id b1 b2 t1 m1 ex).R x u' ∧ Below u.heap.size u u')
    (hra : ∀ (x : Option Addr × Nat) (u : World) (o : Obj), (regaP W B br ba bs most last v id b1 b2 t1 m1 ex).R x u → (regaP W B br ba bs most last v id b1 b2 t1 m1 ex).R x (u.alloc o))
    (hrs : ∀ (x : Option Addr × Nat) (u : World) (nb : Nat), (regaP W B br ba bs most last v id b1 b2 t1 m1 ex).R x u → RowIs u nb 31 ([.int .i64 0, .int .i64 0, .slice none 0 0]) → (regaP W B br ba bs most last v id b1 b2 t1 m1 ex).R x (((u.setCell ⟨nb, 0, none⟩ (.int .i64 t1.most)).setCell ⟨nb, 1, none⟩ (.int .i64 t1.last)).setCell ⟨nb, 2, none⟩ (.slice x.1 t1.l.length x.2)))
    (hx : ∀ e ∈ ex, e.1 ∉ [70, 71, 72, 73, 74, 75, 76, 69, 77, 78, 14, 13])
    (Q : Exit → Act → World → Prop) (L : Array Bool) (a : Act) (w : World) (i : Nat) (hs : L.size = ops.size) (hi : i ∈ Region.ready .any ops L) (hI : ∃ x nb, GI (regaP W B br ba bs most last v id b1 b2 t1 m1 ex) L a w x nb) :
    wpOp Try.prog ops Q i (fun a' w' => ∃ x nb, GI (regaP W B br ba bs most last v id b1 b2 t1 m1 ex) (L.setIfInBounds i true) a' w' x nb) a w := by
  obtain ⟨x, nb, hI⟩ := hI
  have hL : L.size = 13 := by rw [hs, S.sz]
  have hn0 : L.getD i false = false := by
    have := (mem_ready.1 hi).1
    rw [Array.getD_eq_getD_getElem?] at this ⊢
    cases e : L[i]? with
    | none => rw [e] at this; simp at this
    | some b => rw [e] at this; simpa using this
  have hi18 : i < 13 := by
    obtain ⟨_, o, ho, _⟩ := mem_ready.1 hi
    rw [← S.sz]; exact (Array.getElem?_eq_some_iff.1 ho).1
  have bs1 : a.eval (.tmp 1) = (.pointer (some ⟨br, 0, none⟩)) := hI.base (1, (.pointer (some ⟨br, 0, none⟩))) (by simp [regaP])
  have bs5 : a.eval (.tmp 5) = (.pointer (some ⟨ba, 0, none⟩)) := hI.base (5, (.pointer (some ⟨ba, 0, none⟩))) (by simp [regaP])
  have bs7 : a.eval (.tmp 7) = (.pointer (some ⟨bs, 0, none⟩)) := hI.base (7, (.pointer (some ⟨bs, 0, none⟩))) (by simp [regaP])
  have TB : ∀ jj dd vv, (jj, dd, vv) ∈ (regaP W B br ba bs most last v id b1 b2 t1 m1 ex).T → L.getD jj false = true → a.eval (.tmp dd) = vv := fun jj dd vv hm hl => hI.tab (jj, dd, vv) hm hl
  have TD : ∀ jj dd vv, (jj, dd, vv) ∈ (regaP W B br ba bs most last v id b1 b2 t1 m1 ex).D x → L.getD jj false = true → a.eval (.tmp dd) = vv := fun jj dd vv hm hl => hI.dyn (jj, dd, vv) hm hl
  have hC := HC w hI.bel
  rcases (show i = 0 ∨ i = 1 ∨ i = 2 ∨ i = 3 ∨ i = 4 ∨ i = 5 ∨ i = 6 ∨ i = 7 ∨ i = 8 ∨ i = 9 ∨ i = 10 ∨ i = 11 ∨ i = 12 by omega) with rfl | rfl | rfl | rfl | rfl | rfl | rfl | rfl | rfl | rfl | rfl | rfl | rfl
  · refine S.p0.val (v := (.pointer (some ⟨br, 0, none⟩))) (w' := w) (fun o ho => ?_) ⟨x, nb, hI.put 0 70 _ (by simp [regaP]) (by simp [regaP]) (by simp [regaP]) (by intro e he; simp [regaP] at he; rcases he with rfl | rfl | rfl | he <;> first | (simp [regaP]; done) | (intro h; exact hx e he (by rw [h]; simp [regaP]))) (by intro e he; simp [regaP] at he; rcases he with rfl | rfl | rfl | rfl | rfl | rfl <;> simp [regaP]) (by intro e he; simp [regaP] at he; rcases he with rfl | rfl | rfl | rfl | rfl <;> simp [regaP]) (by rintro ⟨e, he, h⟩; simp [regaP] at he; rcases he with rfl | rfl | rfl | rfl | rfl <;> simp at h)⟩
    simp only [execOp, ho, bs1]
    obtain ⟨z0, z1, z2, z3, z4, z5⟩ := hC
    clear hI TB TD KC HC hra hrs S
    go_simp
  · have q0 := TB 0 70 ((.pointer (some ⟨br, 0, none⟩))) (by simp [regaP]) (S.w1_0.on hi)
    refine S.p1.val (v := (.pointer (some ⟨br, 0, none⟩))) (w' := w) (fun o ho => ?_) ⟨x, nb, hI.put 1 71 _ (by simp [regaP]) (by simp [regaP]) (by simp [regaP]) (by intro e he; simp [regaP] at he; rcases he with rfl | rfl | rfl | he <;> first | (simp [regaP]; done) | (intro h; exact hx e he (by rw [h]; simp [regaP]))) (by intro e he; simp [regaP] at he; rcases he with rfl | rfl | rfl | rfl | rfl | rfl <;> simp [regaP]) (by intro e he; simp [regaP] at he; rcases he with rfl | rfl | rfl | rfl | rfl <;> simp [regaP]) (by rintro ⟨e, he, h⟩; simp [regaP] at he; rcases he with rfl | rfl | rfl | rfl | rfl <;> simp at h)⟩
    simp only [execOp, ho, q0]
    obtain ⟨z0, z1, z2, z3, z4, z5⟩ := hC
    clear hI TB TD KC HC hra hrs S
    go_simp
  · have q1 := TB 1 71 ((.pointer (some ⟨br, 0, none⟩))) (by simp [regaP]) (S.w2_1.on hi)
    refine S.p2.val (v := (.agg #[.int .i64 most, .int .i64 last, v])) (w' := w) (fun o ho => ?_) ⟨x, nb, hI.put 2 72 _ (by simp [regaP]) (by simp [regaP]) (by simp [regaP]) (by intro e he; simp [regaP] at he; rcases he with rfl | rfl | rfl | he <;> first | (simp [regaP]; done) | (intro h; exact hx e he (by rw [h]; simp [regaP]))) (by intro e he; simp [regaP] at he; rcases he with rfl | rfl | rfl | rfl | rfl | rfl <;> simp [regaP]) (by intro e he; simp [regaP] at he; rcases he with rfl | rfl | rfl | rfl | rfl <;> simp [regaP]) (by rintro ⟨e, he, h⟩; simp [regaP] at he; rcases he with rfl | rfl | rfl | rfl | rfl <;> simp at h)⟩
    simp only [execOp, ho, q1]
    obtain ⟨z0, z1, z2, z3, z4, z5⟩ := hC
    clear hI TB TD KC HC hra hrs S
    go_simp
  · refine S.p3.val (v := (.pointer (some ⟨ba, 4, none⟩))) (w' := w) (fun o ho => ?_) ⟨x, nb, hI.put 3 73 _ (by simp [regaP]) (by simp [regaP]) (by simp [regaP]) (by intro e he; simp [regaP] at he; rcases he with rfl | rfl | rfl | he <;> first | (simp [regaP]; done) | (intro h; exact hx e he (by rw [h]; simp [regaP]))) (by intro e he; simp [regaP] at he; rcases he with rfl | rfl | rfl | rfl | rfl | rfl <;> simp [regaP]) (by intro e he; simp [regaP] at he; rcases he with rfl | rfl | rfl | rfl | rfl <;> simp [regaP]) (by rintro ⟨e, he, h⟩; simp [regaP] at he; rcases he with rfl | rfl | rfl | rfl | rfl <;> simp at h)⟩
    simp only [execOp, ho, bs5]
    obtain ⟨z0, z1, z2, z3, z4, z5⟩ := hC
    clear hI TB TD KC HC hra hrs S
    go_simp
  · have q3 := TB 3 73 ((.pointer (some ⟨ba, 4, none⟩))) (by simp [regaP]) (S.w4_3.on hi)
    refine S.p4.val (v := (.int .i64 id)) (w' := w) (fun o ho => ?_) ⟨x, nb, hI.put 4 74 _ (by simp [regaP]) (by simp [regaP]) (by simp [regaP]) (by intro e he; simp [regaP] at he; rcases he with rfl | rfl | rfl | he <;> first | (simp [regaP]; done) | (intro h; exact hx e he (by rw [h]; simp [regaP]))) (by intro e he; simp [regaP] at he; rcases he with rfl | rfl | rfl | rfl | rfl | rfl <;> simp [regaP]) (by intro e he; simp [regaP] at he; rcases he with rfl | rfl | rfl | rfl | rfl <;> simp [regaP]) (by rintro ⟨e, he, h⟩; simp [regaP] at he; rcases he with rfl | rfl | rfl | rfl | rfl <;> simp at h)⟩
    simp only [execOp, ho, q3]
    obtain ⟨z0, z1, z2, z3, z4, z5⟩ := hC
    clear hI TB TD KC HC hra hrs S
    go_simp
  · refine S.p5.val (v := (.agg #[.string ⟨b1.toArray⟩, .string ⟨b2.toArray⟩])) (w' := w) (fun o ho => ?_) ⟨x, nb, hI.put 5 75 _ (by simp [regaP]) (by simp [regaP]) (by simp [regaP]) (by intro e he; simp [regaP] at he; rcases he with rfl | rfl | rfl | he <;> first | (simp [regaP]; done) | (intro h; exact hx e he (by rw [h]; simp [regaP]))) (by intro e he; simp [regaP] at he; rcases he with rfl | rfl | rfl | rfl | rfl | rfl <;> simp [regaP]) (by intro e he; simp [regaP] at he; rcases he with rfl | rfl | rfl | rfl | rfl <;> simp [regaP]) (by rintro ⟨e, he, h⟩; simp [regaP] at he; rcases he with rfl | rfl | rfl | rfl | rfl <;> simp at h)⟩
    simp only [execOp, ho, bs7]
    obtain ⟨z0, z1, z2, z3, z4, z5⟩ := hC
    clear hI TB TD KC HC hra hrs S
    go_simp
  · have q2 := TB 2 72 ((.agg #[.int .i64 most, .int .i64 last, v])) (by simp [regaP]) (S.w6_2.on hi)
    have q4 := TB 4 74 ((.int .i64 id)) (by simp [regaP]) (S.w6_4.on hi)
    have q5 := TB 5 75 ((.agg #[.string ⟨b1.toArray⟩, .string ⟨b2.toArray⟩])) (by simp [regaP]) (S.w6_5.on hi)
    refine S.p6.enter (vals := #[(.agg #[.int .i64 most, .int .i64 last, v]), (.int .i64 id), (.agg #[.string ⟨b1.toArray⟩, .string ⟨b2.toArray⟩])]) (by simp only [List.map_toArray, List.map_cons, List.map_nil, q2, q4, q5]) (fun xs u => by kernel_rfl) ?_
    refine (KC w hI.bel).mono ?_
    rintro e w' ⟨x', rfl, hr, hb⟩
    exact ⟨_, rfl, x', nb, hI.call (x' := x') (by rw [hL]; simp [regaP]) 76 _ hn0 (by simp [regaP]) (by simp [regaP]) (by simp [regaP]) (by intro e he; simp [regaP] at he; rcases he with rfl | rfl | rfl | he <;> first | (simp [regaP]; done) | (intro h; exact hx e he (by rw [h]; simp [regaP]))) (by intro e he; simp [regaP] at he; rcases he with rfl | rfl | rfl | rfl | rfl | rfl <;> simp [regaP]) (by intro e he; simp [regaP] at he; rcases he with rfl | rfl | rfl | rfl | rfl <;> simp [regaP]) (by simp [regaP]) hb hr⟩
  · have q6 := TD 6 76 (.tuple #[(.agg #[.int .i64 t1.most, .int .i64 t1.last, .slice x.1 t1.l.length x.2]), .int .i64 m1]) (by simp [regaP]) (S.w7_6.on hi)
    have hcl := hI.clo (6, 76, .tuple #[(.agg #[.int .i64 t1.most, .int .i64 t1.last, .slice x.1 t1.l.length x.2]), .int .i64 m1]) (by simp [regaP]) (S.w7_6.on hi)
    refine S.p7.val (v := .tuple #[(.agg #[.int .i64 t1.most, .int .i64 t1.last, .slice x.1 t1.l.length x.2]), .int .i64 m1]) (w' := w) (fun o ho => ?_) ⟨x, nb, hI.put 7 69 _ (by simp [regaP]) (by simp [regaP]) (by simp [regaP]) (by intro e he; simp [regaP] at he; rcases he with rfl | rfl | rfl | he <;> first | (simp [regaP]; done) | (intro h; exact hx e he (by rw [h]; simp [regaP]))) (by intro e he; simp [regaP] at he; rcases he with rfl | rfl | rfl | rfl | rfl | rfl <;> simp [regaP]) (by intro e he; simp [regaP] at he; rcases he with rfl | rfl | rfl | rfl | rfl <;> simp [regaP]) (fun _ => hcl)⟩
    simp only [execOp, ho, q6]
    clear hI TB TD KC HC hra hrs S hC
    go_simp
  · have q7 := TD 7 69 (.tuple #[(.agg #[.int .i64 t1.most, .int .i64 t1.last, .slice x.1 t1.l.length x.2]), .int .i64 m1]) (by simp [regaP]) (S.w8_7.on hi)
    have hcl := hI.clo (7, 69, .tuple #[(.agg #[.int .i64 t1.most, .int .i64 t1.last, .slice x.1 t1.l.length x.2]), .int .i64 m1]) (by simp [regaP]) (S.w8_7.on hi)
    refine S.p8.val (v := (.agg #[.int .i64 t1.most, .int .i64 t1.last, .slice x.1 t1.l.length x.2])) (w' := w) (fun o ho => ?_) ⟨x, nb, hI.put 8 77 _ (by simp [regaP]) (by simp [regaP]) (by simp [regaP]) (by intro e he; simp [regaP] at he; rcases he with rfl | rfl | rfl | he <;> first | (simp [regaP]; done) | (intro h; exact hx e he (by rw [h]; simp [regaP]))) (by intro e he; simp [regaP] at he; rcases he with rfl | rfl | rfl | rfl | rfl | rfl <;> simp [regaP]) (by intro e he; simp [regaP] at he; rcases he with rfl | rfl | rfl | rfl | rfl <;> simp [regaP]) (fun _ => hcl)⟩
    simp only [execOp, ho, q7]
    clear hI TB TD KC HC hra hrs S hC
    go_simp
  · have q7 := TD 7 69 (.tuple #[(.agg #[.int .i64 t1.most, .int .i64 t1.last, .slice x.1 t1.l.length x.2]), .int .i64 m1]) (by simp [regaP]) (S.w9_7.on hi)
    have hcl := hI.clo (7, 69, .tuple #[(.agg #[.int .i64 t1.most, .int .i64 t1.last, .slice x.1 t1.l.length x.2]), .int .i64 m1]) (by simp [regaP]) (S.w9_7.on hi)
    refine S.p9.val (v := .int .i64 m1) (w' := w) (fun o ho => ?_) ⟨x, nb, hI.put 9 78 _ (by simp [regaP]) (by simp [regaP]) (by simp [regaP]) (by intro e he; simp [regaP] at he; rcases he with rfl | rfl | rfl | he <;> first | (simp [regaP]; done) | (intro h; exact hx e he (by rw [h]; simp [regaP]))) (by intro e he; simp [regaP] at he; rcases he with rfl | rfl | rfl | rfl | rfl | rfl <;> simp [regaP]) (by intro e he; simp [regaP] at he; rcases he with rfl | rfl | rfl | rfl | rfl <;> simp [regaP]) (fun _ => hcl)⟩
    simp only [execOp, ho, q7]
    clear hI TB TD KC HC hra hrs S hC
    go_simp
  · refine S.p10.val (v := .pointer (some ⟨w.heap.size, 0, none⟩)) (w' := w.alloc (.cells ([.int .i64 0, .int .i64 0, .slice none 0 0] : List Value).toArray 31)) (fun o ho => ?_) ⟨x, w.heap.size, hI.alloc (by rw [hL]; simp [regaP]) hn0 (by simp [regaP]) (by simp [regaP]) (by intro e he; simp [regaP] at he; rcases he with rfl | rfl | rfl | he <;> first | (simp [regaP]; done) | (intro h; exact hx e he (by rw [h]; simp [regaP]))) (by intro e he; simp [regaP] at he; rcases he with rfl | rfl | rfl | rfl | rfl | rfl <;> simp [regaP]) (by intro e he; simp [regaP] at he; rcases he with rfl | rfl | rfl | rfl | rfl <;> simp [regaP]) (hra x)⟩
    simp only [execOp, ho]
    clear hI TB TD KC HC hra hrs S hC
    go_simp
  · have q := TD 8 77 ((.agg #[.int .i64 t1.most, .int .i64 t1.last, .slice x.1 t1.l.length x.2])) (by simp [regaP]) (S.w11_8.on hi)
    have hcl := hI.clo (8, 77, (.agg #[.int .i64 t1.most, .int .i64 t1.last, .slice x.1 t1.l.length x.2])) (by simp [regaP]) (S.w11_8.on hi)
    have hal := S.w11_10.on hi
    obtain ⟨ht0, htn, hrow⟩ := hI.al hal
    rw [show L.getD (regaP W B br ba bs most last v id b1 b2 t1 m1 ex).st false = false from hn0, if_neg (by decide)] at hrow
    have hrow' : RowIs w nb 31 ([.int .i64 0, .int .i64 0, .slice none 0 0]) := hrow
    have t0' : a.eval (.tmp 13) = .pointer (some ⟨nb, 0, none⟩) := ht0
    have hI' := hI.store (w' := ((w.setCell ⟨nb, 0, none⟩ (.int .i64 t1.most)).setCell ⟨nb, 1, none⟩ (.int .i64 t1.last)).setCell ⟨nb, 2, none⟩ (.slice x.1 t1.l.length x.2)) (by rw [hL]; simp [regaP]) hn0 hcl hal (by simp [regaP]) (by intro e he; simp [regaP] at he; rcases he with rfl | rfl | rfl | rfl | rfl | rfl <;> simp [regaP]) (by intro e he; simp [regaP] at he; rcases he with rfl | rfl | rfl | rfl | rfl <;> simp [regaP]) (sv_below3 (Below.refl _ w) nb htn _ _ _) (hrs x w nb (hI.r hcl) hrow') (sv_store3 hrow' _ _ _)
    obtain ⟨y0, y1, y2, y3, y4, y5⟩ := hrow'.sv3
    refine S.p11.skip (w' := _) (fun o ho => ?_) ⟨x, nb, hI'⟩
    simp only [execOp, ho, t0', q]
    clear hI TB TD KC HC hra hrs S hC hI' hrow hrow'
    go_simp
  · have q9 := TD 9 78 (.int .i64 m1) (by simp [regaP]) (S.w12_9.on hi)
    have hcl := hI.clo (9, 78, .int .i64 m1) (by simp [regaP]) (S.w12_9.on hi)
    refine S.p12.val (v := .int .i64 m1) (w' := w) (fun o ho => ?_) ⟨x, nb, hI.put 12 14 _ (by simp [regaP]) (by simp [regaP]) (by simp [regaP]) (by intro e he; simp [regaP] at he; rcases he with rfl | rfl | rfl | he <;> first | (simp [regaP]; done) | (intro h; exact hx e he (by rw [h]; simp [regaP]))) (by intro e he; simp [regaP] at he; rcases he with rfl | rfl | rfl | rfl | rfl | rfl <;> simp [regaP]) (by intro e he; simp [regaP] at he; rcases he with rfl | rfl | rfl | rfl | rfl <;> simp [regaP]) (fun _ => hcl)⟩
    simp only [execOp, ho, q9]
    clear hI TB TD KC HC hra hrs S hC
    go_simp
end Go.Proofs.Ytbnmdljlfldgoaa
