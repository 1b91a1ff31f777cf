/-
  The document's Step inside does (layer 12): its region.
-/
import Derived.Test.YtgikbpaejmdnoaaRG
import Derived.Test.YtgikbpaejmdnoaaRE
namespace Go.Proofs.Ytgikbpaejmdnoaa
open Go.RowKit
set_option linter.unusedVariables false
set_option maxRecDepth 20000
set_option linter.unusedSimpArgs false

def regzP (W : World) (B br ba : Nat) (most last : Int) (v : Value) (now : Int) (t1 : Tq) (ds : List Du) (ex : List (Nat × Value)) : RP ((Option Addr × Nat) × (Option Addr × Nat)) where
  W := W
  n := 128
  base := [(1, (.pointer (some ⟨br, 0, none⟩))), (5, (.pointer (some ⟨ba, 0, none⟩)))] ++ ex
  T := [(0, 111, (.pointer (some ⟨br, 0, none⟩))), (1, 112, (.pointer (some ⟨br, 0, none⟩))), (2, 113, (.agg #[.int .i64 most, .int .i64 last, v])), (3, 114, (.pointer (some ⟨ba, 3, none⟩))), (4, 115, (.int .i64 now))]
  D := fun x => [(5, 116, .tuple #[(.agg #[.int .i64 t1.most, .int .i64 t1.last, .slice x.1.1 t1.l.length x.1.2]), .slice x.2.1 ds.length x.2.2]), (6, 110, .tuple #[(.agg #[.int .i64 t1.most, .int .i64 t1.last, .slice x.1.1 t1.l.length x.1.2]), .slice x.2.1 ds.length x.2.2]), (7, 117, (.agg #[.int .i64 t1.most, .int .i64 t1.last, .slice x.1.1 t1.l.length x.1.2])), (8, 118, .slice x.2.1 ds.length x.2.2), (11, 21, .slice x.2.1 ds.length x.2.2)]
  R := fun x u => OwnQ u B (.slice x.1.1 t1.l.length x.1.2) t1.l ∧ OwnD u B (.slice x.2.1 ds.length x.2.2) ds
  c := 5
  al := 9
  dal := 20
  st := 10
  Ty := 31
  zero := [.int .i64 0, .int .i64 0, .slice none 0 0]
  cells := fun x => [.int .i64 t1.most, .int .i64 t1.last, .slice x.1.1 t1.l.length x.1.2]
structure regzOps (ops : Array Oper) : Prop where
  sz : ops.size = 12
  p0 : OpIs ops 0 (some 111) (.move (.tmp 1))
  p1 : OpIs ops 1 (some 112) (.nilCheck (.tmp 111))
  p2 : OpIs ops 2 (some 113) (.load 31 (.tmp 112))
  p3 : OpIs ops 3 (some 114) (.fieldAddr 34 (.tmp 5) 3)
  p4 : OpIs ops 4 (some 115) (.load 3 (.tmp 114))
  p5 : OpIs ops 5 (some 116) (.call { callee := .value (.func 22), args := #[.tmp 113, .tmp 115], argTypes := #[28, 3] })
  p6 : OpIs ops 6 (some 110) (.move (.tmp 116))
  p7 : OpIs ops 7 (some 117) (.extract (.tmp 110) 0)
  p8 : OpIs ops 8 (some 118) (.extract (.tmp 110) 1)
  p11 : OpIs ops 11 (some 21) (.assign (.tmp 118))
  p9 : OpIs ops 9 (some 20) (.alloc 31)
  p10 : OpIs ops 10 none (.store 31 (.tmp 20) (.tmp 117))
  w1_0 : Waits ops 1 0
  w2_1 : Waits ops 2 1
  w4_3 : Waits ops 4 3
  w5_2 : Waits ops 5 2
  w5_4 : Waits ops 5 4
  w6_5 : Waits ops 6 5
  w7_6 : Waits ops 7 6
  w8_6 : Waits ops 8 6
  w11_8 : Waits ops 11 8
  w10_9 : Waits ops 10 9
  w10_7 : Waits ops 10 7
set_option maxHeartbeats 2000000 in
set_option maxRecDepth 100000 in
theorem regz_steps {ops : Array Oper} (S : regzOps ops) (W : World) (B br ba : Nat) (most last : Int) (v : Value) (now : Int) (t1 : Tq) (ds : List Du) (ex : List (Nat × Value))
    (HC : ∀ u : World, Below W.heap.size W u → u.cell? ⟨br, 0, none⟩ = some (.int .i64 most) ∧ u.cell? ⟨br, 1, none⟩ = some (.int .i64 last) ∧ u.cell? ⟨br, 2, none⟩ = some v ∧ u.cell? ⟨ba, 3, none⟩ = some (.int .i64 now))
    (KC : ∀ u : World, Below W.heap.size W u → Calls Try.prog 22 #[(.agg #[.int .i64 most, .int .i64 last, v]), (.int .i64 now)] u fun e u' => ∃ x : (Option Addr × Nat) × (Option Addr × Nat), e = .returned (.tuple #[(.agg #[.int .i64 t1.most, .int .i64 t1.last, .slice x.1.1 t1.l.length x.1.2]), .slice x.2.1 ds.length x.2.2]) ∧ (regzP W B br ba most last v now t1 ds ex).R x u' ∧ Below u.heap.size u u')
    (hra : ∀ (x : (Option Addr × Nat) × (Option Addr × Nat)) (u : World) (o : Obj), (regzP W B br ba most last v now t1 ds ex).R x u → (regzP W B br ba most last v now t1 ds ex).R x (u.alloc o))
    (hrs : ∀ (x : (Option Addr × Nat) × (Option Addr × Nat)) (u : World) (nb : Nat), (regzP W B br ba most last v now t1 ds ex).R x u → RowIs u nb 31 ([.int .i64 0, .int .i64 0, .slice none 0 0]) → (regzP W B br ba most last v now t1 ds ex).R x (((u.setCell ⟨nb, 0, none⟩ (.int .i64 t1.most)).setCell ⟨nb, 1, none⟩ (.int .i64 t1.last)).setCell ⟨nb, 2, none⟩ (.slice x.1.1 t1.l.length x.1.2)))
    (hx : ∀ e ∈ ex, e.1 ∉ [111, 112, 113, 114, 115, 116, 110, 117, 118, 21, 20])
    (Q : Exit → Act → World → Prop) (L : Array Bool) (a : Act) (w : World) (i : Nat) (hs : L.size = ops.size) (hi : i ∈ Region.ready .any ops L) (hI : ∃ x nb, GI (regzP W B br ba most last v now t1 ds ex) L a w x nb) :
    wpOp Try.prog ops Q i (fun a' w' => ∃ x nb, GI (regzP W B br ba most last v now t1 ds ex) (L.setIfInBounds i true) a' w' x nb) a w := by
  obtain ⟨x, nb, hI⟩ := hI
  have hL : L.size = 12 := by rw [hs, S.sz]
  have hn0 : L.getD i false = false := by
    have := (mem_ready.1 hi).1
    rw [Array.getD_eq_getD_getElem?] at this ⊢
    cases e : L[i]? with
    | none => rw [e] at this; simp at this
    | some b => rw [e] at this; simpa using this
  have hi18 : i < 12 := by
    obtain ⟨_, o, ho, _⟩ := mem_ready.1 hi
    rw [← S.sz]; exact (Array.getElem?_eq_some_iff.1 ho).1
  have bs1 : a.eval (.tmp 1) = (.pointer (some ⟨br, 0, none⟩)) := hI.base (1, (.pointer (some ⟨br, 0, none⟩))) (by simp [regzP])
  have bs5 : a.eval (.tmp 5) = (.pointer (some ⟨ba, 0, none⟩)) := hI.base (5, (.pointer (some ⟨ba, 0, none⟩))) (by simp [regzP])
  have TB : ∀ jj dd vv, (jj, dd, vv) ∈ (regzP W B br ba most last v now t1 ds ex).T → L.getD jj false = true → a.eval (.tmp dd) = vv := fun jj dd vv hm hl => hI.tab (jj, dd, vv) hm hl
  have TD : ∀ jj dd vv, (jj, dd, vv) ∈ (regzP W B br ba most last v now t1 ds ex).D x → L.getD jj false = true → a.eval (.tmp dd) = vv := fun jj dd vv hm hl => hI.dyn (jj, dd, vv) hm hl
  have hC := HC w hI.bel
  rcases (show i = 0 ∨ i = 1 ∨ i = 2 ∨ i = 3 ∨ i = 4 ∨ i = 5 ∨ i = 6 ∨ i = 7 ∨ i = 8 ∨ i = 9 ∨ i = 10 ∨ i = 11 by omega) with rfl | rfl | rfl | rfl | rfl | rfl | rfl | rfl | rfl | rfl | rfl | rfl
  · refine S.p0.val (v := (.pointer (some ⟨br, 0, none⟩))) (w' := w) (fun o ho => ?_) ⟨x, nb, hI.put 0 111 _ (by simp [regzP]) (by simp [regzP]) (by simp [regzP]) (by intro e he; simp [regzP] at he; rcases he with rfl | rfl | he <;> first | (simp [regzP]; done) | (intro h; exact hx e he (by rw [h]; simp [regzP]))) (by intro e he; simp [regzP] at he; rcases he with rfl | rfl | rfl | rfl | rfl <;> simp [regzP]) (by intro e he; simp [regzP] at he; rcases he with rfl | rfl | rfl | rfl | rfl <;> simp [regzP]) (by rintro ⟨e, he, h⟩; simp [regzP] at he; rcases he with rfl | rfl | rfl | rfl | rfl <;> simp at h)⟩
    simp only [execOp, ho, bs1]
    obtain ⟨z0, z1, z2, z3⟩ := hC
    clear hI TB TD KC HC hra hrs S
    go_simp
  · have q0 := TB 0 111 ((.pointer (some ⟨br, 0, none⟩))) (by simp [regzP]) (S.w1_0.on hi)
    refine S.p1.val (v := (.pointer (some ⟨br, 0, none⟩))) (w' := w) (fun o ho => ?_) ⟨x, nb, hI.put 1 112 _ (by simp [regzP]) (by simp [regzP]) (by simp [regzP]) (by intro e he; simp [regzP] at he; rcases he with rfl | rfl | he <;> first | (simp [regzP]; done) | (intro h; exact hx e he (by rw [h]; simp [regzP]))) (by intro e he; simp [regzP] at he; rcases he with rfl | rfl | rfl | rfl | rfl <;> simp [regzP]) (by intro e he; simp [regzP] at he; rcases he with rfl | rfl | rfl | rfl | rfl <;> simp [regzP]) (by rintro ⟨e, he, h⟩; simp [regzP] at he; rcases he with rfl | rfl | rfl | rfl | rfl <;> simp at h)⟩
    simp only [execOp, ho, q0]
    obtain ⟨z0, z1, z2, z3⟩ := hC
    clear hI TB TD KC HC hra hrs S
    go_simp
  · have q1 := TB 1 112 ((.pointer (some ⟨br, 0, none⟩))) (by simp [regzP]) (S.w2_1.on hi)
    refine S.p2.val (v := (.agg #[.int .i64 most, .int .i64 last, v])) (w' := w) (fun o ho => ?_) ⟨x, nb, hI.put 2 113 _ (by simp [regzP]) (by simp [regzP]) (by simp [regzP]) (by intro e he; simp [regzP] at he; rcases he with rfl | rfl | he <;> first | (simp [regzP]; done) | (intro h; exact hx e he (by rw [h]; simp [regzP]))) (by intro e he; simp [regzP] at he; rcases he with rfl | rfl | rfl | rfl | rfl <;> simp [regzP]) (by intro e he; simp [regzP] at he; rcases he with rfl | rfl | rfl | rfl | rfl <;> simp [regzP]) (by rintro ⟨e, he, h⟩; simp [regzP] at he; rcases he with rfl | rfl | rfl | rfl | rfl <;> simp at h)⟩
    simp only [execOp, ho, q1]
    obtain ⟨z0, z1, z2, z3⟩ := hC
    clear hI TB TD KC HC hra hrs S
    go_simp
  · refine S.p3.val (v := (.pointer (some ⟨ba, 3, none⟩))) (w' := w) (fun o ho => ?_) ⟨x, nb, hI.put 3 114 _ (by simp [regzP]) (by simp [regzP]) (by simp [regzP]) (by intro e he; simp [regzP] at he; rcases he with rfl | rfl | he <;> first | (simp [regzP]; done) | (intro h; exact hx e he (by rw [h]; simp [regzP]))) (by intro e he; simp [regzP] at he; rcases he with rfl | rfl | rfl | rfl | rfl <;> simp [regzP]) (by intro e he; simp [regzP] at he; rcases he with rfl | rfl | rfl | rfl | rfl <;> simp [regzP]) (by rintro ⟨e, he, h⟩; simp [regzP] at he; rcases he with rfl | rfl | rfl | rfl | rfl <;> simp at h)⟩
    simp only [execOp, ho, bs5]
    obtain ⟨z0, z1, z2, z3⟩ := hC
    clear hI TB TD KC HC hra hrs S
    go_simp
  · have q3 := TB 3 114 ((.pointer (some ⟨ba, 3, none⟩))) (by simp [regzP]) (S.w4_3.on hi)
    refine S.p4.val (v := (.int .i64 now)) (w' := w) (fun o ho => ?_) ⟨x, nb, hI.put 4 115 _ (by simp [regzP]) (by simp [regzP]) (by simp [regzP]) (by intro e he; simp [regzP] at he; rcases he with rfl | rfl | he <;> first | (simp [regzP]; done) | (intro h; exact hx e he (by rw [h]; simp [regzP]))) (by intro e he; simp [regzP] at he; rcases he with rfl | rfl | rfl | rfl | rfl <;> simp [regzP]) (by intro e he; simp [regzP] at he; rcases he with rfl | rfl | rfl | rfl | rfl <;> simp [regzP]) (by rintro ⟨e, he, h⟩; simp [regzP] at he; rcases he with rfl | rfl | rfl | rfl | rfl <;> simp at h)⟩
    simp only [execOp, ho, q3]
    obtain ⟨z0, z1, z2, z3⟩ := hC
    clear hI TB TD KC HC hra hrs S
    go_simp
  · have q2 := TB 2 113 ((.agg #[.int .i64 most, .int .i64 last, v])) (by simp [regzP]) (S.w5_2.on hi)
    have q4 := TB 4 115 ((.int .i64 now)) (by simp [regzP]) (S.w5_4.on hi)
    refine S.p5.enter (vals := #[(.agg #[.int .i64 most, .int .i64 last, v]), (.int .i64 now)]) (by simp only [List.map_toArray, List.map_cons, List.map_nil, q2, q4]) (fun xs u => by kernel_rfl) ?_
    refine (KC w hI.bel).mono ?_
    rintro e w' ⟨x', rfl, hr, hb⟩
    exact ⟨_, rfl, x', nb, hI.call (x' := x') (by rw [hL]; simp [regzP]) 116 _ hn0 (by simp [regzP]) (by simp [regzP]) (by simp [regzP]) (by intro e he; simp [regzP] at he; rcases he with rfl | rfl | he <;> first | (simp [regzP]; done) | (intro h; exact hx e he (by rw [h]; simp [regzP]))) (by intro e he; simp [regzP] at he; rcases he with rfl | rfl | rfl | rfl | rfl <;> simp [regzP]) (by intro e he; simp [regzP] at he; rcases he with rfl | rfl | rfl | rfl | rfl <;> simp [regzP]) (by simp [regzP]) hb hr⟩
  · have q5 := TD 5 116 (.tuple #[(.agg #[.int .i64 t1.most, .int .i64 t1.last, .slice x.1.1 t1.l.length x.1.2]), .slice x.2.1 ds.length x.2.2]) (by simp [regzP]) (S.w6_5.on hi)
    have hcl := hI.clo (5, 116, .tuple #[(.agg #[.int .i64 t1.most, .int .i64 t1.last, .slice x.1.1 t1.l.length x.1.2]), .slice x.2.1 ds.length x.2.2]) (by simp [regzP]) (S.w6_5.on hi)
    refine S.p6.val (v := .tuple #[(.agg #[.int .i64 t1.most, .int .i64 t1.last, .slice x.1.1 t1.l.length x.1.2]), .slice x.2.1 ds.length x.2.2]) (w' := w) (fun o ho => ?_) ⟨x, nb, hI.put 6 110 _ (by simp [regzP]) (by simp [regzP]) (by simp [regzP]) (by intro e he; simp [regzP] at he; rcases he with rfl | rfl | he <;> first | (simp [regzP]; done) | (intro h; exact hx e he (by rw [h]; simp [regzP]))) (by intro e he; simp [regzP] at he; rcases he with rfl | rfl | rfl | rfl | rfl <;> simp [regzP]) (by intro e he; simp [regzP] at he; rcases he with rfl | rfl | rfl | rfl | rfl <;> simp [regzP]) (fun _ => hcl)⟩
    simp only [execOp, ho, q5]
    clear hI TB TD KC HC hra hrs S hC
    go_simp
  · have q6 := TD 6 110 (.tuple #[(.agg #[.int .i64 t1.most, .int .i64 t1.last, .slice x.1.1 t1.l.length x.1.2]), .slice x.2.1 ds.length x.2.2]) (by simp [regzP]) (S.w7_6.on hi)
    have hcl := hI.clo (6, 110, .tuple #[(.agg #[.int .i64 t1.most, .int .i64 t1.last, .slice x.1.1 t1.l.length x.1.2]), .slice x.2.1 ds.length x.2.2]) (by simp [regzP]) (S.w7_6.on hi)
    refine S.p7.val (v := (.agg #[.int .i64 t1.most, .int .i64 t1.last, .slice x.1.1 t1.l.length x.1.2])) (w' := w) (fun o ho => ?_) ⟨x, nb, hI.put 7 117 _ (by simp [regzP]) (by simp [regzP]) (by simp [regzP]) (by intro e he; simp [regzP] at he; rcases he with rfl | rfl | he <;> first | (simp [regzP]; done) | (intro h; exact hx e he (by rw [h]; simp [regzP]))) (by intro e he; simp [regzP] at he; rcases he with rfl | rfl | rfl | rfl | rfl <;> simp [regzP]) (by intro e he; simp [regzP] at he; rcases he with rfl | rfl | rfl | rfl | rfl <;> simp [regzP]) (fun _ => hcl)⟩
    simp only [execOp, ho, q6]
    clear hI TB TD KC HC hra hrs S hC
    go_simp
  · have q6 := TD 6 110 (.tuple #[(.agg #[.int .i64 t1.most, .int .i64 t1.last, .slice x.1.1 t1.l.length x.1.2]), .slice x.2.1 ds.length x.2.2]) (by simp [regzP]) (S.w8_6.on hi)
    have hcl := hI.clo (6, 110, .tuple #[(.agg #[.int .i64 t1.most, .int .i64 t1.last, .slice x.1.1 t1.l.length x.1.2]), .slice x.2.1 ds.length x.2.2]) (by simp [regzP]) (S.w8_6.on hi)
    refine S.p8.val (v := .slice x.2.1 ds.length x.2.2) (w' := w) (fun o ho => ?_) ⟨x, nb, hI.put 8 118 _ (by simp [regzP]) (by simp [regzP]) (by simp [regzP]) (by intro e he; simp [regzP] at he; rcases he with rfl | rfl | he <;> first | (simp [regzP]; done) | (intro h; exact hx e he (by rw [h]; simp [regzP]))) (by intro e he; simp [regzP] at he; rcases he with rfl | rfl | rfl | rfl | rfl <;> simp [regzP]) (by intro e he; simp [regzP] at he; rcases he with rfl | rfl | rfl | rfl | rfl <;> simp [regzP]) (fun _ => hcl)⟩
    simp only [execOp, ho, q6]
    clear hI TB TD KC HC hra hrs S hC
    go_simp
  · refine S.p9.val (v := .pointer (some ⟨w.heap.size, 0, none⟩)) (w' := w.alloc (.cells ([.int .i64 0, .int .i64 0, .slice none 0 0] : List Value).toArray 31)) (fun o ho => ?_) ⟨x, w.heap.size, hI.alloc (by rw [hL]; simp [regzP]) hn0 (by simp [regzP]) (by simp [regzP]) (by intro e he; simp [regzP] at he; rcases he with rfl | rfl | he <;> first | (simp [regzP]; done) | (intro h; exact hx e he (by rw [h]; simp [regzP]))) (by intro e he; simp [regzP] at he; rcases he with rfl | rfl | rfl | rfl | rfl <;> simp [regzP]) (by intro e he; simp [regzP] at he; rcases he with rfl | rfl | rfl | rfl | rfl <;> simp [regzP]) (hra x)⟩
    simp only [execOp, ho]
    clear hI TB TD KC HC hra hrs S hC
    go_simp
  · have q := TD 7 117 ((.agg #[.int .i64 t1.most, .int .i64 t1.last, .slice x.1.1 t1.l.length x.1.2])) (by simp [regzP]) (S.w10_7.on hi)
    have hcl := hI.clo (7, 117, (.agg #[.int .i64 t1.most, .int .i64 t1.last, .slice x.1.1 t1.l.length x.1.2])) (by simp [regzP]) (S.w10_7.on hi)
    have hal := S.w10_9.on hi
    obtain ⟨ht0, htn, hrow⟩ := hI.al hal
    rw [show L.getD (regzP W B br ba most last v now t1 ds ex).st false = false from hn0, if_neg (by decide)] at hrow
    have hrow' : RowIs w nb 31 ([.int .i64 0, .int .i64 0, .slice none 0 0]) := hrow
    have t0' : a.eval (.tmp 20) = .pointer (some ⟨nb, 0, none⟩) := ht0
    have hI' := hI.store (w' := ((w.setCell ⟨nb, 0, none⟩ (.int .i64 t1.most)).setCell ⟨nb, 1, none⟩ (.int .i64 t1.last)).setCell ⟨nb, 2, none⟩ (.slice x.1.1 t1.l.length x.1.2)) (by rw [hL]; simp [regzP]) hn0 hcl hal (by simp [regzP]) (by intro e he; simp [regzP] at he; rcases he with rfl | rfl | rfl | rfl | rfl <;> simp [regzP]) (by intro e he; simp [regzP] at he; rcases he with rfl | rfl | rfl | rfl | rfl <;> simp [regzP]) (sv_below3 (Below.refl _ w) nb htn _ _ _) (hrs x w nb (hI.r hcl) hrow') (sv_store3 hrow' _ _ _)
    obtain ⟨y0, y1, y2, y3, y4, y5⟩ := hrow'.sv3
    refine S.p10.skip (w' := _) (fun o ho => ?_) ⟨x, nb, hI'⟩
    simp only [execOp, ho, t0', q]
    clear hI TB TD KC HC hra hrs S hC hI' hrow hrow'
    go_simp
  · have q8 := TD 8 118 (.slice x.2.1 ds.length x.2.2) (by simp [regzP]) (S.w11_8.on hi)
    have hcl := hI.clo (8, 118, .slice x.2.1 ds.length x.2.2) (by simp [regzP]) (S.w11_8.on hi)
    refine S.p11.val (v := .slice x.2.1 ds.length x.2.2) (w' := w) (fun o ho => ?_) ⟨x, nb, hI.put 11 21 _ (by simp [regzP]) (by simp [regzP]) (by simp [regzP]) (by intro e he; simp [regzP] at he; rcases he with rfl | rfl | he <;> first | (simp [regzP]; done) | (intro h; exact hx e he (by rw [h]; simp [regzP]))) (by intro e he; simp [regzP] at he; rcases he with rfl | rfl | rfl | rfl | rfl <;> simp [regzP]) (by intro e he; simp [regzP] at he; rcases he with rfl | rfl | rfl | rfl | rfl <;> simp [regzP]) (fun _ => hcl)⟩
    simp only [execOp, ho, q8]
    clear hI TB TD KC HC hra hrs S hC
    go_simp
end Go.Proofs.Ytgikbpaejmdnoaa
