/-
  Base texts, one behind another: Regr, Regw.
-/
import Derived.Test.YtgikbpaejmdnoaaRG
import Derived.Test.YtgikbpaejmdnoaaRA

/-
  Response (layer 12): its region where an answer is not the last.
-/
namespace Go.Proofs.Ytgikbpaejmdnoaa
open Go.RowKit
set_option linter.unusedVariables false
set_option maxRecDepth 20000
set_option linter.unusedSimpArgs false

def regrP (W : World) (bt b8 g : Nat) (most last : Int) (n cap k : Nat) (hk : k < n) (idv : Int) (ex : List (Nat × Value)) : SP where
  W1 := { W with drawn := W.drawn + 1 }
  W2 := ((({ W with drawn := W.drawn + 1 }).setCell ⟨b8, 0, none⟩ (.int .i64 most)).setCell ⟨b8, 1, none⟩ (.int .i64 last)).setCell ⟨b8, 2, none⟩ (.slice (some ⟨g, 0, none⟩) n cap)
  n := 84
  base := [(4, (.pointer (some ⟨bt, 0, none⟩))), (8, (.pointer (some ⟨b8, 0, none⟩))), (12, (.int .i64 k))] ++ ex
  T := [(0, 55, (.agg #[.int .i64 most, .int .i64 last, .slice (some ⟨g, 0, none⟩) n cap])), (1, 56, (.pointer (some ⟨bt, 2, none⟩))), (2, 57, (.slice (some ⟨g, 0, none⟩) n cap)), (3, 58, (.int .i64 k)), (4, 59, (.pointer (some ⟨g, k * 7, none⟩))), (5, 60, (.pointer (some ⟨g, k * 7, none⟩))), (6, 61, (.int .i64 idv)), (8, 9, (.int .i64 idv)), (9, 10, (.bool false)), (10, 11, (.int .i64 0))]
  st := 7
structure regrOps (ops : Array Oper) : Prop where
  sz : ops.size = 11
  p0 : OpIs ops 0 (some 55) (.load 31 (.tmp 4))
  p1 : OpIs ops 1 (some 56) (.fieldAddr 31 (.tmp 4) 2)
  p2 : OpIs ops 2 (some 57) (.load 29 (.tmp 56))
  p3 : OpIs ops 3 (some 58) (.move (.tmp 12))
  p4 : OpIs ops 4 (some 59) (.indexAddr 29 (.tmp 57) (.tmp 58))
  p5 : OpIs ops 5 (some 60) (.fieldAddr 78 (.tmp 59) 0)
  p6 : OpIs ops 6 (some 61) (.load 3 (.tmp 60))
  p8 : OpIs ops 8 (some 9) (.assign (.tmp 61))
  p9 : OpIs ops 9 (some 10) (.assign (.const (.bool false)))
  p10 : OpIs ops 10 (some 11) (.assign (.const (.int .i64 0)))
  p7 : OpIs ops 7 none (.store 31 (.tmp 8) (.tmp 55))
  w2_1 : Waits ops 2 1
  w4_2 : Waits ops 4 2
  w4_3 : Waits ops 4 3
  w5_4 : Waits ops 5 4
  w6_5 : Waits ops 6 5
  w8_6 : Waits ops 8 6
  w7_0 : Waits ops 7 0
set_option maxHeartbeats 2000000 in
set_option maxRecDepth 100000 in
theorem regr_steps {ops : Array Oper} (S : regrOps ops) (W : World) (bt b8 g : Nat) (most last : Int) (n cap k : Nat) (hk : k < n) (idv : Int) (ex : List (Nat × Value))
    (HC : ∀ u : World, u = (regrP W bt b8 g most last n cap k hk idv ex).W1 ∨ u = (regrP W bt b8 g most last n cap k hk idv ex).W2 → u.cell? ⟨bt, 0, none⟩ = some (.int .i64 most) ∧ u.cell? ⟨bt, 1, none⟩ = some (.int .i64 last) ∧ u.cell? ⟨bt, 2, none⟩ = some (.slice (some ⟨g, 0, none⟩) n cap) ∧ u.cell? ⟨g, k * 7, none⟩ = some (.int .i64 idv))
    (HR : ∃ y0 y1 y2, RowIs { W with drawn := W.drawn + 1 } b8 31 [y0, y1, y2])
    (hx : ∀ e ∈ ex, e.1 ∉ [55, 56, 57, 58, 59, 60, 61, 9, 10, 11])
    (Q : Exit → Act → World → Prop) (L : Array Bool) (a : Act) (w : World) (i : Nat) (hs : L.size = ops.size) (hi : i ∈ Region.ready .any ops L) (hI : SI (regrP W bt b8 g most last n cap k hk idv ex) L a w) :
    wpOp Try.prog ops Q i (SI (regrP W bt b8 g most last n cap k hk idv ex) (L.setIfInBounds i true)) a w := by
  have hL : L.size = 11 := by rw [hs, S.sz]
  have hn0 : L.getD i false = false := by
    have := (mem_ready.1 hi).1
    rw [Array.getD_eq_getD_getElem?] at this ⊢
    cases e : L[i]? with
    | none => rw [e] at this; simp at this
    | some b => rw [e] at this; simpa using this
  have hi18 : i < 11 := by
    obtain ⟨_, o, ho, _⟩ := mem_ready.1 hi
    rw [← S.sz]; exact (Array.getElem?_eq_some_iff.1 ho).1
  have evc : ∀ v, a.eval (.const v) = v := fun _ => rfl
  have bs4 : a.eval (.tmp 4) = (.pointer (some ⟨bt, 0, none⟩)) := hI.base (4, (.pointer (some ⟨bt, 0, none⟩))) (by simp [regrP])
  have bs8 : a.eval (.tmp 8) = (.pointer (some ⟨b8, 0, none⟩)) := hI.base (8, (.pointer (some ⟨b8, 0, none⟩))) (by simp [regrP])
  have bs12 : a.eval (.tmp 12) = (.int .i64 k) := hI.base (12, (.int .i64 k)) (by simp [regrP])
  have TB : ∀ jj dd vv, (jj, dd, vv) ∈ (regrP W bt b8 g most last n cap k hk idv ex).T → L.getD jj false = true → a.eval (.tmp dd) = vv := fun jj dd vv hm hl => hI.tab (jj, dd, vv) hm hl
  have hC := HC w hI.two
  rcases (show i = 0 ∨ i = 1 ∨ i = 2 ∨ i = 3 ∨ i = 4 ∨ i = 5 ∨ i = 6 ∨ i = 7 ∨ i = 8 ∨ i = 9 ∨ i = 10 by omega) with rfl | rfl | rfl | rfl | rfl | rfl | rfl | rfl | rfl | rfl | rfl
  · refine S.p0.val (v := (.agg #[.int .i64 most, .int .i64 last, .slice (some ⟨g, 0, none⟩) n cap])) (w' := w) (fun o ho => ?_) (hI.put 0 55 _ (by simp [regrP]) (by simp [regrP]) (by intro e he; simp [regrP] at he; rcases he with rfl | rfl | rfl | he <;> first | (simp [regrP]; done) | (intro h; exact hx e he (by rw [h]; simp [regrP]))) (by intro e he; simp [regrP] at he; rcases he with rfl | rfl | rfl | rfl | rfl | rfl | rfl | rfl | rfl | rfl <;> simp [regrP]))
    simp only [execOp, ho, bs4]
    obtain ⟨z0, z1, z2, z3⟩ := hC
    clear hI TB HC HR S evc
    go_simp
  · refine S.p1.val (v := (.pointer (some ⟨bt, 2, none⟩))) (w' := w) (fun o ho => ?_) (hI.put 1 56 _ (by simp [regrP]) (by simp [regrP]) (by intro e he; simp [regrP] at he; rcases he with rfl | rfl | rfl | he <;> first | (simp [regrP]; done) | (intro h; exact hx e he (by rw [h]; simp [regrP]))) (by intro e he; simp [regrP] at he; rcases he with rfl | rfl | rfl | rfl | rfl | rfl | rfl | rfl | rfl | rfl <;> simp [regrP]))
    simp only [execOp, ho, bs4]
    obtain ⟨z0, z1, z2, z3⟩ := hC
    clear hI TB HC HR S evc
    go_simp
  · have q1 := TB 1 56 ((.pointer (some ⟨bt, 2, none⟩))) (by simp [regrP]) (S.w2_1.on hi)
    refine S.p2.val (v := (.slice (some ⟨g, 0, none⟩) n cap)) (w' := w) (fun o ho => ?_) (hI.put 2 57 _ (by simp [regrP]) (by simp [regrP]) (by intro e he; simp [regrP] at he; rcases he with rfl | rfl | rfl | he <;> first | (simp [regrP]; done) | (intro h; exact hx e he (by rw [h]; simp [regrP]))) (by intro e he; simp [regrP] at he; rcases he with rfl | rfl | rfl | rfl | rfl | rfl | rfl | rfl | rfl | rfl <;> simp [regrP]))
    simp only [execOp, ho, q1]
    obtain ⟨z0, z1, z2, z3⟩ := hC
    clear hI TB HC HR S evc
    go_simp
  · refine S.p3.val (v := (.int .i64 k)) (w' := w) (fun o ho => ?_) (hI.put 3 58 _ (by simp [regrP]) (by simp [regrP]) (by intro e he; simp [regrP] at he; rcases he with rfl | rfl | rfl | he <;> first | (simp [regrP]; done) | (intro h; exact hx e he (by rw [h]; simp [regrP]))) (by intro e he; simp [regrP] at he; rcases he with rfl | rfl | rfl | rfl | rfl | rfl | rfl | rfl | rfl | rfl <;> simp [regrP]))
    simp only [execOp, ho, bs12]
    obtain ⟨z0, z1, z2, z3⟩ := hC
    clear hI TB HC HR S evc
    go_simp
  · have q2 := TB 2 57 ((.slice (some ⟨g, 0, none⟩) n cap)) (by simp [regrP]) (S.w4_2.on hi)
    have q3 := TB 3 58 ((.int .i64 k)) (by simp [regrP]) (S.w4_3.on hi)
    refine S.p4.val (v := (.pointer (some ⟨g, k * 7, none⟩))) (w' := w) (fun o ho => ?_) (hI.put 4 59 _ (by simp [regrP]) (by simp [regrP]) (by intro e he; simp [regrP] at he; rcases he with rfl | rfl | rfl | he <;> first | (simp [regrP]; done) | (intro h; exact hx e he (by rw [h]; simp [regrP]))) (by intro e he; simp [regrP] at he; rcases he with rfl | rfl | rfl | rfl | rfl | rfl | rfl | rfl | rfl | rfl <;> simp [regrP]))
    simp only [execOp, ho, q2, q3]
    obtain ⟨z0, z1, z2, z3⟩ := hC
    clear hI TB HC HR S evc
    go_simp
  · have q4 := TB 4 59 ((.pointer (some ⟨g, k * 7, none⟩))) (by simp [regrP]) (S.w5_4.on hi)
    refine S.p5.val (v := (.pointer (some ⟨g, k * 7, none⟩))) (w' := w) (fun o ho => ?_) (hI.put 5 60 _ (by simp [regrP]) (by simp [regrP]) (by intro e he; simp [regrP] at he; rcases he with rfl | rfl | rfl | he <;> first | (simp [regrP]; done) | (intro h; exact hx e he (by rw [h]; simp [regrP]))) (by intro e he; simp [regrP] at he; rcases he with rfl | rfl | rfl | rfl | rfl | rfl | rfl | rfl | rfl | rfl <;> simp [regrP]))
    simp only [execOp, ho, q4]
    obtain ⟨z0, z1, z2, z3⟩ := hC
    clear hI TB HC HR S evc
    go_simp
  · have q5 := TB 5 60 ((.pointer (some ⟨g, k * 7, none⟩))) (by simp [regrP]) (S.w6_5.on hi)
    refine S.p6.val (v := (.int .i64 idv)) (w' := w) (fun o ho => ?_) (hI.put 6 61 _ (by simp [regrP]) (by simp [regrP]) (by intro e he; simp [regrP] at he; rcases he with rfl | rfl | rfl | he <;> first | (simp [regrP]; done) | (intro h; exact hx e he (by rw [h]; simp [regrP]))) (by intro e he; simp [regrP] at he; rcases he with rfl | rfl | rfl | rfl | rfl | rfl | rfl | rfl | rfl | rfl <;> simp [regrP]))
    simp only [execOp, ho, q5]
    obtain ⟨z0, z1, z2, z3⟩ := hC
    clear hI TB HC HR S evc
    go_simp
  · have q := TB 0 55 ((.agg #[.int .i64 most, .int .i64 last, .slice (some ⟨g, 0, none⟩) n cap])) (by simp [regrP]) (S.w7_0.on hi)
    have hw1 := hI.wd
    rw [show L.getD (regrP W bt b8 g most last n cap k hk idv ex).st false = false from hn0, if_neg (by decide)] at hw1
    obtain ⟨u0, u1, u2, hrow⟩ := HR
    have hrow' : RowIs w b8 31 [u0, u1, u2] := by rw [hw1]; exact hrow
    have hI' := hI.store (by rw [hL]; simp [regrP]) (by intro e he; simp [regrP] at he; rcases he with rfl | rfl | rfl | rfl | rfl | rfl | rfl | rfl | rfl | rfl <;> simp [regrP])
    rw [show (regrP W bt b8 g most last n cap k hk idv ex).W2 = (((w).setCell ⟨b8, 0, none⟩ (.int .i64 most)).setCell ⟨b8, 1, none⟩ (.int .i64 last)).setCell ⟨b8, 2, none⟩ (.slice (some ⟨g, 0, none⟩) n cap) by rw [hw1]; rfl] at hI'
    obtain ⟨y0, y1, y2, y3, y4, y5⟩ := hrow'.sv3
    refine S.p7.skip (w' := _) (fun o ho => ?_) hI'
    simp only [execOp, ho, bs8, q]
    clear hI TB HC S hC hI' hrow hrow' hw1 evc
    go_simp
  · have q6 := TB 6 61 ((.int .i64 idv)) (by simp [regrP]) (S.w8_6.on hi)
    refine S.p8.val (v := (.int .i64 idv)) (w' := w) (fun o ho => ?_) (hI.put 8 9 _ (by simp [regrP]) (by simp [regrP]) (by intro e he; simp [regrP] at he; rcases he with rfl | rfl | rfl | he <;> first | (simp [regrP]; done) | (intro h; exact hx e he (by rw [h]; simp [regrP]))) (by intro e he; simp [regrP] at he; rcases he with rfl | rfl | rfl | rfl | rfl | rfl | rfl | rfl | rfl | rfl <;> simp [regrP]))
    simp only [execOp, ho, q6]
    obtain ⟨z0, z1, z2, z3⟩ := hC
    clear hI TB HC HR S evc
    go_simp
  · refine S.p9.val (v := (.bool false)) (w' := w) (fun o ho => ?_) (hI.put 9 10 _ (by simp [regrP]) (by simp [regrP]) (by intro e he; simp [regrP] at he; rcases he with rfl | rfl | rfl | he <;> first | (simp [regrP]; done) | (intro h; exact hx e he (by rw [h]; simp [regrP]))) (by intro e he; simp [regrP] at he; rcases he with rfl | rfl | rfl | rfl | rfl | rfl | rfl | rfl | rfl | rfl <;> simp [regrP]))
    simp only [execOp, ho, evc]
    obtain ⟨z0, z1, z2, z3⟩ := hC
    clear hI TB HC HR S evc
    go_simp
  · refine S.p10.val (v := (.int .i64 0)) (w' := w) (fun o ho => ?_) (hI.put 10 11 _ (by simp [regrP]) (by simp [regrP]) (by intro e he; simp [regrP] at he; rcases he with rfl | rfl | rfl | he <;> first | (simp [regrP]; done) | (intro h; exact hx e he (by rw [h]; simp [regrP]))) (by intro e he; simp [regrP] at he; rcases he with rfl | rfl | rfl | rfl | rfl | rfl | rfl | rfl | rfl | rfl <;> simp [regrP]))
    simp only [execOp, ho, evc]
    obtain ⟨z0, z1, z2, z3⟩ := hC
    clear hI TB HC HR S evc
    go_simp
end Go.Proofs.Ytgikbpaejmdnoaa

/-
  Response (layer 12): its region where an answer is the last.
-/
namespace Go.Proofs.Ytgikbpaejmdnoaa
open Go.RowKit
set_option linter.unusedVariables false
set_option maxRecDepth 20000
set_option linter.unusedSimpArgs false

def regwP (W : World) (bt b8 g : Nat) (most last : Int) (n cap k : Nat) (hk : k < n) (idv : Int) (ex : List (Nat × Value)) : SP where
  W1 := { W with drawn := W.drawn + 1 }
  W2 := ((({ W with drawn := W.drawn + 1 }).setCell ⟨b8, 0, none⟩ (.int .i64 most)).setCell ⟨b8, 1, none⟩ (.int .i64 last)).setCell ⟨b8, 2, none⟩ (.slice (some ⟨g, 0, none⟩) n cap)
  n := 84
  base := [(4, (.pointer (some ⟨bt, 0, none⟩))), (8, (.pointer (some ⟨b8, 0, none⟩))), (12, (.int .i64 k)), (13, (.slice (some ⟨g, 0, none⟩) n cap))] ++ ex
  T := [(0, 72, (.pointer (some ⟨bt, 0, none⟩))), (1, 73, (.int .i64 most)), (2, 74, (.pointer (some ⟨bt, 1, none⟩))), (3, 75, (.int .i64 last)), (4, 76, (.slice (some ⟨g, 0, none⟩) n cap)), (5, 77, (.agg #[.int .i64 most, .int .i64 last, .slice (some ⟨g, 0, none⟩) n cap])), (6, 78, (.slice (some ⟨g, 0, none⟩) n cap)), (7, 79, (.int .i64 k)), (8, 80, (.pointer (some ⟨g, k * 7, none⟩))), (9, 81, (.pointer (some ⟨g, k * 7, none⟩))), (10, 82, (.int .i64 idv)), (12, 9, (.int .i64 idv)), (13, 10, (.bool true)), (14, 11, (.int .i64 0))]
  st := 11
structure regwOps (ops : Array Oper) : Prop where
  sz : ops.size = 15
  p0 : OpIs ops 0 (some 72) (.fieldAddr 31 (.tmp 4) 0)
  p1 : OpIs ops 1 (some 73) (.load 3 (.tmp 72))
  p2 : OpIs ops 2 (some 74) (.fieldAddr 31 (.tmp 4) 1)
  p3 : OpIs ops 3 (some 75) (.load 3 (.tmp 74))
  p4 : OpIs ops 4 (some 76) (.move (.tmp 13))
  p5 : OpIs ops 5 (some 77) (.build 31 #[(0, .tmp 73), (1, .tmp 75), (2, .tmp 76)])
  p6 : OpIs ops 6 (some 78) (.move (.tmp 13))
  p7 : OpIs ops 7 (some 79) (.move (.tmp 12))
  p8 : OpIs ops 8 (some 80) (.indexAddr 29 (.tmp 78) (.tmp 79))
  p9 : OpIs ops 9 (some 81) (.fieldAddr 78 (.tmp 80) 0)
  p10 : OpIs ops 10 (some 82) (.load 3 (.tmp 81))
  p12 : OpIs ops 12 (some 9) (.assign (.tmp 82))
  p13 : OpIs ops 13 (some 10) (.assign (.const (.bool true)))
  p14 : OpIs ops 14 (some 11) (.assign (.const (.int .i64 0)))
  p11 : OpIs ops 11 none (.store 31 (.tmp 8) (.tmp 77))
  w1_0 : Waits ops 1 0
  w3_2 : Waits ops 3 2
  w5_1 : Waits ops 5 1
  w5_3 : Waits ops 5 3
  w5_4 : Waits ops 5 4
  w8_6 : Waits ops 8 6
  w8_7 : Waits ops 8 7
  w9_8 : Waits ops 9 8
  w10_9 : Waits ops 10 9
  w12_10 : Waits ops 12 10
  w11_5 : Waits ops 11 5
set_option maxHeartbeats 2000000 in
set_option maxRecDepth 100000 in
theorem regw_steps {ops : Array Oper} (S : regwOps ops) (W : World) (bt b8 g : Nat) (most last : Int) (n cap k : Nat) (hk : k < n) (idv : Int) (ex : List (Nat × Value))
    (HC : ∀ u : World, u = (regwP W bt b8 g most last n cap k hk idv ex).W1 ∨ u = (regwP W bt b8 g most last n cap k hk idv ex).W2 → u.cell? ⟨bt, 0, none⟩ = some (.int .i64 most) ∧ u.cell? ⟨bt, 1, none⟩ = some (.int .i64 last) ∧ u.cell? ⟨g, k * 7, none⟩ = some (.int .i64 idv))
    (HR : ∃ y0 y1 y2, RowIs { W with drawn := W.drawn + 1 } b8 31 [y0, y1, y2])
    (hx : ∀ e ∈ ex, e.1 ∉ [72, 73, 74, 75, 76, 77, 78, 79, 80, 81, 82, 9, 10, 11])
    (Q : Exit → Act → World → Prop) (L : Array Bool) (a : Act) (w : World) (i : Nat) (hs : L.size = ops.size) (hi : i ∈ Region.ready .any ops L) (hI : SI (regwP W bt b8 g most last n cap k hk idv ex) L a w) :
    wpOp Try.prog ops Q i (SI (regwP W bt b8 g most last n cap k hk idv ex) (L.setIfInBounds i true)) a w := by
  have hL : L.size = 15 := by rw [hs, S.sz]
  have hn0 : L.getD i false = false := by
    have := (mem_ready.1 hi).1
    rw [Array.getD_eq_getD_getElem?] at this ⊢
    cases e : L[i]? with
    | none => rw [e] at this; simp at this
    | some b => rw [e] at this; simpa using this
  have hi18 : i < 15 := by
    obtain ⟨_, o, ho, _⟩ := mem_ready.1 hi
    rw [← S.sz]; exact (Array.getElem?_eq_some_iff.1 ho).1
  have evc : ∀ v, a.eval (.const v) = v := fun _ => rfl
  have bs4 : a.eval (.tmp 4) = (.pointer (some ⟨bt, 0, none⟩)) := hI.base (4, (.pointer (some ⟨bt, 0, none⟩))) (by simp [regwP])
  have bs8 : a.eval (.tmp 8) = (.pointer (some ⟨b8, 0, none⟩)) := hI.base (8, (.pointer (some ⟨b8, 0, none⟩))) (by simp [regwP])
  have bs12 : a.eval (.tmp 12) = (.int .i64 k) := hI.base (12, (.int .i64 k)) (by simp [regwP])
  have bs13 : a.eval (.tmp 13) = (.slice (some ⟨g, 0, none⟩) n cap) := hI.base (13, (.slice (some ⟨g, 0, none⟩) n cap)) (by simp [regwP])
  have TB : ∀ jj dd vv, (jj, dd, vv) ∈ (regwP W bt b8 g most last n cap k hk idv ex).T → L.getD jj false = true → a.eval (.tmp dd) = vv := fun jj dd vv hm hl => hI.tab (jj, dd, vv) hm hl
  have hC := HC w hI.two
  rcases (show i = 0 ∨ i = 1 ∨ i = 2 ∨ i = 3 ∨ i = 4 ∨ i = 5 ∨ i = 6 ∨ i = 7 ∨ i = 8 ∨ i = 9 ∨ i = 10 ∨ i = 11 ∨ i = 12 ∨ i = 13 ∨ i = 14 by omega) with rfl | rfl | rfl | rfl | rfl | rfl | rfl | rfl | rfl | rfl | rfl | rfl | rfl | rfl | rfl
  · refine S.p0.val (v := (.pointer (some ⟨bt, 0, none⟩))) (w' := w) (fun o ho => ?_) (hI.put 0 72 _ (by simp [regwP]) (by simp [regwP]) (by intro e he; simp [regwP] at he; rcases he with rfl | rfl | rfl | rfl | he <;> first | (simp [regwP]; done) | (intro h; exact hx e he (by rw [h]; simp [regwP]))) (by intro e he; simp [regwP] at he; rcases he with rfl | rfl | rfl | rfl | rfl | rfl | rfl | rfl | rfl | rfl | rfl | rfl | rfl | rfl <;> simp [regwP]))
    simp only [execOp, ho, bs4]
    obtain ⟨z0, z1, z2⟩ := hC
    clear hI TB HC HR S evc
    go_simp
  · have q0 := TB 0 72 ((.pointer (some ⟨bt, 0, none⟩))) (by simp [regwP]) (S.w1_0.on hi)
    refine S.p1.val (v := (.int .i64 most)) (w' := w) (fun o ho => ?_) (hI.put 1 73 _ (by simp [regwP]) (by simp [regwP]) (by intro e he; simp [regwP] at he; rcases he with rfl | rfl | rfl | rfl | he <;> first | (simp [regwP]; done) | (intro h; exact hx e he (by rw [h]; simp [regwP]))) (by intro e he; simp [regwP] at he; rcases he with rfl | rfl | rfl | rfl | rfl | rfl | rfl | rfl | rfl | rfl | rfl | rfl | rfl | rfl <;> simp [regwP]))
    simp only [execOp, ho, q0]
    obtain ⟨z0, z1, z2⟩ := hC
    clear hI TB HC HR S evc
    go_simp
  · refine S.p2.val (v := (.pointer (some ⟨bt, 1, none⟩))) (w' := w) (fun o ho => ?_) (hI.put 2 74 _ (by simp [regwP]) (by simp [regwP]) (by intro e he; simp [regwP] at he; rcases he with rfl | rfl | rfl | rfl | he <;> first | (simp [regwP]; done) | (intro h; exact hx e he (by rw [h]; simp [regwP]))) (by intro e he; simp [regwP] at he; rcases he with rfl | rfl | rfl | rfl | rfl | rfl | rfl | rfl | rfl | rfl | rfl | rfl | rfl | rfl <;> simp [regwP]))
    simp only [execOp, ho, bs4]
    obtain ⟨z0, z1, z2⟩ := hC
    clear hI TB HC HR S evc
    go_simp
  · have q2 := TB 2 74 ((.pointer (some ⟨bt, 1, none⟩))) (by simp [regwP]) (S.w3_2.on hi)
    refine S.p3.val (v := (.int .i64 last)) (w' := w) (fun o ho => ?_) (hI.put 3 75 _ (by simp [regwP]) (by simp [regwP]) (by intro e he; simp [regwP] at he; rcases he with rfl | rfl | rfl | rfl | he <;> first | (simp [regwP]; done) | (intro h; exact hx e he (by rw [h]; simp [regwP]))) (by intro e he; simp [regwP] at he; rcases he with rfl | rfl | rfl | rfl | rfl | rfl | rfl | rfl | rfl | rfl | rfl | rfl | rfl | rfl <;> simp [regwP]))
    simp only [execOp, ho, q2]
    obtain ⟨z0, z1, z2⟩ := hC
    clear hI TB HC HR S evc
    go_simp
  · refine S.p4.val (v := (.slice (some ⟨g, 0, none⟩) n cap)) (w' := w) (fun o ho => ?_) (hI.put 4 76 _ (by simp [regwP]) (by simp [regwP]) (by intro e he; simp [regwP] at he; rcases he with rfl | rfl | rfl | rfl | he <;> first | (simp [regwP]; done) | (intro h; exact hx e he (by rw [h]; simp [regwP]))) (by intro e he; simp [regwP] at he; rcases he with rfl | rfl | rfl | rfl | rfl | rfl | rfl | rfl | rfl | rfl | rfl | rfl | rfl | rfl <;> simp [regwP]))
    simp only [execOp, ho, bs13]
    obtain ⟨z0, z1, z2⟩ := hC
    clear hI TB HC HR S evc
    go_simp
  · have q1 := TB 1 73 ((.int .i64 most)) (by simp [regwP]) (S.w5_1.on hi)
    have q3 := TB 3 75 ((.int .i64 last)) (by simp [regwP]) (S.w5_3.on hi)
    have q4 := TB 4 76 ((.slice (some ⟨g, 0, none⟩) n cap)) (by simp [regwP]) (S.w5_4.on hi)
    refine S.p5.val (v := (.agg #[.int .i64 most, .int .i64 last, .slice (some ⟨g, 0, none⟩) n cap])) (w' := w) (fun o ho => ?_) (hI.put 5 77 _ (by simp [regwP]) (by simp [regwP]) (by intro e he; simp [regwP] at he; rcases he with rfl | rfl | rfl | rfl | he <;> first | (simp [regwP]; done) | (intro h; exact hx e he (by rw [h]; simp [regwP]))) (by intro e he; simp [regwP] at he; rcases he with rfl | rfl | rfl | rfl | rfl | rfl | rfl | rfl | rfl | rfl | rfl | rfl | rfl | rfl <;> simp [regwP]))
    simp only [execOp, ho]
    have em : Array.map (fun x : Nat × Operand => (x.fst, a.eval x.snd)) #[(0, Operand.tmp 73), (1, Operand.tmp 75), (2, Operand.tmp 76)] = #[(0, (.int .i64 most)), (1, (.int .i64 last)), (2, (.slice (some ⟨g, 0, none⟩) n cap))] := by simp only [List.map_toArray, List.map_cons, List.map_nil, q1, q3, q4]
    rw [em]
    clear hI TB HC HR S hC evc
    go_simp
  · refine S.p6.val (v := (.slice (some ⟨g, 0, none⟩) n cap)) (w' := w) (fun o ho => ?_) (hI.put 6 78 _ (by simp [regwP]) (by simp [regwP]) (by intro e he; simp [regwP] at he; rcases he with rfl | rfl | rfl | rfl | he <;> first | (simp [regwP]; done) | (intro h; exact hx e he (by rw [h]; simp [regwP]))) (by intro e he; simp [regwP] at he; rcases he with rfl | rfl | rfl | rfl | rfl | rfl | rfl | rfl | rfl | rfl | rfl | rfl | rfl | rfl <;> simp [regwP]))
    simp only [execOp, ho, bs13]
    obtain ⟨z0, z1, z2⟩ := hC
    clear hI TB HC HR S evc
    go_simp
  · refine S.p7.val (v := (.int .i64 k)) (w' := w) (fun o ho => ?_) (hI.put 7 79 _ (by simp [regwP]) (by simp [regwP]) (by intro e he; simp [regwP] at he; rcases he with rfl | rfl | rfl | rfl | he <;> first | (simp [regwP]; done) | (intro h; exact hx e he (by rw [h]; simp [regwP]))) (by intro e he; simp [regwP] at he; rcases he with rfl | rfl | rfl | rfl | rfl | rfl | rfl | rfl | rfl | rfl | rfl | rfl | rfl | rfl <;> simp [regwP]))
    simp only [execOp, ho, bs12]
    obtain ⟨z0, z1, z2⟩ := hC
    clear hI TB HC HR S evc
    go_simp
  · have q6 := TB 6 78 ((.slice (some ⟨g, 0, none⟩) n cap)) (by simp [regwP]) (S.w8_6.on hi)
    have q7 := TB 7 79 ((.int .i64 k)) (by simp [regwP]) (S.w8_7.on hi)
    refine S.p8.val (v := (.pointer (some ⟨g, k * 7, none⟩))) (w' := w) (fun o ho => ?_) (hI.put 8 80 _ (by simp [regwP]) (by simp [regwP]) (by intro e he; simp [regwP] at he; rcases he with rfl | rfl | rfl | rfl | he <;> first | (simp [regwP]; done) | (intro h; exact hx e he (by rw [h]; simp [regwP]))) (by intro e he; simp [regwP] at he; rcases he with rfl | rfl | rfl | rfl | rfl | rfl | rfl | rfl | rfl | rfl | rfl | rfl | rfl | rfl <;> simp [regwP]))
    simp only [execOp, ho, q6, q7]
    obtain ⟨z0, z1, z2⟩ := hC
    clear hI TB HC HR S evc
    go_simp
  · have q8 := TB 8 80 ((.pointer (some ⟨g, k * 7, none⟩))) (by simp [regwP]) (S.w9_8.on hi)
    refine S.p9.val (v := (.pointer (some ⟨g, k * 7, none⟩))) (w' := w) (fun o ho => ?_) (hI.put 9 81 _ (by simp [regwP]) (by simp [regwP]) (by intro e he; simp [regwP] at he; rcases he with rfl | rfl | rfl | rfl | he <;> first | (simp [regwP]; done) | (intro h; exact hx e he (by rw [h]; simp [regwP]))) (by intro e he; simp [regwP] at he; rcases he with rfl | rfl | rfl | rfl | rfl | rfl | rfl | rfl | rfl | rfl | rfl | rfl | rfl | rfl <;> simp [regwP]))
    simp only [execOp, ho, q8]
    obtain ⟨z0, z1, z2⟩ := hC
    clear hI TB HC HR S evc
    go_simp
  · have q9 := TB 9 81 ((.pointer (some ⟨g, k * 7, none⟩))) (by simp [regwP]) (S.w10_9.on hi)
    refine S.p10.val (v := (.int .i64 idv)) (w' := w) (fun o ho => ?_) (hI.put 10 82 _ (by simp [regwP]) (by simp [regwP]) (by intro e he; simp [regwP] at he; rcases he with rfl | rfl | rfl | rfl | he <;> first | (simp [regwP]; done) | (intro h; exact hx e he (by rw [h]; simp [regwP]))) (by intro e he; simp [regwP] at he; rcases he with rfl | rfl | rfl | rfl | rfl | rfl | rfl | rfl | rfl | rfl | rfl | rfl | rfl | rfl <;> simp [regwP]))
    simp only [execOp, ho, q9]
    obtain ⟨z0, z1, z2⟩ := hC
    clear hI TB HC HR S evc
    go_simp
  · have q := TB 5 77 ((.agg #[.int .i64 most, .int .i64 last, .slice (some ⟨g, 0, none⟩) n cap])) (by simp [regwP]) (S.w11_5.on hi)
    have hw1 := hI.wd
    rw [show L.getD (regwP W bt b8 g most last n cap k hk idv ex).st false = false from hn0, if_neg (by decide)] at hw1
    obtain ⟨u0, u1, u2, hrow⟩ := HR
    have hrow' : RowIs w b8 31 [u0, u1, u2] := by rw [hw1]; exact hrow
    have hI' := hI.store (by rw [hL]; simp [regwP]) (by intro e he; simp [regwP] at he; rcases he with rfl | rfl | rfl | rfl | rfl | rfl | rfl | rfl | rfl | rfl | rfl | rfl | rfl | rfl <;> simp [regwP])
    rw [show (regwP W bt b8 g most last n cap k hk idv ex).W2 = (((w).setCell ⟨b8, 0, none⟩ (.int .i64 most)).setCell ⟨b8, 1, none⟩ (.int .i64 last)).setCell ⟨b8, 2, none⟩ (.slice (some ⟨g, 0, none⟩) n cap) by rw [hw1]; rfl] at hI'
    obtain ⟨y0, y1, y2, y3, y4, y5⟩ := hrow'.sv3
    refine S.p11.skip (w' := _) (fun o ho => ?_) hI'
    simp only [execOp, ho, bs8, q]
    clear hI TB HC S hC hI' hrow hrow' hw1 evc
    go_simp
  · have q10 := TB 10 82 ((.int .i64 idv)) (by simp [regwP]) (S.w12_10.on hi)
    refine S.p12.val (v := (.int .i64 idv)) (w' := w) (fun o ho => ?_) (hI.put 12 9 _ (by simp [regwP]) (by simp [regwP]) (by intro e he; simp [regwP] at he; rcases he with rfl | rfl | rfl | rfl | he <;> first | (simp [regwP]; done) | (intro h; exact hx e he (by rw [h]; simp [regwP]))) (by intro e he; simp [regwP] at he; rcases he with rfl | rfl | rfl | rfl | rfl | rfl | rfl | rfl | rfl | rfl | rfl | rfl | rfl | rfl <;> simp [regwP]))
    simp only [execOp, ho, q10]
    obtain ⟨z0, z1, z2⟩ := hC
    clear hI TB HC HR S evc
    go_simp
  · refine S.p13.val (v := (.bool true)) (w' := w) (fun o ho => ?_) (hI.put 13 10 _ (by simp [regwP]) (by simp [regwP]) (by intro e he; simp [regwP] at he; rcases he with rfl | rfl | rfl | rfl | he <;> first | (simp [regwP]; done) | (intro h; exact hx e he (by rw [h]; simp [regwP]))) (by intro e he; simp [regwP] at he; rcases he with rfl | rfl | rfl | rfl | rfl | rfl | rfl | rfl | rfl | rfl | rfl | rfl | rfl | rfl <;> simp [regwP]))
    simp only [execOp, ho, evc]
    obtain ⟨z0, z1, z2⟩ := hC
    clear hI TB HC HR S evc
    go_simp
  · refine S.p14.val (v := (.int .i64 0)) (w' := w) (fun o ho => ?_) (hI.put 14 11 _ (by simp [regwP]) (by simp [regwP]) (by intro e he; simp [regwP] at he; rcases he with rfl | rfl | rfl | rfl | he <;> first | (simp [regwP]; done) | (intro h; exact hx e he (by rw [h]; simp [regwP]))) (by intro e he; simp [regwP] at he; rcases he with rfl | rfl | rfl | rfl | rfl | rfl | rfl | rfl | rfl | rfl | rfl | rfl | rfl | rfl <;> simp [regwP]))
    simp only [execOp, ho, evc]
    obtain ⟨z0, z1, z2⟩ := hC
    clear hI TB HC HR S evc
    go_simp
end Go.Proofs.Ytgikbpaejmdnoaa
