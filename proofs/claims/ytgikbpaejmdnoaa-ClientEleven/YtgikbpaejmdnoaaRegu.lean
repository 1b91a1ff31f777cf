/-
  ClientEleven's region where an answer that is none for good is handed in.
-/
import Derived.Test.YtgikbpaejmdnoaaRG
namespace Go.Proofs.Ytgikbpaejmdnoaa
open Go.RowKit
set_option linter.unusedVariables false
set_option maxRecDepth 20000
set_option linter.unusedSimpArgs false

def reguP (a0 : Act) (W : World) (bt : Nat) (s0 s1 pk : ByteArray) (ad : Addr) (n cap dd x q m : Nat) (now : Int) : AP where
  a0 := a0
  lo := 120
  hi := 143
  n := 161
  T := [(0, 120, (.pointer (some ⟨bt, 0, none⟩))), (1, 121, (.string s0)), (2, 122, (.string s1)), (3, 123, (.string s0)), (4, 124, (.slice (some ⟨W.heap.size, 0, none⟩) 2 2)), (5, 125, (.slice (some ad) n cap)), (6, 126, (.int .i64 dd)), (7, 127, (.pointer (some (ad.add dd)))), (8, 128, (.int .u8 x)), (9, 129, (.int .u8 q)), (10, 130, (.pointer (some ⟨W.heap.size, q, none⟩))), (11, 131, (.string pk)), (12, 132, (.slice (some ad) n cap)), (13, 133, (.int .i64 dd)), (14, 134, (.pointer (some (ad.add dd)))), (15, 135, (.int .u8 x)), (16, 136, (.int .i64 x)), (17, 137, (.int .i64 m)), (18, 138, (.int .i64 (100 + m))), (19, 139, (.int .i64 now)), (20, 140, (.int .i64 dd)), (21, 141, (.int .i64 (now + dd)))]
  W1 := { W with drawn := W.drawn + 1 }
  W2 := ({ W with drawn := W.drawn + 1 } : World).alloc (.cells #[.string s1, .string s0] 9)
  al := 4
  i1 := 10
  i2 := 11
structure reguOps (ops : Array Oper) : Prop where
  sz : ops.size = 23
  p0 : OpIs ops 0 (some 120) (.move (.tmp 9))
  p1 : OpIs ops 1 (some 121) (.move (.tmp 0))
  p2 : OpIs ops 2 (some 122) (.binOp .add 9 (.tmp 121) (.const (.string ⟨#[120]⟩)) 9)
  p3 : OpIs ops 3 (some 123) (.move (.tmp 0))
  p4 : OpIs ops 4 (some 124) (.buildSlice 49 2 #[(0, .tmp 122), (1, .tmp 123)])
  p5 : OpIs ops 5 (some 125) (.move (.tmp 3))
  p6 : OpIs ops 6 (some 126) (.move (.tmp 15))
  p7 : OpIs ops 7 (some 127) (.indexAddr 38 (.tmp 125) (.tmp 126))
  p8 : OpIs ops 8 (some 128) (.load 5 (.tmp 127))
  p9 : OpIs ops 9 (some 129) (.binOp .rem 5 (.tmp 128) (.const (.int .u8 2)) 5)
  p10 : OpIs ops 10 (some 130) (.indexAddr 49 (.tmp 124) (.tmp 129))
  p11 : OpIs ops 11 (some 131) (.load 9 (.tmp 130))
  p12 : OpIs ops 12 (some 132) (.move (.tmp 3))
  p13 : OpIs ops 13 (some 133) (.move (.tmp 15))
  p14 : OpIs ops 14 (some 134) (.indexAddr 38 (.tmp 132) (.tmp 133))
  p15 : OpIs ops 15 (some 135) (.load 5 (.tmp 134))
  p16 : OpIs ops 16 (some 136) (.convert 5 3 (.tmp 135))
  p17 : OpIs ops 17 (some 137) (.binOp .rem 3 (.tmp 136) (.const (.int .i64 100)) 3)
  p18 : OpIs ops 18 (some 138) (.binOp .add 3 (.const (.int .i64 100)) (.tmp 137) 3)
  p19 : OpIs ops 19 (some 139) (.move (.tmp 1))
  p20 : OpIs ops 20 (some 140) (.move (.tmp 15))
  p21 : OpIs ops 21 (some 141) (.binOp .add 3 (.tmp 139) (.tmp 140) 3)
  p22 : OpIs ops 22 (some 142) (.call { callee := .value (.func 16), args := #[.tmp 120, .tmp 131, .tmp 138, .tmp 141], argTypes := #[23, 9, 3, 3] })
  w2_1 : Waits ops 2 1
  w4_2 : Waits ops 4 2
  w4_3 : Waits ops 4 3
  w7_5 : Waits ops 7 5
  w7_6 : Waits ops 7 6
  w8_7 : Waits ops 8 7
  w9_8 : Waits ops 9 8
  w10_4 : Waits ops 10 4
  w10_9 : Waits ops 10 9
  w11_10 : Waits ops 11 10
  w14_12 : Waits ops 14 12
  w14_13 : Waits ops 14 13
  w15_14 : Waits ops 15 14
  w16_15 : Waits ops 16 15
  w17_16 : Waits ops 17 16
  w18_17 : Waits ops 18 17
  w21_19 : Waits ops 21 19
  w21_20 : Waits ops 21 20
  w22_0 : Waits ops 22 0
  w22_11 : Waits ops 22 11
  w22_18 : Waits ops 22 18
  w22_21 : Waits ops 22 21
set_option maxHeartbeats 4000000 in
set_option maxRecDepth 100000 in
theorem regu_steps {ops : Array Oper} (S : reguOps ops) (a0 : Act) (W : World) (bt : Nat) (s0 s1 pk : ByteArray) (ad : Addr) (n cap dd x q m : Nat) (now : Int)
    (B0 : a0.eval (.tmp 0) = .string s0)
    (B1 : a0.eval (.tmp 1) = .int .i64 now)
    (B3 : a0.eval (.tmp 3) = .slice (some ad) n cap)
    (B9 : a0.eval (.tmp 9) = .pointer (some ⟨bt, 0, none⟩))
    (B15 : a0.eval (.tmp 15) = .int .i64 dd)
    (hdd : dd < n) (hq : q < 2) (hmod : (x : Int).tmod 2 = q) (hmod2 : (x : Int) % 2 = q) (hmod3 : (x : Int).tmod 100 = m) (hmod4 : (x : Int) % 100 = m) (hm : m < 100) (hx : x < 256) (hnow : 0 ≤ now) (hnow2 : now ≤ 1099511627136) (hd4 : dd < 400) (hs : s0.size ≤ 140737488351232) (hs1 : s0 ++ ⟨#[120]⟩ = s1)
    (HC : ∀ u : World, u = (reguP a0 W bt s0 s1 pk ad n cap dd x q m now).W1 ∨ Below (reguP a0 W bt s0 s1 pk ad n cap dd x q m now).W2.heap.size (reguP a0 W bt s0 s1 pk ad n cap dd x q m now).W2 u → u.cell? (ad.add dd) = some (.int .u8 x))
    (HN : ∀ u : World, Below (reguP a0 W bt s0 s1 pk ad n cap dd x q m now).W2.heap.size (reguP a0 W bt s0 s1 pk ad n cap dd x q m now).W2 u → u.cell? ⟨W.heap.size, q, none⟩ = some (.string pk))
    (KC : ∀ u : World, Below (reguP a0 W bt s0 s1 pk ad n cap dd x q m now).W2.heap.size (reguP a0 W bt s0 s1 pk ad n cap dd x q m now).W2 u → Calls Try.prog 16 #[.pointer (some ⟨bt, 0, none⟩), .string pk, .int .i64 (100 + m), .int .i64 (now + dd)] u fun e u' => ∃ v, e = .returned v ∧ Below u.heap.size u u')
    (Q : Exit → Act → World → Prop) (L : Array Bool) (a : Act) (w : World) (i : Nat) (hsz : L.size = ops.size) (hi : i ∈ Region.ready .any ops L) (hI : AI (reguP a0 W bt s0 s1 pk ad n cap dd x q m now) L a w) :
    wpOp Try.prog ops Q i (AI (reguP a0 W bt s0 s1 pk ad n cap dd x q m now) (L.setIfInBounds i true)) a w := by
  have hL : L.size = 23 := by rw [hsz, S.sz]
  obtain ⟨hn0, hi23⟩ := nots hi
  rw [S.sz] at hi23
  have b0 := (hI.out 0 (.inl (by simp [reguP]))).trans B0
  have b1 := (hI.out 1 (.inl (by simp [reguP]))).trans B1
  have b3 := (hI.out 3 (.inl (by simp [reguP]))).trans B3
  have b9 := (hI.out 9 (.inl (by simp [reguP]))).trans B9
  have b15 := (hI.out 15 (.inl (by simp [reguP]))).trans B15
  have TB : ∀ jj dd' vv, (jj, dd', vv) ∈ (reguP a0 W bt s0 s1 pk ad n cap dd x q m now).T → L.getD jj false = true → a.eval (.tmp dd') = vv := fun jj dd' vv hm hl => hI.tab (jj, dd', vv) hm hl
  have hC := HC w hI.two
  have evc : ∀ v, a.eval (.const v) = v := fun _ => rfl
  have hc2 : (x : Int) ≤ 255 := by omega
  have g4 : (reguP a0 W bt s0 s1 pk ad n cap dd x q m now).al = 4 := rfl
  have g10 : (reguP a0 W bt s0 s1 pk ad n cap dd x q m now).i1 = 10 := rfl
  have g11 : (reguP a0 W bt s0 s1 pk ad n cap dd x q m now).i2 = 11 := rfl
  rcases (show i = 0 ∨ i = 1 ∨ i = 2 ∨ i = 3 ∨ i = 4 ∨ i = 5 ∨ i = 6 ∨ i = 7 ∨ i = 8 ∨ i = 9 ∨ i = 10 ∨ i = 11 ∨ i = 12 ∨ i = 13 ∨ i = 14 ∨ i = 15 ∨ i = 16 ∨ i = 17 ∨ i = 18 ∨ i = 19 ∨ i = 20 ∨ i = 21 ∨ i = 22 by omega) with rfl | rfl | rfl | rfl | rfl | rfl | rfl | rfl | rfl | rfl | rfl | rfl | rfl | rfl | rfl | rfl | rfl | rfl | rfl | rfl | rfl | rfl | rfl
  · refine S.p0.val (v := (.pointer (some ⟨bt, 0, none⟩))) (w' := w) (fun o ho => ?_) (hI.put 0 120 _ (by simp [reguP]) (by simp [reguP]) (by simp [reguP]) (by simp [reguP]) (fun e => by rw [g10] at e; omega) (fun e => by rw [g11] at e; omega) (by intro e he; simp only [reguP, List.mem_cons, List.not_mem_nil, or_false] at he; rcases he with rfl | rfl | rfl | rfl | rfl | rfl | rfl | rfl | rfl | rfl | rfl | rfl | rfl | rfl | rfl | rfl | rfl | rfl | rfl | rfl | rfl | rfl <;> simp [reguP]))
    simp only [execOp, ho, b9]
    clear hI TB HC HN KC S hi hsz hL evc
    go_simp
  · refine S.p1.val (v := (.string s0)) (w' := w) (fun o ho => ?_) (hI.put 1 121 _ (by simp [reguP]) (by simp [reguP]) (by simp [reguP]) (by simp [reguP]) (fun e => by rw [g10] at e; omega) (fun e => by rw [g11] at e; omega) (by intro e he; simp only [reguP, List.mem_cons, List.not_mem_nil, or_false] at he; rcases he with rfl | rfl | rfl | rfl | rfl | rfl | rfl | rfl | rfl | rfl | rfl | rfl | rfl | rfl | rfl | rfl | rfl | rfl | rfl | rfl | rfl | rfl <;> simp [reguP]))
    simp only [execOp, ho, b0]
    clear hI TB HC HN KC S hi hsz hL evc
    go_simp
  · have q1 := TB 1 121 (.string s0) (by simp [reguP]) (S.w2_1.on hi)
    refine S.p2.val (v := (.string s1)) (w' := w) (fun o ho => ?_) (hI.put 2 122 _ (by simp [reguP]) (by simp [reguP]) (by simp [reguP]) (by simp [reguP]) (fun e => by rw [g10] at e; omega) (fun e => by rw [g11] at e; omega) (by intro e he; simp only [reguP, List.mem_cons, List.not_mem_nil, or_false] at he; rcases he with rfl | rfl | rfl | rfl | rfl | rfl | rfl | rfl | rfl | rfl | rfl | rfl | rfl | rfl | rfl | rfl | rfl | rfl | rfl | rfl | rfl | rfl <;> simp [reguP]))
    simp only [execOp, ho, q1]
    clear hI TB HC HN KC S hi hsz hL evc
    go_simp
    omega
  · refine S.p3.val (v := (.string s0)) (w' := w) (fun o ho => ?_) (hI.put 3 123 _ (by simp [reguP]) (by simp [reguP]) (by simp [reguP]) (by simp [reguP]) (fun e => by rw [g10] at e; omega) (fun e => by rw [g11] at e; omega) (by intro e he; simp only [reguP, List.mem_cons, List.not_mem_nil, or_false] at he; rcases he with rfl | rfl | rfl | rfl | rfl | rfl | rfl | rfl | rfl | rfl | rfl | rfl | rfl | rfl | rfl | rfl | rfl | rfl | rfl | rfl | rfl | rfl <;> simp [reguP]))
    simp only [execOp, ho, b0]
    clear hI TB HC HN KC S hi hsz hL evc
    go_simp
  · have q2 := TB 2 122 (.string s1) (by simp [reguP]) (S.w4_2.on hi)
    have q3 := TB 3 123 (.string s0) (by simp [reguP]) (S.w4_3.on hi)
    have hw1 : w = (reguP a0 W bt s0 s1 pk ad n cap dd x q m now).W1 := by have := hI.wd; rw [show L.getD (reguP a0 W bt s0 s1 pk ad n cap dd x q m now).al false = false from hn0, if_neg (by decide)] at this; exact this
    refine S.p4.val (v := (.slice (some ⟨W.heap.size, 0, none⟩) 2 2)) (w' := (reguP a0 W bt s0 s1 pk ad n cap dd x q m now).W2) (fun o ho => ?_) (hI.alloc (by rw [hL]; simp [reguP]) 124 _ (by simp [reguP]) (by simp [reguP]) (by simp [reguP]) (by intro e he; simp only [reguP, List.mem_cons, List.not_mem_nil, or_false] at he; rcases he with rfl | rfl | rfl | rfl | rfl | rfl | rfl | rfl | rfl | rfl | rfl | rfl | rfl | rfl | rfl | rfl | rfl | rfl | rfl | rfl | rfl | rfl <;> simp [reguP]))
    simp only [execOp, ho]
    have em : Array.map (fun x : Nat × Operand => (x.fst, a.eval x.snd)) #[(0, Operand.tmp 122), (1, Operand.tmp 123)] = #[(0, .string s1), (1, .string s0)] := by simp only [List.map_toArray, List.map_cons, List.map_nil, q2, q3]
    rw [em, hw1]
    clear hI TB HC HN KC S hi hsz hL hC
    simp only [reguP]
    go_simp
  · refine S.p5.val (v := (.slice (some ad) n cap)) (w' := w) (fun o ho => ?_) (hI.put 5 125 _ (by simp [reguP]) (by simp [reguP]) (by simp [reguP]) (by simp [reguP]) (fun e => by rw [g10] at e; omega) (fun e => by rw [g11] at e; omega) (by intro e he; simp only [reguP, List.mem_cons, List.not_mem_nil, or_false] at he; rcases he with rfl | rfl | rfl | rfl | rfl | rfl | rfl | rfl | rfl | rfl | rfl | rfl | rfl | rfl | rfl | rfl | rfl | rfl | rfl | rfl | rfl | rfl <;> simp [reguP]))
    simp only [execOp, ho, b3]
    clear hI TB HC HN KC S hi hsz hL evc
    go_simp
  · refine S.p6.val (v := (.int .i64 dd)) (w' := w) (fun o ho => ?_) (hI.put 6 126 _ (by simp [reguP]) (by simp [reguP]) (by simp [reguP]) (by simp [reguP]) (fun e => by rw [g10] at e; omega) (fun e => by rw [g11] at e; omega) (by intro e he; simp only [reguP, List.mem_cons, List.not_mem_nil, or_false] at he; rcases he with rfl | rfl | rfl | rfl | rfl | rfl | rfl | rfl | rfl | rfl | rfl | rfl | rfl | rfl | rfl | rfl | rfl | rfl | rfl | rfl | rfl | rfl <;> simp [reguP]))
    simp only [execOp, ho, b15]
    clear hI TB HC HN KC S hi hsz hL evc
    go_simp
  · have q5 := TB 5 125 (.slice (some ad) n cap) (by simp [reguP]) (S.w7_5.on hi)
    have q6 := TB 6 126 (.int .i64 dd) (by simp [reguP]) (S.w7_6.on hi)
    refine S.p7.val (v := (.pointer (some (ad.add dd)))) (w' := w) (fun o ho => ?_) (hI.put 7 127 _ (by simp [reguP]) (by simp [reguP]) (by simp [reguP]) (by simp [reguP]) (fun e => by rw [g10] at e; omega) (fun e => by rw [g11] at e; omega) (by intro e he; simp only [reguP, List.mem_cons, List.not_mem_nil, or_false] at he; rcases he with rfl | rfl | rfl | rfl | rfl | rfl | rfl | rfl | rfl | rfl | rfl | rfl | rfl | rfl | rfl | rfl | rfl | rfl | rfl | rfl | rfl | rfl <;> simp [reguP]))
    simp only [execOp, ho, q5, q6]
    clear hI TB HC HN KC S hi hsz hL evc
    go_simp
  · have q7 := TB 7 127 (.pointer (some (ad.add dd))) (by simp [reguP]) (S.w8_7.on hi)
    refine S.p8.val (v := (.int .u8 x)) (w' := w) (fun o ho => ?_) (hI.put 8 128 _ (by simp [reguP]) (by simp [reguP]) (by simp [reguP]) (by simp [reguP]) (fun e => by rw [g10] at e; omega) (fun e => by rw [g11] at e; omega) (by intro e he; simp only [reguP, List.mem_cons, List.not_mem_nil, or_false] at he; rcases he with rfl | rfl | rfl | rfl | rfl | rfl | rfl | rfl | rfl | rfl | rfl | rfl | rfl | rfl | rfl | rfl | rfl | rfl | rfl | rfl | rfl | rfl <;> simp [reguP]))
    simp only [execOp, ho, q7]
    clear hI TB HC HN KC S hi hsz hL evc
    go_simp
  · have q8 := TB 8 128 (.int .u8 x) (by simp [reguP]) (S.w9_8.on hi)
    refine S.p9.val (v := (.int .u8 q)) (w' := w) (fun o ho => ?_) (hI.put 9 129 _ (by simp [reguP]) (by simp [reguP]) (by simp [reguP]) (by simp [reguP]) (fun e => by rw [g10] at e; omega) (fun e => by rw [g11] at e; omega) (by intro e he; simp only [reguP, List.mem_cons, List.not_mem_nil, or_false] at he; rcases he with rfl | rfl | rfl | rfl | rfl | rfl | rfl | rfl | rfl | rfl | rfl | rfl | rfl | rfl | rfl | rfl | rfl | rfl | rfl | rfl | rfl | rfl <;> simp [reguP]))
    simp only [execOp, ho, q8]
    clear hI TB HC HN KC S hi hsz hL evc
    go_simp
  · have q4 := TB 4 124 (.slice (some ⟨W.heap.size, 0, none⟩) 2 2) (by simp [reguP]) (S.w10_4.on hi)
    have q9 := TB 9 129 (.int .u8 q) (by simp [reguP]) (S.w10_9.on hi)
    refine S.p10.val (v := (.pointer (some ⟨W.heap.size, q, none⟩))) (w' := w) (fun o ho => ?_) (hI.put 10 130 _ (by simp [reguP]) (by simp [reguP]) (by simp [reguP]) (by simp [reguP]) (fun _ => S.w10_4.on hi) (fun e => by rw [g11] at e; omega) (by intro e he; simp only [reguP, List.mem_cons, List.not_mem_nil, or_false] at he; rcases he with rfl | rfl | rfl | rfl | rfl | rfl | rfl | rfl | rfl | rfl | rfl | rfl | rfl | rfl | rfl | rfl | rfl | rfl | rfl | rfl | rfl | rfl <;> simp [reguP]))
    simp only [execOp, ho, q4, q9]
    clear hI TB HC HN KC S hi hsz hL evc
    go_simp
    intro hh; exfalso; omega
  · have q10 := TB 10 130 (.pointer (some ⟨W.heap.size, q, none⟩)) (by simp [reguP]) (S.w11_10.on hi)
    refine S.p11.val (v := (.string pk)) (w' := w) (fun o ho => ?_) (hI.put 11 131 _ (by simp [reguP]) (by simp [reguP]) (by simp [reguP]) (by simp [reguP]) (fun e => by rw [g10] at e; omega) (fun _ => hI.j1 (S.w11_10.on hi)) (by intro e he; simp only [reguP, List.mem_cons, List.not_mem_nil, or_false] at he; rcases he with rfl | rfl | rfl | rfl | rfl | rfl | rfl | rfl | rfl | rfl | rfl | rfl | rfl | rfl | rfl | rfl | rfl | rfl | rfl | rfl | rfl | rfl <;> simp [reguP]))
    have hN := HN w (hI.bel (hI.j1 (S.w11_10.on hi)))
    simp only [execOp, ho, q10]
    clear hI TB HC HN KC S hi hsz hL evc
    go_simp
  · refine S.p12.val (v := (.slice (some ad) n cap)) (w' := w) (fun o ho => ?_) (hI.put 12 132 _ (by simp [reguP]) (by simp [reguP]) (by simp [reguP]) (by simp [reguP]) (fun e => by rw [g10] at e; omega) (fun e => by rw [g11] at e; omega) (by intro e he; simp only [reguP, List.mem_cons, List.not_mem_nil, or_false] at he; rcases he with rfl | rfl | rfl | rfl | rfl | rfl | rfl | rfl | rfl | rfl | rfl | rfl | rfl | rfl | rfl | rfl | rfl | rfl | rfl | rfl | rfl | rfl <;> simp [reguP]))
    simp only [execOp, ho, b3]
    clear hI TB HC HN KC S hi hsz hL evc
    go_simp
  · refine S.p13.val (v := (.int .i64 dd)) (w' := w) (fun o ho => ?_) (hI.put 13 133 _ (by simp [reguP]) (by simp [reguP]) (by simp [reguP]) (by simp [reguP]) (fun e => by rw [g10] at e; omega) (fun e => by rw [g11] at e; omega) (by intro e he; simp only [reguP, List.mem_cons, List.not_mem_nil, or_false] at he; rcases he with rfl | rfl | rfl | rfl | rfl | rfl | rfl | rfl | rfl | rfl | rfl | rfl | rfl | rfl | rfl | rfl | rfl | rfl | rfl | rfl | rfl | rfl <;> simp [reguP]))
    simp only [execOp, ho, b15]
    clear hI TB HC HN KC S hi hsz hL evc
    go_simp
  · have q12 := TB 12 132 (.slice (some ad) n cap) (by simp [reguP]) (S.w14_12.on hi)
    have q13 := TB 13 133 (.int .i64 dd) (by simp [reguP]) (S.w14_13.on hi)
    refine S.p14.val (v := (.pointer (some (ad.add dd)))) (w' := w) (fun o ho => ?_) (hI.put 14 134 _ (by simp [reguP]) (by simp [reguP]) (by simp [reguP]) (by simp [reguP]) (fun e => by rw [g10] at e; omega) (fun e => by rw [g11] at e; omega) (by intro e he; simp only [reguP, List.mem_cons, List.not_mem_nil, or_false] at he; rcases he with rfl | rfl | rfl | rfl | rfl | rfl | rfl | rfl | rfl | rfl | rfl | rfl | rfl | rfl | rfl | rfl | rfl | rfl | rfl | rfl | rfl | rfl <;> simp [reguP]))
    simp only [execOp, ho, q12, q13]
    clear hI TB HC HN KC S hi hsz hL evc
    go_simp
  · have q14 := TB 14 134 (.pointer (some (ad.add dd))) (by simp [reguP]) (S.w15_14.on hi)
    refine S.p15.val (v := (.int .u8 x)) (w' := w) (fun o ho => ?_) (hI.put 15 135 _ (by simp [reguP]) (by simp [reguP]) (by simp [reguP]) (by simp [reguP]) (fun e => by rw [g10] at e; omega) (fun e => by rw [g11] at e; omega) (by intro e he; simp only [reguP, List.mem_cons, List.not_mem_nil, or_false] at he; rcases he with rfl | rfl | rfl | rfl | rfl | rfl | rfl | rfl | rfl | rfl | rfl | rfl | rfl | rfl | rfl | rfl | rfl | rfl | rfl | rfl | rfl | rfl <;> simp [reguP]))
    simp only [execOp, ho, q14]
    clear hI TB HC HN KC S hi hsz hL evc
    go_simp
  · have q15 := TB 15 135 (.int .u8 x) (by simp [reguP]) (S.w16_15.on hi)
    refine S.p16.val (v := (.int .i64 x)) (w' := w) (fun o ho => ?_) (hI.put 16 136 _ (by simp [reguP]) (by simp [reguP]) (by simp [reguP]) (by simp [reguP]) (fun e => by rw [g10] at e; omega) (fun e => by rw [g11] at e; omega) (by intro e he; simp only [reguP, List.mem_cons, List.not_mem_nil, or_false] at he; rcases he with rfl | rfl | rfl | rfl | rfl | rfl | rfl | rfl | rfl | rfl | rfl | rfl | rfl | rfl | rfl | rfl | rfl | rfl | rfl | rfl | rfl | rfl <;> simp [reguP]))
    simp only [execOp, ho, q15]
    clear hI TB HC HN KC S hi hsz hL evc
    go_simp
    simp [IntKind.wrap, IntKind.bits, IntKind.signed]; omega
  · have q16 := TB 16 136 (.int .i64 x) (by simp [reguP]) (S.w17_16.on hi)
    refine S.p17.val (v := (.int .i64 m)) (w' := w) (fun o ho => ?_) (hI.put 17 137 _ (by simp [reguP]) (by simp [reguP]) (by simp [reguP]) (by simp [reguP]) (fun e => by rw [g10] at e; omega) (fun e => by rw [g11] at e; omega) (by intro e he; simp only [reguP, List.mem_cons, List.not_mem_nil, or_false] at he; rcases he with rfl | rfl | rfl | rfl | rfl | rfl | rfl | rfl | rfl | rfl | rfl | rfl | rfl | rfl | rfl | rfl | rfl | rfl | rfl | rfl | rfl | rfl <;> simp [reguP]))
    simp only [execOp, ho, q16]
    clear hI TB HC HN KC S hi hsz hL evc
    go_simp
  · have q17 := TB 17 137 (.int .i64 m) (by simp [reguP]) (S.w18_17.on hi)
    refine S.p18.val (v := (.int .i64 (100 + m))) (w' := w) (fun o ho => ?_) (hI.put 18 138 _ (by simp [reguP]) (by simp [reguP]) (by simp [reguP]) (by simp [reguP]) (fun e => by rw [g10] at e; omega) (fun e => by rw [g11] at e; omega) (by intro e he; simp only [reguP, List.mem_cons, List.not_mem_nil, or_false] at he; rcases he with rfl | rfl | rfl | rfl | rfl | rfl | rfl | rfl | rfl | rfl | rfl | rfl | rfl | rfl | rfl | rfl | rfl | rfl | rfl | rfl | rfl | rfl <;> simp [reguP]))
    simp only [execOp, ho, q17]
    clear hI TB HC HN KC S hi hsz hL evc
    go_simp
    simp [IntKind.wrap, IntKind.bits, IntKind.signed]; omega
  · refine S.p19.val (v := (.int .i64 now)) (w' := w) (fun o ho => ?_) (hI.put 19 139 _ (by simp [reguP]) (by simp [reguP]) (by simp [reguP]) (by simp [reguP]) (fun e => by rw [g10] at e; omega) (fun e => by rw [g11] at e; omega) (by intro e he; simp only [reguP, List.mem_cons, List.not_mem_nil, or_false] at he; rcases he with rfl | rfl | rfl | rfl | rfl | rfl | rfl | rfl | rfl | rfl | rfl | rfl | rfl | rfl | rfl | rfl | rfl | rfl | rfl | rfl | rfl | rfl <;> simp [reguP]))
    simp only [execOp, ho, b1]
    clear hI TB HC HN KC S hi hsz hL evc
    go_simp
  · refine S.p20.val (v := (.int .i64 dd)) (w' := w) (fun o ho => ?_) (hI.put 20 140 _ (by simp [reguP]) (by simp [reguP]) (by simp [reguP]) (by simp [reguP]) (fun e => by rw [g10] at e; omega) (fun e => by rw [g11] at e; omega) (by intro e he; simp only [reguP, List.mem_cons, List.not_mem_nil, or_false] at he; rcases he with rfl | rfl | rfl | rfl | rfl | rfl | rfl | rfl | rfl | rfl | rfl | rfl | rfl | rfl | rfl | rfl | rfl | rfl | rfl | rfl | rfl | rfl <;> simp [reguP]))
    simp only [execOp, ho, b15]
    clear hI TB HC HN KC S hi hsz hL evc
    go_simp
  · have q19 := TB 19 139 (.int .i64 now) (by simp [reguP]) (S.w21_19.on hi)
    have q20 := TB 20 140 (.int .i64 dd) (by simp [reguP]) (S.w21_20.on hi)
    refine S.p21.val (v := (.int .i64 (now + dd))) (w' := w) (fun o ho => ?_) (hI.put 21 141 _ (by simp [reguP]) (by simp [reguP]) (by simp [reguP]) (by simp [reguP]) (fun e => by rw [g10] at e; omega) (fun e => by rw [g11] at e; omega) (by intro e he; simp only [reguP, List.mem_cons, List.not_mem_nil, or_false] at he; rcases he with rfl | rfl | rfl | rfl | rfl | rfl | rfl | rfl | rfl | rfl | rfl | rfl | rfl | rfl | rfl | rfl | rfl | rfl | rfl | rfl | rfl | rfl <;> simp [reguP]))
    simp only [execOp, ho, q19, q20]
    clear hI TB HC HN KC S hi hsz hL evc
    go_simp
    simp [IntKind.wrap, IntKind.bits, IntKind.signed]; omega
  · have q0 := TB 0 120 (.pointer (some ⟨bt, 0, none⟩)) (by simp [reguP]) (S.w22_0.on hi)
    have q11 := TB 11 131 (.string pk) (by simp [reguP]) (S.w22_11.on hi)
    have q18 := TB 18 138 (.int .i64 (100 + m)) (by simp [reguP]) (S.w22_18.on hi)
    have q21 := TB 21 141 (.int .i64 (now + dd)) (by simp [reguP]) (S.w22_21.on hi)
    have hal := hI.j2 (S.w22_11.on hi)
    refine S.p22.enter (vals := #[.pointer (some ⟨bt, 0, none⟩), .string pk, .int .i64 (100 + m), .int .i64 (now + dd)]) (by simp only [List.map_toArray, List.map_cons, List.map_nil, q0, q11, q18, q21]) (fun xs u => by kernel_rfl) ?_
    refine (KC w (hI.bel hal)).mono ?_
    rintro e w' ⟨v, rfl, hb⟩
    exact ⟨v, rfl, hI.call 22 142 v (by simp [reguP]) (by simp [reguP]) (by simp [reguP]) ⟨by simp [reguP], by simp [reguP], by simp [reguP]⟩ hal (by intro e he; simp only [reguP, List.mem_cons, List.not_mem_nil, or_false] at he; rcases he with rfl | rfl | rfl | rfl | rfl | rfl | rfl | rfl | rfl | rfl | rfl | rfl | rfl | rfl | rfl | rfl | rfl | rfl | rfl | rfl | rfl | rfl <;> simp) hb⟩
end Go.Proofs.Ytgikbpaejmdnoaa
