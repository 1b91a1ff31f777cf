/-
  The contract of package addr's Tag; the chapter's examples.
-/
import Derived.Test.YtgboekilhldejaaGreatDoorAParse
import Derived.Test.YtgboekilhldejaaGreatDoorASame
namespace Go.Proofs.YtgboekilhldejaaGreatDoor
open Go.RowKit Sc
set_option linter.unusedVariables false
set_option maxRecDepth 20000

set_option maxHeartbeats 400000 in
theorem tag_any (c : AdrC) (w : World) (hsm : SmallP 140737488355328 c.a.params) (hat : c.At w) :
    Calls Tryz.prog 17 #[adrV c.a c.p c.h c.q] w fun e w' => e = .returned (.string ⟨(valV c.a.params [116, 97, 103]).1.toArray⟩) ∧ Below w.heap.size w w' := by
  obtain ⟨a, p, h, q⟩ := c
  obtain ⟨h1, h2, h3, hcap⟩ := hat
  simp only at h1 h2 h3 hcap hsm ⊢
  have KV := hid (fun w' (hb : Below w.heap.size w w') => value_any q a.params [116, 97, 103] w' (by decide) hsm (h3.below hb))
  have hbx := boxA_new w a p h q
  have hb0 : Below w.heap.size w (w.alloc (objA a p h q)) := (Below.refl _ w).alloc (Nat.le_refl _) _
  obtain ⟨a1, c1, rfl⟩ := h1.form
  obtain ⟨a2, c2, rfl⟩ := h2.form
  obtain ⟨a3, c3, rfl⟩ := h3.form
  clear h1 h2 h3 hsm hcap
  obtain ⟨d, u, ps⟩ := a
  obtain ⟨us, uu, uh, up, upp, uhh⟩ := u
  unfold adrV
  unfold objA at hb0 hbx
  simp only at KV hb0 hbx ⊢
  generalize valV ps [116, 97, 103] = vv at KV ⊢
  obtain ⟨vt, vb⟩ := vv
  simp only at KV ⊢
  obtain ⟨x0, x1, x2, x3, x4, x5, x6, x7⟩ := hbx
  simp only at x0 x1 x2 x3 x4 x5 x6 x7
  go_enter Tryz.func17, Tryz.ntmps17
  go_wp2_with fail
  refine (KV.out _ hb0).mono ?_
  rintro e w1 ⟨rfl, hw1⟩
  go_wp2
  go_ret
  exact ⟨rfl, hb0.trans (hw1.mono hb0.size)⟩

/-- Parse, where what it says is known. -/
theorem readA {txt : List UInt8} {a : Adr} {n : Int} (h : parseA txt = (a, n)) (w : World) (hs : txt.length ≤ 1048576) :
    Calls Tryz.prog 19 #[.string ⟨txt.toArray⟩] w fun e w' => ∃ a1 k1 a2 k2 a3 k3, e = .returned (.tuple #[adrV a (.slice a1 a.uri.params.length k1) (.slice a2 a.uri.headers.length k2) (.slice a3 a.params.length k3), .int .i64 n]) ∧ AdrC.At w' ⟨a, .slice a1 a.uri.params.length k1, .slice a2 a.uri.headers.length k2, .slice a3 a.params.length k3⟩ ∧ Below w.heap.size w w' := by
  have k := aparse_any txt w hs
  rw [h] at k
  refine k.mono ?_
  rintro e w' ⟨⟨p, hh, q, rfl, o1, o2, o3⟩, hb⟩
  obtain ⟨a1, k1, e1⟩ := o1.parsAt.form
  obtain ⟨a2, k2, e2⟩ := o2.parsAt.form
  obtain ⟨a3, k3, e3⟩ := o3.parsAt.form
  have c3 := o3.cap
  simp only at e1 e2 e3 o1 o2 o3
  subst e1 e2 e3
  exact ⟨a1, k1, a2, k2, a3, k3, rfl, ⟨o1.parsAt, o2.parsAt, o3.parsAt, c3⟩, hb⟩
def xA : Adr := ⟨[66, 111, 98, 32, 66], ⟨[115, 105, 112], [98], [99], 0, [⟨[108, 114], [], false⟩], []⟩, [⟨[116, 97, 103], [49], true⟩]⟩
def xB : Adr := ⟨[], ⟨[115, 105, 112], [98], [99], 0, [], []⟩, [⟨[116, 97, 103], [49], true⟩]⟩
theorem xA_is : parseA [66, 111, 98, 32, 32, 66, 32, 60, 115, 105, 112, 58, 98, 64, 99, 59, 108, 114, 62, 59, 116, 97, 103, 61, 49] = (xA, 0) := by decide +kernel
theorem xB_is : parseA [115, 105, 112, 58, 98, 64, 99, 59, 116, 97, 103, 61, 49] = (xB, 0) := by decide +kernel
theorem xC_is : parseA [115, 105, 112, 58, 98, 64, 99, 63, 120, 61, 49] = (noA, 50) := by decide +kernel
theorem xA_tag : valV xA.params [116, 97, 103] = ([49], true) := by decide +kernel
theorem xB_tag : valV xB.params [116, 97, 103] = ([49], true) := by decide +kernel
theorem small_t : SmallP 140737488355328 xA.params := ⟨by decide, by intro p hp; simp [xA] at hp; subst hp; decide⟩
theorem rdA (w : World) : Calls Tryz.prog 19 #[.string ⟨#[66, 111, 98, 32, 32, 66, 32, 60, 115, 105, 112, 58, 98, 64, 99, 59, 108, 114, 62, 59, 116, 97, 103, 61, 49]⟩] w fun e w' => ∃ a1 k1 a2 k2 a3 k3, e = .returned (.tuple #[.agg #[.string ⟨#[66, 111, 98, 32, 66]⟩, .string ⟨#[115, 105, 112]⟩, .string ⟨#[98]⟩, .string ⟨#[99]⟩, .int .i64 0, .slice a1 1 k1, .slice a2 0 k2, .slice a3 1 k3], .int .i64 0]) ∧ AdrC.At w' ⟨xA, .slice a1 1 k1, .slice a2 0 k2, .slice a3 1 k3⟩ ∧ Below w.heap.size w w' := readA xA_is w (by decide)
theorem rdB (w : World) : Calls Tryz.prog 19 #[.string ⟨#[115, 105, 112, 58, 98, 64, 99, 59, 116, 97, 103, 61, 49]⟩] w fun e w' => ∃ a1 k1 a2 k2 a3 k3, e = .returned (.tuple #[.agg #[.string ⟨#[]⟩, .string ⟨#[115, 105, 112]⟩, .string ⟨#[98]⟩, .string ⟨#[99]⟩, .int .i64 0, .slice a1 0 k1, .slice a2 0 k2, .slice a3 1 k3], .int .i64 0]) ∧ AdrC.At w' ⟨xB, .slice a1 0 k1, .slice a2 0 k2, .slice a3 1 k3⟩ ∧ Below w.heap.size w w' := readA xB_is w (by decide)
theorem rdC (w : World) : Calls Tryz.prog 19 #[.string ⟨#[115, 105, 112, 58, 98, 64, 99, 63, 120, 61, 49]⟩] w fun e w' => ∃ a1 k1 a2 k2 a3 k3, e = .returned (.tuple #[.agg #[.string ⟨#[]⟩, .string ⟨#[]⟩, .string ⟨#[]⟩, .string ⟨#[]⟩, .int .i64 0, .slice a1 0 k1, .slice a2 0 k2, .slice a3 0 k3], .int .i64 50]) ∧ Below w.heap.size w w' := (readA xC_is w (by decide)).mono fun e w' ⟨a1, k1, a2, k2, a3, k3, h, _, hb⟩ => ⟨a1, k1, a2, k2, a3, k3, h, hb⟩
theorem tgA (p h q : Value) (w : World) (hat : AdrC.At w ⟨xA, p, h, q⟩) : Calls Tryz.prog 17 #[.agg #[.string ⟨#[66, 111, 98, 32, 66]⟩, .string ⟨#[115, 105, 112]⟩, .string ⟨#[98]⟩, .string ⟨#[99]⟩, .int .i64 0, p, h, q]] w fun e w' => e = .returned (.string ⟨#[49]⟩) ∧ Below w.heap.size w w' := by
  have k := tag_any ⟨xA, p, h, q⟩ w small_t hat
  simp only at k
  rw [xA_tag] at k
  exact k
theorem tgB (p h q : Value) (w : World) (hat : AdrC.At w ⟨xB, p, h, q⟩) : Calls Tryz.prog 17 #[.agg #[.string ⟨#[]⟩, .string ⟨#[115, 105, 112]⟩, .string ⟨#[98]⟩, .string ⟨#[99]⟩, .int .i64 0, p, h, q]] w fun e w' => e = .returned (.string ⟨#[49]⟩) ∧ Below w.heap.size w w' := by
  have k := tag_any ⟨xB, p, h, q⟩ w small_t hat
  simp only at k
  rw [xB_tag] at k
  exact k

set_option maxHeartbeats 1000000 in
set_option maxRecDepth 100000 in
theorem awake5_any (w : World) : Calls Tryz.prog 7 #[] w fun e w' => e = .returned (.bool true) ∧ Below w.heap.size w w' := by
  go_enter Tryz.func7, Tryz.ntmps7
  go_wp2_with fail
  refine (rdA _).mono ?_
  rintro e w1 ⟨a1, k1, a2, k2, a3, k3, rfl, hat1, hw1⟩
  have X1 := hid (boxA_new w1 xA (.slice a1 1 k1) (.slice a2 0 k2) (.slice a3 1 k3))
  have L1 := hid (alloc_lt w1 (objA xA (.slice a1 1 k1) (.slice a2 0 k2) (.slice a3 1 k3)))
  have hA1 := hid ((Below.refl _ w1).alloc (Nat.le_refl _) (objA xA (.slice a1 1 k1) (.slice a2 0 k2) (.slice a3 1 k3)))
  go_wp2_with fail
  refine (rdB _).mono ?_
  rintro e w2 ⟨b1, j1, b2, j2, b3, j3, rfl, hat2, hw2⟩
  have hw2' : Below w1.heap.size w1 w2 := hA1.out.trans (Below.mono (show Below (w1.alloc (objA xA (.slice a1 1 k1) (.slice a2 0 k2) (.slice a3 1 k3))).heap.size (w1.alloc (objA xA (.slice a1 1 k1) (.slice a2 0 k2) (.slice a3 1 k3))) w2 from hw2) hA1.out.size)
  have X2 := hid (BoxA.below X1.out hw2 L1.out)
  have hl2 : w1.heap.size < w2.heap.size := Nat.lt_of_lt_of_le L1.out hw2.size
  have Y2 := hid (boxA_new w2 xB (.slice b1 0 j1) (.slice b2 0 j2) (.slice b3 1 j3))
  have L2 := hid (alloc_lt w2 (objA xB (.slice b1 0 j1) (.slice b2 0 j2) (.slice b3 1 j3)))
  have hA2 := hid ((Below.refl _ w2).alloc (Nat.le_refl _) (objA xB (.slice b1 0 j1) (.slice b2 0 j2) (.slice b3 1 j3)))
  have X2' := hid (BoxA.below X2.out hA2.out hl2)
  clear hw2 X1 L1 hA1 X2
  go_wp2_with fail
  refine (rdC _).mono ?_
  rintro e w3 ⟨c1, i1, c2, i2, c3, i3, rfl, hw3⟩
  have hw3' : Below w2.heap.size w2 w3 := hA2.out.trans (Below.mono (show Below (w2.alloc (objA xB (.slice b1 0 j1) (.slice b2 0 j2) (.slice b3 1 j3))).heap.size (w2.alloc (objA xB (.slice b1 0 j1) (.slice b2 0 j2) (.slice b3 1 j3))) w3 from hw3) hA2.out.size)
  have X3 := BoxA.below X2'.out hw3 (Nat.lt_trans hl2 L2.out)
  have Y3 := BoxA.below Y2.out hw3 L2.out
  have hl3 : w2.heap.size < w3.heap.size := Nat.lt_of_lt_of_le L2.out hw3.size
  clear hw3 X2' Y2 L2 hA2
  have hA3 : ∀ o, Below w3.heap.size w3 (w3.alloc o) := fun o => (Below.refl _ w3).alloc (Nat.le_refl _) o
  have X4 := fun o => BoxA.below X3 (hA3 o) (Nat.lt_trans hl2 hl3)
  have Y4 := fun o => BoxA.below Y3 (hA3 o) hl3
  have hat1' := hid (fun o => (hat1.below hw2').below (hw3'.trans ((hA3 o).mono hw3'.size)))
  have hat2' := hid (fun o => hat2.below (hw3'.trans ((hA3 o).mono hw3'.size)))
  have hbw := hid (fun o => ((hw1.trans (hw2'.mono hw1.size)).trans (hw3'.mono (Nat.le_trans hw1.size hw2'.size))).trans ((hA3 o).mono (Nat.le_trans hw1.size (Nat.le_trans hw2'.size hw3'.size))))
  have g0 : ∀ o, (w3.alloc o).cell? ⟨w1.heap.size, 0, none⟩ = some (.string ⟨#[66, 111, 98, 32, 66]⟩) := fun o => (X4 o).1
  have g1 : ∀ o, (w3.alloc o).cell? ⟨w1.heap.size, 1, none⟩ = some (.string ⟨#[115, 105, 112]⟩) := fun o => (X4 o).2.1
  have g2 : ∀ o, (w3.alloc o).cell? ⟨w1.heap.size, 2, none⟩ = some (.string ⟨#[98]⟩) := fun o => (X4 o).2.2.1
  have g3 : ∀ o, (w3.alloc o).cell? ⟨w1.heap.size, 3, none⟩ = some (.string ⟨#[99]⟩) := fun o => (X4 o).2.2.2.1
  have g4 : ∀ o, (w3.alloc o).cell? ⟨w1.heap.size, 4, none⟩ = some (.int .i64 0) := fun o => (X4 o).2.2.2.2.1
  have g5 : ∀ o, (w3.alloc o).cell? ⟨w1.heap.size, 5, none⟩ = some (.slice a1 1 k1) := fun o => (X4 o).2.2.2.2.2.1
  have g6 : ∀ o, (w3.alloc o).cell? ⟨w1.heap.size, 6, none⟩ = some (.slice a2 0 k2) := fun o => (X4 o).2.2.2.2.2.2.1
  have g7 : ∀ o, (w3.alloc o).cell? ⟨w1.heap.size, 7, none⟩ = some (.slice a3 1 k3) := fun o => (X4 o).2.2.2.2.2.2.2
  clear X4 X3
  have Y4H := hid Y4
  have L3 := hid (fun o => alloc_lt w3 o)
  clear Y4 Y3 hat1 hat2 hw1 hw2' hw3' hA3
  go_wp2_with fail
  refine (tgA _ _ _ _ (hat1'.out _)).mono ?_
  rintro e w4 ⟨rfl, hw4⟩
  have Y5 := BoxA.below (Y4H.out _) hw4 (Nat.lt_trans hl3 (L3.out _))
  have hat3 := hid ((hat2'.out _).below hw4)
  have hb4 := (hbw.out _).trans (hw4.mono (hbw.out _).size)
  clear g0 g1 g2 g3 g4 g5 g6 g7 Y4H L3 hat1' hat2' hbw hw4
  have g0 : w4.cell? ⟨w2.heap.size, 0, none⟩ = some (.string ⟨#[]⟩) := Y5.1
  have g1 : w4.cell? ⟨w2.heap.size, 1, none⟩ = some (.string ⟨#[115, 105, 112]⟩) := Y5.2.1
  have g2 : w4.cell? ⟨w2.heap.size, 2, none⟩ = some (.string ⟨#[98]⟩) := Y5.2.2.1
  have g3 : w4.cell? ⟨w2.heap.size, 3, none⟩ = some (.string ⟨#[99]⟩) := Y5.2.2.2.1
  have g4 : w4.cell? ⟨w2.heap.size, 4, none⟩ = some (.int .i64 0) := Y5.2.2.2.2.1
  have g5 : w4.cell? ⟨w2.heap.size, 5, none⟩ = some (.slice b1 0 j1) := Y5.2.2.2.2.2.1
  have g6 : w4.cell? ⟨w2.heap.size, 6, none⟩ = some (.slice b2 0 j2) := Y5.2.2.2.2.2.2.1
  have g7 : w4.cell? ⟨w2.heap.size, 7, none⟩ = some (.slice b3 1 j3) := Y5.2.2.2.2.2.2.2
  clear Y5
  go_wp2_with fail
  refine (tgB _ _ _ _ hat3.out).mono ?_
  rintro e w5 ⟨rfl, hw5⟩
  go_wp2
  go_ret
  exact ⟨rfl, hb4.trans (hw5.mono hb4.size)⟩

end Go.Proofs.YtgboekilhldejaaGreatDoor
