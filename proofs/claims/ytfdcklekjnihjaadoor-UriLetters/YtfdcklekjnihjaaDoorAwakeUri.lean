/-
  The chapter's examples (layer 3): 'awake' answers true.
-/
import Derived.Test.YtfdcklekjnihjaaDoorBaseE
namespace Go.Proofs.YtfdcklekjnihjaaDoor
open Go.RowKit Sc
set_option linter.unusedVariables false
set_option maxRecDepth 20000

theorem parseC {l : List UInt8} {u : Uri} {er : Int} (h : parseV l = (u, er)) (w : World) (hs : l.length ≤ 1048576) :
    Calls Tryd.prog 20 #[.string ⟨l.toArray⟩] w fun e w' => ∃ a1 k1 a2 k2, e = .returned (.tuple #[.agg #[.string ⟨u.scheme.toArray⟩, .string ⟨u.user.toArray⟩, .string ⟨u.host.toArray⟩, .int .i64 u.port, .slice a1 u.params.length k1, .slice a2 u.headers.length k2], .int .i64 er]) ∧ OwnP w' w.heap.size (.slice a1 u.params.length k1) u.params ∧ OwnP w' w.heap.size (.slice a2 u.headers.length k2) u.headers ∧ Below w.heap.size w w' := by
  have k := parse_any l w hs
  rw [h] at k
  refine k.mono ?_
  rintro e w' ⟨p, q, rfl, hp, hq, hb⟩
  obtain ⟨a1, k1, e1⟩ := hp.parsAt.form
  obtain ⟨a2, k2, e2⟩ := hq.parsAt.form
  simp only at e1 e2 hp hq
  subst e1 e2
  exact ⟨a1, k1, a2, k2, rfl, hp, hq, hb⟩

def ex1 : List UInt8 := [83, 73, 80, 58, 97, 37, 50, 48, 98, 64, 69, 120, 97, 109, 112, 108, 101, 46, 111, 114, 103, 58, 53, 48, 55, 48, 59, 108, 114, 59, 120, 61, 49, 63, 121, 61, 50]
def ex2 : List UInt8 := [115, 105, 112, 58]
def ex3 : List UInt8 := [115, 105, 112, 58, 97, 58, 98, 64, 99]
def exU : Uri := ⟨[115, 105, 112], [97, 32, 98], [101, 120, 97, 109, 112, 108, 101, 46, 111, 114, 103], 5070, [⟨[108, 114], [], false⟩, ⟨[120], [49], true⟩], [⟨[121], [50], true⟩]⟩
theorem ex1_is : parseV ex1 = (exU, 0) := by decide +kernel
theorem ex2_is : parseV ex2 = (noU, 32) := by decide +kernel
theorem ex3_is : parseV ex3 = (noU, 31) := by decide +kernel

theorem box_keep {w w5 : World} {o : Obj} {b : Nat} {u : Uri} {p h : Value} (k : BoxU w b u p h) (hb : b < w.heap.size) (h5 : Below (w.alloc o).heap.size (w.alloc o) w5) : BoxU w5 b u p h :=
  (k.below ((Below.refl _ w).alloc (Nat.le_refl _) o) hb).below h5 (by simp; omega)

set_option maxHeartbeats 1000000 in
set_option maxRecDepth 100000 in
theorem awake_any (w : World) :
    Calls Tryd.prog 15 #[] w fun e w' => e = .returned (.bool true) ∧ Below w.heap.size w w' := by
  have K1 : Hid _ := fun w' => parseC ex1_is w' (by decide)
  have K2 : Hid _ := fun w' => parseC ex2_is w' (by decide)
  have K3 : Hid _ := fun w' => parseC ex3_is w' (by decide)
  go_enter Tryd.func15, Tryd.ntmps15
  go_wp2_with fail
  refine (K1.out _).mono ?_
  rintro e w1 ⟨a1, k1, a2, k2, rfl, _, _, hw1⟩
  simp only [exU]
  have hbx := box_new w1 exU (.slice a1 2 k1) (.slice a2 1 k2)
  have hb1 : Below w.heap.size w (w1.alloc (.cells #[.string ⟨exU.scheme.toArray⟩, .string ⟨exU.user.toArray⟩, .string ⟨exU.host.toArray⟩, .int .i64 exU.port, .slice a1 2 k1, .slice a2 1 k2] 31)) := hw1.alloc hw1.size _
  have hlt : w1.heap.size < (w1.alloc (.cells #[.string ⟨exU.scheme.toArray⟩, .string ⟨exU.user.toArray⟩, .string ⟨exU.host.toArray⟩, .int .i64 exU.port, .slice a1 2 k1, .slice a2 1 k2] 31)).heap.size := by simp
  go_wp2_with fail
  refine (K2.out _).mono ?_
  rintro e w2 ⟨a3, k3, a4, k4, rfl, _, _, hw2⟩
  simp only [noU]
  have hbx2 := hbx.below hw2 hlt
  have hb2 := hb1.trans (hw2.mono hb1.size)
  have hlt2 := Nat.lt_of_lt_of_le hlt hw2.size
  clear hbx hb1 hlt hw1 hw2 K1 K2
  have hB2 := hb2.size
  have HBX : Hid _ := hbx2; clear hbx2
  go_wp2_with fail
  refine (K3.out _).mono ?_
  rintro e w3 ⟨a5, k5, a6, k6, rfl, _, _, hw3⟩
  simp only [noU]
  have hbx3 := box_keep HBX.out hlt2 hw3
  have hb3 := box_below hb2 hB2 hw3
  have hlt3 : w1.heap.size < w3.heap.size := Nat.lt_of_lt_of_le hlt2 (Nat.le_trans (by simp) hw3.size)
  have hall : ∀ o, BoxU (w3.alloc o) w1.heap.size exU (.slice a1 2 k1) (.slice a2 1 k2) := fun o => hbx3.below ((Below.refl _ w3).alloc (Nat.le_refl _) o) hlt3
  clear hw3 HBX K3 hb2 hB2 hlt2 hbx3 hlt3
  have g0 := fun o => (hall o).1
  have g1 := fun o => (hall o).2.1
  have g2 := fun o => (hall o).2.2.1
  have g3 := fun o => (hall o).2.2.2.1
  have g4 := fun o => (hall o).2.2.2.2.1
  have g5 := fun o => (hall o).2.2.2.2.2
  clear hall
  simp only [exU] at g0 g1 g2 g3 g4 g5
  have hB3 := hb3.size
  go_wp2
  go_ret
  exact ⟨rfl, hb3.alloc hB3 _⟩

end Go.Proofs.YtfdcklekjnihjaaDoor
