/-
  The chapter's example of layer 11.
-/
import Derived.Test.YtbnmdljlfldgoaaSB
import Derived.Test.YtbnmdljlfldgoaaSvSort
namespace Go.Proofs.Ytbnmdljlfldgoaa
open Go.RowKit
set_option linter.unusedVariables false
set_option maxRecDepth 20000
set_option linter.unusedSimpArgs false

section
variable {B bt : Nat} {w : World} {t t' : Tb}
theorem start_is (h : Tab B bt w t) {br hop me : List UInt8} {now n m : Int} (h1 : br.length ≤ 281474976710656) (h2 : hop.length ≤ 281474976710656) (h3 : me.length ≤ 281474976710656) (h9 : t.last ≤ 1000000000) (he : startT t br hop me now = (t', n, m)) :
    Calls Try.prog 17 #[.pointer (some ⟨bt, 0, none⟩), .string ⟨br.toArray⟩, .string ⟨hop.toArray⟩, .string ⟨me.toArray⟩, .int .i64 now] w fun e w' => e = .returned (.tuple #[.int .i64 n, .int .i64 m]) ∧ Tab B bt w' t' ∧ FrS B w w' := by
  have := start_any h (now := now) h1 h2 h3 h9
  rw [he] at this
  exact this
theorem expire_is (h : Tab B bt w t) {now : Int} {ids : List Int} (he : expireT t now = (t', ids)) :
    Calls Try.prog 19 #[.pointer (some ⟨bt, 0, none⟩), .int .i64 now] w fun e w' => ∃ oa oc, e = .returned (.slice oa ids.length oc) ∧ Own w' w.heap.size 3 (.slice oa ids.length oc) (idCells ids) ∧ Tab B bt w' t' ∧ FrS B w w' := by
  have := expire_any sort_all h (now := now)
  rw [he] at this
  refine this.mono ?_
  rintro e w' ⟨v, rfl, ho, ht, hf⟩
  obtain ⟨oa, oc, hv⟩ := ho.form
  rw [show (idCells (t', ids).2).length = ids.length by simp [idCells]] at hv
  subst hv
  exact ⟨oa, oc, rfl, ho, ht, hf⟩
end
def awC : Cl := ⟨1, [98], [99], [88], 320, false, [], []⟩
def awD : Cl := ⟨2, [100], [99], [88], 640, false, [], []⟩
theorem aw1 : startT ⟨1, 0, []⟩ [98] [99] [88] 0 = (⟨1, 1, [awC]⟩, 1, 0) := by rfl
theorem aw2 : startT ⟨1, 1, [awC]⟩ [98] [99] [88] 9 = (⟨1, 1, [awC]⟩, 0, 7) := by rfl
theorem aw3 : startT ⟨1, 1, [awC]⟩ [100] [99] [88] 9 = (⟨1, 1, [awC]⟩, 0, 5) := by rfl
theorem aw4 : expireT ⟨1, 1, [awC]⟩ 319 = (⟨1, 1, [awC]⟩, []) := by rfl
theorem aw5 : expireT ⟨1, 1, [awC]⟩ 320 = (⟨1, 1, []⟩, [1]) := by rfl
theorem aw6 : startT ⟨1, 1, []⟩ [100] [99] [88] 320 = (⟨1, 2, [awD]⟩, 2, 0) := by rfl
theorem ids_row {w : World} {g : Nat} {xs : List Int} (h : RowIs w g 3 (idCells xs)) (hm : xs.length ≤ 1000000) : IdsAt w (.slice (some ⟨g, 0, none⟩) xs.length xs.length) xs := by
  have hl : (idCells xs).length = xs.length := by simp [idCells]
  exact own_ids (h.own 0 _ (Nat.zero_le _) hl (by unfold maxLen; omega))
set_option maxHeartbeats 1000000 in
set_option maxRecDepth 100000 in
theorem awake11_any (w : World) : Calls Try.prog 10 #[] w fun e w' => e = .returned (.bool true) ∧ Below w.heap.size w w' := by
  go_enter Try.func10, Try.ntmps10
  go_wp2_with fail
  refine (snew_ok w (most := 1) (by decide) (by decide)).mono ?_
  rintro e w1 ⟨b, rfl, T1, B1⟩
  go_wp2_with fail
  refine (start_is T1 (br := [98]) (hop := [99]) (me := [88]) (by decide) (by decide) (by decide) (by decide) aw1).mono ?_
  rintro e w2 ⟨rfl, T2, F2⟩
  go_wp2_with fail
  refine (start_is T2 (br := [98]) (hop := [99]) (me := [88]) (by decide) (by decide) (by decide) (by decide) aw2).mono ?_
  rintro e w3 ⟨rfl, T3, F3⟩
  go_wp2_with fail
  refine (start_is T3 (br := [100]) (hop := [99]) (me := [88]) (by decide) (by decide) (by decide) (by decide) aw3).mono ?_
  rintro e w4 ⟨rfl, T4, F4⟩
  go_wp2_with fail
  refine (expire_is T4 aw4).mono ?_
  rintro e w5 ⟨oa, oc, rfl, _, T5, F5⟩
  go_wp2_with fail
  refine (expire_is T5 aw5).mono ?_
  rintro e w6 ⟨ob, od, rfl, O6, T6, F6⟩
  go_wp2_with fail
  refine (start_is T6 (br := [100]) (hop := [99]) (me := [88]) (by decide) (by decide) (by decide) (by decide) aw6).mono ?_
  rintro e w7 ⟨rfl, T7, F7⟩
  have O7 := F7.own O6 (by decide) (by decide) (by decide) (by decide)
  have B7 := (((((B1.trans F2.below).trans F3.below).trans F4.below).trans F5.below).trans F6.below).trans F7.below
  have I1 := own_ids O7
  have hA := (Below.refl _ w7).alloc (Nat.le_refl _) (.cells #[.int .i64 1] 3)
  have hR : RowIs (w7.alloc (.cells #[.int .i64 1] 3)) w7.heap.size 3 (idCells [1]) := by unfold RowIs; rw [heap_alloc_new]; rfl
  have KI := hid (refints_any (I1.below hA) (ids_row hR (by decide)) (by decide) (by decide))
  have BA := hid (B7.trans (hA.mono B7.size))
  clear hA hR I1 O7 B7 O6 T1 T2 T3 T4 T5 T6 T7 F2 F3 F4 F5 F6 F7 B1
  simp only [List.length_cons, List.length_nil, decide_true] at KI
  go_wp2_with fail
  refine KI.out.mono ?_
  rintro e w8 ⟨rfl, hb8⟩
  have B8 := BA.out.trans (hb8.mono BA.out.size)
  clear hb8 BA KI
  go_wp2
  go_ret
  exact ⟨rfl, B8⟩
end Go.Proofs.Ytbnmdljlfldgoaa
