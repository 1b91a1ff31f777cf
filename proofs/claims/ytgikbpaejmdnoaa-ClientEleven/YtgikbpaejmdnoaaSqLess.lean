/-
  The table's Response where the answer is none for good: nothing that was there is changed.
-/
import Derived.Test.YtgikbpaejmdnoaaSB
namespace Go.Proofs.Ytgikbpaejmdnoaa
open Go.RowKit Go.Maps Go.WideMaps
set_option linter.unusedVariables false
set_option maxRecDepth 20000
set_option linter.unusedSimpArgs false

section
variable {B U bt mn ma be mw : Nat} {w w' : World} {r : List Tm} {t : Tq}
set_option maxHeartbeats 4000000 in
set_option maxRecDepth 100000 in
theorem qresp_less (h : TabQ B U bt w t) {br : List UInt8} {s now : Int} (h1 : br.length ≤ 281474976710656) (hs2 : s < 200) :
    Calls Try.prog 16 #[.pointer (some ⟨bt, 0, none⟩), .string ⟨br.toArray⟩, .int .i64 s, .int .i64 now] w fun e w' => e = .returned (rsV (respQ t br s now).2) ∧ Below w.heap.size w w' := by
  have HT : Hid (∀ u, Below w.heap.size w u → Below w.heap.size w u) := fun u hu => hu
  obtain ⟨hok, hsm, hU, mn, ma, be, mw, r, hS, hE⟩ := h
  have KM := hid (qmade_any hS)
  by_cases hbad : now < 0 ∨ 1099511627456 < now ∨ s < 100 ∨ 699 < s
  · rw [respq_arg hbad]
    clear hS hE hsm hok
    have H0 := hid (HT.out _ (Below.refl _ _))
    by_cases b1 : now < 0
    · clear hbad
      go_enter Try.func16, Try.ntmps16
      go_wp2_with (go_at_call 23; refine KM.out.mono ?_; rintro e w9 ⟨rfl, hw9⟩; rw [hw9]; clear hw9)
      go_ret3
      exact ⟨rfl, H0.out⟩
    by_cases b2 : 1099511627456 < now
    · clear hbad
      go_enter Try.func16, Try.ntmps16
      go_wp2_with (go_at_call 23; refine KM.out.mono ?_; rintro e w9 ⟨rfl, hw9⟩; rw [hw9]; clear hw9)
      go_ret3
      exact ⟨rfl, H0.out⟩
    by_cases b3 : s < 100
    · clear hbad
      go_enter Try.func16, Try.ntmps16
      go_wp2_with (go_at_call 23; refine KM.out.mono ?_; rintro e w9 ⟨rfl, hw9⟩; rw [hw9]; clear hw9)
      go_ret3
      exact ⟨rfl, H0.out⟩
    have b4 : 699 < s := by omega
    clear hbad
    go_enter Try.func16, Try.ntmps16
    go_wp2_with (go_at_call 23; refine KM.out.mono ?_; rintro e w9 ⟨rfl, hw9⟩; rw [hw9]; clear hw9)
    go_ret3
    exact ⟨rfl, H0.out⟩
  obtain ⟨b1, b2, b3, b4⟩ := rsp_bad hbad
  have c2 := hS.c2
  -- none waits
  have NONE : ∀ n : Int, (Lit.int .i64 n).wf = true → liveQ t n = false → (Instr.lookup 57 (.map (some mn)) (.string ⟨br.toArray⟩) false).run Try.prog w = .ok (.int .i64 n) w → respQ t br s now = (t, 0, false, 6) → Calls Try.prog 16 #[.pointer (some ⟨bt, 0, none⟩), .string ⟨br.toArray⟩, .int .i64 s, .int .i64 now] w fun e w' => e = .returned (rsV (respQ t br s now).2) ∧ Below w.heap.size w w' := fun n hwf hlv hlk er => by
    rw [er]
    have KL := hid (qlive_any hS hsm (id := n) hwf)
    rw [hlv] at KL
    clear hS hE hsm hok hbad hlv er hwf
    go_enter Try.func16, Try.ntmps16
    go_wp2_with (first
      | (go_at_call 23; refine KM.out.mono ?_; rintro e w9 ⟨rfl, hw9⟩; rw [hw9]; clear hw9)
      | (go_at_call 12; refine KL.out.mono ?_; rintro e w1 ⟨rfl, hb1⟩; have H1 := hid (HT.out _ hb1); clear hb1))
    go_ret3
    exact ⟨rfl, H1.out⟩
  rcases br_two t.l br with ⟨k, hk, hbr, _⟩ | ⟨hno, _⟩
  · have hs := hsm _ (List.getElem_mem hk)
    have hlk := (hS.lookN (List.getElem_mem hk) hs).2
    rw [hbr] at hlk
    have hpre : ∀ c ∈ t.l.take k, isQ br c = false := fun c hc => by
      obtain ⟨j, hj, rfl⟩ := List.mem_iff_getElem.1 hc
      rw [List.length_take] at hj
      rw [List.getElem_take]
      unfold isQ
      rw [show (t.l[j].br == br) = false by
        simp only [beq_eq_false_iff_ne, ne_eq]
        intro e
        have := br_uniq hok (by omega) hk (e.trans hbr.symm)
        omega]
      rfl
    by_cases hr : t.l[k].rest < 0
    · have hi : isQ br t.l[k] = true := by unfold isQ; simp [hbr, hr]
      have KL := hid (qlive_any hS hsm hs.id)
      rw [live_at hok hk, show decide (t.l[k].rest < 0) = true by simpa using hr] at KL
      rw [respq_more hbad hk hpre hs2 hi]
      generalize t.l[k].id = d at *
      clear hS hE hsm hok hbad hpre hi hr hbr
      go_enter Try.func16, Try.ntmps16
      go_wp2_with (first
        | (go_at_call 23; refine KM.out.mono ?_; rintro e w9 ⟨rfl, hw9⟩; rw [hw9]; clear hw9)
        | (go_at_call 12; refine KL.out.mono ?_; rintro e w1 ⟨rfl, hb1⟩; have H1 := hid (HT.out _ hb1); clear hb1))
      go_ret3
      exact ⟨rfl, H1.out⟩
    · refine NONE _ hs.id (by rw [live_at hok hk]; simpa using hr) hlk (respq_none hbad fun c hc => ?_)
      obtain ⟨j, hj, rfl⟩ := List.mem_iff_getElem.1 hc
      rw [List.length_take] at hj
      rw [List.getElem_take]
      unfold isQ
      by_cases e : t.l[j].br = br
      · have := br_uniq hok (by omega) hk (e.trans hbr.symm)
        subst this
        simp [hr]
      · simp [e]
  · refine NONE 0 (by decide) (live_none hok fun c hc e => by have := (hok.pos c hc).1; omega) (hS.lookN_no h1 hno).2 (respq_none hbad fun c hc => ?_)
    have := hno c (List.mem_of_mem_take hc)
    unfold isQ
    simp [this]
end
end Go.Proofs.Ytgikbpaejmdnoaa
