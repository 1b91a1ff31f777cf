/-
  The walks of ScanTexts and ScanSame.
-/
import Derived.Test.YtbckenknkgkadaaTrim
import Derived.Test.YtbckenknkgkadaaAwake
namespace Go.Proofs.Ytbckenknkgkadaa
open Go.RowKit Sc
theorem below_next {w a b : World} (h : Below w.heap.size w a) (k : Below a.heap.size a b) : Below w.heap.size w b := h.trans (k.mono h.size)
end Go.Proofs.Ytbckenknkgkadaa
namespace Go.Proofs.Ytbckenknkgkadaa.scanTexts
open Go.RowKit Sc
set_option linter.unusedVariables false

set_option maxHeartbeats 400000 in
theorem law_walk (a0 : ByteArray) (b0 : a0.size ≤ 140737488351232) (w : World) :
    Calls Try.prog 4 #[.string a0] w fun e w' => e = .returned (.bool true) ∧ Below w.heap.size w w' := by
  have hm : a0.size ≤ maxLen := by unfold maxLen; omega
  go_enter Try.func4, Try.ntmps4
  go_wp2_with (first
    | (go_at_call 14; refine (token_any _ _ hm).mono ?_; rintro e w' ⟨rfl, rfl⟩)
    | (go_at_call 15; refine (reftoken_any _ _ hm).mono ?_; rintro e w' ⟨rfl, rfl⟩)
    | (go_at_call 16; refine (lower_txt _ _ (by omega)).mono ?_; rintro e w1 ⟨rfl, h1⟩)
    | (go_at_call 17; refine (reflower_txt _ _ (by omega)).mono ?_; rintro e w2 ⟨rfl, h2⟩)
    | (go_at_call 18; refine (trim_any _ _ (by omega)).mono ?_; rintro e w3 ⟨rfl, h3⟩)
    | (go_at_call 19; refine (reftrim_any _ _ (by omega)).mono ?_; rintro e w' ⟨rfl, rfl⟩)
    | (go_at_call 13; refine (awake_any _).mono ?_; rintro e w4 ⟨rfl, h4⟩))
  go_ret
  exact ⟨rfl, below_next (below_next (below_next h1 h2) h3) h4⟩

end Go.Proofs.Ytbckenknkgkadaa.scanTexts
namespace Go.Proofs.Ytbckenknkgkadaa.scanSame
open Go.RowKit Sc
set_option linter.unusedVariables false

theorem lowb_lowb (b : UInt8) : lowb (lowb b) = lowb b := by
  have h : ∀ n : Fin 256, lowb (lowb (UInt8.ofNat n.val)) = lowb (UInt8.ofNat n.val) := by decide +kernel
  have := h ⟨b.toNat, b.toNat_lt⟩
  simpa using this
theorem lowL_lowL (l : List UInt8) : lowL (lowL l) = lowL l := by simp [lowL, lowb_lowb]
theorem same_self (l : List UInt8) : sameB l l = true := by simp [sameB]
theorem same_low (l : List UInt8) : sameB l (lowL l) = true := by simp [sameB, lowL_lowL]
theorem same_comm (a b : List UInt8) : sameB b a = sameB a b := by simp only [sameB]; exact BEq.comm
theorem same_trans {a b c : List UInt8} (h : sameB a b = true) (k : sameB b c = true) : sameB a c = true := by
  simp only [sameB, beq_iff_eq] at *; exact h.trans k

set_option maxHeartbeats 1000000 in
theorem law_walk (a0 a1 a2 : ByteArray) (b0 : a0.size ≤ 140737488351232) (b1 : a1.size ≤ 140737488351232) (b2 : a2.size ≤ 140737488351232) (w : World) :
    Calls Try.prog 5 #[.string a0, .string a1, .string a2] w fun e w' => e = .returned (.bool true) ∧ Below w.heap.size w w' := by
  have h0 : a0.size ≤ 281474976710656 := by omega
  have h1 : a1.size ≤ 281474976710656 := by omega
  have h2 : a2.size ≤ 281474976710656 := by omega
  have b0' : a0.size ≤ 140737488355328 := by omega
  have b1' : a1.size ≤ 140737488355328 := by omega
  have hl : (⟨(lowL a0.data.toList).toArray⟩ : ByteArray).size ≤ 281474976710656 := by
    have e : (⟨(lowL a0.data.toList).toArray⟩ : ByteArray).size = a0.size := by show (lowL a0.data.toList).toArray.size = _; rw [List.size_toArray, lowL_len, len_data]
    rw [e]; exact h0
  have s0 := same_self a0.data.toList
  have s1 := same_low a0.data.toList
  by_cases ab : sameB a0.data.toList a1.data.toList = true
  · have ba : sameB a1.data.toList a0.data.toList = true := by rw [same_comm]; exact ab
    by_cases bc : sameB a1.data.toList a2.data.toList = true
    · have ac := same_trans ab bc
      go_enter Try.func5, Try.ntmps5
      go_wp2_with fail
      refine (same_any _ _ _ h0 h1).mono ?_
      rintro e u1 ⟨rfl, hu1⟩
      go_wp2_with fail
      refine (same_any _ _ _ h1 h2).mono ?_
      rintro e u2 ⟨rfl, hu2⟩
      go_wp2_with fail
      refine (same_any _ _ _ h0 h2).mono ?_
      rintro e u3 ⟨rfl, hu3⟩
      go_wp2_with fail
      refine (refsame_any _ _ _ b0' b1').mono ?_
      rintro e u4 ⟨rfl, hu4⟩
      go_wp2_with fail
      refine (same_any _ _ _ h1 h0).mono ?_
      rintro e u5 ⟨rfl, hu5⟩
      go_wp2_with fail
      refine (same_any _ _ _ h0 h0).mono ?_
      rintro e u6 ⟨rfl, hu6⟩
      go_wp2_with fail
      refine (lower_txt _ _ h0).mono ?_
      rintro e u7 ⟨rfl, hu7⟩
      go_wp2_with fail
      refine (same_any _ _ _ h0 hl).mono ?_
      rintro e u8 ⟨rfl, hu8⟩
      go_wp2_with fail
      refine (awake_any _).mono ?_
      rintro e u9 ⟨rfl, hu9⟩
      go_wp2
      go_ret
      exact ⟨rfl, below_next (below_next (below_next (below_next (below_next (below_next (below_next (below_next hu1 hu2) hu3) hu4) hu5) hu6) hu7) hu8) hu9⟩
    · have bc' : sameB a1.data.toList a2.data.toList = false := by simpa using bc
      clear bc
      go_enter Try.func5, Try.ntmps5
      go_wp2_with fail
      refine (same_any _ _ _ h0 h1).mono ?_
      rintro e u1 ⟨rfl, hu1⟩
      go_wp2_with fail
      refine (same_any _ _ _ h1 h2).mono ?_
      rintro e u2 ⟨rfl, hu2⟩
      go_wp2_with fail
      refine (same_any _ _ _ h0 h2).mono ?_
      rintro e u3 ⟨rfl, hu3⟩
      go_wp2_with fail
      refine (refsame_any _ _ _ b0' b1').mono ?_
      rintro e u4 ⟨rfl, hu4⟩
      go_wp2_with fail
      refine (same_any _ _ _ h1 h0).mono ?_
      rintro e u5 ⟨rfl, hu5⟩
      go_wp2_with fail
      refine (same_any _ _ _ h0 h0).mono ?_
      rintro e u6 ⟨rfl, hu6⟩
      go_wp2_with fail
      refine (lower_txt _ _ h0).mono ?_
      rintro e u7 ⟨rfl, hu7⟩
      go_wp2_with fail
      refine (same_any _ _ _ h0 hl).mono ?_
      rintro e u8 ⟨rfl, hu8⟩
      go_wp2_with fail
      refine (awake_any _).mono ?_
      rintro e u9 ⟨rfl, hu9⟩
      go_wp2
      go_ret
      exact ⟨rfl, below_next (below_next (below_next (below_next (below_next (below_next (below_next (below_next hu1 hu2) hu3) hu4) hu5) hu6) hu7) hu8) hu9⟩
  · have ab' : sameB a0.data.toList a1.data.toList = false := by simpa using ab
    have ba : sameB a1.data.toList a0.data.toList = false := by rw [same_comm]; exact ab'
    clear ab
    go_enter Try.func5, Try.ntmps5
    go_wp2_with fail
    refine (same_any _ _ _ h0 h1).mono ?_
    rintro e u1 ⟨rfl, hu1⟩
    go_wp2_with fail
    refine (same_any _ _ _ h1 h2).mono ?_
    rintro e u2 ⟨rfl, hu2⟩
    go_wp2_with fail
    refine (same_any _ _ _ h0 h2).mono ?_
    rintro e u3 ⟨rfl, hu3⟩
    go_wp2_with fail
    refine (refsame_any _ _ _ b0' b1').mono ?_
    rintro e u4 ⟨rfl, hu4⟩
    go_wp2_with fail
    refine (same_any _ _ _ h1 h0).mono ?_
    rintro e u5 ⟨rfl, hu5⟩
    go_wp2_with fail
    refine (same_any _ _ _ h0 h0).mono ?_
    rintro e u6 ⟨rfl, hu6⟩
    go_wp2_with fail
    refine (lower_txt _ _ h0).mono ?_
    rintro e u7 ⟨rfl, hu7⟩
    go_wp2_with fail
    refine (same_any _ _ _ h0 hl).mono ?_
    rintro e u8 ⟨rfl, hu8⟩
    go_wp2_with fail
    refine (awake_any _).mono ?_
    rintro e u9 ⟨rfl, hu9⟩
    go_wp2
    go_ret
    exact ⟨rfl, below_next (below_next (below_next (below_next (below_next (below_next (below_next (below_next hu1 hu2) hu3) hu4) hu5) hu6) hu7) hu8) hu9⟩

end Go.Proofs.Ytbckenknkgkadaa.scanSame
