/-
  The contract of the document's own written.
-/
import Derived.Test.YtfdcklekjnihjaaDoorRefCut
import Derived.Test.YtfdcklekjnihjaaDoorRefUne
import Derived.Test.YtfdcklekjnihjaaDoorWrittenL
namespace Go.Proofs.YtfdcklekjnihjaaDoor
open Go.RowKit Sc
set_option linter.unusedVariables false
set_option maxRecDepth 20000

theorem ret_wr {p : List UInt8 × Bool} {x : List UInt8} {b : Bool} (h : p = (x, b)) : Ending.returned (.tuple #[.string ⟨x.toArray⟩, .bool b]) = .returned (.tuple #[.string ⟨p.1.toArray⟩, .bool p.2]) := by rw [h]

set_option maxHeartbeats 1000000 in
theorem written_any (s keep : ByteArray) (w : World) (hs : s.size ≤ 140737488355328) (hk : keep.size ≤ maxLen) :
    Calls Tryd.prog 49 #[.string s, .string keep] w fun e w' => e = .returned (.tuple #[.string ⟨(writtenV keep.data.toList s.data.toList).1.toArray⟩, .bool (writtenV keep.data.toList s.data.toList).2]) ∧ Below w.heap.size w w' := by
  go_enter Tryd.func49, Tryd.ntmps49
  go_wp2
  go_loop [6] (fun i => ∃ k : Nat, k ≤ s.size ∧ i = .int .i64 k ∧ Hid ((s.data.toList.take k).all (okw keep.data.toList) = true)) (fun i => s.size - (intOf i).toNat)
  case atStart => exact ⟨0, by omega, rfl, rfl⟩
  case round =>
    obtain ⟨k, hk', rfl, hall⟩ := hrel
    by_cases hlt : k < s.size
    · have hbd := u8_bd s[k]
      by_cases h37 : s[k] = 37
      · have e37 : ((s[k].toNat : Int) != 37) = false := by rw [h37]; rfl
        have ha : Hid ((s.data.toList.take (k + 1)).all (okw keep.data.toList) = true) := okw_snoc hlt hall.out (by simp [okw, h37])
        clear h37 hall
        go_wp2
        go_round
        case rel => exact ⟨k + 1, by omega, by go_num, ha⟩
        case measure => simp [intOf]; omega
      · have e37 : ((s[k].toNat : Int) != 37) = true := by
          have := u8_ne (b := 37) h37
          simp only [bne, Bool.not_eq_true']; exact this
        by_cases hx : isB s[k].toNat 16 = true
        · have hx2 : (bits BinOp.and IntKind.i64 (cls s[k].toNat) 16 == 0) = false := by simpa [isB] using hx
          have ha : Hid ((s.data.toList.take (k + 1)).all (okw keep.data.toList) = true) := okw_snoc hlt hall.out (by simp [okw, hx])
          clear h37 hall hx
          go_wp2_with (go_at_call 32; refine (refclass_any _ _ hbd.1 hbd.2).mono ?_; rintro e w' ⟨rfl, rfl⟩)
          go_round
          case rel => exact ⟨k + 1, by omega, by go_num, ha⟩
          case measure => simp [intOf]; omega
        · have hx2 : (bits BinOp.and IntKind.i64 (cls s[k].toNat) 16 == 0) = true := by simpa [isB] using hx
          by_cases hh : hasL s[k] keep.data.toList = true
          · have ha : Hid ((s.data.toList.take (k + 1)).all (okw keep.data.toList) = true) := okw_snoc hlt hall.out (by simp [okw, hh])
            clear h37 hall hx
            go_wp2_with (first
              | (go_at_call 32; refine (refclass_any _ _ hbd.1 hbd.2).mono ?_; rintro e w' ⟨rfl, rfl⟩)
              | (go_at_call 48; refine (has3_any keep s[k] _ hk).mono ?_; rintro e w' ⟨rfl, rfl⟩))
            go_round
            case rel => exact ⟨k + 1, by omega, by go_num, ha⟩
            case measure => simp [intOf]; omega
          · have hh' : hasL s[k] keep.data.toList = false := by simpa using hh
            have hb : Hid (writtenV keep.data.toList s.data.toList = ([], false)) := written_bad hlt (by
              simp only [okw, Bool.or_eq_false_iff, beq_eq_false_iff_ne, ne_eq]
              exact ⟨h37, by simpa using hx, hh'⟩)
            clear h37 hall hx hh
            go_wp2_with (first
              | (go_at_call 32; refine (refclass_any _ _ hbd.1 hbd.2).mono ?_; rintro e w' ⟨rfl, rfl⟩)
              | (go_at_call 48; refine (has3_any keep s[k] _ hk).mono ?_; rintro e w' ⟨rfl, rfl⟩))
            go_ret2
            exact ⟨ret_wr (x := []) hb.out, Below.refl _ _⟩
    · rw [take_all s k (by omega)] at hall
      have hv := written_all hall.out
      have HV : Hid _ := hv; clear hv hall
      go_wp2_with (go_at_call 65; refine (refunescape_any _ _ hs).mono ?_; rintro e w1 ⟨rfl, hw1⟩)
      all_goals go_ret2
      all_goals exact ⟨ret_wr HV.out, hw1⟩

end Go.Proofs.YtfdcklekjnihjaaDoor
