/-
  Contracts: package via's behindProtocol and Parse.
-/
import Derived.Test.YtpcgomfiihhpcaaDoorVCheck
import Derived.Test.YtpcgomfiihhpcaaDoorFR
import Derived.Test.YtpcgomfiihhpcaaDoorFQ
namespace Go.Proofs.YtpcgomfiihhpcaaDoor
open Go.RowKit Sc
set_option linter.unusedVariables false
set_option maxRecDepth 20000

theorem vsame_list (a b : List UInt8) (w : World) (ha : a.length ≤ 140737488355328) (hb : b.length ≤ 140737488355328) :
    Calls Tryd.prog 65 #[.string ⟨a.toArray⟩, .string ⟨b.toArray⟩] w fun e w' => e = .returned (.bool (sameB a b)) ∧ Below w.heap.size w w' :=
  same_any ⟨a.toArray⟩ ⟨b.toArray⟩ w (by rw [size_list]; omega) (by rw [size_list]; omega)
theorem index_of (l : List UInt8) (w : World) (hl : l.length ≤ 140737488355328) :
    Calls Tryd.prog 64 #[.string ⟨l.toArray⟩, .string ⟨#[32, 9]⟩] w fun e w' => e = .returned (.int .i64 (if wordN l = l.length then -1 else (wordN l : Int))) ∧ Below w.heap.size w w' := by
  have z := size_list l
  rw [← index_word]
  by_cases h8 : (⟨l.toArray⟩ : ByteArray).size ≤ 8
  · exact bindexAny_short ⟨l.toArray⟩ w h8
  · exact bindexAny_long ⟨l.toArray⟩ w (by omega) (by omega)
theorem vtake_ext (l : List UInt8) (k : Nat) : (⟨l.toArray⟩ : ByteArray).extract 0 k = ⟨(l.take k).toArray⟩ := by
  apply ByteArray.ext
  simp
theorem vdrop_ext (l : List UInt8) (k : Nat) : (⟨l.toArray⟩ : ByteArray).extract k (⟨l.toArray⟩ : ByteArray).size = ⟨(l.drop k).toArray⟩ := by
  apply ByteArray.ext
  rw [size_list]
  simp [List.take_of_length_le]
theorem ret_tb {R : List UInt8 × Bool} {x : List UInt8} {b : Bool} (h : R = (x, b)) : Ending.returned (.tuple #[.string ⟨x.toArray⟩, .bool b]) = .returned (.tuple #[.string ⟨R.1.toArray⟩, .bool R.2]) := by rw [h]

set_option maxHeartbeats 1000000 in
set_option maxRecDepth 100000 in
theorem behind_any (t : List UInt8) (w : World) (hs : t.length ≤ 140737488355328) :
    Calls Tryd.prog 34 #[.string ⟨t.toArray⟩] w fun e w' => e = .returned (.tuple #[.string ⟨(behV t).1.toArray⟩, .bool (behV t).2]) ∧ Below w.heap.size w w' := by
  have KI := hid (fun w' => index_of t w' hs)
  have b1 := hid (@behV_none t)
  have b2 := hid (@behV_other t)
  have b3 := hid (@behV_yes t)
  have hle := wordN_le t
  have htk := vtake_ext t (wordN t)
  have hdr := vdrop_ext t (wordN t + 1)
  have KS := hid (fun w' => vsame_list (t.take (wordN t)) protoK w' (by simp; omega) (by decide))
  have hz := size_list t
  generalize behV t = R at b1 b2 b3 ⊢
  generalize wordN t = n at KI b1 b2 b3 hle htk hdr KS
  by_cases hn : n = t.length
  · have HV := hid (b1.out hn)
    rw [if_pos hn] at KI
    clear b1 b2 b3 KS htk hdr
    go_enter Tryd.func34, Tryd.ntmps34
    go_wp2_with fail
    refine (KI.out _).mono ?_
    rintro e w1 ⟨rfl, hw1⟩
    go_wp2
    go_ret2
    exact ⟨ret_tb (x := []) HV.out, hw1⟩
  · rw [if_neg hn] at KI
    have hlt : n < t.length := by omega
    have d0 : decide ((n : Int) < 0) = false := decide_eq_false (by omega)
    generalize t.take n = tk at KS b2 b3 htk
    have HB3 := hid (fun h => b3.out hn h)
    clear b3
    cases hsb : sameB tk protoK with
    | false =>
      have HV := hid (b2.out hsb)
      rw [hsb] at KS
      clear b1 b2 HB3 hsb
      unfold protoK at KS
      go_enter Tryd.func34, Tryd.ntmps34
      go_wp2_with fail
      refine (KI.out _).mono ?_
      rintro e w1 ⟨rfl, hw1⟩
      go_wp2_with fail
      refine (KS.out _).mono ?_
      rintro e w2 ⟨rfl, hw2⟩
      go_wp2
      go_ret2
      exact ⟨ret_tb (x := []) HV.out, hw1.trans (hw2.mono hw1.size)⟩
    | true =>
      have HV := hid (HB3.out hsb)
      rw [hsb] at KS
      clear b1 b2 HB3 hsb
      unfold protoK at KS
      go_enter Tryd.func34, Tryd.ntmps34
      go_wp2_with fail
      refine (KI.out _).mono ?_
      rintro e w1 ⟨rfl, hw1⟩
      go_wp2_with fail
      refine (KS.out _).mono ?_
      rintro e w2 ⟨rfl, hw2⟩
      go_wp2
      go_ret2
      first
        | exact ⟨ret_tb HV.out, hw1.trans (hw2.mono hw1.size)⟩
        | exact ⟨by rw [HV.out, ← hdr]; rfl, hw1.trans (hw2.mono hw1.size)⟩

end Go.Proofs.YtpcgomfiihhpcaaDoor
