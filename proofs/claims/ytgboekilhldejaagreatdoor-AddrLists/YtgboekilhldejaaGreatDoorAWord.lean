/-
  Contracts: package addr's quotable, quoted, word, shown; the document's own Word.
-/
import Derived.Test.YtgboekilhldejaaGreatDoorAddrKit
namespace Go.Proofs.YtgboekilhldejaaGreatDoor
open Go.RowKit Sc
set_option linter.unusedVariables false
set_option maxRecDepth 20000

def quotB (l : List UInt8) : Bool := decide (l.length ≤ 64) && !hasBar l

set_option maxHeartbeats 400000 in
theorem quotable_any (l : List UInt8) (w : World) (hl : l.length ≤ 140737488355328) :
    Calls Tryz.prog 37 #[.string ⟨l.toArray⟩] w fun e w' => e = .returned (.bool (quotB l)) ∧ Below w.heap.size w w' := by
  have hs := size_list l
  by_cases h : l.length ≤ 64
  · cases hb : hasBar l with
    | true =>
      have hv : Hid (quotB l = false) := show _ = _ by simp [quotB, hb]
      have hq : quoteV l = ([], 11) := by rw [quoteV, hb]; rfl
      have K := hid (fun w' => quote_list l w' (by omega))
      rw [hq] at K
      clear hb hq
      go_enter Tryz.func37, Tryz.ntmps37
      go_wp2_with fail
      refine (K.out _).mono ?_
      rintro e w1 ⟨rfl, hw1⟩
      go_wp2
      go_ret
      exact ⟨ret_bool hv.out.symm, hw1⟩
    | false =>
      have hv : Hid (quotB l = true) := show _ = _ by simp [quotB, hb, h]
      have hq : quoteV l = (34 :: quo l ++ [34], 0) := by rw [quoteV, hb]; rfl
      have K := hid (fun w' => quote_list l w' (by omega))
      rw [hq] at K
      clear hb hq
      go_enter Tryz.func37, Tryz.ntmps37
      go_wp2_with fail
      refine (K.out _).mono ?_
      rintro e w1 ⟨rfl, hw1⟩
      go_wp2
      go_ret
      exact ⟨ret_bool hv.out.symm, hw1⟩
  · have hv : Hid (quotB l = false) := show _ = _ by simp [quotB, h]
    go_enter Tryz.func37, Tryz.ntmps37
    go_wp2
    go_ret
    exact ⟨ret_bool hv.out.symm, Below.refl _ _⟩

set_option maxHeartbeats 400000 in
theorem quoted_any (l : List UInt8) (w : World) (hl : l.length ≤ 1048576) :
    Calls Tryz.prog 34 #[.string ⟨l.toArray⟩] w fun e w' => e = .returned (.string ⟨(quoteV l).1.toArray⟩) ∧ Below w.heap.size w w' := by
  have K := hid (fun w' => quote_list l w' hl)
  generalize quoteV l = q at K ⊢
  obtain ⟨q, n⟩ := q
  go_enter Tryz.func34, Tryz.ntmps34
  go_wp2_with fail
  refine (K.out _).mono ?_
  rintro e w1 ⟨rfl, hw1⟩
  go_wp2
  go_ret
  exact ⟨rfl, hw1⟩

set_option maxHeartbeats 400000 in
theorem word_any (l : List UInt8) (w : World) (hl : l.length ≤ 140737488355328) :
    Calls Tryz.prog 56 #[.string ⟨l.toArray⟩] w fun e w' => e = .returned (.bool (wordB l)) ∧ Below w.heap.size w w' := by
  have K1 := hid (fun w' => token_list l w' hl)
  have K2 := hid (fun w' => lower_list l w' (by omega))
  have K3 := hid (fun w' => host_list (lowL l) w' (by rw [lowL_len]; exact hl))
  have hv : wordB l = (tokenB l || hostB (lowL l)) := rfl
  generalize wordB l = v at hv ⊢
  generalize tokenB l = t at K1 hv
  generalize lowL l = m at K2 K3 hv
  generalize hostB m = h at K3 hv
  cases t with
  | true =>
    have HV : Hid (v = true) := show _ = _ by rw [hv]; rfl
    clear hv K2 K3
    go_enter Tryz.func56, Tryz.ntmps56
    go_wp2_with fail
    refine (K1.out _).mono ?_
    rintro e w1 ⟨rfl, rfl⟩
    go_wp2
    go_ret
    exact ⟨ret_bool HV.out.symm, Below.refl _ _⟩
  | false =>
    have HV : Hid (v = h) := show _ = _ by rw [hv]; rfl
    clear hv
    go_enter Tryz.func56, Tryz.ntmps56
    go_wp2_with fail
    refine (K1.out _).mono ?_
    rintro e w1 ⟨rfl, rfl⟩
    go_wp2_with fail
    refine (K2.out _).mono ?_
    rintro e w2 ⟨rfl, hw2⟩
    go_wp2_with fail
    refine (K3.out _).mono ?_
    rintro e w3 ⟨rfl, hw3⟩
    go_wp2
    go_ret
    exact ⟨ret_bool HV.out.symm, hw2.trans (hw3.mono hw2.size)⟩

set_option maxHeartbeats 400000 in
theorem refword_any (l : List UInt8) (w : World) (hl : l.length ≤ 140737488355328) :
    Calls Tryz.prog 30 #[.string ⟨l.toArray⟩] w fun e w' => e = .returned (.bool (wordB l)) ∧ Below w.heap.size w w' := by
  have K1 := hid (fun w' => reftoken_list l w' hl)
  have K2 := hid (fun w' => reflower_l l w' hl)
  have K3 := hid (fun w' => refhost_list (lowL l) w' (by rw [lowL_len]; exact hl))
  have hv : wordB l = (tokenB l || hostB (lowL l)) := rfl
  generalize wordB l = v at hv ⊢
  generalize tokenB l = t at K1 hv
  generalize lowL l = m at K2 K3 hv
  generalize hostB m = h at K3 hv
  cases t with
  | true =>
    have HV : Hid (v = true) := show _ = _ by rw [hv]; rfl
    clear hv K2 K3
    go_enter Tryz.func30, Tryz.ntmps30
    go_wp2_with fail
    refine (K1.out _).mono ?_
    rintro e w1 ⟨rfl, rfl⟩
    go_wp2
    go_ret
    exact ⟨ret_bool HV.out.symm, Below.refl _ _⟩
  | false =>
    have HV : Hid (v = h) := show _ = _ by rw [hv]; rfl
    clear hv
    go_enter Tryz.func30, Tryz.ntmps30
    go_wp2_with fail
    refine (K1.out _).mono ?_
    rintro e w1 ⟨rfl, rfl⟩
    go_wp2_with fail
    refine (K2.out _).mono ?_
    rintro e w2 ⟨rfl, hw2⟩
    go_wp2_with fail
    refine (K3.out _).mono ?_
    rintro e w3 ⟨rfl, hw3⟩
    go_wp2
    go_ret
    exact ⟨ret_bool HV.out.symm, hw2.trans (hw3.mono hw2.size)⟩

theorem valT_quote {l : List UInt8} (h : hasBar l = false) : valT l = if wordB l = true then l else (quoteV l).1 := by
  unfold valT quoteV
  rw [h]; rfl
set_option maxHeartbeats 400000 in
theorem shown_any (l : List UInt8) (w : World) (hl : l.length ≤ 64) (hb : hasBar l = false) :
    Calls Tryz.prog 32 #[.string ⟨l.toArray⟩] w fun e w' => e = .returned (.string ⟨(valT l).toArray⟩) ∧ Below w.heap.size w w' := by
  have K1 := hid (fun w' => word_any l w' (by omega))
  have K2 := hid (fun w' => quoted_any l w' (by omega))
  have hv := valT_quote hb
  clear hb
  generalize (quoteV l).1 = q at K2 hv
  generalize valT l = v at hv ⊢
  cases ht : wordB l with
  | true =>
    rw [ht] at K1
    have HV : Hid (v = l) := show _ = _ by rw [hv, ht]; rfl
    clear hv K2 ht
    go_enter Tryz.func32, Tryz.ntmps32
    go_wp2_with fail
    refine (K1.out _).mono ?_
    rintro e w1 ⟨rfl, hw1⟩
    go_wp2
    go_ret
    exact ⟨by rw [HV.out]; rfl, hw1⟩
  | false =>
    rw [ht] at K1
    have HV : Hid (v = q) := show _ = _ by rw [hv, ht]; rfl
    clear hv ht
    go_enter Tryz.func32, Tryz.ntmps32
    go_wp2_with fail
    refine (K1.out _).mono ?_
    rintro e w1 ⟨rfl, hw1⟩
    go_wp2_with fail
    refine (K2.out _).mono ?_
    rintro e w2 ⟨rfl, hw2⟩
    go_wp2
    go_ret
    exact ⟨by rw [HV.out]; rfl, hw1.trans (hw2.mono hw1.size)⟩

end Go.Proofs.YtgboekilhldejaaGreatDoor
