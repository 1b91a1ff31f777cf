/-
  Contracts: the document's own line and head of layer 6.
-/
import Derived.Test.YtagopboofmjnfaaDoorFUnfold
namespace Go.Proofs.YtagopboofmjnfaaDoor
open Go.RowKit Go.Sort Sc
set_option linter.unusedVariables false
set_option maxRecDepth 20000

theorem ret_line {R : List UInt8 × Int} {x : ByteArray} {n : Int} (h : R = (x.data.toList, n)) : Ending.returned (.tuple #[.string x, .int .i64 n]) = .returned (.tuple #[.string ⟨R.1.toArray⟩, .int .i64 R.2]) := by rw [h]

set_option maxHeartbeats 1000000 in
theorem rline_any (s : ByteArray) (k : Nat) (w : World) (hs : s.size ≤ 4096) (hk : k ≤ s.size) :
    Calls Tryd.prog 73 #[.string s, .int .i64 k] w fun e w' => e = .returned (.tuple #[.string ⟨(lineI s.data.toList k).1.toArray⟩, .int .i64 (lineI s.data.toList k).2]) ∧ w' = w := by
  obtain ⟨R, hR⟩ : ∃ R, R = lineI s.data.toList k := ⟨_, rfl⟩
  rw [← hR]
  have HR := hid hR
  clear hR
  go_enter Tryd.func73, Tryd.ntmps73
  go_wp2
  go_loop [6] (fun i => ∃ j : Nat, k ≤ j ∧ j ≤ s.size ∧ i = .int .i64 j ∧ Hid (LineAt s.data.toList k j)) (fun i => s.size - (intOf i).toNat)
  case atStart => exact ⟨k, Nat.le_refl _, hk, rfl, LineAt.start _ _⟩
  case round =>
    obtain ⟨j, hkj, hjs, rfl, hL⟩ := hrel
    by_cases hlt : j + 1 < s.size
    · have hlt' : (j : Int) + 1 < (s.size : Int) := by omega
      have hd1 := drop_cons s j (by omega)
      have hd2 := drop_cons s (j + 1) hlt
      have hbd := u8_bd s[j]
      have hbd2 := u8_bd s[j + 1]
      have e1 : ((j : Int) + 1).toNat = j + 1 := by omega
      by_cases h13 : s[j] = 13
      · have q13 : ((s[j].toNat : Int) == 13) = true := by rw [h13]; rfl
        by_cases h10 : s[j + 1] = 10
        · have q10 : ((s[j + 1].toNat : Int) == 10) = true := by rw [h10]; rfl
          have hv : Hid (R = ((s.extract k j).data.toList, ((j + 2 : Nat) : Int))) := show _ = _ by
            rw [HR.out, LineAt.hit hkj hL.out (by rw [hd1, hd2, h13, h10]), ext_list]
          clear hd1 hd2 h13 h10 hL HR
          go_wp2
          go_ret2
          exact ⟨by rw [hv.out]; first | rfl | (congr 1; simp), rfl⟩
        · have q10 : ((s[j + 1].toNat : Int) == 10) = false := u8_ne (b := 10) h10
          have hnx : Hid (LineAt s.data.toList k (j + 1)) := LineAt.skip hkj hL.out hd1 (by rw [hd2]; rintro ⟨_, h⟩; exact h10 (by simpa using h))
          clear hd1 hd2 h13 h10 hL
          go_wp2
          go_round
          case rel => exact ⟨j + 1, by omega, by omega, by go_num, hnx⟩
          case measure => simp [intOf]; omega
      · have q13 : ((s[j].toNat : Int) == 13) = false := u8_ne (b := 13) h13
        have hnx : Hid (LineAt s.data.toList k (j + 1)) := LineAt.skip hkj hL.out hd1 (by rintro ⟨h, _⟩; exact h13 h)
        clear hd1 hd2 h13 hL
        go_wp2
        go_round
        case rel => exact ⟨j + 1, by omega, by omega, by go_num, hnx⟩
        case measure => simp [intOf]; omega
    · have hlt' : ¬ ((j : Int) + 1 < (s.size : Int)) := by omega
      have hv : Hid (R = ([], -1)) := show _ = _ by rw [HR.out]; exact LineAt.end hL.out (by rw [len_data]; omega)
      clear hL HR
      go_wp2
      go_ret2
      exact ⟨by rw [hv.out]; rfl, rfl⟩
theorem rline_list (l : List UInt8) (k : Nat) (w : World) (hs : l.length ≤ 4096) (hk : k ≤ l.length) :
    Calls Tryd.prog 73 #[.string ⟨l.toArray⟩, .int .i64 k] w fun e w' => e = .returned (.tuple #[.string ⟨(lineI l k).1.toArray⟩, .int .i64 (lineI l k).2]) ∧ w' = w := rline_any ⟨l.toArray⟩ k w (by rw [size_list]; exact hs) (by rw [size_list]; exact hk)

end Go.Proofs.YtagopboofmjnfaaDoor
