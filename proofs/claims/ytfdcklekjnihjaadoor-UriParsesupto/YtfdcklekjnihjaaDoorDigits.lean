/-
  Contracts of Digits.
-/
import Derived.Test.YtfdcklekjnihjaaDoorRow
import Derived.Test.YtfdcklekjnihjaaDoorTexts
namespace Go.Proofs.YtfdcklekjnihjaaDoor
open Go.RowKit Sc
set_option linter.unusedVariables false
set_option maxRecDepth 20000

def digb (n : Nat) : UInt8 := UInt8.ofNat (48 + n % 10)
/-- The digits of a number. -/
def digL (n : Nat) : List UInt8 := if n < 10 then [digb n] else digL (n / 10) ++ [digb n]
termination_by n
decreasing_by omega
theorem digL_small {n : Nat} (h : n < 10) : digL n = [digb n] := by rw [digL, if_pos h]
theorem digL_big {n : Nat} (h : ¬ n < 10) : digL n = digL (n / 10) ++ [digb n] := by rw [digL, if_neg h]
theorem digb_toNat (n : Nat) : ((digb n).toNat : Int) = 48 + (n : Int) % 10 := by
  have h : n % 10 < 10 := Nat.mod_lt _ (by decide)
  rw [digb, UInt8.toNat_ofNat']
  omega
theorem digL_len (a : Nat) : ∀ n : Nat, n < 10 ^ (a + 1) → (digL n).length ≤ a + 1 := by
  induction a with
  | zero => intro n h; rw [digL_small (by simpa using h)]; simp
  | succ a ih =>
    intro n h
    by_cases hn : n < 10
    · rw [digL_small hn]; simp
    · rw [digL_big hn, List.length_append]
      have := ih (n / 10) (by rw [Nat.pow_succ] at h; omega)
      simp; omega
theorem digL_len19 {n : Nat} (h : n ≤ 9223372036854775807) : (digL n).length ≤ 19 := digL_len 18 n (by omega)

def room0 : Array Value := (List.replicate 19 (.int .u8 0)).toArray
theorem zero49 (u : World) : Sem.run Tryd.prog (zeroValue 82) u = .ok (.agg room0) u := by kernel_rfl
/-- a noughts, then the bytes. -/
def tailed (a : Nat) (l : List UInt8) : List Value := List.replicate a (.int .u8 0) ++ Lib.byteCells l
theorem tailed_len (a : Nat) (l : List UInt8) : (tailed a l).length = a + l.length := by simp [tailed, Lib.byteCells]
theorem tailed_set (a : Nat) (l : List UInt8) (b : UInt8) (ha : 1 ≤ a) : (tailed a l).set (a - 1) (.int .u8 b.toNat) = tailed (a - 1) (b :: l) := by
  obtain ⟨c, rfl⟩ : ∃ c, a = c + 1 := ⟨a - 1, by omega⟩
  have e : c + 1 - 1 = c := by omega
  rw [e, tailed, tailed, List.replicate_succ', List.append_assoc, List.set_append_right _ _ (by simp)]
  simp [Lib.byteCells]
theorem room_row (w : World) : RowIs (w.alloc (.cells room0 82)) w.heap.size 82 (tailed 19 []) := by
  unfold RowIs
  rw [heap_alloc_new]
  rfl

/-- string(row[off:]) -/
theorem conv_row {P : Program} {w : World} {g e e' src dst a cap : Nat} {l : List UInt8} (hs : P.underlying src = some (.slice e)) (he : P.underlying e = some (.int .u8)) (hd : P.underlying dst = some .string)
    (h : RowIs w g e' (tailed a l)) : (convert src dst (.slice (some ⟨g, a, none⟩) l.length cap)).run P w = .ok (.string ⟨l.toArray⟩) w := by
  refine run_convert_bytes_back w src dst e _ cap l hs he hd fun j hj => ?_
  have hc := h.cell (a + j) (by rw [tailed_len]; omega)
  have e1 : (⟨g, a, none⟩ : Addr).add j = ⟨g, a + j, none⟩ := by
    unfold Addr.add
    by_cases h0 : j = 0
    · subst h0; simp
    · simp [h0]
  rw [e1, hc]
  simp [tailed, List.getElem_append_right, Lib.byteCells]

theorem pow_div {m a : Nat} (h : m < 10 ^ a) (ha : 1 ≤ a) : m / 10 < 10 ^ (a - 1) := by
  obtain ⟨c, rfl⟩ : ∃ c, a = c + 1 := ⟨a - 1, by omega⟩
  rw [Nat.pow_succ] at h
  have e : c + 1 - 1 = c := by omega
  rw [e]; omega

theorem und49 : Tryd.prog.underlying 82 = some (.array (Tryd.prog.arrayLen 82) (Tryd.prog.elem 82)) := by kernel_rfl
theorem len49 : Tryd.prog.arrayLen 82 = 19 := by kernel_rfl
theorem elem49 : Tryd.prog.elem 82 = 5 := by kernel_rfl
theorem slice19 (u : World) (B a : Nat) (h1 : 1 ≤ a) (h2 : a ≤ 19) :
    (Instr.sliceAt 82 (.pointer (some ⟨B, 0, none⟩)) (some (.int .i64 ((a : Int) - 1))) none none).run Tryd.prog u = .ok (.slice (some ⟨B, a - 1, none⟩) (19 - (a - 1)) (19 - (a - 1))) u := by
  obtain ⟨i0, hi, hz0, hz1, hz2⟩ := info_parts info5
  have h := run_sliceAt_array_l (P := Tryd.prog) u 82 ⟨B, 0, none⟩ und49 .i64 ((a : Int) - 1) (by omega) (by rw [len49]; omega)
  have e : ((a : Int) - 1).toNat = a - 1 := by omega
  rw [h, elem49, len49, e]
  have hne : ¬ (19 = a - 1) := by omega
  simp [sizeOf, typeInfo, hi, hz1, slicedAt, hne, Addr.add]
  omega

set_option maxHeartbeats 600000 in
theorem digits_any (n : Nat) (w : World) (hn : n ≤ 9223372036854775807) :
    Calls Tryd.prog 36 #[.int .i64 n] w fun e w' => e = .returned (.string ⟨(digL n).toArray⟩) ∧ Below w.heap.size w w' := by
  have hz49 := zero49
  have hr0 : Hid (RowIs (w.alloc (.cells room0 82)) w.heap.size 82 (tailed 19 [])) := room_row w
  have hp0 : Hid (n < 10 ^ 19) := by show _ < _; omega
  go_enter Tryd.func36, Tryd.ntmps36
  go_wp2
  clear hz49
  go_loopw [0, 4] (fun nn at_ wr => ∃ (a m : Nat) (l : List UInt8), 1 ≤ a ∧ a ≤ 19 ∧ m ≤ 9223372036854775807 ∧ at_ = .int .i64 a ∧ nn = .int .i64 m ∧ Hid (m < 10 ^ a) ∧ Hid (a + l.length = 19) ∧
      Hid (RowIs wr w.heap.size 82 (tailed a l)) ∧ Below w.heap.size w wr ∧ Hid (digL n = digL m ++ l)) (fun _ i _ => (intOf i).toNat)
  case atStart => exact ⟨19, n, [], by omega, by omega, hn, rfl, rfl, hp0, rfl, hr0, (Below.refl _ _).alloc (Nat.le_refl _) _, show _ = _ by simp⟩
  case round =>
    clear hr0 hp0
    obtain ⟨a, m, l, ha1, ha2, hm, rfl, rfl, hp, hal, hr, hb, hd⟩ := hrel
    have ht1 : ((a : Int) - 1).toNat = a - 1 := by omega
    obtain ⟨x, hc⟩ : ∃ x, wr.cell? ⟨w.heap.size, a - 1, none⟩ = some x := ⟨_, hr.out.cell (a - 1) (by rw [tailed_len]; omega)⟩
    have hf := hr.out.frozen (a - 1)
    have hr' : Hid (RowIs (wr.setCell ⟨w.heap.size, a - 1, none⟩ (.int .u8 (48 + (m : Int) % 10))) w.heap.size 82 (tailed (a - 1) (digb m :: l))) := by
      have h := hr.out.set (a - 1) (.int .u8 (digb m).toNat)
      rw [tailed_set a l (digb m) ha1, digb_toNat] at h
      exact h
    by_cases hlast : m < 10
    · have hv : Hid (digL n = digb m :: l) := by show _ = _; rw [hd.out, digL_small hlast]; rfl
      have hcv := conv_row (P := Tryd.prog) (cap := (digb m :: l).length) Tryd.underlying45 Tryd.underlying5 Tryd.underlying9 hr'.out
      have hll : (digb m :: l).length = 19 - (a - 1) := by have := hal.out; simp; omega
      rw [hll] at hcv
      have hq : (m : Int) / 10 = 0 := by omega
      have hsl := fun u => slice19 u w.heap.size a ha1 ha2
      clear hll hr hd hp hal
      go_wp2
      go_ret
      exact ⟨by rw [hv.out]; rfl, hb.setCell (Nat.le_refl _) _⟩
    · have hq : (((m : Int) / 10) == 0) = false := by simp; omega
      have hd' : Hid (digL n = digL (m / 10) ++ (digb m :: l)) := by show _ = _; rw [hd.out, digL_big hlast, List.append_assoc]; rfl
      have hp' : Hid (m / 10 < 10 ^ (a - 1)) := pow_div hp.out ha1
      have ha' : 1 ≤ a - 1 := by
        by_cases h1 : a = 1
        · have := hp.out; rw [h1] at this; omega
        · omega
      have hal' : Hid ((a - 1) + (digb m :: l).length = 19) := by show _ = _; have := hal.out; simp; omega
      clear hr hd hp hal
      go_wp2
      go_roundw
      case rel => exact ⟨a - 1, m / 10, digb m :: l, ha', by omega, by omega, by go_num, by go_num, hp', hal', hr', hb.setCell (Nat.le_refl _) _, hd'⟩
      case measure => simp [intOf]; omega

set_option maxHeartbeats 400000 in
theorem digits_neg (n : Int) (w : World) (hn : n < 0) :
    Calls Tryd.prog 36 #[.int .i64 n] w fun e w' => e = .returned (.string ⟨#[]⟩) ∧ w' = w := by
  go_enter Tryd.func36, Tryd.ntmps36
  go_wp2
  go_ret
  exact ⟨rfl, rfl⟩

end Go.Proofs.YtfdcklekjnihjaaDoor
