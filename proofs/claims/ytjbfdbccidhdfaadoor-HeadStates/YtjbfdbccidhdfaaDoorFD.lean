/-
  Base texts, one behind another: Trim, Digits, ScanKit, RefDig.
-/
import Derived.Test.YtjbfdbccidhdfaaDoorFB
import Derived.Test.YtjbfdbccidhdfaaDoorFC
import Derived.Test.YtjbfdbccidhdfaaDoorFA
import Derived.Deep.QuietTactic
import Derived.BigQuiet

/-
  Contracts of Trim and Same, and of the document's own.
-/
namespace Go.Proofs.YtjbfdbccidhdfaaDoor
open Go.RowKit Sc
set_option linter.unusedVariables false
set_option maxRecDepth 20000

def blk (b : UInt8) : Bool := isB b.toNat 32
def trimL (l : List UInt8) : List UInt8 := ((l.dropWhile blk).reverse.dropWhile blk).reverse

theorem blk_cls (b : UInt8) : blk b = (cls b.toNat == 32) := by
  have h : ∀ n : Fin 256, isB (n.val : Int) 32 = (cls (n.val : Int) == 32) := by decide +kernel
  exact h ⟨b.toNat, b.toNat_lt⟩

theorem front_step {s : ByteArray} {k : Nat} (hk : k < s.size) (hb : blk s[k] = true) : (s.data.toList.drop k).dropWhile blk = (s.data.toList.drop (k + 1)).dropWhile blk := by
  rw [drop_cons s k hk, List.dropWhile_cons, if_pos hb]
theorem front_stop {s : ByteArray} {k : Nat} (hk : k < s.size) (hb : blk s[k] = false) : (s.data.toList.drop k).dropWhile blk = s.data.toList.drop k := by
  rw [drop_cons s k hk, List.dropWhile_cons, if_neg (by simp [hb])]
theorem mid_pop {s : ByteArray} {k t : Nat} (hkt : k < t) (ht : t ≤ s.size) : mid s.data.toList k t = mid s.data.toList k (t - 1) ++ [s[t - 1]] := by
  have h := mid_snoc s k (t - 1) (by omega) (by omega)
  rw [show t - 1 + 1 = t by omega] at h
  exact h
theorem back_step {s : ByteArray} {k t : Nat} (hkt : k < t) (ht : t ≤ s.size) (hb : blk s[t - 1] = true) :
    (mid s.data.toList k t).reverse.dropWhile blk = (mid s.data.toList k (t - 1)).reverse.dropWhile blk := by
  rw [mid_pop hkt ht, List.reverse_append, List.reverse_cons, List.reverse_nil, List.nil_append, List.singleton_append, List.dropWhile_cons, if_pos hb]
theorem back_stop {s : ByteArray} {k t : Nat} (hkt : k < t) (ht : t ≤ s.size) (hb : blk s[t - 1] = false) :
    (mid s.data.toList k t).reverse.dropWhile blk = (mid s.data.toList k t).reverse := by
  rw [mid_pop hkt ht, List.reverse_append, List.reverse_cons, List.reverse_nil, List.nil_append, List.singleton_append, List.dropWhile_cons, if_neg (by simp [hb])]
theorem mid_all (s : ByteArray) (k : Nat) : mid s.data.toList k s.size = s.data.toList.drop k := by
  rw [mid, List.take_of_length_le (by rw [List.length_drop, len_data]; omega)]
theorem trim_end {s : ByteArray} {k t : Nat} (hf : s.data.toList.dropWhile blk = s.data.toList.drop k)
    (hb : (s.data.toList.drop k).reverse.dropWhile blk = (mid s.data.toList k t).reverse) : s.extract k t = ⟨(trimL s.data.toList).toArray⟩ := by
  rw [ext_list, trimL, hf, hb, List.reverse_reverse, mid]

set_option maxHeartbeats 600000 in
theorem trim_any (s : ByteArray) (w : World) (hs : s.size ≤ 281474976710656) :
    Calls Tryd.prog 34 #[.string s] w fun e w' => e = .returned (.string ⟨(trimL s.data.toList).toArray⟩) ∧ Below w.heap.size w w' := by
  go_enter Tryd.func34, Tryd.ntmps34
  go_wp2
  go_loop [3] (fun i => ∃ k : Nat, k ≤ s.size ∧ i = .int .i64 k ∧ Hid (s.data.toList.dropWhile blk = (s.data.toList.drop k).dropWhile blk)) (fun i => s.size - (intOf i).toNat)
  case atStart => exact ⟨0, Nat.zero_le _, rfl, rfl⟩
  case round =>
    obtain ⟨k, hk, rfl, hf⟩ := hrel
    by_cases hgo : ∃ h : k < s.size, blk s[k] = true
    · obtain ⟨hlt, hb⟩ := hgo
      have hbd := u8_bd s[k]
      have hb' : isB s[k].toNat 32 = true := hb
      have hf' : Hid (s.data.toList.dropWhile blk = (s.data.toList.drop (k + 1)).dropWhile blk) := by show _ = _; rw [hf.out, front_step hlt hb]
      clear hb hf
      go_wp2_with (go_at_call 61; refine (is_any _ _ _ hbd.1 hbd.2).mono ?_; rintro e w' ⟨rfl, rfl⟩)
      go_round
      case rel => exact ⟨k + 1, by omega, by go_num, hf'⟩
      case measure => simp [intOf]; omega
    · have hF : Hid (s.data.toList.dropWhile blk = s.data.toList.drop k) := by
        show _ = _
        rw [hf.out]
        by_cases hlt : k < s.size
        · exact front_stop hlt (by by_cases hb : blk s[k] = true; exact absurd ⟨hlt, hb⟩ hgo; simpa using hb)
        · rw [drop_all s k (by omega)]; rfl
      clear hf
      by_cases hlt : k < s.size
      · have hbd := u8_bd s[k]
        have hb' : isB s[k].toNat 32 = false := by by_cases hb : blk s[k] = true; exact absurd ⟨hlt, hb⟩ hgo; simpa [blk] using hb
        clear hgo
        go_wp2_with (go_at_call 61; refine (is_any _ _ _ hbd.1 hbd.2).mono ?_; rintro e w' ⟨rfl, rfl⟩)
        go_loop [4] (fun i => ∃ t : Nat, t ≤ s.size ∧ k ≤ t ∧ i = .int .i64 t ∧ Hid ((s.data.toList.drop k).reverse.dropWhile blk = (mid s.data.toList k t).reverse.dropWhile blk)) (fun i => (intOf i).toNat)
        case atStart => exact ⟨s.size, Nat.le_refl _, hk, rfl, show _ = _ by rw [mid_all]⟩
        case round =>
          clear hb' hbd
          obtain ⟨t, ht, hkt, rfl, hbk⟩ := hrel
          by_cases hk2 : k < t
          · have hbd := u8_bd s[t - 1]
            have ht1 : ((t : Int) - 1).toNat = t - 1 := by omega
            by_cases hb : blk s[t - 1] = true
            · have hb' : isB s[t - 1].toNat 32 = true := hb
              have hbk' : Hid ((s.data.toList.drop k).reverse.dropWhile blk = (mid s.data.toList k (t - 1)).reverse.dropWhile blk) := by show _ = _; rw [hbk.out, back_step hk2 ht hb]
              clear hb hbk
              go_wp2_with (go_at_call 61; refine (is_any _ _ _ hbd.1 hbd.2).mono ?_; rintro e w' ⟨rfl, rfl⟩)
              go_round
              case rel => exact ⟨t - 1, by omega, by omega, by go_num, hbk'⟩
              case measure => simp [intOf]; omega
            · have hb' : isB s[t - 1].toNat 32 = false := by simpa [blk] using hb
              have hE : Hid (s.extract k t = ⟨(trimL s.data.toList).toArray⟩) := trim_end hF.out (by rw [hbk.out, back_stop hk2 ht (by simpa using hb)])
              clear hb hbk
              go_wp2_with (first
                | (go_at_call 61; refine (is_any _ _ _ hbd.1 hbd.2).mono ?_; rintro e w' ⟨rfl, rfl⟩)
                | (go_at_call 62; refine (piece_any s k t _ hs hkt ht).mono ?_; rintro e w2 ⟨rfl, hb2⟩))
              go_ret
              exact ⟨by rw [← hE.out]; rfl, hb2⟩
          · have hE : Hid (s.extract k t = ⟨(trimL s.data.toList).toArray⟩) := trim_end hF.out (by rw [hbk.out, show t = k by omega, mid_self]; rfl)
            clear hbk
            go_wp2_with (go_at_call 62; refine (piece_any s k t _ hs hkt ht).mono ?_; rintro e w2 ⟨rfl, hb2⟩)
            go_ret
            exact ⟨by rw [← hE.out]; rfl, hb2⟩
      · have hks : k = s.size := by omega
        have hE : Hid (s.extract k s.size = ⟨(trimL s.data.toList).toArray⟩) := trim_end hF.out (by rw [drop_all s k (by omega), hks, mid_self]; rfl)
        have HK : Hid (k = s.size) := hks
        clear hgo hks
        go_wp2
        go_loop [4] (fun i => i = .int .i64 s.size) (fun _ => 0)
        case atStart => exact rfl
        case round =>
          subst hrel
          go_wp2_with (go_at_call 62; refine (piece_any s k s.size _ hs hk (Nat.le_refl _)).mono ?_; rintro e w2 ⟨rfl, hb2⟩)
          go_ret
          exact ⟨by rw [← hE.out]; rfl, hb2⟩

set_option maxHeartbeats 600000 in
theorem reftrim_any (s : ByteArray) (w : World) (hs : s.size ≤ 281474976710656) :
    Calls Tryd.prog 37 #[.string s] w fun e w' => e = .returned (.string ⟨(trimL s.data.toList).toArray⟩) ∧ w' = w := by
  go_enter Tryd.func37, Tryd.ntmps37
  go_wp2
  go_loop [3] (fun i => ∃ k : Nat, k ≤ s.size ∧ i = .int .i64 k ∧ Hid (s.data.toList.dropWhile blk = (s.data.toList.drop k).dropWhile blk)) (fun i => s.size - (intOf i).toNat)
  case atStart => exact ⟨0, Nat.zero_le _, rfl, rfl⟩
  case round =>
    obtain ⟨k, hk, rfl, hf⟩ := hrel
    by_cases hgo : ∃ h : k < s.size, blk s[k] = true
    · obtain ⟨hlt, hb⟩ := hgo
      have hbd := u8_bd s[k]
      have hb' : (cls s[k].toNat == 32) = true := by rw [← blk_cls]; exact hb
      have hf' : Hid (s.data.toList.dropWhile blk = (s.data.toList.drop (k + 1)).dropWhile blk) := by show _ = _; rw [hf.out, front_step hlt hb]
      clear hb hf
      go_wp2_with (go_at_call 38; refine (refclass_any _ _ hbd.1 hbd.2).mono ?_; rintro e w' ⟨rfl, rfl⟩)
      go_round
      case rel => exact ⟨k + 1, by omega, by go_num, hf'⟩
      case measure => simp [intOf]; omega
    · have hF : Hid (s.data.toList.dropWhile blk = s.data.toList.drop k) := by
        show _ = _
        rw [hf.out]
        by_cases hlt : k < s.size
        · exact front_stop hlt (by by_cases hb : blk s[k] = true; exact absurd ⟨hlt, hb⟩ hgo; simpa using hb)
        · rw [drop_all s k (by omega)]; rfl
      clear hf
      by_cases hlt : k < s.size
      · have hbd := u8_bd s[k]
        have hb' : (cls s[k].toNat == 32) = false := by rw [← blk_cls]; by_cases hb : blk s[k] = true; exact absurd ⟨hlt, hb⟩ hgo; simpa using hb
        clear hgo
        go_wp2_with (go_at_call 38; refine (refclass_any _ _ hbd.1 hbd.2).mono ?_; rintro e w' ⟨rfl, rfl⟩)
        go_loop [4] (fun i => ∃ t : Nat, t ≤ s.size ∧ k ≤ t ∧ i = .int .i64 t ∧ Hid ((s.data.toList.drop k).reverse.dropWhile blk = (mid s.data.toList k t).reverse.dropWhile blk)) (fun i => (intOf i).toNat)
        case atStart => exact ⟨s.size, Nat.le_refl _, hk, rfl, show _ = _ by rw [mid_all]⟩
        case round =>
          clear hb' hbd
          obtain ⟨t, ht, hkt, rfl, hbk⟩ := hrel
          by_cases hk2 : k < t
          · have hbd := u8_bd s[t - 1]
            have ht1 : ((t : Int) - 1).toNat = t - 1 := by omega
            by_cases hb : blk s[t - 1] = true
            · have hb' : (cls s[t - 1].toNat == 32) = true := by rw [← blk_cls]; exact hb
              have hbk' : Hid ((s.data.toList.drop k).reverse.dropWhile blk = (mid s.data.toList k (t - 1)).reverse.dropWhile blk) := by show _ = _; rw [hbk.out, back_step hk2 ht hb]
              clear hb hbk
              go_wp2_with (go_at_call 38; refine (refclass_any _ _ hbd.1 hbd.2).mono ?_; rintro e w' ⟨rfl, rfl⟩)
              go_round
              case rel => exact ⟨t - 1, by omega, by omega, by go_num, hbk'⟩
              case measure => simp [intOf]; omega
            · have hb' : (cls s[t - 1].toNat == 32) = false := by rw [← blk_cls]; simpa using hb
              have hE : Hid (s.extract k t = ⟨(trimL s.data.toList).toArray⟩) := trim_end hF.out (by rw [hbk.out, back_stop hk2 ht (by simpa using hb)])
              clear hb hbk
              go_wp2_with (go_at_call 38; refine (refclass_any _ _ hbd.1 hbd.2).mono ?_; rintro e w' ⟨rfl, rfl⟩)
              go_ret
              exact ⟨by rw [← hE.out]; rfl, rfl⟩
          · have hE : Hid (s.extract k t = ⟨(trimL s.data.toList).toArray⟩) := trim_end hF.out (by rw [hbk.out, show t = k by omega, mid_self]; rfl)
            clear hbk
            go_wp2
            go_ret
            exact ⟨by rw [← hE.out]; rfl, rfl⟩
      · have hks : k = s.size := by omega
        have hE : Hid (s.extract k s.size = ⟨(trimL s.data.toList).toArray⟩) := trim_end hF.out (by rw [drop_all s k (by omega), hks, mid_self]; rfl)
        have HK : Hid (k = s.size) := hks
        clear hgo hks
        go_wp2
        go_loop [4] (fun i => i = .int .i64 s.size) (fun _ => 0)
        case atStart => exact rfl
        case round =>
          subst hrel
          go_wp2
          go_ret
          exact ⟨by rw [← hE.out]; rfl, rfl⟩

def sameB (a b : List UInt8) : Bool := lowL a == lowL b

set_option maxHeartbeats 400000 in
theorem refsame_any (a b : ByteArray) (w : World) (ha : a.size ≤ 140737488355328) (hb : b.size ≤ 140737488355328) :
    Calls Tryd.prog 92 #[.string a, .string b] w fun e w' => e = .returned (.bool (sameB a.data.toList b.data.toList)) ∧ Below w.heap.size w w' := by
  go_enter Tryd.func92, Tryd.ntmps92
  go_wp2_with fail
  refine (reflower_txt _ _ ha).mono ?_
  rintro e w1 ⟨rfl, h1⟩
  go_wp2_with fail
  refine (reflower_txt _ _ hb).mono ?_
  rintro e w2 ⟨rfl, h2⟩
  go_wp2
  go_ret
  exact ⟨ret_bool (by rw [sameB]), h1.trans (h2.mono h1.size)⟩

end Go.Proofs.YtjbfdbccidhdfaaDoor

/-
  Contracts of Digits.
-/
namespace Go.Proofs.YtjbfdbccidhdfaaDoor
open Go.RowKit Sc
set_option linter.unusedVariables false
set_option maxRecDepth 20000

def digb (n : Nat) : UInt8 := UInt8.ofNat (48 + n % 10)
/-- The digits of a number. -/
def digL (n : Nat) : List UInt8 := if n < 10 then [digb n] else digL (n / 10) ++ [digb n]
termination_by n
decreasing_by omega
theorem digL_small {n : Nat} (h : n < 10) : digL n = [digb n] := by rw [digL, if_pos h]
theorem digL_big {n : Nat} (h : ¬ n < 10) : digL n = digL (n / 10) ++ [digb n] := by rw [digL, if_neg h]
theorem digb_toNat (n : Nat) : ((digb n).toNat : Int) = 48 + (n : Int) % 10 := by
  have h : n % 10 < 10 := Nat.mod_lt _ (by decide)
  rw [digb, UInt8.toNat_ofNat']
  omega
theorem digL_len (a : Nat) : ∀ n : Nat, n < 10 ^ (a + 1) → (digL n).length ≤ a + 1 := by
  induction a with
  | zero => intro n h; rw [digL_small (by simpa using h)]; simp
  | succ a ih =>
    intro n h
    by_cases hn : n < 10
    · rw [digL_small hn]; simp
    · rw [digL_big hn, List.length_append]
      have := ih (n / 10) (by rw [Nat.pow_succ] at h; omega)
      simp; omega
theorem digL_len19 {n : Nat} (h : n ≤ 9223372036854775807) : (digL n).length ≤ 19 := digL_len 18 n (by omega)

def room0 : Array Value := (List.replicate 19 (.int .u8 0)).toArray
theorem zero49 (u : World) : Sem.run Tryd.prog (zeroValue 88) u = .ok (.agg room0) u := by kernel_rfl
/-- a noughts, then the bytes. -/
def tailed (a : Nat) (l : List UInt8) : List Value := List.replicate a (.int .u8 0) ++ Lib.byteCells l
theorem tailed_len (a : Nat) (l : List UInt8) : (tailed a l).length = a + l.length := by simp [tailed, Lib.byteCells]
theorem tailed_set (a : Nat) (l : List UInt8) (b : UInt8) (ha : 1 ≤ a) : (tailed a l).set (a - 1) (.int .u8 b.toNat) = tailed (a - 1) (b :: l) := by
  obtain ⟨c, rfl⟩ : ∃ c, a = c + 1 := ⟨a - 1, by omega⟩
  have e : c + 1 - 1 = c := by omega
  rw [e, tailed, tailed, List.replicate_succ', List.append_assoc, List.set_append_right _ _ (by simp)]
  simp [Lib.byteCells]
theorem room_row (w : World) : RowIs (w.alloc (.cells room0 88)) w.heap.size 88 (tailed 19 []) := by
  unfold RowIs
  rw [heap_alloc_new]
  rfl

/-- string(row[off:]) -/
theorem conv_row {P : Program} {w : World} {g e e' src dst a cap : Nat} {l : List UInt8} (hs : P.underlying src = some (.slice e)) (he : P.underlying e = some (.int .u8)) (hd : P.underlying dst = some .string)
    (h : RowIs w g e' (tailed a l)) : (convert src dst (.slice (some ⟨g, a, none⟩) l.length cap)).run P w = .ok (.string ⟨l.toArray⟩) w := by
  refine run_convert_bytes_back w src dst e _ cap l hs he hd fun j hj => ?_
  have hc := h.cell (a + j) (by rw [tailed_len]; omega)
  have e1 : (⟨g, a, none⟩ : Addr).add j = ⟨g, a + j, none⟩ := by
    unfold Addr.add
    by_cases h0 : j = 0
    · subst h0; simp
    · simp [h0]
  rw [e1, hc]
  simp [tailed, List.getElem_append_right, Lib.byteCells]

theorem pow_div {m a : Nat} (h : m < 10 ^ a) (ha : 1 ≤ a) : m / 10 < 10 ^ (a - 1) := by
  obtain ⟨c, rfl⟩ : ∃ c, a = c + 1 := ⟨a - 1, by omega⟩
  rw [Nat.pow_succ] at h
  have e : c + 1 - 1 = c := by omega
  rw [e]; omega

theorem und49 : Tryd.prog.underlying 88 = some (.array (Tryd.prog.arrayLen 88) (Tryd.prog.elem 88)) := by kernel_rfl
theorem len49 : Tryd.prog.arrayLen 88 = 19 := by kernel_rfl
theorem elem49 : Tryd.prog.elem 88 = 5 := by kernel_rfl
theorem slice19 (u : World) (B a : Nat) (h1 : 1 ≤ a) (h2 : a ≤ 19) :
    (Instr.sliceAt 88 (.pointer (some ⟨B, 0, none⟩)) (some (.int .i64 ((a : Int) - 1))) none none).run Tryd.prog u = .ok (.slice (some ⟨B, a - 1, none⟩) (19 - (a - 1)) (19 - (a - 1))) u := by
  obtain ⟨i0, hi, hz0, hz1, hz2⟩ := info_parts info5
  have h := run_sliceAt_array_l (P := Tryd.prog) u 88 ⟨B, 0, none⟩ und49 .i64 ((a : Int) - 1) (by omega) (by rw [len49]; omega)
  have e : ((a : Int) - 1).toNat = a - 1 := by omega
  rw [h, elem49, len49, e]
  have hne : ¬ (19 = a - 1) := by omega
  simp [sizeOf, typeInfo, hi, hz1, slicedAt, hne, Addr.add]
  omega

set_option maxHeartbeats 600000 in
theorem digits_any (n : Nat) (w : World) (hn : n ≤ 9223372036854775807) :
    Calls Tryd.prog 41 #[.int .i64 n] w fun e w' => e = .returned (.string ⟨(digL n).toArray⟩) ∧ Below w.heap.size w w' := by
  have hz49 := zero49
  have hr0 : Hid (RowIs (w.alloc (.cells room0 88)) w.heap.size 88 (tailed 19 [])) := room_row w
  have hp0 : Hid (n < 10 ^ 19) := by show _ < _; omega
  go_enter Tryd.func41, Tryd.ntmps41
  go_wp2
  clear hz49
  go_loopw [0, 4] (fun nn at_ wr => ∃ (a m : Nat) (l : List UInt8), 1 ≤ a ∧ a ≤ 19 ∧ m ≤ 9223372036854775807 ∧ at_ = .int .i64 a ∧ nn = .int .i64 m ∧ Hid (m < 10 ^ a) ∧ Hid (a + l.length = 19) ∧
      Hid (RowIs wr w.heap.size 88 (tailed a l)) ∧ Below w.heap.size w wr ∧ Hid (digL n = digL m ++ l)) (fun _ i _ => (intOf i).toNat)
  case atStart => exact ⟨19, n, [], by omega, by omega, hn, rfl, rfl, hp0, rfl, hr0, (Below.refl _ _).alloc (Nat.le_refl _) _, show _ = _ by simp⟩
  case round =>
    clear hr0 hp0
    obtain ⟨a, m, l, ha1, ha2, hm, rfl, rfl, hp, hal, hr, hb, hd⟩ := hrel
    have ht1 : ((a : Int) - 1).toNat = a - 1 := by omega
    obtain ⟨x, hc⟩ : ∃ x, wr.cell? ⟨w.heap.size, a - 1, none⟩ = some x := ⟨_, hr.out.cell (a - 1) (by rw [tailed_len]; omega)⟩
    have hf := hr.out.frozen (a - 1)
    have hr' : Hid (RowIs (wr.setCell ⟨w.heap.size, a - 1, none⟩ (.int .u8 (48 + (m : Int) % 10))) w.heap.size 88 (tailed (a - 1) (digb m :: l))) := by
      have h := hr.out.set (a - 1) (.int .u8 (digb m).toNat)
      rw [tailed_set a l (digb m) ha1, digb_toNat] at h
      exact h
    by_cases hlast : m < 10
    · have hv : Hid (digL n = digb m :: l) := by show _ = _; rw [hd.out, digL_small hlast]; rfl
      have hcv := conv_row (P := Tryd.prog) (cap := (digb m :: l).length) Tryd.underlying89 Tryd.underlying5 Tryd.underlying9 hr'.out
      have hll : (digb m :: l).length = 19 - (a - 1) := by have := hal.out; simp; omega
      rw [hll] at hcv
      have hq : (m : Int) / 10 = 0 := by omega
      have hsl := fun u => slice19 u w.heap.size a ha1 ha2
      clear hll hr hd hp hal
      go_wp2
      go_ret
      exact ⟨by rw [hv.out]; rfl, hb.setCell (Nat.le_refl _) _⟩
    · have hq : (((m : Int) / 10) == 0) = false := by simp; omega
      have hd' : Hid (digL n = digL (m / 10) ++ (digb m :: l)) := by show _ = _; rw [hd.out, digL_big hlast, List.append_assoc]; rfl
      have hp' : Hid (m / 10 < 10 ^ (a - 1)) := pow_div hp.out ha1
      have ha' : 1 ≤ a - 1 := by
        by_cases h1 : a = 1
        · have := hp.out; rw [h1] at this; omega
        · omega
      have hal' : Hid ((a - 1) + (digb m :: l).length = 19) := by show _ = _; have := hal.out; simp; omega
      clear hr hd hp hal
      go_wp2
      go_roundw
      case rel => exact ⟨a - 1, m / 10, digb m :: l, ha', by omega, by omega, by go_num, by go_num, hp', hal', hr', hb.setCell (Nat.le_refl _) _, hd'⟩
      case measure => simp [intOf]; omega

set_option maxHeartbeats 400000 in
theorem digits_neg (n : Int) (w : World) (hn : n < 0) :
    Calls Tryd.prog 41 #[.int .i64 n] w fun e w' => e = .returned (.string ⟨#[]⟩) ∧ w' = w := by
  go_enter Tryd.func41, Tryd.ntmps41
  go_wp2
  go_ret
  exact ⟨rfl, rfl⟩

end Go.Proofs.YtjbfdbccidhdfaaDoor

/-
  Contracts of layer 1 over lists of bytes.
-/
namespace Go.Proofs.YtjbfdbccidhdfaaDoor
open Go.RowKit Sc
set_option linter.unusedVariables false
set_option maxRecDepth 20000

theorem token_list (l : List UInt8) (w : World) (h : l.length ≤ 140737488355328) :
    Calls Tryd.prog 36 #[.string ⟨l.toArray⟩] w fun e w' => e = .returned (.bool (tokenB l)) ∧ w' = w := token_any ⟨l.toArray⟩ w (by rw [size_list]; unfold maxLen; omega)
theorem reftoken_list (l : List UInt8) (w : World) (h : l.length ≤ 140737488355328) :
    Calls Tryd.prog 40 #[.string ⟨l.toArray⟩] w fun e w' => e = .returned (.bool (tokenB l)) ∧ w' = w := reftoken_any ⟨l.toArray⟩ w (by rw [size_list]; unfold maxLen; omega)
theorem reflower_l (l : List UInt8) (w : World) (h : l.length ≤ 140737488355328) :
    Calls Tryd.prog 56 #[.string ⟨l.toArray⟩] w fun e w' => e = .returned (.string ⟨(lowL l).toArray⟩) ∧ Below w.heap.size w w' := reflower_txt ⟨l.toArray⟩ w (by rw [size_list]; exact h)
theorem trim_list (l : List UInt8) (w : World) (h : l.length ≤ 281474976710656) :
    Calls Tryd.prog 34 #[.string ⟨l.toArray⟩] w fun e w' => e = .returned (.string ⟨(trimL l).toArray⟩) ∧ Below w.heap.size w w' := trim_any ⟨l.toArray⟩ w (by rw [size_list]; exact h)
theorem reftrim_list (l : List UInt8) (w : World) (h : l.length ≤ 281474976710656) :
    Calls Tryd.prog 37 #[.string ⟨l.toArray⟩] w fun e w' => e = .returned (.string ⟨(trimL l).toArray⟩) ∧ w' = w := reftrim_any ⟨l.toArray⟩ w (by rw [size_list]; exact h)
theorem all_l (l : List UInt8) (c : Int) (w : World) (h : l.length ≤ 140737488355328) :
    Calls Tryd.prog 63 #[.string ⟨l.toArray⟩, .int .i64 c] w fun e w' => e = .returned (.bool (allB c l)) ∧ w' = w := all_any ⟨l.toArray⟩ c w (by rw [size_list]; unfold maxLen; omega)
theorem trimL_len (l : List UInt8) : (trimL l).length ≤ l.length := by
  unfold trimL
  rw [List.length_reverse]
  refine Nat.le_trans (List.dropWhile_sublist _).length_le ?_
  rw [List.length_reverse]
  exact (List.dropWhile_sublist _).length_le
theorem refsame_list (a b : List UInt8) (w : World) (ha : a.length ≤ 140737488355328) (hb : b.length ≤ 140737488355328) :
    Calls Tryd.prog 92 #[.string ⟨a.toArray⟩, .string ⟨b.toArray⟩] w fun e w' => e = .returned (.bool (sameB a b)) ∧ Below w.heap.size w w' :=
  refsame_any ⟨a.toArray⟩ ⟨b.toArray⟩ w (by simp [ByteArray.size]; omega) (by simp [ByteArray.size]; omega)
theorem lower_list (l : List UInt8) (w : World) (hs : l.length ≤ 281474976710656) :
    Calls Tryd.prog 55 #[.string ⟨l.toArray⟩] w fun e w' => e = .returned (.string ⟨(lowL l).toArray⟩) ∧ Below w.heap.size w w' :=
  lower_txt ⟨l.toArray⟩ w (by rw [size_list]; exact hs)

end Go.Proofs.YtjbfdbccidhdfaaDoor

/-
  Contracts of the document's own Digits and Number.
-/
namespace Go.Proofs.YtjbfdbccidhdfaaDoor
open Go.RowKit Sc
set_option linter.unusedVariables false
set_option maxRecDepth 20000

set_option maxHeartbeats 400000 in
theorem refdigits_neg (n : Int) (w : World) (hn : n < 0) :
    Calls Tryd.prog 42 #[.int .i64 n] w fun e w' => e = .returned (.string ⟨#[]⟩) ∧ w' = w := by
  go_enter Tryd.func42, Tryd.ntmps42
  go_wp2_with fail
  go_ret
  exact ⟨rfl, rfl⟩

theorem dig_ext (i : Int) (h0 : 0 ≤ i) (h1 : i < 10) : (ByteArray.mk #[48, 49, 50, 51, 52, 53, 54, 55, 56, 57]).extract i.toNat (i + 1).toNat = ⟨[digb i.toNat].toArray⟩ := by
  obtain ⟨n, rfl⟩ := Int.eq_ofNat_of_zero_le h0
  have h : ∀ n : Fin 10, (ByteArray.mk #[48, 49, 50, 51, 52, 53, 54, 55, 56, 57]).extract n.val (n.val + 1) = ⟨[digb n.val].toArray⟩ := by decide +kernel
  exact h ⟨n, by omega⟩

set_option maxHeartbeats 600000 in
theorem refdigits_any (k : Nat) : ∀ (n : Int) (w : World), n ≤ k → 0 ≤ n → n ≤ 9223372036854775807 →
    Calls Tryd.prog 42 #[.int .i64 n] w fun e w' => e = .returned (.string ⟨(digL n.toNat).toArray⟩) ∧ ∃ q, w' = w.drewN q := by
  induction k with
  | zero =>
    intro n w hk h0 h1
    have hn : n = 0 := by omega
    subst hn
    go_enter Tryd.func42, Tryd.ntmps42
    go_wp2_with fail
    go_ret
    exact ⟨by rw [digL_small (by omega)]; rfl, 0, rfl⟩
  | succ k ih =>
    intro n w hk h0 h1
    by_cases hn : n < 10
    · have hE : Hid ((ByteArray.mk #[48, 49, 50, 51, 52, 53, 54, 55, 56, 57]).extract n.toNat (n + 1).toNat = ⟨(digL n.toNat).toArray⟩) := by
        show _ = _; rw [dig_ext n h0 hn, digL_small (by omega)]
      go_enter Tryd.func42, Tryd.ntmps42
      go_wp2_with fail
      go_ret
      exact ⟨by rw [← hE.out]; rfl, 0, rfl⟩
    · have hq0 : 0 ≤ n / 10 := by omega
      have hi := fun w => ih (n / 10) w (by omega) hq0 (by omega)
      have HI : Hid (∀ w : World, Calls Tryd.prog 42 #[.int .i64 (n / 10)] w fun e w' => e = .returned (.string ⟨(digL (n / 10).toNat).toArray⟩) ∧ ∃ q, w' = w.drewN q) := hi
      clear hi ih
      have e1 : IntKind.i64.wrap (n.tdiv 10) = n / 10 := by rw [Int.tdiv_eq_ediv_of_nonneg h0]; simp [IntKind.wrap, IntKind.signed, IntKind.bits]; omega
      have e2 : n.tmod 10 = n % 10 := Int.tmod_eq_emod_of_nonneg h0
      have e3 : IntKind.i64.wrap (n % 10 + 1) = n % 10 + 1 := by simp [IntKind.wrap, IntKind.signed, IntKind.bits]; omega
      have e4 : IntKind.i64.wrap (n % 10) = n % 10 := by simp [IntKind.wrap, IntKind.signed, IntKind.bits]; omega
      have g1 : 0 ≤ n % 10 := by omega
      have e5 : (ByteArray.mk #[48, 49, 50, 51, 52, 53, 54, 55, 56, 57]).extract (n % 10).toNat (n % 10 + 1).toNat = ⟨[digb (n % 10).toNat].toArray⟩ := dig_ext _ g1 (by omega)
      have g5 : (digL (n / 10).toNat).length + 1 ≤ 9223372036854775807 := by have := digL_len19 (n := (n / 10).toNat) (by omega); omega
      have hE : Hid ((ByteArray.mk (digL (n / 10).toNat).toArray) ++ ⟨[digb (n % 10).toNat].toArray⟩ = ⟨(digL n.toNat).toArray⟩) := by
        show _ = _
        rw [ByteArray.mk_append_mk, digL_big (n := n.toNat) (by omega)]
        have a1 : n.toNat / 10 = (n / 10).toNat := by omega
        have a2 : digb (n % 10).toNat = digb n.toNat := by unfold digb; congr 2; omega
        rw [a1, a2]
      have g2 : n % 10 < 10 := by omega
      have g3 : n % 10 ≤ n % 10 + 1 := by omega
      have g4 : n % 10 + 1 ≤ 10 := by omega
      go_enter Tryd.func42, Tryd.ntmps42
      go_wp2_with fail
      go_quiet ((go_at_call 42; exact Calls.quiet_of (HI.out _)))
      clear e1 e2 e3 e4 e5
      go_wp2_with fail
      go_ret
      exact ⟨by rw [← hE.out]; rfl, nq, rfl⟩


theorem ref_stop {most n d : Int} (h : 922337203685477580 < n ∨ most < d ∨ most - d < 10 * n) (hm : most ≤ 9223372036854775807) (hd : 0 ≤ d) : d > most ∨ n > (most - d) / 10 := by omega

set_option maxHeartbeats 600000 in
theorem refnumber_any (s : ByteArray) (most : Int) (w : World) (hs : s.size ≤ maxLen) (hm0 : -9223372036854775808 ≤ most) (hm1 : most ≤ 9223372036854775807) :
    Calls Tryd.prog 39 #[.string s, .int .i64 most] w fun e w' => e = .returned (.tuple #[.int .i64 (numV most s.data.toList).1, .int .i64 (numV most s.data.toList).2]) ∧ w' = w := by
  have hs0 := hs
  unfold maxLen at hs
  by_cases he : s.size = 0
  · have hE := isE_true he
    have hv : numV most s.data.toList = (0, 10) := by
      have : s.data.toList = [] := List.eq_nil_of_length_eq_zero (by rw [len_data, he])
      rw [numV, if_pos (Or.inl this)]
    have HV : Hid (numV most s.data.toList = (0, 10)) := hv; clear hv
    go_enter Tryd.func39, Tryd.ntmps39
    go_wp2
    go_ret2
    exact ⟨ret_pair 0 10 HV.out, rfl⟩
  have hE := isE_false (s := s) (by omega)
  have hne := data_ne (s := s) (by omega)
  by_cases ha : allB 1 s.data.toList = true
  · have hdig : Hid (∀ k (hk : k < s.size), 48 ≤ (s[k].toNat : Int) ∧ (s[k].toNat : Int) ≤ 57) := fun k hk => digit_at ha k hk
    have HV : Hid (numV most s.data.toList = match numL most 0 s.data.toList with | some n => (n, 0) | none => (0, 9)) := by
      show _ = _
      rw [numV, if_neg (by simp [hne, ha])]
      rfl
    clear hne
    go_enter Tryd.func39, Tryd.ntmps39
    go_wp2_with (go_at_call 65; refine (refall_any _ _ _ hs0).mono ?_; rintro e w' ⟨rfl, rfl⟩)
    go_loop [6, 7] (fun n i => ∃ (k : Nat) (m : Int), k ≤ s.size ∧ i = .int .i64 k ∧ n = .int .i64 m ∧ 0 ≤ m ∧ m ≤ 9223372036854775807 ∧ Hid (numL most 0 s.data.toList = numL most m (s.data.toList.drop k))) (fun _ i => s.size - (intOf i).toNat)
    case atStart => exact ⟨0, 0, Nat.zero_le _, rfl, rfl, by omega, by omega, rfl⟩
    case round =>
      obtain ⟨k, m, hk, rfl, rfl, hm0', hm1', hnum⟩ := hrel
      by_cases hlt : k < s.size
      · have hd := hdig.out k hlt
        by_cases h0 : 922337203685477580 < m
        · have HS : Hid (numL most m (s.data.toList.drop k) = none) := numL_stop hlt (ref_stop (Or.inl h0) hm1 (by omega))
          go_wp2
          go_ret2
          exact ⟨ret_pair 0 9 (by rw [HV.out, hnum.out, HS.out]), rfl⟩
        · by_cases h1 : most < (s[k].toNat : Int) - 48
          · have HS : Hid (numL most m (s.data.toList.drop k) = none) := numL_stop hlt (ref_stop (Or.inr (Or.inl h1)) hm1 (by omega))
            go_wp2
            go_ret2
            exact ⟨ret_pair 0 9 (by rw [HV.out, hnum.out, HS.out]), rfl⟩
          · by_cases h2 : most - ((s[k].toNat : Int) - 48) < 10 * m
            · have HS : Hid (numL most m (s.data.toList.drop k) = none) := numL_stop hlt (ref_stop (Or.inr (Or.inr h2)) hm1 (by omega))
              go_wp2
              go_ret2
              exact ⟨ret_pair 0 9 (by rw [HV.out, hnum.out, HS.out]), rfl⟩
            · have hst := numL_go (most := most) (n := m) hlt (by omega)
              have HS : Hid (numL most m (s.data.toList.drop k) = numL most (10 * m + ((s[k].toNat : Int) - 48)) (s.data.toList.drop (k + 1))) := hst
              clear hst
              go_wp2
              go_round
              case rel => exact ⟨k + 1, 10 * m + ((s[k].toNat : Int) - 48), by omega, by go_num, by go_num, by omega, by omega, show _ = _ by rw [hnum.out, HS.out]⟩
              case measure => simp [intOf]; omega
      · have HD : Hid (s.data.toList.drop k = []) := drop_all s k (by omega)
        go_wp2
        go_ret2
        exact ⟨ret_pair m 0 (by rw [HV.out, hnum.out, HD.out]; rfl), rfl⟩
  · have ha' : allB 1 s.data.toList = false := by simpa using ha
    have HV : Hid (numV most s.data.toList = (0, 10)) := by show _ = _; rw [numV, if_pos (Or.inr ha')]
    clear ha hne
    go_enter Tryd.func39, Tryd.ntmps39
    go_wp2_with (go_at_call 65; refine (refall_any _ _ _ hs0).mono ?_; rintro e w' ⟨rfl, rfl⟩)
    go_ret2
    exact ⟨ret_pair 0 10 HV.out, rfl⟩

end Go.Proofs.YtjbfdbccidhdfaaDoor
