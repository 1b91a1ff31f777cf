/-
  The laws' filled: a table with requests that were begun at some ticks, of which some are answered.
-/
import Derived.Test.YtgikbpaejmdnoaaSC
import Derived.Test.YtgikbpaejmdnoaaOpenR12
import Derived.Test.YtgikbpaejmdnoaaWClientAnswered
namespace Go.Proofs.Ytgikbpaejmdnoaa
open Go.RowKit
set_option linter.unusedVariables false
set_option maxRecDepth 20000
set_option linter.unusedSimpArgs false

/-- The table behind the first k, and the tick. -/
def fillQ (starts : List Int) (rest : List Bool) : Nat → Tq × Int
  | 0 => (⟨200, 0, []⟩, 0)
  | k + 1 => (if rest[k]?.getD false = true then (respQ (startQ (fillQ starts rest k).1 [UInt8.ofNat k] ((fillQ starts rest k).2 + starts[k]?.getD 0 % 100) [UInt8.ofNat k] []).1 [UInt8.ofNat k] 200 ((fillQ starts rest k).2 + starts[k]?.getD 0 % 100)).1
      else (startQ (fillQ starts rest k).1 [UInt8.ofNat k] ((fillQ starts rest k).2 + starts[k]?.getD 0 % 100) [UInt8.ofNat k] []).1, (fillQ starts rest k).2 + starts[k]?.getD 0 % 100)
theorem start_lastq (t : Tq) (br to tx : List UInt8) (now : Int) : (startQ t br now to tx).1.last ≤ t.last + 1 ∧ t.last ≤ (startQ t br now to tx).1.last := by
  unfold startQ
  split
  · constructor <;> simp only <;> omega
  · split
    · constructor <;> simp only <;> omega
    · split
      · constructor <;> simp only <;> omega
      · constructor <;> simp only <;> omega
theorem resp_lastq (t : Tq) (br : List UInt8) (s now : Int) : (respQ t br s now).1.last = t.last := by
  unfold respQ
  split
  · rfl
  · split
    · rfl
    · split
      · rfl
      · split <;> rfl
theorem fill_last (starts : List Int) (rest : List Bool) : ∀ k : Nat, (fillQ starts rest k).1.last ≤ k
  | 0 => by simp [fillQ]
  | k + 1 => by
    have ih := fill_last starts rest k
    have h := (start_lastq (fillQ starts rest k).1 [UInt8.ofNat k] [UInt8.ofNat k] [] ((fillQ starts rest k).2 + starts[k]?.getD 0 % 100)).1
    unfold fillQ
    simp only
    split
    · rw [resp_lastq]; push_cast; omega
    · push_cast; omega
theorem fill_tick (starts : List Int) (rest : List Bool) : ∀ k : Nat, 0 ≤ (fillQ starts rest k).2 ∧ (fillQ starts rest k).2 ≤ 100 * k
  | 0 => by simp [fillQ]
  | k + 1 => by
    have ih := fill_tick starts rest k
    unfold fillQ
    simp only
    push_cast
    omega
theorem conv_byteq (u : World) (k : Nat) (hk : k < 256) : (convert 38 9 (.slice (some ⟨u.heap.size, 0, none⟩) 1 1)).run Try.prog (u.alloc (.cells #[.int .u8 k] 5)) = .ok (.string ⟨[UInt8.ofNat k].toArray⟩) (u.alloc (.cells #[.int .u8 k] 5)) := by
  refine run_convert_bytes_back (P := Try.prog) _ 38 9 5 _ 1 [UInt8.ofNat k] Try.underlying38 Try.underlying5 Try.underlying9 fun j hj => ?_
  have : j = 0 := by simpa using hj
  subst this
  simp [Addr.add, World.cell?_alloc_new]
  omega
theorem u16_bd {x : Int} (h : (Lit.int .u16 x).wf = true) : 0 ≤ x ∧ x ≤ 65535 := by
  simpa [Lit.wf, IntKind.min, IntKind.max, IntKind.signed, IntKind.bits] using h
theorem TabQ.mono {B U V bt : Nat} {w : World} {t : Tq} (h : TabQ B U bt w t) (hu : U ≤ V) (hv : V ≤ w.heap.size) : TabQ B V bt w t := by
  obtain ⟨h1, h2, hU, mn, ma, be, mw, r, h3, h4⟩ := h
  exact ⟨h1, h2, hv, mn, ma, be, mw, r, h3.mono hu, h4⟩
theorem TabQ.top {B U bt : Nat} {w : World} {t : Tq} (h : TabQ B U bt w t) : TabQ B w.heap.size bt w t := h.mono h.2.2.1 (Nat.le_refl _)
set_option maxHeartbeats 4000000 in
set_option maxRecDepth 100000 in
theorem filled_any {w : World} {v0 v1 : Value} {starts : List Int} {rest : List Bool} (h0 : NumsAt .u16 w v0 starts) (h1 : BoolsAt w v1 rest) :
    Calls Try.prog 17 #[v0, v1] w fun e w' => ∃ b, e = .returned (.pointer (some ⟨b, 0, none⟩)) ∧ TabQ w.heap.size w'.heap.size b w' (fillQ starts rest (min starts.length 60)).1 ∧ Below w.heap.size w w' := by
  have H0 := hid h0
  have H1 := hid h1
  obtain ⟨ao, cap, rfl, _⟩ := h0
  obtain ⟨bo, bcap, rfl, _⟩ := h1
  obtain ⟨n, hnn⟩ : ∃ n, n = starts.length := ⟨_, rfl⟩
  obtain ⟨nr, hnr⟩ : ∃ n, n = rest.length := ⟨_, rfl⟩
  rw [← hnn] at H0 ⊢
  rw [← hnr] at H1 ⊢
  have HN := hid hnn
  have HNR := hid hnr
  clear hnn hnr
  have FIN : Hid (∀ (bt : Nat) (u : World) (k : Nat), k = min n 60 → (∃ U, TabQ w.heap.size U bt u (fillQ starts rest k).1) → Below w.heap.size w u → ∃ b, Ending.returned (.pointer (some ⟨bt, 0, none⟩)) = .returned (.pointer (some ⟨b, 0, none⟩)) ∧ TabQ w.heap.size u.heap.size b u (fillQ starts rest (min n 60)).1 ∧ Below w.heap.size w u) := fun bt u k hk ⟨U, hT⟩ hB => ⟨bt, rfl, by rw [← hk]; exact hT.top, hB⟩
  go_enter Try.func17, Try.ntmps17
  go_wp2_with fail
  refine (qnew_ok w (most := 200) (by decide) (by decide)).mono ?_
  rintro e w1 ⟨bt, rfl, T1, B1⟩
  have HT : Hid (∃ U, TabQ w.heap.size U bt w1 (fillQ starts rest 0).1) := ⟨_, T1⟩
  have HB := hid B1
  clear T1 B1
  go_wp2
  go_loopw [7, 8] (fun x i wr => ∃ k : Nat, k ≤ n ∧ k ≤ 60 ∧ i = .int .i64 k ∧ x = .int .i64 (fillQ starts rest k).2 ∧ Hid (∃ U, TabQ w.heap.size U bt wr (fillQ starts rest k).1) ∧ Hid (Below w.heap.size w wr)) (fun _ i _ => n - (intOf i).toNat)
  case atStart => exact ⟨0, by omega, by omega, rfl, rfl, HT, HB⟩
  case round =>
    clear HT HB
    obtain ⟨k, hk, hk6, rfl, rfl, HT, HB⟩ := hrel
    by_cases hlt : k < n
    case neg =>
      have hlt' : decide ((k : Int) < (n : Int)) = false := decide_eq_false (by omega)
      have HF := hid (FIN.out bt wr k (by omega) HT.out HB.out)
      clear HT HB
      go_wp2
      go_ret
      exact HF.out
    have hlt' : (k : Int) < (n : Int) := by omega
    by_cases h6 : k < 60
    case neg =>
      have h6' : decide ((k : Int) < 60) = false := decide_eq_false (by omega)
      have HF := hid (FIN.out bt wr k (by omega) HT.out HB.out)
      clear HT HB
      go_wp2
      go_ret
      exact HF.out
    have h6' : (k : Int) < 60 := by omega
    have hkl : k < starts.length := by rw [← HN.out]; exact hlt
    obtain ⟨ao', cap', hv', hcell⟩ := H0.out
    injection hv' with e1 e2 e3
    obtain ⟨ad, hao, halt, hwf, hxc⟩ := hcell k hkl
    rw [hao] at e1
    subst e1
    have hx0 := rcell_below HB.out (by rw [radd_block]; exact halt) hxc
    obtain ⟨p0, p1⟩ := u16_bd hwf
    have hget : starts[k]?.getD 0 = starts[k] := by rw [List.getElem?_eq_getElem hkl]; rfl
    obtain ⟨z, hz⟩ : ∃ z : Nat, starts[k] = z := ⟨starts[k].toNat, by omega⟩
    rw [hz] at hx0 hget p1
    obtain ⟨m, hm⟩ : ∃ m : Nat, m = z % 100 := ⟨_, rfl⟩
    have hm1 : (z : Int).tmod 100 = m := by rw [Int.tmod_eq_emod_of_nonneg (by omega)]; omega
    have hm2 : (z : Int) % 100 = m := by omega
    have hm3 : m < 100 := by omega
    have ht := fill_tick starts rest k
    have hl := fill_last starts rest k
    have hs : (fillQ starts rest (k + 1)).2 = (fillQ starts rest k).2 + m := by
      show (fillQ starts rest k).2 + starts[k]?.getD 0 % 100 = _
      rw [hget, hm2]
    have hf : (fillQ starts rest (k + 1)).1 = if rest[k]?.getD false = true then (respQ (startQ (fillQ starts rest k).1 [UInt8.ofNat k] ((fillQ starts rest k).2 + m) [UInt8.ofNat k] []).1 [UInt8.ofNat k] 200 ((fillQ starts rest k).2 + m)).1 else (startQ (fillQ starts rest k).1 [UInt8.ofNat k] ((fillQ starts rest k).2 + m) [UInt8.ofNat k] []).1 := by
      rw [fillQ]; simp only; rw [hget, hm2]
    have HS := hid hs
    have HFF := hid hf
    have HM := hid (And.intro hm1 hm2)
    clear hs hf hget hz hm hcell e2 e3 hwf hxc hao
    have hn1 : (fillQ starts rest k).2 + m ≤ 6100 := by omega
    have hn0 : 0 ≤ (fillQ starts rest k).2 + m := by omega
    have hn2 : 0 ≤ (fillQ starts rest k).2 := ht.1
    have hn3 : (fillQ starts rest k).2 ≤ 6000 := by omega
    have hb1 : Below wr.heap.size wr (wr.alloc (.cells #[.int .u8 k] 5)) := (Below.refl _ wr).alloc (Nat.le_refl _) _
    have hcv := conv_byteq wr k (by omega)
    obtain ⟨U, T0⟩ := HT.out
    have KS := hid (qstart_any (T0.below hb1) (br := [UInt8.ofNat k]) (to := [UInt8.ofNat k]) (tx := []) (now := (fillQ starts rest k).2 + m) (by simp) (by simp) (by simp) (by omega))
    have B1 := hid (HB.out.trans (hb1.mono HB.out.size))
    clear T0 hb1 HT HB hl ht
    unfold stR stV at KS
    have hkb : IntKind.u8.wrap (k : Int) = k := by simp [IntKind.wrap, IntKind.bits, IntKind.signed]; omega
    obtain ⟨N, hN⟩ : ∃ N, N = (fillQ starts rest k).2 := ⟨_, rfl⟩
    rw [← hN] at hn0 hn1 hn2 hn3 KS HS HFF ⊢
    have hmd1 := HM.out.1
    have hmd2 := HM.out.2
    clear hN
    go_wp2_with fail
    refine KS.out.mono ?_
    rintro e w2 ⟨rfl, T2, F2⟩
    have B2 := B1.out.trans F2.below
    clear KS F2 B1 hcv
    generalize hst : startQ (fillQ starts rest k).1 [UInt8.ofNat k] (N + m) [UInt8.ofNat k] [] = st at T2 HFF
    obtain ⟨t1, i1, m1⟩ := st
    simp only at T2 HFF ⊢
    clear hst hm1 hm2 hmd1 hmd2
    by_cases hrk : k < nr
    · have hrk' : (k : Int) < nr := by omega
      have hkr : k < rest.length := by rw [← HNR.out]; exact hrk
      obtain ⟨bo', cap', hv', hcell⟩ := H1.out
      injection hv' with e1 e2 e3
      obtain ⟨bd, hbo, hblt, hbc⟩ := hcell k hkr
      rw [hbo] at e1
      subst e1
      have hbx := rcell_below B2 (by rw [radd_block]; exact hblt) hbc
      have hgb : rest[k]?.getD false = rest[k] := by rw [List.getElem?_eq_getElem hkr]; rfl
      rw [hgb] at HFF
      clear hcell e2 e3 hbc hbo hgb
      generalize rest[k] = yb at HFF hbx
      have HB2 := hid B2
      clear B2
      cases yb
      · have HT3 : Hid (∃ U, TabQ w.heap.size U bt w2 (fillQ starts rest (k + 1)).1) := by rw [HFF.out]; exact ⟨_, T2⟩
        clear T2 HFF
        go_wp2
        go_roundw
        case rel => exact ⟨k + 1, by omega, by omega, by go_num, by rw [HS.out], HT3, HB2⟩
        case measure => simp [intOf]; omega
      · have KR := hid (qresp_any T2 (br := [UInt8.ofNat k]) (s := 200) (now := N + m) (by simp))
        unfold rsV at KR
        clear T2
        go_wp2_with fail
        refine KR.out.mono ?_
        rintro e w3 ⟨rfl, T3, F3⟩
        have HT3 : Hid (∃ U, TabQ w.heap.size U bt w3 (fillQ starts rest (k + 1)).1) := by rw [HFF.out]; exact ⟨_, T3⟩
        have HB3 := hid (HB2.out.trans F3.below)
        clear T3 F3 HFF KR HB2
        generalize respQ t1 [UInt8.ofNat k] 200 (N + m) = rr
        obtain ⟨r1, r2, r3, r4⟩ := rr
        simp only
        go_wp2
        go_roundw
        case rel => exact ⟨k + 1, by omega, by omega, by go_num, by rw [HS.out], HT3, HB3⟩
        case measure => simp [intOf]; omega
    · have hrk' : decide ((k : Int) < (nr : Int)) = false := decide_eq_false (by omega)
      have hgb : rest[k]?.getD false = false := by rw [List.getElem?_eq_none (by rw [← HNR.out]; omega)]; rfl
      rw [hgb] at HFF
      have HT3 : Hid (∃ U, TabQ w.heap.size U bt w2 (fillQ starts rest (k + 1)).1) := by rw [HFF.out]; exact ⟨_, T2⟩
      have HB2 := hid B2
      clear T2 HFF B2 hgb
      go_wp2
      go_roundw
      case rel => exact ⟨k + 1, by omega, by omega, by go_num, by rw [HS.out], HT3, HB2⟩
      case measure => simp [intOf]; omega
end Go.Proofs.Ytgikbpaejmdnoaa
