/-
  Base texts, one behind another: Escape, Unesc, WrittenL, Params, PListL, Digits, PrintL, CheckL, WhereL, BackL, ParseL, UBackL, SameL, RefCut.
-/
import Derived.Test.YtgboekilhldejaaGreatDoorBaseA
import Derived.Deep.RegionLaw
import Derived.Deep.QuietTactic
import Derived.BigQuiet
import Derived.Laws.StructEq
import Derived.ChangeKeysEq

/-
  The contract of Escape.
-/
namespace Go.Proofs.YtgboekilhldejaaGreatDoor
open Go.RowKit Sc
set_option linter.unusedVariables false
set_option maxRecDepth 20000

def kept0 : Array Value := (List.replicate 256 (.bool false)).toArray
theorem zero52 (u : World) : Sem.run Tryz.prog (zeroValue 114) u = .ok (.agg kept0) u := by kernel_rfl
/-- The 256 marks lie in block B. -/
def Marks (w : World) (B : Nat) (f : Nat → Bool) : Prop := ∀ j, j < 256 → w.cell? ⟨B, j, none⟩ = some (.bool (f j)) ∧ w.frozen? ⟨B, j, none⟩ = false
theorem marks0 (w : World) : Marks (w.alloc (.cells kept0 114)) w.heap.size (fun _ => false) := by
  intro j hj
  constructor
  · rw [World.cell?_alloc_new, kept0, List.getElem?_toArray, List.getElem?_replicate, if_pos hj]
  · exact World.frozen?_alloc_new w kept0 114 j
theorem marks_set {w : World} {B : Nat} {f : Nat → Bool} (h : Marks w B f) (n : Nat) (hn : n < 256) (b : Bool) : Marks (w.setCell ⟨B, n, none⟩ (.bool b)) B (fun j => if j = n then b else f j) := by
  intro j hj
  constructor
  · by_cases e : j = n
    · subst e
      rw [World.cell?_setCell_same _ _ _ (h j hj).1]; simp
    · rw [World.cell?_setCell_other _ _ _ _ (by intro e'; injection e' with _ e2; exact e e2.symm), (h j hj).1]; simp [e]
  · rw [World.frozen?_setCell]; exact (h j hj).2
theorem marks_congr {w : World} {B : Nat} {f g : Nat → Bool} (h : Marks w B f) (hfg : ∀ j, f j = g j) : Marks w B g := by
  intro j hj; rw [← hfg j]; exact h j hj
theorem marks_below {w w' : World} {B : Nat} {f : Nat → Bool} (h : Marks w B f) (hb : Below (B + 1) w w') : Marks w' B f := by
  intro j hj
  exact ⟨(hb.cell (p := ⟨B, j, none⟩) (Nat.lt_succ_self B)).trans (h j hj).1, (hb.frozen (p := ⟨B, j, none⟩) (Nat.lt_succ_self B)).trans (h j hj).2⟩

def inK (l : List UInt8) (j : Nat) : Bool := l.any fun b => b.toNat == j
theorem inK_snoc (l : List UInt8) (b : UInt8) (j : Nat) : (if j = b.toNat then true else inK l j) = inK (l ++ [b]) j := by
  by_cases h : j = b.toNat
  · simp [inK, h]
  · have h' : (b.toNat == j) = false := by simp; exact fun e => h e.symm
    simp [inK, h, h']

def hexd (n : Nat) : UInt8 := [48, 49, 50, 51, 52, 53, 54, 55, 56, 57, 65, 66, 67, 68, 69, 70].getD n 0
def free (kp : Nat → Bool) (b : UInt8) : Bool := isB b.toNat 16 || kp b.toNat
def esc (kp : Nat → Bool) : List UInt8 → List UInt8
  | [] => []
  | b :: r => (if free kp b then [b] else [37, hexd (b.toNat / 16), hexd (b.toNat % 16)]) ++ esc kp r
/-- The signs that stand for themselves, by 'keep'. -/
def kpF (keep : List UInt8) (j : Nat) : Bool := if j = 37 then false else inK keep j

theorem esc_append (kp : Nat → Bool) (a b : List UInt8) : esc kp (a ++ b) = esc kp a ++ esc kp b := by
  induction a with
  | nil => rfl
  | cons x r ih => simp only [List.cons_append, esc, ih, List.append_assoc]
theorem esc_len (kp : Nat → Bool) (l : List UInt8) : (esc kp l).length ≤ 3 * l.length := by
  induction l with
  | nil => simp [esc]
  | cons x r ih => simp only [esc, List.length_append, List.length_cons]; split <;> simp <;> omega
theorem esc_cells1 (kp : Nat → Bool) (l : List UInt8) (b : UInt8) (h : free kp b = true) : Lib.byteCells (esc kp l) ++ Lib.byteCells [b] = Lib.byteCells (esc kp (l ++ [b])) := by
  rw [← Lib.byteCells_append]; simp [esc_append, esc, h]
theorem esc_cells3 (kp : Nat → Bool) (l : List UInt8) (b : UInt8) (h : free kp b = false) :
    Lib.byteCells (esc kp l) ++ Lib.byteCells [37, hexd (b.toNat / 16), hexd (b.toNat % 16)] = Lib.byteCells (esc kp (l ++ [b])) := by
  rw [← Lib.byteCells_append]; simp [esc_append, esc, h]
theorem esc_cells_len (kp : Nat → Bool) (l : List UInt8) : (Lib.byteCells (esc kp l)).length ≤ 3 * l.length := by
  rw [Lib.byteCells_length]; exact esc_len kp l

theorem hexi (i : Int) (n : Nat) (hi : i.toNat = n) (h : i.toNat < 16) : (((ByteArray.mk #[48, 49, 50, 51, 52, 53, 54, 55, 56, 57, 65, 66, 67, 68, 69, 70])[i.toNat]'h).toNat : Int) = ((hexd n).toNat : Int) := by
  subst hi
  have hh : ∀ n : Fin 16, (((ByteArray.mk #[48, 49, 50, 51, 52, 53, 54, 55, 56, 57, 65, 66, 67, 68, 69, 70])[n.val]'n.isLt).toNat : Int) = ((hexd n.val).toNat : Int) := by decide +kernel
  exact hh ⟨i.toNat, h⟩
theorem three_new (w : World) (e : TypeId) (x y z : Value) (l : List Value) (hl : l = [x, y, z]) :
    ∀ (j : Nat) (u : Value), l[j]? = some u → (w.alloc (.cells #[x, y, z] e)).drew.cell? ((⟨w.heap.size, 0, none⟩ : Addr).add j) = some u := by
  subst hl
  intro j u hj
  rw [show (w.alloc (.cells #[x, y, z] e)).drew.cell? = (w.alloc (.cells #[x, y, z] e)).cell? from rfl]
  match j, hj with
  | 0, hj => simp at hj; subst hj; simp [Addr.add]
  | 1, hj => simp at hj; subst hj; simp [Addr.add]
  | 2, hj => simp at hj; subst hj; simp [Addr.add]
theorem and15 (b : UInt8) : bits BinOp.and IntKind.u8 (b.toNat : Int) 15 = (b.toNat : Int) % 16 := by
  have h : ∀ n : Fin 256, bits BinOp.and IntKind.u8 (n.val : Int) 15 = (n.val : Int) % 16 := by decide +kernel
  exact h ⟨b.toNat, b.toNat_lt⟩

set_option maxHeartbeats 1000000 in
theorem escape_any (s keep : ByteArray) (w : World) (hs : 3 * s.size ≤ 140737488355328) (hk : keep.size ≤ 9223372036854775807) :
    Calls Tryz.prog 66 #[.string s, .string keep] w fun e w' => e = .returned (.string ⟨(esc (kpF keep.data.toList) s.data.toList).toArray⟩) ∧ Below w.heap.size w w' := by
  have hz52 := zero52
  obtain ⟨i0, hi, hz0, hz1, hz2⟩ := info_parts info5
  go_enter Tryz.func66, Tryz.ntmps66
  go_wp2
  clear hz52
  have hm0 := marks0 w
  go_loopw [12] (fun i wr => ∃ k : Nat, k ≤ keep.size ∧ i = .int .i64 k ∧ Hid (Marks wr w.heap.size (inK (keep.data.toList.take k))) ∧ Below w.heap.size w wr ∧ w.heap.size + 1 ≤ wr.heap.size) (fun i _ => keep.size - (intOf i).toNat)
  case atStart => exact ⟨0, Nat.zero_le _, rfl, hm0, (Below.refl _ _).alloc (Nat.le_refl _) _, by simp⟩
  case round =>
    obtain ⟨k, hk', rfl, hm, hb, hB⟩ := hrel
    by_cases hlt : k < keep.size
    · have hbd := u8_bd keep[k]
      have hc := (hm.out keep[k].toNat keep[k].toNat_lt).1
      have hf := (hm.out keep[k].toNat keep[k].toNat_lt).2
      have hm' : Hid (Marks (wr.setCell ⟨w.heap.size, keep[k].toNat, none⟩ (.bool true)) w.heap.size (inK (keep.data.toList.take (k + 1)))) := by
        rw [take_snoc keep k hlt]
        exact marks_congr (marks_set hm.out keep[k].toNat keep[k].toNat_lt true) (inK_snoc _ _)
      go_wp2
      go_roundw
      case rel => exact ⟨k + 1, by omega, by go_num, hm', hb.setCell (Nat.le_refl _) _, by simpa using hB⟩
      case measure => simp [intOf]; omega
    · rw [take_all keep k (by omega)] at hm
      have hc := (hm.out 37 (by omega)).1
      have hf := (hm.out 37 (by omega)).2
      have hm2 : Hid (Marks (wr.setCell ⟨w.heap.size, 37, none⟩ (.bool false)) w.heap.size (kpF keep.data.toList)) := marks_set hm.out 37 (by omega) false
      have hb2 : Below w.heap.size w (wr.setCell ⟨w.heap.size, 37, none⟩ (.bool false)) := hb.setCell (Nat.le_refl _) _
      have hB2 : w.heap.size + 1 ≤ (wr.setCell ⟨w.heap.size, 37, none⟩ (.bool false)).heap.size := by simpa using hB
      clear hm hb hB hk' hm0
      go_wp2_with (at_make; refine wp_make _ rfl _ _ 92 rfl (w.heap.size + 1) 5 i0 (.int .u8 0) Tryz.underlying92 hi hz0 hz1 .i64 .i64 _ s.size rfl rfl (by omega) (by rw [hz2]; omega) (by unfold maxLen; omega) _ (Below.refl _ _) hB2 ?_; intro v0 w1 hown1 hb1 hB1)
      have hm1 : Hid (Marks w1 w.heap.size (kpF keep.data.toList)) := marks_below hm2.out hb1
      have hbw : Below w.heap.size w w1 := hb2.trans (hb1.mono (by omega))
      clear hm2 hb2 hB2 hb1 hc hf
      go_loopw [7, 26] (fun v i wr => ∃ k : Nat, k ≤ s.size ∧ i = .int .i64 k ∧ Own wr (w.heap.size + 1) 5 v (Lib.byteCells (esc (kpF keep.data.toList) (s.data.toList.take k))) ∧ Below (w.heap.size + 1) w1 wr ∧ w.heap.size + 1 ≤ wr.heap.size) (fun _ i _ => s.size - (intOf i).toNat)
      case atStart => exact ⟨0, Nat.zero_le _, rfl, hown1, Below.refl _ _, hB1⟩
      case round =>
        clear hown1 hB1
        obtain ⟨k, hk', rfl, hown, hb, hB⟩ := hrel
        have hlen := esc_cells_len (kpF keep.data.toList) (s.data.toList.take k)
        have hlk : (s.data.toList.take k).length ≤ k := List.length_take_le _ _
        by_cases hlt : k < s.size
        · have hbd := u8_bd s[k]
          have hcell := ((marks_below hm1.out hb) s[k].toNat s[k].toNat_lt).1
          by_cases hfree : free (kpF keep.data.toList) s[k] = true
          · have hcs := esc_cells1 (kpF keep.data.toList) (s.data.toList.take k) s[k] hfree
            rw [← take_snoc s k hlt] at hcs
            have HC : Hid _ := hcs; clear hcs
            have HF : Hid _ := hfree; clear hfree
            by_cases hpl : isB s[k].toNat 16 = true
            · go_wp2_with (first
                | (go_at_call 83; refine (is_any _ _ _ hbd.1 hbd.2).mono ?_; rintro e w' ⟨rfl, rfl⟩)
                | (at_builtin; refine wp_app _ rfl (.tmp 39) (.tmp 41) 92 rfl (w.heap.size + 1) 5 i0 (.int .u8 0) 1 Tryz.underlying92 hi hz0 hz1 hz2 rfl _ _ rfl (hown.alloc _) ⟨_, 0, none⟩ 1 1 (Lib.byteCells [s[k]]) rfl rfl (by exact one_new _ _ _) (byteCells_one _) (by unfold maxLen; omega) (by omega) w1 (hb.alloc hB _) (by simp; omega) ?_; intro v3 w3 hown3 hb3 hB3))
              rw [HC.out] at hown3
              go_roundw
              case rel => exact ⟨k + 1, by omega, by go_num, hown3, hb3, hB3⟩
              case measure => simp [intOf]; omega
            · have hpl' : isB s[k].toNat 16 = false := by simpa using hpl
              have hkp : kpF keep.data.toList s[k].toNat = true := by have := HF.out; rw [free, hpl'] at this; simpa using this
              rw [hkp] at hcell
              have HK : Hid _ := hkp; clear hkp hpl
              go_wp2_with (first
                | (go_at_call 83; refine (is_any _ _ _ hbd.1 hbd.2).mono ?_; rintro e w' ⟨rfl, rfl⟩)
                | (at_builtin; refine wp_app _ rfl (.tmp 39) (.tmp 41) 92 rfl (w.heap.size + 1) 5 i0 (.int .u8 0) 1 Tryz.underlying92 hi hz0 hz1 hz2 rfl _ _ rfl (hown.alloc _) ⟨_, 0, none⟩ 1 1 (Lib.byteCells [s[k]]) rfl rfl (by exact one_new _ _ _) (byteCells_one _) (by unfold maxLen; omega) (by omega) w1 (hb.alloc hB _) (by simp; omega) ?_; intro v3 w3 hown3 hb3 hB3))
              rw [HC.out] at hown3
              go_roundw
              case rel => exact ⟨k + 1, by omega, by go_num, hown3, hb3, hB3⟩
              case measure => simp [intOf]; omega
          · have hfree' : free (kpF keep.data.toList) s[k] = false := by simpa using hfree
            have hcs := esc_cells3 (kpF keep.data.toList) (s.data.toList.take k) s[k] hfree'
            rw [← take_snoc s k hlt] at hcs
            have HC : Hid _ := hcs; clear hcs
            have hpl : isB s[k].toNat 16 = false := by rw [free] at hfree'; simp at hfree'; exact hfree'.1
            have hkp : kpF keep.data.toList s[k].toNat = false := by rw [free] at hfree'; simp at hfree'; exact hfree'.2
            rw [hkp] at hcell
            clear hkp hfree hfree'
            go_wp2_with (first
                | (go_at_call 83; refine (is_any _ _ _ hbd.1 hbd.2).mono ?_; rintro e w' ⟨rfl, rfl⟩))
            have hA : (0 : Int) ≤ (s[k].toNat : Int) / 16 := by omega
            have hB' : (s[k].toNat : Int) / 16 < 16 := by omega
            have hC : bits BinOp.and IntKind.u8 (s[k].toNat : Int) 15 = (s[k].toNat : Int) % 16 := and15 _
            have hD : (0 : Int) ≤ (s[k].toNat : Int) % 16 := by omega
            have hE : (s[k].toNat : Int) % 16 < 16 := by omega
            go_region_law (refine step_app rfl (.tmp 43) (.tmp 50) 92 rfl (w.heap.size + 1) 5 i0 (.int .u8 0) 1 Tryz.underlying92 hi hz0 hz1 hz2 rfl _ _ rfl (by exact (hown.alloc _).drew) ⟨_, 0, none⟩ 3 3 (Lib.byteCells [37, hexd (s[k].toNat / 16), hexd (s[k].toNat % 16)]) rfl rfl (by refine three_new _ _ _ _ _ _ ?_; simp only [Lib.byteCells, List.map_cons, List.map_nil]; rw [hexi _ (s[k].toNat / 16) (by omega), hexi _ (s[k].toNat % 16) (by omega)]; rfl) (byteCells_one _) (by unfold maxLen; omega) (by omega) w1 (by exact (hb.alloc hB _).drew) (by simp; omega) ?_; intro v3 w3 hown3 hb3 hB3)
            all_goals
              rw [HC.out] at hown3
              go_wp2
              go_roundw
              case rel => exact ⟨k + 1, by omega, by go_num, hown3, hb3, hB3⟩
              case measure => simp [intOf]; omega
        · have hta := take_all s k (by omega)
          rw [hta] at hown
          clear hta hlen hlk
          have hcv := conv_own (P := Tryz.prog) _ Tryz.underlying92 Tryz.underlying5 Tryz.underlying9 hown
          go_wp2
          go_ret
          exact ⟨rfl, hbw.trans (hb.mono (by omega))⟩
end Go.Proofs.YtgboekilhldejaaGreatDoor

/-
  Contracts of hexValue and Unescape.
-/
namespace Go.Proofs.YtgboekilhldejaaGreatDoor
open Go.RowKit Sc
set_option linter.unusedVariables false
set_option maxRecDepth 20000

theorem Own.drewN {w : World} {B : Nat} {e : TypeId} {v : Value} {xs : List Value} (h : Own w B e v xs) (q : Nat) : Own (w.drewN q) B e v xs := h
theorem Below.drewN {B : Nat} {a w : World} (h : Below B a w) (q : Nat) : Below B a (w.drewN q) := ⟨h.os, h.tape, h.output, h.size, h.block⟩

/-- What a digit of sixteen is worth. -/
def hexv (c : Int) : Int := if 48 ≤ c ∧ c ≤ 57 then c - 48 else low c - 87
theorem isB_hex (c : Int) (h0 : 0 ≤ c) (h1 : c ≤ 255) : isB c 4 = decide (48 ≤ c ∧ c ≤ 57 ∨ 97 ≤ c ∧ c ≤ 102 ∨ 65 ≤ c ∧ c ≤ 70) := by
  obtain ⟨n, rfl⟩ := Int.eq_ofNat_of_zero_le h0
  have h : ∀ n : Fin 256, isB (n.val : Int) 4 = decide (48 ≤ (n.val : Int) ∧ (n.val : Int) ≤ 57 ∨ 97 ≤ (n.val : Int) ∧ (n.val : Int) ≤ 102 ∨ 65 ≤ (n.val : Int) ∧ (n.val : Int) ≤ 70) := by decide +kernel
  exact h ⟨n, by omega⟩
theorem hex_of {b : UInt8} (h : isB b.toNat 4 = true) : 48 ≤ (b.toNat : Int) ∧ (b.toNat : Int) ≤ 57 ∨ 97 ≤ (b.toNat : Int) ∧ (b.toNat : Int) ≤ 102 ∨ 65 ≤ (b.toNat : Int) ∧ (b.toNat : Int) ≤ 70 := by
  have hb := u8_bd b
  rw [isB_hex _ hb.1 hb.2] at h
  simpa using h
theorem hexv_bd {b : UInt8} (h : isB b.toNat 4 = true) : 0 ≤ hexv b.toNat ∧ hexv b.toNat ≤ 15 := by
  have := hex_of h
  unfold hexv low
  repeat' split
  all_goals omega
def hxb (x y : UInt8) : UInt8 := UInt8.ofNat (16 * hexv x.toNat + hexv y.toNat).toNat
theorem hxb_toNat {x y : UInt8} (hx : isB x.toNat 4 = true) (hy : isB y.toNat 4 = true) : ((hxb x y).toNat : Int) = 16 * hexv x.toNat + hexv y.toNat := by
  have h1 := hexv_bd hx
  have h2 := hexv_bd hy
  rw [hxb, UInt8.toNat_ofNat']
  omega

set_option maxHeartbeats 400000 in
theorem hexvalue_any (b : UInt8) (w : World) (h : isB b.toNat 4 = true) :
    Calls Tryz.prog 140 #[.int .u8 b.toNat] w fun e w' => e = .returned (.int .u8 (hexv b.toNat)) ∧ w' = w := by
  have hbd := u8_bd b
  have hx := hex_of h
  by_cases hd : 48 ≤ (b.toNat : Int) ∧ (b.toNat : Int) ≤ 57
  · have h1 : isB b.toNat 1 = true := by rw [isB_digit _ hbd.1 hbd.2]; simpa using hd
    have hv : Hid (hexv b.toNat = (b.toNat : Int) - 48) := by show _ = _; rw [hexv, if_pos hd]
    obtain ⟨hd1, hd2⟩ := hd
    clear h hx
    go_enter Tryz.func140, Tryz.ntmps140
    go_wp2_with (go_at_call 83; refine (is_any _ _ _ hbd.1 hbd.2).mono ?_; rintro e w' ⟨rfl, rfl⟩)
    go_ret
    exact ⟨ret_int hv.out.symm, rfl⟩
  · have h1 : isB b.toNat 1 = false := by rw [isB_digit _ hbd.1 hbd.2]; simpa using hd
    have hl : 97 ≤ low b.toNat ∧ low b.toNat ≤ 102 := by unfold low; split <;> omega
    have hv : Hid (hexv b.toNat = low b.toNat - 97 + 10) := by show _ = _; rw [hexv, if_neg hd]; omega
    obtain ⟨hl1, hl2⟩ := hl
    clear h hx hd
    go_enter Tryz.func140, Tryz.ntmps140
    go_wp2_with (first
      | (go_at_call 83; refine (is_any _ _ _ hbd.1 hbd.2).mono ?_; rintro e w' ⟨rfl, rfl⟩)
      | (go_at_call 109; refine (lower_any _ _ hbd.1 hbd.2).mono ?_; rintro e w' ⟨rfl, rfl⟩))
    go_ret
    exact ⟨ret_int hv.out.symm, rfl⟩

/-- What escapes stand for. -/
def une : List UInt8 → Option (List UInt8)
  | [] => some []
  | [b] => if (b.toNat : Int) = 37 then none else some [b]
  | [b, x] => if (b.toNat : Int) = 37 then none else (une [x]).map (b :: ·)
  | b :: x :: y :: r => if (b.toNat : Int) = 37 then (if isB x.toNat 4 && isB y.toNat 4 then (une r).map (hxb x y :: ·) else none) else (une (x :: y :: r)).map (b :: ·)
theorem une_plain {b : UInt8} {r : List UInt8} (h : (b.toNat : Int) ≠ 37) : une (b :: r) = (une r).map (b :: ·) := by
  match r with
  | [] => simp [une, h]
  | [x] => show (if (b.toNat : Int) = 37 then none else (une [x]).map (b :: ·)) = _; rw [if_neg h]
  | x :: y :: r => rw [une, if_neg h]
theorem une_short {b : UInt8} {r : List UInt8} (h : (b.toNat : Int) = 37) (hr : r.length < 2) : une (b :: r) = none := by
  match r, hr with
  | [], _ => simp [une, h]
  | [x], _ => rw [une, if_pos h]
  | x :: y :: r, hr => simp at hr; omega
theorem une_hex {b x y : UInt8} {r : List UInt8} (h : (b.toNat : Int) = 37) (hx : isB x.toNat 4 = true) (hy : isB y.toNat 4 = true) : une (b :: x :: y :: r) = (une r).map (hxb x y :: ·) := by
  rw [une, if_pos h, hx, hy]; rfl
theorem une_bad {b x y : UInt8} {r : List UInt8} (h : (b.toNat : Int) = 37) (hx : (isB x.toNat 4 && isB y.toNat 4) = false) : une (b :: x :: y :: r) = none := by
  rw [une, if_pos h, hx]; rfl
def unescV (l : List UInt8) : List UInt8 × Int := match une l with | some r => (r, 0) | none => ([], 12)
theorem unescV_some {l r : List UInt8} (h : une l = some r) : unescV l = (r, 0) := by rw [unescV, h]
theorem unescV_none {l : List UInt8} (h : une l = none) : unescV l = ([], 12) := by rw [unescV, h]

def UneAt (l acc rest : List UInt8) : Prop := une l = (une rest).map (acc ++ ·)
theorem uneAt0 (l : List UInt8) : UneAt l [] l := by unfold UneAt; cases une l <;> simp
theorem uneAt_end {l acc : List UInt8} (h : UneAt l acc []) : une l = some acc := by rw [h]; simp [une]
theorem uneAt_plain {l acc : List UInt8} {b : UInt8} {r : List UInt8} (h : UneAt l acc (b :: r)) (hb : (b.toNat : Int) ≠ 37) : UneAt l (acc ++ [b]) r := by
  unfold UneAt at *
  rw [h, une_plain hb]; exact map_snoc acc b (une r)
theorem uneAt_hex {l acc : List UInt8} {b x y : UInt8} {r : List UInt8} (h : UneAt l acc (b :: x :: y :: r)) (hb : (b.toNat : Int) = 37) (hx : isB x.toNat 4 = true) (hy : isB y.toNat 4 = true) : UneAt l (acc ++ [hxb x y]) r := by
  unfold UneAt at *
  rw [h, une_hex hb hx hy]; exact map_snoc acc _ (une r)
theorem uneAt_short {l acc : List UInt8} {b : UInt8} {r : List UInt8} (h : UneAt l acc (b :: r)) (hb : (b.toNat : Int) = 37) (hr : r.length < 2) : une l = none := by
  unfold UneAt at h
  rw [h, une_short hb hr]; rfl
theorem uneAt_bad {l acc : List UInt8} {b x y : UInt8} {r : List UInt8} (h : UneAt l acc (b :: x :: y :: r)) (hb : (b.toNat : Int) = 37) (hx : (isB x.toNat 4 && isB y.toNat 4) = false) : une l = none := by
  unfold UneAt at h
  rw [h, une_bad hb hx]; rfl

theorem or_hex {x y : UInt8} (hx : isB x.toNat 4 = true) (hy : isB y.toNat 4 = true) : bits BinOp.or IntKind.u8 (hexv x.toNat * 16 % 256) (hexv y.toNat) = ((hxb x y).toNat : Int) := by
  rw [hxb_toNat hx hy]
  have h1 := hexv_bd hx
  have h2 := hexv_bd hy
  obtain ⟨m, hm⟩ := Int.eq_ofNat_of_zero_le h1.1
  obtain ⟨n, hn⟩ := Int.eq_ofNat_of_zero_le h2.1
  rw [hm, hn]
  have h : ∀ m n : Fin 16, bits BinOp.or IntKind.u8 ((m.val : Int) * 16 % 256) (n.val : Int) = 16 * (m.val : Int) + (n.val : Int) := by decide +kernel
  exact h ⟨m, by omega⟩ ⟨n, by omega⟩

theorem all2 (s : ByteArray) (k : Nat) (h : k + 2 < s.size) (c : Int) : allB c (s.extract (k + 1) (k + 3)).data.toList = (isB s[k + 1].toNat c && isB s[k + 2].toNat c) := by
  have e : (s.extract (k + 1) (k + 3)).data.toList = [s[k + 1], s[k + 2]] := by
    rw [ext_list, show k + 3 - (k + 1) = 2 by omega, drop_cons s (k + 1) (by omega), drop_cons s (k + 1 + 1) (by omega)]
    rfl
  rw [e, allB]; simp

theorem all_hex2 (s : ByteArray) (k : Nat) (h : k + 2 < s.size) (hs : s.size ≤ maxLen) (w : World) (b : Bool) (hb : (isB s[k + 1].toNat 4 && isB s[k + 2].toNat 4) = b) :
    Calls Tryz.prog 46 #[.string (s.extract (k + 1) (k + 3)), .int .i64 4] w fun e w' => e = .returned (.bool b) ∧ w' = w := by
  have := all_any (s.extract (k + 1) (k + 3)) 4 w (by rw [ByteArray.size_extract]; omega)
  rw [all2 s k h, hb] at this
  exact this

set_option maxHeartbeats 2000000 in
theorem unescape_any (s : ByteArray) (w : World) (hs : s.size ≤ 140737488355328) :
    Calls Tryz.prog 122 #[.string s] w fun e w' => e = .returned (.tuple #[.string ⟨(unescV s.data.toList).1.toArray⟩, .int .i64 (unescV s.data.toList).2]) ∧ Below w.heap.size w w' := by
  obtain ⟨i0, hi, hz0, hz1, hz2⟩ := info_parts info5
  go_enter Tryz.func122, Tryz.ntmps122
  go_wp2_with (at_make; refine wp_make _ rfl _ _ 92 rfl w.heap.size 5 i0 (.int .u8 0) Tryz.underlying92 hi hz0 hz1 .i64 .i64 _ s.size rfl rfl rfl (by rw [hz2]; omega) (by unfold maxLen; omega) w (Below.refl _ _) (Nat.le_refl _) ?_; intro v0 w1 hown1 hb1 hB1)
  go_loopw [4, 5] (fun v i wr => ∃ (k : Nat) (acc : List UInt8), k ≤ s.size ∧ i = .int .i64 k ∧ acc.length ≤ k ∧ Own wr w.heap.size 5 v (Lib.byteCells acc) ∧ Below w.heap.size w wr ∧ w.heap.size ≤ wr.heap.size ∧
      Hid (UneAt s.data.toList acc (s.data.toList.drop k))) (fun _ i _ => s.size - (intOf i).toNat)
  case atStart => exact ⟨0, [], Nat.zero_le _, rfl, Nat.le_refl _, hown1, hb1, hB1, show UneAt _ _ _ by rw [List.drop_zero]; exact uneAt0 _⟩
  case round =>
    clear hown1 hb1 hB1
    obtain ⟨k, acc, hk, rfl, hac, hown, hb, hB, hu⟩ := hrel
    by_cases hlt : k < s.size
    · have hu' := hu.out
      rw [drop_cons s k hlt] at hu'
      by_cases h37 : (s[k].toNat : Int) = 37
      · have c1 : ((s[k].toNat : Int) == 37) = true := by simpa using h37
        by_cases hsh : k + 2 < s.size
        · rw [drop_cons s (k + 1) (by omega), drop_cons s (k + 1 + 1) (by omega)] at hu'
          by_cases hx : (isB s[k + 1].toNat 4 && isB s[k + 2].toNat 4) = true
          · have hx1 : isB s[k + 1].toNat 4 = true := by simp at hx; exact hx.1
            have hx2 : isB s[k + 2].toNat 4 = true := by simp at hx; exact hx.2
            have hn : Hid (UneAt s.data.toList (acc ++ [hxb s[k + 1] s[k + 2]]) (s.data.toList.drop (k + 1 + 1 + 1))) := uneAt_hex hu' h37 hx1 hx2
            have HX : Hid ((isB s[k + 1].toNat 4 && isB s[k + 2].toNat 4) = true) := hx
            clear hu hu' h37 hx
            go_wp2_with (go_at_call 46; refine (all_hex2 s k hsh (by unfold maxLen; omega) _ true HX.out).mono ?_; rintro e w' ⟨rfl, rfl⟩)
            have q1 : IntKind.i64.wrap ((k : Int) + 1) = (k : Int) + 1 := by simp [IntKind.wrap, IntKind.signed, IntKind.bits]; omega
            have q2 : IntKind.i64.wrap ((k : Int) + 2) = (k : Int) + 2 := by simp [IntKind.wrap, IntKind.signed, IntKind.bits]; omega
            have q3 : ((k : Int) + 1).toNat = k + 1 := by omega
            have q4 : ((k : Int) + 2).toNat = k + 2 := by omega
            have q5 : (0 : Int) ≤ (k : Int) + 1 := by omega
            have q6 : (k : Int) + 1 < (s.size : Int) := by omega
            have q7 : (0 : Int) ≤ (k : Int) + 2 := by omega
            have q8 : (k : Int) + 2 < (s.size : Int) := by omega
            go_quiet ((go_at_call 140; exact Calls.quiet_of_same (hexvalue_any _ _ (by assumption))))
            have qv := or_hex hx1 hx2
            have hown' := hown.drewN nq
            have hb' : Below w.heap.size w (w'.drewN nq) := Below.drewN hb nq
            have hB' : w.heap.size ≤ (w'.drewN nq).heap.size := hB
            generalize w'.drewN nq = wq at hown' hb' hB' ⊢
            rw [qv]
            clear hown hb hB qv
            go_wp2_with (at_builtin; refine wp_app _ rfl (.tmp 50) (.tmp 52) 92 rfl w.heap.size 5 i0 (.int .u8 0) 1 Tryz.underlying92 hi hz0 hz1 hz2 rfl _ _ rfl (by exact hown'.alloc _) ⟨_, 0, none⟩ 1 1 (Lib.byteCells [hxb s[k + 1] s[k + 2]]) rfl rfl (by exact one_new _ _ _) (byteCells_one _) (by rw [Lib.byteCells_length]; unfold maxLen; omega) (by rw [Lib.byteCells_length]; omega) w (by exact hb'.alloc hB' _) (by simp; omega) ?_; intro v3 w3 hown3 hb3 hB3)
            rw [byteCells_snoc] at hown3
            go_wp2
            go_roundw
            case rel => exact ⟨k + 1 + 1 + 1, _, by omega, by go_num, by simp; omega, hown3, hb3, hB3, hn⟩
            case measure => simp [intOf]; omega
          · have hx' : (isB s[k + 1].toNat 4 && isB s[k + 2].toNat 4) = false := by simpa using hx
            have hv : Hid (unescV s.data.toList = ([], 12)) := unescV_none (uneAt_bad hu' h37 hx')
            have HX : Hid ((isB s[k + 1].toNat 4 && isB s[k + 2].toNat 4) = false) := hx'
            clear hu hu' h37 hx hx'
            go_wp2_with (go_at_call 46; refine (all_hex2 s k hsh (by unfold maxLen; omega) _ false HX.out).mono ?_; rintro e w' ⟨rfl, rfl⟩)
            go_ret2
            exact ⟨ret_str [] 12 hv.out, hb⟩
        · have hv : Hid (unescV s.data.toList = ([], 12)) := unescV_none (uneAt_short hu' h37 (by rw [List.length_drop, len_data]; omega))
          clear hu hu' h37
          go_wp2
          go_ret2
          exact ⟨ret_str [] 12 hv.out, hb⟩
      · have c1 : ((s[k].toNat : Int) == 37) = false := by simpa using h37
        have hn : Hid (UneAt s.data.toList (acc ++ [s[k]]) (s.data.toList.drop (k + 1))) := uneAt_plain hu' h37
        clear hu hu' h37
        go_wp2_with (at_builtin; refine wp_app _ rfl (.tmp 50) (.tmp 52) 92 rfl w.heap.size 5 i0 (.int .u8 0) 1 Tryz.underlying92 hi hz0 hz1 hz2 rfl _ _ rfl (hown.alloc _) ⟨_, 0, none⟩ 1 1 (Lib.byteCells [s[k]]) rfl rfl (by exact one_new _ _ _) (byteCells_one _) (by rw [Lib.byteCells_length]; unfold maxLen; omega) (by rw [Lib.byteCells_length]; omega) w (hb.alloc hB _) (by simp; omega) ?_; intro v3 w3 hown3 hb3 hB3)
        rw [byteCells_snoc] at hown3
        go_wp2
        go_roundw
        case rel => exact ⟨k + 1, _, by omega, by go_num, by simp; omega, hown3, hb3, hB3, hn⟩
        case measure => simp [intOf]; omega
    · have hu' := hu.out
      rw [drop_all s k (by omega)] at hu'
      have hv : Hid (unescV s.data.toList = (acc, 0)) := unescV_some (uneAt_end hu')
      have hcv := conv_own (P := Tryz.prog) _ Tryz.underlying92 Tryz.underlying5 Tryz.underlying9 hown
      clear hu hu'
      go_wp2
      go_ret2
      exact ⟨ret_str acc 0 hv.out, hb⟩

end Go.Proofs.YtgboekilhldejaaGreatDoor

/-
  What a text stands for that may be written with some signs; parameters of texts. Plain functions on lists of bytes.
-/
namespace Go.Proofs.YtgboekilhldejaaGreatDoor
open Go.RowKit Sc
set_option linter.unusedVariables false
set_option maxRecDepth 20000

def okw (keep : List UInt8) (b : UInt8) : Bool := b == 37 || (isB b.toNat 16 || hasL b keep)
def writtenV (keep l : List UInt8) : List UInt8 × Bool := if l.all (okw keep) = true then ((unescV l).1, (unescV l).2 == 0) else ([], false)
structure Par where
  name : List UInt8
  value : List UInt8
  has : Bool
deriving DecidableEq
def parCells (p : Par) : List Value := [.string ⟨p.name.toArray⟩, .string ⟨p.value.toArray⟩, .bool p.has]
def parOf (keep l : List UInt8) : Option Par :=
  if (writtenV keep (cutL 61 l).1).2 = true ∧ (writtenV keep (cutL 61 l).2.1).2 = true then some ⟨(writtenV keep (cutL 61 l).1).1, (writtenV keep (cutL 61 l).2.1).1, (cutL 61 l).2.2⟩ else none
def parsOf (keep : List UInt8) : List (List UInt8) → Option (List Par)
  | [] => some []
  | l :: ls => match parOf keep l, parsOf keep ls with
    | some p, some ps => some (p :: ps)
    | _, _ => none

theorem okw_snoc {keep : List UInt8} {s : ByteArray} {k : Nat} (hk : k < s.size) (h : (s.data.toList.take k).all (okw keep) = true) (hb : okw keep s[k] = true) : (s.data.toList.take (k + 1)).all (okw keep) = true := by
  rw [take_snoc s k hk, List.all_append, h]; simp [hb]
theorem written_bad {keep : List UInt8} {s : ByteArray} {k : Nat} (hk : k < s.size) (hb : okw keep s[k] = false) : writtenV keep s.data.toList = ([], false) := by
  have : s.data.toList.all (okw keep) = false := by
    rw [List.all_eq_false]
    refine ⟨s[k], ?_, by simp [hb]⟩
    have := getL s k hk
    exact List.mem_of_getElem? this
  rw [writtenV, this]; rfl
theorem written_all {keep l : List UInt8} (h : l.all (okw keep) = true) : writtenV keep l = ((unescV l).1, (unescV l).2 == 0) := by rw [writtenV, if_pos h]

end Go.Proofs.YtgboekilhldejaaGreatDoor

/-
  Lists of parameters as rows of three cells each; the document's own Lists and Same.
-/
namespace Go.Proofs.YtgboekilhldejaaGreatDoor
open Go.RowKit Sc
set_option linter.unusedVariables false
set_option maxRecDepth 20000
set_option linter.unusedSimpArgs false

/-- Element k of the row at a holds p. -/
def ParAt (w : World) (a : Addr) (k : Nat) (p : Par) : Prop :=
  w.cell? (a.add (k * 3)) = some (.string ⟨p.name.toArray⟩) ∧ w.cell? ⟨(a.add (k * 3)).block, (a.add (k * 3)).off + 1, none⟩ = some (.string ⟨p.value.toArray⟩) ∧ w.cell? ⟨(a.add (k * 3)).block, (a.add (k * 3)).off + 2, none⟩ = some (.bool p.has)
/-- The slice v holds the parameters ps. -/
def ParsAt (w : World) (v : Value) (ps : List Par) : Prop :=
  (v = .slice none 0 0 ∧ ps = []) ∨ ∃ (a : Addr) (cap : Nat), v = .slice (some a) ps.length cap ∧ ∀ k (hk : k < ps.length), a.block < w.heap.size ∧ ParAt w a k ps[k]

theorem cell_below {B : Nat} {w w' : World} (h : Below B w w') {a : Addr} (ha : a.block < B) {v : Value} (hc : w.cell? a = some v) : w'.cell? a = some v := by
  rw [← hc]
  simp only [World.cell?]
  rw [h.block a.block ha]
theorem add_block (a : Addr) (i : Nat) : (a.add i).block = a.block := by unfold Addr.add; split <;> rfl
theorem ParAt.below {B : Nat} {w w' : World} {a : Addr} {k : Nat} {p : Par} (h : ParAt w a k p) (hb : Below B w w') (ha : a.block < B) : ParAt w' a k p :=
  ⟨cell_below hb (by rw [add_block]; exact ha) h.1, cell_below hb (by simp only [add_block]; exact ha) h.2.1, cell_below hb (by simp only [add_block]; exact ha) h.2.2⟩
theorem ParsAt.below {w w' : World} {v : Value} {ps : List Par} (h : ParsAt w v ps) (hb : Below w.heap.size w w') : ParsAt w' v ps := by
  rcases h with h | ⟨a, cap, hv, hc⟩
  · exact Or.inl h
  · exact Or.inr ⟨a, cap, hv, fun k hk => ⟨Nat.lt_of_lt_of_le (hc k hk).1 hb.size, (hc k hk).2.below hb (hc k hk).1⟩⟩
theorem ParsAt.form {w : World} {v : Value} {ps : List Par} (h : ParsAt w v ps) : ∃ a cap, v = .slice a ps.length cap := by
  rcases h with ⟨rfl, rfl⟩ | ⟨a, cap, rfl, _⟩
  · exact ⟨none, 0, rfl⟩
  · exact ⟨_, cap, rfl⟩

theorem stoodPar : Tryz.prog.stoodInHeld 59 = false := by kernel_rfl
theorem guardPar : Tryz.prog.eqGuardType Tryz.prog.depth 59 = false := by kernel_rfl
theorem fieldsPar : Tryz.prog.underlying 59 = some (.struct (Tryz.prog.fieldsOf 59)) := by kernel_rfl
theorem listPar : (Tryz.prog.fieldsOf 59).toList.map (fun f => (f.type, f.offset, f.name == "_")) = [(9, 0, false), (9, 1, false), (4, 2, false)] := by kernel_rfl
theorem plainStr : Tryz.prog.plainKey 9 = true := by kernel_rfl
theorem plainBool : Tryz.prog.plainKey 4 = true := by kernel_rfl
theorem neqPar (x y x' y' : ByteArray) (b b' : Bool) (u : World) : (binOp .neq 59 (.agg #[.string x, .string y, .bool b]) (.agg #[.string x', .string y', .bool b'])).run Tryz.prog u = .ok (.bool (!(x.toList == x'.toList && (y.toList == y'.toList && b == b')))) u := by
  rw [run_neq_struct, run_equalIn_agg _ 9999 _ _ _ fieldsPar stoodPar]
  have h := listPar
  generalize (Tryz.prog.fieldsOf 59).toList = fs at h ⊢
  have hlen : fs.length = 3 := by have := congrArg List.length h; simpa using this
  match fs, hlen, h with
  | [f0, f1, f2], _, h =>
    simp only [List.map_cons, List.map_nil, List.cons.injEq, Prod.mk.injEq, and_true, beq_eq_false_iff_ne] at h
    obtain ⟨⟨t0, o0, n0⟩, ⟨t1, o1, n1⟩, t2, o2, n2⟩ := h
    have p0 : ∀ (X Y : ByteArray) (B : Bool) (v : World), (part 9 #[.string X, .string Y, .bool B] 0).run Tryz.prog v = .ok (.string X) v := fun X Y B v => run_part_plain v plainStr rfl
    have p1 : ∀ (X Y : ByteArray) (B : Bool) (v : World), (part 9 #[.string X, .string Y, .bool B] 1).run Tryz.prog v = .ok (.string Y) v := fun X Y B v => run_part_plain v plainStr rfl
    have p2 : ∀ (X Y : ByteArray) (B : Bool) (v : World), (part 4 #[.string X, .string Y, .bool B] 2).run Tryz.prog v = .ok (.bool B) v := fun X Y B v => run_part_plain v plainBool rfl
    have q1 : ∀ (X Y : ByteArray) (v : World), (Op.equalIn 9999 9 (.string X) (.string Y)).run Tryz.prog v = .ok (X.toList == Y.toList) v := fun X Y v => run_equalIn_string v 9998 _ X Y Tryz.underlying9
    have q2 : ∀ (X Y : Bool) (v : World), (Op.equalIn 9999 4 (.bool X) (.bool Y)).run Tryz.prog v = .ok (X == Y) v := fun X Y v => run_equalIn_bool' v 9998 _ X Y Tryz.underlying4
    simp only [Op.eqFields, t0, t1, t2, o0, o1, o2, Sem.run_bind, Sem.run_ite, if_pos n0, if_pos n1, if_pos n2, p0, p1, p2, q1, q2, Result.andThen_ok]
    cases h0 : (x.toList == x'.toList) <;> cases h1 : (y.toList == y'.toList) <;> cases h2 : (b == b') <;> rfl

theorem neqPar_is (p q : Par) (u : World) : (binOp .neq 59 (.agg #[.string ⟨p.name.toArray⟩, .string ⟨p.value.toArray⟩, .bool p.has]) (.agg #[.string ⟨q.name.toArray⟩, .string ⟨q.value.toArray⟩, .bool q.has])).run Tryz.prog u = .ok (.bool (decide (p ≠ q))) u := by
  rw [neqPar]
  congr 2
  obtain ⟨a, b, c⟩ := p
  obtain ⟨a', b', c'⟩ := q
  rw [Bool.eq_iff_iff]
  simp [ByteArray.toList_eq]

set_option maxHeartbeats 1000000 in
theorem lists_len (v1 v2 : Value) (ps qs : List Par) (w : World) (h1 : ParsAt w v1 ps) (h2 : ParsAt w v2 qs) (hne : ¬ ps.length = qs.length) :
    Calls Tryz.prog 12 #[v1, v2] w fun e w' => e = .returned (.bool (decide (ps = qs))) ∧ ∃ q, w' = w.drewN q := by
  have hd : Hid (decide (ps = qs) = false) := show _ = _ by simp; intro e; exact hne (by rw [e])
  obtain ⟨a1, c1, rfl⟩ := h1.form
  obtain ⟨a2, c2, rfl⟩ := h2.form
  have hn : ((ps.length : Int) != (qs.length : Int)) = true := by simp only [bne_iff_ne, ne_eq]; omega
  clear h1 h2 hne
  go_enter Tryz.func12, Tryz.ntmps12
  go_wp2
  go_ret
  exact ⟨ret_bool hd.out.symm, 0, rfl⟩

set_option maxHeartbeats 1000000 in
theorem lists_row (a b : Addr) (c1 c2 : Nat) (ps qs : List Par) (w : World) (hlen : ps.length = qs.length) (hz : ps.length ≤ 140737488355328) (h1 : ∀ k (hk : k < ps.length), ParAt w a k ps[k]) (h2 : ∀ k (hk : k < qs.length), ParAt w b k qs[k]) :
    Calls Tryz.prog 12 #[.slice (some a) ps.length c1, .slice (some b) qs.length c2] w fun e w' => e = .returned (.bool (decide (ps = qs))) ∧ ∃ q, w' = w.drewN q := by
  have H1 : Hid _ := h1; clear h1
  have H2 : Hid _ := h2; clear h2
  obtain ⟨n, hn⟩ : ∃ n, n = ps.length := ⟨_, rfl⟩
  have hn2 : qs.length = n := by omega
  rw [← hn, hn2]
  have HN : Hid _ := hn; have HN2 : Hid _ := hn2
  have hnz : n ≤ 140737488355328 := by omega
  clear hlen hz hn hn2
  go_enter Tryz.func12, Tryz.ntmps12
  go_wp2
  go_loopw [5] (fun i wr => ∃ k q : Nat, k ≤ n ∧ i = .int .i64 k ∧ wr = w.drewN q ∧ Hid (ps.take k = qs.take k)) (fun i _ => n - (intOf i).toNat)
  case atStart => exact ⟨0, 0, by omega, rfl, rfl, rfl⟩
  case round =>
    obtain ⟨k, q, hk, rfl, rfl, heq⟩ := hrel
    by_cases hlt : k < n
    · have k1 : k < ps.length := by have := HN.out; omega
      have k2 : k < qs.length := by have := HN2.out; omega
      obtain ⟨x0, x1, x2⟩ := H1.out k k1
      obtain ⟨y0, y1, y2⟩ := H2.out k k2
      have hg := guardPar
      by_cases hpq : ps[k] = qs[k]
      · have hcmp : ∀ u, (binOp .neq 59 (.agg #[.string ⟨ps[k].name.toArray⟩, .string ⟨ps[k].value.toArray⟩, .bool ps[k].has]) (.agg #[.string ⟨qs[k].name.toArray⟩, .string ⟨qs[k].value.toArray⟩, .bool qs[k].has])).run Tryz.prog u = .ok (.bool false) u := fun u => by
          rw [neqPar_is]; simp [hpq]
        have hnx : Hid (ps.take (k + 1) = qs.take (k + 1)) := show _ = _ by
          rw [List.take_succ_eq_append_getElem k1, List.take_succ_eq_append_getElem k2, heq.out, hpq]
        clear hpq heq
        go_wp2
        go_quiet (fail)
        go_wp2
        go_roundw
        case rel => exact ⟨k + 1, q + nq, by omega, by go_num, rfl, hnx⟩
        case measure => simp [intOf]; omega
      · have hcmp : ∀ u, (binOp .neq 59 (.agg #[.string ⟨ps[k].name.toArray⟩, .string ⟨ps[k].value.toArray⟩, .bool ps[k].has]) (.agg #[.string ⟨qs[k].name.toArray⟩, .string ⟨qs[k].value.toArray⟩, .bool qs[k].has])).run Tryz.prog u = .ok (.bool true) u := fun u => by
          rw [neqPar_is]; simp [hpq]
        have hnx : Hid (decide (ps = qs) = false) := show _ = _ by
          simp only [decide_eq_false_iff_not]
          intro e
          subst e
          exact hpq rfl
        clear hpq heq
        go_wp2
        go_quiet (fail)
        go_wp2
        go_ret
        exact ⟨ret_bool hnx.out.symm, q + nq, by rw [World.drewN_drewN]⟩
    · have hd : Hid (decide (ps = qs) = true) := show _ = _ by
        have h := heq.out
        have e1 := HN.out
        have e2 := HN2.out
        rw [List.take_of_length_le (by omega), List.take_of_length_le (by omega)] at h
        simpa using h
      clear heq
      go_wp2
      go_ret
      exact ⟨ret_bool hd.out.symm, q, rfl⟩

set_option maxHeartbeats 400000 in
theorem lists_nil (a b : Option Addr) (c1 c2 : Nat) (w : World) :
    Calls Tryz.prog 12 #[.slice a 0 c1, .slice b 0 c2] w fun e w' => e = .returned (.bool true) ∧ w' = w := by
  go_enter Tryz.func12, Tryz.ntmps12
  go_wp2
  go_loop [5] (fun i => i = .int .i64 0) (fun i => 0)
  case atStart => rfl
  case round =>
    subst hrel
    go_wp2
    go_ret
    exact ⟨rfl, rfl⟩

theorem lists_any (v1 v2 : Value) (ps qs : List Par) (w : World) (hz : ps.length ≤ 140737488355328) (h1 : ParsAt w v1 ps) (h2 : ParsAt w v2 qs) :
    Calls Tryz.prog 12 #[v1, v2] w fun e w' => e = .returned (.bool (decide (ps = qs))) ∧ ∃ q, w' = w.drewN q := by
  by_cases hlen : ps.length = qs.length
  · by_cases h0 : ps = []
    · have hq : qs = [] := List.eq_nil_of_length_eq_zero (by rw [← hlen, h0]; rfl)
      obtain ⟨a1, c1, rfl⟩ := h1.form
      obtain ⟨a2, c2, rfl⟩ := h2.form
      subst h0 hq
      refine (lists_nil a1 a2 c1 c2 w).mono ?_
      rintro e w' ⟨rfl, rfl⟩
      exact ⟨rfl, 0, rfl⟩
    · have hq : qs ≠ [] := by intro e; apply h0; exact List.eq_nil_of_length_eq_zero (by rw [hlen, e]; rfl)
      rcases h1 with ⟨_, e⟩ | ⟨a, c1, rfl, r1⟩
      · exact absurd e h0
      · rcases h2 with ⟨_, e⟩ | ⟨b, c2, rfl, r2⟩
        · exact absurd e hq
        · exact lists_row a b c1 c2 ps qs w hlen hz (fun k hk => (r1 k hk).2) (fun k hk => (r2 k hk).2)
  · exact lists_len v1 v2 ps qs w h1 h2 hlen

/-- A URI's parts. -/
structure Uri where
  scheme : List UInt8
  user : List UInt8
  host : List UInt8
  port : Int
  params : List Par
  headers : List Par
deriving DecidableEq
def uriV (u : Uri) (p h : Value) : Value := .agg #[.string ⟨u.scheme.toArray⟩, .string ⟨u.user.toArray⟩, .string ⟨u.host.toArray⟩, .int .i64 u.port, p, h]

theorem ParsAt.alloc {w : World} {v : Value} {ps : List Par} (h : ParsAt w v ps) (o : Obj) : ParsAt (w.alloc o) v ps := h.below ((Below.refl _ w).alloc (Nat.le_refl _) o)

set_option maxHeartbeats 1000000 in
theorem usame_any (u v : Uri) (p h p' h' : Value) (w : World) (z1 : u.params.length ≤ 140737488355328) (z2 : u.headers.length ≤ 140737488355328) (h1 : ParsAt w p u.params) (h2 : ParsAt w h u.headers) (h3 : ParsAt w p' v.params) (h4 : ParsAt w h' v.headers) :
    Calls Tryz.prog 52 #[uriV u p h, uriV v p' h'] w fun e w' => e = .returned (.bool (decide (u = v))) ∧ Below w.heap.size w w' := by
  obtain ⟨s, us, ho, po, ps, hs⟩ := u
  obtain ⟨s', us', ho', po', ps', hs'⟩ := v
  simp only at z1 z2 h1 h2 h3 h4
  have hd : Hid (decide (Uri.mk s us ho po ps hs = Uri.mk s' us' ho' po' ps' hs') = (s == s' && (us == us' && (ho == ho' && (po == po' && (decide (ps = ps') && decide (hs = hs'))))))) := show _ = _ by
    rw [Bool.eq_iff_iff]; simp [Uri.mk.injEq]
  unfold uriV
  simp only
  have b2 : ∀ o1 o2, Below w.heap.size w ((w.alloc o1).alloc o2) := fun o1 o2 => ((Below.refl _ w).alloc (Nat.le_refl _) o1).alloc (by simp) o2
  have k1 : ∀ o1 o2, ParsAt ((w.alloc o1).alloc o2) p ps := fun o1 o2 => h1.below (b2 o1 o2)
  have k2 : ∀ o1 o2, ParsAt ((w.alloc o1).alloc o2) h hs := fun o1 o2 => h2.below (b2 o1 o2)
  have k3 : ∀ o1 o2, ParsAt ((w.alloc o1).alloc o2) p' ps' := fun o1 o2 => h3.below (b2 o1 o2)
  have k4 : ∀ o1 o2, ParsAt ((w.alloc o1).alloc o2) h' hs' := fun o1 o2 => h4.below (b2 o1 o2)
  have K1 : Hid _ := k1; have K2 : Hid _ := k2; have K3 : Hid _ := k3; have K4 : Hid _ := k4
  have B2 : Hid _ := b2
  obtain ⟨a1, c1, rfl⟩ := h1.form
  obtain ⟨a2, c2, rfl⟩ := h2.form
  obtain ⟨a3, c3, rfl⟩ := h3.form
  obtain ⟨a4, c4, rfl⟩ := h4.form
  clear k1 k2 k3 k4 b2 h1 h2 h3 h4
  by_cases e1 : s = s'
  · by_cases e2 : us = us'
    · by_cases e3 : ho = ho'
      · by_cases e4 : po = po'
        · subst e1 e2 e3 e4
          go_enter Tryz.func52, Tryz.ntmps52
          go_wp2_with fail
          refine (lists_any _ _ ps ps' _ z1 (K1.out _ _) (K3.out _ _)).mono ?_
          rintro e w1 ⟨rfl, q1, rfl⟩
          by_cases e5 : ps = ps'
          · subst e5
            rw [decide_eq_true rfl]
            go_wp2_with fail
            refine (lists_any _ _ hs hs' _ z2 ((K2.out _ _).below (below_drewN _ q1)) ((K4.out _ _).below (below_drewN _ q1))).mono ?_
            rintro e w2 ⟨rfl, q2, rfl⟩
            go_wp2
            go_ret
            exact ⟨ret_bool (by rw [hd.out]; simp), (B2.out _ _).trans ((below_drewN _ _).mono (B2.out _ _).size)⟩
          · rw [decide_eq_false e5]
            go_wp2
            go_ret
            exact ⟨ret_bool (by rw [hd.out]; simp [e5]), (B2.out _ _).trans ((below_drewN _ _).mono (B2.out _ _).size)⟩
        · go_enter Tryz.func52, Tryz.ntmps52
          go_wp2
          go_ret
          exact ⟨ret_bool (by rw [hd.out]; simp [e4]), B2.out _ _⟩
      · go_enter Tryz.func52, Tryz.ntmps52
        go_wp2
        go_ret
        exact ⟨ret_bool (by rw [hd.out]; simp [e3]), B2.out _ _⟩
    · go_enter Tryz.func52, Tryz.ntmps52
      go_wp2
      go_ret
      exact ⟨ret_bool (by rw [hd.out]; simp [e2]), B2.out _ _⟩
  · go_enter Tryz.func52, Tryz.ntmps52
    go_wp2
    go_ret
    exact ⟨ret_bool (by rw [hd.out]; simp [e1]), B2.out _ _⟩

end Go.Proofs.YtgboekilhldejaaGreatDoor

/-
  Which lists of parameters may be; which URIs. Plain functions.
-/
namespace Go.Proofs.YtgboekilhldejaaGreatDoor
open Go.RowKit Sc
set_option linter.unusedVariables false
set_option maxRecDepth 20000

def parB (p : Par) : Bool := decide (1 ≤ p.name.length) && (decide (p.name.length ≤ 64) && (decide (p.value.length ≤ 64) && (p.has || p.value.isEmpty)))
/-- Each stands alone by its name, as far as small letters tell. -/
def apartB (ps : List Par) (nm : List UInt8) : Bool := ps.all fun q => !sameB q.name nm
def listGo : List Par → List Par → Bool
  | _, [] => true
  | before, p :: ps => parB p && (apartB before p.name && listGo (before ++ [p]) ps)
def listB (ps : List Par) : Bool := decide (ps.length ≤ 16) && listGo [] ps
def checkV (u : Uri) : Int :=
  if schemeB u.scheme = false then 30 else if 64 < u.user.length then 31 else if hostB u.host = false then 32 else if u.port < 0 ∨ 65535 < u.port then 33
  else if listB u.params = false then 34 else if listB u.headers = false then 34 else if u.headers.all (·.has) = false then 34 else 0

theorem listGo_at (ps : List Par) (k : Nat) (hk : k < ps.length) : listGo (ps.take k) (ps.drop k) = (parB ps[k] && (apartB (ps.take k) ps[k].name && listGo (ps.take (k + 1)) (ps.drop (k + 1)))) := by
  rw [List.drop_eq_getElem_cons hk, listGo, List.take_succ_eq_append_getElem hk]

end Go.Proofs.YtgboekilhldejaaGreatDoor

/-
  Contracts of Digits.
-/
namespace Go.Proofs.YtgboekilhldejaaGreatDoor
open Go.RowKit Sc
set_option linter.unusedVariables false
set_option maxRecDepth 20000

def digb (n : Nat) : UInt8 := UInt8.ofNat (48 + n % 10)
/-- The digits of a number. -/
def digL (n : Nat) : List UInt8 := if n < 10 then [digb n] else digL (n / 10) ++ [digb n]
termination_by n
decreasing_by omega
theorem digL_small {n : Nat} (h : n < 10) : digL n = [digb n] := by rw [digL, if_pos h]
theorem digL_big {n : Nat} (h : ¬ n < 10) : digL n = digL (n / 10) ++ [digb n] := by rw [digL, if_neg h]
theorem digb_toNat (n : Nat) : ((digb n).toNat : Int) = 48 + (n : Int) % 10 := by
  have h : n % 10 < 10 := Nat.mod_lt _ (by decide)
  rw [digb, UInt8.toNat_ofNat']
  omega
theorem digL_len (a : Nat) : ∀ n : Nat, n < 10 ^ (a + 1) → (digL n).length ≤ a + 1 := by
  induction a with
  | zero => intro n h; rw [digL_small (by simpa using h)]; simp
  | succ a ih =>
    intro n h
    by_cases hn : n < 10
    · rw [digL_small hn]; simp
    · rw [digL_big hn, List.length_append]
      have := ih (n / 10) (by rw [Nat.pow_succ] at h; omega)
      simp; omega
theorem digL_len19 {n : Nat} (h : n ≤ 9223372036854775807) : (digL n).length ≤ 19 := digL_len 18 n (by omega)

def room0 : Array Value := (List.replicate 19 (.int .u8 0)).toArray
theorem zero49 (u : World) : Sem.run Tryz.prog (zeroValue 116) u = .ok (.agg room0) u := by kernel_rfl
/-- a noughts, then the bytes. -/
def tailed (a : Nat) (l : List UInt8) : List Value := List.replicate a (.int .u8 0) ++ Lib.byteCells l
theorem tailed_len (a : Nat) (l : List UInt8) : (tailed a l).length = a + l.length := by simp [tailed, Lib.byteCells]
theorem tailed_set (a : Nat) (l : List UInt8) (b : UInt8) (ha : 1 ≤ a) : (tailed a l).set (a - 1) (.int .u8 b.toNat) = tailed (a - 1) (b :: l) := by
  obtain ⟨c, rfl⟩ : ∃ c, a = c + 1 := ⟨a - 1, by omega⟩
  have e : c + 1 - 1 = c := by omega
  rw [e, tailed, tailed, List.replicate_succ', List.append_assoc, List.set_append_right _ _ (by simp)]
  simp [Lib.byteCells]
theorem room_row (w : World) : RowIs (w.alloc (.cells room0 116)) w.heap.size 116 (tailed 19 []) := by
  unfold RowIs
  rw [heap_alloc_new]
  rfl

/-- string(row[off:]) -/
theorem conv_row {P : Program} {w : World} {g e e' src dst a cap : Nat} {l : List UInt8} (hs : P.underlying src = some (.slice e)) (he : P.underlying e = some (.int .u8)) (hd : P.underlying dst = some .string)
    (h : RowIs w g e' (tailed a l)) : (convert src dst (.slice (some ⟨g, a, none⟩) l.length cap)).run P w = .ok (.string ⟨l.toArray⟩) w := by
  refine run_convert_bytes_back w src dst e _ cap l hs he hd fun j hj => ?_
  have hc := h.cell (a + j) (by rw [tailed_len]; omega)
  have e1 : (⟨g, a, none⟩ : Addr).add j = ⟨g, a + j, none⟩ := by
    unfold Addr.add
    by_cases h0 : j = 0
    · subst h0; simp
    · simp [h0]
  rw [e1, hc]
  simp [tailed, List.getElem_append_right, Lib.byteCells]

theorem pow_div {m a : Nat} (h : m < 10 ^ a) (ha : 1 ≤ a) : m / 10 < 10 ^ (a - 1) := by
  obtain ⟨c, rfl⟩ : ∃ c, a = c + 1 := ⟨a - 1, by omega⟩
  rw [Nat.pow_succ] at h
  have e : c + 1 - 1 = c := by omega
  rw [e]; omega

theorem und49 : Tryz.prog.underlying 116 = some (.array (Tryz.prog.arrayLen 116) (Tryz.prog.elem 116)) := by kernel_rfl
theorem len49 : Tryz.prog.arrayLen 116 = 19 := by kernel_rfl
theorem elem49 : Tryz.prog.elem 116 = 5 := by kernel_rfl
theorem slice19 (u : World) (B a : Nat) (h1 : 1 ≤ a) (h2 : a ≤ 19) :
    (Instr.sliceAt 116 (.pointer (some ⟨B, 0, none⟩)) (some (.int .i64 ((a : Int) - 1))) none none).run Tryz.prog u = .ok (.slice (some ⟨B, a - 1, none⟩) (19 - (a - 1)) (19 - (a - 1))) u := by
  obtain ⟨i0, hi, hz0, hz1, hz2⟩ := info_parts info5
  have h := run_sliceAt_array_l (P := Tryz.prog) u 116 ⟨B, 0, none⟩ und49 .i64 ((a : Int) - 1) (by omega) (by rw [len49]; omega)
  have e : ((a : Int) - 1).toNat = a - 1 := by omega
  rw [h, elem49, len49, e]
  have hne : ¬ (19 = a - 1) := by omega
  simp [sizeOf, typeInfo, hi, hz1, slicedAt, hne, Addr.add]
  omega

set_option maxHeartbeats 600000 in
theorem digits_any (n : Nat) (w : World) (hn : n ≤ 9223372036854775807) :
    Calls Tryz.prog 67 #[.int .i64 n] w fun e w' => e = .returned (.string ⟨(digL n).toArray⟩) ∧ Below w.heap.size w w' := by
  have hz49 := zero49
  have hr0 : Hid (RowIs (w.alloc (.cells room0 116)) w.heap.size 116 (tailed 19 [])) := room_row w
  have hp0 : Hid (n < 10 ^ 19) := by show _ < _; omega
  go_enter Tryz.func67, Tryz.ntmps67
  go_wp2
  clear hz49
  go_loopw [0, 4] (fun nn at_ wr => ∃ (a m : Nat) (l : List UInt8), 1 ≤ a ∧ a ≤ 19 ∧ m ≤ 9223372036854775807 ∧ at_ = .int .i64 a ∧ nn = .int .i64 m ∧ Hid (m < 10 ^ a) ∧ Hid (a + l.length = 19) ∧
      Hid (RowIs wr w.heap.size 116 (tailed a l)) ∧ Below w.heap.size w wr ∧ Hid (digL n = digL m ++ l)) (fun _ i _ => (intOf i).toNat)
  case atStart => exact ⟨19, n, [], by omega, by omega, hn, rfl, rfl, hp0, rfl, hr0, (Below.refl _ _).alloc (Nat.le_refl _) _, show _ = _ by simp⟩
  case round =>
    clear hr0 hp0
    obtain ⟨a, m, l, ha1, ha2, hm, rfl, rfl, hp, hal, hr, hb, hd⟩ := hrel
    have ht1 : ((a : Int) - 1).toNat = a - 1 := by omega
    obtain ⟨x, hc⟩ : ∃ x, wr.cell? ⟨w.heap.size, a - 1, none⟩ = some x := ⟨_, hr.out.cell (a - 1) (by rw [tailed_len]; omega)⟩
    have hf := hr.out.frozen (a - 1)
    have hr' : Hid (RowIs (wr.setCell ⟨w.heap.size, a - 1, none⟩ (.int .u8 (48 + (m : Int) % 10))) w.heap.size 116 (tailed (a - 1) (digb m :: l))) := by
      have h := hr.out.set (a - 1) (.int .u8 (digb m).toNat)
      rw [tailed_set a l (digb m) ha1, digb_toNat] at h
      exact h
    by_cases hlast : m < 10
    · have hv : Hid (digL n = digb m :: l) := by show _ = _; rw [hd.out, digL_small hlast]; rfl
      have hcv := conv_row (P := Tryz.prog) (cap := (digb m :: l).length) Tryz.underlying92 Tryz.underlying5 Tryz.underlying9 hr'.out
      have hll : (digb m :: l).length = 19 - (a - 1) := by have := hal.out; simp; omega
      rw [hll] at hcv
      have hq : (m : Int) / 10 = 0 := by omega
      have hsl := fun u => slice19 u w.heap.size a ha1 ha2
      clear hll hr hd hp hal
      go_wp2
      go_ret
      exact ⟨by rw [hv.out]; rfl, hb.setCell (Nat.le_refl _) _⟩
    · have hq : (((m : Int) / 10) == 0) = false := by simp; omega
      have hd' : Hid (digL n = digL (m / 10) ++ (digb m :: l)) := by show _ = _; rw [hd.out, digL_big hlast, List.append_assoc]; rfl
      have hp' : Hid (m / 10 < 10 ^ (a - 1)) := pow_div hp.out ha1
      have ha' : 1 ≤ a - 1 := by
        by_cases h1 : a = 1
        · have := hp.out; rw [h1] at this; omega
        · omega
      have hal' : Hid ((a - 1) + (digb m :: l).length = 19) := by show _ = _; have := hal.out; simp; omega
      clear hr hd hp hal
      go_wp2
      go_roundw
      case rel => exact ⟨a - 1, m / 10, digb m :: l, ha', by omega, by omega, by go_num, by go_num, hp', hal', hr', hb.setCell (Nat.le_refl _) _, hd'⟩
      case measure => simp [intOf]; omega

set_option maxHeartbeats 400000 in
theorem digits_neg (n : Int) (w : World) (hn : n < 0) :
    Calls Tryz.prog 67 #[.int .i64 n] w fun e w' => e = .returned (.string ⟨#[]⟩) ∧ w' = w := by
  go_enter Tryz.func67, Tryz.ntmps67
  go_wp2
  go_ret
  exact ⟨rfl, rfl⟩

end Go.Proofs.YtgboekilhldejaaGreatDoor

/-
  The text of a URI. Plain functions.
-/
namespace Go.Proofs.YtgboekilhldejaaGreatDoor
open Go.RowKit Sc
set_option linter.unusedVariables false
set_option maxRecDepth 20000

def usersK : List UInt8 := [38, 61, 43, 36, 44, 59, 63, 47]
def paramsK : List UInt8 := [91, 93, 47, 58, 38, 43, 36]
def headersK : List UInt8 := [91, 93, 47, 63, 58, 43, 36]
def escL (keep l : List UInt8) : List UInt8 := esc (kpF keep) l
def pairV (keep : List UInt8) (p : Par) : List UInt8 := if p.has = true then escL keep p.name ++ [61] ++ escL keep p.value else escL keep p.name
def parsT (ps : List Par) : List UInt8 := ps.flatMap fun p => [59] ++ pairV paramsK p
def hdrT (ps : List Par) : List UInt8 := (ps.zipIdx).flatMap fun (p, i) => (if i = 0 then [63] else [38]) ++ pairV headersK p
def frontT (u : Uri) : List UInt8 := u.scheme ++ [58] ++ (if u.user = [] then [] else escL usersK u.user ++ [64]) ++ u.host ++ (if u.port = 0 then [] else [58] ++ digL u.port.toNat)
def textT (u : Uri) : List UInt8 := frontT u ++ parsT u.params ++ hdrT u.headers
def printV (u : Uri) : List UInt8 × Int := if checkV u = 0 then (textT u, 0) else ([], checkV u)

theorem parsT_snoc {ps : List Par} {k : Nat} (hk : k < ps.length) : parsT (ps.take (k + 1)) = parsT (ps.take k) ++ ([59] ++ pairV paramsK ps[k]) := by
  unfold parsT
  rw [List.take_succ_eq_append_getElem hk, List.flatMap_append]; simp
theorem hdrT_snoc {ps : List Par} {k : Nat} (hk : k < ps.length) : hdrT (ps.take (k + 1)) = hdrT (ps.take k) ++ ((if k = 0 then [63] else [38]) ++ pairV headersK ps[k]) := by
  unfold hdrT
  rw [List.take_succ_eq_append_getElem hk, List.zipIdx_append, List.flatMap_append, List.length_take, Nat.min_eq_left (by omega)]
  simp

end Go.Proofs.YtgboekilhldejaaGreatDoor

/-
  What holds of a URI that may be. Plain facts.
-/
namespace Go.Proofs.YtgboekilhldejaaGreatDoor
open Go.RowKit Sc
set_option linter.unusedVariables false
set_option maxRecDepth 20000

theorem listGo_par (b ps : List Par) (h : listGo b ps = true) : ∀ p ∈ ps, parB p = true := by
  induction ps generalizing b with
  | nil => simp
  | cons q ps ih =>
    rw [listGo, Bool.and_eq_true, Bool.and_eq_true] at h
    intro p hp
    rcases List.mem_cons.1 hp with rfl | hp
    · exact h.1
    · exact ih _ h.2.2 p hp
theorem listB_ok {ps : List Par} (h : listB ps = true) : ps.length ≤ 16 ∧ ∀ p ∈ ps, parB p = true := by
  rw [listB, Bool.and_eq_true] at h
  exact ⟨by simpa using h.1, listGo_par [] ps h.2⟩
theorem parB_ok {p : Par} (h : parB p = true) : 1 ≤ p.name.length ∧ p.name.length ≤ 64 ∧ p.value.length ≤ 64 ∧ (p.has = true ∨ p.value = []) := by
  simp only [parB, Bool.and_eq_true, decide_eq_true_eq, Bool.or_eq_true, List.isEmpty_iff] at h
  exact h
theorem hostB_ok {l : List UInt8} (h : hostB l = true) : 1 ≤ l.length ∧ l.length ≤ 64 := by
  simp only [hostB, Bool.and_eq_true, decide_eq_true_eq] at h
  exact ⟨h.1, h.2.1⟩
theorem schemeB_ok {l : List UInt8} (h : schemeB l = true) : l.length ≤ 4 := by
  simp only [schemeB, Bool.or_eq_true, beq_iff_eq] at h
  rcases h with rfl | rfl | rfl <;> decide
theorem check_ok {u : Uri} (h : checkV u = 0) : schemeB u.scheme = true ∧ u.user.length ≤ 64 ∧ hostB u.host = true ∧ 0 ≤ u.port ∧ u.port ≤ 65535 ∧ listB u.params = true ∧ listB u.headers = true ∧ u.headers.all (·.has) = true := by
  unfold checkV at h
  cases e1 : schemeB u.scheme
  · simp [e1] at h
  rw [e1, if_neg (by simp)] at h
  by_cases e2 : 64 < u.user.length
  · simp [e2] at h
  rw [if_neg e2] at h
  cases e3 : hostB u.host
  · simp [e3] at h
  rw [e3, if_neg (by simp)] at h
  by_cases e4 : u.port < 0 ∨ 65535 < u.port
  · simp [e4] at h
  rw [if_neg e4] at h
  cases e5 : listB u.params
  · simp [e5] at h
  rw [e5, if_neg (by simp)] at h
  cases e6 : listB u.headers
  · simp [e6] at h
  rw [e6, if_neg (by simp)] at h
  cases e7 : u.headers.all (·.has)
  · simp [e7] at h
  exact ⟨rfl, by omega, rfl, by omega, by omega, rfl, rfl, rfl⟩

end Go.Proofs.YtgboekilhldejaaGreatDoor

/-
  Which host and port a text is, as plain functions on lists of bytes.
-/
namespace Go.Proofs.YtgboekilhldejaaGreatDoor
open Go.RowKit Sc
set_option linter.unusedVariables false
set_option maxRecDepth 20000

def insN (ins : Bool) (x : UInt8) : Bool := if x = 93 then false else if x = 91 then true else ins
/-- How many bytes stand ahead of the first colon that is not between [ and ]. -/
def whereGo : Bool → List UInt8 → Nat
  | _, [] => 0
  | ins, x :: l => if ins = false ∧ x = 58 then 0 else 1 + whereGo (insN ins x) l
def portV (host l : List UInt8) (k : Nat) : List UInt8 × Int × Int :=
  if k = l.length then (host, 0, 0)
  else if (numV 65535 (l.drop (k + 1))).2 ≠ 0 ∨ (numV 65535 (l.drop (k + 1))).1 = 0 then ([], 0, 33) else (host, (numV 65535 (l.drop (k + 1))).1, 0)
def whereV (l : List UInt8) : List UInt8 × Int × Int :=
  if hostB (lowL (l.take (whereGo false l))) = true then portV (lowL (l.take (whereGo false l))) l (whereGo false l) else ([], 0, 32)

theorem whereGo_le (b : Bool) (l : List UInt8) : whereGo b l ≤ l.length := by
  induction l generalizing b with
  | nil => simp [whereGo]
  | cons x l ih =>
    rw [whereGo]
    split
    · simp
    · have := ih (insN b x); simp; omega

end Go.Proofs.YtgboekilhldejaaGreatDoor

/-
  What is escaped is unescaped; a number's digits are its. Plain facts.
-/
namespace Go.Proofs.YtgboekilhldejaaGreatDoor
open Go.RowKit Sc
set_option linter.unusedVariables false
set_option maxRecDepth 20000

theorem hexd_hex (n : Nat) (h : n < 16) : isB (hexd n).toNat 4 = true := by
  have hh : ∀ n : Fin 16, isB ((hexd n.val).toNat : Int) 4 = true := by decide +kernel
  exact hh ⟨n, h⟩
theorem hexd_back (b : UInt8) : hxb (hexd (b.toNat / 16)) (hexd (b.toNat % 16)) = b := by
  have hh : ∀ n : Fin 256, hxb (hexd (n.val / 16)) (hexd (n.val % 16)) = UInt8.ofNat n.val := by decide +kernel
  have := hh ⟨b.toNat, b.toNat_lt⟩
  simpa using this
theorem une_esc (keep : List UInt8) : ∀ l : List UInt8, une (esc (kpF keep) l) = some l
  | [] => rfl
  | b :: r => by
    have ih := une_esc keep r
    by_cases hf : free (kpF keep) b = true
    · have h37 : (b.toNat : Int) ≠ 37 := by
        intro e
        have e' : b.toNat = 37 := by omega
        rw [free, kpF, if_pos e', e'] at hf
        exact absurd hf (by decide +kernel)
      rw [esc, if_pos hf]
      show une (b :: esc (kpF keep) r) = _
      rw [une_plain h37, ih]; rfl
    · rw [esc, if_neg hf]
      show une (37 :: hexd (b.toNat / 16) :: hexd (b.toNat % 16) :: esc (kpF keep) r) = _
      have := b.toNat_lt
      rw [une_hex (by decide) (hexd_hex _ (by omega)) (hexd_hex _ (Nat.mod_lt _ (by decide))), ih, hexd_back]; rfl

theorem numL_append (most : Int) : ∀ (a b : List UInt8) (n : Int), numL most n (a ++ b) = (numL most n a).bind fun x => numL most x b
  | [], b, n => rfl
  | c :: a, b, n => by
    simp only [List.cons_append, numL]
    split
    · rfl
    · exact numL_append most a b _
theorem numL_digits (k : Nat) : ∀ (m most : Nat), m ≤ k → m ≤ most → numL most 0 (digL m) = some (m : Int) := by
  induction k with
  | zero =>
    intro m most hk hm
    have h0 : m = 0 := by omega
    subst h0
    rw [digL_small (by omega), numL, if_neg (by rw [digb_toNat]; omega), numL, digb_toNat]
    congr 1
  | succ k ih =>
    intro m most hk hm
    by_cases h : m < 10
    · rw [digL_small h, numL, if_neg (by rw [digb_toNat]; omega), numL, digb_toNat]
      congr 1
      omega
    · rw [digL_big h, numL_append, ih (m / 10) most (by omega) (by omega)]
      show numL (most : Int) ((m / 10 : Nat) : Int) [digb m] = _
      rw [numL, if_neg (by rw [digb_toNat]; omega), numL, digb_toNat]
      congr 1
      omega
theorem digits_all (k : Nat) : ∀ m : Nat, m ≤ k → allB 1 (digL m) = true := by
  have hd : ∀ m, isB (digb m).toNat 1 = true := by
    intro m
    have hb := u8_bd (digb m)
    rw [isB_digit _ hb.1 hb.2, digb_toNat]
    simp
    omega
  induction k with
  | zero => intro m hm; rw [digL_small (by omega)]; simp [allB, hd]
  | succ k ih =>
    intro m hm
    by_cases h : m < 10
    · rw [digL_small h]; simp [allB, hd]
    · rw [digL_big h, allB_snoc, ih (m / 10) (by omega), hd]; rfl
theorem digits_ne (m : Nat) : digL m ≠ [] := by
  by_cases h : m < 10
  · rw [digL_small h]; simp
  · rw [digL_big h]; simp
theorem back_num (n : Nat) : numV n (digL n) = ((n : Int), 0) := by
  rw [numV, if_neg (by simp [digits_ne, digits_all n n (Nat.le_refl _)]), numL_digits n n n (Nat.le_refl _) (Nat.le_refl _)]


end Go.Proofs.YtgboekilhldejaaGreatDoor

/-
  Which URI a text is. Plain functions.
-/
namespace Go.Proofs.YtgboekilhldejaaGreatDoor
open Go.RowKit Sc
set_option linter.unusedVariables false
set_option maxRecDepth 20000

def noU : Uri := ⟨[], [], [], 0, [], []⟩
def userV (s : List UInt8) : List UInt8 × List UInt8 × Int :=
  if (cutL 64 s).2.2 = true then
    (if (writtenV usersK (cutL 64 s).1).2 = false ∨ (writtenV usersK (cutL 64 s).1).1 = [] ∨ 64 < (writtenV usersK (cutL 64 s).1).1.length then ([], [], 31)
     else ((writtenV usersK (cutL 64 s).1).1, (cutL 64 s).2.1, 0))
  else ([], s, 0)
def headsV (asked : Bool) (back : List UInt8) : Option (List Par) := if asked = true then parsOf headersK (splitL 38 back) else some []
def fillV (w : List UInt8 × Int × Int) : Option (List Par) → Option (List Par) → Uri × Int
  | some ps, some hs => (⟨[], [], w.1, w.2.1, ps, hs⟩, 0)
  | _, _ => (noU, 34)
def restV (s : List UInt8) : Uri × Int :=
  if (whereV ((splitL 59 (cutL 63 s).1).headD [])).2.2 ≠ 0 then (noU, (whereV ((splitL 59 (cutL 63 s).1).headD [])).2.2)
  else fillV (whereV ((splitL 59 (cutL 63 s).1).headD [])) (parsOf paramsK (splitL 59 (cutL 63 s).1).tail) (headsV (cutL 63 s).2.2 (cutL 63 s).2.1)
def endV (u : Uri) : Uri × Int := if checkV u ≠ 0 then (noU, checkV u) else (u, 0)
def bothV (sch us : List UInt8) (r : Uri × Int) : Uri × Int := if r.2 ≠ 0 then (noU, r.2) else endV { r.1 with scheme := sch, user := us }
def parseV (s : List UInt8) : Uri × Int :=
  if (cutL 58 s).2.2 = false ∨ schemeB (lowL (cutL 58 s).1) = false then (noU, 30)
  else if (userV (cutL 58 s).2.1).2.2 ≠ 0 then (noU, (userV (cutL 58 s).2.1).2.2)
  else bothV (lowL (cutL 58 s).1) (userV (cutL 58 s).2.1).1 (restV (userV (cutL 58 s).2.1).2.1)

/-- The signs that an escaped text can have. -/
theorem esc_free (kp : Nat → Bool) : ∀ (l : List UInt8), ∀ b ∈ esc kp l, b = 37 ∨ isB b.toNat 16 = true ∨ kp b.toNat = true
  | [], b, h => by simp [esc] at h
  | x :: r, b, h => by
    have ih := esc_free kp r b
    rw [esc] at h
    by_cases hf : free kp x = true
    · rw [if_pos hf] at h
      rcases List.mem_append.1 h with h | h
      · have : b = x := by simpa using h
        subst this
        right; simpa [free] using hf
      · exact ih h
    · rw [if_neg hf] at h
      have hx : ∀ n : Fin 16, isB ((hexd n.val).toNat : Int) 16 = true := by decide +kernel
      rcases List.mem_append.1 h with h | h
      · simp only [List.mem_cons, List.not_mem_nil, or_false] at h
        have := x.toNat_lt
        rcases h with rfl | rfl | rfl
        · exact .inl rfl
        · exact .inr (.inl (hx ⟨x.toNat / 16, by omega⟩))
        · exact .inr (.inl (hx ⟨x.toNat % 16, Nat.mod_lt _ (by decide)⟩))
      · exact ih h
theorem inK_mem (keep : List UInt8) (b : UInt8) : inK keep b.toNat = hasL b keep := by
  unfold inK hasL
  induction keep with
  | nil => rfl
  | cons x l ih =>
    simp only [List.any_cons, List.contains_cons, ih]
    congr 1
    rw [Bool.eq_iff_iff]
    simp only [beq_iff_eq]
    constructor
    · intro h; exact (UInt8.toNat_inj.1 h).symm
    · intro h; rw [h]
theorem escL_ok (keep l : List UInt8) : ∀ b ∈ escL keep l, okw keep b = true := by
  intro b hb
  rcases esc_free _ l b hb with h | h | h
  · simp [okw, h]
  · simp [okw, h]
  · unfold kpF at h
    by_cases e : b.toNat = 37
    · rw [if_pos e] at h; simp at h
    · rw [if_neg e, inK_mem] at h
      simp [okw, h]
theorem written_esc (keep l : List UInt8) : writtenV keep (escL keep l) = (l, true) := by
  rw [written_all (by rw [List.all_eq_true]; exact escL_ok keep l), escL, unescV_some (une_esc keep l)]; rfl
theorem escL_not {keep l : List UInt8} {c : UInt8} (h : okw keep c = false) : c ∉ escL keep l := by
  intro hc; rw [escL_ok keep l c hc] at h; cases h
theorem escL_ne {keep l : List UInt8} (h : l ≠ []) : escL keep l ≠ [] := by
  intro e
  have := une_esc keep l
  rw [escL] at e
  rw [e] at this
  simp [une] at this
  exact h this

/-- A parameter's text is read as it was. -/
theorem par_back {keep : List UInt8} {p : Par} (h61 : okw keep 61 = false) (hp : parB p = true) : parOf keep (pairV keep p) = some p := by
  obtain ⟨h1, h2, h3, h4⟩ := parB_ok hp
  unfold parOf pairV
  cases hh : p.has
  · have hv : p.value = [] := by rcases h4 with h | h; · rw [hh] at h; cases h
                                 · exact h
    simp only [Bool.false_eq_true, if_false]
    rw [cutL_miss (escL_not h61)]
    have e0 : writtenV keep [] = ([], true) := by rfl
    simp only [written_esc, e0, and_self, if_true]
    cases p; simp_all
  · simp only [if_true]
    rw [List.append_assoc, List.singleton_append, cutL_hit (escL_not h61)]
    simp only [written_esc, and_self, if_true]
    cases p; simp_all

theorem splitL_miss {c : UInt8} {a : List UInt8} (h : c ∉ a) : splitL c a = [a] := by
  rw [splitL_cut, cutL_miss h]; simp
theorem splitL_hit {c : UInt8} {a b : List UInt8} (h : c ∉ a) : splitL c (a ++ c :: b) = a :: splitL c b := by
  rw [splitL_cut, cutL_hit h]; simp
/-- Texts with a sign ahead of each are parted at the sign. -/
theorem splitL_many {c : UInt8} {a : List UInt8} (h : c ∉ a) (ls : List (List UInt8)) (hl : ∀ l ∈ ls, c ∉ l) : splitL c (a ++ ls.flatMap fun l => [c] ++ l) = a :: ls := by
  induction ls generalizing a with
  | nil => simp [splitL_miss h]
  | cons l ls ih =>
    rw [List.flatMap_cons, List.append_assoc, List.singleton_append, splitL_hit h, ih (hl l (by simp)) (fun x hx => hl x (by simp [hx]))]
theorem parsT_eq (ps : List Par) : parsT ps = (ps.map (pairV paramsK)).flatMap fun l => [59] ++ l := by
  rw [parsT, List.flatMap_map]
theorem pars_back {keep : List UInt8} (h61 : okw keep 61 = false) (ps : List Par) (hp : ∀ p ∈ ps, parB p = true) : parsOf keep (ps.map (pairV keep)) = some ps := by
  induction ps with
  | nil => rfl
  | cons p ps ih =>
    rw [List.map_cons, parsOf, par_back h61 (hp p (by simp)), ih (fun q hq => hp q (by simp [hq]))]
theorem hdrT_cons (p : Par) (ps : List Par) : hdrT (p :: ps) = 63 :: (pairV headersK p ++ (ps.map (pairV headersK)).flatMap fun l => [38] ++ l) := by
  have key : ∀ (n : Nat) (qs : List Par), ((qs.zipIdx (n + 1)).flatMap fun (p, i) => (if i = 0 then ([63] : List UInt8) else [38]) ++ pairV headersK p) = (qs.map (pairV headersK)).flatMap fun l => [38] ++ l := by
    intro n qs
    induction qs generalizing n with
    | nil => rfl
    | cons q qs ih =>
      rw [List.zipIdx_cons, List.flatMap_cons, ih (n + 1), List.map_cons, List.flatMap_cons]
      simp
  rw [hdrT, List.zipIdx_cons, List.flatMap_cons, key 0]
  simp
theorem pairV_mem {keep : List UInt8} {p : Par} {b : UInt8} (h : b ∈ pairV keep p) : b = 61 ∨ okw keep b = true := by
  unfold pairV at h
  split at h
  · simp only [List.mem_append, List.mem_singleton] at h
    rcases h with (h | h) | h
    · exact .inr (escL_ok _ _ _ h)
    · exact .inl h
    · exact .inr (escL_ok _ _ _ h)
  · exact .inr (escL_ok _ _ _ h)
theorem pairV_not {keep : List UInt8} {p : Par} {c : UInt8} (h1 : c ≠ 61) (h2 : okw keep c = false) : c ∉ pairV keep p := by
  intro h
  rcases pairV_mem h with h | h
  · exact h1 h
  · rw [h2] at h; cases h
theorem parsT_mem {ps : List Par} {b : UInt8} (h : b ∈ parsT ps) : b = 59 ∨ b = 61 ∨ okw paramsK b = true := by
  unfold parsT at h
  rw [List.mem_flatMap] at h
  obtain ⟨p, _, hb⟩ := h
  simp only [List.mem_append, List.mem_singleton] at hb
  rcases hb with h | h
  · exact .inl h
  · exact .inr (pairV_mem h)
theorem hdrT_mem {ps : List Par} {b : UInt8} (h : b ∈ hdrT ps) : b = 63 ∨ b = 38 ∨ b = 61 ∨ okw headersK b = true := by
  unfold hdrT at h
  rw [List.mem_flatMap] at h
  obtain ⟨⟨p, i⟩, _, hb⟩ := h
  simp only [List.mem_append] at hb
  rcases hb with h | h
  · split at h
    · exact .inl (by simpa using h)
    · exact .inr (.inl (by simpa using h))
  · exact .inr (.inr (pairV_mem h))

end Go.Proofs.YtgboekilhldejaaGreatDoor

/-
  What is printed is parsed as it was, in whatever letters scheme and host stand. Plain facts.
-/
namespace Go.Proofs.YtgboekilhldejaaGreatDoor
open Go.RowKit Sc
set_option linter.unusedVariables false
set_option maxRecDepth 20000

def passB : Bool → List UInt8 → Bool
  | _, [] => true
  | ins, x :: l => !(!ins && x == 58) && passB (insN ins x) l
theorem whereGo_pass (ins : Bool) (a r : List UInt8) (h : passB ins a = true) : whereGo ins (a ++ r) = a.length + whereGo (a.foldl insN ins) r := by
  induction a generalizing ins with
  | nil => simp
  | cons x a ih =>
    rw [passB, Bool.and_eq_true] at h
    rw [List.cons_append, whereGo, if_neg (by rintro ⟨e1, e2⟩; simp [e1, e2] at h), ih _ h.2, List.foldl_cons, List.length_cons]; omega
theorem lowb_at {c : UInt8} (x : UInt8) (hc : ¬ (97 ≤ c.toNat ∧ c.toNat ≤ 122)) (hc2 : ¬ (65 ≤ c.toNat ∧ c.toNat ≤ 90)) : lowb x = c ↔ x = c := by
  unfold lowb
  have hx := x.toNat_lt
  split
  · rename_i h
    have e : (x + 32).toNat = x.toNat + 32 := by rw [UInt8.toNat_add]; show (x.toNat + 32) % 256 = _; omega
    constructor
    · intro h2; rw [← h2, e] at hc; omega
    · intro h2; rw [← h2] at hc2; omega
  · rfl
theorem insN_low (ins : Bool) (x : UInt8) : insN ins (lowb x) = insN ins x := by
  unfold insN
  simp only [lowb_at x (c := 93) (by decide) (by decide), lowb_at x (c := 91) (by decide) (by decide)]
theorem passB_low (ins : Bool) (l : List UInt8) : passB ins (lowL l) = passB ins l := by
  induction l generalizing ins with
  | nil => rfl
  | cons x l ih =>
    have e : (lowb x == 58) = (x == 58) := by
      rw [Bool.eq_iff_iff]; simp only [beq_iff_eq]; exact lowb_at x (by decide) (by decide)
    show passB ins (lowb x :: lowL l) = _
    rw [passB, passB, insN_low, ih, e]
theorem fold_low (ins : Bool) (l : List UInt8) : (lowL l).foldl insN ins = l.foldl insN ins := by
  induction l generalizing ins with
  | nil => rfl
  | cons x l ih =>
    show (lowb x :: lowL l).foldl insN ins = _
    rw [List.foldl_cons, List.foldl_cons, insN_low, ih]
theorem lowL_mem {c : UInt8} {l : List UInt8} (hc : ¬ (97 ≤ c.toNat ∧ c.toNat ≤ 122)) (hc2 : ¬ (65 ≤ c.toNat ∧ c.toNat ≤ 90)) : c ∈ lowL l ↔ c ∈ l := by
  unfold lowL
  rw [List.mem_map]
  constructor
  · rintro ⟨x, hx, e⟩; rw [lowb_at x hc hc2] at e; exact e ▸ hx
  · intro h; exact ⟨c, h, (lowb_at c hc hc2).2 rfl⟩
theorem splitL_mem {c b : UInt8} {l : List UInt8} (h : b ∈ l) : b = c ∨ ∃ p ∈ splitL c l, b ∈ p := by
  induction l with
  | nil => simp at h
  | cons x l ih =>
    obtain ⟨p, ps, hp⟩ := splitL_cons c l
    rw [splitL]
    by_cases hx : x = c
    · rw [if_pos hx]
      rcases List.mem_cons.1 h with h | h
      · exact .inl (h.trans hx)
      · rcases ih h with h | ⟨q, hq, hb⟩
        · exact .inl h
        · exact .inr ⟨q, by simp [hq], hb⟩
    · rw [if_neg hx]
      rw [hp] at ih ⊢
      simp only [List.headD_cons, List.tail_cons]
      rcases List.mem_cons.1 h with h | h
      · exact .inr ⟨x :: p, by simp, by simp [h]⟩
      · rcases ih h with h | ⟨q, hq, hb⟩
        · exact .inl h
        · rcases List.mem_cons.1 hq with h | h
          · exact .inr ⟨x :: p, by simp, by simp [← h, hb]⟩
          · exact .inr ⟨q, by simp [h], hb⟩
theorem byte_all {P : UInt8 → Prop} (h : ∀ n : Fin 256, P (UInt8.ofNat n.val)) (b : UInt8) : P b := by
  have := h ⟨b.toNat, b.toNat_lt⟩
  simpa using this

/-- The bytes that a host can have. -/
def hob (b : UInt8) : Bool := b == 91 || (b == 93 || (okc b || isB b.toNat 64))
theorem pass_plain (ins : Bool) (l : List UInt8) (h : ∀ b ∈ l, b ≠ 58 ∧ b ≠ 91 ∧ b ≠ 93) : passB ins l = true ∧ l.foldl insN ins = ins := by
  induction l generalizing ins with
  | nil => exact ⟨rfl, rfl⟩
  | cons x l ih =>
    obtain ⟨h1, h2, h3⟩ := h x (by simp)
    have e : insN ins x = ins := by unfold insN; rw [if_neg h3, if_neg h2]
    have := ih ins (fun b hb => h b (by simp [hb]))
    refine ⟨?_, ?_⟩
    · rw [passB, e, this.1]; simp [h1]
    · rw [List.foldl_cons, e, this.2]
theorem pass_in (l : List UInt8) (h : ∀ b ∈ l, b ≠ 91 ∧ b ≠ 93) : passB true l = true ∧ l.foldl insN true = true := by
  induction l with
  | nil => exact ⟨rfl, rfl⟩
  | cons x l ih =>
    obtain ⟨h2, h3⟩ := h x (by simp)
    have e : insN true x = true := by unfold insN; rw [if_neg h3, if_neg h2]
    have := ih (fun b hb => h b (by simp [hb]))
    refine ⟨?_, ?_⟩
    · rw [passB, e, this.1]; simp
    · rw [List.foldl_cons, e, this.2]
theorem passB_append (ins : Bool) (a b : List UInt8) : passB ins (a ++ b) = (passB ins a && passB (a.foldl insN ins) b) := by
  induction a generalizing ins with
  | nil => simp [passB]
  | cons x a ih => rw [List.cons_append, passB, passB, ih, List.foldl_cons, Bool.and_assoc]
theorem ends_of {l : List UInt8} (h : 2 ≤ l.length) : l = l.getD 0 0 :: (mid l 1 (l.length - 1) ++ [l.getD (l.length - 1) 0]) := by
  cases l with
  | nil => simp at h
  | cons x l =>
    have hne : l ≠ [] := by intro e; subst e; simp at h
    have e1 : mid (x :: l) 1 ((x :: l).length - 1) = l.dropLast := by
      unfold mid; rw [List.dropLast_eq_take]; simp
    rw [e1]
    have e2 : (x :: l).getD ((x :: l).length - 1) 0 = l.getLast hne := by
      rw [List.getLast_eq_getElem, List.getD_eq_getElem?_getD]
      have hl : 0 < l.length := List.length_pos_iff.2 hne
      have : (x :: l).length - 1 = (l.length - 1) + 1 := by simp; omega
      rw [this, List.getElem?_cons_succ, List.getElem?_eq_getElem (by omega)]; rfl
    rw [e2, List.dropLast_concat_getLast hne]; rfl
theorem host_facts {l : List UInt8} (h : hostB l = true) : (∀ b ∈ l, hob b = true) ∧ passB false l = true ∧ l.foldl insN false = false ∧ lowL l = l := by
  have hok := hostB_ok h
  simp only [hostB, Bool.and_eq_true, decide_eq_true_eq, beq_iff_eq] at h
  obtain ⟨h1, h2, h3, h4⟩ := h
  by_cases hb : l.getD 0 0 = 91
  · rw [if_pos hb] at h4
    simp only [brkB, Bool.and_eq_true, decide_eq_true_eq, beq_iff_eq] at h4
    obtain ⟨h5, h6, h7, h8⟩ := h4
    have e := ends_of (l := l) (by omega)
    rw [hb, h6] at e
    generalize mid l 1 (l.length - 1) = m at e h7
    have hm : ∀ b ∈ m, okc b = true := by rwa [List.all_eq_true] at h7
    have hno : ∀ b : UInt8, okc b = true → b ≠ 91 ∧ b ≠ 93 := by
      apply byte_all; decide +kernel
    have hp := pass_in m (fun b hbm => hno b (hm b hbm))
    refine ⟨?_, ?_, ?_, h3⟩
    · rw [e]
      intro b hbm
      simp only [List.mem_cons, List.mem_append, List.not_mem_nil, or_false] at hbm
      rcases hbm with rfl | hbm | rfl
      · rfl
      · simp [hob, hm b hbm]
      · rfl
    · rw [e, passB, passB_append]
      show (_ && (passB true m && passB (m.foldl insN true) [93])) = true
      rw [hp.1, hp.2]; rfl
    · rw [e, List.foldl_cons, List.foldl_append]
      show ([93] : List UInt8).foldl insN (m.foldl insN true) = false
      rw [hp.2]; rfl
  · rw [if_neg hb] at h4
    rw [List.all_eq_true] at h4
    have hall : ∀ b ∈ l, b = 46 ∨ isB b.toNat 64 = true := by
      intro b hbm
      rcases splitL_mem (c := 46) hbm with h | ⟨p, hp, hbp⟩
      · exact .inl h
      · right
        have := h4 p hp
        simp only [labB, Bool.and_eq_true, allB, List.all_eq_true] at this
        exact this.2.1 b hbp
    have hno : ∀ b : UInt8, (b = 46 ∨ isB b.toNat 64 = true) → b ≠ 58 ∧ b ≠ 91 ∧ b ≠ 93 := by
      apply byte_all; decide +kernel
    have hp := pass_plain false l (fun b hbm => hno b (hall b hbm))
    refine ⟨?_, hp.1, hp.2, h3⟩
    intro b hbm
    rcases hall b hbm with rfl | h
    · rfl
    · simp [hob, h]

def portT (n : Int) : List UInt8 := if n = 0 then [] else [58] ++ digL n.toNat
theorem digL_mem {n : Nat} {b : UInt8} (h : b ∈ digL n) : isB b.toNat 1 = true := by
  have := digits_all n n (Nat.le_refl _)
  rw [allB, List.all_eq_true] at this
  exact this b h
theorem where_back {h : List UInt8} {n : Int} (hh : hostB (lowL h) = true) (h0 : 0 ≤ n) (h1 : n ≤ 65535) : whereV (h ++ portT n) = (lowL h, n, 0) := by
  obtain ⟨_, hp, hf, _⟩ := host_facts hh
  rw [passB_low] at hp
  rw [fold_low] at hf
  unfold portT
  by_cases hn : n = 0
  · subst hn
    have e : whereGo false h = h.length := by
      have := whereGo_pass false h [] hp
      rw [List.append_nil] at this
      rw [this]; simp [whereGo]
    rw [if_pos rfl, List.append_nil, whereV, e, List.take_length, if_pos hh, portV, if_pos rfl]
  · rw [if_neg hn]
    have e : whereGo false (h ++ ([58] ++ digL n.toNat)) = h.length := by
      rw [whereGo_pass false h _ hp, hf]; simp [whereGo]
    have hnum : numV 65535 (digL n.toNat) = (n, 0) := by
      have := numL_digits n.toNat n.toNat 65535 (Nat.le_refl _) (by omega)
      rw [numV, if_neg (by simp [digits_ne, digits_all n.toNat n.toNat (Nat.le_refl _)])]
      have e2 : ((65535 : Nat) : Int) = 65535 := rfl
      rw [← e2, this]
      have : ((n.toNat : Nat) : Int) = n := by omega
      simp [this]
    have ed : (h ++ ([58] ++ digL n.toNat)).drop (h.length + 1) = digL n.toNat := by
      rw [List.drop_append, List.drop_eq_nil_of_le (by omega)]; simp
    rw [whereV, e, List.take_left, if_pos hh, portV, ed, hnum, if_neg (by simp), if_neg (by simp [hn])]

theorem not_of_low {c : UInt8} {l m : List UInt8} (e : lowL l = m) (hc : ¬ (97 ≤ c.toNat ∧ c.toNat ≤ 122)) (hc2 : ¬ (65 ≤ c.toNat ∧ c.toNat ≤ 90)) (h : c ∉ m) : c ∉ l := by
  rw [← lowL_mem hc hc2, e]; exact h
theorem host_not {c : UInt8} {l : List UInt8} (h : hostB l = true) (hc : hob c = false) : c ∉ l := by
  intro hm; rw [(host_facts h).1 c hm] at hc; cases hc
theorem scheme_not {l : List UInt8} (h : schemeB l = true) : (58 : UInt8) ∉ l ∧ lowL l = l := by
  simp only [schemeB, Bool.or_eq_true, beq_iff_eq] at h
  rcases h with rfl | rfl | rfl <;> exact ⟨by decide, by decide⟩
theorem portT_not {n : Int} {c : UInt8} (h58 : c ≠ 58) (hd : isB c.toNat 1 = false) : c ∉ portT n := by
  unfold portT
  split
  · simp
  · intro h
    rw [List.singleton_append, List.mem_cons] at h
    rcases h with h | h
    · exact h58 h
    · rw [digL_mem h] at hd; cases hd
theorem parsT_not {ps : List Par} {c : UInt8} (h1 : c ≠ 59) (h2 : c ≠ 61) (h : okw paramsK c = false) : c ∉ parsT ps := by
  intro hm
  rcases parsT_mem hm with e | e | e
  · exact h1 e
  · exact h2 e
  · rw [h] at e; cases e
theorem hdrT_not {ps : List Par} {c : UInt8} (h0 : c ≠ 63) (h1 : c ≠ 38) (h2 : c ≠ 61) (h : okw headersK c = false) : c ∉ hdrT ps := by
  intro hm
  rcases hdrT_mem hm with e | e | e | e
  · exact h0 e
  · exact h1 e
  · exact h2 e
  · rw [h] at e; cases e

theorem rest_back {h : List UInt8} {n : Int} {ps hs : List Par} (hh : hostB (lowL h) = true) (h0 : 0 ≤ n) (h1 : n ≤ 65535) (hp : listB ps = true) (hq : listB hs = true) :
    restV (h ++ portT n ++ parsT ps ++ hdrT hs) = (⟨[], [], lowL h, n, ps, hs⟩, 0) := by
  have hps := (listB_ok hp).2
  have hqs := (listB_ok hq).2
  have a59 : (59 : UInt8) ∉ h ++ portT n := by
    rw [List.mem_append, not_or]
    exact ⟨not_of_low rfl (by decide) (by decide) (host_not hh (by decide +kernel)), portT_not (by decide) (by decide +kernel)⟩
  have a63 : (63 : UInt8) ∉ h ++ portT n ++ parsT ps := by
    rw [List.mem_append, List.mem_append, not_or, not_or]
    exact ⟨⟨not_of_low rfl (by decide) (by decide) (host_not hh (by decide +kernel)), portT_not (by decide) (by decide +kernel)⟩, parsT_not (by decide) (by decide) (by decide +kernel)⟩
  have hsp : splitL 59 (h ++ portT n ++ parsT ps) = (h ++ portT n) :: ps.map (pairV paramsK) := by
    rw [parsT_eq]
    apply splitL_many a59
    intro l hl
    obtain ⟨p, _, rfl⟩ := List.mem_map.1 hl
    exact pairV_not (by decide) (by decide +kernel)
  have hw := where_back hh h0 h1
  have hpp := pars_back (keep := paramsK) (by decide +kernel) ps hps
  cases hs with
  | nil =>
    have e : hdrT [] = [] := rfl
    rw [e, List.append_nil, restV, cutL_miss a63]
    simp only [hsp, List.headD_cons, List.tail_cons, hw, hpp]
    rfl
  | cons q qs =>
    have hcut : cutL 63 (h ++ portT n ++ parsT ps ++ hdrT (q :: qs)) = (h ++ portT n ++ parsT ps, pairV headersK q ++ (qs.map (pairV headersK)).flatMap fun l => [38] ++ l, true) := by
      rw [hdrT_cons, cutL_hit a63]
    have hsq : splitL 38 (pairV headersK q ++ (qs.map (pairV headersK)).flatMap fun l => [38] ++ l) = (q :: qs).map (pairV headersK) := by
      rw [splitL_many]
      · rfl
      · exact pairV_not (by decide) (by decide +kernel)
      · intro l hl
        obtain ⟨p, _, rfl⟩ := List.mem_map.1 hl
        exact pairV_not (by decide) (by decide +kernel)
    have hqq := pars_back (keep := headersK) (by decide +kernel) (q :: qs) hqs
    rw [restV, hcut]
    simp only [hsp, List.headD_cons, List.tail_cons, hw, hpp, headsV, if_true, hsq, hqq]
    rfl

def userT (l : List UInt8) : List UInt8 := if l = [] then [] else escL usersK l ++ [64]
theorem parse_of {u : Uri} {sch h : List UInt8} (hc : checkV u = 0) (e1 : lowL sch = u.scheme) (e2 : lowL h = u.host) :
    parseV (sch ++ [58] ++ userT u.user ++ h ++ portT u.port ++ parsT u.params ++ hdrT u.headers) = (u, 0) := by
  obtain ⟨c1, c2, c3, c4, c5, c6, c7, c8⟩ := check_ok hc
  have hh : hostB (lowL h) = true := by rw [e2]; exact c3
  have hrest := rest_back (h := h) hh c4 c5 c6 c7
  have a58 : (58 : UInt8) ∉ sch := not_of_low e1 (by decide) (by decide) (scheme_not c1).1
  have hcut : cutL 58 (sch ++ [58] ++ userT u.user ++ h ++ portT u.port ++ parsT u.params ++ hdrT u.headers) = (sch, userT u.user ++ (h ++ portT u.port ++ parsT u.params ++ hdrT u.headers), true) := by
    have : sch ++ [58] ++ userT u.user ++ h ++ portT u.port ++ parsT u.params ++ hdrT u.headers = sch ++ 58 :: (userT u.user ++ (h ++ portT u.port ++ parsT u.params ++ hdrT u.headers)) := by simp
    rw [this, cutL_hit a58]
  have huser : userV (userT u.user ++ (h ++ portT u.port ++ parsT u.params ++ hdrT u.headers)) = (u.user, h ++ portT u.port ++ parsT u.params ++ hdrT u.headers, 0) := by
    by_cases hu : u.user = []
    · have a64 : (64 : UInt8) ∉ h ++ portT u.port ++ parsT u.params ++ hdrT u.headers := by
        simp only [List.mem_append, not_or]
        exact ⟨⟨⟨not_of_low rfl (by decide) (by decide) (host_not hh (by decide +kernel)), portT_not (by decide) (by decide +kernel)⟩, parsT_not (by decide) (by decide) (by decide +kernel)⟩, hdrT_not (by decide) (by decide) (by decide) (by decide +kernel)⟩
      rw [userT, if_pos hu, List.nil_append, userV, cutL_miss a64, if_neg (by simp), hu]
    · rw [userT, if_neg hu, List.append_assoc, List.singleton_append, userV, cutL_hit (escL_not (by decide +kernel))]
      simp only [if_true, written_esc]
      rw [if_neg (by simp [hu]; omega)]
  rw [parseV, hcut]
  simp only [e1, c1, huser, hrest]
  rw [if_neg (by simp), if_neg (by simp), bothV, if_neg (by simp), endV]
  have : ({ (⟨[], [], lowL h, u.port, u.params, u.headers⟩ : Uri) with scheme := u.scheme, user := u.user } : Uri) = u := by
    cases u; simp only at e2 ⊢; rw [e2]
  rw [this, if_neg (by simp [hc])]
theorem parse_text {u : Uri} (hc : checkV u = 0) : parseV (textT u) = (u, 0) := by
  obtain ⟨c1, c2, c3, c4, c5, c6, c7, c8⟩ := check_ok hc
  have := parse_of hc (scheme_not c1).2 (host_facts c3).2.2.2
  have e : textT u = u.scheme ++ [58] ++ userT u.user ++ u.host ++ portT u.port ++ parsT u.params ++ hdrT u.headers := rfl
  rw [e, this]
theorem parse_checked {s : List UInt8} {u : Uri} (h : parseV s = (u, 0)) : checkV u = 0 := by
  unfold parseV at h
  split at h
  · have := congrArg Prod.snd h; simp at this
  split at h
  · rename_i h2; exact absurd (congrArg Prod.snd h) h2
  unfold bothV at h
  split at h
  · rename_i h2; exact absurd (congrArg Prod.snd h) h2
  unfold endV at h
  split at h
  · rename_i h2; exact absurd (congrArg Prod.snd h) h2
  · rename_i h2
    have := congrArg Prod.fst h
    simp only at this
    rw [← this]
    exact Classical.not_not.1 h2

end Go.Proofs.YtgboekilhldejaaGreatDoor

/-
  When two URIs are one, and whose a URI is: plain facts.
-/
namespace Go.Proofs.YtgboekilhldejaaGreatDoor
open Go.RowKit Sc
set_option linter.unusedVariables false
set_option maxRecDepth 20000

def findV (ps : List Par) (nm : List UInt8) : Option Par := ps.find? fun p => sameB p.name nm
def noP : Par := ⟨[], [], false⟩
def graveB (nm : List UInt8) : Bool := lowL nm == [117, 115, 101, 114] || (lowL nm == [116, 116, 108] || (lowL nm == [109, 101, 116, 104, 111, 100] || lowL nm == [109, 97, 100, 100, 114]))
def okP (qs : List Par) (p : Par) : Bool := match findV qs p.name with | none => !graveB p.name | some q => q.has == p.has && sameB q.value p.value
def okH (qs : List Par) (p : Par) : Bool := match findV qs p.name with | none => false | some q => q.value == p.value
/-- The code's own test of a header: Has plays a part. -/
def okM (qs : List Par) (p : Par) : Bool := match findV qs p.name with | none => false | some q => q.value == p.value && q.has == p.has
/-- The plain parts are the same. -/
def partsB (u v : Uri) : Bool := u.scheme == v.scheme && (u.user == v.user && (u.host == v.host && u.port == v.port))
def equalV (u v : Uri) : Bool :=
  decide (checkV u = 0) && (decide (checkV v = 0) && (partsB u v &&
    (u.params.all (okP v.params) && (u.headers.all (okH v.headers) && (v.params.all (okP u.params) && v.headers.all (okH u.headers))))))

theorem find_snoc {ps : List Par} {k : Nat} {nm : List UInt8} (hk : k < ps.length) (h : findV (ps.take k) nm = none) (hs : sameB ps[k].name nm = false) : findV (ps.take (k + 1)) nm = none := by
  unfold findV at *
  rw [List.take_succ_eq_append_getElem hk, List.find?_append, h]
  simp [hs]
theorem find_hit {ps : List Par} {k : Nat} {nm : List UInt8} (hk : k < ps.length) (h : findV (ps.take k) nm = none) (hs : sameB ps[k].name nm = true) : findV ps nm = some ps[k] := by
  unfold findV at *
  have e : ps = ps.take k ++ ps[k] :: ps.drop (k + 1) := by rw [← List.drop_eq_getElem_cons hk, List.take_append_drop]
  conv => lhs; rw [e]
  rw [List.find?_append, h, List.find?_cons, hs]; rfl
theorem all_snoc {f : Par → Bool} {ps : List Par} {k : Nat} (hk : k < ps.length) (h : (ps.take k).all f = true) (hb : f ps[k] = true) : (ps.take (k + 1)).all f = true := by
  rw [List.take_succ_eq_append_getElem hk, List.all_append, h]; simp [hb]
theorem all_bad {f : Par → Bool} {ps : List Par} {k : Nat} (hk : k < ps.length) (hb : f ps[k] = false) : ps.all f = false := by
  rw [List.all_eq_false]; exact ⟨ps[k], List.getElem_mem hk, by simp [hb]⟩

/-- Names apart. -/
def Apart (ps : List Par) : Prop := ps.Pairwise fun p q => sameB p.name q.name = false
theorem sameB_comm (a b : List UInt8) : sameB a b = sameB b a := by unfold sameB; exact BEq.comm
theorem sameB_self (a : List UInt8) : sameB a a = true := by simp [sameB]
theorem sameB_trans {a b c : List UInt8} (h : sameB a b = true) (k : sameB b c = true) : sameB a c = true := by simp only [sameB, beq_iff_eq] at *; exact h.trans k
theorem listGo_iff (ps : List Par) : ∀ before : List Par, listGo before ps = true ↔ (∀ p ∈ ps, parB p = true) ∧ Apart ps ∧ ∀ b ∈ before, ∀ p ∈ ps, sameB b.name p.name = false := by
  induction ps with
  | nil => intro before; simp [listGo, Apart]
  | cons q ps ih =>
    intro before
    rw [listGo, Bool.and_eq_true, Bool.and_eq_true, ih]
    unfold Apart apartB
    simp only [List.all_eq_true, Bool.not_eq_true', List.mem_cons, List.mem_append, List.pairwise_cons, List.not_mem_nil, or_false]
    constructor
    · rintro ⟨h1, h2, h3, h4, h5⟩
      refine ⟨?_, ⟨fun p hp => h5 q (Or.inr rfl) p hp, h4⟩, ?_⟩
      · rintro p (rfl | hp)
        · exact h1
        · exact h3 p hp
      · rintro b hb p (rfl | hp)
        · exact h2 b hb
        · exact h5 b (Or.inl hb) p hp
    · rintro ⟨h1, ⟨h2, h3⟩, h4⟩
      refine ⟨h1 q (Or.inl rfl), fun b hb => h4 b hb q (Or.inl rfl), fun p hp => h1 p (Or.inr hp), h3, ?_⟩
      rintro b (hb | rfl) p hp
      · exact h4 b hb p (Or.inr hp)
      · exact h2 p hp
theorem listB_iff (ps : List Par) : listB ps = true ↔ ps.length ≤ 16 ∧ (∀ p ∈ ps, parB p = true) ∧ Apart ps := by
  rw [listB, Bool.and_eq_true, decide_eq_true_eq, listGo_iff]; simp
theorem apart_rev {ps : List Par} (h : Apart ps) : Apart ps.reverse := by
  unfold Apart at *
  rw [List.pairwise_reverse]
  exact h.imp fun {a b} e => by rw [sameB_comm]; exact e
theorem listB_rev (ps : List Par) : listB ps.reverse = listB ps := by
  rw [Bool.eq_iff_iff, listB_iff, listB_iff]
  simp only [List.length_reverse, List.mem_reverse]
  constructor
  · rintro ⟨h1, h2, h3⟩; exact ⟨h1, h2, by simpa using apart_rev h3⟩
  · rintro ⟨h1, h2, h3⟩; exact ⟨h1, h2, apart_rev h3⟩
theorem find_iff {ps : List Par} (h : Apart ps) (nm : List UInt8) (p : Par) : findV ps nm = some p ↔ p ∈ ps ∧ sameB p.name nm = true := by
  unfold findV
  induction ps with
  | nil => simp
  | cons q ps ih =>
    unfold Apart at h
    rw [List.pairwise_cons] at h
    rw [List.find?_cons]
    cases hq : sameB q.name nm with
    | true =>
      simp only [Option.some.injEq, List.mem_cons]
      constructor
      · rintro rfl; exact ⟨Or.inl rfl, hq⟩
      · rintro ⟨rfl | hp, hs⟩
        · rfl
        · have := h.1 p hp
          rw [sameB_trans hq (by rw [sameB_comm]; exact hs)] at this; cases this
    | false =>
      simp only [List.mem_cons]
      rw [ih h.2]
      constructor
      · rintro ⟨h1, h2⟩; exact ⟨Or.inr h1, h2⟩
      · rintro ⟨rfl | hp, hs⟩
        · rw [hq] at hs; cases hs
        · exact ⟨hp, hs⟩
theorem find_rev {ps : List Par} (h : Apart ps) (nm : List UInt8) : findV ps.reverse nm = findV ps nm := by
  apply Option.ext
  intro p
  show findV ps.reverse nm = some p ↔ findV ps nm = some p
  rw [find_iff h, find_iff (apart_rev h), List.mem_reverse]
theorem find_self {ps : List Par} (h : Apart ps) {p : Par} (hp : p ∈ ps) : findV ps p.name = some p := (find_iff h _ _).2 ⟨hp, sameB_self _⟩
theorem okP_self {ps : List Par} (h : Apart ps) : ps.all (okP ps) = true := by
  rw [List.all_eq_true]; intro p hp; simp [okP, find_self h hp, sameB_self]
theorem okH_self {ps : List Par} (h : Apart ps) : ps.all (okH ps) = true := by
  rw [List.all_eq_true]; intro p hp; simp [okH, find_self h hp]

theorem apart_of {u : Uri} (h : checkV u = 0) : Apart u.params ∧ Apart u.headers := by
  obtain ⟨_, _, _, _, _, h1, h2, _⟩ := check_ok h
  exact ⟨((listB_iff _).1 h1).2.2, ((listB_iff _).1 h2).2.2⟩
theorem equal_self (u : Uri) : equalV u u = decide (checkV u = 0) := by
  unfold equalV
  by_cases h : checkV u = 0
  · obtain ⟨a1, a2⟩ := apart_of h
    rw [okP_self a1, okH_self a2]; simp [h, partsB]
  · simp [h]
theorem equal_comm (u v : Uri) : equalV u v = equalV v u := by
  unfold equalV
  have e : partsB u v = partsB v u := by
    rw [Bool.eq_iff_iff]; simp only [partsB, Bool.and_eq_true, beq_iff_eq]
    constructor <;> (rintro ⟨h1, h2, h3, h4⟩; exact ⟨h1.symm, h2.symm, h3.symm, h4.symm⟩)
  rw [e]
  cases decide (checkV u = 0) <;> cases decide (checkV v = 0) <;> cases u.params.all (okP v.params) <;> cases u.headers.all (okH v.headers) <;> cases v.params.all (okP u.params) <;> cases v.headers.all (okH u.headers) <;> simp
/-- The lists the other way round. -/
def turnU (u : Uri) : Uri := { u with params := u.params.reverse, headers := u.headers.reverse }
theorem check_turn (u : Uri) : checkV (turnU u) = checkV u := by
  unfold checkV turnU
  simp only [listB_rev, List.all_reverse]
theorem okP_rev {ps : List Par} (h : Apart ps) : okP ps.reverse = okP ps := by funext p; unfold okP; rw [find_rev h]
theorem okH_rev {ps : List Par} (h : Apart ps) : okH ps.reverse = okH ps := by funext p; unfold okH; rw [find_rev h]
theorem equal_turn (u v : Uri) : equalV (turnU u) v = equalV u v := by
  by_cases h : checkV u = 0
  · obtain ⟨a1, a2⟩ := apart_of h
    unfold equalV
    rw [check_turn]
    unfold turnU partsB
    simp only [List.all_reverse, okP_rev a1, okH_rev a2]
  · unfold equalV; rw [check_turn]; simp [h]
theorem equal_turned {u : Uri} (h : checkV u = 0) : equalV u (turnU u) = true := by
  rw [equal_comm, equal_turn, equal_self]; simp [h]

/-- A URI without its lists. -/
def bareU (u : Uri) : Uri := { u with params := [], headers := [] }
theorem equal_bare {u v : Uri} (h1 : checkV (bareU u) = 0) (h2 : checkV (bareU v) = 0) : equalV (bareU u) (bareU v) = (textT (bareU u) == textT (bareU v)) := by
  rw [Bool.eq_iff_iff]
  unfold equalV
  rw [decide_eq_true h1, decide_eq_true h2]
  simp only [Bool.true_and, bareU, List.all_nil, Bool.and_true, partsB, Bool.and_eq_true, beq_iff_eq]
  constructor
  · rintro ⟨e1, e2, e3, e4⟩; rw [e1, e2, e3, e4]
  · intro e
    have k1 := parse_text h1
    have k2 := parse_text h2
    simp only [bareU] at k1 k2
    rw [e, k2] at k1
    simp only [Prod.mk.injEq, and_true, Uri.mk.injEq] at k1
    obtain ⟨e1, e2, e3, e4⟩ := k1
    exact ⟨e1.symm, e2.symm, e3.symm, e4.symm⟩

def sipK : List UInt8 := [115, 105, 112]
def whoT (u : Uri) : List UInt8 := escL usersK u.user ++ [64] ++ u.host
def whoV (u : Uri) : List UInt8 × Int := if checkV u ≠ 0 then ([], checkV u) else if u.user = [] then ([], 31) else (whoT u, 0)
/-- The URI that a name is printed of. -/
def nameU (sch : List UInt8) (u : Uri) : Uri := ⟨sch, u.user, u.host, 0, [], []⟩
theorem check_name {sch : List UInt8} {u : Uri} (hs : schemeB sch = true) (h : checkV u = 0) : checkV (nameU sch u) = 0 := by
  obtain ⟨_, h2, h3, _⟩ := check_ok h
  have h2' : ¬ 64 < u.user.length := by omega
  simp [checkV, nameU, hs, h2', h3, listB, listGo]
theorem text_name {u : Uri} (hu : u.user ≠ []) : textT (nameU sipK u) = [115, 105, 112, 58] ++ whoT u := by
  simp [textT, frontT, nameU, hu, parsT, hdrT, whoT, sipK]
theorem print_name {u : Uri} (h : checkV u = 0) (hu : u.user ≠ []) : printV (nameU sipK u) = ([115, 105, 112, 58] ++ whoT u, 0) := by
  rw [printV, if_pos (check_name (by decide +kernel) h), text_name hu]
def hostV (s : List UInt8) : List UInt8 × Int :=
  if (parseV ([115, 105, 112, 58] ++ s)).2 ≠ 0 then ([], (parseV ([115, 105, 112, 58] ++ s)).2)
  else if whoV (parseV ([115, 105, 112, 58] ++ s)).1 = (s, 0) then ((parseV ([115, 105, 112, 58] ++ s)).1.host, 0) else ([], 31)
theorem parse_name {u : Uri} (h : checkV u = 0) (hu : u.user ≠ []) : parseV ([115, 105, 112, 58] ++ whoT u) = (nameU sipK u, 0) := by
  rw [← text_name hu]; exact parse_text (check_name (by decide +kernel) h)
theorem who_name {sch : List UInt8} {u : Uri} (hs : schemeB sch = true) (h : checkV u = 0) (hu : u.user ≠ []) : whoV (nameU sch u) = (whoT u, 0) := by
  rw [whoV, if_neg (by simp [check_name hs h]), if_neg (by simpa [nameU] using hu)]; rfl
theorem host_who {u : Uri} (h : checkV u = 0) (hu : u.user ≠ []) : hostV (whoT u) = (u.host, 0) := by
  rw [hostV, parse_name h hu]
  simp only [ne_eq, not_true, if_false]
  rw [who_name (by decide +kernel) h hu]; simp [nameU]
theorem who_inj {u v : Uri} (h : checkV u = 0) (hu : u.user ≠ []) (k : checkV v = 0) (kv : v.user ≠ []) : (whoT u == whoT v) = decide (u.user = v.user ∧ u.host = v.host) := by
  rw [Bool.eq_iff_iff]
  simp only [beq_iff_eq, decide_eq_true_eq]
  constructor
  · intro e
    have k1 := parse_name h hu
    rw [e, parse_name k kv] at k1
    simp only [nameU, Prod.mk.injEq, and_true, Uri.mk.injEq, true_and] at k1
    exact ⟨k1.1.symm, k1.2.symm⟩
  · rintro ⟨e1, e2⟩; rw [whoT, whoT, e1, e2]
theorem escL_len (keep l : List UInt8) : (escL keep l).length ≤ 3 * l.length := by
  unfold escL
  induction l with
  | nil => simp [esc]
  | cons b l ih =>
    rw [esc]
    split <;> simp <;> omega
theorem whoT_len {u : Uri} (h : checkV u = 0) : (whoT u).length ≤ 257 := by
  obtain ⟨_, h2, h3, _⟩ := check_ok h
  have := hostB_ok h3
  have := escL_len usersK u.user
  simp [whoT]; omega

end Go.Proofs.YtgboekilhldejaaGreatDoor

/-
  Contracts of the document's own Has, Cut and Split.
-/
namespace Go.Proofs.YtgboekilhldejaaGreatDoor
open Go.RowKit Sc
set_option linter.unusedVariables false
set_option maxRecDepth 20000

theorem u8_eq {a b : UInt8} (h : a = b) : ((a.toNat : Int) == (b.toNat : Int)) = true := by simp [h]
theorem u8_ne {a b : UInt8} (h : ¬ a = b) : ((a.toNat : Int) == (b.toNat : Int)) = false := by
  simp only [beq_eq_false_iff_ne, ne_eq]
  intro e; exact h (UInt8.toNat_inj.1 (by omega))
theorem notMem_snoc {c : UInt8} {s : ByteArray} {k : Nat} (hk : k < s.size) (h : c ∉ s.data.toList.take k) (hc : ¬ s[k] = c) : c ∉ s.data.toList.take (k + 1) := by
  rw [take_snoc s k hk]
  simp only [List.mem_append, List.mem_singleton, not_or]
  exact ⟨h, fun e => hc e.symm⟩
theorem split_at (s : ByteArray) (k : Nat) (hk : k < s.size) : s.data.toList = s.data.toList.take k ++ s[k] :: s.data.toList.drop (k + 1) := by
  rw [← drop_cons s k hk, List.take_append_drop]

set_option maxHeartbeats 400000 in
theorem has3_any (s : ByteArray) (c : UInt8) (w : World) (hs : s.size ≤ maxLen) :
    Calls Tryz.prog 49 #[.string s, .int .u8 c.toNat] w fun e w' => e = .returned (.bool (hasL c s.data.toList)) ∧ w' = w := by
  unfold maxLen at hs
  go_enter Tryz.func49, Tryz.ntmps49
  go_wp2
  go_loop [5] (fun i => ∃ k : Nat, k ≤ s.size ∧ i = .int .i64 k ∧ Hid (c ∉ s.data.toList.take k)) (fun i => s.size - (intOf i).toNat)
  case atStart => exact ⟨0, Nat.zero_le _, rfl, show _ ∉ _ by simp⟩
  case round =>
    obtain ⟨k, hk, rfl, hno⟩ := hrel
    by_cases hlt : k < s.size
    · by_cases hc : s[k] = c
      · have he := u8_eq hc
        have hv : Hid (hasL c s.data.toList = true) := show _ = _ by rw [hasL, split_at s k hlt, hc]; simp
        clear hc hno
        go_wp2
        go_ret
        exact ⟨ret_bool hv.out.symm, rfl⟩
      · have he := u8_ne hc
        have hno2 : Hid (c ∉ s.data.toList.take (k + 1)) := notMem_snoc hlt hno.out hc
        clear hc hno
        go_wp2
        go_round
        case rel => exact ⟨k + 1, by omega, by go_num, hno2⟩
        case measure => simp [intOf]; omega
    · have hv : Hid (hasL c s.data.toList = false) := show _ = _ by
        rw [hasL]
        have := hno.out
        rw [take_all s k (by omega)] at this
        simpa using this
      clear hno
      go_wp2
      go_ret
      exact ⟨ret_bool hv.out.symm, rfl⟩

theorem ret_cut {p : List UInt8 × List UInt8 × Bool} {x y : ByteArray} {b : Bool} (h : p = (x.data.toList, y.data.toList, b)) : Ending.returned (.tuple #[.string x, .string y, .bool b]) = .returned (.tuple #[.string ⟨p.1.toArray⟩, .string ⟨p.2.1.toArray⟩, .bool p.2.2]) := by
  have hx : (⟨x.data.toList.toArray⟩ : ByteArray) = x := by apply ByteArray.ext; simp
  have hy : (⟨y.data.toList.toArray⟩ : ByteArray) = y := by apply ByteArray.ext; simp
  rw [h, hx, hy]

set_option maxHeartbeats 400000 in
theorem cut3_any (s : ByteArray) (c : UInt8) (w : World) (hs : s.size ≤ maxLen) :
    Calls Tryz.prog 27 #[.string s, .int .u8 c.toNat] w fun e w' => e = .returned (.tuple #[.string ⟨(cutL c s.data.toList).1.toArray⟩, .string ⟨(cutL c s.data.toList).2.1.toArray⟩, .bool (cutL c s.data.toList).2.2]) ∧ ∃ q, w' = w.drewN q := by
  unfold maxLen at hs
  go_enter Tryz.func27, Tryz.ntmps27
  go_wp2
  go_loop [7] (fun i => ∃ k : Nat, k ≤ s.size ∧ i = .int .i64 k ∧ Hid (c ∉ s.data.toList.take k)) (fun i => s.size - (intOf i).toNat)
  case atStart => exact ⟨0, Nat.zero_le _, rfl, show _ ∉ _ by simp⟩
  case round =>
    obtain ⟨k, hk, rfl, hno⟩ := hrel
    by_cases hlt : k < s.size
    · by_cases hc : s[k] = c
      · have he := u8_eq hc
        have hv : Hid (cutL c s.data.toList = (s.data.toList.take k, s.data.toList.drop (k + 1), true)) := show _ = _ by
          conv => lhs; rw [split_at s k hlt, hc]
          exact cutL_hit hno.out
        have e1 : Hid ((s.extract 0 k).data.toList = s.data.toList.take k) := show _ = _ by rw [ext_list]; simp
        have e2 : Hid ((s.extract (k + 1) s.size).data.toList = s.data.toList.drop (k + 1)) := show _ = _ by
          rw [ext_list, List.take_of_length_le (by rw [List.length_drop, len_data]; omega)]
        clear hc hno
        have hwr : IntKind.i64.wrap ((k : Int) + 1) = ((k + 1 : Nat) : Int) := by
          simp [IntKind.wrap, IntKind.bits, IntKind.signed]; omega
        go_wp2
        go_quiet (fail)
        go_wp2
        go_ret3
        exact ⟨ret_cut (by rw [hv.out, e1.out, e2.out]), nq, rfl⟩
      · have he := u8_ne hc
        have hno2 : Hid (c ∉ s.data.toList.take (k + 1)) := notMem_snoc hlt hno.out hc
        clear hc hno
        go_wp2
        go_round
        case rel => exact ⟨k + 1, by omega, by go_num, hno2⟩
        case measure => simp [intOf]; omega
    · have hv : Hid (cutL c s.data.toList = (s.data.toList, [], false)) := show _ = _ by
        have := hno.out
        rw [take_all s k (by omega)] at this
        exact cutL_miss this
      clear hno
      go_wp2
      go_ret3
      exact ⟨ret_cut hv.out, 0, rfl⟩

theorem cut3_list (r : List UInt8) (c : UInt8) (w : World) (hs : r.length ≤ 9223372036854775807) :
    Calls Tryz.prog 27 #[.string ⟨r.toArray⟩, .int .u8 c.toNat] w fun e w' => e = .returned (.tuple #[.string ⟨(cutL c r).1.toArray⟩, .string ⟨(cutL c r).2.1.toArray⟩, .bool (cutL c r).2.2]) ∧ ∃ q, w' = w.drewN q :=
  cut3_any ⟨r.toArray⟩ c w (by unfold maxLen; simp [ByteArray.size]; omega)
def lenOf : Value → Nat
  | .string s => s.size
  | _ => 0
def boolOf : Value → Nat
  | .bool true => 1
  | _ => 0
theorem size_list (l : List UInt8) : (⟨l.toArray⟩ : ByteArray).size = l.length := by simp [ByteArray.size]
theorem splitL_next {c : UInt8} {l0 r : List UInt8} {ps : List (List UInt8)} (h : splitL c l0 = ps ++ splitL c r) (hb : (cutL c r).2.2 = true) : splitL c l0 = (ps ++ [(cutL c r).1]) ++ splitL c (cutL c r).2.1 := by
  rw [h, splitL_cut c r, if_pos hb]; simp
theorem splitL_last {c : UInt8} {l0 r : List UInt8} {ps : List (List UInt8)} (h : splitL c l0 = ps ++ splitL c r) (hb : (cutL c r).2.2 = false) : splitL c l0 = ps ++ [(cutL c r).1] := by
  rw [h, splitL_cut c r, if_neg (by simp [hb])]
theorem cutL_dec {c : UInt8} {r : List UInt8} (hb : (cutL c r).2.2 = true) : (cutL c r).2.1.length < r.length := by
  have h := cutL_join c r hb
  have := congrArg List.length h
  simp at this; omega

set_option maxHeartbeats 1000000 in
theorem split3_any (s : ByteArray) (c : UInt8) (w : World) (hs : s.size ≤ 1048576) :
    Calls Tryz.prog 91 #[.string s, .int .u8 c.toNat] w fun e w' => ∃ v, e = .returned v ∧ Own w' w.heap.size 9 v (strs (splitL c s.data.toList)) ∧ Below w.heap.size w w' := by
  obtain ⟨i0, hi, hz0, hz1, hz2⟩ := info_parts info9
  go_enter Tryz.func91, Tryz.ntmps91
  go_wp2
  have hs0 : s = ⟨s.data.toList.toArray⟩ := by apply ByteArray.ext; simp
  have hl := len_data s
  generalize s.data.toList = l0 at hs0 hl ⊢
  subst hs0
  go_loopw [0, 5, 6] (fun x v m wr => ∃ (r : List UInt8) (ps : List (List UInt8)) (b : Bool), x = .string ⟨r.toArray⟩ ∧ m = .bool b ∧ Own wr w.heap.size 9 v (strs ps) ∧ Below w.heap.size w wr ∧ w.heap.size ≤ wr.heap.size ∧ ps.length + r.length ≤ l0.length + 1 ∧ r.length ≤ l0.length ∧
      Hid (if b = true then splitL c l0 = ps ++ splitL c r ∧ ps.length + r.length ≤ l0.length else splitL c l0 = ps)) (fun x _ m _ => lenOf x + boolOf m)
  case atStart => exact ⟨l0, [], true, rfl, rfl, Own.nil _ _ _, Below.refl _ _, Nat.le_refl _, by simp, by omega, show _ = _ ∧ _ from ⟨rfl, by simp⟩⟩
  case round =>
    obtain ⟨r, ps, b, rfl, rfl, hown, hb, hB, hln, hrl, hsp⟩ := hrel
    cases b with
    | false =>
      go_wp2
      go_ret
      exact ⟨_, rfl, by have := hsp.out; simp at this; rw [this]; exact hown, hb⟩
    | true =>
      have hsp2 := hsp.out
      rw [if_pos rfl] at hsp2
      have hsp3 : Hid _ := hsp2
      clear hsp hsp2
      have hcl := cutL_len c r
      have hdec := @cutL_dec c r
      have hnx := @splitL_next c l0 r ps hsp3.out.1
      have hlast := @splitL_last c l0 r ps hsp3.out.1
      have hl2 := hsp3.out.2
      rw [size_list] at hs
      clear hsp3 hl
      go_wp2_with fail
      refine (cut3_list r c _ (by omega)).mono ?_
      rintro e w' ⟨rfl, q, rfl⟩
      generalize cutL c r = p at hcl hdec hnx hlast ⊢
      obtain ⟨p1, p2, b⟩ := p
      have HD : Hid _ := hdec; clear hdec
      have HN : Hid _ := hnx; clear hnx
      have HL : Hid _ := hlast; clear hlast
      have hown1 := hown.below (below_drewN wr q)
      have hb1 := hb.trans ((below_drewN wr q).mono hB)
      have hB1 : w.heap.size ≤ (wr.drewN q).heap.size := hB
      clear hown hb hB
      generalize wr.drewN q = w1 at hown1 hb1 hB1 ⊢
      go_wp2_with (at_builtin; refine wp_app _ rfl (.tmp 16) (.tmp 18) 22 rfl w.heap.size 9 i0 (.string .empty) 16 Tryz.underlying22 hi hz0 hz1 hz2 rfl _ _ rfl (hown1.alloc _) ⟨_, 0, none⟩ 1 1 [.string ⟨p1.toArray⟩] rfl rfl (by exact one_new _ _ _) (by intro u hu; simp at hu; subst hu; rfl) (by rw [strs_length]; unfold maxLen; omega) (by rw [strs_length]; omega) w (hb1.alloc (by omega) _) (by simp; omega) ?_; intro v3 w3 hown3 hb3 hB3)
      have e1 : [Value.string ⟨p1.toArray⟩] = strs [p1] := rfl
      rw [e1, ← strs_append] at hown3
      cases b with
      | true =>
        have hd : p2.length < r.length := HD.out rfl
        have hn : Hid (splitL c l0 = ps ++ [p1] ++ splitL c p2) := HN.out rfl
        clear HD HN HL
        go_wp2
        go_roundw
        case rel => exact ⟨p2, ps ++ [p1], true, rfl, rfl, hown3, hb3, hB3, by simp; omega, by omega, show _ = _ ∧ _ from ⟨hn.out, by simp; omega⟩⟩
        case measure => simp [lenOf, boolOf, size_list]; omega
      | false =>
        have hn : Hid (splitL c l0 = ps ++ [p1]) := HL.out rfl
        clear HD HN HL
        go_wp2
        go_roundw
        case rel => exact ⟨p2, ps ++ [p1], false, rfl, rfl, hown3, hb3, hB3, by simp; omega, by omega, hn⟩
        case measure => simp [lenOf, boolOf, size_list]; omega

end Go.Proofs.YtgboekilhldejaaGreatDoor
