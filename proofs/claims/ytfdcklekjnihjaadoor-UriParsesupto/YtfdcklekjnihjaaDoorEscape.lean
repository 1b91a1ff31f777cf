/-
  The contract of Escape.
-/
import Derived.Test.YtfdcklekjnihjaaDoorQuote
import Derived.Deep.RegionLaw
namespace Go.Proofs.YtfdcklekjnihjaaDoor
open Go.RowKit Sc
set_option linter.unusedVariables false
set_option maxRecDepth 20000

def kept0 : Array Value := (List.replicate 256 (.bool false)).toArray
theorem zero52 (u : World) : Sem.run Tryd.prog (zeroValue 80) u = .ok (.agg kept0) u := by kernel_rfl
/-- The 256 marks lie in block B. -/
def Marks (w : World) (B : Nat) (f : Nat → Bool) : Prop := ∀ j, j < 256 → w.cell? ⟨B, j, none⟩ = some (.bool (f j)) ∧ w.frozen? ⟨B, j, none⟩ = false
theorem marks0 (w : World) : Marks (w.alloc (.cells kept0 80)) w.heap.size (fun _ => false) := by
  intro j hj
  constructor
  · rw [World.cell?_alloc_new, kept0, List.getElem?_toArray, List.getElem?_replicate, if_pos hj]
  · exact World.frozen?_alloc_new w kept0 80 j
theorem marks_set {w : World} {B : Nat} {f : Nat → Bool} (h : Marks w B f) (n : Nat) (hn : n < 256) (b : Bool) : Marks (w.setCell ⟨B, n, none⟩ (.bool b)) B (fun j => if j = n then b else f j) := by
  intro j hj
  constructor
  · by_cases e : j = n
    · subst e
      rw [World.cell?_setCell_same _ _ _ (h j hj).1]; simp
    · rw [World.cell?_setCell_other _ _ _ _ (by intro e'; injection e' with _ e2; exact e e2.symm), (h j hj).1]; simp [e]
  · rw [World.frozen?_setCell]; exact (h j hj).2
theorem marks_congr {w : World} {B : Nat} {f g : Nat → Bool} (h : Marks w B f) (hfg : ∀ j, f j = g j) : Marks w B g := by
  intro j hj; rw [← hfg j]; exact h j hj
theorem marks_below {w w' : World} {B : Nat} {f : Nat → Bool} (h : Marks w B f) (hb : Below (B + 1) w w') : Marks w' B f := by
  intro j hj
  exact ⟨(hb.cell (p := ⟨B, j, none⟩) (Nat.lt_succ_self B)).trans (h j hj).1, (hb.frozen (p := ⟨B, j, none⟩) (Nat.lt_succ_self B)).trans (h j hj).2⟩

def inK (l : List UInt8) (j : Nat) : Bool := l.any fun b => b.toNat == j
theorem inK_snoc (l : List UInt8) (b : UInt8) (j : Nat) : (if j = b.toNat then true else inK l j) = inK (l ++ [b]) j := by
  by_cases h : j = b.toNat
  · simp [inK, h]
  · have h' : (b.toNat == j) = false := by simp; exact fun e => h e.symm
    simp [inK, h, h']

def hexd (n : Nat) : UInt8 := [48, 49, 50, 51, 52, 53, 54, 55, 56, 57, 65, 66, 67, 68, 69, 70].getD n 0
def free (kp : Nat → Bool) (b : UInt8) : Bool := isB b.toNat 16 || kp b.toNat
def esc (kp : Nat → Bool) : List UInt8 → List UInt8
  | [] => []
  | b :: r => (if free kp b then [b] else [37, hexd (b.toNat / 16), hexd (b.toNat % 16)]) ++ esc kp r
/-- The signs that stand for themselves, by 'keep'. -/
def kpF (keep : List UInt8) (j : Nat) : Bool := if j = 37 then false else inK keep j

theorem esc_append (kp : Nat → Bool) (a b : List UInt8) : esc kp (a ++ b) = esc kp a ++ esc kp b := by
  induction a with
  | nil => rfl
  | cons x r ih => simp only [List.cons_append, esc, ih, List.append_assoc]
theorem esc_len (kp : Nat → Bool) (l : List UInt8) : (esc kp l).length ≤ 3 * l.length := by
  induction l with
  | nil => simp [esc]
  | cons x r ih => simp only [esc, List.length_append, List.length_cons]; split <;> simp <;> omega
theorem esc_cells1 (kp : Nat → Bool) (l : List UInt8) (b : UInt8) (h : free kp b = true) : Lib.byteCells (esc kp l) ++ Lib.byteCells [b] = Lib.byteCells (esc kp (l ++ [b])) := by
  rw [← Lib.byteCells_append]; simp [esc_append, esc, h]
theorem esc_cells3 (kp : Nat → Bool) (l : List UInt8) (b : UInt8) (h : free kp b = false) :
    Lib.byteCells (esc kp l) ++ Lib.byteCells [37, hexd (b.toNat / 16), hexd (b.toNat % 16)] = Lib.byteCells (esc kp (l ++ [b])) := by
  rw [← Lib.byteCells_append]; simp [esc_append, esc, h]
theorem esc_cells_len (kp : Nat → Bool) (l : List UInt8) : (Lib.byteCells (esc kp l)).length ≤ 3 * l.length := by
  rw [Lib.byteCells_length]; exact esc_len kp l

theorem hexi (i : Int) (n : Nat) (hi : i.toNat = n) (h : i.toNat < 16) : (((ByteArray.mk #[48, 49, 50, 51, 52, 53, 54, 55, 56, 57, 65, 66, 67, 68, 69, 70])[i.toNat]'h).toNat : Int) = ((hexd n).toNat : Int) := by
  subst hi
  have hh : ∀ n : Fin 16, (((ByteArray.mk #[48, 49, 50, 51, 52, 53, 54, 55, 56, 57, 65, 66, 67, 68, 69, 70])[n.val]'n.isLt).toNat : Int) = ((hexd n.val).toNat : Int) := by decide +kernel
  exact hh ⟨i.toNat, h⟩
theorem three_new (w : World) (e : TypeId) (x y z : Value) (l : List Value) (hl : l = [x, y, z]) :
    ∀ (j : Nat) (u : Value), l[j]? = some u → (w.alloc (.cells #[x, y, z] e)).drew.cell? ((⟨w.heap.size, 0, none⟩ : Addr).add j) = some u := by
  subst hl
  intro j u hj
  rw [show (w.alloc (.cells #[x, y, z] e)).drew.cell? = (w.alloc (.cells #[x, y, z] e)).cell? from rfl]
  match j, hj with
  | 0, hj => simp at hj; subst hj; simp [Addr.add]
  | 1, hj => simp at hj; subst hj; simp [Addr.add]
  | 2, hj => simp at hj; subst hj; simp [Addr.add]
theorem and15 (b : UInt8) : bits BinOp.and IntKind.u8 (b.toNat : Int) 15 = (b.toNat : Int) % 16 := by
  have h : ∀ n : Fin 256, bits BinOp.and IntKind.u8 (n.val : Int) 15 = (n.val : Int) % 16 := by decide +kernel
  exact h ⟨b.toNat, b.toNat_lt⟩

set_option maxHeartbeats 1000000 in
theorem escape_any (s keep : ByteArray) (w : World) (hs : 3 * s.size ≤ 140737488355328) (hk : keep.size ≤ 9223372036854775807) :
    Calls Tryd.prog 35 #[.string s, .string keep] w fun e w' => e = .returned (.string ⟨(esc (kpF keep.data.toList) s.data.toList).toArray⟩) ∧ Below w.heap.size w w' := by
  have hz52 := zero52
  obtain ⟨i0, hi, hz0, hz1, hz2⟩ := info_parts info5
  go_enter Tryd.func35, Tryd.ntmps35
  go_wp2
  clear hz52
  have hm0 := marks0 w
  go_loopw [12] (fun i wr => ∃ k : Nat, k ≤ keep.size ∧ i = .int .i64 k ∧ Hid (Marks wr w.heap.size (inK (keep.data.toList.take k))) ∧ Below w.heap.size w wr ∧ w.heap.size + 1 ≤ wr.heap.size) (fun i _ => keep.size - (intOf i).toNat)
  case atStart => exact ⟨0, Nat.zero_le _, rfl, hm0, (Below.refl _ _).alloc (Nat.le_refl _) _, by simp⟩
  case round =>
    obtain ⟨k, hk', rfl, hm, hb, hB⟩ := hrel
    by_cases hlt : k < keep.size
    · have hbd := u8_bd keep[k]
      have hc := (hm.out keep[k].toNat keep[k].toNat_lt).1
      have hf := (hm.out keep[k].toNat keep[k].toNat_lt).2
      have hm' : Hid (Marks (wr.setCell ⟨w.heap.size, keep[k].toNat, none⟩ (.bool true)) w.heap.size (inK (keep.data.toList.take (k + 1)))) := by
        rw [take_snoc keep k hlt]
        exact marks_congr (marks_set hm.out keep[k].toNat keep[k].toNat_lt true) (inK_snoc _ _)
      go_wp2
      go_roundw
      case rel => exact ⟨k + 1, by omega, by go_num, hm', hb.setCell (Nat.le_refl _) _, by simpa using hB⟩
      case measure => simp [intOf]; omega
    · rw [take_all keep k (by omega)] at hm
      have hc := (hm.out 37 (by omega)).1
      have hf := (hm.out 37 (by omega)).2
      have hm2 : Hid (Marks (wr.setCell ⟨w.heap.size, 37, none⟩ (.bool false)) w.heap.size (kpF keep.data.toList)) := marks_set hm.out 37 (by omega) false
      have hb2 : Below w.heap.size w (wr.setCell ⟨w.heap.size, 37, none⟩ (.bool false)) := hb.setCell (Nat.le_refl _) _
      have hB2 : w.heap.size + 1 ≤ (wr.setCell ⟨w.heap.size, 37, none⟩ (.bool false)).heap.size := by simpa using hB
      clear hm hb hB hk' hm0
      go_wp2_with (at_make; refine wp_make _ rfl _ _ 45 rfl (w.heap.size + 1) 5 i0 (.int .u8 0) Tryd.underlying45 hi hz0 hz1 .i64 .i64 _ s.size rfl rfl (by omega) (by rw [hz2]; omega) (by unfold maxLen; omega) _ (Below.refl _ _) hB2 ?_; intro v0 w1 hown1 hb1 hB1)
      have hm1 : Hid (Marks w1 w.heap.size (kpF keep.data.toList)) := marks_below hm2.out hb1
      have hbw : Below w.heap.size w w1 := hb2.trans (hb1.mono (by omega))
      clear hm2 hb2 hB2 hb1 hc hf
      go_loopw [7, 26] (fun v i wr => ∃ k : Nat, k ≤ s.size ∧ i = .int .i64 k ∧ Own wr (w.heap.size + 1) 5 v (Lib.byteCells (esc (kpF keep.data.toList) (s.data.toList.take k))) ∧ Below (w.heap.size + 1) w1 wr ∧ w.heap.size + 1 ≤ wr.heap.size) (fun _ i _ => s.size - (intOf i).toNat)
      case atStart => exact ⟨0, Nat.zero_le _, rfl, hown1, Below.refl _ _, hB1⟩
      case round =>
        clear hown1 hB1
        obtain ⟨k, hk', rfl, hown, hb, hB⟩ := hrel
        have hlen := esc_cells_len (kpF keep.data.toList) (s.data.toList.take k)
        have hlk : (s.data.toList.take k).length ≤ k := List.length_take_le _ _
        by_cases hlt : k < s.size
        · have hbd := u8_bd s[k]
          have hcell := ((marks_below hm1.out hb) s[k].toNat s[k].toNat_lt).1
          by_cases hfree : free (kpF keep.data.toList) s[k] = true
          · have hcs := esc_cells1 (kpF keep.data.toList) (s.data.toList.take k) s[k] hfree
            rw [← take_snoc s k hlt] at hcs
            have HC : Hid _ := hcs; clear hcs
            have HF : Hid _ := hfree; clear hfree
            by_cases hpl : isB s[k].toNat 16 = true
            · go_wp2_with (first
                | (go_at_call 59; refine (is_any _ _ _ hbd.1 hbd.2).mono ?_; rintro e w' ⟨rfl, rfl⟩)
                | (at_builtin; refine wp_app _ rfl (.tmp 39) (.tmp 41) 45 rfl (w.heap.size + 1) 5 i0 (.int .u8 0) 1 Tryd.underlying45 hi hz0 hz1 hz2 rfl _ _ rfl (hown.alloc _) ⟨_, 0, none⟩ 1 1 (Lib.byteCells [s[k]]) rfl rfl (by exact one_new _ _ _) (byteCells_one _) (by unfold maxLen; omega) (by omega) w1 (hb.alloc hB _) (by simp; omega) ?_; intro v3 w3 hown3 hb3 hB3))
              rw [HC.out] at hown3
              go_roundw
              case rel => exact ⟨k + 1, by omega, by go_num, hown3, hb3, hB3⟩
              case measure => simp [intOf]; omega
            · have hpl' : isB s[k].toNat 16 = false := by simpa using hpl
              have hkp : kpF keep.data.toList s[k].toNat = true := by have := HF.out; rw [free, hpl'] at this; simpa using this
              rw [hkp] at hcell
              have HK : Hid _ := hkp; clear hkp hpl
              go_wp2_with (first
                | (go_at_call 59; refine (is_any _ _ _ hbd.1 hbd.2).mono ?_; rintro e w' ⟨rfl, rfl⟩)
                | (at_builtin; refine wp_app _ rfl (.tmp 39) (.tmp 41) 45 rfl (w.heap.size + 1) 5 i0 (.int .u8 0) 1 Tryd.underlying45 hi hz0 hz1 hz2 rfl _ _ rfl (hown.alloc _) ⟨_, 0, none⟩ 1 1 (Lib.byteCells [s[k]]) rfl rfl (by exact one_new _ _ _) (byteCells_one _) (by unfold maxLen; omega) (by omega) w1 (hb.alloc hB _) (by simp; omega) ?_; intro v3 w3 hown3 hb3 hB3))
              rw [HC.out] at hown3
              go_roundw
              case rel => exact ⟨k + 1, by omega, by go_num, hown3, hb3, hB3⟩
              case measure => simp [intOf]; omega
          · have hfree' : free (kpF keep.data.toList) s[k] = false := by simpa using hfree
            have hcs := esc_cells3 (kpF keep.data.toList) (s.data.toList.take k) s[k] hfree'
            rw [← take_snoc s k hlt] at hcs
            have HC : Hid _ := hcs; clear hcs
            have hpl : isB s[k].toNat 16 = false := by rw [free] at hfree'; simp at hfree'; exact hfree'.1
            have hkp : kpF keep.data.toList s[k].toNat = false := by rw [free] at hfree'; simp at hfree'; exact hfree'.2
            rw [hkp] at hcell
            clear hkp hfree hfree'
            go_wp2_with (first
                | (go_at_call 59; refine (is_any _ _ _ hbd.1 hbd.2).mono ?_; rintro e w' ⟨rfl, rfl⟩))
            have hA : (0 : Int) ≤ (s[k].toNat : Int) / 16 := by omega
            have hB' : (s[k].toNat : Int) / 16 < 16 := by omega
            have hC : bits BinOp.and IntKind.u8 (s[k].toNat : Int) 15 = (s[k].toNat : Int) % 16 := and15 _
            have hD : (0 : Int) ≤ (s[k].toNat : Int) % 16 := by omega
            have hE : (s[k].toNat : Int) % 16 < 16 := by omega
            go_region_law (refine step_app rfl (.tmp 43) (.tmp 50) 45 rfl (w.heap.size + 1) 5 i0 (.int .u8 0) 1 Tryd.underlying45 hi hz0 hz1 hz2 rfl _ _ rfl (by exact (hown.alloc _).drew) ⟨_, 0, none⟩ 3 3 (Lib.byteCells [37, hexd (s[k].toNat / 16), hexd (s[k].toNat % 16)]) rfl rfl (by refine three_new _ _ _ _ _ _ ?_; simp only [Lib.byteCells, List.map_cons, List.map_nil]; rw [hexi _ (s[k].toNat / 16) (by omega), hexi _ (s[k].toNat % 16) (by omega)]; rfl) (byteCells_one _) (by unfold maxLen; omega) (by omega) w1 (by exact (hb.alloc hB _).drew) (by simp; omega) ?_; intro v3 w3 hown3 hb3 hB3)
            all_goals
              rw [HC.out] at hown3
              go_wp2
              go_roundw
              case rel => exact ⟨k + 1, by omega, by go_num, hown3, hb3, hB3⟩
              case measure => simp [intOf]; omega
        · have hta := take_all s k (by omega)
          rw [hta] at hown
          clear hta hlen hlk
          have hcv := conv_own (P := Tryd.prog) _ Tryd.underlying45 Tryd.underlying5 Tryd.underlying9 hown
          go_wp2
          go_ret
          exact ⟨rfl, hbw.trans (hb.mono (by omega))⟩
end Go.Proofs.YtfdcklekjnihjaaDoor
