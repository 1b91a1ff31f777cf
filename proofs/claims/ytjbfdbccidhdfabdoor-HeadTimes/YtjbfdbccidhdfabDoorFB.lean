/-
  Base texts, one behind another: RefClass, Lower.
-/
import Derived.Test.YtjbfdbccidhdfabDoorFA

/-
  Contracts of the document's own has, Class and All.
-/
namespace Go.Proofs.YtjbfdbccidhdfabDoor
open Go.RowKit Sc
set_option linter.unusedVariables false
set_option maxRecDepth 20000

def hasB (c : Int) (s : ByteArray) : Bool := s.data.toList.any fun b => (b.toNat : Int) == c
theorem hasB_hit {c : Int} {s : ByteArray} {k : Nat} (h : k < s.size) (hb : (s[k].toNat : Int) = c) : hasB c s = true := by
  rw [hasB, List.any_eq_true]
  exact ⟨s[k], List.mem_of_getElem? (getL s k h), by simp [hb]⟩

theorem of256 {p : Int → Prop} (h : ∀ n : Fin 256, p (n.val : Int)) (c : Int) (h0 : 0 ≤ c) (h1 : c ≤ 255) : p c := by
  obtain ⟨n, rfl⟩ := Int.eq_ofNat_of_zero_le h0
  exact h ⟨n, by omega⟩

def bDg (c : Int) : Bool := decide (48 ≤ c ∧ c ≤ 57)
def bLe (c : Int) : Bool := decide (97 ≤ c ∧ c ≤ 122 ∨ 65 ≤ c ∧ c ≤ 90)
def bHx (c : Int) : Bool := decide (48 ≤ c ∧ c ≤ 57 ∨ 97 ≤ c ∧ c ≤ 102 ∨ 65 ≤ c ∧ c ≤ 70)
def bTk (c : Int) : Bool := decide (48 ≤ c ∧ c ≤ 57 ∨ 97 ≤ c ∧ c ≤ 122 ∨ 65 ≤ c ∧ c ≤ 90 ∨ c = 45 ∨ c = 46 ∨ c = 33 ∨ c = 37 ∨ c = 42 ∨ c = 95 ∨ c = 43 ∨ c = 96 ∨ c = 39 ∨ c = 126)
def bPl (c : Int) : Bool := decide (48 ≤ c ∧ c ≤ 57 ∨ 97 ≤ c ∧ c ≤ 122 ∨ 65 ≤ c ∧ c ≤ 90 ∨ c = 45 ∨ c = 95 ∨ c = 46 ∨ c = 33 ∨ c = 126 ∨ c = 42 ∨ c = 39 ∨ c = 40 ∨ c = 41)
def bHo (c : Int) : Bool := decide (48 ≤ c ∧ c ≤ 57 ∨ 97 ≤ c ∧ c ≤ 122 ∨ 65 ≤ c ∧ c ≤ 90 ∨ c = 45 ∨ c = 46)
end Go.Proofs.YtjbfdbccidhdfabDoor

/-
  Contracts of Token, Lower, Trim and Same, and of the document's own.
-/
namespace Go.Proofs.YtjbfdbccidhdfabDoor
open Go.RowKit Sc
set_option linter.unusedVariables false
set_option maxRecDepth 20000

def tokenB (l : List UInt8) : Bool := decide (1 ≤ l.length) && decide (l.length ≤ 64) && allB 8 l

set_option maxHeartbeats 400000 in
theorem token_any (s : ByteArray) (w : World) (hs : s.size ≤ maxLen) :
    Calls Tryd.prog 14 #[.string s] w fun e w' => e = .returned (.bool (tokenB s.data.toList)) ∧ w' = w := by
  have hl := len_data s
  by_cases h0 : s.size = 0
  · have hE := isE_true h0
    have HT : Hid (tokenB s.data.toList = false) := by show _ = _; simp [tokenB, hl, h0]
    clear hl
    go_enter Tryd.func14, Tryd.ntmps14
    go_wp2
    go_ret
    exact ⟨ret_bool HT.out.symm, rfl⟩
  · have hE := isE_false (s := s) (by omega)
    by_cases h1 : s.size ≤ 64
    · have HT : Hid (tokenB s.data.toList = allB 8 s.data.toList) := by
        show _ = _
        have e1 : decide (1 ≤ s.size) = true := decide_eq_true (by omega)
        have e2 : decide (s.size ≤ 64) = true := decide_eq_true h1
        rw [tokenB, hl, e1, e2]; rfl
      clear hl
      go_enter Tryd.func14, Tryd.ntmps14
      go_wp2_with (go_at_call 24; refine (all_any _ _ _ hs).mono ?_; rintro e w' ⟨rfl, rfl⟩)
      go_ret
      exact ⟨ret_bool HT.out.symm, rfl⟩
    · have HT : Hid (tokenB s.data.toList = false) := by
        show _ = _
        have e2 : decide (s.size ≤ 64) = false := decide_eq_false h1
        rw [tokenB, hl, e2]; simp
      clear hl
      go_enter Tryd.func14, Tryd.ntmps14
      go_wp2
      go_ret
      exact ⟨ret_bool HT.out.symm, rfl⟩

def lowb (b : UInt8) : UInt8 := if 65 ≤ b.toNat ∧ b.toNat ≤ 90 then b + 32 else b
def lowL (l : List UInt8) : List UInt8 := l.map lowb
theorem lowb_toNat (b : UInt8) : ((lowb b).toNat : Int) = low b.toNat := by
  have h : ∀ n : Fin 256, ((lowb (UInt8.ofNat n.val)).toNat : Int) = low n.val := by decide +kernel
  have := h ⟨b.toNat, b.toNat_lt⟩
  simpa using this
theorem lowL_len (l : List UInt8) : (lowL l).length = l.length := by simp [lowL]
theorem lowL_snoc (l : List UInt8) (b : UInt8) : lowL (l ++ [b]) = lowL l ++ [lowb b] := by simp [lowL]

set_option maxHeartbeats 400000 in
theorem lower_txt (s : ByteArray) (w : World) (hs : s.size ≤ 281474976710656) :
    Calls Tryd.prog 10 #[.string s] w fun e w' => e = .returned (.string ⟨(lowL s.data.toList).toArray⟩) ∧ Below w.heap.size w w' := by
  obtain ⟨i0, hi, hz0, hz1, hz2⟩ := info_parts info5
  have hmk : ∀ u : World, (Instr.makeSlice 51 (.int .i64 (s.size : Int)) (.int .i64 (s.size : Int))).run Tryd.prog u =
      .ok (.slice (some ⟨u.heap.size, 0, none⟩) s.size s.size) (u.alloc (.cells (madeCells #[.int .u8 0] s.size) 5)) := fun u => by
    have h := run_make (P := Tryd.prog) u 51 5 i0 (.int .u8 0) Tryd.underlying51 hi hz0 .i64 .i64 (s.size : Int) (s.size : Int) (by omega) (Int.le_refl _) (by rw [hz2]; omega) (by omega)
    simpa [hz1, Value.cells] using h
  have hr0 : Hid (RowIs (w.alloc (.cells (madeCells #[.int .u8 0] s.size) 5)) w.heap.size 5 (filled [] s.size)) := made_row w _ _
  go_enter Tryd.func10, Tryd.ntmps10
  go_wp2
  clear hmk
  go_loopw [10] (fun i wr => ∃ k : Nat, k ≤ s.size ∧ i = .int .i64 k ∧ Hid (RowIs wr w.heap.size 5 (filled (lowL (s.data.toList.take k)) s.size)) ∧ Below w.heap.size w wr) (fun i _ => s.size - (intOf i).toNat)
  case atStart => exact ⟨0, Nat.zero_le _, rfl, hr0, (Below.refl _ _).alloc (Nat.le_refl _) _⟩
  case round =>
    clear hr0
    obtain ⟨k, hk, rfl, hr, hb⟩ := hrel
    have hlk : Hid ((lowL (s.data.toList.take k)).length = k) := by show _ = _; rw [lowL_len, List.length_take, len_data]; omega
    by_cases hlt : k < s.size
    · have hbd := u8_bd s[k]
      obtain ⟨x, hc⟩ : ∃ x, wr.cell? ⟨w.heap.size, k, none⟩ = some x := ⟨_, hr.out.cell k (by rw [filled_len _ _ (by rw [hlk.out]; omega)]; exact hlt)⟩
      have hf := hr.out.frozen k
      have hr' : Hid (RowIs (wr.setCell ⟨w.heap.size, k, none⟩ (.int .u8 (low s[k].toNat))) w.heap.size 5 (filled (lowL (s.data.toList.take (k + 1))) s.size)) := by
        have h := hr.out.set k (.int .u8 (lowb s[k]).toNat)
        have h2 := filled_set (lowL (s.data.toList.take k)) s.size (lowb s[k]) (by rw [hlk.out]; exact hlt)
        rw [hlk.out] at h2
        rw [h2, lowb_toNat, ← lowL_snoc, ← take_snoc s k hlt] at h
        exact h
      go_wp2_with (go_at_call 19; refine (lower_any _ _ hbd.1 hbd.2).mono ?_; rintro e w' ⟨rfl, rfl⟩)
      go_roundw
      case rel => exact ⟨k + 1, by omega, by go_num, hr', hb.setCell (Nat.le_refl _) _⟩
      case measure => simp [intOf]; omega
    · have hta := take_all s k (by omega)
      have hr2 := hr.out
      rw [hta, filled_full _ _ (by rw [lowL_len, len_data])] at hr2
      have hown := hr2.own w.heap.size s.size (Nat.le_refl _) (by rw [Lib.byteCells_length, lowL_len, len_data]) (by unfold maxLen; omega)
      have hcv := conv_own (P := Tryd.prog) _ Tryd.underlying51 Tryd.underlying5 Tryd.underlying9 hown
      clear hta hr2 hown hr hlk
      go_wp2
      go_ret
      exact ⟨rfl, hb⟩

theorem low_cells1 (l : List UInt8) (b : UInt8) : Lib.byteCells (lowL l) ++ [.int .u8 (low b.toNat)] = Lib.byteCells (lowL (l ++ [b])) := by
  rw [lowL_snoc, Lib.byteCells_append, ← lowb_toNat]; rfl

end Go.Proofs.YtjbfdbccidhdfabDoor
