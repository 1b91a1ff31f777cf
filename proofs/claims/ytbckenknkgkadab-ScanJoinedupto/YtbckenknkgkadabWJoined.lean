/-
  The walk of ScanJoined, where the text is of at most 1,048,576 bytes: parts with the sign between them are the text.
-/
import Derived.Test.YtbckenknkgkadabGlue
import Derived.Test.YtbckenknkgkadabAwake
namespace Go.Proofs.Ytbckenknkgkadab.scanJoined
open Go.RowKit Sc
set_option linter.unusedVariables false

theorem u8_of {a : Int} (h : (Lit.int .u8 a).wf = true) : 0 ≤ a ∧ a ≤ 255 := by
  simpa [Lit.wf, IntKind.min, IntKind.max, IntKind.signed, IntKind.bits] using h
theorem next {w a b : World} (h : Below w.heap.size w a) (k : Below a.heap.size a b) : Below w.heap.size w b := h.trans (k.mono h.size)
theorem partsG_ne (sep : Int) : ∀ (l : List UInt8) (p : Pl) (cur : List UInt8), partsG sep p cur l ≠ []
  | [], p, cur => by simp [partsG]
  | b :: r, p, cur => by
    rw [partsG]
    split
    · simp
    · exact partsG_ne sep r _ _
theorem partsG_len (sep : Int) : ∀ (l : List UInt8) (p : Pl) (cur : List UInt8), (partsG sep p cur l).length ≤ l.length + 1
  | [], p, cur => by simp [partsG]
  | b :: r, p, cur => by
    rw [partsG]
    split
    · have := partsG_len sep r (pst p b.toNat).1 []; simp; omega
    · have := partsG_len sep r (pst p b.toNat).1 (cur ++ [b]); simp; omega

/-- Texts with t between. -/
def glueR (t : List UInt8) : List (List UInt8) → List UInt8
  | [] => []
  | [p] => p
  | p :: q :: r => p ++ t ++ glueR t (q :: r)
theorem glueR_cons (t p : List UInt8) {ps : List (List UInt8)} (h : ps ≠ []) : glueR t (p :: ps) = p ++ t ++ glueR t ps := by
  cases ps with
  | nil => exact absurd rfl h
  | cons q r => rfl
theorem glueR_snoc (t p : List UInt8) : ∀ (ps : List (List UInt8)), ps ≠ [] → glueR t (ps ++ [p]) = glueR t ps ++ t ++ p
  | [], h => absurd rfl h
  | [q], _ => by simp [glueR]
  | q :: q' :: r, _ => by
    have ih := glueR_snoc t p (q' :: r) (by simp)
    show q ++ t ++ glueR t (q' :: r ++ [p]) = _
    rw [ih]; simp [glueR]
theorem glueK_R (t : List UInt8) (ps : List (List UInt8)) : ∀ k, k ≤ ps.length → glueK t ps k = glueR t (ps.take k)
  | 0, _ => rfl
  | k + 1, h => by
    have ih := glueK_R t ps k (by omega)
    rw [glueK, ih, getD_at (by omega), List.take_succ_eq_append_getElem (by omega)]
    by_cases h0 : k = 0
    · subst h0; simp [glueR]
    · rw [if_pos (by omega), glueR_snoc t _ _ (by intro e; have := congrArg List.length e; rw [List.length_take, List.length_nil] at this; omega)]
theorem glue_parts (sep : Int) (sb : UInt8) (hsb : (sb.toNat : Int) = sep) : ∀ (l : List UInt8) (p : Pl) (cur : List UInt8), glueR [sb] (partsG sep p cur l) = cur ++ l
  | [], p, cur => by simp [partsG, glueR]
  | b :: r, p, cur => by
    rw [partsG]
    split
    · next h =>
      have hb : b = sb := by
        apply UInt8.toNat_inj.1
        have := h.2
        omega
      rw [glueR_cons _ _ (partsG_ne _ _ _ _), glue_parts sep sb hsb r _ [], hb]; simp
    · rw [glue_parts sep sb hsb r _ (cur ++ [b])]; simp
theorem joined (sep : Int) (sb : UInt8) (hsb : (sb.toNat : Int) = sep) (l : List UInt8) : glueK [sb] (partsV sep l) (partsV sep l).length = l := by
  rw [glueK_R _ _ _ (Nat.le_refl _), List.take_of_length_le (Nat.le_refl _), partsV, glue_parts sep sb hsb]; rfl

theorem back_str (s : ByteArray) : (⟨s.data.toList.toArray⟩ : ByteArray) = s := by apply ByteArray.ext; simp

theorem glue_back (B1 : Nat) (v1 : Value) (s : ByteArray) (sep : Int) (sb : UInt8) (hsb : (sb.toNat : Int) = sep) (w : World) (h1 : Own w B1 9 v1 (strs (partsV sep s.data.toList))) (hs : s.size ≤ 1048576) :
    Calls Try.prog 17 #[v1, .string ⟨#[sb]⟩] w fun e w' => e = .returned (.string s) ∧ Below w.heap.size w w' := by
  have hlen := partsG_len sep s.data.toList pl0 []
  rw [len_data] at hlen
  have := glue_any B1 v1 (partsV sep s.data.toList) ⟨#[sb]⟩ w h1 (partsG_ne _ _ _ _) (by show (partsG _ _ _ _).length ≤ _; omega)
    (by show (glueK [sb] _ _).length ≤ _; rw [joined sep sb hsb, len_data]; omega)
  rw [show (glueK (ByteArray.mk #[sb]).data.toList (partsV sep s.data.toList) (partsV sep s.data.toList).length) = s.data.toList from joined sep sb hsb _, back_str] at this
  exact this

/-- string([]byte of one sign) -/
theorem conv_one (u : World) (sb : UInt8) : (convert 36 9 (.slice (some ⟨u.heap.size, 0, none⟩) 1 1)).run Try.prog (u.alloc (.cells #[.int .u8 sb.toNat] 5)) = .ok (.string ⟨#[sb]⟩) (u.alloc (.cells #[.int .u8 sb.toNat] 5)) := by
  refine run_convert_bytes_back (P := Try.prog) _ 36 9 5 _ 1 [sb] Try.underlying36 Try.underlying5 Try.underlying9 fun j hj => ?_
  match j, hj with
  | 0, _ => simp [Addr.add]

set_option maxHeartbeats 600000 in
theorem law_walk (a0 : ByteArray) (a1 : Int) (b0 : a0.size ≤ 1048576) (w1 : (Lit.int .u8 a1).wf = true) (w : World) :
    Calls Try.prog 5 #[.string a0, .int .u8 a1] w fun e w' => e = .returned (.bool true) ∧ Below w.heap.size w w' := by
  have hb := u8_of w1
  obtain ⟨sb, rfl⟩ : ∃ sb : UInt8, a1 = (sb.toNat : Int) := ⟨UInt8.ofNat a1.toNat, by rw [UInt8.toNat_ofNat']; omega⟩
  have hcv := fun u => conv_one u sb
  have hne := partsG_ne (sb.toNat : Int) a0.data.toList pl0 []
  have hpos : Hid (0 < (strs (partsV (sb.toNat : Int) a0.data.toList)).length) := by
    rw [strs_length]; exact List.length_pos_iff.2 hne
  clear hne
  go_enter Try.func5, Try.ntmps5
  go_wp2_with fail
  refine (parts_any _ _ _ (by omega)).mono ?_
  rintro e w1 ⟨v1, rfl, o1, h1⟩
  obtain ⟨pa, pc, hv⟩ := o1.form
  have hp : (0 : Int) < ((strs (partsV (sb.toNat : Int) a0.data.toList)).length : Int) := by have := hpos.out; omega
  generalize hN : (strs (partsV (sb.toNat : Int) a0.data.toList)).length = N at hv hp
  have O1 : Hid (Own w1 (w.heap.size + 1) 9 v1 (strs (partsV (sb.toNat : Int) a0.data.toList))) := o1
  clear o1 hN hpos
  subst hv
  go_wp2_with (first
    | (go_at_call 17; refine (glue_back _ _ a0 _ sb rfl _ (O1.out.alloc _) b0).mono ?_; rintro e w2 ⟨rfl, h2⟩)
    | (go_at_call 10; refine (awake_any _).mono ?_; rintro e w5 ⟨rfl, h5⟩))
  go_ret
  exact ⟨rfl, next (next (h1.alloc h1.size _) h2) h5⟩

end Go.Proofs.Ytbckenknkgkadab.scanJoined
