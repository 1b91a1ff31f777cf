/-
  The walk of ScanPieces.
-/
import Derived.Test.YtbckenknkgkadabRefTexts
import Derived.Test.YtbckenknkgkadabAwake
namespace Go.Proofs.Ytbckenknkgkadab.scanPieces
open Go.RowKit Sc
set_option linter.unusedVariables false

theorem u8_of {a : Int} (h : (Lit.int .u8 a).wf = true) : 0 ≤ a ∧ a ≤ 255 := by
  simpa [Lit.wf, IntKind.min, IntKind.max, IntKind.signed, IntKind.bits] using h
theorem next {w a b : World} (h : Below w.heap.size w a) (k : Below a.heap.size a b) : Below w.heap.size w b := h.trans (k.mono h.size)
theorem below_drewN (w : World) (q : Nat) : Below w.heap.size w (w.drewN q) := ⟨rfl, rfl, rfl, Nat.le_refl _, fun _ _ => rfl⟩
theorem partsG_ne (sep : Int) : ∀ (l : List UInt8) (p : Pl) (cur : List UInt8), partsG sep p cur l ≠ []
  | [], p, cur => by simp [partsG]
  | b :: r, p, cur => by
    rw [partsG]
    split
    · simp
    · exact partsG_ne sep r _ _
theorem partsG_len (sep : Int) : ∀ (l : List UInt8) (p : Pl) (cur : List UInt8), (partsG sep p cur l).length ≤ l.length + 1
  | [], p, cur => by simp [partsG]
  | b :: r, p, cur => by
    rw [partsG]
    split
    · have := partsG_len sep r (pst p b.toNat).1 []; simp; omega
    · have := partsG_len sep r (pst p b.toNat).1 (cur ++ [b]); simp; omega

def specB (c : Int) : Bool := c == 34 || c == 60 || c == 62
theorem pst_plain {b : UInt8} (h : specB b.toNat = false) : pst pl0 b.toNat = (pl0, true) := by
  simp [specB] at h
  obtain ⟨⟨h1, h2⟩, h3⟩ := h
  simp [pst, pl0, h1, h2, h3]
theorem pieces (sep : Int) (sb : UInt8) (hsb : (sb.toNat : Int) = sep) (hs : specB sb.toNat = false) (lb : List UInt8) : ∀ (la cur : List UInt8), (∀ b ∈ la, specB b.toNat = false) →
    partsG sep pl0 cur (la ++ sb :: lb) = partsG sep pl0 cur la ++ partsG sep pl0 [] lb
  | [], cur, _ => by
    show partsG sep pl0 cur (sb :: lb) = _
    rw [partsG, partsG, pst_plain hs, if_pos ⟨rfl, hsb⟩]; rfl
  | b :: r, cur, h => by
    have hb := pst_plain (h b (by simp))
    have hr : ∀ b ∈ r, specB b.toNat = false := fun b hb => h b (by simp [hb])
    show partsG sep pl0 cur (b :: (r ++ sb :: lb)) = _
    rw [partsG, partsG, hb]
    split
    · rw [pieces sep sb hsb hs lb r [] hr]; rfl
    · exact pieces sep sb hsb hs lb r (cur ++ [b]) hr

theorem data_app (a b : ByteArray) : (a ++ b).data.toList = a.data.toList ++ b.data.toList := by
  rw [ByteArray.data_append, Array.toList_append]

/-- Parts, its answer written out. -/
theorem parts_pos (s : ByteArray) (sep : Int) (w : World) (hs : s.size ≤ 1048576) :
    Calls Try.prog 8 #[.string s, .int .u8 sep] w fun e w' => ∃ g n cap, e = .returned (.slice (some ⟨g, 0, none⟩) n cap) ∧ Hid ((strs (partsV sep s.data.toList)).length = n) ∧
      Hid (Own w' (w.heap.size + 1) 9 (.slice (some ⟨g, 0, none⟩) n cap) (strs (partsV sep s.data.toList))) ∧ Below w.heap.size w w' := by
  refine (parts_any s sep w (by omega)).mono ?_
  rintro e w' ⟨v, rfl, ho, hb⟩
  have hne : partsV sep s.data.toList ≠ [] := partsG_ne _ _ _ _
  obtain ⟨g, cap, hv, _⟩ := own_strs ho hne
  rw [← strs_length] at hv
  exact ⟨g, _, cap, by rw [hv], rfl, show Own _ _ _ _ _ by rw [← hv]; exact ho, hb⟩
theorem own_empty (w : World) (B : Nat) (hB : B ≤ w.heap.size) : Own (w.alloc (.cells #[] 9)) B 9 (.slice (some ⟨w.heap.size, 0, none⟩) 0 0) [] :=
  World.ownsRow_made w #[] 0 hB (Nat.zero_le _) rfl
theorem cells_of {w : World} {B e g n cap : Nat} {xs : List Value} (h : Own w B e (.slice (some ⟨g, 0, none⟩) n cap) xs) : ∀ (j : Nat) (u : Value), xs[j]? = some u → w.cell? ((⟨g, 0, none⟩ : Addr).add j) = some u :=
  World.ownsRow.cells h rfl

/-- string([]byte of one sign) -/
theorem conv_one (u : World) (sb : UInt8) : (convert 36 9 (.slice (some ⟨u.heap.size, 0, none⟩) 1 1)).run Try.prog (u.alloc (.cells #[.int .u8 sb.toNat] 5)) = .ok (.string ⟨#[sb]⟩) (u.alloc (.cells #[.int .u8 sb.toNat] 5)) := by
  refine run_convert_bytes_back (P := Try.prog) _ 36 9 5 _ 1 [sb] Try.underlying36 Try.underlying5 Try.underlying9 fun j hj => ?_
  match j, hj with
  | 0, _ => simp [Addr.add]

set_option maxHeartbeats 1000000 in
theorem walk_guard (a0 a1 : ByteArray) (sb : UInt8) (b0 : a0.size ≤ 140737488351232) (b1 : a1.size ≤ 140737488351232) (w : World) (h : specB sb.toNat = true ∨ 2000 < a0.size ∨ 2000 < a1.size) :
    Calls Try.prog 6 #[.string a0, .string a1, .int .u8 sb.toNat] w fun e w' => e = .returned (.bool true) ∧ Below w.heap.size w w' := by
  by_cases h1 : (sb.toNat : Int) = 34
  · have e1 : ((sb.toNat : Int) == 34) = true := by simpa using h1
    clear h h1
    go_enter Try.func6, Try.ntmps6
    go_wp2_with (go_at_call 10; refine (awake_any _).mono ?_; rintro e w5 ⟨rfl, h5⟩)
    go_ret
    exact ⟨rfl, h5⟩
  have e1 : ((sb.toNat : Int) == 34) = false := by simpa using h1
  by_cases h2 : (sb.toNat : Int) = 60
  · have e2 : ((sb.toNat : Int) == 60) = true := by simpa using h2
    clear h h1 h2
    go_enter Try.func6, Try.ntmps6
    go_wp2_with (go_at_call 10; refine (awake_any _).mono ?_; rintro e w5 ⟨rfl, h5⟩)
    go_ret
    exact ⟨rfl, h5⟩
  have e2 : ((sb.toNat : Int) == 60) = false := by simpa using h2
  by_cases h3 : (sb.toNat : Int) = 62
  · have e3 : ((sb.toNat : Int) == 62) = true := by simpa using h3
    clear h h1 h2 h3
    go_enter Try.func6, Try.ntmps6
    go_wp2_with (go_at_call 10; refine (awake_any _).mono ?_; rintro e w5 ⟨rfl, h5⟩)
    go_ret
    exact ⟨rfl, h5⟩
  have e3 : ((sb.toNat : Int) == 62) = false := by simpa using h3
  have h' : 2000 < a0.size ∨ 2000 < a1.size := by
    rcases h with h | h
    · simp [specB, h1, h2, h3] at h
    · exact h
  clear h h1 h2 h3
  by_cases h4 : 2000 < a0.size
  · clear h'
    go_enter Try.func6, Try.ntmps6
    go_wp2_with (go_at_call 10; refine (awake_any _).mono ?_; rintro e w5 ⟨rfl, h5⟩)
    go_ret
    exact ⟨rfl, h5⟩
  · have h5 : 2000 < a1.size := by omega
    clear h'
    go_enter Try.func6, Try.ntmps6
    go_wp2_with (go_at_call 10; refine (awake_any _).mono ?_; rintro e w5 ⟨rfl, h5⟩)
    go_ret
    exact ⟨rfl, by assumption⟩

set_option maxHeartbeats 2000000 in
theorem walk_small (a0 a1 : ByteArray) (sb : UInt8) (w : World) (h0 : a0.size ≤ 2000) (h1 : a1.size ≤ 2000) (hsp : specB sb.toNat = false) :
    Calls Try.prog 6 #[.string a0, .string a1, .int .u8 sb.toNat] w fun e w' => e = .returned (.bool true) ∧ Below w.heap.size w w' := by
  have e1 : ((sb.toNat : Int) == 34) = false := by simp [specB] at hsp; simpa using hsp.1.1
  have e2 : ((sb.toNat : Int) == 60) = false := by simp [specB] at hsp; simpa using hsp.1.2
  have e3 : ((sb.toNat : Int) == 62) = false := by simp [specB] at hsp; simpa using hsp.2
  have HSP : Hid (specB sb.toNat = false) := hsp
  clear hsp
  go_enter Try.func6, Try.ntmps6
  go_wp2
  go_loop [7] (fun i => ∃ k : Nat, k ≤ a0.size + a1.size ∧ i = .int .i64 k ∧ Hid (∀ b ∈ (a0 ++ a1).data.toList.take k, specB b.toNat = false)) (fun i => a0.size + a1.size - (intOf i).toNat)
  case atStart => exact ⟨0, Nat.zero_le _, rfl, fun b hb => by simp at hb⟩
  case round =>
    obtain ⟨k, hk, rfl, hall⟩ := hrel
    by_cases hlt : k < a0.size + a1.size
    · have hsz : (a0 ++ a1).size = a0.size + a1.size := by simp [ByteArray.size_append]
      have hlt' : k < (a0 ++ a1).size := by omega
      by_cases hc : specB (a0 ++ a1)[k].toNat = true
      · by_cases c1 : ((a0 ++ a1)[k].toNat : Int) = 34
        · have f1 : (((a0 ++ a1)[k].toNat : Int) == 34) = true := by simpa using c1
          clear hc c1
          go_wp2_with (go_at_call 10; refine (awake_any _).mono ?_; rintro e w5 ⟨rfl, h5⟩)
          go_ret
          exact ⟨rfl, h5⟩
        have f1 : (((a0 ++ a1)[k].toNat : Int) == 34) = false := by simpa using c1
        by_cases c2 : ((a0 ++ a1)[k].toNat : Int) = 60
        · have f2 : (((a0 ++ a1)[k].toNat : Int) == 60) = true := by simpa using c2
          clear hc c1 c2
          go_wp2_with (go_at_call 10; refine (awake_any _).mono ?_; rintro e w5 ⟨rfl, h5⟩)
          go_ret
          exact ⟨rfl, h5⟩
        have f2 : (((a0 ++ a1)[k].toNat : Int) == 60) = false := by simpa using c2
        have f3 : (((a0 ++ a1)[k].toNat : Int) == 62) = true := by simpa [specB, c1, c2] using hc
        clear hc c1 c2
        go_wp2_with (go_at_call 10; refine (awake_any _).mono ?_; rintro e w5 ⟨rfl, h5⟩)
        go_ret
        exact ⟨rfl, h5⟩
      · have hc' : specB (a0 ++ a1)[k].toNat = false := by simpa using hc
        have hall' : Hid (∀ b ∈ (a0 ++ a1).data.toList.take (k + 1), specB b.toNat = false) := by
          show ∀ b ∈ _, _
          rw [take_snoc (a0 ++ a1) k hlt']
          intro b hb
          rcases List.mem_append.1 hb with hb | hb
          · exact hall.out b hb
          · simp at hb; rw [hb]; exact hc'
        have f1 : (((a0 ++ a1)[k].toNat : Int) == 34) = false := by simp [specB] at hc'; simpa using hc'.1.1
        have f2 : (((a0 ++ a1)[k].toNat : Int) == 60) = false := by simp [specB] at hc'; simpa using hc'.1.2
        have f3 : (((a0 ++ a1)[k].toNat : Int) == 62) = false := by simp [specB] at hc'; simpa using hc'.2
        clear hc hc' hall
        go_wp2
        go_round
        case rel => exact ⟨k + 1, by omega, by go_num, hall'⟩
        case measure => simp [intOf]; omega
    · have hla : ∀ b ∈ a0.data.toList, specB b.toNat = false := by
        intro b hb
        refine hall.out b ?_
        rw [take_all (a0 ++ a1) k (by rw [ByteArray.size_append]; omega), data_app]
        exact List.mem_append_left _ hb
      have hcat : (a0 ++ ByteArray.mk #[sb] ++ a1).data.toList = a0.data.toList ++ sb :: a1.data.toList := by rw [data_app, data_app]; simp
      have hP : partsV sb.toNat (a0 ++ ByteArray.mk #[sb] ++ a1).data.toList = partsV sb.toNat a0.data.toList ++ partsV sb.toNat a1.data.toList := by
        rw [hcat]; exact pieces _ sb rfl HSP.out _ _ _ hla
      have HP : Hid (partsV sb.toNat (a0 ++ ByteArray.mk #[sb] ++ a1).data.toList = partsV sb.toNat a0.data.toList ++ partsV sb.toNat a1.data.toList) := hP
      have hsz : (a0 ++ ByteArray.mk #[sb] ++ a1).size ≤ 1048576 := by
        rw [ByteArray.size_append, ByteArray.size_append]
        have : (ByteArray.mk #[sb]).size = 1 := rfl
        omega
      have HSZ : Hid ((a0 ++ ByteArray.mk #[sb] ++ a1).size ≤ 1048576) := hsz
      have hcv := fun u => conv_one u sb
      have hl0 := partsG_len (sb.toNat : Int) a0.data.toList pl0 []
      have hl1 := partsG_len (sb.toNat : Int) a1.data.toList pl0 []
      rw [len_data] at hl0 hl1
      have HL0 : Hid ((partsV sb.toNat a0.data.toList).length ≤ 2001) := by show (partsG _ _ _ _).length ≤ _; omega
      have HL1 : Hid ((partsV sb.toNat a1.data.toList).length ≤ 2001) := by show (partsG _ _ _ _).length ≤ _; omega
      have HNE : Hid (partsV sb.toNat a0.data.toList ≠ []) := partsG_ne _ _ _ _
      obtain ⟨j0, ki, kz0, kz1, kz2⟩ := info_parts info9
      clear hla hcat hP hsz hall hl0 hl1
      go_wp2_with fail
      refine (parts_pos _ _ _ HSZ.out).mono ?_
      rintro e w1 ⟨g1, n1, c1, rfl, L1, O1, h1'⟩
      rw [HP.out] at O1
      have E0 : Hid (Own (w1.alloc (.cells #[] 9)) w1.heap.size 9 (.slice (some ⟨w1.heap.size, 0, none⟩) 0 0) []) := own_empty w1 _ (Nat.le_refl _)
      have B0 : Below w1.heap.size w1 (w1.alloc (.cells #[] 9)) := (Below.refl _ _).alloc (Nat.le_refl _) _
      clear L1 HP HSZ
      go_wp2_with fail
      refine (parts_pos _ _ _ (by omega)).mono ?_
      rintro e w2 ⟨g2, n2, c2, rfl, L2, O2, h2'⟩
      have B2 : Below w1.heap.size w1 w2 := B0.trans (h2'.mono (by simp))
      have E2 := E0.out.below h2'
      have M2 := L2.out
      rw [strs_length] at M2
      have M2' : n2 ≤ 2001 := by have := HL0.out; omega
      go_wp2_with (first
        | (at_builtin; refine wp_app _ rfl (.tmp 66) (.tmp 69) 23 rfl w1.heap.size 9 j0 (.string .empty) 16 Try.underlying23 ki kz0 kz1 kz2 rfl _ _ rfl E2 ⟨g2, 0, none⟩ n2 c2 _ rfl L2.out (cells_of O2.out) (strs_one _) (by unfold maxLen; simp; omega) (by simp; omega) w1 B2 B2.size ?_; intro v3 w3 own3 hb3 hB3)
        | (go_at_call 8; refine (parts_pos _ _ _ (by omega)).mono ?_; rintro e w4 ⟨g4, n4, c4, rfl, L4, O4, h4'⟩; have own4 := own3.below h4'; have B4 : Below w1.heap.size w1 w4 := hb3.trans (h4'.mono hB3); have M4 := L4.out; rw [strs_length] at M4; have M4' : n4 ≤ 2001 := by have := HL1.out; omega)
        | (at_builtin; refine wp_app _ rfl (.tmp 70) (.tmp 73) 23 rfl w1.heap.size 9 j0 (.string .empty) 16 Try.underlying23 ki kz0 kz1 kz2 rfl _ _ rfl own4 ⟨g4, 0, none⟩ n4 c4 _ rfl L4.out (cells_of O4.out) (strs_one _) (by rw [List.nil_append, strs_length]; unfold maxLen; omega) (by rw [List.nil_append, strs_length]; omega) w1 B4 B4.size ?_; intro v5 w5 own5 hb5 hB5; rw [List.nil_append, ← strs_append] at own5)
        | (go_at_call 7; refine (texts_eq _ _ _ _ _ _ (O1.out.below hb5) own5 (by have := HNE.out; simp [this]) (by rw [List.length_append]; omega)).mono ?_; rintro e w6 ⟨rfl, q, rfl⟩)
        | (go_at_call 10; refine (awake_any _).mono ?_; rintro e w7 ⟨rfl, h7⟩))
      go_ret
      have hA : Below w.heap.size w (w.alloc (.cells #[.int .u8 sb.toNat] 5)) := (Below.refl _ _).alloc (Nat.le_refl _) _
      exact ⟨rfl, next (next (next (next hA h1') hb5) (below_drewN _ q)) h7⟩

theorem law_walk (a0 a1 : ByteArray) (a2 : Int) (b0 : a0.size ≤ 140737488351232) (b1 : a1.size ≤ 140737488351232) (w2 : (Lit.int .u8 a2).wf = true) (w : World) :
    Calls Try.prog 6 #[.string a0, .string a1, .int .u8 a2] w fun e w' => e = .returned (.bool true) ∧ Below w.heap.size w w' := by
  have hb := u8_of w2
  obtain ⟨sb, rfl⟩ : ∃ sb : UInt8, a2 = (sb.toNat : Int) := ⟨UInt8.ofNat a2.toNat, by rw [UInt8.toNat_ofNat']; omega⟩
  by_cases h : specB sb.toNat = true ∨ 2000 < a0.size ∨ 2000 < a1.size
  · exact walk_guard a0 a1 sb b0 b1 w h
  · exact walk_small a0 a1 sb w (by omega) (by omega) (by
      by_cases e : specB sb.toNat = true
      · exact absurd (Or.inl e) h
      · simpa using e)

end Go.Proofs.Ytbckenknkgkadab.scanPieces
