/-
  The contract of strings.ContainsAny where the signs are a blank and a tab: whatever bytes the text has.
-/
import Derived.Test.YtjbfdbccidhdfaaDoorFJ
import Derived.Test.YtjbfdbccidhdfaaDoorFD
import Derived.WalkMore
import Derived.Lib.OthersKept
namespace Go.Proofs.YtjbfdbccidhdfaaDoor
open Go.RowKit Sc
set_option linter.unusedVariables false
set_option maxRecDepth 20000

def blkL : List UInt8 := [32, 9]
theorem bany_high {b : UInt8} (h : 128 ≤ b.toNat) : blkL.contains b = false := by
  have : ∀ b : UInt8, 128 ≤ b.toNat → blkL.contains b = false := by apply byte_all; decide +kernel
  exact this b h
/-- Behind a rune. -/
theorem bnoAny_rune {s : ByteArray} {pos : Nat} (h : pos < s.size) (ha : 128 ≤ (s[pos]'h).toNat) (hno : Lib.NoAny s.data.toList blkL pos) : Lib.NoAny s.data.toList blkL (pos + (Utf8.decode s pos).2) := by
  obtain ⟨h1, h2, h3⟩ := decode_wide s pos h
  intro j b hj hb
  by_cases hlt : j < pos
  · exact hno j b hlt hb
  · by_cases he : j = pos
    · subst he
      have := getL s j h
      rw [this] at hb
      cases hb
      exact bany_high ha
    · obtain ⟨hk, hk2⟩ := h3 (j - pos) (by omega) (by omega)
      have e : pos + (j - pos) = j := by omega
      have := getL s j (by omega)
      rw [this] at hb
      cases hb
      simp only [e] at hk2
      exact bany_high hk2
set_option maxHeartbeats 1000000 in
theorem bindexRune_low (x : UInt8) (w : World) (h : x.toNat < 128) :
    Calls Tryd.prog 79 #[.string ⟨#[32, 9]⟩, .int .i32 x.toNat] w fun e w' => e = .returned (.int .i64 (Lib.indexByte [32, 9] x)) ∧ w' = w := by
  have h0 : (0 : Int) ≤ (x.toNat : Int) := by omega
  have h1 : (x.toNat : Int) < 128 := by omega
  have hc : IntKind.u8.wrap (x.toNat : Int) = (x.toNat : Int) := by
    simp [IntKind.wrap, IntKind.signed, IntKind.bits]; omega
  have K := hid (fun w' => strIndexByte_any ⟨#[32, 9]⟩ x w')
  go_enter Tryd.func79, Tryd.ntmps79
  go_wp2_with fail
  refine (K.out _).mono ?_
  rintro e w1 ⟨rfl, rfl⟩
  go_wp2
  go_ret
  exact ⟨rfl, rfl⟩
theorem bany_ascii : ∀ (j : Nat) (b : UInt8), (⟨#[32, 9]⟩ : ByteArray).data.toList[j]? = some b → b.toNat < 128 := by
  intro j b h
  have : b ∈ [32, 9] := List.mem_of_getElem? h
  simp at this
  rcases this with rfl | rfl <;> decide
set_option maxHeartbeats 1000000 in
set_option maxRecDepth 100000 in
theorem bindexAny_long (s : ByteArray) (w : World) (h8 : 8 < s.size) (hs : s.size ≤ 9223372036854775807) :
    Calls Tryd.prog 60 #[.string s, .string ⟨#[32, 9]⟩] w fun e w' => e = .returned (.int .i64 (Lib.indexAny s.data.toList blkL)) ∧ Below w.heap.size w w' := by
  have KM := hid (makeSet_any ⟨#[32, 9]⟩ w (by decide) bany_ascii)
  have h8z : decide ((8 : Int) < (s.size : Int)) = true := decide_eq_true (by omega)
  have hsz := Lib.setCells_size [32, 9]
  have hi2 := hid (show (Tryd.prog.info? 106).map (·.size) = some (Lib.setCells [32, 9]).size by rw [hsz]; exact (zero_of_info infoSet).2)
  have hzv := (zero_of_info infoSet).1
  have hcellAt : ∀ x : UInt8, ((w.alloc (.cells (Lib.setCells [32, 9]) 106)).alloc (.cells (Lib.setCells [32, 9]) 106)).cell? ⟨w.heap.size + 1, x.toNat, none⟩ = some (.bool (blkL.contains x)) := fun x => by
    rw [World.cell?_alloc_at _ _ _ _ (by simp), Lib.setCells_at]; rfl
  have HC := hid hcellAt
  have hb2 : Below w.heap.size w ((w.alloc (.cells (Lib.setCells [32, 9]) 106)).alloc (.cells (Lib.setCells [32, 9]) 106)) := ((Below.refl _ _).alloc (Nat.le_refl _) _).alloc (by simp) _
  have hrep : Hid ((Array.replicate 256 (Value.bool false)).size = (Lib.setCells [32, 9]).size) := show _ = _ by rw [hsz, Array.size_replicate]
  have HA1 : Hid ((w.alloc (.cells (Lib.setCells [32, 9]) 106)).heap.size = w.heap.size + 1) := show _ = _ by simp
  clear hcellAt hsz
  have K8 := hid (useSet_any (s.size : Int))
  rw [h8z] at K8
  go_enter Tryd.func60, Tryd.ntmps60
  go_wp2_with (first
    | (go_at_call 80; refine (K8.out _).mono ?_; rintro e w' ⟨rfl, hw⟩; rw [hw])
    | (go_at_call 81; refine KM.out.mono ?_; rintro e w' ⟨rfl, hw⟩; rw [hw])
    | (refine wp_store_new rfl (.tmp 6) (.tmp 30) 106 rfl rfl (Array.replicate 256 (.bool false)) (Lib.setCells [32, 9]) hi2.out hrep.out (Lib.setCells_one _) (w.heap.size + 1) HA1.out rfl rfl ?_))
  go_loopg [8] s.size (fun g s8 wx => ∃ i : Nat, i + g = s.size ∧ s8 = .int .i64 i ∧ wx = ((w.alloc (.cells (Lib.setCells [32, 9]) 106)).alloc (.cells (Lib.setCells [32, 9]) 106)) ∧ Hid (Lib.NoAny s.data.toList blkL i))
  case atStart => exact ⟨0, by omega, rfl, rfl, Lib.NoAny.zero _ _⟩
  case round =>
    obtain ⟨i, hig, rfl, rfl, HN⟩ := hrel
    cases gk with
    | zero =>
      obtain rfl : i = s.size := by omega
      have hiz : ¬ ((s.size : Int) < (s.size : Int)) := by omega
      have hv : Hid (Lib.indexAny s.data.toList blkL = -1) := Lib.indexAny_none (by rw [len_data]; exact HN.out)
      clear HN
      go_wp2
      go_ret
      exact ⟨by rw [hv.out]; rfl, hb2⟩
    | succ g =>
      have hi' : i < s.size := by omega
      have hiz : (i : Int) < (s.size : Int) := by omega
      have Hx := hid (getL s i hi')
      have hcx := HC.out s[i]
      cases hin : blkL.contains s[i] with
      | false =>
        rw [hin] at hcx
        have hn2 := hid (HN.out.succ Hx.out hin)
        have KH := hid (setHas_any _ _ _ _ hcx)
        clear HN hin hcx
        go_wp2_with (go_at_call 82; refine KH.out.mono ?_; rintro e w' ⟨rfl, hw⟩; rw [hw])
        go_roundg g
        case measure => omega
        case rel => exact ⟨i + 1, by omega, by first | rfl | simp, rfl, hn2⟩
      | true =>
        rw [hin] at hcx
        have hv : Hid (Lib.indexAny s.data.toList blkL = i) := Lib.indexAny_hit HN.out Hx.out hin
        have KH := hid (setHas_any _ _ _ _ hcx)
        clear HN hin hcx
        go_wp2_with (go_at_call 82; refine KH.out.mono ?_; rintro e w' ⟨rfl, hw⟩; rw [hw])
        go_ret
        exact ⟨by rw [hv.out]; rfl, hb2⟩
set_option maxHeartbeats 1000000 in
set_option maxRecDepth 100000 in
theorem bindexRune_err (w : World) :
    Calls Tryd.prog 79 #[.string ⟨#[32, 9]⟩, .int .i32 65533] w fun e w' => e = .returned (.int .i64 (-1)) ∧ Below w.heap.size w w' := by
  have hb : ∀ p, Below w.heap.size w (w.iter ⟨#[32, 9]⟩ p) := fun p => (Below.refl _ _).alloc (Nat.le_refl _) _
  have HB := hid hb
  clear hb
  go_enter Tryd.func79, Tryd.ntmps79
  go_wp2
  go_loopg [5, 6] 2 (fun g _ _ wx => ∃ i : Nat, i + g = 2 ∧ wx = w.iter ⟨#[32, 9]⟩ i)
  case atStart => exact ⟨0, rfl, rfl⟩
  case round =>
    obtain ⟨i, hig, rfl⟩ := hrel
    cases gk with
    | zero =>
      obtain rfl : i = 2 := by omega
      have hnx := fun ty => run_next_end (P := Tryd.prog) w ⟨#[32, 9]⟩ 2 ty (by decide)
      go_wp2
      go_ret
      exact ⟨rfl, HB.out _⟩
    | succ g =>
      have hi3 : i < 2 := by omega
      rcases (show i = 0 ∨ i = 1 by omega) with rfl | rfl
      · have hnx := fun ty => run_next_ascii (P := Tryd.prog) w ⟨#[32, 9]⟩ 0 ty (by decide) (by decide)
        have hnx2 : ∀ ty, (Instr.next (.pointer (some ⟨w.heap.size, 0, none⟩)) true ty).run Tryd.prog (w.iter ⟨#[32, 9]⟩ 0) = .ok (.tuple #[.bool true, .int .i64 0, .int .i32 32]) (w.iter ⟨#[32, 9]⟩ 1) := hnx
        clear hnx
        go_wp2
        go_roundg g
        case measure => omega
        case rel => exact ⟨1, by omega, rfl⟩
      · have hnx := fun ty => run_next_ascii (P := Tryd.prog) w ⟨#[32, 9]⟩ 1 ty (by decide) (by decide)
        have hnx2 : ∀ ty, (Instr.next (.pointer (some ⟨w.heap.size, 0, none⟩)) true ty).run Tryd.prog (w.iter ⟨#[32, 9]⟩ 1) = .ok (.tuple #[.bool true, .int .i64 1, .int .i32 9]) (w.iter ⟨#[32, 9]⟩ 2) := hnx
        clear hnx
        go_wp2
        go_roundg g
        case measure => omega
        case rel => exact ⟨2, by omega, rfl⟩
theorem three_casesT : ∀ (r : List UInt8), 1 ≤ r.length → r.length ≤ 3 → (∃ x, r = [x]) ∨ (∃ x y, r = [x, y]) ∨ (∃ x y z, r = [x, y, z])
  | [], h, _ => by simp at h
  | [x], _, _ => Or.inl ⟨x, rfl⟩
  | [x, y], _, _ => Or.inr (Or.inl ⟨x, y, rfl⟩)
  | [x, y, z], _, _ => Or.inr (Or.inr ⟨x, y, z, rfl⟩)
  | _ :: _ :: _ :: _ :: _, _, h => by simp at h
set_option maxHeartbeats 1000000 in
set_option maxRecDepth 1000000 in
theorem bindexRune_high (c : Nat) (w : World) (h : 128 ≤ c) (hc : c ≤ 2147483647) :
    Calls Tryd.prog 79 #[.string ⟨#[32, 9]⟩, .int .i32 c] w fun e w' => e = .returned (.int .i64 (-1)) ∧ Below w.heap.size w w' := by
  by_cases he : c = 65533
  · subst he; exact bindexRune_err w
  have e1 : ((c : Int) == 65533) = false := by simp; omega
  have h0 : (0 : Int) ≤ (c : Int) := by omega
  have h1 : ¬ ((c : Int) < 128) := by omega
  have KV := hid (validRune_any c w)
  obtain ⟨r, b, hen, hr1, hr2, hbb⟩ := encode_high h
  have HE := hid hen
  clear hen he
  have hw1 : IntKind.i64.wrap ((1 : Int) + 1) = 2 := by decide
  have hw2 : IntKind.i64.wrap ((2 : Int) + 1) = 3 := by decide
  have hw3 : IntKind.i64.wrap (2 : Int) = 2 := by decide
  have hw4 : IntKind.i64.wrap (3 : Int) = 3 := by decide
  have hb44 : ((9 : Int) != (b.toNat : Int)) = true := by simp; omega
  have k1 : Lib.indexByte [] b = -1 := rfl
  go_enter Tryd.func79, Tryd.ntmps79
  go_wp2_with fail
  refine KV.out.mono ?_
  rintro e w1 ⟨⟨vb, rfl⟩, rfl⟩
  cases vb with
  | false =>
    go_wp2
    go_ret
    exact ⟨rfl, Below.refl _ _⟩
  | true =>
    have hcase := three_casesT r hr1 hr2
    rcases hcase with ⟨x, rfl⟩ | ⟨x, y, rfl⟩ | ⟨x, y, z, rfl⟩
    · have hen : Utf8.encode (c : Int) = ⟨#[x, b]⟩ := HE.out
      have hq1 : ((((⟨#[32, 9]⟩ : ByteArray)[1]'(by decide)).toNat : Int) != (((⟨#[x, b]⟩ : ByteArray)[1]'(show (1 : Nat) < 2 by decide)).toNat : Int)) = true := hb44
      have hq2 : Lib.indexByte ByteArray.empty.data.toList ((⟨#[x, b]⟩ : ByteArray)[1]'(show (1 : Nat) < 2 by decide)) = -1 := k1
      go_wp2
      go_step3
      go_wp2
      go_loopg [9, 10] 0 (fun g p q wx => p = .int .i64 1 ∧ wx = w1)
      case atStart => exact ⟨rfl, rfl⟩
      case round =>
        obtain ⟨rfl, rfl⟩ := hrel
        go_wp2
        go_step3
        go_wp2
        go_quiet (fail)
        have hbq := below_drewN wr nq
        generalize wr.drewN nq = wq at hbq ⊢
        go_wp2
        go_quiet (first | (go_at_call 94; exact Calls.quiet_of_same (strIndexByte_any _ _ _)))
        have hbq2 := hbq.trans ((below_drewN wq nq).mono hbq.size)
        generalize wq.drewN nq = wq2 at hbq2 ⊢
        rw [hq2]
        go_wp2
        rw [Exit.noGoto_ret]
        try simp only [Exit.inBlock, Exit.then]
        rw [Exit.noGoto_ret]
        try simp only [Exit.inBlock]
        go_ret
        exact ⟨rfl, hbq2⟩
    · have hen : Utf8.encode (c : Int) = ⟨#[x, y, b]⟩ := HE.out
      go_wp2
      go_step3
      go_wp2
      go_loopg [9, 10] 0 (fun g p q wx => p = .int .i64 2 ∧ wx = w1)
      case atStart => exact ⟨rfl, rfl⟩
      case round =>
        obtain ⟨rfl, rfl⟩ := hrel
        go_wp2
        rw [Exit.noGoto_ret]
        try simp only [Exit.inBlock]
        go_ret
        exact ⟨rfl, Below.refl _ _⟩
    · have hen : Utf8.encode (c : Int) = ⟨#[x, y, z, b]⟩ := HE.out
      go_wp2
      go_step3
      go_wp2
      go_loopg [9, 10] 0 (fun g p q wx => p = .int .i64 3 ∧ wx = w1)
      case atStart => exact ⟨rfl, rfl⟩
      case round =>
        obtain ⟨rfl, rfl⟩ := hrel
        go_wp2
        rw [Exit.noGoto_ret]
        try simp only [Exit.inBlock]
        go_ret
        exact ⟨rfl, Below.refl _ _⟩
def blkB (l : List UInt8) : Bool := l.any blk
theorem blkL_is (b : UInt8) : blkL.contains b = blk b := by
  have : ∀ b : UInt8, blkL.contains b = blk b := by apply byte_all; decide +kernel
  exact this b
theorem blkB_index : ∀ l : List UInt8, decide (0 ≤ Lib.indexAny l blkL) = blkB l
  | [] => rfl
  | b :: l => by
    have ih := blkB_index l
    have hge := Lib.indexAny_ge blkL l
    have hb := blkL_is b
    unfold Lib.indexAny
    rw [hb]
    have e : blkB (b :: l) = (blk b || blkB l) := by simp [blkB]
    rw [e, ← ih]
    split
    · rename_i h; rw [h]; rfl
    · rename_i h
      rw [show blk b = false by simpa using h]
      split
      · rename_i h2
        have : Lib.indexAny l blkL = -1 := by simpa using h2
        rw [this]; decide
      · rename_i h2
        have : ¬ Lib.indexAny l blkL = -1 := by simpa using h2
        rw [Bool.false_or]
        congr 1
        apply propext
        omega
set_option maxHeartbeats 1000000 in
set_option maxRecDepth 1000000 in
theorem bindexAny_short (s : ByteArray) (w : World) (h8 : s.size ≤ 8) :
    Calls Tryd.prog 60 #[.string s, .string ⟨#[32, 9]⟩] w fun e w' => e = .returned (.int .i64 (Lib.indexAny s.data.toList blkL)) ∧ Below w.heap.size w w' := by
  have h8z : decide ((8 : Int) < (s.size : Int)) = false := decide_eq_false (by omega)
  have K8 := hid (useSet_any (s.size : Int))
  rw [h8z] at K8
  have hit0 : (w.iter s 0).heap[w.heap.size]? = some (.stringIter s 0) := World.iter_heap w s 0
  have hbi : Below w.heap.size w (w.iter s 0) := (Below.refl _ _).alloc (Nat.le_refl _) _
  have HI := hid hit0
  clear hit0
  go_enter Tryd.func60, Tryd.ntmps60
  go_wp2_with (go_at_call 80; refine (K8.out _).mono ?_; rintro e w' ⟨rfl, hw⟩; rw [hw])
  generalize w.iter s 0 = W at HI hbi ⊢
  go_loopg [9, 10] s.size (fun g _ _ wx => ∃ i : Nat, Hid (i + g = s.size) ∧ i ≤ s.size ∧ Hid (wx.heap[w.heap.size]? = some (.stringIter s i)) ∧ Hid (Lib.NoAny s.data.toList blkL i) ∧ Below w.heap.size w wx)
  case atStart => exact ⟨0, hid (by omega), by omega, HI, Lib.NoAny.zero _ _, hbi⟩
  case round =>
    clear HI hbi
    obtain ⟨i, hig, his, HI, HN, hb⟩ := hrel
    by_cases hlt : i < s.size
    · have hnx := fun ty => Lib.run_next_any_at (P := Tryd.prog) wr w.heap.size s i ty HI.out hlt
      obtain ⟨dw1, dw2, _⟩ := decode_wide s i hlt
      have HI2 := hid (Lib.iterAt_heap wr w.heap.size s i (i + (Utf8.decode s i).2) HI.out)
      have hb2 := Lib.below_iterAt hb (Nat.le_refl _) s (i + (Utf8.decode s i).2)
      have hgk : Hid (s.size - (i + (Utf8.decode s i).2) < gk) := show _ < _ by have := hig.out; omega
      have hltw : w.heap.size < (wr.iterAt w.heap.size s (i + (Utf8.decode s i).2)).heap.size := by rw [Lib.iterAt_size]; exact (Array.getElem?_eq_some_iff.1 HI.out).1
      by_cases hx : (s[i]'hlt).toNat < 128
      · have hda := decode_ascii s i hlt hx
        have KL := hid (fun w' => bindexRune_low s[i] w' hx)
        have hcon := Lib.contains_iff_indexByte blkL s[i]
        cases hin : blkL.contains s[i] with
        | true =>
          have hv : Hid (Lib.indexAny s.data.toList blkL = i) := Lib.indexAny_hit HN.out (getL s i hlt) hin
          have hge : (0 : Int) ≤ Lib.indexByte [32, 9] s[i] := of_decide_eq_true (by rw [← hin]; exact hcon.symm)
          rw [hda] at hnx hb2
          simp only at hnx hb2
          generalize wr.iterAt w.heap.size s (i + 1) = wi at hnx hb2
          clear HN hin hcon HI HI2 hda hltw
          go_wp2_with (go_at_call 79; refine (KL.out _).mono ?_; rintro e w' ⟨rfl, hw⟩; rw [hw])
          go_ret
          exact ⟨by rw [hv.out]; rfl, hb2⟩
        | false =>
          have hn2 := hid (HN.out.succ (getL s i hlt) hin)
          have hge : ¬ ((0 : Int) ≤ Lib.indexByte [32, 9] s[i]) := of_decide_eq_false (by rw [← hin]; exact hcon.symm)
          rw [hda] at hnx hb2 HI2 hgk
          simp only at hnx hb2 HI2 hgk
          generalize wr.iterAt w.heap.size s (i + 1) = wi at hnx hb2 HI2
          clear HN hin hcon HI hda hltw
          go_wp2_with (go_at_call 79; refine (KL.out _).mono ?_; rintro e w' ⟨rfl, hw⟩; rw [hw])
          go_roundg (s.size - (i + 1))
          case measure => exact hgk.out
          case rel => exact ⟨i + 1, hid (by omega), by omega, HI2, hn2, hb2⟩
      · have hhi := decode_high s i hlt (by omega)
        have hle := decode_le s i
        have KH := hid (fun w' => bindexRune_high (Utf8.decode s i).1 w' hhi.1 hle)
        have hn2 := hid (bnoAny_rune hlt (by omega) HN.out)
        generalize Utf8.decode s i = dd at hnx hb2 HI2 hgk KH hn2 dw1 dw2 hltw
        obtain ⟨dc, dn⟩ := dd
        simp only at hnx hb2 HI2 hgk KH hn2 dw1 dw2 hltw
        generalize wr.iterAt w.heap.size s (i + dn) = wi at hnx hb2 HI2 hltw
        clear HN HI hhi hle
        go_wp2_with fail
        refine (KH.out _).mono ?_
        rintro e w2 ⟨rfl, hw2⟩
        have HI3 : Hid (w2.heap[w.heap.size]? = some (.stringIter s (i + dn))) := show _ = _ by rw [hw2.block _ hltw]; exact HI2.out
        have hb3 := hb2.trans (hw2.mono hb2.size)
        clear HI2 hb2 hw2
        go_wp2
        go_roundg (s.size - (i + dn))
        case measure => exact hgk.out
        case rel => exact ⟨i + dn, hid (by omega), by omega, HI3, hn2, hb3⟩
    · have hnx := fun ty => Lib.run_next_end_at (P := Tryd.prog) wr w.heap.size s i ty HI.out hlt
      have hv : Hid (Lib.indexAny s.data.toList blkL = -1) := Lib.indexAny_none (fun j b hj hb => HN.out j b (by rw [len_data] at hj; omega) hb)
      clear HN HI
      go_wp2
      go_ret
      exact ⟨by rw [hv.out]; rfl, hb⟩
end Go.Proofs.YtjbfdbccidhdfaaDoor
