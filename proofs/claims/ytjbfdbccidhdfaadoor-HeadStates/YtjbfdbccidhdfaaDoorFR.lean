/-
  Base texts, one behind another: AWord, AMay, UMean, UPrint, URest, AField, AFields.
-/
import Derived.Test.YtjbfdbccidhdfaaDoorFQ
import Derived.Test.YtjbfdbccidhdfaaDoorFN
import Derived.Test.YtjbfdbccidhdfaaDoorFP
import Derived.Test.YtjbfdbccidhdfaaDoorFG
import Derived.Test.YtjbfdbccidhdfaaDoorFD
import Derived.Test.YtjbfdbccidhdfaaDoorFA

/-
  Contracts: package addr's quotable, quoted, word, shown; the document's own Word.
-/
namespace Go.Proofs.YtjbfdbccidhdfaaDoor
open Go.RowKit Sc
set_option linter.unusedVariables false
set_option maxRecDepth 20000

def quotB (l : List UInt8) : Bool := decide (l.length ≤ 64) && !hasBar l

set_option maxHeartbeats 400000 in
theorem quotable_any (l : List UInt8) (w : World) (hl : l.length ≤ 140737488355328) :
    Calls Tryd.prog 87 #[.string ⟨l.toArray⟩] w fun e w' => e = .returned (.bool (quotB l)) ∧ Below w.heap.size w w' := by
  have hs := size_list l
  by_cases h : l.length ≤ 64
  · cases hb : hasBar l with
    | true =>
      have hv : Hid (quotB l = false) := show _ = _ by simp [quotB, hb]
      have hq : quoteV l = ([], 11) := by rw [quoteV, hb]; rfl
      have K := hid (fun w' => quote_list l w' (by omega))
      rw [hq] at K
      clear hb hq
      go_enter Tryd.func87, Tryd.ntmps87
      go_wp2_with fail
      refine (K.out _).mono ?_
      rintro e w1 ⟨rfl, hw1⟩
      go_wp2
      go_ret
      exact ⟨ret_bool hv.out.symm, hw1⟩
    | false =>
      have hv : Hid (quotB l = true) := show _ = _ by simp [quotB, hb, h]
      have hq : quoteV l = (34 :: quo l ++ [34], 0) := by rw [quoteV, hb]; rfl
      have K := hid (fun w' => quote_list l w' (by omega))
      rw [hq] at K
      clear hb hq
      go_enter Tryd.func87, Tryd.ntmps87
      go_wp2_with fail
      refine (K.out _).mono ?_
      rintro e w1 ⟨rfl, hw1⟩
      go_wp2
      go_ret
      exact ⟨ret_bool hv.out.symm, hw1⟩
  · have hv : Hid (quotB l = false) := show _ = _ by simp [quotB, h]
    go_enter Tryd.func87, Tryd.ntmps87
    go_wp2
    go_ret
    exact ⟨ret_bool hv.out.symm, Below.refl _ _⟩

set_option maxHeartbeats 400000 in
theorem quoted_any (l : List UInt8) (w : World) (hl : l.length ≤ 1048576) :
    Calls Tryd.prog 91 #[.string ⟨l.toArray⟩] w fun e w' => e = .returned (.string ⟨(quoteV l).1.toArray⟩) ∧ Below w.heap.size w w' := by
  have K := hid (fun w' => quote_list l w' hl)
  generalize quoteV l = q at K ⊢
  obtain ⟨q, n⟩ := q
  go_enter Tryd.func91, Tryd.ntmps91
  go_wp2_with fail
  refine (K.out _).mono ?_
  rintro e w1 ⟨rfl, hw1⟩
  go_wp2
  go_ret
  exact ⟨rfl, hw1⟩

set_option maxHeartbeats 400000 in
theorem word_any (l : List UInt8) (w : World) (hl : l.length ≤ 140737488355328) :
    Calls Tryd.prog 86 #[.string ⟨l.toArray⟩] w fun e w' => e = .returned (.bool (wordB l)) ∧ Below w.heap.size w w' := by
  have K1 := hid (fun w' => token_list l w' hl)
  have K2 := hid (fun w' => lower_list l w' (by omega))
  have K3 := hid (fun w' => host_list (lowL l) w' (by rw [lowL_len]; exact hl))
  have hv : wordB l = (tokenB l || hostB (lowL l)) := rfl
  generalize wordB l = v at hv ⊢
  generalize tokenB l = t at K1 hv
  generalize lowL l = m at K2 K3 hv
  generalize hostB m = h at K3 hv
  cases t with
  | true =>
    have HV : Hid (v = true) := show _ = _ by rw [hv]; rfl
    clear hv K2 K3
    go_enter Tryd.func86, Tryd.ntmps86
    go_wp2_with fail
    refine (K1.out _).mono ?_
    rintro e w1 ⟨rfl, rfl⟩
    go_wp2
    go_ret
    exact ⟨ret_bool HV.out.symm, Below.refl _ _⟩
  | false =>
    have HV : Hid (v = h) := show _ = _ by rw [hv]; rfl
    clear hv
    go_enter Tryd.func86, Tryd.ntmps86
    go_wp2_with fail
    refine (K1.out _).mono ?_
    rintro e w1 ⟨rfl, rfl⟩
    go_wp2_with fail
    refine (K2.out _).mono ?_
    rintro e w2 ⟨rfl, hw2⟩
    go_wp2_with fail
    refine (K3.out _).mono ?_
    rintro e w3 ⟨rfl, hw3⟩
    go_wp2
    go_ret
    exact ⟨ret_bool HV.out.symm, hw2.trans (hw3.mono hw2.size)⟩

set_option maxHeartbeats 400000 in
theorem refword_any (l : List UInt8) (w : World) (hl : l.length ≤ 140737488355328) :
    Calls Tryd.prog 70 #[.string ⟨l.toArray⟩] w fun e w' => e = .returned (.bool (wordB l)) ∧ Below w.heap.size w w' := by
  have K1 := hid (fun w' => reftoken_list l w' hl)
  have K2 := hid (fun w' => reflower_l l w' hl)
  have K3 := hid (fun w' => refhost_list (lowL l) w' (by rw [lowL_len]; exact hl))
  have hv : wordB l = (tokenB l || hostB (lowL l)) := rfl
  generalize wordB l = v at hv ⊢
  generalize tokenB l = t at K1 hv
  generalize lowL l = m at K2 K3 hv
  generalize hostB m = h at K3 hv
  cases t with
  | true =>
    have HV : Hid (v = true) := show _ = _ by rw [hv]; rfl
    clear hv K2 K3
    go_enter Tryd.func70, Tryd.ntmps70
    go_wp2_with fail
    refine (K1.out _).mono ?_
    rintro e w1 ⟨rfl, rfl⟩
    go_wp2
    go_ret
    exact ⟨ret_bool HV.out.symm, Below.refl _ _⟩
  | false =>
    have HV : Hid (v = h) := show _ = _ by rw [hv]; rfl
    clear hv
    go_enter Tryd.func70, Tryd.ntmps70
    go_wp2_with fail
    refine (K1.out _).mono ?_
    rintro e w1 ⟨rfl, rfl⟩
    go_wp2_with fail
    refine (K2.out _).mono ?_
    rintro e w2 ⟨rfl, hw2⟩
    go_wp2_with fail
    refine (K3.out _).mono ?_
    rintro e w3 ⟨rfl, hw3⟩
    go_wp2
    go_ret
    exact ⟨ret_bool HV.out.symm, hw2.trans (hw3.mono hw2.size)⟩

theorem valT_quote {l : List UInt8} (h : hasBar l = false) : valT l = if wordB l = true then l else (quoteV l).1 := by
  unfold valT quoteV
  rw [h]; rfl
set_option maxHeartbeats 400000 in
theorem shown_any (l : List UInt8) (w : World) (hl : l.length ≤ 64) (hb : hasBar l = false) :
    Calls Tryd.prog 72 #[.string ⟨l.toArray⟩] w fun e w' => e = .returned (.string ⟨(valT l).toArray⟩) ∧ Below w.heap.size w w' := by
  have K1 := hid (fun w' => word_any l w' (by omega))
  have K2 := hid (fun w' => quoted_any l w' (by omega))
  have hv := valT_quote hb
  clear hb
  generalize (quoteV l).1 = q at K2 hv
  generalize valT l = v at hv ⊢
  cases ht : wordB l with
  | true =>
    rw [ht] at K1
    have HV : Hid (v = l) := show _ = _ by rw [hv, ht]; rfl
    clear hv K2 ht
    go_enter Tryd.func72, Tryd.ntmps72
    go_wp2_with fail
    refine (K1.out _).mono ?_
    rintro e w1 ⟨rfl, hw1⟩
    go_wp2
    go_ret
    exact ⟨by rw [HV.out]; rfl, hw1⟩
  | false =>
    rw [ht] at K1
    have HV : Hid (v = q) := show _ = _ by rw [hv, ht]; rfl
    clear hv ht
    go_enter Tryd.func72, Tryd.ntmps72
    go_wp2_with fail
    refine (K1.out _).mono ?_
    rintro e w1 ⟨rfl, hw1⟩
    go_wp2_with fail
    refine (K2.out _).mono ?_
    rintro e w2 ⟨rfl, hw2⟩
    go_wp2
    go_ret
    exact ⟨by rw [HV.out]; rfl, hw1.trans (hw2.mono hw1.size)⟩

end Go.Proofs.YtjbfdbccidhdfaaDoor

/-
  Contracts: package addr's mayStand; the document's own may.
-/
namespace Go.Proofs.YtjbfdbccidhdfaaDoor
open Go.RowKit Sc
set_option linter.unusedVariables false
set_option maxRecDepth 20000

theorem may_split (ps : List Par) (nm vl : List UInt8) (hs : Bool) : mayB ps ⟨nm, vl, hs⟩ = (tokenB nm && (quotB vl && ((hs || vl.isEmpty) && (findV ps nm).isNone))) := by
  simp only [mayB, quotB]
  generalize tokenB nm = a
  generalize (findV ps nm).isNone = b
  generalize decide (vl.length ≤ 64) = c
  generalize hasBar vl = d
  generalize vl.isEmpty = e
  revert a b c d e hs; decide
theorem val_found (ps : List Par) (nm : List UInt8) : (valV ps nm).2 = !(findV ps nm).isNone := by unfold valV; cases findV ps nm <;> rfl

set_option maxHeartbeats 1000000 in
theorem mayStand_any (p : Par) (v : Value) (ps : List Par) (w : World) (hn : p.name.length ≤ 140737488355328) (hvl : p.value.length ≤ 140737488355328) (hsm : SmallP 140737488355328 ps) (h : ParsAt w v ps) :
    Calls Tryd.prog 68 #[parV p, v] w fun e w' => e = .returned (.bool (mayB ps p)) ∧ Below w.heap.size w w' := by
  obtain ⟨nm, vl, hs⟩ := p
  simp only at hn hvl
  have hm := may_split ps nm vl hs
  have hfv := val_found ps nm
  have KT := hid (fun w' => token_list nm w' hn)
  have KQ := hid (fun w' => quotable_any vl w' hvl)
  have KV := hid (fun w' (hb : Below w.heap.size w w') => value_any v ps nm w' hn hsm (h.below hb))
  generalize mayB ps ⟨nm, vl, hs⟩ = m at hm ⊢
  generalize (findV ps nm).isNone = f at hm hfv
  generalize valV ps nm = vv at KV hfv
  obtain ⟨va, vb⟩ := vv
  simp only at hfv
  subst hfv
  generalize tokenB nm = t at KT hm
  generalize quotB vl = q at KQ hm
  obtain ⟨a, cap, rfl⟩ := h.form
  clear h hsm
  have hx := boxP_new w ⟨nm, vl, hs⟩ 94
  have hb0 : Below w.heap.size w (w.alloc (.cells #[.string ⟨nm.toArray⟩, .string ⟨vl.toArray⟩, .bool hs] 94)) := (Below.refl _ w).alloc (Nat.le_refl _) _
  have hlt := alloc_lt w (.cells #[.string ⟨nm.toArray⟩, .string ⟨vl.toArray⟩, .bool hs] 94)
  unfold parV
  simp only
  cases t with
  | false =>
    have HM : Hid (m = false) := show _ = _ by rw [hm]; rfl
    clear hm KQ KV hlt
    obtain ⟨x0, x1, x2⟩ := hx
    simp only at x0 x1 x2
    go_enter Tryd.func68, Tryd.ntmps68
    go_wp2_with fail
    refine (KT.out _).mono ?_
    rintro e w1 ⟨rfl, rfl⟩
    go_wp2
    go_ret
    exact ⟨ret_bool HM.out.symm, hb0⟩
  | true =>
    cases q with
    | false =>
      have HM : Hid (m = false) := show _ = _ by rw [hm]; rfl
      clear hm KV hlt
      obtain ⟨x0, x1, x2⟩ := hx
      simp only at x0 x1 x2
      go_enter Tryd.func68, Tryd.ntmps68
      go_wp2_with fail
      refine (KT.out _).mono ?_
      rintro e w1 ⟨rfl, rfl⟩
      go_wp2_with fail
      refine (KQ.out _).mono ?_
      rintro e w2 ⟨rfl, hw2⟩
      go_wp2
      go_ret
      exact ⟨ret_bool HM.out.symm, hb0.trans (hw2.mono hb0.size)⟩
    | true =>
      have hbx : ∀ w2, Below (w.alloc (.cells #[.string ⟨nm.toArray⟩, .string ⟨vl.toArray⟩, .bool hs] 94)).heap.size (w.alloc (.cells #[.string ⟨nm.toArray⟩, .string ⟨vl.toArray⟩, .bool hs] 94)) w2 → BoxP w2 w.heap.size ⟨nm, vl, hs⟩ := fun w2 h2 => hx.below h2 hlt
      have HBX := hid hbx
      clear hbx hlt
      obtain ⟨x0, x1, x2⟩ := hx
      simp only at x0 x1 x2
      cases hs with
      | true =>
        have HM : Hid (m = f) := show _ = _ by rw [hm]; simp
        clear hm
        go_enter Tryd.func68, Tryd.ntmps68
        go_wp2_with fail
        refine (KT.out _).mono ?_
        rintro e w1 ⟨rfl, rfl⟩
        go_wp2_with fail
        refine (KQ.out _).mono ?_
        rintro e w2 ⟨rfl, hw2⟩
        have hbx := HBX.out _ hw2
        have hb2 := hb0.trans (hw2.mono hb0.size)
        clear HBX hw2 x0 x1 x2 hb0
        obtain ⟨x0, x1, x2⟩ := hbx
        simp only at x0 x1 x2
        go_wp2_with fail
        refine (KV.out _ hb2).mono ?_
        rintro e w3 ⟨rfl, hw3⟩
        go_wp2
        go_ret
        exact ⟨ret_bool (by rw [HM.out]; try simp), hb2.trans (hw3.mono hb2.size)⟩
      | false =>
        cases hie : vl.isEmpty with
        | true =>
          have HM : Hid (m = f) := show _ = _ by rw [hm, hie]; simp
          clear hm
          go_enter Tryd.func68, Tryd.ntmps68
          go_wp2_with fail
          refine (KT.out _).mono ?_
          rintro e w1 ⟨rfl, rfl⟩
          go_wp2_with fail
          refine (KQ.out _).mono ?_
          rintro e w2 ⟨rfl, hw2⟩
          have hbx := HBX.out _ hw2
          have hb2 := hb0.trans (hw2.mono hb0.size)
          clear HBX hw2 x0 x1 x2 hb0
          obtain ⟨x0, x1, x2⟩ := hbx
          simp only at x0 x1 x2
          go_wp2_with fail
          refine (KV.out _ hb2).mono ?_
          rintro e w3 ⟨rfl, hw3⟩
          go_wp2
          go_ret
          exact ⟨ret_bool (by rw [HM.out]; try simp), hb2.trans (hw3.mono hb2.size)⟩
        | false =>
          have HM : Hid (m = false) := show _ = _ by rw [hm, hie]; simp
          clear hm KV
          go_enter Tryd.func68, Tryd.ntmps68
          go_wp2_with fail
          refine (KT.out _).mono ?_
          rintro e w1 ⟨rfl, rfl⟩
          go_wp2_with fail
          refine (KQ.out _).mono ?_
          rintro e w2 ⟨rfl, hw2⟩
          have hbx := HBX.out _ hw2
          have hb2 := hb0.trans (hw2.mono hb0.size)
          clear HBX hw2 x0 x1 x2 hb0
          obtain ⟨x0, x1, x2⟩ := hbx
          simp only at x0 x1 x2
          go_wp2
          go_ret
          exact ⟨ret_bool HM.out.symm, hb2⟩

theorem may_split2 (ps : List Par) (nm vl : List UInt8) (hs : Bool) : mayB ps ⟨nm, vl, hs⟩ = (tokenB nm && ((findV ps nm).isNone && (decide (vl.length ≤ 64) && (!hasBar vl && (hs || vl.isEmpty))))) := rfl
theorem quote_num (l : List UInt8) : (quoteV l).2 = if hasBar l = true then 11 else 0 := by unfold quoteV; cases hasBar l <;> rfl
theorem place_num (ps : List Par) (nm : List UInt8) (v : Value) (w : World) (hnm : nm.length ≤ 140737488355328) (hsm : SmallP 140737488355328 ps) (h : ParsAt w v ps) :
    Calls Tryd.prog 76 #[v, .string ⟨nm.toArray⟩] w fun e w' => (∃ r : Int, e = .returned (.int .i64 r) ∧ decide (r < 0) = (findV ps nm).isNone) ∧ Below w.heap.size w w' := by
  refine (place_any v ps nm w hnm hsm h).mono ?_
  rintro e w' ⟨⟨r, rfl, ⟨rfl, h2⟩ | ⟨k, hk, rfl, h2⟩⟩, hb⟩
  · exact ⟨⟨-1, rfl, by rw [h2]; rfl⟩, hb⟩
  · exact ⟨⟨k, rfl, by rw [h2]; simp⟩, hb⟩

set_option maxHeartbeats 2000000 in
theorem refmay_any (p : Par) (v : Value) (ps : List Par) (w : World) (hn : p.name.length ≤ 140737488355328) (hvl : p.value.length ≤ 1048576) (hsm : SmallP 140737488355328 ps) (h : ParsAt w v ps) :
    Calls Tryd.prog 71 #[v, parV p] w fun e w' => e = .returned (.bool (mayB ps p)) ∧ Below w.heap.size w w' := by
  obtain ⟨nm, vl, hs⟩ := p
  simp only at hn hvl
  have hm := may_split2 ps nm vl hs
  have hq := quote_num vl
  have z := size_list vl
  have KT := hid (fun w' => reftoken_list nm w' hn)
  have KQ := hid (fun w' => refquote_list vl w' hvl)
  have KP := hid (fun w' (hb : Below w.heap.size w w') => place_num ps nm v w' hn hsm (h.below hb))
  generalize mayB ps ⟨nm, vl, hs⟩ = m at hm ⊢
  generalize (findV ps nm).isNone = f at hm KP
  generalize tokenB nm = t at KT hm
  generalize quoteV vl = qq at KQ hq
  obtain ⟨qa, qn⟩ := qq
  simp only at hq KQ
  generalize hasBar vl = bar at hm hq
  obtain ⟨a, cap, rfl⟩ := h.form
  clear h hsm
  have hx := boxP_new w ⟨nm, vl, hs⟩ 94
  have hb0 : Below w.heap.size w (w.alloc (.cells #[.string ⟨nm.toArray⟩, .string ⟨vl.toArray⟩, .bool hs] 94)) := (Below.refl _ w).alloc (Nat.le_refl _) _
  have hlt := alloc_lt w (.cells #[.string ⟨nm.toArray⟩, .string ⟨vl.toArray⟩, .bool hs] 94)
  unfold parV
  simp only
  have HB := hid hx
  obtain ⟨x0, x1, x2⟩ := hx
  simp only at x0 x1 x2
  have HM := hid hm
  have HQ := hid hq
  clear hm hq
  go_enter Tryd.func71, Tryd.ntmps71
  go_wp2_with fail
  refine (KQ.out _).mono ?_
  rintro e w1 ⟨rfl, hw1⟩
  have HB1 := hid (BoxP.below HB.out hw1 hlt)
  have hb1 := hb0.trans (hw1.mono hb0.size)
  have hlt1 : w.heap.size < w1.heap.size := Nat.lt_of_lt_of_le hlt hw1.size
  clear HB hw1 hb0 hlt x0 x1 x2 KQ
  obtain ⟨x0, x1, x2⟩ := HB1.out
  simp only at x0 x1 x2
  go_wp2_with fail
  refine (KT.out _).mono ?_
  rintro e w2 ⟨rfl, rfl⟩
  clear KT
  cases t with
  | false =>
    go_wp2
    go_ret
    exact ⟨ret_bool (by rw [HM.out]; rfl), hb1⟩
  | true =>
    go_wp2_with fail
    refine (KP.out _ hb1).mono ?_
    rintro e w3 ⟨⟨r, rfl, hr⟩, hw3⟩
    have HB3 := hid (BoxP.below HB1.out hw3 hlt1)
    have hb3 := hb1.trans (hw3.mono hb1.size)
    clear HB1 hw3 hb1 hlt1 x0 x1 x2 KP
    obtain ⟨x0, x1, x2⟩ := HB3.out
    simp only at x0 x1 x2
    cases f with
    | false =>
      have hr' : ¬ r < 0 := of_decide_eq_false hr
      go_wp2
      go_ret
      exact ⟨ret_bool (by rw [HM.out]; simp), hb3⟩
    | true =>
      have hr' : r < 0 := of_decide_eq_true hr
      clear hr
      by_cases h64 : vl.length ≤ 64
      · cases bar with
        | true =>
          obtain rfl : qn = 11 := by rw [HQ.out]; rfl
          go_wp2
          go_ret
          exact ⟨ret_bool (by rw [HM.out]; simp), hb3⟩
        | false =>
          obtain rfl : qn = 0 := by rw [HQ.out]; rfl
          cases hs with
          | true =>
            go_wp2
            go_ret
            exact ⟨ret_bool (by rw [HM.out]; simp [h64]), hb3⟩
          | false =>
            cases hie : vl.isEmpty with
            | true =>
              have HM2 : Hid (m = true) := show _ = _ by rw [HM.out, hie]; simp [h64]
              clear HM
              go_wp2
              go_ret
              exact ⟨ret_bool HM2.out.symm, hb3⟩
            | false =>
              have HM2 : Hid (m = false) := show _ = _ by rw [HM.out, hie]; simp
              clear HM
              go_wp2
              go_ret
              exact ⟨ret_bool HM2.out.symm, hb3⟩
      · have HM2 : Hid (m = false) := show _ = _ by rw [HM.out, decide_eq_false h64]; simp
        clear HM
        go_wp2
        go_ret
        exact ⟨ret_bool HM2.out.symm, hb3⟩

end Go.Proofs.YtjbfdbccidhdfaaDoor

/-
  Contracts of package uri: meaning, fields, cutUser.
-/
namespace Go.Proofs.YtjbfdbccidhdfaaDoor
open Go.RowKit Sc
set_option linter.unusedVariables false
set_option maxRecDepth 20000

theorem idx_neg {keep : List UInt8} {b : UInt8} (h : hasL b keep = false) : Lib.indexByte keep b = -1 := by
  rcases idx_cases keep b with ⟨_, h2⟩ | ⟨a, c, h1, _, _⟩
  · exact h2
  · exfalso
    unfold hasL at h
    rw [h1] at h; simp at h
theorem idx_pos {keep : List UInt8} {b : UInt8} (h : hasL b keep = true) : 0 ≤ Lib.indexByte keep b := by
  rcases idx_cases keep b with ⟨h1, _⟩ | ⟨a, c, _, _, h3⟩
  · unfold hasL at h; simp [h1] at h
  · omega

theorem parsOf_snoc_some {keep : List UInt8} {ls : List (List UInt8)} {l : List UInt8} {ps : List Par} {p : Par} (h1 : parsOf keep ls = some ps) (h2 : parOf keep l = some p) : parsOf keep (ls ++ [l]) = some (ps ++ [p]) := by
  rw [parsOf_snoc, h1, h2]
theorem strCut_list (r : List UInt8) (c : UInt8) (w : World) (hs : r.length ≤ 9223372036854775807) :
    Calls Tryd.prog 58 #[.string ⟨r.toArray⟩, .string ⟨#[c]⟩] w fun e w' => e = .returned (.tuple #[.string ⟨(cutL c r).1.toArray⟩, .string ⟨(cutL c r).2.1.toArray⟩, .bool (cutL c r).2.2]) ∧ ∃ q, w' = w.drewN q :=
  strCut_any ⟨r.toArray⟩ c w (by rw [size_list]; exact hs)

theorem ret_user {p : List UInt8 × List UInt8 × Int} {x y : List UInt8} {b : Int} (h : p = (x, y, b)) : Ending.returned (.tuple #[.string ⟨x.toArray⟩, .string ⟨y.toArray⟩, .int .i64 b]) = .returned (.tuple #[.string ⟨p.1.toArray⟩, .string ⟨p.2.1.toArray⟩, .int .i64 p.2.2]) := by rw [h]
theorem usersK_arr : (⟨#[38, 61, 43, 36, 44, 59, 63, 47]⟩ : ByteArray) = ⟨usersK.toArray⟩ := rfl

end Go.Proofs.YtjbfdbccidhdfaaDoor

/-
  Contracts of package uri: written, Print.
-/
namespace Go.Proofs.YtjbfdbccidhdfaaDoor
open Go.RowKit Sc
set_option linter.unusedVariables false
set_option maxRecDepth 20000

theorem digits_int (n : Int) (w : World) (h0 : 0 ≤ n) (h1 : n ≤ 65535) :
    Calls Tryd.prog 41 #[.int .i64 n] w fun e w' => e = .returned (.string ⟨(digL n.toNat).toArray⟩) ∧ Below w.heap.size w w' := by
  have h := digits_any n.toNat w (by omega)
  have e : ((n.toNat : Nat) : Int) = n := by omega
  rw [e] at h
  exact h
theorem escLn (keep s : List UInt8) : (escL keep s).length ≤ 3 * s.length := by
  have := esc_cells_len (kpF keep) s
  rw [Lib.byteCells_length] at this
  exact this
theorem appL (a b : List UInt8) : (⟨a.toArray⟩ : ByteArray) ++ (⟨b.toArray⟩ : ByteArray) = ⟨(a ++ b).toArray⟩ := by
  apply ByteArray.ext; simp

/-- A list's text: one text ahead of its first parameter, another ahead of each other one. -/
def wrT (f n keep : List UInt8) (ps : List Par) : List UInt8 := (ps.zipIdx).flatMap fun (p, i) => (if i = 0 then f else n) ++ pairV keep p
theorem wrT_snoc {f n keep : List UInt8} {ps : List Par} {k : Nat} (hk : k < ps.length) : wrT f n keep (ps.take (k + 1)) = wrT f n keep (ps.take k) ++ ((if k = 0 then f else n) ++ pairV keep ps[k]) := by
  unfold wrT
  rw [List.take_succ_eq_append_getElem hk, List.zipIdx_append, List.flatMap_append, List.length_take, Nat.min_eq_left (by omega)]
  simp
theorem wrT_hdr (ps : List Par) : wrT [63] [38] headersK ps = hdrT ps := rfl
theorem wrT_pars (ps : List Par) : wrT [59] [59] paramsK ps = parsT ps := by
  unfold wrT parsT
  have key : ∀ (m : Nat) (qs : List Par), ((qs.zipIdx m).flatMap fun (p, i) => (if i = 0 then ([59] : List UInt8) else [59]) ++ pairV paramsK p) = qs.flatMap fun p => [59] ++ pairV paramsK p := by
    intro m qs
    induction qs generalizing m with
    | nil => rfl
    | cons q qs ih =>
      rw [List.zipIdx_cons, List.flatMap_cons, ih (m + 1), List.flatMap_cons]
      simp
  exact key 0 ps
theorem pairVn (keep : List UInt8) (p : Par) (h : parB p = true) : (pairV keep p).length ≤ 400 := by
  have hp := parB_ok h
  have l1 := escLn keep p.name
  have l2 := escLn keep p.value
  unfold pairV
  split
  · simp; omega
  · omega
theorem wrT_len (f n keep : List UInt8) (ps : List Par) (hf : f.length ≤ 1) (hn : n.length ≤ 1) (hp : ∀ p ∈ ps, parB p = true) : (wrT f n keep ps).length ≤ 401 * ps.length := by
  have key : ∀ k, k ≤ ps.length → (wrT f n keep (ps.take k)).length ≤ 401 * k := by
    intro k
    induction k with
    | zero => intro _; simp [wrT]
    | succ k ih =>
      intro hk
      have h1 := ih (by omega)
      have h2 := pairVn keep ps[k] (hp _ (List.getElem_mem (by omega)))
      rw [wrT_snoc (by omega), List.length_append, List.length_append]
      split <;> omega
  have := key ps.length (Nat.le_refl _)
  rwa [List.take_length] at this

theorem ret_prt {p : List UInt8 × Int} {x : List UInt8} {a : Int} (h : p = (x, a)) : Ending.returned (.tuple #[.string ⟨x.toArray⟩, .int .i64 a]) = .returned (.tuple #[.string ⟨p.1.toArray⟩, .int .i64 p.2]) := by rw [h]
theorem ret_prb {p : List UInt8 × Int} {b : ByteArray} {x : List UInt8} {a : Int} (h : p = (x, a)) (hb : b = ⟨x.toArray⟩) : Ending.returned (.tuple #[.string b, .int .i64 a]) = .returned (.tuple #[.string ⟨p.1.toArray⟩, .int .i64 p.2]) := by rw [h, hb]

theorem parK : (⟨#[91, 93, 47, 58, 38, 43, 36]⟩ : ByteArray) = ⟨paramsK.toArray⟩ := rfl
theorem hdrK : (⟨#[91, 93, 47, 63, 58, 43, 36]⟩ : ByteArray) = ⟨headersK.toArray⟩ := rfl

end Go.Proofs.YtjbfdbccidhdfaaDoor

/-
  Contracts of package uri: readRest, Parse.
-/
namespace Go.Proofs.YtjbfdbccidhdfaaDoor
open Go.RowKit Sc
set_option linter.unusedVariables false
set_option maxRecDepth 20000

def zeroU : List Value := [.string ⟨#[]⟩, .string ⟨#[]⟩, .string ⟨#[]⟩, .int .i64 0, .slice none 0 0, .slice none 0 0]
theorem OwnP.mono {w : World} {B C : Nat} {v : Value} {ps : List Par} (h : OwnP w B v ps) (hc : C ≤ B) : OwnP w C v ps := by
  obtain ⟨h1, h2⟩ := h
  refine ⟨h1, ?_⟩
  rcases h2 with h2 | ⟨g, cap, cur, hv, hg, r⟩
  · exact Or.inl h2
  · exact Or.inr ⟨g, cap, cur, hv, Nat.le_trans hc hg, r⟩
theorem OwnP.store {w : World} {B : Nat} {v : Value} {ps : List Par} (h : OwnP w B v ps) {b : Nat} (hb : b < B) (v0 v1 v2 v3 v4 v5 : Value) :
    OwnP ((((((w.setCell ⟨b, 0, none⟩ v0).setCell ⟨b, 1, none⟩ v1).setCell ⟨b, 2, none⟩ v2).setCell ⟨b, 3, none⟩ v3).setCell ⟨b, 4, none⟩ v4).setCell ⟨b, 5, none⟩ v5) B v ps :=
  ownsRow_setCell_below (ownsRow_setCell_below (ownsRow_setCell_below (ownsRow_setCell_below (ownsRow_setCell_below (ownsRow_setCell_below h hb _) hb _) hb _) hb _) hb _) hb _
theorem strs_none (w : World) (ao : Option Addr) (cap : Nat) : StrsAt w (.slice ao 0 cap) [] := ⟨ao, cap, rfl, fun k hk => by simp at hk⟩
theorem strs_tail {w2 w3 : World} {g cap : Nat} {p0 : List UInt8} {ps : List (List UInt8)} (HC : ∀ j (hj : j < (p0 :: ps).length), w2.cell? ⟨g, j, none⟩ = some (.string ⟨((p0 :: ps)[j]).toArray⟩)) (hg : g < w2.heap.size) (hb : Below w2.heap.size w2 w3) :
    StrsAt w3 (.slice (some ⟨g, 1, none⟩) ps.length cap) ps := by
  refine ⟨_, _, rfl, fun k hk => ⟨_, rfl, Nat.lt_of_lt_of_le hg hb.size, ?_⟩⟩
  have h := HC (k + 1) (by simpa using hk)
  rw [add_at, hb.cell (by exact hg), Nat.add_comm 1 k, h]
  simp
theorem strs_all {w2 : World} {g cap : Nat} {p0 : List UInt8} {ps : List (List UInt8)} (HC : ∀ j (hj : j < (p0 :: ps).length), w2.cell? ⟨g, j, none⟩ = some (.string ⟨((p0 :: ps)[j]).toArray⟩)) (hg : g < w2.heap.size) :
    StrsAt w2 (.slice (some ⟨g, 0, none⟩) (ps.length + 1) cap) (p0 :: ps) := by
  refine ⟨_, _, rfl, fun k hk => ⟨_, rfl, hg, ?_⟩⟩
  rw [add_at, Nat.zero_add]; exact HC k hk
theorem rest_of {s ca cb p0 wh : List UInt8} {cc : Bool} {ps0 : List (List UInt8)} {wp we : Int} (h1 : cutL 63 s = (ca, cb, cc)) (h2 : splitL 59 ca = p0 :: ps0) (h3 : whereV p0 = (wh, wp, we)) :
    restV s = if we ≠ 0 then (noU, we) else fillV (wh, wp, we) (parsOf paramsK ps0) (headsV cc cb) := by
  unfold restV
  simp only [h1, h2, h3, List.headD_cons, List.tail_cons]
theorem strCut_of {r a b : List UInt8} {f : Bool} {c : UInt8} (h : cutL c r = (a, b, f)) (w : World) (hs : r.length ≤ 9223372036854775807) :
    Calls Tryd.prog 58 #[.string ⟨r.toArray⟩, .string ⟨#[c]⟩] w fun e w' => e = .returned (.tuple #[.string ⟨a.toArray⟩, .string ⟨b.toArray⟩, .bool f]) ∧ Below w.heap.size w w' := by
  have k := strCut_list r c w hs
  rw [h] at k
  refine k.mono ?_
  rintro e w' ⟨rfl, q, rfl⟩
  exact ⟨rfl, below_drewN w q⟩
theorem strSplit_of {l p0 : List UInt8} {ps : List (List UInt8)} {c : UInt8} (h : splitL c l = p0 :: ps) (w : World) (hs : l.length ≤ 1048576) :
    Calls Tryd.prog 108 #[.string ⟨l.toArray⟩, .string ⟨#[c]⟩] w fun e w' => ∃ g cap, e = .returned (.slice (some ⟨g, 0, none⟩) (ps.length + 1) cap) ∧ ps.length + 1 ≤ cap ∧ g < w'.heap.size ∧ (∀ j (hj : j < (p0 :: ps).length), w'.cell? ⟨g, j, none⟩ = some (.string ⟨((p0 :: ps)[j]).toArray⟩)) ∧ Below w.heap.size w w' := by
  have k := strSplit_any ⟨l.toArray⟩ c w (by rw [size_list]; exact hs)
  refine k.mono ?_
  rintro e w' ⟨v, rfl, hown, hb⟩
  have hown2 : Own w' w.heap.size 9 v (strs (p0 :: ps)) := by rw [← h]; exact hown
  obtain ⟨g, cap, rfl, hc⟩ := own_strs hown2 (by simp)
  have hcap : ps.length + 1 ≤ cap ∧ g < w'.heap.size := by
    rcases hown2.2 with ⟨e, _⟩ | ⟨g', cap', cur, e, hB, hg, h1, h2, h3, h4⟩
    · simp at e
    · simp only [Value.slice.injEq, Option.some.injEq, Addr.mk.injEq] at e
      obtain ⟨⟨rfl, _⟩, _, rfl⟩ := e
      rw [strs_length] at h1
      refine ⟨h1, ?_⟩
      apply Classical.byContradiction
      intro hge
      rw [Array.getElem?_eq_none (by omega)] at hg
      cases hg
  exact ⟨g, cap, rfl, hcap.1, hcap.2, hc, hb⟩
end Go.Proofs.YtjbfdbccidhdfaaDoor

/-
  Contracts: package addr's field.
-/
namespace Go.Proofs.YtjbfdbccidhdfaaDoor
open Go.RowKit Sc
set_option linter.unusedVariables false
set_option maxRecDepth 20000

def fieldR (q : List UInt8) : Par × Bool :=
  if quoB (trimL (cutL 61 q).2.1) = true then (⟨trimL (cutL 61 q).1, (unquoteV (trimL (cutL 61 q).2.1)).1, (cutL 61 q).2.2⟩, (unquoteV (trimL (cutL 61 q).2.1)).2 == 0)
  else (⟨trimL (cutL 61 q).1, trimL (cutL 61 q).2.1, (cutL 61 q).2.2⟩, !(cutL 61 q).2.2 || wordB (trimL (cutL 61 q).2.1))
theorem fieldOf_R (q : List UInt8) : fieldOf q = if (fieldR q).2 = true then some (fieldR q).1 else none := by
  unfold fieldOf fieldR valueP
  generalize trimL (cutL 61 q).1 = nm
  generalize trimL (cutL 61 q).2.1 = v
  generalize (cutL 61 q).2.2 = hs
  cases quoB v with
  | true =>
    simp only [if_true]
    by_cases h : (unquoteV v).2 = 0
    · simp [h]
    · simp [h]
  | false =>
    simp only [Bool.false_eq_true, if_false]
    cases hs <;> cases wordB v <;> simp
theorem row3_any (w : World) (v0 v1 v2 : Value) (t : TypeId) : RowIs (w.alloc (.cells #[v0, v1, v2] t)) w.heap.size t [v0, v1, v2] := by
  unfold RowIs; rw [heap_alloc_new]
theorem unquote_len (l : List UInt8) : True := trivial
theorem fieldR_of {q a b : List UInt8} {hs : Bool} (h : cutL 61 q = (a, b, hs)) : fieldR q = if quoB (trimL b) = true then (⟨trimL a, (unquoteV (trimL b)).1, hs⟩, (unquoteV (trimL b)).2 == 0) else (⟨trimL a, trimL b, hs⟩, !hs || wordB (trimL b)) := by
  unfold fieldR; rw [h]
theorem ret_fieldR {q : List UInt8} {nm vl : List UInt8} {hs b : Bool} (h : fieldR q = (⟨nm, vl, hs⟩, b)) :
    Ending.returned (.tuple #[.agg #[.string ⟨nm.toArray⟩, .string ⟨vl.toArray⟩, .bool hs], .bool b]) = .returned (.tuple #[parV (fieldR q).1, .bool (fieldR q).2]) := by rw [h]; rfl

set_option maxHeartbeats 1000000 in
set_option maxRecDepth 100000 in
theorem field_any (q : List UInt8) (w : World) (hq : q.length ≤ 1048576) :
    Calls Tryd.prog 67 #[.string ⟨q.toArray⟩] w fun e w' => e = .returned (.tuple #[parV (fieldR q).1, .bool (fieldR q).2]) ∧ Below w.heap.size w w' := by
  have hcl := cutL_len 61 q
  obtain ⟨ca, cb, hs, hcut⟩ : ∃ ca cb cc, cutL 61 q = (ca, cb, cc) := ⟨_, _, _, rfl⟩
  rw [hcut] at hcl
  simp only at hcl
  have hv := fieldR_of hcut
  have hta := trimL_len ca
  have htb := trimL_len cb
  have KC := hid (fun w' => strCut_of hcut w' (by omega))
  have KA := hid (fun w' => trim_list ca w' (by omega))
  have KB := hid (fun w' => trim_list cb w' (by omega))
  clear hcut
  generalize trimL ca = nm at hv hta KA
  generalize trimL cb = vl at hv htb KB
  have hvl : vl.length ≤ 1048576 := by omega
  have KP := hid (fun w' => strPrefix_l vl w')
  have hr0 := row3_new w 94
  have hb0 : Below w.heap.size w (w.alloc (.cells #[.string ⟨#[]⟩, .string ⟨#[]⟩, .bool false] 94)) := (Below.refl _ w).alloc (Nat.le_refl _) _
  have hlt0 := alloc_lt w (.cells #[.string ⟨#[]⟩, .string ⟨#[]⟩, .bool false] 94)
  have HV := hid hv
  clear hv hta htb hcl
  go_enter Tryd.func67, Tryd.ntmps67
  go_wp2_with fail
  refine (KC.out _).mono ?_
  rintro e w1 ⟨rfl, hw1⟩
  have hr1 := hr0.below hw1 hlt0
  have hb1 := hb0.trans (hw1.mono hb0.size)
  have hlt1 := Nat.lt_of_lt_of_le hlt0 hw1.size
  clear hr0 hb0 hlt0 hw1 KC
  go_wp2_with fail
  refine (KA.out _).mono ?_
  rintro e w2 ⟨rfl, hw2⟩
  have hr2 := hr1.below hw2 hlt1
  have hb2 := hb1.trans (hw2.mono hb1.size)
  have hlt2 := Nat.lt_of_lt_of_le hlt1 hw2.size
  clear hr1 hb1 hlt1 hw2 KA
  go_wp2_with fail
  refine (KB.out _).mono ?_
  rintro e w3 ⟨rfl, hw3⟩
  have hr3 := hr2.below hw3 hlt2
  have hb3 := hb2.trans (hw3.mono hb2.size)
  have hlt3 := Nat.lt_of_lt_of_le hlt2 hw3.size
  clear hr2 hb2 hlt2 hw3 KB
  have hp4 := row3_any w3 (.string ⟨nm.toArray⟩) (.string ⟨vl.toArray⟩) (.bool hs) 94
  have hr4 := hr3.below ((Below.refl _ w3).alloc (Nat.le_refl _) (.cells #[.string ⟨nm.toArray⟩, .string ⟨vl.toArray⟩, .bool hs] 94)) hlt3
  have hb4 := hb3.alloc hb3.size (.cells #[.string ⟨nm.toArray⟩, .string ⟨vl.toArray⟩, .bool hs] 94)
  have hlt4 := alloc_lt w3 (.cells #[.string ⟨nm.toArray⟩, .string ⟨vl.toArray⟩, .bool hs] 94)
  clear hr3 hb3
  obtain ⟨p0, p1, p2, g0, g1, g2⟩ := hp4.three
  go_wp2_with fail
  refine (KP.out _).mono ?_
  rintro e w4 ⟨rfl, rfl⟩
  clear KP
  generalize World.alloc w3 _ = w4 at hp4 hr4 hb4 hlt4 p0 p1 p2 g0 g1 g2 ⊢
  generalize w3.heap.size = B at hp4 hlt3 hlt4 p0 p1 p2 g0 g1 g2 ⊢
  cases hqb : quoB vl with
  | true =>
    have KU := hid (fun w' => unquote_list vl w' (by omega))
    rw [hqb, if_pos rfl] at HV
    generalize unquoteV vl = u at KU HV
    obtain ⟨ut, un⟩ := u
    simp only at KU HV
    clear hqb
    go_wp2_with fail
    refine (KU.out _).mono ?_
    rintro e w5 ⟨rfl, hw5⟩
    have hp5 := hp4.below hw5 hlt4
    have hr5 := hr4.below hw5 (Nat.lt_trans hlt3 hlt4)
    have hb5 := hb4.trans (hw5.mono hb4.size)
    clear hp4 hr4 hb4 hw5 KU p0 p1 p2 g0 g1 g2
    have hp6 : RowIs (w5.setCell ⟨B, 1, none⟩ (.string ⟨ut.toArray⟩)) B 94 [.string ⟨nm.toArray⟩, .string ⟨ut.toArray⟩, .bool hs] := by simpa using hp5.set 1 (.string ⟨ut.toArray⟩)
    have hr6 := hr5.below (show Below B w5 (w5.setCell ⟨B, 1, none⟩ (.string ⟨ut.toArray⟩)) from (Below.refl B w5).setCell (Nat.le_refl B) _) hlt3
    have hb6 : Below w.heap.size w (w5.setCell ⟨B, 1, none⟩ (.string ⟨ut.toArray⟩)) := hb5.setCell (by exact Nat.le_of_lt hlt3) _
    obtain ⟨p0, p1, p2, g0, g1, g2⟩ := hp5.three
    obtain ⟨y0, y1, y2, f0, f1, f2⟩ := hr5.three
    go_wp2
    have hr7 := row_store3 hr6 (.string ⟨nm.toArray⟩) (.string ⟨ut.toArray⟩) (.bool hs)
    have hb7 := store_below3 hb6 w.heap.size (Nat.le_refl _) (.string ⟨nm.toArray⟩) (.string ⟨ut.toArray⟩) (.bool hs)
    generalize World.setCell _ _ _ = w7 at hr7 hb7 ⊢
    obtain ⟨d0, d1, d2, _, _, _⟩ := hr7.three
    try simp only [Exit.inBlock, Exit.then]
    refine bodyPost_ret (v := .tuple #[.agg #[.string ⟨nm.toArray⟩, .string ⟨ut.toArray⟩, .bool hs], .bool (un == 0)]) (by simp [results, Tryd.results67, go_sem, d0, d1, d2]; try rfl) rfl ?_
    exact ⟨ret_fieldR HV.out, hb7⟩
  | false =>
    rw [hqb, if_neg (by simp)] at HV
    obtain ⟨y0, y1, y2, f0, f1, f2⟩ := hr4.three
    clear hqb
    cases hs with
    | false =>
      have hv : Hid (fieldR q = (⟨nm, vl, false⟩, true)) := HV.out
      clear HV
      go_wp2
      go_region
      have hr7 := row_store3 hr4 (.string ⟨nm.toArray⟩) (.string ⟨vl.toArray⟩) (.bool false)
      have hb7 := store_below3 hb4 w.heap.size (Nat.le_refl _) (.string ⟨nm.toArray⟩) (.string ⟨vl.toArray⟩) (.bool false)
      generalize World.setCell _ _ _ = w7 at hr7 hb7 ⊢
      have hr8 : RowIs w7.drew w.heap.size 94 [.string ⟨nm.toArray⟩, .string ⟨vl.toArray⟩, .bool false] := hr7
      have hb8 : Below w.heap.size w w7.drew := hb7.drew
      generalize w7.drew = w8 at hr8 hb8 ⊢
      obtain ⟨d0, d1, d2, _, _, _⟩ := hr8.three
      go_wp2
      try simp only [Exit.inBlock, Exit.then]
      refine bodyPost_ret (v := .tuple #[.agg #[.string ⟨nm.toArray⟩, .string ⟨vl.toArray⟩, .bool false], .bool true]) (by simp [results, Tryd.results67, go_sem, d0, d1, d2]; try rfl) rfl ?_
      exact ⟨ret_fieldR hv.out, hb8⟩
    | true =>
      have KW := hid (fun w' => word_any vl w' (by omega))
      have hv : Hid (fieldR q = (⟨nm, vl, true⟩, wordB vl)) := show _ = _ by have h := HV.out; simpa using h
      generalize wordB vl = wb at KW hv
      clear HV
      go_wp2
      have KR := hid (fun w5 (h5 : Below w4.heap.size w4.drew w5) => And.intro (RowIs.three (RowIs.below (show RowIs w4.drew B 94 [.string ⟨nm.toArray⟩, .string ⟨vl.toArray⟩, .bool true] from hp4) h5 hlt4)) (And.intro (RowIs.three (RowIs.below (show RowIs w4.drew w.heap.size 94 [.string ⟨#[]⟩, .string ⟨#[]⟩, .bool false] from hr4) h5 (Nat.lt_trans hlt3 hlt4))) (And.intro (RowIs.below (show RowIs w4.drew w.heap.size 94 [.string ⟨#[]⟩, .string ⟨#[]⟩, .bool false] from hr4) h5 (Nat.lt_trans hlt3 hlt4)) (hb4.drew.trans (h5.mono hb4.size)))))
      go_region_with (go_at_call 86; refine (KW.out _).mono ?_; rintro e w5 ⟨rfl, hw5⟩; obtain ⟨⟨q0, q1, q2, _, _, _⟩, ⟨z0, z1, z2, k0, k1, k2⟩, hr5, hb5⟩ := KR.out w5 hw5)
      all_goals (
        have hr7 := row_store3 hr5 (.string ⟨nm.toArray⟩) (.string ⟨vl.toArray⟩) (.bool true)
        have hb7 := store_below3 hb5 w.heap.size (Nat.le_refl _) (.string ⟨nm.toArray⟩) (.string ⟨vl.toArray⟩) (.bool true)
        generalize World.setCell _ _ _ = w7 at hr7 hb7 ⊢
        obtain ⟨d0, d1, d2, _, _, _⟩ := hr7.three
        go_wp2
        try simp only [Exit.inBlock, Exit.then]
        refine bodyPost_ret (v := .tuple #[.agg #[.string ⟨nm.toArray⟩, .string ⟨vl.toArray⟩, .bool true], .bool wb]) (by simp [results, Tryd.results67, go_sem, d0, d1, d2]; try rfl) rfl ?_
        exact ⟨ret_fieldR hv.out, hb7⟩)

end Go.Proofs.YtjbfdbccidhdfaaDoor

/-
  Contracts: Fields, of package addr and of the document.
-/
namespace Go.Proofs.YtjbfdbccidhdfaaDoor
open Go.RowKit Sc
set_option linter.unusedVariables false
set_option maxRecDepth 20000

theorem unq_len : ∀ (n : Nat) (l r : List UInt8), l.length ≤ n → unq l = some r → r.length ≤ l.length
  | 0, l, r, hl, h => by
    obtain rfl := List.eq_nil_of_length_eq_zero (Nat.le_zero.1 hl)
    simp [unq] at h; subst h; simp
  | n + 1, [], r, hl, h => by simp [unq] at h; subst h; simp
  | n + 1, [b], r, hl, h => by
    rw [unq] at h
    split at h
    · simp at h; subst h; simp
    · simp at h
  | n + 1, b :: c :: r', r, hl, h => by
    rw [unq] at h
    split at h
    · split at h
      · simp at h
      · simp only [Option.map_eq_some_iff] at h
        obtain ⟨x, hx, rfl⟩ := h
        have := unq_len n r' x (by simp at hl; omega) hx
        simp; omega
    · split at h
      · simp only [Option.map_eq_some_iff] at h
        obtain ⟨x, hx, rfl⟩ := h
        have := unq_len n (c :: r') x (by simp at hl ⊢; omega) hx
        simp at this ⊢; omega
      · simp at h
theorem unqV_len (l : List UInt8) : (unquoteV l).1.length ≤ l.length := by
  unfold unquoteV
  split
  · simp
  · split
    · rename_i x hx
      have := unq_len _ _ _ (Nat.le_refl _) hx
      have h2 : (mid l 1 (l.length - 1)).length ≤ l.length := by unfold mid; simp; omega
      simp; omega
    · simp
theorem fieldR_len {q : List UInt8} (h : q.length ≤ 1048576) : (fieldR q).1.name.length ≤ 1048576 ∧ (fieldR q).1.value.length ≤ 1048576 := by
  have hcl := cutL_len 61 q
  unfold fieldR
  have h1 := trimL_len (cutL 61 q).1
  have h2 := trimL_len (cutL 61 q).2.1
  have h3 := unqV_len (trimL (cutL 61 q).2.1)
  split <;> simp <;> omega
theorem small_snoc {ps : List Par} {p : Par} (h : SmallP 140737488355328 ps) (hl : ps.length ≤ 16) (hm : mayB ps p = true) : SmallP 140737488355328 (ps ++ [p]) := by
  obtain ⟨m1, _, m3, _, _⟩ := may_facts hm
  obtain ⟨_, t2, _⟩ := tok_facts m1
  refine ⟨by simp; omega, fun x hx => ?_⟩
  rcases List.mem_append.1 hx with hx | hx
  · exact h.2 x hx
  · obtain rfl := List.mem_singleton.1 hx
    omega
theorem fieldOf_yes {q : List UInt8} {p : Par} (h : fieldR q = (p, true)) : fieldOf q = some p := by rw [fieldOf_R, h]; rfl
theorem fieldOf_no {q : List UInt8} {p : Par} (h : fieldR q = (p, false)) : fieldOf q = none := by rw [fieldOf_R, h]; rfl
def FieldsRes (ls : List (List UInt8)) (w w' : World) (v : Value) (n : Int) : Prop := n = (fieldsV ls).2 ∧ OwnP w' w.heap.size v (fieldsV ls).1
theorem fres_bad {ls : List (List UInt8)} {w w' : World} (h : fieldsV ls = ([], 34)) : FieldsRes ls w w' (.slice none 0 0) 34 := ⟨by rw [h], by rw [h]; exact OwnP.nil _ _⟩
theorem new_par (w4 : World) (p : Par) (t : TypeId) : ∀ (j : Nat) (u : Value), (parCells p)[j]? = some u → (w4.alloc (.cells #[.string ⟨p.name.toArray⟩, .string ⟨p.value.toArray⟩, .bool p.has] t)).cell? ((⟨w4.heap.size, 0, none⟩ : Addr).add j) = some u := by
  intro j u hj
  have e : (⟨w4.heap.size, 0, none⟩ : Addr).add j = ⟨w4.heap.size, j, none⟩ := by unfold Addr.add; split <;> simp_all
  rw [e]
  unfold World.cell?
  rw [heap_alloc_new]
  simpa [parCells] using hj

set_option maxHeartbeats 400000 in
set_option maxRecDepth 100000 in
theorem afields_any (v : Value) (ls : List (List UInt8)) (w : World) (hl : ∀ l ∈ ls, l.length ≤ 1048576) (hv : StrsAt w v ls) :
    Calls Tryd.prog 44 #[v] w fun e w' => ∃ v' n, e = .returned (.tuple #[v', .int .i64 n]) ∧ FieldsRes ls w w' v' n ∧ Below w.heap.size w w' := by
  obtain ⟨i0, hi, hz0, hz1, hz2⟩ := info_parts infoPar
  obtain ⟨ao, cap, rfl, hc⟩ := hv
  have HC := hid hc; clear hc
  have HL := hid hl; clear hl
  obtain ⟨n, hn'⟩ : ∃ n, n = ls.length := ⟨_, rfl⟩
  rw [← hn']
  by_cases h16 : n ≤ 16
  · have hbad : Hid (fieldsG [] ls = none → fieldsV ls = ([], 34)) := fun h => fieldsV_bad (by omega) h
    have hgood : Hid (∀ ps, fieldsG [] ls = some ps → fieldsV ls = (ps, 0)) := fun ps h => fieldsV_ok (by omega) h
    have HN := hid hn'; clear hn'
    go_enter Tryd.func44, Tryd.ntmps44
    go_wp2
    go_loopw [4, 14] (fun x i wr => ∃ (k : Nat) (out : List Par), k ≤ n ∧ i = .int .i64 k ∧ Hid (fieldsG [] ls = fieldsG out (ls.drop k)) ∧ Hid (out.length = k) ∧ Hid (SmallP 140737488355328 out) ∧ Hid (OwnP wr w.heap.size x out) ∧ Below w.heap.size w wr ∧ w.heap.size ≤ wr.heap.size) (fun _ i _ => n - (intOf i).toNat)
    case atStart => exact ⟨0, [], by omega, rfl, rfl, hid rfl, hid ⟨by simp, by simp⟩, OwnP.nil _ _, Below.refl _ _, Nat.le_refl _⟩
    case round =>
      obtain ⟨k, out, hkn, rfl, hps, hpl, hsm, hown, hb, hB⟩ := hrel
      by_cases hlt : k < n
      · have hkl : k < ls.length := by have := HN.out; omega
        obtain ⟨a, hao, hab, hcell⟩ := HC.out k hkl
        have hcell2 := cell_below hb (by rw [add_block]; exact hab) hcell
        have hll := HL.out _ (List.getElem_mem hkl)
        subst hao
        clear hcell
        have hfl := fieldR_len hll
        have KF := hid (fun w' => field_any ls[k] w' hll)
        have hon := @fields_on ls out k
        have hno := @fields_none ls out k hkl hps.out
        have hnot := @fields_not ls out k
        have hy := @fieldOf_yes ls[k]
        have hnn := @fieldOf_no ls[k]
        generalize fieldR ls[k] = fr at KF hy hnn hfl
        obtain ⟨⟨pn, pv, ph⟩, pb⟩ := fr
        simp only at hfl
        unfold parV at KF
        simp only at KF
        cases pb with
        | false =>
          have hnone : Hid (fieldsV ls = ([], 34)) := hbad.out (hno (hnn rfl))
          clear hon hno hnot hy hnn
          go_wp2_with fail
          refine (KF.out _).mono ?_
          rintro e w1 ⟨rfl, hw1⟩
          have hb1 := (hb.trans (hw1.mono hB)).alloc (Nat.le_trans hB hw1.size) (.cells #[.string ⟨pn.toArray⟩, .string ⟨pv.toArray⟩, .bool ph] 94)
          go_wp2
          go_ret2
          exact ⟨_, _, rfl, fres_bad hnone.out, hb1⟩
        | true =>
          have KM := hid (fun (x : Value) (w' : World) (h : ParsAt w' x out) => mayStand_any ⟨pn, pv, ph⟩ x out w' (by simp only; omega) (by simp only; omega) hsm.out h)
          unfold parV at KM
          simp only at KM
          have hnm := hnot hkl hps.out (hy rfl)
          have hyes := hon hkl hps.out (hy rfl)
          have hss := @small_snoc out ⟨pn, pv, ph⟩ hsm.out (by have := hpl.out; omega)
          clear hon hno hnot hy hnn hps
          obtain ⟨xa, xc, hxe⟩ := hown.out.parsAt.form
          subst hxe
          go_wp2_with fail
          refine (KF.out _).mono ?_
          rintro e w1 ⟨rfl, hw1⟩
          have hA := (Below.refl _ w1).alloc (Nat.le_refl _) (.cells #[.string ⟨pn.toArray⟩, .string ⟨pv.toArray⟩, .bool ph] 94)
          have hbx := boxP_new w1 ⟨pn, pv, ph⟩ 94
          have hltx := alloc_lt w1 (.cells #[.string ⟨pn.toArray⟩, .string ⟨pv.toArray⟩, .bool ph] 94)
          have hown1 := hid ((hown.out.below hw1).below hA)
          have hb1 := (hb.trans (hw1.mono hB)).alloc (Nat.le_trans hB hw1.size) (.cells #[.string ⟨pn.toArray⟩, .string ⟨pv.toArray⟩, .bool ph] 94)
          have HBX := hid hbx
          obtain ⟨x0, x1, x2⟩ := hbx
          simp only at x0 x1 x2
          clear hown hw1 hA KF hb
          go_wp2_with fail
          refine (KM.out _ _ hown1.out.parsAt).mono ?_
          rintro e w2 ⟨rfl, hw2⟩
          have hown2 := hown1.out.below hw2
          have HB2 := BoxP.below HBX.out hw2 hltx
          have hb2 := hb1.trans (hw2.mono hb1.size)
          clear hown1 HBX hw2 hb1 hltx KM x0 x1 x2
          cases hmay : mayB out ⟨pn, pv, ph⟩ with
          | false =>
            have hnone : Hid (fieldsV ls = ([], 34)) := hbad.out (hnm hmay)
            clear hnm hyes hss hmay
            go_wp2
            go_ret2
            exact ⟨_, _, rfl, fres_bad hnone.out, hb2⟩
          | true =>
            have hnext := hid (hyes hmay)
            have hsm2 := hid (hss hmay)
            have hB2 := hb2.size
            clear hnm hyes hss hmay hsm
            obtain ⟨x0, x1, x2⟩ := HB2
            simp only at x0 x1 x2
            have HNW := hid (new_par w2 ⟨pn, pv, ph⟩ 94)
            go_wp2_with (at_builtin; refine wp_appP _ rfl (.tmp 31) (.tmp 33) 38 rfl w.heap.size i0 _ Tryd.underlying38 hi hz0 hz1 hz2 rfl _ out rfl (hown2.alloc _) ⟨w2.heap.size, 0, none⟩ 1 ⟨pn, pv, ph⟩ rfl (by exact HNW.out) (by have := hpl.out; omega) w (hb2.alloc hB2 _) (by simp; omega) ?_; intro v5 w5 hown5 hb5 hB5)
            have HO5 := hid hown5
            clear hown5
            go_wp2
            go_roundw
            case rel => exact ⟨k + 1, out ++ [⟨pn, pv, ph⟩], by omega, by go_num, hnext, hid (by have := hpl.out; simp; omega), hsm2, HO5, hb5, hB5⟩
            case measure => simp [intOf]; omega
      · have hend : Hid (fieldsV ls = (out, 0)) := hgood.out out (by
          have h := hps.out
          have e := HN.out
          rw [List.drop_of_length_le (by omega)] at h; exact h)
        clear hps
        go_wp2
        go_ret2
        exact ⟨_, _, rfl, ⟨by rw [hend.out], by rw [hend.out]; exact hown.out⟩, hb⟩
  · have hmany : Hid (fieldsV ls = ([], 4)) := fieldsV_many (by omega)
    have h16' : (16 : Int) < (n : Int) := by omega
    clear hn'
    go_enter Tryd.func44, Tryd.ntmps44
    go_wp2
    go_ret2
    exact ⟨_, _, rfl, ⟨by rw [hmany.out], by rw [hmany.out]; exact OwnP.nil _ _⟩, Below.refl _ _⟩

end Go.Proofs.YtjbfdbccidhdfaaDoor
