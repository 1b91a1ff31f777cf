/-
  Contracts: the document's own Seq, Cseq, Call and Time.
-/
import Derived.Test.YtjbfdbccidhdfaaDoorHeadL
import Derived.Test.YtjbfdbccidhdfaaDoorHeadStepL
import Derived.Test.YtjbfdbccidhdfaaDoorFD
import Derived.Test.YtjbfdbccidhdfaaDoorFB
namespace Go.Proofs.YtjbfdbccidhdfaaDoor
open Go.RowKit Sc
set_option linter.unusedVariables false
set_option maxRecDepth 20000

theorem refnumber_list (l : List UInt8) (w : World) (h : l.length ≤ 140737488355328) :
    Calls Tryd.prog 39 #[.string ⟨l.toArray⟩, .int .i64 2147483647] w fun e w' => e = .returned (.tuple #[.int .i64 (numV maxS l).1, .int .i64 (numV maxS l).2]) ∧ w' = w := refnumber_any ⟨l.toArray⟩ 2147483647 w (by rw [size_list]; unfold maxLen; omega) (by omega) (by omega)
theorem refdigits_h (n : Int) (w : World) (h0 : 0 ≤ n) (h1 : n ≤ 9223372036854775807) :
    Calls Tryd.prog 42 #[.int .i64 n] w fun e w' => e = .returned (.string ⟨(digL n.toNat).toArray⟩) ∧ Below w.heap.size w w' := by
  refine (refdigits_any n.toNat n w (by omega) h0 h1).mono ?_
  rintro e w' ⟨rfl, q, rfl⟩
  exact ⟨rfl, below_drewN w q⟩

set_option maxHeartbeats 1000000 in
set_option maxRecDepth 100000 in
theorem rtime_any (s : List UInt8) (w : World) (hs : s.length ≤ 140737488355328) :
    Calls Tryd.prog 14 #[.string ⟨s.toArray⟩] w fun e w' => e = .returned (.tuple #[.int .i64 (timeV s).1, .int .i64 (timeV s).2]) ∧ Below w.heap.size w w' := by
  have hts := trimL_len s
  have KT := hid (fun w' => reftrim_list s w' (by omega))
  have KN := hid (fun w' => refnumber_list (trimL s) w' (by omega))
  have HV : Hid (timeV s = if (numV maxS (trimL s)).2 = 9 then ((maxS : Int), 0) else numV maxS (trimL s)) := show _ = _ from rfl
  generalize timeV s = R at HV ⊢
  generalize trimL s = t at KT KN HV hts
  generalize numV maxS t = nv at KN HV
  obtain ⟨n, e⟩ := nv
  simp only at KN HV
  go_enter Tryd.func14, Tryd.ntmps14
  go_wp2_with fail
  refine (KT.out _).mono ?_
  rintro e1 w1 ⟨rfl, hw1⟩
  rw [hw1]
  go_wp2_with fail
  refine (KN.out _).mono ?_
  rintro e2 w2 ⟨rfl, hw2⟩
  rw [hw2]
  clear hw1 hw2
  by_cases h9 : e = 9
  · subst h9
    have HR : Hid (R = (2147483647, 0)) := show _ = _ by rw [HV.out, if_pos rfl]; rfl
    clear HV
    go_wp2
    go_ret2
    exact ⟨by rw [HR.out]; rfl, Below.refl _ _⟩
  · have HR : Hid (R = (n, e)) := show _ = _ by rw [HV.out, if_neg h9]
    have h9b : (e == 9) = false := by simpa using h9
    clear HV
    go_wp2
    go_ret2
    exact ⟨by rw [HR.out]; rfl, Below.refl _ _⟩

set_option maxHeartbeats 1000000 in
set_option maxRecDepth 100000 in
theorem rcseq_any (n : Int) (m : List UInt8) (w : World) (hn0 : -9223372036854775808 ≤ n) (hn1 : n ≤ 9223372036854775807) (hm : m.length ≤ 140737488355328) :
    Calls Tryd.prog 12 #[.int .i64 n, .string ⟨m.toArray⟩] w fun e w' => e = .returned (.tuple #[.string ⟨(cseqV n m).1.toArray⟩, .int .i64 (cseqV n m).2]) ∧ Below w.heap.size w w' := by
  have KT := hid (fun w' => reftoken_list m w' hm)
  have HV : Hid (cseqV n m = if n < 0 ∨ (maxS : Int) < n ∨ tokenB m = false then ([], 80) else (digL n.toNat ++ [32] ++ m, 0)) := show _ = _ from rfl
  generalize cseqV n m = R at HV ⊢
  have hmx : (maxS : Int) = 2147483647 := rfl
  rw [hmx] at HV
  clear hmx
  by_cases h0 : n < 0
  · have d0 : decide (n < 0) = true := decide_eq_true h0
    have HR : Hid (R = ([], 80)) := show _ = _ by rw [HV.out, if_pos (Or.inl h0)]
    clear HV KT
    go_enter Tryd.func12, Tryd.ntmps12
    go_wp2
    go_ret2
    exact ⟨by rw [HR.out]; rfl, Below.refl _ _⟩
  · have d0 : decide (n < 0) = false := decide_eq_false h0
    by_cases h1 : 2147483647 < n
    · have d1 : decide (2147483647 < n) = true := decide_eq_true h1
      have HR : Hid (R = ([], 80)) := show _ = _ by rw [HV.out, if_pos (Or.inr (Or.inl h1))]
      clear HV KT
      go_enter Tryd.func12, Tryd.ntmps12
      go_wp2
      go_ret2
      exact ⟨by rw [HR.out]; rfl, Below.refl _ _⟩
    · have d1 : decide (2147483647 < n) = false := decide_eq_false h1
      have KD := hid (fun w' => refdigits_h n w' (by omega) hn1)
      have hdl := digL_len19 (n := n.toNat) (by omega)
      cases ht : tokenB m with
      | false =>
        have HR : Hid (R = ([], 80)) := show _ = _ by rw [HV.out, if_pos (Or.inr (Or.inr ht))]
        rw [ht] at KT
        clear HV KD
        go_enter Tryd.func12, Tryd.ntmps12
        go_wp2_with fail
        refine (KT.out _).mono ?_
        rintro e w1 ⟨rfl, hw1⟩
        rw [hw1]
        go_wp2
        go_ret2
        exact ⟨by rw [HR.out]; rfl, Below.refl _ _⟩
      | true =>
        have HR : Hid (R = (digL n.toNat ++ [32] ++ m, 0)) := show _ = _ by rw [HV.out, if_neg]; rw [ht]; simp; omega
        rw [ht] at KT
        generalize digL n.toNat = dl at KD HR hdl
        clear HV
        go_enter Tryd.func12, Tryd.ntmps12
        go_wp2_with fail
        refine (KT.out _).mono ?_
        rintro e w1 ⟨rfl, hw1⟩
        rw [hw1]
        go_wp2_with fail
        refine (KD.out _).mono ?_
        rintro e w2 ⟨rfl, hw2⟩
        go_wp2
        go_ret2
        exact ⟨by rw [HR.out, ← seqglue]; rfl, hw2⟩

set_option maxHeartbeats 1000000 in
set_option maxRecDepth 100000 in
theorem rcall_any (s : List UInt8) (w : World) (hs : s.length ≤ 140737488355328) :
    Calls Tryd.prog 16 #[.string ⟨s.toArray⟩] w fun e w' => e = .returned (.bool (callB s)) ∧ Below w.heap.size w w' := by
  have HN := hid (fun k (hk : k < s.length) (h : visB1 s[k] = false) => callB_bad hk h)
  have HS := hid (fun (h : ∀ b ∈ s, visB1 b = true) => callB_good h)
  have hz := size_list s
  generalize callB s = R at HN HS ⊢
  go_enter Tryd.func16, Tryd.ntmps16
  go_wp2
  go_loopw [3] (fun i wr => ∃ k : Nat, k ≤ s.length ∧ i = .int .i64 k ∧ Hid (∀ b ∈ s.take k, visB1 b = true) ∧ wr = w) (fun i _ => s.length - (intOf i).toNat)
  case atStart => exact ⟨0, by omega, rfl, hid (by simp), rfl⟩
  case round =>
    obtain ⟨k, hk, rfl, HA, rfl⟩ := hrel
    by_cases hlt : k < s.length
    · have hk2 : k < (⟨s.toArray⟩ : ByteArray).size := by rw [size_list]; exact hlt
      have hki : (k : Int) < (s.length : Int) := by omega
      have hge : (⟨s.toArray⟩ : ByteArray)[k]'hk2 = s[k] := rfl
      have hn := HN.out k hlt
      have htk : s.take (k + 1) = s.take k ++ [s[k]] := List.take_succ_eq_append_getElem hlt
      have HTK := hid htk
      clear htk
      generalize s[k] = x at hge hn HTK
      have hxb : visB1 x = (decide (33 ≤ x.toNat) && decide (x.toNat ≤ 126)) := rfl
      by_cases g1 : (x.toNat : Int) < 33
      · have HR : Hid (R = false) := hn (by rw [hxb]; simp; omega)
        have dg : decide ((x.toNat : Int) < 33) = true := decide_eq_true g1
        clear hn HTK hxb
        go_wp2
        go_ret
        exact ⟨ret_bool HR.out.symm, Below.refl _ _⟩
      · have dg : decide ((x.toNat : Int) < 33) = false := decide_eq_false g1
        by_cases g2 : (126 : Int) < (x.toNat : Int)
        · have HR : Hid (R = false) := hn (by rw [hxb]; simp; omega)
          have dg2 : decide ((126 : Int) < (x.toNat : Int)) = true := decide_eq_true g2
          clear hn HTK hxb
          go_wp2
          go_ret
          exact ⟨ret_bool HR.out.symm, Below.refl _ _⟩
        · have dg2 : decide ((126 : Int) < (x.toNat : Int)) = false := decide_eq_false g2
          have hx : visB1 x = true := by rw [hxb]; simp; omega
          have HA2 : Hid (∀ b ∈ s.take (k + 1), visB1 b = true) := fun b hb => by
            rw [HTK.out] at hb
            rcases List.mem_append.1 hb with hb | hb
            · exact HA.out b hb
            · simp at hb; subst hb; exact hx
          clear hn HTK hxb hx
          go_wp2
          go_roundw
          case rel => exact ⟨k + 1, by omega, by go_num, HA2, by first | rfl | trivial⟩
          case measure => simp [intOf]; omega
    · have hall : ∀ b ∈ s, visB1 b = true := by
        have := HA.out
        rw [List.take_of_length_le (by omega)] at this
        exact this
      have HR := hid (HS.out hall)
      clear hall
      by_cases g1 : 1 ≤ s.length
      · have g1' : (1 : Int) ≤ (s.length : Int) := by omega
        by_cases g2 : s.length ≤ 128
        · have g2' : (s.length : Int) ≤ 128 := by omega
          go_wp2
          go_ret
          exact ⟨ret_bool (by rw [HR.out]; simp [g1, g2]), Below.refl _ _⟩
        · have g2' : decide ((s.length : Int) ≤ 128) = false := decide_eq_false (by omega)
          go_wp2
          go_ret
          exact ⟨ret_bool (by rw [HR.out]; simp [g2]), Below.refl _ _⟩
      · have g1' : decide ((1 : Int) ≤ (s.length : Int)) = false := decide_eq_false (by omega)
        go_wp2
        go_ret
        exact ⟨ret_bool (by rw [HR.out]; simp [g1]), Below.refl _ _⟩

end Go.Proofs.YtjbfdbccidhdfaaDoor
