/-
  Contracts: package head's cutBlank, Seq, Cseq, Call and Time.
-/
import Derived.Test.YtjbfdbccidhdfaaDoorHRef3
import Derived.Test.YtjbfdbccidhdfaaDoorBAny
import Derived.Test.YtjbfdbccidhdfaaDoorFH
import Derived.Test.YtjbfdbccidhdfaaDoorFA
import Derived.Test.YtjbfdbccidhdfaaDoorFD
namespace Go.Proofs.YtjbfdbccidhdfaaDoor
open Go.RowKit Go.Sort Sc
set_option linter.unusedVariables false
set_option maxRecDepth 20000
set_option linter.unusedSimpArgs false

theorem hindex_word : ∀ l : List UInt8, Lib.indexAny l blkL = if wordN l = l.length then -1 else (wordN l : Int)
  | [] => rfl
  | b :: l => by
    have ih := hindex_word l
    have hle := hword_le l
    have hb := blkL_is b
    rw [Lib.indexAny, hb, hword_cons, ih]
    cases hk : blk b with
    | true => simp
    | false =>
      simp only [Bool.false_eq_true, if_false, List.length_cons]
      by_cases he : wordN l = l.length
      · have he2 : wordN l + 1 = l.length + 1 := by omega
        simp [he, he2]
      · have he2 : ¬ wordN l + 1 = l.length + 1 := by omega
        have h3 : ((wordN l : Int) == -1) = false := by simp
        simp only [he, he2, if_false, h3]
        simp
theorem hindex_of (l : List UInt8) (w : World) (hl : l.length ≤ 140737488355328) :
    Calls Tryd.prog 60 #[.string ⟨l.toArray⟩, .string ⟨#[32, 9]⟩] w fun e w' => e = .returned (.int .i64 (if wordN l = l.length then -1 else (wordN l : Int))) ∧ Below w.heap.size w w' := by
  have z := size_list l
  rw [← hindex_word]
  by_cases h8 : (⟨l.toArray⟩ : ByteArray).size ≤ 8
  · exact bindexAny_short ⟨l.toArray⟩ w h8
  · exact bindexAny_long ⟨l.toArray⟩ w (by omega) (by omega)
theorem hnumber_list (l : List UInt8) (w : World) (h : l.length ≤ 140737488355328) :
    Calls Tryd.prog 35 #[.string ⟨l.toArray⟩, .int .i64 2147483647] w fun e w' => e = .returned (.tuple #[.int .i64 (numV maxS l).1, .int .i64 (numV maxS l).2]) ∧ w' = w := number_any ⟨l.toArray⟩ 2147483647 w (by rw [size_list]; unfold maxLen; omega) (by omega) (by omega)
theorem hdigits_h (n : Int) (w : World) (h0 : 0 ≤ n) (h1 : n ≤ 9223372036854775807) :
    Calls Tryd.prog 41 #[.int .i64 n] w fun e w' => e = .returned (.string ⟨(digL n.toNat).toArray⟩) ∧ Below w.heap.size w w' := by
  have := digits_any n.toNat w (by omega)
  rw [Int.toNat_of_nonneg h0] at this
  exact this
theorem hcutS_of {r a b : List UInt8} {f : Bool} {c : UInt8} (h : cutL c r = (a, b, f)) (w : World) (hs : r.length ≤ 9223372036854775807) :
    Calls Tryd.prog 58 #[.string ⟨r.toArray⟩, .string ⟨#[c]⟩] w fun e w' => e = .returned (.tuple #[.string ⟨a.toArray⟩, .string ⟨b.toArray⟩, .bool f]) ∧ Below w.heap.size w w' := by
  have k := strCut_any ⟨r.toArray⟩ c w (by rw [size_list]; exact hs)
  have e : cutL c (⟨r.toArray⟩ : ByteArray).data.toList = (a, b, f) := h
  rw [e] at k
  refine k.mono ?_
  rintro e w' ⟨rfl, q, rfl⟩
  exact ⟨rfl, below_drewN w q⟩
theorem hclone_list (l : List UInt8) (w : World) (h : l.length ≤ 140737488355328) :
    Calls Tryd.prog 48 #[.string ⟨l.toArray⟩] w fun e w' => e = .returned (.string ⟨l.toArray⟩) ∧ Below w.heap.size w w' := sclone_any ⟨l.toArray⟩ w (by rw [size_list]; omega)

set_option maxHeartbeats 1000000 in
set_option maxRecDepth 100000 in
theorem hcut_any (t : List UInt8) (w : World) (hs : t.length ≤ 140737488355328) :
    Calls Tryd.prog 33 #[.string ⟨t.toArray⟩] w fun e w' => e = .returned (.tuple #[.string ⟨(t.take (wordN t)).toArray⟩, .string ⟨(trimL (t.drop (wordN t))).toArray⟩]) ∧ Below w.heap.size w w' := by
  have KI := hid (fun w' => hindex_of t w' hs)
  have hle := hword_le t
  have htk := htake_ext t (wordN t)
  have hdr := hdrop_ext t (wordN t)
  have KT := hid (fun w' => trim_list (t.drop (wordN t)) w' (by simp; omega))
  have HF : Hid (wordN t = t.length → t.take (wordN t) = t ∧ trimL (t.drop (wordN t)) = []) := fun h => by rw [h]; simp [trimL]
  have hz := size_list t
  generalize wordN t = n at KI hle htk hdr KT HF ⊢
  generalize t.take n = tk at htk HF ⊢
  generalize t.drop n = td at hdr KT HF ⊢
  generalize trimL td = m at KT HF ⊢
  by_cases hn : n = t.length
  · rw [if_pos hn] at KI
    obtain ⟨h1, h2⟩ := HF.out hn
    subst h1 h2
    clear HF htk hdr KT hn
    go_enter Tryd.func33, Tryd.ntmps33
    go_wp2_with fail
    refine (KI.out _).mono ?_
    rintro e w1 ⟨rfl, hw1⟩
    go_wp2
    go_ret2
    exact ⟨rfl, hw1⟩
  · rw [if_neg hn] at KI
    have hlt : n < t.length := by omega
    have d0 : decide ((n : Int) < 0) = false := decide_eq_false (by omega)
    have hdr2 : (⟨t.toArray⟩ : ByteArray).extract n t.length = ⟨td.toArray⟩ := by rw [← hdr, size_list]
    clear HF
    go_enter Tryd.func33, Tryd.ntmps33
    go_wp2_with fail
    refine (KI.out _).mono ?_
    rintro e w1 ⟨rfl, hw1⟩
    have cT := hid (fun (d : Nat) (os : Array Obj) => Calls.regrown_of (KT.out (grow (redrawn w1 d) os)))
    clear KT KI
    go_wp2
    refine wp_region_quiet_below followsMixed5 (by kernel_rfl) ?_
    repeat (go_big_quiet_step (first | with_reducible exact cT.out _ _))
    refine wpQuiet_nil ?_
    intro _ hw'
    obtain ⟨⟨dq, osq⟩, hw''⟩ := hw'
    subst hw''
    have hb1 := below_re5 hw1 dq osq
    go_wp2
    go_ret2
    exact ⟨rfl, hb1⟩

set_option maxHeartbeats 1000000 in
set_option maxRecDepth 100000 in
theorem hseq_any (s : List UInt8) (w : World) (hs : s.length ≤ 140737488355328) :
    Calls Tryd.prog 9 #[.string ⟨s.toArray⟩] w fun e w' => e = .returned (.tuple #[.int .i64 (seqV s).1, .string ⟨(seqV s).2.1.toArray⟩, .int .i64 (seqV s).2.2]) ∧ Below w.heap.size w w' := by
  have hts := trimL_len s
  have KT := hid (fun w' => trim_list s w' (by omega))
  have HV := hid (seqV_is s)
  generalize seqV s = R at HV ⊢
  generalize trimL s = t at KT HV hts
  have hle := hword_le t
  have KC := hid (fun w' => hcut_any t w' (by omega))
  have hl1 : (t.take (wordN t)).length ≤ 140737488355328 := by simp; omega
  have hl2 : (trimL (t.drop (wordN t))).length ≤ 140737488355328 := Nat.le_trans (trimL_len _) (by simp; omega)
  generalize t.take (wordN t) = tk at HV KC hl1
  generalize trimL (t.drop (wordN t)) = m at HV KC hl2
  have KN := hid (fun w' => hnumber_list tk w' hl1)
  have KK := hid (fun w' => token_list m w' hl2)
  generalize numV maxS tk = nv at HV KN
  obtain ⟨vn, ve⟩ := nv
  simp only at HV KN
  clear hle hl1 hl2 hts
  go_enter Tryd.func9, Tryd.ntmps9
  go_wp2_with fail
  refine (KT.out _).mono ?_
  rintro e w1 ⟨rfl, hw1⟩
  clear KT
  go_wp2_with fail
  refine (KC.out _).mono ?_
  rintro e w2 ⟨rfl, hw2⟩
  have hb2 := hw1.trans (hw2.mono hw1.size)
  clear KC hw1 hw2
  go_wp2_with fail
  refine (KN.out _).mono ?_
  rintro e w3 ⟨rfl, hw3⟩
  rw [hw3]
  clear KN hw3
  by_cases hz : ve = 0
  · subst hz
    cases htok : tokenB m with
    | false =>
      have HR : Hid (R = (0, [], 80)) := show _ = _ by rw [HV.out, if_pos (Or.inr htok)]
      rw [htok] at KK
      clear HV
      go_wp2_with (go_at_call 36; refine (KK.out _).mono ?_; rintro e wx ⟨rfl, hwx⟩; rw [hwx])
      go_ret3
      exact ⟨ret_seq (m := []) HR.out, hb2⟩
    | true =>
      have HR : Hid (R = (vn, m, 0)) := show _ = _ by rw [HV.out, if_neg (by simp [htok])]
      rw [htok] at KK
      clear HV
      go_wp2_with (go_at_call 36; refine (KK.out _).mono ?_; rintro e wx ⟨rfl, hwx⟩; rw [hwx])
      go_ret3
      exact ⟨ret_seq HR.out, hb2⟩
  · have HR : Hid (R = (0, [], 80)) := show _ = _ by rw [HV.out, if_pos (Or.inl hz)]
    have hne : (ve != 0) = true := by simpa using hz
    clear HV
    go_wp2
    go_ret3
    exact ⟨ret_seq (m := []) HR.out, hb2⟩

set_option maxHeartbeats 1000000 in
set_option maxRecDepth 100000 in
theorem htime_any (s : List UInt8) (w : World) (hs : s.length ≤ 140737488355328) :
    Calls Tryd.prog 13 #[.string ⟨s.toArray⟩] w fun e w' => e = .returned (.tuple #[.int .i64 (timeV s).1, .int .i64 (timeV s).2]) ∧ Below w.heap.size w w' := by
  have hts := trimL_len s
  have KT := hid (fun w' => trim_list s w' (by omega))
  have KN := hid (fun w' => hnumber_list (trimL s) w' (by omega))
  have HV : Hid (timeV s = if (numV maxS (trimL s)).2 = 9 then ((maxS : Int), 0) else numV maxS (trimL s)) := show _ = _ from rfl
  generalize timeV s = R at HV ⊢
  generalize trimL s = t at KT KN HV hts
  generalize numV maxS t = nv at KN HV
  obtain ⟨n, e⟩ := nv
  simp only at KN HV
  go_enter Tryd.func13, Tryd.ntmps13
  go_wp2_with fail
  refine (KT.out _).mono ?_
  rintro e1 w1 ⟨rfl, hw1⟩
  go_wp2_with fail
  refine (KN.out _).mono ?_
  rintro e2 w2 ⟨rfl, hw2⟩
  rw [hw2]
  clear hw2
  by_cases h9 : e = 9
  · subst h9
    have HR : Hid (R = (2147483647, 0)) := show _ = _ by rw [HV.out, if_pos rfl]; rfl
    clear HV
    go_wp2
    go_ret2
    exact ⟨by rw [HR.out]; rfl, hw1⟩
  · have HR : Hid (R = (n, e)) := show _ = _ by rw [HV.out, if_neg h9]
    have h9b : (e == 9) = false := by simpa using h9
    clear HV
    go_wp2
    go_ret2
    exact ⟨by rw [HR.out]; rfl, hw1⟩

set_option maxHeartbeats 1000000 in
set_option maxRecDepth 100000 in
theorem hcseq_any (n : Int) (m : List UInt8) (w : World) (hn0 : -9223372036854775808 ≤ n) (hn1 : n ≤ 9223372036854775807) (hm : m.length ≤ 140737488355328) :
    Calls Tryd.prog 11 #[.int .i64 n, .string ⟨m.toArray⟩] w fun e w' => e = .returned (.tuple #[.string ⟨(cseqV n m).1.toArray⟩, .int .i64 (cseqV n m).2]) ∧ Below w.heap.size w w' := by
  have KT := hid (fun w' => token_list m w' hm)
  have HV : Hid (cseqV n m = if n < 0 ∨ (maxS : Int) < n ∨ tokenB m = false then ([], 80) else (digL n.toNat ++ [32] ++ m, 0)) := show _ = _ from rfl
  generalize cseqV n m = R at HV ⊢
  have hmx : (maxS : Int) = 2147483647 := rfl
  rw [hmx] at HV
  clear hmx
  by_cases h0 : n < 0
  · have d0 : decide (n < 0) = true := decide_eq_true h0
    have HR : Hid (R = ([], 80)) := show _ = _ by rw [HV.out, if_pos (Or.inl h0)]
    clear HV KT
    go_enter Tryd.func11, Tryd.ntmps11
    go_wp2
    go_ret2
    exact ⟨by rw [HR.out]; rfl, Below.refl _ _⟩
  · have d0 : decide (n < 0) = false := decide_eq_false h0
    by_cases h1 : 2147483647 < n
    · have d1 : decide (2147483647 < n) = true := decide_eq_true h1
      have HR : Hid (R = ([], 80)) := show _ = _ by rw [HV.out, if_pos (Or.inr (Or.inl h1))]
      clear HV KT
      go_enter Tryd.func11, Tryd.ntmps11
      go_wp2
      go_ret2
      exact ⟨by rw [HR.out]; rfl, Below.refl _ _⟩
    · have d1 : decide (2147483647 < n) = false := decide_eq_false h1
      have KD := hid (fun w' => hdigits_h n w' (by omega) hn1)
      have hdl := digL_len19 (n := n.toNat) (by omega)
      cases ht : tokenB m with
      | false =>
        have HR : Hid (R = ([], 80)) := show _ = _ by rw [HV.out, if_pos (Or.inr (Or.inr ht))]
        rw [ht] at KT
        clear HV KD
        go_enter Tryd.func11, Tryd.ntmps11
        go_wp2_with fail
        refine (KT.out _).mono ?_
        rintro e w1 ⟨rfl, hw1⟩
        rw [hw1]
        go_wp2
        go_ret2
        exact ⟨by rw [HR.out]; rfl, Below.refl _ _⟩
      | true =>
        have HR : Hid (R = (digL n.toNat ++ [32] ++ m, 0)) := show _ = _ by rw [HV.out, if_neg]; rw [ht]; simp; omega
        rw [ht] at KT
        generalize digL n.toNat = dl at KD HR hdl
        clear HV
        go_enter Tryd.func11, Tryd.ntmps11
        go_wp2_with fail
        refine (KT.out _).mono ?_
        rintro e w1 ⟨rfl, hw1⟩
        rw [hw1]
        go_wp2_with fail
        refine (KD.out _).mono ?_
        rintro e w2 ⟨rfl, hw2⟩
        go_wp2
        go_ret2
        exact ⟨by rw [HR.out, ← seqglue]; rfl, hw2⟩

end Go.Proofs.YtjbfdbccidhdfaaDoor
