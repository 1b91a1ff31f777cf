/-
  Contracts: the document's own Seq, State and Show.
-/
import Derived.Test.YtjbfdbccidhdfaaDoorHRef2
import Derived.BigQuiet
import Derived.OwnWalk
import Derived.Lib.QuietBelow
namespace Go.Proofs.YtjbfdbccidhdfaaDoor
open Go.RowKit Go.Sort Sc
set_option linter.unusedVariables false
set_option maxRecDepth 20000

theorem ret_seq {R : Int × List UInt8 × Int} {n : Int} {m : List UInt8} {e : Int} (h : R = (n, m, e)) : Ending.returned (.tuple #[.int .i64 n, .string ⟨m.toArray⟩, .int .i64 e]) = .returned (.tuple #[.int .i64 R.1, .string ⟨R.2.1.toArray⟩, .int .i64 R.2.2]) := by rw [h]

set_option maxHeartbeats 2000000 in
set_option maxRecDepth 100000 in
theorem rseq_any (s : List UInt8) (w : World) (hs : s.length ≤ 140737488355328) :
    Calls Tryd.prog 10 #[.string ⟨s.toArray⟩] w fun e w' => e = .returned (.tuple #[.int .i64 (seqV s).1, .string ⟨(seqV s).2.1.toArray⟩, .int .i64 (seqV s).2.2]) ∧ Below w.heap.size w w' := by
  have hts := trimL_len s
  have KT := hid (fun w' => reftrim_list s w' (by omega))
  have HV := hid (seqV_is s)
  generalize seqV s = R at HV ⊢
  generalize trimL s = t at KT HV hts
  have HLE := hid (hword_le t)
  have HPOS := hid (fun k (hk : k < t.length) (hp : k ≤ wordN t) (hb : blk t[k] = true) => hword_pos hk hp hb)
  have HMORE := hid (fun k (hk : k < t.length) (hp : k ≤ wordN t) (hb : blk t[k] = false) => hword_more hk hp hb)
  have hle2 := hword_le t
  have KN := hid (fun w' => refnumber_list (t.take (wordN t)) w' (by simp; omega))
  have hdl : (t.drop (wordN t)).length ≤ 140737488355328 := by simp; omega
  have htd := trimL_len (t.drop (wordN t))
  have KD := hid (fun w' => reftrim_list (t.drop (wordN t)) w' (by omega))
  have KK := hid (fun w' => reftoken_list (trimL (t.drop (wordN t))) w' (by omega))
  have HTK := hid (htake_ext t (wordN t))
  have HDR := hid (hdrop_ext t (wordN t))
  have HFU : Hid (wordN t = t.length → t.take (wordN t) = t ∧ t.drop (wordN t) = []) := fun h => by rw [h]; simp
  clear hle2 hdl htd
  generalize wordN t = n at HV HLE HPOS HMORE KN KD KK HTK HDR HFU
  generalize t.take n = tk at HV KN HTK HFU
  generalize t.drop n = td at HV KD KK HDR HFU
  generalize trimL td = m at HV KD KK
  generalize numV maxS tk = nv at HV KN
  obtain ⟨vn, ve⟩ := nv
  simp only at HV KN
  go_enter Tryd.func10, Tryd.ntmps10
  go_wp2_with fail
  refine (KT.out _).mono ?_
  rintro e w1 ⟨rfl, hw1⟩
  rw [hw1]
  clear KT hw1
  go_wp2
  go_loopw [5] (fun i wr => ∃ k : Nat, k ≤ n ∧ i = .int .i64 k ∧ wr = w) (fun i _ => n - (intOf i).toNat)
  case atStart => exact ⟨0, by omega, rfl, rfl⟩
  case round =>
    obtain ⟨k, hkn, rfl, rfl⟩ := hrel
    have hle := HLE.out
    have fin : n = k → True := fun _ => trivial
    by_cases hlt : k < t.length
    · have hk2 : k < (⟨t.toArray⟩ : ByteArray).size := by rw [size_list]; exact hlt
      have hki : (k : Int) < (t.length : Int) := by omega
      have hge : (⟨t.toArray⟩ : ByteArray)[k]'hk2 = t[k] := rfl
      have hpos := HPOS.out k hlt hkn
      have hmore := HMORE.out k hlt hkn
      generalize t[k] = x at hge hpos hmore
      have hbt := UInt8.toNat_lt x
      have KC := hid (fun w' => refclass_any (x.toNat : Int) w' (by omega) (by omega))
      have hbn := @hblk_no x
      cases hbx : blk x with
      | false =>
        have hc : (cls (x.toNat : Int) != 32) = true := hbn.1 hbx
        have hm := hmore hbx
        clear hpos hmore hbn hbx
        go_wp2_with fail
        refine (KC.out _).mono ?_
        rintro e w2 ⟨rfl, hw2⟩
        rw [hw2]
        go_wp2
        go_roundw
        case rel => exact ⟨k + 1, by omega, by go_num, by first | rfl | trivial⟩
        case measure => simp [intOf]; omega
      | true =>
        have hc : (cls (x.toNat : Int) != 32) = false := by
          cases h : (cls (x.toNat : Int) != 32) with
          | false => rfl
          | true => rw [hbn.2 h] at hbx; cases hbx
        have hn := hpos hbx
        clear hpos hmore hbn hbx
        subst hn
        have htk := HTK.out
        have hdr := HDR.out
        have hdr2 : (⟨t.toArray⟩ : ByteArray).extract n t.length = ⟨td.toArray⟩ := by rw [← hdr, size_list]
        clear HTK HDR HPOS HMORE HLE
        by_cases hz : ve = 0
        · subst hz
          cases htok : tokenB m with
          | false =>
            have HR : Hid (R = (0, [], 80)) := show _ = _ by rw [HV.out, if_pos (Or.inr htok)]
            rw [htok] at KK
            clear HV
            go_wp2_with (first | (go_at_call 38; refine (KC.out _).mono ?_; rintro e w2 ⟨rfl, hw2⟩; rw [hw2]) | (go_at_call 39; refine (KN.out _).mono ?_; rintro e w2 ⟨rfl, hw2⟩; rw [hw2]) | (go_at_call 37; refine (KD.out _).mono ?_; rintro e w2 ⟨rfl, hw2⟩; rw [hw2]) | (go_at_call 40; refine (KK.out _).mono ?_; rintro e w2 ⟨rfl, hw2⟩; rw [hw2]))
            go_ret3
            exact ⟨ret_seq (m := []) HR.out, Below.refl _ _⟩
          | true =>
            have HR : Hid (R = (vn, m, 0)) := show _ = _ by rw [HV.out, if_neg (by simp [htok])]
            rw [htok] at KK
            clear HV
            go_wp2_with (first | (go_at_call 38; refine (KC.out _).mono ?_; rintro e w2 ⟨rfl, hw2⟩; rw [hw2]) | (go_at_call 39; refine (KN.out _).mono ?_; rintro e w2 ⟨rfl, hw2⟩; rw [hw2]) | (go_at_call 37; refine (KD.out _).mono ?_; rintro e w2 ⟨rfl, hw2⟩; rw [hw2]) | (go_at_call 40; refine (KK.out _).mono ?_; rintro e w2 ⟨rfl, hw2⟩; rw [hw2]))
            go_ret3
            exact ⟨ret_seq HR.out, Below.refl _ _⟩
        · have HR : Hid (R = (0, [], 80)) := show _ = _ by rw [HV.out, if_pos (Or.inl hz)]
          have hne : (ve != 0) = true := by simpa using hz
          clear HV
          go_wp2_with (first | (go_at_call 38; refine (KC.out _).mono ?_; rintro e w2 ⟨rfl, hw2⟩; rw [hw2]) | (go_at_call 39; refine (KN.out _).mono ?_; rintro e w2 ⟨rfl, hw2⟩; rw [hw2]) | (go_at_call 37; refine (KD.out _).mono ?_; rintro e w2 ⟨rfl, hw2⟩; rw [hw2]))
          go_ret3
          exact ⟨ret_seq (m := []) HR.out, Below.refl _ _⟩
    · have hn : k = t.length := by omega
      have hn2 : n = t.length := by omega
      obtain ⟨h1, h2⟩ := HFU.out hn2
      subst h1 h2
      subst hn
      have hex : (⟨tk.toArray⟩ : ByteArray).extract 0 tk.length = ⟨tk.toArray⟩ := by rw [htake_ext, List.take_length]
      clear HTK HDR HPOS HMORE HLE hn2 HFU
      by_cases hz : ve = 0
      · subst hz
        cases htok : tokenB m with
        | false =>
          have HR : Hid (R = (0, [], 80)) := show _ = _ by rw [HV.out, if_pos (Or.inr htok)]
          rw [htok] at KK
          clear HV
          go_wp2_with (first | (go_at_call 39; refine (KN.out _).mono ?_; rintro e w2 ⟨rfl, hw2⟩; rw [hw2]) | (go_at_call 37; refine (KD.out _).mono ?_; rintro e w2 ⟨rfl, hw2⟩; rw [hw2]) | (go_at_call 40; refine (KK.out _).mono ?_; rintro e w2 ⟨rfl, hw2⟩; rw [hw2]))
          go_ret3
          exact ⟨ret_seq (m := []) HR.out, Below.refl _ _⟩
        | true =>
          have HR : Hid (R = (vn, m, 0)) := show _ = _ by rw [HV.out, if_neg (by simp [htok])]
          rw [htok] at KK
          clear HV
          go_wp2_with (first | (go_at_call 39; refine (KN.out _).mono ?_; rintro e w2 ⟨rfl, hw2⟩; rw [hw2]) | (go_at_call 37; refine (KD.out _).mono ?_; rintro e w2 ⟨rfl, hw2⟩; rw [hw2]) | (go_at_call 40; refine (KK.out _).mono ?_; rintro e w2 ⟨rfl, hw2⟩; rw [hw2]))
          go_ret3
          exact ⟨ret_seq HR.out, Below.refl _ _⟩
      · have HR : Hid (R = (0, [], 80)) := show _ = _ by rw [HV.out, if_pos (Or.inl hz)]
        have hne : (ve != 0) = true := by simpa using hz
        clear HV
        go_wp2_with (first | (go_at_call 39; refine (KN.out _).mono ?_; rintro e w2 ⟨rfl, hw2⟩; rw [hw2]) | (go_at_call 37; refine (KD.out _).mono ?_; rintro e w2 ⟨rfl, hw2⟩; rw [hw2]))
        go_ret3
        exact ⟨ret_seq (m := []) HR.out, Below.refl _ _⟩

end Go.Proofs.YtjbfdbccidhdfaaDoor
