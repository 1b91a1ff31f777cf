/-
  The walk of the law XmlBlanks.
-/
import Derived.Test.YtnijlmkodgdhlaaDoorYW
import Derived.Test.YtnijlmkodgdhlaaDoorYV
import Derived.WalkSmall
namespace Go.Proofs.YtnijlmkodgdhlaaDoor.xmlBlanks
open Go.RowKit Sc
set_option linter.unusedVariables false
set_option maxRecDepth 20000
set_option linter.unusedSimpArgs false

def bsI (z : Nat) : List UInt8 := if z = 0 then [] else if z = 1 then [32] else if z = 2 then [13, 10] else [9, 32, 10]
theorem bsI_blank (z : Nat) : blanksX (bsI z) := by
  unfold bsI blanksX
  intro b hb
  split at hb
  · simp at hb
  · split at hb
    · simp at hb; subst hb; decide
    · split at hb
      · simp at hb; rcases hb with rfl | rfl <;> decide
      · simp at hb; rcases hb with rfl | rfl | rfl <;> decide
theorem bsI_len (z : Nat) : (bsI z).length ≤ 3 := by unfold bsI; split <;> (try split) <;> (try split) <;> simp
def zOf (a : Int) (n : Nat) : Nat := (bits BinOp.and IntKind.u64 (a / 2 ^ (n % 32 * 2)) 3).toNat
theorem and3 (E : Int) (h0 : 0 ≤ E) (h1 : E ≤ 18446744073709551615) : bits BinOp.and IntKind.u64 E 3 = 0 ∨ bits BinOp.and IntKind.u64 E 3 = 1 ∨ bits BinOp.and IntKind.u64 E 3 = 2 ∨ bits BinOp.and IntKind.u64 E 3 = 3 := by
  have h := bits_and_u64_nat E.toNat 3 (by omega) (by omega)
  rw [Int.toNat_of_nonneg h0] at h
  have h3 : E.toNat &&& 3 ≤ 3 := Nat.and_le_right
  have h4 : bits BinOp.and IntKind.u64 E 3 = ((E.toNat &&& 3 : Nat) : Int) := h
  omega
theorem shr_bd (a : Int) (k : Nat) (h : (Lit.int .u64 a).wf = true) : 0 ≤ a / 2 ^ k ∧ a / 2 ^ k ≤ 18446744073709551615 := by
  simp only [Lit.wf, IntKind.min, IntKind.max, IntKind.signed, IntKind.bits, Bool.and_eq_true, decide_eq_true_eq] at h
  have h0 : 0 ≤ a := by simpa using h.1
  have h1 : a ≤ 18446744073709551615 := by simpa using h.2
  have hp : (0 : Int) < 2 ^ k := Int.pow_pos (by decide)
  exact ⟨Int.ediv_nonneg h0 (Int.le_of_lt hp), Int.le_trans (Int.ediv_le_self _ h0) h1⟩
theorem ins_len3 (bs : Nat → List UInt8) (hb : ∀ n, (bs n).length ≤ 3) : ∀ (l : List UInt8) (p : UInt8) (n : Nat), (insG bs p n l).1.length ≤ 4 * l.length ∧ (insG bs p n l).2 ≤ n + l.length
  | [], p, n => by simp [insG]
  | b :: r, p, n => by
    rw [insG]
    split
    · have := ins_len3 bs hb r b (n + 1); have := hb n; simp; omega
    · have := ins_len3 bs hb r b n; simp; omega
theorem lastB_take (l : List UInt8) (j : Nat) (hj : j < l.length) : lastB 0 (l.take (j + 1)) = l[j] := by
  rw [List.take_succ_eq_append_getElem hj, lastB_app]
theorem ins_first (bs : Nat → List UInt8) (l : List UInt8) (h : 0 < l.length) : insG bs 0 0 (l.take 1) = ([l[0]], 0) := by
  rw [List.take_succ_eq_append_getElem h, List.take_zero, List.nil_append, insG, if_neg (by simp), insG]
theorem ins_put (bs : Nat → List UInt8) (l : List UInt8) (j : Nat) (h : j + 1 < l.length) (h1 : l[j + 1] = 60) (h2 : l[j] = 62) : insG bs 0 0 (l.take (j + 2)) = ((insG bs 0 0 (l.take (j + 1))).1 ++ bs (insG bs 0 0 (l.take (j + 1))).2 ++ [l[j + 1]], (insG bs 0 0 (l.take (j + 1))).2 + 1) := by
  rw [List.take_succ_eq_append_getElem h, ins_app, lastB_take l j (by omega), insG, if_pos ⟨h1, h2⟩, insG]
  simp
theorem ins_on (bs : Nat → List UInt8) (l : List UInt8) (j : Nat) (h : j + 1 < l.length) (h1 : ¬ (l[j + 1] = 60 ∧ l[j] = 62)) : insG bs 0 0 (l.take (j + 2)) = ((insG bs 0 0 (l.take (j + 1))).1 ++ [l[j + 1]], (insG bs 0 0 (l.take (j + 1))).2) := by
  rw [List.take_succ_eq_append_getElem h, ins_app, lastB_take l j (by omega), insG, if_neg h1, insG]
set_option maxHeartbeats 2000000 in
set_option maxRecDepth 100000 in
theorem law_walk (w : World) (v0 : Value) (a1 : Int) (k0 : NdsIn 1048576 w v0) (w1 : (Lit.int .u64 a1).wf = true) :
    Calls Tryd.prog 7 #[v0, .int .u64 a1] w fun e w' => e = .returned (.bool true) ∧ Below w.heap.size w w' := by
  obtain ⟨cs, hat, hz, hsm0⟩ := k0
  have hsm : ∀ c ∈ cs, SmallN 140737488355328 c.nd := fun c hc => by
    obtain ⟨h1, h2, h3, h4⟩ := hsm0 c hc
    exact ⟨by omega, by omega, ⟨by have := h3.1; omega, fun p hp => ⟨by have := (h3.2 p hp).1; omega, by have := (h3.2 p hp).2; omega⟩⟩, h4⟩
  have KS := hid (fun u ds w' (hb : Below w.heap.size w w') (hd : ndsL ds = ndsL cs) (hu : NdsAt w' u ds) => rsame13_any v0 u cs ds w' (by omega) (by rw [← ndsL_len, hd, ndsL_len]; omega) (fun c hm => (hsm c hm).2.2.1.1) (hat.below hb) hu)
  have HQ : Hid (∀ ds : List NdC, ndsL ds = ndsL cs → decide (ndsL cs = ndsL ds) = true) := fun ds h1 => by rw [h1]; simp
  have HSB := hid (fun k => shr_bd a1 k w1)
  have KL := hid (fun w' (hb : Below w.heap.size w w') => lsmall13 v0 cs w' (by omega) hsm (hat.below hb))
  by_cases hck : checkX (ndsL cs) = 0
  · obtain ⟨t, hf, hok⟩ := tree_of hck
    have hW := ok_W (K := 1048576) hck fun y hy => by
      obtain ⟨c, hc, rfl⟩ := List.mem_map.1 hy
      obtain ⟨h1, h2, h3, h4⟩ := hsm0 c hc
      exact ⟨h1, h2, fun p hp => h3.2 p hp⟩
    have hpl := printX_W 0 t
    rw [hf] at hpl
    have K2 := hid (xprint_ok v0 cs t w hsm hat hck hf (by omega))
    have K3 := hid (fun (h4 : ((insG (fun n => bsI (zOf a1 n)) 0 0 (prologK ++ printX t)).1 ++ [32, 10]).length ≤ 4096) w' => by
      have k := xparse_any ((insG (fun n => bsI (zOf a1 n)) 0 0 (prologK ++ printX t)).1 ++ [32, 10]) w' (by omega)
      have hb := doc_ins (fun n => bsI (zOf a1 n)) (fun n => bsI_blank _) hck hf hok (bl := [32, 10]) (by intro b hb; simp at hb; rcases hb with rfl | rfl <;> decide) h4
      rw [hb] at k
      exact k)
    simp only [ParP] at K3
    have HTL : Hid (ndsW (ndsL cs) ≤ 5000 → (prologK ++ printX t).length ≤ 30039) := fun h => by
      have : prologK.length = 39 := rfl
      rw [List.length_append]; omega
    have HBV : Hid (∀ b, (ndsW (ndsL cs) ≤ 4611686018427387904 → b = decide (ndsW (ndsL cs) ≤ 5000)) → b = true → (prologK ++ printX t).length ≤ 30039) := fun b hb hbt => by
      apply HTL.out
      have := hb (by omega)
      rw [hbt] at this
      simpa using this.symm
    clear HTL
    have hTm : (prologK ++ printX t).length ≤ 140737488355328 := by
      have : prologK.length = 39 := rfl
      rw [List.length_append]; omega
    generalize prologK ++ printX t = T at K2 K3 HBV hTm
    obtain ⟨S, rfl⟩ : ∃ S : ByteArray, T = S.data.toList := ⟨⟨T.toArray⟩, by simp⟩
    have eS : (⟨S.data.toList.toArray⟩ : ByteArray) = S := by apply ByteArray.ext; simp
    rw [eS] at K2
    have lS := len_data S
    rw [lS] at hTm HBV
    have hlg := ins_len3 (fun n => bsI (zOf a1 n)) (fun n => bsI_len _)
    have HF := hid (ins_first (fun n => bsI (zOf a1 n)) S.data.toList)
    have HP := hid (ins_put (fun n => bsI (zOf a1 n)) S.data.toList)
    have HO := hid (ins_on (fun n => bsI (zOf a1 n)) S.data.toList)
    have HLG := hid (fun j => hlg (S.data.toList.take j) 0 0)
    have HE : Hid (S.data.toList.take S.size = S.data.toList) := show _ = _ by rw [← lS]; exact List.take_length
    obtain ⟨ao, cp, rfl⟩ := hat.form
    clear hat hsm hsm0 hck hf hok hW hpl hlg
    generalize cs.length = n at KS K2 KL hz ⊢
    go_enter Tryd.func7, Tryd.ntmps7
    go_wp2_with fail
    refine K2.out.mono ?_
    rintro e w1 ⟨rfl, hw1⟩
    clear K2
    go_wp2_with fail
    refine (KL.out _ hw1).mono ?_
    rintro e w2 ⟨b, rfl, hbv, q, rfl⟩
    have hb2 := hw1.trans ((below_drewN w1 q).mono hw1.size)
    cases b with
    | false =>
      clear HBV hbv KL
      go_wp2_with (go_at_call 10; refine (awake13_any _).mono ?_; rintro e w7 ⟨rfl, hw7⟩)
      go_ret
      exact ⟨rfl, hb2.trans (hw7.mono hb2.size)⟩
    | true =>
      have hT := HBV.out true hbv rfl
      clear HBV hbv KL hw1
      go_wp2
      go_loopw [7, 8, 9] (fun x nv i wr => ∃ (j m : Nat) (O : List UInt8), j ≤ S.size ∧ i = .int .i64 j ∧ nv = .int .i64 m ∧ x = .string ⟨O.toArray⟩ ∧ Hid (insG (fun n => bsI (zOf a1 n)) 0 0 (S.data.toList.take j) = (O, m)) ∧ Below w.heap.size w wr) (fun _ _ i _ => S.size - (intOf i).toNat)
      case atStart => exact ⟨0, 0, [], Nat.zero_le _, rfl, rfl, rfl, show _ = _ by rw [List.take_zero, insG], hb2⟩
      case round =>
        obtain ⟨j, m, O, hj, rfl, rfl, rfl, hi, hb⟩ := hrel
        have hll := HLG.out j
        rw [hi.out] at hll
        simp only [List.length_take, lS] at hll
        have hO : O.length ≤ 120156 := by omega
        have hm : m ≤ 30039 := by omega
        have zO := size_list O
        clear hll HLG hb2
        by_cases hlt : j < S.size
        · have r1 : (j : Int) < (S.size : Int) := by omega
          have hbd := u8_bd S[j]
          have hw1 : IntKind.i64.wrap ((j : Int) + 1) = ((j + 1 : Nat) : Int) := by rw [IntKind.wrap_i64]; omega
          have hb1 : ((j + 1 : Nat) : Int) ≤ (S.size : Int) := by omega
          have he := one_ext S j hlt
          have hjl : j < S.data.toList.length := by omega
          have gB := getB S j hlt
          have HG := hid (fun (A : List UInt8) => glueB A #[S[j]])
          by_cases h0 : j = 0
          · subst h0
            have hF := HF.out (by omega)
            rw [gB] at hF
            have hO0 : O = [] ∧ m = 0 := by have := hi.out; rw [List.take_zero, insG] at this; simp only [Prod.mk.injEq] at this; exact ⟨this.1.symm, this.2.symm⟩
            obtain ⟨rfl, rfl⟩ := hO0
            have HN : Hid (insG (fun n => bsI (zOf a1 n)) 0 0 (S.data.toList.take 1) = ([S[0]], 0)) := hF
            clear hi HF HP HO HE hF gB
            go_wp2
            go_roundw
            case rel => exact ⟨1, 0, [S[0]], by omega, by go_num, rfl, congrArg Value.string (HG.out []), HN, hb⟩
            case measure => simp [intOf]; omega
          obtain ⟨i, rfl⟩ : ∃ i, j = i + 1 := ⟨j - 1, by omega⟩
          have gI := getB S i (by omega)
          have hbi := u8_bd (S[i]'(by omega))
          have r0 : (0 : Int) < ((i + 1 : Nat) : Int) := by omega
          have hwi : IntKind.i64.wrap (((i + 1 : Nat) : Int) - 1) = (i : Int) := by rw [IntKind.wrap_i64]; omega
          have hO2 := HO.out i (by omega)
          have hP2 := HP.out i (by omega)
          rw [gB, gI, hi.out] at hO2 hP2
          simp only at hO2 hP2
          have HO2 := hid hO2
          have HP2 := hid hP2
          clear hO2 hP2 HF HP HO HE hi
          by_cases h60 : S[i + 1] = 60
          · have q1 : ((S[i + 1].toNat : Int) == 60) = true := u8_eq (b := 60) h60
            by_cases h62 : S[i]'(by omega) = 62
            · have q2 : (((S[i]'(by omega)).toNat : Int) == 62) = true := u8_eq (b := 62) h62
              have HN := hid (HP2.out h60 h62)
              clear HO2 HP2 gB gI h60 h62
              have hmm : IntKind.i64.wrap ((m : Int) + 1) = ((m + 1 : Nat) : Int) := by rw [IntKind.wrap_i64]; omega
              have hAL : Below w.heap.size w (wr.alloc (.cells #[.string ⟨#[]⟩, .string ⟨#[32]⟩, .string ⟨#[13, 10]⟩, .string ⟨#[9, 32, 10]⟩] 9)) := hb.alloc hb.size _
              have HG0 := hid (fun (A : List UInt8) (t : Array UInt8) => glueB A t)
              have hz4 := and3 (a1 / 2 ^ (m % 32 * 2)) (HSB.out _).1 (HSB.out _).2
              have hzd : zOf a1 m = (bits BinOp.and IntKind.u64 (a1 / 2 ^ (m % 32 * 2)) 3).toNat := rfl
              rw [hzd] at HN
              clear hzd
              rcases hz4 with e | e | e | e
              all_goals
                rw [e] at HN
                simp only [bsI, Int.toNat_zero] at HN
                go_wp2
                go_roundw
                case rel => exact ⟨i + 2, m + 1, _, by omega, by go_num, by go_num, by simp only [HG0.out]; rfl, HN, hAL⟩
                case measure => simp [intOf]; omega
            · have q2 : (((S[i]'(by omega)).toNat : Int) == 62) = false := u8_ne (b := 62) h62
              have HN := hid (HO2.out (fun h => h62 h.2))
              clear HO2 HP2 gB gI h60 h62
              go_wp2
              go_roundw
              case rel => exact ⟨i + 2, m, O ++ [S[i + 1]], by omega, by go_num, rfl, by rw [HG.out], HN, hb⟩
              case measure => simp [intOf]; omega
          · have q1 : ((S[i + 1].toNat : Int) == 60) = false := u8_ne (b := 60) h60
            have HN := hid (HO2.out (fun h => h60 h.1))
            clear HO2 HP2 gB gI h60
            go_wp2
            go_roundw
            case rel => exact ⟨i + 2, m, O ++ [S[i + 1]], by omega, by go_num, rfl, by rw [HG.out], HN, hb⟩
            case measure => simp [intOf]; omega
        · have hjS : j = S.size := by omega
          subst hjS
          have HI : Hid (insG (fun n => bsI (zOf a1 n)) 0 0 S.data.toList = (O, m)) := show _ = _ by rw [← HE.out]; exact hi.out
          rw [HI.out] at K3
          simp only at K3
          have HG2 := hid (glueB O #[32, 10])
          clear HF HP HO HE hi HI
          have hlen2 : (O ++ [32, 10]).length = O.length + 2 := by simp
          have zO2 := size_list (O ++ [32, 10])
          rw [hlen2] at K3
          by_cases h4 : 4096 < O.length + 2
          · clear K3
            have r4 : (4096 : Int) < ((O.length + 2 : Nat) : Int) := by omega
            go_wp2_with (go_at_call 10; refine (awake13_any _).mono ?_; rintro e w7 ⟨rfl, hw7⟩)
            go_ret
            exact ⟨rfl, hb.trans (hw7.mono hb.size)⟩
          · have K4 := hid (K3.out (by omega))
            have r4 : ¬ (4096 : Int) < ((O.length + 2 : Nat) : Int) := by omega
            clear K3
            go_wp2_with fail
            rw [HG2.out]
            refine (K4.out _).mono ?_
            rintro e w4 ⟨v4, cs4, rfl, hk4, hown4, hw4⟩
            have HK4 := hid hk4
            have HN4 := hid hown4.ndsAt
            have hb4 := hb.trans (hw4.mono hb.size)
            obtain ⟨ao4, cp4, rfl⟩ := hown4.form
            clear hk4 hown4 hb hw4 K4
            go_wp2_with fail
            refine (KS.out _ cs4 _ hb4 HK4.out HN4.out).mono ?_
            rintro e w5 ⟨rfl, q5, rfl⟩
            rw [HQ.out cs4 HK4.out]
            have hb5 := hb4.trans (below_drewN w4 q5 |>.mono hb4.size)
            clear hb4 HN4
            go_wp2_with (go_at_call 10; refine (awake13_any _).mono ?_; rintro e w7 ⟨rfl, hw7⟩)
            go_ret
            exact ⟨rfl, hb5.trans (hw7.mono hb5.size)⟩
  · have K2 := hid (xprint_bad v0 cs w (by omega) hsm hat hck)
    have hn : (checkX (ndsL cs) != 0) = true := by simpa using hck
    obtain ⟨ao, cp, rfl⟩ := hat.form
    clear hat hsm hsm0 hck KS HQ KL
    generalize checkX (ndsL cs) = R at K2 hn
    generalize cs.length = n at K2 hz ⊢
    go_enter Tryd.func7, Tryd.ntmps7
    go_wp2_with fail
    refine K2.out.mono ?_
    rintro e w1 ⟨rfl, hw1⟩
    go_wp2_with (go_at_call 10; refine (awake13_any _).mono ?_; rintro e w7 ⟨rfl, hw7⟩)
    go_ret
    exact ⟨rfl, hw1.trans (hw7.mono hw1.size)⟩
end Go.Proofs.YtnijlmkodgdhlaaDoor.xmlBlanks
