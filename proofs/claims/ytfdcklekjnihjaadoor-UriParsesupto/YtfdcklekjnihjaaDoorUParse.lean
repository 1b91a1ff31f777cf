/-
  The contract of package uri's Parse.
-/
import Derived.Test.YtfdcklekjnihjaaDoorURest
namespace Go.Proofs.YtfdcklekjnihjaaDoor
open Go.RowKit Sc
set_option linter.unusedVariables false
set_option maxRecDepth 20000

theorem une_len : ∀ (n : Nat) (l r : List UInt8), l.length ≤ n → une l = some r → r.length ≤ l.length
  | 0, [], r, _, h => by simp [une] at h; subst h; simp
  | 0, _ :: _, r, hn, h => by simp at hn
  | n + 1, [], r, _, h => by simp [une] at h; subst h; simp
  | n + 1, b :: l, r, hn, h => by
    by_cases h37 : (b.toNat : Int) = 37
    · rcases l with _ | ⟨x, _ | ⟨y, l⟩⟩
      · rw [une_short h37 (by simp)] at h; cases h
      · rw [une_short h37 (by simp)] at h; cases h
      · cases hx : isB x.toNat 4 && isB y.toNat 4
        · rw [une_bad h37 hx] at h; cases h
        · rw [Bool.and_eq_true] at hx
          rw [une_hex h37 hx.1 hx.2] at h
          cases hu : une l with
          | none => rw [hu] at h; cases h
          | some r' =>
            rw [hu] at h
            simp at h
            subst h
            have := une_len n l r' (by simp at hn; omega) hu
            simp; omega
    · rw [une_plain h37] at h
      cases hu : une l with
      | none => rw [hu] at h; cases h
      | some r' =>
        rw [hu] at h
        simp at h
        subst h
        have := une_len n l r' (by simp at hn; omega) hu
        simp; omega
theorem written_len (keep l : List UInt8) : (writtenV keep l).1.length ≤ l.length := by
  unfold writtenV
  split
  · unfold unescV
    cases hu : une l with
    | none => simp
    | some r => exact une_len l.length l r (Nat.le_refl _) hu
  · simp
theorem parOf_len {keep l : List UInt8} {p : Par} (h : parOf keep l = some p) : p.name.length ≤ l.length ∧ p.value.length ≤ l.length := by
  unfold parOf at h
  split at h
  · simp at h
    subst h
    have c := cutL_len 61 l
    have a := written_len keep (cutL 61 l).1
    have b := written_len keep (cutL 61 l).2.1
    exact ⟨by simp only; omega, by simp only; omega⟩
  · cases h
theorem parsOf_small {keep : List UInt8} {N : Nat} : ∀ (ls : List (List UInt8)) (ps : List Par), parsOf keep ls = some ps → (∀ l ∈ ls, l.length ≤ N) → ∀ p ∈ ps, p.name.length ≤ N ∧ p.value.length ≤ N
  | [], ps, h, _, p, hp => by simp [parsOf] at h; subst h; simp at hp
  | l :: ls, ps, h, hl, p, hp => by
    rw [parsOf] at h
    cases h1 : parOf keep l with
    | none => rw [h1] at h; simp at h
    | some q =>
      cases h2 : parsOf keep ls with
      | none => rw [h1, h2] at h; simp at h
      | some qs =>
        rw [h1, h2] at h
        simp at h
        subst h
        rcases List.mem_cons.1 hp with rfl | hp
        · have := parOf_len h1
          have := hl l (by simp)
          omega
        · exact parsOf_small ls qs h2 (fun x hx => hl x (by simp [hx])) p hp
theorem smallP_of {keep : List UInt8} {ls : List (List UInt8)} {ps : List Par} (h : parsOf keep ls = some ps) (hn : ls.length ≤ 1048577) (hl : ∀ l ∈ ls, l.length ≤ 1048576) : SmallP 140737488355328 ps := by
  refine ⟨by rw [parsOf_len h]; omega, fun p hp => ?_⟩
  have := parsOf_small ls ps h hl p hp
  omega
theorem smallP_nil : SmallP 140737488355328 [] := ⟨by simp, fun p hp => by simp at hp⟩
theorem where_len (l : List UInt8) : (whereV l).1.length ≤ l.length := by
  unfold whereV portV
  have : (lowL (l.take (whereGo false l))).length ≤ l.length := by rw [lowL_len]; exact List.length_take_le' _ _
  split
  · split
    · exact this
    · split
      · simp
      · exact this
  · simp
theorem rest_small {s : List UInt8} (hs : s.length ≤ 1048576) : (restV s).1.host.length ≤ 1048576 ∧ SmallP 140737488355328 (restV s).1.params ∧ SmallP 140737488355328 (restV s).1.headers := by
  have hc := cutL_len 63 s
  obtain ⟨ca, cb, cc, hcut⟩ : ∃ ca cb cc, cutL 63 s = (ca, cb, cc) := ⟨_, _, _, rfl⟩
  obtain ⟨p0, ps0, hp0⟩ := splitL_cons 59 ca
  obtain ⟨wh, wp, we, hwv⟩ : ∃ wh wp we, whereV p0 = (wh, wp, we) := ⟨_, _, _, rfl⟩
  rw [hcut] at hc
  simp only at hc
  have hm := splitL_mem_len 59 ca
  have hn := splitL_len 59 ca
  have hwl := where_len p0
  rw [hwv] at hwl
  rw [hp0] at hm hn
  have hp0l := hm p0 (by simp)
  have hnone : noU.host.length ≤ 1048576 ∧ SmallP 140737488355328 noU.params ∧ SmallP 140737488355328 noU.headers := ⟨by simp [noU], smallP_nil, smallP_nil⟩
  rw [rest_of hcut hp0 hwv]
  split
  · exact hnone
  · cases h1 : parsOf paramsK ps0 with
    | none => exact hnone
    | some ps =>
      have s1 := smallP_of h1 (by simp at hn; omega) (fun l hl => by have := hm l (by simp [hl]); omega)
      cases h2 : headsV cc cb with
      | none => exact hnone
      | some qs =>
        refine ⟨by show wh.length ≤ _; simp only at hwl; omega, s1, ?_⟩
        show SmallP _ qs
        unfold headsV at h2
        split at h2
        · have hm2 := splitL_mem_len 38 cb
          have hn2 := splitL_len 38 cb
          exact smallP_of h2 (by omega) (fun l hl => by have := hm2 l hl; omega)
        · simp at h2; subst h2; exact smallP_nil
theorem user_small (s : List UInt8) : (userV s).1.length ≤ 64 := by
  unfold userV
  split
  · split
    · simp
    · rename_i h
      simp only [not_or] at h
      have := h.2.2
      simp only at this ⊢
      omega
  · simp
theorem user_rest (s : List UInt8) : (userV s).2.1.length ≤ s.length := by
  have hc := cutL_len 64 s
  unfold userV
  split
  · split
    · simp
    · exact hc.2
  · simp
theorem parseV_of {s ca cb us rs : List UInt8} {cc : Bool} {ue : Int} (h1 : cutL 58 s = (ca, cb, cc)) (h2 : userV cb = (us, rs, ue)) :
    parseV s = if cc = false ∨ schemeB (lowL ca) = false then (noU, 30) else if ue ≠ 0 then (noU, ue) else bothV (lowL ca) us (restV rs) := by
  unfold parseV
  simp only [h1, h2]
theorem cutUser_of {s us rs : List UInt8} {ue : Int} (h : userV s = (us, rs, ue)) (w : World) (hs : s.length ≤ 1048576) :
    Calls Tryd.prog 45 #[.string ⟨s.toArray⟩] w fun e w' => e = .returned (.tuple #[.string ⟨us.toArray⟩, .string ⟨rs.toArray⟩, .int .i64 ue]) ∧ Below w.heap.size w w' := by
  have k := cutUser_any s w hs
  rw [h] at k
  exact k

theorem RowIs.alloc {w : World} {g : Nat} {e : TypeId} {l : List Value} (h : RowIs w g e l) (o : Obj) : RowIs (w.alloc o) g e l :=
  h.below ((Below.refl _ w).alloc (Nat.le_refl _) o) (Array.getElem?_eq_some_iff.1 h).1
theorem readRest_of {rs : List UInt8} {u : Uri} {re : Int} (h : restV rs = (u, re)) (w : World) (hs : rs.length ≤ 1048576) :
    Calls Tryd.prog 46 #[.string ⟨rs.toArray⟩] w fun e w' => ∃ p h, e = .returned (.tuple #[uriV u p h, .int .i64 re]) ∧ OwnP w' w.heap.size p u.params ∧ OwnP w' w.heap.size h u.headers ∧ Below w.heap.size w w' := by
  have k := readRest_any rs w hs
  rw [h] at k
  exact k

set_option maxHeartbeats 2000000 in
set_option maxRecDepth 100000 in
theorem parse_any (s : List UInt8) (w : World) (hs : s.length ≤ 1048576) :
    Calls Tryd.prog 20 #[.string ⟨s.toArray⟩] w fun e w' => ∃ p h, e = .returned (.tuple #[uriV (parseV s).1 p h, .int .i64 (parseV s).2]) ∧ OwnP w' w.heap.size p (parseV s).1.params ∧ OwnP w' w.heap.size h (parseV s).1.headers ∧ Below w.heap.size w w' := by
  have hcl := cutL_len 58 s
  obtain ⟨ca, cb, cc, hcut⟩ : ∃ ca cb cc, cutL 58 s = (ca, cb, cc) := ⟨_, _, _, rfl⟩
  obtain ⟨us, rs, ue, hus⟩ : ∃ us rs ue, userV cb = (us, rs, ue) := ⟨_, _, _, rfl⟩
  have hv := parseV_of hcut hus
  rw [hcut] at hcl
  simp only at hcl
  have hul := user_small cb
  have hrl := user_rest cb
  rw [hus] at hul hrl
  simp only at hul hrl
  have hr0 := rowU_new w
  have hb0 : Below w.heap.size w (w.alloc (.cells #[.string ⟨#[]⟩, .string ⟨#[]⟩, .string ⟨#[]⟩, .int .i64 0, .slice none 0 0, .slice none 0 0] 31)) := (Below.refl _ w).alloc (Nat.le_refl _) _
  have hlt0 : w.heap.size < (w.alloc (.cells #[.string ⟨#[]⟩, .string ⟨#[]⟩, .string ⟨#[]⟩, .int .i64 0, .slice none 0 0, .slice none 0 0] 31)).heap.size := by simp
  have HKC : Hid _ := fun w' => strCut_of hcut w' (by omega)
  have HKU : Hid _ := fun w' => cutUser_of hus w' (by omega)
  clear hcut hus
  have HV : Hid _ := hv; clear hv
  have hll : (lowL ca).length ≤ 1048576 := by rw [lowL_len]; omega
  go_enter Tryd.func20, Tryd.ntmps20
  go_wp2_with fail
  refine (HKC.out _).mono ?_
  rintro e w1 ⟨rfl, hw1⟩
  have hr1 := hr0.below hw1 hlt0
  have hb1 := hb0.trans (hw1.mono hb0.size)
  have hlt1 := Nat.lt_of_lt_of_le hlt0 hw1.size
  clear hr0 hb0 hlt0 hw1 HKC
  go_wp2_with fail
  refine (lower_list ca _ (by omega)).mono ?_
  rintro e w2 ⟨rfl, hw2⟩
  have hr2 := hr1.below hw2 hlt1
  have hb2 := hb1.trans (hw2.mono hb1.size)
  have hlt2 := Nat.lt_of_lt_of_le hlt1 hw2.size
  clear hr1 hb1 hlt1 hw2
  obtain ⟨c0, c1, c2, c3, c4, c5, f0, f1, f2, f3, f4, f5⟩ := hr2.six
  cases cc with
  | false =>
    have hvv : Hid (parseV s = (noU, 30)) := show _ = _ by rw [HV.out, if_pos (Or.inl rfl)]
    clear HV HKU
    go_wp2
    have hr7 := row_store hr2 (.string ⟨#[]⟩) (.string ⟨#[]⟩) (.string ⟨#[]⟩) (.int .i64 0) (.slice none 0 0) (.slice none 0 0)
    have hb7 := store_below hb2 w.heap.size (Nat.le_refl _) (.string ⟨#[]⟩) (.string ⟨#[]⟩) (.string ⟨#[]⟩) (.int .i64 0) (.slice none 0 0) (.slice none 0 0)
    generalize World.setCell _ _ _ = w7 at hr7 hb7 ⊢
    obtain ⟨d0, d1, d2, d3, d4, d5, _, _, _, _, _, _⟩ := hr7.six
    try simp only [Exit.inBlock, Exit.then]
    refine bodyPost_ret (v := .tuple #[.agg #[.string ⟨#[]⟩, .string ⟨#[]⟩, .string ⟨#[]⟩, .int .i64 0, .slice none 0 0, .slice none 0 0], .int .i64 30]) (by simp [results, Tryd.results20, go_sem, d0, d1, d2, d3, d4, d5]; try rfl) rfl ?_
    exact ⟨.slice none 0 0, .slice none 0 0, by rw [hvv.out]; rfl, by rw [hvv.out]; exact OwnP.nil _ _, by rw [hvv.out]; exact OwnP.nil _ _, hb7⟩
  | true =>
    cases hsc : schemeB (lowL ca) with
    | false =>
      have hvv : Hid (parseV s = (noU, 30)) := show _ = _ by rw [HV.out, if_pos (Or.inr hsc)]
      clear HV HKU
      go_wp2_with (go_at_call 11; refine (scheme_list _ _).mono ?_; rintro e w' ⟨rfl, rfl⟩; rw [hsc])
      have hr7 := row_store hr2 (.string ⟨#[]⟩) (.string ⟨#[]⟩) (.string ⟨#[]⟩) (.int .i64 0) (.slice none 0 0) (.slice none 0 0)
      have hb7 := store_below hb2 w.heap.size (Nat.le_refl _) (.string ⟨#[]⟩) (.string ⟨#[]⟩) (.string ⟨#[]⟩) (.int .i64 0) (.slice none 0 0) (.slice none 0 0)
      generalize World.setCell _ _ _ = w7 at hr7 hb7 ⊢
      obtain ⟨d0, d1, d2, d3, d4, d5, _, _, _, _, _, _⟩ := hr7.six
      try simp only [Exit.inBlock, Exit.then]
      refine bodyPost_ret (v := .tuple #[.agg #[.string ⟨#[]⟩, .string ⟨#[]⟩, .string ⟨#[]⟩, .int .i64 0, .slice none 0 0, .slice none 0 0], .int .i64 30]) (by simp [results, Tryd.results20, go_sem, d0, d1, d2, d3, d4, d5]; try rfl) rfl ?_
      exact ⟨.slice none 0 0, .slice none 0 0, by rw [hvv.out]; rfl, by rw [hvv.out]; exact OwnP.nil _ _, by rw [hvv.out]; exact OwnP.nil _ _, hb7⟩
    | true =>
      rw [if_neg (by simp [hsc])] at HV
      go_wp2_with (first
        | (go_at_call 11; refine (scheme_list _ _).mono ?_; rintro e w' ⟨rfl, rfl⟩; rw [hsc])
        | (go_at_call 45; fail))
      refine (HKU.out _).mono ?_
      rintro e w3 ⟨rfl, hw3⟩
      have hr3 := hr2.below hw3 hlt2
      have hb3 := hb2.trans (hw3.mono hb2.size)
      have hlt3 := Nat.lt_of_lt_of_le hlt2 hw3.size
      clear hr2 hb2 hlt2 hw3 HKU c0 c1 c2 c3 c4 c5 f0 f1 f2 f3 f4 f5
      obtain ⟨c0, c1, c2, c3, c4, c5, f0, f1, f2, f3, f4, f5⟩ := hr3.six
      by_cases hue : ue = 0
      · subst hue
        rw [if_neg (by simp)] at HV
        have hrs : rs.length ≤ 1048576 := by omega
        obtain ⟨sm1, sm2, sm3⟩ := rest_small hrs
        obtain ⟨u, re, hre⟩ : ∃ u re, restV rs = (u, re) := ⟨_, _, rfl⟩
        rw [hre] at HV sm1 sm2 sm3
        simp only at sm1 sm2 sm3
        obtain ⟨u0, u1, u2, u3, u4, u5⟩ := u
        simp only at sm1 sm2 sm3
        have HKR : Hid _ := fun w' => readRest_of hre w' hrs
        clear hre
        go_wp2_with fail
        refine (HKR.out _).mono ?_
        rintro e w4 ⟨p, h, rfl, hop, hoh, hw4⟩
        obtain ⟨a1, k1, rfl⟩ := hop.parsAt.form
        obtain ⟨a2, k2, rfl⟩ := hoh.parsAt.form
        unfold uriV
        simp only
        have hr4 := hr3.below hw4 hlt3
        have hb4 := hb3.trans (hw4.mono hb3.size)
        have hlt4 := Nat.lt_of_lt_of_le hlt3 hw4.size
        have ho1 : Hid (OwnP w4 (w.heap.size + 1) (.slice a1 u4.length k1) u4) := OwnP.mono hop (by omega)
        have ho2 : Hid (OwnP w4 (w.heap.size + 1) (.slice a2 u5.length k2) u5) := OwnP.mono hoh (by omega)
        clear hr3 hb3 hlt3 hw4 HKR c0 c1 c2 c3 c4 c5 f0 f1 f2 f3 f4 f5 hop hoh
        obtain ⟨c0, c1, c2, c3, c4, c5, f0, f1, f2, f3, f4, f5⟩ := hr4.six
        by_cases hre : re = 0
        · subst hre
          obtain ⟨u', hu'⟩ : ∃ u' : Uri, u' = ⟨lowL ca, us, u2, u3, u4, u5⟩ := ⟨_, rfl⟩
          have HV2 : Hid (parseV s = endV u') := show _ = _ by rw [HV.out, bothV, if_neg (by simp), hu']
          have hsm : SmallU 140737488355328 u' := by rw [hu']; exact ⟨by show (lowL ca).length ≤ _; omega, by show us.length ≤ _; omega, by show u2.length ≤ _; omega, sm2, sm3⟩
          have e4 : u'.params = u4 := by rw [hu']
          have e5 : u'.headers = u5 := by rw [hu']
          have hbox := box_new w4 u' (.slice a1 u4.length k1) (.slice a2 u5.length k2)
          have hp4 := ho1.out.parsAt
          have hh4 := ho2.out.parsAt
          rw [← e4] at hp4
          rw [← e5] at hh4
          have HCK : Hid _ := fun w' hb => check_any u' (.slice a1 u'.params.length k1) (.slice a2 u'.headers.length k2) w' hsm (hp4.below hb) (hh4.below hb)
          rw [e4, e5] at HCK
          unfold uriV at HCK
          rw [hu'] at hbox
          have hv' : Hid (∀ c, checkV u' = c → parseV s = if c ≠ 0 then (noU, c) else (⟨lowL ca, us, u2, u3, u4, u5⟩, 0)) := fun c hc => by rw [HV2.out, endV, hc, hu']
          obtain ⟨ck, hck⟩ : ∃ ck, checkV u' = ck := ⟨_, rfl⟩
          have hvc := hv'.out ck hck
          rw [hck, hu'] at HCK
          simp only at HCK
          have HVC : Hid _ := hvc
          clear hvc hv' HV HV2 hp4 hh4 e4 e5 hsm hck hu' u'
          go_wp2_with fail
          have hbA : Below w4.heap.size w4 (w4.alloc (.cells #[.string ⟨(lowL ca).toArray⟩, .string ⟨us.toArray⟩, .string ⟨u2.toArray⟩, .int .i64 u3, .slice a1 u4.length k1, .slice a2 u5.length k2] 31)) := (Below.refl _ w4).alloc (Nat.le_refl _) _
          refine (HCK.out _ hbA).mono ?_
          rintro e w5 ⟨rfl, hw5⟩
          have hbx : w4.heap.size < (w4.alloc (.cells #[.string ⟨(lowL ca).toArray⟩, .string ⟨us.toArray⟩, .string ⟨u2.toArray⟩, .int .i64 u3, .slice a1 u4.length k1, .slice a2 u5.length k2] 31)).heap.size := by simp
          obtain ⟨g0, g1, g2, g3, g4, g5⟩ := hbox.below hw5 hbx
          simp only at g0 g1 g2 g3 g4 g5
          have hb45 : Below w4.heap.size w4 w5 := hbA.trans (hw5.mono hbA.size)
          have hr5 := hr4.below hb45 hlt4
          have hb5 := hb4.trans (hb45.mono hb4.size)
          have p5 : Hid (OwnP w5 (w.heap.size + 1) (.slice a1 u4.length k1) u4) := ho1.out.below hb45
          have q5 : Hid (OwnP w5 (w.heap.size + 1) (.slice a2 u5.length k2) u5) := ho2.out.below hb45
          clear hw5 hb45 hbA hbx hbox HCK hr4 ho1 ho2 c0 c1 c2 c3 c4 c5 f0 f1 f2 f3 f4 f5
          obtain ⟨c0, c1, c2, c3, c4, c5, f0, f1, f2, f3, f4, f5⟩ := hr5.six
          by_cases hck : ck = 0
          · subst hck
            have hvv : Hid (parseV s = (⟨lowL ca, us, u2, u3, u4, u5⟩, 0)) := show _ = _ by rw [HVC.out, if_neg (by simp)]
            clear HVC
            go_wp2
            have hr7 := row_store hr5 (.string ⟨(lowL ca).toArray⟩) (.string ⟨us.toArray⟩) (.string ⟨u2.toArray⟩) (.int .i64 u3) (.slice a1 u4.length k1) (.slice a2 u5.length k2)
            have hb7 := store_below hb5 w.heap.size (Nat.le_refl _) (.string ⟨(lowL ca).toArray⟩) (.string ⟨us.toArray⟩) (.string ⟨u2.toArray⟩) (.int .i64 u3) (.slice a1 u4.length k1) (.slice a2 u5.length k2)
            have p7 := (OwnP.store p5.out (Nat.lt_succ_self _) (.string ⟨(lowL ca).toArray⟩) (.string ⟨us.toArray⟩) (.string ⟨u2.toArray⟩) (.int .i64 u3) (.slice a1 u4.length k1) (.slice a2 u5.length k2)).mono (Nat.le_succ w.heap.size)
            have q7 := (OwnP.store q5.out (Nat.lt_succ_self _) (.string ⟨(lowL ca).toArray⟩) (.string ⟨us.toArray⟩) (.string ⟨u2.toArray⟩) (.int .i64 u3) (.slice a1 u4.length k1) (.slice a2 u5.length k2)).mono (Nat.le_succ w.heap.size)
            generalize World.setCell _ _ _ = w7 at hr7 hb7 p7 q7 ⊢
            obtain ⟨d0, d1, d2, d3, d4, d5, _, _, _, _, _, _⟩ := hr7.six
            try simp only [Exit.inBlock, Exit.then]
            refine bodyPost_ret (v := .tuple #[.agg #[.string ⟨(lowL ca).toArray⟩, .string ⟨us.toArray⟩, .string ⟨u2.toArray⟩, .int .i64 u3, .slice a1 u4.length k1, .slice a2 u5.length k2], .int .i64 0]) (by simp [results, Tryd.results20, go_sem, d0, d1, d2, d3, d4, d5]; try rfl) rfl ?_
            exact ⟨_, _, by rw [hvv.out]; rfl, by rw [hvv.out]; exact p7, by rw [hvv.out]; exact q7, hb7⟩
          · have hue1 : (ck != 0) = true := by simpa using hck
            have hue2 : (ck == 0) = false := by simpa using hck
            have hvv : Hid (parseV s = (noU, ck)) := show _ = _ by rw [HVC.out, if_pos hck]
            clear HVC
            go_wp2
            have hr7 := row_store hr5 (.string ⟨#[]⟩) (.string ⟨#[]⟩) (.string ⟨#[]⟩) (.int .i64 0) (.slice none 0 0) (.slice none 0 0)
            have hb7 := store_below hb5 w.heap.size (Nat.le_refl _) (.string ⟨#[]⟩) (.string ⟨#[]⟩) (.string ⟨#[]⟩) (.int .i64 0) (.slice none 0 0) (.slice none 0 0)
            generalize World.setCell _ _ _ = w7 at hr7 hb7 ⊢
            obtain ⟨d0, d1, d2, d3, d4, d5, _, _, _, _, _, _⟩ := hr7.six
            try simp only [Exit.inBlock, Exit.then]
            refine bodyPost_ret (v := .tuple #[.agg #[.string ⟨#[]⟩, .string ⟨#[]⟩, .string ⟨#[]⟩, .int .i64 0, .slice none 0 0, .slice none 0 0], .int .i64 ck]) (by simp [results, Tryd.results20, go_sem, d0, d1, d2, d3, d4, d5]; try rfl) rfl ?_
            exact ⟨.slice none 0 0, .slice none 0 0, by rw [hvv.out]; rfl, by rw [hvv.out]; exact OwnP.nil _ _, by rw [hvv.out]; exact OwnP.nil _ _, hb7⟩
        · have hue1 : (re != 0) = true := by simpa using hre
          have hue2 : (re == 0) = false := by simpa using hre
          have hvv : Hid (parseV s = (noU, re)) := show _ = _ by rw [HV.out, bothV, if_pos hre]
          clear HV
          go_wp2
          have hr7 := (row_store hr4 (.string ⟨#[]⟩) (.string ⟨#[]⟩) (.string ⟨#[]⟩) (.int .i64 0) (.slice none 0 0) (.slice none 0 0)).alloc (.cells #[.string ⟨u0.toArray⟩, .string ⟨u1.toArray⟩, .string ⟨u2.toArray⟩, .int .i64 u3, .slice a1 u4.length k1, .slice a2 u5.length k2] 31)
          have hb6 := store_below hb4 w.heap.size (Nat.le_refl _) (.string ⟨#[]⟩) (.string ⟨#[]⟩) (.string ⟨#[]⟩) (.int .i64 0) (.slice none 0 0) (.slice none 0 0)
          have hb7 := hb6.alloc hb6.size (.cells #[.string ⟨u0.toArray⟩, .string ⟨u1.toArray⟩, .string ⟨u2.toArray⟩, .int .i64 u3, .slice a1 u4.length k1, .slice a2 u5.length k2] 31)
          clear hb6
          generalize World.alloc _ _ = w7 at hr7 hb7 ⊢
          obtain ⟨d0, d1, d2, d3, d4, d5, _, _, _, _, _, _⟩ := hr7.six
          try simp only [Exit.inBlock, Exit.then]
          refine bodyPost_ret (v := .tuple #[.agg #[.string ⟨#[]⟩, .string ⟨#[]⟩, .string ⟨#[]⟩, .int .i64 0, .slice none 0 0, .slice none 0 0], .int .i64 re]) (by simp [results, Tryd.results20, go_sem, d0, d1, d2, d3, d4, d5]; try rfl) rfl ?_
          exact ⟨.slice none 0 0, .slice none 0 0, by rw [hvv.out]; rfl, by rw [hvv.out]; exact OwnP.nil _ _, by rw [hvv.out]; exact OwnP.nil _ _, hb7⟩
      · have hue1 : (ue != 0) = true := by simpa using hue
        have hue2 : (ue == 0) = false := by simpa using hue
        have hvv : Hid (parseV s = (noU, ue)) := show _ = _ by rw [HV.out, if_pos hue]
        clear HV
        go_wp2
        have hr7 := row_store hr3 (.string ⟨#[]⟩) (.string ⟨#[]⟩) (.string ⟨#[]⟩) (.int .i64 0) (.slice none 0 0) (.slice none 0 0)
        have hb7 := store_below hb3 w.heap.size (Nat.le_refl _) (.string ⟨#[]⟩) (.string ⟨#[]⟩) (.string ⟨#[]⟩) (.int .i64 0) (.slice none 0 0) (.slice none 0 0)
        generalize World.setCell _ _ _ = w7 at hr7 hb7 ⊢
        obtain ⟨d0, d1, d2, d3, d4, d5, _, _, _, _, _, _⟩ := hr7.six
        try simp only [Exit.inBlock, Exit.then]
        refine bodyPost_ret (v := .tuple #[.agg #[.string ⟨#[]⟩, .string ⟨#[]⟩, .string ⟨#[]⟩, .int .i64 0, .slice none 0 0, .slice none 0 0], .int .i64 ue]) (by simp [results, Tryd.results20, go_sem, d0, d1, d2, d3, d4, d5]; try rfl) rfl ?_
        exact ⟨.slice none 0 0, .slice none 0 0, by rw [hvv.out]; rfl, by rw [hvv.out]; exact OwnP.nil _ _, by rw [hvv.out]; exact OwnP.nil _ _, hb7⟩

end Go.Proofs.YtfdcklekjnihjaaDoor
