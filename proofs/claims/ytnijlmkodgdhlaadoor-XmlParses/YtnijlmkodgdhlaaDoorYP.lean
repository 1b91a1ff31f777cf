/-
  Base texts, one behind another: XSmall, RX1, RX2.
-/
import Derived.Test.YtnijlmkodgdhlaaDoorYO
import Derived.Test.YtnijlmkodgdhlaaDoorYJ
import Derived.Test.YtnijlmkodgdhlaaDoorYB
import Derived.Test.YtnijlmkodgdhlaaDoorYC
import Derived.Test.YtnijlmkodgdhlaaDoorYD

/-
  What package xml's reader tells is not longer than what it read: plain facts.
-/
namespace Go.Proofs.YtnijlmkodgdhlaaDoor
open Go.RowKit Sc
set_option linter.unusedVariables false
set_option maxRecDepth 20000
set_option linter.unusedSimpArgs false

theorem readG_len : ∀ (n : Nat) (l r : List UInt8), readG n l = some r → r.length ≤ l.length
  | n, [], r, h => by cases n <;> (rw [readG] at h; simp at h; subst h; simp)
  | 0, _ :: _, r, h => by rw [readG] at h; cases h
  | n + 1, b :: l, r, h => by
    rw [readG] at h
    split at h
    · split at h
      · cases h
      · next c k he =>
        cases hq : readG n (l.drop k) with
        | none => rw [hq] at h; cases h
        | some q =>
          rw [hq] at h
          simp only [Option.map_some, Option.some.injEq] at h
          have := readG_len n _ _ hq
          rw [List.length_drop] at this
          rw [← h]
          simp only [List.length_cons]
          omega
    · cases hq : readG n l with
      | none => rw [hq] at h; cases h
      | some q =>
        rw [hq] at h
        simp only [Option.map_some, Option.some.injEq] at h
        have := readG_len n _ _ hq
        rw [← h]
        simp only [List.length_cons]
        omega
theorem readX_len {l r : List UInt8} (h : readX l = some r) : r.length ≤ l.length := readG_len _ _ _ h
theorem attrC_small {s r : List UInt8} {p : Par} (h : attrC s = some (p, r)) : p.name.length + r.length < s.length ∧ p.value.length + r.length < s.length := by
  unfold attrC at h
  split at h
  · cases h
  · next n y hu =>
    obtain ⟨r', rfl, hl⟩ := up_eq hu
    split at h
    · cases h
    · next v r2 hv =>
      have h1 := valueC_len hv
      have h2 := dw_len xblk r'
      have h3 := xbehind_len n
      simp only [List.drop_succ_cons, List.drop_zero] at h1
      cases hr : readX v with
      | none => rw [hr] at h; cases h
      | some x =>
        have h4 := readX_len hr
        rw [hr] at h
        simp only [Option.map_some, Option.some.injEq, Prod.mk.injEq] at h
        rw [← h.2, ← h.1]
        simp only
        omega
def SmAt (K : Nat) (ps : List Par) (s : List UInt8) : Prop := ps.length + s.length ≤ K ∧ ∀ p ∈ ps, p.name.length ≤ K ∧ p.value.length ≤ K
theorem attrsC_small (K : Nat) : ∀ (n : Nat) (acc : List Par) (s : List UInt8) (l : List Par) (r : List UInt8), SmAt K acc s → attrsC n acc s = some (l, r) → SmAt K l r
  | 0, _, _, _, _, _, h => by rw [attrsC] at h; cases h
  | n + 1, acc, s, l, r, hk, h => by
    rw [attrsC] at h
    have hd := dw_len xblk s
    split at h
    · split at h
      · cases h
      · next p r2 ha =>
        have h1 := attrC_small ha
        have h2 := hk.1
        refine attrsC_small K n _ _ _ _ ⟨by simp; omega, fun q hq => ?_⟩ h
        rcases List.mem_append.1 hq with hq | hq
        · exact hk.2 q hq
        · simp at hq; subst hq; omega
    · simp only [Option.some.injEq, Prod.mk.injEq] at h
      obtain ⟨rfl, rfl⟩ := h
      exact ⟨by have := hk.1; omega, hk.2⟩
/-- An element of not too long texts. -/
def SmNd (K : Nat) (x : Nd) : Prop := x.name.length ≤ K ∧ x.text.length ≤ K ∧ x.attrs.length ≤ K ∧ (∀ p ∈ x.attrs, p.name.length ≤ K ∧ p.value.length ≤ K) ∧ 0 ≤ x.deep ∧ x.deep ≤ K
mutual
theorem elemC_small (K : Nat) : ∀ (n d : Nat) (s : List UInt8) (l : List Nd) (r : List UInt8), d + s.length ≤ K → elemC n d s = some (l, r) → ∀ x ∈ l, SmNd K x
  | 0, _, _, _, _, _, h => by rw [elemC] at h; cases h
  | n + 1, d, s, l, r, hk, h => by
    rw [elemC] at h
    split at h
    · cases h
    · next h1 =>
      have h1' : preX [60] s = true := by simpa using h1
      have hp := pre_len h1'
      simp only [List.length_cons, List.length_nil] at hp
      have hd1 : (s.drop 1).length = s.length - 1 := by rw [List.length_drop]
      split at h
      · cases h
      · next nm r1 hu =>
        obtain ⟨c, q, hq, _, hlq⟩ := up_head hu
        split at h
        · cases h
        · next ps r2 ha =>
          have hsm := attrsC_small K _ _ _ _ _ ⟨by simp; omega, fun p hp => by simp at hp⟩ ha
          have ha' := attrsC_len _ _ _ _ _ ha
          split at h
          · simp only [Option.some.injEq, Prod.mk.injEq] at h
            rw [← h.1]
            intro x hx
            simp at hx
            subst hx
            exact ⟨by simp only; omega, by simp, by have := hsm.1; simp only; omega, hsm.2, by simp only; omega, by simp only; omega⟩
          · split at h
            · cases h
            · split at h
              · cases h
              · next x y hu2 =>
                obtain ⟨c2, q2, hq2, _, hlq2⟩ := up_head hu2
                have hd2 : (r2.drop 1).length = r2.length - 1 := by rw [List.length_drop]
                have hql : 1 ≤ r1.length := by rw [hq]; simp
                split at h
                · cases h
                · next t ks r3 hi =>
                  have hin := innC_small K n _ _ _ _ _ _ _ (by omega) (by omega) (fun x hx => by simp at hx) hi
                  cases hc : closeC nm r3 with
                  | none => rw [hc] at h; cases h
                  | some r4 =>
                    rw [hc] at h
                    simp only [Option.map_some, Option.some.injEq, Prod.mk.injEq] at h
                    rw [← h.1]
                    intro z hz
                    rcases List.mem_cons.1 hz with hz | hz
                    · subst hz
                      exact ⟨by simp only; omega, hin.1, by have := hsm.1; simp only; omega, hsm.2, by simp only; omega, by simp only; omega⟩
                    · exact hin.2 z hz
theorem innC_small (K : Nat) : ∀ (n d : Nat) (txt : List UInt8) (ks : List Nd) (s t : List UInt8) (l : List Nd) (r : List UInt8), d + s.length ≤ K → txt.length + s.length ≤ K → (∀ x ∈ ks, SmNd K x) → innC n d txt ks s = some (t, l, r) → t.length ≤ K ∧ ∀ x ∈ l, SmNd K x
  | 0, _, _, _, _, _, _, _, _, _, _, h => by rw [innC] at h; cases h
  | n + 1, d, txt, ks, s, t, l, r, hk, ht, hks, h => by
    rw [innC] at h
    split at h
    · cases hv : readX (xtrim txt) with
      | none => rw [hv] at h; cases h
      | some u =>
        have h1 := readX_len hv
        have h2 := xtrim_len txt
        rw [hv] at h
        simp only [Option.map_some, Option.some.injEq, Prod.mk.injEq] at h
        obtain ⟨rfl, rfl, rfl⟩ := h
        exact ⟨by omega, hks⟩
    · split at h
      · cases h
      · next k2 r1 he =>
        have h1 := elemC_len n _ _ _ _ he
        have h2 := elemC_small K n _ _ _ _ hk he
        split at h
        · cases h
        · next x y hu =>
          obtain ⟨c, q, hq, _, hlq⟩ := up_head hu
          refine innC_small K n _ _ _ _ _ _ _ (by omega) (by rw [List.length_append]; omega) (fun z hz => ?_) h
          rcases List.mem_append.1 hz with hz | hz
          · exact hks z hz
          · exact h2 z hz
end
theorem SmNd.small {K : Nat} {x : Nd} (h : SmNd K x) (hK : K ≤ 100000) : SmallN 140737488355328 x := by
  obtain ⟨h1, h2, h3, h4, h5, h6⟩ := h
  refine ⟨by omega, by omega, ⟨by omega, fun p hp => ?_⟩, ?_⟩
  · have := h4 p hp; omega
  · simp [Lit.wf, IntKind.min, IntKind.max, IntKind.signed, IntKind.bits]
    omega
end Go.Proofs.YtnijlmkodgdhlaaDoor

/-
  The document's own layer 13: places in a text, names, signs, trimming.
-/
namespace Go.Proofs.YtnijlmkodgdhlaaDoor
open Go.RowKit Sc
set_option linter.unusedVariables false
set_option maxRecDepth 20000
set_option linter.unusedSimpArgs false

theorem hasX (b : UInt8) : hasL b [32, 9, 13, 10] = xblk b := by
  simp only [hasL, xblk, List.contains_cons, List.contains_nil, Bool.or_false]
theorem hasX_of {c : UInt8} {b : Bool} (h : xblk c = b) (w : World) :
    Calls Tryd.prog 34 #[.string ⟨#[32, 9, 13, 10]⟩, .int .u8 c.toNat] w fun e w' => e = .returned (.bool b) ∧ w' = w := by
  have k := has3_any ⟨#[32, 9, 13, 10]⟩ c w (by decide)
  have e : hasL c (⟨#[32, 9, 13, 10]⟩ : ByteArray).data.toList = b := by rw [← h]; exact hasX c
  rw [e] at k; exact k
theorem has_of {s : ByteArray} {c : UInt8} {b : Bool} (h : hasL c s.data.toList = b) (hs : s.size ≤ 140737488355328) (w : World) :
    Calls Tryd.prog 34 #[.string s, .int .u8 c.toNat] w fun e w' => e = .returned (.bool b) ∧ w' = w := by
  have k := has3_any s c w (by unfold maxLen; omega)
  rw [h] at k; exact k
theorem getB (s : ByteArray) (k : Nat) (h : k < s.size) : s.data.toList[k]'(by rw [len_data]; exact h) = s[k] := by
  have := getL s k h
  rw [List.getElem?_eq_getElem (by rw [len_data]; exact h)] at this
  exact Option.some.inj this

set_option maxHeartbeats 1000000 in
set_option maxRecDepth 100000 in
theorem rover_any (s : ByteArray) (a : Nat) (w : World) (hs : s.size ≤ 140737488355328) (ha : a ≤ s.size) :
    Calls Tryd.prog 40 #[.string s, .int .i64 a] w fun e w' => e = .returned (.int .i64 (runL xblk s.data.toList a)) ∧ w' = w := by
  have hl := len_data s
  go_enter Tryd.func40, Tryd.ntmps40
  go_wp2
  go_loop [1] (fun i => ∃ k : Nat, k ≤ s.size ∧ i = .int .i64 k ∧ Hid (runL xblk s.data.toList k = runL xblk s.data.toList a)) (fun i => s.size - (intOf i).toNat)
  case atStart => exact ⟨a, ha, rfl, show _ = _ from rfl⟩
  case round =>
    obtain ⟨k, hk, rfl, hr⟩ := hrel
    by_cases hlt : k < s.size
    · cases hc : xblk s[k] with
      | true =>
        have KH := hid (fun w' => hasX_of hc w')
        have hr2 : Hid (runL xblk s.data.toList (k + 1) = runL xblk s.data.toList a) := show _ = _ by
          rw [run_step (by omega) (by rw [getB s k hlt]; exact hc)]; exact hr.out
        clear hr hc hl
        go_wp2_with (go_at_call 34; refine (KH.out _).mono ?_; rintro e w' ⟨rfl, rfl⟩)
        go_round
        case rel => exact ⟨k + 1, by omega, by go_num, hr2⟩
        case measure => simp [intOf]; omega
      | false =>
        have KH := hid (fun w' => hasX_of hc w')
        have hr2 : Hid (k = runL xblk s.data.toList a) := show _ = _ by
          rw [← hr.out]; exact (run_stop (by omega) (by rw [getB s k hlt]; exact hc)).symm
        clear hr hc hl
        go_wp2_with (go_at_call 34; refine (KH.out _).mono ?_; rintro e w' ⟨rfl, rfl⟩)
        go_ret
        exact ⟨ret_int (by rw [← hr2.out]), rfl⟩
    · have hr2 : Hid (k = runL xblk s.data.toList a) := show _ = _ by
        rw [← hr.out]; exact (run_end (by omega)).symm
      clear hr hl
      go_wp2
      go_ret
      exact ⟨ret_int (by rw [← hr2.out]), rfl⟩

set_option maxHeartbeats 1000000 in
set_option maxRecDepth 100000 in
theorem rupto_any (s t : ByteArray) (a : Nat) (w : World) (hs : s.size ≤ 140737488355328) (ht : t.size ≤ 140737488355328) (ha : a ≤ s.size) :
    Calls Tryd.prog 38 #[.string s, .int .i64 a, .string t] w fun e w' => e = .returned (.int .i64 (runL (fun b => !hasL b t.data.toList) s.data.toList a)) ∧ w' = w := by
  have hl := len_data s
  generalize hp : (fun b => !hasL b t.data.toList) = p
  have hpb : ∀ b, p b = !hasL b t.data.toList := fun b => by rw [← hp]
  clear hp
  go_enter Tryd.func38, Tryd.ntmps38
  go_wp2
  go_loop [1] (fun i => ∃ k : Nat, k ≤ s.size ∧ i = .int .i64 k ∧ Hid (runL p s.data.toList k = runL p s.data.toList a)) (fun i => s.size - (intOf i).toNat)
  case atStart => exact ⟨a, ha, rfl, show _ = _ from rfl⟩
  case round =>
    obtain ⟨k, hk, rfl, hr⟩ := hrel
    by_cases hlt : k < s.size
    · cases hc : hasL s[k] t.data.toList with
      | false =>
        have KH := hid (fun w' => has_of hc ht w')
        have hr2 : Hid (runL p s.data.toList (k + 1) = runL p s.data.toList a) := show _ = _ by
          rw [run_step (by omega) (by rw [getB s k hlt, hpb, hc]; rfl)]; exact hr.out
        clear hr hc hl hpb
        go_wp2_with (go_at_call 34; refine (KH.out _).mono ?_; rintro e w' ⟨rfl, rfl⟩)
        go_round
        case rel => exact ⟨k + 1, by omega, by go_num, hr2⟩
        case measure => simp [intOf]; omega
      | true =>
        have KH := hid (fun w' => has_of hc ht w')
        have hr2 : Hid (k = runL p s.data.toList a) := show _ = _ by
          rw [← hr.out]; exact (run_stop (by omega) (by rw [getB s k hlt, hpb, hc]; rfl)).symm
        clear hr hc hl hpb
        go_wp2_with (go_at_call 34; refine (KH.out _).mono ?_; rintro e w' ⟨rfl, rfl⟩)
        go_ret
        exact ⟨ret_int (by rw [← hr2.out]), rfl⟩
    · have hr2 : Hid (k = runL p s.data.toList a) := show _ = _ by
        rw [← hr.out]; exact (run_end (by omega)).symm
      clear hr hl hpb
      go_wp2
      go_ret
      exact ⟨ret_int (by rw [← hr2.out]), rfl⟩

theorem isAt_ext (s t : ByteArray) (k : Nat) : ((s.extract k (k + t.size)).toList == t.toList) = isAt s.data.toList k t.data.toList := by
  rw [ext_list, ByteArray.toList_eq, ByteArray.toList_eq, Nat.add_sub_cancel_left]
  unfold isAt
  rw [len_data]
  rw [Bool.eq_iff_iff]; simp
set_option maxHeartbeats 1000000 in
set_option maxRecDepth 100000 in
theorem ris_any (s t : ByteArray) (k : Nat) (w : World) (hs : s.size ≤ 140737488355328) (ht : t.size ≤ 140737488355328) (hk : k ≤ 140737488355328) (hn : t.size ≠ 0 ∨ k ≤ s.size) :
    Calls Tryd.prog 37 #[.string s, .int .i64 k, .string t] w fun e w' => e = .returned (.bool (isAt s.data.toList k t.data.toList)) ∧ w' = w := by
  have hw1 : IntKind.i64.wrap ((k : Int) + (t.size : Int)) = ((k + t.size : Nat) : Int) := by rw [IntKind.wrap_i64]; omega
  have hl := len_data s
  have hl2 := len_data t
  by_cases h : k + t.size ≤ s.size
  · have HE := hid (isAt_ext s t k)
    generalize isAt s.data.toList k t.data.toList = b at HE ⊢
    clear hl hl2 hn
    have h1 : ((k + t.size : Nat) : Int) ≤ (s.size : Int) := by omega
    cases b with
    | true =>
      have he := HE.out
      clear HE
      go_enter Tryd.func37, Tryd.ntmps37
      go_wp2
      go_ret
      exact ⟨rfl, rfl⟩
    | false =>
      have he := HE.out
      clear HE
      go_enter Tryd.func37, Tryd.ntmps37
      go_wp2
      go_ret
      exact ⟨rfl, rfl⟩
  · have hv : Hid (isAt s.data.toList k t.data.toList = false) := show _ = _ from isAt_long (by omega) (by
      rcases hn with hn | hn
      · exact .inl (fun e => by rw [e] at hl2; simp at hl2; omega)
      · exact .inr (by omega))
    clear hl hl2 hn
    have h1 : ¬ ((k + t.size : Nat) : Int) ≤ (s.size : Int) := by omega
    go_enter Tryd.func37, Tryd.ntmps37
    go_wp2
    go_ret
    exact ⟨ret_bool hv.out.symm, rfl⟩
end Go.Proofs.YtnijlmkodgdhlaaDoor

/-
  The document's own layer 13: names, signs, trimming.
-/
namespace Go.Proofs.YtnijlmkodgdhlaaDoor
open Go.RowKit Sc
set_option linter.unusedVariables false
set_option maxRecDepth 20000
set_option linter.unusedSimpArgs false

theorem hasN (b : UInt8) : hasL b [45, 46, 58] = (b == 45 || (b == 46 || b == 58)) := by
  simp only [hasL, List.contains_cons, List.contains_nil, Bool.or_false]
theorem hasN_of {c : UInt8} {b : Bool} (h : (c == 45 || (c == 46 || c == 58)) = b) (w : World) :
    Calls Tryd.prog 34 #[.string ⟨#[45, 46, 58]⟩, .int .u8 c.toNat] w fun e w' => e = .returned (.bool b) ∧ w' = w :=
  has_of (s := ⟨#[45, 46, 58]⟩) (by rw [← h]; exact hasN c) (by decide) w
theorem class_of (c : UInt8) (w : World) : Calls Tryd.prog 33 #[.int .u8 c.toNat] w fun e w' => e = .returned (.int .i64 (cls c.toNat)) ∧ w' = w :=
  refclass_any c.toNat w (u8_bd c).1 (u8_bd c).2
theorem all_snocX (p : UInt8 → Bool) (s : ByteArray) (k : Nat) (h : k < s.size) (ha : (s.data.toList.take k).all p = true) (hp : p s[k] = true) : (s.data.toList.take (k + 1)).all p = true := by
  rw [take_snoc s k h, List.all_append, ha]; simp [hp]
theorem all_badX (p : UInt8 → Bool) (s : ByteArray) (k : Nat) (h : k < s.size) (hp : p s[k] = false) : s.data.toList.all p = false := by
  rw [List.all_eq_false]
  exact ⟨s[k], by rw [← getB s k h]; exact List.getElem_mem _, by simp [hp]⟩
theorem sign_low {b : UInt8} (hx : xblk b = false) (h : b.toNat < 32) : signX b = false := by
  unfold signX; rw [hx]; simp [h]
theorem sign_ok {b : UInt8} (h : ¬ b.toNat < 32) (h2 : ¬ b = 127) : signX b = true := by
  unfold signX; simp [h, h2]
theorem name_bad (s : ByteArray) (k : Nat) (h : k < s.size) (hp : namc s[k] = false) : nameX s.data.toList = false := by
  unfold nameX; rw [all_badX _ _ _ h hp]; rfl
theorem name_head (s : ByteArray) (h : 0 < s.size) (hp : letX s[0] = false) : nameX s.data.toList = false := by
  unfold nameX
  have : s.data.toList.head? = some s[0] := by
    rw [List.head?_eq_getElem?, getL s 0 h]
  rw [this]; simp [hp]
theorem name_end (s : ByteArray) (k : Nat) (hk : s.size ≤ k) (ha : (s.data.toList.take k).all namc = true) (hh : k = 0 ∨ ∃ h : 0 < s.size, letX s[0] = true) : nameX s.data.toList = (decide (1 ≤ s.size) && decide (s.size ≤ 64)) := by
  rw [take_all s k hk] at ha
  unfold nameX
  rw [ha, len_data, Bool.true_and]
  rcases hh with hh | ⟨h, hl⟩
  · have h0 : s.size = 0 := by omega
    have : s.data.toList = [] := List.eq_nil_of_length_eq_zero (by rw [len_data]; exact h0)
    rw [this, h0]; rfl
  · have : s.data.toList.head? = some s[0] := by
      rw [List.head?_eq_getElem?, getL s 0 h]
    rw [this]
    have h1 : decide (1 ≤ s.size) = true := decide_eq_true (by omega)
    rw [h1]; simp [hl]

set_option maxHeartbeats 2000000 in
set_option maxRecDepth 100000 in
theorem rname_any (s : ByteArray) (w : World) (hs : s.size ≤ 140737488355328) :
    Calls Tryd.prog 16 #[.string s] w fun e w' => e = .returned (.bool (nameX s.data.toList)) ∧ w' = w := by
  have HC := hid class_of
  have HE := hid (name_end s)
  have HB := hid (name_bad s)
  have HH := hid (name_head s)
  have HS := hid (all_snocX namc s)
  have HR : Hid (∀ k : Nat, k ≤ s.size → (s.data.toList.take k).all namc = true → (k = 0 ∨ ∃ h : 0 < s.size, letX s[0] = true) → k = s.size → nameX s.data.toList = (decide (1 ≤ s.size) && decide (s.size ≤ 64))) := fun k hk ha hh e => HE.out k (by omega) ha hh
  generalize nameX s.data.toList = R at HE HB HH HR ⊢
  go_enter Tryd.func16, Tryd.ntmps16
  go_wp2
  go_loop [3] (fun i => ∃ k : Nat, k ≤ s.size ∧ i = .int .i64 k ∧ Hid ((s.data.toList.take k).all namc = true) ∧ Hid (k = 0 ∨ ∃ h : 0 < s.size, letX s[0] = true)) (fun i => s.size - (intOf i).toNat)
  case atStart => exact ⟨0, Nat.zero_le _, rfl, show _ = _ by simp, show _ ∨ _ from .inl rfl⟩
  case round =>
    obtain ⟨k, hk, rfl, ha, hh⟩ := hrel
    by_cases hlt : k < s.size
    · have hbd := u8_bd s[k]
      cases hlet : letX s[k] with
      | true =>
        have ha2 : Hid ((s.data.toList.take (k + 1)).all namc = true) := HS.out k hlt ha.out (by unfold namc; rw [hlet]; rfl)
        have hh2 : Hid (k + 1 = 0 ∨ ∃ h : 0 < s.size, letX s[0] = true) := show _ ∨ _ by
          rcases hh.out with h | h
          · subst h; exact .inr ⟨hlt, hlet⟩
          · exact .inr h
        clear ha hh HE HB HH HS HR
        cases h2 : (bits BinOp.and IntKind.i64 (cls s[k].toNat) 2 == 0) with
        | false =>
          have h2' : ¬ bits BinOp.and IntKind.i64 (cls s[k].toNat) 2 = 0 := by simpa using h2
          clear hlet
          go_wp2_with (go_at_call 33; refine (HC.out _ _).mono ?_; rintro e w' ⟨rfl, rfl⟩)
          go_round
          case rel => exact ⟨k + 1, by omega, by go_num, ha2, hh2⟩
          case measure => simp [intOf]; omega
        | true =>
          have h95 : ((s[k].toNat : Int) == 95) = true := by
            unfold letX isB at hlet
            rw [h2] at hlet
            have : s[k] = 95 := by simpa using hlet
            rw [this]; rfl
          have h2' : bits BinOp.and IntKind.i64 (cls s[k].toNat) 2 = 0 := by simpa using h2
          clear hlet
          go_wp2_with (go_at_call 33; refine (HC.out _ _).mono ?_; rintro e w' ⟨rfl, rfl⟩)
          go_round
          case rel => exact ⟨k + 1, by omega, by go_num, ha2, hh2⟩
          case measure => simp [intOf]; omega
      | false =>
        have h2 : (bits BinOp.and IntKind.i64 (cls s[k].toNat) 2 == 0) = true := by
          unfold letX isB at hlet
          rw [Bool.or_eq_false_iff] at hlet
          simpa using hlet.1
        have h2' : bits BinOp.and IntKind.i64 (cls s[k].toNat) 2 = 0 := by simpa using h2
        have h95 : ((s[k].toNat : Int) == 95) = false := by
          have : (s[k] == 95) = false := by unfold letX at hlet; rw [Bool.or_eq_false_iff] at hlet; exact hlet.2
          have h3 : ¬ s[k] = 95 := by simpa using this
          exact u8_ne (b := 95) h3
        by_cases h0 : k = 0
        · have hR : Hid (R = false) := show _ = _ from HH.out (by omega) (by subst h0; exact hlet)
          subst h0
          clear hlet ha hh HE HB HH HS HR
          go_wp2_with (go_at_call 33; refine (HC.out _ _).mono ?_; rintro e w' ⟨rfl, rfl⟩)
          go_ret
          exact ⟨ret_bool hR.out.symm, rfl⟩
        · have hk0 : ((k : Int) == 0) = false := by simpa using h0
          cases h1 : (bits BinOp.and IntKind.i64 (cls s[k].toNat) 1 == 0) with
          | false =>
            have ha2 : Hid ((s.data.toList.take (k + 1)).all namc = true) := HS.out k hlt ha.out (by unfold namc isB; rw [hlet, h1]; rfl)
            have hh2 : Hid (k + 1 = 0 ∨ ∃ h : 0 < s.size, letX s[0] = true) := show _ ∨ _ by
              rcases hh.out with h | h
              · exact absurd h h0
              · exact .inr h
            clear hlet ha hh HE HB HH HS HR
            go_wp2_with (go_at_call 33; refine (HC.out _ _).mono ?_; rintro e w' ⟨rfl, rfl⟩)
            go_round
            case rel => exact ⟨k + 1, by omega, by go_num, ha2, hh2⟩
            case measure => simp [intOf]; omega
          | true =>
            cases h3 : (s[k] == 45 || (s[k] == 46 || s[k] == 58)) with
            | true =>
              have KH := hid (fun w' => hasN_of h3 w')
              have ha2 : Hid ((s.data.toList.take (k + 1)).all namc = true) := HS.out k hlt ha.out (by unfold namc isB; rw [hlet, h1, h3]; rfl)
              have hh2 : Hid (k + 1 = 0 ∨ ∃ h : 0 < s.size, letX s[0] = true) := show _ ∨ _ by
                rcases hh.out with h | h
                · exact absurd h h0
                · exact .inr h
              clear hlet ha hh h3 HE HB HH HS HR
              go_wp2_with first | (go_at_call 33; refine (HC.out _ _).mono ?_; rintro e w' ⟨rfl, rfl⟩) | (go_at_call 34; refine (KH.out _).mono ?_; rintro e w' ⟨rfl, rfl⟩)
              go_round
              case rel => exact ⟨k + 1, by omega, by go_num, ha2, hh2⟩
              case measure => simp [intOf]; omega
            | false =>
              have KH := hid (fun w' => hasN_of h3 w')
              have hR : Hid (R = false) := show _ = _ from HB.out k hlt (by unfold namc isB; rw [hlet, h1, h3]; rfl)
              clear hlet ha hh h3 HE HB HH HS HR
              go_wp2_with first | (go_at_call 33; refine (HC.out _ _).mono ?_; rintro e w' ⟨rfl, rfl⟩) | (go_at_call 34; refine (KH.out _).mono ?_; rintro e w' ⟨rfl, rfl⟩)
              go_ret
              exact ⟨ret_bool hR.out.symm, rfl⟩
    · have hR := hid (HR.out k hk ha.out hh.out (by omega))
      clear ha hh HE HB HH HS HR
      by_cases q1 : 1 ≤ s.size
      · by_cases q2 : s.size ≤ 64
        · have hR2 : Hid (R = true) := show _ = _ by rw [hR.out]; simp [q1, q2]
          clear hR
          go_wp2
          go_ret
          exact ⟨ret_bool (by rw [hR2.out]; exact decide_eq_true (by omega)), rfl⟩
        · have hR2 : Hid (R = false) := show _ = _ by rw [hR.out]; simp [q1, q2]
          clear hR
          go_wp2
          go_ret
          exact ⟨ret_bool (by rw [hR2.out]; exact decide_eq_false (by omega)), rfl⟩
      · have hR2 : Hid (R = false) := show _ = _ by rw [hR.out]; simp [q1]
        clear hR
        go_wp2
        go_ret
        exact ⟨ret_bool hR2.out.symm, rfl⟩

set_option maxHeartbeats 2000000 in
set_option maxRecDepth 100000 in
theorem rsigns_any (s : ByteArray) (w : World) (hs : s.size ≤ 140737488355328) :
    Calls Tryd.prog 20 #[.string s] w fun e w' => e = .returned (.bool (signsX s.data.toList)) ∧ w' = w := by
  have HS := hid (all_snocX signX s)
  have HB := hid (all_badX signX s)
  have HT : Hid (∀ k, s.size ≤ k → (s.data.toList.take k).all signX = true → s.data.toList.all signX = true) := fun k hk ha => by rw [take_all s k hk] at ha; exact ha
  unfold signsX
  generalize s.data.toList.all signX = R at HB HT ⊢
  go_enter Tryd.func20, Tryd.ntmps20
  go_wp2
  go_loop [3] (fun i => ∃ k : Nat, k ≤ s.size ∧ i = .int .i64 k ∧ Hid ((s.data.toList.take k).all signX = true)) (fun i => s.size - (intOf i).toNat)
  case atStart => exact ⟨0, Nat.zero_le _, rfl, show _ = _ by simp⟩
  case round =>
    obtain ⟨k, hk, rfl, ha⟩ := hrel
    by_cases hlt : k < s.size
    · have hbd := u8_bd s[k]
      cases hx : xblk s[k] with
      | true =>
        have KH := hid (fun w' => hasX_of hx w')
        have ha2 : Hid ((s.data.toList.take (k + 1)).all signX = true) := HS.out k hlt ha.out (by unfold signX; rw [hx]; rfl)
        clear ha HS HB HT hx
        go_wp2_with (go_at_call 34; refine (KH.out _).mono ?_; rintro e w' ⟨rfl, rfl⟩)
        go_round
        case rel => exact ⟨k + 1, by omega, by go_num, ha2⟩
        case measure => simp [intOf]; omega
      | false =>
        have KH := hid (fun w' => hasX_of hx w')
        by_cases h32 : (s[k].toNat : Int) < 32
        · have hR : Hid (R = false) := show _ = _ from HB.out k hlt (sign_low hx (by omega))
          clear ha HS HB HT hx
          go_wp2_with (go_at_call 34; refine (KH.out _).mono ?_; rintro e w' ⟨rfl, rfl⟩)
          go_ret
          exact ⟨ret_bool hR.out.symm, rfl⟩
        · by_cases h127 : s[k] = 127
          · have h3 : ((s[k].toNat : Int) == 127) = true := by rw [h127]; rfl
            have hR : Hid (R = false) := show _ = _ from HB.out k hlt (by unfold signX; rw [hx, h127]; rfl)
            clear ha HS HB HT hx h127
            go_wp2_with (go_at_call 34; refine (KH.out _).mono ?_; rintro e w' ⟨rfl, rfl⟩)
            go_ret
            exact ⟨ret_bool hR.out.symm, rfl⟩
          · have h3 : ((s[k].toNat : Int) == 127) = false := u8_ne (b := 127) h127
            have ha2 : Hid ((s.data.toList.take (k + 1)).all signX = true) := HS.out k hlt ha.out (sign_ok (by omega) h127)
            clear ha HS HB HT hx h127
            go_wp2_with (go_at_call 34; refine (KH.out _).mono ?_; rintro e w' ⟨rfl, rfl⟩)
            go_round
            case rel => exact ⟨k + 1, by omega, by go_num, ha2⟩
            case measure => simp [intOf]; omega
    · have hR : Hid (R = true) := show _ = _ from HT.out k (by omega) ha.out
      clear ha HS HB HT
      go_wp2
      go_ret
      exact ⟨ret_bool hR.out.symm, rfl⟩
theorem rev_last (u : ByteArray) (h : u.size - 1 < u.size) : u.data.toList.reverse = u[u.size - 1] :: (u.extract 0 (u.size - 1)).data.toList.reverse := by
  have e := take_snoc u (u.size - 1) h
  rw [take_all u _ (by omega)] at e
  rw [ext_list]
  conv => lhs; rw [e]
  simp
theorem rev_step (u : ByteArray) (h : u.size - 1 < u.size) (hx : xblk u[u.size - 1] = true) : (u.extract 0 (u.size - 1)).data.toList.reverse.dropWhile xblk = u.data.toList.reverse.dropWhile xblk := by
  rw [rev_last u h, List.dropWhile_cons, if_pos hx]
theorem rev_stop (u : ByteArray) (h : u.size - 1 < u.size) (hx : xblk u[u.size - 1] = false) : u.data.toList.reverse.dropWhile xblk = u.data.toList.reverse := by
  rw [rev_last u h, List.dropWhile_cons, if_neg (by simp [hx])]
/-- How long a text is. -/
def lenV : Value → Nat
  | .string t => t.size
  | _ => 0
set_option maxHeartbeats 2000000 in
set_option maxRecDepth 100000 in
theorem rtrimX_any (s : ByteArray) (w : World) (hs : s.size ≤ 140737488355328) :
    Calls Tryd.prog 21 #[.string s] w fun e w' => e = .returned (.string ⟨(xtrim s.data.toList).toArray⟩) ∧ w' = w := by
  unfold xtrim
  go_enter Tryd.func21, Tryd.ntmps21
  go_wp2
  go_loop [0] (fun v => ∃ t : ByteArray, v = .string t ∧ t.size ≤ s.size ∧ Hid (t.data.toList.dropWhile xblk = s.data.toList.dropWhile xblk)) (fun v => lenV v)
  case atStart => exact ⟨s, rfl, Nat.le_refl _, show _ = _ from rfl⟩
  case round =>
    obtain ⟨t, rfl, ht, hd⟩ := hrel
    by_cases h0 : 0 < t.size
    · have hbd := u8_bd t[0]
      cases hx : xblk t[0] with
      | true =>
        have KH := hid (fun w' => hasX_of hx w')
        have hd2 : Hid ((t.extract 1 t.size).data.toList.dropWhile xblk = s.data.toList.dropWhile xblk) := show _ = _ by
          rw [ext_list, ← hd.out]
          have e := drop_cons t 0 h0
          rw [List.drop_zero] at e
          rw [List.take_of_length_le (by rw [List.length_drop, len_data]; omega)]
          show (t.data.toList.drop 1).dropWhile xblk = _
          conv => rhs; rw [e]
          rw [List.dropWhile_cons, if_pos hx]
        have hz : (t.extract 1 t.size).size < t.size ∧ (t.extract 1 t.size).size ≤ s.size := by rw [ByteArray.size_extract]; omega
        clear hd hx
        go_wp2_with (go_at_call 34; refine (KH.out _).mono ?_; rintro e w' ⟨rfl, rfl⟩)
        go_round
        case rel => exact ⟨_, rfl, hz.2, hd2⟩
        case measure => exact hz.1
      | false =>
        have KH := hid (fun w' => hasX_of hx w')
        have hd2 : Hid (s.data.toList.dropWhile xblk = t.data.toList) := show _ = _ by
          rw [← hd.out]
          have e := drop_cons t 0 h0
          rw [List.drop_zero] at e
          rw [e, List.dropWhile_cons, if_neg (by simp [hx])]
        clear hd hx
        go_wp2_with (go_at_call 34; refine (KH.out _).mono ?_; rintro e w' ⟨rfl, rfl⟩)
        go_loop [0] (fun v => ∃ u : ByteArray, v = .string u ∧ u.size ≤ s.size ∧ Hid (u.data.toList.reverse.dropWhile xblk = t.data.toList.reverse.dropWhile xblk)) (fun v => lenV v)
        case atStart => exact ⟨t, rfl, ht, show _ = _ from rfl⟩
        case round =>
          clear KH hbd
          obtain ⟨u, rfl, hu, hr⟩ := hrel
          by_cases hu0 : 0 < u.size
          · have hlt : u.size - 1 < u.size := by omega
            have hbd := u8_bd u[u.size - 1]
            have hw1 : IntKind.i64.wrap ((u.size : Int) - 1) = ((u.size - 1 : Nat) : Int) := by rw [IntKind.wrap_i64]; omega
            have hn1 : ((u.size : Int) - 1).toNat = u.size - 1 := by omega
            cases hx : xblk u[u.size - 1] with
            | true =>
              have KH := hid (fun w' => hasX_of hx w')
              have hr2 : Hid ((u.extract 0 (u.size - 1)).data.toList.reverse.dropWhile xblk = t.data.toList.reverse.dropWhile xblk) := show _ = _ by rw [← hr.out]; exact rev_step u hlt hx
              have hz : (u.extract 0 (u.size - 1)).size < u.size ∧ (u.extract 0 (u.size - 1)).size ≤ s.size := by rw [ByteArray.size_extract]; omega
              clear hr hx
              go_wp2_with (go_at_call 34; refine (KH.out _).mono ?_; rintro e w' ⟨rfl, rfl⟩)
              go_round
              case rel => exact ⟨_, rfl, hz.2, hr2⟩
              case measure => exact hz.1
            | false =>
              have KH := hid (fun w' => hasX_of hx w')
              have hE : Hid (u = ⟨((s.data.toList.dropWhile xblk).reverse.dropWhile xblk).reverse.toArray⟩) := show _ = _ by rw [hd2.out, ← hr.out, rev_stop u hlt hx]; apply ByteArray.ext; simp
              clear hr hx
              go_wp2_with (go_at_call 34; refine (KH.out _).mono ?_; rintro e w' ⟨rfl, rfl⟩)
              go_ret
              exact ⟨by rw [← hE.out]; rfl, rfl⟩
          · have hE : Hid (u = ⟨((s.data.toList.dropWhile xblk).reverse.dropWhile xblk).reverse.toArray⟩) := show _ = _ by
              rw [hd2.out, ← hr.out]
              have : u.data.toList = [] := List.eq_nil_of_length_eq_zero (by rw [len_data]; omega)
              rw [this]
              apply ByteArray.ext
              have := congrArg List.toArray this
              simpa using this
            clear hr
            go_wp2
            go_ret
            exact ⟨by rw [← hE.out]; rfl, rfl⟩
    · have hd2 : Hid (s.data.toList.dropWhile xblk = t.data.toList) := show _ = _ by
        rw [← hd.out]
        have : t.data.toList = [] := List.eq_nil_of_length_eq_zero (by rw [len_data]; omega)
        rw [this]; rfl
      clear hd
      go_wp2
      go_loop [0] (fun v => ∃ u : ByteArray, v = .string u ∧ u.size ≤ s.size ∧ Hid (u.data.toList.reverse.dropWhile xblk = t.data.toList.reverse.dropWhile xblk)) (fun v => lenV v)
      case atStart => exact ⟨t, rfl, ht, show _ = _ from rfl⟩
      case round =>
        clear h0
        obtain ⟨u, rfl, hu, hr⟩ := hrel
        by_cases hu0 : 0 < u.size
        · have hlt : u.size - 1 < u.size := by omega
          have hbd := u8_bd u[u.size - 1]
          have hw1 : IntKind.i64.wrap ((u.size : Int) - 1) = ((u.size - 1 : Nat) : Int) := by rw [IntKind.wrap_i64]; omega
          have hn1 : ((u.size : Int) - 1).toNat = u.size - 1 := by omega
          cases hx : xblk u[u.size - 1] with
          | true =>
            have KH := hid (fun w' => hasX_of hx w')
            have hr2 : Hid ((u.extract 0 (u.size - 1)).data.toList.reverse.dropWhile xblk = t.data.toList.reverse.dropWhile xblk) := show _ = _ by rw [← hr.out]; exact rev_step u hlt hx
            have hz : (u.extract 0 (u.size - 1)).size < u.size ∧ (u.extract 0 (u.size - 1)).size ≤ s.size := by rw [ByteArray.size_extract]; omega
            clear hr hx
            go_wp2_with (go_at_call 34; refine (KH.out _).mono ?_; rintro e w' ⟨rfl, rfl⟩)
            go_round
            case rel => exact ⟨_, rfl, hz.2, hr2⟩
            case measure => exact hz.1
          | false =>
            have KH := hid (fun w' => hasX_of hx w')
            have hE : Hid (u = ⟨((s.data.toList.dropWhile xblk).reverse.dropWhile xblk).reverse.toArray⟩) := show _ = _ by rw [hd2.out, ← hr.out, rev_stop u hlt hx]; apply ByteArray.ext; simp
            clear hr hx
            go_wp2_with (go_at_call 34; refine (KH.out _).mono ?_; rintro e w' ⟨rfl, rfl⟩)
            go_ret
            exact ⟨by rw [← hE.out]; rfl, rfl⟩
        · have hE : Hid (u = ⟨((s.data.toList.dropWhile xblk).reverse.dropWhile xblk).reverse.toArray⟩) := show _ = _ by
            rw [hd2.out, ← hr.out]
            have : u.data.toList = [] := List.eq_nil_of_length_eq_zero (by rw [len_data]; omega)
            rw [this]
            apply ByteArray.ext
            have := congrArg List.toArray this
            simpa using this
          clear hr
          go_wp2
          go_ret
          exact ⟨by rw [← hE.out]; rfl, rfl⟩
end Go.Proofs.YtnijlmkodgdhlaaDoor
