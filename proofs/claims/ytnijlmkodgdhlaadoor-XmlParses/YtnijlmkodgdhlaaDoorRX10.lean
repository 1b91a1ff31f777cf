/-
  The document's own layer 13: an element, written.
-/
import Derived.Test.YtnijlmkodgdhlaaDoorYR
import Derived.Test.YtnijlmkodgdhlaaDoorYK
namespace Go.Proofs.YtnijlmkodgdhlaaDoor
open Go.RowKit Sc
set_option linter.unusedVariables false
set_option maxRecDepth 20000
set_option linter.unusedSimpArgs false

theorem drop_nd {cs : List NdC} {k : Nat} {x : Nd} {r : List Nd} (h : (ndsL cs).drop k = x :: r) : ∃ h : k < cs.length, cs[k].nd = x ∧ (ndsL cs).drop (k + 1) = r := by
  have hk : k < (ndsL cs).length := by
    apply Classical.byContradiction
    intro hk
    rw [List.drop_eq_nil_of_le (by omega)] at h; cases h
  have e := List.drop_eq_getElem_cons hk
  rw [h] at e
  simp only [List.cons.injEq] at e
  refine ⟨by rw [ndsL_len] at hk; exact hk, ?_, e.2.symm⟩
  rw [e.1]; simp [ndsL]
theorem drop_more {cs : List NdC} {k : Nat} {a r : List Nd} (h : (ndsL cs).drop k = a ++ r) : (ndsL cs).drop (k + a.length) = r := by
  rw [← List.drop_drop, h, List.drop_left]
theorem esc_list (l : List UInt8) (w : World) (h : l.length ≤ 1048576) :
    Calls Tryd.prog 47 #[.string ⟨l.toArray⟩] w fun e w' => e = .returned (.string ⟨(escX l).toArray⟩) ∧ w' = w := rescaped_any ⟨l.toArray⟩ w (by rw [size_list]; exact h)
theorem glueA (a n e : List UInt8) : ((((((⟨a.toArray⟩ : ByteArray) ++ ⟨#[32]⟩) ++ ⟨n.toArray⟩) ++ ⟨#[61, 34]⟩) ++ ⟨e.toArray⟩) ++ ⟨#[34]⟩) = ⟨(a ++ ([32] ++ n ++ [61, 34] ++ e ++ [34])).toArray⟩ := by
  simp [ByteArray.mk_append_mk]
theorem glueL (a b : List UInt8) : (⟨a.toArray⟩ : ByteArray) ++ ⟨b.toArray⟩ = ⟨(a ++ b).toArray⟩ := by
  rw [ByteArray.mk_append_mk]; try simp
theorem glueE (s i n : List UInt8) : (((((⟨s.toArray⟩ : ByteArray) ++ ⟨#[62]⟩) ++ ⟨i.toArray⟩) ++ ⟨#[60, 47]⟩) ++ ⟨n.toArray⟩) ++ ⟨#[62]⟩ = ⟨(s ++ ([62] ++ i ++ ([60, 47] ++ n ++ [62]))).toArray⟩ := by
  simp [ByteArray.mk_append_mk]
theorem attrsT_snoc {ps : List Par} {k : Nat} (h : k < ps.length) : attrsT (ps.take (k + 1)) = attrsT (ps.take k) ++ attrT ps[k] := by
  rw [List.take_succ_eq_append_getElem h]
  unfold attrsT
  rw [List.flatMap_append, List.flatMap_singleton]
theorem printXs_app (a b : List XT) : printXs (a ++ b) = printXs a ++ printXs b := by
  induction a with
  | nil => rfl
  | cons x a ih => rw [List.cons_append, printXs, printXs, ih, List.append_assoc]
theorem flatXs_app (d : Nat) (a b : List XT) : flatXs d (a ++ b) = flatXs d a ++ flatXs d b := by
  induction a with
  | nil => rfl
  | cons x a ih => rw [List.cons_append, flatXs, flatXs, ih, List.append_assoc]
theorem flat_head (d : Nat) (t : XT) : ∃ x r, flatX d t = x :: r ∧ x.deep = d := by
  obtain ⟨n, a, tx, k⟩ := t
  exact ⟨_, _, by rw [flatX], rfl⟩
theorem post_head {d : Nat} {ks : List XT} {post : List Nd} (h : ∀ x, post.head? = some x → x.deep ≤ (d : Int)) : ∀ x, (flatXs (d + 1) ks ++ post).head? = some x → x.deep ≤ ((d + 1 : Nat) : Int) := by
  intro x hx
  cases ks with
  | nil => rw [flatXs, List.nil_append] at hx; have := h x hx; omega
  | cons k ks =>
    obtain ⟨y, r, e, hy⟩ := flat_head (d + 1) k
    rw [flatXs, e] at hx
    simp at hx
    subst hx; omega
theorem sz_in {n : List UInt8} {a : List Par} {t : List UInt8} {ks done rest : List XT} {k : XT} {N : Nat} (h : szX (.mk n a t ks) ≤ N + 1) (e : ks = done ++ k :: rest) : szX k ≤ N := by
  have key : ∀ l : List XT, szX k ≤ szXs (l ++ k :: rest) := fun l => by
    induction l with
    | nil => rw [List.nil_append, szXs]; omega
    | cons x l ih => rw [List.cons_append, szXs]; omega
  have := key done
  rw [szX, e] at h
  omega
theorem attrT_len (p : Par) : (attrT p).length = 4 + p.name.length + (escX p.value).length := by unfold attrT; simp; omega
theorem attrsT_len {ps : List Par} {j : Nat} (h : j < ps.length) : (attrsT (ps.take j)).length + (attrT ps[j]).length ≤ (attrsT ps).length := by
  have e := List.take_append_drop (j + 1) ps
  have h1 : attrsT ps = attrsT (ps.take (j + 1)) ++ attrsT (ps.drop (j + 1)) := by
    conv => lhs; rw [← e]
    unfold attrsT; rw [List.flatMap_append]
  rw [h1, attrsT_snoc h, List.length_append, List.length_append]; omega
theorem print_nil {nm : List UInt8} {ps : List Par} {tx : List UInt8} {ks : List XT} (h : escX tx ++ printXs ks = []) : printX (.mk nm ps tx ks) = [60] ++ nm ++ attrsT ps ++ [47, 62] := by
  rw [printX, if_pos h]
theorem print_in {nm : List UInt8} {ps : List Par} {tx : List UInt8} {ks : List XT} (h : escX tx ++ printXs ks ≠ []) : printX (.mk nm ps tx ks) = [60] ++ nm ++ attrsT ps ++ ([62] ++ (escX tx ++ printXs ks) ++ ([60, 47] ++ nm ++ [62])) := by
  rw [printX, if_neg h]
theorem print_len (nm : List UInt8) (ps : List Par) (tx : List UInt8) (ks : List XT) : 3 + nm.length + (attrsT ps).length + (escX tx).length + (printXs ks).length ≤ (printX (.mk nm ps tx ks)).length := by
  by_cases h : escX tx ++ printXs ks = []
  · rw [print_nil h]
    have := congrArg List.length h
    simp at this ⊢
    simp [this]; omega
  · rw [print_in h]
    simp; omega
def WrRes (v : Value) (k : Nat) (s : List UInt8) (n : Nat) (w : World) : Prop :=
  Calls Tryd.prog 26 #[v, .int .i64 k] w fun e w' => e = .returned (.tuple #[.string ⟨s.toArray⟩, .int .i64 n]) ∧ Below w.heap.size w w'

set_option maxHeartbeats 8000000 in
set_option maxRecDepth 100000 in
theorem rwritten_step (N : Nat) (ih : ∀ (t : XT), szX t ≤ N → ∀ (v : Value) (cs : List NdC) (k d : Nat) (post : List Nd) (w : World), NdsAt w v cs → cs.length ≤ 1048576 → (∀ c ∈ cs, SmallN 1048576 c.nd) → (ndsL cs).drop k = flatX d t ++ post → (∀ x, post.head? = some x → x.deep ≤ (d : Int)) → (printX t).length ≤ 1099511627776 → WrRes v k (printX t) (k + (flatX d t).length) w) :
    ∀ (t : XT), szX t ≤ N + 1 → ∀ (v : Value) (cs : List NdC) (k d : Nat) (post : List Nd) (w : World), NdsAt w v cs → cs.length ≤ 1048576 → (∀ c ∈ cs, SmallN 1048576 c.nd) → (ndsL cs).drop k = flatX d t ++ post → (∀ x, post.head? = some x → x.deep ≤ (d : Int)) → (printX t).length ≤ 1099511627776 → WrRes v k (printX t) (k + (flatX d t).length) w := by
  intro t ht v cs k d post w hv hz hsm hdrop hpost hpl
  obtain ⟨nm, ps, tx, ks⟩ := t
  have hpl2 := print_len nm ps tx ks
  have HPl := hid hpl
  rw [flatX, List.cons_append] at hdrop
  obtain ⟨hk, hnd, hdrop1⟩ := drop_nd hdrop
  have HI : Hid (∀ (t : XT), szX t ≤ N → ∀ (k d : Nat) (post : List Nd) (w : World), NdsAt w v cs → (ndsL cs).drop k = flatX d t ++ post → (∀ x, post.head? = some x → x.deep ≤ (d : Int)) → (printX t).length ≤ 1099511627776 → WrRes v k (printX t) (k + (flatX d t).length) w) := fun t ht k d post w hv => ih t ht v cs k d post w hv hz hsm
  have hvv := hv
  obtain ⟨ao, cap, rfl, hc⟩ := hv
  obtain ⟨ad, hao, hab, c0, pa⟩ := hc k hk
  subst hao
  obtain ⟨s1, s2, s3, s4⟩ := hsm cs[k] (List.getElem_mem hk)
  have HV := hid hvv
  have HC : Hid (∀ j (hj : j < cs.length), NdAt w ad j cs[j]) := fun j hj => by
    obtain ⟨ad3, hao3, _, c3, _⟩ := hc j hj
    have : ad3 = ad := (Option.some.inj hao3).symm
    subst this; exact c3
  clear hc hvv ih hsm
  rw [hnd] at pa s1 s2 s3 s4
  simp only at pa s1 s2 s3 s4
  obtain ⟨c0, c1, c2, c3⟩ := c0
  rw [hnd] at c0 c1 c3
  simp only at c0 c1 c3
  obtain ⟨pao, pcap, hpa, hpc⟩ := pa.open
  have HPar := hid hpc
  rw [hpa] at c2
  have s3z := s3.1
  have HS3 := hid s3.2
  have s5 := i64_of s4
  have HAt : Hid (∀ j (hj : j < ps.length) (S : List UInt8), S = [60] ++ nm ++ attrsT (ps.take j) → ((((((⟨S.toArray⟩ : ByteArray) ++ ⟨#[32]⟩) ++ ⟨ps[j].name.toArray⟩) ++ ⟨#[61, 34]⟩) ++ ⟨(escX ps[j].value).toArray⟩) ++ ⟨#[34]⟩) = ⟨([60] ++ nm ++ attrsT (ps.take (j + 1))).toArray⟩) := fun j hj S hS => by
    rw [glueA, attrsT_snoc hj, hS]; unfold attrT; simp
  have HA0 : Hid ((⟨#[60]⟩ : ByteArray) ++ ⟨nm.toArray⟩ = ⟨([60] ++ nm ++ attrsT (ps.take 0)).toArray⟩) := show _ = _ by rw [ByteArray.mk_append_mk]; simp [attrsT]
  have HAe : Hid (attrsT (ps.take ps.length) = attrsT ps) := show _ = _ by rw [List.take_length]
  obtain ⟨pn, hpn⟩ : ∃ pn, pn = ps.length := ⟨_, rfl⟩
  rw [← hpn] at c2 HAe s3z
  have HPN := hid hpn
  clear hpn hpc s3 s4
  have hr0' := rc_row4 w (.int .i64 (d : Int)) (.string ⟨nm.toArray⟩) (.slice pao pn pcap) (.string ⟨tx.toArray⟩) 48
  have hb0 : Below w.heap.size w (w.alloc (.cells #[.int .i64 (d : Int), .string ⟨nm.toArray⟩, .slice pao pn pcap, .string ⟨tx.toArray⟩] 48)) := (Below.refl _ w).alloc (Nat.le_refl _) _
  have hlt0 := alloc_lt w (.cells #[.int .i64 (d : Int), .string ⟨nm.toArray⟩, .slice pao pn pcap, .string ⟨tx.toArray⟩] 48)
  have q6 : (k : Int) < (cs.length : Int) := by omega
  obtain ⟨n, hn⟩ : ∃ n, n = cs.length := ⟨_, rfl⟩
  rw [← hn] at hz q6 ⊢
  have HL := hid hn
  have HD := hid hdrop1
  have HPo := hid hpost
  have HT := hid ht
  clear hn hdrop hdrop1 hpost ht hnd hpa pa
  unfold WrRes
  go_enter Tryd.func26, Tryd.ntmps26
  go_wp2
  generalize World.alloc _ _ = W0 at hr0' hb0 hlt0 ⊢
  have hr0 := hid hr0'
  have hzc : (escX tx).length ≤ 6291456 := by have := escX_len tx; omega
  clear hr0' c0 c1 c2 c3
  go_loopw [7, 8] (fun sv i wr => ∃ (j q : Nat), j ≤ pn ∧ i = .int .i64 j ∧ sv = .string ⟨([60] ++ nm ++ attrsT (ps.take j)).toArray⟩ ∧ wr = W0.drewN q) (fun _ i _ => pn - (intOf i).toNat)
  case atStart => exact ⟨0, 0, Nat.zero_le _, rfl, by rw [HA0.out], rfl⟩
  case round =>
    obtain ⟨j, q, hj, rfl, rfl, rfl⟩ := hrel
    by_cases hlt : j < pn
    · have hjl : j < ps.length := by have := HPN.out; omega
      obtain ⟨a, hpao, hpab, d0⟩ := HPar.out j hjl
      subst hpao
      obtain ⟨W, hW⟩ : ∃ W, W = W0.drewN q := ⟨_, rfl⟩
      have hrW : RowIs W w.heap.size 48 [.int .i64 (d : Int), .string ⟨nm.toArray⟩, .slice (some a) pn pcap, .string ⟨tx.toArray⟩] := by rw [hW]; exact hr0.out.below (belowD _ _ _) hlt0
      obtain ⟨b0, b1, b2, b3, _, _, _, _⟩ := hrW.rc4
      obtain ⟨d0, d1, d2⟩ := d0.below hb0 hpab
      replace d0 := cellD hW d0
      replace d1 := cellD hW d1
      replace d2 := cellD hW d2
      have hs := HS3.out ps[j] (List.getElem_mem hjl)
      have KE := hid (fun w' => esc_list ps[j].value w' hs.2)
      have HG := hid (HAt.out j hjl _ rfl)
      have z1 : ([60] ++ nm ++ attrsT (ps.take j)).length + 4 + ps[j].name.length + (escX ps[j].value).length ≤ 1099511627776 := by
        have := attrsT_len hjl
        rw [attrT_len] at this
        simp only [List.length_append, List.length_cons, List.length_nil]
        omega
      have hEW : Hid (∀ m, ∃ q', W.drewN m = W0.drewN q') := fun m => ⟨q + m, by rw [hW, World.drewN_drewN]⟩
      have q7 : (j : Int) < (pn : Int) := by omega
      rw [← hW]
      clear hW hrW HI HV HC HD HPo HT HAt HA0 HAe HPar HS3 hs hr0 hb0 hlt0
      generalize ps[j] = P at d0 d1 d2 KE HG z1
      obtain ⟨pn', pv, ph⟩ := P
      simp only at d0 d1 d2 KE HG z1
      generalize [60] ++ nm ++ attrsT (ps.take j) = S at HG z1 ⊢
      have z2 := size_list S
      have z3 := size_list pn'
      have z4 := size_list (escX pv)
      generalize escX pv = ev at KE HG z1 z4
      go_wp2
      go_quiet (first | (go_at_call 47; exact Calls.quiet_of_same (KE.out _)))
      go_wp2
      go_roundw
      case rel =>
        obtain ⟨q', hq'⟩ := hEW.out nq
        exact ⟨j + 1, q', by omega, by go_num, by rw [HG.out], hq'⟩
      case measure => simp [intOf]; omega
    · have hje : j = pn := by omega
      subst hje
      rw [HAe.out]
      have KE := hid (fun w' => esc_list tx w' s2)
      have hrq := hid (hr0.out.below (belowD _ W0 q) hlt0)
      have hbq : Below w.heap.size w (W0.drewN q) := hb0.trans (belowD _ _ _)
      have hltq : w.heap.size < (W0.drewN q).heap.size := hlt0
      have hwk : IntKind.i64.wrap ((k : Int) + 1) = (k : Int) + 1 := by rw [IntKind.wrap_i64]; omega
      obtain ⟨S, hS⟩ : ∃ S, S = [60] ++ nm ++ attrsT ps := ⟨_, rfl⟩
      rw [← hS]
      have HSe := hid hS
      clear HAt HA0 HAe HPar HS3 hr0 hb0 hlt0 hS
      generalize W0.drewN q = W1 at hrq hbq hltq ⊢
      obtain ⟨b0, b1, b2, b3, _, _, _, _⟩ := hrq.out.rc4
      go_wp2_with (go_at_call 47; refine (KE.out _).mono ?_; rintro e w' ⟨rfl, rfl⟩)
      clear b0 b1 b2 b3 KE
      go_loopw [9, 10] (fun nx iv wr => ∃ (done rest : List XT) (x : Nat), nx = .int .i64 (x : Int) ∧ iv = .string ⟨(escX tx ++ printXs done).toArray⟩ ∧ Hid (ks = done ++ rest) ∧ Hid (x = k + 1 + (flatXs (d + 1) done).length) ∧ x ≤ n ∧ Hid ((ndsL cs).drop x = flatXs (d + 1) rest ++ post) ∧ Below w.heap.size w wr ∧ w.heap.size < wr.heap.size ∧ Hid (RowIs wr w.heap.size 48 [.int .i64 (d : Int), .string ⟨nm.toArray⟩, .slice pao j pcap, .string ⟨tx.toArray⟩])) (fun nx _ _ => n - (intOf nx).toNat)
      case atStart => exact ⟨[], ks, k + 1, by go_num, by rw [printXs, List.append_nil], show _ = _ from rfl, show _ = _ by rw [flatXs]; rfl, by omega, HD, hbq, hltq, hrq⟩
      case round =>
        obtain ⟨done, rest, x, rfl, rfl, hdr, hx, hxn, hD2, hb, hl, hr⟩ := hrel
        clear hrq hbq hltq
        obtain ⟨b0, b1, b2, b3, _, _, _, _⟩ := hr.out.rc4
        have hBW : Hid (∀ m, Below w.heap.size w (wr.drewN m)) := fun m => hb.trans (belowD _ _ _)
        have z9 : (escX tx ++ printXs done).length ≤ 1099511627776 := by
          have h1 := HPl.out
          have h2 := hpl2
          rw [hdr.out, printXs_app, List.length_append] at h2
          rw [hdr.out] at h1
          rw [List.length_append]; omega
        cases rest with
        | nil =>
          by_cases hxl : x < n
          · have hxc : x < cs.length := by have := HL.out; omega
            have q8 : (x : Int) < (n : Int) := by omega
            have q8d : decide ((x : Int) < (n : Int)) = true := decide_eq_true q8
            obtain ⟨e0, _, _, _⟩ := (HC.out x hxc).below hb hab
            have hle : cs[x].nd.deep ≤ (d : Int) := by
              have h1 := hD2.out
              rw [flatXs, List.nil_append] at h1
              refine HPo.out _ ?_
              rw [← h1, List.head?_drop]
              simp [ndsL, hxc]
            generalize cs[x].nd.deep = xd at e0 hle
            have q9 : decide ((d : Int) < xd) = false := decide_eq_false (by omega)
            have hks : ks = done := by rw [hdr.out, List.append_nil]
            clear HI HV HC HD HT
            by_cases hI : escX tx ++ printXs done = []
            · have hP : Hid (printX (.mk nm ps tx ks) = S ++ [47, 62]) := show _ = _ by rw [hks, print_nil hI, HSe.out]
              rw [hI]
              have z5 : S.length + 2 ≤ 1099511627776 := by have h1 := HPl.out; rw [hP.out] at h1; simpa using h1
              have z6 := size_list S
              have HG := hid (glueB S #[47, 62])
              have hF : Hid (k + (flatX d (.mk nm ps tx ks)).length = x) := show _ = _ by rw [hx.out, flatX, hks, List.length_cons]; omega
              clear hI HSe HPl hpl hpl2 hx hks hdr hD2
              go_wp2
              go_quiet (fail)
              go_wp2
              go_ret2
              exact ⟨by rw [hP.out, hF.out]; simp only [← HG.out]; rfl, by first | exact hBW.out _ | exact hBW.out 0⟩
            · have hP : Hid (printX (.mk nm ps tx ks) = S ++ ([62] ++ (escX tx ++ printXs done) ++ ([60, 47] ++ nm ++ [62]))) := show _ = _ by rw [hks, print_in hI, HSe.out]
              have z5 : S.length + 1 + (escX tx ++ printXs done).length + 2 + nm.length + 1 ≤ 1099511627776 := by
                have h1 := HPl.out
                rw [hP.out] at h1
                simp only [List.length_append, List.length_cons, List.length_nil] at h1 ⊢
                omega
              have hF : Hid (k + (flatX d (.mk nm ps tx ks)).length = x) := show _ = _ by rw [hx.out, flatX, hks, List.length_cons]; omega
              have r6 : (escX tx ++ printXs done == ([] : List UInt8)) = false := by simpa using hI
              have r6e : (escX tx ++ printXs done).isEmpty = false := by rw [Bool.eq_false_iff]; intro h; exact hI (List.isEmpty_iff.1 h)
              clear HSe HPl hpl hpl2 hx hks hdr hD2 hzc z9
              generalize escX tx ++ printXs done = I at hP z5 r6 r6e hI ⊢
              have HG := hid (glueE S I nm)
              have z6 := size_list S
              have z7 := size_list I
              have z8 := size_list nm
              clear hI
              go_wp2
              go_quiet (fail)
              go_wp2
              go_ret2
              exact ⟨by rw [hP.out, hF.out]; simp only [← HG.out]; rfl, by first | exact hBW.out _ | exact hBW.out 0⟩
          · have q8 : ¬ (x : Int) < (n : Int) := by omega
            have q8d : decide ((x : Int) < (n : Int)) = false := decide_eq_false q8
            have hks : ks = done := by rw [hdr.out, List.append_nil]
            clear HI HV HC HD HT
            by_cases hI : escX tx ++ printXs done = []
            · have hP : Hid (printX (.mk nm ps tx ks) = S ++ [47, 62]) := show _ = _ by rw [hks, print_nil hI, HSe.out]
              rw [hI]
              have z5 : S.length + 2 ≤ 1099511627776 := by have h1 := HPl.out; rw [hP.out] at h1; simpa using h1
              have z6 := size_list S
              have HG := hid (glueB S #[47, 62])
              have hF : Hid (k + (flatX d (.mk nm ps tx ks)).length = x) := show _ = _ by rw [hx.out, flatX, hks, List.length_cons]; omega
              clear hI HSe HPl hpl hpl2 hx hks hdr hD2
              go_wp2
              go_quiet (fail)
              go_wp2
              go_ret2
              exact ⟨by rw [hP.out, hF.out]; simp only [← HG.out]; rfl, by first | exact hBW.out _ | exact hBW.out 0⟩
            · have hP : Hid (printX (.mk nm ps tx ks) = S ++ ([62] ++ (escX tx ++ printXs done) ++ ([60, 47] ++ nm ++ [62]))) := show _ = _ by rw [hks, print_in hI, HSe.out]
              have z5 : S.length + 1 + (escX tx ++ printXs done).length + 2 + nm.length + 1 ≤ 1099511627776 := by
                have h1 := HPl.out
                rw [hP.out] at h1
                simp only [List.length_append, List.length_cons, List.length_nil] at h1 ⊢
                omega
              have hF : Hid (k + (flatX d (.mk nm ps tx ks)).length = x) := show _ = _ by rw [hx.out, flatX, hks, List.length_cons]; omega
              have r6 : (escX tx ++ printXs done == ([] : List UInt8)) = false := by simpa using hI
              have r6e : (escX tx ++ printXs done).isEmpty = false := by rw [Bool.eq_false_iff]; intro h; exact hI (List.isEmpty_iff.1 h)
              clear HSe HPl hpl hpl2 hx hks hdr hD2 hzc z9
              generalize escX tx ++ printXs done = I at hP z5 r6 r6e hI ⊢
              have HG := hid (glueE S I nm)
              have z6 := size_list S
              have z7 := size_list I
              have z8 := size_list nm
              clear hI
              go_wp2
              go_quiet (fail)
              go_wp2
              go_ret2
              exact ⟨by rw [hP.out, hF.out]; simp only [← HG.out]; rfl, by first | exact hBW.out _ | exact hBW.out 0⟩
        | cons k1 rest =>
          have hD3 := hD2.out
          obtain ⟨y, r, e1, hy⟩ := flat_head (d + 1) k1
          have hD4 := hD3
          rw [flatXs, e1, List.cons_append, List.cons_append] at hD4
          obtain ⟨hxc, hnx, _⟩ := drop_nd hD4
          have hxl : x < n := by have := HL.out; omega
          have q8 : (x : Int) < (n : Int) := by omega
          have q8d : decide ((x : Int) < (n : Int)) = true := decide_eq_true q8
          obtain ⟨e0, _, _, _⟩ := (HC.out x hxc).below hb hab
          rw [hnx, hy] at e0
          have q9 : decide ((d : Int) < ((d + 1 : Nat) : Int)) = true := decide_eq_true (by omega)
          rw [flatXs, List.append_assoc] at hD3
          have hpk : (printX k1).length + (escX tx ++ printXs done).length ≤ 1099511627776 := by
            have h1 := HPl.out
            have h2 := hpl2
            rw [hdr.out, printXs_app, printXs, List.length_append, List.length_append] at h2
            rw [hdr.out] at h1
            rw [List.length_append]; omega
          have KW : Hid (∀ w', Below w.heap.size w w' → WrRes (.slice (some ad) cs.length cap) x (printX k1) (x + (flatX (d + 1) k1).length) w') := fun w' hw' => HI.out k1 (sz_in HT.out hdr.out) x (d + 1) _ w' (HV.out.below hw') hD3 (post_head HPo.out) (by omega)
          rw [← HL.out] at KW
          have hdr2 : Hid (ks = (done ++ [k1]) ++ rest) := show _ = _ by rw [hdr.out]; simp
          have hx2 : Hid (x + (flatX (d + 1) k1).length = k + 1 + (flatXs (d + 1) (done ++ [k1])).length) := show _ = _ by
            rw [hx.out, flatXs_app, List.length_append]
            have : flatXs (d + 1) [k1] = flatX (d + 1) k1 := by rw [flatXs, flatXs, List.append_nil]
            rw [this]; omega
          have hD5 : Hid ((ndsL cs).drop (x + (flatX (d + 1) k1).length) = flatXs (d + 1) rest ++ post) := drop_more hD3
          have hxn2 : x + (flatX (d + 1) k1).length ≤ n := by
            have h1 := congrArg List.length hD3
            rw [List.length_drop, ndsL_len, List.length_append] at h1
            have := HL.out; omega
          have hpos : x < x + (flatX (d + 1) k1).length := by have := flatX_pos (d + 1) k1; omega
          have HP2 : Hid (escX tx ++ printXs (done ++ [k1]) = (escX tx ++ printXs done) ++ printX k1) := show _ = _ by rw [printXs_app, printXs, printXs, List.append_nil, List.append_assoc]
          clear HI HV HC HD HPo HT HPl hpl hpl2 hD2 hD3 hD4 hdr hx HSe hy hnx e1
          have HG := hid (glueL (escX tx ++ printXs done) (printX k1))
          generalize escX tx ++ printXs done = I at HG HP2 hpk z9 ⊢
          generalize printX k1 = pk at HG HP2 hpk KW
          generalize x + (flatX (d + 1) k1).length = x2 at KW hx2 hD5 hxn2 hpos
          have z6 := size_list I
          have z7 := size_list pk
          go_wp2
          go_quiet (fail)
          go_wp2_with (go_at_call 26; refine (KW.out _ (hBW.out _)).mono ?_; rintro e w5 ⟨rfl, hw5⟩)
          go_roundw
          case rel => exact ⟨done ++ [k1], rest, x2, rfl, by rw [HP2.out, ← HG.out], hdr2, hx2, hxn2, hD5, (hBW.out _).trans (hw5.mono (hBW.out _).size), Nat.lt_of_lt_of_le hl hw5.size, (hr.out.below (belowD _ _ _) hl).below hw5 hl⟩
          case measure => simp [intOf]; omega
theorem rwritten_any : ∀ (N : Nat) (t : XT), szX t ≤ N → ∀ (v : Value) (cs : List NdC) (k d : Nat) (post : List Nd) (w : World), NdsAt w v cs → cs.length ≤ 1048576 → (∀ c ∈ cs, SmallN 1048576 c.nd) → (ndsL cs).drop k = flatX d t ++ post → (∀ x, post.head? = some x → x.deep ≤ (d : Int)) → (printX t).length ≤ 1099511627776 → WrRes v k (printX t) (k + (flatX d t).length) w
  | 0, t, ht => by obtain ⟨n, a, tx, ks⟩ := t; rw [szX] at ht; omega
  | N + 1, t, ht => rwritten_step N (rwritten_any N) t ht
end Go.Proofs.YtnijlmkodgdhlaaDoor
