/-
  Contracts: package addr's Text.
-/
import Derived.Test.YtjbfdbccidhdfaaDoorFR
import Derived.Lib.QuietBelow
import Derived.BigQuiet
namespace Go.Proofs.YtjbfdbccidhdfaaDoor
open Go.RowKit Go.Sort Sc
set_option linter.unusedVariables false
set_option maxRecDepth 20000

theorem below_re5 {w W : World} (h : Below w.heap.size w W) (d : Nat) (os : Array Obj) : Below w.heap.size w (grow (redrawn W d) os) := h.trans ((below_regrown W d os).mono h.size)
theorem followsMixed5 : Tryd.prog.follows .mixedOrders = true := by kernel_rfl
theorem parsAt_take {w : World} {a : Addr} {ps : List Par} {cap k : Nat} (hk : k ≤ ps.length) (h : ∀ j (hj : j < ps.length), a.block < w.heap.size ∧ ParAt w a j ps[j]) : ParsAt w (.slice (some a) k cap) (ps.take k) := by
  refine Or.inr ⟨a, cap, by rw [List.length_take, Nat.min_eq_left hk], fun j hj => ?_⟩
  have hj' : j < ps.length := by rw [List.length_take] at hj; omega
  rw [List.getElem_take]
  exact h j hj'
theorem small_take {ps : List Par} {B : Nat} (h : SmallP B ps) (k : Nat) : SmallP B (ps.take k) :=
  ⟨by have := h.1; rw [List.length_take]; omega, fun p hp => h.2 p (List.mem_of_mem_take hp)⟩
theorem text_at {ps : List Par} {k : Nat} (hk : k < ps.length) (ph : Bool) (h : ps[k].has = ph) : parT ps[k] = if ph = true then ps[k].name ++ [61] ++ valT ps[k].value else ps[k].name := by rw [parT, h]
theorem ret_text {p : List UInt8 × Int} {x : List UInt8} {n : Int} (h : p = (x, n)) : Ending.returned (.tuple #[.string ⟨x.toArray⟩, .int .i64 n]) = .returned (.tuple #[.string ⟨p.1.toArray⟩, .int .i64 p.2]) := by rw [h]
theorem app_text (a b c : List UInt8) : (⟨a.toArray⟩ : ByteArray) ++ ((⟨b.toArray⟩ : ByteArray) ++ ⟨c.toArray⟩) = ⟨(a ++ (b ++ c)).toArray⟩ := by
  rw [ByteArray.mk_append_mk, ByteArray.mk_append_mk]
theorem parsA_small : ∀ (ps b : List Par), mayGo b ps = true → (parsA ps).length ≤ 200 * ps.length
  | [], b, h => by simp [parsA]
  | p :: ps, b, h => by
    rw [mayGo, Bool.and_eq_true] at h
    obtain ⟨m1, _, m3, _, _⟩ := may_facts h.1
    obtain ⟨_, t2, _⟩ := tok_facts m1
    have h2 := parsA_small ps _ h.2
    have h3 := parT_len p
    have e : parsA (p :: ps) = ([59] ++ parT p) ++ parsA ps := by simp [parsA]
    rw [e, List.length_append, List.length_append]
    simp only [List.length_cons, List.length_nil]
    omega

set_option maxHeartbeats 1000000 in
set_option maxRecDepth 100000 in
theorem atext_row (a : Addr) (cap : Nat) (ps : List Par) (w : World) (h16 : ps.length ≤ 16) (hcap : ps.length ≤ cap) (hsm : SmallP 140737488355328 ps) (hc : ∀ j (hj : j < ps.length), a.block < w.heap.size ∧ ParAt w a j ps[j]) :
    Calls Tryd.prog 47 #[.slice (some a) ps.length cap] w fun e w' => e = .returned (.tuple #[.string ⟨(textV ps).1.toArray⟩, .int .i64 (textV ps).2]) ∧ Below w.heap.size w w' := by
  have HC := hid hc; clear hc
  have HS := hid hsm
  have hbad : Hid (mayGo [] ps = false → textV ps = ([], 34)) := fun h => text_bad h16 h
  have hgood : Hid (mayGo [] ps = true → textV ps = (parsA ps, 0)) := fun h => text_good h16 h
  obtain ⟨n, hn⟩ : ∃ n, n = ps.length := ⟨_, rfl⟩
  rw [← hn] at h16 hcap
  rw [show Value.slice (some a) ps.length cap = .slice (some a) n cap by rw [hn]]
  have HN := hid hn; clear hn
  clear hsm
  go_enter Tryd.func47, Tryd.ntmps47
  go_wp2
  go_loopw [4, 12] (fun x i wr => ∃ (k : Nat) (t : List UInt8), k ≤ n ∧ i = .int .i64 k ∧ x = .string ⟨t.toArray⟩ ∧ t.length ≤ 200 * k ∧ Hid (t = parsA (ps.take k)) ∧ Hid (mayGo [] (ps.take k) = true) ∧ Below w.heap.size w wr) (fun _ i _ => n - (intOf i).toNat)
  case atStart => exact ⟨0, [], by omega, rfl, rfl, by simp, hid rfl, hid rfl, Below.refl _ _⟩
  case round =>
    obtain ⟨k, t, hkn, rfl, rfl, htl, htt, hgo, hb⟩ := hrel
    by_cases hlt : k < n
    · have hkl : k < ps.length := by have := HN.out; omega
      obtain ⟨hab, hpa⟩ := HC.out k hkl
      obtain ⟨c0, c1, c2⟩ := hpa.below hb hab
      have hss := HS.out.2 ps[k] (List.getElem_mem hkl)
      have KM := hid (fun (c : Nat) (w' : World) (hb' : Below w.heap.size w w') => mayStand_any ps[k] (.slice (some a) k c) (ps.take k) w' hss.1 hss.2 (small_take HS.out k) (parsAt_take (Nat.le_of_lt hkl) (fun j hj => ⟨Nat.lt_of_lt_of_le (HC.out j hj).1 hb'.size, (HC.out j hj).2.below hb' (HC.out j hj).1⟩)))
      have hB := hb.size
      have hno := hid (@mayGo_bad ps k hkl)
      have hstep := hid (@mayGo_step ps k hkl)
      have hpars := hid (@parsA_step ps k hkl)
      have hpt := hid (text_at hkl)
      have hfac := hid (@may_facts (ps.take k) ps[k])
      have hlen := hid (parT_len ps[k])
      generalize ps[k] = p at c0 c1 c2 hss KM hno hstep hpars hpt hfac hlen
      obtain ⟨pn, pv, ph⟩ := p
      simp only at c0 c1 c2 hss
      unfold parV at KM
      simp only at KM
      clear hpa
      have hA := hb.alloc hB (.cells #[.string ⟨pn.toArray⟩, .string ⟨pv.toArray⟩, .bool ph] 94)
      have hbx := boxP_new wr ⟨pn, pv, ph⟩ 94
      have hltx := alloc_lt wr (.cells #[.string ⟨pn.toArray⟩, .string ⟨pv.toArray⟩, .bool ph] 94)
      have h200 : t.length ≤ 3200 := by omega
      cases hmay : mayB (ps.take k) ⟨pn, pv, ph⟩ with
      | false =>
        have hv : Hid (textV ps = ([], 34)) := hbad.out (hno.out hmay)
        rw [hmay] at KM
        clear hno hstep hpars hpt hfac hlen hgo htt hmay
        go_wp2
        generalize World.alloc wr _ = W at hA hbx hltx ⊢
        obtain ⟨x0, x1, x2⟩ := hbx
        simp only at x0 x1 x2
        replace x0 := cell_regrown x0
        replace x1 := cell_regrown x1
        replace x2 := cell_regrown x2
        have c := hid (fun (d : Nat) (os : Array Obj) => Calls.regrown_of (KM.out cap (grow (redrawn W d) os) (below_re5 hA d os)))
        clear KM
        refine wp_region_quiet_below followsMixed5 (by kernel_rfl) ?_
        repeat (go_big_quiet_step (with_reducible exact c.out _ _))
        refine wpQuiet_nil ?_
        intro _ hw'
        obtain ⟨⟨dq, osq⟩, hw''⟩ := hw'
        subst hw''
        go_wp2
        go_ret2
        exact ⟨ret_text (x := []) hv.out, below_re5 hA dq osq⟩
      | true =>
        obtain ⟨m1, _, m3, m4, _⟩ := hfac.out hmay
        obtain ⟨_, t2, _⟩ := tok_facts m1
        simp only at m3 m4 t2
        have KS := hid (fun w' => shown_any pv w' m3 m4)
        have hgo2 : Hid (mayGo [] (ps.take (k + 1)) = true) := show _ = _ by rw [hstep.out, hgo.out, hmay]; rfl
        rw [hmay] at KM
        have hvl := valT_len pv
        clear hno hstep hfac hlen hgo hmay m1 m4
        generalize valT pv = sv at KS hvl hpt
        have hpt' := hid (hpt.out ph rfl)
        clear hpt
        simp only at hpt'
        go_wp2
        have hBW : w.heap.size ≤ (wr.alloc (.cells #[.string ⟨pn.toArray⟩, .string ⟨pv.toArray⟩, .bool ph] 94)).heap.size := hA.size
        generalize World.alloc wr _ = W at hA hbx hltx hBW ⊢
        obtain ⟨x0, x1, x2⟩ := hbx
        simp only at x0 x1 x2
        replace x0 := cell_regrown x0
        replace x1 := cell_regrown x1
        replace x2 := cell_regrown x2
        have c := hid (fun (d : Nat) (os : Array Obj) => Calls.regrown_of (KM.out cap (grow (redrawn W d) os) (below_re5 hA d os)))
        clear KM
        refine wp_region_quiet_below followsMixed5 (by kernel_rfl) ?_
        repeat (go_big_quiet_step (with_reducible exact c.out _ _))
        refine wpQuiet_nil ?_
        intro _ hw'
        obtain ⟨⟨dq, osq⟩, hw''⟩ := hw'
        subst hw''
        clear c
        have hb2 := below_re5 hA dq osq
        cases ph with
        | false =>
          have htx : Hid (t ++ ([59] ++ pn) = parsA (ps.take (k + 1))) := show _ = _ by rw [hpars.out, hpt'.out, htt.out]; simp
          clear hpars hpt' htt KS
          go_wp2
          go_roundw
          case rel => exact ⟨k + 1, t ++ ([59] ++ pn), by omega, by go_num, by rw [← app_text], by simp; omega, htx, hgo2, hb2⟩
          case measure => simp [intOf]; omega
        | true =>
          have htx : Hid ((t ++ ([59] ++ pn)) ++ ([61] ++ sv) = parsA (ps.take (k + 1))) := show _ = _ by rw [hpars.out, hpt'.out, htt.out]; simp
          clear hpars hpt' htt
          go_wp2_with fail
          refine (KS.out _).mono ?_
          rintro e w3 ⟨rfl, hw3⟩
          have hb3 := hb2.trans (hw3.mono hb2.size)
          clear hw3 hb2 KS
          go_wp2
          go_roundw
          case rel => exact ⟨k + 1, (t ++ ([59] ++ pn)) ++ ([61] ++ sv), by omega, by go_num, by rw [← app_text, ← app_text], by simp; omega, htx, hgo2, hb3⟩
          case measure => simp [intOf]; omega
    · have hv : Hid (textV ps = (t, 0)) := show _ = _ by
        have h := hgo.out
        have h2 := htt.out
        have e := HN.out
        rw [List.take_of_length_le (by omega)] at h h2
        rw [hgood.out h, h2]
      clear htt hgo
      go_wp2
      go_ret2
      exact ⟨ret_text hv.out, hb⟩
theorem atext_long (a : Option Addr) (cap : Nat) (ps : List Par) (w : World) (h16 : ¬ ps.length ≤ 16) :
    Calls Tryd.prog 47 #[.slice a ps.length cap] w fun e w' => e = .returned (.tuple #[.string ⟨(textV ps).1.toArray⟩, .int .i64 (textV ps).2]) ∧ Below w.heap.size w w' := by
  have hv : Hid (textV ps = ([], 4)) := text_many (by omega)
  have h16' : (16 : Int) < (ps.length : Int) := by omega
  go_enter Tryd.func47, Tryd.ntmps47
  go_wp2
  go_ret2
  exact ⟨ret_text (x := []) hv.out, Below.refl _ _⟩
theorem atext_nil (a : Option Addr) (cap : Nat) (w : World) :
    Calls Tryd.prog 47 #[.slice a 0 cap] w fun e w' => e = .returned (.tuple #[.string ⟨#[]⟩, .int .i64 0]) ∧ Below w.heap.size w w' := by
  go_enter Tryd.func47, Tryd.ntmps47
  go_wp2
  go_loop [4, 12] (fun x i => i = .int .i64 0 ∧ x = .string ⟨#[]⟩) (fun _ i => 0)
  case atStart => exact ⟨rfl, rfl⟩
  case round =>
    obtain ⟨rfl, rfl⟩ := hrel
    go_wp2
    go_ret2
    exact ⟨rfl, Below.refl _ _⟩
theorem atext_any (v : Value) (ps : List Par) (w : World) (hsm : SmallP 140737488355328 ps) (h : ParsAt w v ps) (hcap : CapOk v) :
    Calls Tryd.prog 47 #[v] w fun e w' => e = .returned (.tuple #[.string ⟨(textV ps).1.toArray⟩, .int .i64 (textV ps).2]) ∧ Below w.heap.size w w' := by
  by_cases h16 : ps.length ≤ 16
  · rcases h with ⟨rfl, rfl⟩ | ⟨a, cap, rfl, hc⟩
    · exact atext_nil none 0 w
    · exact atext_row a cap ps w h16 hcap hsm hc
  · obtain ⟨a, cap, rfl⟩ := h.form
    exact atext_long a cap ps w h16

end Go.Proofs.YtjbfdbccidhdfaaDoor
