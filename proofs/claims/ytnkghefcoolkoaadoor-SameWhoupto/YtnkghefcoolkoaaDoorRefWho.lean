/-
  The document's own functions of layer 4: Who, Host.
-/
import Derived.Test.YtnkghefcoolkoaaDoorBaseE
import Derived.Test.YtnkghefcoolkoaaDoorRefPair
import Derived.Test.YtnkghefcoolkoaaDoorBaseF
namespace Go.Proofs.YtnkghefcoolkoaaDoor
open Go.RowKit Sc
set_option linter.unusedVariables false
set_option maxRecDepth 20000
set_option linter.unusedSimpArgs false

set_option maxHeartbeats 1000000 in
set_option maxRecDepth 100000 in
theorem refwho_any (u : Uri) (p h : Value) (w : World) (hsm : SmallU 140737488355328 u) (hp : ParsAt w p u.params) (hh : ParsAt w h u.headers) :
    Calls Tryd.prog 15 #[uriV u p h] w fun e w' => e = .returned (.tuple #[.string ⟨(whoV u).1.toArray⟩, .int .i64 (whoV u).2]) ∧ Below w.heap.size w w' := by
  have hbox := box_new w u p h
  have hbw : Below w.heap.size w (w.alloc (.cells #[.string ⟨u.scheme.toArray⟩, .string ⟨u.user.toArray⟩, .string ⟨u.host.toArray⟩, .int .i64 u.port, p, h] 24)) := (Below.refl _ w).alloc (Nat.le_refl _) _
  have hws := alloc_lt w (.cells #[.string ⟨u.scheme.toArray⟩, .string ⟨u.user.toArray⟩, .string ⟨u.host.toArray⟩, .int .i64 u.port, p, h] 24)
  have K1 := hid (fun w' (hb : Below w.heap.size w w') => refcheck_any u p h w' hsm (hp.below hb) (hh.below hb))
  obtain ⟨a1, c1, rfl⟩ := hp.form
  obtain ⟨a2, c2, rfl⟩ := hh.form
  have hul : checkV u = 0 → u.user.length ≤ 64 ∧ u.host.length ≤ 64 := fun h => ⟨(check_ok h).2.1, (hostB_ok (check_ok h).2.2.1).2⟩
  have hwv : whoV u = whoV u := rfl
  conv at hwv => rhs; unfold whoV
  have hwt : Hid ((ByteArray.mk (escL usersK u.user).toArray ++ ⟨#[64]⟩) ++ ⟨u.host.toArray⟩ = ⟨(whoT u).toArray⟩) := show _ = _ by rw [whoT, ← appL, ← appL]
  obtain ⟨n, hn⟩ : ∃ n, checkV u = n := ⟨_, rfl⟩
  rw [hn] at K1 hwv hul
  clear hn hp hh hsm
  unfold uriV at K1 ⊢
  by_cases e1 : n = 0
  · subst e1
    obtain ⟨hu64, hh64⟩ := hul rfl
    have hel := escL_len usersK u.user
    have hl1 : ¬ 9223372036854775807 < (escL usersK u.user).length + 1 := by omega
    have hl2 : ¬ 9223372036854775807 < (escL usersK u.user).length + 1 + u.host.length := by omega
    rw [if_neg (by simp)] at hwv
    by_cases eu : u.user = []
    · have hue : u.user.isEmpty = true := by simp [eu]
      rw [if_pos eu] at hwv
      have HV := hid hwv
      clear hwv eu hul
      go_enter Tryd.func15, Tryd.ntmps15
      go_wp2_with fail
      refine (K1.out _ hbw).mono ?_
      rintro e w2 ⟨rfl, hw2⟩
      have hb2 := hbw.trans (hw2.mono hbw.size)
      obtain ⟨g0, g1, g2, g3, g4, g5⟩ := hbox.below hw2 hws
      clear hbox hbw hws hw2
      go_wp2
      go_ret2
      exact ⟨ret_who HV.out, hb2⟩
    · have hue : u.user.isEmpty = false := by simpa using eu
      rw [if_neg eu] at hwv
      have HV := hid hwv
      have K3 := hid (fun w' => refesc_list u.user usersK w' (by omega) (by decide))
      clear hwv eu hul
      go_enter Tryd.func15, Tryd.ntmps15
      go_wp2_with fail
      refine (K1.out _ hbw).mono ?_
      rintro e w2 ⟨rfl, hw2⟩
      have hacc := (hbw.trans (hw2.mono hbw.size)).drew
      have hlt : w.heap.size < w2.drew.heap.size := Nat.lt_of_lt_of_le hws hw2.size
      obtain ⟨q0, q1, q2, q3, q4, q5⟩ := hbox.below hw2 hws
      have hbx : Hid (BoxU w2.drew w.heap.size u (.slice a1 u.params.length c1) (.slice a2 u.headers.length c2)) := ⟨q0, q1, q2, q3, q4, q5⟩
      obtain ⟨g0, g1, g2, g3, g4, g5⟩ := hbx.out
      clear hbox hbw hws hw2
      go_wp2
      go_region_law (go_simp; go_at_call 30; refine (K3.out _).mono ?_; rintro e w3 ⟨rfl, hw3⟩; replace hbx := hid (hbx.out.below hw3 hlt); replace hacc := hacc.trans (hw3.mono hacc.size); obtain ⟨g0, g1, g2, g3, g4, g5⟩ := hbx.out; clear hw3)
      all_goals (
        try go_simp
        go_wp2
        rw [hwt.out]
        go_ret2
        exact ⟨ret_who HV.out, hacc⟩)
  · have e1a : (n != 0) = true := by simpa using e1
    have e1b : (n == 0) = false := by simpa using e1
    rw [if_pos e1] at hwv
    have HV := hid hwv
    clear hwv hul
    go_enter Tryd.func15, Tryd.ntmps15
    go_wp2_with fail
    refine (K1.out _ hbw).mono ?_
    rintro e w2 ⟨rfl, hw2⟩
    have hb2 := hbw.trans (hw2.mono hbw.size)
    obtain ⟨g0, g1, g2, g3, g4, g5⟩ := hbox.below hw2 hws
    clear hbox hbw hws hw2
    go_wp2_with fail
    refine (K1.out _ hb2).mono ?_
    rintro e w3 ⟨rfl, hw3⟩
    have hb3 := hb2.trans (hw3.mono hb2.size)
    clear g0 g1 g2 g3 g4 g5 hw3
    go_wp2
    go_ret2
    exact ⟨ret_who HV.out, hb3⟩

theorem refparse4 {l : List UInt8} {u : Uri} {er : Int} (h : parseV ([115, 105, 112, 58] ++ l) = (u, er)) (w : World) (hs : l.length + 4 ≤ 1048576) :
    Calls Tryd.prog 32 #[.string (⟨#[115, 105, 112, 58]⟩ ++ ⟨l.toArray⟩)] w fun e w' => ∃ a1 k1 a2 k2, e = .returned (.tuple #[.agg #[.string ⟨u.scheme.toArray⟩, .string ⟨u.user.toArray⟩, .string ⟨u.host.toArray⟩, .int .i64 u.port, .slice a1 u.params.length k1, .slice a2 u.headers.length k2], .int .i64 er]) ∧ ParsAt w' (.slice a1 u.params.length k1) u.params ∧ ParsAt w' (.slice a2 u.headers.length k2) u.headers ∧ Below w.heap.size w w' := by
  have k := refparse_any ([115, 105, 112, 58] ++ l) w (by simp; omega)
  rw [h, ← appL] at k
  refine k.mono ?_
  rintro e w' ⟨p, q, rfl, hp, hq, hb⟩
  have hp2 := hp.parsAt
  have hq2 := hq.parsAt
  obtain ⟨a1, k1, e1⟩ := hp2.form
  obtain ⟨a2, k2, e2⟩ := hq2.form
  simp only at e1 e2 hp2 hq2
  subst e1 e2
  exact ⟨a1, k1, a2, k2, rfl, hp2, hq2, hb⟩
set_option maxHeartbeats 1000000 in
set_option maxRecDepth 100000 in
theorem refhost_who (l : List UInt8) (w : World) (hs : l.length + 4 ≤ 1048576) :
    Calls Tryd.prog 17 #[.string ⟨l.toArray⟩] w fun e w' => e = .returned (.tuple #[.string ⟨(hostV l).1.toArray⟩, .int .i64 (hostV l).2]) ∧ Below w.heap.size w w' := by
  obtain ⟨u, er, hpv⟩ : ∃ u er, parseV ([115, 105, 112, 58] ++ l) = (u, er) := ⟨_, _, rfl⟩
  have K1 := hid (refparse4 hpv w hs)
  by_cases her : er = 0
  · subst her
    have hcz := parse_checked hpv
    have hsm := small_of_check hcz
    obtain ⟨t, n, hwv⟩ : ∃ t n, whoV u = (t, n) := ⟨_, _, rfl⟩
    have K2 := hid (fun (w' : World) (p h : Value) => refwho_any u p h w' hsm)
    rw [hwv] at K2
    unfold uriV at K2
    simp only at K2
    by_cases hn : n = 0
    · subst hn
      by_cases ht : t = l
      · subst ht
        have HV := hid (host_yes (t := t) hpv hwv)
        clear hpv hwv hcz hsm
        go_enter Tryd.func17, Tryd.ntmps17
        go_wp2_with fail
        refine K1.out.mono ?_
        rintro e w1 ⟨a1, k1, a2, k2, rfl, hp, hq, hw1⟩
        have hb1 := hw1.alloc hw1.size (.cells #[.string ⟨u.scheme.toArray⟩, .string ⟨u.user.toArray⟩, .string ⟨u.host.toArray⟩, .int .i64 u.port, .slice a1 u.params.length k1, .slice a2 u.headers.length k2] 24)
        have hx := box_new w1 u (.slice a1 u.params.length k1) (.slice a2 u.headers.length k2)
        have hlx := alloc_lt w1 (.cells #[.string ⟨u.scheme.toArray⟩, .string ⟨u.user.toArray⟩, .string ⟨u.host.toArray⟩, .int .i64 u.port, .slice a1 u.params.length k1, .slice a2 u.headers.length k2] 24)
        have HX := hid hx
        have HP := hid (hp.alloc (.cells #[.string ⟨u.scheme.toArray⟩, .string ⟨u.user.toArray⟩, .string ⟨u.host.toArray⟩, .int .i64 u.port, .slice a1 u.params.length k1, .slice a2 u.headers.length k2] 24))
        have HQ := hid (hq.alloc (.cells #[.string ⟨u.scheme.toArray⟩, .string ⟨u.user.toArray⟩, .string ⟨u.host.toArray⟩, .int .i64 u.port, .slice a1 u.params.length k1, .slice a2 u.headers.length k2] 24))
        obtain ⟨g0, g1, g2, g3, g4, g5⟩ := hx
        clear hp hq hw1 K1
        go_wp2_with fail
        refine (K2.out _ _ _ HP.out HQ.out).mono ?_
        rintro e w2 ⟨rfl, hw2⟩
        have hb2 := hb1.trans (hw2.mono hb1.size)
        clear g0 g1 g2 g3 g4 g5
        obtain ⟨g0, g1, g2, g3, g4, g5⟩ := HX.out.below hw2 hlx
        clear hw2 HP HQ HX hlx
        go_wp2
        go_ret2
        exact ⟨ret_who HV.out, hb2⟩
      · have HV := hid (host_no hpv (by rw [hwv]; simp [ht]))
        have ht2 : (t == l) = false := by simpa using ht
        clear hpv hwv hcz hsm
        go_enter Tryd.func17, Tryd.ntmps17
        go_wp2_with fail
        refine K1.out.mono ?_
        rintro e w1 ⟨a1, k1, a2, k2, rfl, hp, hq, hw1⟩
        have hb1 := hw1.alloc hw1.size (.cells #[.string ⟨u.scheme.toArray⟩, .string ⟨u.user.toArray⟩, .string ⟨u.host.toArray⟩, .int .i64 u.port, .slice a1 u.params.length k1, .slice a2 u.headers.length k2] 24)
        have hx := box_new w1 u (.slice a1 u.params.length k1) (.slice a2 u.headers.length k2)
        have HP := hid (hp.alloc (.cells #[.string ⟨u.scheme.toArray⟩, .string ⟨u.user.toArray⟩, .string ⟨u.host.toArray⟩, .int .i64 u.port, .slice a1 u.params.length k1, .slice a2 u.headers.length k2] 24))
        have HQ := hid (hq.alloc (.cells #[.string ⟨u.scheme.toArray⟩, .string ⟨u.user.toArray⟩, .string ⟨u.host.toArray⟩, .int .i64 u.port, .slice a1 u.params.length k1, .slice a2 u.headers.length k2] 24))
        obtain ⟨g0, g1, g2, g3, g4, g5⟩ := hx
        clear hp hq hw1 K1
        go_wp2_with fail
        refine (K2.out _ _ _ HP.out HQ.out).mono ?_
        rintro e w2 ⟨rfl, hw2⟩
        have hb2 := hb1.trans (hw2.mono hb1.size)
        clear g0 g1 g2 g3 g4 g5 hw2 HP HQ
        go_wp2
        go_ret2
        exact ⟨ret_who HV.out, hb2⟩
    · have HV := hid (host_no hpv (by rw [hwv]; simp [hn]))
      have hn1 : (n != 0) = true := by simpa using hn
      have hn2 : (n == 0) = false := by simpa using hn
      clear hpv hwv hcz hsm
      go_enter Tryd.func17, Tryd.ntmps17
      go_wp2_with fail
      refine K1.out.mono ?_
      rintro e w1 ⟨a1, k1, a2, k2, rfl, hp, hq, hw1⟩
      have hb1 := hw1.alloc hw1.size (.cells #[.string ⟨u.scheme.toArray⟩, .string ⟨u.user.toArray⟩, .string ⟨u.host.toArray⟩, .int .i64 u.port, .slice a1 u.params.length k1, .slice a2 u.headers.length k2] 24)
      have hx := box_new w1 u (.slice a1 u.params.length k1) (.slice a2 u.headers.length k2)
      have HP := hid (hp.alloc (.cells #[.string ⟨u.scheme.toArray⟩, .string ⟨u.user.toArray⟩, .string ⟨u.host.toArray⟩, .int .i64 u.port, .slice a1 u.params.length k1, .slice a2 u.headers.length k2] 24))
      have HQ := hid (hq.alloc (.cells #[.string ⟨u.scheme.toArray⟩, .string ⟨u.user.toArray⟩, .string ⟨u.host.toArray⟩, .int .i64 u.port, .slice a1 u.params.length k1, .slice a2 u.headers.length k2] 24))
      obtain ⟨g0, g1, g2, g3, g4, g5⟩ := hx
      clear hp hq hw1 K1
      go_wp2_with fail
      refine (K2.out _ _ _ HP.out HQ.out).mono ?_
      rintro e w2 ⟨rfl, hw2⟩
      have hb2 := hb1.trans (hw2.mono hb1.size)
      clear g0 g1 g2 g3 g4 g5 hw2 HP HQ
      go_wp2
      go_ret2
      exact ⟨ret_who HV.out, hb2⟩
  · have HV := hid (host_bad hpv her)
    have he1 : (er != 0) = true := by simpa using her
    have he2 : (er == 0) = false := by simpa using her
    clear hpv
    go_enter Tryd.func17, Tryd.ntmps17
    go_wp2_with fail
    refine K1.out.mono ?_
    rintro e w1 ⟨a1, k1, a2, k2, rfl, hp, hq, hw1⟩
    have hb1 := hw1.alloc hw1.size (.cells #[.string ⟨u.scheme.toArray⟩, .string ⟨u.user.toArray⟩, .string ⟨u.host.toArray⟩, .int .i64 u.port, .slice a1 u.params.length k1, .slice a2 u.headers.length k2] 24)
    clear hp hq hw1 K1
    go_wp2
    go_ret2
    exact ⟨ret_who HV.out, hb1⟩

end Go.Proofs.YtnkghefcoolkoaaDoor
