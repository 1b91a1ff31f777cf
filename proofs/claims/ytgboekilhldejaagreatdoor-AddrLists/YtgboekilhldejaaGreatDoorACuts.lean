/-
  Contracts: package addr's name, cutAngled.
-/
import Derived.Test.YtgboekilhldejaaGreatDoorAWords
import Derived.Test.YtgboekilhldejaaGreatDoorAField
namespace Go.Proofs.YtgboekilhldejaaGreatDoor
open Go.RowKit Sc
set_option linter.unusedVariables false
set_option maxRecDepth 20000

def nameR (l : List UInt8) : List UInt8 × Bool := if quoB l = true then ((unquoteV l).1, (unquoteV l).2 == 0 && decide (((unquoteV l).1.length : Int) ≤ 64)) else wordsR l
theorem words_list (l : List UInt8) (w : World) (hs : l.length ≤ 1048576) :
    Calls Tryz.prog 118 #[.string ⟨l.toArray⟩] w fun e w' => e = .returned (.tuple #[.string ⟨(wordsR l).1.toArray⟩, .bool (wordsR l).2]) ∧ Below w.heap.size w w' := words_any ⟨l.toArray⟩ w (by rw [size_list]; exact hs)
theorem ret_name {s x : List UInt8} {b : Bool} (h : nameR s = (x, b)) : Ending.returned (.tuple #[.string ⟨x.toArray⟩, .bool b]) = .returned (.tuple #[.string ⟨(nameR s).1.toArray⟩, .bool (nameR s).2]) := by rw [h]
set_option maxHeartbeats 400000 in
theorem name_any (l : List UInt8) (w : World) (hl : l.length ≤ 1048576) :
    Calls Tryz.prog 106 #[.string ⟨l.toArray⟩] w fun e w' => e = .returned (.tuple #[.string ⟨(nameR l).1.toArray⟩, .bool (nameR l).2]) ∧ Below w.heap.size w w' := by
  have KP := hid (fun w' => strPrefix_l l w')
  have hv : nameR l = if quoB l = true then ((unquoteV l).1, (unquoteV l).2 == 0 && decide (((unquoteV l).1.length : Int) ≤ 64)) else wordsR l := rfl
  cases hq : quoB l with
  | true =>
    rw [hq] at KP hv
    rw [if_pos rfl] at hv
    have KU := hid (fun w' => unquote_list l w' (by omega))
    generalize unquoteV l = u at KU hv
    obtain ⟨ut, un⟩ := u
    simp only at KU hv
    have HV := hid hv
    clear hv hq
    have z := size_list ut
    go_enter Tryz.func106, Tryz.ntmps106
    go_wp2_with fail
    refine (KP.out _).mono ?_
    rintro e w1 ⟨rfl, rfl⟩
    go_wp2_with fail
    refine (KU.out _).mono ?_
    rintro e w2 ⟨rfl, hw2⟩
    by_cases hun : un = 0
    · subst hun
      go_wp2
      go_ret2
      exact ⟨ret_name (by rw [HV.out]; rfl), hw2⟩
    · have hne : (un == 0) = false := by simpa using hun
      go_wp2
      go_ret2
      exact ⟨ret_name (by rw [HV.out, hne]; rfl), hw2⟩
  | false =>
    rw [hq] at KP hv
    rw [if_neg (by simp)] at hv
    have KW := hid (fun w' => words_list l w' hl)
    generalize wordsR l = u at KW hv
    obtain ⟨ut, ub⟩ := u
    have HV := hid hv
    clear hv hq
    go_enter Tryz.func106, Tryz.ntmps106
    go_wp2_with fail
    refine (KP.out _).mono ?_
    rintro e w1 ⟨rfl, rfl⟩
    go_wp2_with fail
    refine (KW.out _).mono ?_
    rintro e w2 ⟨rfl, hw2⟩
    go_wp2
    go_ret2
    exact ⟨ret_name HV.out, hw2⟩

/-- Three pieces, and whether a text can be cut. -/
structure Pcs where
  d : List UInt8
  u : List UInt8
  r : List UInt8
def pcsV (p : Pcs) : Value := .agg #[.string ⟨p.d.toArray⟩, .string ⟨p.u.toArray⟩, .string ⟨p.r.toArray⟩]
def angR (a b : List UInt8) : Pcs × Bool := if (nameR (trimL a)).2 = true then (⟨(nameR (trimL a)).1, (cutL 62 b).1, (cutL 62 b).2.1⟩, (cutL 62 b).2.2) else (⟨[], [], []⟩, false)
theorem ret_pcs {p : Pcs × Bool} {d u r : List UInt8} {b : Bool} (h : p = (⟨d, u, r⟩, b)) : Ending.returned (.tuple #[.agg #[.string ⟨d.toArray⟩, .string ⟨u.toArray⟩, .string ⟨r.toArray⟩], .bool b]) = .returned (.tuple #[pcsV p.1, .bool p.2]) := by rw [h]; rfl

set_option maxHeartbeats 1000000 in
set_option maxRecDepth 100000 in
theorem cutAngled_any (a b : List UInt8) (w : World) (ha : a.length ≤ 1048576) (hb : b.length ≤ 1048576) :
    Calls Tryz.prog 81 #[.string ⟨a.toArray⟩, .string ⟨b.toArray⟩] w fun e w' => e = .returned (.tuple #[pcsV (angR a b).1, .bool (angR a b).2]) ∧ Below w.heap.size w w' := by
  have hta := trimL_len a
  have KT := hid (fun w' => trim_list a w' (by omega))
  have KN := hid (fun w' => name_any (trimL a) w' (by omega))
  obtain ⟨ca, cb, cc, hcut⟩ : ∃ ca cb cc, cutL 62 b = (ca, cb, cc) := ⟨_, _, _, rfl⟩
  have KC := hid (fun w' => strCut_of hcut w' (by omega))
  have hv : angR a b = if (nameR (trimL a)).2 = true then (⟨(nameR (trimL a)).1, ca, cb⟩, cc) else (⟨[], [], []⟩, false) := by rw [angR, hcut]
  clear hcut
  generalize angR a b = R at hv ⊢
  generalize trimL a = ta at KT KN hv
  generalize nameR ta = nr at KN hv
  obtain ⟨nd, nb⟩ := nr
  simp only at KN hv
  have hr0 := row3_any w (.string ⟨#[]⟩) (.string ⟨#[]⟩) (.string ⟨#[]⟩) 75
  have hb0 : Below w.heap.size w (w.alloc (.cells #[.string ⟨#[]⟩, .string ⟨#[]⟩, .string ⟨#[]⟩] 75)) := (Below.refl _ w).alloc (Nat.le_refl _) _
  have hlt0 := alloc_lt w (.cells #[.string ⟨#[]⟩, .string ⟨#[]⟩, .string ⟨#[]⟩] 75)
  go_enter Tryz.func81, Tryz.ntmps81
  go_wp2_with fail
  refine (KT.out _).mono ?_
  rintro e w1 ⟨rfl, hw1⟩
  have hr1 := hr0.below hw1 hlt0
  have hb1 := hb0.trans (hw1.mono hb0.size)
  have hlt1 := Nat.lt_of_lt_of_le hlt0 hw1.size
  clear hr0 hb0 hlt0 hw1 KT
  go_wp2_with fail
  refine (KN.out _).mono ?_
  rintro e w2 ⟨rfl, hw2⟩
  have hr2 := hr1.below hw2 hlt1
  have hb2 := hb1.trans (hw2.mono hb1.size)
  have hlt2 := Nat.lt_of_lt_of_le hlt1 hw2.size
  clear hr1 hb1 hlt1 hw2 KN
  cases nb with
  | false =>
    have HV : Hid (R = (⟨[], [], []⟩, false)) := show _ = _ by rw [hv]; rfl
    clear hv
    obtain ⟨y0, y1, y2, f0, f1, f2⟩ := hr2.three
    go_wp2
    have hr7 := row_store3 hr2 (.string ⟨#[]⟩) (.string ⟨#[]⟩) (.string ⟨#[]⟩)
    have hb7 := store_below3 hb2 w.heap.size (Nat.le_refl _) (.string ⟨#[]⟩) (.string ⟨#[]⟩) (.string ⟨#[]⟩)
    generalize World.setCell _ _ _ = w7 at hr7 hb7 ⊢
    obtain ⟨d0, d1, d2, _, _, _⟩ := hr7.three
    try simp only [Exit.inBlock, Exit.then]
    refine bodyPost_ret (v := .tuple #[.agg #[.string ⟨#[]⟩, .string ⟨#[]⟩, .string ⟨#[]⟩], .bool false]) (by simp [results, Tryz.results81, go_sem, d0, d1, d2]; try rfl) rfl ?_
    exact ⟨ret_pcs (d := []) (u := []) (r := []) HV.out, hb7⟩
  | true =>
    have HV : Hid (R = (⟨nd, ca, cb⟩, cc)) := show _ = _ by rw [hv]; rfl
    clear hv
    go_wp2_with fail
    refine (KC.out _).mono ?_
    rintro e w3 ⟨rfl, hw3⟩
    have hr3 := hr2.below hw3 hlt2
    have hb3 := hb2.trans (hw3.mono hb2.size)
    clear hr2 hb2 hlt2 hw3 KC
    obtain ⟨y0, y1, y2, f0, f1, f2⟩ := hr3.three
    go_wp2
    have hr7 := row_store3 hr3 (.string ⟨nd.toArray⟩) (.string ⟨ca.toArray⟩) (.string ⟨cb.toArray⟩)
    have hb7 := store_below3 hb3 w.heap.size (Nat.le_refl _) (.string ⟨nd.toArray⟩) (.string ⟨ca.toArray⟩) (.string ⟨cb.toArray⟩)
    generalize World.setCell _ _ _ = w7 at hr7 hb7 ⊢
    obtain ⟨d0, d1, d2, _, _, _⟩ := hr7.three
    try simp only [Exit.inBlock, Exit.then]
    refine bodyPost_ret (v := .tuple #[.agg #[.string ⟨nd.toArray⟩, .string ⟨ca.toArray⟩, .string ⟨cb.toArray⟩], .bool cc]) (by simp [results, Tryz.results81, go_sem, d0, d1, d2]; try rfl) rfl ?_
    exact ⟨ret_pcs HV.out, hb7⟩

end Go.Proofs.YtgboekilhldejaaGreatDoor
