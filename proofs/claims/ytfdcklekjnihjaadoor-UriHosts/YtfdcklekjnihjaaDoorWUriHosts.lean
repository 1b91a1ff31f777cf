/-
  The walk of the law UriHosts.
-/
import Derived.Test.YtfdcklekjnihjaaDoorAwakeUri
import Derived.Test.YtfdcklekjnihjaaDoorRefWhere
namespace Go.Proofs.YtfdcklekjnihjaaDoor.uriHosts
open Go.RowKit Sc
set_option linter.unusedVariables false
set_option maxRecDepth 20000

theorem step {a b c : World} (h : Below a.heap.size a b) (k : Below b.heap.size b c) : Below a.heap.size a c := h.trans (k.mono h.size)

set_option maxHeartbeats 1000000 in
set_option maxRecDepth 100000 in
theorem law_walk (a0 : ByteArray) (b0 : a0.size ≤ 140737488351232) (w : World) :
    Calls Tryd.prog 3 #[.string a0] w fun e w' => e = .returned (.bool true) ∧ Below w.heap.size w w' := by
  have hs : a0.size ≤ 140737488355328 := by omega
  have K1 : Hid _ := fun w' => where_any a0 w' hs
  have K2 : Hid _ := fun w' => refwhere_any a0 w' hs
  have K3 : Hid _ := fun w' => host_any a0 w' hs
  have K4 : Hid _ := fun w' => refhost_any a0 w' hs
  obtain ⟨wh, wp, we, hwv⟩ : ∃ wh wp we, whereV a0.data.toList = (wh, wp, we) := ⟨_, _, _, rfl⟩
  rw [hwv] at K1 K2
  obtain ⟨hb, hhb⟩ : ∃ hb, hostB a0.data.toList = hb := ⟨_, rfl⟩
  rw [hhb] at K3 K4
  simp only at K1 K2
  go_enter Tryd.func3, Tryd.ntmps3
  go_wp2_with (first
    | (go_at_call 9; refine (K1.out _).mono ?_; rintro e w1 ⟨rfl, h1⟩)
    | (go_at_call 10; refine (K2.out _).mono ?_; rintro e w2 ⟨rfl, h2⟩)
    | (go_at_call 11; refine (scheme_any a0 _).mono ?_; rintro e w' ⟨rfl, rfl⟩)
    | (go_at_call 12; refine (refscheme_any a0 _).mono ?_; rintro e w' ⟨rfl, rfl⟩)
    | (go_at_call 13; refine (K3.out _).mono ?_; rintro e w3 ⟨rfl, h3⟩)
    | (go_at_call 14; refine (K4.out _).mono ?_; rintro e w4 ⟨rfl, h4⟩)
    | (go_at_call 15; refine (awake_any _).mono ?_; rintro e w5 ⟨rfl, h5⟩))
  go_ret
  exact ⟨rfl, step (step (step (step h1 h2) h3) h4) h5⟩

end Go.Proofs.YtfdcklekjnihjaaDoor.uriHosts
