/-
  Contracts: package addr's Text.
-/
import Derived.Test.YtjbfdbccidhdfabDoorFR
import Derived.Lib.QuietBelow
import Derived.BigQuiet
namespace Go.Proofs.YtjbfdbccidhdfabDoor
open Go.RowKit Go.Sort Sc
set_option linter.unusedVariables false
set_option maxRecDepth 20000

theorem below_re5 {w W : World} (h : Below w.heap.size w W) (d : Nat) (os : Array Obj) : Below w.heap.size w (grow (redrawn W d) os) := h.trans ((below_regrown W d os).mono h.size)
theorem followsMixed5 : Tryd.prog.follows .mixedOrders = true := by kernel_rfl
theorem parsAt_take {w : World} {a : Addr} {ps : List Par} {cap k : Nat} (hk : k ≤ ps.length) (h : ∀ j (hj : j < ps.length), a.block < w.heap.size ∧ ParAt w a j ps[j]) : ParsAt w (.slice (some a) k cap) (ps.take k) := by
  refine Or.inr ⟨a, cap, by rw [List.length_take, Nat.min_eq_left hk], fun j hj => ?_⟩
  have hj' : j < ps.length := by rw [List.length_take] at hj; omega
  rw [List.getElem_take]
  exact h j hj'
theorem small_take {ps : List Par} {B : Nat} (h : SmallP B ps) (k : Nat) : SmallP B (ps.take k) :=
  ⟨by have := h.1; rw [List.length_take]; omega, fun p hp => h.2 p (List.mem_of_mem_take hp)⟩
theorem text_at {ps : List Par} {k : Nat} (hk : k < ps.length) (ph : Bool) (h : ps[k].has = ph) : parT ps[k] = if ph = true then ps[k].name ++ [61] ++ valT ps[k].value else ps[k].name := by rw [parT, h]
theorem ret_text {p : List UInt8 × Int} {x : List UInt8} {n : Int} (h : p = (x, n)) : Ending.returned (.tuple #[.string ⟨x.toArray⟩, .int .i64 n]) = .returned (.tuple #[.string ⟨p.1.toArray⟩, .int .i64 p.2]) := by rw [h]
theorem app_text (a b c : List UInt8) : (⟨a.toArray⟩ : ByteArray) ++ ((⟨b.toArray⟩ : ByteArray) ++ ⟨c.toArray⟩) = ⟨(a ++ (b ++ c)).toArray⟩ := by
  rw [ByteArray.mk_append_mk, ByteArray.mk_append_mk]
theorem parsA_small : ∀ (ps b : List Par), mayGo b ps = true → (parsA ps).length ≤ 200 * ps.length
  | [], b, h => by simp [parsA]
  | p :: ps, b, h => by
    rw [mayGo, Bool.and_eq_true] at h
    obtain ⟨m1, _, m3, _, _⟩ := may_facts h.1
    obtain ⟨_, t2, _⟩ := tok_facts m1
    have h2 := parsA_small ps _ h.2
    have h3 := parT_len p
    have e : parsA (p :: ps) = ([59] ++ parT p) ++ parsA ps := by simp [parsA]
    rw [e, List.length_append, List.length_append]
    simp only [List.length_cons, List.length_nil]
    omega

end Go.Proofs.YtjbfdbccidhdfabDoor
