/-
  The heap's methods, through the interface (the first number: the model's own bound, the types and a hundred).
-/
import Derived.Test.YthioekmlljpbpaaWQSwap
namespace Go.Proofs.Ythioekmlljpbpaa
open Go.RowKit
set_option linter.unusedVariables false
set_option maxRecDepth 20000

def hV (bw : Nat) : Value := .iface 74 (.pointer (some ⟨bw, 0, none⟩))
theorem m_less0 (b : Nat) (w : World) : (method 199 74 (.pointer (some ⟨b, 0, none⟩)) "Less").run Try.prog w = (do let v ← loadVar 60 ⟨b, 0, none⟩; pure (52, v)).run Try.prog w := by kernel_rfl
theorem m_less {b : Nat} {w : World} {a : Option Addr} {n c : Nat} (h : w.cell? ⟨b, 0, none⟩ = some (.slice a n c)) : (method 199 74 (.pointer (some ⟨b, 0, none⟩)) "Less").run Try.prog w = .ok (52, .slice a n c) w := by
  rw [m_less0]
  go_simp
theorem m_swap0 (b : Nat) (w : World) : (method 199 74 (.pointer (some ⟨b, 0, none⟩)) "Swap").run Try.prog w = (do let v ← loadVar 60 ⟨b, 0, none⟩; pure (53, v)).run Try.prog w := by kernel_rfl
theorem m_swap {b : Nat} {w : World} {a : Option Addr} {n c : Nat} (h : w.cell? ⟨b, 0, none⟩ = some (.slice a n c)) : (method 199 74 (.pointer (some ⟨b, 0, none⟩)) "Swap").run Try.prog w = .ok (53, .slice a n c) w := by
  rw [m_swap0]
  go_simp
theorem m_len0 (b : Nat) (w : World) : (method 199 74 (.pointer (some ⟨b, 0, none⟩)) "Len").run Try.prog w = (do let v ← loadVar 60 ⟨b, 0, none⟩; pure (51, v)).run Try.prog w := by kernel_rfl
theorem m_len {b : Nat} {w : World} {a : Option Addr} {n c : Nat} (h : w.cell? ⟨b, 0, none⟩ = some (.slice a n c)) : (method 199 74 (.pointer (some ⟨b, 0, none⟩)) "Len").run Try.prog w = .ok (51, .slice a n c) w := by
  rw [m_len0]
  go_simp
theorem m_push (b : Nat) (w : World) : (method 199 74 (.pointer (some ⟨b, 0, none⟩)) "Push").run Try.prog w = .ok (55, .pointer (some ⟨b, 0, none⟩)) w := by kernel_rfl
theorem m_pop (b : Nat) (w : World) : (method 199 74 (.pointer (some ⟨b, 0, none⟩)) "Pop").run Try.prog w = .ok (54, .pointer (some ⟨b, 0, none⟩)) w := by kernel_rfl
theorem par_int {k : Nat} (h : 0 < k) : ((k : Int) - 1).tdiv 2 = (par k : Nat) := by
  have : (k : Int) - 1 = ((k - 1 : Nat) : Int) := by omega
  rw [this]
  unfold par
  rfl
theorem HQ.at {bw m B : Nat} {v : Value} {w : World} {f : Nat → It} {n : Nat} (h : HQ bw m B v w f n) : w.cell? ⟨bw, 0, none⟩ = some v := h.wheel.cell 0 (by simp)
theorem Chg.no {S : Nat → Prop} {a b c : World} (h : Chg S a b) (k : Chg No b c) : Chg S a c := h.step k fun _ _ x => x.elim
/-- Of the same items the blocks are the same. -/
theorem Re.hs {n : Nat} {f g : Nat → It} {v : Value} (h : Re n f g) {k : Nat} (hk : HS v g n k) : HS v f n k := by
  rcases hk with hk | ⟨i, hi, he⟩
  · exact .inl hk
  · obtain ⟨a, ha, e⟩ := (h.mem (g i)).1 ⟨i, hi, rfl⟩
    exact .inr ⟨a, ha, by rw [e]; exact he⟩
end Go.Proofs.Ythioekmlljpbpaa
