/-
  Contracts of layers 1 and 3 over lists of bytes, as layer 5 calls them.
-/
import Derived.Test.YtgboekilhldejaaGreatDoorBaseG
import Derived.Test.YtgboekilhldejaaGreatDoorBaseD
import Derived.Test.YtgboekilhldejaaGreatDoorBaseK
import Derived.Test.YtgboekilhldejaaGreatDoorOpenAddr
namespace Go.Proofs.YtgboekilhldejaaGreatDoor
open Go.RowKit Sc
set_option linter.unusedVariables false
set_option maxRecDepth 20000

theorem token_list (l : List UInt8) (w : World) (h : l.length ≤ 140737488355328) :
    Calls Tryz.prog 57 #[.string ⟨l.toArray⟩] w fun e w' => e = .returned (.bool (tokenB l)) ∧ w' = w := token_any ⟨l.toArray⟩ w (by rw [size_list]; unfold maxLen; omega)
theorem reftoken_list (l : List UInt8) (w : World) (h : l.length ≤ 140737488355328) :
    Calls Tryz.prog 61 #[.string ⟨l.toArray⟩] w fun e w' => e = .returned (.bool (tokenB l)) ∧ w' = w := reftoken_any ⟨l.toArray⟩ w (by rw [size_list]; unfold maxLen; omega)
theorem reflower_l (l : List UInt8) (w : World) (h : l.length ≤ 140737488355328) :
    Calls Tryz.prog 63 #[.string ⟨l.toArray⟩] w fun e w' => e = .returned (.string ⟨(lowL l).toArray⟩) ∧ Below w.heap.size w w' := reflower_txt ⟨l.toArray⟩ w (by rw [size_list]; exact h)
theorem quote_list (l : List UInt8) (w : World) (h : l.length ≤ 1048576) :
    Calls Tryz.prog 65 #[.string ⟨l.toArray⟩] w fun e w' => e = .returned (.tuple #[.string ⟨(quoteV l).1.toArray⟩, .int .i64 (quoteV l).2]) ∧ Below w.heap.size w w' := quote_any ⟨l.toArray⟩ w (by rw [size_list]; omega)
theorem refquote_list (l : List UInt8) (w : World) (h : l.length ≤ 1048576) :
    Calls Tryz.prog 33 #[.string ⟨l.toArray⟩] w fun e w' => e = .returned (.tuple #[.string ⟨(quoteV l).1.toArray⟩, .int .i64 (quoteV l).2]) ∧ Below w.heap.size w w' := refquote_any ⟨l.toArray⟩ w (by rw [size_list]; omega)
theorem unquote_list (l : List UInt8) (w : World) (h : l.length ≤ 140737488355328) :
    Calls Tryz.prog 55 #[.string ⟨l.toArray⟩] w fun e w' => e = .returned (.tuple #[.string ⟨(unquoteV l).1.toArray⟩, .int .i64 (unquoteV l).2]) ∧ Below w.heap.size w w' := unquote_any ⟨l.toArray⟩ w (by rw [size_list]; exact h)
theorem refunquote_list (l : List UInt8) (w : World) (h : l.length ≤ 140737488355328) :
    Calls Tryz.prog 29 #[.string ⟨l.toArray⟩] w fun e w' => e = .returned (.tuple #[.string ⟨(unquoteV l).1.toArray⟩, .int .i64 (unquoteV l).2]) ∧ Below w.heap.size w w' := refunquote_any ⟨l.toArray⟩ w (by rw [size_list]; exact h)
theorem trim_list (l : List UInt8) (w : World) (h : l.length ≤ 281474976710656) :
    Calls Tryz.prog 43 #[.string ⟨l.toArray⟩] w fun e w' => e = .returned (.string ⟨(trimL l).toArray⟩) ∧ Below w.heap.size w w' := trim_any ⟨l.toArray⟩ w (by rw [size_list]; exact h)
theorem reftrim_list (l : List UInt8) (w : World) (h : l.length ≤ 281474976710656) :
    Calls Tryz.prog 28 #[.string ⟨l.toArray⟩] w fun e w' => e = .returned (.string ⟨(trimL l).toArray⟩) ∧ w' = w := reftrim_any ⟨l.toArray⟩ w (by rw [size_list]; exact h)
theorem has3_l (l : List UInt8) (c : UInt8) (w : World) (h : l.length ≤ 140737488355328) :
    Calls Tryz.prog 49 #[.string ⟨l.toArray⟩, .int .u8 c.toNat] w fun e w' => e = .returned (.bool (hasL c l)) ∧ w' = w := has3_any ⟨l.toArray⟩ c w (by rw [size_list]; unfold maxLen; omega)
theorem all_l (l : List UInt8) (c : Int) (w : World) (h : l.length ≤ 140737488355328) :
    Calls Tryz.prog 46 #[.string ⟨l.toArray⟩, .int .i64 c] w fun e w' => e = .returned (.bool (allB c l)) ∧ w' = w := all_any ⟨l.toArray⟩ c w (by rw [size_list]; unfold maxLen; omega)
theorem startsB_quo (l : List UInt8) : startsB 34 l = quoB l := by
  unfold startsB quoB
  cases l with
  | nil => decide
  | cons b r => simp
theorem strPrefix_l (l : List UInt8) (w : World) :
    Calls Tryz.prog 54 #[.string ⟨l.toArray⟩, .string ⟨#[34]⟩] w fun e w' => e = .returned (.bool (quoB l)) ∧ w' = w := by
  have h := strPrefix_any ⟨l.toArray⟩ 34 w (by decide)
  have e : startsB 34 (⟨l.toArray⟩ : ByteArray).data.toList = quoB l := startsB_quo l
  rw [e] at h; exact h
/-- The first part, and the others behind it. -/
theorem partsG_cons (sep : Int) : ∀ (l : List UInt8) (p : Pl) (cur : List UInt8), ∃ p0 ps, partsG sep p cur l = p0 :: ps
  | [], p, cur => ⟨_, _, rfl⟩
  | b :: r, p, cur => by
    rw [partsG]
    split
    · exact ⟨_, _, rfl⟩
    · exact partsG_cons sep r _ _
theorem own_row {w : World} {B : Nat} {v : Value} {p0 : List UInt8} {ps : List (List UInt8)} (hown2 : Own w B 9 v (strs (p0 :: ps))) :
    ∃ g cap, v = .slice (some ⟨g, 0, none⟩) (ps.length + 1) cap ∧ ps.length + 1 ≤ cap ∧ g < w.heap.size ∧ (∀ j (hj : j < (p0 :: ps).length), w.cell? ⟨g, j, none⟩ = some (.string ⟨((p0 :: ps)[j]).toArray⟩)) := by
  obtain ⟨g, cap, rfl, hc⟩ := own_strs hown2 (by simp)
  have hcap : ps.length + 1 ≤ cap ∧ g < w.heap.size := by
    rcases hown2.2 with ⟨e, _⟩ | ⟨g', cap', cur, e, hB, hg, h1, h2, h3, h4⟩
    · simp at e
    · simp only [Value.slice.injEq, Option.some.injEq, Addr.mk.injEq] at e
      obtain ⟨⟨rfl, _⟩, _, rfl⟩ := e
      rw [strs_length] at h1
      refine ⟨h1, ?_⟩
      apply Classical.byContradiction
      intro hge
      rw [Array.getElem?_eq_none (by omega)] at hg
      cases hg
  exact ⟨g, cap, rfl, hcap.1, hcap.2, hc⟩
theorem parts_of {l p0 : List UInt8} {ps : List (List UInt8)} {c : Int} (h : partsV c l = p0 :: ps) (w : World) (hs : l.length ≤ 1048576) :
    Calls Tryz.prog 45 #[.string ⟨l.toArray⟩, .int .u8 c] w fun e w' => ∃ g cap, e = .returned (.slice (some ⟨g, 0, none⟩) (ps.length + 1) cap) ∧ ps.length + 1 ≤ cap ∧ g < w'.heap.size ∧ (∀ j (hj : j < (p0 :: ps).length), w'.cell? ⟨g, j, none⟩ = some (.string ⟨((p0 :: ps)[j]).toArray⟩)) ∧ Below w.heap.size w w' := by
  have k := parts_any ⟨l.toArray⟩ c w (by rw [size_list]; omega)
  refine k.mono ?_
  rintro e w' ⟨v, rfl, hown, hb⟩
  have hown2 : Own w' (w.heap.size + 1) 9 v (strs (p0 :: ps)) := by rw [← h]; exact hown
  obtain ⟨g, cap, rfl, h1, h2, h3⟩ := own_row hown2
  exact ⟨g, cap, rfl, h1, h2, h3, hb⟩
theorem refparts_of {l p0 : List UInt8} {ps : List (List UInt8)} {c : Int} (h : partsV c l = p0 :: ps) (w : World) (hs : l.length ≤ 1048576) :
    Calls Tryz.prog 51 #[.string ⟨l.toArray⟩, .int .u8 c] w fun e w' => ∃ g cap, e = .returned (.slice (some ⟨g, 0, none⟩) (ps.length + 1) cap) ∧ ps.length + 1 ≤ cap ∧ g < w'.heap.size ∧ (∀ j (hj : j < (p0 :: ps).length), w'.cell? ⟨g, j, none⟩ = some (.string ⟨((p0 :: ps)[j]).toArray⟩)) ∧ Below w.heap.size w w' := by
  have k := refparts_any ⟨l.toArray⟩ c w (by rw [size_list]; omega)
  refine k.mono ?_
  rintro e w' ⟨v, rfl, hown, hb⟩
  have hown2 : Own w' w.heap.size 9 v (strs (p0 :: ps)) := by rw [← h]; exact hown
  obtain ⟨g, cap, rfl, h1, h2, h3⟩ := own_row hown2
  exact ⟨g, cap, rfl, h1, h2, h3, hb⟩
theorem trimL_len (l : List UInt8) : (trimL l).length ≤ l.length := by
  unfold trimL
  rw [List.length_reverse]
  refine Nat.le_trans (List.dropWhile_sublist _).length_le ?_
  rw [List.length_reverse]
  exact (List.dropWhile_sublist _).length_le

end Go.Proofs.YtgboekilhldejaaGreatDoor
