/-
  Small headers: plain facts, in the shape in which the code goes.
-/
import Derived.Test.YtjbfdbccidhdfaaDoorHeadTypeL
import Derived.Test.YtjbfdbccidhdfaaDoorFN
import Derived.Test.YtjbfdbccidhdfaaDoorOpenEv
import Derived.Test.YtjbfdbccidhdfaaDoorAText
namespace Go.Proofs.YtjbfdbccidhdfaaDoor
open Go.RowKit Sc
set_option linter.unusedVariables false
set_option maxRecDepth 20000
set_option linter.unusedSimpArgs false

theorem seqglue (a b : List UInt8) : ((⟨a.toArray⟩ : ByteArray) ++ (⟨#[32]⟩ : ByteArray)) ++ ⟨b.toArray⟩ = ⟨(a ++ [32] ++ b).toArray⟩ := by
  have e0 : (⟨#[32]⟩ : ByteArray) = ⟨[32].toArray⟩ := rfl
  rw [e0, ByteArray.mk_append_mk, ByteArray.mk_append_mk]
def visB1 (b : UInt8) : Bool := decide (33 ≤ b.toNat) && decide (b.toNat ≤ 126)
theorem callB_is (s : List UInt8) : callB s = (s.all visB1 && (decide (1 ≤ s.length) && decide (s.length ≤ 128))) := by
  have e : (fun b : UInt8 => decide (33 ≤ b.toNat ∧ b.toNat ≤ 126)) = visB1 := by funext b; unfold visB1; rw [Bool.decide_and]
  unfold callB
  rw [e, Bool.decide_and]
theorem callB_bad {s : List UInt8} {k : Nat} (hk : k < s.length) (h : visB1 s[k] = false) : callB s = false := by
  have : s.all visB1 = false := by
    rw [List.all_eq_false]
    exact ⟨s[k], List.getElem_mem hk, by simp [h]⟩
  rw [callB_is, this]; rfl
theorem callB_good {s : List UInt8} (h : ∀ b ∈ s, visB1 b = true) : callB s = (decide (1 ≤ s.length) && decide (s.length ≤ 128)) := by
  rw [callB_is, List.all_eq_true.2 h]; rfl
-- the word ahead of the first blank
theorem hword_cons (b : UInt8) (l : List UInt8) : wordN (b :: l) = if blk b = true then 0 else wordN l + 1 := by
  unfold wordN
  rw [List.takeWhile_cons]
  cases blk b <;> simp
theorem hword_le (l : List UInt8) : wordN l ≤ l.length := by
  unfold wordN
  exact (List.takeWhile_sublist _).length_le
theorem hword_pos {l : List UInt8} {k : Nat} (hk : k < l.length) (hp : k ≤ wordN l) (hb : blk l[k] = true) : wordN l = k := by
  induction l generalizing k with
  | nil => simp at hk
  | cons b l ih =>
    rw [hword_cons] at hp ⊢
    cases k with
    | zero => rw [if_pos (by simpa using hb)]
    | succ k =>
      split
      · rename_i h; rw [if_pos h] at hp; omega
      · rename_i h
        rw [if_neg h] at hp
        rw [ih (by simpa using hk) (by omega) (by simpa using hb)]
theorem hword_more {l : List UInt8} {k : Nat} (hk : k < l.length) (hp : k ≤ wordN l) (hb : blk l[k] = false) : k + 1 ≤ wordN l := by
  induction l generalizing k with
  | nil => simp at hk
  | cons b l ih =>
    rw [hword_cons] at hp ⊢
    cases k with
    | zero => rw [if_neg (by simpa using hb)]; omega
    | succ k =>
      split
      · rename_i h; rw [if_pos h] at hp; omega
      · rename_i h
        rw [if_neg h] at hp
        have := ih (k := k) (by simpa using hk) (by omega) (by simpa using hb)
        omega
theorem hblk_no {b : UInt8} : blk b = false ↔ (cls (b.toNat : Int) != 32) = true := by
  rw [blk_cls]
  simp
theorem htake_ext (l : List UInt8) (k : Nat) : (⟨l.toArray⟩ : ByteArray).extract 0 k = ⟨(l.take k).toArray⟩ := by
  apply ByteArray.ext
  simp
theorem hdrop_ext (l : List UInt8) (k : Nat) : (⟨l.toArray⟩ : ByteArray).extract k (⟨l.toArray⟩ : ByteArray).size = ⟨(l.drop k).toArray⟩ := by
  apply ByteArray.ext
  rw [size_list]
  simp [List.take_of_length_le]
theorem seqV_is (s : List UInt8) : seqV s = if (numV maxS ((trimL s).take (wordN (trimL s)))).2 ≠ 0 ∨ tokenB (trimL ((trimL s).drop (wordN (trimL s)))) = false then (0, [], 80)
  else ((numV maxS ((trimL s).take (wordN (trimL s)))).1, trimL ((trimL s).drop (wordN (trimL s))), 0) := rfl
theorem eventV_of {s p0 : List UInt8} {ps : List (List UInt8)} (h : partsV 59 s = p0 :: ps) : eventV s = if tokenB (trimL p0) = false ∨ (fieldsV ps).2 ≠ 0 then (noE, 81) else (⟨trimL p0, (fieldsV ps).1⟩, 0) := by
  unfold eventV
  rw [h]; rfl
theorem valOf_val (ps : List Par) (nm : List UInt8) : valOf ps nm = (valV ps nm).1 := by
  unfold valOf valV
  cases findV ps nm <;> rfl
theorem evIs_val (a b : Ev) : evIs a b = (a.name == b.name && ((valV a.params idK).2 == (valV b.params idK).2 && (valV a.params idK).1 == (valV b.params idK).1)) := by
  unfold evIs valV
  cases findV a.params idK <;> cases findV b.params idK <;> rfl
theorem stateV_val (s : List UInt8) : stateV s = if (eventV s).2 ≠ 0 then (noS, 82)
  else if (valV (eventV s).1.params reasonK).1 ≠ [] ∧ tokenB (valV (eventV s).1.params reasonK).1 = false then (noS, 82)
  else if (valV (eventV s).1.params expiresK).2 = false then (⟨lowL (eventV s).1.name, -1, (valV (eventV s).1.params reasonK).1⟩, 0)
  else if (timeV (valV (eventV s).1.params expiresK).1).2 ≠ 0 then (noS, 82)
  else (⟨lowL (eventV s).1.name, (timeV (valV (eventV s).1.params expiresK).1).1, (valV (eventV s).1.params reasonK).1⟩, 0) := by
  unfold stateV
  rw [valOf_val]
  unfold valV
  cases findV (eventV s).1.params expiresK <;> simp
theorem evPrint_1 {v : Ev} (h : tokenB v.name = false) : evPrint v = ([], 81) := by rw [evPrint, if_neg]; simp [evB, h]
theorem evPrint_2 {v : Ev} (h : (textV v.params).2 ≠ 0) : evPrint v = ([], 81) := by
  rw [evPrint, if_neg]
  intro k
  obtain ⟨k1, k2, k3⟩ := ev_facts k
  exact h (by rw [text_good k2 k3])
theorem evPrint_3 {v : Ev} (h : tokenB v.name = true) (h2 : (textV v.params).2 = 0) : evPrint v = (v.name ++ (textV v.params).1, 0) := by
  have hm : v.params.length ≤ 16 ∧ mayGo [] v.params = true := by
    unfold textV at h2
    split at h2
    · simp at h2
    · split at h2
      · exact ⟨by omega, by assumption⟩
      · simp at h2
  rw [evPrint, if_pos (by simp [evB, h, hm.1, hm.2]), text_good hm.1 hm.2]; rfl
theorem text_small (ps : List Par) : (textV ps).1.length ≤ 4000 := by
  unfold textV
  split
  · simp
  · split
    · rename_i h1 h2
      have := parsA_small ps [] h2
      simp only; omega
    · simp
theorem ev_eq (a b : Ev) : decide (a = b) = (a.name == b.name && decide (a.params = b.params)) := by
  obtain ⟨d, p⟩ := a
  obtain ⟨d', p'⟩ := b
  rw [Bool.eq_iff_iff]; simp [Ev.mk.injEq]

end Go.Proofs.YtjbfdbccidhdfaaDoor
