/-
  Parsing an address by its pieces. Plain facts.
-/
import Derived.Test.YtgboekilhldejaaGreatDoorACutAll
namespace Go.Proofs.YtgboekilhldejaaGreatDoor
open Go.RowKit Sc
set_option linter.unusedVariables false
set_option maxRecDepth 20000

theorem disp_name (l : List UInt8) : nameR (trimL l) = match displayV l with | some d => (d, decide (d.length ≤ 64)) | none => ((nameR (trimL l)).1, false) := by
  unfold displayV nameR wordsR
  generalize trimL l = t
  have e : (fun b => blk b || tokc b) = okD := rfl
  rw [e]
  cases quoB t with
  | true =>
    simp only [if_true]
    by_cases h : (unquoteV t).2 = 0
    · rw [if_pos h, h]; simp; omega
    · rw [if_neg h]
      have : ((unquoteV t).2 == 0) = false := by simpa using h
      rw [this]; rfl
  | false =>
    simp only [Bool.false_eq_true, if_false]
    cases t.all okD <;> simp
theorem dropW_nil {p : UInt8 → Bool} : ∀ {l : List UInt8}, l.dropWhile p = [] ↔ ∀ b ∈ l, p b = true
  | [] => by simp
  | b :: r => by
    rw [List.dropWhile_cons]
    cases h : p b with
    | true => rw [if_pos rfl, dropW_nil]; simp [h]
    | false => rw [if_neg (by simp)]; simp [h]
theorem takeW_mem {p : UInt8 → Bool} : ∀ {l : List UInt8} {b : UInt8}, b ∈ l.takeWhile p → p b = true
  | [], b, h => by simp at h
  | x :: r, b, h => by
    rw [List.takeWhile_cons] at h
    cases hx : p x with
    | true =>
      rw [hx, if_pos rfl] at h
      rcases List.mem_cons.1 h with rfl | h
      · exact hx
      · exact takeW_mem h
    | false => rw [hx, if_neg (by simp)] at h; simp at h
theorem trim_nil (l : List UInt8) : (trimL l = []) ↔ allB 32 l = true := by
  unfold allB
  have e : (fun b : UInt8 => isB b.toNat 32) = blk := rfl
  rw [e]
  unfold trimL
  constructor
  · intro h
    rw [List.reverse_eq_nil_iff] at h
    replace h := dropW_nil.1 h
    rw [List.all_eq_true]
    intro b hb
    by_cases hd : b ∈ l.dropWhile blk
    · exact h b (by simpa using hd)
    · have := List.takeWhile_append_dropWhile (p := blk) (l := l)
      rw [← this] at hb
      rcases List.mem_append.1 hb with h1 | h1
      · exact takeW_mem h1
      · exact absurd h1 hd
  · intro h
    rw [List.all_eq_true] at h
    have : l.dropWhile blk = [] := dropW_nil.2 h
    rw [this]; rfl

theorem parseT_cut (s : List UInt8) : parseT s = if (cutR s).2 = true then tailV (cutR s).1.d (cutR s).1.u (cutR s).1.r else (noA, 50) := by
  unfold parseT cutR
  cases ho : openV false s with
  | some k =>
    obtain ⟨hk, h60⟩ := openV_lt _ s false k (Nat.le_refl _) ho
    have hd : s.drop k = 60 :: s.drop (k + 1) := by
      rw [List.drop_eq_getElem_cons hk]
      rw [List.getElem?_eq_getElem hk, Option.some.injEq] at h60
      rw [h60]
    have hh : hasL 62 (s.drop k) = (cutL 62 (s.drop (k + 1))).2.2 := by
      rw [hd, cutL_has]; simp [hasL]
    simp only
    rw [hh]
    unfold angR
    have hn := disp_name (s.take k)
    cases hdv : displayV (s.take k) with
    | none =>
      rw [hdv] at hn
      simp only at hn
      have h2 : (nameR (trimL (s.take k))).2 = false := by rw [hn]
      rw [h2]; simp
    | some d =>
      rw [hdv] at hn
      simp only at hn
      rw [hn]
      simp only
      by_cases h64 : d.length ≤ 64
      · simp only [decide_eq_true h64, if_true]
        cases (cutL 62 (s.drop (k + 1))).2.2 with
        | true => rw [if_neg (by simp; omega)]; simp
        | false => rw [if_pos (Or.inr rfl)]; simp
      · rw [if_pos (Or.inl (by omega)), decide_eq_false h64]; simp
  | none =>
    simp only
    have hp : (plainR s).1.u = trimL (plainV s).1 ∧ (plainR s).1.r = (plainV s).2 := by
      unfold plainR plainV
      rw [← cutL_has]
      cases hc : (cutL 59 s).2.2 with
      | true => simp
      | false => rw [cutL_not 59 s hc]; simp
    have hd : (plainR s).1.d = [] := rfl
    have hb : (plainR s).2 = !anyB (trimL (plainV s).1) := by rw [← hp.1]; rfl
    rw [hd, hp.1, hp.2, hb]
    unfold anyB
    cases hasL 63 (trimL (plainV s).1) <;> cases hasL 44 (trimL (plainV s).1) <;> cases hasL 34 (trimL (plainV s).1) <;> simp

end Go.Proofs.YtgboekilhldejaaGreatDoor
