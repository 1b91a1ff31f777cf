/-
  The contract of strings.ContainsAny where the signs are ? , and the quote.
-/
import Derived.Test.YtgboekilhldejaaGreatDoorAAny2
import Derived.WalkMore
namespace Go.Proofs.YtgboekilhldejaaGreatDoor
open Go.RowKit Sc
set_option linter.unusedVariables false
set_option maxRecDepth 20000

theorem three_cases : ∀ (r : List UInt8), 1 ≤ r.length → r.length ≤ 3 → (∃ x, r = [x]) ∨ (∃ x y, r = [x, y]) ∨ (∃ x y z, r = [x, y, z])
  | [], h, _ => by simp at h
  | [x], _, _ => Or.inl ⟨x, rfl⟩
  | [x, y], _, _ => Or.inr (Or.inl ⟨x, y, rfl⟩)
  | [x, y, z], _, _ => Or.inr (Or.inr ⟨x, y, z, rfl⟩)
  | _ :: _ :: _ :: _ :: _, _, h => by simp at h

set_option maxHeartbeats 1000000 in
set_option maxRecDepth 1000000 in
theorem indexRune_high (c : Nat) (w : World) (h : 128 ≤ c) (hc : c ≤ 2147483647) :
    Calls Tryz.prog 136 #[.string ⟨#[63, 44, 34]⟩, .int .i32 c] w fun e w' => e = .returned (.int .i64 (-1)) ∧ Below w.heap.size w w' := by
  by_cases he : c = 65533
  · subst he; exact indexRune_err w
  have e1 : ((c : Int) == 65533) = false := by simp; omega
  have h0 : (0 : Int) ≤ (c : Int) := by omega
  have h1 : ¬ ((c : Int) < 128) := by omega
  have KV := hid (validRune_any c w)
  obtain ⟨r, b, hen, hr1, hr2, hbb⟩ := encode_high h
  have HE := hid hen
  clear hen he
  have hw1 : IntKind.i64.wrap ((1 : Int) + 1) = 2 := by decide
  have hw2 : IntKind.i64.wrap ((2 : Int) + 1) = 3 := by decide
  have hw3 : IntKind.i64.wrap (2 : Int) = 2 := by decide
  have hw4 : IntKind.i64.wrap (3 : Int) = 3 := by decide
  have hb44 : ((44 : Int) != (b.toNat : Int)) = true := by simp; omega
  have hb34 : ((34 : Int) != (b.toNat : Int)) = true := by simp; omega
  obtain ⟨k1, k2⟩ := any_tail b hbb
  go_enter Tryz.func136, Tryz.ntmps136
  go_wp2_with fail
  refine KV.out.mono ?_
  rintro e w1 ⟨⟨vb, rfl⟩, rfl⟩
  cases vb with
  | false =>
    go_wp2
    go_ret
    exact ⟨rfl, Below.refl _ _⟩
  | true =>
    have hcase := three_cases r hr1 hr2
    rcases hcase with ⟨x, rfl⟩ | ⟨x, y, rfl⟩ | ⟨x, y, z, rfl⟩
    · have hen : Utf8.encode (c : Int) = ⟨#[x, b]⟩ := HE.out
      have hq1 : ((((⟨#[63, 44, 34]⟩ : ByteArray)[1]'(by decide)).toNat : Int) != (((⟨#[x, b]⟩ : ByteArray)[1]'(show (1 : Nat) < 2 by decide)).toNat : Int)) = true := hb44
      have hq2 : Lib.indexByte ((⟨#[63, 44, 34]⟩ : ByteArray).extract 2 3).data.toList ((⟨#[x, b]⟩ : ByteArray)[1]'(show (1 : Nat) < 2 by decide)) = -1 := k1
      go_wp2
      go_step3
      go_wp2
      go_loopg [9, 10] 0 (fun g p q wx => p = .int .i64 1 ∧ wx = w1)
      case atStart => exact ⟨rfl, rfl⟩
      case round =>
        obtain ⟨rfl, rfl⟩ := hrel
        go_wp2
        go_step3
        go_wp2
        go_quiet (fail)
        have hbq := below_drewN wr nq
        generalize wr.drewN nq = wq at hbq ⊢
        go_wp2
        go_quiet (first | (go_at_call 121; exact Calls.quiet_of_same (strIndexByte_any _ _ _)))
        have hbq2 := hbq.trans ((below_drewN wq nq).mono hbq.size)
        generalize wq.drewN nq = wq2 at hbq2 ⊢
        rw [hq2]
        go_wp2
        rw [Exit.noGoto_ret]
        try simp only [Exit.inBlock, Exit.then]
        rw [Exit.noGoto_ret]
        try simp only [Exit.inBlock]
        go_ret
        exact ⟨rfl, hbq2⟩
    · have hen : Utf8.encode (c : Int) = ⟨#[x, y, b]⟩ := HE.out
      have hq1 : ((((⟨#[63, 44, 34]⟩ : ByteArray)[2]'(by decide)).toNat : Int) != (((⟨#[x, y, b]⟩ : ByteArray)[2]'(show (2 : Nat) < 3 by decide)).toNat : Int)) = true := hb34
      have hq2 : Lib.indexByte ByteArray.empty.data.toList ((⟨#[x, y, b]⟩ : ByteArray)[2]'(show (2 : Nat) < 3 by decide)) = -1 := k2
      go_wp2
      go_step3
      go_wp2
      go_loopg [9, 10] 0 (fun g p q wx => p = .int .i64 2 ∧ wx = w1)
      case atStart => exact ⟨rfl, rfl⟩
      case round =>
        obtain ⟨rfl, rfl⟩ := hrel
        go_wp2
        go_step3
        go_wp2
        go_quiet (fail)
        have hbq := below_drewN wr nq
        generalize wr.drewN nq = wq at hbq ⊢
        go_wp2
        go_quiet (first | (go_at_call 121; exact Calls.quiet_of_same (strIndexByte_any _ _ _)))
        have hbq2 := hbq.trans ((below_drewN wq nq).mono hbq.size)
        generalize wq.drewN nq = wq2 at hbq2 ⊢
        rw [hq2]
        go_wp2
        rw [Exit.noGoto_ret]
        try simp only [Exit.inBlock, Exit.then]
        rw [Exit.noGoto_ret]
        try simp only [Exit.inBlock]
        go_ret
        exact ⟨rfl, hbq2⟩
    · have hen : Utf8.encode (c : Int) = ⟨#[x, y, z, b]⟩ := HE.out
      go_wp2
      go_step3
      go_wp2
      go_loopg [9, 10] 0 (fun g p q wx => p = .int .i64 3 ∧ wx = w1)
      case atStart => exact ⟨rfl, rfl⟩
      case round =>
        obtain ⟨rfl, rfl⟩ := hrel
        go_wp2
        rw [Exit.noGoto_ret]
        try simp only [Exit.inBlock]
        go_ret
        exact ⟨rfl, Below.refl _ _⟩

end Go.Proofs.YtgboekilhldejaaGreatDoor
