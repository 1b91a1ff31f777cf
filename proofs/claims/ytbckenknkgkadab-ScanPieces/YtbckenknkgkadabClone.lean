/-
  The contracts of strings.Clone and of piece.
-/
import Derived.Test.YtbckenknkgkadabTexts
import Derived.Lib.BufferWrite
import Derived.Laws.MakeOwn
import Derived.Laws.CopyOwn
namespace Go.Proofs.Ytbckenknkgkadab
open Go.RowKit Sc
set_option linter.unusedVariables false

/-- copy(b, s) over a whole row of the call's own -/
theorem wp_copy_str {P : Program} {w : World} {ops : Array Oper} {rest : List Oper} {o : Oper} {a : Act} {Q : Exit → Act → World → Prop} (hgd : o.guard = none) (d x : Operand) (dT sT : TypeId)
    (ho : o.op = .call { callee := .builtin .copy, args := #[d, x], argTypes := #[dT, sT] }) (elem : TypeId) (hu : P.underlying dT = some (.slice elem)) (hsz : (P.info? elem).map (·.size) = some 1)
    (g dCap : Nat) (s : ByteArray) (hd : a.eval d = .slice (some ⟨g, 0, none⟩) s.size dCap) (hs : a.eval x = .string s)
    (cur : Array Value) (t : TypeId) (hg : w.heap[g]? = some (.cells cur t (0, 0))) (hfit : cur.size = s.size) (B : Nat) (w0 : World) (hb : Below B w0 w) (hB : B ≤ g)
    (h : ∀ w', Hid (w'.heap[g]? = some (.cells (Lib.byteCells s.data.toList).toArray t (0, 0))) → Below B w0 w' → wpList P ops Q rest (a.put o.dst (goInt s.size)) w') : wpList P ops Q (o :: rest) a w := by
  refine wpList_plain hgd fun K hK => ?_
  have hrun := Lib.run_copy_row_string (P := P) w dT sT o.type elem g 0 s.size dCap s cur t hu hsz hg (Nat.le_refl _) (by omega)
  have hrow : (cur.toList.take 0 ++ Lib.byteCells s.data.toList ++ cur.toList.drop (0 + s.size)).toArray = (Lib.byteCells s.data.toList).toArray := by
    rw [List.drop_of_length_le (by rw [Array.length_toList]; omega)]; simp
  rw [hrow] at hrun
  unfold Oper.wp
  simp [execOp, ho, resolve, invoke, builtin, hd, hs, hrun, Result.andThen]
  exact hK _ _ (h _ (setRow_heap w g cur _ t (0, 0) hg) (below_setRow hb hB _))

/-- a text laid over a whole row of bytes -/
theorem wp_str_of_row {P : Program} {w : World} {ops : Array Oper} {rest : List Oper} {o : Oper} {a : Act} {Q : Exit → Act → World → Prop} (hgd : o.guard = none) (p n : Operand) (pt it : TypeId)
    (ho : o.op = .call { callee := .builtin .unsafeString, args := #[p, n], argTypes := #[pt, it] }) (e : TypeId) (hp : P.underlying pt = some (.pointer e)) (hc : P.cellsOf e = 1)
    (g : Nat) (l : List UInt8) (h0 : l ≠ []) (h63 : l.length ≤ 9223372036854775807) (hpv : a.eval p = .pointer (some ⟨g, 0, none⟩)) (m : Int) (hnv : a.eval n = .int .i64 m) (hm : m = l.length)
    (hg : Hid (w.heap[g]? = some (.cells (Lib.byteCells l).toArray e (0, 0)))) (B : Nat) (w0 : World) (hb : Below B w0 w) (hB : B ≤ g)
    (h : ∀ w', Below B w0 w' → wpList P ops Q rest (a.put o.dst (.string ⟨l.toArray⟩)) w') : wpList P ops Q (o :: rest) a w := by
  subst hm
  refine wpList_plain hgd fun K hK => ?_
  have hg' := hg.out
  have hsh : w.shape? g = some (e, l.length) := by simp [World.shape?, hg', Lib.byteCells_length]
  have hrun := Lib.run_unsafeString_row (P := P) w pt it o.type e hp hc g l.length hsh l h0 (Nat.le_refl _) h63 (fun j x hj => by
    have hj' : j < l.length := (List.getElem?_eq_some_iff.1 hj).1
    by_cases e0 : j = 0
    · subst e0; simp [World.cell?, Addr.add, hg', Lib.byteCells, hj]
    · simp [World.cell?, Addr.add, e0, hg', Lib.byteCells, hj])
  unfold Oper.wp
  simp [execOp, ho, resolve, invoke, builtin, hpv, hnv, hrun, Result.andThen]
  exact hK _ _ (h _ (Lib.below_freeze hb hB _))

theorem ret_back (s : ByteArray) : Ending.returned (.string ⟨s.data.toList.toArray⟩) = .returned (.string s) := by
  have h : (⟨s.data.toList.toArray⟩ : ByteArray) = s := by apply ByteArray.ext; simp
  rw [h]
theorem bytesz5 : (Try.prog.info? 5).map (·.size) = some 1 := by kernel_rfl
theorem cells5 : Try.prog.cellsOf 5 = 1 := by kernel_rfl

set_option maxHeartbeats 400000 in
theorem clone_any (s : ByteArray) (w : World) (hs : s.size ≤ 281474976710656) :
    Calls Try.prog 29 #[.string s] w fun e w' => e = .returned (.string s) ∧ Below w.heap.size w w' := by
  obtain ⟨i0, hi, hz0, hz1, hz2⟩ := info_parts info5
  by_cases h0 : s.size = 0
  · have he : s = ⟨#[]⟩ := by
      have : s.data.toList = [] := List.eq_nil_of_length_eq_zero (by rw [len_data, h0])
      apply ByteArray.ext; apply Array.toList_inj.1; rw [this]
    subst he
    go_enter Try.func29, Try.ntmps29
    go_wp2
    go_ret
    exact ⟨rfl, Below.refl _ _⟩
  · have hmk : ∀ u : World, (Instr.makeSlice 36 (.int .i64 (s.size : Int)) (.int .i64 (s.size : Int))).run Try.prog u =
        .ok (.slice (some ⟨u.heap.size, 0, none⟩) s.size s.size) (u.alloc (.cells (madeCells #[.int .u8 0] s.size) 5)) := fun u => by
      have h := run_make (P := Try.prog) u 36 5 i0 (.int .u8 0) Try.underlying36 hi hz0 .i64 .i64 (s.size : Int) (s.size : Int) (by omega) (Int.le_refl _) (by rw [hz2]; omega) (by omega)
      simpa [hz1, Value.cells] using h
    have hne : ((s.size : Int) == 0) = false := by simpa using h0
    have hl := data_ne (s := s) (by omega)
    have hpos : (0 : Int) < (s.size : Int) := by omega
    have HL : Hid _ := hl; clear hl
    go_enter Try.func29, Try.ntmps29
    go_wp2_with (first
      | (refine wp_copy_str rfl (.tmp 10) (.tmp 11) 36 9 rfl 5 Try.underlying36 bytesz5 w.heap.size s.size s rfl rfl _ 5 (heap_alloc_new w _) (size_madeCells _ _) w.heap.size w ((Below.refl _ _).alloc (Nat.le_refl _) _) (Nat.le_refl _) ?_; intro w2 hg2 hb2)
      | (refine wp_str_of_row rfl (.tmp 14) (.tmp 16) 51 3 rfl 5 Try.underlying51 cells5 w.heap.size s.data.toList HL.out (by rw [len_data]; omega) rfl _ rfl (by rw [len_data]) hg2 w.heap.size w hb2 (Nat.le_refl _) ?_; intro w3 hb3))
    go_ret
    exact ⟨ret_back s, hb3⟩

set_option maxHeartbeats 400000 in
theorem sclone_any (s : ByteArray) (w : World) (hs : s.size ≤ 281474976710656) :
    Calls Try.prog 26 #[.string s] w fun e w' => e = .returned (.string s) ∧ Below w.heap.size w w' := by
  go_enter Try.func26, Try.ntmps26
  go_wp2_with (go_at_call 29; refine (clone_any _ _ hs).mono ?_; rintro e w' ⟨rfl, hb⟩)
  go_ret
  exact ⟨rfl, hb⟩

theorem ext_list (s : ByteArray) (a b : Nat) : s.extract a b = ⟨((s.data.toList.drop a).take (b - a)).toArray⟩ := by
  have h := ByteArray.extract_mk s.data.toList a b
  have h' : (⟨s.data.toList.toArray⟩ : ByteArray) = s := by apply ByteArray.ext; simp
  rw [h'] at h
  exact h

set_option maxHeartbeats 400000 in
theorem piece_any (s : ByteArray) (a b : Nat) (w : World) (hs : s.size ≤ 281474976710656) (hab : a ≤ b) (hb : b ≤ s.size) :
    Calls Try.prog 19 #[.string s, .int .i64 a, .int .i64 b] w fun e w' => e = .returned (.string (s.extract a b)) ∧ Below w.heap.size w w' := by
  have hsz : (s.extract a b).size ≤ 281474976710656 := by rw [ByteArray.size_extract]; omega
  go_enter Try.func19, Try.ntmps19
  go_wp2_with (go_at_call 26; refine (sclone_any _ _ hsz).mono ?_; rintro e w' ⟨rfl, hb⟩)
  go_ret
  exact ⟨rfl, by assumption⟩

end Go.Proofs.Ytbckenknkgkadab
