/-
  Bytes that come in, opened; the text of them.
-/
import Derived.Test.YtagopboofmjnfaaDoorFA
import Derived.Test.YtagopboofmjnfaaDoorFF
import Derived.OpenShut
namespace Go.Proofs.YtagopboofmjnfaaDoor
open Go.RowKit Go.ChangeShapes Go.WideShapes Go.Deep
set_option linter.unusedVariables false
set_option maxRecDepth 20000

/-- The slice v holds the bytes l. -/
def BytesAt (w : World) (v : Value) (l : List UInt8) : Prop :=
  (v = .slice none 0 0 ∧ l = []) ∨ ∃ (a : Addr) (cap : Nat), v = .slice (some a) l.length cap ∧ l.length ≤ cap ∧ ∀ k (hk : k < l.length), a.block < w.heap.size ∧ w.cell? (a.add k) = some (.int .u8 l[k].toNat)
theorem BytesAt.below {w w' : World} {v : Value} {l : List UInt8} (h : BytesAt w v l) (hb : Below w.heap.size w w') : BytesAt w' v l := by
  rcases h with h | ⟨a, cap, hv, hk, hc⟩
  · exact Or.inl h
  · exact Or.inr ⟨a, cap, hv, hk, fun k hk => ⟨Nat.lt_of_lt_of_le (hc k hk).1 hb.size, cell_below hb (by rw [add_block]; exact (hc k hk).1) (hc k hk).2⟩⟩
theorem BytesAt.form {w : World} {v : Value} {l : List UInt8} (h : BytesAt w v l) : ∃ a cap, v = .slice a l.length cap := by
  rcases h with ⟨rfl, rfl⟩ | ⟨a, cap, rfl, _, _⟩
  · exact ⟨none, 0, rfl⟩
  · exact ⟨_, cap, rfl⟩
/-- string(b) of bytes that came in. -/
theorem conv_bytes {w : World} {v : Value} {l : List UInt8} (h : BytesAt w v l) : (convert 36 9 v).run Tryd.prog w = .ok (.string ⟨l.toArray⟩) w := by
  rcases h with ⟨rfl, rfl⟩ | ⟨a, cap, rfl, _, hc⟩
  · exact run_convert_bytes_nil w _ _ Tryd.underlying36 Tryd.underlying5 0 0 _ Tryd.underlying9
  · exact run_convert_bytes_back w _ _ _ a cap l Tryd.underlying36 Tryd.underlying5 Tryd.underlying9 fun j hj => (hc j hj).2
theorem cellsByte : Tryd.prog.cellsOf 5 = 1 := by kernel_rfl
theorem bytesU8 : Tryd.prog.bytesOf 5 = 1 := by kernel_rfl
def BytesIn (B : Nat) (W : World) (v : Value) : Prop := ∃ l : List UInt8, BytesAt W v l ∧ l.length ≤ B

section
variable {H : Type} {enc : TypeId × Value → H} {W : World} {sp : Nat → Bool}

theorem open_bytes {fuel : Nat} {cs : List Value} {x : DataW H × List MemPlace} (h : DataW.trod enc Tryd.prog W 0 sp true fuel 36 cs = some x) :
    ∃ (v : Value) (l : List UInt8), cs = [v] ∧ BytesAt W v l ∧ ((x.1 = .nil ∧ l = []) ∨ ∃ ds sp, x.1 = .slice ds sp ∧ ds.length = l.length) := by
  rcases open_slice Tryd.underlying36 h with ⟨rfl, rfl⟩ | ⟨a, len, cap, m, n, D, Pl, rfl, _, hlc, hcm, hm, rfl, hall⟩
  · exact ⟨_, [], rfl, Or.inl ⟨rfl, rfl⟩, Or.inl ⟨rfl, rfl⟩⟩
  · have hlm : len ≤ m := by rw [hm]; split <;> omega
    have each : ∀ i, i < len → ∃ b : UInt8, True ∧ (a.block < W.heap.size ∧ W.cell? (a.add i) = some (.int .u8 b.toNat)) := by
      intro i hi
      obtain ⟨cs', h1, h2⟩ := hall i (by omega)
      obtain ⟨z, rfl, hd, hw⟩ := DataW.trod_int Tryd.underlying5 h2
      rw [cellsByte] at h1
      obtain ⟨_, _, hc⟩ := World.cells?_some h1
      have c0 := hc 0 (by omega)
      have hz : 0 ≤ z ∧ z ≤ 255 := bounds_u8 hw
      have hc0 : W.cell? (a.add i) = some (.int .u8 (UInt8.ofNat z.toNat).toNat) := by
        have e : ((UInt8.ofNat z.toNat).toNat : Int) = z := by
          rw [UInt8.toNat_ofNat_of_lt' (by simp [UInt8.size]; omega)]; omega
        rw [e]; simpa [Addr.add] using c0
      refine ⟨UInt8.ofNat z.toNat, trivial, ?_, hc0⟩
      have : (a.add i).block < W.heap.size := by
        unfold World.cell? at hc0
        cases hh : W.heap[(a.add i).block]? with
        | none => simp [hh] at hc0
        | some o => exact (Array.getElem?_eq_some_iff.1 hh).1
      rwa [add_block] at this
    obtain ⟨f, hf⟩ := @choose_lt UInt8 ⟨0⟩ len _ each
    refine ⟨_, (List.range len).map f, rfl, Or.inr ⟨a, cap, by simp, by simpa using hlc, fun k hk => ?_⟩, Or.inr ⟨_, _, rfl, by simp⟩⟩
    simp at hk
    simpa using (hf k hk).2
theorem bytes_said {B : Nat} {r : Reach} {b0 : Nat} {v : Value} {d : DataW H} {p : List MemPlace} (hv : Value.okWide Tryd.prog W r b0 36 v) (h : DataW.Trod enc Tryd.prog W 0 sp true 36 v d p)
    (hz : ∀ n ∈ d.weights Tryd.prog 36, n ≤ B) : BytesIn B W v := by
  obtain ⟨a, len, cap, rfl⟩ := okWide_slice Tryd.underlying36 hv
  obtain ⟨fuel, hf0⟩ := h
  obtain ⟨v', l, hc, hat, hd⟩ := open_bytes hf0
  simp [Value.cells] at hc
  subst hc
  refine ⟨l, hat, ?_⟩
  rcases hd with ⟨_, rfl⟩ | ⟨ds, sp, hd, hl⟩
  · simp
  · simp only at hd
    subst hd
    simp only [DataW.weights, Tryd.underlying36, bytesU8] at hz
    have := hz _ (List.mem_cons_self ..)
    simp at this; omega
theorem bulk_len : ∀ ds : List (DataW H), ds.length ≤ Rows.uptoBulkAll ds
  | [] => by simp
  | d :: ds => by
    have h1 := bulk_len ds
    have h2 : 1 ≤ Rows.uptoBulk d := by unfold Rows.uptoBulk; split <;> omega
    simp only [Rows.uptoBulkAll, List.length_cons]; omega
theorem bytes_upto {B : Nat} {r : Reach} {b0 : Nat} {v : Value} {d : DataW H} {p : List MemPlace} (hv : Value.okWide Tryd.prog W r b0 36 v) (h : DataW.Trod enc Tryd.prog W 0 sp true 36 v d p)
    (hz : Rows.uptoBulk d ≤ B) : BytesIn B W v := by
  obtain ⟨a, len, cap, rfl⟩ := okWide_slice Tryd.underlying36 hv
  obtain ⟨fuel, hf0⟩ := h
  obtain ⟨v', l, hc, hat, hd⟩ := open_bytes hf0
  simp [Value.cells] at hc
  subst hc
  refine ⟨l, hat, ?_⟩
  rcases hd with ⟨_, rfl⟩ | ⟨ds, sp, hd, hl⟩
  · simp
  · simp only at hd
    subst hd
    simp only [Rows.uptoBulk] at hz
    have := bulk_len ds
    omega

end
end Go.Proofs.YtagopboofmjnfaaDoor
