/-
  Contracts: strings.Cut at the empty line, Split at lines' ends, HasPrefix, over lists; rows of texts.
-/
import Derived.Test.YtagopboofmjnfaaDoorFShelf
import Derived.Test.YtagopboofmjnfaaDoorFCutL
import Derived.Test.YtagopboofmjnfaaDoorFMsg
import Derived.Test.YtagopboofmjnfaaDoorFH
import Derived.Test.YtagopboofmjnfaaDoorFA
import Derived.Test.YtagopboofmjnfaaDoorFD
namespace Go.Proofs.YtagopboofmjnfaaDoor
open Go.RowKit Sc
set_option linter.unusedVariables false
set_option maxRecDepth 20000

/-- The library's variable that says how long a text the machine searches for at once: it holds a number. -/
def MaxAt (w : World) : Prop := 0 < w.heap.size ∧ ∃ m, w.cell? ⟨0, 0, none⟩ = some (.int .i64 m)
theorem MaxAt.below {w w' : World} (h : MaxAt w) (hb : Below w.heap.size w w') : MaxAt w' := by
  obtain ⟨m, hm⟩ := h.2
  exact ⟨Nat.lt_of_lt_of_le h.1 hb.size, m, cell_below hb h.1 hm⟩
theorem MaxAt.of {w : World} {m : Int} (hm : w.cell? ⟨0, 0, none⟩ = some (.int .i64 m)) : MaxAt w := ⟨World.block_lt_of_cell? _ _ hm, m, hm⟩
theorem cut4_of {s a b : List UInt8} {f : Bool} (h : Lib.cut s crlf4 = (a, b, f)) (w : World) (hm : MaxAt w) (hs : s.length ≤ 4096) :
    Calls Tryd.prog 39 #[.string ⟨s.toArray⟩, .string ⟨#[13, 10, 13, 10]⟩] w fun e w' => e = .returned (.tuple #[.string ⟨a.toArray⟩, .string ⟨b.toArray⟩, .bool f]) ∧ Below w.heap.size w w' := by
  obtain ⟨_, m, hm⟩ := hm
  have k := sh_Cut ⟨s.toArray⟩ ⟨#[13, 10, 13, 10]⟩ m w (by rw [size_list]; omega) hm
  have e : Lib.cut (⟨s.toArray⟩ : ByteArray).data.toList (⟨#[13, 10, 13, 10]⟩ : ByteArray).data.toList = (a, b, f) := h
  rw [e] at k
  refine k.mono ?_
  rintro e w' ⟨rfl, q, rfl⟩
  exact ⟨rfl, below_drewN w q⟩
theorem prefix2_of (s : List UInt8) (w : World) :
    Calls Tryd.prog 40 #[.string ⟨s.toArray⟩, .string ⟨#[13, 10]⟩] w fun e w' => e = .returned (.bool (List.isPrefixOf crlf s)) ∧ w' = w := sh_HasPrefix ⟨s.toArray⟩ ⟨#[13, 10]⟩ w
/-- A row of texts. -/
def TxtsAt (w : World) (a : Addr) (ps : List (List UInt8)) : Prop := ∀ j (hj : j < ps.length), a.block < w.heap.size ∧ w.cell? (a.add j) = some (.string ⟨(ps[j]).toArray⟩)
theorem TxtsAt.below {w w' : World} {a : Addr} {ps : List (List UInt8)} (h : TxtsAt w a ps) (hb : Below w.heap.size w w') : TxtsAt w' a ps :=
  fun j hj => ⟨Nat.lt_of_lt_of_le (h j hj).1 hb.size, cell_below hb (by rw [add_block]; exact (h j hj).1) (h j hj).2⟩
theorem row_txts {w : World} {g : Nat} {e : TypeId} {ps : List (List UInt8)} (h : RowIs w g e (strs ps)) : TxtsAt w ⟨g, 0, none⟩ ps := fun j hj => by
  refine ⟨(Array.getElem?_eq_some_iff.1 h).1, ?_⟩
  rw [add_at, Nat.zero_add, h.cell j (by rw [strs_length]; exact hj)]
  simp [strs]
theorem split_strs (l : List UInt8) : (Lib.splitB ⟨#[13, 10]⟩ 0 (Lib.countB ⟨l.toArray⟩ ⟨#[13, 10]⟩) ⟨l.toArray⟩).map Value.string = strs (Lib.split l crlf) := by
  have h := Lib.splitB_data ⟨#[13, 10]⟩ 0 (Lib.countB ⟨l.toArray⟩ ⟨#[13, 10]⟩) ⟨l.toArray⟩
  have e : Lib.split l crlf = Lib.splitK (⟨#[13, 10]⟩ : ByteArray).data.toList 0 (Lib.countB ⟨l.toArray⟩ ⟨#[13, 10]⟩) (⟨l.toArray⟩ : ByteArray).data.toList := rfl
  rw [e, ← h]
  unfold strs
  rw [List.map_map]
  apply List.map_congr_left
  intro b _
  simp
theorem split2_of (l : List UInt8) (w : World) (hm : MaxAt w) (hs : l.length ≤ 4096) :
    Calls Tryd.prog 42 #[.string ⟨l.toArray⟩, .string ⟨#[13, 10]⟩] w fun e w' => ∃ a : Addr, e = .returned (.slice (some a) (Lib.split l crlf).length (Lib.split l crlf).length) ∧ TxtsAt w' a (Lib.split l crlf) ∧ Below w.heap.size w w' := by
  obtain ⟨_, m, hm⟩ := hm
  have k := sh_Split ⟨l.toArray⟩ ⟨#[13, 10]⟩ m w (by rw [size_list]; omega) hm (by decide)
  rw [split_strs] at k
  have hn : Lib.countB ⟨l.toArray⟩ ⟨#[13, 10]⟩ + 1 = (Lib.split l crlf).length := by
    have h1 := congrArg List.length (split_strs l)
    rw [List.length_map, strs_length] at h1
    rw [← h1, Lib.splitB_all ⟨#[13, 10]⟩ (by decide) 0 _ ⟨l.toArray⟩ rfl]
  rw [hn] at k
  refine k.mono ?_
  rintro e w' ⟨rfl, rfl⟩
  exact ⟨_, rfl, row_txts (e := 9) (by unfold RowIs; rw [heap_alloc_new]), (Below.refl _ _).alloc (Nat.le_refl _) _⟩
theorem cutS_of {r a b : List UInt8} {f : Bool} {c : UInt8} (h : cutL c r = (a, b, f)) (w : World) (hs : r.length ≤ 9223372036854775807) :
    Calls Tryd.prog 39 #[.string ⟨r.toArray⟩, .string ⟨#[c]⟩] w fun e w' => e = .returned (.tuple #[.string ⟨a.toArray⟩, .string ⟨b.toArray⟩, .bool f]) ∧ Below w.heap.size w w' := by
  have k := strCut_any ⟨r.toArray⟩ c w (by rw [size_list]; exact hs)
  have e : cutL c (⟨r.toArray⟩ : ByteArray).data.toList = (a, b, f) := h
  rw [e] at k
  refine k.mono ?_
  rintro e w' ⟨rfl, q, rfl⟩
  exact ⟨rfl, below_drewN w q⟩
theorem same_list (a b : List UInt8) (w : World) (ha : a.length ≤ 140737488355328) (hb : b.length ≤ 140737488355328) :
    Calls Tryd.prog 69 #[.string ⟨a.toArray⟩, .string ⟨b.toArray⟩] w fun e w' => e = .returned (.bool (sameB a b)) ∧ Below w.heap.size w w' :=
  same_any ⟨a.toArray⟩ ⟨b.toArray⟩ w (by rw [size_list]; omega) (by rw [size_list]; omega)
theorem clone_list (l : List UInt8) (w : World) (h : l.length ≤ 140737488355328) :
    Calls Tryd.prog 37 #[.string ⟨l.toArray⟩] w fun e w' => e = .returned (.string ⟨l.toArray⟩) ∧ Below w.heap.size w w' := sclone_any ⟨l.toArray⟩ w (by rw [size_list]; omega)
theorem num_list (l : List UInt8) (most : Int) (w : World) (h : l.length ≤ 140737488355328) (h0 : 0 ≤ most) (h1 : most ≤ 1000000) :
    Calls Tryd.prog 72 #[.string ⟨l.toArray⟩, .int .i64 most] w fun e w' => e = .returned (.tuple #[.int .i64 (numV most l).1, .int .i64 (numV most l).2]) ∧ w' = w := number_any ⟨l.toArray⟩ most w (by rw [size_list]; unfold maxLen; omega) (by omega) (by omega)
theorem refnum_list (l : List UInt8) (most : Int) (w : World) (h : l.length ≤ 140737488355328) (h0 : 0 ≤ most) (h1 : most ≤ 1000000) :
    Calls Tryd.prog 51 #[.string ⟨l.toArray⟩, .int .i64 most] w fun e w' => e = .returned (.tuple #[.int .i64 (numV most l).1, .int .i64 (numV most l).2]) ∧ w' = w := refnumber_any ⟨l.toArray⟩ most w (by rw [size_list]; unfold maxLen; omega) (by omega) (by omega)

end Go.Proofs.YtagopboofmjnfaaDoor
