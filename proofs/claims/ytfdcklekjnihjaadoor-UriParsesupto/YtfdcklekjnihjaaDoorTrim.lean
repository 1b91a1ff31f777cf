/-
  Contracts of Trim and Same, and of the document's own.
-/
import Derived.Test.YtfdcklekjnihjaaDoorLower
import Derived.Test.YtfdcklekjnihjaaDoorParts
namespace Go.Proofs.YtfdcklekjnihjaaDoor
open Go.RowKit Sc
set_option linter.unusedVariables false
set_option maxRecDepth 20000

def blk (b : UInt8) : Bool := isB b.toNat 32
def trimL (l : List UInt8) : List UInt8 := ((l.dropWhile blk).reverse.dropWhile blk).reverse

theorem blk_cls (b : UInt8) : blk b = (cls b.toNat == 32) := by
  have h : ∀ n : Fin 256, isB (n.val : Int) 32 = (cls (n.val : Int) == 32) := by decide +kernel
  exact h ⟨b.toNat, b.toNat_lt⟩

theorem front_step {s : ByteArray} {k : Nat} (hk : k < s.size) (hb : blk s[k] = true) : (s.data.toList.drop k).dropWhile blk = (s.data.toList.drop (k + 1)).dropWhile blk := by
  rw [drop_cons s k hk, List.dropWhile_cons, if_pos hb]
theorem front_stop {s : ByteArray} {k : Nat} (hk : k < s.size) (hb : blk s[k] = false) : (s.data.toList.drop k).dropWhile blk = s.data.toList.drop k := by
  rw [drop_cons s k hk, List.dropWhile_cons, if_neg (by simp [hb])]
theorem mid_pop {s : ByteArray} {k t : Nat} (hkt : k < t) (ht : t ≤ s.size) : mid s.data.toList k t = mid s.data.toList k (t - 1) ++ [s[t - 1]] := by
  have h := mid_snoc s k (t - 1) (by omega) (by omega)
  rw [show t - 1 + 1 = t by omega] at h
  exact h
theorem back_step {s : ByteArray} {k t : Nat} (hkt : k < t) (ht : t ≤ s.size) (hb : blk s[t - 1] = true) :
    (mid s.data.toList k t).reverse.dropWhile blk = (mid s.data.toList k (t - 1)).reverse.dropWhile blk := by
  rw [mid_pop hkt ht, List.reverse_append, List.reverse_cons, List.reverse_nil, List.nil_append, List.singleton_append, List.dropWhile_cons, if_pos hb]
theorem back_stop {s : ByteArray} {k t : Nat} (hkt : k < t) (ht : t ≤ s.size) (hb : blk s[t - 1] = false) :
    (mid s.data.toList k t).reverse.dropWhile blk = (mid s.data.toList k t).reverse := by
  rw [mid_pop hkt ht, List.reverse_append, List.reverse_cons, List.reverse_nil, List.nil_append, List.singleton_append, List.dropWhile_cons, if_neg (by simp [hb])]
theorem mid_all (s : ByteArray) (k : Nat) : mid s.data.toList k s.size = s.data.toList.drop k := by
  rw [mid, List.take_of_length_le (by rw [List.length_drop, len_data]; omega)]
theorem trim_end {s : ByteArray} {k t : Nat} (hf : s.data.toList.dropWhile blk = s.data.toList.drop k)
    (hb : (s.data.toList.drop k).reverse.dropWhile blk = (mid s.data.toList k t).reverse) : s.extract k t = ⟨(trimL s.data.toList).toArray⟩ := by
  rw [ext_list, trimL, hf, hb, List.reverse_reverse, mid]

def sameB (a b : List UInt8) : Bool := lowL a == lowL b

set_option maxHeartbeats 400000 in
theorem refsame_any (a b : ByteArray) (w : World) (ha : a.size ≤ 140737488355328) (hb : b.size ≤ 140737488355328) :
    Calls Tryd.prog 61 #[.string a, .string b] w fun e w' => e = .returned (.bool (sameB a.data.toList b.data.toList)) ∧ Below w.heap.size w w' := by
  go_enter Tryd.func61, Tryd.ntmps61
  go_wp2_with fail
  refine (reflower_txt _ _ ha).mono ?_
  rintro e w1 ⟨rfl, h1⟩
  go_wp2_with fail
  refine (reflower_txt _ _ hb).mono ?_
  rintro e w2 ⟨rfl, h2⟩
  go_wp2
  go_ret
  exact ⟨ret_bool (by rw [sameB]), h1.trans (h2.mono h1.size)⟩

end Go.Proofs.YtfdcklekjnihjaaDoor
