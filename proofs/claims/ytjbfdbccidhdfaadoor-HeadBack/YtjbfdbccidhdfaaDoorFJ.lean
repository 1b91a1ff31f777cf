/-
  Base texts, one behind another: AnySet.
-/
import Derived.Test.YtjbfdbccidhdfaaDoorFH
import Derived.Test.YtjbfdbccidhdfaaDoorFG
import Derived.Lib.AsciiSet
import Derived.Laws.RangeAny
import Derived.Laws.Runes
import Derived.Laws.ResultCell
import Derived.Deep.WholeRow
import Derived.Deep.LoopGhost

/-
  Sets of signs: what strings.IndexAny, ContainsAny and TrimRight make of them.
-/
namespace Go.Proofs.YtjbfdbccidhdfaaDoor
open Go.RowKit Sc
set_option linter.unusedVariables false
set_option maxRecDepth 20000

theorem infoSet : (Tryd.prog.info? 106).map (fun i => (i.zero, i.size)) = some (some (.agg (Array.replicate 256 (.bool false))), 256) := by kernel_rfl
theorem underSet : Tryd.prog.underlying 106 = some (.array 256 4) := by kernel_rfl

-- what is decoded
theorem decode_wide (s : ByteArray) (pos : Nat) (h : pos < s.size) : 1 ≤ (Utf8.decode s pos).2 ∧ pos + (Utf8.decode s pos).2 ≤ s.size ∧ ∀ k, 1 ≤ k → k < (Utf8.decode s pos).2 → ∃ hk : pos + k < s.size, 128 ≤ (s[pos + k]'hk).toNat := by
  have hg : ∀ k (hk : pos + k < s.size), s.get! (pos + k) = s[pos + k]'hk := fun k hk => by simp [ByteArray.get!, getElem!_pos, hk]; rfl
  have hc : ∀ k, (decide (pos + k < s.size) && ((s.get! (pos + k)).toNat / 64 == 2)) = true → ∃ hk : pos + k < s.size, 128 ≤ (s[pos + k]'hk).toNat := fun k hk => by
    simp only [Bool.and_eq_true, decide_eq_true_eq, beq_iff_eq] at hk
    refine ⟨hk.1, ?_⟩
    have := hk.2
    rw [hg k hk.1] at this
    omega
  have hlt : ∀ k, (decide (pos + k < s.size) && ((s.get! (pos + k)).toNat / 64 == 2)) = true → pos + k < s.size := fun k hk => (hc k hk).1
  have fin : ∀ (m : Nat), 1 ≤ m → (∀ k, 1 ≤ k → k < m → (decide (pos + k < s.size) && ((s.get! (pos + k)).toNat / 64 == 2)) = true) → 1 ≤ m ∧ pos + m ≤ s.size ∧ ∀ k, 1 ≤ k → k < m → ∃ hk : pos + k < s.size, 128 ≤ (s[pos + k]'hk).toNat := by
    intro m hm hall
    refine ⟨hm, ?_, fun k h1 h2 => hc k (hall k h1 h2)⟩
    by_cases h1 : m = 1
    · omega
    · have := hlt (m - 1) (hall (m - 1) (by omega) (by omega)); omega
  have two : ∀ {a : Bool}, (a && (decide (pos + 1 < s.size) && ((s.get! (pos + 1)).toNat / 64 == 2))) = true → ∀ k, 1 ≤ k → k < 2 → (decide (pos + k < s.size) && ((s.get! (pos + k)).toNat / 64 == 2)) = true := by
    intro a ha k h1 h2
    rw [Bool.and_eq_true] at ha
    obtain rfl : k = 1 := by omega
    exact ha.2
  simp only [Utf8.decode]
  split
  · exact fin 1 (Nat.le_refl _) (fun k h1 h2 => by omega)
  split
  · rename_i h2
    split
    · exact fin 2 (by omega) (two h2)
    · exact fin 1 (Nat.le_refl _) (fun k h1 h2 => by omega)
  split
  · rename_i h3
    split
    · refine fin 3 (by omega) (fun k h1 h2 => ?_)
      rw [Bool.and_eq_true, Bool.and_eq_true] at h3
      obtain ⟨⟨_, a1⟩, a2⟩ := h3
      rcases (show k = 1 ∨ k = 2 by omega) with rfl | rfl
      · exact a1
      · exact a2
    · exact fin 1 (Nat.le_refl _) (fun k h1 h2 => by omega)
  split
  · rename_i h3
    split
    · refine fin 4 (by omega) (fun k h1 h2 => ?_)
      rw [Bool.and_eq_true, Bool.and_eq_true, Bool.and_eq_true] at h3
      obtain ⟨⟨⟨_, a1⟩, a2⟩, a3⟩ := h3
      rcases (show k = 1 ∨ k = 2 ∨ k = 3 by omega) with rfl | rfl | rfl
      · exact a1
      · exact a2
      · exact a3
    · exact fin 1 (Nat.le_refl _) (fun k h1 h2 => by omega)
  · exact fin 1 (Nat.le_refl _) (fun k h1 h2 => by omega)
theorem encode_high {c : Nat} (h : 128 ≤ c) : ∃ (r : List UInt8) (b : UInt8), Utf8.encode (c : Int) = ⟨(r ++ [b]).toArray⟩ ∧ 1 ≤ r.length ∧ r.length ≤ 3 ∧ 128 ≤ b.toNat := by
  have hb : ∀ n : Nat, n < 64 → 128 ≤ (UInt8.ofNat (128 + n)).toNat := fun n hn => by simp [UInt8.toNat_ofNat']; omega
  unfold Utf8.encode
  generalize hd : (if Utf8.valid (c : Int) = true then (c : Int).toNat else Utf8.runeError) = d
  have hd2 : 128 ≤ d := by
    rw [← hd]
    split
    · simpa using h
    · decide
  have h3 := hb (d % 64) (by omega)
  simp only
  rw [if_neg (by omega)]
  split
  · exact ⟨[UInt8.ofNat (192 + d / 64)], UInt8.ofNat (128 + d % 64), rfl, by simp, by simp, h3⟩
  split
  · exact ⟨[UInt8.ofNat (224 + d / 4096), UInt8.ofNat (128 + d / 64 % 64)], UInt8.ofNat (128 + d % 64), rfl, by simp, by simp, h3⟩
  · exact ⟨[UInt8.ofNat (240 + d / 262144), UInt8.ofNat (128 + d / 4096 % 64), UInt8.ofNat (128 + d / 64 % 64)], UInt8.ofNat (128 + d % 64), rfl, by simp, by simp, h3⟩

-- IndexRune in the three signs
/-- A whole array out of, and into, the block that was made last. -/
theorem wp_load_new {P : Program} {w : World} {ops : Array Oper} {rest : List Oper} {o : Oper} {a : Act} {Q : Exit → Act → World → Prop} (hgd : o.guard = none) (p : Operand) (t : TypeId) (ho : o.op = Op.load t p)
    (c : Array Value) (n : Nat) (e : TypeId) (hu : P.underlying t = some (.array n e)) (hi : (P.info? t).map (·.size) = some c.size) (hp : a.eval p = .pointer (some ⟨w.heap.size, 0, none⟩))
    (h : wpList P ops Q rest (a.put o.dst (.agg c)) (w.alloc (.cells c t))) : wpList P ops Q (o :: rest) a (w.alloc (.cells c t)) := by
  refine wpList_plain hgd fun K hK => ?_
  have hr := run_loadAt_new (P := P) w t c n e hu hi
  unfold Oper.wp execOp
  simp only [ho, hp, Sem.run_bind, Sem.run_pure, Result.andThen_ok, hr]
  exact hK _ _ h
theorem wp_store_new {P : Program} {w : World} {ops : Array Oper} {rest : List Oper} {o : Oper} {a : Act} {Q : Exit → Act → World → Prop} (hgd : o.guard = none) (p x : Operand) (t : TypeId) (ho : o.op = Op.store t p x) (hd : o.dst = none)
    (c c' : Array Value) (hi : (P.info? t).map (·.size) = some c'.size) (hcc : c.size = c'.size) (h1 : c'.all (·.oneCell') = true) (g : Nat) (hg : w.heap.size = g) (hp : a.eval p = .pointer (some ⟨g, 0, none⟩)) (hx : a.eval x = .agg c')
    (h : wpList P ops Q rest a (w.alloc (.cells c' t))) : wpList P ops Q (o :: rest) a (w.alloc (.cells c t)) := by
  refine wpList_plain hgd fun K hK => ?_
  have hr := run_storeAt_new (P := P) w t c c' hi hcc h1
  rw [hg] at hr
  unfold Oper.wp execOp
  simp only [ho, hp, hx, Sem.run_bind, Sem.run_pure, Result.andThen_ok, hr]
  exact hK _ _ (by rw [hd]; exact h)
set_option maxHeartbeats 1000000 in
set_option maxRecDepth 100000 in
theorem makeSet_any (chars : ByteArray) (w : World) (hs : chars.size < 4294967281) (hascii : ∀ (j : Nat) b, chars.data.toList[j]? = some b → b.toNat < 128) :
    Calls Tryd.prog 81 #[.string chars] w fun e w' => e = .returned (.tuple #[.agg (Lib.setCells chars.data.toList), .bool true]) ∧ w' = w.alloc (.cells (Lib.setCells chars.data.toList) 106) := by
  have HA := hid hascii
  clear hascii
  have hzv := (zero_of_info infoSet).1
  go_enter Tryd.func81, Tryd.ntmps81
  go_wp2
  rw [← Lib.setCells_nil]
  go_loopg [4] chars.size (fun g s4 wx => ∃ i : Nat, i + g = chars.size ∧ s4 = .int .i64 i ∧ wx = w.alloc (.cells (Lib.setCells (chars.data.toList.take i)) 106))
  case atStart => exact ⟨0, by omega, rfl, rfl⟩
  case round =>
    obtain ⟨i, hig, rfl, rfl⟩ := hrel
    cases gk with
    | zero =>
      obtain rfl : i = chars.size := by omega
      have hiz : ¬ ((chars.size : Int) < (chars.size : Int)) := by omega
      rw [show chars.data.toList.take chars.size = chars.data.toList from take_all chars chars.size (Nat.le_refl _)]
      have hi138 := (zero_of_info infoSet).2
      have hsz := Lib.setCells_size chars.data.toList
      have hi2 := hid (show (Tryd.prog.info? 106).map (·.size) = some (Lib.setCells chars.data.toList).size by rw [hsz]; exact hi138)
      have hld := run_loadVar_new (P := Tryd.prog) w 106 (Lib.setCells chars.data.toList) 256 4 underSet (by rw [hsz]; exact hi138)
      clear hig
      have HLD := hid hld
      clear hld hi138
      go_wp2_with (first | (refine wp_load_new rfl (.tmp 2) 106 rfl (Lib.setCells chars.data.toList) 256 4 underSet hi2.out rfl ?_) | (refine wp_store_new rfl (.tmp 2) (.tmp 20) 106 rfl rfl (Lib.setCells chars.data.toList) (Lib.setCells chars.data.toList) hi2.out rfl (Lib.setCells_one _) _ rfl rfl rfl ?_))
      (try simp only [Exit.inBlock, Exit.then])
      refine bodyPost_ret (v := .tuple #[.agg (Lib.setCells chars.data.toList), .bool true]) ?_ rfl ⟨rfl, rfl⟩
      rw [results_cell_tmp rfl]
      simp [asAddr, Result.andThen, HLD.out]
    | succ g =>
      have hi : i < chars.size := by omega
      have hiz : (i : Int) < (chars.size : Int) := by omega
      obtain ⟨x, hx⟩ : ∃ x : UInt8, chars[i]'hi = x := ⟨_, rfl⟩
      have hxl : chars.data.toList[i]? = some x := by rw [← hx]; exact getL chars i hi
      have hx128 : ¬ ((128 : Int) ≤ (x.toNat : Int)) := by have := HA.out i x hxl; omega
      have hx256 : (x.toNat : Int) < 256 := by have := HA.out i x hxl; omega
      have hcell := Lib.setCells_at (chars.data.toList.take i) x
      have Hx := hid hxl
      clear hxl
      go_wp2
      go_roundg g
      case measure => omega
      case rel => exact ⟨i + 1, by omega, by first | rfl | simp, by rw [List.take_add_one, Hx.out]; simp only [Option.toList]; rw [Lib.setCells_snoc]⟩
set_option maxHeartbeats 400000 in
theorem setHas_any (b : Nat) (x : UInt8) (v : Bool) (w : World) (hc : w.cell? ⟨b, x.toNat, none⟩ = some (.bool v)) :
    Calls Tryd.prog 82 #[.pointer (some ⟨b, 0, none⟩), .int .u8 x.toNat] w fun e w' => e = .returned (.bool v) ∧ w' = w := by
  have hx256 : (x.toNat : Int) < 256 := by have := UInt8.toNat_lt x; omega
  go_enter Tryd.func82, Tryd.ntmps82
  go_wp2
  go_ret
  exact ⟨rfl, rfl⟩
set_option maxHeartbeats 400000 in
theorem useSet_any (n : Int) (w : World) : Calls Tryd.prog 80 #[.int .i64 n] w fun e w' => e = .returned (.bool (decide (8 < n))) ∧ w' = w := by
  go_enter Tryd.func80, Tryd.ntmps80
  go_wp2
  go_ret
  exact ⟨rfl, rfl⟩
set_option maxHeartbeats 400000 in
theorem validRune_any (c : Nat) (w : World) : Calls Tryd.prog 95 #[.int .i32 c] w fun e w' => (∃ b, e = .returned (.bool b)) ∧ w' = w := by
  have h0 : (0 : Int) ≤ (c : Int) := by omega
  by_cases h1 : (c : Int) < 55296
  · go_enter Tryd.func95, Tryd.ntmps95
    go_wp2
    go_ret
    exact ⟨by first | exact Or.inl rfl | exact Or.inr rfl | exact ⟨_, rfl⟩, rfl⟩
  · by_cases h2 : (57343 : Int) < (c : Int)
    · by_cases h3 : (c : Int) ≤ 1114111
      · go_enter Tryd.func95, Tryd.ntmps95
        go_wp2
        go_ret
        exact ⟨by first | exact Or.inl rfl | exact Or.inr rfl | exact ⟨_, rfl⟩, rfl⟩
      · go_enter Tryd.func95, Tryd.ntmps95
        go_wp2
        go_ret
        exact ⟨by first | exact Or.inl rfl | exact Or.inr rfl | exact ⟨_, rfl⟩, rfl⟩
    · go_enter Tryd.func95, Tryd.ntmps95
      go_wp2
      go_ret
      exact ⟨by first | exact Or.inl rfl | exact Or.inr rfl | exact ⟨_, rfl⟩, rfl⟩

end Go.Proofs.YtjbfdbccidhdfaaDoor
