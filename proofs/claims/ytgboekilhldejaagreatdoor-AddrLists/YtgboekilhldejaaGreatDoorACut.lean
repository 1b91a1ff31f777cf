/-
  Contracts: package addr's angle, the closure of words, words.
-/
import Derived.Test.YtgboekilhldejaaGreatDoorAWord
namespace Go.Proofs.YtgboekilhldejaaGreatDoor
open Go.RowKit Sc
set_option linter.unusedVariables false
set_option maxRecDepth 20000

def openI (s : List UInt8) : Int := match openV false s with | some k => (k : Int) | none => -1
theorem openI_some {s : List UInt8} {k : Nat} (h : openV false s = some k) : openI s = k := by rw [openI, h]
theorem openI_none {s : List UInt8} (h : openV false s = none) : openI s = -1 := by rw [openI, h]
theorem map_add {o : Option Nat} (a b : Nat) : (o.map (· + a)).map (· + b) = o.map (· + (b + a)) := by cases o <;> simp; omega

set_option maxHeartbeats 1000000 in
theorem angle_any (s : ByteArray) (w : World) (hs : s.size ≤ 140737488355328) :
    Calls Tryz.prog 80 #[.string s] w fun e w' => e = .returned (.int .i64 (openI s.data.toList)) ∧ w' = w := by
  go_enter Tryz.func80, Tryz.ntmps80
  go_wp2
  go_loop [3, 4, 8] (fun x y i => ∃ (k : Nat) (ins esc : Bool), k ≤ s.size ∧ i = .int .i64 k ∧ x = .bool ins ∧ y = .bool esc ∧ Hid (openV false s.data.toList = if esc = true then (openV true (s.data.toList.drop (k + 1))).map (· + (k + 1)) else (openV ins (s.data.toList.drop k)).map (· + k)) ∧ Hid (esc = true → ins = true)) (fun _ _ i => s.size - (intOf i).toNat)
  case atStart => exact ⟨0, false, false, by omega, rfl, rfl, rfl, hid (by simp), hid (by simp)⟩
  case round =>
    obtain ⟨k, ins, esc, hk, rfl, rfl, rfl, hop, hei⟩ := hrel
    by_cases hlt : k < s.size
    · have hd := drop_cons s k hlt
      cases esc with
      | true =>
        obtain rfl := hei.out rfl
        have h2 : Hid (openV false s.data.toList = if false = true then (openV true (s.data.toList.drop (k + 1 + 1))).map (· + (k + 1 + 1)) else (openV true (s.data.toList.drop (k + 1))).map (· + (k + 1))) := show _ = _ by rw [hop.out]; simp
        clear hop hei hd
        go_wp2
        go_round
        case rel => exact ⟨k + 1, true, false, by omega, by go_num, rfl, rfl, h2, hid (by simp)⟩
        case measure => simp [intOf]; omega
      | false =>
        have hop2 : openV false s.data.toList = (openV ins (s[k] :: s.data.toList.drop (k + 1))).map (· + k) := by rw [hop.out, ← hd]; simp
        clear hop hd
        by_cases h34 : s[k] = 34
        · have e34 : ((s[k].toNat : Int) == 34) = true := by rw [h34]; rfl
          have h2 : Hid (openV false s.data.toList = if false = true then (openV true (s.data.toList.drop (k + 1 + 1))).map (· + (k + 1 + 1)) else (openV (!ins) (s.data.toList.drop (k + 1))).map (· + (k + 1))) := show _ = _ by
            rw [hop2, if_neg (by simp)]
            cases ins with
            | true => rw [open_q2 h34, map_add]; rfl
            | false => rw [h34, open_q1, map_add]; rfl
          clear hop2 hei h34
          go_wp2
          go_round
          case rel => exact ⟨k + 1, !ins, false, by omega, by go_num, rfl, rfl, h2, hid (by simp)⟩
          case measure => simp [intOf]; omega
        · have e34 : ((s[k].toNat : Int) == 34) = false := u8_ne h34
          cases ins with
          | true =>
            by_cases h92 : s[k] = 92
            · have e92 : ((s[k].toNat : Int) == 92) = true := by rw [h92]; rfl
              have h2 : Hid (openV false s.data.toList = if true = true then (openV true (s.data.toList.drop (k + 1 + 1))).map (· + (k + 1 + 1)) else (openV true (s.data.toList.drop (k + 1))).map (· + (k + 1))) := show _ = _ by
                rw [hop2, if_pos rfl, open_esc h92, map_add, List.drop_drop]
              clear hop2 hei h34 h92
              go_wp2
              go_round
              case rel => exact ⟨k + 1, true, true, by omega, by go_num, rfl, rfl, h2, hid (by simp)⟩
              case measure => simp [intOf]; omega
            · have e92 : ((s[k].toNat : Int) == 92) = false := u8_ne h92
              have h2 : Hid (openV false s.data.toList = if false = true then (openV true (s.data.toList.drop (k + 1 + 1))).map (· + (k + 1 + 1)) else (openV true (s.data.toList.drop (k + 1))).map (· + (k + 1))) := show _ = _ by
                rw [hop2, if_neg (by simp), open_in h92 h34, map_add]
              clear hop2 hei h34 h92
              go_wp2
              go_round
              case rel => exact ⟨k + 1, true, false, by omega, by go_num, rfl, rfl, h2, hid (by simp)⟩
              case measure => simp [intOf]; omega
          | false =>
            by_cases h60 : s[k] = 60
            · have e60 : ((s[k].toNat : Int) == 60) = true := by rw [h60]; rfl
              have h2 : Hid (openI s.data.toList = k) := openI_some (by rw [hop2, h60, open_hit]; simp)
              clear hop2 hei h34 h60
              go_wp2
              go_ret
              exact ⟨ret_int h2.out.symm, rfl⟩
            · have e60 : ((s[k].toNat : Int) == 60) = false := u8_ne h60
              have h2 : Hid (openV false s.data.toList = if false = true then (openV true (s.data.toList.drop (k + 1 + 1))).map (· + (k + 1 + 1)) else (openV false (s.data.toList.drop (k + 1))).map (· + (k + 1))) := show _ = _ by
                rw [hop2, if_neg (by simp), open_out h60 h34, map_add]
              clear hop2 hei h34 h60
              go_wp2
              go_round
              case rel => exact ⟨k + 1, false, false, by omega, by go_num, rfl, rfl, h2, hid (by simp)⟩
              case measure => simp [intOf]; omega
    · have h2 : Hid (openI s.data.toList = -1) := openI_none (by
        rw [hop.out, drop_all s k (by omega), drop_all s (k + 1) (by omega)]
        cases esc <;> cases ins <;> simp [openV])
      clear hop hei
      go_wp2
      go_ret
      exact ⟨ret_int h2.out.symm, rfl⟩

-- a block that alone is written
structure Only (b : Nat) (w w' : World) : Prop where
  below : Below b w w'
  size : w'.heap.size = w.heap.size
  other : ∀ j, j ≠ b → w'.heap[j]? = w.heap[j]?
theorem Only.refl (b : Nat) (w : World) : Only b w w := ⟨Below.refl _ _, rfl, fun _ _ => rfl⟩
theorem Only.trans {b : Nat} {w w' w'' : World} (h : Only b w w') (k : Only b w' w'') : Only b w w'' := ⟨h.below.trans k.below, k.size.trans h.size, fun j hj => (k.other j hj).trans (h.other j hj)⟩
theorem Only.set {b : Nat} {w w' : World} (h : Only b w w') (o : Nat) (v : Value) : Only b w (w'.setCell ⟨b, o, none⟩ v) :=
  ⟨h.below.setCell (Nat.le_refl b) v, by rw [← h.size]; simp [World.setCell], fun j hj => by
    rw [← h.other j hj]
    rcases Nat.lt_or_gt_of_ne hj with hlt | hgt
    · exact Below.heap_setCell _ _ _ _ (by simpa using hj)
    · exact Below.heap_setCell _ _ _ _ (by simpa using hj)⟩
theorem Own.only {w w' : World} {B b : Nat} {e : TypeId} {v : Value} {xs : List Value} (h : Own w B e v xs) (hb : Only b w w') (hlt : b < B) : Own w' B e v xs := by
  obtain ⟨h1, h2⟩ := h
  refine ⟨h1, ?_⟩
  rcases h2 with h2 | ⟨g, cap, cur, hv, hg, hh, r⟩
  · exact Or.inl h2
  · exact Or.inr ⟨g, cap, cur, hv, hg, by rw [hb.other g (by omega)]; exact hh, r⟩

end Go.Proofs.YtgboekilhldejaaGreatDoor
