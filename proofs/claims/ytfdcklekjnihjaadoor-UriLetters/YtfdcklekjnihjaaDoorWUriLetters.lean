/-
  The walk of the law UriLetters.
-/
import Derived.Test.YtfdcklekjnihjaaDoorWUriOnce
import Derived.Laws.IdiomStrings
namespace Go.Proofs.YtfdcklekjnihjaaDoor
open Go.RowKit Sc
set_option linter.unusedVariables false
set_option maxRecDepth 20000

/-- A block's first cells are these bytes. -/
def BytesAt (w : World) (B : Nat) (l : List UInt8) : Prop := ∀ j (hj : j < l.length), w.cell? ⟨B, j, none⟩ = some (.int .u8 (l[j].toNat : Int)) ∧ w.frozen? ⟨B, j, none⟩ = false
theorem BytesAt.set {w : World} {B : Nat} {l : List UInt8} (h : BytesAt w B l) (k : Nat) (hk : k < l.length) (y : UInt8) : BytesAt (w.setCell ⟨B, k, none⟩ (.int .u8 (y.toNat : Int))) B (l.set k y) := by
  intro j hj
  have hj' : j < l.length := by simpa using hj
  constructor
  · by_cases e : j = k
    · subst e
      rw [World.cell?_setCell_same _ _ _ (h j hj').1]; simp
    · rw [World.cell?_setCell_other _ _ _ _ (by intro e'; injection e' with _ e2; exact e e2.symm), (h j hj').1]
      simp [Ne.symm e]
  · rw [World.frozen?_setCell]; exact (h j hj').2
theorem conv_bytes (l : List UInt8) (w : World) : ∃ cap w1, (convert 9 45 (.string ⟨l.toArray⟩)).run Tryd.prog w = .ok (.slice (some ⟨w.heap.size, 0, none⟩) l.length cap) w1 ∧ BytesAt w1 w.heap.size l ∧ Below w.heap.size w w1 := by
  have h := run_bytes_of_string (P := Tryd.prog) w 9 45 5 ⟨l.toArray⟩ Tryd.underlying9 Tryd.underlying45 Tryd.underlying5
  have hcap := grownCap_ge w (ByteArray.mk l.toArray).size 0 5
  generalize grownCap w (ByteArray.mk l.toArray).size 0 5 = cap at h hcap
  rw [size_list] at h hcap
  refine ⟨cap, _, h, ?_, ?_⟩
  · intro j hj
    have hsz : l.length ≤ (bytesRow ⟨l.toArray⟩ cap).size := by simp [bytesRow]
    constructor
    · unfold World.cell?
      have e : (w.drew.alloc (.cells (bytesRow ⟨l.toArray⟩ cap) 5 ((bytesRow ⟨l.toArray⟩ cap).size, (bytesRow ⟨l.toArray⟩ cap).size + 1))).heap[w.heap.size]? = some (.cells (bytesRow ⟨l.toArray⟩ cap) 5 ((bytesRow ⟨l.toArray⟩ cap).size, (bytesRow ⟨l.toArray⟩ cap).size + 1)) := by
        show (w.heap.push _)[w.heap.size]? = _
        simp
      simp only [e]
      simp [bytesRow, Array.getElem?_append, hj]
    · have := World.frozen?_alloc_mark w.drew (bytesRow ⟨l.toArray⟩ cap) 5 (bytesRow ⟨l.toArray⟩ cap).size ((bytesRow ⟨l.toArray⟩ cap).size + 1) j
      have e : w.drew.heap.size = w.heap.size := rfl
      rw [e] at this
      rw [this]
      have : decide ((bytesRow ⟨l.toArray⟩ cap).size ≤ j) = false := by simp only [decide_eq_false_iff_not]; omega
      rw [this]; rfl
  · exact (Below.refl _ w).drew.alloc (Nat.le_refl _) _
theorem conv_back (m : List UInt8) (B n cap : Nat) (w : World) (hn : m.length = n) (h : BytesAt w B m) : (convert 45 9 (.slice (some ⟨B, 0, none⟩) n cap)).run Tryd.prog w = .ok (.string ⟨m.toArray⟩) w := by
  subst hn
  refine run_convert_bytes_back (P := Tryd.prog) w 45 9 5 ⟨B, 0, none⟩ cap m Tryd.underlying45 Tryd.underlying5 Tryd.underlying9 fun j hj => ?_
  rw [add_at, Nat.zero_add]
  exact (h j hj).1

theorem low_up {b : UInt8} (h1 : 97 ≤ b.toNat) (h2 : b.toNat ≤ 122) : lowb (b - 32) = lowb b ∧ (((b - 32 : UInt8).toNat : Nat) : Int) = (b.toNat : Int) - 97 + 65 := by
  have key : ∀ b : UInt8, 97 ≤ b.toNat → b.toNat ≤ 122 → lowb (b - 32) = lowb b ∧ (b - 32 : UInt8).toNat = b.toNat - 32 := by
    apply byte_all; decide +kernel
  obtain ⟨k1, k2⟩ := key b h1 h2
  exact ⟨k1, by rw [k2]; omega⟩
theorem lowL_set {m : List UInt8} {k : Nat} (hk : k < m.length) {y : UInt8} (h : lowb y = lowb m[k]) : lowL (m.set k y) = lowL m := by
  unfold lowL
  apply List.ext_getElem
  · simp
  · intro i h1 h2
    simp only [List.getElem_map, List.getElem_set]
    split
    · rename_i e; subst e; exact h
    · rfl
theorem only_low {P m : List UInt8} (hP : ∀ b ∈ P, b = 58 ∨ isB b.toNat 1 = true) (h : m.map lowb = P) : m = P := by
  have key : ∀ b : UInt8, (b = 58 ∨ isB b.toNat 1 = true) → ¬ (97 ≤ b.toNat ∧ b.toNat ≤ 122) ∧ ¬ (65 ≤ b.toNat ∧ b.toNat ≤ 90) := by
    apply byte_all; decide +kernel
  induction m generalizing P with
  | nil => simpa using h
  | cons x m ih =>
    subst h
    have hx := hP (lowb x) (by simp)
    have ⟨n1, n2⟩ := key _ hx
    have e : lowb (lowb x) = lowb x ↔ lowb x = lowb x := Iff.rfl |>.trans (by simp [lowb_at (lowb x) n1 n2])
    have ex : x = lowb x := (lowb_at x n1 n2).1 rfl
    rw [List.map_cons, ← ex]
    congr 1
    exact ih (P := m.map lowb) (fun b hb => hP b (by simp at hb ⊢; exact Or.inr hb)) rfl
theorem portT_mem {n : Int} : ∀ b ∈ portT n, b = 58 ∨ isB b.toNat 1 = true := by
  intro b hb
  unfold portT at hb
  split at hb
  · simp at hb
  · rw [List.singleton_append, List.mem_cons] at hb
    rcases hb with h | h
    · exact Or.inl h
    · exact Or.inr (digL_mem h)
theorem portT_low (n : Int) : (portT n).map lowb = portT n := by
  have key : ∀ b : UInt8, (b = 58 ∨ isB b.toNat 1 = true) → lowb b = b := by
    apply byte_all; decide +kernel
  rw [List.map_congr_left (g := id) (fun b hb => key b (portT_mem b hb))]; simp
theorem letters {sc ho : List UInt8} {po : Int} {m : List UInt8} (hc : checkV ⟨sc, [], ho, po, [], []⟩ = 0) (h : lowL m = lowL (textT ⟨sc, [], ho, po, [], []⟩)) : parseV m = (⟨sc, [], ho, po, [], []⟩, 0) := by
  obtain ⟨c1, c2, c3, c4, c5, c6, c7, c8⟩ := check_ok hc
  simp only at c1 c3
  have e1 := (scheme_not c1).2
  have e2 := (host_facts c3).2.2.2
  have et : textT ⟨sc, [], ho, po, [], []⟩ = sc ++ ([58] ++ (ho ++ portT po)) := by
    show sc ++ [58] ++ userT [] ++ ho ++ portT po ++ parsT [] ++ hdrT [] = _
    simp [userT, parsT, hdrT]
  unfold lowL at h e1 e2
  rw [et, List.map_append, List.map_append, List.map_append, e1, e2, portT_low] at h
  obtain ⟨m1, r1, rfl, h1, h⟩ := List.map_eq_append_iff.1 h
  obtain ⟨m2, r2, rfl, h2, h⟩ := List.map_eq_append_iff.1 h
  obtain ⟨m3, m4, rfl, h3, h4⟩ := List.map_eq_append_iff.1 h
  have k2 : m2 = [58] := only_low (by simp) h2
  have k4 : m4 = portT po := only_low portT_mem h4
  subst k2 k4
  have := parse_of (sch := m1) (h := m3) hc h1 h3
  rw [← this]
  simp [userT, parsT, hdrT]

end Go.Proofs.YtfdcklekjnihjaaDoor
namespace Go.Proofs.YtfdcklekjnihjaaDoor.uriLetters
open Go.RowKit Sc
set_option linter.unusedVariables false

set_option maxHeartbeats 4000000 in
set_option maxRecDepth 100000 in
theorem law_walk (w : World) (v0 : Value) (a1 : Int) (k0 : UriIn 140737488351232 w v0) (w1 : (Lit.int .u64 a1).wf = true) :
    Calls Tryd.prog 8 #[v0, .int .u64 a1] w fun e w' => e = .returned (.bool true) ∧ Below w.heap.size w w' := by
  obtain ⟨u, p, h, rfl, hp, hh, hsm0, hwf⟩ := k0
  obtain ⟨sc, us, ho, po, pp, hd⟩ := u
  obtain ⟨s1, s2, s3, s4, s5⟩ := hsm0
  simp only at s1 s3
  have hup := u64_of w1
  have hpn : ∀ w', ParsAt w' (.slice none 0 0) [] := fun w' => .inl ⟨rfl, rfl⟩
  have hsm : SmallU 140737488355328 ⟨sc, [], ho, po, [], []⟩ := ⟨by show sc.length ≤ _; omega, by simp, by show ho.length ≤ _; omega, smallP_nil, smallP_nil⟩
  have K1 : Hid _ := fun w' => print_any ⟨sc, [], ho, po, [], []⟩ (.slice none 0 0) (.slice none 0 0) w' hsm (hpn w') (hpn w')
  have hbw : Below w.heap.size w (w.alloc (.cells #[.string ⟨sc.toArray⟩, .string ⟨#[]⟩, .string ⟨ho.toArray⟩, .int .i64 po, .slice none 0 0, .slice none 0 0] 31)) := (Below.refl _ w).alloc (Nat.le_refl _) _
  by_cases hok : checkV ⟨sc, [], ho, po, [], []⟩ = 0
  · have hpv : printV ⟨sc, [], ho, po, [], []⟩ = (textT ⟨sc, [], ho, po, [], []⟩, 0) := by rw [printV, if_pos hok]
    rw [hpv] at K1
    have hlen := textT_len hok
    have HL : Hid (∀ m, lowL m = lowL (textT ⟨sc, [], ho, po, [], []⟩) → parseV m = (⟨sc, [], ho, po, [], []⟩, 0)) := fun m hm => letters hok hm
    have K3 : Hid _ := fun w' p' h' (k1 : ParsAt w' p' []) (k2 : ParsAt w' h' []) => usame_any ⟨sc, [], ho, po, [], []⟩ ⟨sc, [], ho, po, [], []⟩ (.slice none 0 0) (.slice none 0 0) p' h' w' (by simp) (by simp) (hpn w') (hpn w') k1 k2
    have hbox : BoxU (w.alloc (.cells #[.string ⟨sc.toArray⟩, .string ⟨#[]⟩, .string ⟨ho.toArray⟩, .int .i64 po, .slice none 0 0, .slice none 0 0] 31)) w.heap.size ⟨sc, [], ho, po, [], []⟩ (.slice none 0 0) (.slice none 0 0) := box_new w ⟨sc, [], ho, po, [], []⟩ (.slice none 0 0) (.slice none 0 0)
    have hws : w.heap.size < (w.alloc (.cells #[.string ⟨sc.toArray⟩, .string ⟨#[]⟩, .string ⟨ho.toArray⟩, .int .i64 po, .slice none 0 0, .slice none 0 0] 31)).heap.size := by simp
    simp only [decide_true] at K1 K3
    clear hsm hp hh hpv hok hpn s1 s2 s3 s4 s5 hwf
    generalize textT ⟨sc, [], ho, po, [], []⟩ = l at K1 HL hlen
    unfold uriV at K1 K3 ⊢
    simp only at K1 K3 ⊢
    go_enter Tryd.func8, Tryd.ntmps8
    go_wp2_with fail
    refine (K1.out _).mono ?_
    rintro e w2 ⟨rfl, hw2⟩
    have hb2 := hbw.trans (hw2.mono hbw.size)
    have hx2 : Hid (BoxU w2 w.heap.size ⟨sc, [], ho, po, [], []⟩ (.slice none 0 0) (.slice none 0 0)) := BoxU.below hbox hw2 hws
    have hs2 : w.heap.size < w2.heap.size := Nat.lt_of_lt_of_le hws hw2.size
    clear hbox hbw hws hw2 K1
    obtain ⟨cap, w3, hcv, hby, hbc⟩ := conv_bytes l w2
    have HBY : Hid _ := hby; clear hby
    go_wp2
    clear hcv
    go_loopw [8] (fun i wr => ∃ (k : Nat) (m : List UInt8), k ≤ l.length ∧ i = .int .i64 k ∧ m.length = l.length ∧ Hid (BytesAt wr w2.heap.size m) ∧ Hid (lowL m = lowL l) ∧ Below w2.heap.size w2 wr) (fun i _ => l.length - (intOf i).toNat)
    case atStart => exact ⟨0, l, by omega, rfl, rfl, HBY.out, rfl, hbc⟩
    case round =>
      clear HBY hbc
      obtain ⟨k, m, hk, rfl, hml, hby, hlo, hb3⟩ := hrel
      by_cases hlt : k < l.length
      · have hkm : k < m.length := by omega
        obtain ⟨hc, hf⟩ := hby.out k hkm
        have hbd := u8_bd m[k]
        have hsame : Hid (∀ y : UInt8, lowb y = lowb m[k] → lowL (m.set k y) = lowL l) := fun y hy => by rw [lowL_set hkm hy]; exact hlo.out
        have hset : Hid (∀ y : UInt8, BytesAt (wr.setCell ⟨w2.heap.size, k, none⟩ (.int .u8 (y.toNat : Int))) w2.heap.size (m.set k y)) := fun y => hby.out.set k hkm y
        have HBm : Hid _ := hby.out
        generalize hx : m[k] = x at hc hbd hsame
        clear hx hby
        have hmod : (k : Int) % 64 < 64 := Int.emod_lt_of_pos _ (by decide)
        have hmod0 : 0 ≤ (k : Int) % 64 := Int.emod_nonneg _ (by decide)
        by_cases hu1 : 97 ≤ (x.toNat : Int)
        · by_cases hu2 : (x.toNat : Int) ≤ 122
          · have hlu := low_up (b := x) (by omega) (by omega)
            have hs1 : Hid _ := hsame.out (x - 32) hlu.1
            have hs2' : Hid _ := hset.out (x - 32)
            rw [hlu.2] at hs2'
            clear hlu hsame hset
            go_wp2
            all_goals (
              go_roundw
              case rel => first | exact ⟨k + 1, m.set k (x - 32), by omega, by go_num, by simpa using hml, hs2', hs1, hb3.setCell (Nat.le_refl _) _⟩ | exact ⟨k + 1, m, by omega, by go_num, hml, HBm.out, hlo, hb3⟩
              case measure => simp [intOf]; omega)
          · clear hset hsame
            go_wp2
            go_roundw
            case rel => exact ⟨k + 1, m, by omega, by go_num, hml, HBm.out, hlo, hb3⟩
            case measure => simp [intOf]; omega
        · clear hset hsame
          go_wp2
          go_roundw
          case rel => exact ⟨k + 1, m, by omega, by go_num, hml, HBm.out, hlo, hb3⟩
          case measure => simp [intOf]; omega
      · have hcb := conv_back m w2.heap.size l.length cap wr hml hby.out
        have hpm := HL.out m hlo.out
        have K2 : Hid _ := fun w' => parseC hpm w' (by omega)
        simp only at K2
        have hb4 := hb2.trans (hb3.mono hb2.size)
        have hx4 : Hid (BoxU wr w.heap.size ⟨sc, [], ho, po, [], []⟩ (.slice none 0 0) (.slice none 0 0)) := BoxU.below (u := ⟨sc, [], ho, po, [], []⟩) (p := .slice none 0 0) (h := .slice none 0 0) hx2 hb3 hs2
        have hs4 : w.heap.size < wr.heap.size := Nat.lt_of_lt_of_le hs2 hb3.size
        clear hby hlo hpm HL hx2 hb2 hs2 hb3
        go_wp2_with fail
        refine (K2.out _).mono ?_
        rintro e w5 ⟨b1, k1, b2, k2, rfl, ho1, ho2, hw5⟩
        have hb5 := hb4.trans (hw5.mono hb4.size)
        have hx5 : Hid (BoxU w5 w.heap.size ⟨sc, [], ho, po, [], []⟩ (.slice none 0 0) (.slice none 0 0)) := BoxU.below (u := ⟨sc, [], ho, po, [], []⟩) (p := .slice none 0 0) (h := .slice none 0 0) hx4 hw5 hs4
        have hs5 : w.heap.size < w5.heap.size := Nat.lt_of_lt_of_le hs4 hw5.size
        have hall : ∀ o, BoxU (w5.alloc o) w.heap.size ⟨sc, [], ho, po, [], []⟩ (.slice none 0 0) (.slice none 0 0) := fun o => BoxU.below (u := ⟨sc, [], ho, po, [], []⟩) (p := .slice none 0 0) (h := .slice none 0 0) hx5 ((Below.refl _ w5).alloc (Nat.le_refl _) o) hs5
        have g0 := fun o => (hall o).1
        have g1 := fun o => (hall o).2.1
        have g2 := fun o => (hall o).2.2.1
        have g3 := fun o => (hall o).2.2.2.1
        have g4 := fun o => (hall o).2.2.2.2.1
        have g5 := fun o => (hall o).2.2.2.2.2
        have HO1 : Hid (∀ o, ParsAt (w5.alloc o) (.slice b1 0 k1) []) := fun o => ParsAt.alloc ho1.parsAt o
        have HO2 : Hid (∀ o, ParsAt (w5.alloc o) (.slice b2 0 k2) []) := fun o => ParsAt.alloc ho2.parsAt o
        have HBO : Hid (∀ o, Below w.heap.size w (w5.alloc o)) := fun o => hb5.alloc hb5.size o
        clear hall hx4 hx5 hb4 hs4 hs5 hw5 ho1 ho2 hb5 K2 hcb
        simp only [List.length_nil] at *
        go_wp2_with fail
        refine (K3.out _ _ _ (HO1.out _) (HO2.out _)).mono ?_
        rintro e w6 ⟨rfl, hw6⟩
        have hb6 := (HBO.out _).trans (hw6.mono (HBO.out _).size)
        go_wp2_with (go_at_call 15; refine (awake_any _).mono ?_; rintro e w7 ⟨rfl, hw7⟩)
        go_ret
        exact ⟨rfl, hb6.trans (hw7.mono hb6.size)⟩
  · have hpv : printV ⟨sc, [], ho, po, [], []⟩ = ([], checkV ⟨sc, [], ho, po, [], []⟩) := by rw [printV, if_neg hok]
    rw [hpv] at K1
    obtain ⟨ck, hck⟩ : ∃ ck, checkV ⟨sc, [], ho, po, [], []⟩ = ck := ⟨_, rfl⟩
    rw [hck] at K1 hok
    have hn : (ck != 0) = true := by simpa using hok
    have hn2 : (ck == 0) = false := by simpa using hok
    clear hsm hp hh hpv hok hck hpn
    simp only at K1
    unfold uriV at K1 ⊢
    simp only at K1 ⊢
    go_enter Tryd.func8, Tryd.ntmps8
    go_wp2_with fail
    refine (K1.out _).mono ?_
    rintro e w2 ⟨rfl, hw2⟩
    have hb2 := hbw.trans (hw2.mono hbw.size)
    clear hbw hw2 K1
    go_wp2_with (go_at_call 15; refine (awake_any _).mono ?_; rintro e w5 ⟨rfl, hw5⟩)
    go_ret
    exact ⟨rfl, hb2.trans (hw5.mono hb2.size)⟩

end Go.Proofs.YtfdcklekjnihjaaDoor.uriLetters
