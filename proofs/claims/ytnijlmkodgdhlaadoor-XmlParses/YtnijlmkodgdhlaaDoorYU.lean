/-
  Base texts, one behind another: XLawL, Builder, XBld, XKids.
-/
import Derived.Test.YtnijlmkodgdhlaaDoorXEqB
import Derived.Test.YtnijlmkodgdhlaaDoorYJ
import Derived.Test.YtnijlmkodgdhlaaDoorRX10
import Derived.Test.YtnijlmkodgdhlaaDoorYA
import Derived.Lib.Builder
import Derived.Lib.Bytealg
import Derived.Lib.FrozenHead2
import Derived.Lib.OthersKept
import Derived.Laws.Entries
import Derived.Test.YtnijlmkodgdhlaaDoorYN
import Derived.Test.YtnijlmkodgdhlaaDoorYP
import Derived.Test.YtnijlmkodgdhlaaDoorYK
import Derived.Test.YtnijlmkodgdhlaaDoorYM

/-
  Plain facts for the laws of layer 13: how long what is written is; what is read may be; blanks that are put in.
-/
namespace Go.Proofs.YtnijlmkodgdhlaaDoor
open Go.RowKit Sc
set_option linter.unusedVariables false
set_option maxRecDepth 20000
set_option linter.unusedSimpArgs false

def attW (p : Par) : Nat := 5 + p.name.length + p.value.length
def attsW (l : List Par) : Nat := (l.map attW).sum
def ndW (x : Nd) : Nat := 5 + x.name.length + x.text.length + attsW x.attrs
def ndsW (l : List Nd) : Nat := (l.map ndW).sum
theorem ndsW_app (a b : List Nd) : ndsW (a ++ b) = ndsW a + ndsW b := by simp [ndsW]
theorem attsW_app (a b : List Par) : attsW (a ++ b) = attsW a + attsW b := by simp [attsW]
theorem attsW_mem {l : List Par} {p : Par} (h : p ∈ l) : attW p ≤ attsW l := by
  induction l with
  | nil => simp at h
  | cons a l ih =>
    have e : attsW (a :: l) = attW a + attsW l := by simp [attsW]
    rw [e]
    rcases List.mem_cons.1 h with rfl | h
    · omega
    · have := ih h; omega
theorem ndsW_mem {l : List Nd} {x : Nd} (h : x ∈ l) : ndW x ≤ ndsW l := by
  induction l with
  | nil => simp at h
  | cons a l ih =>
    have e : ndsW (a :: l) = ndW a + ndsW l := by simp [ndsW]
    rw [e]
    rcases List.mem_cons.1 h with rfl | h
    · omega
    · have := ih h; omega
theorem attsW_le {l : List Par} {K : Nat} (h : ∀ p ∈ l, attW p ≤ K) : attsW l ≤ l.length * K := by
  induction l with
  | nil => simp [attsW]
  | cons a l ih =>
    have e : attsW (a :: l) = attW a + attsW l := by simp [attsW]
    have h1 := h a (by simp)
    have h2 := ih fun p hp => h p (by simp [hp])
    rw [e, List.length_cons, Nat.succ_mul]; omega
theorem ndsW_le {l : List Nd} {K : Nat} (h : ∀ x ∈ l, ndW x ≤ K) : ndsW l ≤ l.length * K := by
  induction l with
  | nil => simp [ndsW]
  | cons a l ih =>
    have e : ndsW (a :: l) = ndW a + ndsW l := by simp [ndsW]
    have h1 := h a (by simp)
    have h2 := ih fun p hp => h p (by simp [hp])
    rw [e, List.length_cons, Nat.succ_mul]; omega
theorem attsW_len (l : List Par) : l.length ≤ attsW l := by
  induction l with
  | nil => simp
  | cons a l ih =>
    have e : attsW (a :: l) = attW a + attsW l := by simp [attsW]
    rw [e, List.length_cons]; unfold attW; omega
theorem attrsT_W (l : List Par) : (attrsT l).length ≤ 6 * attsW l := by
  induction l with
  | nil => simp [attrsT]
  | cons a l ih =>
    have e : attsW (a :: l) = attW a + attsW l := by simp [attsW]
    have e2 : attrsT (a :: l) = attrT a ++ attrsT l := rfl
    have h1 := escX_len a.value
    rw [e, e2, List.length_append, attrT_len]
    unfold attW
    omega
mutual
theorem printX_W (d : Nat) : ∀ t : XT, (printX t).length ≤ 6 * ndsW (flatX d t)
  | .mk n a tx ks => by
    have h1 := printXs_W (d + 1) ks
    have h2 := attrsT_W a
    have h3 := escX_len tx
    have e : ndsW (flatX d (.mk n a tx ks)) = (5 + n.length + tx.length + attsW a) + ndsW (flatXs (d + 1) ks) := by rw [flatX]; simp [ndsW, ndW]
    rw [e, printX]
    split
    · simp only [List.length_append, List.length_cons, List.length_nil]; omega
    · simp only [List.length_append, List.length_cons, List.length_nil]; omega
theorem printXs_W (d : Nat) : ∀ ks : List XT, (printXs ks).length ≤ 6 * ndsW (flatXs d ks)
  | [] => by simp [printXs]
  | k :: ks => by
    have h1 := printX_W d k
    have h2 := printXs_W d ks
    rw [printXs, flatXs, List.length_append, ndsW_app]; omega
end

/-- What a document weighs at most, by its texts' lengths. -/
theorem ok_W {l : List Nd} {K : Nat} (h : checkX l = 0) (hk : ∀ x ∈ l, x.name.length ≤ K ∧ x.text.length ≤ K ∧ ∀ p ∈ x.attrs, p.name.length ≤ K ∧ p.value.length ≤ K) : ndsW l ≤ 200 * (17 * (5 + 2 * K)) := by
  obtain ⟨h1, h2, h3, h4⟩ := checkX_ok h
  have hn : ∀ x ∈ l, nodeOk x = true := by
    intro x hx
    obtain ⟨a, b, rfl⟩ := List.append_of_mem hx
    exact (steps_tail (steps_drop a (x :: b) h4)).1
  have hw : ∀ x ∈ l, ndW x ≤ 17 * (5 + 2 * K) := by
    intro x hx
    obtain ⟨k1, k2, k3⟩ := hk x hx
    have ha : x.attrs.length ≤ 16 := by
      have := hn x hx
      simp only [nodeOk, attrsOk, Bool.and_eq_true, decide_eq_true_eq] at this
      exact this.2.2.1.1
    have hp := attsW_le (l := x.attrs) (K := 5 + 2 * K) fun p hp => by have := k3 p hp; unfold attW; omega
    have hm : x.attrs.length * (5 + 2 * K) ≤ 16 * (5 + 2 * K) := Nat.mul_le_mul_right _ ha
    unfold ndW; omega
  have := ndsW_le hw
  have hm : l.length * (17 * (5 + 2 * K)) ≤ 200 * (17 * (5 + 2 * K)) := Nat.mul_le_mul_right _ h2
  omega
theorem parseX_err {s : List UInt8} {l : List Nd} {e : Int} (h : parseX s = (l, e)) (he : e ≠ 0) : l = [] := by
  rw [parseC_is] at h
  split at h
  · simp only [Prod.mk.injEq] at h; exact h.1.symm
  · cases ho : docC s with
    | none => rw [ho] at h; simp only [parseD, Prod.mk.injEq] at h; exact h.1.symm
    | some q => rw [ho] at h; simp only [parseD, Prod.mk.injEq] at h; exact absurd h.2.symm he
theorem parseX_ok {s : List UInt8} {l : List Nd} (h : parseX s = (l, 0)) : checkX l = 0 := by
  unfold parseX at h
  split at h
  · simp at h
  · split at h
    · simp at h
    · split at h
      · simp at h
      · split at h
        · next hc => simp only [Prod.mk.injEq, and_true] at h; rw [← h]; exact hc.2
        · simp at h
theorem parseX_sm {s : List UInt8} {l : List Nd} (h : parseX s = (l, 0)) : ∀ x ∈ l, SmNd 4096 x := by
  rw [parseC_is] at h
  split at h
  · simp at h
  · next h4 =>
    cases ho : docC s with
    | none => rw [ho] at h; simp [parseD] at h
    | some q =>
      rw [ho] at h
      simp only [parseD, Prod.mk.injEq, and_true] at h
      subst h
      unfold docC at ho
      split at ho
      · cases ho
      · next r hr =>
        have hl := headC_len hr
        unfold bodyC at ho
        split at ho
        · cases ho
        · next l2 r2 he =>
          have hd := (suf_dw xblk r).length_le
          have := elemC_small 4096 _ 0 _ _ _ (by omega) he
          repeat' split at ho
          all_goals first
            | (simp only [Option.some.injEq] at ho; subst ho; exact this)
            | (exfalso; simp at ho)

/-- The document with blanks between its elements, and behind it. -/
theorem doc_pad {l : List Nd} {t : XT} {p : List UInt8} (h : checkX l = 0) (hf : flatX 0 t = l) (hok : okX 0 t = true) (hp : PadX t p) (hpl : szX t ≤ p.length) {bl : List UInt8} (hb : blanksX bl) (hl : (prologK ++ p ++ bl).length ≤ 4096) : parseX (prologK ++ p ++ bl) = (l, 0) := by
  obtain ⟨h1, h2, h3, h4⟩ := checkX_ok h
  have hbody : bodyX (prologK ++ p ++ bl) = some (10 :: (p ++ bl)) := by
    unfold bodyX
    have e5 : (prologK ++ p ++ bl).take 5 = [60, 63, 120, 109, 108] := by simp [prologK]
    have e6 : ((prologK ++ p ++ bl).drop 5).dropWhile (· != 63) = 63 :: 62 :: 10 :: (p ++ bl) := by simp [prologK, List.dropWhile_cons]
    rw [if_pos e5, e6]; simp
  obtain ⟨y, q, hq, _⟩ := pad_head hok hp
  have hd : (10 :: (p ++ bl)).dropWhile xblk = p ++ bl := by
    rw [List.dropWhile_cons, show xblk 10 = true by decide +kernel]
    simp only [if_true]
    exact xdrop_id (by intro b hx; rw [hq] at hx; simp at hx; subst hx; decide +kernel)
  have he := (tree_pad ((prologK ++ p ++ bl).length + 1)).1 t p 0 0 bl hp hok (by simp; omega) (by rw [hf]; omega)
  unfold parseX
  rw [if_neg (by omega), hbody]
  simp only
  rw [hd, he]
  simp only
  rw [drop_blanks hb, hf, if_pos ⟨rfl, h⟩]
theorem insG_len (bs : Nat → List UInt8) : ∀ (l : List UInt8) (p : UInt8) (n : Nat), l.length ≤ (insG bs p n l).1.length
  | [], p, n => by simp [insG]
  | b :: r, p, n => by
    rw [insG]
    split
    · have := insG_len bs r b (n + 1); simp; omega
    · have := insG_len bs r b n; simp; omega
theorem ins_prolog (bs : Nat → List UInt8) (l : List UInt8) : (insG bs 0 0 (prologK ++ l)).1 = prologK ++ (insG bs 10 0 l).1 := by
  rw [ins_app]
  have e : insG bs 0 0 prologK = (prologK, 0) := by simp [prologK, insG]
  have e2 : lastB 0 prologK = 10 := by decide
  rw [e, e2]
/-- Blanks that are put in between elements, and at the end, play no part. -/
theorem doc_ins {l : List Nd} {t : XT} (bs : Nat → List UInt8) (hbs : ∀ n, blanksX (bs n)) (h : checkX l = 0) (hf : flatX 0 t = l) (hok : okX 0 t = true) {bl : List UInt8} (hb : blanksX bl) (hl : ((insG bs 0 0 (prologK ++ printX t)).1 ++ bl).length ≤ 4096) : parseX ((insG bs 0 0 (prologK ++ printX t)).1 ++ bl) = (l, 0) := by
  obtain ⟨g, s, n', hg, hp, hi, hn⟩ := (ins_pad bs hbs (szX t)).1 t 0 (Nat.le_refl _) hok 10 0
  have hg0 := hn (by decide)
  subst hg0
  have hln := insG_len bs (printX t) 10 0
  rw [hi] at hln
  rw [ins_prolog, hi] at hl ⊢
  rw [List.nil_append] at hl hln ⊢
  have hsz := (sz_len (szX t)).1 t 0 (Nat.le_refl _) hok
  exact doc_pad h hf hok hp (by simp only at hln; omega) hb hl
end Go.Proofs.YtnijlmkodgdhlaaDoor

/-
  Contracts of strings.Builder's WriteByte and String, and of strings.IndexByte.
-/
namespace Go.Proofs.YtnijlmkodgdhlaaDoor
open Go.RowKit
set_option linter.unusedVariables false
set_option maxRecDepth 20000

abbrev BT : TypeId := 55
abbrev IsBld (w : World) (B b : Nat) (l : List UInt8) : Prop := Lib.IsBuilderF 55 5 B b (Lib.byteCells l) w

set_option maxHeartbeats 400000 in
theorem indexLite_any (s : ByteArray) (c : Int) (w : World) :
    Calls Tryd.prog 80 #[.string s, .int .u8 c] w fun e w' => e = .returned (.int .i64 (Lib.indexByte s.data.toList c.toNat.toUInt8)) ∧ w' = w := by
  go_enter Tryd.func80, Tryd.ntmps80
  go_wp2
  rw [run_callFunc_extern Tryd.func91 (by kernel_rfl) (by kernel_rfl) (by kernel_rfl) (e := Extern.BytealgIndexByte.indexByte) (by kernel_rfl), Lib.run_indexByteString]
  simp only [Result.andThen]
  rw [Oper.upon_value]
  go_wp2
  go_ret
  exact ⟨rfl, rfl⟩

set_option maxHeartbeats 400000 in
theorem indexByte_any (s : ByteArray) (c : Int) (w : World) :
    Calls Tryd.prog 64 #[.string s, .int .u8 c] w fun e w' => e = .returned (.int .i64 (Lib.indexByte s.data.toList c.toNat.toUInt8)) ∧ w' = w := by
  go_enter Tryd.func64, Tryd.ntmps64
  go_wp2_with (go_at_call 80; refine (indexLite_any _ _ _).mono ?_; rintro e w' ⟨rfl, rfl⟩)
  go_ret
  exact ⟨rfl, rfl⟩

theorem sizeBld : (Tryd.prog.info? 55).map (·.size) = some 2 := by kernel_rfl
theorem liesBld : liesAt Tryd.prog Tryd.prog.depth 55 (2 / Tryd.prog.cellsOf 55) 0 55 1 = true := by kernel_rfl
theorem infoPB : ∃ j, Tryd.prog.info? 55 = some j ∧ j.size = 2 := Option.map_eq_some_iff.1 sizeBld

set_option maxHeartbeats 400000 in
theorem copyUsed (b : Nat) (w : World) (h0 : w.cell? ⟨b, 0, none⟩ = some (.pointer (some ⟨b, 0, none⟩))) :
    Calls Tryd.prog 44 #[.pointer (some ⟨b, 0, none⟩)] w fun e w' => e = .returned (.tuple #[]) ∧ w' = w := by
  obtain ⟨j, hj, _⟩ := infoPB
  go_enter Tryd.func44, Tryd.ntmps44
  go_wp2
  rw [Lib.run_neq_ptr_same w _ Tryd.underlying52 hj]
  go_wp2
  go_end0
  exact ⟨rfl, rfl⟩

set_option maxHeartbeats 400000 in
theorem copyFresh (b : Nat) (w : World) (h0 : w.cell? ⟨b, 0, none⟩ = some (.pointer none)) (hsh : w.shape? b = some (55, 2)) (hfz : w.frozen? ⟨b, 0, none⟩ = false) :
    Calls Tryd.prog 44 #[.pointer (some ⟨b, 0, none⟩)] w fun e w' => e = .returned (.tuple #[]) ∧ w' = w.setCell ⟨b, 0, none⟩ (.pointer (some ⟨b, 0, none⟩)) := by
  obtain ⟨j, hj, hjs⟩ := infoPB
  go_enter Tryd.func44, Tryd.ntmps44
  go_wp2
  rw [Lib.run_to_unsafe w ⟨b, 0, none⟩ Tryd.underlying52 Tryd.underlying89 hj (by rw [hjs]; decide) hsh (Nat.zero_lt_succ 1)]
  simp only [Result.andThen]
  rw [Oper.upon_value]
  go_wp2
  rw [run_callFunc_extern Tryd.func62 (by kernel_rfl) (by kernel_rfl) (by kernel_rfl) (e := Extern.AbiNoEscape.same) (by kernel_rfl)]
  rw [Lib.run_noEscape]
  simp only [Result.andThen]
  rw [Oper.upon_value]
  go_wp2
  rw [Lib.run_from_unsafe w ⟨b, 0, none⟩ Tryd.underlying89 Tryd.underlying52 hj hsh liesBld]
  simp only [Result.andThen]
  rw [Oper.upon_value]
  go_wp2
  go_end0
  exact ⟨rfl, rfl⟩

theorem copyCheck_any (B b : Nat) (bs : List Value) (w : World) (h : Lib.IsBuilderF 55 5 B b bs w) :
    Calls Tryd.prog 44 #[.pointer (some ⟨b, 0, none⟩)] w fun e w' => e = .returned (.tuple #[]) ∧ (Lib.BuilderAtF 55 5 B b (.pointer (some ⟨b, 0, none⟩)) bs w' ∧ Below B w w' ∧ Lib.OthersKept 5 (some b) w w') := by
  rcases h with h | h
  · refine (copyFresh b w h.cell0 h.shape h.frozen0).mono ?_
    rintro e w' ⟨rfl, rfl⟩
    exact ⟨rfl, h.used _, (Below.refl B w).setCell (p := ⟨b, 0, none⟩) h.1 _, (Lib.OthersKept.refl _ _ w).setCell ⟨b, 0, none⟩ rfl _⟩
  · refine (copyUsed b w h.cell0).mono ?_
    rintro e w' ⟨rfl, rfl⟩
    exact ⟨rfl, h, Below.refl B _, Lib.OthersKept.refl _ _ _⟩

set_option maxHeartbeats 2000000 in
set_option maxRecDepth 100000 in
theorem writeByte_any (B b : Nat) (bs : List Value) (c : Int) (w : World) (h : Lib.IsBuilderF 55 5 B b bs w) (hlen : bs.length + 1 ≤ 140737488355328) (hBw : B ≤ w.heap.size) :
    Calls Tryd.prog 63 #[.pointer (some ⟨b, 0, none⟩), .int .u8 c] w fun e w' => e = .returned .nilIface ∧ (Lib.BuilderAtF 55 5 B b (.pointer (some ⟨b, 0, none⟩)) (bs ++ [.int .u8 c]) w' ∧ Below B w w' ∧ Lib.OthersKept 5 (some b) w w') := by
  obtain ⟨i0, hi, hz0, hz1, hz2⟩ := info_parts info5
  go_enter Tryd.func63, Tryd.ntmps63
  go_wp2_with (go_at_call 44; refine (copyCheck_any B b bs _ h).mono ?_)
  rintro e w1 ⟨rfl, h1, hb1, hk1⟩
  obtain ⟨hB, v, hbk, hown, hne⟩ := h1
  have c0 : w1.cell? ⟨b, 0, none⟩ = some (.pointer (some ⟨b, 0, none⟩)) := by rw [Lib.cell_of_heap hbk]; rfl
  have c1 : w1.cell? ⟨b, 1, none⟩ = some v := by rw [Lib.cell_of_heap hbk]; rfl
  go_wp2_with (at_builtin; refine wpList_append_ownF _ rfl _ _ 53 rfl B 5 i0 (.int .u8 0) 1 1 Tryd.underlying53 hi hz0 hz1 hz2 rfl (by decide) _ _ _ rfl (hown.alloc _) ⟨w1.heap.size, 0, none⟩ 1 1 [.int .u8 c] rfl rfl ?c1 ?c2 ?c3 ?c4 ?c5 ?_)
  case c1 =>
    intro j u hj
    match j, hj with
    | 0, hj => simp at hj; subst hj; simp [Addr.add]
  case c2 => intro u hu; simp at hu; subst hu; rfl
  case c3 => unfold maxLen; omega
  case c4 => omega
  case c5 => have := hb1.size; simp; omega
  intro v' w2 hown' hgrow _
  have hlt : b < w1.heap.size := by
    rcases Nat.lt_or_ge b w1.heap.size with h' | h'
    · exact h'
    · simp [Array.getElem?_eq_none h'] at hbk
  have hb2 : w2.heap[b]? = some (.cells #[.pointer (some ⟨b, 0, none⟩), v] 55 (0, 0)) := by
    rw [hgrow.block b (by simp; omega) (fun e => hne e.symm), Lib.alloc_old w1 _ b hlt]
    exact hbk
  have d0 : w2.cell? ⟨b, 0, none⟩ = some (.pointer (some ⟨b, 0, none⟩)) := by rw [Lib.cell_of_heap hb2]; rfl
  have d1 : w2.cell? ⟨b, 1, none⟩ = some v := by rw [Lib.cell_of_heap hb2]; rfl
  have f1 : w2.frozen? ⟨b, 1, none⟩ = false := Lib.frozen_of_heap hb2 1
  obtain ⟨g, cap, rfl⟩ : ∃ g cap, v' = .slice (some ⟨g, 0, none⟩) (bs.length + 1) cap := by
    rcases hown'.2 with ⟨_, h0⟩ | ⟨g, cap, cur, fz, hv, _⟩
    · omega
    · exact ⟨g, cap, hv⟩
  go_wp2
  go_ret
  refine ⟨rfl, ?_, ?_, ((hk1.alloc _).grown hgrow (Lib.ownsRowF_kind (hown.alloc _))).setCell ⟨b, 1, none⟩ rfl _⟩
  · exact Lib.BuilderAtF.put (T := 55) (e := 5) hB hb2 (bs' := bs ++ [.int .u8 c]) (by simpa using hown') (by decide)
  · exact ((hb1.alloc (by have := hb1.size; omega) _).grown hgrow (by have := hb1.size; simp; omega) (fun k hk => (hown.lt k hk).1)).setCell (p := ⟨b, 1, none⟩) hB _

theorem cellsU8 : Tryd.prog.cellsOf 5 = 1 := by kernel_rfl

set_option maxHeartbeats 1000000 in
set_option maxRecDepth 100000 in
theorem bldString (B b : Nat) (l : List UInt8) (w : World) (h : IsBld w B b l) (h0 : l ≠ []) :
    Calls Tryd.prog 25 #[.pointer (some ⟨b, 0, none⟩)] w fun e w' => e = .returned (.string ⟨l.toArray⟩) ∧ (IsBld w' B b l ∧ Below B w w' ∧ Lib.OthersKept 5 (some b) w w') := by
  obtain ⟨p, hp, hAt⟩ : ∃ p, (p = .pointer none ∨ p = .pointer (some ⟨b, 0, none⟩)) ∧ Lib.BuilderAtF 55 5 B b p (Lib.byteCells l) w := by
    rcases h with h | h
    · exact ⟨_, .inl rfl, h⟩
    · exact ⟨_, .inr rfl, h⟩
  obtain ⟨hB, v, hbk, hown, hne⟩ := hAt
  have hl0 : l.length ≠ 0 := by simpa using h0
  rw [Lib.byteCells_length] at hown
  obtain ⟨g, cap, cur, fz, rfl, hbg, hg, hfz, hnc, hcm, hcs, htake⟩ : ∃ g cap cur fz, v = .slice (some ⟨g, 0, none⟩) l.length cap ∧ B ≤ g ∧ w.heap[g]? = some (.cells cur 5 fz) ∧ fz.2 ≤ l.length * 1 ∧ l.length ≤ cap ∧ cap ≤ maxLen ∧ cur.size = cap * 1 ∧ cur.toList.take (l.length * 1) = Lib.byteCells l := by
    rcases hown.2 with ⟨_, hz⟩ | ⟨g, cap, cur, fz, hv, r⟩
    · exact absurd hz hl0
    · exact ⟨g, cap, cur, fz, hv, r⟩
  have c1 : w.drew.cell? ⟨b, 1, none⟩ = some (.slice (some ⟨g, 0, none⟩) l.length cap) := by
    have : w.drew.heap[b]? = some (.cells #[p, .slice (some ⟨g, 0, none⟩) l.length cap] 55 (0, 0)) := hbk
    rw [Lib.cell_of_heap this]; rfl
  have hSD : (Builtin.unsafeSliceData_ #[53] 81 #[.slice (some ⟨g, 0, none⟩) l.length cap]).run Tryd.prog w.drew = .ok (.pointer (some ⟨g, 0, none⟩)) w.drew :=
    Lib.run_unsafeSliceData_row _ _ _ _ _ _ (by omega)
  have hUS : (Builtin.unsafeString_ #[81, 3] 9 #[.pointer (some ⟨g, 0, none⟩), .int .i64 l.length]).run Tryd.prog w.drew = .ok (.string ⟨l.toArray⟩) (w.drew.freeze ⟨g, 0, none⟩ l.length) := by
    refine Lib.run_unsafeString_row w.drew 81 3 9 5 Tryd.underlying81 cellsU8 g cur.size (by have hg' : w.drew.heap[g]? = some (.cells cur 5 fz) := hg; simp [World.shape?, hg']) l h0 (by omega) (by unfold maxLen at hcm; omega) ?_
    intro j x hx
    have := hown.cells (g := g) rfl j (.int .u8 x.toNat) (by simp [Lib.byteCells, hx])
    exact this
  have hkeep : IsBld (w.drew.freeze ⟨g, 0, none⟩ l.length) B b l := by
    have hA : Lib.BuilderAtF 55 5 B b p (Lib.byteCells l) w.drew := ⟨hB, _, hbk, by rw [Lib.byteCells_length]; exact hown, hne⟩
    have hF := hA.froze (g := g) (cap := cap) (by rw [Lib.byteCells_length]; exact c1)
    rw [Lib.byteCells_length] at hF
    rcases hp with rfl | rfl
    · exact .inl hF
    · exact .inr hF
  go_enter Tryd.func25, Tryd.ntmps25
  go_wp2
  go_region
  all_goals (go_wp2; go_ret; exact ⟨rfl, hkeep, Lib.below_freeze (Below.drew (Below.refl B w)) (p := ⟨g, 0, none⟩) hbg _, ((Lib.OthersKept.refl _ _ w).drew).freeze ⟨g, 0, none⟩ _ ⟨cur, fz, hg⟩⟩)

end Go.Proofs.YtnijlmkodgdhlaaDoor

/-
  Contracts: strings.Builder's WriteString at a Builder of the call's own; package xml's writeText.
-/
namespace Go.Proofs.YtnijlmkodgdhlaaDoor
open Go.RowKit Sc
set_option linter.unusedVariables false
set_option maxRecDepth 20000
set_option linter.unusedSimpArgs false

/-- What writing leaves: the builder has the text; all below B is as it was, and every block of another kind. -/
structure Wrote (B b : Nat) (l : List UInt8) (w w' : World) : Prop where
  bld : IsBld w' B b l
  bel : Below B w w'
  oth : Lib.OthersKept 5 (some b) w w'
theorem Wrote.trans {B b : Nat} {l l' : List UInt8} {w w1 w2 : World} (h : Wrote B b l w w1) (k : Wrote B b l' w1 w2) : Wrote B b l' w w2 := ⟨k.bld, h.bel.trans k.bel, h.oth.trans k.oth⟩
theorem bld_below {B b : Nat} {l : List UInt8} {w w' : World} (h : IsBld w B b l) (hb : Below w.heap.size w w') : IsBld w' B b l := by
  have key : ∀ p, Lib.BuilderAtF 55 5 B b p (Lib.byteCells l) w → Lib.BuilderAtF 55 5 B b p (Lib.byteCells l) w' := by
    rintro p ⟨h1, v, h2, ⟨h3, h4⟩, h5⟩
    refine ⟨h1, v, by rw [hb.block b (Array.getElem?_eq_some_iff.1 h2).1]; exact h2, ⟨h3, ?_⟩, h5⟩
    rcases h4 with h4 | ⟨g, cap, cur, fz, hv, hg, hh, r⟩
    · exact .inl h4
    · exact .inr ⟨g, cap, cur, fz, hv, hg, by rw [hb.block g (Array.getElem?_eq_some_iff.1 hh).1]; exact hh, r⟩
  rcases h with h | h
  · exact .inl (key _ h)
  · exact .inr (key _ h)
theorem oth_below {b : Nat} {w w' : World} (hb : Below w.heap.size w w') : Lib.OthersKept 5 (some b) w w' := fun k o hk _ _ => by
  rw [hb.block k (Array.getElem?_eq_some_iff.1 hk).1]; exact hk
theorem Wrote.of {B b : Nat} {l : List UInt8} {w w' : World} (h : IsBld w B b l) (hB : B ≤ w.heap.size) (hb : Below w.heap.size w w') : Wrote B b l w w' := ⟨bld_below h hb, hb.mono hB, oth_below hb⟩
theorem Wrote.row {B b c : Nat} {l : List UInt8} {w w' : World} {e : TypeId} {us : List Value} (h : Wrote B b l w w') (hr : RowIs w c e us) (hn : c ≠ b) (he : e ≠ 5) : RowIs w' c e us :=
  h.oth c _ hr (fun e => hn (Option.some.inj e)) (fun c' fz e' => by injection e' with _ e2 _; exact he e2)
theorem Wrote.owns {B b C n s : Nat} {l : List UInt8} {w w' : World} {e : TypeId} {v : Value} {xs : List Value} (h : Wrote B b l w w') (ho : w.ownsRow C e s v n xs) (hn : v.ownBlock ≠ some b) (he : e ≠ 5) : w'.ownsRow C e s v n xs := by
  obtain ⟨h1, h2⟩ := ho
  refine ⟨h1, ?_⟩
  rcases h2 with h2 | ⟨g, cap, cur, rfl, hg, hh, r⟩
  · exact .inl h2
  · exact .inr ⟨g, cap, cur, rfl, hg, h.oth g _ hh (fun e => hn (by rw [← e]; rfl)) (fun c' fz e' => by injection e' with _ e2 _; exact he e2), r⟩
theorem bld_lt {B b : Nat} {l : List UInt8} {w : World} (h : IsBld w B b l) : b < w.heap.size := by
  rcases h with ⟨_, v, h2, _⟩ | ⟨_, v, h2, _⟩ <;> exact (Array.getElem?_eq_some_iff.1 h2).1
set_option maxHeartbeats 2000000 in
set_option maxRecDepth 100000 in
theorem xbldWrite (B b : Nat) (l r : List UInt8) (w : World) (h : IsBld w B b l) (hlen : l.length + r.length ≤ 140737488355328) (hBw : B ≤ w.heap.size) :
    Calls Tryd.prog 23 #[.pointer (some ⟨b, 0, none⟩), .string ⟨r.toArray⟩] w fun e w' => e = .returned (.tuple #[.int .i64 r.length, .nilIface]) ∧ Wrote B b (l ++ r) w w' := by
  obtain ⟨i0, hi, hz0, hz1, hz2⟩ := info_parts info5
  have hz : (⟨r.toArray⟩ : ByteArray).size = r.length := size_list r
  have hbl : (Lib.byteCells l).length = l.length := Lib.byteCells_length l
  have KC := hid (copyCheck_any B b (Lib.byteCells l) w h)
  clear h
  go_enter Tryd.func23, Tryd.ntmps23
  go_wp2_with fail
  refine KC.out.mono ?_
  rintro e w1 ⟨rfl, h1, hb1, hk1⟩
  obtain ⟨hB, v, hbk, hown, hne⟩ := h1
  have c0 : w1.cell? ⟨b, 0, none⟩ = some (.pointer (some ⟨b, 0, none⟩)) := by rw [Lib.cell_of_heap hbk]; rfl
  have c1 : w1.cell? ⟨b, 1, none⟩ = some v := by rw [Lib.cell_of_heap hbk]; rfl
  have hlt : b < w1.heap.size := (Array.getElem?_eq_some_iff.1 hbk).1
  have hBw1 : B ≤ w1.heap.size := Nat.le_trans hBw hb1.size
  go_wp2_with (at_builtin; refine Lib.wpList_append_own_stringF _ rfl _ _ 53 9 rfl B 5 i0 Tryd.underlying53 Tryd.underlying9 hi hz0 hz1 hz2 _ _ _ rfl hown ⟨r.toArray⟩ rfl ?c3 ?c4 hBw1 ?_)
  case c3 => rw [hz, hbl]; unfold maxLen; omega
  case c4 => rw [hz, hbl]; omega
  intro v' w2 hown' hgrow _
  have hb2 : w2.heap[b]? = some (.cells #[.pointer (some ⟨b, 0, none⟩), v] 55 (0, 0)) := by
    rw [hgrow.block b hlt (fun e => hne e.symm)]
    exact hbk
  have d0 : w2.cell? ⟨b, 0, none⟩ = some (.pointer (some ⟨b, 0, none⟩)) := by rw [Lib.cell_of_heap hb2]; rfl
  have d1 : w2.cell? ⟨b, 1, none⟩ = some v := by rw [Lib.cell_of_heap hb2]; rfl
  have f1 : w2.frozen? ⟨b, 1, none⟩ = false := Lib.frozen_of_heap hb2 1
  obtain ⟨ao, n', cap, rfl⟩ : ∃ ao n' cap, v' = .slice ao n' cap := by
    rcases hown'.2 with ⟨hv, _⟩ | ⟨g, cap, cur, fz, hv, _⟩
    · exact ⟨_, _, _, hv⟩
    · exact ⟨_, _, _, hv⟩
  have hput := hid (Lib.BuilderAtF.put (T := 55) (e := 5) hB hb2 (bs' := Lib.byteCells l ++ Lib.strCells ⟨r.toArray⟩) (by rw [List.length_append, Lib.strCells_length, hbl, hz]; exact hown') (by decide))
  have hbel := hid ((hb1.grown hgrow hBw1 (fun k hk => (hown.lt k hk).1)).setCell (p := ⟨b, 1, none⟩) hB (.slice ao n' cap))
  have hoth := hid ((hk1.grown hgrow (Lib.ownsRowF_kind hown)).setCell ⟨b, 1, none⟩ rfl (.slice ao n' cap))
  rw [strC_list, ← Lib.byteCells_append] at hput
  clear hown' hgrow hb2 hbk hown hne KC hbl hk1 hb1
  go_wp2
  go_ret2
  exact ⟨by simp, .inr hput.out, hbel.out, hoth.out⟩
theorem xesc_snoc {t : ByteArray} {k : Nat} (h : k < t.size) : escX (t.data.toList.take (k + 1)) = escX (t.data.toList.take k) ++ escS t[k] := by
  rw [take_snoc t k h, escX_app]
  simp [escX]
theorem esc_take (t : ByteArray) (k : Nat) (h : k < t.size) : (escX (t.data.toList.take k)).length + (escS t[k]).length ≤ (escX t.data.toList).length := by
  have e := List.take_append_drop (k + 1) t.data.toList
  have e2 : escX t.data.toList = escX (t.data.toList.take (k + 1)) ++ escX (t.data.toList.drop (k + 1)) := by rw [← escX_app, e]
  rw [e2, xesc_snoc h, List.length_append, List.length_append]
  omega
set_option maxHeartbeats 2000000 in
set_option maxRecDepth 100000 in
theorem writeText_any (B b : Nat) (l : List UInt8) (t : ByteArray) (w : World) (h : IsBld w B b l) (hlen : l.length + (escX t.data.toList).length ≤ 140737488355328) (hts : t.size ≤ 140737488355328) (hBw : B ≤ w.heap.size) :
    Calls Tryd.prog 45 #[.pointer (some ⟨b, 0, none⟩), .string t] w fun e w' => e = .returned (.tuple #[]) ∧ Wrote B b (l ++ escX t.data.toList) w w' := by
  have H := hid h
  have HE : Hid (∀ k, t.size ≤ k → escX (t.data.toList.take k) = escX t.data.toList) := fun k hk => by rw [take_all t k hk]
  have HT := hid (fun k h => esc_take t k h)
  have HS := hid (fun k h => @xesc_snoc t k h)
  clear h
  go_enter Tryd.func45, Tryd.ntmps45
  go_wp2
  go_loopw [7] (fun i wr => ∃ k : Nat, k ≤ t.size ∧ i = .int .i64 k ∧ Wrote B b (l ++ escX (t.data.toList.take k)) w wr ∧ B ≤ wr.heap.size) (fun i _ => t.size - (intOf i).toNat)
  case atStart => exact ⟨0, Nat.zero_le _, rfl, ⟨by simpa [escX] using H.out, Below.refl _ _, Lib.OthersKept.refl _ _ _⟩, hBw⟩
  case round =>
    obtain ⟨k, hk, rfl, hw, hB⟩ := hrel
    by_cases hlt : k < t.size
    · have hbd := u8_bd t[k]
      have htk := HT.out k hlt
      have hsn := HS.out k hlt
      have HW := hid hw
      by_cases h38 : t[k] = 38
      · have q38 : ((t[k].toNat : Int) == 38) = true := u8_eq (b := 38) h38
        rw [h38, show escS 38 = [38, 97, 109, 112, 59] from rfl] at htk hsn
        have KW := hid (xbldWrite B b (l ++ escX (t.data.toList.take k)) [38, 97, 109, 112, 59] wr HW.out.bld (by rw [List.length_append]; omega) hB)
        rw [List.append_assoc, ← hsn] at KW
        clear hsn htk h38 hw
        go_wp2_with fail
        refine (KW.out).mono ?_
        rintro e w2 ⟨rfl, hw2⟩
        go_wp2
        go_roundw
        case rel => exact ⟨k + 1, by omega, by go_num, HW.out.trans hw2, Nat.le_trans hB hw2.bel.size⟩
        case measure => simp [intOf]; omega
      have q38 : ((t[k].toNat : Int) == 38) = false := u8_ne (b := 38) h38
      by_cases h60 : t[k] = 60
      · have q60 : ((t[k].toNat : Int) == 60) = true := u8_eq (b := 60) h60
        rw [h60, show escS 60 = [38, 108, 116, 59] from rfl] at htk hsn
        have KW := hid (xbldWrite B b (l ++ escX (t.data.toList.take k)) [38, 108, 116, 59] wr HW.out.bld (by rw [List.length_append]; omega) hB)
        rw [List.append_assoc, ← hsn] at KW
        clear hsn htk h60 hw
        go_wp2_with fail
        refine (KW.out).mono ?_
        rintro e w2 ⟨rfl, hw2⟩
        go_wp2
        go_roundw
        case rel => exact ⟨k + 1, by omega, by go_num, HW.out.trans hw2, Nat.le_trans hB hw2.bel.size⟩
        case measure => simp [intOf]; omega
      have q60 : ((t[k].toNat : Int) == 60) = false := u8_ne (b := 60) h60
      by_cases h62 : t[k] = 62
      · have q62 : ((t[k].toNat : Int) == 62) = true := u8_eq (b := 62) h62
        rw [h62, show escS 62 = [38, 103, 116, 59] from rfl] at htk hsn
        have KW := hid (xbldWrite B b (l ++ escX (t.data.toList.take k)) [38, 103, 116, 59] wr HW.out.bld (by rw [List.length_append]; omega) hB)
        rw [List.append_assoc, ← hsn] at KW
        clear hsn htk h62 hw
        go_wp2_with fail
        refine (KW.out).mono ?_
        rintro e w2 ⟨rfl, hw2⟩
        go_wp2
        go_roundw
        case rel => exact ⟨k + 1, by omega, by go_num, HW.out.trans hw2, Nat.le_trans hB hw2.bel.size⟩
        case measure => simp [intOf]; omega
      have q62 : ((t[k].toNat : Int) == 62) = false := u8_ne (b := 62) h62
      by_cases h34 : t[k] = 34
      · have q34 : ((t[k].toNat : Int) == 34) = true := u8_eq (b := 34) h34
        rw [h34, show escS 34 = [38, 113, 117, 111, 116, 59] from rfl] at htk hsn
        have KW := hid (xbldWrite B b (l ++ escX (t.data.toList.take k)) [38, 113, 117, 111, 116, 59] wr HW.out.bld (by rw [List.length_append]; omega) hB)
        rw [List.append_assoc, ← hsn] at KW
        clear hsn htk h34 hw
        go_wp2_with fail
        refine (KW.out).mono ?_
        rintro e w2 ⟨rfl, hw2⟩
        go_wp2
        go_roundw
        case rel => exact ⟨k + 1, by omega, by go_num, HW.out.trans hw2, Nat.le_trans hB hw2.bel.size⟩
        case measure => simp [intOf]; omega
      have q34 : ((t[k].toNat : Int) == 34) = false := u8_ne (b := 34) h34
      have hes : escS t[k] = [t[k]] := by unfold escS; rw [if_neg h38, if_neg h60, if_neg h62, if_neg h34]
      rw [hes] at htk hsn
      simp only [List.length_cons, List.length_nil] at htk
      have KB := hid (writeByte_any B b (Lib.byteCells (l ++ escX (t.data.toList.take k))) (t[k].toNat : Int) wr HW.out.bld (by rw [Lib.byteCells_length, List.length_append]; omega) hB)
      rw [show Lib.byteCells (l ++ escX (t.data.toList.take k)) ++ [.int .u8 (t[k].toNat : Int)] = Lib.byteCells (l ++ escX (t.data.toList.take (k + 1))) by rw [hsn, ← List.append_assoc, Lib.byteCells_append (l ++ escX (t.data.toList.take k)) [t[k]]]; rfl] at KB
      clear hsn htk hes h38 h60 h62 h34 hw
      go_wp2_with fail
      refine (KB.out).mono ?_
      rintro e w2 ⟨rfl, h1, h2, h3⟩
      go_wp2
      go_roundw
      case rel => exact ⟨k + 1, by omega, by go_num, HW.out.trans ⟨.inr h1, h2, h3⟩, Nat.le_trans hB h2.size⟩
      case measure => simp [intOf]; omega
    · have hE := HE.out k (by omega)
      rw [hE] at hw
      have HW := hid hw
      clear hE hw
      go_wp2
      first | go_end0 | refine bodyPost_ret (results_none rfl _ _ _) rfl ?_
      exact ⟨rfl, HW.out⟩
theorem writeText_list (B b : Nat) (l t : List UInt8) (w : World) (h : IsBld w B b l) (hlen : l.length + (escX t).length ≤ 140737488355328) (hts : t.length ≤ 140737488355328) (hBw : B ≤ w.heap.size) :
    Calls Tryd.prog 45 #[.pointer (some ⟨b, 0, none⟩), .string ⟨t.toArray⟩] w fun e w' => e = .returned (.tuple #[]) ∧ Wrote B b (l ++ escX t) w w' := writeText_any B b l ⟨t.toArray⟩ w h hlen (by rw [size_list]; exact hts) hBw
end Go.Proofs.YtnijlmkodgdhlaaDoor

/-
  Contracts: package xml's Kids.
-/
namespace Go.Proofs.YtnijlmkodgdhlaaDoor
open Go.RowKit Sc
set_option linter.unusedVariables false
set_option maxRecDepth 20000
set_option linter.unusedSimpArgs false

/-- The places of those that lie one deeper, up to the first that is not deeper. -/
def kidsL (d : Int) : List Nd → Nat → List Nat
  | [], _ => []
  | x :: r, i => if x.deep ≤ d then [] else if x.deep = d + 1 then i :: kidsL d r (i + 1) else kidsL d r (i + 1)
/-- Where elements begin that stand one behind the other. -/
def startsX (d : Nat) : List XT → Nat → List Nat
  | [], _ => []
  | k :: ks, p => p :: startsX d ks (p + (flatX d k).length)
mutual
theorem flatX_deep (d : Nat) : ∀ (t : XT) (x : Nd), x ∈ flatX d t → (d : Int) ≤ x.deep
  | .mk n a tx k, x, h => by
    rw [flatX] at h
    rcases List.mem_cons.1 h with h | h
    · subst h; exact Int.le_refl _
    · have := flatXs_deep (d + 1) k x h; omega
theorem flatXs_deep (d : Nat) : ∀ (ks : List XT) (x : Nd), x ∈ flatXs d ks → (d : Int) ≤ x.deep
  | [], x, h => by rw [flatXs] at h; simp at h
  | k :: ks, x, h => by
    rw [flatXs] at h
    rcases List.mem_append.1 h with h | h
    · exact flatX_deep d k x h
    · exact flatXs_deep d ks x h
end
theorem kids_skip (d : Int) : ∀ (l r : List Nd) (p : Nat), (∀ x ∈ l, d + 2 ≤ x.deep) → kidsL d (l ++ r) p = kidsL d r (p + l.length)
  | [], r, p, _ => by simp
  | x :: l, r, p, h => by
    have hx := h x (by simp)
    rw [List.cons_append, kidsL, if_neg (by omega), if_neg (by omega), kids_skip d l r (p + 1) (fun y hy => h y (by simp [hy]))]
    congr 1
    simp; omega
theorem kids_of (d : Nat) : ∀ (ks : List XT) (post : List Nd) (p : Nat), (∀ x, post.head? = some x → x.deep ≤ (d : Int)) → kidsL d (flatXs (d + 1) ks ++ post) p = startsX (d + 1) ks p
  | [], post, p, h => by
    rw [flatXs, List.nil_append, startsX]
    cases post with
    | nil => rfl
    | cons x r => rw [kidsL, if_pos (h x rfl)]
  | k :: ks, post, p, h => by
    obtain ⟨n, a, tx, kk⟩ := k
    rw [flatXs, List.append_assoc, startsX]
    have e : flatX (d + 1) (.mk n a tx kk) = ⟨((d + 1 : Nat) : Int), n, a, tx⟩ :: flatXs (d + 1 + 1) kk := by rw [flatX]
    rw [e, List.cons_append, kidsL, if_neg (by simp only; omega), if_pos (by simp only; omega), kids_skip _ _ _ _ (fun x hx => by have := flatXs_deep _ _ x hx; omega), kids_of d ks post _ h]
    congr 2
    simp; omega
def posCells (l : List Nat) : List Value := l.map fun (i : Nat) => Value.int .i64 (i : Int)
theorem kids_len (d : Int) : ∀ (l : List Nd) (p : Nat), (kidsL d l p).length ≤ l.length
  | [], p => by simp [kidsL]
  | x :: r, p => by
    rw [kidsL]
    have := kids_len d r (p + 1)
    split
    · simp
    · split
      · simp; omega
      · simp; omega
theorem infoInt : (Tryd.prog.info? 3).map (fun i => (i.zero, i.size, i.bytes)) = some (some (.int .i64 0), 1, 8) := by kernel_rfl
theorem kidsL_at {d : Int} {l : List Nd} {k : Nat} (hk : k < l.length) : kidsL d (l.drop k) k = if l[k].deep ≤ d then [] else if l[k].deep = d + 1 then k :: kidsL d (l.drop (k + 1)) (k + 1) else kidsL d (l.drop (k + 1)) (k + 1) := by
  rw [List.drop_eq_getElem_cons hk, kidsL]
theorem ndsL_get {cs : List NdC} {k : Nat} (h : k < cs.length) : (ndsL cs)[k]'(by rw [ndsL_len]; exact h) = cs[k].nd := by simp [ndsL]
set_option maxHeartbeats 4000000 in
set_option maxRecDepth 100000 in
theorem xkids_any (v : Value) (cs : List NdC) (k : Nat) (w : World) (hk : k < cs.length) (hz : cs.length ≤ 1000000) (hd : 0 ≤ cs[k].nd.deep) (hd2 : cs[k].nd.deep ≤ 1000000) (hv : NdsAt w v cs) :
    Calls Tryd.prog 46 #[v, .int .i64 k] w fun e w' => ∃ kv, e = .returned kv ∧ Own w' w.heap.size 3 kv (posCells (kidsL cs[k].nd.deep ((ndsL cs).drop (k + 1)) (k + 1))) ∧ Below w.heap.size w w' := by
  obtain ⟨i0, hi, hz0, hz1, hz2⟩ := info_parts infoInt
  obtain ⟨ao, cap, rfl, hc⟩ := hv
  obtain ⟨ad, hao, hab, c0, cP⟩ := hc k hk
  subst hao
  have HC : Hid (∀ j (hj : j < cs.length), w.cell? (ad.add (j * 4)) = some (.int .i64 cs[j].nd.deep)) := fun j hj => by
    obtain ⟨ad3, hao3, _, c3, _⟩ := hc j hj
    have : ad3 = ad := (Option.some.inj hao3).symm
    subst this; exact c3.c0
  have z0 := c0.c0
  generalize cs[k].nd.deep = d at z0 hd hd2 ⊢
  obtain ⟨R, hR⟩ : ∃ R, R = kidsL d ((ndsL cs).drop (k + 1)) (k + 1) := ⟨_, rfl⟩
  rw [← hR]
  have HR := hid hR
  obtain ⟨n, hn⟩ : ∃ n, n = cs.length := ⟨_, rfl⟩
  have HL := hid hn
  have hkn : k < n := by omega
  have hzn : n ≤ 1000000 := by omega
  rw [← hn]
  have q1 : ¬ (k : Int) < 0 := by omega
  have q2 : ¬ (n : Int) ≤ (k : Int) := by omega
  have q3 : (k : Int) < (n : Int) := by omega
  have hw1 : IntKind.i64.wrap ((k : Int) + 1) = (k : Int) + 1 := by rw [IntKind.wrap_i64]; omega
  have hw2 : IntKind.i64.wrap (d + 1) = d + 1 := by rw [IntKind.wrap_i64]; omega
  clear hc c0 cP hR hn hk hz
  go_enter Tryd.func46, Tryd.ntmps46
  go_wp2
  go_loopw [6, 7] (fun pv iv wr => ∃ (j : Nat) (acc : List Nat), j ≤ n ∧ k + 1 ≤ j ∧ iv = .int .i64 (j : Int) ∧ Hid (R = acc ++ kidsL d ((ndsL cs).drop j) j) ∧ acc.length ≤ j ∧ Own wr w.heap.size 3 pv (posCells acc) ∧ Below w.heap.size w wr ∧ w.heap.size ≤ wr.heap.size) (fun _ iv _ => n - (intOf iv).toNat)
  case atStart => exact ⟨k + 1, [], by omega, Nat.le_refl _, by first | rfl | (congr 1), HR, by simp, Own.nil _ _ _, Below.refl _ _, Nat.le_refl _⟩
  case round =>
    obtain ⟨j, acc, hjn, hkj, rfl, hv, hal, hown, hb, hB⟩ := hrel
    clear HR z0
    by_cases hlt : j < n
    · have hjl : j < cs.length := by have := HL.out; omega
      have hjl2 : j < (ndsL cs).length := by rw [ndsL_len]; exact hjl
      have cj := cell_below hb (by rw [add_block]; exact hab) (HC.out j hjl)
      have hv2 := hv.out
      rw [kidsL_at hjl2, ndsL_get hjl] at hv2
      generalize cs[j].nd.deep = x at cj hv2
      have q6 : (j : Int) < (n : Int) := by omega
      have hwj : IntKind.i64.wrap ((j : Int) + 1) = (j : Int) + 1 := by rw [IntKind.wrap_i64]; omega
      by_cases hx : x ≤ d
      · rw [if_pos hx, List.append_nil] at hv2
        have hE := hid hv2
        have qx : ¬ d < x := by omega
        clear hv hv2 hx
        go_wp2
        go_ret
        exact ⟨_, rfl, by rw [hE.out]; exact hown, hb⟩
      · have qx : d < x := by omega
        rw [if_neg hx] at hv2
        by_cases hx1 : x = d + 1
        · rw [if_pos hx1] at hv2
          have hE : Hid (R = (acc ++ [j]) ++ kidsL d ((ndsL cs).drop (j + 1)) (j + 1)) := show _ = _ by rw [hv2]; simp
          have q7 : (x == d + 1) = true := by rw [beq_iff_eq]; exact hx1
          have hpl : (posCells acc).length = acc.length := by simp [posCells]
          clear hv hv2 hx hx1
          go_wp2_with (at_builtin; refine wp_app _ rfl (.tmp 46) (.tmp 48) 79 rfl w.heap.size 3 i0 (.int .i64 0) 8 Tryd.underlying79 hi hz0 hz1 hz2 rfl _ _ rfl (hown.alloc _) ⟨_, 0, none⟩ 1 1 [.int .i64 (j : Int)] rfl rfl (by exact one_new _ _ _) (by intro u hu; simp at hu; subst hu; rfl) (by rw [hpl]; unfold maxLen; omega) (by rw [hpl]; omega) w (hb.alloc hB _) (by simp; omega) ?_; intro v3 w3 hown3 hb3 hB3)
          rw [show posCells acc ++ [.int .i64 (j : Int)] = posCells (acc ++ [j]) by simp [posCells]] at hown3
          go_roundw
          case rel => exact ⟨j + 1, acc ++ [j], by omega, by omega, by first | rfl | (congr 1), hE, by simp; omega, hown3, hb3, hB3⟩
          case measure => simp [intOf]; omega
        · rw [if_neg hx1] at hv2
          have hE := hid hv2
          have q7 : (x == d + 1) = false := by rw [beq_eq_false_iff_ne]; exact hx1
          clear hv hv2 hx hx1
          go_wp2
          go_roundw
          case rel => exact ⟨j + 1, acc, by omega, by omega, by first | rfl | (congr 1), hE, by omega, hown, hb, hB⟩
          case measure => simp [intOf]; omega
    · have hE : Hid (R = acc) := show _ = _ by
        rw [hv.out, List.drop_eq_nil_of_le (by rw [ndsL_len]; have := HL.out; omega), kidsL, List.append_nil]
      have q6 : ¬ (j : Int) < (n : Int) := by omega
      clear hv
      go_wp2
      go_ret
      exact ⟨_, rfl, by rw [hE.out]; exact hown, hb⟩
end Go.Proofs.YtnijlmkodgdhlaaDoor
