/-
  A wheel, from outside: which row it keeps, and what its calls leave as it was.
-/
import Derived.Test.YthioekmlljpbpaaWDue
namespace Go.Proofs.Ythioekmlljpbpaa
open Go.RowKit Go.Maps Go.WideMaps
set_option linter.unusedVariables false
set_option maxRecDepth 20000

/-- The wheel at b, in blocks from B on and below U, keeps the row l. -/
def WWu (B U b : Nat) (w : World) (l : List Tm) : Prop := ∃ m v f n D, WH b m B v f n D w l ∧ n ≤ 4096 ∧ ∀ k, WS b m v f n k → k < U
def WW (B b : Nat) (w : World) (l : List Tm) : Prop := WWu B w.heap.size b w l
/-- What a wheel's call leaves: all below B, and every block of cells that is of none of a wheel's types. -/
structure Fr (B : Nat) (w w' : World) : Prop where
  below : Below B w w'
  keep : ∀ (k : Nat) (cs : Array Value) (e : TypeId) (x : Nat × Nat), w.heap[k]? = some (Obj.cells cs e x) → e ≠ 63 → e ≠ 69 → e ≠ 66 → w'.heap[k]? = some (Obj.cells cs e x)
theorem Fr.refl (B : Nat) (w : World) : Fr B w w := ⟨Below.refl _ _, fun _ _ _ _ h _ _ _ => h⟩
theorem Fr.trans {B : Nat} {a b c : World} (h : Fr B a b) (k : Fr B b c) : Fr B a c := ⟨h.below.trans k.below, fun i cs e x hh n1 n2 n3 => k.keep i cs e x (h.keep i cs e x hh n1 n2 n3) n1 n2 n3⟩
theorem Fr.of {B : Nat} {w w' : World} (h : Below w.heap.size w w') (hB : B ≤ w.heap.size) : Fr B w w' :=
  ⟨h.mono hB, fun k cs e x hh _ _ _ => by rw [h.block k (Array.getElem?_eq_some_iff.1 hh).1]; exact hh⟩
theorem Fr.mono {B B' : Nat} {w w' : World} (h : Fr B w w') (hB : B' ≤ B) : Fr B' w w' := ⟨h.below.mono hB, h.keep⟩
theorem Fr.row {B : Nat} {w w' : World} {b : Nat} {e : TypeId} {l : List Value} (h : Fr B w w') (hr : RowIs w b e l) (n1 : e ≠ 63) (n2 : e ≠ 69) (n3 : e ≠ 66) : RowIs w' b e l := by
  unfold RowIs at hr ⊢
  exact h.keep _ _ _ _ hr n1 n2 n3
section
variable {bw m B U : Nat} {v : Value} {f : Nat → It} {n : Nat} {D : DataW Unit} {w w' : World} {l : List Tm}
theorem WH.ws_lt (h : WH bw m B v f n D w l) {k : Nat} (hk : WS bw m v f n k) : B ≤ k ∧ k < w.heap.size := by
  refine ⟨(h.ss hk).1, ?_⟩
  rcases (h.ss hk).2 with rfl | rfl | ⟨i, hi, rfl⟩ | ⟨cs, e⟩
  · exact h.mp.lt
  · exact (Array.getElem?_eq_some_iff.1 h.q.wheel).1
  · exact (Array.getElem?_eq_some_iff.1 (h.q.item i hi)).1
  · exact (Array.getElem?_eq_some_iff.1 e).1
theorem WH.fr (h : WH bw m B v f n D w l) (hc : Chg (SS B bw m f n w) w w') : Fr B w w' := by
  have hB : B ≤ w.heap.size := Nat.le_trans h.wlo (Nat.le_of_lt (Array.getElem?_eq_some_iff.1 h.q.wheel).1)
  refine ⟨hc.below hB fun k hk => hk.1, fun k cs e x hh n1 n2 n3 => ?_⟩
  rw [hc.block k (Array.getElem?_eq_some_iff.1 hh).1]
  · exact hh
  · rintro ⟨_, rfl | rfl | ⟨i, hi, rfl⟩ | ⟨cs', e'⟩⟩
    · exact map_no_row h.mp _ _ _ hh
    · have := h.q.wheel
      unfold RowIs at this
      rw [this] at hh
      simp at hh
      exact n1 hh.2.1.symm
    · have := h.q.item i hi
      unfold RowIs at this
      rw [this] at hh
      simp at hh
      exact n2 hh.2.1.symm
    · rw [e'] at hh
      simp at hh
      exact n3 hh.2.1.symm
theorem WH.ww (h : WH bw m B v f n D w l) (hn : n ≤ 4096) : WW B bw w l := ⟨m, v, f, n, D, h, hn, fun k hk => (h.ws_lt hk).2⟩
theorem WWu.ww (h : WWu B U bw w l) : WW B bw w l := by
  obtain ⟨m, v, f, n, D, h, hn, _⟩ := h
  exact h.ww hn
theorem WW.row (h : WW B bw w l) : Row9 l ∧ l.length ≤ 4096 := by
  obtain ⟨m, v, f, n, D, h, hn, _⟩ := h
  exact ⟨h.k.row, by rw [h.k.len]; exact hn⟩
theorem WW.lo (h : WW B bw w l) : B ≤ w.heap.size := by
  obtain ⟨m, v, f, n, D, h, hn, _⟩ := h
  exact Nat.le_trans h.wlo (Nat.le_of_lt (Array.getElem?_eq_some_iff.1 h.q.wheel).1)
theorem WWu.chg {S : Nat → Prop} (h : WWu B U bw w l) (hc : Chg S w w') (hn : ∀ k, B ≤ k → k < U → ¬ S k) : WWu B U bw w' l := by
  obtain ⟨m, v, f, n, D, h, h4, hu⟩ := h
  exact ⟨m, v, f, n, D, h.chg hc fun k hk => hn k (h.ws_lt hk).1 (hu k hk), h4, hu⟩
theorem WWu.below (h : WWu B U bw w l) (hb : Below U w w') : WWu B U bw w' l := h.chg (S := fun k => U ≤ k) ⟨hb.os, hb.tape, hb.output, hb.size, fun k _ hn => hb.block k (by omega)⟩ (fun k _ h1 h2 => by omega)
/-- What only makes memory keeps a wheel. -/
theorem WW.below (h : WW B bw w l) (hb : Below w.heap.size w w') : WW B bw w' l := (WWu.below h hb).ww
theorem WW.new (h : WW B bw w l) (o : Obj) : WW B bw (w.alloc o) l := h.below ((Below.refl _ _).alloc (Nat.le_refl _) o)
theorem WW.drew (h : WW B bw w l) : WW B bw w.drew l := h.below (Below.refl _ _).drew
theorem TmsAt'.fr {ts : List Tm} {va : Value} {B' : Nat} (h : OwnT w B' va ts) (hf : Fr B w w') : OwnT w' B' va ts := by
  obtain ⟨h1, h2⟩ := h
  refine ⟨h1, ?_⟩
  rcases h2 with h2 | ⟨g, cap, cur, hv, hg, hh, r⟩
  · exact Or.inl h2
  · exact Or.inr ⟨g, cap, cur, hv, hg, hf.keep g _ _ _ hh (by decide) (by decide) (by decide), r⟩
/-- An append to a row of timers keeps a wheel. -/
theorem WW.app (h : WW B bw w l) {B' : Nat} {va : Value} {ts : List Tm} (ho : OwnT w B' va ts) (hg : w.grownBy w' va.ownBlock) : WW B bw w' l := by
  obtain ⟨m, v, f, n, D, h, h4, _⟩ := h
  exact (h.app ho hg).ww h4

theorem wwhen_any (h : WW B bw w l) {id : Int} (hwf : (Lit.int .i64 id).wf = true) :
    Calls Try.prog 10 #[.pointer (some ⟨bw, 0, none⟩), .int .i64 id] w fun e w' => e = .returned (whenV l id) ∧ w' = w := by
  obtain ⟨m, v, f, n, D, h, hn, _⟩ := h
  exact when_any h hwf
theorem wwlen_any (h : WW B bw w l) :
    Calls Try.prog 22 #[.pointer (some ⟨bw, 0, none⟩)] w fun e w' => e = .returned (.int .i64 l.length) ∧ w' = w := by
  obtain ⟨m, v, f, n, D, h, hn, _⟩ := h
  exact wlen_any h
theorem wwnext_any (h : WW B bw w l) :
    Calls Try.prog 24 #[.pointer (some ⟨bw, 0, none⟩)] w fun e w' => e = .returned (nextV l) ∧ Below w.heap.size w w' := by
  obtain ⟨m, v, f, n, D, h, hn, _⟩ := h
  exact next_any h
theorem wwset_any (h : WW B bw w l) {id a : Int} (hwf : (Lit.int .i64 id).wf = true) :
    Calls Try.prog 13 #[.pointer (some ⟨bw, 0, none⟩), .int .i64 id, .int .i64 a] w fun e w' => e = .returned (.int .i64 (setE l id a)) ∧ WW B bw w' (setR l id a) ∧ Fr B w w' := by
  obtain ⟨m, v, f, n, D, h, hn, _⟩ := h
  refine (set_any h hwf hn).mono ?_
  rintro e w' ⟨rfl, v', f', n', D', h', hn', hc⟩
  exact ⟨rfl, h'.ww hn', h.fr hc⟩
theorem wwstop_any (h : WW B bw w l) {id : Int} (hwf : (Lit.int .i64 id).wf = true) :
    Calls Try.prog 15 #[.pointer (some ⟨bw, 0, none⟩), .int .i64 id] w fun e w' => e = .returned (.bool (whenT l id).isSome) ∧ WW B bw w' (stopT l id) ∧ Fr B w w' := by
  obtain ⟨m, v, f, n, D, h, hn, _⟩ := h
  refine (stop_any h hwf (by omega)).mono ?_
  rintro e w' ⟨rfl, v', f', n', D', h', hn', hc⟩
  exact ⟨rfl, h'.ww (by omega), h.fr (hc.mono fun k _ x => h.ss x)⟩
theorem wwdue_any (h : WW B bw w l) {now : Int} :
    Calls Try.prog 18 #[.pointer (some ⟨bw, 0, none⟩), .int .i64 now] w fun e w' => ∃ va, e = .returned va ∧ OwnT w' w.heap.size va (dueT l now) ∧ WW B bw w' (leftT l now) ∧ Fr B w w' := by
  obtain ⟨m, v, f, n, D, h, hn, _⟩ := h
  refine (due_any h hn).mono ?_
  rintro e w' ⟨va, rfl, ho, v', f', n', D', h', hn', hs, hc⟩
  exact ⟨va, rfl, ho, h'.ww (by omega), h.fr (hc.mono fun k _ x => h.ss x)⟩
/-- Due of one wheel keeps another that was begun behind it. -/
theorem wwdue_two {b2 : Nat} {l2 : List Tm} (h : WWu B U bw w l) (h2 : WW U b2 w l2) {now : Int} :
    Calls Try.prog 18 #[.pointer (some ⟨bw, 0, none⟩), .int .i64 now] w fun e w' => ∃ va, e = .returned va ∧ OwnT w' w.heap.size va (dueT l now) ∧ WWu B U bw w' (leftT l now) ∧ WW U b2 w' l2 ∧ Fr B w w' := by
  obtain ⟨m, v, f, n, D, h, hn, hu⟩ := h
  refine (due_any h hn).mono ?_
  rintro e w' ⟨va, rfl, ho, v', f', n', D', h', hn', hs, hc⟩
  exact ⟨va, rfl, ho, ⟨m, v', f', n', D', h', by omega, fun k hk => hu k (hs k hk)⟩, (WWu.chg h2 hc fun k hk _ x => by have := hu k x; omega).ww, h.fr (hc.mono fun k _ x => h.ss x)⟩
end
end Go.Proofs.Ythioekmlljpbpaa
