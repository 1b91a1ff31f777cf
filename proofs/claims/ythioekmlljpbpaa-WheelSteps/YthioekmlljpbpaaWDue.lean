/-
  The wheel's Due.
-/
import Derived.Test.YthioekmlljpbpaaWTm
namespace Go.Proofs.Ythioekmlljpbpaa
open Go.RowKit Go.Maps Go.WideMaps
set_option linter.unusedVariables false
set_option maxRecDepth 20000

def lenV : Value → Nat | .slice _ n _ => n | _ => 0
theorem due_stop {l : List Tm} {now : Int} {k : Nat} (h1 : ∀ t ∈ l.take k, t.1 ≤ now) (h2 : ∀ t r, l.drop k = t :: r → ¬ t.1 ≤ now) : dueT l now = l.take k ∧ leftT l now = l.drop k := by
  have e := (List.take_append_drop k l).symm
  have p1 : ∀ t ∈ l.take k, decide (t.1 ≤ now) = true := fun t ht => decide_eq_true (h1 t ht)
  have q : (l.drop k).takeWhile (fun t => decide (t.1 ≤ now)) = [] ∧ (l.drop k).dropWhile (fun t => decide (t.1 ≤ now)) = l.drop k := by
    cases hd : l.drop k with
    | nil => exact ⟨rfl, rfl⟩
    | cons t r =>
      have := h2 t r hd
      constructor
      · rw [List.takeWhile_cons, if_neg (by simpa using this)]
      · rw [List.dropWhile_cons, if_neg (by simpa using this)]
  unfold dueT leftT
  constructor
  · conv => lhs; rw [e]
    rw [List.takeWhile_append_of_pos p1, q.1, List.append_nil]
  · conv => lhs; rw [e]
    rw [List.dropWhile_append_of_pos p1, q.2]
section
variable {bw m B : Nat} {v : Value} {f : Nat → It} {n : Nat} {D : DataW Unit} {w : World} {l : List Tm}
/-- Where Due stands: k timers are out, the others are as they were. -/
def DueIn (B bw m : Nat) (v : Value) (f : Nat → It) (n : Nat) (w : World) (l : List Tm) (now : Int) (va : Value) (wr : World) : Prop :=
  ∃ k v' f' n' D', (∀ t ∈ l.take k, t.1 ≤ now) ∧ OwnT wr w.heap.size va (l.take k) ∧ WH bw m B v' f' n' D' wr (l.drop k) ∧ n' + k = n ∧ (∀ x, WS bw m v' f' n' x → WS bw m v f n x) ∧ Chg (WS bw m v f n) w wr
def DueOut (B bw m : Nat) (v : Value) (f : Nat → It) (n : Nat) (w : World) (l : List Tm) (now : Int) (va : Value) (w' : World) : Prop := OwnT w' w.heap.size va (dueT l now) ∧ ∃ v' f' n' D', WH bw m B v' f' n' D' w' (leftT l now) ∧ n' ≤ n ∧ (∀ x, WS bw m v' f' n' x → WS bw m v f n x) ∧ Chg (WS bw m v f n) w w'
theorem tm_new (w : World) (t : Tm) : ∀ (j : Nat) (u : Value), (tmCells t)[j]? = some u → (w.alloc (.cells #[.int .i64 t.1, .int .i64 t.2] 49)).cell? ((⟨w.heap.size, 0, none⟩ : Addr).add j) = some u := by
  intro j u hj
  match j, hj with
  | 0, hj => simp [tmCells] at hj; subst hj; simp [Addr.add]
  | 1, hj => simp [tmCells] at hj; subst hj; simp [Addr.add]
/-- One more is out. -/
theorem due_step {now : Int} {va v' va' : Value} {f' : Nat → It} {n' k : Nat} {D' : DataW Unit} {wr w2 w4 : World} {t : Tm} {r : List Tm} (hd : l.drop k = t :: r) (ht : t.1 ≤ now) (hall : ∀ t ∈ l.take k, t.1 ≤ now) (hw : WH bw m B v' f' (n' + 1) D' wr (t :: r))
    (hnk : n' + 1 + k = n) (hss : ∀ x, WS bw m v' f' (n' + 1) x → WS bw m v f n x) (hch : Chg (WS bw m v f n) w wr)
    (hto : TakeOut B bw m v' f' n' wr (t :: r) 0 w2) (o : Obj) (ho4 : OwnT w4 w.heap.size va' (l.take k ++ [t])) (hown : OwnT (w2.alloc o) w.heap.size va (l.take k)) (hg4 : (w2.alloc o).grownBy w4 va.ownBlock) :
    DueIn B bw m v f n w l now va' w4 := by
  have hft := hw.k.first.2
  obtain ⟨v1, f1, D1, W2, hs2, hc2⟩ := hto
  rw [hft, stop_first hw.k.row] at W2
  have W4 := (W2.new o).app hown hg4
  have hk : k < l.length := by
    have := congrArg List.length hd
    simp at this
    omega
  have hlk : l[k] = t := by
    have e := List.drop_eq_getElem_cons hk
    rw [hd] at e
    injection e with e _
    exact e.symm
  have htk : l.take (k + 1) = l.take k ++ [t] := by rw [List.take_succ_eq_append_getElem hk, hlk]
  have hdk : l.drop (k + 1) = r := by
    have e := List.drop_eq_getElem_cons hk
    rw [hd] at e
    injection e with _ e
    exact e.symm
  refine ⟨k + 1, v1, f1, n', _, ?_, by rw [htk]; exact ho4, by rw [hdk]; exact W4, by omega, fun x hs => hss x (hs2 x hs), ?_⟩
  · intro t' h'
    rw [htk] at h'
    rcases List.mem_append.1 h' with h' | h'
    · exact hall t' h'
    · simp at h'; subst h'; exact ht
  · refine ((hch.step hc2 fun x _ hs => hss x hs).alloc o).grown hg4 fun x e hx => ?_
    have := (hown.row e).1
    omega

def dueB (l : List Tm) (now : Int) : Bool := match l with | t :: _ => decide (t.1 ≤ now) | [] => false
set_option maxHeartbeats 4000000 in
set_option maxRecDepth 100000 in
theorem isdue_any (h : WH bw m B v f n D w l) {now : Int} :
    Calls Try.prog 29 #[.pointer (some ⟨bw, 0, none⟩), .int .i64 now] w fun e w' => e = .returned (.bool (dueB l now)) ∧ Below w.heap.size w w' := by
  have KN := hid (next_any h)
  clear h
  cases l with
  | nil =>
    unfold nextV at KN
    go_enter Try.func29, Try.ntmps29
    go_wp2_with (go_at_call 24; refine KN.out.mono ?_; rintro e w1 ⟨rfl, hb1⟩; replace hb1 := hid hb1)
    go_ret
    exact ⟨rfl, hb1.out.alloc hb1.out.size _⟩
  | cons t l =>
    unfold nextV at KN
    have hz := fun (w1 : World) => two_new w1 t.1 t.2
    go_enter Try.func29, Try.ntmps29
    go_wp2_with (go_at_call 24; refine KN.out.mono ?_; rintro e w1 ⟨rfl, hb1⟩; replace hb1 := hid hb1)
    go_ret
    exact ⟨rfl, hb1.out.alloc hb1.out.size _⟩

set_option maxHeartbeats 4000000 in
set_option maxRecDepth 100000 in
theorem due_any (h : WH bw m B v f n D w l) {now : Int} (hn : n ≤ 4096) :
    Calls Try.prog 18 #[.pointer (some ⟨bw, 0, none⟩), .int .i64 now] w fun e w' => ∃ va, e = .returned va ∧ DueOut B bw m v f n w l now va w' := by
  obtain ⟨i0, hi, hz0, hz1, hz2⟩ := info_parts infoTm
  have I0 : Hid (DueIn B bw m v f n w l now (.slice none 0 0) w) := ⟨0, v, f, n, D, by simp, OwnT.nil _ _, h, by omega, fun x hs => hs, Chg.refl _ _⟩
  clear h
  go_enter Try.func18, Try.ntmps18
  go_wp2
  go_loopw [5] (fun va wr => Hid (DueIn B bw m v f n w l now va wr)) (fun va _ => n - lenV va)
  case atStart => exact I0
  case round =>
    obtain ⟨k, v', f', n', D', hall, hown, hw, hnk, hss, hch⟩ := hrel.out
    clear I0 hrel
    obtain ⟨oa, oc, hoe⟩ := hown.form
    obtain ⟨K, hK⟩ : ∃ K, K = (l.take k).length := ⟨_, rfl⟩
    rw [← hK] at hoe
    have HK := hid hK
    clear hK
    subst hoe
    have KI := hid (isdue_any hw (now := now))
    -- the wheel, and the row, behind isDue
    have W1 := hid (fun (w1 : World) (hb : Below wr.heap.size wr w1) => hw.chg (S := No) (chg_below hb) (fun _ _ x => x))
    have O1 := hid (fun (w1 : World) (hb : Below wr.heap.size wr w1) => hown.chg (S := No) (chg_below hb) (fun _ _ x => x))
    have C1 := hid (fun (w1 : World) (hb : Below wr.heap.size wr w1) => hch.no (chg_below hb))
    clear hown hw hch
    cases hd : l.drop k with
    | nil =>
      rw [hd] at KI W1
      have KI' : Hid (Calls Try.prog 29 #[.pointer (some ⟨bw, 0, none⟩), .int .i64 now] wr fun e w' => e = .returned (.bool false) ∧ Below wr.heap.size wr w') := KI.out
      clear KI
      have OUT := hid (fun (w1 : World) (hb : Below wr.heap.size wr w1) => show DueOut B bw m v f n w l now (.slice oa K oc) w1 by
        obtain ⟨e1, e2⟩ := due_stop hall (fun t r e => by rw [hd] at e; cases e)
        unfold DueOut
        rw [e1, e2, hd]
        exact ⟨O1.out _ hb, v', f', n', D', W1.out _ hb, by omega, hss, C1.out _ hb⟩)
      clear W1 O1 C1 hall hss
      go_wp2_with (go_at_call 29; refine KI'.out.mono ?_; rintro e w1 ⟨rfl, hb1⟩; replace hb1 := hid hb1)
      go_ret
      exact ⟨_, rfl, OUT.out _ hb1.out⟩
    | cons t r =>
      rw [hd] at KI W1
      by_cases htn : t.1 ≤ now
      · have KI' : Hid (Calls Try.prog 29 #[.pointer (some ⟨bw, 0, none⟩), .int .i64 now] wr fun e w' => e = .returned (.bool true) ∧ Below wr.heap.size wr w') := by
          have := KI.out
          rw [show dueB (t :: r) now = true from decide_eq_true htn] at this
          exact this
        clear KI
        have hkl : k < l.length := by
          have := congrArg List.length hd
          simp at this
          omega
        have hKk : K = k := by rw [HK.out, List.length_take]; omega
        subst hKk
        obtain ⟨hn0, hft⟩ := (W1.out wr (Below.refl _ _)).k.first
        obtain ⟨n', rfl⟩ : ∃ j, n' = j + 1 := ⟨n' - 1, by omega⟩
        have KT := hid (fun (w1 : World) (hb : Below wr.heap.size wr w1) => by
          have := take_any (W1.out w1 hb) (i := 0) (by omega) (by omega)
          rw [hft] at this
          exact this)
        have ST := hid (fun (w1 w2 : World) (hb : Below wr.heap.size wr w1) (va' : Value) (w4 : World) (o : Obj) a1 a2 a3 a4 => due_step (va' := va') (w2 := w2) (w4 := w4) (va := .slice oa K oc) hd htn hall (W1.out w1 hb) hnk hss (C1.out w1 hb) a1 o a2 a3 a4)
        have OC := hid (fun (w1 w2 : World) (hb : Below wr.heap.size wr w1) (hto : TakeOut B bw m v' f' n' w1 (t :: r) 0 w2) => by
          obtain ⟨v1, f1, D1, W2, hs2, hc2⟩ := hto
          exact (⟨(O1.out w1 hb).chg hc2 (fun kk e x => (W1.out w1 hb).noTs (O1.out w1 hb) kk e ((W1.out w1 hb).ss x)), Nat.le_trans (C1.out w1 hb).size hc2.size⟩ : OwnT w2 w.heap.size (.slice oa K oc) (l.take K) ∧ w.heap.size ≤ w2.heap.size))
        clear W1 O1 C1 hall hss hft
        go_wp2_with (first
          | (go_at_call 29; refine KI'.out.mono ?_; rintro e w1 ⟨rfl, hb1⟩; replace hb1 := hid hb1)
          | (go_at_call 28; refine (KT.out _ hb1.out).mono ?_; rintro e w2 ⟨rfl, hto⟩; have O2 := hid (OC.out _ _ hb1.out hto); have SZ2 : Hid (∀ o, w.heap.size ≤ (w2.alloc o).heap.size) := (fun o => Nat.le_trans O2.out.2 (by simp)); replace hto := hid hto)
          | (at_builtin; refine wp_appTm _ rfl (.tmp 9) (.tmp 12) 25 rfl w.heap.size i0 _ Try.underlying25 hi hz0 hz1 hz2 rfl (.slice oa K oc) (l.take K) rfl (OwnT.alloc O2.out.1 _) ⟨_, 0, none⟩ 1 t rfl (tm_new _ _) (by rw [← HK.out]; omega) (SZ2.out _) ?_; intro v4 w4 hown4 hgr4; have I4 := hid (ST.out _ _ hb1.out _ _ _ hto.out hown4 (OwnT.alloc O2.out.1 _) hgr4); (obtain ⟨oa4, oc4, hoe4⟩ := hown4.form); rw [List.length_append, ← HK.out] at hoe4; subst hoe4; clear hown4 hgr4))
        go_roundw
        case rel => exact I4
        case measure => simp [lenV]; omega
      · have KI' : Hid (Calls Try.prog 29 #[.pointer (some ⟨bw, 0, none⟩), .int .i64 now] wr fun e w' => e = .returned (.bool false) ∧ Below wr.heap.size wr w') := by
          have := KI.out
          rw [show dueB (t :: r) now = false from decide_eq_false htn] at this
          exact this
        clear KI
        have OUT := hid (fun (w1 : World) (hb : Below wr.heap.size wr w1) => show DueOut B bw m v f n w l now (.slice oa K oc) w1 by
          obtain ⟨e1, e2⟩ := due_stop hall (fun t' r' e => by rw [hd] at e; injection e with e _; subst e; exact htn)
          unfold DueOut
          rw [e1, e2, hd]
          exact ⟨O1.out _ hb, v', f', n', D', W1.out _ hb, by omega, hss, C1.out _ hb⟩)
        clear W1 O1 C1 hall hss
        go_wp2_with (go_at_call 29; refine KI'.out.mono ?_; rintro e w1 ⟨rfl, hb1⟩; replace hb1 := hid hb1)
        go_ret
        exact ⟨_, rfl, OUT.out _ hb1.out⟩
end
end Go.Proofs.Ythioekmlljpbpaa
