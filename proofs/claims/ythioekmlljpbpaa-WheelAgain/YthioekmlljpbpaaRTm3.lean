/-
  Timers, compared; the document's own Same and Stop.
-/
import Derived.Test.YthioekmlljpbpaaRTm2
import Derived.Laws.StructEq
namespace Go.Proofs.Ythioekmlljpbpaa
open Go.RowKit
set_option linter.unusedVariables false
set_option maxRecDepth 20000
set_option linter.unusedSimpArgs false

theorem stoodTm : Try.prog.stoodInHeld 49 = false := by kernel_rfl
theorem guardTm : Try.prog.eqGuardType Try.prog.depth 49 = false := by kernel_rfl
theorem fieldsTm : Try.prog.underlying 49 = some (.struct (Try.prog.fieldsOf 49)) := by kernel_rfl
theorem listTm : (Try.prog.fieldsOf 49).toList.map (fun f => (f.type, f.offset, f.name == "_")) = [(3, 0, false), (3, 1, false)] := by kernel_rfl
theorem plainIntT : Try.prog.plainKey 3 = true := by kernel_rfl
theorem equalTm (x y x' y' : Int) (u : World) : (Op.equalIn 10000 49 (.agg #[.int .i64 x, .int .i64 y]) (.agg #[.int .i64 x', .int .i64 y'])).run Try.prog u = .ok (x == x' && y == y') u := by
  rw [run_equalIn_agg _ 9999 _ _ _ fieldsTm stoodTm]
  have h := listTm
  generalize (Try.prog.fieldsOf 49).toList = fs at h ⊢
  have hlen : fs.length = 2 := by have := congrArg List.length h; simpa using this
  match fs, hlen, h with
  | [f0, f1], _, h =>
    simp only [List.map_cons, List.map_nil, List.cons.injEq, Prod.mk.injEq, and_true, beq_eq_false_iff_ne] at h
    obtain ⟨⟨t0, o0, n0⟩, t1, o1, n1⟩ := h
    have p0 : ∀ (X Y : Int) (v : World), (part 3 #[.int .i64 X, .int .i64 Y] 0).run Try.prog v = .ok (.int .i64 X) v := fun X Y v => run_part_plain v plainIntT rfl
    have p1 : ∀ (X Y : Int) (v : World), (part 3 #[.int .i64 X, .int .i64 Y] 1).run Try.prog v = .ok (.int .i64 Y) v := fun X Y v => run_part_plain v plainIntT rfl
    have q2 : ∀ (X Y : Int) (v : World), (Op.equalIn 9999 3 (.int .i64 X) (.int .i64 Y)).run Try.prog v = .ok (X == Y) v := fun X Y v => run_equalIn_int v 9998 _ _ _ X Y Try.underlying3
    simp only [Op.eqFields, t0, t1, o0, o1, Sem.run_bind, Sem.run_ite, if_pos n0, if_pos n1, p0, p1, q2, Result.andThen_ok]
    cases h0 : (x == x') <;> cases h1 : (y == y') <;> rfl
theorem eqlTm (a b : Tm) (u : World) : (binOp .eql 49 (.agg #[.int .i64 a.1, .int .i64 a.2]) (.agg #[.int .i64 b.1, .int .i64 b.2])).run Try.prog u = .ok (.bool (decide (a = b))) u := by
  rw [run_eql_struct, equalTm]
  obtain ⟨x, y⟩ := a
  obtain ⟨x', y'⟩ := b
  simp only [Result.andThen_ok]
  congr 2
  rw [Bool.eq_iff_iff]
  simp
theorem neqTm (a b : Tm) (u : World) : (binOp .neq 49 (.agg #[.int .i64 a.1, .int .i64 a.2]) (.agg #[.int .i64 b.1, .int .i64 b.2])).run Try.prog u = .ok (.bool (!decide (a = b))) u := by
  rw [run_neq_struct, equalTm]
  obtain ⟨x, y⟩ := a
  obtain ⟨x', y'⟩ := b
  simp only [Result.andThen_ok]
  congr 2
  rw [Bool.eq_iff_iff]
  simp

set_option maxHeartbeats 4000000 in
set_option maxRecDepth 100000 in
theorem refstop_any {w : World} {v : Value} {l : List Tm} (h : TmsAt w v l) {id : Int} (hn : l.length ≤ 1000000) :
    Calls Try.prog 14 #[v, .int .i64 id] w fun e w' => ∃ v1, e = .returned (.tuple #[v1, .bool (decide ((stopT l id).length < l.length))]) ∧ OwnT w' w.heap.size v1 (stopT l id) ∧ Below w.heap.size w w' := by
  obtain ⟨i0, hi, hz0, hz1, hz2⟩ := info_parts infoTm
  have HH := hid h
  obtain ⟨ao, cap, rfl, hcap, hr⟩ := h
  have HR := hid hr
  obtain ⟨n, hnn⟩ : ∃ n, n = l.length := ⟨_, rfl⟩
  rw [← hnn] at hn hcap HH ⊢
  have HN := hid hnn
  clear hr hnn
  go_enter Try.func14, Try.ntmps14
  go_wp2
  go_loopw [7, 6] (fun i va wr => ∃ k : Nat, k ≤ n ∧ i = .int .i64 k ∧ Hid (OwnT wr w.heap.size va (stopT (l.take k) id)) ∧ Hid (Below w.heap.size w wr)) (fun i _ _ => n - (intOf i).toNat)
  case atStart => exact ⟨0, by omega, rfl, OwnT.nil _ _, Below.refl _ _⟩
  case round =>
    obtain ⟨k, hk, rfl, hown, hb⟩ := hrel
    obtain ⟨oa, oc, hoe⟩ := hown.out.form
    obtain ⟨K, hK⟩ : ∃ K, K = (stopT (l.take k) id).length := ⟨_, rfl⟩
    rw [← hK] at hoe
    have HK := hid hK
    clear hK
    subst hoe
    by_cases hlt : k < n
    · have hlt' : (k : Int) < n := by omega
      have hkl : k < l.length := by rw [← HN.out]; exact hlt
      obtain ⟨g, off, cs, hao, hh, hcell⟩ := HR.out (by intro e; rw [e] at hkl; simp at hkl)
      subst hao
      have gl : g < w.heap.size := (Array.getElem?_eq_some_iff.1 hh).1
      rw [← hb.out.block g gl] at hh
      have c0 := cells_at hh (hcell k hkl).1
      have c1 := cells_at hh (hcell k hkl).2
      have ST : Hid (stopT (l.take (k + 1)) id = stopT (l.take k) id ++ (if l[k].2 = id then [] else [l[k]])) := by
        rw [List.take_succ_eq_append_getElem hkl]
        unfold stopT
        rw [List.filter_append]
        congr 1
        by_cases e : l[k].2 = id <;> simp [e]
      have HKk : K ≤ k := by
        rw [HK.out]
        unfold stopT
        exact Nat.le_trans (List.length_filter_le _ _) (by rw [List.length_take]; omega)
      clear hh hcell
      generalize l[k] = t at c0 c1 ST
      by_cases he : t.2 = id
      · have heb : (t.2 != id) = false := by rw [he]; simp
        rw [if_pos he, List.append_nil] at ST
        have O2 := hown
        rw [← ST.out] at O2
        clear ST he HR HH hown
        go_wp2
        go_roundw
        case rel => exact ⟨k + 1, by omega, by go_num, O2.out, hb.out⟩
        case measure => simp [intOf]; omega
      · have heb : (t.2 != id) = true := by rw [bne_iff_ne]; exact he
        rw [if_neg he] at ST
        have OS := hid (fun (v' : Value) (w' : World) (x : OwnT w' w.heap.size v' (stopT (l.take k) id ++ [t])) => show OwnT w' w.heap.size v' (stopT (l.take (k + 1)) id) by rw [ST.out]; exact x)
        clear ST he HR HH
        go_wp2_with (at_builtin; refine wp_appTm _ rfl (.tmp 21) (.tmp 26) 25 rfl w.heap.size i0 _ Try.underlying25 hi hz0 hz1 hz2 rfl (.slice oa K oc) (stopT (l.take k) id) rfl (OwnT.alloc hown.out _) ⟨_, 0, none⟩ 1 t rfl (tm_new _ _) (by rw [← HK.out]; omega) (Nat.le_trans hb.out.size (by simp)) ?_; intro v4 w4 hown4 hgr4; have I4 := hid (OS.out _ _ hown4); have B4 := hid ((hb.out.alloc hb.out.size _).grown hgr4 (Nat.le_trans hb.out.size (by simp)) (fun k hk => (World.ownsRow.lt hown.out k hk).1)); (obtain ⟨oa4, oc4, hoe4⟩ := hown4.form); rw [List.length_append, ← HK.out] at hoe4; subst hoe4; clear hown4 hgr4)
        go_roundw
        case rel => exact ⟨k + 1, by omega, by go_num, I4.out, B4.out⟩
        case measure => simp [intOf]; omega
    · have hlt' : ¬ ((k : Int) < n) := by omega
      obtain rfl : k = n := by omega
      have ht : l.take k = l := by rw [HN.out]; exact List.take_length
      rw [ht] at hown HK
      have HL := HN
      clear HR HH ht
      go_wp2
      go_ret2
      exact ⟨_, by rw [← HK.out]; rfl, hown.out, hb.out⟩
end Go.Proofs.Ythioekmlljpbpaa
