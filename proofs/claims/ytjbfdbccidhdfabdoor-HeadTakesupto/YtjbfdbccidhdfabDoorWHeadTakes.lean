/-
  The walk of the law HeadTakes.
-/
import Derived.Test.YtjbfdbccidhdfabDoorHOnceL
namespace Go.Proofs.YtjbfdbccidhdfabDoor
open Go.RowKit Sc
theorem slash_at {t : List UInt8} (h : typeOk t = true) : ∃ a b : List UInt8, cutL 47 t = (a, b, true) ∧ t = a ++ 47 :: b ∧ a.length ≤ 64 ∧ b.length ≤ 64 ∧ (∀ x ∈ a, x ≠ 47) := by
  unfold typeOk at h
  simp only [Bool.and_eq_true] at h
  have hj := cutL_join 47 t h.1
  refine ⟨(cutL 47 t).1, (cutL 47 t).2.1, by rw [← h.1], hj, (tok_facts h.2.1).2.1, (tok_facts h.2.2).2.1, ?_⟩
  have hb : ∀ b : UInt8, tokc b = true → b ≠ 47 := by apply byte_all; decide +kernel
  intro x hx
  exact hb x ((tok_facts h.2.1).2.2 x hx)
end Go.Proofs.YtjbfdbccidhdfabDoor
namespace Go.Proofs.YtjbfdbccidhdfabDoor.headTakes
open Go.RowKit Go.Sort Sc
set_option linter.unusedVariables false
set_option maxRecDepth 20000

def qK : List UInt8 := [32, 59, 32, 113, 61, 49]
theorem qglue (a : List UInt8) : (⟨a.toArray⟩ : ByteArray) ++ (⟨#[32, 59, 32, 113, 61, 49]⟩ : ByteArray) = ⟨(a ++ qK).toArray⟩ := by
  have e0 : (⟨#[32, 59, 32, 113, 61, 49]⟩ : ByteArray) = ⟨qK.toArray⟩ := rfl
  rw [e0, ByteArray.mk_append_mk]

/-- append, as one step of a region that draws its order, and what else is there. -/
theorem step_appG {P : Program} {ops : Array Oper} {o : Oper} {a : Act} {w : World} {K : Act → World → Prop} {Q : Exit → Act → World → Prop} {E : Prop} (hgd : o.guard = none)
    (s x : Operand) (t : TypeId) (ho : o.op = Op.call { callee := Callee.builtin Builtin.append, args := #[s, x], argTypes := #[t, t] }) (B : Nat) (e : TypeId) (i : TypeInfo)
    (z : Value) (ht : P.underlying t = some (TypeDesc.slice e)) (hi : P.info? e = some i) (hz : i.zero = some z) (hsize : i.size = 1) (hby : i.bytes = 16) (hzs : z.cells.size = 1)
    (v : Value) (xs : List (List UInt8)) (hs : a.eval s = v) (hown : Own w B e v (strs xs)) (ad : Addr) (m : Nat) (c : Nat) (news : List (List UInt8)) (hx : a.eval x = Value.slice (some ad) m c) (hl : news.length = m)
    (hnews : ∀ (j : Nat) (hj : j < news.length), w.cell? (ad.add j) = some (.string ⟨(news[j]).toArray⟩))
    (hlen : xs.length + m ≤ 4000000) (hB : B ≤ w.heap.size)
    (h : ∀ (v' : Value) (w' : World), Own w' B e v' (strs (xs ++ news)) → w.grownBy w' v.ownBlock → K (a.put o.dst v') w') :
    if Region.wanted o (yielded ops a.tmps) = true then Oper.wp P o a w K Q else E := by
  have hw : Region.wanted o (yielded ops a.tmps) = true := by simp [Region.wanted, hgd]
  rw [if_pos hw]
  obtain ⟨v', w', hrun, r1, hgr, _⟩ := run_append_own (P := P) w B t o.type e i z 1 16 ht hi hz hsize hby hzs (by decide) v (strs xs).length (strs xs) hown ad m c (strs news) (by rw [strs_length, hl]; omega)
    (fun j u hj => by
      have hlt : j < news.length := by have := (List.getElem?_eq_some_iff.1 hj).1; rwa [strs_length] at this
      have e : (strs news)[j]? = some (.string ⟨(news[j]).toArray⟩) := by simp [strs, hlt]
      rw [e] at hj
      rw [hnews j hlt]; exact hj) (strs_one news) (by rw [strs_length]; unfold maxLen; omega) (by rw [strs_length]; omega) hB
  unfold Oper.wp
  simp [execOp, ho, resolve, invoke, builtin, hs, hx, hrun, Result.andThen]
  refine h v' w' ?_ hgr
  have e : strs (xs ++ news) = strs xs ++ strs news := by simp [strs]
  unfold Own
  rw [e, List.length_append, strs_length news, hl]
  exact r1
theorem grown_below {D wX w3 : World} {row : Option Nat} (hb : Below D.heap.size D wX) (hg : wX.grownBy w3 row) (hr : ∀ k, row = some k → D.heap.size ≤ k) : Below D.heap.size D w3 := hb.grown hg hb.size hr
theorem cell_grown {wX w3 : World} {row : Option Nat} {a : Addr} {v : Value} (hg : wX.grownBy w3 row) (hc : wX.cell? a = some v) (hne : some a.block ≠ row) : w3.cell? a = some v := by
  rw [World.cell?_of_block (hg.block a.block (World.block_lt_of_cell? _ _ hc) hne)]; exact hc
theorem own_empty (w : World) (B : Nat) (hB : B ≤ w.heap.size) : Own (w.alloc (.cells #[] 9)) B 9 (.slice (some ⟨w.heap.size, 0, none⟩) 0 0) (strs []) :=
  ⟨rfl, Or.inr ⟨w.heap.size, 0, #[], rfl, hB, by rw [heap_alloc_new], Nat.le_refl _, by decide, rfl, rfl⟩⟩
theorem own_at {w : World} {B : Nat} {v : Value} {ls : List (List UInt8)} (h : Own w B 9 v (strs ls)) : StrsAt w v ls := by
  by_cases hne : ls = []
  · obtain ⟨a, cap, rfl⟩ := h.form
    subst hne
    exact ⟨a, cap, rfl, fun j hj => by simp at hj⟩
  · obtain ⟨g, cap, rfl, hc⟩ := own_strs h hne
    refine ⟨_, cap, rfl, fun j hj => ⟨_, rfl, ?_, ?_⟩⟩
    · exact World.block_lt_of_cell? w ⟨g, j, none⟩ (hc j hj)
    · rw [add_at, Nat.zero_add]; exact hc j hj

set_option maxHeartbeats 4000000 in
set_option maxRecDepth 100000 in
theorem law_walk (w : World) (v0 : Value) (a1 : ByteArray) (k0 : StrsIn 1048576 w v0) (b1 : a1.size ≤ 1048576) :
    Calls Tryd.prog 3 #[v0, .string a1] w fun e w' => e = .returned (.bool true) ∧ Below w.heap.size w w' := by
  obtain ⟨i0, hi, hz0, hz1, hz2⟩ := info_parts info9
  obtain ⟨s, rfl⟩ : ∃ l : List UInt8, a1 = ⟨l.toArray⟩ := ⟨a1.data.toList, by simp⟩
  rw [size_list] at b1
  obtain ⟨ls, hat, hn, hl⟩ := k0
  have K1 := hid (fun w' => htype_any s w' b1)
  have KA := hid (fun w' (hb : Below w.heap.size w w') => haccepts_any v0 ls s w' hl (by omega) b1 (strs_below hat hb))
  have KN := hid (fun w' => haccepts_any (.slice none 0 0) [] s w' (by simp) (by simp) b1 ⟨none, 0, rfl, fun k hk => by simp at hk⟩)
  have KX := hid (fun (r : List UInt8) (hr : r.length ≤ 1048576) v w' (hv : StrsAt w' v (ls ++ [r])) => haccepts_any v (ls ++ [r]) s w' (fun l hl' => by rcases List.mem_append.1 hl' with h | h; exact hl l h; simp at h; subst h; exact hr) (by simp; omega) b1 hv)
  have HAT := hid hat
  cases hok : typeOk (typeT s) with
  | false =>
    rw [hok] at K1
    rw [accepts_not hok] at KA
    obtain ⟨ao, cap, rfl, _⟩ := hat
    clear hl KX HAT
    generalize ls.length = n at KA hn ⊢
    go_enter Tryd.func3, Tryd.ntmps3
    go_wp2_with fail
    refine (K1.out _).mono ?_
    rintro e w1 ⟨rfl, hw1⟩
    go_wp2_with fail
    refine (KA.out _ hw1).mono ?_
    rintro e w2 ⟨rfl, hw2⟩
    have hb2 := hw1.trans (hw2.mono hw1.size)
    clear hw2
    go_wp2_with (go_at_call 7; refine (awake8_any _).mono ?_; rintro e w9 ⟨rfl, hw9⟩)
    go_ret
    exact ⟨rfl, hb2.trans (hw9.mono hb2.size)⟩
  | true =>
    rw [hok] at K1
    obtain ⟨a, b, hcut, htab, hal, hbl, hns⟩ := slash_at hok
    have T1 := takes_self (s := s) (r := [32, 113, 61, 49]) hok
    have T2 := takes_front (s := s) (r := [32, 113, 61, 49]) hok
    have T3 := takes_star (s := s) (r := [32, 113, 61, 49]) hok
    rw [hcut] at T2
    simp only at T2
    have A1 := accepts_last (l := ls) T1
    have A2 := accepts_last (l := ls) T2
    have A3 := accepts_last (l := ls) T3
    generalize typeT s = t at K1 htab hok hcut A1 A2 T1 T2 T3
    have htl : t.length ≤ 129 := by rw [htab]; simp; omega
    have X1 := hid (fun v w' hv => by have k := KX.out (t ++ qK) (by simp [qK]; omega) v w' hv; rw [show t ++ qK = t ++ 32 :: 59 :: [32, 113, 61, 49] from rfl, A1] at k; exact k)
    have X2 := hid (fun v w' hv => by have k := KX.out ((a ++ [47, 42]) ++ qK) (by simp [qK]; omega) v w' hv; rw [show (a ++ [47, 42]) ++ qK = (a ++ [47, 42]) ++ 32 :: 59 :: [32, 113, 61, 49] from rfl, A2] at k; exact k)
    have X3 := hid (fun v w' hv => by have k := KX.out (starK ++ qK) (by simp [qK, starK]) v w' hv; rw [show starK ++ qK = starK ++ 32 :: 59 :: [32, 113, 61, 49] from rfl, A3] at k; exact k)
    have hN : acceptsB [] s = false := rfl
    rw [hN] at KN
    have HXS : Hid (∀ k, k < 3 → ∀ v w', StrsAt w' v (ls ++ [[t, a ++ [47, 42], starK].getD k [] ++ qK]) → Calls Tryd.prog 6 #[v, .string ⟨s.toArray⟩] w' fun e w'' => e = .returned (.bool true) ∧ Below w'.heap.size w' w'') := fun k hk v w' hv => by
      rcases (show k = 0 ∨ k = 1 ∨ k = 2 by omega) with rfl | rfl | rfl
      · exact X1.out v w' hv
      · exact X2.out v w' hv
      · exact X3.out v w' hv
    clear X1 X2 X3 KX T1 T2 T3 A1 A2 A3 hN KA
    have HTAB := hid htab
    have HNS := hid hns
    have hga := starglue a
    have htk : t.take a.length = a := by rw [htab]; simp
    have HEX := hid (htake_ext t a.length)
    rw [htk] at HEX
    have HSL : Hid (∀ k (hk : k < t.length), k ≤ a.length → (t[k] = 47 ↔ k = a.length)) := fun k hk hka => by
      have e := htab
      constructor
      · intro h
        by_cases hlt : k < a.length
        · exfalso
          have h1 : t[k] = a[k] := by
            have : t[k]? = a[k]? := by rw [e, List.getElem?_append_left hlt]
            rw [List.getElem?_eq_getElem hk, List.getElem?_eq_getElem hlt] at this
            simpa using this
          exact hns a[k] (List.getElem_mem hlt) (by rw [← h1]; exact h)
        · omega
      · intro h
        subst h
        have : t[a.length]? = some 47 := by rw [e, List.getElem?_append_right (Nat.le_refl _)]; simp
        rw [List.getElem?_eq_getElem hk] at this
        simpa using this
    have hat1 : a.length < t.length := by rw [htab]; simp
    clear htab hns htk hok hcut
    obtain ⟨ao, cap, rfl, hcell⟩ := hat
    have hcap : Hid (∀ j (hj : j < ls.length), ∃ ad, ao = some ad ∧ ad.block < w.heap.size ∧ w.cell? (ad.add j) = some (.string ⟨(ls[j]).toArray⟩)) := hcell
    clear hcell hl
    obtain ⟨n, hnn⟩ : ∃ n, n = ls.length := ⟨_, rfl⟩
    rw [← hnn] at hn HAT ⊢
    have HN := hid hnn
    clear hnn
    go_enter Tryd.func3, Tryd.ntmps3
    go_wp2_with fail
    refine (K1.out _).mono ?_
    rintro e w1 ⟨rfl, hw1⟩
    clear K1
    go_wp2
    go_loopw [7] (fun i wr => ∃ k : Nat, k ≤ a.length ∧ i = .int .i64 k ∧ wr = w1) (fun i _ => a.length - (intOf i).toNat)
    case atStart => exact ⟨0, by omega, rfl, rfl⟩
    case round =>
      obtain ⟨k, hk, rfl, hwr⟩ := hrel
      rw [hwr]
      clear hwr
      have hkt : k < t.length := by omega
      have hk2 : k < (⟨t.toArray⟩ : ByteArray).size := by rw [size_list]; exact hkt
      have hki : (k : Int) < (t.length : Int) := by omega
      have hge : (⟨t.toArray⟩ : ByteArray)[k]'hk2 = t[k] := rfl
      have hsl := HSL.out k hkt hk
      generalize t[k] = x at hge hsl
      by_cases hx : x = 47
      · have hka := hsl.1 hx
        subst hka
        have hxb : ((x.toNat : Int) != 47) = false := by rw [hx]; rfl
        have hex := HEX.out
        clear hsl hx HSL
        go_wp2
        have haf : (a ++ [47, 42]).length ≤ 66 := by simp; omega
        generalize a ++ [47, 42] = af at hga HXS haf
        have hrW : RowIs (w1.alloc (.cells #[.string ⟨t.toArray⟩, .string ⟨af.toArray⟩, .string ⟨#[42, 47, 42]⟩] 9)) w1.heap.size 9 [.string ⟨t.toArray⟩, .string ⟨af.toArray⟩, .string ⟨starK.toArray⟩] := by unfold RowIs; rw [heap_alloc_new]; rfl
        have hbW : Below w.heap.size w (w1.alloc (.cells #[.string ⟨t.toArray⟩, .string ⟨af.toArray⟩, .string ⟨#[42, 47, 42]⟩] 9)) := hw1.alloc hw1.size _
        have hlW := alloc_lt w1 (.cells #[.string ⟨t.toArray⟩, .string ⟨af.toArray⟩, .string ⟨#[42, 47, 42]⟩] 9)
        generalize w1.alloc _ = W at hrW hbW hlW ⊢
        go_loopw [9] (fun i wr => ∃ k : Nat, k ≤ 3 ∧ i = .int .i64 k ∧ Below W.heap.size W wr) (fun i _ => 3 - (intOf i).toNat)
        case atStart => exact ⟨0, by omega, rfl, Below.refl _ _⟩
        case round =>
          obtain ⟨k, hk3, rfl, hbr⟩ := hrel
          by_cases hlt : k < 3
          · have hlt' : (k : Int) < 3 := by omega
            have hrr := hrW.below hbr hlW
            obtain ⟨rk, hrk⟩ : ∃ rk, rk = [t, af, starK].getD k [] := ⟨_, rfl⟩
            have KX := hid (HXS.out k hlt)
            rw [← hrk] at KX
            have hck : wr.cell? ⟨w1.heap.size, k, none⟩ = some (.string ⟨rk.toArray⟩) := by
              rcases (show k = 0 ∨ k = 1 ∨ k = 2 by omega) with rfl | rfl | rfl <;> subst hrk
              · exact hrr.cell 0 (by simp)
              · exact hrr.cell 1 (by simp)
              · exact hrr.cell 2 (by simp)
            have hrk6 : ¬ (9223372036854775807 < rk.length + 6) := by
              rcases (show k = 0 ∨ k = 1 ∨ k = 2 by omega) with rfl | rfl | rfl <;> subst hrk <;> simp [starK] <;> omega
            clear hrk hrr
            have hqg := qglue rk
            have hbD : Below w.heap.size w wr := (hbW.trans (hbr.mono hbW.size))
            have hlD : w1.heap.size < wr.heap.size := Nat.lt_of_lt_of_le hlW hbr.size
            have HRK := hid (fun w' (hb : Below wr.heap.size wr w') => cell_below (a := ⟨w1.heap.size, k, none⟩) hb hlD hck)
            have hB1 := fun o => (Below.refl wr.heap.size wr).alloc (Nat.le_refl _) o
            have hckD : wr.drew.cell? ⟨w1.heap.size, k, none⟩ = some (.string ⟨rk.toArray⟩) := hck
            have hck1 := fun o => HRK.out _ (hB1 o)
            have hck2 := fun o => HRK.out _ (hB1 o).drew
            generalize rk ++ qK = xq at KX hqg
            have B1 := hid ((hB1 (.cells #[] 9)).drew)
            have B2 := hid (((hB1 (.cells #[] 9)).alloc (hB1 (.cells #[] 9)).size (.cells #[.string ⟨xq.toArray⟩] 9)).drew)
            have B3 := hid (((hB1 (.cells #[.string ⟨xq.toArray⟩] 9)).alloc (hB1 (.cells #[.string ⟨xq.toArray⟩] 9)).size (.cells #[] 9)).drew)
            clear hB1
            have O1 := hid ((own_empty wr wr.heap.size (Nat.le_refl _)).drew)
            have O2 := hid (((own_empty wr wr.heap.size (Nat.le_refl _)).alloc (.cells #[.string ⟨xq.toArray⟩] 9)).drew)
            have O3 : Hid (Own ((wr.alloc (.cells #[.string ⟨xq.toArray⟩] 9)).alloc (.cells #[] 9)).drew wr.heap.size 9 (.slice (some ⟨wr.heap.size + 1, 0, none⟩) 0 0) (strs [])) := by
              have h := (own_empty (wr.alloc (.cells #[.string ⟨xq.toArray⟩] 9)) wr.heap.size (by simp)).drew
              have e : (wr.alloc (.cells #[.string ⟨xq.toArray⟩] 9)).heap.size = wr.heap.size + 1 := by simp
              rw [e] at h
              exact h
            have C2 : Hid (((wr.alloc (.cells #[] 9)).alloc (.cells #[.string ⟨xq.toArray⟩] 9)).drew.cell? ⟨wr.heap.size + 1, 0, none⟩ = some (.string ⟨xq.toArray⟩)) := by
              have h := one_new (wr.alloc (.cells #[] 9)) 9 (.string ⟨xq.toArray⟩) 0 _ rfl
              have e : (wr.alloc (.cells #[] 9)).heap.size = wr.heap.size + 1 := by simp
              rw [e, add_at, Nat.add_zero] at h
              exact h
            have C3 : Hid (((wr.alloc (.cells #[.string ⟨xq.toArray⟩] 9)).alloc (.cells #[] 9)).drew.cell? ⟨wr.heap.size, 0, none⟩ = some (.string ⟨xq.toArray⟩)) := by
              have h := one_new wr 9 (.string ⟨xq.toArray⟩) 0 _ rfl
              rw [add_at, Nat.add_zero] at h
              exact cell_below (a := ⟨wr.heap.size, 0, none⟩) ((Below.refl _ _).alloc (Nat.le_refl _) (.cells #[] 9)) (alloc_lt wr _) h
            have CN := hid (fun (wx : World) => by have h := one_new wx 9 (.string ⟨xq.toArray⟩) 0 _ rfl; rw [add_at, Nat.add_zero] at h; exact h)
            cases ao with
            | some ad =>
              have HLC : Hid (∀ w', Below wr.heap.size wr w' → ∀ j (hj : j < ls.length), w'.cell? (ad.add j) = some (.string ⟨(ls[j]).toArray⟩)) := fun w' hb j hj => by
                obtain ⟨ad', he, hl', hc'⟩ := hcap.out j hj
                injection he with he
                subst he
                exact cell_below hb (by rw [add_block]; exact Nat.lt_of_lt_of_le hl' hbD.size) (cell_below hbD (by rw [add_block]; exact hl') hc')
              go_wp2
              go_region_law (first
                | (refine step_appG rfl (.tmp 46) (.tmp 47) 22 rfl wr.heap.size 9 i0 (.string .empty) Tryd.underlying22 hi hz0 hz1 hz2 rfl (.slice (some ⟨wr.heap.size, 0, none⟩) 0 0) [] rfl O1.out ad n cap ls rfl HN.out.symm (HLC.out _ B1.out) (by simp; omega) B1.out.size ?_; intro v3 w3 hown3 hgr3; have hb3 := grown_below B1.out hgr3 (by intro k hk; cases hk; first | exact Nat.le_refl _ | exact Nat.le_succ _); have hck3 := HRK.out _ hb3; rw [List.nil_append] at hown3; (obtain ⟨oa, oc, hoe⟩ := hown3.form); rw [strs_length, ← HN.out] at hoe; subst hoe; have HOB := hid (fun k hk => (World.ownsRow.lt hown3 k hk).1); have HO3 := hid hown3; clear hown3 hgr3)
                | (refine step_appG rfl (.tmp 46) (.tmp 47) 22 rfl wr.heap.size 9 i0 (.string .empty) Tryd.underlying22 hi hz0 hz1 hz2 rfl (.slice (some ⟨wr.heap.size, 0, none⟩) 0 0) [] rfl O2.out ad n cap ls rfl HN.out.symm (HLC.out _ B2.out) (by simp; omega) B2.out.size ?_; intro v3 w3 hown3 hgr3; have hb3 := grown_below B2.out hgr3 (by intro k hk; cases hk; first | exact Nat.le_refl _ | exact Nat.le_succ _); have hck3 := HRK.out _ hb3; have hx3 := hid (cell_grown hgr3 C2.out (by simp [Value.ownBlock])); rw [List.nil_append] at hown3; (obtain ⟨oa, oc, hoe⟩ := hown3.form); rw [strs_length, ← HN.out] at hoe; subst hoe; have HOB := hid (fun k hk => (World.ownsRow.lt hown3 k hk).1); have HO3 := hid hown3; clear hown3 hgr3)
                | (refine step_appG rfl (.tmp 46) (.tmp 47) 22 rfl wr.heap.size 9 i0 (.string .empty) Tryd.underlying22 hi hz0 hz1 hz2 rfl (.slice (some ⟨wr.heap.size + 1, 0, none⟩) 0 0) [] rfl O3.out ad n cap ls rfl HN.out.symm (HLC.out _ B3.out) (by simp; omega) B3.out.size ?_; intro v3 w3 hown3 hgr3; have hb3 := grown_below B3.out hgr3 (by intro k hk; cases hk; first | exact Nat.le_refl _ | exact Nat.le_succ _); have hck3 := HRK.out _ hb3; have hx3 := hid (cell_grown hgr3 C3.out (by simp [Value.ownBlock])); rw [List.nil_append] at hown3; (obtain ⟨oa, oc, hoe⟩ := hown3.form); rw [strs_length, ← HN.out] at hoe; subst hoe; have HOB := hid (fun k hk => (World.ownsRow.lt hown3 k hk).1); have HO3 := hid hown3; clear hown3 hgr3)
                | (refine step_appG rfl (.tmp 48) (.tmp 54) 22 rfl wr.heap.size 9 i0 (.string .empty) Tryd.underlying22 hi hz0 hz1 hz2 rfl (.slice oa n oc) ls rfl HO3.out ⟨wr.heap.size + 1, 0, none⟩ 1 1 [xq] rfl rfl (by intro j hj; simp at hj; subst hj; rw [add_at]; exact hx3.out) (by have := HN.out; omega) hb3.size ?_; intro v4 w4 hown4 hgr4; have hb4 := grown_below hb3 hgr4 HOB.out; have HO4 := hid hown4; clear hown4 hgr4)
                | (refine step_appG rfl (.tmp 48) (.tmp 54) 22 rfl wr.heap.size 9 i0 (.string .empty) Tryd.underlying22 hi hz0 hz1 hz2 rfl (.slice oa n oc) ls rfl HO3.out ⟨wr.heap.size, 0, none⟩ 1 1 [xq] rfl rfl (by intro j hj; simp at hj; subst hj; rw [add_at]; exact hx3.out) (by have := HN.out; omega) hb3.size ?_; intro v4 w4 hown4 hgr4; have hb4 := grown_below hb3 hgr4 HOB.out; have HO4 := hid hown4; clear hown4 hgr4)
                | (refine step_appG rfl (.tmp 48) (.tmp 54) 22 rfl wr.heap.size 9 i0 (.string .empty) Tryd.underlying22 hi hz0 hz1 hz2 rfl (.slice oa n oc) ls rfl (HO3.out.alloc (.cells #[.string ⟨xq.toArray⟩] 9)) ⟨w3.heap.size, 0, none⟩ 1 1 [xq] rfl rfl (by intro j hj; simp at hj; subst hj; rw [add_at]; exact CN.out _) (by have := HN.out; omega) (hb3.alloc hb3.size (.cells #[.string ⟨xq.toArray⟩] 9)).size ?_; intro v4 w4 hown4 hgr4; have hb4 := grown_below (hb3.alloc hb3.size (.cells #[.string ⟨xq.toArray⟩] 9)) hgr4 HOB.out; have HO4 := hid hown4; clear hown4 hgr4)
                | (go_simp; go_at_call 6; refine (KX.out _ _ (own_at HO4.out)).mono ?_; rintro e w5 ⟨rfl, hw5⟩))
              all_goals (
                have hb5 := hb4.trans (hw5.mono hb4.size)
                have hz5 := hbr.trans (hb5.mono hbr.size)
                clear KX HXS HRK hck hckD hck1 hck2 B1 B2 B3 O1 O2 O3 C2 C3 CN HLC HO4 hb4 hw5 hb5
                go_wp2
                go_roundw
                case rel => exact ⟨k + 1, by omega, by go_num, hz5⟩
                case measure => simp [intOf]; omega)
            | none =>
              have hl0 : ls = [] := by
                cases hls : ls with
                | nil => rfl
                | cons l r =>
                  obtain ⟨ad, he, _⟩ := hcap.out 0 (by rw [hls]; simp)
                  cases he
              have hn0 : n = 0 := by rw [HN.out, hl0]; rfl
              subst hl0
              clear HN hcap HAT
              subst hn0
              go_wp2
              go_region_law (first
                | (refine step_appG rfl (.tmp 48) (.tmp 54) 22 rfl wr.heap.size 9 i0 (.string .empty) Tryd.underlying22 hi hz0 hz1 hz2 rfl (.slice (some ⟨wr.heap.size, 0, none⟩) 0 0) [] rfl O2.out ⟨wr.heap.size + 1, 0, none⟩ 1 1 [xq] rfl rfl (by intro j hj; simp at hj; subst hj; rw [add_at]; exact C2.out) (by simp) B2.out.size ?_; intro v4 w4 hown4 hgr4; have hb4 := grown_below B2.out hgr4 (by intro k hk; cases hk; exact Nat.le_refl _); have HO4 := hid hown4; clear hown4 hgr4)
                | (refine step_appG rfl (.tmp 48) (.tmp 54) 22 rfl wr.heap.size 9 i0 (.string .empty) Tryd.underlying22 hi hz0 hz1 hz2 rfl (.slice (some ⟨wr.heap.size + 1, 0, none⟩) 0 0) [] rfl O3.out ⟨wr.heap.size, 0, none⟩ 1 1 [xq] rfl rfl (by intro j hj; simp at hj; subst hj; rw [add_at]; exact C3.out) (by simp) B3.out.size ?_; intro v4 w4 hown4 hgr4; have hb4 := grown_below B3.out hgr4 (by intro k hk; cases hk; exact Nat.le_succ _); have HO4 := hid hown4; clear hown4 hgr4)
                | (go_simp; go_at_call 6; refine (KX.out _ _ (own_at HO4.out)).mono ?_; rintro e w5 ⟨rfl, hw5⟩))
              all_goals (
                have hb5 := hb4.trans (hw5.mono hb4.size)
                have hz5 := hbr.trans (hb5.mono hbr.size)
                clear KX HXS HRK hck hckD hck1 hck2 B1 B2 B3 O1 O2 O3 C2 C3 CN HO4 hb4 hw5 hb5
                go_wp2
                go_roundw
                case rel => exact ⟨k + 1, by omega, by go_num, hz5⟩
                case measure => simp [intOf]; omega)
          · have hk3' : ¬ ((k : Int) < 3) := by omega
            have hbz := hbW.trans (hbr.mono hbW.size)
            clear HXS
            go_wp2_with fail
            refine (KN.out _).mono ?_
            rintro e w7 ⟨rfl, hw7⟩
            have hb7 := hbz.trans (hw7.mono hbz.size)
            clear hw7
            go_wp2_with (go_at_call 7; refine (awake8_any _).mono ?_; rintro e w9 ⟨rfl, hw9⟩)
            go_ret
            exact ⟨rfl, hb7.trans (hw9.mono hb7.size)⟩
      · have hka : k ≠ a.length := fun h => hx (hsl.2 h)
        have hxb : ((x.toNat : Int) != 47) = true := by
          rw [bne_iff_ne]
          intro h
          exact hx (by apply UInt8.toNat_inj.1; show x.toNat = 47; omega)
        clear hsl hx
        go_wp2
        go_roundw
        case rel => exact ⟨k + 1, by omega, by go_num, by first | rfl | trivial⟩
        case measure => simp [intOf]; omega

end Go.Proofs.YtjbfdbccidhdfabDoor.headTakes
