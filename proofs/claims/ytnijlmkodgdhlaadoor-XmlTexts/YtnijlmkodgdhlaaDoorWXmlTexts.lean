/-
  The walk of the law XmlTexts.
-/
import Derived.Test.YtnijlmkodgdhlaaDoorYU
import Derived.Test.YtnijlmkodgdhlaaDoorYV
import Derived.Test.YtnijlmkodgdhlaaDoorYW
namespace Go.Proofs.YtnijlmkodgdhlaaDoor.xmlTexts
open Go.RowKit Sc
set_option linter.unusedVariables false
set_option maxRecDepth 20000

theorem mem_xtrim {l : List UInt8} {b : UInt8} (h : b ∈ xtrim l) : b ∈ l := by
  unfold xtrim at h
  have h1 := List.mem_reverse.1 h
  have h2 := (List.dropWhile_suffix xblk).subset h1
  have h3 := List.mem_reverse.1 h2
  exact (List.dropWhile_suffix xblk).subset h3
theorem xtrim_len (l : List UInt8) : (xtrim l).length ≤ l.length := by
  unfold xtrim
  rw [List.length_reverse]
  have h1 := (List.dropWhile_suffix (l := (l.dropWhile xblk).reverse) xblk).length_le
  have h2 := (List.dropWhile_suffix (l := l) xblk).length_le
  rw [List.length_reverse] at h1
  omega
def ndT (t v : List UInt8) : Nd := ⟨0, [97], [⟨[98], v, true⟩], t⟩
theorem ndT_ok {l v : List UInt8} (h1 : signsX l = true) (h2 : signsX v = true) : checkX [ndT (xtrim l) v] = 0 := by
  have ht : signsX (xtrim l) = true := by
    rw [signsX, List.all_eq_true] at h1 ⊢
    exact fun b hb => h1 b (mem_xtrim hb)
  have hx : xtrim (xtrim l) = xtrim l := xtrim_id (xtrim_nb l).1 (xtrim_nb l).2
  have hn : nodeOk (ndT (xtrim l) v) = true := by
    have ha : nameX [97] = true := by decide +kernel
    have hb : nameX [98] = true := by decide +kernel
    simp [nodeOk, ndT, attrsOk, distinctX, ha, hb, ht, hx, h2]
  have hs : stepsX [ndT (xtrim l) v] = true := by simp [stepsX, hn]
  unfold checkX
  rw [if_neg]
  rw [hs]; simp [ndT]
def txtC (g : Nat) (t v : List UInt8) : List NdC := [⟨ndT t v, .slice (some ⟨g, 0, none⟩) 1 1⟩]
theorem txt_nds (W : World) (t v : List UInt8) : NdsAt ((W.alloc (.cells #[.string ⟨#[98]⟩, .string ⟨v.toArray⟩, .bool true] 45)).alloc (.cells #[.int .i64 0, .string ⟨#[97]⟩, .slice (some ⟨W.heap.size, 0, none⟩) 1 1, .string ⟨t.toArray⟩] 48)) (.slice (some ⟨W.heap.size + 1, 0, none⟩) 1 1) (txtC W.heap.size t v) := by
  have h1 : RowIs (W.alloc (.cells #[.string ⟨#[98]⟩, .string ⟨v.toArray⟩, .bool true] 45)) W.heap.size 45 (parsCells [⟨[98], v, true⟩]) := by unfold RowIs; rw [heap_alloc_new]; rfl
  have hs : (W.alloc (.cells #[.string ⟨#[98]⟩, .string ⟨v.toArray⟩, .bool true] 45)).heap.size = W.heap.size + 1 := by simp
  generalize W.alloc (.cells #[.string ⟨#[98]⟩, .string ⟨v.toArray⟩, .bool true] 45) = W1 at h1 hs ⊢
  have h2 : RowIs (W1.alloc (.cells #[.int .i64 0, .string ⟨#[97]⟩, .slice (some ⟨W.heap.size, 0, none⟩) 1 1, .string ⟨t.toArray⟩] 48)) (W.heap.size + 1) 48 (ndsCells (txtC W.heap.size t v)) := by
    unfold RowIs; rw [← hs, heap_alloc_new]; rfl
  refine row_nds (cs := txtC W.heap.size t v) h2 fun k hk => ?_
  match k, hk with
  | 0, _ => exact row_pars (ps := [⟨[98], v, true⟩]) (cap := 1) (below_row h1 _)
theorem own_one {w : World} {B : Nat} {u : Value} {cs : List NdC} {x : Nd} (h : OwnN w B u cs) (hk : ndsL cs = [x]) : ∃ g cap a, u = .slice (some ⟨g, 0, none⟩) 1 cap ∧ w.cell? ⟨g, 0, none⟩ = some (.int .i64 x.deep) ∧ w.cell? ⟨g, 1, none⟩ = some (.string ⟨x.name.toArray⟩) ∧ w.cell? ⟨g, 2, none⟩ = some a ∧ w.cell? ⟨g, 3, none⟩ = some (.string ⟨x.text.toArray⟩) ∧ ParsAt w a x.attrs ∧ g < w.heap.size := by
  obtain ⟨c, rfl, rfl⟩ : ∃ c, cs = [c] ∧ c.nd = x := by
    match cs, hk with
    | [c], hk => exact ⟨c, rfl, by simpa [ndsL] using hk⟩
  obtain ⟨h1, h2⟩ := h
  have hp := (h2 c (by simp)).parsAt
  rcases h1.2 with ⟨rfl, hn⟩ | ⟨g, cap, cur, rfl, hb, hg, r⟩
  · simp at hn
  · have e : ∀ j u, (ndCells c)[j]? = some u → w.cell? ⟨g, j, none⟩ = some u := fun j u hj => by
      have := World.ownsRow.cells h1 (g := g) rfl j u (by simpa [ndsCells] using hj)
      rw [add_zero_lit] at this; exact this
    exact ⟨g, cap, c.a, rfl, e 0 _ rfl, e 1 _ rfl, e 2 _ rfl, e 3 _ rfl, hp, (Array.getElem?_eq_some_iff.1 hg).1⟩

set_option maxHeartbeats 2000000 in
set_option maxRecDepth 100000 in
theorem law_walk (a0 a1 : ByteArray) (b0 : a0.size ≤ 140737488351232) (b1 : a1.size ≤ 140737488351232) (w : World) :
    Calls Tryd.prog 8 #[.string a0, .string a1] w fun e w' => e = .returned (.bool true) ∧ Below w.heap.size w w' := by
  have hl0 := len_data a0
  have hl1 := len_data a1
  have hwr : IntKind.i64.wrap ((a0.size : Int) + (a1.size : Int)) = (a0.size : Int) + (a1.size : Int) := by rw [IntKind.wrap_i64]; omega
  have KG0 := hid (fun w' => rsigns_any a0 w' (by omega))
  have KG1 := hid (fun w' => rsigns_any a1 w' (by omega))
  by_cases h6 : 600 < a0.size + a1.size
  · have r6 : (600 : Int) < (a0.size : Int) + (a1.size : Int) := by omega
    go_enter Tryd.func8, Tryd.ntmps8
    go_wp2_with (go_at_call 10; refine (awake13_any _).mono ?_; rintro e w7 ⟨rfl, hw7⟩)
    go_ret
    exact ⟨rfl, hw7⟩
  have r6 : ¬ (600 : Int) < (a0.size : Int) + (a1.size : Int) := by omega
  cases hg0 : signsX a0.data.toList with
  | false =>
    rw [hg0] at KG0
    go_enter Tryd.func8, Tryd.ntmps8
    go_wp2_with fail
    refine (KG0.out _).mono ?_
    rintro e w1 ⟨rfl, hq1⟩
    rw [hq1]; clear hq1 w1
    go_wp2_with (go_at_call 10; refine (awake13_any _).mono ?_; rintro e w7 ⟨rfl, hw7⟩)
    go_ret
    exact ⟨rfl, hw7⟩
  | true =>
  rw [hg0] at KG0
  cases hg1 : signsX a1.data.toList with
  | false =>
    rw [hg1] at KG1
    go_enter Tryd.func8, Tryd.ntmps8
    go_wp2_with fail
    refine (KG0.out _).mono ?_
    rintro e w1 ⟨rfl, hq1⟩
    rw [hq1]; clear hq1 w1
    go_wp2_with fail
    refine (KG1.out _).mono ?_
    rintro e w2 ⟨rfl, hq2⟩
    rw [hq2]; clear hq2 w2
    go_wp2_with (go_at_call 10; refine (awake13_any _).mono ?_; rintro e w7 ⟨rfl, hw7⟩)
    go_ret
    exact ⟨rfl, hw7⟩
  | true =>
  rw [hg1] at KG1
  have hck := ndT_ok hg0 hg1
  have KT := hid (fun w' => rtrimX_any a0 w' (by omega))
  have hxl := xtrim_len a0.data.toList
  have ha1 : a1 = ⟨a1.data.toList.toArray⟩ := by apply ByteArray.ext; simp
  clear hg0 hg1
  generalize xtrim a0.data.toList = t at KT hck hxl
  generalize a1.data.toList = V at hck ha1 hl1
  obtain ⟨tr, hf, hok⟩ := tree_of hck
  have hpl := printX_W 0 tr
  rw [hf] at hpl
  have hW : ndsW [ndT t V] = 12 + t.length + V.length := by simp [ndsW, ndW, ndT, attsW, attW]; omega
  have hTl : (prologK ++ printX tr).length ≤ 4096 := by
    have : prologK.length = 39 := rfl
    rw [List.length_append]; omega
  have K2 := hid (fun W => xprint_ok _ (txtC W.heap.size t V) tr _ (fun c hc => by
    simp only [txtC, List.mem_cons, List.not_mem_nil, or_false] at hc
    subst hc
    refine ⟨by simp [ndT], by simp [ndT]; omega, ⟨by simp [ndT], fun p hp => ?_⟩, by simp [ndT]; decide⟩
    simp [ndT] at hp
    subst hp
    exact ⟨by simp, by simp; omega⟩) (txt_nds W t V) hck hf (by omega))
  have K3 := hid (fun w' => by
    have k := xparse_any (prologK ++ printX tr) w' (by omega)
    have hb := doc_back hck hf hok (bl := []) (fun b hb => by simp at hb) (by rw [List.append_nil]; exact hTl)
    rw [List.append_nil] at hb
    rw [hb] at k
    exact k)
  simp only [ParP] at K3
  have HO := hid (fun w B u cs (h : OwnN w B u cs) (hk : ndsL cs = [ndT t V]) => own_one h hk)
  have KA := hid (fun a w' (hv : ParsAt w' a (ndT t V).attrs) => xattr_any (ndT t V) a [98] w' ⟨by simp [ndT], fun p hp => by simp [ndT] at hp; subst hp; exact ⟨by simp, by simp; omega⟩⟩ hv)
  have hga : attrGet [98] (ndT t V).attrs = some V := by simp [ndT, attrGet]
  rw [hga] at KA
  simp only [ndT, ndV, xattR] at HO KA
  have hbN : Hid (∀ W : World, Below W.heap.size W ((W.alloc (.cells #[.string ⟨#[98]⟩, .string ⟨V.toArray⟩, .bool true] 45)).alloc (.cells #[.int .i64 0, .string ⟨#[97]⟩, .slice (some ⟨W.heap.size, 0, none⟩) 1 1, .string ⟨t.toArray⟩] 48))) := fun W => ((Below.refl _ W).alloc (Nat.le_refl _) _).alloc (by simp) _
  generalize prologK ++ printX tr = T at K2 K3 hTl
  subst ha1
  have zV := size_list V
  rw [zV] at hwr r6 b1 hl1 h6
  have hV6 : V.length ≤ 600 := by omega
  clear hl1 b1
  have hVV : (V == V) = true := by simp
  have htt : (t == t) = true := by simp
  clear hck hf hok hpl hW hga
  go_enter Tryd.func8, Tryd.ntmps8
  go_wp2_with fail
  refine (KG0.out _).mono ?_
  rintro e w1 ⟨rfl, hq1⟩
  rw [hq1]; clear hq1 w1
  go_wp2_with fail
  refine (KG1.out _).mono ?_
  rintro e w2 ⟨rfl, hq2⟩
  rw [hq2]; clear hq2 w2
  go_wp2_with fail
  refine (KT.out _).mono ?_
  rintro e w3 ⟨rfl, hq3⟩
  rw [hq3]; clear hq3 w3
  have hbA := hbN.out w
  have K2w := hid (K2.out w)
  clear KG0 KG1 KT K2 hbN
  go_wp2_with fail
  generalize World.alloc _ _ = W4 at hbA K2w ⊢
  refine (K2w.out).mono ?_
  rintro e w5 ⟨rfl, hw5⟩
  have hb5 := hbA.trans (hw5.mono hbA.size)
  clear hbA hw5 K2w
  go_wp2_with fail
  refine (K3.out _).mono ?_
  rintro e w6 ⟨v6, cs6, rfl, hk6, hown6, hw6⟩
  obtain ⟨g, cp, av, rfl, c0, c1, c2, c3, hpa, hgl⟩ := HO.out _ _ _ _ hown6 hk6
  have hb6 := hb5.trans (hw6.mono hb5.size)
  have HPA := hid hpa
  obtain ⟨pa, pc, hpf⟩ := hpa.form
  subst hpf
  clear hk6 hown6 hb5 hw6 hpa K3
  go_wp2_with fail
  refine (KA.out _ _ HPA.out).mono ?_
  rintro e w7 ⟨rfl, hw7⟩
  have c3' := cell_below hw7 hgl c3
  have hb7 := hb6.trans (hw7.mono hb6.size)
  clear c0 c1 c2 c3 hw7 hb6
  go_wp2_with (go_at_call 10; refine (awake13_any _).mono ?_; rintro e w8 ⟨rfl, hw8⟩)
  go_ret
  exact ⟨rfl, hb7.trans (hw8.mono hb7.size)⟩
end Go.Proofs.YtnijlmkodgdhlaaDoor.xmlTexts
