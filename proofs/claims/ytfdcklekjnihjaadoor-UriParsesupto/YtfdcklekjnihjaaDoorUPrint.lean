/-
  Contracts of package uri: written, Print.
-/
import Derived.Test.YtfdcklekjnihjaaDoorUMay
import Derived.Test.YtfdcklekjnihjaaDoorCheckL
import Derived.Test.YtfdcklekjnihjaaDoorDigits
namespace Go.Proofs.YtfdcklekjnihjaaDoor
open Go.RowKit Sc
set_option linter.unusedVariables false
set_option maxRecDepth 20000

theorem esc_list (s keep : List UInt8) (w : World) (hs : s.length ≤ 1048576) (hk : keep.length ≤ 64) :
    Calls Tryd.prog 35 #[.string ⟨s.toArray⟩, .string ⟨keep.toArray⟩] w fun e w' => e = .returned (.string ⟨(escL keep s).toArray⟩) ∧ Below w.heap.size w w' :=
  escape_any ⟨s.toArray⟩ ⟨keep.toArray⟩ w (by rw [size_list]; omega) (by rw [size_list]; omega)
theorem digits_int (n : Int) (w : World) (h0 : 0 ≤ n) (h1 : n ≤ 65535) :
    Calls Tryd.prog 36 #[.int .i64 n] w fun e w' => e = .returned (.string ⟨(digL n.toNat).toArray⟩) ∧ Below w.heap.size w w' := by
  have h := digits_any n.toNat w (by omega)
  have e : ((n.toNat : Nat) : Int) = n := by omega
  rw [e] at h
  exact h
theorem escLn (keep s : List UInt8) : (escL keep s).length ≤ 3 * s.length := by
  have := esc_cells_len (kpF keep) s
  rw [Lib.byteCells_length] at this
  exact this
theorem appL (a b : List UInt8) : (⟨a.toArray⟩ : ByteArray) ++ (⟨b.toArray⟩ : ByteArray) = ⟨(a ++ b).toArray⟩ := by
  apply ByteArray.ext; simp

/-- A list's text: one text ahead of its first parameter, another ahead of each other one. -/
def wrT (f n keep : List UInt8) (ps : List Par) : List UInt8 := (ps.zipIdx).flatMap fun (p, i) => (if i = 0 then f else n) ++ pairV keep p
theorem wrT_snoc {f n keep : List UInt8} {ps : List Par} {k : Nat} (hk : k < ps.length) : wrT f n keep (ps.take (k + 1)) = wrT f n keep (ps.take k) ++ ((if k = 0 then f else n) ++ pairV keep ps[k]) := by
  unfold wrT
  rw [List.take_succ_eq_append_getElem hk, List.zipIdx_append, List.flatMap_append, List.length_take, Nat.min_eq_left (by omega)]
  simp
theorem wrT_hdr (ps : List Par) : wrT [63] [38] headersK ps = hdrT ps := rfl
theorem wrT_pars (ps : List Par) : wrT [59] [59] paramsK ps = parsT ps := by
  unfold wrT parsT
  have key : ∀ (m : Nat) (qs : List Par), ((qs.zipIdx m).flatMap fun (p, i) => (if i = 0 then ([59] : List UInt8) else [59]) ++ pairV paramsK p) = qs.flatMap fun p => [59] ++ pairV paramsK p := by
    intro m qs
    induction qs generalizing m with
    | nil => rfl
    | cons q qs ih =>
      rw [List.zipIdx_cons, List.flatMap_cons, ih (m + 1), List.flatMap_cons]
      simp
  exact key 0 ps
theorem pairVn (keep : List UInt8) (p : Par) (h : parB p = true) : (pairV keep p).length ≤ 400 := by
  have hp := parB_ok h
  have l1 := escLn keep p.name
  have l2 := escLn keep p.value
  unfold pairV
  split
  · simp; omega
  · omega
theorem wrT_len (f n keep : List UInt8) (ps : List Par) (hf : f.length ≤ 1) (hn : n.length ≤ 1) (hp : ∀ p ∈ ps, parB p = true) : (wrT f n keep ps).length ≤ 401 * ps.length := by
  have key : ∀ k, k ≤ ps.length → (wrT f n keep (ps.take k)).length ≤ 401 * k := by
    intro k
    induction k with
    | zero => intro _; simp [wrT]
    | succ k ih =>
      intro hk
      have h1 := ih (by omega)
      have h2 := pairVn keep ps[k] (hp _ (List.getElem_mem (by omega)))
      rw [wrT_snoc (by omega), List.length_append, List.length_append]
      split <;> omega
  have := key ps.length (Nat.le_refl _)
  rwa [List.take_length] at this

set_option maxHeartbeats 2000000 in
set_option maxRecDepth 100000 in
theorem wr_row (a : Addr) (cap : Nat) (ps : List Par) (f n keep : List UInt8) (w : World) (h16 : ps.length ≤ 16) (hp : ∀ p ∈ ps, parB p = true) (hf : f.length ≤ 1) (hn : n.length ≤ 1) (hkp : keep.length ≤ 64) (hc : ∀ k (hk : k < ps.length), a.block < w.heap.size ∧ ParAt w a k ps[k]) :
    Calls Tryd.prog 37 #[.slice (some a) ps.length cap, .string ⟨f.toArray⟩, .string ⟨n.toArray⟩, .string ⟨keep.toArray⟩] w fun e w' => e = .returned (.string ⟨(wrT f n keep ps).toArray⟩) ∧ Below w.heap.size w w' := by
  have HC : Hid _ := hc; clear hc
  have HP : Hid _ := hp; clear hp
  obtain ⟨m, hm⟩ : ∃ m, m = ps.length := ⟨_, rfl⟩
  rw [← hm] at h16 ⊢
  have HN : Hid _ := hm; clear hm
  go_enter Tryd.func37, Tryd.ntmps37
  go_wp2
  go_loopw [9, 10, 16] (fun x y i wr => ∃ (k : Nat) (l g : List UInt8), k ≤ m ∧ i = .int .i64 k ∧ x = .string ⟨l.toArray⟩ ∧ y = .string ⟨g.toArray⟩ ∧ l.length ≤ 401 * k ∧ g.length ≤ 1 ∧ Hid (g = if k = 0 then f else n) ∧ Hid (l = wrT f n keep (ps.take k)) ∧ Below w.heap.size w wr) (fun _ _ i _ => m - (intOf i).toNat)
  case atStart => exact ⟨0, [], f, by omega, rfl, rfl, rfl, by simp, hf, rfl, rfl, Below.refl _ _⟩
  case round =>
    obtain ⟨k, l, g, hk, rfl, rfl, rfl, hll, hgl, hg, hle, hb⟩ := hrel
    by_cases hlt : k < m
    · have hkl : k < ps.length := by have := HN.out; omega
      obtain ⟨hab, hpa⟩ := HC.out k hkl
      obtain ⟨c0, c1, c2⟩ := hpa.below hb hab
      have hpb := HP.out _ (List.getElem_mem hkl)
      have hpo := parB_ok hpb
      have hpl := pairVn keep _ hpb
      have hsn : Hid (wrT f n keep (ps.take (k + 1)) = l ++ (g ++ pairV keep ps[k])) := show _ = _ by rw [wrT_snoc hkl, hle.out, hg.out]
      generalize ps[k] = p at c0 c1 c2 hpo hpl hsn
      obtain ⟨nm, vl, hs⟩ := p
      simp only at c0 c1 c2 hpo
      have l1 := escLn keep nm
      have l2 := escLn keep vl
      have hB := hb.size
      clear hpb hpa hle hg
      have hbx : ∀ o, Below w.heap.size w (wr.alloc o) := fun o => hb.alloc hB o
      cases hs with
      | false =>
        have hpv : pairV keep ⟨nm, vl, false⟩ = escL keep nm := rfl
        rw [hpv] at hsn hpl
        have hcl : ∀ o1 o2 w5, Below (wr.alloc (.cells #[o1, o2, .bool false] 66)).heap.size (wr.alloc (.cells #[o1, o2, .bool false] 66)) w5 → w5.cell? ⟨wr.heap.size, 2, none⟩ = some (.bool false) := fun o1 o2 w5 h => by
          rw [h.cell (by simp)]; unfold World.cell?; rw [heap_alloc_new]; rfl
        go_wp2_with (go_at_call 35; refine (esc_list nm keep _ (by omega) hkp).mono ?_; rintro e w5 ⟨rfl, h5⟩; have hc5 := hcl _ _ _ h5; have hb5 := box_below hb hB h5; clear h5 hcl hbx)
        go_roundw
        case rel => exact ⟨k + 1, l ++ (g ++ escL keep nm), n, by omega, by go_num, by rw [← appL, ← appL], rfl, by simp; omega, hn, show _ = _ from (if_neg (by omega)).symm, hsn.out.symm, hb5⟩
        case measure => simp [intOf]; omega
      | true =>
        have hpv : pairV keep ⟨nm, vl, true⟩ = escL keep nm ++ [61] ++ escL keep vl := rfl
        rw [hpv] at hsn hpl
        simp only [List.length_append] at hpl
        have hcl : ∀ o1 o2 w5, Below (wr.alloc (.cells #[o1, o2, .bool true] 66)).heap.size (wr.alloc (.cells #[o1, o2, .bool true] 66)) w5 → w5.cell? ⟨wr.heap.size, 1, none⟩ = some o2 ∧ w5.cell? ⟨wr.heap.size, 2, none⟩ = some (.bool true) := fun o1 o2 w5 h => by
          constructor <;> (rw [h.cell (by simp)]; unfold World.cell?; rw [heap_alloc_new]; rfl)
        go_wp2_with fail
        refine (esc_list nm keep _ (by omega) hkp).mono ?_
        rintro e w5 ⟨rfl, h5⟩
        obtain ⟨hc5, hd5⟩ := hcl _ _ _ h5
        have hb5 := box_below hb hB h5
        clear h5 hcl hbx
        go_wp2_with fail
        refine (esc_list vl keep _ (by omega) hkp).mono ?_
        rintro e w6 ⟨rfl, h6⟩
        have hb6 := hb5.trans (h6.mono hb5.size)
        clear h6 hc5 hd5
        go_wp2
        go_roundw
        case rel => exact ⟨k + 1, l ++ (g ++ (escL keep nm ++ [61] ++ escL keep vl)), n, by omega, by go_num, by first | (simp only [← appL, ByteArray.append_assoc]; rfl) | (simp only [← appL, ByteArray.append_assoc]), rfl, by simp; omega, hn, show _ = _ from (if_neg (by omega)).symm, hsn.out.symm, hb6⟩
        case measure => simp [intOf]; omega
    · have hd : Hid (wrT f n keep ps = l) := show _ = _ by
        rw [hle.out, List.take_of_length_le (by have := HN.out; omega)]
      clear hle hg
      go_wp2
      go_ret
      exact ⟨by rw [hd.out]; rfl, hb⟩

set_option maxHeartbeats 400000 in
theorem wr_nil (a : Option Addr) (cap : Nat) (f n keep : List UInt8) (w : World) :
    Calls Tryd.prog 37 #[.slice a 0 cap, .string ⟨f.toArray⟩, .string ⟨n.toArray⟩, .string ⟨keep.toArray⟩] w fun e w' => e = .returned (.string ⟨#[]⟩) ∧ Below w.heap.size w w' := by
  go_enter Tryd.func37, Tryd.ntmps37
  go_wp2
  go_loop [9, 16] (fun x i => x = .string ⟨#[]⟩ ∧ i = .int .i64 0) (fun _ i => 0)
  case atStart => exact ⟨rfl, rfl⟩
  case round =>
    obtain ⟨rfl, rfl⟩ := hrel
    go_wp2
    go_ret
    exact ⟨rfl, Below.refl _ _⟩
theorem wr_any (v : Value) (ps : List Par) (f n keep : List UInt8) (w : World) (h16 : ps.length ≤ 16) (hp : ∀ p ∈ ps, parB p = true) (hf : f.length ≤ 1) (hn : n.length ≤ 1) (hkp : keep.length ≤ 64) (h : ParsAt w v ps) :
    Calls Tryd.prog 37 #[v, .string ⟨f.toArray⟩, .string ⟨n.toArray⟩, .string ⟨keep.toArray⟩] w fun e w' => e = .returned (.string ⟨(wrT f n keep ps).toArray⟩) ∧ Below w.heap.size w w' := by
  rcases h with ⟨rfl, rfl⟩ | ⟨a, cap, rfl, hc⟩
  · exact wr_nil none 0 f n keep w
  · exact wr_row a cap ps f n keep w h16 hp hf hn hkp hc

theorem ret_prt {p : List UInt8 × Int} {x : List UInt8} {a : Int} (h : p = (x, a)) : Ending.returned (.tuple #[.string ⟨x.toArray⟩, .int .i64 a]) = .returned (.tuple #[.string ⟨p.1.toArray⟩, .int .i64 p.2]) := by rw [h]
theorem ret_prb {p : List UInt8 × Int} {b : ByteArray} {x : List UInt8} {a : Int} (h : p = (x, a)) (hb : b = ⟨x.toArray⟩) : Ending.returned (.tuple #[.string b, .int .i64 a]) = .returned (.tuple #[.string ⟨p.1.toArray⟩, .int .i64 p.2]) := by rw [h, hb]

set_option maxHeartbeats 1000000 in
theorem print_bad (u : Uri) (p h : Value) (w : World) (hsm : SmallU 140737488355328 u) (hp : ParsAt w p u.params) (hh : ParsAt w h u.headers) (hne : ¬ checkV u = 0) :
    Calls Tryd.prog 16 #[uriV u p h] w fun e w' => e = .returned (.tuple #[.string ⟨(printV u).1.toArray⟩, .int .i64 (printV u).2]) ∧ Below w.heap.size w w' := by
  have hv : Hid (printV u = ([], checkV u)) := show _ = _ by rw [printV, if_neg hne]
  have hn : (checkV u != 0) = true := by simpa using hne
  have hn2 : (checkV u == 0) = false := by simpa using hne
  have hbw : Below w.heap.size w (w.alloc (.cells #[.string ⟨u.scheme.toArray⟩, .string ⟨u.user.toArray⟩, .string ⟨u.host.toArray⟩, .int .i64 u.port, p, h] 31)) := (Below.refl _ w).alloc (Nat.le_refl _) _
  clear hne
  unfold uriV
  go_enter Tryd.func16, Tryd.ntmps16
  go_wp2_with fail
  refine (check_any u p h _ hsm (hp.below hbw) (hh.below hbw)).mono ?_
  rintro e w2 ⟨rfl, hw2⟩
  go_wp2
  go_ret2
  exact ⟨ret_prt (x := []) hv.out, hbw.trans (hw2.mono hbw.size)⟩

theorem parK : (⟨#[91, 93, 47, 58, 38, 43, 36]⟩ : ByteArray) = ⟨paramsK.toArray⟩ := rfl
theorem hdrK : (⟨#[91, 93, 47, 63, 58, 43, 36]⟩ : ByteArray) = ⟨headersK.toArray⟩ := rfl

set_option maxHeartbeats 4000000 in
set_option maxRecDepth 100000 in
theorem print_ok (u : Uri) (p h : Value) (w : World) (hsm : SmallU 140737488355328 u) (hp : ParsAt w p u.params) (hh : ParsAt w h u.headers) (hok : checkV u = 0) :
    Calls Tryd.prog 16 #[uriV u p h] w fun e w' => e = .returned (.tuple #[.string ⟨(printV u).1.toArray⟩, .int .i64 (printV u).2]) ∧ Below w.heap.size w w' := by
  have hv : Hid (printV u = (textT u, 0)) := show _ = _ by rw [printV, if_pos hok]
  obtain ⟨k1, k2, k3, k4, k5, k6, k7, k8⟩ := check_ok hok
  have hl1 := schemeB_ok k1
  have hl3 := hostB_ok k3
  have hpl := listB_ok k6
  have hhl := listB_ok k7
  have hbox := box_new w u p h
  have hbw : Below w.heap.size w (w.alloc (.cells #[.string ⟨u.scheme.toArray⟩, .string ⟨u.user.toArray⟩, .string ⟨u.host.toArray⟩, .int .i64 u.port, p, h] 31)) := (Below.refl _ w).alloc (Nat.le_refl _) _
  have hws : w.heap.size < (w.alloc (.cells #[.string ⟨u.scheme.toArray⟩, .string ⟨u.user.toArray⟩, .string ⟨u.host.toArray⟩, .int .i64 u.port, p, h] 31)).heap.size := by simp
  have el := escLn usersK u.user
  have dl := digL_len19 (n := u.port.toNat) (by omega)
  have pl := wrT_len [59] [59] paramsK u.params (by simp) (by simp) hpl.2
  have hl := wrT_len [63] [38] headersK u.headers (by simp) (by simp) hhl.2
  have W1 : ∀ w', Below w.heap.size w w' → Calls Tryd.prog 37 #[p, .string ⟨#[59]⟩, .string ⟨#[59]⟩, .string ⟨#[91, 93, 47, 58, 38, 43, 36]⟩] w' fun e w'' => e = .returned (.string ⟨(wrT [59] [59] paramsK u.params).toArray⟩) ∧ Below w'.heap.size w' w'' := fun w' hb =>
    wr_any p u.params [59] [59] paramsK w' hpl.1 hpl.2 (by simp) (by simp) (by decide) (hp.below hb)
  have W2 : ∀ w', Below w.heap.size w w' → Calls Tryd.prog 37 #[h, .string ⟨#[63]⟩, .string ⟨#[38]⟩, .string ⟨#[91, 93, 47, 63, 58, 43, 36]⟩] w' fun e w'' => e = .returned (.string ⟨(wrT [63] [38] headersK u.headers).toArray⟩) ∧ Below w'.heap.size w' w'' := fun w' hb =>
    wr_any h u.headers [63] [38] headersK w' hhl.1 hhl.2 (by simp) (by simp) (by decide) (hh.below hb)
  have hfin : textT u = frontT u ++ wrT [59] [59] paramsK u.params ++ wrT [63] [38] headersK u.headers := by rw [wrT_pars, wrT_hdr]; rfl
  have HFIN : Hid _ := hfin; clear hfin
  have hp16 := hpl.1
  have hh16 := hhl.1
  clear k1 k3 k6 k7 k8 hpl hhl
  generalize wrT [59] [59] paramsK u.params = T1 at pl W1 HFIN
  generalize wrT [63] [38] headersK u.headers = T2 at hl W2 HFIN
  have WW1 : Hid _ := W1; clear W1
  have WW2 : Hid _ := W2; clear W2
  unfold uriV
  go_enter Tryd.func16, Tryd.ntmps16
  go_wp2_with fail
  refine (check_any u p h _ hsm (hp.below hbw) (hh.below hbw)).mono ?_
  rintro e w2 ⟨rfl, hw2⟩
  rw [hok]
  have hb2 := hbw.trans (hw2.mono hbw.size)
  have hx2 := hbox.below hw2 hws
  have hs2 : w.heap.size < w2.heap.size := Nat.lt_of_lt_of_le hws hw2.size
  obtain ⟨g0, g1, g2, g3, g4, g5⟩ := hx2
  have hx2 : Hid (BoxU w2 w.heap.size u p h) := ⟨g0, g1, g2, g3, g4, g5⟩
  clear hbox hbw hws hw2 hok hp hh
  by_cases eu : u.user = []
  · have hue : u.user.isEmpty = true := by simp [eu]
    by_cases ep : u.port = 0
    · have hpe : (u.port != 0) = false := by simp [ep]
      have hpe2 : (u.port == 0) = true := by simp [ep]
      have hfr : Hid (frontT u = u.scheme ++ [58] ++ u.host) := show _ = _ by simp [frontT, eu, ep]
      clear eu ep
      go_wp2_with fail
      refine (WW1.out _ hb2).mono ?_
      rintro e w3 ⟨rfl, hw3⟩
      have hb3 := hb2.trans (hw3.mono hb2.size)
      have hx3 := hx2.out.below hw3 hs2
      clear g0 g1 g2 g3 g4 g5 hx2 hs2 hw3
      obtain ⟨g0, g1, g2, g3, g4, g5⟩ := hx3
      go_wp2_with fail
      refine (WW2.out _ hb3).mono ?_
      rintro e w4 ⟨rfl, hw4⟩
      have hb4 := hb3.trans (hw4.mono hb3.size)
      clear hw4
      go_wp2
      go_ret2
      exact ⟨ret_prb hv.out (by rw [HFIN.out, hfr.out]; simp only [← appL, ByteArray.append_assoc]), hb4⟩
    · have hpe : (u.port != 0) = true := by simpa using ep
      have hpe2 : (u.port == 0) = false := by simpa using ep
      have hfr : Hid (frontT u = u.scheme ++ [58] ++ u.host ++ ([58] ++ digL u.port.toNat)) := show _ = _ by simp [frontT, eu, ep]
      clear eu ep
      go_wp2_with fail
      refine (digits_int u.port _ k4 k5).mono ?_
      rintro e wd ⟨rfl, hwd⟩
      have hbd := hb2.trans (hwd.mono hb2.size)
      have hxd := hx2.out.below hwd hs2
      have hsd : w.heap.size < wd.heap.size := Nat.lt_of_lt_of_le hs2 hwd.size
      clear g0 g1 g2 g3 g4 g5 hx2 hs2 hwd
      obtain ⟨g0, g1, g2, g3, g4, g5⟩ := hxd
      have hxd : Hid (BoxU wd w.heap.size u p h) := ⟨g0, g1, g2, g3, g4, g5⟩
      go_wp2_with fail
      refine (WW1.out _ hbd).mono ?_
      rintro e w3 ⟨rfl, hw3⟩
      have hb3 := hbd.trans (hw3.mono hbd.size)
      have hx3 := hxd.out.below hw3 hsd
      clear g0 g1 g2 g3 g4 g5 hxd hsd hw3
      obtain ⟨g0, g1, g2, g3, g4, g5⟩ := hx3
      go_wp2_with fail
      refine (WW2.out _ hb3).mono ?_
      rintro e w4 ⟨rfl, hw4⟩
      have hb4 := hb3.trans (hw4.mono hb3.size)
      clear hw4
      go_wp2
      go_ret2
      exact ⟨ret_prb hv.out (by rw [HFIN.out, hfr.out]; simp only [← appL, ByteArray.append_assoc]), hb4⟩
  · have hue : u.user.isEmpty = false := by simpa using eu
    have hes := fun w' => esc_list u.user usersK w' (by omega) (by decide)
    have HES : Hid _ := hes; clear hes
    by_cases ep : u.port = 0
    · have hpe : (u.port != 0) = false := by simp [ep]
      have hpe2 : (u.port == 0) = true := by simp [ep]
      have hfr : Hid (frontT u = u.scheme ++ [58] ++ (escL usersK u.user ++ [64]) ++ u.host) := show _ = _ by simp [frontT, eu, ep]
      clear eu ep
      go_wp2_with fail
      refine (HES.out _).mono ?_
      rintro e we ⟨rfl, hwe⟩
      have hbe := hb2.trans (hwe.mono hb2.size)
      have hxe := hx2.out.below hwe hs2
      have hse : w.heap.size < we.heap.size := Nat.lt_of_lt_of_le hs2 hwe.size
      clear g0 g1 g2 g3 g4 g5 hx2 hs2 hwe
      obtain ⟨g0, g1, g2, g3, g4, g5⟩ := hxe
      have hxe : Hid (BoxU we w.heap.size u p h) := ⟨g0, g1, g2, g3, g4, g5⟩
      go_wp2_with fail
      refine (WW1.out _ hbe).mono ?_
      rintro e w3 ⟨rfl, hw3⟩
      have hb3 := hbe.trans (hw3.mono hbe.size)
      have hx3 := hxe.out.below hw3 hse
      clear g0 g1 g2 g3 g4 g5 hxe hse hw3
      obtain ⟨g0, g1, g2, g3, g4, g5⟩ := hx3
      go_wp2_with fail
      refine (WW2.out _ hb3).mono ?_
      rintro e w4 ⟨rfl, hw4⟩
      have hb4 := hb3.trans (hw4.mono hb3.size)
      clear hw4
      go_wp2
      go_ret2
      exact ⟨ret_prb hv.out (by rw [HFIN.out, hfr.out]; simp only [← appL, ByteArray.append_assoc]), hb4⟩
    · have hpe : (u.port != 0) = true := by simpa using ep
      have hpe2 : (u.port == 0) = false := by simpa using ep
      have hfr : Hid (frontT u = u.scheme ++ [58] ++ (escL usersK u.user ++ [64]) ++ u.host ++ ([58] ++ digL u.port.toNat)) := show _ = _ by simp [frontT, eu, ep]
      clear eu ep
      go_wp2_with fail
      refine (HES.out _).mono ?_
      rintro e we ⟨rfl, hwe⟩
      have hbe := hb2.trans (hwe.mono hb2.size)
      have hxe := hx2.out.below hwe hs2
      have hse : w.heap.size < we.heap.size := Nat.lt_of_lt_of_le hs2 hwe.size
      clear g0 g1 g2 g3 g4 g5 hx2 hs2 hwe
      obtain ⟨g0, g1, g2, g3, g4, g5⟩ := hxe
      have hxe : Hid (BoxU we w.heap.size u p h) := ⟨g0, g1, g2, g3, g4, g5⟩
      go_wp2_with fail
      refine (digits_int u.port _ k4 k5).mono ?_
      rintro e wd ⟨rfl, hwd⟩
      have hbd := hbe.trans (hwd.mono hbe.size)
      have hxd := hxe.out.below hwd hse
      have hsd : w.heap.size < wd.heap.size := Nat.lt_of_lt_of_le hse hwd.size
      clear g0 g1 g2 g3 g4 g5 hxe hse hwd
      obtain ⟨g0, g1, g2, g3, g4, g5⟩ := hxd
      have hxd : Hid (BoxU wd w.heap.size u p h) := ⟨g0, g1, g2, g3, g4, g5⟩
      go_wp2_with fail
      refine (WW1.out _ hbd).mono ?_
      rintro e w3 ⟨rfl, hw3⟩
      have hb3 := hbd.trans (hw3.mono hbd.size)
      have hx3 := hxd.out.below hw3 hsd
      clear g0 g1 g2 g3 g4 g5 hxd hsd hw3
      obtain ⟨g0, g1, g2, g3, g4, g5⟩ := hx3
      go_wp2_with fail
      refine (WW2.out _ hb3).mono ?_
      rintro e w4 ⟨rfl, hw4⟩
      have hb4 := hb3.trans (hw4.mono hb3.size)
      clear hw4
      go_wp2
      go_ret2
      exact ⟨ret_prb hv.out (by rw [HFIN.out, hfr.out]; simp only [← appL, ByteArray.append_assoc]), hb4⟩

theorem print_any (u : Uri) (p h : Value) (w : World) (hsm : SmallU 140737488355328 u) (hp : ParsAt w p u.params) (hh : ParsAt w h u.headers) :
    Calls Tryd.prog 16 #[uriV u p h] w fun e w' => e = .returned (.tuple #[.string ⟨(printV u).1.toArray⟩, .int .i64 (printV u).2]) ∧ Below w.heap.size w w' := by
  by_cases hok : checkV u = 0
  · exact print_ok u p h w hsm hp hh hok
  · exact print_bad u p h w hsm hp hh hok

end Go.Proofs.YtfdcklekjnihjaaDoor
