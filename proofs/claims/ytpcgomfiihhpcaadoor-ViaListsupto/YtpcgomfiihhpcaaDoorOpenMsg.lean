/-
  Messages that come in, opened.
-/
import Derived.Test.YtpcgomfiihhpcaaDoorFU
import Derived.Deep.Slices
import Derived.ChangeArms
namespace Go.Proofs.YtpcgomfiihhpcaaDoor
open Go.RowKit Go.ChangeShapes Go.WideShapes Go.Deep
set_option linter.unusedVariables false
set_option maxRecDepth 20000

/-- A message that came in. -/
def MsgGot (B : Nat) (W : World) (v : Value) : Prop := ∃ (m : Ms) (h : Value), v = msgV m h ∧ HdrsAt W h m.headers ∧ SmallM B m ∧ m.headers.length ≤ 4398046511104 ∧ (Lit.int .i64 m.status).wf = true
theorem cellsHdr : Tryd.prog.cellsOf 47 = 2 := by kernel_rfl
theorem cellsMsg : Tryd.prog.cellsOf 45 = 6 := by kernel_rfl
theorem cellsHdrs : Tryd.prog.cellsOf 43 = 1 := by kernel_rfl

section
variable {H : Type} {enc : TypeId × Value → H} {W : World} {sp : Nat → Bool}

def hdrD (p : Hdr) : DataW H := .agg [.lit (.string p.name), .lit (.string p.value)]
def HdrD (d : DataW H) (ps : List Hdr) : Prop := (d = .nil ∧ ps = []) ∨ ∃ sp, d = .slice (ps.map hdrD) sp
theorem open_hdr {fuel : Nat} {cs : List Value} {x : DataW H × List MemPlace} (h : DataW.trod enc Tryd.prog W 0 sp true fuel 47 cs = some x) :
    ∃ p : Hdr, cs = hdrCells p ∧ x.1 = hdrD p := by
  obtain ⟨xs, n, _, rfl, hl, hlen, hf⟩ := DataW.trod_struct Tryd.underlying47 h
  rw [cellsHdr] at hl
  match cs, hl, xs, hlen with
  | [c0, c1], _, [y0, y1], _ =>
    have f0 := hf 0 _ rfl
    have f1 := hf 1 _ rfl
    simp [cellsStr] at f0 f1
    obtain ⟨s0, e0, rfl, _⟩ := DataW.trod_string Tryd.underlying9 f0
    obtain ⟨s1, e1, rfl, _⟩ := DataW.trod_string Tryd.underlying9 f1
    simp only [List.cons.injEq, and_true] at e0 e1
    subst e0 e1
    exact ⟨⟨s0.data.toList, s1.data.toList⟩, by simp [hdrCells], rfl⟩
theorem open_hdrs {fuel : Nat} {cs : List Value} {x : DataW H × List MemPlace} (h : DataW.trod enc Tryd.prog W 0 sp true fuel 43 cs = some x) :
    ∃ (v : Value) (ps : List Hdr), cs = [v] ∧ HdrsAt W v ps ∧ HdrD x.1 ps := by
  rcases open_slice Tryd.underlying43 h with ⟨rfl, rfl⟩ | ⟨a, len, cap, m, n, D, Pl, rfl, _, hlc, hcm, hm, rfl, hall⟩
  · exact ⟨_, [], rfl, Or.inl ⟨rfl, rfl⟩, Or.inl ⟨rfl, rfl⟩⟩
  · have hlm : len ≤ m := by rw [hm]; split <;> omega
    have each : ∀ i, i < len → ∃ p : Hdr, D i = hdrD p ∧ (a.block < W.heap.size ∧ HdrAt W a i p) := by
      intro i hi
      obtain ⟨cs', h1, h2⟩ := hall i (by omega)
      obtain ⟨p, rfl, hd⟩ := open_hdr h2
      rw [cellsHdr] at h1
      obtain ⟨_, _, hc⟩ := World.cells?_some h1
      have c0 := hc 0 (by omega)
      have c1 := hc 1 (by omega)
      refine ⟨p, hd, ?_, ?_, ?_⟩
      · have hc0 : W.cell? (a.add (i * 2)) = some (.string ⟨p.name.toArray⟩) := by simpa [Addr.add, hdrCells] using c0
        have : (a.add (i * 2)).block < W.heap.size := by
          unfold World.cell? at hc0
          cases hh : W.heap[(a.add (i * 2)).block]? with
          | none => simp [hh] at hc0
          | some o => exact (Array.getElem?_eq_some_iff.1 hh).1
        rwa [add_block] at this
      · simpa [Addr.add, hdrCells] using c0
      · simpa [Addr.add, hdrCells] using c1
    obtain ⟨f, hf⟩ := @choose_lt Hdr ⟨⟨[], []⟩⟩ len _ each
    refine ⟨_, (List.range len).map f, rfl, Or.inr ⟨a, cap, by simp, by simpa using hlc, fun k hk => ?_⟩, Or.inr ⟨(List.range (m - len)).map fun j => D (len + j), ?_⟩⟩
    · simp at hk
      simpa using (hf k hk).2
    · simp only [List.map_map]
      congr 1
      apply List.map_congr_left
      intro i hi
      exact (hf i (by simpa using hi)).1
theorem open_msg {r : Reach} {b0 : Nat} {v : Value} {d : DataW H} {p : List MemPlace} (hv : Value.okWide Tryd.prog W r b0 45 v) (h : DataW.Trod enc Tryd.prog W 0 sp true 45 v d p) :
    ∃ (m : Ms) (hh : Value) (dh : DataW H), v = msgV m hh ∧ HdrsAt W hh m.headers ∧
      d = .agg [.lit (.string m.method), .lit (.string m.target), .lit (.int .i64 m.status), .lit (.string m.reason), dh, .lit (.string m.body)] ∧ HdrD dh m.headers ∧ (Lit.int .i64 m.status).wf = true := by
  obtain ⟨cs, rfl, hsz⟩ := okWide_struct Tryd.underlying45 hv
  obtain ⟨fuel, hf0⟩ := h
  obtain ⟨xs, n, _, hx, hl, hlen, hf⟩ := DataW.trod_struct Tryd.underlying45 hf0
  rw [cellsMsg] at hsz
  obtain ⟨l⟩ := cs
  match l, hsz, xs, hlen with
  | [c0, c1, c2, c3, c4, c5], _, [y0, y1, y2, y3, y4, y5], _ =>
    have f0 := hf 0 _ rfl
    have f1 := hf 1 _ rfl
    have f2 := hf 2 _ rfl
    have f3 := hf 3 _ rfl
    have f4 := hf 4 _ rfl
    have f5 := hf 5 _ rfl
    simp [cellsStr, cellsInt, cellsHdrs, Value.cells] at f0 f1 f2 f3 f4 f5
    obtain ⟨s0, e0, rfl, _⟩ := DataW.trod_string Tryd.underlying9 f0
    obtain ⟨s1, e1, rfl, _⟩ := DataW.trod_string Tryd.underlying9 f1
    obtain ⟨i2, e2, rfl, w2⟩ := DataW.trod_int Tryd.underlying3 f2
    obtain ⟨s3, e3, rfl, _⟩ := DataW.trod_string Tryd.underlying9 f3
    obtain ⟨v4, p4, e4, a4, d4⟩ := open_hdrs f4
    obtain ⟨s5, e5, rfl, _⟩ := DataW.trod_string Tryd.underlying9 f5
    simp only [List.cons.injEq, and_true] at e0 e1 e2 e3 e4 e5
    subst e0 e1 e2 e3 e4 e5
    simp only [Prod.mk.injEq] at hx
    exact ⟨⟨s0.data.toList, s1.data.toList, i2, s3.data.toList, p4, s5.data.toList⟩, c4, y4.1, by simp [msgV], a4, by simpa using hx.1, d4, w2⟩
theorem bytesHdr : Tryd.prog.bytesOf 47 = 32 := by kernel_rfl
theorem hdr_weights (p : Hdr) : (hdrD (H := H) p).weights Tryd.prog 47 = [p.name.length, p.value.length] := by
  simp [hdrD, DataW.weights, Tryd.underlying47, DataW.weightsEach]
theorem hdrs_weights (ps : List Hdr) : ∀ p ∈ ps, p.name.length ∈ DataW.weightsAll Tryd.prog 47 (ps.map (hdrD (H := H))) ∧ p.value.length ∈ DataW.weightsAll Tryd.prog 47 (ps.map (hdrD (H := H))) := by
  induction ps with
  | nil => simp
  | cons q ps ih =>
    intro p hp
    simp only [List.map_cons, DataW.weightsAll, List.mem_append]
    rcases List.mem_cons.1 hp with rfl | hp
    · exact ⟨Or.inl (by rw [hdr_weights]; simp), Or.inl (by rw [hdr_weights]; simp)⟩
    · exact ⟨Or.inr (ih p hp).1, Or.inr (ih p hp).2⟩
theorem hdrs_said {B : Nat} {d : DataW H} {ps : List Hdr} (hd : HdrD d ps) (hz : ∀ n ∈ d.weights Tryd.prog 43, n ≤ B) (hB : B ≤ 140737488355328) : SmallH B ps ∧ ps.length ≤ 4398046511104 := by
  rcases hd with ⟨rfl, rfl⟩ | ⟨sp, rfl⟩
  · exact ⟨⟨by simp, by simp⟩, by simp⟩
  · simp only [DataW.weights, Tryd.underlying43, bytesHdr] at hz
    have hcnt := hz _ (List.mem_cons_self ..)
    simp at hcnt
    refine ⟨⟨by omega, fun p hp => ⟨?_, ?_⟩⟩, by omega⟩
    · exact hz _ (List.mem_cons_of_mem _ (List.mem_append.2 (Or.inl (hdrs_weights ps p hp).1)))
    · exact hz _ (List.mem_cons_of_mem _ (List.mem_append.2 (Or.inl (hdrs_weights ps p hp).2)))
theorem msg_said {B : Nat} {r : Reach} {b0 : Nat} {v : Value} {d : DataW H} {p : List MemPlace} (hv : Value.okWide Tryd.prog W r b0 45 v) (h : DataW.Trod enc Tryd.prog W 0 sp true 45 v d p)
    (hz : ∀ n ∈ d.weights Tryd.prog 45, n ≤ B) (hB : B ≤ 140737488355328 := by omega) : MsgGot B W v := by
  obtain ⟨m, hh, dh, rfl, a1, rfl, d1, wf⟩ := open_msg hv h
  simp only [DataW.weights, Tryd.underlying45, List.map_cons, List.map_nil, DataW.weightsEach] at hz
  have hh2 := hdrs_said d1 (fun n hn => hz n (by simp [hn])) hB
  exact ⟨m, hh, rfl, a1, ⟨hz _ (by simp), hz _ (by simp), hz _ (by simp), hz _ (by simp), hh2.1⟩, hh2.2, wf⟩
theorem bulk_hdrs (ps : List Hdr) : (∀ p ∈ ps, p.name.length + p.value.length ≤ Rows.uptoBulkAll (ps.map (hdrD (H := H)))) ∧ ps.length ≤ Rows.uptoBulkAll (ps.map (hdrD (H := H))) := by
  induction ps with
  | nil => simp
  | cons q ps ih =>
    simp only [List.map_cons, Rows.uptoBulkAll, hdrD, Rows.uptoBulk] at ih ⊢
    refine ⟨fun p hp => ?_, by simp; omega⟩
    rcases List.mem_cons.1 hp with rfl | hp
    · omega
    · have := ih.1 p hp; omega
theorem hdrs_upto {B : Nat} {d : DataW H} {ps : List Hdr} (hd : HdrD d ps) (hz : Rows.uptoBulk d ≤ B) : SmallH B ps := by
  rcases hd with ⟨rfl, rfl⟩ | ⟨sp, rfl⟩
  · exact ⟨by simp, by simp⟩
  · simp only [Rows.uptoBulk] at hz
    have hb := bulk_hdrs (H := H) ps
    exact ⟨by omega, fun p hp => by have := hb.1 p hp; omega⟩
theorem msg_upto {B : Nat} {r : Reach} {b0 : Nat} {v : Value} {d : DataW H} {p : List MemPlace} (hv : Value.okWide Tryd.prog W r b0 45 v) (h : DataW.Trod enc Tryd.prog W 0 sp true 45 v d p)
    (hz : Rows.uptoBulk d ≤ B) (hB : B ≤ 4398046511104 := by omega) : MsgGot B W v := by
  obtain ⟨m, hh, dh, rfl, a1, rfl, d1, wf⟩ := open_msg hv h
  simp only [Rows.uptoBulkAll, Rows.uptoBulk] at hz
  have hu := hdrs_upto (B := B) d1 (by omega)
  exact ⟨m, hh, rfl, a1, ⟨by omega, by omega, by omega, by omega, hu⟩, Nat.le_trans hu.1 hB, wf⟩

end
end Go.Proofs.YtpcgomfiihhpcaaDoor
