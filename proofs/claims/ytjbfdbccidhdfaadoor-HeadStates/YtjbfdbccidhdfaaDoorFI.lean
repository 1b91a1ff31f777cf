/-
  Base texts, one behind another: FrameL, FrameBackL, FrameStepL, FrameFoldL, FrameLawL.
-/
import Derived.Test.YtjbfdbccidhdfaaDoorFG

/-
  Messages, read and written: plain functions; what is printed is parsed as it was.
-/
namespace Go.Proofs.YtjbfdbccidhdfaaDoor
open Go.RowKit Sc
set_option linter.unusedVariables false
set_option maxRecDepth 20000
set_option linter.unusedSimpArgs false

structure Hdr where
  name : List UInt8
  value : List UInt8
deriving DecidableEq
/-- A message's parts. -/
structure Ms where
  method : List UInt8
  target : List UInt8
  status : Int
  reason : List UInt8
  headers : List Hdr
  body : List UInt8
deriving DecidableEq
def noM : Ms := ⟨[], [], 0, [], [], []⟩

/-- Names by their letters. -/
def longT : List (UInt8 × List UInt8) :=
  [(118, [86, 105, 97]),
   (102, [70, 114, 111, 109]),
   (116, [84, 111]),
   (105, [67, 97, 108, 108, 45, 73, 68]),
   (109, [67, 111, 110, 116, 97, 99, 116]),
   (101, [67, 111, 110, 116, 101, 110, 116, 45, 69, 110, 99, 111, 100, 105, 110, 103]),
   (108, [67, 111, 110, 116, 101, 110, 116, 45, 76, 101, 110, 103, 116, 104]),
   (99, [67, 111, 110, 116, 101, 110, 116, 45, 84, 121, 112, 101]),
   (115, [83, 117, 98, 106, 101, 99, 116]),
   (107, [83, 117, 112, 112, 111, 114, 116, 101, 100]),
   (111, [69, 118, 101, 110, 116]),
   (117, [65, 108, 108, 111, 119, 45, 69, 118, 101, 110, 116, 115])]
def longV (nm : List UInt8) : List UInt8 := match longT.find? (fun x => lowL nm == [x.1]) with | some x => x.2 | none => nm
def visc (b : UInt8) : Bool := !((decide (b.toNat < 32) && b != 9) || b == 127)
def visB (l : List UInt8) : Bool := l.all visc
def valB (l : List UInt8) : Bool := visB l && trimL l == l
def lengthK : List UInt8 := [67, 111, 110, 116, 101, 110, 116, 45, 76, 101, 110, 103, 116, 104]
def versionK : List UInt8 := [83, 73, 80, 47, 50, 46, 48]
def lengthB (nm : List UInt8) : Bool := sameB nm lengthK
def firstB (m : Ms) : Bool :=
  if m.method = [] then m.target.isEmpty && (decide (100 ≤ m.status ∧ m.status ≤ 699) && valB m.reason)
  else m.target.all (fun b => !blk b) && (tokenB m.method && (!m.target.isEmpty && (visB m.target && (decide (m.status = 0) && m.reason.isEmpty))))
def hdrB (h : Hdr) : Bool := tokenB h.name && (longV h.name == h.name && (!lengthB h.name && valB h.value))
def checkM (m : Ms) : Int := if firstB m = false then 60 else if 64 < m.headers.length then 4 else if m.headers.all hdrB = false then 61 else 0
def crlf : List UInt8 := [13, 10]
def lineT (m : Ms) : List UInt8 := if m.method = [] then versionK ++ [32] ++ digL m.status.toNat ++ [32] ++ m.reason else m.method ++ [32] ++ m.target ++ [32] ++ versionK
def hdrLine (h : Hdr) : List UInt8 := h.name ++ [58, 32] ++ h.value
def lenLine (n : Nat) : List UInt8 := lengthK ++ [58, 32] ++ digL n
def linesT (m : Ms) : List (List UInt8) := lineT m :: (m.headers.map hdrLine ++ [lenLine m.body.length])
def textM (m : Ms) : List UInt8 := ((linesT m).flatMap fun l => l ++ crlf) ++ crlf ++ m.body
def printM (m : Ms) : List UInt8 × Int := if checkM m ≠ 0 then ([], checkM m) else if 4096 < (textM m).length then ([], 2) else (textM m, 0)

/-- The first line of a text, and what stands behind its end. -/
def lineV : List UInt8 → Option (List UInt8 × List UInt8)
  | [] => none
  | b :: r => if b = 13 ∧ r.head? = some 10 then some ([], r.tail) else (lineV r).map fun x => (b :: x.1, x.2)
def pushL (l : List (List UInt8)) (t : List UInt8) : List (List UInt8) :=
  if 2 ≤ l.length ∧ t.head?.any blk = true then l.dropLast ++ [l.getLastD [] ++ [32] ++ trimL t] else l ++ [t]
def headG : Nat → List (List UInt8) → List UInt8 → Option (List (List UInt8) × List UInt8)
  | 0, _, _ => none
  | n + 1, l, s => match lineV s with
    | none => none
    | some (t, r) => if t = [] then some (l, r) else headG n (pushL l t) r
def headV (s : List UInt8) : Option (List (List UInt8) × List UInt8) := headG (s.length + 1) [] s
def behindL (l : List UInt8) : List UInt8 := (l.reverse.dropWhile blk).reverse
def startV (s : List UInt8) : Option Ms :=
  if (cutL 32 s).2.2 = false ∨ (cutL 32 (cutL 32 s).2.1).2.2 = false then none
  else if sameB (cutL 32 s).1 versionK = true then
    (if (numV 999 (cutL 32 (cutL 32 s).2.1).1).2 = 0 ∧ (cutL 32 (cutL 32 s).2.1).1.length = 3 ∧ firstB ⟨[], [], (numV 999 (cutL 32 (cutL 32 s).2.1).1).1, (cutL 32 (cutL 32 s).2.1).2.1, [], []⟩ = true
      then some ⟨[], [], (numV 999 (cutL 32 (cutL 32 s).2.1).1).1, (cutL 32 (cutL 32 s).2.1).2.1, [], []⟩ else none)
  else if (cutL 32 s).1 ≠ [] ∧ firstB ⟨(cutL 32 s).1, (cutL 32 (cutL 32 s).2.1).1, 0, [], [], []⟩ = true ∧ sameB (cutL 32 (cutL 32 s).2.1).2.1 versionK = true
    then some ⟨(cutL 32 s).1, (cutL 32 (cutL 32 s).2.1).1, 0, [], [], []⟩ else none
/-- The headers, line by line; rest: what stands behind the empty line. -/
def hdrG (rest : List UInt8) : Ms → Nat → Bool → List (List UInt8) → Ms × Int
  | m, size, told, [] => if rest.length < size then (noM, 62) else ({ m with body := rest.take size }, 0)
  | m, size, told, t :: ts =>
    if (cutL 58 t).2.2 = false ∨ tokenB (longV (behindL (cutL 58 t).1)) = false ∨ visB (trimL (cutL 58 t).2.1) = false then (noM, 61)
    else if lengthB (longV (behindL (cutL 58 t).1)) = false then
      (if 64 ≤ m.headers.length then (noM, 4) else hdrG rest { m with headers := m.headers ++ [⟨longV (behindL (cutL 58 t).1), trimL (cutL 58 t).2.1⟩] } size told ts)
    else if (numV 4096 (trimL (cutL 58 t).2.1)).2 ≠ 0 ∨ told = true then (noM, 62)
    else hdrG rest m (numV 4096 (trimL (cutL 58 t).2.1)).1.toNat true ts
def parseM (s : List UInt8) : Ms × Int :=
  if 4096 < s.length then (noM, 2)
  else match headV s with
    | none => (noM, 63)
    | some (l, rest) => if l = [] then (noM, 63) else match startV (l.headD []) with
      | none => (noM, 60)
      | some m => hdrG rest m rest.length false l.tail

-- signs
theorem vis_facts : ∀ b : UInt8, visc b = true → b ≠ 13 ∧ b ≠ 10 := by apply byte_all; decide +kernel
theorem tokc_facts : ∀ b : UInt8, tokc b = true → visc b = true ∧ b ≠ 32 ∧ b ≠ 58 ∧ blk b = false ∧ b ≠ 47 := by apply byte_all; decide +kernel
theorem dig_facts : ∀ b : UInt8, isB b.toNat 1 = true → visc b = true ∧ b ≠ 32 ∧ blk b = false := by apply byte_all; decide +kernel
theorem vis_no13 {l : List UInt8} (h : visB l = true) : (13 : UInt8) ∉ l := fun hm => (vis_facts 13 (List.all_eq_true.1 h 13 hm)).1 rfl
theorem val_facts {l : List UInt8} (h : valB l = true) : visB l = true ∧ trimL l = l := by
  unfold valB at h; rw [Bool.and_eq_true, beq_iff_eq] at h; exact h
theorem dig_mem {n : Nat} {b : UInt8} (h : b ∈ digL n) : isB b.toNat 1 = true := by
  have := digits_all n n (Nat.le_refl _)
  unfold allB at this
  exact List.all_eq_true.1 this b h
theorem dig_num {n most : Nat} (h : n ≤ most) : numV most (digL n) = ((n : Int), 0) := by
  unfold numV
  rw [if_neg (by rw [digits_all n n (Nat.le_refl _)]; simp [digits_ne n]), numL_digits n n most (Nat.le_refl _) h]
theorem dig_three {n : Nat} (h1 : 100 ≤ n) (h2 : n ≤ 999) : (digL n).length = 3 := by
  rw [digL_big (by omega), digL_big (by omega), digL_small (by omega)]; rfl

-- lines
theorem line_back : ∀ (t r : List UInt8), (13 : UInt8) ∉ t → lineV (t ++ 13 :: 10 :: r) = some (t, r)
  | [], r, _ => by rw [List.nil_append, lineV, if_pos ⟨rfl, rfl⟩]; rfl
  | b :: t, r, h => by
    rw [List.cons_append, lineV, if_neg (by rintro ⟨e, _⟩; exact h (by simp [e])), line_back t r (fun hm => h (by simp [hm]))]; rfl
theorem head_back : ∀ (ls l : List (List UInt8)) (rest : List UInt8) (n : Nat), ls.length < n → (∀ t ∈ ls, (13 : UInt8) ∉ t ∧ t ≠ []) → (∀ t ∈ ls, 2 ≤ l.length → t.head?.any blk = false) → (∀ t ∈ ls.drop 1, t.head?.any blk = false) → (∀ t ∈ ls.drop 2, t.head?.any blk = false) →
    headG n l ((ls.flatMap fun t => t ++ crlf) ++ crlf ++ rest) = some (l ++ ls, rest)
  | [], l, rest, 0, h, _, _, _, _ => by simp at h
  | [], l, rest, n + 1, h, _, _, _, _ => by
    rw [headG]
    have e : lineV (([] : List (List UInt8)).flatMap (fun t => t ++ crlf) ++ crlf ++ rest) = some ([], rest) := line_back [] rest (by simp)
    rw [e]; simp
  | t :: ls, l, rest, 0, h, _, _, _, _ => by simp at h
  | t :: ls, l, rest, n + 1, h, h1, h2, h3, h4 => by
    obtain ⟨k1, k2⟩ := h1 t (by simp)
    rw [headG]
    have e : lineV (((t :: ls).flatMap fun t => t ++ crlf) ++ crlf ++ rest) = some (t, (ls.flatMap fun t => t ++ crlf) ++ crlf ++ rest) := by
      have := line_back t ((ls.flatMap fun t => t ++ crlf) ++ crlf ++ rest) k1
      rw [← this]; simp [crlf]
    rw [e]
    simp only [k2, if_false]
    have hp : pushL l t = l ++ [t] := by
      unfold pushL
      rw [if_neg]
      rintro ⟨c1, c2⟩
      rw [h2 t (by simp) c1] at c2; simp at c2
    rw [hp, head_back ls (l ++ [t]) rest n (by simp at h; omega) (fun x hx => h1 x (by simp [hx])) ?_ ?_ ?_]
    · simp
    · intro x hx _; exact h3 x (by simpa using hx)
    · intro x hx; exact h3 x (by simp; exact List.mem_of_mem_drop hx)
    · intro x hx; exact h3 x (by simp; exact List.mem_of_mem_drop hx)

end Go.Proofs.YtjbfdbccidhdfaaDoor

/-
  Messages there and back: plain facts.
-/
namespace Go.Proofs.YtjbfdbccidhdfaaDoor
open Go.RowKit Sc
set_option linter.unusedVariables false
set_option maxRecDepth 20000
set_option linter.unusedSimpArgs false

theorem checkM_ok {m : Ms} (h : checkM m = 0) : firstB m = true ∧ m.headers.length ≤ 64 ∧ ∀ x ∈ m.headers, hdrB x = true := by
  unfold checkM at h
  split at h
  · simp at h
  · rename_i h1
    split at h
    · simp at h
    · rename_i h2
      split at h
      · simp at h
      · rename_i h3
        exact ⟨by simpa using h1, by omega, fun x hx => List.all_eq_true.1 (by simpa using h3) x hx⟩
theorem checkM_of {m : Ms} (h1 : firstB m = true) (h2 : m.headers.length ≤ 64) (h3 : ∀ x ∈ m.headers, hdrB x = true) : checkM m = 0 := by
  unfold checkM
  rw [if_neg (by rw [h1]; simp), if_neg (by omega), if_neg (by rw [List.all_eq_true.2 h3]; simp)]
theorem hdr_facts {x : Hdr} (h : hdrB x = true) : tokenB x.name = true ∧ longV x.name = x.name ∧ lengthB x.name = false ∧ visB x.value = true ∧ trimL x.value = x.value := by
  simp only [hdrB, Bool.and_eq_true, beq_iff_eq, Bool.not_eq_true'] at h
  obtain ⟨h1, h2, h3, h4⟩ := h
  exact ⟨h1, h2, h3, (val_facts h4).1, (val_facts h4).2⟩
theorem lengthK_facts : tokenB lengthK = true ∧ longV lengthK = lengthK ∧ lengthB lengthK = true := by decide +kernel
theorem behind_id {l : List UInt8} (h : ∀ b ∈ l, blk b = false) : behindL l = l := by
  unfold behindL
  rw [dropW_id (fun b hb => h b (by have := List.mem_of_mem_head? hb; simpa using this)), List.reverse_reverse]
theorem tok_line {l : List UInt8} (h : tokenB l = true) : (58 : UInt8) ∉ l ∧ (32 : UInt8) ∉ l ∧ (13 : UInt8) ∉ l ∧ behindL l = l ∧ l ≠ [] ∧ l.head?.any blk = false := by
  obtain ⟨h1, _, h3⟩ := tok_facts h
  refine ⟨fun hm => (tokc_facts 58 (h3 58 hm)).2.2.1 rfl, fun hm => (tokc_facts 32 (h3 32 hm)).2.1 rfl, fun hm => (vis_facts 13 (tokc_facts 13 (h3 13 hm)).1).1 rfl, behind_id fun b hb => (tokc_facts b (h3 b hb)).2.2.2.1, h1, ?_⟩
  cases l with
  | nil => rfl
  | cons x l => simp [(tokc_facts x (h3 x (by simp))).2.2.2.1]

-- the first line
theorem first_rest {m : Ms} (hs : List Hdr) (b : List UInt8) : firstB { m with headers := hs, body := b } = firstB m := rfl
theorem versionK_facts : (32 : UInt8) ∉ versionK ∧ (13 : UInt8) ∉ versionK ∧ sameB versionK versionK = true ∧ (47 : UInt8) ∈ versionK := by decide +kernel
theorem tok_version {l : List UInt8} (h : tokenB l = true) : sameB l versionK = false := by
  cases e : sameB l versionK with
  | false => rfl
  | true =>
    obtain ⟨_, _, h3⟩ := tok_facts h
    have : (47 : UInt8) ∈ lowL l := by
      unfold sameB at e; rw [beq_iff_eq] at e
      rw [e]; decide +kernel
    rw [lowL_mem (by decide) (by decide)] at this
    exact absurd rfl (tokc_facts 47 (h3 47 this)).2.2.2.2
theorem start_back {m : Ms} (h : firstB m = true) : startV (lineT m) = some { m with headers := [], body := [] } := by
  obtain ⟨me, ta, st, re, hs, bo⟩ := m
  unfold firstB at h
  unfold lineT
  simp only at h ⊢
  by_cases hm : me = []
  · subst hm
    simp only [if_true, Bool.and_eq_true, decide_eq_true_eq, List.isEmpty_iff] at h ⊢
    obtain ⟨rfl, ⟨s1, s2⟩, hv⟩ := h
    obtain ⟨n, rfl⟩ := Int.eq_ofNat_of_zero_le (by omega : 0 ≤ st)
    have e1 : versionK ++ [32] ++ digL (n : Int).toNat ++ [32] ++ re = versionK ++ 32 :: (digL n ++ 32 :: re) := by simp
    rw [e1]
    unfold startV
    have nd : (32 : UInt8) ∉ digL n := fun hm => (dig_facts 32 (dig_mem hm)).2.1 rfl
    rw [cutL_hit versionK_facts.1]
    simp only
    rw [cutL_hit nd]
    simp only
    rw [if_neg (by simp), if_pos versionK_facts.2.2.1, (show numV 999 (digL n) = _ from dig_num (most := 999) (by omega : n ≤ 999))]
    have hf : firstB ⟨[], [], (n : Int), re, [], []⟩ = true := by
      unfold firstB; simp only [if_true, hv]; simp; omega
    rw [if_pos ⟨rfl, dig_three (by omega) (by omega), hf⟩]
  · simp only [hm, if_false, Bool.and_eq_true, Bool.not_eq_true', decide_eq_true_eq, List.isEmpty_iff] at h ⊢
    obtain ⟨h1, h2, h3, h4, rfl, rfl⟩ := h
    have n1 := (tok_line h2).2.1
    have n2 : (32 : UInt8) ∉ ta := fun hx => by
      have := List.all_eq_true.1 h1 32 hx
      rw [blk32] at this; simp at this
    have e1 : me ++ [32] ++ ta ++ [32] ++ versionK = me ++ 32 :: (ta ++ 32 :: versionK) := by simp
    rw [e1]
    unfold startV
    rw [cutL_hit n1]
    simp only
    rw [cutL_hit n2]
    simp only
    have hf : firstB ⟨me, ta, 0, [], [], []⟩ = true := by
      unfold firstB; simp only [hm, if_false, h1, h2, h4, Bool.true_and]; simpa using h3
    rw [if_neg (by simp), if_neg (by rw [tok_version h2]; simp), if_pos ⟨hm, hf, versionK_facts.2.2.1⟩]

-- the headers
theorem trim_blank (v : List UInt8) : trimL ([32] ++ v) = trimL v := trimL_cons v
theorem hdr_cut {x : Hdr} (h : hdrB x = true) : cutL 58 (hdrLine x) = (x.name, [32] ++ x.value, true) := by
  unfold hdrLine
  rw [List.append_assoc, show ([58, 32] : List UInt8) ++ x.value = 58 :: ([32] ++ x.value) from rfl, cutL_hit (tok_line (hdr_facts h).1).1]
theorem len_cut (n : Nat) : cutL 58 (lenLine n) = (lengthK, [32] ++ digL n, true) := by
  unfold lenLine
  rw [List.append_assoc, show ([58, 32] : List UInt8) ++ digL n = 58 :: ([32] ++ digL n) from rfl, cutL_hit (tok_line lengthK_facts.1).1]
theorem hdrs_back (rest : List UInt8) (n : Nat) (hn : n ≤ 4096) (hr : n ≤ rest.length) : ∀ (hs : List Hdr) (m : Ms) (size : Nat), (∀ x ∈ hs, hdrB x = true) → m.headers.length + hs.length ≤ 64 →
    hdrG rest m size false (hs.map hdrLine ++ [lenLine n]) = ({ m with headers := m.headers ++ hs, body := rest.take n }, 0)
  | [], m, size, _, _ => by
    have ht : trimL (digL n) = digL n := trimL_all fun b hb => (dig_facts b (dig_mem hb)).2.2
    have hv : visB (digL n) = true := List.all_eq_true.2 fun b hb => (dig_facts b (dig_mem hb)).1
    obtain ⟨k1, k2, k3⟩ := lengthK_facts
    rw [List.map_nil, List.nil_append, hdrG, len_cut]
    simp only
    rw [(tok_line k1).2.2.2.1, k2, trim_blank, ht, if_neg (by simp [k1, hv]), if_neg (by simp [k3]), (show numV 4096 (digL n) = _ from dig_num (most := 4096) hn), if_neg (by simp), hdrG]
    simp only [Int.toNat_natCast]
    rw [if_neg (by omega), List.append_nil]
  | x :: hs, m, size, h, hl => by
    obtain ⟨k1, k2, k3, k4, k5⟩ := hdr_facts (h x (by simp))
    rw [List.map_cons, List.cons_append, hdrG, hdr_cut (h x (by simp))]
    simp only
    rw [(tok_line k1).2.2.2.1, k2, trim_blank, k5, if_neg (by simp [k1, k4]), if_pos k3, if_neg (by simp at hl; omega)]
    rw [hdrs_back rest n hn hr hs _ size (fun y hy => h y (by simp [hy])) (by simp at hl ⊢; omega)]
    simp

-- the lines
theorem first_line {m : Ms} (h : firstB m = true) : (13 : UInt8) ∉ lineT m ∧ lineT m ≠ [] := by
  unfold firstB at h
  unfold lineT
  split
  · rename_i hm
    rw [if_pos hm] at h
    simp only [Bool.and_eq_true] at h
    have hv := vis_no13 (val_facts h.2.2).1
    have hd : (13 : UInt8) ∉ digL m.status.toNat := fun hm => (vis_facts 13 (dig_facts 13 (dig_mem hm)).1).1 rfl
    have hk := versionK_facts.2.1
    refine ⟨?_, by simp [versionK]⟩
    simp only [List.mem_append, not_or]
    exact ⟨⟨⟨⟨hk, by decide⟩, hd⟩, by decide⟩, hv⟩
  · rename_i hm
    rw [if_neg hm] at h
    simp only [Bool.and_eq_true] at h
    obtain ⟨h1, h2, h3, h4, h5, h6⟩ := h
    refine ⟨?_, by simp⟩
    simp only [List.mem_append, not_or]
    exact ⟨⟨⟨⟨(tok_line h2).2.2.1, by decide⟩, vis_no13 h4⟩, by decide⟩, versionK_facts.2.1⟩
theorem tok_head {nm r : List UInt8} (h : tokenB nm = true) : (nm ++ r).head?.any blk = false := by
  have := (tok_line h).2.2.2.2
  cases nm with
  | nil => exact absurd rfl this.1
  | cons x nm => simpa using this.2
theorem hdr_line {x : Hdr} (h : hdrB x = true) : (13 : UInt8) ∉ hdrLine x ∧ hdrLine x ≠ [] ∧ (hdrLine x).head?.any blk = false := by
  obtain ⟨k1, k2, k3, k4, k5⟩ := hdr_facts h
  refine ⟨?_, by simp [hdrLine], ?_⟩
  · unfold hdrLine
    simp only [List.mem_append, not_or]
    exact ⟨⟨(tok_line k1).2.2.1, by decide⟩, vis_no13 k4⟩
  · unfold hdrLine; rw [List.append_assoc]; exact tok_head k1
theorem len_line (n : Nat) : (13 : UInt8) ∉ lenLine n ∧ lenLine n ≠ [] ∧ (lenLine n).head?.any blk = false := by
  have hd : (13 : UInt8) ∉ digL n := fun hm => (vis_facts 13 (dig_facts 13 (dig_mem hm)).1).1 rfl
  refine ⟨?_, by simp [lenLine], ?_⟩
  · unfold lenLine
    simp only [List.mem_append, not_or]
    exact ⟨⟨by decide, by decide⟩, hd⟩
  · unfold lenLine; rw [List.append_assoc]; exact tok_head lengthK_facts.1
theorem lines_rest {m : Ms} (h : ∀ x ∈ m.headers, hdrB x = true) : ∀ t ∈ m.headers.map hdrLine ++ [lenLine m.body.length], (13 : UInt8) ∉ t ∧ t ≠ [] ∧ t.head?.any blk = false := by
  intro t ht
  simp only [List.mem_append, List.mem_map, List.mem_singleton] at ht
  rcases ht with ⟨x, hx, rfl⟩ | rfl
  · exact hdr_line (h x hx)
  · exact len_line _
theorem flat_len (ls : List (List UInt8)) : ls.length ≤ (ls.flatMap fun t => t ++ crlf).length := by
  induction ls with
  | nil => simp
  | cons t ls ih => rw [List.flatMap_cons, List.length_append, List.length_append, List.length_cons]; have : crlf.length = 2 := rfl; omega
theorem head_text {m : Ms} (h : checkM m = 0) (bh : List UInt8) : headV (textM m ++ bh) = some (linesT m, m.body ++ bh) := by
  obtain ⟨h1, h2, h3⟩ := checkM_ok h
  have hr := lines_rest h3
  have hf := first_line h1
  have e : textM m ++ bh = ((linesT m).flatMap fun l => l ++ crlf) ++ crlf ++ (m.body ++ bh) := by unfold textM; simp
  unfold headV
  rw [e]
  have hb := head_back (linesT m) [] (m.body ++ bh) ((((linesT m).flatMap fun l => l ++ crlf) ++ crlf ++ (m.body ++ bh)).length + 1) (by have := flat_len (linesT m); simp only [List.length_append]; omega)
    (fun t ht => by
      unfold linesT at ht
      rcases List.mem_cons.1 ht with rfl | ht
      · exact hf
      · exact ⟨(hr t ht).1, (hr t ht).2.1⟩)
    (fun t ht hl => by simp at hl)
    (fun t ht => by unfold linesT at ht; simp only [List.drop_succ_cons, List.drop_zero] at ht; exact (hr t ht).2.2)
    (fun t ht => by unfold linesT at ht; simp only [List.drop_succ_cons] at ht; exact (hr t (List.mem_of_mem_drop ht)).2.2)
  rw [hb]; rfl
theorem parse_textM {m : Ms} (h : checkM m = 0) (bh : List UInt8) (hl : (textM m).length + bh.length ≤ 4096) : parseM (textM m ++ bh) = (m, 0) := by
  obtain ⟨h1, h2, h3⟩ := checkM_ok h
  have hbl : m.body.length ≤ 4096 := by
    have : m.body.length ≤ (textM m).length := by unfold textM; rw [List.length_append]; omega
    omega
  unfold parseM
  rw [if_neg (by simp; omega), head_text h bh]
  simp only
  rw [if_neg (by simp [linesT])]
  have e1 : (linesT m).headD [] = lineT m := rfl
  have e2 : (linesT m).tail = m.headers.map hdrLine ++ [lenLine m.body.length] := rfl
  rw [e1, e2, start_back h1]
  simp only
  rw [hdrs_back (m.body ++ bh) m.body.length hbl (by simp) m.headers _ _ h3 (by simpa using h2)]
  simp

-- what is parsed may be
theorem trimL_trimL (l : List UInt8) : trimL (trimL l) = trimL l := by
  apply trimL_id
  · intro b hb
    unfold trimL at hb
    rw [List.head?_reverse] at hb
    have hs : (l.dropWhile blk).reverse.dropWhile blk <:+ (l.dropWhile blk).reverse := List.dropWhile_suffix _
    obtain ⟨p, hp⟩ := hs
    have hl : (l.dropWhile blk).reverse.getLast? = some b := by
      rw [← hp, List.getLast?_append, hb]; rfl
    rw [List.getLast?_reverse] at hl
    cases hd : l.dropWhile blk with
    | nil => rw [hd] at hl; simp at hl
    | cons x r =>
      rw [hd] at hl; simp at hl; subst hl
      have := List.head?_dropWhile_not blk l
      rw [hd] at this; simpa using this
  · intro b hb
    unfold trimL at hb
    rw [List.getLast?_reverse] at hb
    have := List.head?_dropWhile_not blk (l.dropWhile blk).reverse
    rw [hb] at this; simpa using this
theorem longV_longV (l : List UInt8) : longV (longV l) = longV l := by
  unfold longV
  cases h : longT.find? (fun x => lowL l == [x.1]) with
  | none => simp only [h]
  | some x =>
    simp only
    have hm := List.mem_of_find?_eq_some h
    have : ∀ x ∈ longT, longT.find? (fun y => lowL x.2 == [y.1]) = none := by decide +kernel
    rw [this x hm]
theorem hdrG_checked (rest : List UInt8) : ∀ (ts : List (List UInt8)) (m : Ms) (size : Nat) (told : Bool) (r : Ms), firstB m = true → m.headers.length ≤ 64 → (∀ x ∈ m.headers, hdrB x = true) → hdrG rest m size told ts = (r, 0) → checkM r = 0
  | [], m, size, told, r, h1, h2, h3, h => by
    rw [hdrG] at h
    split at h
    · simp at h
    · simp only [Prod.mk.injEq, and_true] at h
      subst h
      exact checkM_of h1 h2 h3
  | t :: ts, m, size, told, r, h1, h2, h3, h => by
    rw [hdrG] at h
    split at h
    · simp at h
    · rename_i hc
      simp only [not_or, Bool.not_eq_false] at hc
      split at h
      · rename_i hlen
        split at h
        · simp at h
        · rename_i h64
          refine hdrG_checked rest ts _ size told r (by exact h1) ?_ ?_ h
          · simp; omega
          · intro x hx
            simp only [List.mem_append, List.mem_singleton] at hx
            rcases hx with hx | rfl
            · exact h3 x hx
            · simp [hdrB, hc.2.1, longV_longV, hlen, valB, hc.2.2, trimL_trimL]
      · split at h
        · simp at h
        · exact hdrG_checked rest ts m _ true r h1 h2 h3 h
theorem start_first {s : List UInt8} {m : Ms} (h : startV s = some m) : firstB m = true ∧ m.headers = [] := by
  unfold startV at h
  split at h
  · simp at h
  · split at h
    · split at h
      · rename_i hc; simp at h; subst h; exact ⟨hc.2.2, rfl⟩
      · simp at h
    · split at h
      · rename_i hc; simp at h; subst h; exact ⟨hc.2.1, rfl⟩
      · simp at h
theorem parseM_checked {s : List UInt8} {m : Ms} (h : parseM s = (m, 0)) : checkM m = 0 := by
  unfold parseM at h
  split at h
  · simp at h
  · split at h
    · simp at h
    · split at h
      · simp at h
      · split at h
        · simp at h
        · rename_i m0 hm0
          obtain ⟨f1, f2⟩ := start_first hm0
          exact hdrG_checked _ _ m0 _ _ m f1 (by rw [f2]; simp) (by rw [f2]; simp) h

end Go.Proofs.YtjbfdbccidhdfaaDoor

/-
  Lines of messages: the loops' steps, plain.
-/
namespace Go.Proofs.YtjbfdbccidhdfaaDoor
open Go.RowKit Sc
set_option linter.unusedVariables false
set_option maxRecDepth 20000

theorem line_hit (r : List UInt8) : lineV (13 :: 10 :: r) = some ([], r) := by rw [lineV, if_pos ⟨rfl, rfl⟩]; rfl
theorem line_skip {b : UInt8} {r : List UInt8} (h : ¬ (b = 13 ∧ r.head? = some 10)) : lineV (b :: r) = (lineV r).map fun x => (b :: x.1, x.2) := by rw [lineV, if_neg h]
theorem line_short : ∀ (l : List UInt8), l.length ≤ 1 → lineV l = none
  | [], _ => rfl
  | [b], _ => by rw [line_skip (by simp)]; rfl
  | _ :: _ :: _, h => by simp at h
/-- A line, its end, and the rest. -/
theorem line_parts : ∀ (l t r : List UInt8), lineV l = some (t, r) → l = t ++ 13 :: 10 :: r
  | [], t, r, h => by simp [lineV] at h
  | b :: l, t, r, h => by
    rw [lineV] at h
    split at h
    · rename_i hb
      obtain ⟨rfl, h2⟩ := hb
      simp only [Option.some.injEq, Prod.mk.injEq] at h
      obtain ⟨rfl, rfl⟩ := h
      cases l with
      | nil => simp at h2
      | cons c l => simp at h2; subst h2; rfl
    · simp only [Option.map_eq_some_iff] at h
      obtain ⟨x, hx, he⟩ := h
      obtain ⟨t', r'⟩ := x
      simp only [Prod.mk.injEq] at he
      obtain ⟨rfl, rfl⟩ := he
      rw [line_parts l t' r' hx]; rfl
/-- Where the line that begins at k ends, and where the next one begins. -/
def lineI (L : List UInt8) (k : Nat) : List UInt8 × Int := match lineV (L.drop k) with | some x => (x.1, ((k + x.1.length + 2 : Nat) : Int)) | none => ([], -1)
theorem lineI_none {L : List UInt8} {k : Nat} (h : lineV (L.drop k) = none) : lineI L k = ([], -1) := by rw [lineI, h]
theorem lineI_some {L t r : List UInt8} {k : Nat} (h : lineV (L.drop k) = some (t, r)) : lineI L k = (t, ((k + t.length + 2 : Nat) : Int)) := by rw [lineI, h]
theorem line_rest {L t r : List UInt8} {k : Nat} (h : lineV (L.drop k) = some (t, r)) : r = L.drop (k + t.length + 2) ∧ k + t.length + 2 ≤ L.length ∧ t = (L.drop k).take t.length := by
  have e := line_parts _ _ _ h
  have e2 : L.drop (k + t.length + 2) = r := by
    rw [show k + t.length + 2 = k + (t.length + 2) by omega, ← List.drop_drop, e]
    simp
  refine ⟨e2.symm, ?_, ?_⟩
  · have := congrArg List.length e
    rw [List.length_drop] at this
    simp at this; omega
  · rw [e]; simp
/-- The state of line's loop at j. -/
def LineAt (L : List UInt8) (k j : Nat) : Prop := lineV (L.drop k) = (lineV (L.drop j)).map fun x => ((L.drop k).take (j - k) ++ x.1, x.2)
theorem LineAt.start (L : List UInt8) (k : Nat) : LineAt L k k := by
  unfold LineAt
  cases lineV (L.drop k) <;> simp
theorem LineAt.hit {L : List UInt8} {k j : Nat} {r : List UInt8} (hkj : k ≤ j) (h : LineAt L k j) (hd : L.drop j = 13 :: 10 :: r) : lineI L k = ((L.drop k).take (j - k), ((j + 2 : Nat) : Int)) := by
  unfold LineAt at h
  rw [hd, line_hit] at h
  have hl : ((L.drop k).take (j - k)).length = j - k := by
    have := congrArg List.length hd
    rw [List.length_drop] at this
    rw [List.length_take, List.length_drop]; simp at this; omega
  simp only [Option.map_some, List.append_nil] at h
  rw [lineI_some h, hl, show k + (j - k) + 2 = j + 2 by omega]
theorem LineAt.skip {L : List UInt8} {k j : Nat} {b : UInt8} (hkj : k ≤ j) (h : LineAt L k j) (hd : L.drop j = b :: L.drop (j + 1)) (hn : ¬ (b = 13 ∧ (L.drop (j + 1)).head? = some 10)) : LineAt L k (j + 1) := by
  unfold LineAt at h ⊢
  rw [hd, line_skip hn] at h
  have ht : (L.drop k).take (j + 1 - k) = (L.drop k).take (j - k) ++ [b] := by
    have hlt : j - k < (L.drop k).length := by
      have := congrArg List.length hd
      rw [List.length_drop] at this
      rw [List.length_drop]; simp at this; omega
    rw [show j + 1 - k = (j - k) + 1 by omega, List.take_succ_eq_append_getElem hlt]
    congr 2
    have h1 : (L.drop j)[0]? = some b := by rw [hd]; rfl
    rw [List.getElem?_drop] at h1
    rw [List.getElem_drop]
    have h2 : k + (j - k) = j + 0 := by omega
    have h3 : k + (j - k) < L.length := by rw [List.length_drop] at hlt; omega
    have h4 : L[k + (j - k)]? = some b := by rw [h2]; exact h1
    rw [List.getElem?_eq_getElem h3] at h4
    exact Option.some.inj h4
  rw [h, ht]
  cases lineV (L.drop (j + 1)) <;> simp
theorem LineAt.end {L : List UInt8} {k j : Nat} (h : LineAt L k j) (hj : L.length ≤ j + 1) : lineI L k = ([], -1) := by
  unfold LineAt at h
  rw [line_short (L.drop j) (by rw [List.length_drop]; omega)] at h
  exact lineI_none h

theorem headG_more : ∀ (n m : Nat) (l : List (List UInt8)) (s : List UInt8), s.length < n → s.length < m → headG n l s = headG m l s
  | 0, m, l, s, hn, hm => by omega
  | n + 1, 0, l, s, hn, hm => by omega
  | n + 1, m + 1, l, s, hn, hm => by
    rw [headG, headG]
    cases h : lineV s with
    | none => rfl
    | some x =>
      obtain ⟨t, r⟩ := x
      have e := congrArg List.length (line_parts _ _ _ h)
      simp at e
      simp only
      split
      · rfl
      · exact headG_more n m _ r (by omega) (by omega)
/-- The lines from s on, behind l. -/
def headF (l : List (List UInt8)) (s : List UInt8) : Option (List (List UInt8) × List UInt8) := headG (s.length + 1) l s
theorem headF_is (s : List UInt8) : headV s = headF [] s := rfl
theorem headF_none {l : List (List UInt8)} {s : List UInt8} (h : lineV s = none) : headF l s = none := by rw [headF, headG, h]
theorem headF_end {l : List (List UInt8)} {s r : List UInt8} (h : lineV s = some ([], r)) : headF l s = some (l, r) := by rw [headF, headG, h]; simp
theorem headF_on {l : List (List UInt8)} {s t r : List UInt8} (h : lineV s = some (t, r)) (ht : t ≠ []) : headF l s = headF (pushL l t) r := by
  have e := congrArg List.length (line_parts _ _ _ h)
  simp at e
  rw [headF, headG, h]
  simp only [ht, if_false]
  exact headG_more _ _ _ r (by omega) (by omega)
theorem push_fold {l : List (List UInt8)} {t : List UInt8} (hl : 2 ≤ l.length) (hb : t.head?.any blk = true) : pushL l t = l.dropLast ++ [l.getLastD [] ++ [32] ++ trimL t] := by rw [pushL, if_pos ⟨hl, hb⟩]
theorem push_new {l : List (List UInt8)} {t : List UInt8} (h : ¬ (2 ≤ l.length ∧ t.head?.any blk = true)) : pushL l t = l ++ [t] := by rw [pushL, if_neg h]
theorem fold_set {l : List (List UInt8)} (hl : 1 ≤ l.length) (x : List UInt8) : l.dropLast ++ [x] = l.set (l.length - 1) x := by
  obtain ⟨a, b, rfl⟩ : ∃ a b, l = a ++ [b] := ⟨l.dropLast, l.getLast (by intro e; simp [e] at hl), (List.dropLast_concat_getLast _).symm⟩
  simp
theorem lastD_at {l : List (List UInt8)} (hl : 1 ≤ l.length) : l.getLastD [] = l[l.length - 1]'(by omega) := by
  obtain ⟨a, b, rfl⟩ : ∃ a b, l = a ++ [b] := ⟨l.dropLast, l.getLast (by intro e; simp [e] at hl), (List.dropLast_concat_getLast _).symm⟩
  simp

end Go.Proofs.YtjbfdbccidhdfaaDoor

/-
  A header's value broken at a blank: plain facts.
-/
namespace Go.Proofs.YtjbfdbccidhdfaaDoor
open Go.RowKit Sc
set_option linter.unusedVariables false
set_option maxRecDepth 20000
set_option linter.unusedSimpArgs false

/-- Lines with their ends. -/
def flatT (ls : List (List UInt8)) : List UInt8 := ls.flatMap fun t => t ++ crlf
theorem flat_app (a b : List (List UInt8)) : flatT (a ++ b) = flatT a ++ flatT b := by simp [flatT]
theorem flat_cons (t : List UInt8) (ls : List (List UInt8)) : flatT (t :: ls) = t ++ 13 :: 10 :: flatT ls := by simp [flatT, crlf]
theorem head_app : ∀ (ls l : List (List UInt8)) (s : List UInt8) (n : Nat), (∀ t ∈ ls, (13 : UInt8) ∉ t ∧ t ≠ []) → (∀ t ∈ ls, 2 ≤ l.length → t.head?.any blk = false) → (∀ t ∈ ls.drop 1, t.head?.any blk = false) →
    headG (n + ls.length) l (flatT ls ++ s) = headG n (l ++ ls) s
  | [], l, s, n, _, _, _ => by simp [flatT]
  | t :: ls, l, s, n, h1, h2, h3 => by
    obtain ⟨k1, k2⟩ := h1 t (by simp)
    rw [show n + (t :: ls).length = (n + ls.length) + 1 by simp; omega, headG]
    have e : lineV (flatT (t :: ls) ++ s) = some (t, flatT ls ++ s) := by
      rw [flat_cons, List.append_assoc, List.cons_append, List.cons_append, line_back t _ k1]
    rw [e]
    simp only [k2, if_false]
    have hp : pushL l t = l ++ [t] := by
      unfold pushL
      rw [if_neg]
      rintro ⟨c1, c2⟩
      rw [h2 t (by simp) c1] at c2; simp at c2
    rw [hp, head_app ls (l ++ [t]) s n (fun x hx => h1 x (by simp [hx])) (fun x hx _ => h3 x (by simpa using hx)) (fun x hx => h3 x (by simp; exact List.mem_of_mem_drop hx))]
    simp
theorem head_fold {l : List (List UInt8)} {a v s : List UInt8} {n : Nat} (hl : 1 ≤ l.length) (hv : (13 : UInt8) ∉ v) : headG (n + 1) (l ++ [a]) ((32 :: v) ++ 13 :: 10 :: s) = headG n (l ++ [a ++ [32] ++ trimL v]) s := by
  rw [headG, line_back (32 :: v) s (by simp [hv])]
  simp only [List.cons_ne_nil, if_false, reduceCtorEq]
  have hp : pushL (l ++ [a]) (32 :: v) = l ++ [a ++ [32] ++ trimL v] := by
    unfold pushL
    rw [if_pos ⟨by simp; omega, by simp [blk32]⟩, trimL_cons]
    simp
  rw [hp]
theorem head_end {l : List (List UInt8)} {s : List UInt8} {n : Nat} : headG (n + 1) l (crlf ++ s) = some (l, s) := by
  rw [headG, show crlf ++ s = [] ++ 13 :: 10 :: s from rfl, line_back [] s (by simp)]; simp
theorem trim_last {l : List UInt8} (h : trimL l = l) : ∀ b, l.getLast? = some b → blk b = false := by
  intro b hb
  rw [← h] at hb
  unfold trimL at hb
  rw [List.getLast?_reverse] at hb
  have := List.head?_dropWhile_not blk (l.dropWhile blk).reverse
  rw [hb] at this; simpa using this

/-- What stands ahead of the break, and behind it. -/
def foldA (m : Ms) (pre : List Hdr) (x : Hdr) (v1 : List UInt8) : List UInt8 := flatT (lineT m :: pre.map hdrLine) ++ (x.name ++ [58, 32] ++ v1)
def foldB (m : Ms) (post : List Hdr) (v2 : List UInt8) : List UInt8 := (32 :: v2) ++ 13 :: 10 :: (flatT (post.map hdrLine ++ [lenLine m.body.length]) ++ (crlf ++ m.body))
theorem fold_text {m : Ms} {pre post : List Hdr} {x : Hdr} {v1 v2 : List UInt8} (hm : m.headers = pre ++ x :: post) (hv : x.value = v1 ++ 32 :: v2) : textM m = foldA m pre x v1 ++ foldB m post v2 := by
  unfold textM linesT foldA foldB
  have e : lineT m :: (m.headers.map hdrLine ++ [lenLine m.body.length]) = (lineT m :: pre.map hdrLine) ++ hdrLine x :: (post.map hdrLine ++ [lenLine m.body.length]) := by rw [hm]; simp
  rw [e]
  show flatT _ ++ crlf ++ m.body = _
  have ex : hdrLine x = x.name ++ [58, 32] ++ (v1 ++ 32 :: v2) := by unfold hdrLine; rw [hv]
  rw [flat_app, flat_cons (hdrLine x), ex]
  simp
theorem fold_back {m : Ms} (h : checkM m = 0) {pre post : List Hdr} {x : Hdr} {v1 v2 : List UInt8} (hm : m.headers = pre ++ x :: post) (hv : x.value = v1 ++ 32 :: v2) (h2 : v2 ≠ []) (hb : ∀ b, v2.head? = some b → blk b = false)
    (hl : (textM m).length + 2 ≤ 4096) : parseM (foldA m pre x v1 ++ crlf ++ foldB m post v2) = (m, 0) := by
  obtain ⟨f1, f2, f3⟩ := checkM_ok h
  have hx := f3 x (by rw [hm]; simp)
  obtain ⟨k1, k2, k3, k4, k5⟩ := hdr_facts hx
  have hpre : ∀ y ∈ pre, hdrB y = true := fun y hy => f3 y (by rw [hm]; simp [hy])
  have hpost : ∀ y ∈ post, hdrB y = true := fun y hy => f3 y (by rw [hm]; simp [hy])
  have hv13 := vis_no13 k4
  rw [hv] at hv13
  simp only [List.mem_append, List.mem_cons, not_or] at hv13
  have htv : trimL v2 = v2 := by
    apply trimL_id hb
    intro b hbl
    refine trim_last k5 b ?_
    rw [hv, List.getLast?_append, show (32 :: v2 : List UInt8) = [32] ++ v2 from rfl, List.getLast?_append, hbl]; rfl
  have hbl : m.body.length ≤ 4096 := by
    have : m.body.length ≤ (textM m).length := by unfold textM; rw [List.length_append]; omega
    omega
  have hlen : (foldA m pre x v1 ++ crlf ++ foldB m post v2).length ≤ 4096 := by
    have e := congrArg List.length (fold_text hm hv)
    have ec : crlf.length = 2 := rfl
    rw [List.length_append] at e
    rw [List.length_append, List.length_append]; omega
  have hA : flatT ((lineT m :: pre.map hdrLine) ++ [x.name ++ [58, 32] ++ v1]) = foldA m pre x v1 ++ crlf := by
    rw [flat_app]; unfold foldA; simp [flatT]
  have hd : headV (foldA m pre x v1 ++ crlf ++ foldB m post v2) = some (linesT m, m.body) := by
    unfold headV
    rw [← hA]
    unfold foldB
    have fuel : ∀ (LA LB : List (List UInt8)) (t b : List UInt8), ∃ n, (flatT LA ++ ((32 :: t) ++ 13 :: 10 :: (flatT LB ++ (crlf ++ b)))).length + 1 = (((n + 1) + LB.length) + 1) + LA.length := by
      intro LA LB t b
      have a1 : LA.length ≤ (flatT LA).length := flat_len LA
      have a2 : LB.length ≤ (flatT LB).length := flat_len LB
      have a3 : crlf.length = 2 := rfl
      have e : (flatT LA ++ ((32 :: t) ++ 13 :: 10 :: (flatT LB ++ (crlf ++ b)))).length = (flatT LA).length + (t.length + 1 + ((flatT LB).length + (crlf.length + b.length) + 1 + 1)) := by
        rw [List.length_append, List.length_append, List.length_cons, List.length_cons, List.length_cons, List.length_append, List.length_append]
      rw [e]
      exact ⟨(flatT LA).length + (t.length + 1 + ((flatT LB).length + (crlf.length + b.length) + 1 + 1)) + 1 - (1 + LB.length + 1 + LA.length), by omega⟩
    obtain ⟨n, hn⟩ := fuel ((lineT m :: pre.map hdrLine) ++ [x.name ++ [58, 32] ++ v1]) (post.map hdrLine ++ [lenLine m.body.length]) v2 m.body
    rw [hn, head_app _ [] _ _ ?_ ?_ ?_, List.nil_append, head_fold (by simp) hv13.2.2, htv, head_app _ _ _ _ ?_ ?_ ?_, head_end]
    · have : x.name ++ [58, 32] ++ v1 ++ [32] ++ v2 = hdrLine x := by unfold hdrLine; rw [hv]; simp
      rw [this]
      unfold linesT
      rw [hm]; simp
    · intro t ht
      rcases List.mem_append.1 ht with ht | ht
      · obtain ⟨y, hy, rfl⟩ := List.mem_map.1 ht
        exact ⟨(hdr_line (hpost y hy)).1, (hdr_line (hpost y hy)).2.1⟩
      · simp at ht; subst ht; exact ⟨(len_line _).1, (len_line _).2.1⟩
    · intro t ht _
      rcases List.mem_append.1 ht with ht | ht
      · obtain ⟨y, hy, rfl⟩ := List.mem_map.1 ht
        exact (hdr_line (hpost y hy)).2.2
      · simp at ht; subst ht; exact (len_line _).2.2
    · intro t ht
      rcases List.mem_append.1 (List.mem_of_mem_drop ht) with ht | ht
      · obtain ⟨y, hy, rfl⟩ := List.mem_map.1 ht
        exact (hdr_line (hpost y hy)).2.2
      · simp at ht; subst ht; exact (len_line _).2.2
    · intro t ht
      simp only [List.cons_append, List.mem_cons, List.mem_append, List.mem_map, List.not_mem_nil, or_false] at ht
      rcases ht with rfl | ⟨y, hy, rfl⟩ | rfl
      · exact first_line f1
      · exact ⟨(hdr_line (hpre y hy)).1, (hdr_line (hpre y hy)).2.1⟩
      · refine ⟨?_, by simp⟩
        simp only [List.mem_append, not_or]
        exact ⟨⟨(tok_line k1).2.2.1, by decide⟩, hv13.1⟩
    · intro t ht hl; simp at hl
    · intro t ht
      simp only [List.cons_append, List.drop_succ_cons, List.drop_zero, List.mem_append, List.mem_map, List.mem_singleton] at ht
      rcases ht with ⟨y, hy, rfl⟩ | rfl
      · exact (hdr_line (hpre y hy)).2.2
      · rw [List.append_assoc]; exact tok_head k1
  unfold parseM
  rw [if_neg (by omega), hd]
  simp only
  rw [if_neg (by simp [linesT])]
  have e1 : (linesT m).headD [] = lineT m := rfl
  have e2 : (linesT m).tail = m.headers.map hdrLine ++ [lenLine m.body.length] := rfl
  rw [e1, e2, start_back f1]
  simp only
  rw [hdrs_back m.body m.body.length hbl (Nat.le_refl _) m.headers _ _ f3 (by simpa using f2)]
  simp

end Go.Proofs.YtjbfdbccidhdfaaDoor

/-
  Plain facts for the laws of layer 6.
-/
namespace Go.Proofs.YtjbfdbccidhdfaaDoor
open Go.RowKit Sc
set_option linter.unusedVariables false
set_option maxRecDepth 20000

theorem hdrG_none (rest : List UInt8) : ∀ (ts : List (List UInt8)) (m : Ms) (size : Nat) (told : Bool) (r : Ms) (n : Int), hdrG rest m size told ts = (r, n) → n ≠ 0 → r = noM
  | [], m, size, told, r, n, h, hn => by
    rw [hdrG] at h
    split at h
    · exact (Prod.mk.inj h).1.symm
    · exact absurd (Prod.mk.inj h).2.symm hn
  | t :: ts, m, size, told, r, n, h, hn => by
    rw [hdrG] at h
    split at h
    · exact (Prod.mk.inj h).1.symm
    · split at h
      · split at h
        · exact (Prod.mk.inj h).1.symm
        · exact hdrG_none rest ts _ _ _ r n h hn
      · split at h
        · exact (Prod.mk.inj h).1.symm
        · exact hdrG_none rest ts _ _ _ r n h hn
theorem parseM_none {s : List UInt8} {m : Ms} {n : Int} (h : parseM s = (m, n)) (hn : n ≠ 0) : m = noM := by
  unfold parseM at h
  split at h
  · exact (Prod.mk.inj h).1.symm
  · split at h
    · exact (Prod.mk.inj h).1.symm
    · split at h
      · exact (Prod.mk.inj h).1.symm
      · split at h
        · exact (Prod.mk.inj h).1.symm
        · exact hdrG_none _ _ _ _ _ _ _ h hn
/-- The message of the first k headers, without a body. -/
def frontM (m : Ms) (k : Nat) : Ms := { m with headers := m.headers.take k, body := [] }
theorem front_check {m : Ms} (h : checkM m = 0) (k : Nat) : checkM (frontM m k) = 0 := by
  obtain ⟨f1, f2, f3⟩ := checkM_ok h
  refine checkM_of (by unfold frontM; rw [first_rest]; exact f1) (by unfold frontM; simp only [List.length_take]; omega) (fun x hx => f3 x (List.mem_of_mem_take hx))
theorem line_front (m : Ms) (k : Nat) : lineT (frontM m k) = lineT m := rfl
theorem front_text (m : Ms) (k : Nat) : textM (frontM m k) = flatT (lineT m :: (m.headers.take k).map hdrLine) ++ (lenLine 0 ++ crlf ++ crlf) := by
  unfold textM linesT
  rw [line_front]
  have e : (frontM m k).headers = m.headers.take k := rfl
  have e2 : (frontM m k).body = [] := rfl
  rw [e, e2]
  show flatT _ ++ crlf ++ [] = _
  rw [← List.cons_append, flat_app]
  simp [flatT]
theorem tail_len : (lenLine 0 ++ crlf ++ crlf).length = 21 := by decide +kernel
theorem front_len (m : Ms) (k : Nat) : (textM (frontM m k)).length = (flatT (lineT m :: (m.headers.take k).map hdrLine)).length + 21 := by
  rw [front_text, List.length_append, tail_len]
theorem text_len (m : Ms) : (textM m).length = (flatT (lineT m :: m.headers.map hdrLine)).length + ((lenLine m.body.length).length + 4 + m.body.length) := by
  unfold textM linesT
  have e : (lineT m :: (m.headers.map hdrLine ++ [lenLine m.body.length])).flatMap (fun l => l ++ crlf) = flatT (lineT m :: m.headers.map hdrLine) ++ (lenLine m.body.length ++ crlf) := by
    show flatT _ = _
    rw [← List.cons_append, flat_app]; simp [flatT]
  rw [e]
  have ec : crlf.length = 2 := rfl
  simp only [List.length_append]; omega
theorem dig_pos (n : Nat) : 1 ≤ (digL n).length := by
  cases h : digL n with
  | nil => exact absurd h (digits_ne n)
  | cons b r => simp
theorem front_le (m : Ms) (k : Nat) : (textM (frontM m k)).length ≤ (textM m).length := by
  rw [front_len, text_len]
  have e1 : flatT (lineT m :: m.headers.map hdrLine) = flatT (lineT m :: (m.headers.take k).map hdrLine) ++ flatT ((m.headers.drop k).map hdrLine) := by
    rw [← flat_app, List.cons_append, ← List.map_append, List.take_append_drop]
  have e2 : (lenLine m.body.length).length = 16 + (digL m.body.length).length := by
    have : lengthK.length = 14 := by decide
    unfold lenLine; simp [this]; omega
  have := dig_pos m.body.length
  rw [e1, List.length_append, e2]; omega
/-- Where a value is broken: the text ahead, and the text behind. -/
theorem fold_at {m : Ms} (k : Nat) (hk : k < m.headers.length) (i : Nat) (hi : i < m.headers[k].value.length) (h32 : m.headers[k].value[i] = 32) :
    (textM m).take ((textM (frontM m k)).length - 21 + m.headers[k].name.length + 2 + i) = foldA m (m.headers.take k) m.headers[k] (m.headers[k].value.take i) ∧
    (textM m).drop ((textM (frontM m k)).length - 21 + m.headers[k].name.length + 2 + i) = foldB m (m.headers.drop (k + 1)) (m.headers[k].value.drop (i + 1)) ∧
    m.headers = m.headers.take k ++ m.headers[k] :: m.headers.drop (k + 1) ∧ m.headers[k].value = m.headers[k].value.take i ++ 32 :: m.headers[k].value.drop (i + 1) := by
  have e1 : m.headers = m.headers.take k ++ m.headers[k] :: m.headers.drop (k + 1) := by
    rw [← List.drop_eq_getElem_cons hk, List.take_append_drop]
  have e2 : m.headers[k].value = m.headers[k].value.take i ++ 32 :: m.headers[k].value.drop (i + 1) := by
    rw [← h32, ← List.drop_eq_getElem_cons hi, List.take_append_drop]
  have et := fold_text e1 e2
  have el : (foldA m (m.headers.take k) m.headers[k] (m.headers[k].value.take i)).length = (textM (frontM m k)).length - 21 + m.headers[k].name.length + 2 + i := by
    rw [front_len]
    unfold foldA
    simp only [List.length_append, List.length_cons, List.length_nil, List.length_take]; omega
  refine ⟨?_, ?_, e1, e2⟩
  · rw [et, ← el, List.take_left]
  · rw [et, ← el, List.drop_left]
/-- The values of a header. -/
def allV (m : Ms) (nm : List UInt8) : List (List UInt8) := (m.headers.filter fun x => sameB x.name nm).map Hdr.value
theorem all_step {hs : List Hdr} {nm : List UInt8} {k : Nat} (hk : k < hs.length) : ((hs.take (k + 1)).filter fun x => sameB x.name nm).map Hdr.value = ((hs.take k).filter fun x => sameB x.name nm).map Hdr.value ++ (if sameB hs[k].name nm = true then [hs[k].value] else []) := by
  rw [List.take_succ_eq_append_getElem hk, List.filter_append, List.map_append]
  congr 1
  by_cases h : sameB hs[k].name nm = true
  · rw [if_pos h]; simp [h]
  · rw [if_neg h]; simp [h]
def oneV (m : Ms) (nm : List UInt8) : List UInt8 × Bool := match allV m nm with | [x] => (x, true) | _ => ([], false)
/-- The lengths of all texts of a message. -/
def sumH (hs : List Hdr) : Nat := (hs.map fun x => 10 + x.name.length + x.value.length).sum
def sumM (m : Ms) : Nat := m.method.length + m.target.length + m.reason.length + m.body.length + sumH m.headers
theorem sumH_step {hs : List Hdr} {k : Nat} (hk : k < hs.length) : sumH (hs.take (k + 1)) = sumH (hs.take k) + (10 + hs[k].name.length + hs[k].value.length) := by
  unfold sumH
  rw [List.take_succ_eq_append_getElem hk, List.map_append, List.sum_append]
  simp only [List.map_cons, List.map_nil, List.sum_cons, List.sum_nil, Nat.add_zero]
theorem sumH_mem : ∀ (hs : List Hdr), ∀ x ∈ hs, x.name.length ≤ sumH hs ∧ x.value.length ≤ sumH hs
  | [], x, h => by simp at h
  | y :: hs, x, h => by
    have e : sumH (y :: hs) = 10 + y.name.length + y.value.length + sumH hs := by simp [sumH]
    rw [e]
    rcases List.mem_cons.1 h with rfl | h
    · omega
    · have := sumH_mem hs x h; omega

end Go.Proofs.YtjbfdbccidhdfaaDoor
