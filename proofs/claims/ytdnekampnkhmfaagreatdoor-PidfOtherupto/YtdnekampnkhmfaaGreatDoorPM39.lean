/-
  PidfOtherL, XPrint, POthL, POthM, WPidfOther.
-/
import Derived.Test.YtdnekampnkhmfaaGreatDoorPM02
import Derived.Test.YtdnekampnkhmfaaGreatDoorPM32
import Derived.Deep.CutBlock
set_option linter.unusedVariables false
set_option linter.unusedSimpArgs false
set_option maxRecDepth 20000
namespace Go.Proofs.YtdnekampnkhmfaaGreatDoor
open Go.RowKit Sc
def frontN (fr n:List UInt8):List UInt8:=fr++58 :: n
mutual
def renX (fr:List UInt8):XT → XT
 | .mk n a t k=>.mk (frontN fr n) a t (renXs fr k)
def renXs (fr:List UInt8):List XT → List XT
 | []=>[]
 | k :: ks=>renX fr k :: renXs fr ks
end
def renN (fr:List UInt8) (x:Nd):Nd:={ x with name:=frontN fr x.name }
mutual
theorem flat_ren (fr:List UInt8):∀ (t:XT) (d:Nat),flatX d (renX fr t)=(flatX d t).map (renN fr)
 | .mk n a tx k,d=>by rw [renX,flatX,flatX,flats_ren fr k (d+1)]; rfl
theorem flats_ren (fr:List UInt8):∀ (ks:List XT) (d:Nat),flatXs d (renXs fr ks)=(flatXs d ks).map (renN fr)
 | [],d=>rfl
 | k :: ks,d=>by rw [renXs,flatXs,flatXs,flat_ren fr k d,flats_ren fr ks d,List.map_append]
end
theorem renXs_map (fr:List UInt8):∀ ks:List XT,renXs fr ks=ks.map (renX fr)
 | []=>rfl
 | k :: ks=>by rw [renXs,renXs_map fr ks]; rfl
theorem local_front {fr n:List UInt8} (h:(58:UInt8) ∉ fr):localX (frontN fr n)=n:=by
 unfold localX frontN;rw [cutL_hit h]; rfl
theorem local_plain {n:List UInt8} (h:(58:UInt8) ∉ n):localX n=n:=by
 unfold localX;rw [cutL_miss h]; rfl
mutual
def bareX:XT → Prop
 | .mk n _ _ k=>(58:UInt8) ∉ n∧bareXs k
def bareXs:List XT → Prop
 | []=>True
 | k :: ks=>bareX k∧bareXs ks
end
theorem bareXs_all:∀ ks:List XT,bareXs ks ↔ ∀ k ∈ ks,bareX k
 | []=>by simp [bareXs]
 | k :: ks=>by rw [bareXs,bareXs_all ks]; simp
theorem bare_name {t:XT} (h:bareX t):(58:UInt8) ∉ nameT t:=by obtain ⟨n,a,tx,k⟩:=t; rw [bareX] at h; exact h.1
theorem bare_kids {t:XT} (h:bareX t):∀ k ∈ kidsOf t,bareX k:=by obtain ⟨n,a,tx,k⟩:=t; rw [bareX,bareXs_all] at h; exact h.2
section
variable {fr : List UInt8} (hf : (58 : UInt8) ∉ fr)
include hf
theorem local_ren {t:XT} (h:bareX t):localX (nameT (renX fr t))=localX (nameT t):=by
 have h1:=local_plain (bare_name h);obtain ⟨n,a,tx,k⟩:=t;rw [h1];exact local_front hf
theorem named_ren (nm:List UInt8):∀ ks:List XT,(∀ k ∈ ks,bareX k) → namedX nm (ks.map (renX fr))=(namedX nm ks).map (renX fr)
 | [],_=>rfl
 | k :: ks,h=>by
  have h1:=local_ren hf (h k (by simp));have h2:=named_ren nm ks fun q hq=>h q (by simp [hq]);unfold namedX at h2 ⊢;rw [List.map_cons,List.filter_cons,List.filter_cons,h1,h2]
  split <;> rfl
omit hf in
theorem kids_ren (t:XT):kidsOf (renX fr t)=(kidsOf t).map (renX fr):=by
 obtain ⟨n,a,tx,k⟩:=t;rw [renX];exact renXs_map fr k
omit hf in
theorem attrs_ren (t:XT):attrsOf (renX fr t)=attrsOf t:=by obtain ⟨n,a,tx,k⟩:=t; rfl
omit hf in
theorem text_ren (t:XT):textOf (renX fr t)=textOf t:=by obtain ⟨n,a,tx,k⟩:=t; rfl
theorem contP_ren {ks:List XT} (h:∀ k ∈ ks,bareX k):contP (ks.map (renX fr))=contP ks:=by
 unfold contP;rw [named_ren hf pcontK ks h]
 cases namedX pcontK ks with
 | nil=>rfl
 | cons c r=>simp only [List.map_cons]; rw [attrs_ren,text_ren]
theorem tupleT_ren {t:XT} (h:bareX t):tupleT (renX fr t)=tupleT t:=by
 have hk:=bare_kids h;unfold tupleT;rw [kids_ren,attrs_ren,contP_ren hf hk,named_ren hf _ _ hk,named_ren hf _ _ hk,named_ren hf _ _ hk,List.length_map,List.length_map]
 have hn:((namedX noteK (kidsOf t)).map (renX fr)).head?.map textOf=(namedX noteK (kidsOf t)).head?.map textOf:=by
  cases namedX noteK (kidsOf t) with
  | nil=>rfl
  | cons c r=>simp only [List.map_cons,List.head?_cons,Option.map_some]; rw [text_ren]
 rw [hn];have hs:∀ st ∈ namedX pstatK (kidsOf t),bareX st:=fun st hm=>hk st (List.mem_filter.1 hm).1;generalize namedX pstatK (kidsOf t)=ss at hs
 match ss,hs with
 | [],_=>rfl
 | [st],hs =>
  simp only [List.map_cons,List.map_nil];have hb:=bare_kids (hs st (by simp));rw [kids_ren,named_ren hf _ _ hb];generalize namedX basicK (kidsOf st)=bs
  match bs with
  | []=>rfl
  | [b]=>simp only [List.map_cons,List.map_nil]; rw [text_ren]
  | a :: b :: r=>rfl
 | a :: b :: r,_=>rfl
theorem tuplesT_ren:∀ ks:List XT,(∀ k ∈ ks,bareX k) → tuplesT (ks.map (renX fr))=tuplesT ks
 | [],_=>rfl
 | k :: ks,h=>by
  rw [List.map_cons,tuplesT,tuplesT,tupleT_ren hf (h k (by simp)),tuplesT_ren ks fun q hq=>h q (by simp [hq])]
theorem notesT_ren {ks:List XT} (h:∀ k ∈ ks,bareX k):notesT (ks.map (renX fr))=notesT ks:=by
 unfold notesT;rw [named_ren hf _ _ h,List.map_map];have e:(textOf ∘ renX fr)=textOf:=by funext t; exact text_ren t
 rw [e]
theorem docT_ren {t:XT} (h:bareX t):docT (renX fr t)=docT t:=by
 have hk:=bare_kids h;unfold docT entU;rw [kids_ren,attrs_ren,local_ren hf h,named_ren hf _ _ hk,tuplesT_ren hf (namedX tupleK (kidsOf t)) (fun k hm=>hk k (List.mem_filter.1 hm).1),notesT_ren hf hk]
end
def otherK:List UInt8:=[111,116,104,101,114]
def otherT (tx:List UInt8):XT:=.mk otherK [] [] [noteT tx]
theorem docT_other (n:List UInt8) (a:List Par) (A B:List XT) (tx:List UInt8):docT (.mk n a [] (A++otherT tx :: B))=docT (.mk n a [] (A++B)):=by
 have e:∀ nm:List UInt8,(localX otherK==nm)=false → namedX nm (A++otherT tx :: B)=namedX nm (A++B):=by
  intro nm h;rw [named_app,named_app]
  congr 1
  unfold namedX;rw [List.filter_cons]
  have:(localX (nameT (otherT tx))==nm)=false:=h
  rw [this]; rfl
 unfold docT entU notesT kidsOf attrsOf nameT
 simp only
 rw [e tupleK (by decide +kernel),e noteK (by decide +kernel)]
theorem bare_note (s:List UInt8):bareX (noteT s):=by rw [noteT,bareX]; exact ⟨by decide,trivial⟩
theorem bare_other (s:List UInt8):bareX (otherT s):=by rw [otherT,bareX]; exact ⟨by decide,bare_note s,trivial⟩
theorem bare_tup (t:Tu):bareX (tupT t):=by
 rw [tupT,bareX,bareXs_all];refine ⟨by decide,fun k hk=>?_⟩
 rcases List.mem_cons.1 hk with rfl | hk
 ·rw [statT,bareX,bareXs,bareX]; exact ⟨by decide,⟨by decide,trivial⟩,trivial⟩
 ·rcases List.mem_append.1 hk with hk | hk
  ·unfold contT at hk
   split at hk
   ·simp at hk
   ·simp only [List.mem_singleton] at hk; subst hk; rw [bareX]; exact ⟨by decide,trivial⟩
  ·unfold tnoteT at hk
   split at hk
   ·simp at hk
   ·simp only [List.mem_singleton] at hk; subst hk; exact bare_note _
theorem bare_tree (d:Dc) (A B:List XT) (tx:List UInt8) (h:A++B=kidsOf (treeD d)):bareX (.mk (nameT (treeD d)) (attrsOf (treeD d)) [] (A++otherT tx :: B)):=by
 have hk:∀ k ∈ A++B,bareX k:=by
  rw [h];intro k hk
  rcases List.mem_append.1 (show k ∈ d.tuples.map tupT++d.notes.map noteT from hk) with hk | hk
  ·obtain ⟨t,_,rfl⟩:=List.mem_map.1 hk; exact bare_tup t
  ·obtain ⟨s,_,rfl⟩:=List.mem_map.1 hk; exact bare_note s
 rw [bareX,bareXs_all];refine ⟨by show (58:UInt8) ∉ presenceK; decide,fun k hm=>?_⟩
 rcases List.mem_append.1 hm with hm | hm
 ·exact hk k (List.mem_append.2 (.inl hm))
 ·rcases List.mem_cons.1 hm with rfl | hm
  ·exact bare_other tx
  ·exact hk k (List.mem_append.2 (.inr hm))
theorem doc_other {d:Dc} (h:checkD d=0) {fr tx:List UInt8} (hf:(58:UInt8) ∉ fr) {A B:List XT} (hk:A++B=kidsOf (treeD d)):docT (renX fr (.mk (nameT (treeD d)) (attrsOf (treeD d)) [] (A++otherT tx :: B)))=(d,0):=by
 rw [docT_ren hf (bare_tree d A B tx hk),docT_other,hk];exact doc_said h
theorem flat_split (d:Nat):∀ (ks:List XT) (p:Nat),p≤(flatXs d ks).length → (∀ x,(flatXs d ks)[p]? = some x → x.deep≤(d:Int)) → ∃ A B,ks=A++B∧flatXs d A=(flatXs d ks).take p∧flatXs d B=(flatXs d ks).drop p
 | [],p,h,_=>by
  rw [flatXs] at h ⊢;exact ⟨[],[],rfl,by simp [flatXs],by simp [flatXs]⟩
 | k :: ks,p,h,hx=>by
  by_cases h0:p=0
  ·subst h0; exact ⟨[],k :: ks,rfl,by simp [flatXs],by simp⟩
  ·rw [flatXs] at h hx ⊢;by_cases hlt:p < (flatX d k).length
   ·exfalso
    obtain ⟨n,a,tx,q⟩:=k;have hin:(flatX d (.mk n a tx q)++flatXs d ks)[p]? = some ((flatX d (.mk n a tx q))[p]):=by rw [List.getElem?_append_left hlt,List.getElem?_eq_getElem hlt]
    have h1:=hx _ hin
    have hm:(flatX d (.mk n a tx q))[p] ∈ flatXs (d+1) q:=by
     have e:flatX d (.mk n a tx q)=⟨d,n,a,tx⟩ :: flatXs (d+1) q:=by rw [flatX]
     obtain ⟨j,rfl⟩:∃ j,p=j+1:=⟨p - 1,by omega⟩
     have hj:(flatX d (.mk n a tx q))[j+1]? = (flatXs (d+1) q)[j]? := by rw [e,List.getElem?_cons_succ]
     rw [List.getElem?_eq_getElem hlt] at hj;exact List.mem_of_getElem? hj.symm
    have h2:=flatXs_deep (d+1) q _ hm;omega
   ·obtain ⟨A,B,e1,e2,e3⟩:=flat_split d ks (p - (flatX d k).length) (by rw [List.length_append] at h; omega) (fun x hq=>hx x (by rw [List.getElem?_append_right (by omega)]; exact hq));refine ⟨k :: A,B,by rw [e1]; rfl,?_,?_⟩
    ·rw [flatXs,e2,List.take_append,List.take_of_length_le (l:=flatX d k) (by omega)]
    ·have hd:(flatX d k).drop p=[]:=List.drop_eq_nil_of_le (by omega);rw [e3,List.drop_append,hd,List.nil_append]
set_option maxHeartbeats 2000000 in
set_option maxRecDepth 100000 in
theorem xprint_bad (v:Value) (cs:List NdC) (w:World) (hz:cs.length≤140737488355328) (hsm:∀ c ∈ cs,SmallN 140737488355328 c.nd) (hv:NdsAt w v cs) (hc:checkX (ndsL cs) ≠ 0) :
  Calls Tryz.prog 24 #[v] w fun e w'=>e=.returned (.tuple #[.string ⟨#[]⟩,.int .i64 (checkX (ndsL cs))])∧Below w.heap.size w w':=by
 have KC:=hid (xcheck_any v cs w hz hsm hv);generalize checkX (ndsL cs)=R at KC hc ⊢;have r1:(R != 0)=true:=by simpa using hc
 obtain ⟨ao,cap,rfl,_⟩:=hv;generalize cs.length=n at KC hz ⊢;clear hc
 go_enter Tryz.func24,Tryz.ntmps24
 go_wp2_with fail
 refine (KC.out).mono ?_
 rintro e w1 ⟨rfl,hw1⟩;go_wp2;go_ret2;exact ⟨rfl,hw1⟩
def othN (tx:List UInt8):List Nd:=[⟨1,otherK,[],[]⟩,⟨2,noteK,[],tx⟩]
theorem other_tree {d:Dc} (hc:checkD d=0) {k:Nat} (h1:1≤k) (hk:k≤(flatX 0 (treeD d)).length) (hdeep:∀ x,(flatX 0 (treeD d))[k]? = some x → x.deep≤1) (fr tx:List UInt8) :
  ∃ T:XT,flatX 0 T=((flatX 0 (treeD d)).take k++othN tx++(flatX 0 (treeD d)).drop k).map (renN fr)∧((58:UInt8) ∉ fr → docT T=(d,0)):=by
 obtain ⟨p,rfl⟩:∃ p,k=p+1:=⟨k - 1,by omega⟩
 have e:flatX 0 (treeD d)=⟨0,nameT (treeD d),attrsOf (treeD d),[]⟩ :: flatXs 1 (kidsOf (treeD d)):=by rw [treeD,flatX]; rfl
 rw [e] at hk hdeep ⊢;rw [List.length_cons] at hk;simp only [List.getElem?_cons_succ] at hdeep;obtain ⟨A,B,e1,e2,e3⟩:=flat_split 1 (kidsOf (treeD d)) p (by omega) hdeep;refine ⟨renX fr (.mk (nameT (treeD d)) (attrsOf (treeD d)) [] (A++otherT tx :: B)),?_,fun hf=>doc_other hc hf e1.symm⟩
 rw [flat_ren,flatX,flatXs_app,flatXs,List.take_succ_cons,List.drop_succ_cons,← e2,← e3];have e4:flatX (0+1) (otherT tx)=othN tx:=by rw [otherT,flatX,flatXs,noteT,flatX,flatXs,flatXs]; rfl
 rw [e4]
 simp
def renC (fr:List UInt8) (c:NdC):NdC:=⟨renN fr c.nd,c.a⟩
theorem nds_ren (fr:List UInt8) (cs:List NdC):ndsL (cs.map (renC fr))=(ndsL cs).map (renN fr):=by simp [ndsL,renC,Function.comp_def]
def setName (c:NdC) (t:List UInt8):NdC:=⟨{ c.nd with name:=t },c.a⟩
theorem nds_setN (t:List UInt8) (cs:List NdC) (k:Nat) (hk:k < cs.length):ndsCells (cs.set k (setName cs[k] t))=(ndsCells cs).set (k * 4+1) (.string ⟨t.toArray⟩):=by
 induction cs generalizing k with
 | nil=>simp at hk
 | cons c cs ih =>
  cases k with
  | zero=>simp [ndsCells,ndCells,setName]
  | succ k =>
   have h:=ih k (by simpa using hk);have e:(k+1) * 4+1=(ndCells c).length+(k * 4+1):=by simp [ndCells]; omega
   simp only [ndsCells,List.set_cons_succ,List.flatMap_cons,List.getElem_cons_succ] at h ⊢;rw [h,e,List.set_append_right _ _ (by omega)]
   simp
theorem OwnN.name {w:World} {B g cap:Nat} {cs:List NdC} (h:OwnN w B (.slice (some ⟨g,0,none⟩) cs.length cap) cs) (k:Nat) (hk:k < cs.length) (t:List UInt8) :
  OwnN (w.setCell ⟨g,k * 4+1,none⟩ (.string ⟨t.toArray⟩)) B (.slice (some ⟨g,0,none⟩) cs.length cap) (cs.set k (setName cs[k] t)):=by
 have keep:∀ (ps:List Par) (u:Value),OwnP w B u ps → OwnP (w.setCell ⟨g,k * 4+1,none⟩ (.string ⟨t.toArray⟩)) B u ps:=fun ps u hu=>by
  refine ownsRow_setCell_other hu ?_ _
  rcases rows_neN h.1 hu (by decide) with h1 | h1
  ·rw [h1]; simp
  ·simpa [Value.ownBlock] using h1
 refine ⟨?_,fun c hc=>?_⟩
 ·rw [nds_setN t cs k hk,List.length_set];exact (World.ownsRow.stored h.1 _ _).1
 ·rcases List.mem_or_eq_of_mem_set hc with hc | hc
  ·exact keep _ _ (h.2 c hc)
  ·subst hc;exact keep _ _ (h.2 cs[k] (List.getElem_mem hk))
structure PM (w w2 W:World) (v:Value) (cs:List NdC):Prop where
 own:OwnN W w.heap.size v cs
 ge:∀ g,v.ownBlock=some g → w2.heap.size≤g
 bel:Below w2.heap.size w2 W
theorem PM.app {w w2 W W':World} {v v':Value} {cs cs':List NdC} (h:PM w w2 W v cs) (hf:FrN v W v' W') (ho:OwnN W' w.heap.size v' cs'):PM w w2 W' v' cs' :=
 ⟨ho,fun g hg=>(hf.own g hg).elim (h.ge g) (fun q=>Nat.le_trans h.bel.size q),h.bel.trans (hf.to h.bel.size h.ge)⟩
theorem PM.alloc {w w2 W:World} {v:Value} {cs:List NdC} (h:PM w w2 W v cs) (o:Obj):PM w w2 (W.alloc o) v cs:=⟨h.own.alloc o,h.ge,h.bel.alloc h.bel.size o⟩
theorem PM.start (w w2:World) (hB:w.heap.size≤w2.heap.size):PM w w2 (w2.alloc (.cells #[] 52)) (.slice (some ⟨w2.heap.size,0,none⟩) 0 0) [] :=
 ⟨ownN_newL w2 w.heap.size hB [] 0 rfl (by decide) (fun c hc=>by simp at hc),fun g hg=>by simp [Value.ownBlock] at hg; omega,(Below.refl _ w2).alloc (Nat.le_refl _) _⟩
theorem cells_take {cs:List NdC} {k:Nat} {j:Nat} {u:Value} (h:(ndsCells (cs.take k))[j]? = some u):(ndsCells cs)[j]? = some u:=by
 have e:ndsCells cs=ndsCells (cs.take k)++ndsCells (cs.drop k):=by
  conv=>lhs; rw [← List.take_append_drop k cs]
  simp only [ndsCells,List.flatMap_append]
 obtain ⟨hj,_⟩:=List.getElem?_eq_some_iff.1 h;rw [e,List.getElem?_append_left hj]; exact h
theorem cells_drop {cs:List NdC} {k:Nat} (hk:k≤cs.length) {j:Nat} {u:Value} (h:(ndsCells (cs.drop k))[j]? = some u):(ndsCells cs)[k * 4+j]? = some u:=by
 have e:ndsCells cs=ndsCells (cs.take k)++ndsCells (cs.drop k):=by
  conv=>lhs; rw [← List.take_append_drop k cs]
  simp only [ndsCells,List.flatMap_append]
 have hl:(ndsCells (cs.take k)).length=k * 4:=by rw [ndsCells_len,List.length_take]; omega
 rw [e,List.getElem?_append_right (by omega),hl,Nat.add_sub_cancel_left]; exact h
theorem two_new (W:World) (tx:List UInt8) (g:Nat) (hg:g=W.heap.size):∀ (j:Nat) (u:Value),(ndsCells [⟨⟨1,otherK,[],[]⟩,.slice none 0 0⟩,⟨⟨2,noteK,[],tx⟩,.slice none 0 0⟩])[j]? = some u → (W.alloc (.cells #[.int .i64 1,.string ⟨#[111,116,104,101,114]⟩,.slice none 0 0,.string ⟨#[]⟩,.int .i64 2,.string ⟨#[110,111,116,101]⟩,.slice none 0 0,.string ⟨tx.toArray⟩] 52)).cell? ((⟨g,0,none⟩:Addr).add j)=some u:=by
 intro j u hj;subst hg;have e:(⟨W.heap.size,0,none⟩:Addr).add j=⟨W.heap.size,j,none⟩:=by unfold Addr.add; split <;> simp_all
 rw [e];unfold World.cell?;rw [heap_alloc_new]
 simpa [ndsCells,ndCells,otherK,noteK] using hj
theorem long_err {s:List UInt8} (h:4096 < s.length):parseX s=([],2):=by unfold parseX; rw [if_pos h]
theorem front_glue (a:ByteArray) (nm:List UInt8):(a++(⟨#[58]⟩:ByteArray))++⟨nm.toArray⟩=⟨(frontN a.data.toList nm).toArray⟩:=by
 obtain ⟨⟨l⟩⟩:=a;rw [ByteArray.mk_append_mk,ByteArray.mk_append_mk]; simp [frontN]
theorem ren_step {fr:List UInt8} {cs:List NdC} {i:Nat} (h:i < cs.length):((cs.take i).map (renC fr)++cs.drop i).set i (renC fr cs[i])=(cs.take (i+1)).map (renC fr)++cs.drop (i+1):=by
 rw [List.take_succ_eq_append_getElem h,List.map_append,List.drop_eq_getElem_cons h];have hl:((cs.take i).map (renC fr)).length=i:=by rw [List.length_map,List.length_take]; omega
 rw [List.set_append_right _ _ (by omega),hl,Nat.sub_self,List.set_cons_zero,List.append_assoc]
 rfl
theorem ren_get {fr:List UInt8} {cs:List NdC} {i:Nat} (h:i < cs.length) (h2:i < ((cs.take i).map (renC fr)++cs.drop i).length):((cs.take i).map (renC fr)++cs.drop i)[i]=cs[i]:=by
 have hl:((cs.take i).map (renC fr)).length=i:=by rw [List.length_map,List.length_take]; omega
 rw [List.getElem_append_right (by omega)];simp only [hl,Nat.sub_self,List.getElem_drop,Nat.add_zero]
theorem ren_len {fr:List UInt8} (cs:List NdC) (i:Nat):((cs.take i).map (renC fr)++cs.drop i).length=cs.length:=by
 rw [List.length_append,List.length_map,List.length_take,List.length_drop]; omega
theorem PM.ren {w w2 W:World} {g cap n i:Nat} {cs:List NdC} {fr:List UInt8} (hn:n=cs.length) (hi:i < cs.length) (h:PM w w2 W (.slice (some ⟨g,0,none⟩) n cap) ((cs.take i).map (renC fr)++cs.drop i)) :
  PM w w2 (W.setCell ⟨g,i * 4+1,none⟩ (.string ⟨(frontN fr cs[i].nd.name).toArray⟩)) (.slice (some ⟨g,0,none⟩) n cap) ((cs.take (i+1)).map (renC fr)++cs.drop (i+1)):=by
 have hl:=ren_len (fr:=fr) cs i;have h0:=h.own;rw [hn,← hl] at h0;have h1:=OwnN.name h0 i (by rw [hl]; exact hi) (frontN fr cs[i].nd.name);rw [ren_get hi] at h1;rw [show setName cs[i] (frontN fr cs[i].nd.name)=renC fr cs[i] from rfl,ren_step hi,hl,← hn] at h1;exact ⟨h1,h.ge,h.bel.setCell (h.ge g rfl) _⟩
theorem flatXs_head {d:Nat} {ks:List XT} {A:List Nd} (hA:∀ x,A.head? = some x → x.deep < (d:Int)):∀ x,(flatXs d ks++A).head? = some x → x.deep≤(d:Int):=by
 intro x hx
 cases ks with
 | nil=>rw [flatXs,List.nil_append] at hx; have:=hA x hx; omega
 | cons k ks =>
  obtain ⟨n,a,tx,q⟩:=k;rw [flatXs,flatX] at hx
  simp at hx
  subst hx;exact Int.le_refl _
mutual
theorem flat_app_inj:∀ (t t':XT) (d:Nat) (A B:List Nd),(∀ x,A.head? = some x → x.deep≤(d:Int)) → (∀ x,B.head? = some x → x.deep≤(d:Int)) → flatX d t++A=flatX d t'++B → t=t'∧A=B
 | .mk n a tx ks,.mk n' a' tx' ks',d,A,B,hA,hB,h=>by
  rw [flatX,flatX,List.cons_append,List.cons_append] at h
  injection h with h1 h2
  injection h1 with _ h3 h4 h5
  obtain ⟨e1,e2⟩:=flats_app_inj ks ks' (d+1) A B (fun x hx=>by have:=hA x hx; omega) (fun x hx=>by have:=hB x hx; omega) h2;subst h3 h4 h5 e1;exact ⟨rfl,e2⟩
theorem flats_app_inj:∀ (ks ks':List XT) (d:Nat) (A B:List Nd),(∀ x,A.head? = some x → x.deep < (d:Int)) → (∀ x,B.head? = some x → x.deep < (d:Int)) → flatXs d ks++A=flatXs d ks'++B → ks=ks'∧A=B
 | [],[],d,A,B,hA,hB,h=>by
  rw [flatXs,List.nil_append,List.nil_append] at h;exact ⟨rfl,h⟩
 | [],.mk n a tx q :: ks',d,A,B,hA,hB,h=>by
  rw [flatXs,flatXs,flatX,List.nil_append] at h
  have:=hA ⟨d,n,a,tx⟩ (by rw [h]; rfl)
  simp at this
 | .mk n a tx q :: ks,[],d,A,B,hA,hB,h=>by
  rw [flatXs,flatXs,flatX,List.nil_append] at h
  have:=hB ⟨d,n,a,tx⟩ (by rw [← h]; rfl)
  simp at this
 | k :: ks,k' :: ks',d,A,B,hA,hB,h=>by
  rw [flatXs,flatXs,List.append_assoc,List.append_assoc] at h;obtain ⟨e1,e2⟩:=flat_app_inj k k' d _ _ (flatXs_head hA) (flatXs_head hB) h;obtain ⟨e3,e4⟩:=flats_app_inj ks ks' d A B hA hB e2;subst e1 e3;exact ⟨rfl,e4⟩
end
theorem flat_inj {t t':XT} {d:Nat} (h:flatX d t=flatX d t'):t=t' :=
 (flat_app_inj t t' d [] [] (fun x hx=>by simp at hx) (fun x hx=>by simp at hx) (by rw [h])).1
def othC (tx:List UInt8):List NdC:=[⟨⟨1,otherK,[],[]⟩,.slice none 0 0⟩,⟨⟨2,noteK,[],tx⟩,.slice none 0 0⟩]
theorem oth_all {d:Dc} (hc:checkD d=0) {Z:List UInt8} (hx:parseX Z=(flatX 0 (treeD d),0)) (cs:List NdC) (hcs:ndsL cs=flatX 0 (treeD d)) {k:Nat} (h1:1≤k) (hk:k≤cs.length) (hdeep:∀ c,cs[k]? = some c → c.nd.deep≤1)
  (fr tx:List UInt8) (hfr:fr.length≤1048576) (htx:tx.length≤1048576) (M:List NdC) (hM:M=(cs.take k++othC tx++cs.drop k).map (renC fr)) :
  ∃ T,flatX 0 T=ndsL M∧((58:UInt8) ∉ fr → docT T=(d,0))∧(∀ c ∈ M,SmallN 140737488355328 c.nd)∧(checkX (ndsL M)=0 → 39+(printX T).length≤140737488355328∧((prologK++printX T).length≤4096 → parseX (prologK++printX T)=(flatX 0 T,0))):=by
 have hsm:=parseX_sm hx
 have e0:ndsL M=((flatX 0 (treeD d)).take k++othN tx++(flatX 0 (treeD d)).drop k).map (renN fr):=by
  rw [hM,nds_ren,← hcs]
  simp [ndsL,othC,othN]
 have hlen:(flatX 0 (treeD d)).length=cs.length:=by rw [← hcs,ndsL_len]
 obtain ⟨T,hT,hD⟩:=other_tree hc h1 (by rw [hlen]; exact hk) (fun x hx=>by
  rw [← hcs,ndsL,List.getElem?_map] at hx
  cases hq:cs[k]? with
  | none=>rw [hq] at hx; simp at hx
  | some c=>rw [hq] at hx; simp at hx; subst hx; exact hdeep c hq) fr tx
 have hpl:∀ y ∈ (flatX 0 (treeD d)).take k++othN tx++(flatX 0 (treeD d)).drop k,y.name.length≤4096∧y.text.length≤1048576∧y.attrs.length≤4096∧(∀ p ∈ y.attrs,p.name.length≤4096∧p.value.length≤4096)∧0≤y.deep∧y.deep≤4096:=by
  intro y hy
  have hin:∀ y ∈ flatX 0 (treeD d),y.name.length≤4096∧y.text.length≤1048576∧y.attrs.length≤4096∧(∀ p ∈ y.attrs,p.name.length≤4096∧p.value.length≤4096)∧0≤y.deep∧y.deep≤4096:=fun y hy=>by
   obtain ⟨s1,s2,s3,s4,s5,s6⟩:=hsm y hy;exact ⟨s1,by omega,s3,s4,s5,s6⟩
  rcases List.mem_append.1 hy with hy | hy
  ·rcases List.mem_append.1 hy with hy | hy
   ·exact hin y (List.mem_of_mem_take hy)
   ·simp only [othN,List.mem_cons,List.not_mem_nil,or_false] at hy
    rcases hy with rfl | rfl
    ·exact ⟨by decide,by decide,by decide,fun p hp=>by simp at hp,by decide,by decide⟩
    ·exact ⟨by show noteK.length≤_; decide,htx,by show (0:Nat)≤_; decide,fun p hp=>by simp at hp,by show (0:Int)≤2; decide,by show (2:Int)≤4096; decide⟩
  ·exact hin y (List.mem_of_mem_drop hy)
 have hall:∀ x ∈ ndsL M,x.name.length≤1052673∧x.text.length≤1048576∧x.attrs.length≤4096∧(∀ p ∈ x.attrs,p.name.length≤4096∧p.value.length≤4096)∧0≤x.deep∧x.deep≤4096:=by
  intro x hx;rw [e0] at hx;obtain ⟨y,hy,rfl⟩:=List.mem_map.1 hx;obtain ⟨s1,s2,s3,s4,s5,s6⟩:=hpl y hy;refine ⟨?_,s2,s3,s4,s5,s6⟩
  show (frontN fr y.name).length≤_
  rw [frontN,List.length_append,List.length_cons]; omega
 refine ⟨T,by rw [hT,e0],hD,fun c hcm=>?_,fun hck=>?_⟩
 ·obtain ⟨s1,s2,s3,s4,s5,s6⟩:=hall c.nd (List.mem_map_of_mem hcm);refine ⟨by omega,by omega,⟨by omega,fun p hp=>⟨by have:=(s4 p hp).1; omega,by have:=(s4 p hp).2; omega⟩⟩,?_⟩
  simp only [Lit.wf,IntKind.min,IntKind.max,IntKind.signed,IntKind.bits,Bool.and_eq_true,decide_eq_true_eq]
  constructor <;> simp <;> omega
 ·have hfT:flatX 0 T=ndsL M:=by rw [hT,e0]
  have hW:=ok_W (K:=1052673) hck (fun x hx=>by
   obtain ⟨s1,s2,s3,s4,s5,s6⟩:=hall x hx;exact ⟨s1,by omega,fun p hp=>⟨by have:=(s4 p hp).1; omega,by have:=(s4 p hp).2; omega⟩⟩)
  have hP:=printX_W 0 T;rw [hfT] at hP;refine ⟨by omega,fun hl=>?_⟩
  obtain ⟨t,ht,hok⟩:=tree_of hck
  have:t=T:=flat_inj (ht.trans hfT.symm)
  subst this
  have:=doc_back hck hfT hok (bl:=[]) (by simp) (by simpa using hl)
  rw [List.append_nil] at this;rw [this,hfT]
theorem wp_appNz {P:Program} (w:World) {ops:Array Oper} {rest:List Oper} {o:Oper} {a:Act} {Q:Exit → Act → World → Prop} (hgd:o.guard=none)
  (s x:Operand) (t:TypeId) (ho:o.op=Op.call { callee:=Callee.builtin Builtin.append,args:=#[s,x],argTypes:=#[t,t] }) (B:Nat) (i:TypeInfo)
  (z:Value) (ht:P.underlying t=some (TypeDesc.slice 52)) (hi:P.info? 52=some i) (hz:i.zero=some z) (hsize:i.size=4) (hby:i.bytes=64) (hzs:z.cells.size=4)
  (v:Value) (cs:List NdC) (hs:a.eval s=v) (hown:OwnN w B v cs) (ad:Addr) (k:Nat) (c:List NdC) (n:Nat) (hn:n=c.length) (hc:∀ d ∈ c,OwnP w B d.a d.nd.attrs) (hx:a.eval x=Value.slice (some ad) n k)
  (hnews:∀ (j:Nat) (u:Value),(ndsCells c)[j]? = some u → w.cell? (ad.add j)=some u)
  (hlen:cs.length≤1000000) (hlen2:c.length≤1000000) (hB:B≤w.heap.size)
  (h:∀ (v':Value) (w':World),OwnN w' B v' (cs++c) → FrN v w v' w' → wpList P ops Q rest (a.put o.dst v') w'):wpList P ops Q (o :: rest) a w:=by
 have one:∀ (ps:List Par) (B:Nat) (v:Value),OwnP w B v ps → v.oneCell'=true:=fun ps B v h=>by
  rcases h.2 with ⟨rfl,_⟩ | ⟨g,cap,cur,rfl,_⟩ <;> rfl
 subst hn
 refine wpList_append_own_at w hgd s x t ho B 52 i z 4 64 ht hi hz hsize hby hzs (by decide) v cs.length (ndsCells cs) hs hown.1 ad c.length k (ndsCells c) hx (ndsCells_len c) hnews
  (by
   intro u hu;unfold ndsCells at hu;obtain ⟨d,hd,hu⟩:=List.mem_flatMap.1 hu
   simp [ndCells] at hu
   rcases hu with rfl | rfl | rfl | rfl <;> first | rfl | exact one _ _ _ (hc d hd)) (by unfold maxLen; omega) (by omega) hB ?_
 intro v' w' hown' hgr _ hat;have keep:∀ (ps:List Par) (u:Value),OwnP w B u ps → OwnP w' B u ps:=fun ps u hu=>World.ownsRow.kept hu hgr (rows_neN hown.1 hu (by decide));refine h v' w' ⟨?_,?_⟩ (grown_fr hgr hat)
 ·have e:ndsCells (cs++c)=ndsCells cs++ndsCells c:=by simp [ndsCells]
  rw [e,List.length_append];exact hown'
 ·intro c' hc'
  rcases List.mem_append.1 hc' with hc' | hc'
  ·exact keep _ _ (hown.2 c' hc')
  ·exact keep _ _ (hc c' hc')
theorem PM.app2 {w w2 W W':World} {v v':Value} {cs cs':List NdC} (h:PM w w2 W v cs) (hf:FrN v W v' W') (ho:OwnN W' w.heap.size v' cs'):∃ a cap n,v'=.slice a n cap∧n=cs'.length∧PM w w2 W' v' cs':=by
 obtain ⟨a,cap,e⟩:=ho.form;exact ⟨a,cap,_,e,rfl,h.app hf ho⟩
theorem PM.at {w w2 W:World} {g cap n i:Nat} {cs:List NdC} {fr:List UInt8} (hn:n=cs.length) (hi:i < cs.length) (h:PM w w2 W (.slice (some ⟨g,0,none⟩) n cap) ((cs.take i).map (renC fr)++cs.drop i)) :
  W.cell? ⟨g,i * 4+1,none⟩=some (.string ⟨cs[i].nd.name.toArray⟩)∧W.frozen? ⟨g,i * 4+1,none⟩=false:=by
 have h0:=h.own.1;rw [ren_len,← hn] at h0;have hl:=ren_len (fr:=fr) cs i
 constructor
 ·have:=World.ownsRow.cells h0 (g:=g) rfl (i * 4+1) (.string ⟨cs[i].nd.name.toArray⟩) (ndsCells_get _ i (by rw [hl]; exact hi) 1 _ (by rw [ren_get hi]; rfl))
  rw [add_zero_lit] at this; exact this
 ·rcases h0.2 with ⟨e,_⟩ | ⟨g',cap',cur,e,hb,hg,_⟩
  ·cases e
  ·injection e with e1
   injection e1 with e1
   injection e1 with e1
   subst e1;unfold World.frozen?;rw [hg]; simp
theorem front_is (a:ByteArray) (nm:List UInt8) (h:(frontN a.data.toList nm).length≤140737488355328) (w:World) :
  Calls Tryz.prog 23 #[.string ((a++(⟨#[58]⟩:ByteArray))++⟨nm.toArray⟩)] w fun e w'=>e=.returned (.bool (nameX (frontN a.data.toList nm)))∧w'=w:=by
 rw [front_glue]; exact xname_list _ w h
theorem front_len (a:ByteArray) (nm:List UInt8):(frontN a.data.toList nm).length=a.size+1+nm.length:=by
 rw [frontN,List.length_append,List.length_cons,len_data]; omega
theorem sep_not {a:ByteArray} (h:∀ k (hk:k < a.size),a[k] ≠ 58):(58:UInt8) ∉ a.data.toList:=by
 intro hm;obtain ⟨k,hk,e⟩:=List.mem_iff_getElem.1 hm;have hk':k < a.size:=by rw [len_data] at hk; exact hk
 exact h k hk' (by rw [← e]; rfl)
end Go.Proofs.YtdnekampnkhmfaaGreatDoor
namespace Go.Proofs.YtdnekampnkhmfaaGreatDoor.pidfOther
open Go.RowKit Sc
set_option maxHeartbeats 4000000 in
set_option maxRecDepth 100000 in
theorem law_walk (w:World) (v0:Value) (a1:Int) (a2 a3:ByteArray) (k0:DocIn2 1048576 w v0) (w1:(Lit.int .u64 a1).wf=true) (b2:a2.size≤1048576) (b3:a3.size≤1048576) :
  Calls Tryz.prog 8 #[v0,.int .u64 a1,.string a2,.string a3] w fun e w'=>e=.returned (.bool true)∧Below w.heap.size w w':=by
 obtain ⟨d,ts,ns,rfl,hD,hsm,hen⟩:=k0;obtain ⟨tx,rfl⟩:∃ tx:List UInt8,a3=⟨tx.toArray⟩:=⟨a3.data.toList,by apply ByteArray.ext; simp⟩
 rw [size_list] at b3;have hsm2:SmallD 140737488355328 d:=hsm.up (by decide);obtain ⟨ta,tk,hta,_⟩:=hD.t;obtain ⟨na,nk,hna,_⟩:=hD.n;obtain ⟨tn,htn⟩:∃ tn,tn=d.tuples.length:=⟨_,rfl⟩
 obtain ⟨nn,hnn⟩:∃ nn,nn=d.notes.length:=⟨_,rfl⟩
 rw [← htn] at hta;rw [← hnn] at hna;obtain ⟨en,hEN⟩:∃ en,en=d.entity:=⟨_,rfl⟩
 have HD0:=hid (hD.alloc (.cells #[.string ⟨en.toArray⟩,ts,ns] 25));have hr0:=hid (rc_row3 w (.string ⟨en.toArray⟩) ts ns 25);have hb0:=hid (show Below w.heap.size w (w.alloc (.cells #[.string ⟨en.toArray⟩,ts,ns] 25)) from (Below.refl _ w).alloc (Nat.le_refl _) _);have hl0:=hid (alloc_lt w (.cells #[.string ⟨en.toArray⟩,ts,ns] 25))
 have p0:0≤a1:=by
  simp only [Lit.wf,IntKind.min,IntKind.max,IntKind.signed,IntKind.bits,Bool.and_eq_true,decide_eq_true_eq] at w1
  simpa using w1.1
 have p1:a1≤18446744073709551615:=by
  simp only [Lit.wf,IntKind.min,IntKind.max,IntKind.signed,IntKind.bits,Bool.and_eq_true,decide_eq_true_eq] at w1
  simpa using w1.2
 by_cases hc:checkD d=0
 case neg =>
  have KP:=hid (fun w' ts ns (k:DocAt w' d ts ns)=>pprint_bad d ts ns w' hsm2 hen k.c k.t k.n hc);have KX:Hid (∀ w',Calls Tryz.prog 22 #[.string ⟨#[]⟩] w' fun e w2=>ParP (parseX []) w' e w2):=fun w'=>xparse_any [] w' (by decide);have r1:(checkD d != 0)=true:=by simpa using hc
  unfold docV at KP ⊢;rw [← hEN] at KP ⊢;generalize checkD d=C at KP r1;generalize parseX []=R at KX;unfold ParP at KX;clear hsm hsm2 hen htn hnn hc hEN hD;subst hta hna
  go_enter Tryz.func8,Tryz.ntmps8
  go_upto_region 1 with fail
  generalize World.alloc w _=W0 at HD0 hr0 hb0 hl0 ⊢;obtain ⟨y0,y1,y2,_,_,_⟩:=hr0.out.rc3;go_wp2_with fail
  refine (KP.out _ _ _ HD0.out).mono ?_
  rintro e w1 ⟨rfl,hw1⟩;have hb1:=hb0.out.trans (hw1.mono hb0.out.size);clear y0 y1 y2;go_wp2_with fail
  refine (KX.out _).mono ?_
  rintro e w2 ⟨v',cs',rfl,_,_,hw2⟩;have hb2:=hb1.trans (hw2.mono hb1.size);go_wp2_with (go_at_call 10; refine (awake14_any _).mono ?_; rintro e w7 ⟨rfl,hw7⟩)
  go_ret;exact ⟨rfl,hb2.trans (hw7.mono hb2.size)⟩
 have KS:=hid (fun w' ts ns ts' ns' (k:DocAt w' d ts ns) (k':DocAt w' d ts' ns')=>rsame14_any d ts ns ts' ns' w' hsm2 k.t k.n k'.t k'.n);have KP:=hid (fun w' ts ns (k:DocAt w' d ts ns)=>pprint_ok d ts ns w' k.c k.t k.n hc)
 have hTl:(prologK++printX (treeD d)).length≤140737488355328:=by
  have:prologK.length=39:=rfl
  have:=print_sm hc
  rw [List.length_append]; omega
 have KF:Hid (∀ w e w',DcP (d,0) w e w' → ∃ ta tk na nk,e=.returned (.tuple #[.agg #[.string ⟨d.entity.toArray⟩,.slice ta d.tuples.length tk,.slice na d.notes.length nk],.int .i64 0])∧DocAt w' d (.slice ta d.tuples.length tk) (.slice na d.notes.length nk)∧Below w.heap.size w w'):=fun w e w' h=>h.forms;have hpb0:=fun h=>pidf_back hc h;have KX:=hid (fun w'=>xparse_any (prologK++printX (treeD d)) w' hTl);have HOA0:=hid (fun Z (hx:parseX Z=(flatX 0 (treeD d),0))=>oth_all hc hx);have HTC:=hid (tree_count hc);have HT1:Hid (1≤(flatX 0 (treeD d)).length):=show _≤_ by rw [treeD,flatX]; simp
 have HPQ:=hid (fun l (nl:List Nd) t w' hl hx hf=>pparse_ok l nl t w' hl hx hf);generalize prologK++printX (treeD d)=Z at KP KX hTl hpb0;by_cases h4:4096 < Z.length
 ·rw [long_err h4] at KX;unfold ParP at KX;unfold docV at KP ⊢;rw [← hEN] at KP ⊢;clear hsm hsm2 hen htn hnn hc hEN hD hpb0 HOA0 KS KF HPQ HTC HT1 h4 hTl;subst hta hna
  go_enter Tryz.func8,Tryz.ntmps8
  go_upto_region 1 with fail
  generalize World.alloc w _=W0 at HD0 hr0 hb0 hl0 ⊢;obtain ⟨y0,y1,y2,_,_,_⟩:=hr0.out.rc3;go_wp2_with fail
  refine (KP.out _ _ _ HD0.out).mono ?_
  rintro e w1 ⟨rfl,hw1⟩;have hb1:=hb0.out.trans (hw1.mono hb0.out.size);clear y0 y1 y2;go_wp2_with fail
  refine (KX.out _).mono ?_
  rintro e w2 ⟨v',cs',rfl,_,_,hw2⟩;have hb2:=hb1.trans (hw2.mono hb1.size);go_wp2_with (go_at_call 10; refine (awake14_any _).mono ?_; rintro e w7 ⟨rfl,hw7⟩)
  go_ret;exact ⟨rfl,hb2.trans (hw7.mono hb2.size)⟩
 have hpb:=hpb0 (by omega);have HOA:=hid (HOA0.out Z hpb);clear hpb0 HOA0;rw [hpb] at KX;unfold ParP at KX;have KN:=hid (fun w'=>xname_any (a2++⟨#[58,110,111,116,101]⟩) w' (by rw [ByteArray.size_append]; show a2.size+5≤_; omega));generalize nameX (a2++⟨#[58,110,111,116,101]⟩:ByteArray).data.toList=NB at KN;generalize flatX 0 (treeD d)=FD at KX HOA HTC HT1;unfold docV at KP KS ⊢;rw [← hEN] at KP KS KF ⊢;rw [← htn,← hnn] at KF;clear hsm hsm2 hen htn hnn hc hEN hD hpb h4 hTl;subst hta hna;have hcl:¬ 9223372036854775807 < a2.size+5:=by omega
 go_enter Tryz.func8,Tryz.ntmps8
 go_upto_region 1 with fail
 generalize World.alloc w _=W0 at HD0 hr0 hb0 hl0 ⊢;obtain ⟨y0,y1,y2,_,_,_⟩:=hr0.out.rc3;go_wp2_with fail
 refine (KP.out _ _ _ HD0.out).mono ?_
 rintro e w1 ⟨rfl,hw1⟩;have HD1:=hid (HD0.out.below hw1);have hr1:=hid (hr0.out.below hw1 hl0.out);have hl1:=hid (Nat.lt_of_lt_of_le hl0.out hw1.size);have hb1:=hid (hb0.out.trans (hw1.mono hb0.out.size));clear HD0 hr0 hb0 hl0 hw1 y0 y1 y2 KP;go_wp2_with fail
 refine (KX.out _).mono ?_
 rintro e w2 ⟨v2,cs,rfl,hcs,hown,hw2⟩;have HD2:=hid (HD1.out.below hw2);have hr2:=hid (hr1.out.below hw2 hl1.out);have hl2:=hid (Nat.lt_of_lt_of_le hl1.out hw2.size);have hb2:=hid (hb1.out.trans (hw2.mono hb1.out.size));have hsz1:=hid hb1.out.size;clear HD1 hr1 hb1 hl1 hw2 KX;have hlen:=nds_len2 hcs;obtain ⟨n,hn⟩:∃ n,n=cs.length:=⟨_,rfl⟩
 have hn97:n≤97:=by have:=HTC.out; omega
 have hn1:1≤n:=by have:=HT1.out; omega
 obtain ⟨va,vc,hvf⟩:=hown.form;rw [← hn] at hvf;subst hvf;obtain ⟨g,hg,hz1,hglt,hgB,hcell⟩:=ownN_cells hown (by omega);subst hg;have HCE:=hid hcell;have HN:=hid hn
 have hncap:n≤vc:=by
  rcases hown.1.2 with ⟨e,_⟩ | ⟨g',cap,cur,e,hb,hg,r⟩
  ·cases e
  ·injection e with _ e2 e3
   rw [e3,hn]; exact r.1
 have HOP:Hid (∀ c ∈ cs,OwnP w2 w.heap.size c.a c.nd.attrs):=fun c hc=>ownP_mono (hown.2 c hc) hsz1.out;have HOB:=hid (fun (k:Nat) h1 h2 h3 M hM=>HOA.out cs hcs (k:=k) h1 h2 h3 a2.data.toList tx (by rw [len_data]; exact b2) b3 M hM);clear hlen hn hz1 hcell hown hcs HTC HT1 hgB HOA;have q0:¬ (198:Int) < (n:Int):=by omega
 go_wp2_with fail
 refine (KN.out _).mono ?_
 rintro e w3 ⟨rfl,hw3⟩;rw [hw3]; clear hw3 w3
 cases NB with
 | false =>
  go_wp2_with (go_at_call 10; refine (awake14_any _).mono ?_; rintro e w7 ⟨rfl,hw7⟩)
  go_ret;exact ⟨rfl,hb2.out.trans (hw7.mono hb2.out.size)⟩
 | true =>
 obtain ⟨c,hc⟩:∃ c:Nat,(c:Int)=a1 % (n:Int):=⟨(a1 % (n:Int)).toNat,Int.toNat_of_nonneg (Int.emod_nonneg _ (by omega))⟩
 have hcn:c < n:=by have:=Int.emod_lt_of_pos a1 (show 0 < (n:Int) by omega); omega
 have hrem:a1 % (n:Int)=(c:Int):=hc.symm;have hrem2:a1.tmod (n:Int)=(c:Int):=by rw [Int.tmod_eq_emod_of_nonneg p0]; exact hc.symm
 have t1:IntKind.u64.wrap (n:Int)=(n:Int):=by simp [IntKind.wrap,IntKind.signed,IntKind.bits]; omega
 have t2:IntKind.u64.wrap (c:Int)=(c:Int):=by simp [IntKind.wrap,IntKind.signed,IntKind.bits]; omega
 have t3:IntKind.i64.wrap (c:Int)=(c:Int):=by simp [IntKind.wrap,IntKind.signed,IntKind.bits]; omega
 have t5:((n:Int)==0)=false:=by simp; omega
 clear hc KN hcl
 go_upto_block 0 with fail
 go_cut [13] from 56 to 69 (fun kv wx=>∃ k:Nat,1≤k∧k≤n∧kv=.int .i64 (k:Int)∧Hid (∀ c,cs[k]? = some c → c.nd.deep≤1)∧Hid (Below w2.heap.size w2 wx))
 case first =>
  go_wp2_with fail
  go_loopw [13] (fun kv wr=>∃ k:Nat,1≤k∧k≤n∧kv=.int .i64 (k:Int)∧Below w2.heap.size w2 wr) (fun kv _=>n - (intOf kv).toNat)
  case atStart=>exact ⟨c+1,by omega,by omega,by go_num,Below.refl _ _⟩
  case round =>
   obtain ⟨k,hk1,hkn,rfl,hbk⟩:=hrel;clear hrem hrem2 t1 t2 t3 t5 hcn
   have HX:(∃ dp:Int,((k:Int) < (n:Int))∧k < n∧wr.cell? ⟨g,k * 4,none⟩=some (.int .i64 dp)∧1 < dp)∨(((∃ dp:Int,((k:Int) < (n:Int))∧wr.cell? ⟨g,k * 4,none⟩=some (.int .i64 dp)∧¬ 1 < dp)∨¬ (k:Int) < (n:Int))∧Hid (∀ c,cs[k]? = some c → c.nd.deep≤1)):=by
    by_cases hlt:k < n
    ·have hkl:k < cs.length:=by have:=HN.out; omega
     have x0:wr.cell? ⟨g,k * 4,none⟩=some (.int .i64 cs[k].nd.deep):=by
      rw [hbk.cell hglt,← add_zero_lit];exact HCE.out _ _ (ndsCells_get cs k hkl 0 _ rfl)
     by_cases h1:1 < cs[k].nd.deep
     ·exact .inl ⟨_,by omega,hlt,x0,h1⟩
     ·refine .inr ⟨.inl ⟨_,by omega,x0,h1⟩,fun c hc=>?_⟩
      rw [List.getElem?_eq_getElem hkl] at hc
      injection hc with hc
      rw [← hc]; omega
    ·refine .inr ⟨.inr (by omega),fun c hc=>?_⟩
     have:=HN.out
     rw [List.getElem?_eq_none (by omega)] at hc
     cases hc
   rcases HX with ⟨dp,r1,hlt,x0,h1⟩ | ⟨⟨dp,r1,x0,h1⟩ | r1,HDE⟩
   ·go_wp2;go_roundw
    case rel=>exact ⟨k+1,by omega,by omega,by go_num,hbk⟩
    case measure=>simp [intOf]; omega
   all_goals
    go_wp2_with fail
    go_meet
    case rel=>exact ⟨k,hk1,hkn,rfl,HDE,hbk⟩
 case rest =>
  obtain ⟨k,hk1,hkn,rfl,HDE,HBK⟩:=hcut;clear hrem hrem2 t1 t2 t3 t5 hcn;have hbk:=HBK.out;generalize wc=wk at HBK hbk ⊢;have hsr:w.heap.size≤wk.heap.size:=Nat.le_trans hb2.out.size hbk.size;have HP0:=hid (PM.start w wk hsr)
  have HCW:Hid (∀ W,Below wk.heap.size wk W → ∀ (j:Nat) (u:Value),(ndsCells cs)[j]? = some u → W.cell? ((⟨g,0,none⟩:Addr).add j)=some u):=fun W hW j u hj=>by
   rw [add_zero_lit,hW.cell (show g < wk.heap.size from Nat.lt_of_lt_of_le hglt hbk.size),hbk.cell (show g < w2.heap.size from hglt),← add_zero_lit];exact HCE.out j u hj
  have HPW:Hid (∀ W,Below wk.heap.size wk W → ∀ c ∈ cs,OwnP W w.heap.size c.a c.nd.attrs):=fun W hW c hc=>(HOP.out c hc).below (hbk.trans (hW.mono hbk.size));have HK1:Hid (k=(cs.take k).length):=show _=_ by have:=HN.out; rw [List.length_take]; omega
  obtain ⟨i1,hj,hy0,hy1,hy2⟩:=info_parts infoNodeB;have hkv:(k:Int)≤(vc:Int):=by omega
  have hkn2:(k:Int)≤(n:Int):=by omega
  have hnv:(n:Int)≤(vc:Int):=by omega
  go_upto_region 9 with (at_builtin; refine wp_appNz _ rfl (.tmp 70) (.tmp 73) 47 rfl w.heap.size i1 _ Tryz.underlying47 hj hy0 hy1 hy2 rfl (.slice (some ⟨wk.heap.size,0,none⟩) 0 0) [] rfl HP0.out.own ⟨g,0,none⟩ vc (cs.take k) k HK1.out (by exact fun d hd=>HPW.out _ HP0.out.bel d (List.mem_of_mem_take hd)) rfl (by exact fun j u hu=>HCW.out _ HP0.out.bel j u (cells_take hu)) (by decide) (by have:=HK1.out; omega) (by exact Nat.le_trans hsr HP0.out.bel.size) ?_; intro v9 w9 hown9 hf9; obtain ⟨va9,vc9,n9,rfl,hn9,hP9⟩:=HP0.out.app2 hf9 hown9; have HN9:=hid hn9; have HP9:=hid hP9; clear hown9 hf9 hn9 hP9)
  have HTN:=hid (fun (W:World) (g':Nat) (h:g'=W.heap.size)=>two_new W tx g' h)
  go_upto_region 10 with (at_builtin; refine Hid.out ?_)
  unfold Hid
  (refine wp_appNz _ rfl (.tmp 75) (.tmp 79) 47 rfl w.heap.size i1 _ Tryz.underlying47 hj hy0 hy1 hy2 rfl (.slice va9 n9 vc9) ([]++cs.take k) rfl (by exact (HP9.out.alloc _).own) ⟨_,0,none⟩ 2 (othC tx) 2 rfl (by intro d hd; simp only [othC,List.mem_cons,List.not_mem_nil,or_false] at hd; rcases hd with rfl | rfl <;> exact OwnP.nil _ _) rfl (by exact HTN.out _ _ rfl) (by have:=HK1.out; simp at this ⊢; omega) (by show 2≤1000000; decide) (by exact Nat.le_trans hsr (HP9.out.alloc _).bel.size) ?_; intro v10 w10 hown10 hf10; obtain ⟨va10,vc10,n10,rfl,hn10,hP10⟩:=(HP9.out.alloc _).app2 hf10 hown10; have HN10:=hid hn10; have HP10:=hid hP10; clear hown10 hf10 hn10 hP10)
  have HL10:Hid (n10=k+2):=show _=_ by have h1:=HN10.out; have h2:=HK1.out; rw [List.length_append,List.nil_append,← h2] at h1; exact h1
  have HLD:Hid (n - k=(cs.drop k).length):=show _=_ by have:=HN.out; rw [List.length_drop]; omega
  have HFIN:=hid (fun M hM=>HOB.out k hk1 (by have:=HN.out; omega) HDE.out M hM);clear HOB HDE HOP HCE;obtain ⟨C,hC⟩:∃ C,C=[]++cs.take k++othC tx++cs.drop k:=⟨_,rfl⟩
  have HCC:=hid hC;have HFC:Hid (∀ M:List NdC,M=C.map (renC a2.data.toList) → _):=fun M hM=>HFIN.out M (by rw [hM,HCC.out,List.nil_append]);have HCL:Hid (C.length=n+2):=show _=_ by have h1:=HN10.out; have h2:=HL10.out; have h3:=HLD.out; rw [HCC.out,List.length_append,← h1,← h3]; omega
  clear hC HFIN
  go_upto_region 10 with fail
  go_cut [14] from 81 to 85 (fun v wx=>∃ (n3:Nat) (va:Option Addr) (vc3:Nat),v=.slice va n3 vc3∧Hid (n3=C.length)∧Hid (PM w wk wx v C))
  case first =>
   by_cases hvk:vc=k
   ·subst vc
    go_upto_region 11 with (at_builtin; refine Hid.out ?_)
    unfold Hid;refine wp_appNz _ rfl (.tmp 81) (.tmp 84) 47 rfl w.heap.size i1 _ Tryz.underlying47 hj hy0 hy1 hy2 rfl (.slice va10 n10 vc10) ([]++cs.take k++othC tx) rfl HP10.out.own _ _ [] _ (by first | omega | (simp only [List.length_nil]; omega) | simp) (by intro d hd; simp at hd) rfl (by intro j u hu; simp [ndsCells] at hu) (by have h1:=HN10.out; have h2:=HL10.out; omega) (by first | omega | (simp only [List.length_nil]; omega) | simp) (by exact Nat.le_trans hsr HP10.out.bel.size) ?_
    intro v11 w11 hown11 hf11;obtain ⟨va11,vc11,n11,rfl,hn11,hP11⟩:=HP10.out.app2 hf11 hown11;have hC2:C=[]++cs.take k++othC tx++[]:=by have h1:=HCC.out; have h2:=HN.out; rw [List.drop_eq_nil_of_le (by omega)] at h1; exact h1
    rw [← hC2] at hn11 hP11;clear hC2;have HN11:=hid hn11;have HP11:=hid hP11;clear hown11 hf11 hn11 hP11;go_wp2_with fail
    go_meet
    case rel=>exact ⟨n11,va11,vc11,rfl,HN11,HP11⟩
   ·go_upto_region 11 with (at_builtin; refine Hid.out ?_)
    unfold Hid;refine wp_appNz _ rfl (.tmp 81) (.tmp 84) 47 rfl w.heap.size i1 _ Tryz.underlying47 hj hy0 hy1 hy2 rfl (.slice va10 n10 vc10) ([]++cs.take k++othC tx) rfl HP10.out.own ⟨g,k * 4,none⟩ (vc - k) (cs.drop k) (n - k) HLD.out (by exact fun d hd=>HPW.out _ HP10.out.bel d (List.mem_of_mem_drop hd)) rfl (by intro j u hu; have h:=HCW.out _ HP10.out.bel _ u (cells_drop (by have:=HN.out; omega) hu); rw [add_zero_lit] at h; rw [show (⟨g,k * 4,none⟩:Addr).add j=⟨g,k * 4+j,none⟩ from by unfold Addr.add; split <;> simp_all]; exact h) (by have h1:=HN10.out; have h2:=HL10.out; omega) (by have:=HLD.out; omega) (by exact Nat.le_trans hsr HP10.out.bel.size) ?_
    intro v11 w11 hown11 hf11;obtain ⟨va11,vc11,n11,rfl,hn11,hP11⟩:=HP10.out.app2 hf11 hown11;rw [← HCC.out] at hn11 hP11;have HN11:=hid hn11;have HP11:=hid hP11;clear hown11 hf11 hn11 hP11;go_wp2_with fail
    go_meet
    case rel=>exact ⟨n11,va11,vc11,rfl,HN11,HP11⟩
  case rest =>
   obtain ⟨n3,va3,vc3,rfl,HN3,HP3⟩:=hcut;have hn99:n3≤99:=by have h1:=HN3.out; have h2:=HCL.out; omega
   have hn31:1≤n3:=by have h1:=HN3.out; have h2:=HCL.out; omega
   obtain ⟨g3,hg3,hz3,hg3l,_,_⟩:=ownN_cells HP3.out.own (by have:=HN3.out; omega);subst hg3;clear hz3;obtain ⟨M,hM⟩:∃ M,M=C.map (renC a2.data.toList):=⟨_,rfl⟩
   obtain ⟨T,hT,hDT,hSM,hPT⟩:=HFC.out M hM;have HMM:=hid hM;have HT:=hid hT;have HDT:=hid hDT;have HSM:=hid hSM;have HPT:=hid hPT;have HNM:Hid (∀ j (h:j < C.length),(frontN a2.data.toList C[j].nd.name).length≤140737488355328):=fun j h=>(HSM.out (renC a2.data.toList C[j]) (by rw [HMM.out]; exact List.mem_map_of_mem (List.getElem_mem h))).1;clear hM hT hDT hSM hPT HFC HCC HCL HN10 HL10 HLD HP10 HP9 HN9 HK1 HPW HCW HP0 HTN;go_wp2
   go_loopw [15] (fun i wx=>∃ j:Nat,j≤n3∧i=.int .i64 (j:Int)∧Hid (PM w wk wx (.slice (some ⟨g3,0,none⟩) n3 vc3) ((C.take j).map (renC a2.data.toList)++C.drop j))) (fun i _=>n3 - (intOf i).toNat)
   case atStart=>exact ⟨0,Nat.zero_le _,rfl,HP3⟩
   case round =>
    obtain ⟨j,hjn,rfl,HPj⟩:=hrel;clear HP3;by_cases hlt:j < n3
    ·have hjl:j < C.length:=by have:=HN3.out; omega
     have r1:(j:Int) < (n3:Int):=by omega
     obtain ⟨x1,f1⟩:=PM.at HN3.out hjl HPj.out;have hnl:=HNM.out j hjl;have KN:=hid (front_is a2 C[j].nd.name hnl);have HGL:=hid (front_glue a2 C[j].nd.name);have HPR:=hid (PM.ren HN3.out hjl HPj.out);rw [front_len] at hnl;generalize nameX (frontN a2.data.toList C[j].nd.name)=NB at KN;generalize C[j].nd.name=nm at x1 hnl KN HGL HPR;have s1:=size_list nm;have hc1:¬ 9223372036854775807 < a2.size+1:=by omega
     have hc2:¬ 9223372036854775807 < a2.size+1+nm.length:=by omega
     go_wp2_with fail
     refine (KN.out _).mono ?_
     rintro e w3 ⟨rfl,hw3⟩;rw [hw3]; clear hw3 w3
     cases NB with
     | false =>
      have hbx:=hb2.out.trans ((HBK.out.trans (HPj.out.bel.mono HBK.out.size)).mono hb2.out.size);go_wp2_with (go_at_call 10; refine (awake14_any _).mono ?_; rintro e w7 ⟨rfl,hw7⟩)
      go_ret;exact ⟨rfl,hbx.trans (hw7.mono hbx.size)⟩
     | true =>
      go_wp2;go_roundw
      case rel=>exact ⟨j+1,by omega,by go_num,by rw [HGL.out]; exact HPR⟩
      case measure=>simp [intOf]; omega
    ·have r1:¬ (j:Int) < (n3:Int):=by omega
     have HPM:Hid (PM w wk wr (.slice (some ⟨g3,0,none⟩) n3 vc3) M):=show PM _ _ _ _ _ by
      have h1:=HPj.out;have h2:=HN3.out;rw [List.take_of_length_le (by omega),List.drop_eq_nil_of_le (by omega),List.append_nil,← HMM.out] at h1;exact h1
     have HML:Hid (M.length=n3):=show _=_ by have h1:=HMM.out; have h2:=HN3.out; rw [h1,List.length_map]; omega
     clear HPj HNM HN3 HMM;have HBX:Hid (Below w.heap.size w wr):=hb2.out.trans ((HBK.out.trans (HPM.out.bel.mono HBK.out.size)).mono hb2.out.size);have HB2:Hid (Below w2.heap.size w2 wr):=HBK.out.trans (HPM.out.bel.mono HBK.out.size);have HNA:=hid HPM.out.own.ndsAt;by_cases hck:checkX (ndsL M)=0
     case neg =>
      have KP:=hid (xprint_bad _ M wr (by have h2:=HML.out; omega) HSM.out HNA.out hck);have r2:(checkX (ndsL M) != 0)=true:=by simpa using hck
      generalize checkX (ndsL M)=CX at KP r2;clear hck HPT HDT HT HSM;go_wp2_with fail
      refine KP.out.mono ?_
      rintro e w4 ⟨rfl,hw4⟩;have hbx:=HBX.out.trans (hw4.mono HBX.out.size);go_wp2_with (go_at_call 10; refine (awake14_any _).mono ?_; rintro e w7 ⟨rfl,hw7⟩)
      go_ret;exact ⟨rfl,hbx.trans (hw7.mono hbx.size)⟩
     obtain ⟨hp1,hp2⟩:=HPT.out hck;have KP:=hid (xprint_ok _ M T wr HSM.out HNA.out hck HT.out hp1)
     have KQ:=hid (fun (h4:(prologK++printX T).length≤4096) (hd:docT T=(d,0)) w'=>by
      have h:=HPQ.out (prologK++printX T) (flatX 0 T) T w' (by omega) (hp2 h4) rfl;rw [hd] at h;exact h)
     generalize prologK++printX T=Y at KP KQ;clear hck HPT hp1 hp2 HSM HT HPQ;have y1:=size_list Y;go_wp2_with fail
     refine KP.out.mono ?_
     rintro e w4 ⟨rfl,hw4⟩;have HB4:=hid (HBX.out.trans (hw4.mono HBX.out.size));have HC4:=hid (HB2.out.trans (hw4.mono HB2.out.size));clear KP hw4 HBX HB2 HNA HPM;by_cases h4:4096 < Y.length
     ·have r4:(4096:Int) < (Y.length:Int):=by omega
      go_wp2_with (go_at_call 10; refine (awake14_any _).mono ?_; rintro e w7 ⟨rfl,hw7⟩)
      go_ret;exact ⟨rfl,HB4.out.trans (hw7.mono HB4.out.size)⟩
     have r4:¬ (4096:Int) < (Y.length:Int):=by omega
     have r4d:decide ((4096:Int) < (Y.length:Int))=false:=decide_eq_false r4;by_cases h0:a2.size=0
     ·have r5:((a2.size:Int)==0)=true:=by rw [h0]; rfl
      clear h0;go_wp2_with (go_at_call 10; refine (awake14_any _).mono ?_; rintro e w7 ⟨rfl,hw7⟩)
      go_ret;exact ⟨rfl,HB4.out.trans (hw7.mono HB4.out.size)⟩
     have r5:((a2.size:Int)==0)=false:=by rw [beq_eq_false_iff_ne]; omega
     have KQ1:=hid (KQ.out (by omega));clear KQ;go_wp2
     go_loopw [18] (fun i wx=>∃ j:Nat,j≤a2.size∧i=.int .i64 (j:Int)∧Hid (∀ q (hq:q < a2.size),q < j → a2[q] ≠ 58)∧wx=w4) (fun i _=>a2.size - (intOf i).toNat)
     case atStart=>exact ⟨0,Nat.zero_le _,rfl,fun q _ h=>absurd h (Nat.not_lt_zero _),rfl⟩
     case round =>
      obtain ⟨j,hjn,rfl,HJ,rfl⟩:=hrel;by_cases hlt:j < a2.size
      ·have r1:(j:Int) < (a2.size:Int):=by omega
       have hbd:=u8_bd a2[j]
       have HJ2:Hid (a2[j].toNat ≠ 58 → ∀ q (hq:q < a2.size),q < j+1 → a2[q] ≠ 58):=fun hne q hq hqj=>by
        rcases Nat.lt_or_ge q j with h | h
        ·exact HJ.out q hq h
        ·have:q=j:=by omega
         subst this;intro e;rw [e] at hne;exact hne rfl
       by_cases h58:a2[j].toNat=58
       ·have r6:((a2[j].toNat:Int)==58)=true:=by rw [h58]; rfl
        clear h58;go_wp2_with (go_at_call 10; refine (awake14_any _).mono ?_; rintro e w7 ⟨rfl,hw7⟩)
        go_ret;exact ⟨rfl,HB4.out.trans (hw7.mono HB4.out.size)⟩
       ·have r6:((a2[j].toNat:Int)==58)=false:=by rw [beq_eq_false_iff_ne]; omega
        have HJ3:=hid (HJ2.out h58);clear HJ2 h58;go_wp2;go_roundw
        case rel=>exact ⟨j+1,by omega,by go_num,HJ3,by first | trivial | rfl⟩
        case measure=>simp [intOf]; omega
      ·have r1:¬ (j:Int) < (a2.size:Int):=by omega
       have KQ2:=hid (KQ1.out (HDT.out (sep_not fun q hq=>HJ.out q hq (by omega))));have HE4:=hid (HD2.out.below HC4.out);have hr4:=hid (hr2.out.below HC4.out hl2.out);have hl4:=hid (Nat.lt_of_lt_of_le hl2.out HC4.out.size);clear HJ KQ1 HDT HD2 hr2 hl2 HC4;go_wp2_with fail
       refine (KQ2.out _).mono ?_
       intro e w5 hP5;obtain ⟨ta5,tk5,na5,nk5,rfl,hD5,hw5⟩:=KF.out _ _ _ hP5;have HE5:=hid (HE4.out.below hw5);have hr5:=hid (hr4.out.below hw5 hl4.out);have hl5:=hid (Nat.lt_of_lt_of_le hl4.out hw5.size);have hb5:=hid (HB4.out.trans (hw5.mono HB4.out.size));have HD6:=hid (hD5.alloc (.cells #[.string ⟨en.toArray⟩,.slice ta5 tn tk5,.slice na5 nn nk5] 25));have HE6:=hid (HE5.out.alloc (.cells #[.string ⟨en.toArray⟩,.slice ta5 tn tk5,.slice na5 nn nk5] 25));have hr6:=hid (hr5.out.below ((Below.refl _ w5).alloc (Nat.le_refl _) (.cells #[.string ⟨en.toArray⟩,.slice ta5 tn tk5,.slice na5 nn nk5] 25)) hl5.out);have hs6:=hid (rc_row3 w5 (.string ⟨en.toArray⟩) (.slice ta5 tn tk5) (.slice na5 nn nk5) 25);have hb6:=hid (hb5.out.alloc hb5.out.size (.cells #[.string ⟨en.toArray⟩,.slice ta5 tn tk5,.slice na5 nn nk5] 25));clear hP5 hD5 hw5 KQ2 HE4 hr4 hl4 HB4 HE5 hr5 hb5 KF
       go_upto_region 26 with fail
       generalize World.alloc w5 _=W6 at HD6 HE6 hr6 hs6 hb6 ⊢;obtain ⟨y0,y1,y2,_,_,_⟩:=hr6.out.rc3;obtain ⟨z0,z1',z2,_,_,_⟩:=hs6.out.rc3;go_wp2_with fail
       refine (KS.out _ _ _ _ _ HE6.out HD6.out).mono ?_
       rintro e w8 ⟨rfl,hw8⟩;have hb8:=hb6.out.trans (hw8.mono hb6.out.size);clear y0 y1 y2 z0 z1' z2;go_wp2_with (go_at_call 10; refine (awake14_any _).mono ?_; rintro e w7 ⟨rfl,hw7⟩)
       go_ret;exact ⟨rfl,hb8.trans (hw7.mono hb8.size)⟩
end Go.Proofs.YtdnekampnkhmfaaGreatDoor.pidfOther
