/-
  XPlain, XAttr, XElL.
-/
import Derived.Test.YtdbalahkmeknaaaGreatDoorPW11
set_option linter.unusedVariables false
set_option linter.unusedSimpArgs false
set_option maxRecDepth 20000
namespace Go.Proofs.YtdbalahkmeknaaaGreatDoor
open Go.RowKit Sc
set_option maxHeartbeats 4000000 in
set_option maxRecDepth 100000 in
theorem plain_any (s:List UInt8) (w:World) (hs:s.length≤1048576):Calls Tryz.prog 139 #[.string ⟨s.toArray⟩] w (ReadsTo (readX s) w):=by
 obtain ⟨i0,hi,hz0,hz1,hz2⟩:=info_parts info5;obtain ⟨⟨a0,r0,f0⟩,hc0⟩:∃ x,cutL 38 s=x:=⟨_,rfl⟩
 have hl0:=cutL_len 38 s;rw [hc0] at hl0;simp only at hl0;have HR:Hid (readX s=(readW f0 r0).map (a0++·)):=show _=_ from read_cut hc0
 have K0:=hid (fun w'=>xcut_of hc0 w' (by omega));have hsum:a0.length+r0.length≤1048576:=by have:=cutL_sum 38 s; rw [hc0] at this; simp only at this; omega
 generalize readX s=R at HR ⊢;clear hc0
 go_enter Tryz.func139,Tryz.ntmps139
 go_wp2_with fail
 refine (K0.out _).mono ?_
 rintro e w1 ⟨rfl,hw1⟩;obtain ⟨v2,w2,hcv,hown2,hb2⟩:=ownB_of w1 a0 (by omega);have hcv2:=hcv (P:=Tryz.prog) Tryz.underlying9 Tryz.underlying73 Tryz.underlying5;have hb12:=hw1.trans (hb2.mono hw1.size);have hown2':=hown2.mono (C:=w.heap.size) hw1.size;have hB2:w.heap.size≤w2.heap.size:=hb12.size;clear hcv K0 hown2 hb2 hw1;go_wp2;clear hcv2
 go_loopw [3,4,5,6] (fun av rv mv ov wr=>∃ (a r acc:List UInt8) (f:Bool),av=.string ⟨a.toArray⟩∧rv=.string ⟨r.toArray⟩∧mv=.bool f∧acc.length+r.length≤1048576∧Hid (R=(readW f r).map (acc++·))∧OwnB wr w.heap.size ov acc∧Below w.heap.size w wr∧w.heap.size≤wr.heap.size) (fun _ rv _ _ _=>xlenOf rv)
 case atStart=>exact ⟨a0,r0,a0,f0,rfl,rfl,rfl,hsum,HR,hown2',hb12,hB2⟩
 case round =>
  obtain ⟨a,r,acc,f,rfl,rfl,rfl,hsz,hR,hown,hb,hB⟩:=hrel;clear HR hown2' hb12 hB2
  cases f with
  | false =>
   have hE:Hid (R=some acc):=show _=_ by rw [hR.out]; simp [readW]
   have hcb:=convB (P:=Tryz.prog) (src:=73) (dst:=9) acc Tryz.underlying73 Tryz.underlying5 Tryz.underlying9 hown;clear hR;go_wp2;go_ret;rw [hE.out];exact ⟨rfl,hb⟩
  | true =>
   obtain ⟨⟨n,b,f2⟩,hc1⟩:∃ x,cutL 59 r=x:=⟨_,rfl⟩
   have hl1:=cutL_len 59 r;rw [hc1] at hl1;simp only at hl1
   have hR2:Hid (R=((if f2 then (sgnV n) else none).bind (fun c=>(readX b).map (c :: ·))).map (acc++·)):=show _=_ by
    rw [hR.out,readW,if_pos rfl,read_amp hc1]
   have K1:=hid (fun w'=>xcut_of hc1 w' (by omega));have K2:=hid (fun w'=>signOf_any n w');clear hR
   cases f2 with
   | false =>
    have hE:Hid (R=none):=show _=_ by rw [hR2.out]; rfl
    clear hR2 hc1;generalize sgnV n=o at K2;go_wp2_with fail
    refine (K1.out _).mono ?_
    rintro e w3 ⟨rfl,hw3⟩;go_wp2_with fail
    refine (K2.out _).mono ?_
    rintro e w3 ⟨rfl,rfl⟩
    cases o with
    | none =>
     simp only [sgnR];go_wp2_with fail
     refine (giveUp_any _).mono ?_
     rintro e w3 ⟨rfl,rfl⟩;exact ⟨rfl,by rw [hE.out]; exact ⟨rfl,hb.trans (hw3.mono hb.size)⟩⟩
    | some c =>
     simp only [sgnR];go_wp2_with fail
     refine (giveUp_any _).mono ?_
     rintro e w3 ⟨rfl,rfl⟩;exact ⟨rfl,by rw [hE.out]; exact ⟨rfl,hb.trans (hw3.mono hb.size)⟩⟩
   | true =>
    have hj:=cutL_join 59 r (by rw [hc1]);rw [hc1] at hj;simp only at hj;have hjl:=congrArg List.length hj;simp only [List.length_append,List.length_cons] at hjl;have HJ:=hid hjl;clear hj hc1 hjl
    cases hsg:sgnV n with
    | none =>
     rw [hsg] at hR2 K2;have hE:Hid (R=none):=show _=_ by rw [hR2.out]; rfl
     clear hR2 hsg;simp only [sgnR] at K2;go_wp2_with fail
     refine (K1.out _).mono ?_
     rintro e w3 ⟨rfl,hw3⟩;go_wp2_with fail
     refine (K2.out _).mono ?_
     rintro e w3 ⟨rfl,rfl⟩;go_wp2_with fail
     refine (giveUp_any _).mono ?_
     rintro e w3 ⟨rfl,rfl⟩;exact ⟨rfl,by rw [hE.out]; exact ⟨rfl,hb.trans (hw3.mono hb.size)⟩⟩
    | some c =>
     rw [hsg] at hR2 K2;simp only [sgnR] at K2;obtain ⟨⟨a2,r2,f3⟩,hc2⟩:∃ x,cutL 38 b=x:=⟨_,rfl⟩
     have hl2:=cutL_sum 38 b;rw [hc2] at hl2;simp only at hl2
     have hR3:Hid (R=(readW f3 r2).map ((acc++[c]++a2)++·)):=show _=_ by
      rw [hR2.out,if_pos rfl,Option.bind_some,read_cut hc2]
      show ((((readW f3 r2).map (a2++·))).map (c :: ·)).map (acc++·)=_
      cases readW f3 r2 with
      | none=>rfl
      | some z=>simp
     have K3:=hid (fun w'=>xcut_of hc2 w' (by omega));clear hR2 hsg hc2;have HJ2:=HJ.out;have hl3:Hid (r2.length < r.length):=show _ < _ by omega
     have hl4:Hid ((acc++[c]++a2).length+r2.length≤1048576):=show _≤_ by simp; omega
     have hl5:acc.length+1≤140737488355328:=by omega
     have hl6:(acc++[c]).length+a2.length≤140737488355328:=by simp; omega
     have HL6:=hid hl6;clear HJ2 HJ hl6 hl1 hl2;go_wp2_with fail
     refine (K1.out _).mono ?_
     rintro e w3 ⟨rfl,hw3⟩;go_wp2_with fail
     refine (K2.out _).mono ?_
     rintro e w3 ⟨rfl,rfl⟩;go_wp2_with fail
     refine (K3.out _).mono ?_
     rintro e w4 ⟨rfl,hw4⟩;have hb4:=(hb.trans (hw3.mono hb.size)).trans (hw4.mono (Nat.le_trans hb.size hw3.size));have hown4:=(hown.below hw3).below hw4;have hB4:w.heap.size≤w4.heap.size:=hb4.size;clear hown hw3 hw4 hb K1 K2 K3
     go_wp2_with (first
      | (at_builtin; refine wp_appB1 _ rfl (.tmp 45) (.tmp 47) 73 rfl w.heap.size i0 Tryz.underlying73 hi hz0 hz1 hz2 _ acc c rfl (hown4.alloc _) ⟨_,0,none⟩ 1 rfl (by exact one_new _ _ _) hl5 w (hb4.alloc hB4 _) (by simp; omega) ?_; intro v5 w5 hown5 hb5 hB5)
      | (at_builtin; refine wp_appBS _ rfl (.tmp 49) (.tmp 50) 73 9 rfl w.heap.size i0 Tryz.underlying73 Tryz.underlying9 hi hz0 hz1 hz2 _ (acc++[c]) a2 rfl hown5 rfl HL6.out w hb5 hB5 ?_; intro v6 w6 hown6 hb6 hB6))
     go_roundw
     case rel=>exact ⟨a2,r2,acc++[c]++a2,f3,rfl,rfl,rfl,hl4.out,hR3,hown6,hb6,hB6⟩
     case measure=>show (⟨r2.toArray⟩:ByteArray).size < (⟨r.toArray⟩:ByteArray).size; rw [size_list,size_list]; exact hl3.out
theorem up_head {p:UInt8 → Bool} {l x y:List UInt8} (h:upP p l=some (x,y)):∃ c r,y=c :: r∧p c=true∧x.length+y.length=l.length:=by
 unfold upP at h
 cases ha:l.all (fun b=>!p b) with
 | true=>rw [ha] at h; cases h
 | false =>
  rw [ha] at h;simp only [Bool.false_eq_true,if_false,Option.some.injEq,Prod.mk.injEq] at h;obtain ⟨rfl,rfl⟩:=h;have e:=List.takeWhile_append_dropWhile (p:=fun b=>!p b) (l:=l);have el:=congrArg List.length e;rw [List.length_append] at el
  cases hd:l.dropWhile (fun b=>!p b) with
  | nil =>
   rw [hd,List.append_nil] at e;rw [← e,List.all_takeWhile] at ha
   cases ha
  | cons c r =>
   have:=List.head?_dropWhile_not (fun b=>!p b) l
   rw [hd] at this el;exact ⟨c,r,rfl,by simpa using this,el⟩
theorem up_eq {q:UInt8} {l x y:List UInt8} (h:upP (·==q) l=some (x,y)):∃ r,y=q :: r∧x.length+1+r.length=l.length:=by
 obtain ⟨c,r,rfl,hc,hl⟩:=up_head h
 have:c=q:=by simpa using hc
 subst this;exact ⟨r,rfl,by simp at hl; omega⟩
theorem pre_one (q:UInt8) (r:List UInt8):preX [q] (q :: r)=true:=by simp [preX]
def strV (l:List UInt8):Value:=.string ⟨l.toArray⟩
def xparV (p:Par):Value:=.agg #[.string ⟨p.name.toArray⟩,.string ⟨p.value.toArray⟩,.bool p.has]
def RdPost {α:Type} (o:Option (α × List UInt8)) (ret:α → Value) (b:Nat) (v:Value) (w:World) (e:Ending) (w':World):Prop:=match o with
 | none=>e=gaveUp∧FrR b w w'
 | some (x,r)=>e=.returned (ret x)∧XrAt w' b r v∧FrR b w w'
def valueQ (q:UInt8) (s:List UInt8):Option (List UInt8 × List UInt8) :=
 if preX [q] s=false then none else match upP (·==q) (s.drop 1) with
 | none=>none
 | some (v,r)=>if v.contains 60=true then none else some (v,r.drop 1)
def valueC (s:List UInt8):Option (List UInt8 × List UInt8):=if preX [39] s=true then valueQ 39 s else valueQ 34 s
def attrC (s:List UInt8):Option (Par × List UInt8):=match upP (·==61) s with
 | none=>none
 | some (n,r)=>match valueC ((r.drop 1).dropWhile xblk) with
  | none=>none
  | some (v,r2)=>(readX v).map fun x=>(⟨xbehind n,x,true⟩,r2)
def attrsC:Nat → List Par → List UInt8 → Option (List Par × List UInt8)
 | 0,_,_=>none
 | n+1,acc,s=>if (decide ((s.dropWhile xblk).length < s.length) && (!preX [62] (s.dropWhile xblk) && !preX [47,62] (s.dropWhile xblk)))=true then
   (match attrC (s.dropWhile xblk) with
   | none=>none
   | some (p,r)=>attrsC n (acc++[p]) r)
  else some (acc,s.dropWhile xblk)
theorem valueQ_len {q:UInt8} {s v r:List UInt8} (h:valueQ q s=some (v,r)):v.length+r.length < s.length:=by
 unfold valueQ at h
 split at h
 ·cases h
 ·split at h
  ·cases h
  ·next x y hu =>
   split at h
   ·cases h
   ·simp only [Option.some.injEq,Prod.mk.injEq] at h;obtain ⟨rfl,rfl⟩:=h;obtain ⟨r',rfl,hl⟩:=up_eq hu
    simp at hl ⊢
    omega
theorem valueC_len {s v r:List UInt8} (h:valueC s=some (v,r)):v.length+r.length < s.length:=by
 unfold valueC at h
 split at h
 ·exact valueQ_len h
 ·exact valueQ_len h
theorem dw_len (p:UInt8 → Bool) (l:List UInt8):(l.dropWhile p).length≤l.length:=(List.dropWhile_suffix p).length_le
theorem attrC_len {s r:List UInt8} {p:Par} (h:attrC s=some (p,r)):r.length < s.length:=by
 unfold attrC at h
 split at h
 ·cases h
 ·next n y hu =>
  obtain ⟨r',rfl,hl⟩:=up_eq hu
  split at h
  ·cases h
  ·next v r2 hv =>
   have h1:=valueC_len hv;have h2:=dw_len xblk r';simp only [List.drop_succ_cons,List.drop_zero] at h1
   cases hr:readX v with
   | none=>rw [hr] at h; cases h
   | some x =>
    rw [hr] at h;simp only [Option.map_some,Option.some.injEq,Prod.mk.injEq] at h;rw [← h.2];omega
theorem FrR.then {b B:Nat} {w w1 w2:World} (h:FrR b w w1) (k:Below B w1 w2) (hB:w.heap.size≤B):FrR b w w2 :=
 ⟨k.os.trans h.os,k.tape.trans h.tape,k.output.trans h.output,Nat.le_trans h.size k.size,fun c hc hn=>by rw [k.block c (Nat.lt_of_lt_of_le hc hB),h.block c hc hn]⟩
theorem idx_has (l:List UInt8) (c:UInt8):decide (0≤Lib.indexByte l c)=l.contains c:=by
 rcases idx_cases l c with ⟨h1,h2⟩ | ⟨a,b,h1,h2,h3⟩
 ·rw [h2]; simp [h1]
 ·rw [h3,h1]; simp
theorem xcontains_any (l:List UInt8) (c:UInt8) (w:World):Calls Tryz.prog 179 #[.string ⟨l.toArray⟩,.string ⟨#[c]⟩] w fun e w'=>e=.returned (.bool (l.contains c))∧w'=w:=by
 have K:=hid (fun w'=>strIndex_any ⟨l.toArray⟩ c w');have hv:Hid (decide (0≤Lib.indexByte (⟨l.toArray⟩:ByteArray).data.toList c)=l.contains c):=show _=_ from idx_has l c
 generalize Lib.indexByte (⟨l.toArray⟩:ByteArray).data.toList c=n at K hv;generalize l.contains c=r at hv ⊢
 go_enter Tryz.func179,Tryz.ntmps179
 go_wp2_with fail
 refine (K.out _).mono ?_
 rintro e w ⟨rfl,rfl⟩;go_wp2;go_ret;exact ⟨ret_bool hv.out,rfl⟩
theorem xclone_list (l:List UInt8) (w:World) (h:l.length≤140737488355328) :
  Calls Tryz.prog 37 #[.string ⟨l.toArray⟩] w fun e w'=>e=.returned (.string ⟨l.toArray⟩)∧Below w.heap.size w w':=sclone_any ⟨l.toArray⟩ w (by rw [size_list]; omega)
section
variable (b : Nat) (l : List UInt8) (v : Value) (w : World)
set_option maxHeartbeats 2000000 in
theorem value_apo (h:XrAt w b l v) (hl:l.length≤1048576) (hs:preX [39] l=true) :
  Calls Tryz.prog 166 #[.pointer (some ⟨b,0,none⟩)] w fun e w'=>RdPost (valueQ 39 l) strV b v w e w':=by
 have KS:=hid (sees_any b l [39] v w h (by omega) (by decide));rw [hs] at KS;have hV:valueQ 39 l=if preX [39] l=false then none else match upP (·==39) (l.drop 1) with | none=>none | some (v,r)=>if v.contains 60=true then none else some (v,r.drop 1):=rfl
 cases hp:preX [39] l with
 | false =>
  have HR:Hid (valueQ 39 l=none):=show _=_ by rw [hV,if_pos hp]
  have KM:=hid (must_bad b l [39] v w h (by omega) (by decide) hp);clear hV hs hp h
  go_enter Tryz.func166,Tryz.ntmps166
  go_wp2_with fail
  refine (KS.out).mono ?_
  rintro e w ⟨rfl,rfl⟩;go_wp2_with fail
  refine (KM.out).mono ?_
  rintro e w1 ⟨rfl,hf⟩;refine ⟨rfl,?_⟩
  rw [HR.out];exact ⟨rfl,hf⟩
 | true =>
  rw [if_neg (by rw [hp]; simp)] at hV;have KM:=hid (must_ok b l [39] v w h (by omega) (by decide) hp);rw [show l.drop [(39:UInt8)].length=l.drop 1 from rfl] at KM;have hl1:(l.drop 1).length≤1048576:=by rw [List.length_drop]; omega
  generalize l.drop 1=l1 at hV KM hl1
  cases hu:upP (·==39) l1 with
  | none =>
   have HR:Hid (valueQ 39 l=none):=show _=_ by rw [hV,hu]
   clear hV hs hp h
   go_enter Tryz.func166,Tryz.ntmps166
   go_wp2_with fail
   refine (KS.out).mono ?_
   rintro e w ⟨rfl,rfl⟩;go_wp2_with fail
   refine (KM.out).mono ?_
   rintro e w1 ⟨rfl,h1,hf⟩;go_wp2_with fail
   refine (upTo_bad (·==39) ⟨#[39]⟩ b l1 v w1 h1 (by omega) (fun w'=>xany_apo l1 w') hu).mono ?_
   rintro e w2 ⟨rfl,hf2⟩;refine ⟨rfl,?_⟩
   rw [HR.out];exact ⟨rfl,hf.trans hf2⟩
  | some xy =>
   obtain ⟨x,y⟩:=xy;rw [hu] at hV;simp only at hV;obtain ⟨r,rfl,hlr⟩:=up_eq hu;rw [show List.drop 1 (39 :: r)=r from rfl] at hV;have KC:=hid (fun w'=>xcontains_any x 60 w');have HU:=hid hu;clear hu
   cases hc:x.contains 60 with
   | true =>
    have HR:Hid (valueQ 39 l=none):=show _=_ by rw [hV,if_pos hc]
    rw [hc] at KC;clear hV hs hp h hc
    go_enter Tryz.func166,Tryz.ntmps166
    go_wp2_with fail
    refine (KS.out).mono ?_
    rintro e w ⟨rfl,rfl⟩;go_wp2_with fail
    refine (KM.out).mono ?_
    rintro e w1 ⟨rfl,h1,hf⟩;go_wp2_with fail
    refine (upTo_ok (·==39) ⟨#[39]⟩ b l1 v w1 h1 (by omega) (fun w'=>xany_apo l1 w') x (39 :: r) HU.out).mono ?_
    rintro e w2 ⟨rfl,h2,hf2⟩;go_wp2_with fail
    refine (must_ok b (39 :: r) [39] v w2 h2 (by simp; omega) (by decide) (pre_one 39 r)).mono ?_
    rintro e w3 ⟨rfl,h3,hf3⟩;go_wp2_with fail
    refine (KC.out _).mono ?_
    rintro e w3 ⟨rfl,rfl⟩;go_wp2_with fail
    refine (giveUp_any _).mono ?_
    rintro e w3 ⟨rfl,rfl⟩;refine ⟨rfl,?_⟩
    rw [HR.out];exact ⟨rfl,(hf.trans hf2).trans hf3⟩
   | false =>
    have HR:Hid (valueQ 39 l=some (x,r)):=show _=_ by rw [hV,if_neg (by rw [hc]; simp)]
    rw [hc] at KC;clear hV hs hp h hc
    go_enter Tryz.func166,Tryz.ntmps166
    go_wp2_with fail
    refine (KS.out).mono ?_
    rintro e w ⟨rfl,rfl⟩;go_wp2_with fail
    refine (KM.out).mono ?_
    rintro e w1 ⟨rfl,h1,hf⟩;go_wp2_with fail
    refine (upTo_ok (·==39) ⟨#[39]⟩ b l1 v w1 h1 (by omega) (fun w'=>xany_apo l1 w') x (39 :: r) HU.out).mono ?_
    rintro e w2 ⟨rfl,h2,hf2⟩;go_wp2_with fail
    refine (must_ok b (39 :: r) [39] v w2 h2 (by simp; omega) (by decide) (pre_one 39 r)).mono ?_
    rintro e w3 ⟨rfl,h3,hf3⟩;go_wp2_with fail
    refine (KC.out _).mono ?_
    rintro e w3 ⟨rfl,rfl⟩;go_wp2;go_ret;rw [HR.out];exact ⟨rfl,h3,(hf.trans hf2).trans hf3⟩
set_option maxHeartbeats 2000000 in
theorem value_quo (h:XrAt w b l v) (hl:l.length≤1048576) (hs:preX [39] l=false) :
  Calls Tryz.prog 166 #[.pointer (some ⟨b,0,none⟩)] w fun e w'=>RdPost (valueQ 34 l) strV b v w e w':=by
 have KS:=hid (sees_any b l [39] v w h (by omega) (by decide));rw [hs] at KS;have hV:valueQ 34 l=if preX [34] l=false then none else match upP (·==34) (l.drop 1) with | none=>none | some (v,r)=>if v.contains 60=true then none else some (v,r.drop 1):=rfl
 cases hp:preX [34] l with
 | false =>
  have HR:Hid (valueQ 34 l=none):=show _=_ by rw [hV,if_pos hp]
  have KM:=hid (must_bad b l [34] v w h (by omega) (by decide) hp);clear hV hs hp h
  go_enter Tryz.func166,Tryz.ntmps166
  go_wp2_with fail
  refine (KS.out).mono ?_
  rintro e w ⟨rfl,rfl⟩;go_wp2_with fail
  refine (KM.out).mono ?_
  rintro e w1 ⟨rfl,hf⟩;refine ⟨rfl,?_⟩
  rw [HR.out];exact ⟨rfl,hf⟩
 | true =>
  rw [if_neg (by rw [hp]; simp)] at hV;have KM:=hid (must_ok b l [34] v w h (by omega) (by decide) hp);rw [show l.drop [(34:UInt8)].length=l.drop 1 from rfl] at KM;have hl1:(l.drop 1).length≤1048576:=by rw [List.length_drop]; omega
  generalize l.drop 1=l1 at hV KM hl1
  cases hu:upP (·==34) l1 with
  | none =>
   have HR:Hid (valueQ 34 l=none):=show _=_ by rw [hV,hu]
   clear hV hs hp h
   go_enter Tryz.func166,Tryz.ntmps166
   go_wp2_with fail
   refine (KS.out).mono ?_
   rintro e w ⟨rfl,rfl⟩;go_wp2_with fail
   refine (KM.out).mono ?_
   rintro e w1 ⟨rfl,h1,hf⟩;go_wp2_with fail
   refine (upTo_bad (·==34) ⟨#[34]⟩ b l1 v w1 h1 (by omega) (fun w'=>xany_quo l1 w') hu).mono ?_
   rintro e w2 ⟨rfl,hf2⟩;refine ⟨rfl,?_⟩
   rw [HR.out];exact ⟨rfl,hf.trans hf2⟩
  | some xy =>
   obtain ⟨x,y⟩:=xy;rw [hu] at hV;simp only at hV;obtain ⟨r,rfl,hlr⟩:=up_eq hu;rw [show List.drop 1 (34 :: r)=r from rfl] at hV;have KC:=hid (fun w'=>xcontains_any x 60 w');have HU:=hid hu;clear hu
   cases hc:x.contains 60 with
   | true =>
    have HR:Hid (valueQ 34 l=none):=show _=_ by rw [hV,if_pos hc]
    rw [hc] at KC;clear hV hs hp h hc
    go_enter Tryz.func166,Tryz.ntmps166
    go_wp2_with fail
    refine (KS.out).mono ?_
    rintro e w ⟨rfl,rfl⟩;go_wp2_with fail
    refine (KM.out).mono ?_
    rintro e w1 ⟨rfl,h1,hf⟩;go_wp2_with fail
    refine (upTo_ok (·==34) ⟨#[34]⟩ b l1 v w1 h1 (by omega) (fun w'=>xany_quo l1 w') x (34 :: r) HU.out).mono ?_
    rintro e w2 ⟨rfl,h2,hf2⟩;go_wp2_with fail
    refine (must_ok b (34 :: r) [34] v w2 h2 (by simp; omega) (by decide) (pre_one 34 r)).mono ?_
    rintro e w3 ⟨rfl,h3,hf3⟩;go_wp2_with fail
    refine (KC.out _).mono ?_
    rintro e w3 ⟨rfl,rfl⟩;go_wp2_with fail
    refine (giveUp_any _).mono ?_
    rintro e w3 ⟨rfl,rfl⟩;refine ⟨rfl,?_⟩
    rw [HR.out];exact ⟨rfl,(hf.trans hf2).trans hf3⟩
   | false =>
    have HR:Hid (valueQ 34 l=some (x,r)):=show _=_ by rw [hV,if_neg (by rw [hc]; simp)]
    rw [hc] at KC;clear hV hs hp h hc
    go_enter Tryz.func166,Tryz.ntmps166
    go_wp2_with fail
    refine (KS.out).mono ?_
    rintro e w ⟨rfl,rfl⟩;go_wp2_with fail
    refine (KM.out).mono ?_
    rintro e w1 ⟨rfl,h1,hf⟩;go_wp2_with fail
    refine (upTo_ok (·==34) ⟨#[34]⟩ b l1 v w1 h1 (by omega) (fun w'=>xany_quo l1 w') x (34 :: r) HU.out).mono ?_
    rintro e w2 ⟨rfl,h2,hf2⟩;go_wp2_with fail
    refine (must_ok b (34 :: r) [34] v w2 h2 (by simp; omega) (by decide) (pre_one 34 r)).mono ?_
    rintro e w3 ⟨rfl,h3,hf3⟩;go_wp2_with fail
    refine (KC.out _).mono ?_
    rintro e w3 ⟨rfl,rfl⟩;go_wp2;go_ret;rw [HR.out];exact ⟨rfl,h3,(hf.trans hf2).trans hf3⟩
end
theorem xvalue_any (b:Nat) (l:List UInt8) (v:Value) (w:World) (h:XrAt w b l v) (hl:l.length≤1048576) :
  Calls Tryz.prog 166 #[.pointer (some ⟨b,0,none⟩)] w fun e w'=>RdPost (valueC l) strV b v w e w':=by
 unfold valueC
 cases hp:preX [39] l with
 | true=>rw [if_pos rfl]; exact value_apo b l v w h hl hp
 | false=>rw [if_neg (by simp)]; exact value_quo b l v w h hl hp
set_option maxHeartbeats 4000000 in
set_option maxRecDepth 100000 in
theorem attr_any (b:Nat) (l:List UInt8) (v:Value) (w:World) (h:XrAt w b l v) (hl:l.length≤1048576) :
  Calls Tryz.prog 138 #[.pointer (some ⟨b,0,none⟩)] w fun e w'=>RdPost (attrC l) xparV b v w e w':=by
 have hr0:=rc_row3 w (.string ⟨#[]⟩) (.string ⟨#[]⟩) (.bool false) 70;have hb0:Below w.heap.size w (w.alloc (.cells #[.string ⟨#[]⟩,.string ⟨#[]⟩,.bool false] 70)):=(Below.refl _ w).alloc (Nat.le_refl _) _;have h0:=h.below hb0;have hbw:=h.lt;have hne:w.heap.size ≠ b:=by omega
 have hV:attrC l=(match upP (·==61) l with | none=>none | some (n,r)=>match valueC ((r.drop 1).dropWhile xblk) with | none=>none | some (v,r2)=>(readX v).map fun x=>(⟨xbehind n,x,true⟩,r2)):=rfl;clear h
 cases hu:upP (·==61) l with
 | none =>
  rw [hu] at hV;simp only at hV;have HR:Hid (attrC l=none):=hV;have HU:=hid hu;clear hV hu
  go_enter Tryz.func138,Tryz.ntmps138
  go_wp2_with fail
  generalize World.alloc _ _=W0 at hr0 hb0 h0 ⊢;refine (upTo_bad (·==61) ⟨#[61]⟩ b l v W0 h0 (by omega) (fun w'=>xany_eq l w') HU.out).mono ?_
  rintro e w2 ⟨rfl,hf2⟩;refine ⟨rfl,?_⟩
  rw [HR.out];exact ⟨rfl,(FrR.below hb0).trans hf2⟩
 | some xy =>
  obtain ⟨x,y⟩:=xy;rw [hu] at hV;simp only at hV;obtain ⟨r,rfl,hlr⟩:=up_eq hu;rw [show List.drop 1 (61 :: r)=r from rfl] at hV;have hxl:=xbehind_len x;have KT:=hid (fun w'=>xtrimRight_list x w' (by omega));have HU:=hid hu;have hdl:=dw_len xblk r;clear hu;have HS:Hid (∀ w',XrAt w' b r v → Calls Tryz.prog 70 #[.pointer (some ⟨b,0,none⟩)] w' fun e w''=>e=.returned (.bool (decide ((r.dropWhile xblk).length < r.length)))∧XrAt w'' b (r.dropWhile xblk) v∧FrR b w' w''):=fun w' h'=>skip_any b r v w' h' (by omega);generalize decide ((r.dropWhile xblk).length < r.length)=bb at HS;generalize r.dropWhile xblk=r1 at hV HS hdl;have KV:=hid (fun w' (h':XrAt w' b r1 v)=>xvalue_any b r1 v w' h' (by omega))
  cases hv:valueC r1 with
  | none =>
   rw [hv] at hV KV;simp only at hV;simp only [RdPost] at KV;have HR:Hid (attrC l=none):=hV;clear hV hv
   go_enter Tryz.func138,Tryz.ntmps138
   go_wp2_with fail
   generalize World.alloc _ _=W0 at hr0 hb0 h0 ⊢;refine (upTo_ok (·==61) ⟨#[61]⟩ b l v W0 h0 (by omega) (fun w'=>xany_eq l w') x (61 :: r) HU.out).mono ?_
   rintro e w2 ⟨rfl,h2,hf2⟩;go_wp2_with fail
   refine (KT.out _).mono ?_
   rintro e w3 ⟨rfl,hw3⟩;have h3:=h2.below hw3;go_wp2_with fail
   refine (must_ok b (61 :: r) [61] v w3 h3 (by simp; omega) (by decide) (pre_one 61 r)).mono ?_
   rintro e w4 ⟨rfl,h4,hf4⟩;go_wp2_with fail
   refine (HS.out w4 h4).mono ?_
   rintro e w5 ⟨rfl,h5,hf5⟩;go_wp2_with fail
   refine (KV.out w5 h5).mono ?_
   rintro e w6 ⟨rfl,hf6⟩;refine ⟨rfl,?_⟩
   rw [HR.out];exact ⟨rfl,(((((FrR.below hb0).trans hf2).trans (FrR.below hw3)).trans hf4).trans hf5).trans hf6⟩
  | some vr =>
   obtain ⟨vv,r2⟩:=vr;rw [hv] at hV KV;simp only at hV;simp only [RdPost] at KV;have hvl:=valueC_len hv;have KC:=hid (fun w'=>xclone_list (xbehind x) w' (by omega));have KP:=hid (fun w'=>plain_any vv w' (by omega));clear hv
   cases hr:readX vv with
   | none =>
    rw [hr] at hV KP;have HR:Hid (attrC l=none):=hV;clear hV hr
    go_enter Tryz.func138,Tryz.ntmps138
    go_wp2_with fail
    generalize World.alloc _ _=W0 at hr0 hb0 h0 ⊢;refine (upTo_ok (·==61) ⟨#[61]⟩ b l v W0 h0 (by omega) (fun w'=>xany_eq l w') x (61 :: r) HU.out).mono ?_
    rintro e w2 ⟨rfl,h2,hf2⟩;go_wp2_with fail
    refine (KT.out _).mono ?_
    rintro e w3 ⟨rfl,hw3⟩;have h3:=h2.below hw3;go_wp2_with fail
    refine (must_ok b (61 :: r) [61] v w3 h3 (by simp; omega) (by decide) (pre_one 61 r)).mono ?_
    rintro e w4 ⟨rfl,h4,hf4⟩;go_wp2_with fail
    refine (HS.out w4 h4).mono ?_
    rintro e w5 ⟨rfl,h5,hf5⟩;go_wp2_with fail
    refine (KV.out w5 h5).mono ?_
    rintro e w6 ⟨rfl,h6,hf6⟩;go_wp2_with fail
    refine (KC.out _).mono ?_
    rintro e w7 ⟨rfl,hw7⟩;go_wp2_with fail
    refine (KP.out _).mono ?_
    rintro e w8 ⟨rfl,hw8⟩;refine ⟨rfl,?_⟩
    rw [HR.out];exact ⟨rfl,(((((((FrR.below hb0).trans hf2).trans (FrR.below hw3)).trans hf4).trans hf5).trans hf6).trans (FrR.below hw7)).trans (FrR.below hw8)⟩
   | some pl =>
    rw [hr] at hV KP;simp only [Option.map_some] at hV;have HR:Hid (attrC l=some (⟨xbehind x,pl,true⟩,r2)):=hV;clear hV hr
    go_enter Tryz.func138,Tryz.ntmps138
    go_wp2_with fail
    generalize World.alloc _ _=W0 at hr0 hb0 h0 ⊢;refine (upTo_ok (·==61) ⟨#[61]⟩ b l v W0 h0 (by omega) (fun w'=>xany_eq l w') x (61 :: r) HU.out).mono ?_
    rintro e w2 ⟨rfl,h2,hf2⟩;go_wp2_with fail
    refine (KT.out _).mono ?_
    rintro e w3 ⟨rfl,hw3⟩;have h3:=h2.below hw3;go_wp2_with fail
    refine (must_ok b (61 :: r) [61] v w3 h3 (by simp; omega) (by decide) (pre_one 61 r)).mono ?_
    rintro e w4 ⟨rfl,h4,hf4⟩;go_wp2_with fail
    refine (HS.out w4 h4).mono ?_
    rintro e w5 ⟨rfl,h5,hf5⟩;go_wp2_with fail
    refine (KV.out w5 h5).mono ?_
    rintro e w6 ⟨rfl,h6,hf6⟩;go_wp2_with fail
    refine (KC.out _).mono ?_
    rintro e w7 ⟨rfl,hw7⟩;go_wp2_with fail
    refine (KP.out _).mono ?_
    rintro e w8 ⟨rfl,hw8⟩;have hfA:FrR b W0 w8:=(((((hf2.trans (FrR.below hw3)).trans hf4).trans hf5).trans hf6).trans (FrR.below hw7)).trans (FrR.below hw8);have hr8:=hfA.row hr0 hne;have h8:=(h6.below hw7).below hw8;obtain ⟨c0,c1,c2,f0,f1,f2⟩:=hr8.rc3;have hr9:=rc_store3 hr8 (.string ⟨(xbehind x).toArray⟩) (.string ⟨pl.toArray⟩) (.bool true);have hb9:=rc_below3 (Below.refl w.heap.size w8) w.heap.size (Nat.le_refl _) (.string ⟨(xbehind x).toArray⟩) (.string ⟨pl.toArray⟩) (.bool true);have hf9:=((FrR.below hb0).trans hfA).then hb9 (Nat.le_refl _);have h9:=RowIs.below h8 hb9 hbw;clear hr8 h8 hb9 hfA hr0 hb0 h0;go_wp2;generalize World.setCell _ _ _=w9 at hr9 hf9 h9 ⊢;obtain ⟨d0,d1,d2,_,_,_⟩:=hr9.rc3
    try simp only [Exit.inBlock,Exit.then]
    refine bodyPost_ret (v:=xparV ⟨xbehind x,pl,true⟩) (by simp [results,Tryz.results138,go_sem,d0,d1,d2,xparV]; try rfl) rfl ?_
    rw [HR.out];exact ⟨rfl,h9,hf9⟩
def AtsPost (o:Option (List Par × List UInt8)) (b:Nat) (v:Value) (w:World) (e:Ending) (w':World):Prop:=match o with
 | none=>e=gaveUp∧FrR b w w'
 | some (ps,r)=>∃ av,e=.returned av∧OwnP w' w.heap.size av ps∧XrAt w' b r v∧FrR b w w'
def restLen (b:Nat) (w:World):Nat:=match w.cell? ⟨b,0,none⟩ with | some (.string t)=>t.size | _=>0
theorem XrAt.rest {w:World} {b:Nat} {l:List UInt8} {v:Value} (h:XrAt w b l v):restLen b w=l.length:=by
 unfold restLen;rw [(RowIs.rc2 h).c0];exact size_list l
theorem XrAt.apart {w:World} {b:Nat} {l:List UInt8} {v:Value} (h:XrAt w b l v) {B:Nat} {u:Value} {ps:List Par} (ho:OwnP w B u ps):u.ownBlock ≠ some b:=row_apart h ho (by decide)
theorem xpar_new (W:World) (p:Par) (g:Nat) (hg:g=W.heap.size):∀ (j:Nat) (u:Value),(parCells p)[j]? = some u → (W.alloc (.cells #[.string ⟨p.name.toArray⟩,.string ⟨p.value.toArray⟩,.bool p.has] 70)).cell? ((⟨g,0,none⟩:Addr).add j)=some u:=by
 intro j u hj;subst hg;have e:(⟨W.heap.size,0,none⟩:Addr).add j=⟨W.heap.size,j,none⟩:=by unfold Addr.add; split <;> simp_all
 rw [e];unfold World.cell?;rw [heap_alloc_new]
 simpa [parCells] using hj
set_option maxHeartbeats 4000000 in
set_option maxRecDepth 100000 in
theorem attrs_any (b:Nat) (l:List UInt8) (v:Value) (w:World) (h:XrAt w b l v) (hl:l.length≤1048576) (N:Nat) (hN:l.length < N) :
  Calls Tryz.prog 107 #[.pointer (some ⟨b,0,none⟩)] w fun e w'=>AtsPost (attrsC N [] l) b v w e w':=by
 obtain ⟨i0,hi,hz0,hz1,hz2⟩:=info_parts infoPar;have hbw:=h.lt;obtain ⟨R,hR⟩:∃ R,R=attrsC N [] l:=⟨_,rfl⟩
 rw [← hR];have HR:=hid hR;have H:=hid h;clear hR h
 go_enter Tryz.func107,Tryz.ntmps107
 go_wp2
 go_loopw [3] (fun lv wr=>∃ (s:List UInt8) (m:Nat) (acc:List Par),Hid (R=attrsC m acc s)∧s.length < m∧acc.length+s.length≤1048576∧OwnP wr w.heap.size lv acc∧Hid (XrAt wr b s v)∧FrR b w wr) (fun _ wr=>restLen b wr)
 case atStart=>exact ⟨l,N,[],HR,hN,by simpa using hl,OwnP.nil _ _,H,FrR.refl _ _⟩
 case round =>
  obtain ⟨s,m,acc,hR,hm,hsz,hown,hrd,hfr⟩:=hrel;clear HR H;obtain ⟨m',rfl⟩:∃ m',m=m'+1:=⟨m - 1,by omega⟩
  have hRe:=hR.out;rw [attrsC] at hRe;have KS:=hid (skip_any b s v wr hrd.out (by omega));have hdl:=dw_len xblk s;have hap:=hrd.out.apart hown;have HL:=hid hrd.out.rest;generalize s.dropWhile xblk=s1 at hRe KS hdl;clear hR
  cases h1:decide (s1.length < s.length) with
  | false =>
   rw [h1] at hRe KS;have hE:Hid (R=some (acc,s1)):=hRe;clear hRe h1;go_wp2_with fail
   refine (KS.out).mono ?_
   rintro e w1 ⟨rfl,hr1,hf1⟩;have hown1:=hf1.owns hown hap;go_wp2;go_ret;rw [hE.out];exact ⟨_,rfl,hown1,hr1,hfr.trans hf1⟩
  | true =>
   have hlt:=of_decide_eq_true h1;rw [h1] at hRe KS;have K6:=hid (fun w' (h':XrAt w' b s1 v)=>sees_any b s1 [62] v w' h' (by omega) (by decide));have K4:=hid (fun w' (h':XrAt w' b s1 v)=>sees_any b s1 [47,62] v w' h' (by omega) (by decide))
   cases h6:preX [62] s1 with
   | true =>
    rw [h6] at hRe K6;have hE:Hid (R=some (acc,s1)):=hRe;clear hRe h1 h6;go_wp2_with fail
    refine (KS.out).mono ?_
    rintro e w1 ⟨rfl,hr1,hf1⟩;have hown1:=hf1.owns hown hap;go_wp2_with fail
    refine (K6.out w1 hr1).mono ?_
    rintro e w1 ⟨rfl,rfl⟩;go_wp2;go_ret;rw [hE.out];exact ⟨_,rfl,hown1,hr1,hfr.trans hf1⟩
   | false =>
    rw [h6] at hRe K6
    cases h4:preX [47,62] s1 with
    | true =>
     rw [h4] at hRe K4;have hE:Hid (R=some (acc,s1)):=hRe;clear hRe h1 h6 h4;go_wp2_with fail
     refine (KS.out).mono ?_
     rintro e w1 ⟨rfl,hr1,hf1⟩;have hown1:=hf1.owns hown hap;go_wp2_with fail
     refine (K6.out w1 hr1).mono ?_
     rintro e w1 ⟨rfl,rfl⟩;go_wp2_with fail
     refine (K4.out w1 hr1).mono ?_
     rintro e w1 ⟨rfl,rfl⟩;go_wp2;go_ret;rw [hE.out];exact ⟨_,rfl,hown1,hr1,hfr.trans hf1⟩
    | false =>
     rw [h4] at hRe K4;simp only [Bool.not_false,Bool.and_true,if_true] at hRe;have KA:=hid (fun w' (h':XrAt w' b s1 v)=>attr_any b s1 v w' h' (by omega))
     cases ha:attrC s1 with
     | none =>
      rw [ha] at hRe KA;simp only [RdPost] at KA;have hE:Hid (R=none):=hRe;clear hRe h1 h6 h4 ha;go_wp2_with fail
      refine (KS.out).mono ?_
      rintro e w1 ⟨rfl,hr1,hf1⟩;go_wp2_with fail
      refine (K6.out w1 hr1).mono ?_
      rintro e w1 ⟨rfl,rfl⟩;go_wp2_with fail
      refine (K4.out w1 hr1).mono ?_
      rintro e w1 ⟨rfl,rfl⟩;go_wp2_with fail
      refine (KA.out w1 hr1).mono ?_
      rintro e w2 ⟨rfl,hf2⟩;refine ⟨rfl,?_⟩
      rw [hE.out];exact ⟨rfl,(hfr.trans hf1).trans hf2⟩
     | some pr =>
      obtain ⟨p,r⟩:=pr;have hrl:=attrC_len ha;rw [ha] at hRe KA;simp only [RdPost] at KA;have hE:Hid (R=attrsC m' (acc++[p]) r):=hRe;clear hRe h1 h6 h4 ha;have hl3:Hid (r.length < s.length):=show _ < _ by omega
      have hl4:acc.length≤2000000:=by omega
      go_wp2_with fail
      refine (KS.out).mono ?_
      rintro e w1 ⟨rfl,hr1,hf1⟩;have hown1:=hf1.owns hown hap;go_wp2_with fail
      refine (K6.out w1 hr1).mono ?_
      rintro e w1 ⟨rfl,rfl⟩;go_wp2_with fail
      refine (K4.out w1 hr1).mono ?_
      rintro e w1 ⟨rfl,rfl⟩;go_wp2_with fail
      refine (KA.out w1 hr1).mono ?_
      rintro e w2 ⟨rfl,hr2,hf2⟩;have hown2:OwnP w2 w.heap.size _ acc:=hf2.owns hown1 hap;have hfA:=(hfr.trans hf1).trans hf2;have hB2:w.heap.size≤w2.heap.size:=hfA.size;have hnew:=hid (fun (W:World) (g:Nat) (hg:g=W.heap.size)=>xpar_new W p g hg);clear hown hown1 hf1 hf2 hfr hr1 KS K6 K4 KA hrd hap;unfold xparV;go_wp2_with (at_builtin; refine wp_appP _ rfl (.tmp 16) (.tmp 19) 47 rfl w.heap.size i0 _ Tryz.underlying47 hi hz0 hz1 hz2 rfl _ acc rfl (OwnP.alloc hown2 _) ⟨_,0,none⟩ 1 p rfl (hnew.out _ _ rfl) hl4 w2 ((Below.refl _ _).alloc hB2 _) (by simp; omega) ?_; intro v5 w5 hown5 hb5 hB5)
      have hr5:XrAt w5 b r v:=RowIs.below hr2 hb5 hbw;go_roundw
      case rel=>exact ⟨r,m',acc++[p],hE,by have:=hl3.out; omega,by have:=hl3.out; simp; omega,hown5,hid hr5,hfA.then hb5 (Nat.le_refl _)⟩
      case measure=>rw [hr5.rest,HL.out]; exact hl3.out
def closeC (nm r3:List UInt8):Option (List UInt8) :=
 if preX [60,47] r3=false then none else if preX nm (r3.drop 2)=false then none else
 if preX [62] (((r3.drop 2).drop nm.length).dropWhile xblk)=false then none else some ((((r3.drop 2).drop nm.length).dropWhile xblk).drop 1)
mutual
def elemC:Nat → Nat → List UInt8 → Option (List Nd × List UInt8)
 | 0,_,_=>none
 | n+1,d,s=>if preX [60] s=false then none else match upP endc (s.drop 1) with
  | none=>none
  | some (nm,r)=>match attrsC (r.length+1) [] r with
   | none=>none
   | some (ps,r2)=>if preX [47,62] r2=true then some ([⟨d,nm,ps,[]⟩],r2.drop 2) else if preX [62] r2=false then none else
    match upP (·==60) (r2.drop 1) with
    | none=>none
    | some (x,y)=>match innC n (d+1) x [] y with
     | none=>none
     | some (t,ks,r3)=>(closeC nm r3).map fun r4=>(⟨d,nm,ps,t⟩ :: ks,r4)
def innC:Nat → Nat → List UInt8 → List Nd → List UInt8 → Option (List UInt8 × List Nd × List UInt8)
 | 0,_,_,_,_=>none
 | n+1,d,txt,ks,s=>if preX [60,47] s=true then (readX (xtrim txt)).map fun t=>(t,ks,s) else match elemC n d s with
  | none=>none
  | some (k2,r)=>match upP (·==60) r with
   | none=>none
   | some (x,y)=>innC n d (txt++x) (ks++k2) y
end
theorem attrsC_len:∀ (n:Nat) (acc:List Par) (s:List UInt8) (l:List Par) (r:List UInt8),attrsC n acc s=some (l,r) → r.length≤s.length
 | 0,_,_,_,_,h=>by rw [attrsC] at h; cases h
 | n+1,acc,s,l,r,h=>by
  rw [attrsC] at h;have hd:=dw_len xblk s
  split at h
  ·split at h
   ·cases h
   ·next p r2 ha =>
    have:=attrsC_len n _ _ _ _ h
    have:=attrC_len ha
    omega
  ·simp only [Option.some.injEq,Prod.mk.injEq] at h;rw [← h.2]; exact hd
theorem closeC_len {nm r3 r4:List UInt8} (h:closeC nm r3=some r4):r4.length < r3.length:=by
 unfold closeC at h
 split at h
 ·cases h
 ·next h1 =>
  have h1':preX [60,47] r3=true:=by simpa using h1
  have:=pre_len h1'
  split at h
  ·cases h
  ·split at h
   ·cases h
   ·simp only [Option.some.injEq] at h;rw [← h]
    have:=dw_len xblk ((r3.drop 2).drop nm.length)
    simp at *
    omega
mutual
theorem elemC_len:∀ (n d:Nat) (s:List UInt8) (l:List Nd) (r:List UInt8),elemC n d s=some (l,r) → r.length < s.length
 | 0,_,_,_,_,h=>by rw [elemC] at h; cases h
 | n+1,d,s,l,r,h=>by
  rw [elemC] at h
  split at h
  ·cases h
  ·next h1 =>
   have h1':preX [60] s=true:=by simpa using h1
   have hp:=pre_len h1'
   split at h
   ·cases h
   ·next nm r1 hu =>
    obtain ⟨c,q,hq,_,hlq⟩:=up_head hu
    split at h
    ·cases h
    ·next ps r2 ha =>
     have ha':=attrsC_len _ _ _ _ _ ha
     split at h
     ·simp only [Option.some.injEq,Prod.mk.injEq] at h;rw [← h.2]
      simp at *
      omega
     ·split at h
      ·cases h
      ·split at h
       ·cases h
       ·next x y hu2 =>
        obtain ⟨c2,q2,hq2,_,hlq2⟩:=up_head hu2
        split at h
        ·cases h
        ·next t ks r3 hi =>
         have:=innC_len n _ _ _ _ _ _ _ hi
         cases hc:closeC nm r3 with
         | none=>rw [hc] at h; cases h
         | some r4 =>
          rw [hc] at h;simp only [Option.map_some,Option.some.injEq,Prod.mk.injEq] at h;rw [← h.2]
          have:=closeC_len hc
          simp at *
          omega
theorem innC_len:∀ (n d:Nat) (txt:List UInt8) (ks:List Nd) (s t:List UInt8) (l:List Nd) (r:List UInt8),innC n d txt ks s=some (t,l,r) → r.length≤s.length
 | 0,_,_,_,_,_,_,_,h=>by rw [innC] at h; cases h
 | n+1,d,txt,ks,s,t,l,r,h=>by
  rw [innC] at h
  split at h
  ·cases hv:readX (xtrim txt) with
   | none=>rw [hv] at h; cases h
   | some u =>
    rw [hv] at h;simp only [Option.map_some,Option.some.injEq,Prod.mk.injEq] at h;rw [← h.2.2]; exact Nat.le_refl _
  ·split at h
   ·cases h
   ·next k2 r1 he =>
    have:=elemC_len n _ _ _ _ he
    split at h
    ·cases h
    ·next x y hu =>
     obtain ⟨c,q,hq,_,hlq⟩:=up_head hu
     have:=innC_len n _ _ _ _ _ _ _ h
     omega
end
structure FrX (b:Nat) (v:Value) (w:World) (v':Value) (w':World):Prop where
 os:w'.os=w.os
 tape:w'.tape=w.tape
 output:w'.output=w.output
 size:w.heap.size≤w'.heap.size
 block:∀ c,c < w.heap.size → c ≠ b → v.ownBlock ≠ some c → w'.heap[c]? = w.heap[c]?
 own:∀ g,v'.ownBlock=some g → v.ownBlock=some g∨w.heap.size≤g
theorem FrX.trans {b:Nat} {v v1 v2:Value} {w w1 w2:World} (h:FrX b v w v1 w1) (k:FrX b v1 w1 v2 w2):FrX b v w v2 w2:=by
 refine ⟨k.os.trans h.os,k.tape.trans h.tape,k.output.trans h.output,Nat.le_trans h.size k.size,fun c hc hn hv=>?_,fun g hg=>?_⟩
 ·have hn2:v1.ownBlock ≠ some c:=fun e=>by
   rcases h.own c e with e | e
   ·exact hv e
   ·omega
  rw [k.block c (Nat.lt_of_lt_of_le hc h.size) hn hn2,h.block c hc hn hv]
 ·rcases k.own g hg with e | e
  ·exact h.own g e
  ·exact .inr (Nat.le_trans h.size e)
theorem FrX.of {b:Nat} {v:Value} {w w':World} (h:FrR b w w'):FrX b v w v w':=⟨h.os,h.tape,h.output,h.size,fun c hc hn _=>h.block c hc hn,fun g hg=>.inl hg⟩
theorem FrX.ofN {b:Nat} {v v':Value} {w w':World} (h:FrN v w v' w'):FrX b v w v' w':=⟨h.os,h.tape,h.output,h.size,fun c hc _ hv=>h.block c hc hv,h.own⟩
theorem FrX.none {b:Nat} {v v':Value} {w w':World} (h:FrX b v w v' w'):FrX b v w (.slice none 0 0) w':=⟨h.os,h.tape,h.output,h.size,h.block,fun g hg=>by cases hg⟩
theorem FrX.put {b:Nat} {v v' u:Value} {w w':World} (h:FrX b v w v' w') (j:Nat):FrX b v w v' (w'.setCell ⟨b,j,Option.none⟩ u) :=
 ⟨h.os,h.tape,h.output,by rw [World.size_setCell]; exact h.size,fun c hc hn hv=>by rw [heap_setCell_other _ _ _ _ hn]; exact h.block c hc hn hv,h.own⟩
theorem FrX.set {b g j:Nat} {v v' u:Value} {w w':World} (h:FrX b v w v' w') (hg:v'.ownBlock=some g):FrX b v w v' (w'.setCell ⟨g,j,Option.none⟩ u):=by
 refine ⟨h.os,h.tape,h.output,by rw [World.size_setCell]; exact h.size,fun c hc hn hv=>?_,h.own⟩
 have hne:c ≠ g:=fun e=>by
  subst e
  rcases h.own c hg with e | e
  ·exact hv e
  ·omega
 rw [heap_setCell_other _ _ _ _ hne]; exact h.block c hc hn hv
theorem OwnN.fr {w w':World} {b B:Nat} {v u:Value} {l:List UInt8} {cs:List NdC} (h:OwnN w B v cs) (hf:FrR b w w') (hr:XrAt w b l u):OwnN w' B v cs :=
 ⟨hf.owns h.1 (row_apart hr h.1 (by decide)),fun c hc=>hf.owns (h.2 c hc) (row_apart hr (h.2 c hc) (by decide))⟩
theorem xnd_new (W:World) (c:NdC) (g:Nat) (hg:g=W.heap.size):∀ (j:Nat) (u:Value),(ndCells c)[j]? = some u → (W.alloc (.cells #[.int .i64 c.nd.deep,.string ⟨c.nd.name.toArray⟩,c.a,.string ⟨c.nd.text.toArray⟩] 49)).cell? ((⟨g,0,none⟩:Addr).add j)=some u:=by
 intro j u hj;subst hg;have e:(⟨W.heap.size,0,none⟩:Addr).add j=⟨W.heap.size,j,none⟩:=by unfold Addr.add; split <;> simp_all
 rw [e];unfold World.cell?;rw [heap_alloc_new]
 simpa [ndCells] using hj
theorem xownP_form {w:World} {B:Nat} {v:Value} {ps:List Par} (h:OwnP w B v ps):∃ po pc,v=.slice po ps.length pc:=by
 rcases h.2 with ⟨rfl,hn⟩ | ⟨g,cap,cur,rfl,_⟩
 ·exact ⟨none,0,by rw [hn]⟩
 ·exact ⟨_,cap,rfl⟩
theorem step_appN {P:Program} {ops:Array Oper} {o:Oper} {a:Act} {w:World} {K:Act → World → Prop} {Q:Exit → Act → World → Prop} {E:Prop} (hgd:o.guard=none)
  (s x:Operand) (t:TypeId) (ho:o.op=Op.call { callee:=Callee.builtin Builtin.append,args:=#[s,x],argTypes:=#[t,t] }) (B:Nat) (i:TypeInfo)
  (z:Value) (ht:P.underlying t=some (TypeDesc.slice 49)) (hi:P.info? 49=some i) (hz:i.zero=some z) (hsize:i.size=4) (hby:i.bytes=64) (hzs:z.cells.size=4)
  (v:Value) (cs:List NdC) (hs:a.eval s=v) (hown:OwnN w B v cs) (ad:Addr) (k:Nat) (c:NdC) (hc:OwnP w B c.a c.nd.attrs) (hx:a.eval x=Value.slice (some ad) 1 k)
  (hnews:∀ (j:Nat) (u:Value),(ndCells c)[j]? = some u → w.cell? (ad.add j)=some u)
  (hlen:cs.length≤2000000) (hB:B≤w.heap.size)
  (h:∀ (v':Value) (w':World),OwnN w' B v' (cs++[c]) → FrN v w v' w' → K (a.put o.dst v') w'):if Region.wanted o (yielded ops a.tmps)=true then Oper.wp P o a w K Q else E:=by
 have hw:Region.wanted o (yielded ops a.tmps)=true:=by simp [Region.wanted,hgd]
 rw [if_pos hw]
 have one:∀ (ps:List Par) (B:Nat) (v:Value),OwnP w B v ps → v.oneCell'=true:=fun ps B v h=>by
  rcases h.2 with ⟨rfl,_⟩ | ⟨g,cap,cur,rfl,_⟩ <;> rfl
 obtain ⟨v',w',hrun,r1,hgr,_,hat⟩:=run_append_own_at (P:=P) w B t o.type 49 i z 4 64 ht hi hz hsize hby hzs (by decide) v cs.length (ndsCells cs) hown.1 ad 1 k (ndCells c) rfl hnews
  (by intro u hu; simp [ndCells] at hu; rcases hu with rfl | rfl | rfl | rfl <;> first | rfl | exact one _ _ _ hc) (by unfold maxLen; omega) (by omega) hB
 unfold Oper.wp
 simp [execOp,ho,resolve,invoke,builtin,hs,hx,hrun,Result.andThen]
 have keep:∀ (ps:List Par) (u:Value),OwnP w B u ps → OwnP w' B u ps:=fun ps u hu=>World.ownsRow.kept hu hgr (rows_neN hown.1 hu (by decide));refine h v' w' ⟨?_,?_⟩ (grown_fr hgr hat)
 ·have e:ndsCells (cs++[c])=ndsCells cs++ndCells c:=by simp [ndsCells]
  rw [e,List.length_append];exact r1
 ·intro c' hc'
  rcases List.mem_append.1 hc' with hc' | hc'
  ·exact keep _ _ (hown.2 c' hc')
  ·simp at hc'; subst hc'
   exact keep _ _ hc
def ElP (o:Option (List Nd × List UInt8)) (b:Nat) (cs:List NdC) (B:Nat) (v:Value) (w:World) (e:Ending) (w':World):Prop:=match o with
 | none=>e=gaveUp∧FrX b v w (.slice none 0 0) w'
 | some (ns,r)=>∃ v' cs',e=.returned (.tuple #[])∧ndsL cs'=ns∧OwnN w' B v' (cs++cs')∧XrAt w' b r v'∧FrX b v w v' w'
end Go.Proofs.YtdbalahkmeknaaaGreatDoor
