/-
  SameL, CompN, PsT, PsG, CpR, WCompOwn.
-/
import Derived.Test.YtldkidljjbkmbaaGreatDoorPX02
import Derived.Test.YtldkidljjbkmbaaGreatDoorPX04
import Derived.Test.YtldkidljjbkmbaaGreatDoorPX21
set_option linter.unusedVariables false
set_option linter.unusedSimpArgs false
set_option maxRecDepth 20000
namespace Go.Proofs.YtldkidljjbkmbaaGreatDoor
open Go.RowKit Sc
theorem all_snoc {f:Par → Bool} {ps:List Par} {k:Nat} (hk:k < ps.length) (h:(ps.take k).all f=true) (hb:f ps[k]=true):(ps.take (k+1)).all f=true:=by
 rw [List.take_succ_eq_append_getElem hk,List.all_append,h]; simp [hb]
theorem seen_t (num:Int):∀ (l:List Tu) (st:List Tu × List Tu),(l.foldl (stepT num) st).2=l.foldl dedC st.2
 | [],st=>rfl
 | t :: l,st=>by
  rw [List.foldl_cons,List.foldl_cons,seen_t num l]
  congr 1
  unfold stepT dedC
  split <;> rfl
def allC (l:List Pb):List Tu:=l.foldl (fun a p=>p.doc.tuples.foldl dedC a) []
theorem all_is (l:List Pb):(foldC l).1.2=allC l:=by
 have:∀ (l:List Pb) (st:(List Tu × List Tu) × List (List UInt8)),(l.foldl pubC st).1.2=l.foldl (fun a p=>p.doc.tuples.foldl dedC a) st.1.2:=by
  intro l
  induction l with
  | nil=>intro st; rfl
  | cons p l ih =>
   intro st;rw [List.foldl_cons,List.foldl_cons,ih]
   congr 1
   unfold pubC;exact seen_t p.num p.doc.tuples st.1
 exact this l _
theorem own_plain (l:List Pb):(foldC l).1.1.length=min 16 (allC l).length∧((foldC l).1.1.map Tu.id).Nodup∧∀ i (h1:i < (foldC l).1.1.length) (h2:i < (allC l).length),(foldC l).1.1[i]=⟨(foldC l).1.1[i].id,(allC l)[i].opn,(allC l)[i].contact,(allC l)[i].prio,(allC l)[i].note⟩:=by
 have h:=foldC_inv l;obtain ⟨h1,h2,h3,h4⟩:=h;have e:=all_is l;refine ⟨by rw [← e]; exact h1,h2,fun i a b=>?_⟩
 have:=h4 i a (by rw [e]; exact b)
 simp only [e] at this;exact this
theorem OwnU.nil (w:World) (B:Nat):OwnU w B (.slice none 0 0) []:=World.ownsRow_nil _ _ _ _
theorem wp_appTu {P:Program} (w:World) {ops:Array Oper} {rest:List Oper} {o:Oper} {a:Act} {Q:Exit → Act → World → Prop} (hgd:o.guard=none)
  (s x:Operand) (t:TypeId) (ho:o.op=Op.call { callee:=Callee.builtin Builtin.append,args:=#[s,x],argTypes:=#[t,t] }) (B:Nat) (i:TypeInfo)
  (z:Value) (ht:P.underlying t=some (TypeDesc.slice 48)) (hi:P.info? 48=some i) (hz:i.zero=some z) (hsize:i.size=5) (hby:i.bytes=64) (hzs:z.cells.size=5)
  (v:Value) (ts:List Tu) (hs:a.eval s=v) (hown:OwnU w B v ts) (ad:Addr) (c:Nat) (p:Tu) (hx:a.eval x=Value.slice (some ad) 1 c)
  (hnews:∀ (j:Nat) (u:Value),(tuCells p)[j]? = some u → w.cell? (ad.add j)=some u)
  (hlen:ts.length≤2000000) (w0:World) (hb:Below B w0 w) (hB:B≤w.heap.size)
  (h:∀ (v':Value) (w':World),OwnU w' B v' (ts++[p]) → Below B w0 w' → B≤w'.heap.size → w.grownBy w' v.ownBlock → wpList P ops Q rest (a.put o.dst v') w'):wpList P ops Q (o :: rest) a w:=by
 refine wpList_append_own w hgd s x t ho B 48 i z 5 64 ht hi hz hsize hby hzs (by decide) v ts.length (tusCells ts) hs hown ad 1 c (tuCells p) hx rfl hnews
  (by intro u hu; simp [tuCells] at hu; rcases hu with rfl | rfl | rfl | rfl | rfl <;> rfl) (by unfold maxLen; omega) (by omega) hB ?_
 intro v' w' hown' hgr _;refine h v' w' ?_ (hb.grown hgr hB (fun k hk=>(World.ownsRow.lt hown k hk).1)) (Nat.le_trans hB hgr.size) hgr
 have e:tusCells (ts++[p])=tusCells ts++tuCells p:=by simp [tusCells]
 unfold OwnU;rw [e,List.length_append];exact hown'
end Go.Proofs.YtldkidljjbkmbaaGreatDoor
namespace Go.Proofs.YtldkidljjbkmbaaGreatDoor
open Go.RowKit Go.Maps Go.WideMaps Sc
theorem row_other {w:World} {b g:Nat} {e:TypeId} {l:List Value} (h:RowIs w g e l) (hne:g ≠ b) (j:Nat) (v:Value):RowIs (w.setCell ⟨b,j,none⟩ v) g e l:=by
 unfold RowIs at *;rw [Below.heap_setCell _ ⟨b,j,none⟩ _ _ hne];exact h
set_option maxHeartbeats 2000000 in
set_option maxRecDepth 100000 in
theorem small17_len {w:World} {v:Value} {cs:List PbC} (hv:PbsAt w v cs) (hn:cs.length≤2000000) (hg:∀ c ∈ cs,PbGot w c∧SmallD 1048576 c.p.doc) :
  Calls Tryz.prog 9 #[v] w fun e w'=>∃ b:Bool,e=.returned (.bool b)∧(b=true → cs.length≤400)∧Below w.heap.size w w':=by
 have HV:=hid hv;have HG:=hid hg;obtain ⟨oa,cap,rfl,_⟩:=hv;obtain ⟨n,hnn⟩:∃ n,n=cs.length:=⟨_,rfl⟩
 have HN:=hid hnn;rw [← hnn] at hn ⊢;clear hnn hg
 go_enter Tryz.func9,Tryz.ntmps9
 go_wp2
 go_loopw [3,4] (fun s i wr=>∃ (k t:Nat),k≤n∧k≤t∧t≤k * 3000000∧i=.int .i64 k∧s=.int .i64 t∧Hid (Below w.heap.size w wr)) (fun _ i _=>n - (intOf i).toNat)
 case atStart=>exact ⟨0,0,by omega,by omega,by omega,rfl,rfl,Below.refl _ _⟩
 case round =>
  obtain ⟨k,t,hk,hkt,ht,rfl,rfl,HB⟩:=hrel;by_cases hlt:k < n
  ·have hlt':(k:Int) < (n:Int):=by omega
   have hkl:k < cs.length:=by rw [← HN.out]; exact hlt
   obtain ⟨oa',cap',hv',_,hat⟩:=HV.out;obtain ⟨ad,hoa,hab,hpb⟩:=hat k hkl
   injection hv' with g1 g2 g3
   subst g1;subst hoa;obtain ⟨c0,c1,c2,c3,c4,c5,c6⟩:=(hpb.below HB.out hab).seven;have hm:=List.getElem_mem hkl;obtain ⟨hgk,hsk⟩:=HG.out _ hm;generalize cs[k]=c at c0 c1 c2 c3 c4 c5 c6 hgk hsk;obtain ⟨ta,tc,hts,_⟩:=hgk.tus;obtain ⟨na,nc,hns,_⟩:=hgk.strs;rw [hts] at c5;rw [hns] at c6;have z1:=hsk.tl;have z2:=hsk.nl;generalize c.p.doc.tuples.length=t1 at c5 z1;generalize c.p.doc.notes.length=t2 at c6 z2;have htk:t+1+t1+t2≤(k+1) * 3000000:=by omega
   have htk2:t+1+t1+t2≤9000000000000:=by omega
   clear hat hpb g2 g3 hgk hsk hts hns hm;go_wp2
   go_quiet (fail)
   go_wp2;go_roundw
   case rel=>exact ⟨k+1,t+1+t1+t2,by omega,by omega,htk,by go_num,by go_num,hid (HB.out.trans ((below_drewN _ _).mono HB.out.size))⟩
   case measure=>simp [intOf]; omega
  ·have hlt':¬ (k:Int) < (n:Int):=by omega
   have hd:decide ((t:Int)≤400)=true∨decide ((t:Int)≤400)=false:=by cases decide ((t:Int)≤400) <;> simp
   rcases hd with hd | hd
   ·go_wp2;go_ret;have hle:(t:Int)≤400:=of_decide_eq_true hd;have hcl:n≤400:=by omega
    exact .inr ⟨rfl,hcl,HB.out⟩
   ·go_wp2;go_ret;exact .inl ⟨rfl,HB.out⟩
end Go.Proofs.YtldkidljjbkmbaaGreatDoor
namespace Go.Proofs.YtldkidljjbkmbaaGreatDoor.compOwn
open Go.RowKit Go.Maps Go.WideMaps Sc
theorem ded_snocU (l:List Tu) (a:List Tu) (i:Nat) (hi:i < l.length):(l.take (i+1)).foldl dedC a=dedC ((l.take i).foldl dedC a) l[i]:=by
 rw [List.take_succ_eq_append_getElem hi,List.foldl_append]; rfl
theorem all_snoc (cs:List PbC) (k:Nat) (hk:k < cs.length):allC (pbsL (cs.take (k+1)))=cs[k].p.doc.tuples.foldl dedC (allC (pbsL (cs.take k))):=by
 rw [List.take_succ_eq_append_getElem hk];unfold allC pbsL;rw [List.map_append,List.foldl_append]; rfl
theorem tu_cmp (s t:Tu):s=t∨(s ≠ t∧((s.id==t.id)=false∨((s.id==t.id)=true∧(s.opn==t.opn)=false)∨((s.id==t.id)=true∧(s.opn==t.opn)=true∧(s.contact==t.contact)=false)∨((s.id==t.id)=true∧(s.opn==t.opn)=true∧(s.contact==t.contact)=true∧(s.prio==t.prio)=false)∨((s.id==t.id)=true∧(s.opn==t.opn)=true∧(s.contact==t.contact)=true∧(s.prio==t.prio)=true∧(s.note==t.note)=false))):=by
 obtain ⟨s0,s1,s2,s3,s4⟩:=s;obtain ⟨t0,t1,t2,t3,t4⟩:=t;by_cases h0:s0=t0 <;> by_cases h1:s1=t1 <;> by_cases h2:s2=t2 <;> by_cases h3:s3=t3 <;> by_cases h4:s4=t4 <;> simp_all
theorem rows_ne {w:World} {a b:Nat} {e1 e2:TypeId} {l1 l2:List Value} (h1:RowIs w a e1 l1) (h2:RowIs w b e2 l2) (hne:e1 ≠ e2):a ≠ b:=by
 intro e;subst e;unfold RowIs at h1 h2;rw [h1] at h2
 injection h2 with h2
 injection h2 with _ h2
 exact hne h2
theorem own_ne {w:World} {B b s n:Nat} {e1 e2:TypeId} {v:Value} {xs l:List Value} (h1:w.ownsRow B e1 s v n xs) (h2:RowIs w b e2 l) (hne:e1 ≠ e2):v.ownBlock=none∨v.ownBlock ≠ some b:=by
 rcases h1.2 with ⟨rfl,_⟩ | ⟨g,cap,cur,rfl,_,hg,_⟩
 ·exact .inl rfl
 ·right
  intro e;have e:g=b:=by simpa [Value.ownBlock] using e
  subst e;unfold RowIs at h2;rw [hg] at h2
  injection h2 with h2
  injection h2 with _ h2
  exact hne h2
theorem ids_own {w:World} {B:Nat} {ia:Option Addr} {q ic:Nat} {xs:List Value} (h:Own w B 9 (.slice ia q ic) xs) (hq:xs.length=q):w.ownsRow B 9 1 (.slice ia q ic) q xs:=by
 subst hq;exact h
set_option maxHeartbeats 4000000 in
set_option maxRecDepth 100000 in
theorem law_walk (w:World) (a0:ByteArray) (v1:Value) (b0:a0.size≤1048576) (k1:PubsIn 1048576 w v1) :
  Calls Tryz.prog 8 #[.string a0,v1] w fun e w'=>e=.returned (.bool true)∧Below w.heap.size w w':=by
 obtain ⟨who,rfl⟩:=str_offC a0;have b0:who.length≤1048576:=by simpa [ByteArray.size] using b0
 obtain ⟨cs,hv,hn,hg⟩:=k1;have KM:=hid (small17_len hv (by omega) hg);have KC:=hid (compose_in hv hn hg b0);have KW:=hid awake17_any;have HNUM:=hid (nums_in hg);have HV:=hid hv;have HG:=hid hg;obtain ⟨oa,cap,rfl⟩:=hv.form;obtain ⟨n,hnn⟩:∃ n,n=cs.length:=⟨_,rfl⟩
 rw [← hnn] at KM KC HV hn ⊢;have HN:=hid hnn;obtain ⟨d,er,hd⟩:∃ d er,compC who (pbsL cs)=(d,er):=⟨_,_,rfl⟩
 rw [hd] at KC;clear hnn hv hg
 go_enter Tryz.func8,Tryz.ntmps8
 go_wp2_with fail
 refine KM.out.mono ?_
 rintro e w1 ⟨b,rfl,h400,hb1⟩;have bel:=hid hb1;clear hb1 KM
 cases b with
 | false =>
  go_wp2_with fail
  refine (KW.out _).mono ?_
  rintro e w4 ⟨rfl,hb4⟩;have bel:=hid (bel.out.trans (hb4.mono bel.out.size));clear hb4;go_wp2;go_ret;exact ⟨rfl,bel.out⟩
 | true =>
  have h400:=h400 rfl

  go_wp2_with fail
  refine (KC.out w1 bel.out).mono ?_
  rintro e w2 ⟨vt,vn,rfl,hG,hb2⟩;simp only at hG ⊢;unfold docV;obtain ⟨ta,tc,na,nc,rfl,rfl⟩:=hG.forms;have R1:=hid (rc_row3 w2 (.string ⟨d.entity.toArray⟩) (.slice ta d.tuples.length tc) (.slice na d.notes.length nc) 28);have b2:Below w2.heap.size w2 (w2.alloc (.cells #[.string ⟨d.entity.toArray⟩,.slice ta d.tuples.length tc,.slice na d.notes.length nc] 28)):=(Below.refl _ w2).alloc (Nat.le_refl _) _;have HT:=hid (hG.below b2).t;have bel:=hid (bel.out.trans ((hb2.trans (b2.mono hb2.size)).mono bel.out.size));clear hG hb2 b2 KC
  go_upto_region 4 with fail
  generalize w2.heap.size=ga at R1 ⊢;generalize World.alloc _ _=u2 at R1 HT bel ⊢;by_cases h0:er=0
  case neg =>
   have h0':(er != 0)=true:=by simpa using h0
   go_wp2_with fail
   refine (KW.out _).mono ?_
   rintro e w4 ⟨rfl,hb4⟩;have bel:=hid (bel.out.trans (hb4.mono bel.out.size));clear hb4;go_wp2;go_ret;exact ⟨rfl,bel.out⟩
  subst h0;obtain ⟨_,hch,hdd⟩:=comp_parts hd;have HT16:=hid (show ∀ c ∈ cs,c.p.doc.tuples.length≤16 from fun c hc=>(check_parts (chk_all hch c.p (List.mem_map.2 ⟨c,hc,rfl⟩))).2.1);obtain ⟨q1,q2,q3⟩:=own_plain (pbsL cs);have hT:d.tuples=(foldC (pbsL cs)).1.1:=by rw [hdd]
  rw [← hT] at q1 q2 q3;have HQ1:=hid q1;have HQ2:=hid q2;have HQ3:=hid q3;obtain ⟨en,tl,nl⟩:=d;simp only at HQ1 HQ2 HQ3 HT R1 ⊢;clear q1 q2 q3 hT hdd hd HNUM;obtain ⟨i1,hj1,hy0,hy1,hy2⟩:=info_parts infoTup;have HO0:=hid (show OwnU u2 u2.heap.size (.slice none 0 0) [] from OwnU.nil _ _);go_wp2
  go_loopw [7,8] (fun a i wr=>∃ (k:Nat) (acc:List Tu),k≤n∧i=.int .i64 k∧Hid (allC (pbsL (cs.take k))=acc)∧Hid (Below u2.heap.size u2 wr)∧Hid (OwnU wr u2.heap.size a acc)∧acc.length≤k * 16) (fun _ i _=>n - (intOf i).toNat)
  case atStart=>exact ⟨0,[],by omega,rfl,hid rfl,hid (Below.refl _ _),HO0,by simp⟩
  case round =>
   clear HO0;obtain ⟨k,acc,hk,rfl,HE,HBr,HO,hal⟩:=hrel;obtain ⟨xa,xc,hxa⟩:=HO.out.form;subst hxa;have hBw:=bel.out.trans (HBr.out.mono bel.out.size);have HR1:=hid (R1.out.below HBr.out R1.out.bl);by_cases hlt:k < n
   ·have hlt':(k:Int) < (n:Int):=by omega
    have hkl:k < cs.length:=by rw [← HN.out]; exact hlt
    obtain ⟨oa',cap',hv',_,hat⟩:=HV.out;obtain ⟨ad,hoa,hab,hpb⟩:=hat k hkl
    injection hv' with g1 g2 g3
    subst g1;subst hoa;have HP:=hid (fun (u:World) (hu:Below u2.heap.size u2 u)=>(hpb.below (bel.out.trans (hu.mono bel.out.size)) hab).seven);have hm:=List.getElem_mem hkl;have h16:=HT16.out _ hm;have HSn:=hid (show allC (pbsL (cs.take (k+1)))=cs[k].p.doc.tuples.foldl dedC acc by rw [all_snoc _ _ hkl,HE.out]);obtain ⟨hgk,hsk⟩:=HG.out _ hm;have HPG:=hid hgk;generalize cs[k]=c at HP HPG h16 HSn;obtain ⟨tb,tcc,hts,htc⟩:=HPG.out.tus;have HTC:=hid htc;obtain ⟨⟨num,who2,tag,til,⟨en2,tl2,nl2⟩⟩,ts2,ns2⟩:=c;simp only at hts htc h16 HSn HTC;subst hts;obtain ⟨tn,htn⟩:∃ tn,tn=tl2.length:=⟨_,rfl⟩
    rw [← htn] at h16 HP;have HTN:=hid htn;clear hat hpb hab g2 g3 hgk hsk hm HE htc htn HPG;go_wp2
    go_loopw [7,9] (fun a i wr2=>∃ (j:Nat) (acc1:List Tu),j≤tn∧i=.int .i64 j∧Hid ((tl2.take j).foldl dedC acc=acc1)∧Hid (Below u2.heap.size u2 wr2)∧Hid (OwnU wr2 u2.heap.size a acc1)∧acc1.length≤k * 16+j) (fun _ i _=>tn - (intOf i).toNat)
    case atStart=>exact ⟨0,acc,by omega,rfl,hid rfl,HBr,HO,by omega⟩
    case round =>
     clear HO HBr hBw HR1;obtain ⟨j,acc1,hj,rfl,HE,HBr,HO,hal1⟩:=hrel;obtain ⟨xa,xc,hxa⟩:=HO.out.form;subst hxa;obtain ⟨c0,c1,c2,c3,c4,c5,c6⟩:=HP.out _ HBr.out;simp only at c0 c1 c2 c3 c4 c5 c6;by_cases hlt2:j < tn
     ·have hlt2':(j:Int) < (tn:Int):=by omega
      have hjl:j < tl2.length:=by rw [← HTN.out]; exact hlt2
      obtain ⟨ad2,hoa2,hab2,hta⟩:=HTC.out j hjl;subst hoa2;have HTT:=hid (fun (u:World) (hu:Below u2.heap.size u2 u)=>hta.below (bel.out.trans (hu.mono bel.out.size)) hab2);have HSn2:=hid (show (tl2.take (j+1)).foldl dedC acc=dedC acc1 tl2[j] by rw [ded_snocU _ _ _ hjl,HE.out]);generalize tl2[j]=t at HTT HSn2;obtain ⟨an,han⟩:∃ an,an=acc1.length:=⟨_,rfl⟩
      have HAN:=hid han;rw [← han] at hal1 ⊢;clear hta hab2 HE han;go_wp2;clear c0 c1 c2 c3 c4 c5 c6
      go_loopw [10,11] (fun f i wr3=>∃ (m:Nat) (b:Bool),m≤an∧i=.int .i64 m∧f=.bool b∧Hid (b=decide (t ∈ acc1.take m))∧Hid (Below wr.heap.size wr wr3)) (fun _ i _=>an - (intOf i).toNat)
      case atStart=>exact ⟨0,false,by omega,rfl,rfl,hid (by simp),hid (Below.refl _ _)⟩
      case round =>
       obtain ⟨m,b,hm,rfl,rfl,HF,HBw⟩:=hrel;have HB3:=hid (HBr.out.trans (HBw.out.mono HBr.out.size));have HO3:=hid (HO.out.below HBw.out);obtain ⟨c0,c1,c2,c3,c4,c5,c6⟩:=HP.out _ HB3.out;simp only at c0 c1 c2 c3 c4 c5 c6;obtain ⟨t0,t1,t2,t3,t4⟩:=HTT.out _ HB3.out;by_cases hlm:m < an
       ·have hlm':(m:Int) < (an:Int):=by omega
        have hml:m < acc1.length:=by rw [← HAN.out]; exact hlm
        cases b with
        | true =>
         have HF2:=hid (show true=decide (t ∈ acc1.take (m+1)) by
          have h:=HF.out;rw [List.take_succ_eq_append_getElem hml]
          symm at h ⊢
          rw [decide_eq_true_iff] at h ⊢;exact List.mem_append_left _ h)
         go_wp2
         go_quiet (fail)
         go_wp2;go_roundw
         case rel=>exact ⟨m+1,true,by omega,by go_num,rfl,HF2,hid (HBw.out.trans ((below_drewN _ _).mono HBw.out.size))⟩
         case measure=>simp [intOf]; omega
        | false =>
         obtain ⟨ao,cap2,hvv,hcell⟩:=HO3.out.tusAt;obtain ⟨ad3,hao,_,z⟩:=hcell m hml
         injection hvv with g1 g2 g3
         subst g1;have HF0:=HF
         have HFm:=hid (show decide (t ∈ acc1.take (m+1))=decide (acc1[m]=t) by
          have h:=HF0.out;rw [List.take_succ_eq_append_getElem hml]
          symm at h
          rw [decide_eq_false_iff_not] at h;by_cases hq:acc1[m]=t
          ·rw [hq]; simp
          ·rw [decide_eq_false (by
            intro hx
            rcases List.mem_append.1 hx with hx | hx
            ·exact h hx
            ·rw [List.mem_singleton] at hx; exact hq hx.symm),decide_eq_false hq])
         subst hao;generalize acc1[m]=s at z HFm;clear hcell g2 g3 HF HF0;obtain ⟨z0,z1,z2,z3,z4⟩:=z
         rcases tu_cmp s t with rfl | ⟨hne,hq⟩
         ·have HF2:=hid (HFm.out.trans (decide_eq_true rfl));obtain ⟨s0,s1,s2,s3,s4⟩:=s;simp only at z0 z1 z2 z3 z4 t0 t1 t2 t3 t4;have e0:(s0==s0)=true:=by simp
          have e2:(s2==s2)=true:=by simp
          have e3:(s3==s3)=true:=by simp
          have e4:(s4==s4)=true:=by simp
          go_wp2
          go_quiet (fail)
          go_wp2;go_roundw
          case rel=>exact ⟨m+1,true,by omega,by go_num,rfl,hid HF2.out.symm,hid (HBw.out.trans ((below_drewN _ _).mono HBw.out.size))⟩
          case measure=>simp [intOf]; omega
         ·have HF2:=hid (HFm.out.trans (decide_eq_false hne));obtain ⟨t'0,t'1,t'2,t'3,t'4⟩:=t;obtain ⟨s'0,s'1,s'2,s'3,s'4⟩:=s;simp only at z0 z1 z2 z3 z4 t0 t1 t2 t3 t4 hq;clear HFm hne
          rcases hq with q0 | ⟨q0,q1⟩ | ⟨q0,q1,q2⟩ | ⟨q0,q1,q2,q3⟩ | ⟨q0,q1,q2,q3,q4⟩
          all_goals (
           go_wp2
           go_quiet (fail)
           go_wp2;go_roundw
           case rel=>exact ⟨m+1,false,by omega,by go_num,rfl,hid HF2.out.symm,hid (HBw.out.trans ((below_drewN _ _).mono HBw.out.size))⟩
           case measure=>simp [intOf]; omega)
       ·have hlm':¬ (m:Int) < (an:Int):=by omega
        have HF2:=hid (show b=decide (t ∈ acc1) by
         have h:=HF.out
         rwa [show m=acc1.length by have:=HAN.out; omega,List.take_length] at h)
        clear HF
        cases b with
        | true =>
         have HA:=hid (show dedC acc1 t=acc1 by
          unfold dedC;rw [if_pos (by have h:=HF2.out; symm at h; rwa [decide_eq_true_iff] at h)])
         go_wp2;go_roundw
         case rel=>exact ⟨j+1,acc1,by omega,by go_num,hid (HSn2.out.trans HA.out),HB3,by rw [HAN.out]; exact HO3,by have:=HAN.out; omega⟩
         case measure=>simp [intOf]; omega
        | false =>
         have HA:=hid (show dedC acc1 t=acc1++[t] by
          unfold dedC;rw [if_neg (by have h:=HF2.out; symm at h; rwa [decide_eq_false_iff_not] at h)])
         have HO4:Hid (OwnU wr u2.heap.size (.slice xa an xc) acc1):=by rw [HAN.out]; exact HO3
         have hb4:Below u2.heap.size u2 (wr.alloc (.cells #[.string ⟨t.id.toArray⟩,.bool t.opn,.string ⟨t.contact.toArray⟩,.int .i64 t.prio,.string ⟨t.note.toArray⟩] 48)):=HB3.out.alloc HB3.out.size _;go_wp2_with (at_builtin; refine wp_appTu _ rfl (.tmp 72) (.tmp 82) 25 rfl u2.heap.size i1 _ Tryz.underlying25 hj1 hy0 hy1 hy2 rfl (.slice xa an xc) acc1 rfl (by exact OwnU.alloc HO4.out _) ⟨_,0,none⟩ 1 t rfl (by exact tu_newP _ t _ rfl) (by have:=HAN.out; omega) u2 (by exact hb4) (by exact hb4.size) ?_; intro v5 w5 hown5 hb5 hB5 hgr; obtain ⟨ya,yk,e5⟩:=hown5.form; rw [show (acc1++[t]).length=an+1 by rw [List.length_append,HAN.out]; rfl] at e5; subst e5)
         go_roundw
         case rel=>exact ⟨j+1,acc1++[t],by omega,by go_num,hid (HSn2.out.trans HA.out),hid hb5,hid hown5,by rw [List.length_append]; have:=HAN.out; simp; omega⟩
         case measure=>simp [intOf]; omega
     ·have hlt2':¬ (j:Int) < (tn:Int):=by omega
      have HE2:=hid (show tl2.foldl dedC acc=acc1 by
       have h:=HE.out
       rwa [show j=tl2.length by have:=HTN.out; omega,List.take_length] at h)
      go_wp2;go_roundw
      case rel=>exact ⟨k+1,acc1,by omega,by go_num,hid (HSn.out.trans HE2.out),HBr,HO,by omega⟩
      case measure=>simp [intOf]; omega
   ·have hlt':¬ (k:Int) < (n:Int):=by omega
    have HE2:=hid (show allC (pbsL cs)=acc by
     have h:=HE.out
     rwa [show k=cs.length by have:=HN.out; omega,List.take_length] at h)
    rw [HE2.out] at HQ1 HQ3;obtain ⟨an,han⟩:∃ an,an=acc.length:=⟨_,rfl⟩
    obtain ⟨tn,htn⟩:∃ tn,tn=tl.length:=⟨_,rfl⟩
    rw [← han,← htn] at HQ1;rw [← htn] at HR1 HT;have HAN:=hid han;have HTN:=hid htn;rw [← han];have HTU:=hid (HT.out.below HBr.out);obtain ⟨x0,x1,x2,-,-,-⟩:=HR1.out.rc3;clear han htn HE hBw;obtain ⟨U3,rfl⟩:∃ U,U=wr:=⟨_,rfl⟩
    obtain ⟨i2,hk2,hv0,hv1,hv2⟩:=info_parts infoStrC
    rcases (show (((tn:Int) != (an:Int))=false)∨(((tn:Int) != (an:Int))=true∧decide ((an:Int)≤16)=false∧((tn:Int) != 16)=false) from by
     have hq1:=HQ1.out;by_cases h16:an≤16
     ·left
      have:tn=an:=by omega
      simp [this]
     ·right
      have:tn=16:=by omega
      refine ⟨by simp; omega,decide_eq_false (by omega),by simp [this]⟩) with qa | ⟨qa,qb,qc⟩
    all_goals (
     have HOI:=hid (show Own U3 U3.heap.size 9 (.slice none 0 0) (strs (([]:List Tu).map Tu.id)) from ⟨rfl,.inl ⟨rfl,rfl⟩⟩);have hsz1:=HO.out.tusAt;have hsz2:=HTU.out.tusAt;rw [← HAN.out] at hsz1

     have HS1:=hid hsz1;have HS2:=hid hsz2;have hle:tn≤an:=by have:=HQ1.out; omega
     have hle16:tn≤16:=by have:=HQ1.out; omega
     clear hsz1 hsz2;go_wp2;clear x0 x1 x2
     go_loopw [12,13] (fun a i wr2=>∃ (q:Nat),q≤tn∧i=.int .i64 q∧Hid (Below U3.heap.size U3 wr2)∧Hid (Own wr2 U3.heap.size 9 a (strs ((tl.take q).map Tu.id)))) (fun _ i _=>tn - (intOf i).toNat)
     case atStart=>exact ⟨0,by omega,rfl,hid (Below.refl _ _),HOI⟩
     case round =>
      obtain ⟨q,hq,rfl,HBq,HIq⟩:=hrel;obtain ⟨ia,ic,hia⟩:=own_formP HIq.out;rw [show (strs ((tl.take q).map Tu.id)).length=q by simp [strs]; have:=HTN.out; omega] at hia;subst hia;have HR2:=hid (HR1.out.below HBq.out HR1.out.bl);obtain ⟨x0,x1,x2,-,-,-⟩:=HR2.out.rc3;by_cases hqt:q < tn
      ·have hqt':(q:Int) < (tn:Int):=by omega
       have hqa':(q:Int) < (an:Int):=by omega
       obtain ⟨_,_,e1,hc1⟩:=HS1.out;obtain ⟨_,_,e2,hc2⟩:=HS2.out
       injection e1 with e11 e12 e13
       injection e2 with e21 e22 e23
       subst e11 e21;clear e12 e13 e22 e23;obtain ⟨ad3,h31,h32,z⟩:=hc1 q (by have:=HAN.out; omega);obtain ⟨ad4,h41,h42,y⟩:=hc2 q (by have:=HTN.out; omega);subst h31 h41;have z:=z.below HBq.out h32;have hq3:=HQ3.out q (by have:=HTN.out; omega) (by have:=HAN.out; omega);have HSn:=hid (show (tl.take (q+1)).map Tu.id=(tl.take q).map Tu.id++[(tl[q]'(by have:=HTN.out; omega)).id] by rw [List.take_succ_eq_append_getElem (by have:=HTN.out; omega),List.map_append]; rfl);generalize tl[q]'(by have:=HTN.out; omega)=T at y hq3 HSn;generalize acc[q]'(by have:=HAN.out; omega)=S at z hq3;obtain ⟨t0,t1,t2,t3,t4⟩:=T;obtain ⟨s0,s1,s2,s3,s4⟩:=S;simp only [Tu.mk.injEq,true_and] at hq3;obtain ⟨rfl,rfl,rfl,rfl⟩:=hq3;obtain ⟨z0,z1,z2,z3,z4⟩:=z;simp only at z0 z1 z2 z3 z4;have b3:=(Below.refl wr.heap.size wr).alloc (Nat.le_refl _) (.cells #[.string ⟨s0.toArray⟩,.bool t1,.string ⟨t2.toArray⟩,.int .i64 t3,.string ⟨t4.toArray⟩] 48);have RT:=rc_row5 wr (.string ⟨s0.toArray⟩) (.bool t1) (.string ⟨t2.toArray⟩) (.int .i64 t3) (.string ⟨t4.toArray⟩) 48;have HR3:=hid (HR2.out.below b3 HR2.out.bl);have HI3:=hid (HIq.out.below b3);have HB3:=hid (HBq.out.trans (b3.mono HBq.out.size));have hgt:U3.heap.size≤wr.heap.size:=HBq.out.size
       go_upto_region 27 with fail
       clear x0 x1 x2 z0 z1 z2 z3 z4;generalize wr.heap.size=gt at RT hgt ⊢;generalize World.alloc _ _=u4 at RT HR3 HI3 HB3 ⊢;obtain ⟨x0,x1,x2,-,-,-⟩:=HR3.out.rc3;obtain ⟨z0,z1,z2,z3,z4,f0,f1,f2,f3,f4⟩:=RT.rc5;have y3:=y.below HB3.out h42;obtain ⟨y0,y1,y2,y3,y4⟩:=y3;simp only at y0 y1 y2 y3 y4
       go_upto_region 28 with fail
       clear x0 x1 x2 y0 y1 y2 y3 y4 z0 z1 z2 z3 z4 f0 f1 f2 f3 f4;have RT5:RowIs (u4.setCell ⟨gt,0,none⟩ (.string ⟨t0.toArray⟩)) gt 48 [.string ⟨t0.toArray⟩,.bool t1,.string ⟨t2.toArray⟩,.int .i64 t3,.string ⟨t4.toArray⟩]:=by simpa using RT.set 0 (.string ⟨t0.toArray⟩)
       have HR5:=hid (row_other HR3.out (rows_ne HR3.out RT (by decide)) 0 (.string ⟨t0.toArray⟩));have HI5:=hid (show Own (u4.setCell ⟨gt,0,none⟩ (.string ⟨t0.toArray⟩)) U3.heap.size 9 (.slice ia q ic) (strs ((tl.take q).map Tu.id)) from World.ownsRow.kept HI3.out (put_grown u4 gt 0 (.string ⟨t0.toArray⟩)) (own_ne HI3.out RT (by decide)));have HB5:=hid (HB3.out.setCell (p:=⟨gt,0,none⟩) hgt (.string ⟨t0.toArray⟩));clear HR3 HI3 HB3 RT b3;generalize World.setCell _ _ _=u5 at RT5 HR5 HI5 HB5 ⊢;obtain ⟨x0,x1,x2,-,-,-⟩:=HR5.out.rc3;obtain ⟨z0,z1,z2,z3,z4,-,-,-,-,-⟩:=RT5.rc5;have y3:=y.below HB5.out h42;obtain ⟨y0,y1,y2,y3,y4⟩:=y3;simp only at y0 y1 y2 y3 y4;have e0:(t0==t0)=true:=by simp
       have e2:(t2==t2)=true:=by simp
       have e3:(t3==t3)=true:=by simp
       have e4:(t4==t4)=true:=by simp
       go_wp2
       go_quiet (fail)
       clear x0 x1 x2 y0 y1 y2 y3 y4 z0 z1 z2 z3 z4;have RT6:=hid (RT5.below (below_drewN u5 nq) RT5.bl);have HI6:=hid (HI5.out.below (below_drewN u5 nq));have HB6:=hid (HB5.out.trans ((below_drewN u5 nq).mono HB5.out.size));clear RT5 HR5 HI5 HB5;generalize World.drewN u5 _=u6 at RT6 HI6 HB6 ⊢;obtain ⟨z0,z1,z2,z3,z4,-,-,-,-,-⟩:=RT6.out.rc5;have hlI:(strs ((tl.take q).map Tu.id)).length=q:=by simp [strs]; have:=HTN.out; omega
       have HO6:=hid (show (u6.alloc (.cells #[.string ⟨t0.toArray⟩] 9)).ownsRow U3.heap.size 9 1 (.slice ia q ic) q (strs ((tl.take q).map Tu.id)) from ids_own (HI6.out.below ((Below.refl _ u6).alloc (Nat.le_refl _) _)) hlI);have hb7:Below U3.heap.size U3 (u6.alloc (.cells #[.string ⟨t0.toArray⟩] 9)):=HB6.out.alloc HB6.out.size _;go_wp2_with (at_builtin; refine wpList_append_own _ rfl (.tmp 126) (.tmp 129) 26 rfl U3.heap.size 9 i2 _ 1 16 Tryz.underlying26 hk2 hv0 hv1 hv2 rfl (by decide) (.slice ia q ic) q (strs ((tl.take q).map Tu.id)) rfl (by exact HO6.out) ⟨_,0,none⟩ 1 1 [.string ⟨t0.toArray⟩] rfl rfl (by intro j2 v2 hj2; exact one_new _ _ _ j2 v2 hj2) (by intro v hv; simp at hv; subst hv; rfl) (by unfold maxLen; omega) (by omega) (by exact hb7.size) ?_; intro v7 w7 ho7 hg7 _; have hB7:=hid (Below.grown hb7 hg7 hb7.size (fun g hg=>(World.ownsRow.lt HO6.out g hg).1)); have hO7:=hid (show Own w7 U3.heap.size 9 v7 (strs ((tl.take q).map Tu.id++[t0])) from (by rw [show strs ((tl.take q).map Tu.id++[t0])=strs ((tl.take q).map Tu.id)++[.string ⟨t0.toArray⟩] from by simp [strs]]; unfold Own; rw [List.length_append,hlI]; exact ho7)); obtain ⟨ya,yk,e7⟩:=own_formP hO7.out; rw [show (strs ((tl.take q).map Tu.id++[t0])).length=q+1 by simp [strs]; have:=HTN.out; omega] at e7; subst e7; clear ho7 hg7)
       go_roundw
       case rel=>exact ⟨q+1,by omega,by go_num,hB7,by rw [HSn.out]; exact hO7⟩
       case measure=>simp [intOf]; omega
      ·have hqt':¬ (q:Int) < (tn:Int):=by omega
       have hqq:q=tn:=by omega
       have HI7:=hid (show Own wr U3.heap.size 9 (.slice ia tn ic) (strs (tl.map Tu.id)) from by
        have h:=HIq.out;have e:tl.take q=tl:=List.take_of_length_le (by have:=HTN.out; omega);rw [e,hqq] at h;exact h)
       have HC7:=hid (strsAt_own HI7.out);clear HI7 HIq;obtain ⟨_,_,e1,hci⟩:=HC7.out
       injection e1 with e11 e12 e13
       subst e11;have HCI:=hid hci;have HB7:=hid (bel.out.trans ((HBr.out.trans (HBq.out.mono HBr.out.size)).mono bel.out.size));clear e12 e13 hci HC7;go_wp2;clear x0 x1 x2;obtain ⟨U5,rfl⟩:∃ U,U=wr:=⟨_,rfl⟩
       go_loopw [15] (fun i wr3=>∃ (q:Nat),q≤tn∧i=.int .i64 q∧Hid (Below U5.heap.size U5 wr3)) (fun i _=>tn - (intOf i).toNat)
       case atStart=>exact ⟨0,by omega,rfl,hid (Below.refl _ _)⟩
       case round =>
        obtain ⟨q1,hq1,rfl,HB1⟩:=hrel;by_cases hqt1:q1 < tn
        ·have hqt1':(q1:Int) < (tn:Int):=by omega
         go_wp2
         go_loopw [16] (fun i wr4=>∃ (q2:Nat),q2≤q1∧i=.int .i64 q2∧Hid (Below U5.heap.size U5 wr4)) (fun i _=>q1 - (intOf i).toNat)
         case atStart=>exact ⟨0,by omega,rfl,HB1⟩
         case round =>
          obtain ⟨q2,hq2,rfl,HB2⟩:=hrel;by_cases hlt9:q2 < q1
          ·have hlt9':(q2:Int) < (q1:Int):=by omega
           have hlt8':(q2:Int) < (tn:Int):=by omega
           have hl1:q1 < (tl.map Tu.id).length:=by rw [List.length_map]; have:=HTN.out; omega
           have hl2:q2 < (tl.map Tu.id).length:=by rw [List.length_map]; have:=HTN.out; omega
           obtain ⟨ad5,h51,h52,z5⟩:=HCI.out q1 hl1;subst h51;obtain ⟨ad6,h61,h62,z6⟩:=HCI.out q2 hl2
           injection h61 with h61
           subst h61;have z5:=cell_below HB2.out (by rw [add_block]; exact h52) z5;have z6:=cell_below HB2.out (by rw [add_block]; exact h52) z6
           have hne:((tl.map Tu.id)[q1]==(tl.map Tu.id)[q2])=false:=by
            have h:=List.pairwise_iff_getElem.1 HQ2.out q2 q1 hl2 hl1 hlt9
            cases hbe:((tl.map Tu.id)[q1]==(tl.map Tu.id)[q2]) with
            | false=>rfl
            | true=>exact absurd (eq_of_beq hbe).symm h
           generalize (tl.map Tu.id)[q1]=s1 at z5 hne;generalize (tl.map Tu.id)[q2]=s2 at z6 hne;go_wp2
           go_quiet (fail)
           go_wp2;go_roundw
           case rel=>exact ⟨q2+1,by omega,by go_num,hid (HB2.out.trans ((below_drewN _ _).mono HB2.out.size))⟩
           case measure=>simp [intOf]; omega
          ·have hlt9':¬ (q2:Int) < (q1:Int):=by omega
           go_wp2;go_roundw
           case rel=>exact ⟨q1+1,by omega,by go_num,HB2⟩
           case measure=>simp [intOf]; omega
        ·have hqt1':¬ (q1:Int) < (tn:Int):=by omega
         have HB8:=hid (HB7.out.trans (HB1.out.mono HB7.out.size));go_wp2_with fail
         refine (KW.out _).mono ?_
         rintro e w9 ⟨rfl,hb9⟩;have HB9:=hid (HB8.out.trans (hb9.mono HB8.out.size));clear hb9;go_wp2;go_ret;exact ⟨rfl,HB9.out⟩)
end Go.Proofs.YtldkidljjbkmbaaGreatDoor.compOwn
