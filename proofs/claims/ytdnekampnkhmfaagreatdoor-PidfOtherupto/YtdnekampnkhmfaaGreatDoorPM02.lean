/-
  Parts, OpenUri, XmlTreeL, OpenNode, RX3, RX8, RX10, OpenAddr, OpenDoc, RefDig, PR3, RX11, PP4, OpenDoc2.
-/
import Derived.Test.YtdnekampnkhmfaaGreatDoorPM35
set_option linter.unusedVariables false
set_option linter.unusedSimpArgs false
set_option maxRecDepth 20000
namespace Go.Proofs.YtdnekampnkhmfaaGreatDoor
open Go.RowKit Sc
structure Pl where
 q:Bool
 e:Bool
 a:Bool
end Go.Proofs.YtdnekampnkhmfaaGreatDoor
namespace Go.Proofs.YtdnekampnkhmfaaGreatDoor
open Go.RowKit Go.ChangeShapes Go.WideShapes Go.Deep
theorem cellsStr:Tryz.prog.cellsOf 9=1:=by kernel_rfl
theorem cellsInt:Tryz.prog.cellsOf 3=1:=by kernel_rfl
theorem back (s:ByteArray):(⟨s.data.toList.toArray⟩:ByteArray)=s:=by apply ByteArray.ext; simp
end Go.Proofs.YtdnekampnkhmfaaGreatDoor
namespace Go.Proofs.YtdnekampnkhmfaaGreatDoor
open Go.RowKit Sc
theorem flatX_pos (d:Nat) (t:XT):1≤(flatX d t).length:=by obtain ⟨n,a,tx,k⟩:=t; rw [flatX]; simp
end Go.Proofs.YtdnekampnkhmfaaGreatDoor
namespace Go.Proofs.YtdnekampnkhmfaaGreatDoor
open Go.RowKit Go.ChangeShapes Go.WideShapes Go.Deep
section
variable {H : Type} {enc : TypeId × Value → H} {W : World} {sp : Nat → Bool}
theorem bulk_all:∀ (ds:List (DataW H)),ds.length≤Rows.uptoBulkAll ds∧∀ k (hk:k < ds.length),Rows.uptoBulk ds[k]≤Rows.uptoBulkAll ds
 | []=>⟨by simp,fun k hk=>by simp at hk⟩
 | d :: ds=>by
  obtain ⟨i1,i2⟩:=bulk_all ds;have h2:1≤Rows.uptoBulk d:=by unfold Rows.uptoBulk; split <;> omega
  simp only [Rows.uptoBulkAll,List.length_cons];refine ⟨by omega,fun k hk=>?_⟩
  cases k with
  | zero=>simp only [List.getElem_cons_zero]; omega
  | succ k=>have:=i2 k (by simpa using hk); simp only [List.getElem_cons_succ]; omega
end
end Go.Proofs.YtdnekampnkhmfaaGreatDoor
namespace Go.Proofs.YtdnekampnkhmfaaGreatDoor
open Go.RowKit Sc
theorem esc_snoc (s:ByteArray) (k:Nat) (h:k < s.size) {t:List UInt8} (ht:escS s[k]=t):escX (s.data.toList.take k)++t=escX (s.data.toList.take (k+1)):=by
 rw [take_snoc s k h,escX_app,← ht]
 congr 1
 simp [escX]
set_option maxHeartbeats 2000000 in
set_option maxRecDepth 100000 in
theorem rescaped_any (s:ByteArray) (w:World) (hs:s.size≤1048576) :
  Calls Tryz.prog 118 #[.string s] w fun e w'=>e=.returned (.string ⟨(escX s.data.toList).toArray⟩)∧w'=w:=by
 have HS:Hid (∀ (k:Nat) (h:k < s.size) (t:Array UInt8),escS s[k]=t.toList → (⟨(escX (s.data.toList.take k)).toArray⟩:ByteArray)++⟨t⟩=⟨(escX (s.data.toList.take (k+1))).toArray⟩):=fun k h t ht=>by rw [glueB,esc_snoc s k h ht]
 have HT:Hid (∀ k,s.size≤k → escX (s.data.toList.take k)=escX s.data.toList):=fun k hk=>by rw [take_all s k hk]
 have HL:Hid (∀ k,(escX (s.data.toList.take k)).length≤6291456):=fun k=>by
  have:=escX_len (s.data.toList.take k)
  rw [List.length_take,len_data] at this; omega
 generalize escX s.data.toList=R at HT ⊢
 go_enter Tryz.func118,Tryz.ntmps118
 go_wp2
 go_loop [3,4] (fun o i=>∃ k:Nat,k≤s.size∧i=.int .i64 k∧o=.string ⟨(escX (s.data.toList.take k)).toArray⟩) (fun _ i=>s.size - (intOf i).toNat)
 case atStart=>exact ⟨0,Nat.zero_le _,rfl,rfl⟩
 case round =>
  obtain ⟨k,hk,rfl,rfl⟩:=hrel;by_cases hlt:k < s.size
  ·have hbd:=u8_bd s[k];have hw1:IntKind.i64.wrap ((k:Int)+1)=((k+1:Nat):Int):=by rw [IntKind.wrap_i64]; omega
   have hll:=HL.out k;have hz:=size_list (escX (s.data.toList.take k));by_cases h38:s[k]=38
   ·have q1:((s[k].toNat:Int)==38)=true:=u8_eq (b:=38) h38;have HA:=hid (HS.out k hlt #[38,97,109,112,59] (by rw [h38]; rfl));clear h38 HT HS HL;go_wp2
    go_round
    case rel=>exact ⟨k+1,by omega,by go_num,by rw [← HA.out]⟩
    case measure=>simp [intOf]; omega
   have q1:((s[k].toNat:Int)==38)=false:=u8_ne (b:=38) h38;by_cases h60:s[k]=60
   ·have q2:((s[k].toNat:Int)==60)=true:=u8_eq (b:=60) h60;have HA:=hid (HS.out k hlt #[38,108,116,59] (by rw [h60]; rfl));clear h38 h60 HT HS HL;go_wp2
    go_round
    case rel=>exact ⟨k+1,by omega,by go_num,by rw [← HA.out]⟩
    case measure=>simp [intOf]; omega
   have q2:((s[k].toNat:Int)==60)=false:=u8_ne (b:=60) h60;by_cases h62:s[k]=62
   ·have q3:((s[k].toNat:Int)==62)=true:=u8_eq (b:=62) h62;have HA:=hid (HS.out k hlt #[38,103,116,59] (by rw [h62]; rfl));clear h38 h60 h62 HT HS HL;go_wp2
    go_round
    case rel=>exact ⟨k+1,by omega,by go_num,by rw [← HA.out]⟩
    case measure=>simp [intOf]; omega
   have q3:((s[k].toNat:Int)==62)=false:=u8_ne (b:=62) h62;by_cases h34:s[k]=34
   ·have q4:((s[k].toNat:Int)==34)=true:=u8_eq (b:=34) h34;have HA:=hid (HS.out k hlt #[38,113,117,111,116,59] (by rw [h34]; rfl));clear h38 h60 h62 h34 HT HS HL;go_wp2
    go_round
    case rel=>exact ⟨k+1,by omega,by go_num,by rw [← HA.out]⟩
    case measure=>simp [intOf]; omega
   have q4:((s[k].toNat:Int)==34)=false:=u8_ne (b:=34) h34;have HA:=hid (HS.out k hlt #[s[k]] (by unfold escS; rw [if_neg h38,if_neg h60,if_neg h62,if_neg h34]));have he:=one_ext s k hlt;have hb1:((k+1:Nat):Int)≤(s.size:Int):=by omega
   clear h38 h60 h62 h34 HT HS HL;go_wp2
   go_round
   case rel=>exact ⟨k+1,by omega,by go_num,by rw [← HA.out,← he]⟩
   case measure=>simp [intOf]; omega
  ·have hR:=hid (HT.out k (by omega));clear HT HS HL;go_wp2;go_ret;exact ⟨by rw [← hR.out]; rfl,rfl⟩
theorem cellD {w W:World} {q:Nat} {a:Addr} {v:Value} (hW:W=w.drewN q) (h:w.cell? a=some v):W.cell? a=some v:=by subst hW; exact h
theorem rxesc_list (l:List UInt8) (w:World) (h:l.length≤1048576) :
  Calls Tryz.prog 118 #[.string ⟨l.toArray⟩] w fun e w'=>e=.returned (.string ⟨(escX l).toArray⟩)∧w'=w:=rescaped_any ⟨l.toArray⟩ w (by rw [size_list]; exact h)
theorem glueA (a n e:List UInt8):((((((⟨a.toArray⟩:ByteArray)++⟨#[32]⟩)++⟨n.toArray⟩)++⟨#[61,34]⟩)++⟨e.toArray⟩)++⟨#[34]⟩)=⟨(a++([32]++n++[61,34]++e++[34])).toArray⟩:=by
 simp [ByteArray.mk_append_mk]
theorem glueL (a b:List UInt8):(⟨a.toArray⟩:ByteArray)++⟨b.toArray⟩=⟨(a++b).toArray⟩:=by
 rw [ByteArray.mk_append_mk]; try simp
theorem glueE (s i n:List UInt8):(((((⟨s.toArray⟩:ByteArray)++⟨#[62]⟩)++⟨i.toArray⟩)++⟨#[60,47]⟩)++⟨n.toArray⟩)++⟨#[62]⟩=⟨(s++([62]++i++([60,47]++n++[62]))).toArray⟩:=by
 simp [ByteArray.mk_append_mk]
def WrRes (v:Value) (k:Nat) (s:List UInt8) (n:Nat) (w:World):Prop :=
 Calls Tryz.prog 63 #[v,.int .i64 k] w fun e w'=>e=.returned (.tuple #[.string ⟨s.toArray⟩,.int .i64 n])∧Below w.heap.size w w'
set_option maxHeartbeats 8000000 in
set_option maxRecDepth 100000 in
theorem rwritten_step (N:Nat) (ih:∀ (t:XT),szX t≤N → ∀ (v:Value) (cs:List NdC) (k d:Nat) (post:List Nd) (w:World),NdsAt w v cs → cs.length≤1048576 → (∀ c ∈ cs,SmallN 1048576 c.nd) → (ndsL cs).drop k=flatX d t++post → (∀ x,post.head? = some x → x.deep≤(d:Int)) → (printX t).length≤1099511627776 → WrRes v k (printX t) (k+(flatX d t).length) w) :
  ∀ (t:XT),szX t≤N+1 → ∀ (v:Value) (cs:List NdC) (k d:Nat) (post:List Nd) (w:World),NdsAt w v cs → cs.length≤1048576 → (∀ c ∈ cs,SmallN 1048576 c.nd) → (ndsL cs).drop k=flatX d t++post → (∀ x,post.head? = some x → x.deep≤(d:Int)) → (printX t).length≤1099511627776 → WrRes v k (printX t) (k+(flatX d t).length) w:=by
 intro t ht v cs k d post w hv hz hsm hdrop hpost hpl;obtain ⟨nm,ps,tx,ks⟩:=t;have hpl2:=print_len nm ps tx ks;have HPl:=hid hpl;rw [flatX,List.cons_append] at hdrop;obtain ⟨hk,hnd,hdrop1⟩:=drop_nd hdrop;have HI:Hid (∀ (t:XT),szX t≤N → ∀ (k d:Nat) (post:List Nd) (w:World),NdsAt w v cs → (ndsL cs).drop k=flatX d t++post → (∀ x,post.head? = some x → x.deep≤(d:Int)) → (printX t).length≤1099511627776 → WrRes v k (printX t) (k+(flatX d t).length) w):=fun t ht k d post w hv=>ih t ht v cs k d post w hv hz hsm;have hvv:=hv;obtain ⟨ao,cap,rfl,hc⟩:=hv;obtain ⟨ad,hao,hab,c0,pa⟩:=hc k hk;subst hao;obtain ⟨s1,s2,s3,s4⟩:=hsm cs[k] (List.getElem_mem hk);have HV:=hid hvv;have HC:Hid (∀ j (hj:j < cs.length),NdAt w ad j cs[j]):=fun j hj=>by
  obtain ⟨ad3,hao3,_,c3,_⟩:=hc j hj
  have:ad3=ad:=(Option.some.inj hao3).symm
  subst this; exact c3
 clear hc hvv ih hsm;rw [hnd] at pa s1 s2 s3 s4;simp only at pa s1 s2 s3 s4;obtain ⟨c0,c1,c2,c3⟩:=c0;rw [hnd] at c0 c1 c3;simp only at c0 c1 c3;obtain ⟨pao,pcap,hpa,hpc⟩:=pa.open;have HPar:=hid hpc;rw [hpa] at c2;have s3z:=s3.1;have HS3:=hid s3.2;have s5:=i64_of s4;have HAt:Hid (∀ j (hj:j < ps.length) (S:List UInt8),S=[60]++nm++attrsT (ps.take j) → ((((((⟨S.toArray⟩:ByteArray)++⟨#[32]⟩)++⟨ps[j].name.toArray⟩)++⟨#[61,34]⟩)++⟨(escX ps[j].value).toArray⟩)++⟨#[34]⟩)=⟨([60]++nm++attrsT (ps.take (j+1))).toArray⟩):=fun j hj S hS=>by
  rw [glueA,attrsT_snoc hj,hS]; unfold attrT; simp
 have HA0:Hid ((⟨#[60]⟩:ByteArray)++⟨nm.toArray⟩=⟨([60]++nm++attrsT (ps.take 0)).toArray⟩):=show _=_ by rw [ByteArray.mk_append_mk]; simp [attrsT]
 have HAe:Hid (attrsT (ps.take ps.length)=attrsT ps):=show _=_ by rw [List.take_length]
 obtain ⟨pn,hpn⟩:∃ pn,pn=ps.length:=⟨_,rfl⟩
 rw [← hpn] at c2 HAe s3z;have HPN:=hid hpn;clear hpn hpc s3 s4;have hr0':=rc_row4 w (.int .i64 (d:Int)) (.string ⟨nm.toArray⟩) (.slice pao pn pcap) (.string ⟨tx.toArray⟩) 52;have hb0:Below w.heap.size w (w.alloc (.cells #[.int .i64 (d:Int),.string ⟨nm.toArray⟩,.slice pao pn pcap,.string ⟨tx.toArray⟩] 52)):=(Below.refl _ w).alloc (Nat.le_refl _) _;have hlt0:=alloc_lt w (.cells #[.int .i64 (d:Int),.string ⟨nm.toArray⟩,.slice pao pn pcap,.string ⟨tx.toArray⟩] 52);have q6:(k:Int) < (cs.length:Int):=by omega
 obtain ⟨n,hn⟩:∃ n,n=cs.length:=⟨_,rfl⟩
 rw [← hn] at hz q6 ⊢;have HL:=hid hn;have HD:=hid hdrop1;have HPo:=hid hpost;have HT:=hid ht;clear hn hdrop hdrop1 hpost ht hnd hpa pa;unfold WrRes
 go_enter Tryz.func63,Tryz.ntmps63
 go_wp2;generalize World.alloc _ _=W0 at hr0' hb0 hlt0 ⊢;have hr0:=hid hr0';have hzc:(escX tx).length≤6291456:=by have:=escX_len tx; omega
 clear hr0' c0 c1 c2 c3
 go_loopw [7,8] (fun sv i wr=>∃ (j q:Nat),j≤pn∧i=.int .i64 j∧sv=.string ⟨([60]++nm++attrsT (ps.take j)).toArray⟩∧wr=W0.drewN q) (fun _ i _=>pn - (intOf i).toNat)
 case atStart=>exact ⟨0,0,Nat.zero_le _,rfl,by rw [HA0.out],rfl⟩
 case round =>
  obtain ⟨j,q,hj,rfl,rfl,rfl⟩:=hrel;by_cases hlt:j < pn
  ·have hjl:j < ps.length:=by have:=HPN.out; omega
   obtain ⟨a,hpao,hpab,d0⟩:=HPar.out j hjl;subst hpao;obtain ⟨W,hW⟩:∃ W,W=W0.drewN q:=⟨_,rfl⟩
   have hrW:RowIs W w.heap.size 52 [.int .i64 (d:Int),.string ⟨nm.toArray⟩,.slice (some a) pn pcap,.string ⟨tx.toArray⟩]:=by rw [hW]; exact hr0.out.below (belowD _ _ _) hlt0
   obtain ⟨b0,b1,b2,b3,_,_,_,_⟩:=hrW.rc4;obtain ⟨d0,d1,d2⟩:=d0.below hb0 hpab;replace d0:=cellD hW d0;replace d1:=cellD hW d1;replace d2:=cellD hW d2;have hs:=HS3.out ps[j] (List.getElem_mem hjl);have KE:=hid (fun w'=>rxesc_list ps[j].value w' hs.2);have HG:=hid (HAt.out j hjl _ rfl);have z1:([60]++nm++attrsT (ps.take j)).length+4+ps[j].name.length+(escX ps[j].value).length≤1099511627776:=by
    have:=attrsT_len hjl
    rw [attrT_len] at this;simp only [List.length_append,List.length_cons,List.length_nil];omega
   have hEW:Hid (∀ m,∃ q',W.drewN m=W0.drewN q'):=fun m=>⟨q+m,by rw [hW,World.drewN_drewN]⟩
   have q7:(j:Int) < (pn:Int):=by omega
   rw [← hW];clear hW hrW HI HV HC HD HPo HT HAt HA0 HAe HPar HS3 hs hr0 hb0 hlt0;generalize ps[j]=P at d0 d1 d2 KE HG z1;obtain ⟨pn',pv,ph⟩:=P;simp only at d0 d1 d2 KE HG z1;generalize [60]++nm++attrsT (ps.take j)=S at HG z1 ⊢;have z2:=size_list S;have z3:=size_list pn';have z4:=size_list (escX pv);generalize escX pv=ev at KE HG z1 z4;go_wp2
   go_quiet (first | (go_at_call 118; exact Calls.quiet_of_same (KE.out _)))
   go_wp2;go_roundw
   case rel =>
    obtain ⟨q',hq'⟩:=hEW.out nq;exact ⟨j+1,q',by omega,by go_num,by rw [HG.out],hq'⟩
   case measure=>simp [intOf]; omega
  ·have hje:j=pn:=by omega
   subst hje;rw [HAe.out];have KE:=hid (fun w'=>rxesc_list tx w' s2);have hrq:=hid (hr0.out.below (belowD _ W0 q) hlt0);have hbq:Below w.heap.size w (W0.drewN q):=hb0.trans (belowD _ _ _);have hltq:w.heap.size < (W0.drewN q).heap.size:=hlt0;have hwk:IntKind.i64.wrap ((k:Int)+1)=(k:Int)+1:=by rw [IntKind.wrap_i64]; omega
   obtain ⟨S,hS⟩:∃ S,S=[60]++nm++attrsT ps:=⟨_,rfl⟩
   rw [← hS];have HSe:=hid hS;clear HAt HA0 HAe HPar HS3 hr0 hb0 hlt0 hS;generalize W0.drewN q=W1 at hrq hbq hltq ⊢;obtain ⟨b0,b1,b2,b3,_,_,_,_⟩:=hrq.out.rc4;go_wp2_with (go_at_call 118; refine (KE.out _).mono ?_; rintro e w' ⟨rfl,rfl⟩)
   clear b0 b1 b2 b3 KE
   go_loopw [9,10] (fun nx iv wr=>∃ (done rest:List XT) (x:Nat),nx=.int .i64 (x:Int)∧iv=.string ⟨(escX tx++printXs done).toArray⟩∧Hid (ks=done++rest)∧Hid (x=k+1+(flatXs (d+1) done).length)∧x≤n∧Hid ((ndsL cs).drop x=flatXs (d+1) rest++post)∧Below w.heap.size w wr∧w.heap.size < wr.heap.size∧Hid (RowIs wr w.heap.size 52 [.int .i64 (d:Int),.string ⟨nm.toArray⟩,.slice pao j pcap,.string ⟨tx.toArray⟩])) (fun nx _ _=>n - (intOf nx).toNat)
   case atStart=>exact ⟨[],ks,k+1,by go_num,by rw [printXs,List.append_nil],show _=_ from rfl,show _=_ by rw [flatXs]; rfl,by omega,HD,hbq,hltq,hrq⟩
   case round =>
    obtain ⟨done,rest,x,rfl,rfl,hdr,hx,hxn,hD2,hb,hl,hr⟩:=hrel;clear hrq hbq hltq;obtain ⟨b0,b1,b2,b3,_,_,_,_⟩:=hr.out.rc4;have hBW:Hid (∀ m,Below w.heap.size w (wr.drewN m)):=fun m=>hb.trans (belowD _ _ _);have z9:(escX tx++printXs done).length≤1099511627776:=by
     have h1:=HPl.out;have h2:=hpl2;rw [hdr.out,printXs_app,List.length_append] at h2;rw [hdr.out] at h1;rw [List.length_append]; omega
    cases rest with
    | nil =>
     by_cases hxl:x < n
     ·have hxc:x < cs.length:=by have:=HL.out; omega
      have q8:(x:Int) < (n:Int):=by omega
      have q8d:decide ((x:Int) < (n:Int))=true:=decide_eq_true q8;obtain ⟨e0,_,_,_⟩:=(HC.out x hxc).below hb hab;have hle:cs[x].nd.deep≤(d:Int):=by
       have h1:=hD2.out;rw [flatXs,List.nil_append] at h1;refine HPo.out _ ?_
       rw [← h1,List.head?_drop]
       simp [ndsL,hxc]
      generalize cs[x].nd.deep=xd at e0 hle;have q9:decide ((d:Int) < xd)=false:=decide_eq_false (by omega);have hks:ks=done:=by rw [hdr.out,List.append_nil]
      clear HI HV HC HD HT;by_cases hI:escX tx++printXs done=[]
      ·have hP:Hid (printX (.mk nm ps tx ks)=S++[47,62]):=show _=_ by rw [hks,print_nil hI,HSe.out]
       rw [hI];have z5:S.length+2≤1099511627776:=by have h1:=HPl.out; rw [hP.out] at h1; simpa using h1
       have z6:=size_list S;have HG:=hid (glueB S #[47,62]);have hF:Hid (k+(flatX d (.mk nm ps tx ks)).length=x):=show _=_ by rw [hx.out,flatX,hks,List.length_cons]; omega
       clear hI HSe HPl hpl hpl2 hx hks hdr hD2;go_wp2
       go_quiet (fail)
       go_wp2;go_ret2;exact ⟨by rw [hP.out,hF.out]; simp only [← HG.out]; rfl,by first | exact hBW.out _ | exact hBW.out 0⟩
      ·have hP:Hid (printX (.mk nm ps tx ks)=S++([62]++(escX tx++printXs done)++([60,47]++nm++[62]))):=show _=_ by rw [hks,print_in hI,HSe.out]
       have z5:S.length+1+(escX tx++printXs done).length+2+nm.length+1≤1099511627776:=by
        have h1:=HPl.out;rw [hP.out] at h1;simp only [List.length_append,List.length_cons,List.length_nil] at h1 ⊢;omega
       have hF:Hid (k+(flatX d (.mk nm ps tx ks)).length=x):=show _=_ by rw [hx.out,flatX,hks,List.length_cons]; omega
       have r6:(escX tx++printXs done==([]:List UInt8))=false:=by simpa using hI
       have r6e:(escX tx++printXs done).isEmpty=false:=by rw [Bool.eq_false_iff]; intro h; exact hI (List.isEmpty_iff.1 h)
       clear HSe HPl hpl hpl2 hx hks hdr hD2 hzc z9;generalize escX tx++printXs done=I at hP z5 r6 r6e hI ⊢;have HG:=hid (glueE S I nm);have z6:=size_list S;have z7:=size_list I;have z8:=size_list nm;clear hI;go_wp2
       go_quiet (fail)
       go_wp2;go_ret2;exact ⟨by rw [hP.out,hF.out]; simp only [← HG.out]; rfl,by first | exact hBW.out _ | exact hBW.out 0⟩
     ·have q8:¬ (x:Int) < (n:Int):=by omega
      have q8d:decide ((x:Int) < (n:Int))=false:=decide_eq_false q8;have hks:ks=done:=by rw [hdr.out,List.append_nil]
      clear HI HV HC HD HT;by_cases hI:escX tx++printXs done=[]
      ·have hP:Hid (printX (.mk nm ps tx ks)=S++[47,62]):=show _=_ by rw [hks,print_nil hI,HSe.out]
       rw [hI];have z5:S.length+2≤1099511627776:=by have h1:=HPl.out; rw [hP.out] at h1; simpa using h1
       have z6:=size_list S;have HG:=hid (glueB S #[47,62]);have hF:Hid (k+(flatX d (.mk nm ps tx ks)).length=x):=show _=_ by rw [hx.out,flatX,hks,List.length_cons]; omega
       clear hI HSe HPl hpl hpl2 hx hks hdr hD2;go_wp2
       go_quiet (fail)
       go_wp2;go_ret2;exact ⟨by rw [hP.out,hF.out]; simp only [← HG.out]; rfl,by first | exact hBW.out _ | exact hBW.out 0⟩
      ·have hP:Hid (printX (.mk nm ps tx ks)=S++([62]++(escX tx++printXs done)++([60,47]++nm++[62]))):=show _=_ by rw [hks,print_in hI,HSe.out]
       have z5:S.length+1+(escX tx++printXs done).length+2+nm.length+1≤1099511627776:=by
        have h1:=HPl.out;rw [hP.out] at h1;simp only [List.length_append,List.length_cons,List.length_nil] at h1 ⊢;omega
       have hF:Hid (k+(flatX d (.mk nm ps tx ks)).length=x):=show _=_ by rw [hx.out,flatX,hks,List.length_cons]; omega
       have r6:(escX tx++printXs done==([]:List UInt8))=false:=by simpa using hI
       have r6e:(escX tx++printXs done).isEmpty=false:=by rw [Bool.eq_false_iff]; intro h; exact hI (List.isEmpty_iff.1 h)
       clear HSe HPl hpl hpl2 hx hks hdr hD2 hzc z9;generalize escX tx++printXs done=I at hP z5 r6 r6e hI ⊢;have HG:=hid (glueE S I nm);have z6:=size_list S;have z7:=size_list I;have z8:=size_list nm;clear hI;go_wp2
       go_quiet (fail)
       go_wp2;go_ret2;exact ⟨by rw [hP.out,hF.out]; simp only [← HG.out]; rfl,by first | exact hBW.out _ | exact hBW.out 0⟩
    | cons k1 rest =>
     have hD3:=hD2.out;obtain ⟨y,r,e1,hy⟩:=flat_head (d+1) k1;have hD4:=hD3;rw [flatXs,e1,List.cons_append,List.cons_append] at hD4;obtain ⟨hxc,hnx,_⟩:=drop_nd hD4;have hxl:x < n:=by have:=HL.out; omega
     have q8:(x:Int) < (n:Int):=by omega
     have q8d:decide ((x:Int) < (n:Int))=true:=decide_eq_true q8;obtain ⟨e0,_,_,_⟩:=(HC.out x hxc).below hb hab;rw [hnx,hy] at e0;have q9:decide ((d:Int) < ((d+1:Nat):Int))=true:=decide_eq_true (by omega);rw [flatXs,List.append_assoc] at hD3;have hpk:(printX k1).length+(escX tx++printXs done).length≤1099511627776:=by
      have h1:=HPl.out;have h2:=hpl2;rw [hdr.out,printXs_app,printXs,List.length_append,List.length_append] at h2;rw [hdr.out] at h1;rw [List.length_append]; omega
     have KW:Hid (∀ w',Below w.heap.size w w' → WrRes (.slice (some ad) cs.length cap) x (printX k1) (x+(flatX (d+1) k1).length) w'):=fun w' hw'=>HI.out k1 (sz_in HT.out hdr.out) x (d+1) _ w' (HV.out.below hw') hD3 (post_head HPo.out) (by omega);rw [← HL.out] at KW;have hdr2:Hid (ks=(done++[k1])++rest):=show _=_ by rw [hdr.out]; simp
     have hx2:Hid (x+(flatX (d+1) k1).length=k+1+(flatXs (d+1) (done++[k1])).length):=show _=_ by
      rw [hx.out,flatXs_app,List.length_append]
      have:flatXs (d+1) [k1]=flatX (d+1) k1:=by rw [flatXs,flatXs,List.append_nil]
      rw [this]; omega
     have hD5:Hid ((ndsL cs).drop (x+(flatX (d+1) k1).length)=flatXs (d+1) rest++post):=drop_more hD3;have hxn2:x+(flatX (d+1) k1).length≤n:=by
      have h1:=congrArg List.length hD3;rw [List.length_drop,ndsL_len,List.length_append] at h1
      have:=HL.out; omega
     have hpos:x < x+(flatX (d+1) k1).length:=by have:=flatX_pos (d+1) k1; omega
     have HP2:Hid (escX tx++printXs (done++[k1])=(escX tx++printXs done)++printX k1):=show _=_ by rw [printXs_app,printXs,printXs,List.append_nil,List.append_assoc]
     clear HI HV HC HD HPo HT HPl hpl hpl2 hD2 hD3 hD4 hdr hx HSe hy hnx e1;have HG:=hid (glueL (escX tx++printXs done) (printX k1));generalize escX tx++printXs done=I at HG HP2 hpk z9 ⊢;generalize printX k1=pk at HG HP2 hpk KW;generalize x+(flatX (d+1) k1).length=x2 at KW hx2 hD5 hxn2 hpos;have z6:=size_list I;have z7:=size_list pk;go_wp2
     go_quiet (fail)
     go_wp2_with (go_at_call 63; refine (KW.out _ (hBW.out _)).mono ?_; rintro e w5 ⟨rfl,hw5⟩)
     go_roundw
     case rel=>exact ⟨done++[k1],rest,x2,rfl,by rw [HP2.out,← HG.out],hdr2,hx2,hxn2,hD5,(hBW.out _).trans (hw5.mono (hBW.out _).size),Nat.lt_of_lt_of_le hl hw5.size,(hr.out.below (belowD _ _ _) hl).below hw5 hl⟩
     case measure=>simp [intOf]; omega
theorem rwritten_any:∀ (N:Nat) (t:XT),szX t≤N → ∀ (v:Value) (cs:List NdC) (k d:Nat) (post:List Nd) (w:World),NdsAt w v cs → cs.length≤1048576 → (∀ c ∈ cs,SmallN 1048576 c.nd) → (ndsL cs).drop k=flatX d t++post → (∀ x,post.head? = some x → x.deep≤(d:Int)) → (printX t).length≤1099511627776 → WrRes v k (printX t) (k+(flatX d t).length) w
 | 0,t,ht=>by obtain ⟨n,a,tx,ks⟩:=t; rw [szX] at ht; omega
 | N+1,t,ht=>rwritten_step N (rwritten_any N) t ht
end Go.Proofs.YtdnekampnkhmfaaGreatDoor
namespace Go.Proofs.YtdnekampnkhmfaaGreatDoor
open Go.RowKit Go.ChangeShapes Go.WideShapes Go.Deep
variable {H : Type} {enc : TypeId × Value → H} {W : World} {sp : Nat → Bool}
theorem open_strs {fuel:Nat} {cs:List Value} {x:DataW H × List MemPlace} (h:DataW.trod enc Tryz.prog W 0 sp true fuel 23 cs=some x) :
  ∃ (v:Value) (ls:List (List UInt8)),cs=[v]∧StrsAt W v ls∧((x.1=.nil∧ls=[])∨∃ sp,x.1=.slice (ls.map fun l=>.lit (.string l)) sp):=by
 rcases open_slice Tryz.underlying23 h with ⟨rfl,rfl⟩ | ⟨a,len,cap,m,n,D,Pl,rfl,_,hlc,hcm,hm,rfl,hall⟩
 ·exact ⟨_,[],rfl,⟨none,0,rfl,fun k hk=>by simp at hk⟩,Or.inl ⟨rfl,rfl⟩⟩
 ·have hlm:len≤m:=by rw [hm]; split <;> omega
  have each:∀ i,i < len → ∃ l:List UInt8,D i=.lit (.string l)∧(a.block < W.heap.size∧W.cell? (a.add i)=some (.string ⟨l.toArray⟩)):=by
   intro i hi;obtain ⟨cs',h1,h2⟩:=hall i (by omega);obtain ⟨s,rfl,hd,_⟩:=DataW.trod_string Tryz.underlying9 h2;rw [cellsStr] at h1;obtain ⟨_,_,hc⟩:=World.cells?_some h1;have c0:=hc 0 (by omega);have hc0:W.cell? (a.add i)=some (.string ⟨s.data.toList.toArray⟩):=by rw [back]; simpa [Addr.add] using c0
   refine ⟨s.data.toList,congrArg Prod.fst hd,?_,hc0⟩
   have:(a.add i).block < W.heap.size:=by
    unfold World.cell? at hc0
    cases hh:W.heap[(a.add i).block]? with
    | none=>simp [hh] at hc0
    | some o=>exact (Array.getElem?_eq_some_iff.1 hh).1
   rwa [add_block] at this
  obtain ⟨f,hf⟩:=@choose_lt (List UInt8) ⟨[]⟩ len _ each;refine ⟨_,(List.range len).map f,rfl,⟨some a,cap,by simp,fun k hk=>?_⟩,Or.inr ⟨(List.range (m - len)).map fun j=>D (len+j),?_⟩⟩
  ·simp at hk
   refine ⟨a,rfl,?_⟩
   simpa using (hf k hk).2
  ·simp only [List.map_map]
   congr 1
   apply List.map_congr_left
   intro i hi;exact (hf i (by simpa using hi)).1
theorem bulk_strs (ls:List (List UInt8)):(∀ l ∈ ls,l.length≤Rows.uptoBulkAll (ls.map fun l=>DataW.lit (H:=H) (.string l)))∧ls.length≤Rows.uptoBulkAll (ls.map fun l=>DataW.lit (H:=H) (.string l)):=by
 induction ls with
 | nil=>simp
 | cons q ls ih =>
  simp only [List.map_cons,Rows.uptoBulkAll,Rows.uptoBulk] at ih ⊢;refine ⟨fun p hp=>?_,by simp; omega⟩
  rcases List.mem_cons.1 hp with rfl | hp
  ·omega
  ·have:=ih.1 p hp; omega
end Go.Proofs.YtdnekampnkhmfaaGreatDoor
namespace Go.Proofs.YtdnekampnkhmfaaGreatDoor
open Go.RowKit Go.ChangeShapes Go.WideShapes Go.Deep
def DocIn (B:Nat) (W:World) (v:Value):Prop:=∃ d ts ns,v=docV d ts ns∧TusAt W ts d.tuples∧StrsAt W ns d.notes∧SmallD B d
theorem cellsTup:Tryz.prog.cellsOf 56=5:=by kernel_rfl
theorem cellsTups:Tryz.prog.cellsOf 22=1:=by kernel_rfl
theorem cellsBoolD:Tryz.prog.cellsOf 4=1:=by kernel_rfl
theorem cellsStrsD:Tryz.prog.cellsOf 23=1:=by kernel_rfl
section
variable {H : Type} {enc : TypeId × Value → H} {W : World} {sp : Nat → Bool}
def TuD (d:DataW H) (t:Tu):Prop:=d=.agg [.lit (.string t.id),.lit (.bool t.opn),.lit (.string t.contact),.lit (.int .i64 t.prio),.lit (.string t.note)]
theorem open_tup {fuel:Nat} {cs:List Value} {x:DataW H × List MemPlace} (h:DataW.trod enc Tryz.prog W 0 sp true fuel 56 cs=some x) :
  ∃ t:Tu,cs=tuCells t∧TuD x.1 t∧(Lit.int .i64 t.prio).wf=true:=by
 obtain ⟨xs,n,_,hx,hl,hlen,hf⟩:=DataW.trod_struct Tryz.underlying56 h;rw [cellsTup] at hl
 match cs,hl,xs,hlen with
 | [c0,c1,c2,c3,c4],_,[y0,y1,y2,y3,y4],_ =>
  have f0:=hf 0 _ rfl;have f1:=hf 1 _ rfl;have f2:=hf 2 _ rfl;have f3:=hf 3 _ rfl;have f4:=hf 4 _ rfl
  simp [cellsStr,cellsInt,cellsBoolD] at f0 f1 f2 f3 f4
  obtain ⟨s0,e0,rfl,_⟩:=DataW.trod_string Tryz.underlying9 f0;obtain ⟨b1,e1,rfl⟩:=DataW.trod_bool Tryz.underlying4 f1;obtain ⟨s2,e2,rfl,_⟩:=DataW.trod_string Tryz.underlying9 f2;obtain ⟨i3,e3,rfl,w3⟩:=DataW.trod_int Tryz.underlying3 f3;obtain ⟨s4,e4,rfl,_⟩:=DataW.trod_string Tryz.underlying9 f4;simp only [List.cons.injEq,and_true] at e0 e1 e2 e3 e4;subst e0 e1 e2 e3 e4;subst hx;exact ⟨⟨s0.data.toList,b1,s2.data.toList,i3,s4.data.toList⟩,by simp [tuCells],by simp [TuD],w3⟩
theorem open_tups {fuel:Nat} {cs:List Value} {x:DataW H × List MemPlace} (h:DataW.trod enc Tryz.prog W 0 sp true fuel 22 cs=some x) :
  ∃ (v:Value) (ts:List Tu),cs=[v]∧TusAt W v ts∧(∀ t ∈ ts,(Lit.int .i64 t.prio).wf=true)∧((x.1=.nil∧ts=[])∨∃ ds sp,x.1=.slice ds sp∧ds.length=ts.length∧∀ k (hk:k < ts.length) (hd:k < ds.length),TuD ds[k] ts[k]):=by
 rcases open_slice Tryz.underlying22 h with ⟨rfl,rfl⟩ | ⟨a,len,cap,m,n,D,Pl,rfl,_,hlc,hcm,hm,rfl,hall⟩
 ·exact ⟨_,[],rfl,⟨none,0,rfl,fun k hk=>by simp at hk⟩,fun c hc=>by simp at hc,Or.inl ⟨rfl,rfl⟩⟩
 ·have hlm:len≤m:=by rw [hm]; split <;> omega
  have each:∀ i,i < len → ∃ t:Tu,TuD (D i) t∧((Lit.int .i64 t.prio).wf=true∧a.block < W.heap.size∧TuAt W a i t):=by
   intro i hi;obtain ⟨cs',h1,h2⟩:=hall i (by omega);obtain ⟨t,rfl,hd,hw⟩:=open_tup h2;rw [cellsTup] at h1;obtain ⟨_,_,hc⟩:=World.cells?_some h1;have c0:=hc 0 (by omega);have c1:=hc 1 (by omega);have c2:=hc 2 (by omega);have c3:=hc 3 (by omega);have c4:=hc 4 (by omega);have hc0:W.cell? (a.add (i * 5))=some (.string ⟨t.id.toArray⟩):=by simpa [Addr.add,tuCells] using c0
   refine ⟨t,hd,hw,?_,⟨hc0,?_,?_,?_,?_⟩⟩
   ·have:(a.add (i * 5)).block < W.heap.size:=by
     unfold World.cell? at hc0
     cases hh:W.heap[(a.add (i * 5)).block]? with
     | none=>simp [hh] at hc0
     | some o=>exact (Array.getElem?_eq_some_iff.1 hh).1
    rwa [add_block] at this
   ·simpa [Addr.add,tuCells] using c1
   ·simpa [Addr.add,tuCells] using c2
   ·simpa [Addr.add,tuCells] using c3
   ·simpa [Addr.add,tuCells] using c4
  obtain ⟨f,hf⟩:=@choose_lt Tu ⟨⟨[],false,[],0,[]⟩⟩ len _ each;refine ⟨_,(List.range len).map f,rfl,⟨some a,cap,by simp,fun k hk=>?_⟩,fun c hc=>?_,Or.inr ⟨_,_,rfl,by simp,fun k hk hd=>?_⟩⟩
  ·simp at hk
   obtain ⟨_,_,h2,h3⟩:=hf k hk;exact ⟨a,rfl,h2,by simpa using h3⟩
  ·obtain ⟨i,hi,rfl⟩:=List.mem_map.1 hc;exact (hf i (by simpa using hi)).2.1
  ·simp at hk
   simpa using (hf k hk).1
theorem tuD_upto {B:Nat} {d:DataW H} {t:Tu} (hd:TuD d t) (hw:(Lit.int .i64 t.prio).wf=true) (hz:Rows.uptoBulk d≤B):SmallT B t:=by
 unfold TuD at hd;subst hd;simp only [Rows.uptoBulkAll,Rows.uptoBulk] at hz;exact ⟨by omega,by omega,by omega,hw⟩
theorem doc_upto {B:Nat} {r:Reach} {b0:Nat} {v:Value} {d:DataW H} {p:List MemPlace} (hv:Value.okWide Tryz.prog W r b0 25 v) (h:DataW.Trod enc Tryz.prog W 0 sp true 25 v d p)
  (hz:Rows.uptoBulk d≤B):DocIn B W v:=by
 obtain ⟨cs,rfl,hsz⟩:=okWide_struct Tryz.underlying25 hv;obtain ⟨fuel,hf0⟩:=h;obtain ⟨xs,n,_,hx,hl,hlen,hf⟩:=DataW.trod_struct Tryz.underlying25 hf0;obtain ⟨l⟩:=cs;simp only [Value.cells] at hl hf;rw [show Tryz.prog.cellsOf 25=3 from by kernel_rfl] at hl
 match l,hl,xs,hlen with
 | [c0,c1,c2],_,[y0,y1,y2],_ =>
  have f0:=hf 0 _ rfl;have f1:=hf 1 _ rfl;have f2:=hf 2 _ rfl
  simp [cellsStr,cellsTups,cellsStrsD] at f0 f1 f2
  obtain ⟨s0,e0,rfl,_⟩:=DataW.trod_string Tryz.underlying9 f0;obtain ⟨v1,ts,e1,a1,w1,d1⟩:=open_tups f1;obtain ⟨v2,ns,e2,a2,d2⟩:=open_strs f2;simp only [List.cons.injEq,and_true] at e0 e1 e2;subst e0 e1 e2;have hd:d=DataW.agg [.lit (.string s0.data.toList),y1.1,y2.1]:=congrArg Prod.fst hx;subst hd;simp only [Rows.uptoBulkAll,Rows.uptoBulk] at hz;refine ⟨⟨s0.data.toList,ts,ns⟩,c1,c2,by simp [docV],a1,a2,?_⟩
  have ht:ts.length≤B∧∀ t ∈ ts,SmallT B t:=by
   rcases d1 with ⟨_,rfl⟩ | ⟨ds,sp1,e,hl1,hk⟩
   ·exact ⟨by simp,fun t h=>by simp at h⟩
   ·rw [e] at hz;simp only [Rows.uptoBulk] at hz;obtain ⟨b1,b2⟩:=bulk_all ds;refine ⟨by omega,fun t h=>?_⟩
    obtain ⟨k,hkl,rfl⟩:=List.mem_iff_getElem.1 h;exact tuD_upto (hk k hkl (by omega)) (w1 _ (List.getElem_mem hkl)) (by have:=b2 k (by omega); omega)
  have hn:ns.length≤B∧∀ l ∈ ns,l.length≤B:=by
   rcases d2 with ⟨_,rfl⟩ | ⟨sp2,e⟩
   ·exact ⟨by simp,fun t h=>by simp at h⟩
   ·rw [e] at hz;simp only [Rows.uptoBulk] at hz;have hb:=bulk_strs (H:=H) ns;exact ⟨by omega,fun l hl=>by have:=hb.1 l hl; omega⟩
  exact ⟨by simp only; omega,ht.1,hn.1,ht.2,hn.2⟩
end
end Go.Proofs.YtdnekampnkhmfaaGreatDoor
namespace Go.Proofs.YtdnekampnkhmfaaGreatDoor
open Go.RowKit Sc
theorem dig_ext (i:Int) (h0:0≤i) (h1:i < 10):(ByteArray.mk #[48,49,50,51,52,53,54,55,56,57]).extract i.toNat (i+1).toNat=⟨[digb i.toNat].toArray⟩:=by
 obtain ⟨n,rfl⟩:=Int.eq_ofNat_of_zero_le h0;have h:∀ n:Fin 10,(ByteArray.mk #[48,49,50,51,52,53,54,55,56,57]).extract n.val (n.val+1)=⟨[digb n.val].toArray⟩:=by decide +kernel
 exact h ⟨n,by omega⟩
set_option maxHeartbeats 600000 in
theorem refdigits_any (k:Nat):∀ (n:Int) (w:World),n≤k → 0≤n → n≤9223372036854775807 →
  Calls Tryz.prog 51 #[.int .i64 n] w fun e w'=>e=.returned (.string ⟨(digL n.toNat).toArray⟩)∧∃ q,w'=w.drewN q:=by
 induction k with
 | zero =>
  intro n w hk h0 h1;have hn:n=0:=by omega
  subst hn
  go_enter Tryz.func51,Tryz.ntmps51
  go_wp2_with fail
  go_ret;exact ⟨by rw [digL_small (by omega)]; rfl,0,rfl⟩
 | succ k ih =>
  intro n w hk h0 h1;by_cases hn:n < 10
  ·have hE:Hid ((ByteArray.mk #[48,49,50,51,52,53,54,55,56,57]).extract n.toNat (n+1).toNat=⟨(digL n.toNat).toArray⟩):=by
    show _=_; rw [dig_ext n h0 hn,digL_small (by omega)]
   go_enter Tryz.func51,Tryz.ntmps51
   go_wp2_with fail
   go_ret;exact ⟨by rw [← hE.out]; rfl,0,rfl⟩
  ·have hq0:0≤n / 10:=by omega
   have hi:=fun w=>ih (n / 10) w (by omega) hq0 (by omega);have HI:Hid (∀ w:World,Calls Tryz.prog 51 #[.int .i64 (n / 10)] w fun e w'=>e=.returned (.string ⟨(digL (n / 10).toNat).toArray⟩)∧∃ q,w'=w.drewN q):=hi;clear hi ih;have e1:IntKind.i64.wrap (n.tdiv 10)=n / 10:=by rw [Int.tdiv_eq_ediv_of_nonneg h0]; simp [IntKind.wrap,IntKind.signed,IntKind.bits]; omega
   have e2:n.tmod 10=n % 10:=Int.tmod_eq_emod_of_nonneg h0;have e3:IntKind.i64.wrap (n % 10+1)=n % 10+1:=by simp [IntKind.wrap,IntKind.signed,IntKind.bits]; omega
   have e4:IntKind.i64.wrap (n % 10)=n % 10:=by simp [IntKind.wrap,IntKind.signed,IntKind.bits]; omega
   have g1:0≤n % 10:=by omega
   have e5:(ByteArray.mk #[48,49,50,51,52,53,54,55,56,57]).extract (n % 10).toNat (n % 10+1).toNat=⟨[digb (n % 10).toNat].toArray⟩:=dig_ext _ g1 (by omega);have g5:(digL (n / 10).toNat).length+1≤9223372036854775807:=by have:=digL_len19 (n:=(n / 10).toNat) (by omega); omega
   have hE:Hid ((ByteArray.mk (digL (n / 10).toNat).toArray)++⟨[digb (n % 10).toNat].toArray⟩=⟨(digL n.toNat).toArray⟩):=by
    show _=_
    rw [ByteArray.mk_append_mk,digL_big (n:=n.toNat) (by omega)];have a1:n.toNat / 10=(n / 10).toNat:=by omega
    have a2:digb (n % 10).toNat=digb n.toNat:=by unfold digb; congr 2; omega
    rw [a1,a2]
   have g2:n % 10 < 10:=by omega
   have g3:n % 10≤n % 10+1:=by omega
   have g4:n % 10+1≤10:=by omega
   go_enter Tryz.func51,Tryz.ntmps51
   go_wp2_with fail
   go_quiet ((go_at_call 51; exact Calls.quiet_of (HI.out _)))
   clear e1 e2 e3 e4 e5;go_wp2_with fail
   go_ret;exact ⟨by rw [← hE.out]; rfl,nq,rfl⟩
theorem pad_dig {n:Nat} (h:n < 1000):List.replicate (3 - (digL n).length) 48++digL n=d3 n:=by
 have hz:∀ m:Nat,digb m=UInt8.ofNat (48+m % 10):=fun m=>rfl;by_cases h1:n < 10
 ·rw [digL_small h1];have e1:n / 100 % 10=0:=by omega
  have e2:n / 10 % 10=0:=by omega
  simp only [d3,e1,e2,hz,List.length_cons,List.length_nil]
  rfl
 ·rw [digL_big h1];by_cases h2:n < 100
  ·rw [digL_small (by omega)];have e1:n / 100 % 10=0:=by omega
   simp only [d3,e1,hz,List.length_append,List.length_cons,List.length_nil]
   rfl
  ·rw [digL_big (by omega),digL_small (by omega)];have e1:n / 10 / 10 % 10=n / 100 % 10:=by omega
   simp only [d3,hz,e1,List.length_append,List.length_cons,List.length_nil]
   rfl
theorem dig_len {n:Nat} (h:n < 1000):1≤(digL n).length∧(digL n).length≤3:=by
 by_cases h1:n < 10
 ·rw [digL_small h1]; simp
 ·rw [digL_big h1];by_cases h2:n < 100
  ·rw [digL_small (by omega)]; simp
  ·rw [digL_big (by omega),digL_small (by omega)]; simp
theorem strip_ne_all:∀ n:Fin 1000,n.val=0∨stripZ (d3 n.val) ≠ []:=by decide +kernel
theorem strip_ne {n:Nat} (h0:0 < n) (h:n < 1000):stripZ (d3 n) ≠ []:=by
 rcases strip_ne_all ⟨n,h⟩ with e | e
 ·exact absurd e (by simp only; omega)
 ·exact e
set_option maxHeartbeats 1000000 in
set_option maxRecDepth 100000 in
theorem rdec_any (n:Int) (w:World):Calls Tryz.prog 21 #[.int .i64 n] w fun e w'=>e=.returned (.string ⟨(decL n).toArray⟩)∧∃ q,w'=w.drewN q:=by
 have hv:decL n=if n < 0∨1000 < n then [] else if n=0 then [48] else if n=1000 then [49] else [48,46]++stripZ (d3 n.toNat):=rfl
 generalize decL n=R at hv ⊢;by_cases h0:n < 0
 ·rw [if_pos (.inl h0)] at hv;have HV:=hid hv;clear hv
  go_enter Tryz.func21,Tryz.ntmps21
  go_wp2;go_ret;exact ⟨by rw [HV.out]; rfl,0,rfl⟩
 by_cases h1:1000 < n
 ·rw [if_pos (.inr h1)] at hv;have HV:=hid hv;clear hv
  go_enter Tryz.func21,Tryz.ntmps21
  go_wp2;go_ret;exact ⟨by rw [HV.out]; rfl,0,rfl⟩
 rw [if_neg (by omega)] at hv;by_cases h2:n=0
 ·rw [if_pos h2] at hv;have HV:=hid hv;subst h2;clear hv
  go_enter Tryz.func21,Tryz.ntmps21
  go_wp2;go_ret;exact ⟨by rw [HV.out]; rfl,0,rfl⟩
 by_cases h3:n=1000
 ·rw [if_neg h2,if_pos h3] at hv;have HV:=hid hv;subst h3;clear hv
  go_enter Tryz.func21,Tryz.ntmps21
  go_wp2;go_ret;exact ⟨by rw [HV.out]; rfl,0,rfl⟩
 rw [if_neg h2,if_neg h3] at hv;have HV:=hid hv;have q2:(n==0)=false:=by rw [beq_eq_false_iff_ne]; exact h2
 have q3:(n==1000)=false:=by rw [beq_eq_false_iff_ne]; exact h3
 have KD:=hid (fun w'=>refdigits_any n.toNat n w' (by omega) (by omega) (by omega));obtain ⟨k,hk⟩:∃ k,k=n.toNat:=⟨_,rfl⟩
 have hkn:(k:Int)=n:=by omega
 rw [← hk] at KD HV;have hdl:=dig_len (n:=k) (by omega);have HPD:=hid (pad_dig (n:=k) (by omega));have HNE:=hid (strip_ne (n:=k) (by omega) (by omega));clear hv hk h2 h3;generalize digL k=D at KD hdl HPD;generalize d3 k=T at HV HPD HNE;clear hkn
 go_enter Tryz.func21,Tryz.ntmps21
 go_wp2_with fail
 refine (KD.out _).mono ?_
 rintro e w1 ⟨rfl,q,rfl⟩;go_wp2
 go_loop [3] (fun v=>∃ i:Nat,v=.string ⟨(List.replicate i 48++D).toArray⟩∧D.length+i≤3) (fun v=>3 - lenV v)
 case atStart=>exact ⟨0,by simp,by omega⟩
 case round =>
  obtain ⟨i,rfl,hi⟩:=hrel;have zz:=size_list (List.replicate i 48++D);have hll:(List.replicate i 48++D).length=D.length+i:=by simp; omega
  rw [hll] at zz;by_cases h3:D.length+i=3
  ·have ei:3 - D.length=i:=by omega
   rw [ei] at HPD;have r5:¬ ((D.length+i:Nat):Int) < 3:=by omega
   rw [HPD.out] at zz hll ⊢;have hTl:T.length=3:=by omega
   rw [h3] at zz;clear HPD KD;go_wp2
   go_loop [3] (fun v=>∃ u:ByteArray,v=.string u∧u.size≤3∧Hid (stripZ u.data.toList=stripZ T)) (fun v=>lenV v)
   case atStart=>exact ⟨⟨T.toArray⟩,rfl,by omega,show _=_ by simp⟩
   case round =>
    obtain ⟨u,rfl,hu,hd⟩:=hrel;have hu0:0 < u.size:=by
     apply Classical.byContradiction
     intro hh;have e:u.data.toList=[]:=List.eq_nil_of_length_eq_zero (by rw [len_data]; omega)
     have:=hd.out
     rw [e] at this;exact HNE.out this.symm
    have hlt:u.size - 1 < u.size:=by omega
    have hbd:=u8_bd u[u.size - 1];have hw1:IntKind.i64.wrap ((u.size:Int) - 1)=((u.size - 1:Nat):Int):=by rw [IntKind.wrap_i64]; omega
    have hn1:((u.size:Int) - 1).toNat=u.size - 1:=by omega
    by_cases hx:u[u.size - 1]=48
    ·have p1:((u[u.size - 1].toNat:Int)==48)=true:=u8_eq (b:=48) hx;have hd2:Hid (stripZ (u.extract 0 (u.size - 1)).data.toList=stripZ T):=show _=_ by rw [stripB_step u hlt hx]; exact hd.out
     have hz:(u.extract 0 (u.size - 1)).size < u.size∧(u.extract 0 (u.size - 1)).size≤3:=by rw [ByteArray.size_extract]; omega
     clear hd hx HV;go_wp2
     go_round
     case rel=>exact ⟨_,rfl,hz.2,hd2⟩
     case measure=>exact hz.1
    ·have p1:((u[u.size - 1].toNat:Int)==48)=false:=u8_ne (b:=48) hx;have hE:Hid (R=[48,46]++u.data.toList):=show _=_ by rw [HV.out,← hd.out,stripB_stop u hlt hx]
     have hgl:Hid ((⟨#[48,46]⟩:ByteArray)++u=⟨([48,46]++u.data.toList).toArray⟩):=show _=_ by apply ByteArray.ext; simp
     clear hd hx HV;go_wp2;go_ret;exact ⟨by rw [hE.out,← hgl.out]; rfl,q,rfl⟩
  ·have r5:((D.length+i:Nat):Int) < 3:=by omega
   have hgl:=glueLL [48] (List.replicate i 48++D);have hrep:[48]++(List.replicate i 48++D)=List.replicate (i+1) 48++D:=by rw [List.replicate_succ]; rfl
   rw [hrep] at hgl;have HGL:=hid hgl;clear hgl hrep HPD KD;go_wp2
   go_round
   case rel=>exact ⟨i+1,by rw [← HGL.out],by omega⟩
   case measure =>
    have zy:((⟨#[48]⟩:ByteArray)++⟨(List.replicate i 48++D).toArray⟩).size=D.length+i+1:=by rw [ByteArray.size_append,zz]; show 1+_=_; omega
    show 3 - ((⟨#[48]⟩:ByteArray)++⟨(List.replicate i 48++D).toArray⟩).size < 3 - (⟨(List.replicate i 48++D).toArray⟩:ByteArray).size
    rw [zy,zz];omega
theorem glueP (l:List UInt8):(⟨#[60,63,120,109,108,32,118,101,114,115,105,111,110,61,34,49,46,48,34,32,101,110,99,111,100,105,110,103,61,34,85,84,70,45,56,34,63,62,10]⟩:ByteArray)++⟨l.toArray⟩=⟨(prologK++l).toArray⟩:=by
 rw [ByteArray.mk_append_mk]; simp [prologK]
set_option maxHeartbeats 2000000 in
set_option maxRecDepth 100000 in
theorem rprint13_ok (v:Value) (cs:List NdC) (t:XT) (w:World) (hz:cs.length≤1048576) (hsm:∀ c ∈ cs,SmallN 1048576 c.nd) (hv:NdsAt w v cs) (hc:checkX (ndsL cs)=0) (hf:flatX 0 t=ndsL cs) (hpl:(printX t).length≤1099511627776) :
  Calls Tryz.prog 27 #[v] w fun e w'=>e=.returned (.tuple #[.string ⟨(prologK++printX t).toArray⟩,.int .i64 0])∧Below w.heap.size w w':=by
 have hsm2:∀ c ∈ cs,SmallN 140737488355328 c.nd:=fun c hcm=>by
  obtain ⟨h1,h2,h3,h4⟩:=hsm c hcm;exact ⟨by omega,by omega,⟨by have:=h3.1; omega,fun p hp=>⟨by have:=(h3.2 p hp).1; omega,by have:=(h3.2 p hp).2; omega⟩⟩,h4⟩
 have KC:=hid (rcheck13_any v cs w (by omega) hsm2 hv);rw [hc] at KC;have KW:=hid (fun w' (h:Below w.heap.size w w')=>rwritten_any _ t (Nat.le_refl _) v cs 0 0 [] w' (hv.below h) hz hsm (by rw [List.drop_zero,hf,List.append_nil]) (fun x hx=>by simp at hx) hpl);have HG:=hid (glueP (printX t));generalize prologK++printX t=Z at HG ⊢;generalize printX t=P at KW HG hpl;generalize 0+(flatX 0 t).length=x at KW;have z1:=size_list P;unfold WrRes at KW;obtain ⟨ao,cap,rfl,_⟩:=hv;generalize cs.length=n at KC KW hz ⊢;clear hc hf hsm hsm2
 go_enter Tryz.func27,Tryz.ntmps27
 go_wp2_with fail
 refine KC.out.mono ?_
 rintro e w1 ⟨rfl,hw1⟩;go_wp2_with fail
 refine (KW.out _ hw1).mono ?_
 rintro e w2 ⟨rfl,hw2⟩;go_wp2;go_ret2;exact ⟨by rw [← HG.out]; rfl,hw1.trans (hw2.mono hw1.size)⟩
set_option maxHeartbeats 2000000 in
set_option maxRecDepth 100000 in
theorem pprint_bad (d:Dc) (ts ns:Value) (w:World) (hsm:SmallD 140737488355328 d) (hen:d.entity.length+4≤1048576) (hcp:CapTu ts) (hts:TusAt w ts d.tuples) (hns:StrsAt w ns d.notes) (hc:checkD d ≠ 0) :
  Calls Tryz.prog 11 #[docV d ts ns] w fun e w'=>e=.returned (.tuple #[.string ⟨#[]⟩,.int .i64 (checkD d)])∧Below w.heap.size w w':=by
 have KC:=hid (fun w' (h:Below w.heap.size w w')=>pcheck_any d ts ns w' hsm hen hcp (hts.below h) (hns.below h));obtain ⟨en,tl,nl⟩:=d;unfold docV at KC ⊢;simp only at KC ⊢;generalize checkD ⟨en,tl,nl⟩=R at KC hc ⊢;have r1:(R != 0)=true:=by simpa using hc
 clear hc hsm hen hts hns hcp;have hbx:=box3 w (.string ⟨en.toArray⟩) ts ns 25;have hbn:Below w.heap.size w (w.alloc (.cells #[.string ⟨en.toArray⟩,ts,ns] 25)):=(Below.refl _ w).alloc (Nat.le_refl _) _;obtain ⟨x0,x1,x2,_,_,_⟩:=hbx
 go_enter Tryz.func11,Tryz.ntmps11
 go_wp2_with fail
 generalize World.alloc w _=W0 at x0 x1 x2 hbn ⊢;refine (KC.out _ hbn).mono ?_
 rintro e w1 ⟨rfl,hw1⟩;have hb1:=hbn.trans (hw1.mono hbn.size);clear x0 x1 x2;go_wp2;go_ret2;exact ⟨rfl,hb1⟩
end Go.Proofs.YtdnekampnkhmfaaGreatDoor
namespace Go.Proofs.YtdnekampnkhmfaaGreatDoor
open Go.RowKit Go.ChangeShapes Go.WideShapes Go.Deep
def DocIn2 (B:Nat) (W:World) (v:Value):Prop:=∃ d ts ns,v=docV d ts ns∧DocAt W d ts ns∧SmallD B d∧d.entity.length+4≤B
section
variable {H : Type} {enc : TypeId × Value → H} {W : World} {sp : Nat → Bool}
theorem bulk_pos (d:DataW H):1≤Rows.uptoBulk d:=by
 cases d with
 | lit l=>cases l <;> simp [Rows.uptoBulk]
 | _=>simp [Rows.uptoBulk]
end
end Go.Proofs.YtdnekampnkhmfaaGreatDoor
