/-
  OpenDoc2, PR11, PR12, SmLaw14, WPidfPrints.
-/
import Derived.Test.YtdnekampnkhmfaaGreatDoorPM02
set_option linter.unusedVariables false
set_option linter.unusedSimpArgs false
set_option maxRecDepth 20000
namespace Go.Proofs.YtdnekampnkhmfaaGreatDoor
open Go.RowKit Go.ChangeShapes Go.WideShapes Go.Deep
section
variable {H : Type} {enc : TypeId × Value → H} {W : World} {sp : Nat → Bool}
theorem docc_upto {B:Nat} {r:Reach} {b0:Nat} {v:Value} {d:DataW H} {p:List MemPlace} (hv:Value.okWide Tryz.prog W r b0 25 v) (h:DataW.Trod enc Tryz.prog W 0 sp true 25 v d p)
  (hz:Rows.uptoBulk d≤B):DocIn2 B W v:=by
 obtain ⟨d',ts,ns,hvd,a1,a2,a3⟩:=doc_upto hv h hz;obtain ⟨fuel,hf0⟩:=h;obtain ⟨xs,n,_,hx,hl,hlen,hf⟩:=DataW.trod_struct Tryz.underlying25 hf0;subst hvd;simp only [docV,Value.cells] at hl hf
 match xs,hlen with
 | [y0,y1,y2],_ =>
  have f0:=hf 0 _ rfl;have f1:=hf 1 _ rfl
  simp [cellsStr,cellsTups,cellsStrsD] at f0 f1
  obtain ⟨s0,e0,rfl,_⟩:=DataW.trod_string Tryz.underlying9 f0;have hd:d=DataW.agg [.lit (.string s0.data.toList),y1.1,y2.1]:=congrArg Prod.fst hx;subst hd;simp only [Rows.uptoBulkAll,Rows.uptoBulk] at hz;have p1:=bulk_pos y1.1;have p2:=bulk_pos y2.1;have he:d'.entity=s0.data.toList:=by
   simp only [List.cons.injEq,and_true] at e0
   injection e0 with e0
   rw [← e0]
  refine ⟨d',ts,ns,rfl,⟨a1,a2,?_⟩,a3,by rw [he]; omega⟩
  rcases open_slice Tryz.underlying22 f1 with ⟨h1,_⟩ | ⟨a,len,cap,m,n,D,Pl,h1,_,hlc,_⟩
  ·simp only [List.cons.injEq,and_true] at h1;subst h1;exact cap_one _ _
  ·simp only [List.cons.injEq,and_true] at h1;subst h1;intro b k c e
   injection e with _ q1 q2
   omega
end
end Go.Proofs.YtdnekampnkhmfaaGreatDoor
namespace Go.Proofs.YtdnekampnkhmfaaGreatDoor
open Go.RowKit Sc
set_option maxHeartbeats 1000000 in
set_option maxRecDepth 100000 in
theorem ratr14_any (x y:ByteArray) (w:World) :
  Calls Tryz.prog 26 #[.string x,.string y] w fun e w'=>e=.returned (.agg #[.string x,.string y,.bool true])∧Below w.heap.size w w':=by
 have hr0':=rc_row3 w (.string ⟨#[]⟩) (.string ⟨#[]⟩) (.bool false) 59;have hb0:Below w.heap.size w (w.alloc (.cells #[.string ⟨#[]⟩,.string ⟨#[]⟩,.bool false] 59)):=(Below.refl _ w).alloc (Nat.le_refl _) _;have hlt0:=alloc_lt w (.cells #[.string ⟨#[]⟩,.string ⟨#[]⟩,.bool false] 59);obtain ⟨c0,c1,c2,f0,f1,f2⟩:=hr0'.rc3;have hr0:=hid hr0';clear hr0'
 go_enter Tryz.func26,Tryz.ntmps26
 go_wp2;have hr5:=rc_store3 hr0.out (.string x) (.string y) (.bool true);have hb5:=rc_below3 hb0 w.heap.size (Nat.le_refl _) (.string x) (.string y) (.bool true);generalize World.setCell _ _ _=w5 at hr5 hb5 ⊢;obtain ⟨d0,d1,d2,_,_,_⟩:=hr5.rc3
 try simp only [Exit.inBlock,Exit.then]
 refine bodyPost_ret (v:=.agg #[.string x,.string y,.bool true]) (by simp [results,Tryz.results26,go_sem,d0,d1,d2]; try rfl) rfl ?_
 exact ⟨rfl,(Below.refl _ w).alloc (Nat.le_refl _) _⟩
set_option maxHeartbeats 2000000 in
set_option maxRecDepth 100000 in
theorem rprint14_bad (d:Dc) (ts ns:Value) (w:World) (hsm:SmallD 140737488355328 d) (hen:d.entity.length+4≤1048576) (hts:TusAt w ts d.tuples) (hns:StrsAt w ns d.notes) (hc:checkD d ≠ 0) :
  Calls Tryz.prog 12 #[docV d ts ns] w fun e w'=>e=.returned (.tuple #[.string ⟨#[]⟩,.int .i64 (checkD d)])∧Below w.heap.size w w':=by
 have KC:=hid (fun w' (h:Below w.heap.size w w')=>rcheck14_any d ts ns w' hsm hen (hts.below h) (hns.below h));obtain ⟨en,tl,nl⟩:=d;unfold docV at KC ⊢;simp only at KC ⊢;generalize checkD ⟨en,tl,nl⟩=R at KC hc ⊢;have r1:(R != 0)=true:=by simpa using hc
 clear hc hsm hen hts hns;have hbx:=box3 w (.string ⟨en.toArray⟩) ts ns 25;have hbn:Below w.heap.size w (w.alloc (.cells #[.string ⟨en.toArray⟩,ts,ns] 25)):=(Below.refl _ w).alloc (Nat.le_refl _) _;have hbr:=rc_row3 w (.string ⟨en.toArray⟩) ts ns 25;have hlt0:=alloc_lt w (.cells #[.string ⟨en.toArray⟩,ts,ns] 25);obtain ⟨x0,x1,x2,_,_,_⟩:=hbx
 go_enter Tryz.func12,Tryz.ntmps12
 go_wp2_with fail
 generalize World.alloc w _=W0 at x0 x1 x2 hbn hbr hlt0 ⊢;refine (KC.out _ hbn).mono ?_
 rintro e w1 ⟨rfl,hw1⟩;have hb1:=hbn.trans (hw1.mono hbn.size);obtain ⟨y0,y1,y2,_,_,_⟩:=(hbr.below hw1 hlt0).rc3;clear x0 x1 x2;go_wp2_with fail
 refine (KC.out _ hb1).mono ?_
 rintro e w2 ⟨rfl,hw2⟩;go_wp2;go_ret2;exact ⟨rfl,hb1.trans (hw2.mono hb1.size)⟩
theorem draw_step {w1 u wa:World} (hw:Below u.heap.size u wa) (h1:u.os=w1.os) (h2:u.tape=w1.tape) (h3:u.output=w1.output) (h4:u.heap=w1.heap):Below w1.heap.size w1 wa:=by
 have h:Below w1.heap.size w1 u:=⟨h1,h2,h3,by rw [h4]; exact Nat.le_refl _,fun _ _=>by rw [h4]⟩
 exact h.trans (by rw [h4] at hw; exact hw)
theorem draw_below {W X:World} (h1:X.os=W.os) (h2:X.tape=W.tape) (h3:X.output=W.output) (h4:X.heap=W.heap):Below W.heap.size W X:=⟨h1,h2,h3,by rw [h4]; exact Nat.le_refl _,fun _ _=>by rw [h4]⟩
set_option maxHeartbeats 4000000 in
set_option maxRecDepth 100000 in
theorem rprint14_ok (d:Dc) (ts ns:Value) (w:World) (hts:TusAt w ts d.tuples) (hns:StrsAt w ns d.notes) (hc:checkD d=0) :
  Calls Tryz.prog 12 #[docV d ts ns] w fun e w'=>e=.returned (.tuple #[.string ⟨(prologK++printX (treeD d)).toArray⟩,.int .i64 0])∧Below w.heap.size w w':=by
 have hsm:=small_checked hc;have hsm2:SmallD 140737488355328 d:=⟨Nat.le_trans hsm.ent (by decide),Nat.le_trans hsm.tl (by decide),Nat.le_trans hsm.nl (by decide),fun t ht=>⟨Nat.le_trans (hsm.ts t ht).1 (by decide),Nat.le_trans (hsm.ts t ht).2.1 (by decide),Nat.le_trans (hsm.ts t ht).2.2.1 (by decide),(hsm.ts t ht).2.2.2⟩,fun s hs=>Nat.le_trans (hsm.ns s hs) (by decide)⟩
 have hen:d.entity.length+5≤1048576:=by have:=ent_len hc; omega
 have KP:Hid (∀ (w':World) (v:Value) (cs:List NdC) (B:Nat),ndsL cs=flatX 0 (treeD d) → OwnN w' B v cs → Calls Tryz.prog 27 #[v] w' fun e w2=>e=.returned (.tuple #[.string ⟨(prologK++printX (treeD d)).toArray⟩,.int .i64 0])∧Below w'.heap.size w' w2):=fun w' v cs B hk ho =>
  rprint13_ok v cs (treeD d) w' (by have h1:=tree_count hc; rw [← hk,ndsL_len] at h1; omega) (fun c hcc=>(tree_sm hc c.nd (by rw [← hk]; exact List.mem_map.2 ⟨c,hcc,rfl⟩)).smallM) ho.ndsAt (by rw [hk]; exact tree_check hc) hk.symm (by have:=print_sm hc; omega)
 have HPR:=hid (fun t (ht:t ∈ d.tuples)=>(hsm.ts t ht).2.2.2);generalize prologK++printX (treeD d)=Z at KP ⊢;have KC:=hid (fun w' (h:Below w.heap.size w w')=>rcheck14_any d ts ns w' hsm2 (by omega) (hts.below h) (hns.below h));rw [hc] at KC;obtain ⟨_,hT16,hN16,_,_,_⟩:=checkD_ok hc;obtain ⟨en,tl,nl⟩:=d;unfold docV at KC ⊢;simp only at KC hts hns hen hT16 hN16 HPR ⊢;rw [flat_tree] at KP;have hbx:=box3 w (.string ⟨en.toArray⟩) ts ns 25;have hbn:Below w.heap.size w (w.alloc (.cells #[.string ⟨en.toArray⟩,ts,ns] 25)):=(Below.refl _ w).alloc (Nat.le_refl _) _;have hbr:=rc_row3 w (.string ⟨en.toArray⟩) ts ns 25;have hlt0:=alloc_lt w (.cells #[.string ⟨en.toArray⟩,ts,ns] 25);obtain ⟨x0,x1,x2,_,_,_⟩:=hbx;have HTS:=hid hts;have HNS:=hid hns;have HSM:=hid hsm;clear hts hns hsm hsm2 hc
 go_enter Tryz.func12,Tryz.ntmps12
 go_wp2_with fail
 generalize World.alloc w _=W0 at x0 x1 x2 hbn hbr hlt0 ⊢;refine (KC.out _ hbn).mono ?_
 rintro e w1 ⟨rfl,hw1⟩;have hb1:=hbn.trans (hw1.mono hbn.size);have hr1:=hbr.below hw1 hlt0;have hlt1:w.heap.size < w1.heap.size:=Nat.lt_of_lt_of_le hlt0 hw1.size;obtain ⟨y0,y1,y2,f0,f1,f2⟩:=hr1.rc3;have HX:=hid (fun (W':World) (h:Below w1.heap.size w1 W')=>(RowIs.rc3 (hr1.below h hlt1)).1);clear x0 x1 x2 hbr hw1 KC;have hcl:¬ 9223372036854775807 < 5+en.length:=by omega
 go_upto_region 3 with fail
 go_cut [4] from 14 to 21 (fun v wx=>∃ cs,Hid (ndsL cs=[⟨0,presenceK,[atr xmlnsK spaceK,atr entityK (presK++[58]++en)],[]⟩])∧Hid (OwnN wx w1.heap.size v cs)∧Hid (Below w1.heap.size w1 wx))
 case first =>
  go_region_law ((go_simp; go_at_call 26; refine (ratr14_any _ _ _).mono ?_; rintro e wa ⟨rfl,hwa⟩; have hq:=bstep14 (S:=w1.heap.size) (w1:=w1) (by first | exact hq | exact hq.drew | exact hq.drew.drew | exact hq.drew.drew.drew | exact Below.refl _ _ | exact (Below.refl _ _).drew | exact (Below.refl _ _).drew.drew | exact (Below.refl _ _).drew.drew.drew | exact (Below.refl _ _).drew.drew.drew.drew) (Nat.le_refl _) hwa; have ya0:=HX.out _ hq; clear hwa))
  all_goals
   have hq2:=al14 hq (Nat.le_refl _);have hro:=root_own wa w1.heap.size hq.size _ rfl en;go_wp2_with fail
   go_meet
   case rel=>exact ⟨_,show _=_ from rfl,hid hro,hid (hq2 _ _)⟩
 case rest =>
  obtain ⟨cs0,hn0,hown0,hb0⟩:=hcut;have hsT:=HSM.out.tl;have hsN:=HSM.out.nl;simp only at hsT hsN;have HTW:=hid (fun (W':World) (h:Below w1.heap.size w1 W')=>HTS.out.below (hb1.trans (h.mono hb1.size)));have HNW:=hid (fun (W':World) (h:Below w1.heap.size w1 W')=>HNS.out.below (hb1.trans (h.mono hb1.size)));have HRW:=hid (fun (W':World) (h:Below w1.heap.size w1 W')=>RowIs.rc3 (hr1.below h hlt1));obtain ⟨ta,tc,hta,_⟩:=HTS.out;obtain ⟨na,nc,hna,_⟩:=HNS.out;obtain ⟨tn,htn⟩:∃ tn,tn=tl.length:=⟨_,rfl⟩
  obtain ⟨nn,hnn⟩:∃ nn,nn=nl.length:=⟨_,rfl⟩
  rw [← htn] at hta hsT hT16;rw [← hnn] at hna hsN hN16;subst hta hna;have HTN:=hid htn;have HNN:=hid hnn;clear htn hnn y0 y1 y2 f0 f1 f2 hcl HX hr1;obtain ⟨i1,hj,hy0,hy1,hy2⟩:=info_parts infoNodeB;go_wp2
  go_loopw [4,5] (fun v i wr=>∃ (j:Nat) (cs:List NdC),j≤tn∧i=.int .i64 (j:Int)∧Hid (ndsL cs=⟨0,presenceK,[atr xmlnsK spaceK,atr entityK (presK++[58]++en)],[]⟩ :: flatXs 1 ((tl.take j).map tupT))∧cs.length≤1+5 * j∧Hid (OwnN wr w1.heap.size v cs)∧Hid (Below w1.heap.size w1 wr)) (fun _ i _=>tn - (intOf i).toNat)
  case atStart=>exact ⟨0,cs0,Nat.zero_le _,rfl,hn0,by have:=congrArg List.length hn0.out; simp [ndsL] at this; omega,hown0,hb0⟩
  case round =>
   obtain ⟨j,cs,hjn,rfl,hnd,hcsl,hown,hbw⟩:=hrel;obtain ⟨x0,x1,x2,k0,k1,k2⟩:=HRW.out wr hbw.out;obtain ⟨vo,vc,hvf⟩:=hown.out.form;subst hvf;by_cases hlt:j < tn
   ·have hjl:j < tl.length:=by have:=HTN.out; omega
    obtain ⟨ta',tc',hta',hcT⟩:=HTW.out wr hbw.out;obtain ⟨ad,hao,hab,c⟩:=hcT j hjl
    injection hta' with e1 e2 e3
    subst e1 hao;clear e2 e3;have HFN:=hid (flat_next hjl);generalize tl[j]=x at c HFN;obtain ⟨xi,xo,xc,xp,xn⟩:=x;obtain ⟨c0,c1,c2,c3,c4⟩:=c;simp only at c0 c1 c2 c3 c4;have hP0:PSt w1 wr.heap.size ⟨xi,xo,xc,xp,xn⟩ (wr.alloc (.cells #[.string ⟨xi.toArray⟩,.bool xo,.string ⟨xc.toArray⟩,.int .i64 xp,.string ⟨xn.toArray⟩] 56)) (.slice vo cs.length vc) cs :=
     ⟨hown.out.alloc _,rc_row5 wr _ _ _ _ _ _,alloc_lt _ _,fun e=>by have:=(World.ownsRow.lt hown.out.1 _ e).2; omega,hbw.out.alloc hbw.out.size _⟩
    have q6:(j:Int) < (tn:Int):=by omega
    clear hcT hown hbw
    go_upto_if 35 with fail
    generalize World.alloc wr _=wx at hP0 ⊢;obtain ⟨y0,y1,y2,y3,y4,_,_,_,_,_⟩:=hP0.c5;simp only at y0 y1 y2 y3 y4;have HP0:=hid hP0;clear c0 c1 c2 c3 c4 hP0 x0 x1 x2 k0 k1 k2
    go_cut [7] from 22 to 89 (fun s7 wy=>(∃ B,Hid (B=(if xo then openK else closedK))∧s7=.string ⟨B.toArray⟩)∧wy=wx)
    case first =>
     cases xo
     all_goals
      go_wp2_with fail
      go_meet
      case rel=>first | exact ⟨⟨openK,show _=_ from rfl,rfl⟩,rfl⟩ | exact ⟨⟨closedK,show _=_ from rfl,rfl⟩,rfl⟩
    case rest =>
     obtain ⟨⟨BO,HBO,rfl⟩,rfl⟩:=hcut;go_wp2_with fail
     refine (ratr14_any _ _ _).mono ?_
     rintro e wa ⟨rfl,hwa⟩;have hPa:=HP0.out.below hwa;have hPb:=(hPa.alloc (.cells #[.string ⟨#[105,100]⟩,.string ⟨xi.toArray⟩,.bool true] 59))
     have hOa:=ownP_newX wa w1.heap.size hPa.size [atr pidK xi] 1 rfl (by decide);have hnewN:=hid (fun (W:World) (c:NdC) (g:Nat) (hg:g=W.heap.size)=>xnd_new W c g hg);have hcl:cs.length≤2000000:=by omega
     clear HP0 hwa y0 y1 y2 y3 y4
     go_upto_region 12 with (at_builtin; refine wp_appN2 _ rfl (.tmp 36) (.tmp 42) 47 rfl w1.heap.size i1 _ Tryz.underlying47 hj hy0 hy1 hy2 rfl (.slice vo cs.length vc) cs rfl (by exact OwnN.alloc hPb.own _) ⟨_,0,none⟩ 1 ⟨⟨1,tupleK,[atr pidK xi],[]⟩,.slice (some ⟨wa.heap.size,0,none⟩) 1 1⟩ (by exact OwnP.alloc hOa _) rfl (by exact hnewN.out _ _ _ (by simp)) hcl (by have:=hPb.size; simp at this ⊢; omega) ?_; intro v5 w5 hown5 hf5; obtain ⟨xa,xk,e5⟩:=hown5.form; subst e5)
     have hP5:=(hPb.alloc _).app hf5 hown5;have hN5:=nds_snoc cs ⟨⟨1,tupleK,[atr pidK xi],[]⟩,.slice (some ⟨wa.heap.size,0,none⟩) 1 1⟩;have hL5:(cs++[(⟨⟨1,tupleK,[atr pidK xi],[]⟩,.slice (some ⟨wa.heap.size,0,none⟩) 1 1⟩:NdC)]).length=cs.length+1:=by simp
     clear hown5 hf5 hPb hOa hPa;generalize cs++[(⟨⟨1,tupleK,[atr pidK xi],[]⟩,.slice (some ⟨wa.heap.size,0,none⟩) 1 1⟩:NdC)]=cs2 at hP5 hN5 hL5;rw [hL5] at hP5;simp only at hN5;have hn2:cs.length+1≤2+5 * j:=by omega
     generalize cs.length+1=n2 at hP5 hL5 hn2 ⊢;have HN5:=hid hN5;have hcl5:cs2.length≤2+5 * j:=by omega
     clear hN5 hL5
     go_upto_region 13 with (at_builtin; refine wp_appN2 _ rfl (.tmp 44) (.tmp 46) 47 rfl w1.heap.size i1 _ Tryz.underlying47 hj hy0 hy1 hy2 rfl (.slice xa n2 xk) cs2 rfl (by exact OwnN.alloc hP5.own _) ⟨_,0,none⟩ 1 ⟨⟨2,pstatK,[],[]⟩,.slice none 0 0⟩ (by exact OwnP.nil _ _) rfl (by exact hnewN.out _ _ _ rfl) (by omega) (by have:=hP5.size; simp; omega) ?_; intro v6 w6 hown6 hf6; obtain ⟨xa6,xk6,e6⟩:=hown6.form; subst e6)
     have hP6:=(hP5.alloc _).app hf6 hown6;have hN6:=nds_snoc cs2 ⟨⟨2,pstatK,[],[]⟩,.slice none 0 0⟩;have hL6:(cs2++[(⟨⟨2,pstatK,[],[]⟩,.slice none 0 0⟩:NdC)]).length=cs2.length+1:=by simp
     clear hown6 hf6 hP5;generalize cs2++[(⟨⟨2,pstatK,[],[]⟩,.slice none 0 0⟩:NdC)]=cs3 at hP6 hN6 hL6;rw [hL6] at hP6;simp only at hN6;have hn3:cs2.length+1≤3+5 * j:=by omega
     generalize cs2.length+1=n3 at hP6 hL6 hn3 ⊢;have HhN6:=hid hN6;have hcl6:cs3.length≤3+5 * j:=by omega
     clear hN6 hL6
     go_upto_region 14 with (at_builtin; refine wp_appN2 _ rfl (.tmp 48) (.tmp 51) 47 rfl w1.heap.size i1 _ Tryz.underlying47 hj hy0 hy1 hy2 rfl (.slice xa6 n3 xk6) cs3 rfl (by exact OwnN.alloc hP6.own _) ⟨_,0,none⟩ 1 ⟨⟨3,basicK,[],BO⟩,.slice none 0 0⟩ (by exact OwnP.nil _ _) rfl (by exact hnewN.out _ _ _ rfl) (by omega) (by have:=hP6.size; simp; omega) ?_; intro v7 w7 hown7 hf7; obtain ⟨xa7,xk7,e7⟩:=hown7.form; subst e7)
     have hP7:=(hP6.alloc _).app hf7 hown7;have hN7:=nds_snoc cs3 ⟨⟨3,basicK,[],BO⟩,.slice none 0 0⟩;have hL7:(cs3++[(⟨⟨3,basicK,[],BO⟩,.slice none 0 0⟩:NdC)]).length=cs3.length+1:=by simp
     clear hown7 hf7 hP6;generalize cs3++[(⟨⟨3,basicK,[],BO⟩,.slice none 0 0⟩:NdC)]=cs4 at hP7 hN7 hL7;rw [hL7] at hP7;simp only at hN7;have hn4:cs3.length+1≤4+5 * j:=by omega
     generalize cs3.length+1=n4 at hP7 hL7 hn4 ⊢;have HhN7:=hid hN7;have hcl7:cs4.length≤4+5 * j:=by omega
     clear hN7 hL7;obtain ⟨z0,z1,z2,z3,z4,_,_,_,_,_⟩:=hP7.c5;simp only at z0 z1 z2 z3 z4;have HP7:=hid hP7;clear hP7;by_cases hcx:xc=[]
     ·subst hcx;by_cases hnx:xn=[]
      ·subst hnx;have hE:Hid (ndsL cs4=⟨0,presenceK,[atr xmlnsK spaceK,atr entityK (presK++[58]++en)],[]⟩ :: flatXs 1 ((tl.take (j+1)).map tupT)):=show _=_ by
        rw [HhN7.out,HhN6.out,HN5.out,hnd.out,HFN.out,flat_tup,HBO.out]; simp [contT,tnoteT,flatXs,flatX]
       clear HhN7 HhN6 HN5 HFN HBO hnd;go_wp2;go_roundw
       case rel=>exact ⟨j+1,cs4,by omega,by go_num,hE,by omega,hid HP7.out.own,hid HP7.out.bel⟩
       case measure=>simp [intOf]; omega
      ·have hE:Hid (ndsL (cs4++[(⟨⟨2,noteK,[],xn⟩,.slice none 0 0⟩:NdC)])=⟨0,presenceK,[atr xmlnsK spaceK,atr entityK (presK++[58]++en)],[]⟩ :: flatXs 1 ((tl.take (j+1)).map tupT)):=show _=_ by
        rw [nds_snoc,HhN7.out,HhN6.out,HN5.out,hnd.out,HFN.out,flat_tup,HBO.out]; simp [contT,tnoteT,noteT,hnx,flatXs,flatX]
       have hL9:(cs4++[(⟨⟨2,noteK,[],xn⟩,.slice none 0 0⟩:NdC)]).length=cs4.length+1:=by simp
       have hne:xn.isEmpty=false:=by simpa using hnx
       clear HhN7 HhN6 HN5 HFN HBO hnd
       go_upto_region 6 with (at_builtin; refine wp_appN2 _ rfl (.tmp 84) (.tmp 88) 47 rfl w1.heap.size i1 _ Tryz.underlying47 hj hy0 hy1 hy2 rfl (.slice xa7 n4 xk7) cs4 rfl (by exact OwnN.alloc HP7.out.own _) ⟨_,0,none⟩ 1 ⟨⟨2,noteK,[],xn⟩,.slice none 0 0⟩ (by exact OwnP.nil _ _) rfl (by exact hnewN.out _ _ _ rfl) (by omega) (by have:=HP7.out.size; simp; omega) ?_; intro v9 w9 hown9 hf9; obtain ⟨xa9,xk9,e9⟩:=hown9.form; subst e9)
       have hP9:=(HP7.out.alloc _).app hf9 hown9;have hO9:=hP9.own;rw [hL9] at hO9;go_wp2;go_roundw
       case rel=>exact ⟨j+1,cs4++[⟨⟨2,noteK,[],xn⟩,.slice none 0 0⟩],by omega,by go_num,hE,by rw [hL9]; omega,hid hO9,hid hP9.bel⟩
       case measure=>simp [intOf]; omega
     ·have hce:xc.isEmpty=false:=by simpa using hcx
      by_cases hpx:xp=-1
      ·subst hpx
       go_upto_region 18 with (at_builtin; refine wp_appN2 _ rfl (.tmp 75) (.tmp 79) 47 rfl w1.heap.size i1 _ Tryz.underlying47 hj hy0 hy1 hy2 rfl (.slice xa7 n4 xk7) cs4 rfl (by exact OwnN.alloc HP7.out.own _) ⟨_,0,none⟩ 1 ⟨⟨2,pcontK,[],xc⟩,.slice none 0 0⟩ (by exact OwnP.nil _ _) rfl (by exact hnewN.out _ _ _ rfl) (by omega) (by have:=HP7.out.size; simp; omega) ?_; intro v8 w8 hown8 hf8; obtain ⟨xa8,xk8,e8⟩:=hown8.form; subst e8; have hP8:=(HP7.out.alloc _).app hf8 hown8; obtain ⟨zz0,zz1,zz2,zz3,zz4,_,_,_,_,_⟩:=hP8.c5; simp only at zz0 zz1 zz2 zz3 zz4)
       have hN8:=nds_snoc cs4 ⟨⟨2,pcontK,[],xc⟩,.slice none 0 0⟩;have hL8:(cs4++[(⟨⟨2,pcontK,[],xc⟩,.slice none 0 0⟩:NdC)]).length=cs4.length+1:=by simp
       clear hown8 hf8 HP7 z0 z1 z2 z3 z4;generalize cs4++[(⟨⟨2,pcontK,[],xc⟩,.slice none 0 0⟩:NdC)]=cs5 at hP8 hN8 hL8;rw [hL8] at hP8;simp only at hN8;have hn5:cs4.length+1≤5+5 * j:=by omega
       generalize cs4.length+1=n5 at hP8 hL8 hn5 ⊢;have HhN8:=hid hN8;have hcl8:cs5.length≤5+5 * j:=by omega
       have HP8:=hid hP8;clear hN8 hL8 hP8;by_cases hnx:xn=[]
       ·subst hnx;have hE:Hid (ndsL cs5=⟨0,presenceK,[atr xmlnsK spaceK,atr entityK (presK++[58]++en)],[]⟩ :: flatXs 1 ((tl.take (j+1)).map tupT)):=show _=_ by
         rw [HhN8.out,HhN7.out,HhN6.out,HN5.out,hnd.out,HFN.out,flat_tup,HBO.out]; simp [contT,tnoteT,flatXs,flatX,hcx]
        clear HhN8 HhN7 HhN6 HN5 HFN HBO hnd;go_wp2;go_roundw
        case rel=>exact ⟨j+1,cs5,by omega,by go_num,hE,by omega,hid HP8.out.own,hid HP8.out.bel⟩
        case measure=>simp [intOf]; omega
       ·have hE:Hid (ndsL (cs5++[(⟨⟨2,noteK,[],xn⟩,.slice none 0 0⟩:NdC)])=⟨0,presenceK,[atr xmlnsK spaceK,atr entityK (presK++[58]++en)],[]⟩ :: flatXs 1 ((tl.take (j+1)).map tupT)):=show _=_ by
         rw [nds_snoc,HhN8.out,HhN7.out,HhN6.out,HN5.out,hnd.out,HFN.out,flat_tup,HBO.out]; simp [contT,tnoteT,noteT,hnx,flatXs,flatX,hcx]
        have hL9:(cs5++[(⟨⟨2,noteK,[],xn⟩,.slice none 0 0⟩:NdC)]).length=cs5.length+1:=by simp
        have hne:xn.isEmpty=false:=by simpa using hnx
        clear HhN8 HhN7 HhN6 HN5 HFN HBO hnd
        go_upto_region 6 with (at_builtin; refine wp_appN2 _ rfl (.tmp 84) (.tmp 88) 47 rfl w1.heap.size i1 _ Tryz.underlying47 hj hy0 hy1 hy2 rfl (.slice xa8 n5 xk8) cs5 rfl (by exact OwnN.alloc HP8.out.own _) ⟨_,0,none⟩ 1 ⟨⟨2,noteK,[],xn⟩,.slice none 0 0⟩ (by exact OwnP.nil _ _) rfl (by exact hnewN.out _ _ _ rfl) (by omega) (by have:=HP8.out.size; simp; omega) ?_; intro v9 w9 hown9 hf9; obtain ⟨xa9,xk9,e9⟩:=hown9.form; subst e9)
        have hP9:=(HP8.out.alloc _).app hf9 hown9;have hO9:=hP9.own;rw [hL9] at hO9;go_wp2;go_roundw
        case rel=>exact ⟨j+1,cs5++[⟨⟨2,noteK,[],xn⟩,.slice none 0 0⟩],by omega,by go_num,hE,by rw [hL9]; omega,hid hO9,hid hP9.bel⟩
        case measure=>simp [intOf]; omega
      ·have q7:(xp != -1)=true:=by simpa using hpx
       have q8:(xp==-1)=false:=by simpa using hpx
       have KD:=hid (fun w'=>rdec_any xp w');have HDL:Hid (contT ⟨xi,xo,xc,xp,xn⟩=[.mk pcontK [atr priorityK (decL xp)] xc []]):=show _=_ by unfold contT; rw [if_neg hcx,if_neg hpx]
       generalize decL xp=DL at KD HDL;have hlt7:=HP7.out.lt;have HX:=hid (fun (W':World) (h:Below w7.heap.size w7 W')=>(HP7.out.below h).c5)
       go_upto_region 15 with fail
       go_cut [4] from 61 to 71 (fun v wx=>∃ (cs5:List NdC) (n5:Nat) (xa8:Option Addr) (xk8:Nat),v=.slice xa8 n5 xk8∧Hid (n5=cs5.length)∧Hid (ndsL cs5=ndsL cs4++[⟨2,pcontK,[atr priorityK DL],xc⟩])∧Hid (PSt w1 wr.heap.size ⟨xi,xo,xc,xp,xn⟩ wx v cs5))
       case first =>
        go_region_law (first
         | (go_simp; go_at_call 21; refine (KD.out _).mono ?_; rintro e wd ⟨rfl,qd,rfl⟩)
         | (go_simp; go_at_call 26; refine (ratr14_any _ _ _).mono ?_; rintro e wa ⟨rfl,hwa⟩; have hq:=draw_step (w1:=w7) hwa rfl rfl rfl rfl; obtain ⟨ya0,ya1,ya2,ya3,ya4,_,_,_,_,_⟩:=HX.out _ hq; obtain ⟨yb0,yb1,yb2,yb3,yb4,_,_,_,_,_⟩:=HX.out _ (hq.alloc hq.size (.cells #[.string ⟨#[112,114,105,111,114,105,116,121]⟩,.string ⟨DL.toArray⟩,.bool true] 59)); have hPa:=hid (HP7.out.below hq); have hOa:=hid (ownP_newX wa w1.heap.size (HP7.out.below hq).size [atr priorityK DL] 1 rfl (by decide)); clear hwa)
         | (refine step_appN rfl (.tmp 61) (.tmp 70) 47 rfl w1.heap.size i1 _ Tryz.underlying47 hj hy0 hy1 hy2 rfl (.slice xa7 n4 xk7) cs4 (by simp [Act.eval,Act.put]) (OwnN.alloc (OwnN.alloc hPa.out.own _) _) ⟨_,0,none⟩ 1 ⟨⟨2,pcontK,[atr priorityK DL],xc⟩,.slice (some ⟨wa.heap.size,0,none⟩) 1 1⟩ (OwnP.alloc hOa.out _) (by simp [Act.eval,Act.put]; rfl) (hnewN.out _ _ _ (by simp)) (by omega) (by have:=hPa.out.size; simp; omega) ?_; intro v8 w8 hown8 hf8; have hP8:=hid (((hPa.out.alloc _).alloc _).app hf8 hown8); obtain ⟨xa8,xk8,e8⟩:=hown8.form; obtain ⟨n5,hn5⟩:∃ n5,n5=(cs4++[(⟨⟨2,pcontK,[atr priorityK DL],xc⟩,.slice (some ⟨wa.heap.size,0,none⟩) 1 1⟩:NdC)]).length:=⟨_,rfl⟩; rw [← hn5] at e8; subst e8; have HN5':=hid hn5; clear hn5 hown8 hf8))
        all_goals
         go_wp2_with fail
         go_meet
         case rel=>exact ⟨_,n5,xa8,xk8,rfl,HN5',show _=_ from nds_snoc _ _,hP8⟩
       case rest =>
        obtain ⟨cs5,n5,xa8,xk8,rfl,HL8,HhN8,HP8⟩:=hcut;obtain ⟨zz0,zz1,zz2,zz3,zz4,_,_,_,_,_⟩:=HP8.out.c5;simp only at zz0 zz1 zz2 zz3 zz4;have hcl8:cs5.length≤5+5 * j:=by have h:=congrArg List.length HhN8.out; rw [List.length_append,ndsL_len,ndsL_len] at h; simp at h; omega
        have hn5:n5≤5+5 * j:=by have:=HL8.out; omega
        clear HP7 z0 z1 z2 z3 z4 HX KD;by_cases hnx:xn=[]
        ·subst hnx;have hE:Hid (ndsL cs5=⟨0,presenceK,[atr xmlnsK spaceK,atr entityK (presK++[58]++en)],[]⟩ :: flatXs 1 ((tl.take (j+1)).map tupT)):=show _=_ by
          rw [HhN8.out,HhN7.out,HhN6.out,HN5.out,hnd.out,HFN.out,flat_tup,HBO.out,HDL.out]; simp [tnoteT,flatXs,flatX]
         clear HhN8 HhN7 HhN6 HN5 HFN HBO hnd HDL;go_wp2;go_roundw
         case rel=>exact ⟨j+1,cs5,by omega,by go_num,hE,by omega,hid (by have h:=HP8.out.own; rw [HL8.out] at h ⊢; exact h),hid HP8.out.bel⟩
         case measure=>simp [intOf]; omega
        ·have hE:Hid (ndsL (cs5++[(⟨⟨2,noteK,[],xn⟩,.slice none 0 0⟩:NdC)])=⟨0,presenceK,[atr xmlnsK spaceK,atr entityK (presK++[58]++en)],[]⟩ :: flatXs 1 ((tl.take (j+1)).map tupT)):=show _=_ by
          rw [nds_snoc,HhN8.out,HhN7.out,HhN6.out,HN5.out,hnd.out,HFN.out,flat_tup,HBO.out,HDL.out]; simp [tnoteT,noteT,hnx,flatXs,flatX]
         have hL9:(cs5++[(⟨⟨2,noteK,[],xn⟩,.slice none 0 0⟩:NdC)]).length=cs5.length+1:=by simp
         have hne:xn.isEmpty=false:=by simpa using hnx
         clear HhN8 HhN7 HhN6 HN5 HFN HBO hnd HDL
         go_upto_region 6 with (at_builtin; refine wp_appN2 _ rfl (.tmp 84) (.tmp 88) 47 rfl w1.heap.size i1 _ Tryz.underlying47 hj hy0 hy1 hy2 rfl (.slice xa8 n5 xk8) cs5 rfl (by exact OwnN.alloc HP8.out.own _) ⟨_,0,none⟩ 1 ⟨⟨2,noteK,[],xn⟩,.slice none 0 0⟩ (by exact OwnP.nil _ _) rfl (by exact hnewN.out _ _ _ rfl) (by omega) (by have:=HP8.out.size; simp; omega) ?_; intro v9 w9 hown9 hf9; obtain ⟨xa9,xk9,e9⟩:=hown9.form; subst e9)
         have hP9:=(HP8.out.alloc _).app hf9 hown9;have hO9:=hP9.own;rw [hL9] at hO9;go_wp2;go_roundw
         case rel=>exact ⟨j+1,cs5++[⟨⟨2,noteK,[],xn⟩,.slice none 0 0⟩],by omega,by go_num,hE,by rw [hL9]; omega,hid hO9,hid hP9.bel⟩
         case measure=>simp [intOf]; omega
   ·have q6:¬ (j:Int) < (tn:Int):=by omega
    have hnd2:Hid (ndsL cs=rootN en :: flatXs 1 (tl.map tupT)):=show _=_ by rw [hnd.out,List.take_of_length_le (by have:=HTN.out; omega)]; rfl
    have hcl:cs.length≤81:=by omega
    generalize hn:cs.length=n at hown hcl ⊢;have HL:Hid (n=cs.length):=hn.symm;clear hn hnd hcsl;go_wp2
    go_loopw [4,8] (fun v i wr=>∃ (k n:Nat) (vo:Option Addr) (vc:Nat) (cs:List NdC),k≤nn∧i=.int .i64 (k:Int)∧v=.slice vo n vc∧Hid (ndsL cs=rootN en :: (flatXs 1 (tl.map tupT)++flatXs 1 ((nl.take k).map noteT)))∧Hid (n=cs.length)∧n≤81+k∧Hid (OwnN wr w1.heap.size v cs)∧Hid (Below w1.heap.size w1 wr)) (fun _ i _=>nn - (intOf i).toNat)
    case atStart=>exact ⟨0,n,vo,vc,cs,Nat.zero_le _,rfl,rfl,by simpa [flatXs] using hnd2,HL,by omega,hown,hbw⟩
    case round =>
     clear x0 x1 x2 k0 k1 k2 hown hbw hnd2 HL hcl q6 hlt;obtain ⟨k,n3,vo3,vc3,cs3,hkn,rfl,rfl,hnd,HL,hnb,hown,hbw⟩:=hrel;obtain ⟨x0,x1,x2,k0,k1,k2⟩:=HRW.out _ hbw.out;by_cases hlt:k < nn
     ·have hkl:k < nl.length:=by have:=HNN.out; omega
      obtain ⟨na',nc',hna',hcN⟩:=HNW.out _ hbw.out;obtain ⟨ad,hao,hab,c⟩:=hcN k hkl
      injection hna' with e1 e2 e3
      subst e1 hao;clear e2 e3;have HFN:=hid (flat_nnext hkl);generalize nl[k]=s at c HFN;have q6:(k:Int) < (nn:Int):=by omega
      have hnewN:=hid (fun (W:World) (c:NdC) (g:Nat) (hg:g=W.heap.size)=>xnd_new W c g hg);clear hcN;go_wp2_with (at_builtin; refine wp_appN2 _ rfl (.tmp 97) (.tmp 104) 47 rfl w1.heap.size i1 _ Tryz.underlying47 hj hy0 hy1 hy2 rfl (.slice vo3 n3 vc3) cs3 rfl (by exact OwnN.alloc hown.out _) ⟨_,0,none⟩ 1 ⟨⟨1,noteK,[],s⟩,.slice none 0 0⟩ (by exact OwnP.nil _ _) rfl (by exact hnewN.out _ _ _ rfl) (by have:=HL.out; omega) (by have:=hbw.out.size; simp; omega) ?_; intro v9 w9 hown9 hf9; have hb9:=hid ((hbw.out.alloc hbw.out.size _).trans (hf9.to (by have:=hbw.out.size; simp; omega) fun g hg=>(World.ownsRow.lt hown.out.1 g hg).1)); obtain ⟨va9,vc9,e9⟩:=hown9.form; obtain ⟨n9,hn9⟩:∃ n9,n9=(cs3++[(⟨⟨1,noteK,[],s⟩,.slice none 0 0⟩:NdC)]).length:=⟨_,rfl⟩; rw [← hn9] at e9; subst e9; have HN9:=hid hn9; have HO9:=hid hown9; clear hn9 hown9 hf9)
      go_roundw
      case rel=>exact ⟨k+1,n9,va9,vc9,cs3++[⟨⟨1,noteK,[],s⟩,.slice none 0 0⟩],by omega,by go_num,rfl,show _=_ by rw [nds_snoc,hnd.out,HFN.out]; simp,HN9,by have h1:=HN9.out; have h2:=HL.out; rw [List.length_append,List.length_singleton] at h1; omega,HO9,hb9⟩
      case measure=>simp [intOf]; omega
     ·have q6:¬ (k:Int) < (nn:Int):=by omega
      have KQ:=hid (KP.out wr (.slice vo3 n3 vc3) cs3 _ (by rw [hnd.out,List.take_of_length_le (by have:=HNN.out; omega)]) hown.out);clear KP;go_wp2_with fail
      refine KQ.out.mono ?_
      rintro e w5 ⟨rfl,hw5⟩;go_wp2;go_ret2;have hbx:=hb1.trans (hbw.out.mono hb1.size);exact ⟨rfl,hbx.trans (hw5.mono hbx.size)⟩
def tuW (t:Tu):Nat:=20+t.id.length+t.contact.length+t.note.length
def dcW (d:Dc):Nat:=d.entity.length+(d.tuples.map tuW).sum+(d.notes.map fun s=>10+s.length).sum
theorem sum_stepD {α:Type} (f:α → Nat) {l:List α} {k:Nat} (h:k < l.length):((l.take (k+1)).map f).sum=((l.take k).map f).sum+f l[k]:=by
 rw [List.take_succ_eq_append_getElem h,List.map_append,List.sum_append]; simp
theorem sum_boundD {α:Type} (f:α → Nat) (B:Nat):∀ l:List α,(∀ x ∈ l,f x≤B) → (l.map f).sum≤l.length * B
 | [],_=>by simp
 | a :: l,h=>by
  have h1:=h a (by simp);have h2:=sum_boundD f B l fun x hx=>h x (by simp [hx]);rw [List.map_cons,List.sum_cons,List.length_cons,Nat.succ_mul]; omega
set_option maxHeartbeats 2000000 in
set_option maxRecDepth 100000 in
theorem lsmall14 (d:Dc) (ts ns:Value) (w:World) (hsm:SmallD 1048576 d) (h1:TusAt w ts d.tuples) (h2:StrsAt w ns d.notes) :
  Calls Tryz.prog 9 #[docV d ts ns] w fun e w'=>e=.returned (.bool (decide (dcW d≤8000)))∧Below w.heap.size w w':=by
 obtain ⟨en,tl,nl⟩:=d;obtain ⟨z0,z1,z2,z3,z4⟩:=hsm;simp only at h1 h2 z0 z1 z2 z3 z4;unfold docV
 simp only
 have hv:dcW ⟨en,tl,nl⟩=en.length+(tl.map tuW).sum+(nl.map fun s=>10+s.length).sum:=rfl;generalize dcW ⟨en,tl,nl⟩=S at hv ⊢;have HV:=hid hv;have hTB:∀ k,((tl.take k).map tuW).sum≤4000000000000:=fun k=>by
  have h:=sum_boundD tuW 3145748 (tl.take k) fun x hx=>by obtain ⟨a1,a2,a3,_⟩:=z3 x (List.mem_of_mem_take hx); unfold tuW; omega
  have hl:(tl.take k).length≤1048576:=by rw [List.length_take]; omega
  have hm:(tl.take k).length * 3145748≤1048576 * 3145748:=Nat.mul_le_mul_right _ hl;omega
 have hNB:∀ k,((nl.take k).map fun s:List UInt8=>10+s.length).sum≤1099522113536:=fun k=>by
  have h:=sum_boundD (fun s:List UInt8=>10+s.length) 1048586 (nl.take k) fun x hx=>by have:=z4 x (List.mem_of_mem_take hx); omega
  have hl:(nl.take k).length≤1048576:=by rw [List.length_take]; omega
  have hm:(nl.take k).length * 1048586≤1048576 * 1048586:=Nat.mul_le_mul_right _ hl;omega
 have HTB:=hid hTB;have HNB:=hid hNB;obtain ⟨ta,tc,rfl,htc⟩:=h1;obtain ⟨na,nc,rfl,hnc⟩:=h2;have HTC:=hid htc;have HNC:=hid hnc;obtain ⟨tn,htn⟩:∃ tn,tn=tl.length:=⟨_,rfl⟩
 obtain ⟨nn,hnn⟩:∃ nn,nn=nl.length:=⟨_,rfl⟩
 rw [← htn] at z1 ⊢;rw [← hnn] at z2 ⊢;have HTN:=hid htn;have HNN:=hid hnn;clear hv htc hnc htn hnn hTB hNB z3 z4;have hr:=rc_row3 w (.string ⟨en.toArray⟩) (.slice ta tn tc) (.slice na nn nc) 25;have hbn:Below w.heap.size w (w.alloc (.cells #[.string ⟨en.toArray⟩,.slice ta tn tc,.slice na nn nc] 25)):=(Below.refl _ w).alloc (Nat.le_refl _) _;obtain ⟨x0,x1,x2,_,_,_⟩:=hr.rc3;have ze:=size_list en;clear hr
 go_enter Tryz.func9,Tryz.ntmps9
 go_wp2;generalize World.alloc w _=W at x0 x1 x2 hbn ⊢
 go_loopw [3,4] (fun x i wr=>∃ k q t:Nat,k≤tn∧i=.int .i64 k∧x=.int .i64 t∧Hid (t=en.length+((tl.take k).map tuW).sum)∧wr=W.drewN q) (fun _ i _=>tn - (intOf i).toNat)
 case atStart=>exact ⟨0,0,en.length,Nat.zero_le _,rfl,by go_num,show _=_ by simp,rfl⟩
 case round =>
  obtain ⟨k,q,t,hk,rfl,rfl,ht,rfl⟩:=hrel;by_cases hlt:k < tn
  ·have hkl:k < tl.length:=by have:=HTN.out; omega
   obtain ⟨a,rfl,hab,c⟩:=HTC.out k hkl;have c:=c.below hbn hab;have hst:=sum_stepD tuW hkl;have hb1:=HTB.out k;have hb2:=HTB.out (k+1);have htt:=ht.out;have q6:(k:Int) < (tn:Int):=by omega
   generalize tl[k]=T at c hst;obtain ⟨ti,to',tk,tp,tx⟩:=T;obtain ⟨c0,c1,c2,c3,c4⟩:=c;simp only [tuW] at c0 c1 c2 c3 c4 hst;have s1:=size_list ti;have s2:=size_list tk;have s3:=size_list tx;have w1:IntKind.i64.wrap ((t:Int)+20)=(t:Int)+20:=by rw [IntKind.wrap_i64]; omega
   have w2:IntKind.i64.wrap ((t:Int)+20+(ti.length:Int))=(t:Int)+20+(ti.length:Int):=by rw [IntKind.wrap_i64]; omega
   have w3:IntKind.i64.wrap ((t:Int)+20+(ti.length:Int)+(tk.length:Int))=(t:Int)+20+(ti.length:Int)+(tk.length:Int):=by rw [IntKind.wrap_i64]; omega
   have w4:IntKind.i64.wrap ((t:Int)+20+(ti.length:Int)+(tk.length:Int)+(tx.length:Int))=(t:Int)+20+(ti.length:Int)+(tk.length:Int)+(tx.length:Int):=by rw [IntKind.wrap_i64]; omega
   have hnx:Hid (t+20+ti.length+tk.length+tx.length=en.length+((tl.take (k+1)).map tuW).sum):=show _=_ by rw [hst,htt]; omega
   clear hst htt hb1 hb2 ht HTC HNC HTB HNB;go_wp2
   go_quiet (fail)
   go_wp2;go_roundw
   case rel=>exact ⟨k+1,q+nq,t+20+ti.length+tk.length+tx.length,by omega,by go_num,by first | rfl | (congr 1),hnx,by first | rfl | rw [World.drewN_drewN]⟩
   case measure=>simp [intOf]; omega
  ·have hkn:k=tn:=by omega
   subst hkn;have ht2:Hid (t=en.length+(tl.map tuW).sum):=show _=_ by have:=ht.out; rwa [List.take_of_length_le (by have:=HTN.out; omega)] at this
   have q6:¬ (k:Int) < (k:Int):=by omega
   have hbT:(tl.map tuW).sum≤4000000000000:=by have:=HTB.out k; rwa [List.take_of_length_le (by have:=HTN.out; omega)] at this
   clear ht HTC HTB;go_wp2
   go_loopw [3,5] (fun x i wr=>∃ m u:Nat,m≤nn∧i=.int .i64 m∧x=.int .i64 u∧Hid (u=t+((nl.take m).map fun s:List UInt8=>10+s.length).sum)∧wr=W.drewN q) (fun _ i _=>nn - (intOf i).toNat)
   case atStart=>exact ⟨0,t,Nat.zero_le _,rfl,rfl,show _=_ by simp,rfl⟩
   case round =>
    obtain ⟨m,u,hm,rfl,rfl,hu,rfl⟩:=hrel;by_cases hlt2:m < nn
    ·have hml:m < nl.length:=by have:=HNN.out; omega
     obtain ⟨a,rfl,hab,c⟩:=HNC.out m hml;have c:=cell_below hbn (by rw [add_block]; exact hab) c;have hst:=sum_stepD (fun s:List UInt8=>10+s.length) hml;have hb1:=HNB.out (m+1);have huu:=hu.out;have htt:=ht2.out;have q7:(m:Int) < (nn:Int):=by omega
     generalize nl[m]=X at c hst
     try simp only at hst
     have s1:=size_list X;have w1:IntKind.i64.wrap ((u:Int)+10)=(u:Int)+10:=by rw [IntKind.wrap_i64]; omega
     have w2:IntKind.i64.wrap ((u:Int)+10+(X.length:Int))=(u:Int)+10+(X.length:Int):=by rw [IntKind.wrap_i64]; omega
     have hnx:Hid (u+10+X.length=t+((nl.take (m+1)).map fun s:List UInt8=>10+s.length).sum):=show _=_ by rw [hst,huu]; omega
     clear hst huu htt hb1 hu HNC HNB ht2 hbT;go_wp2;go_roundw
     case rel=>exact ⟨m+1,u+10+X.length,by omega,by go_num,by first | rfl | (congr 1),hnx,by first | rfl | trivial⟩
     case measure=>simp [intOf]; omega
    ·have hmn:m=nn:=by omega
     subst hmn;have hu2:Hid (u=S):=show _=_ by rw [hu.out,HV.out,ht2.out,List.take_of_length_le (by have:=HNN.out; omega)]
     have q7:¬ (m:Int) < (m:Int):=by omega
     clear hu HNC HNB ht2 HV hbT;go_wp2;go_ret;exact ⟨ret_bool (by rw [hu2.out]; simp; omega),hbn.trans (below_drewN W q |>.mono hbn.size)⟩
end Go.Proofs.YtdnekampnkhmfaaGreatDoor
namespace Go.Proofs.YtdnekampnkhmfaaGreatDoor.pidfPrints
open Go.RowKit Sc
theorem both14 {d:Dc} (hsm:SmallD 140737488355328 d) (hen:d.entity.length+4≤1048576):∃ Z:List UInt8,(∀ w ts ns,DocAt w d ts ns → Calls Tryz.prog 11 #[docV d ts ns] w fun e w'=>e=.returned (.tuple #[.string ⟨Z.toArray⟩,.int .i64 (checkD d)])∧Below w.heap.size w w')∧(∀ w ts ns,DocAt w d ts ns → Calls Tryz.prog 12 #[docV d ts ns] w fun e w'=>e=.returned (.tuple #[.string ⟨Z.toArray⟩,.int .i64 (checkD d)])∧Below w.heap.size w w'):=by
 by_cases hc:checkD d=0
 ·refine ⟨prologK++printX (treeD d),fun w ts ns k=>?_,fun w ts ns k=>?_⟩
  ·rw [hc]; exact pprint_ok d ts ns w k.c k.t k.n hc
  ·rw [hc]; exact rprint14_ok d ts ns w k.t k.n hc
 ·exact ⟨[],fun w ts ns k=>pprint_bad d ts ns w hsm hen k.c k.t k.n hc,fun w ts ns k=>rprint14_bad d ts ns w hsm hen k.t k.n hc⟩
set_option maxHeartbeats 4000000 in
set_option maxRecDepth 100000 in
theorem law_walk (w:World) (v0:Value) (k0:DocIn2 1048576 w v0) :
  Calls Tryz.prog 3 #[v0] w fun e w'=>e=.returned (.bool true)∧Below w.heap.size w w':=by
 obtain ⟨d,ts,ns,rfl,hD,hsm,hen⟩:=k0;have hsm2:SmallD 140737488355328 d:=hsm.up (by decide);obtain ⟨Z,hp1,hp2⟩:=both14 hsm2 hen;have KL:=hid (fun w' ts ns (k:DocAt w' d ts ns)=>lsmall14 d ts ns w' hsm k.t k.n);have K1:=hid hp1;have K2:=hid hp2;have K3:=hid (fun w' ts ns (k:DocAt w' d ts ns)=>pcheck_any d ts ns w' hsm2 hen k.c k.t k.n);have K4:=hid (fun w' ts ns (k:DocAt w' d ts ns)=>rcheck14_any d ts ns w' hsm2 hen k.t k.n);obtain ⟨ta,tk,hta,_⟩:=hD.t;obtain ⟨na,nk,hna,_⟩:=hD.n;obtain ⟨tn,htn⟩:∃ tn,tn=d.tuples.length:=⟨_,rfl⟩
 obtain ⟨nn,hnn⟩:∃ nn,nn=d.notes.length:=⟨_,rfl⟩
 rw [← htn] at hta;rw [← hnn] at hna;obtain ⟨en,hEN⟩:∃ en,en=d.entity:=⟨_,rfl⟩
 have HD0:=hid (hD.alloc (.cells #[.string ⟨en.toArray⟩,ts,ns] 25));have hr0:=hid (rc_row3 w (.string ⟨en.toArray⟩) ts ns 25);have hb0:=hid (show Below w.heap.size w (w.alloc (.cells #[.string ⟨en.toArray⟩,ts,ns] 25)) from (Below.refl _ w).alloc (Nat.le_refl _) _);have hl0:=hid (alloc_lt w (.cells #[.string ⟨en.toArray⟩,ts,ns] 25));unfold docV at KL K1 K2 K3 K4 ⊢;rw [← hEN] at KL K1 K2 K3 K4 ⊢;generalize checkD d=C at K1 K2 K3 K4;generalize decide (dcW d≤8000)=SM at KL;clear hsm hsm2 hen htn hnn hEN hD hp1 hp2;subst hta hna
 go_enter Tryz.func3,Tryz.ntmps3
 go_upto_region 1 with fail
 generalize World.alloc w _=W0 at HD0 hr0 hb0 hl0 ⊢;obtain ⟨y0,y1,y2,_,_,_⟩:=hr0.out.rc3;go_wp2_with fail
 refine (KL.out _ _ _ HD0.out).mono ?_
 rintro e w1 ⟨rfl,hw1⟩;have HD1:=hid (HD0.out.below hw1);have hr1:=hid (hr0.out.below hw1 hl0.out);have hl1:=hid (Nat.lt_of_lt_of_le hl0.out hw1.size);have hb1:=hid (hb0.out.trans (hw1.mono hb0.out.size));clear HD0 hr0 hb0 hl0 hw1 y0 y1 y2 KL
 cases SM with
 | false =>
  go_wp2_with (go_at_call 10; refine (awake14_any _).mono ?_; rintro e w7 ⟨rfl,hw7⟩)
  go_ret;exact ⟨rfl,hb1.out.trans (hw7.mono hb1.out.size)⟩
 | true =>
  obtain ⟨y0,y1,y2,_,_,_⟩:=hr1.out.rc3;go_wp2_with fail
  refine (K1.out _ _ _ HD1.out).mono ?_
  rintro e w2 ⟨rfl,hw2⟩;have HD2:=hid (HD1.out.below hw2);have hr2:=hid (hr1.out.below hw2 hl1.out);have hl2:=hid (Nat.lt_of_lt_of_le hl1.out hw2.size);have hb2:=hid (hb1.out.trans (hw2.mono hb1.out.size));clear HD1 hr1 hb1 hl1 hw2 y0 y1 y2 K1;obtain ⟨y0,y1,y2,_,_,_⟩:=hr2.out.rc3;go_wp2_with fail
  refine (K2.out _ _ _ HD2.out).mono ?_
  rintro e w3 ⟨rfl,hw3⟩;have HD3:=hid (HD2.out.below hw3);have hr3:=hid (hr2.out.below hw3 hl2.out);have hl3:=hid (Nat.lt_of_lt_of_le hl2.out hw3.size);have hb3:=hid (hb2.out.trans (hw3.mono hb2.out.size));clear HD2 hr2 hb2 hl2 hw3 y0 y1 y2 K2
  go_upto_region 5 with fail
  have HY:=hid (fun (W':World) (h:Below w3.heap.size w3 W')=>(RowIs.rc3 (hr3.out.below h hl3.out)));have HDW:=hid (fun (W':World) (h:Below w3.heap.size w3 W')=>HD3.out.below h);obtain ⟨y0,y1,y2,_,_,_⟩:=HY.out w3 (Below.refl _ _)
  go_region_law (first
   | (go_simp; go_at_call 13; refine (K3.out _ _ _ (HDW.out _ (by first | exact hq | exact draw_step hq rfl rfl rfl rfl | exact draw_below rfl rfl rfl rfl))).mono ?_; rintro e wa ⟨rfl,hwa⟩; have hq:=Below.trans (show Below w3.heap.size w3 _ by first | exact hq | exact draw_below rfl rfl rfl rfl) (hwa.mono (by first | exact hq.size | exact Nat.le_refl _)); obtain ⟨ya0,ya1,ya2,_,_,_⟩:=HY.out _ hq; clear hwa)
   | (go_simp; go_at_call 14; refine (K4.out _ _ _ (HDW.out _ (by first | exact hq | exact draw_step hq rfl rfl rfl rfl | exact draw_below rfl rfl rfl rfl))).mono ?_; rintro e wa ⟨rfl,hwa⟩; have hq:=Below.trans (show Below w3.heap.size w3 _ by first | exact hq | exact draw_below rfl rfl rfl rfl) (hwa.mono (by first | exact hq.size | exact Nat.le_refl _)); obtain ⟨ya0,ya1,ya2,_,_,_⟩:=HY.out _ hq; clear hwa)
   | (go_simp; go_at_call 10; refine (awake14_any _).mono ?_; rintro e w7 ⟨rfl,hw7⟩; have hq7:=hq.trans (hw7.mono hq.size)))
  all_goals
   go_wp2_with fail
   go_ret;exact ⟨rfl,hb3.out.trans (hq7.mono hb3.out.size)⟩
end Go.Proofs.YtdnekampnkhmfaaGreatDoor.pidfPrints
