/-
  PR12, CrC, CpR, WCompComposes.
-/
import Derived.Test.YtldkidljjbkmbaaGreatDoorPX22
import Derived.Test.YtldkidljjbkmbaaGreatDoorPA34
set_option linter.unusedVariables false
set_option linter.unusedSimpArgs false
set_option maxRecDepth 20000
namespace Go.Proofs.YtldkidljjbkmbaaGreatDoor
open Go.RowKit Sc
set_option maxHeartbeats 4000000 in
set_option maxRecDepth 100000 in
theorem rprint14_ok (d:Dc) (ts ns:Value) (w:World) (hts:TusAt w ts d.tuples) (hns:StrsAt w ns d.notes) (hc:checkD d=0) :
  Calls Tryz.prog 27 #[docV d ts ns] w fun e w'=>e=.returned (.tuple #[.string ⟨(prologK++printX (treeD d)).toArray⟩,.int .i64 0])∧Below w.heap.size w w':=by
 have hsm:=small_checked hc;have hsm2:SmallD 140737488355328 d:=⟨Nat.le_trans hsm.ent (by decide),Nat.le_trans hsm.tl (by decide),Nat.le_trans hsm.nl (by decide),fun t ht=>⟨Nat.le_trans (hsm.ts t ht).1 (by decide),Nat.le_trans (hsm.ts t ht).2.1 (by decide),Nat.le_trans (hsm.ts t ht).2.2.1 (by decide),(hsm.ts t ht).2.2.2⟩,fun s hs=>Nat.le_trans (hsm.ns s hs) (by decide)⟩
 have hen:d.entity.length+5≤1048576:=by have:=ent_len hc; omega
 have KP:Hid (∀ (w':World) (v:Value) (cs:List NdC) (B:Nat),ndsL cs=flatX 0 (treeD d) → OwnN w' B v cs → Calls Tryz.prog 44 #[v] w' fun e w2=>e=.returned (.tuple #[.string ⟨(prologK++printX (treeD d)).toArray⟩,.int .i64 0])∧Below w'.heap.size w' w2):=fun w' v cs B hk ho =>
  rprint13_ok v cs (treeD d) w' (by have h1:=tree_count hc; rw [← hk,ndsL_len] at h1; omega) (fun c hcc=>(tree_sm hc c.nd (by rw [← hk]; exact List.mem_map.2 ⟨c,hcc,rfl⟩)).smallM) ho.ndsAt (by rw [hk]; exact tree_check hc) hk.symm (by have:=print_sm hc; omega)
 have HPR:=hid (fun t (ht:t ∈ d.tuples)=>(hsm.ts t ht).2.2.2);generalize prologK++printX (treeD d)=Z at KP ⊢;have KC:=hid (fun w' (h:Below w.heap.size w w')=>rcheck14_any d ts ns w' hsm2 (by omega) (hts.below h) (hns.below h));rw [hc] at KC;obtain ⟨_,hT16,hN16,_,_,_⟩:=checkD_ok hc;obtain ⟨en,tl,nl⟩:=d;unfold docV at KC ⊢;simp only at KC hts hns hen hT16 hN16 HPR ⊢;rw [flat_tree] at KP;have hbx:=box3 w (.string ⟨en.toArray⟩) ts ns 28;have hbn:Below w.heap.size w (w.alloc (.cells #[.string ⟨en.toArray⟩,ts,ns] 28)):=(Below.refl _ w).alloc (Nat.le_refl _) _;have hbr:=rc_row3 w (.string ⟨en.toArray⟩) ts ns 28;have hlt0:=alloc_lt w (.cells #[.string ⟨en.toArray⟩,ts,ns] 28);obtain ⟨x0,x1,x2,_,_,_⟩:=hbx;have HTS:=hid hts;have HNS:=hid hns;have HSM:=hid hsm;clear hts hns hsm hsm2 hc
 go_enter Tryz.func27,Tryz.ntmps27
 go_wp2_with fail
 generalize World.alloc w _=W0 at x0 x1 x2 hbn hbr hlt0 ⊢;refine (KC.out _ hbn).mono ?_
 rintro e w1 ⟨rfl,hw1⟩;have hb1:=hbn.trans (hw1.mono hbn.size);have hr1:=hbr.below hw1 hlt0;have hlt1:w.heap.size < w1.heap.size:=Nat.lt_of_lt_of_le hlt0 hw1.size;obtain ⟨y0,y1,y2,f0,f1,f2⟩:=hr1.rc3;have HX:=hid (fun (W':World) (h:Below w1.heap.size w1 W')=>(RowIs.rc3 (hr1.below h hlt1)).1);clear x0 x1 x2 hbr hw1 KC;have hcl:¬ 9223372036854775807 < 5+en.length:=by omega
 go_upto_region 3 with fail
 go_cut [4] from 14 to 21 (fun v wx=>∃ cs,Hid (ndsL cs=[⟨0,presenceK,[atr xmlnsK spaceK,atr entityK (presK++[58]++en)],[]⟩])∧Hid (OwnN wx w1.heap.size v cs)∧Hid (Below w1.heap.size w1 wx))
 case first =>
  go_region_law ((go_simp; go_at_call 42; refine (ratr14_any _ _ _).mono ?_; rintro e wa ⟨rfl,hwa⟩; have hq:=bstep14 (S:=w1.heap.size) (w1:=w1) (by first | exact hq | exact hq.drew | exact hq.drew.drew | exact hq.drew.drew.drew | exact Below.refl _ _ | exact (Below.refl _ _).drew | exact (Below.refl _ _).drew.drew | exact (Below.refl _ _).drew.drew.drew | exact (Below.refl _ _).drew.drew.drew.drew) (Nat.le_refl _) hwa; have ya0:=HX.out _ hq; clear hwa))
  all_goals
   have hq2:=al14 hq (Nat.le_refl _);have hro:=root_own wa w1.heap.size hq.size _ rfl en;go_wp2_with fail
   go_meet
   case rel=>exact ⟨_,show _=_ from rfl,hid hro,hid (hq2 _ _)⟩
 case rest =>
  obtain ⟨cs0,hn0,hown0,hb0⟩:=hcut;have hsT:=HSM.out.tl;have hsN:=HSM.out.nl;simp only at hsT hsN;have HTW:=hid (fun (W':World) (h:Below w1.heap.size w1 W')=>HTS.out.below (hb1.trans (h.mono hb1.size)));have HNW:=hid (fun (W':World) (h:Below w1.heap.size w1 W')=>HNS.out.below (hb1.trans (h.mono hb1.size)));have HRW:=hid (fun (W':World) (h:Below w1.heap.size w1 W')=>RowIs.rc3 (hr1.below h hlt1));obtain ⟨ta,tc,hta,_⟩:=HTS.out;obtain ⟨na,nc,hna,_⟩:=HNS.out;obtain ⟨tn,htn⟩:∃ tn,tn=tl.length:=⟨_,rfl⟩
  obtain ⟨nn,hnn⟩:∃ nn,nn=nl.length:=⟨_,rfl⟩
  rw [← htn] at hta hsT hT16;rw [← hnn] at hna hsN hN16;subst hta hna;have HTN:=hid htn;have HNN:=hid hnn;clear htn hnn y0 y1 y2 f0 f1 f2 hcl HX hr1;obtain ⟨i1,hj,hy0,hy1,hy2⟩:=info_parts infoNodeB;go_wp2
  go_loopw [4,5] (fun v i wr=>∃ (j:Nat) (cs:List NdC),j≤tn∧i=.int .i64 (j:Int)∧Hid (ndsL cs=⟨0,presenceK,[atr xmlnsK spaceK,atr entityK (presK++[58]++en)],[]⟩ :: flatXs 1 ((tl.take j).map tupT))∧cs.length≤1+5 * j∧Hid (OwnN wr w1.heap.size v cs)∧Hid (Below w1.heap.size w1 wr)) (fun _ i _=>tn - (intOf i).toNat)
  case atStart=>exact ⟨0,cs0,Nat.zero_le _,rfl,hn0,by have:=congrArg List.length hn0.out; simp [ndsL] at this; omega,hown0,hb0⟩
  case round =>
   obtain ⟨j,cs,hjn,rfl,hnd,hcsl,hown,hbw⟩:=hrel;obtain ⟨x0,x1,x2,k0,k1,k2⟩:=HRW.out wr hbw.out;obtain ⟨vo,vc,hvf⟩:=hown.out.form;subst hvf;by_cases hlt:j < tn
   ·have hjl:j < tl.length:=by have:=HTN.out; omega
    obtain ⟨ta',tc',hta',hcT⟩:=HTW.out wr hbw.out;obtain ⟨ad,hao,hab,c⟩:=hcT j hjl
    injection hta' with e1 e2 e3
    subst e1 hao;clear e2 e3;have HFN:=hid (flat_next hjl);generalize tl[j]=x at c HFN;obtain ⟨xi,xo,xc,xp,xn⟩:=x;obtain ⟨c0,c1,c2,c3,c4⟩:=c;simp only at c0 c1 c2 c3 c4
    have hP0:PSt w1 wr.heap.size ⟨xi,xo,xc,xp,xn⟩ (wr.alloc (.cells #[.string ⟨xi.toArray⟩,.bool xo,.string ⟨xc.toArray⟩,.int .i64 xp,.string ⟨xn.toArray⟩] 48)) (.slice vo cs.length vc) cs :=
     ⟨hown.out.alloc _,rc_row5 wr _ _ _ _ _ _,alloc_lt _ _,fun e=>by have:=(World.ownsRow.lt hown.out.1 _ e).2; omega,hbw.out.alloc hbw.out.size _⟩
    have q6:(j:Int) < (tn:Int):=by omega
    clear hcT hown hbw
    go_upto_if 35 with fail
    generalize World.alloc wr _=wx at hP0 ⊢;obtain ⟨y0,y1,y2,y3,y4,_,_,_,_,_⟩:=hP0.c5;simp only at y0 y1 y2 y3 y4;have HP0:=hid hP0;clear c0 c1 c2 c3 c4 hP0 x0 x1 x2 k0 k1 k2
    go_cut [7] from 22 to 89 (fun s7 wy=>(∃ B,Hid (B=(if xo then openK else closedK))∧s7=.string ⟨B.toArray⟩)∧wy=wx)
    case first =>
     cases xo
     all_goals
      go_wp2_with fail
      go_meet
      case rel=>first | exact ⟨⟨openK,show _=_ from rfl,rfl⟩,rfl⟩ | exact ⟨⟨closedK,show _=_ from rfl,rfl⟩,rfl⟩
    case rest =>
     obtain ⟨⟨BO,HBO,rfl⟩,rfl⟩:=hcut;go_wp2_with fail
     refine (ratr14_any _ _ _).mono ?_
     rintro e wa ⟨rfl,hwa⟩;have hPa:=HP0.out.below hwa;have hPb:=(hPa.alloc (.cells #[.string ⟨#[105,100]⟩,.string ⟨xi.toArray⟩,.bool true] 78))
     have hOa:=ownP_newX wa w1.heap.size hPa.size [atr pidK xi] 1 rfl (by decide);have hnewN:=hid (fun (W:World) (c:NdC) (g:Nat) (hg:g=W.heap.size)=>xnd_new W c g hg);have hcl:cs.length≤2000000:=by omega
     clear HP0 hwa y0 y1 y2 y3 y4
     go_upto_region 12 with (at_builtin; refine wp_appN2 _ rfl (.tmp 36) (.tmp 42) 64 rfl w1.heap.size i1 _ Tryz.underlying64 hj hy0 hy1 hy2 rfl (.slice vo cs.length vc) cs rfl (by exact OwnN.alloc hPb.own _) ⟨_,0,none⟩ 1 ⟨⟨1,tupleK,[atr pidK xi],[]⟩,.slice (some ⟨wa.heap.size,0,none⟩) 1 1⟩ (by exact OwnP.alloc hOa _) rfl (by exact hnewN.out _ _ _ (by simp)) hcl (by have:=hPb.size; simp at this ⊢; omega) ?_; intro v5 w5 hown5 hf5; obtain ⟨xa,xk,e5⟩:=hown5.form; subst e5)
     have hP5:=(hPb.alloc _).app hf5 hown5;have hN5:=nds_snoc cs ⟨⟨1,tupleK,[atr pidK xi],[]⟩,.slice (some ⟨wa.heap.size,0,none⟩) 1 1⟩;have hL5:(cs++[(⟨⟨1,tupleK,[atr pidK xi],[]⟩,.slice (some ⟨wa.heap.size,0,none⟩) 1 1⟩:NdC)]).length=cs.length+1:=by simp
     clear hown5 hf5 hPb hOa hPa;generalize cs++[(⟨⟨1,tupleK,[atr pidK xi],[]⟩,.slice (some ⟨wa.heap.size,0,none⟩) 1 1⟩:NdC)]=cs2 at hP5 hN5 hL5;rw [hL5] at hP5;simp only at hN5;have hn2:cs.length+1≤2+5 * j:=by omega
     generalize cs.length+1=n2 at hP5 hL5 hn2 ⊢;have HN5:=hid hN5;have hcl5:cs2.length≤2+5 * j:=by omega
     clear hN5 hL5
     go_upto_region 13 with (at_builtin; refine wp_appN2 _ rfl (.tmp 44) (.tmp 46) 64 rfl w1.heap.size i1 _ Tryz.underlying64 hj hy0 hy1 hy2 rfl (.slice xa n2 xk) cs2 rfl (by exact OwnN.alloc hP5.own _) ⟨_,0,none⟩ 1 ⟨⟨2,pstatK,[],[]⟩,.slice none 0 0⟩ (by exact OwnP.nil _ _) rfl (by exact hnewN.out _ _ _ rfl) (by omega) (by have:=hP5.size; simp; omega) ?_; intro v6 w6 hown6 hf6; obtain ⟨xa6,xk6,e6⟩:=hown6.form; subst e6)
     have hP6:=(hP5.alloc _).app hf6 hown6;have hN6:=nds_snoc cs2 ⟨⟨2,pstatK,[],[]⟩,.slice none 0 0⟩;have hL6:(cs2++[(⟨⟨2,pstatK,[],[]⟩,.slice none 0 0⟩:NdC)]).length=cs2.length+1:=by simp
     clear hown6 hf6 hP5;generalize cs2++[(⟨⟨2,pstatK,[],[]⟩,.slice none 0 0⟩:NdC)]=cs3 at hP6 hN6 hL6;rw [hL6] at hP6;simp only at hN6;have hn3:cs2.length+1≤3+5 * j:=by omega
     generalize cs2.length+1=n3 at hP6 hL6 hn3 ⊢;have HhN6:=hid hN6;have hcl6:cs3.length≤3+5 * j:=by omega
     clear hN6 hL6
     go_upto_region 14 with (at_builtin; refine wp_appN2 _ rfl (.tmp 48) (.tmp 51) 64 rfl w1.heap.size i1 _ Tryz.underlying64 hj hy0 hy1 hy2 rfl (.slice xa6 n3 xk6) cs3 rfl (by exact OwnN.alloc hP6.own _) ⟨_,0,none⟩ 1 ⟨⟨3,basicK,[],BO⟩,.slice none 0 0⟩ (by exact OwnP.nil _ _) rfl (by exact hnewN.out _ _ _ rfl) (by omega) (by have:=hP6.size; simp; omega) ?_; intro v7 w7 hown7 hf7; obtain ⟨xa7,xk7,e7⟩:=hown7.form; subst e7)
     have hP7:=(hP6.alloc _).app hf7 hown7;have hN7:=nds_snoc cs3 ⟨⟨3,basicK,[],BO⟩,.slice none 0 0⟩;have hL7:(cs3++[(⟨⟨3,basicK,[],BO⟩,.slice none 0 0⟩:NdC)]).length=cs3.length+1:=by simp
     clear hown7 hf7 hP6;generalize cs3++[(⟨⟨3,basicK,[],BO⟩,.slice none 0 0⟩:NdC)]=cs4 at hP7 hN7 hL7;rw [hL7] at hP7;simp only at hN7;have hn4:cs3.length+1≤4+5 * j:=by omega
     generalize cs3.length+1=n4 at hP7 hL7 hn4 ⊢;have HhN7:=hid hN7;have hcl7:cs4.length≤4+5 * j:=by omega
     clear hN7 hL7;obtain ⟨z0,z1,z2,z3,z4,_,_,_,_,_⟩:=hP7.c5;simp only at z0 z1 z2 z3 z4;have HP7:=hid hP7;clear hP7;by_cases hcx:xc=[]
     ·subst hcx;by_cases hnx:xn=[]
      ·subst hnx
       have hE:Hid (ndsL cs4=⟨0,presenceK,[atr xmlnsK spaceK,atr entityK (presK++[58]++en)],[]⟩ :: flatXs 1 ((tl.take (j+1)).map tupT)):=show _=_ by
        rw [HhN7.out,HhN6.out,HN5.out,hnd.out,HFN.out,flat_tup,HBO.out]; simp [contT,tnoteT,flatXs,flatX]
       clear HhN7 HhN6 HN5 HFN HBO hnd;go_wp2;go_roundw
       case rel=>exact ⟨j+1,cs4,by omega,by go_num,hE,by omega,hid HP7.out.own,hid HP7.out.bel⟩
       case measure=>simp [intOf]; omega
      ·have hE:Hid (ndsL (cs4++[(⟨⟨2,noteK,[],xn⟩,.slice none 0 0⟩:NdC)])=⟨0,presenceK,[atr xmlnsK spaceK,atr entityK (presK++[58]++en)],[]⟩ :: flatXs 1 ((tl.take (j+1)).map tupT)):=show _=_ by
        rw [nds_snoc,HhN7.out,HhN6.out,HN5.out,hnd.out,HFN.out,flat_tup,HBO.out]; simp [contT,tnoteT,noteT,hnx,flatXs,flatX]
       have hL9:(cs4++[(⟨⟨2,noteK,[],xn⟩,.slice none 0 0⟩:NdC)]).length=cs4.length+1:=by simp
       have hne:xn.isEmpty=false:=by simpa using hnx
       clear HhN7 HhN6 HN5 HFN HBO hnd
       go_upto_region 6 with (at_builtin; refine wp_appN2 _ rfl (.tmp 84) (.tmp 88) 64 rfl w1.heap.size i1 _ Tryz.underlying64 hj hy0 hy1 hy2 rfl (.slice xa7 n4 xk7) cs4 rfl (by exact OwnN.alloc HP7.out.own _) ⟨_,0,none⟩ 1 ⟨⟨2,noteK,[],xn⟩,.slice none 0 0⟩ (by exact OwnP.nil _ _) rfl (by exact hnewN.out _ _ _ rfl) (by omega) (by have:=HP7.out.size; simp; omega) ?_; intro v9 w9 hown9 hf9; obtain ⟨xa9,xk9,e9⟩:=hown9.form; subst e9)
       have hP9:=(HP7.out.alloc _).app hf9 hown9;have hO9:=hP9.own;rw [hL9] at hO9;go_wp2;go_roundw
       case rel=>exact ⟨j+1,cs4++[⟨⟨2,noteK,[],xn⟩,.slice none 0 0⟩],by omega,by go_num,hE,by rw [hL9]; omega,hid hO9,hid hP9.bel⟩
       case measure=>simp [intOf]; omega
     ·have hce:xc.isEmpty=false:=by simpa using hcx
      by_cases hpx:xp=-1
      ·subst hpx
       go_upto_region 18 with (at_builtin; refine wp_appN2 _ rfl (.tmp 75) (.tmp 79) 64 rfl w1.heap.size i1 _ Tryz.underlying64 hj hy0 hy1 hy2 rfl (.slice xa7 n4 xk7) cs4 rfl (by exact OwnN.alloc HP7.out.own _) ⟨_,0,none⟩ 1 ⟨⟨2,pcontK,[],xc⟩,.slice none 0 0⟩ (by exact OwnP.nil _ _) rfl (by exact hnewN.out _ _ _ rfl) (by omega) (by have:=HP7.out.size; simp; omega) ?_; intro v8 w8 hown8 hf8; obtain ⟨xa8,xk8,e8⟩:=hown8.form; subst e8; have hP8:=(HP7.out.alloc _).app hf8 hown8; obtain ⟨zz0,zz1,zz2,zz3,zz4,_,_,_,_,_⟩:=hP8.c5; simp only at zz0 zz1 zz2 zz3 zz4)
       have hN8:=nds_snoc cs4 ⟨⟨2,pcontK,[],xc⟩,.slice none 0 0⟩;have hL8:(cs4++[(⟨⟨2,pcontK,[],xc⟩,.slice none 0 0⟩:NdC)]).length=cs4.length+1:=by simp
       clear hown8 hf8 HP7 z0 z1 z2 z3 z4;generalize cs4++[(⟨⟨2,pcontK,[],xc⟩,.slice none 0 0⟩:NdC)]=cs5 at hP8 hN8 hL8;rw [hL8] at hP8;simp only at hN8;have hn5:cs4.length+1≤5+5 * j:=by omega
       generalize cs4.length+1=n5 at hP8 hL8 hn5 ⊢;have HhN8:=hid hN8;have hcl8:cs5.length≤5+5 * j:=by omega
       have HP8:=hid hP8;clear hN8 hL8 hP8;by_cases hnx:xn=[]
       ·subst hnx
        have hE:Hid (ndsL cs5=⟨0,presenceK,[atr xmlnsK spaceK,atr entityK (presK++[58]++en)],[]⟩ :: flatXs 1 ((tl.take (j+1)).map tupT)):=show _=_ by
         rw [HhN8.out,HhN7.out,HhN6.out,HN5.out,hnd.out,HFN.out,flat_tup,HBO.out]; simp [contT,tnoteT,flatXs,flatX,hcx]
        clear HhN8 HhN7 HhN6 HN5 HFN HBO hnd;go_wp2;go_roundw
        case rel=>exact ⟨j+1,cs5,by omega,by go_num,hE,by omega,hid HP8.out.own,hid HP8.out.bel⟩
        case measure=>simp [intOf]; omega
       ·have hE:Hid (ndsL (cs5++[(⟨⟨2,noteK,[],xn⟩,.slice none 0 0⟩:NdC)])=⟨0,presenceK,[atr xmlnsK spaceK,atr entityK (presK++[58]++en)],[]⟩ :: flatXs 1 ((tl.take (j+1)).map tupT)):=show _=_ by
         rw [nds_snoc,HhN8.out,HhN7.out,HhN6.out,HN5.out,hnd.out,HFN.out,flat_tup,HBO.out]; simp [contT,tnoteT,noteT,hnx,flatXs,flatX,hcx]
        have hL9:(cs5++[(⟨⟨2,noteK,[],xn⟩,.slice none 0 0⟩:NdC)]).length=cs5.length+1:=by simp
        have hne:xn.isEmpty=false:=by simpa using hnx
        clear HhN8 HhN7 HhN6 HN5 HFN HBO hnd
        go_upto_region 6 with (at_builtin; refine wp_appN2 _ rfl (.tmp 84) (.tmp 88) 64 rfl w1.heap.size i1 _ Tryz.underlying64 hj hy0 hy1 hy2 rfl (.slice xa8 n5 xk8) cs5 rfl (by exact OwnN.alloc HP8.out.own _) ⟨_,0,none⟩ 1 ⟨⟨2,noteK,[],xn⟩,.slice none 0 0⟩ (by exact OwnP.nil _ _) rfl (by exact hnewN.out _ _ _ rfl) (by omega) (by have:=HP8.out.size; simp; omega) ?_; intro v9 w9 hown9 hf9; obtain ⟨xa9,xk9,e9⟩:=hown9.form; subst e9)
        have hP9:=(HP8.out.alloc _).app hf9 hown9;have hO9:=hP9.own;rw [hL9] at hO9;go_wp2;go_roundw
        case rel=>exact ⟨j+1,cs5++[⟨⟨2,noteK,[],xn⟩,.slice none 0 0⟩],by omega,by go_num,hE,by rw [hL9]; omega,hid hO9,hid hP9.bel⟩
        case measure=>simp [intOf]; omega
      ·have q7:(xp != -1)=true:=by simpa using hpx
       have q8:(xp==-1)=false:=by simpa using hpx
       have KD:=hid (fun w'=>rdec_any xp w');have HDL:Hid (contT ⟨xi,xo,xc,xp,xn⟩=[.mk pcontK [atr priorityK (decL xp)] xc []]):=show _=_ by unfold contT; rw [if_neg hcx,if_neg hpx]
       generalize decL xp=DL at KD HDL;have hlt7:=HP7.out.lt;have HX:=hid (fun (W':World) (h:Below w7.heap.size w7 W')=>(HP7.out.below h).c5)
       go_upto_region 15 with fail
       go_cut [4] from 61 to 71 (fun v wx=>∃ (cs5:List NdC) (n5:Nat) (xa8:Option Addr) (xk8:Nat),v=.slice xa8 n5 xk8∧Hid (n5=cs5.length)∧Hid (ndsL cs5=ndsL cs4++[⟨2,pcontK,[atr priorityK DL],xc⟩])∧Hid (PSt w1 wr.heap.size ⟨xi,xo,xc,xp,xn⟩ wx v cs5))
       case first =>
        go_region_law (first
         | (go_simp; go_at_call 43; refine (KD.out _).mono ?_; rintro e wd ⟨rfl,qd,rfl⟩)
         | (go_simp; go_at_call 42; refine (ratr14_any _ _ _).mono ?_; rintro e wa ⟨rfl,hwa⟩; have hq:=draw_step (w1:=w7) hwa rfl rfl rfl rfl; obtain ⟨ya0,ya1,ya2,ya3,ya4,_,_,_,_,_⟩:=HX.out _ hq; obtain ⟨yb0,yb1,yb2,yb3,yb4,_,_,_,_,_⟩:=HX.out _ (hq.alloc hq.size (.cells #[.string ⟨#[112,114,105,111,114,105,116,121]⟩,.string ⟨DL.toArray⟩,.bool true] 78)); have hPa:=hid (HP7.out.below hq); have hOa:=hid (ownP_newX wa w1.heap.size (HP7.out.below hq).size [atr priorityK DL] 1 rfl (by decide)); clear hwa)
         | (refine step_appN rfl (.tmp 61) (.tmp 70) 64 rfl w1.heap.size i1 _ Tryz.underlying64 hj hy0 hy1 hy2 rfl (.slice xa7 n4 xk7) cs4 (by simp [Act.eval,Act.put]) (OwnN.alloc (OwnN.alloc hPa.out.own _) _) ⟨_,0,none⟩ 1 ⟨⟨2,pcontK,[atr priorityK DL],xc⟩,.slice (some ⟨wa.heap.size,0,none⟩) 1 1⟩ (OwnP.alloc hOa.out _) (by simp [Act.eval,Act.put]; rfl) (hnewN.out _ _ _ (by simp)) (by omega) (by have:=hPa.out.size; simp; omega) ?_; intro v8 w8 hown8 hf8; have hP8:=hid (((hPa.out.alloc _).alloc _).app hf8 hown8); obtain ⟨xa8,xk8,e8⟩:=hown8.form; obtain ⟨n5,hn5⟩:∃ n5,n5=(cs4++[(⟨⟨2,pcontK,[atr priorityK DL],xc⟩,.slice (some ⟨wa.heap.size,0,none⟩) 1 1⟩:NdC)]).length:=⟨_,rfl⟩; rw [← hn5] at e8; subst e8; have HN5':=hid hn5; clear hn5 hown8 hf8))
        all_goals
         go_wp2_with fail
         go_meet
         case rel=>exact ⟨_,n5,xa8,xk8,rfl,HN5',show _=_ from nds_snoc _ _,hP8⟩
       case rest =>
        obtain ⟨cs5,n5,xa8,xk8,rfl,HL8,HhN8,HP8⟩:=hcut;obtain ⟨zz0,zz1,zz2,zz3,zz4,_,_,_,_,_⟩:=HP8.out.c5;simp only at zz0 zz1 zz2 zz3 zz4;have hcl8:cs5.length≤5+5 * j:=by have h:=congrArg List.length HhN8.out; rw [List.length_append,ndsL_len,ndsL_len] at h; simp at h; omega
        have hn5:n5≤5+5 * j:=by have:=HL8.out; omega
        clear HP7 z0 z1 z2 z3 z4 HX KD;by_cases hnx:xn=[]
        ·subst hnx
         have hE:Hid (ndsL cs5=⟨0,presenceK,[atr xmlnsK spaceK,atr entityK (presK++[58]++en)],[]⟩ :: flatXs 1 ((tl.take (j+1)).map tupT)):=show _=_ by
          rw [HhN8.out,HhN7.out,HhN6.out,HN5.out,hnd.out,HFN.out,flat_tup,HBO.out,HDL.out]; simp [tnoteT,flatXs,flatX]
         clear HhN8 HhN7 HhN6 HN5 HFN HBO hnd HDL;go_wp2;go_roundw
         case rel=>exact ⟨j+1,cs5,by omega,by go_num,hE,by omega,hid (by have h:=HP8.out.own; rw [HL8.out] at h ⊢; exact h),hid HP8.out.bel⟩
         case measure=>simp [intOf]; omega
        ·have hE:Hid (ndsL (cs5++[(⟨⟨2,noteK,[],xn⟩,.slice none 0 0⟩:NdC)])=⟨0,presenceK,[atr xmlnsK spaceK,atr entityK (presK++[58]++en)],[]⟩ :: flatXs 1 ((tl.take (j+1)).map tupT)):=show _=_ by
          rw [nds_snoc,HhN8.out,HhN7.out,HhN6.out,HN5.out,hnd.out,HFN.out,flat_tup,HBO.out,HDL.out]; simp [tnoteT,noteT,hnx,flatXs,flatX]
         have hL9:(cs5++[(⟨⟨2,noteK,[],xn⟩,.slice none 0 0⟩:NdC)]).length=cs5.length+1:=by simp
         have hne:xn.isEmpty=false:=by simpa using hnx
         clear HhN8 HhN7 HhN6 HN5 HFN HBO hnd HDL
         go_upto_region 6 with (at_builtin; refine wp_appN2 _ rfl (.tmp 84) (.tmp 88) 64 rfl w1.heap.size i1 _ Tryz.underlying64 hj hy0 hy1 hy2 rfl (.slice xa8 n5 xk8) cs5 rfl (by exact OwnN.alloc HP8.out.own _) ⟨_,0,none⟩ 1 ⟨⟨2,noteK,[],xn⟩,.slice none 0 0⟩ (by exact OwnP.nil _ _) rfl (by exact hnewN.out _ _ _ rfl) (by omega) (by have:=HP8.out.size; simp; omega) ?_; intro v9 w9 hown9 hf9; obtain ⟨xa9,xk9,e9⟩:=hown9.form; subst e9)
         have hP9:=(HP8.out.alloc _).app hf9 hown9;have hO9:=hP9.own;rw [hL9] at hO9;go_wp2;go_roundw
         case rel=>exact ⟨j+1,cs5++[⟨⟨2,noteK,[],xn⟩,.slice none 0 0⟩],by omega,by go_num,hE,by rw [hL9]; omega,hid hO9,hid hP9.bel⟩
         case measure=>simp [intOf]; omega
   ·have q6:¬ (j:Int) < (tn:Int):=by omega
    have hnd2:Hid (ndsL cs=rootN en :: flatXs 1 (tl.map tupT)):=show _=_ by rw [hnd.out,List.take_of_length_le (by have:=HTN.out; omega)]; rfl
    have hcl:cs.length≤81:=by omega
    generalize hn:cs.length=n at hown hcl ⊢;have HL:Hid (n=cs.length):=hn.symm;clear hn hnd hcsl;go_wp2
    go_loopw [4,8] (fun v i wr=>∃ (k n:Nat) (vo:Option Addr) (vc:Nat) (cs:List NdC),k≤nn∧i=.int .i64 (k:Int)∧v=.slice vo n vc∧Hid (ndsL cs=rootN en :: (flatXs 1 (tl.map tupT)++flatXs 1 ((nl.take k).map noteT)))∧Hid (n=cs.length)∧n≤81+k∧Hid (OwnN wr w1.heap.size v cs)∧Hid (Below w1.heap.size w1 wr)) (fun _ i _=>nn - (intOf i).toNat)
    case atStart=>exact ⟨0,n,vo,vc,cs,Nat.zero_le _,rfl,rfl,by simpa [flatXs] using hnd2,HL,by omega,hown,hbw⟩
    case round =>
     clear x0 x1 x2 k0 k1 k2 hown hbw hnd2 HL hcl q6 hlt;obtain ⟨k,n3,vo3,vc3,cs3,hkn,rfl,rfl,hnd,HL,hnb,hown,hbw⟩:=hrel;obtain ⟨x0,x1,x2,k0,k1,k2⟩:=HRW.out _ hbw.out;by_cases hlt:k < nn
     ·have hkl:k < nl.length:=by have:=HNN.out; omega
      obtain ⟨na',nc',hna',hcN⟩:=HNW.out _ hbw.out;obtain ⟨ad,hao,hab,c⟩:=hcN k hkl
      injection hna' with e1 e2 e3
      subst e1 hao;clear e2 e3;have HFN:=hid (flat_nnext hkl);generalize nl[k]=s at c HFN;have q6:(k:Int) < (nn:Int):=by omega
      have hnewN:=hid (fun (W:World) (c:NdC) (g:Nat) (hg:g=W.heap.size)=>xnd_new W c g hg);clear hcN;go_wp2_with (at_builtin; refine wp_appN2 _ rfl (.tmp 97) (.tmp 104) 64 rfl w1.heap.size i1 _ Tryz.underlying64 hj hy0 hy1 hy2 rfl (.slice vo3 n3 vc3) cs3 rfl (by exact OwnN.alloc hown.out _) ⟨_,0,none⟩ 1 ⟨⟨1,noteK,[],s⟩,.slice none 0 0⟩ (by exact OwnP.nil _ _) rfl (by exact hnewN.out _ _ _ rfl) (by have:=HL.out; omega) (by have:=hbw.out.size; simp; omega) ?_; intro v9 w9 hown9 hf9; have hb9:=hid ((hbw.out.alloc hbw.out.size _).trans (hf9.to (by have:=hbw.out.size; simp; omega) fun g hg=>(World.ownsRow.lt hown.out.1 g hg).1)); obtain ⟨va9,vc9,e9⟩:=hown9.form; obtain ⟨n9,hn9⟩:∃ n9,n9=(cs3++[(⟨⟨1,noteK,[],s⟩,.slice none 0 0⟩:NdC)]).length:=⟨_,rfl⟩; rw [← hn9] at e9; subst e9; have HN9:=hid hn9; have HO9:=hid hown9; clear hn9 hown9 hf9)
      go_roundw
      case rel=>exact ⟨k+1,n9,va9,vc9,cs3++[⟨⟨1,noteK,[],s⟩,.slice none 0 0⟩],by omega,by go_num,rfl,show _=_ by rw [nds_snoc,hnd.out,HFN.out]; simp,HN9,by have h1:=HN9.out; have h2:=HL.out; rw [List.length_append,List.length_singleton] at h1; omega,HO9,hb9⟩
      case measure=>simp [intOf]; omega
     ·have q6:¬ (k:Int) < (nn:Int):=by omega
      have KQ:=hid (KP.out wr (.slice vo3 n3 vc3) cs3 _ (by rw [hnd.out,List.take_of_length_le (by have:=HNN.out; omega)]) hown.out);clear KP;go_wp2_with fail
      refine KQ.out.mono ?_
      rintro e w5 ⟨rfl,hw5⟩;go_wp2;go_ret2;have hbx:=hb1.trans (hbw.out.mono hb1.size);exact ⟨rfl,hbx.trans (hw5.mono hbx.size)⟩
end Go.Proofs.YtldkidljjbkmbaaGreatDoor
namespace Go.Proofs.YtldkidljjbkmbaaGreatDoor
open Go.RowKit Go.Maps Go.WideMaps Sc
def textC (who:List UInt8) (l:List Pb):List UInt8:=if (compC who l).2 ≠ 0 then [] else prologK++printX (treeD (compC who l).1)
theorem rcomp17_any {w:World} {who:List UInt8} {v:Value} {cs:List PbC} (hv:PbsAt w v cs) (ho:PbsOk w cs) (hw:who.length+4≤1048640) (hn:cs.length≤400) (hnum:∀ c ∈ cs,c.p.num≤9223372036854775807) :
  Calls Tryz.prog 12 #[.string ⟨who.toArray⟩,v] w fun e w'=>∃ vt vn,e=.returned (.tuple #[docV (compC who (pbsL cs)).1 vt vn,.int .i64 (compC who (pbsL cs)).2])∧DocG w.heap.size w' (compC who (pbsL cs)).1 vt vn∧Below w.heap.size w w':=by
 have bad:∀ R:Int,(compC who (pbsL cs)).2=R → R ≠ 0 → (Calls Tryz.prog 12 #[.string ⟨who.toArray⟩,v] w fun e w'=>e=.returned (.tuple #[.agg #[.string ⟨#[]⟩,.slice none 0 0,.slice none 0 0],.int .i64 R])∧Below w.heap.size w w') → Calls Tryz.prog 12 #[.string ⟨who.toArray⟩,v] w fun e w'=>∃ vt vn,e=.returned (.tuple #[docV (compC who (pbsL cs)).1 vt vn,.int .i64 (compC who (pbsL cs)).2])∧DocG w.heap.size w' (compC who (pbsL cs)).1 vt vn∧Below w.heap.size w w':=fun R h1 h2 hC=>by
  rw [comp_none (by rw [h1]; exact h2),h1];refine hC.mono ?_
  rintro e w' ⟨rfl,h3⟩;exact ⟨.slice none 0 0,.slice none 0 0,rfl,⟨⟨rfl,.inl ⟨rfl,rfl⟩⟩,⟨rfl,.inl ⟨rfl,rfl⟩⟩⟩,h3⟩
 by_cases hc:checkD ⟨who,[],[]⟩=0
 ·by_cases he:chkC 0 (pbsL cs)=0
  ·rw [comp_mk hc he];refine (rcomp_ok hv ho hw hn hnum hc he).mono ?_
   rintro e w' ⟨vt,vn,rfl,h1,h2,h3⟩;exact ⟨vt,vn,rfl,⟨h1,h2⟩,h3⟩
  ·refine bad (chkC 0 (pbsL cs)) ?_ he (rcomp_bad1 hv ho hw (by omega) hc he)
   unfold compC;rw [if_neg (fun h=>h hc),if_pos he]
 ·refine bad (checkD ⟨who,[],[]⟩) ?_ hc (rcomp_bad0 hw hc)
  unfold compC;rw [if_pos hc]
set_option maxHeartbeats 2000000 in
set_option maxRecDepth 100000 in
theorem ctext_any {w:World} {who:List UInt8} {v:Value} {cs:List PbC} (hv:PbsAt w v cs) (ho:PbsOk w cs) (hw:who.length+4≤1048640) (hn:cs.length≤400) (hnum:∀ c ∈ cs,c.p.num≤9223372036854775807) :
  Calls Tryz.prog 13 #[.string ⟨who.toArray⟩,v] w fun e w'=>e=.returned (.tuple #[.string ⟨(textC who (pbsL cs)).toArray⟩,.int .i64 (compC who (pbsL cs)).2])∧Below w.heap.size w w':=by
 have KC:=hid (ccomp_any hv ho hw (by omega) hnum);have hright:∀ d,compC who (pbsL cs)=(d,0) → checkD d=0:=fun d hd=>(right_plain (fun p hp=>by obtain ⟨c,hc,rfl⟩:=List.mem_map.1 hp; exact hnum c hc) hd).1;unfold textC;obtain ⟨d,er,hd⟩:∃ d er,compC who (pbsL cs)=(d,er):=⟨_,_,rfl⟩
 rw [hd] at KC ⊢
 simp only
 by_cases h0:er=0
 case neg =>
  rw [if_pos h0];have h0':(er != 0)=true:=by simpa using h0
  clear hv ho hright hnum;unfold docV at KC
  go_enter Tryz.func13,Tryz.ntmps13
  go_wp2_with fail
  refine KC.out.mono ?_
  rintro e w1 ⟨vt,vn,rfl,hG,hb1⟩;obtain ⟨ta,tc,na,nc,rfl,rfl⟩:=hG.forms;have bel:=hid (hb1.alloc hb1.size (.cells #[.string ⟨d.entity.toArray⟩,.slice ta d.tuples.length tc,.slice na d.notes.length nc] 28));clear hG hb1 KC
  go_upto_region 2 with fail
  generalize World.alloc _ _=u1 at bel ⊢;go_wp2;go_ret2;exact ⟨rfl,bel.out⟩
 subst h0;rw [if_neg (fun h=>h rfl)];have hc:=hright d hd;have KP:=hid (fun (u:World) (ts ns:Value) (h1:CapTu ts) (h2:TusAt u ts d.tuples) (h3:StrsAt u ns d.notes)=>pprint_ok d ts ns u h1 h2 h3 hc);generalize prologK++printX (treeD d)=Z at KP ⊢;clear hv ho hright hnum hd hc;unfold docV at KC KP
 go_enter Tryz.func13,Tryz.ntmps13
 go_wp2_with fail
 refine KC.out.mono ?_
 rintro e w1 ⟨vt,vn,rfl,hG,hb1⟩;have hcap:=hG.t.capC;obtain ⟨ta,tc,na,nc,rfl,rfl⟩:=hG.forms;have R1:=hid (rc_row3 w1 (.string ⟨d.entity.toArray⟩) (.slice ta d.tuples.length tc) (.slice na d.notes.length nc) 28);have b2:Below w1.heap.size w1 (w1.alloc (.cells #[.string ⟨d.entity.toArray⟩,.slice ta d.tuples.length tc,.slice na d.notes.length nc] 28)):=(Below.refl _ w1).alloc (Nat.le_refl _) _;have HG:=hid (hG.below b2);have bel:=hid (hb1.trans (b2.mono hb1.size));clear hb1 b2 hG KC
 go_upto_region 2 with fail
 generalize w1.heap.size=g1 at R1 ⊢;generalize World.alloc _ _=u1 at R1 HG bel ⊢;obtain ⟨x0,x1,x2,-,-,-⟩:=R1.out.rc3;go_wp2_with fail
 refine (KP.out _ _ _ hcap HG.out.t.tusAt (strsAt_own HG.out.n)).mono ?_
 rintro e w2 ⟨rfl,hb2⟩;have bel:=hid (bel.out.trans (hb2.mono bel.out.size));clear hb2 x0 x1 x2 KP;go_wp2;go_ret2;exact ⟨rfl,bel.out⟩
set_option maxHeartbeats 2000000 in
set_option maxRecDepth 100000 in
theorem rtext17_any {w:World} {who:List UInt8} {v:Value} {cs:List PbC} (hv:PbsAt w v cs) (ho:PbsOk w cs) (hw:who.length+4≤1048640) (hn:cs.length≤400) (hnum:∀ c ∈ cs,c.p.num≤9223372036854775807) :
  Calls Tryz.prog 14 #[.string ⟨who.toArray⟩,v] w fun e w'=>e=.returned (.tuple #[.string ⟨(textC who (pbsL cs)).toArray⟩,.int .i64 (compC who (pbsL cs)).2])∧Below w.heap.size w w':=by
 have KC:=hid (rcomp17_any hv ho hw (by omega) hnum);have hright:∀ d,compC who (pbsL cs)=(d,0) → checkD d=0:=fun d hd=>(right_plain (fun p hp=>by obtain ⟨c,hc,rfl⟩:=List.mem_map.1 hp; exact hnum c hc) hd).1;unfold textC;obtain ⟨d,er,hd⟩:∃ d er,compC who (pbsL cs)=(d,er):=⟨_,_,rfl⟩
 rw [hd] at KC ⊢
 simp only
 by_cases h0:er=0
 case neg =>
  rw [if_pos h0];have h0':(er != 0)=true:=by simpa using h0
  clear hv ho hright hnum;unfold docV at KC
  go_enter Tryz.func14,Tryz.ntmps14
  go_wp2_with fail
  refine KC.out.mono ?_
  rintro e w1 ⟨vt,vn,rfl,hG,hb1⟩;obtain ⟨ta,tc,na,nc,rfl,rfl⟩:=hG.forms;have bel:=hid (hb1.alloc hb1.size (.cells #[.string ⟨d.entity.toArray⟩,.slice ta d.tuples.length tc,.slice na d.notes.length nc] 28));clear hG hb1 KC
  go_upto_region 2 with fail
  generalize World.alloc _ _=u1 at bel ⊢;go_wp2;go_ret2;exact ⟨rfl,bel.out⟩
 subst h0;rw [if_neg (fun h=>h rfl)];have hc:=hright d hd;have KP:=hid (fun (u:World) (ts ns:Value) (h2:TusAt u ts d.tuples) (h3:StrsAt u ns d.notes)=>rprint14_ok d ts ns u h2 h3 hc);generalize prologK++printX (treeD d)=Z at KP ⊢;clear hv ho hright hnum hd hc;unfold docV at KC KP
 go_enter Tryz.func14,Tryz.ntmps14
 go_wp2_with fail
 refine KC.out.mono ?_
 rintro e w1 ⟨vt,vn,rfl,hG,hb1⟩;obtain ⟨ta,tc,na,nc,rfl,rfl⟩:=hG.forms;have R1:=hid (rc_row3 w1 (.string ⟨d.entity.toArray⟩) (.slice ta d.tuples.length tc) (.slice na d.notes.length nc) 28);have b2:Below w1.heap.size w1 (w1.alloc (.cells #[.string ⟨d.entity.toArray⟩,.slice ta d.tuples.length tc,.slice na d.notes.length nc] 28)):=(Below.refl _ w1).alloc (Nat.le_refl _) _;have HG:=hid (hG.below b2);have bel:=hid (hb1.trans (b2.mono hb1.size));clear hb1 b2 hG KC
 go_upto_region 2 with fail
 generalize w1.heap.size=g1 at R1 ⊢;generalize World.alloc _ _=u1 at R1 HG bel ⊢;obtain ⟨x0,x1,x2,-,-,-⟩:=R1.out.rc3;go_wp2_with fail
 refine (KP.out _ _ _ HG.out.t.tusAt (strsAt_own HG.out.n)).mono ?_
 rintro e w2 ⟨rfl,hb2⟩;have bel:=hid (bel.out.trans (hb2.mono bel.out.size));clear hb2 x0 x1 x2 KP;go_wp2;go_ret2;exact ⟨rfl,bel.out⟩
set_option maxHeartbeats 2000000 in
set_option maxRecDepth 100000 in
theorem small17_len {w:World} {v:Value} {cs:List PbC} (hv:PbsAt w v cs) (hn:cs.length≤2000000) (hg:∀ c ∈ cs,PbGot w c∧SmallD 1048576 c.p.doc) :
  Calls Tryz.prog 9 #[v] w fun e w'=>∃ b:Bool,e=.returned (.bool b)∧(b=true → cs.length≤400)∧Below w.heap.size w w':=by
 have HV:=hid hv;have HG:=hid hg;obtain ⟨oa,cap,rfl,_⟩:=hv;obtain ⟨n,hnn⟩:∃ n,n=cs.length:=⟨_,rfl⟩
 have HN:=hid hnn;rw [← hnn] at hn ⊢;clear hnn hg
 go_enter Tryz.func9,Tryz.ntmps9
 go_wp2
 go_loopw [3,4] (fun s i wr=>∃ (k t:Nat),k≤n∧k≤t∧t≤k * 3000000∧i=.int .i64 k∧s=.int .i64 t∧Hid (Below w.heap.size w wr)) (fun _ i _=>n - (intOf i).toNat)
 case atStart=>exact ⟨0,0,by omega,by omega,by omega,rfl,rfl,Below.refl _ _⟩
 case round =>
  obtain ⟨k,t,hk,hkt,ht,rfl,rfl,HB⟩:=hrel;by_cases hlt:k < n
  ·have hlt':(k:Int) < (n:Int):=by omega
   have hkl:k < cs.length:=by rw [← HN.out]; exact hlt
   obtain ⟨oa',cap',hv',_,hat⟩:=HV.out;obtain ⟨ad,hoa,hab,hpb⟩:=hat k hkl
   injection hv' with g1 g2 g3
   subst g1;subst hoa;obtain ⟨c0,c1,c2,c3,c4,c5,c6⟩:=(hpb.below HB.out hab).seven;have hm:=List.getElem_mem hkl;obtain ⟨hgk,hsk⟩:=HG.out _ hm;generalize cs[k]=c at c0 c1 c2 c3 c4 c5 c6 hgk hsk;obtain ⟨ta,tc,hts,_⟩:=hgk.tus;obtain ⟨na,nc,hns,_⟩:=hgk.strs;rw [hts] at c5;rw [hns] at c6;have z1:=hsk.tl;have z2:=hsk.nl;generalize c.p.doc.tuples.length=t1 at c5 z1;generalize c.p.doc.notes.length=t2 at c6 z2;have htk:t+1+t1+t2≤(k+1) * 3000000:=by omega
   have htk2:t+1+t1+t2≤9000000000000:=by omega
   clear hat hpb g2 g3 hgk hsk hts hns hm;go_wp2
   go_quiet (fail)
   go_wp2;go_roundw
   case rel=>exact ⟨k+1,t+1+t1+t2,by omega,by omega,htk,by go_num,by go_num,hid (HB.out.trans ((below_drewN _ _).mono HB.out.size))⟩
   case measure=>simp [intOf]; omega
  ·have hlt':¬ (k:Int) < (n:Int):=by omega
   have hd:decide ((t:Int)≤400)=true∨decide ((t:Int)≤400)=false:=by cases decide ((t:Int)≤400) <;> simp
   rcases hd with hd | hd
   ·go_wp2;go_ret;have hle:(t:Int)≤400:=of_decide_eq_true hd;have hcl:n≤400:=by omega
    exact .inr ⟨rfl,hcl,HB.out⟩
   ·go_wp2;go_ret;exact .inl ⟨rfl,HB.out⟩
end Go.Proofs.YtldkidljjbkmbaaGreatDoor
namespace Go.Proofs.YtldkidljjbkmbaaGreatDoor.compComposes
open Go.RowKit Go.Maps Go.WideMaps Sc
theorem small_noD:SmallD 140737488355328 noD:=⟨by simp [noD],by simp [noD],by simp [noD],by simp [noD],by simp [noD]⟩
set_option maxHeartbeats 4000000 in
set_option maxRecDepth 100000 in
theorem law_walk (w:World) (a0:ByteArray) (v1:Value) (b0:a0.size≤1048576) (k1:PubsIn 1048576 w v1) :
  Calls Tryz.prog 3 #[.string a0,v1] w fun e w'=>e=.returned (.bool true)∧Below w.heap.size w w':=by
 obtain ⟨who,rfl⟩:=str_offC a0;have b0:who.length≤1048576:=by simpa [ByteArray.size] using b0
 obtain ⟨cs,hv,hn,hg⟩:=k1;have KM:=hid (small17_len hv (by omega) hg);have KW:=hid awake17_any;have hnum:∀ c ∈ cs,c.p.num≤9223372036854775807:=fun c hc=>(hg c hc).1.le;have K1:=hid (compose_in hv hn hg b0);have K2:=hid (fun (h400:cs.length≤400) (u:World) (hu:Below w.heap.size w u)=>rcomp17_any (who:=who) (hv.below hu) ((pbs_ok hg).below hu) (by omega) h400 hnum);have K3:=hid (fun (h400:cs.length≤400) (u:World) (hu:Below w.heap.size w u)=>ctext_any (who:=who) (hv.below hu) ((pbs_ok hg).below hu) (by omega) h400 hnum);have K4:=hid (fun (h400:cs.length≤400) (u:World) (hu:Below w.heap.size w u)=>rtext17_any (who:=who) (hv.below hu) ((pbs_ok hg).below hu) (by omega) h400 hnum);obtain ⟨d,er,hd⟩:∃ d er,compC who (pbsL cs)=(d,er):=⟨_,_,rfl⟩
 have hsm:SmallD 140737488355328 d:=by
  by_cases h0:er=0
  ·subst h0;exact (small_checked (right_plain (nums_in hg) hd).1).upB (by omega)
  ·have:=comp_none (who:=who) (l:=pbsL cs) (by rw [hd]; exact h0)
   rw [hd] at this;simp only at this;subst this;exact small_noD
 have KS:=hid (fun (u:World) (ts ns ts' ns':Value) (h1:TusAt u ts d.tuples) (h2:StrsAt u ns d.notes) (h3:TusAt u ts' d.tuples) (h4:StrsAt u ns' d.notes)=>rsame14_any d ts ns ts' ns' u hsm h1 h2 h3 h4);rw [hd] at K1 K2 K3 K4;generalize textC who (pbsL cs)=Z at K3 K4;unfold docV at K1 K2 KS;obtain ⟨oa,cap,rfl⟩:=hv.form;clear hsm hd hg hv hnum
 go_enter Tryz.func3,Tryz.ntmps3
 go_wp2_with fail
 refine KM.out.mono ?_
 rintro e w1 ⟨b,rfl,h400,hb1⟩;have bel:=hid hb1;clear hb1 KM
 cases b with
 | false =>
  go_wp2_with fail
  refine (KW.out _).mono ?_
  rintro e w4 ⟨rfl,hb4⟩;have bel:=hid (bel.out.trans (hb4.mono bel.out.size));clear hb4;go_wp2;go_ret;exact ⟨rfl,bel.out⟩
 | true =>
 have H400:=hid (h400 rfl);clear h400;go_wp2_with fail
 refine (K1.out w1 bel.out).mono ?_
 rintro e w2 ⟨vt,vn,rfl,hG,hb2⟩;simp only at hG ⊢;obtain ⟨ta,tc,na,nc,rfl,rfl⟩:=hG.forms;have R1:=hid (rc_row3 w2 (.string ⟨d.entity.toArray⟩) (.slice ta d.tuples.length tc) (.slice na d.notes.length nc) 28);have b2:Below w2.heap.size w2 (w2.alloc (.cells #[.string ⟨d.entity.toArray⟩,.slice ta d.tuples.length tc,.slice na d.notes.length nc] 28)):=(Below.refl _ w2).alloc (Nat.le_refl _) _;have HT:=hid (hG.below b2);have bel:=hid (bel.out.trans ((hb2.trans (b2.mono hb2.size)).mono bel.out.size));clear hG hb2 b2 K1
 go_upto_region 4 with fail
 generalize w2.heap.size=ga at R1 ⊢;generalize World.alloc _ _=u2 at R1 HT bel ⊢;go_wp2_with fail
 refine (K2.out H400.out u2 bel.out).mono ?_
 rintro e w3 ⟨vt2,vn2,rfl,hG2,hb3⟩;simp only at hG2 ⊢;obtain ⟨ta2,tc2,na2,nc2,rfl,rfl⟩:=hG2.forms;have R1:=hid (R1.out.below hb3 R1.out.bl);have HT:=hid (HT.out.below hb3);have bel:=hid (bel.out.trans (hb3.mono bel.out.size));have R2:=hid (rc_row3 w3 (.string ⟨d.entity.toArray⟩) (.slice ta2 d.tuples.length tc2) (.slice na2 d.notes.length nc2) 28);have b4:Below w3.heap.size w3 (w3.alloc (.cells #[.string ⟨d.entity.toArray⟩,.slice ta2 d.tuples.length tc2,.slice na2 d.notes.length nc2] 28)):=(Below.refl _ w3).alloc (Nat.le_refl _) _;have HT2:=hid (hG2.below b4);have R1:=hid (R1.out.below b4 R1.out.bl);have HT:=hid (HT.out.below b4);have bel:=hid (bel.out.trans (b4.mono bel.out.size));clear hG2 hb3 b4 K2
 go_upto_region 5 with fail
 generalize w3.heap.size=gb at R2 ⊢;generalize World.alloc _ _=u3 at R1 R2 HT HT2 bel ⊢;go_wp2_with fail
 refine (K3.out H400.out u3 bel.out).mono ?_
 rintro e w5 ⟨rfl,hb5⟩;have R1:=hid (R1.out.below hb5 R1.out.bl);have R2:=hid (R2.out.below hb5 R2.out.bl);have HT:=hid (HT.out.below hb5);have HT2:=hid (HT2.out.below hb5);have bel:=hid (bel.out.trans (hb5.mono bel.out.size));clear hb5 K3;go_wp2_with fail
 refine (K4.out H400.out w5 bel.out).mono ?_
 rintro e w6 ⟨rfl,hb6⟩;have R1:=hid (R1.out.below hb6 R1.out.bl);have R2:=hid (R2.out.below hb6 R2.out.bl);have HT:=hid (HT.out.below hb6);have HT2:=hid (HT2.out.below hb6);have bel:=hid (bel.out.trans (hb6.mono bel.out.size));clear hb6 K4;have KSS:=hid (KS.out w6 _ _ _ _ (OwnU.tusAt HT.out.t) (strsAt_own HT.out.n) (OwnU.tusAt HT2.out.t) (strsAt_own HT2.out.n));clear KS HT HT2;obtain ⟨y0,y1,y2,-,-,-⟩:=R1.out.rc3;obtain ⟨z0,z1,z2,-,-,-⟩:=R2.out.rc3;have e1:(Z==Z)=true:=by simp
 have e2:(er==er)=true:=by simp
 go_wp2_with fail
 refine KSS.out.mono ?_
 rintro e w8 ⟨rfl,hb8⟩;have bel:=hid (bel.out.trans (hb8.mono bel.out.size));clear hb8 KSS y0 y1 y2 z0 z1 z2;go_wp2_with fail
 refine (KW.out _).mono ?_
 rintro e w9 ⟨rfl,hb9⟩;have bel:=hid (bel.out.trans (hb9.mono bel.out.size));clear hb9;go_wp2;go_ret;exact ⟨rfl,bel.out⟩
end Go.Proofs.YtldkidljjbkmbaaGreatDoor.compComposes
