/-
  WinfoL, W15EachL, WWinfoEach.
-/
import Derived.Test.YtdbalahkmeknaaaGreatDoorPW03
import Derived.Test.YtdbalahkmeknaaaGreatDoorPW36
set_option linter.unusedVariables false
set_option linter.unusedSimpArgs false
set_option maxRecDepth 20000
namespace Go.Proofs.YtdbalahkmeknaaaGreatDoor
open Go.RowKit Sc
theorem ids_apart {a b:Wt} (ha:wtP a=true) (hb:wtP b=true) (h:wattV pidK (wtN a)=wattV pidK (wtN b)):a.id=b.id:=by
 obtain ⟨a1,a2,_⟩:=wtP_facts ha;obtain ⟨b1,b2,_⟩:=wtP_facts hb;rw [(att_wt a).1,(att_wt b).1] at h
 injection h with _ h
 have e1:=wdig_num (n:=a.id.toNat) (most:=1099511627776) (by omega);have e2:=wdig_num (n:=b.id.toNat) (most:=1099511627776) (by omega);rw [h,e2] at e1
 injection e1 with e1 _
 omega
theorem distinctW_get {ws:List Wt} (h:distinctW ws=true):∀ (i k:Nat) (hi:i < ws.length) (hk:k < i),ws[k].id ≠ ws[i].id:=by
 induction ws with
 | nil=>intro i k hi; simp at hi
 | cons t r ih =>
  intro i k hi hk;rw [distinctW,Bool.and_eq_true,List.all_eq_true] at h;obtain ⟨i,rfl⟩:∃ j,i=j+1:=⟨i - 1,by omega⟩
  simp only [List.length_cons] at hi
  cases k with
  | zero =>
   have:=h.1 r[i] (List.getElem_mem (by omega))
   simp only [Bool.not_eq_true',beq_eq_false_iff_ne,ne_eq] at this;simp only [List.getElem_cons_zero,List.getElem_cons_succ];exact fun e=>this e.symm
  | succ k =>
   simp only [List.getElem_cons_succ];exact ih h.2 i k (by omega) (by omega)
theorem kids0_len (d:Inf):(kidsL 0 ((nodesI d).drop 1) 1).length=1:=by
 have h:=kids_of 0 [listT d] [] 1 (fun x hx=>by simp at hx)
 have e:(nodesI d).drop 1=flatXs 1 [listT d]++[]:=by
  rw [← flat_treeI,treeI,flatX]; simp
 rw [e];rw [show ((0:Nat):Int)=0 from rfl] at h;rw [h,starts_len]; rfl
theorem kids1_len (d:Inf):(kidsL 1 ((nodesI d).drop 2) 2).length=d.ws.length:=by
 have h:=kids_of 1 (d.ws.map wtT) [] 2 (fun x hx=>by simp at hx)
 have e:(nodesI d).drop 2=flatXs 2 (d.ws.map wtT)++[]:=by
  rw [flat_wts,List.append_nil]; rfl
 rw [e];rw [show ((1:Nat):Int)=1 from rfl] at h;rw [h,starts_len,List.length_map]
theorem pos_form {w:World} {B:Nat} {kv:Value} {l:List Nat} (h:Own w B 3 kv (posCells l)):∃ ka cap,kv=.slice ka l.length cap:=by
 rcases h.2 with ⟨rfl,hn⟩ | ⟨g,cap,cur,rfl,hb,hg,_⟩
 ·simp [posCells] at hn; exact ⟨none,0,by rw [hn]; rfl⟩
 ·exact ⟨some ⟨g,0,none⟩,cap,by simp [posCells]⟩
structure EachN (w:World) (v:Value) (cs:List NdC) (d:Inf):Prop where
 nd:ndsL cs=nodesI d
 at':NdsAt w v cs
theorem EachN.below {w w':World} {v:Value} {cs:List NdC} {d:Inf} (h:EachN w v cs d) (hb:Below w.heap.size w w'):EachN w' v cs d:=⟨h.nd,h.at'.below hb⟩
theorem EachN.len {w:World} {v:Value} {cs:List NdC} {d:Inf} (h:EachN w v cs d):cs.length=d.ws.length+2:=by
 have:=nodesI_len d
 rw [← h.nd,ndsL_len] at this;exact this
theorem EachN.get {w:World} {v:Value} {cs:List NdC} {d:Inf} (h:EachN w v cs d) {k:Nat} (hk:k < d.ws.length):∃ hk2:k+2 < cs.length,cs[k+2].nd=wtN d.ws[k]:=by
 have hl:=h.len;refine ⟨by omega,?_⟩
 have h1:=ndsL_get (cs:=cs) (k:=k+2) (by omega);rw [← h1];have h2:(ndsL cs)[k+2]? = (nodesI d)[k+2]? := by rw [h.nd]
 rw [List.getElem?_eq_getElem (by rw [ndsL_len]; omega),List.getElem?_eq_getElem (by rw [nodesI_len]; omega)] at h2
 injection h2 with h2
 rw [h2];simp only [nodesI,List.getElem_cons_succ,List.getElem_map]
theorem EachN.kids0 {w:World} {v:Value} {cs:List NdC} {d:Inf} (h:EachN w v cs d) (hc:checkI d=0):Calls Tryz.prog 18 #[v,.int .i64 0] w fun e w'=>∃ ka kc,e=.returned (.slice ka 1 kc)∧Below w.heap.size w w':=by
 have hl:=h.len;have hw:=(checkI_ok hc).2.2.2.1;have h0:0 < cs.length:=by omega
 have e0:cs[0].nd=rootI d:=by
  have h1:=ndsL_get (cs:=cs) (k:=0) h0;rw [← h1];have h2:(ndsL cs)[0]? = (nodesI d)[0]? := by rw [h.nd]
  rw [List.getElem?_eq_getElem (by rw [ndsL_len]; omega),List.getElem?_eq_getElem (by rw [nodesI_len]; omega)] at h2
  injection h2
 have hd0:cs[0].nd.deep=0:=by rw [e0]; rfl
 have K:=xkids_any v cs 0 w h0 (by omega) (by rw [hd0]; decide) (by rw [hd0]; decide) h.at';rw [hd0,h.nd] at K;refine K.mono ?_
 rintro e w' ⟨kv,rfl,ho,hb⟩;obtain ⟨ka,kc,rfl⟩:=pos_form ho;rw [kids0_len];exact ⟨ka,kc,rfl,hb⟩
theorem EachN.kids1 {w:World} {v:Value} {cs:List NdC} {d:Inf} (h:EachN w v cs d) (hc:checkI d=0):Calls Tryz.prog 18 #[v,.int .i64 1] w fun e w'=>∃ ka kc,e=.returned (.slice ka d.ws.length kc)∧Below w.heap.size w w':=by
 have hl:=h.len;have hw:=(checkI_ok hc).2.2.2.1;have h0:1 < cs.length:=by omega
 have e0:cs[1].nd=listN d:=by
  have h1:=ndsL_get (cs:=cs) (k:=1) h0;rw [← h1];have h2:(ndsL cs)[1]? = (nodesI d)[1]? := by rw [h.nd]
  rw [List.getElem?_eq_getElem (by rw [ndsL_len]; omega),List.getElem?_eq_getElem (by rw [nodesI_len]; omega)] at h2
  injection h2
 have hd0:cs[1].nd.deep=1:=by rw [e0]; rfl
 have K:=xkids_any v cs 1 w h0 (by omega) (by rw [hd0]; decide) (by rw [hd0]; decide) h.at';rw [hd0,h.nd] at K;refine K.mono ?_
 rintro e w' ⟨kv,rfl,ho,hb⟩;obtain ⟨ka,kc,rfl⟩:=pos_form ho;rw [kids1_len];exact ⟨ka,kc,rfl,hb⟩
theorem xback_any (d:Inf) (w:World) (hc:checkI d=0) (hl:(prologK++printX (treeI d)).length≤4096):Calls Tryz.prog 17 #[.string ⟨(prologK++printX (treeI d)).toArray⟩] w fun e w'=>∃ va vc cs,e=.returned (.tuple #[.slice va (d.ws.length+2) vc,.int .i64 0])∧EachN w' (.slice va (d.ws.length+2) vc) cs d∧Below w.heap.size w w':=by
 have h:=xparse_any (prologK++printX (treeI d)) w (by omega);rw [info_xml hc hl] at h;refine h.mono ?_
 rintro e w' ⟨v,cs,rfl,hnd,hown,hb⟩;have hnd:ndsL cs=nodesI d:=hnd;obtain ⟨va,vc,hvf⟩:=hown.form
 have hlen:cs.length=d.ws.length+2:=by
  have:=nodesI_len d
  rw [← hnd,ndsL_len] at this;exact this
 rw [hlen] at hvf;subst hvf;exact ⟨va,vc,cs,rfl,⟨hnd,hown.ndsAt⟩,hb⟩
end Go.Proofs.YtdbalahkmeknaaaGreatDoor
namespace Go.Proofs.YtdbalahkmeknaaaGreatDoor.winfoEach
open Go.RowKit Sc
structure EaS (w W:World) (x0 x1 x2 v:Value) (cs:List NdC) (d:Inf):Prop where
 each:EachN W v cs d
 row:RowIs W w.heap.size 24 [x0,x1,x2]
 bel:Below w.heap.size w W
 lt:w.heap.size < W.heap.size
theorem EaS.below {w W W':World} {x0 x1 x2 v:Value} {cs:List NdC} {d:Inf} (h:EaS w W x0 x1 x2 v cs d) (hb:Below W.heap.size W W'):EaS w W' x0 x1 x2 v cs d :=
 ⟨h.each.below hb,h.row.below hb h.lt,h.bel.trans (hb.mono h.bel.size),Nat.lt_of_lt_of_le h.lt hb.size⟩
theorem each_at {W:World} {va:Option Addr} {n vc:Nat} {cs:List NdC} (h:NdsAt W (.slice va n vc) cs) (k:Nat) (hk:k < cs.length):∃ ad,va=some ad∧ad.block < W.heap.size∧NdAt W ad k cs[k]∧ParsAt W cs[k].a cs[k].nd.attrs:=by
 obtain ⟨ao,cap,e,hc⟩:=h;obtain ⟨ad,e1,h1⟩:=hc k hk
 injection e with e
 exact ⟨ad,e.trans e1,h1⟩
theorem eachT {W:World} {va:Option Addr} {n vc:Nat} {cs:List NdC} {d:Inf} (h:EachN W (.slice va n vc) cs d) (k:Nat) (hk:k < d.ws.length):∃ ad av,va=some ad∧ad.block < W.heap.size∧NdAt W ad (k+2) ⟨wtN d.ws[k],av⟩∧ParsAt W av (wtN d.ws[k]).attrs:=by
 obtain ⟨hk2,hnd⟩:=h.get hk;obtain ⟨ad,e,hab,c,p⟩:=each_at h.at' (k+2) hk2;rw [← hnd];exact ⟨ad,cs[k+2].a,e,hab,c,p⟩
theorem wtN_pars {t:Wt} (h:wtP t=true):SmallP 140737488355328 (wtN t).attrs:=by
 obtain ⟨k1,k2,k3,k4,k5⟩:=wtP_facts h;have m2:=stat_len k4;have m3:=tok_len k5;have m4:=digL_len19 (n:=t.id.toNat) (by omega);refine ⟨by show (3:Nat)≤_; decide,fun p hp=>?_⟩
 simp only [wtN,List.mem_cons,List.not_mem_nil,or_false] at hp
 rcases hp with rfl | rfl | rfl
 ·exact ⟨by show pidK.length≤_; decide,by show (119 :: digL t.id.toNat).length≤_; rw [List.length_cons]; omega⟩
 ·exact ⟨by show pstatK.length≤_; decide,by show t.stat.length≤_; omega⟩
 ·exact ⟨by show weventK.length≤_; decide,by show t.ev.length≤_; omega⟩
theorem attrS (t:Wt) (av:Value) (W:World) (h:wtP t=true) (p:ParsAt W av (wtN t).attrs) :
  Calls Tryz.prog 19 #[ndV (wtN t) av,.string ⟨#[115,116,97,116,117,115]⟩] W fun e w'=>e=.returned (.tuple #[.string ⟨t.stat.toArray⟩,.bool true])∧Below W.heap.size W w':=by
 have K:=xatt_any (wtN t) av pstatK W (wtN_pars h) p;have e1:¬ pidK=pstatK:=by decide
 have e:attG pstatK (wtN t).attrs=some t.stat:=by simp [wtN,attG,atr,e1]
 rw [e] at K;exact K
theorem attrI (t:Wt) (av:Value) (W:World) (h:wtP t=true) (p:ParsAt W av (wtN t).attrs) :
  Calls Tryz.prog 19 #[ndV (wtN t) av,.string ⟨#[105,100]⟩] W fun e w'=>e=.returned (.tuple #[.string ⟨(wattV pidK (wtN t)).toArray⟩,.bool true])∧Below W.heap.size W w':=by
 have K:=xatt_any (wtN t) av pidK W (wtN_pars h) p;have e:attG pidK (wtN t).attrs=some (119 :: digL t.id.toNat):=by simp [wtN,attG,atr]
 have e2:wattV pidK (wtN t)=119 :: digL t.id.toNat:=(att_wt t).1;rw [e] at K;rw [e2];exact K
set_option maxHeartbeats 4000000 in
set_option maxRecDepth 100000 in
theorem law_walk (w:World) (v0:Value) (k0:InfIn 1048576 w v0) :
  Calls Tryz.prog 7 #[v0] w fun e w'=>e=.returned (.bool true)∧Below w.heap.size w w':=by
 obtain ⟨d,ws,rfl,hD,hsm⟩:=k0;obtain ⟨vr,rs,wl⟩:=d;simp only at hD;obtain ⟨ta,tk,hta,_,_⟩:=id hD;obtain ⟨tn,htn⟩:∃ tn,tn=wl.length:=⟨_,rfl⟩
 rw [← htn] at hta;subst hta;have HDW:=hid (fun W' (h:Below w.heap.size w W')=>hD.below h);have hr0:=hid (rc_row3 w (.int .i64 vr) (.string ⟨rs.toArray⟩) (.slice ta tn tk) 24);have hb0:=hid (show Below w.heap.size w (w.alloc (.cells #[.int .i64 vr,.string ⟨rs.toArray⟩,.slice ta tn tk] 24)) from (Below.refl _ w).alloc (Nat.le_refl _) _);have hl0:=hid (alloc_lt w (.cells #[.int .i64 vr,.string ⟨rs.toArray⟩,.slice ta tn tk] 24));by_cases hc:checkI ⟨vr,rs,wl⟩=0
 case neg =>
  have KP:=hid (fun w' ws (k:WtsAt w' ws wl)=>wprint_bad ⟨vr,rs,wl⟩ ws w' hsm k hc);have r1:(checkI ⟨vr,rs,wl⟩ != 0)=true:=by simpa using hc
  unfold infV at KP ⊢;simp only at KP ⊢;generalize checkI ⟨vr,rs,wl⟩=C at KP r1;clear hsm htn hc hD
  go_enter Tryz.func7,Tryz.ntmps7
  go_upto_region 1 with fail
  generalize World.alloc w _=W0 at hr0 hb0 hl0 ⊢;obtain ⟨y0,y1,y2,_,_,_⟩:=hr0.out.rc3;go_wp2_with fail
  refine (KP.out _ _ (HDW.out _ hb0.out)).mono ?_
  rintro e w1 ⟨rfl,hw1⟩;have hb1:=hb0.out.trans (hw1.mono hb0.out.size);clear y0 y1 y2;go_wp2_with (go_at_call 9; refine (awake15_any _).mono ?_; rintro e w7 ⟨rfl,hw7⟩)
  go_ret;exact ⟨rfl,hb1.trans (hw7.mono hb1.size)⟩
 have KP:=hid (fun w' ws (k:WtsAt w' ws wl)=>wprint_ok ⟨vr,rs,wl⟩ ws w' k hc);have KX:=hid (fun (hlen:(prologK++printX (treeI ⟨vr,rs,wl⟩)).length≤4096) w=>xback_any ⟨vr,rs,wl⟩ w hc hlen);have HK0:=hid (fun w' v cs (h:EachN w' v cs ⟨vr,rs,wl⟩)=>h.kids0 hc);have HK1:=hid (fun w' v cs (h:EachN w' v cs ⟨vr,rs,wl⟩)=>h.kids1 hc);have HGT:=hid (fun w' v cs (h:EachN w' v cs ⟨vr,rs,wl⟩) k (hk:k < wl.length)=>h.get hk);have HSN:=hid (nodes_smallN hc (B:=140737488355328) (by decide));have hck:=checkI_ok hc;simp only at hck;obtain ⟨_,_,_,hw198,hwp,hds⟩:=hck;have HWP:=hid hwp;have HDS:=hid (distinctW_get hds);generalize prologK++printX (treeI ⟨vr,rs,wl⟩)=Z at KP KX;have z1:=size_list Z;have hZl:Hid True:=trivial;unfold infV at KP ⊢;simp only at KP KX HK0 HK1 ⊢;have HTN:=hid htn;rw [← htn] at KX HK1 hw198;clear hsm hc hD htn hwp hds
 go_enter Tryz.func7,Tryz.ntmps7
 go_upto_region 1 with fail
 generalize World.alloc w _=W0 at hr0 hb0 hl0 ⊢;obtain ⟨y0,y1,y2,_,_,_⟩:=hr0.out.rc3;go_wp2_with fail
 refine (KP.out _ _ (HDW.out _ hb0.out)).mono ?_
 rintro e w1 ⟨rfl,hw1⟩;have hr1:=hid (hr0.out.below hw1 hl0.out);have hl1:=hid (Nat.lt_of_lt_of_le hl0.out hw1.size);have hb1:=hid (hb0.out.trans (hw1.mono hb0.out.size));clear hr0 hb0 hl0 hw1 y0 y1 y2 KP;by_cases h4:4096 < Z.length
 ·have r4:(4096:Int) < (Z.length:Int):=by omega
  go_wp2_with (go_at_call 9; refine (awake15_any _).mono ?_; rintro e w7 ⟨rfl,hw7⟩)
  go_ret;exact ⟨rfl,hb1.out.trans (hw7.mono hb1.out.size)⟩
 have r4:¬ (4096:Int) < (Z.length:Int):=by omega
 have KX':=hid (KX.out (by omega));clear KX;go_wp2_with fail
 refine (KX'.out _).mono ?_
 rintro e w2 ⟨va,vc,cs,rfl,hE2,hw2⟩;have HE2:=hid hE2;have hr2:=hid (hr1.out.below hw2 hl1.out);have hl2:=Nat.lt_of_lt_of_le hl1.out hw2.size;have hb2:=hb1.out.trans (hw2.mono hb1.out.size);clear hr1 hb1 hl1 hw2 KX' hE2 z1 h4 r4 hZl;have wtn2:IntKind.i64.wrap ((tn:Int)+2)=(tn:Int)+2:=by rw [IntKind.wrap_i64]; omega
 go_upto_region 5 with fail
 have HE:=hid (HE2.out.below (Below.refl _ w2).drew);have hR:=hid (show RowIs w2.drew w.heap.size 24 [.int .i64 vr,.string ⟨rs.toArray⟩,.slice ta tn tk] from hr2.out);have hlt:w.heap.size < w2.drew.heap.size:=hl2;have hacc:Below w.heap.size w w2.drew:=hb2.drew;clear hr2 HE2 hl2 hb2;obtain ⟨x0,x1,x2,_,_,_⟩:=hR.out.rc3
 go_region_held3 (fun w'=>w'.cell? ⟨w.heap.size,0,none⟩=some (.int .i64 vr)∧w'.cell? ⟨w.heap.size,1,none⟩=some (.string ⟨rs.toArray⟩)∧w'.cell? ⟨w.heap.size,2,none⟩=some (.slice ta tn tk)) (go_keep) (first
  | (go_at_call 18; refine (HK0.out _ _ _ HE.out).mono ?_; clear HK0; rintro e w7 ⟨ka7,kc7,rfl,hw7⟩; have hR:=hid (RowIs.below hR.out hw7 hlt); have HE:=hid (HE.out.below hw7); have hacc:=hacc.trans (hw7.mono hacc.size); have hlt:=Nat.lt_of_lt_of_le hlt hw7.size; clear x0 x1 x2; obtain ⟨x0,x1,x2,_,_,_⟩:=hR.out.rc3; clear hw7)
  | (go_at_call 18; refine (HK1.out _ _ _ HE.out).mono ?_; clear HK1; rintro e w8 ⟨ka8,kc8,rfl,hw8⟩; have hR:=hid (RowIs.below hR.out hw8 hlt); have HE:=hid (HE.out.below hw8); have hacc:=hacc.trans (hw8.mono hacc.size); have hlt:=Nat.lt_of_lt_of_le hlt hw8.size; clear x0 x1 x2; obtain ⟨x0,x1,x2,_,_,_⟩:=hR.out.rc3; clear hw8))
 all_goals
  clear x0 x1 x2;have HS:=hid (show EaS w _ (.int .i64 vr) (.string ⟨rs.toArray⟩) (.slice ta tn tk) _ cs ⟨vr,rs,wl⟩ from ⟨HE.out,hR.out,hacc,hlt⟩);clear HE hR hacc hlt;go_wp2
  go_loopw [7] (fun i wr=>∃ k:Nat,k≤tn∧i=.int .i64 (k:Int)∧Hid (EaS w wr (.int .i64 vr) (.string ⟨rs.toArray⟩) (.slice ta tn tk) (.slice va (tn+2) vc) cs ⟨vr,rs,wl⟩)) (fun i _=>tn - (intOf i).toNat)
  case atStart=>exact ⟨0,Nat.zero_le _,rfl,HS⟩
  case round =>
   clear HS;obtain ⟨k,hkn,rfl,HS⟩:=hrel;obtain ⟨x0,x1,x2,_,_,_⟩:=HS.out.row.rc3;by_cases hlt:k < tn
   ·have hkl:k < wl.length:=by have:=HTN.out; omega
    have q6:(k:Int) < (tn:Int):=by omega
    have wk2:IntKind.i64.wrap ((k:Int)+2)=(k:Int)+2:=by rw [IntKind.wrap_i64]; omega
    obtain ⟨ad,av,hva,hab,c,p⟩:=eachT HS.out.each k hkl;subst hva;have KAs:=hid (fun W' (h:Below wr.heap.size wr W')=>attrS wl[k] av W' (HWP.out _ (List.getElem_mem hkl)) (p.below h));have htx:(wtN wl[k]).text=sipcK++wl[k].uri:=rfl;generalize wtN wl[k]=N at c KAs htx p;obtain ⟨dp,nm,asx,tx⟩:=N;obtain ⟨pa,pc,hpf⟩:=p.form;subst hpf;obtain ⟨pn,hpn⟩:∃ pn,pn=asx.length:=⟨_,rfl⟩
    obtain ⟨c0,c1,c2,c3⟩:=c;unfold ndV at KAs;simp only at c0 c1 c2 c3 KAs htx;rw [← hpn] at c2 KAs;have HTX:=hid htx;clear p hpn htx;go_wp2_with fail
    refine (KAs.out _ (Below.refl _ _)).mono ?_
    rintro e w3 ⟨rfl,hw3⟩;have HS3:=hid (HS.out.below hw3);have d3:=cell_below hw3 (by simp only [add_block]; exact hab) c3;clear c0 c1 c2 c3 KAs hw3 x0 x1 x2 HS;obtain ⟨ta',tc',hta',_,hcT⟩:=HDW.out w3 HS3.out.bel;obtain ⟨ad2,hao,hab2,cT⟩:=hcT k hkl
    injection hta' with e1 e2 e3
    subst e1 hao;clear e2 e3 hcT;obtain ⟨t0,t1,t2,t3⟩:=cT;have hul:wl[k].uri.length≤257:=hostV_len (wtP_facts (HWP.out _ (List.getElem_mem hkl))).2.2.1;generalize wl[k].stat=ST at t2 ⊢;have hadd:(⟨#[115,105,112,58]⟩:ByteArray)++⟨wl[k].uri.toArray⟩=⟨tx.toArray⟩:=by rw [HTX.out,ByteArray.mk_append_mk]; simp [sipcK]
    clear HTX t0 t3;generalize wl[k].uri=UR at t1 hadd hul;have zu:=size_list UR;have hcl:¬ 9223372036854775807 < 4+UR.length:=by omega
    have n1:(ST != ST)=false:=by simp
    have n2:(tx != tx)=false:=by simp
    obtain ⟨x0,x1,x2,_,_,_⟩:=HS3.out.row.rc3;go_wp2
    go_quiet (fail)
    clear x0 x1 x2 d3 t1 t2 hadd hul zu hcl n1 n2;have HS4:=hid (HS3.out.below (below_drewN w3 nq));generalize w3.drewN nq=w4 at HS4 ⊢;clear HS3;go_wp2
    go_loopw [10] (fun i wr2=>∃ m:Nat,m≤k∧i=.int .i64 (m:Int)∧Hid (EaS w wr2 (.int .i64 vr) (.string ⟨rs.toArray⟩) (.slice (some ad2) tn tk) (.slice (some ad) (tn+2) vc) cs ⟨vr,rs,wl⟩)) (fun i _=>k - (intOf i).toNat)
    case atStart=>exact ⟨0,Nat.zero_le _,rfl,HS4⟩
    case round =>
     clear HS4;obtain ⟨m,hmk,rfl,HS⟩:=hrel;by_cases hlt2:m < k
     ·have hml:m < wl.length:=by omega
      have q7:(m:Int) < (k:Int):=by omega
      have q8:(m:Int) < (tn:Int):=by omega
      have wm2:IntKind.i64.wrap ((m:Int)+2)=(m:Int)+2:=by rw [IntKind.wrap_i64]; omega
      have hne:(wattV pidK (wtN wl[k])==wattV pidK (wtN wl[m]))=false:=by
       rw [beq_eq_false_iff_ne];intro h
       have:=ids_apart (HWP.out _ (List.getElem_mem hkl)) (HWP.out _ (List.getElem_mem hml)) h
       exact HDS.out k m hkl hlt2 this.symm
      obtain ⟨ad3,av,hva,hab,c,p⟩:=eachT HS.out.each k hkl
      injection hva with hva
      subst hva;have KAs:=hid (fun W' (h:Below wr.heap.size wr W')=>attrI wl[k] av W' (HWP.out _ (List.getElem_mem hkl)) (p.below h));generalize wattV pidK (wtN wl[k])=IK at KAs hne;generalize wtN wl[k]=N at c KAs p;obtain ⟨dp,nm,asx,tx⟩:=N;obtain ⟨pa,pc,hpf⟩:=p.form;subst hpf;obtain ⟨pn,hpn⟩:∃ pn,pn=asx.length:=⟨_,rfl⟩
      obtain ⟨c0,c1,c2,c3⟩:=c;unfold ndV at KAs;simp only at c0 c1 c2 c3 KAs;rw [← hpn] at c2 KAs;clear p hpn;go_wp2_with fail
      refine (KAs.out _ (Below.refl _ _)).mono ?_
      rintro e w5 ⟨rfl,hw5⟩;have HS5:=hid (HS.out.below hw5);clear c0 c1 c2 c3 KAs hw5 HS hab;obtain ⟨ad3,av,hva,hab,c,p⟩:=eachT HS5.out.each m hml
      injection hva with hva
      subst hva;have KAs:=hid (fun W' (h:Below w5.heap.size w5 W')=>attrI wl[m] av W' (HWP.out _ (List.getElem_mem hml)) (p.below h));generalize wattV pidK (wtN wl[m])=IM at KAs hne;generalize wtN wl[m]=N at c KAs p;obtain ⟨dp,nm,asx,tx⟩:=N;obtain ⟨pa,pc,hpf⟩:=p.form;subst hpf;obtain ⟨pn,hpn⟩:∃ pn,pn=asx.length:=⟨_,rfl⟩
      obtain ⟨c0,c1,c2,c3⟩:=c;unfold ndV at KAs;simp only at c0 c1 c2 c3 KAs;rw [← hpn] at c2 KAs;clear p hpn;go_wp2_with fail
      refine (KAs.out _ (Below.refl _ _)).mono ?_
      rintro e w6 ⟨rfl,hw6⟩;have HS6:=hid (HS5.out.below hw6);clear c0 c1 c2 c3 KAs hw6 HS5 hab;go_wp2;go_roundw
      case rel=>exact ⟨m+1,by omega,by go_num,HS6⟩
      case measure=>simp [intOf]; omega
     ·have q7:¬ (m:Int) < (k:Int):=by omega
      go_wp2;go_roundw
      case rel=>exact ⟨k+1,by omega,by go_num,HS⟩
      case measure=>simp [intOf]; omega
   ·have q6:¬ (k:Int) < (tn:Int):=by omega
    have hbe:=HS.out.bel;clear HS;go_wp2_with (go_at_call 9; refine (awake15_any _).mono ?_; rintro e w7 ⟨rfl,hw7⟩)
    go_ret;exact ⟨rfl,hbe.trans (hw7.mono hbe.size)⟩
end Go.Proofs.YtdbalahkmeknaaaGreatDoor.winfoEach
