/-
  RefWho, PR4, PtI, OpenPa, PubW.
-/
import Derived.Test.YteicmbhilambpaaGreatDoorPU03
import Derived.Test.YteicmbhilambpaaGreatDoorPU22
set_option linter.unusedVariables false
set_option linter.unusedSimpArgs false
set_option maxRecDepth 20000
namespace Go.Proofs.YteicmbhilambpaaGreatDoor
open Go.RowKit Sc
set_option maxHeartbeats 1000000 in
set_option maxRecDepth 100000 in
theorem refwho_any (u:Uri) (p h:Value) (w:World) (hsm:SmallU 140737488355328 u) (hp:ParsAt w p u.params) (hh:ParsAt w h u.headers) :
  Calls Tryz.prog 80 #[uriV u p h] w fun e w'=>e=.returned (.tuple #[.string ⟨(whoV u).1.toArray⟩,.int .i64 (whoV u).2])∧Below w.heap.size w w':=by
 have hbox:=box_new w u p h;have hbw:Below w.heap.size w (w.alloc (.cells #[.string ⟨u.scheme.toArray⟩,.string ⟨u.user.toArray⟩,.string ⟨u.host.toArray⟩,.int .i64 u.port,p,h] 143)):=(Below.refl _ w).alloc (Nat.le_refl _) _;have hws:=alloc_lt w (.cells #[.string ⟨u.scheme.toArray⟩,.string ⟨u.user.toArray⟩,.string ⟨u.host.toArray⟩,.int .i64 u.port,p,h] 143);have K1:=hid (fun w' (hb:Below w.heap.size w w')=>refcheck_any u p h w' hsm (hp.below hb) (hh.below hb));obtain ⟨a1,c1,rfl⟩:=hp.form;obtain ⟨a2,c2,rfl⟩:=hh.form;have hul:checkV u=0 → u.user.length≤64∧u.host.length≤64:=fun h=>⟨(check_ok h).2.1,(hostB_ok (check_ok h).2.2.1).2⟩
 have hwv:whoV u=whoV u:=rfl
 conv at hwv=>rhs; unfold whoV
 have hwt:Hid ((ByteArray.mk (escL usersK u.user).toArray++⟨#[64]⟩)++⟨u.host.toArray⟩=⟨(whoT u).toArray⟩):=show _=_ by rw [whoT,← appL,← appL]
 obtain ⟨n,hn⟩:∃ n,checkV u=n:=⟨_,rfl⟩
 rw [hn] at K1 hwv hul;clear hn hp hh hsm;unfold uriV at K1 ⊢;by_cases e1:n=0
 ·subst e1;obtain ⟨hu64,hh64⟩:=hul rfl;have hel:=escL_len usersK u.user;have hl1:¬ 9223372036854775807 < (escL usersK u.user).length+1:=by omega
  have hl2:¬ 9223372036854775807 < (escL usersK u.user).length+1+u.host.length:=by omega
  rw [if_neg (by simp)] at hwv;by_cases eu:u.user=[]
  ·have hue:u.user.isEmpty=true:=by simp [eu]
   rw [if_pos eu] at hwv;have HV:=hid hwv;clear hwv eu hul
   go_enter Tryz.func80,Tryz.ntmps80
   go_wp2_with fail
   refine (K1.out _ hbw).mono ?_
   rintro e w2 ⟨rfl,hw2⟩;have hb2:=hbw.trans (hw2.mono hbw.size);obtain ⟨g0,g1,g2,g3,g4,g5⟩:=hbox.below hw2 hws;clear hbox hbw hws hw2;go_wp2;go_ret2;exact ⟨ret_who HV.out,hb2⟩
  ·have hue:u.user.isEmpty=false:=by simpa using eu
   rw [if_neg eu] at hwv;have HV:=hid hwv;have K3:=hid (fun w'=>refesc_list u.user usersK w' (by omega) (by decide));clear hwv eu hul
   go_enter Tryz.func80,Tryz.ntmps80
   go_wp2_with fail
   refine (K1.out _ hbw).mono ?_
   rintro e w2 ⟨rfl,hw2⟩;have hacc:=(hbw.trans (hw2.mono hbw.size)).drew;have hlt:w.heap.size < w2.drew.heap.size:=Nat.lt_of_lt_of_le hws hw2.size;obtain ⟨q0,q1,q2,q3,q4,q5⟩:=hbox.below hw2 hws;have hbx:Hid (BoxU w2.drew w.heap.size u (.slice a1 u.params.length c1) (.slice a2 u.headers.length c2)):=⟨q0,q1,q2,q3,q4,q5⟩
   obtain ⟨g0,g1,g2,g3,g4,g5⟩:=hbx.out;clear hbox hbw hws hw2;go_wp2
   go_region_law (go_simp; go_at_call 119; refine (K3.out _).mono ?_; rintro e w3 ⟨rfl,hw3⟩; replace hbx:=hid (hbx.out.below hw3 hlt); replace hacc:=hacc.trans (hw3.mono hacc.size); obtain ⟨g0,g1,g2,g3,g4,g5⟩:=hbx.out; clear hw3)
   all_goals (
    try go_simp
    go_wp2;rw [hwt.out];go_ret2;exact ⟨ret_who HV.out,hacc⟩)
 ·have e1a:(n != 0)=true:=by simpa using e1
  have e1b:(n==0)=false:=by simpa using e1
  rw [if_pos e1] at hwv;have HV:=hid hwv;clear hwv hul
  go_enter Tryz.func80,Tryz.ntmps80
  go_wp2_with fail
  refine (K1.out _ hbw).mono ?_
  rintro e w2 ⟨rfl,hw2⟩;have hb2:=hbw.trans (hw2.mono hbw.size);obtain ⟨g0,g1,g2,g3,g4,g5⟩:=hbox.below hw2 hws;clear hbox hbw hws hw2;go_wp2_with fail
  refine (K1.out _ hb2).mono ?_
  rintro e w3 ⟨rfl,hw3⟩;have hb3:=hb2.trans (hw3.mono hb2.size);clear g0 g1 g2 g3 g4 g5 hw3;go_wp2;go_ret2;exact ⟨ret_who HV.out,hb3⟩
theorem refparse4 {l:List UInt8} {u:Uri} {er:Int} (h:parseV ([115,105,112,58]++l)=(u,er)) (w:World) (hs:l.length+4≤1048576) :
  Calls Tryz.prog 79 #[.string (⟨#[115,105,112,58]⟩++⟨l.toArray⟩)] w fun e w'=>∃ a1 k1 a2 k2,e=.returned (.tuple #[.agg #[.string ⟨u.scheme.toArray⟩,.string ⟨u.user.toArray⟩,.string ⟨u.host.toArray⟩,.int .i64 u.port,.slice a1 u.params.length k1,.slice a2 u.headers.length k2],.int .i64 er])∧ParsAt w' (.slice a1 u.params.length k1) u.params∧ParsAt w' (.slice a2 u.headers.length k2) u.headers∧Below w.heap.size w w':=by
 have k:=refparse_any ([115,105,112,58]++l) w (by simp; omega);rw [h,← appL] at k;refine k.mono ?_
 rintro e w' ⟨p,q,rfl,hp,hq,hb⟩;have hp2:=hp.parsAt;have hq2:=hq.parsAt;obtain ⟨a1,k1,e1⟩:=hp2.form;obtain ⟨a2,k2,e2⟩:=hq2.form;simp only at e1 e2 hp2 hq2;subst e1 e2;exact ⟨a1,k1,a2,k2,rfl,hp2,hq2,hb⟩
set_option maxHeartbeats 1000000 in
set_option maxRecDepth 100000 in
theorem refhost_who (l:List UInt8) (w:World) (hs:l.length+4≤1048576) :
  Calls Tryz.prog 53 #[.string ⟨l.toArray⟩] w fun e w'=>e=.returned (.tuple #[.string ⟨(hostV l).1.toArray⟩,.int .i64 (hostV l).2])∧Below w.heap.size w w':=by
 obtain ⟨u,er,hpv⟩:∃ u er,parseV ([115,105,112,58]++l)=(u,er):=⟨_,_,rfl⟩
 have K1:=hid (refparse4 hpv w hs);by_cases her:er=0
 ·subst her;have hcz:=parse_checked hpv;have hsm:=small_of_check hcz;obtain ⟨t,n,hwv⟩:∃ t n,whoV u=(t,n):=⟨_,_,rfl⟩
  have K2:=hid (fun (w':World) (p h:Value)=>refwho_any u p h w' hsm);rw [hwv] at K2;unfold uriV at K2;simp only at K2;by_cases hn:n=0
  ·subst hn;by_cases ht:t=l
   ·subst ht;have HV:=hid (host_yes (t:=t) hpv hwv);clear hpv hwv hcz hsm
    go_enter Tryz.func53,Tryz.ntmps53
    go_wp2_with fail
    refine K1.out.mono ?_
    rintro e w1 ⟨a1,k1,a2,k2,rfl,hp,hq,hw1⟩;have hb1:=hw1.alloc hw1.size (.cells #[.string ⟨u.scheme.toArray⟩,.string ⟨u.user.toArray⟩,.string ⟨u.host.toArray⟩,.int .i64 u.port,.slice a1 u.params.length k1,.slice a2 u.headers.length k2] 143);have hx:=box_new w1 u (.slice a1 u.params.length k1) (.slice a2 u.headers.length k2);have hlx:=alloc_lt w1 (.cells #[.string ⟨u.scheme.toArray⟩,.string ⟨u.user.toArray⟩,.string ⟨u.host.toArray⟩,.int .i64 u.port,.slice a1 u.params.length k1,.slice a2 u.headers.length k2] 143);have HX:=hid hx;have HP:=hid (hp.alloc (.cells #[.string ⟨u.scheme.toArray⟩,.string ⟨u.user.toArray⟩,.string ⟨u.host.toArray⟩,.int .i64 u.port,.slice a1 u.params.length k1,.slice a2 u.headers.length k2] 143));have HQ:=hid (hq.alloc (.cells #[.string ⟨u.scheme.toArray⟩,.string ⟨u.user.toArray⟩,.string ⟨u.host.toArray⟩,.int .i64 u.port,.slice a1 u.params.length k1,.slice a2 u.headers.length k2] 143));obtain ⟨g0,g1,g2,g3,g4,g5⟩:=hx;clear hp hq hw1 K1;go_wp2_with fail
    refine (K2.out _ _ _ HP.out HQ.out).mono ?_
    rintro e w2 ⟨rfl,hw2⟩;have hb2:=hb1.trans (hw2.mono hb1.size);clear g0 g1 g2 g3 g4 g5;obtain ⟨g0,g1,g2,g3,g4,g5⟩:=HX.out.below hw2 hlx;clear hw2 HP HQ HX hlx;go_wp2;go_ret2;exact ⟨ret_who HV.out,hb2⟩
   ·have HV:=hid (host_no hpv (by rw [hwv]; simp [ht]));have ht2:(t==l)=false:=by simpa using ht
    clear hpv hwv hcz hsm
    go_enter Tryz.func53,Tryz.ntmps53
    go_wp2_with fail
    refine K1.out.mono ?_
    rintro e w1 ⟨a1,k1,a2,k2,rfl,hp,hq,hw1⟩;have hb1:=hw1.alloc hw1.size (.cells #[.string ⟨u.scheme.toArray⟩,.string ⟨u.user.toArray⟩,.string ⟨u.host.toArray⟩,.int .i64 u.port,.slice a1 u.params.length k1,.slice a2 u.headers.length k2] 143);have hx:=box_new w1 u (.slice a1 u.params.length k1) (.slice a2 u.headers.length k2);have HP:=hid (hp.alloc (.cells #[.string ⟨u.scheme.toArray⟩,.string ⟨u.user.toArray⟩,.string ⟨u.host.toArray⟩,.int .i64 u.port,.slice a1 u.params.length k1,.slice a2 u.headers.length k2] 143));have HQ:=hid (hq.alloc (.cells #[.string ⟨u.scheme.toArray⟩,.string ⟨u.user.toArray⟩,.string ⟨u.host.toArray⟩,.int .i64 u.port,.slice a1 u.params.length k1,.slice a2 u.headers.length k2] 143));obtain ⟨g0,g1,g2,g3,g4,g5⟩:=hx;clear hp hq hw1 K1;go_wp2_with fail
    refine (K2.out _ _ _ HP.out HQ.out).mono ?_
    rintro e w2 ⟨rfl,hw2⟩;have hb2:=hb1.trans (hw2.mono hb1.size);clear g0 g1 g2 g3 g4 g5 hw2 HP HQ;go_wp2;go_ret2;exact ⟨ret_who HV.out,hb2⟩
  ·have HV:=hid (host_no hpv (by rw [hwv]; simp [hn]));have hn1:(n != 0)=true:=by simpa using hn
   have hn2:(n==0)=false:=by simpa using hn
   clear hpv hwv hcz hsm
   go_enter Tryz.func53,Tryz.ntmps53
   go_wp2_with fail
   refine K1.out.mono ?_
   rintro e w1 ⟨a1,k1,a2,k2,rfl,hp,hq,hw1⟩;have hb1:=hw1.alloc hw1.size (.cells #[.string ⟨u.scheme.toArray⟩,.string ⟨u.user.toArray⟩,.string ⟨u.host.toArray⟩,.int .i64 u.port,.slice a1 u.params.length k1,.slice a2 u.headers.length k2] 143);have hx:=box_new w1 u (.slice a1 u.params.length k1) (.slice a2 u.headers.length k2);have HP:=hid (hp.alloc (.cells #[.string ⟨u.scheme.toArray⟩,.string ⟨u.user.toArray⟩,.string ⟨u.host.toArray⟩,.int .i64 u.port,.slice a1 u.params.length k1,.slice a2 u.headers.length k2] 143));have HQ:=hid (hq.alloc (.cells #[.string ⟨u.scheme.toArray⟩,.string ⟨u.user.toArray⟩,.string ⟨u.host.toArray⟩,.int .i64 u.port,.slice a1 u.params.length k1,.slice a2 u.headers.length k2] 143));obtain ⟨g0,g1,g2,g3,g4,g5⟩:=hx;clear hp hq hw1 K1;go_wp2_with fail
   refine (K2.out _ _ _ HP.out HQ.out).mono ?_
   rintro e w2 ⟨rfl,hw2⟩;have hb2:=hb1.trans (hw2.mono hb1.size);clear g0 g1 g2 g3 g4 g5 hw2 HP HQ;go_wp2;go_ret2;exact ⟨ret_who HV.out,hb2⟩
 ·have HV:=hid (host_bad hpv her);have he1:(er != 0)=true:=by simpa using her
  have he2:(er==0)=false:=by simpa using her
  clear hpv
  go_enter Tryz.func53,Tryz.ntmps53
  go_wp2_with fail
  refine K1.out.mono ?_
  rintro e w1 ⟨a1,k1,a2,k2,rfl,hp,hq,hw1⟩;have hb1:=hw1.alloc hw1.size (.cells #[.string ⟨u.scheme.toArray⟩,.string ⟨u.user.toArray⟩,.string ⟨u.host.toArray⟩,.int .i64 u.port,.slice a1 u.params.length k1,.slice a2 u.headers.length k2] 143);clear hp hq hw1 K1;go_wp2;go_ret2;exact ⟨ret_who HV.out,hb1⟩
theorem box3 (w:World) (v0 v1 v2:Value) (t:TypeId):RowC3 (w.alloc (.cells #[v0,v1,v2] t)) w.heap.size v0 v1 v2:=(rc_row3 w v0 v1 v2 t).rc3
set_option maxHeartbeats 4000000 in
set_option maxRecDepth 100000 in
theorem rcheck14_any (d:Dc) (ts ns:Value) (w:World) (hsm:SmallD 140737488355328 d) (hen:d.entity.length+4≤1048576) (hts:TusAt w ts d.tuples) (hns:StrsAt w ns d.notes) :
  Calls Tryz.prog 39 #[docV d ts ns] w fun e w'=>e=.returned (.int .i64 (checkD d))∧Below w.heap.size w w':=by
 obtain ⟨en,tl,nl⟩:=d;obtain ⟨_,hz1,hz2,hst,hsn⟩:=hsm;simp only at hz1 hz2 hst hsn hen hts hns;have KH:=hid (fun w'=>refhost_who en w' hen);have hv:checkD ⟨en,tl,nl⟩=if (hostV en).2 ≠ 0∨16 < tl.length∨16 < nl.length then 140 else if (tl.all tupP && (distinctT tl && nl.all noteP))=true then 0 else 140:=rfl
 have hok:(hostV en).2=0 → tl.length≤16 → nl.length≤16 → checkD ⟨en,tl,nl⟩=if (tupsOk tl && nl.all noteP)=true then 0 else 140:=fun h1 h2 h3=>chkD_is h1 h2 h3
 unfold docV
 simp only
 generalize checkD ⟨en,tl,nl⟩=R at hv hok ⊢;obtain ⟨ta,tc,rfl,htc⟩:=hts;obtain ⟨na,nc,rfl,hnc⟩:=hns;have HTC:=hid htc;have HNC:=hid hnc;have HST:=hid hst;have HSN:=hid hsn;obtain ⟨tn,htn⟩:∃ tn,tn=tl.length:=⟨_,rfl⟩
 obtain ⟨nn,hnn⟩:∃ nn,nn=nl.length:=⟨_,rfl⟩
 rw [← htn] at hz1 hv hok ⊢;rw [← hnn] at hz2 hv hok ⊢;have HTN:=hid htn;have HNN:=hid hnn;clear htc hnc hst hsn htn hnn;generalize hostV en=HV at KH hv hok;obtain ⟨hs,he⟩:=HV;simp only at KH hv hok;have hbx:=box3 w (.string ⟨en.toArray⟩) (.slice ta tn tc) (.slice na nn nc) 35;have hbn:Below w.heap.size w (w.alloc (.cells #[.string ⟨en.toArray⟩,.slice ta tn tc,.slice na nn nc] 35)):=(Below.refl _ w).alloc (Nat.le_refl _) _;have hbr:=rc_row3 w (.string ⟨en.toArray⟩) (.slice ta tn tc) (.slice na nn nc) 35;have hlt0:=alloc_lt w (.cells #[.string ⟨en.toArray⟩,.slice ta tn tc,.slice na nn nc] 35);obtain ⟨x0,x1,x2,_,_,_⟩:=hbx;by_cases h1:he=0
 case neg =>
  rw [if_pos (.inl h1)] at hv;have HR:=hid hv;have q1:(he != 0)=true:=by simpa using h1
  clear hv hok h1 HTC HNC HST HSN
  go_enter Tryz.func39,Tryz.ntmps39
  go_wp2_with fail
  generalize World.alloc w _=W0 at x0 x1 x2 hbn hbr hlt0 ⊢;refine (KH.out _).mono ?_
  rintro e w1 ⟨rfl,hw1⟩;go_wp2;go_ret;exact ⟨ret_int HR.out.symm,hbn.trans (hw1.mono hbn.size)⟩
 subst h1;by_cases h2:16 < tn
 ·rw [if_pos (.inr (.inl h2))] at hv;have HR:=hid hv;have q2:(16:Int) < (tn:Int):=by omega
  clear hv hok HTC HNC HST HSN
  go_enter Tryz.func39,Tryz.ntmps39
  go_wp2_with fail
  generalize World.alloc w _=W0 at x0 x1 x2 hbn hbr hlt0 ⊢;refine (KH.out _).mono ?_
  rintro e w1 ⟨rfl,hw1⟩;obtain ⟨y0,y1,y2,_,_,_⟩:=(hbr.below hw1 hlt0).rc3;go_wp2;go_ret;exact ⟨ret_int HR.out.symm,hbn.trans (hw1.mono hbn.size)⟩
 have q2:¬ (16:Int) < (tn:Int):=by omega
 by_cases h3:16 < nn
 ·rw [if_pos (.inr (.inr h3))] at hv;have HR:=hid hv;have q3:(16:Int) < (nn:Int):=by omega
  clear hv hok HTC HNC HST HSN
  go_enter Tryz.func39,Tryz.ntmps39
  go_wp2_with fail
  generalize World.alloc w _=W0 at x0 x1 x2 hbn hbr hlt0 ⊢;refine (KH.out _).mono ?_
  rintro e w1 ⟨rfl,hw1⟩;obtain ⟨y0,y1,y2,_,_,_⟩:=(hbr.below hw1 hlt0).rc3;go_wp2;go_ret;exact ⟨ret_int HR.out.symm,hbn.trans (hw1.mono hbn.size)⟩
 have q3:¬ (16:Int) < (nn:Int):=by omega
 have hR0:=hok rfl (by omega) (by omega);have HBT:Hid (tupsOk tl=false → R=140):=fun h=>by rw [hR0,h]; simp
 have HBN:Hid (nl.all noteP=false → R=140):=fun h=>by rw [hR0,h]; simp
 have HOK:Hid (tupsOk tl=true → nl.all noteP=true → R=0):=fun h h'=>by rw [hR0,h,h']; rfl
 clear hv hok hR0
 go_enter Tryz.func39,Tryz.ntmps39
 go_wp2_with fail
 generalize World.alloc w _=W0 at x0 x1 x2 hbn hbr hlt0 ⊢;refine (KH.out _).mono ?_
 rintro e w1 ⟨rfl,hw1⟩;obtain ⟨y0,y1,y2,_,_,_⟩:=(hbr.below hw1 hlt0).rc3;have hb1:=hbn.trans (hw1.mono hbn.size);have HBR:=hid (hbr.below hw1 hlt0);have hlt1:=Nat.lt_of_lt_of_le hlt0 hw1.size;clear x0 x1 x2 hbn hbr hlt0 KH hw1;go_wp2;clear y0 y1 y2
 go_loopw [5] (fun i wr=>∃ j:Nat,j≤tn∧i=.int .i64 j∧Hid (tupsOk (tl.take j)=true)∧Below w1.heap.size w1 wr) (fun i _=>tn - (intOf i).toNat)
 case atStart=>exact ⟨0,Nat.zero_le _,rfl,show _=_ from rfl,Below.refl _ _⟩
 case round =>
  obtain ⟨j,hjn,rfl,ha,hb⟩:=hrel;have hbw:Below w.heap.size w wr:=hb1.trans (hb.mono hb1.size);obtain ⟨y0,y1,y2,_,_,_⟩:=(HBR.out.below hb hlt1).rc3;by_cases hlt:j < tn
  ·have hjl:j < tl.length:=by have:=HTN.out; omega
   obtain ⟨ad,hao,hab,c⟩:=HTC.out j hjl;subst hao;have c:=c.below hbw hab;obtain ⟨s1,s2,s3,s4⟩:=HST.out tl[j] (List.getElem_mem hjl);have s5:=i64_of s4;have HBad:Hid (tupP tl[j]=false → R=140):=fun h=>HBT.out (tups_bad hjl h);have HTw:Hid (∀ m (hm:m < j),((tl[m]'(by omega)).id==tl[j].id)=true → R=140):=fun m hm h=>HBT.out (tups_twice hjl hm h);have HSn:Hid (tupP tl[j]=true → (tl.take j).all (fun q=>!(q.id==tl[j].id))=true → tupsOk (tl.take (j+1))=true):=fun h1 h2=>tups_snoc hjl ha.out h1 h2;have KI:=hid (fun w'=>ident_list tl[j].id w' s1);have KC:=hid (fun w'=>rtext14_any tl[j].contact w' s2);have KN:=hid (fun w'=>rtext14_any tl[j].note w' s3);have htp:tupP tl[j]=(identP tl[j].id && (textP tl[j].contact && (textP tl[j].note && (decide (-1≤tl[j].prio) && (decide (tl[j].prio≤1000) && (!tl[j].contact.isEmpty || tl[j].prio==-1)))))):=rfl;obtain ⟨W2,hW2⟩:∃ W2,W2=wr.alloc (.cells #[.string ⟨tl[j].id.toArray⟩,.bool tl[j].opn,.string ⟨tl[j].contact.toArray⟩,.int .i64 tl[j].prio,.string ⟨tl[j].note.toArray⟩] 109):=⟨_,rfl⟩
   have hbW:Below w1.heap.size w1 W2:=by rw [hW2]; exact hb.alloc hb.size _
   have hwW:Below w.heap.size w W2:=by rw [hW2]; exact hbw.alloc hbw.size _
   have hrT:RowIs W2 wr.heap.size 109 [.string ⟨tl[j].id.toArray⟩,.bool tl[j].opn,.string ⟨tl[j].contact.toArray⟩,.int .i64 tl[j].prio,.string ⟨tl[j].note.toArray⟩]:=by rw [hW2]; exact rc_row5 _ _ _ _ _ _ _
   have hltT:wr.heap.size < W2.heap.size:=by rw [hW2]; exact alloc_lt _ _
   have HM:Hid (∀ m (hm:m < j),∀ w',Below w.heap.size w w' → w'.cell? (ad.add (m * 5))=some (.string ⟨(tl[m]'(by omega)).id.toArray⟩)):=fun m hm w' hb'=>by
    obtain ⟨ad2,hao2,hab2,c2⟩:=HTC.out m (by omega)
    have:ad2=ad:=(Option.some.inj hao2).symm
    subst this;exact (c2.below hb' hab).c0
   clear HBT ha HST s1 s2 s3 s4 HTC;generalize hTj:tl[j]=T at c HBad HTw HSn KI KC KN htp hW2 hrT s5;obtain ⟨ti,to',tk,tp,tnn⟩:=T;simp only at c KI KC KN htp hW2 hrT HTw HSn s5;obtain ⟨c0,c1,c2,c3,c4⟩:=c;simp only at c0 c1 c2 c3 c4;have q6:(j:Int) < (tn:Int):=by omega
   have HRT:=hid hrT;go_wp2_with fail
   clear c0 c1 c2 c3 c4 y0 y1 y2;rw [← hW2];clear hW2;obtain ⟨b0,b1,b2,b3,b4,_,_,_,_,_⟩:=hrT.rc5;obtain ⟨y0,y1,y2,_,_,_⟩:=(HBR.out.below hbW hlt1).rc3
   cases hidt:identP ti with
   | false =>
    rw [hidt] at KI htp;have hR:=hid (HBad.out (by rw [htp]; rfl));clear HBad HTw HSn htp hidt;refine (KI.out _).mono ?_
    rintro e w' ⟨rfl,hw'⟩; rw [hw']; clear hw' w'
    go_wp2;go_ret;exact ⟨ret_int hR.out.symm,hwW⟩
   | true =>
   rw [hidt,Bool.true_and] at htp;rw [hidt] at KI;refine (KI.out _).mono ?_
   rintro e w' ⟨rfl,hw'⟩; rw [hw']; clear hw' w' KI
   go_wp2_with fail
   cases hct:textP tk with
   | false =>
    rw [hct] at KC htp;have hR:=hid (HBad.out (by rw [htp]; rfl));clear HBad HTw HSn htp hct;refine (KC.out _).mono ?_
    rintro e w' ⟨rfl,hw'⟩; rw [hw']; clear hw' w'
    go_wp2;go_ret;exact ⟨ret_int hR.out.symm,hwW⟩
   | true =>
   rw [hct,Bool.true_and] at htp;rw [hct] at KC;refine (KC.out _).mono ?_
   rintro e w' ⟨rfl,hw'⟩; rw [hw']; clear hw' w' KC
   go_wp2_with fail
   cases hnt:textP tnn with
   | false =>
    rw [hnt] at KN htp;have hR:=hid (HBad.out (by rw [htp]; rfl));clear HBad HTw HSn htp hnt;refine (KN.out _).mono ?_
    rintro e w' ⟨rfl,hw'⟩; rw [hw']; clear hw' w'
    go_wp2;go_ret;exact ⟨ret_int hR.out.symm,hwW⟩
   | true =>
   rw [hnt,Bool.true_and] at htp;rw [hnt] at KN;refine (KN.out _).mono ?_
   rintro e w' ⟨rfl,hw'⟩; rw [hw']; clear hw' w' KN
   by_cases p1:tp < -1
   ·have hR:=hid (HBad.out (by rw [htp,decide_eq_false (by omega)]; rfl));have p1d:decide (tp < -1)=true:=decide_eq_true p1;clear HBad HTw HSn htp;go_wp2;go_ret;exact ⟨ret_int hR.out.symm,hwW⟩
   have p1d:decide (tp < -1)=false:=decide_eq_false p1;rw [decide_eq_true (show -1≤tp by omega),Bool.true_and] at htp;by_cases p2:1000 < tp
   ·have hR:=hid (HBad.out (by rw [htp,decide_eq_false (by omega)]; rfl));have p2d:decide (1000 < tp)=true:=decide_eq_true p2;clear HBad HTw HSn htp;go_wp2;go_ret;exact ⟨ret_int hR.out.symm,hwW⟩
   have p2d:decide (1000 < tp)=false:=decide_eq_false p2;rw [decide_eq_true (show tp≤1000 by omega),Bool.true_and] at htp
   have hpass:(!(tk==[]) || tp==-1)=true → tupP ⟨ti,to',tk,tp,tnn⟩=true:=fun h=>by
    rw [htp]
    cases tk with
    | nil=>simpa using h
    | cons a b=>rfl
   have hfail:(!(tk==[]) || tp==-1)=false → tupP ⟨ti,to',tk,tp,tnn⟩=false:=fun h=>by
    rw [htp]
    cases tk with
    | nil=>simpa using h
    | cons a b=>simp at h
   have HPass:=hid hpass;have HFail:=hid hfail;clear htp hpass hfail;have fin:∀ pe:Bool,(tk==[])=pe → ∀ pm:Bool,(tp==-1)=pm → (!pe || pm)=true → True:=fun _ _ _ _ _=>trivial
   cases p3:(tk==[]) with
   | true =>
    cases p4:(tp==-1) with
    | false =>
     have hR:=hid (HBad.out (HFail.out (by rw [p3,p4]; rfl)));have p4n:(tp != -1)=true:=by rw [bne,p4]; rfl
     clear HBad HTw HSn HPass HFail;go_wp2;go_ret;exact ⟨ret_int hR.out.symm,hwW⟩
    | true =>
     have hT:=hid (HPass.out (by rw [p3,p4]; rfl));have p4n:(tp != -1)=false:=by rw [bne,p4]; rfl
     clear HBad HPass HFail;go_wp2;clear b0 b1 b2 b3 b4 y0 y1 y2
     go_loopw [7] (fun i wr2=>∃ (m q:Nat),m≤j∧i=.int .i64 m∧wr2=W2.drewN q∧Hid ((tl.take m).all (fun q=>!(q.id==ti))=true)) (fun i _=>j - (intOf i).toNat)
     case atStart=>exact ⟨0,0,Nat.zero_le _,rfl,rfl,show _=_ from rfl⟩
     case round =>
      obtain ⟨m,q,hmj,rfl,rfl,hall⟩:=hrel;by_cases hml:m < j
      ·have hmn:m < tl.length:=by omega
       have cm:=HM.out m hml W2 hwW;have HT2:=hid (HTw.out m hml);have hsn:Hid ((tl[m].id==ti)=false → (tl.take (m+1)).all (fun q=>!(q.id==ti))=true):=fun h=>by rw [List.take_succ_eq_append_getElem hmn,List.all_append,hall.out]; simp [h]
       have q7:(m:Int) < (j:Int):=by omega
       have q8:(m:Int) < (tn:Int):=by omega
       obtain ⟨b0,b1,b2,b3,b4,_,_,_,_,_⟩:=HRT.out.rc5;obtain ⟨y0,y1,y2,_,_,_⟩:=(HBR.out.below hbW hlt1).rc3;clear HTw HSn hall HM;generalize tl[m].id=mi at cm HT2 hsn
       cases hcmp:(mi==ti) with
       | true =>
        have hR:=hid (HT2.out hcmp);clear HT2 hsn;go_wp2
        go_quiet (fail)
        go_wp2;go_ret;exact ⟨ret_int hR.out.symm,by first | exact hwW.trans (below_drewN _ _ |>.mono hwW.size) | (rw [World.drewN_drewN]; exact hwW.trans (below_drewN _ _ |>.mono hwW.size))⟩
       | false =>
        have hall2:=hid (hsn.out hcmp);clear HT2 hsn;go_wp2
        go_quiet (fail)
        go_wp2;go_roundw
        case rel=>exact ⟨m+1,q+nq,by omega,by go_num,by first | rfl | rw [World.drewN_drewN],hall2⟩
        case measure=>simp [intOf]; omega
      ·have hmj2:m=j:=by omega
       subst hmj2;have hN:=hid (HSn.out hT.out hall.out);clear HTw HSn hall HM hT;go_wp2;go_roundw
       case rel=>exact ⟨m+1,by omega,by go_num,hN,hbW.trans (below_drewN _ _ |>.mono hbW.size)⟩
       case measure=>simp [intOf]; omega
   | false =>
    have hT:=hid (HPass.out (by rw [p3]; rfl));clear HBad HPass HFail;go_wp2;clear b0 b1 b2 b3 b4 y0 y1 y2
    go_loopw [7] (fun i wr2=>∃ (m q:Nat),m≤j∧i=.int .i64 m∧wr2=W2.drewN q∧Hid ((tl.take m).all (fun q=>!(q.id==ti))=true)) (fun i _=>j - (intOf i).toNat)
    case atStart=>exact ⟨0,0,Nat.zero_le _,rfl,rfl,show _=_ from rfl⟩
    case round =>
     obtain ⟨m,q,hmj,rfl,rfl,hall⟩:=hrel;by_cases hml:m < j
     ·have hmn:m < tl.length:=by omega
      have cm:=HM.out m hml W2 hwW;have HT2:=hid (HTw.out m hml);have hsn:Hid ((tl[m].id==ti)=false → (tl.take (m+1)).all (fun q=>!(q.id==ti))=true):=fun h=>by rw [List.take_succ_eq_append_getElem hmn,List.all_append,hall.out]; simp [h]
      have q7:(m:Int) < (j:Int):=by omega
      have q8:(m:Int) < (tn:Int):=by omega
      obtain ⟨b0,b1,b2,b3,b4,_,_,_,_,_⟩:=HRT.out.rc5;obtain ⟨y0,y1,y2,_,_,_⟩:=(HBR.out.below hbW hlt1).rc3;clear HTw HSn hall HM;generalize tl[m].id=mi at cm HT2 hsn
      cases hcmp:(mi==ti) with
      | true =>
       have hR:=hid (HT2.out hcmp);clear HT2 hsn;go_wp2
       go_quiet (fail)
       go_wp2;go_ret;exact ⟨ret_int hR.out.symm,by first | exact hwW.trans (below_drewN _ _ |>.mono hwW.size) | (rw [World.drewN_drewN]; exact hwW.trans (below_drewN _ _ |>.mono hwW.size))⟩
      | false =>
       have hall2:=hid (hsn.out hcmp);clear HT2 hsn;go_wp2
       go_quiet (fail)
       go_wp2;go_roundw
       case rel=>exact ⟨m+1,q+nq,by omega,by go_num,by first | rfl | rw [World.drewN_drewN],hall2⟩
       case measure=>simp [intOf]; omega
     ·have hmj2:m=j:=by omega
      subst hmj2;have hN:=hid (HSn.out hT.out hall.out);clear HTw HSn hall HM hT;go_wp2;go_roundw
      case rel=>exact ⟨m+1,by omega,by go_num,hN,hbW.trans (below_drewN _ _ |>.mono hbW.size)⟩
      case measure=>simp [intOf]; omega
  ·have hjt:j=tn:=by omega
   subst hjt;have HT0:Hid (tupsOk tl=true):=show _=_ by have:=ha.out; rwa [List.take_of_length_le (by have:=HTN.out; omega)] at this
   clear ha HTC HST HBT;have q6:¬ (j:Int) < (j:Int):=by omega
   have HY:=hid (show w1.heap.size≤wr.heap.size from hb.size);go_wp2;clear y0 y1 y2
   go_loopw [8] (fun i wr2=>∃ m:Nat,m≤nn∧i=.int .i64 m∧wr2=wr∧Hid ((nl.take m).all noteP=true)) (fun i _=>nn - (intOf i).toNat)
   case atStart=>exact ⟨0,Nat.zero_le _,rfl,rfl,show _=_ from rfl⟩
   case round =>
    obtain ⟨m,hmn,rfl,rfl,hall⟩:=hrel;obtain ⟨y0,y1,y2,_,_,_⟩:=(HBR.out.below hb hlt1).rc3;by_cases hml:m < nn
    ·have hmt:m < nl.length:=by have:=HNN.out; omega
     obtain ⟨ad,hao,hab,c⟩:=HNC.out m hmt;subst hao;have c:=cell_below hbw (by rw [add_block]; exact hab) c;have s1:=HSN.out nl[m] (List.getElem_mem hmt);have KT:=hid (fun w'=>rtext14_any nl[m] w' s1);have HB:Hid (noteP nl[m]=false → R=140):=fun h=>HBN.out (by rw [List.all_eq_false]; exact ⟨nl[m],List.getElem_mem hmt,by rw [h]; simp⟩);have HS:Hid (noteP nl[m]=true → (nl.take (m+1)).all noteP=true):=fun h=>by rw [List.take_succ_eq_append_getElem hmt,List.all_append,hall.out]; simp [h]
     have hnp:noteP nl[m]=(!(nl[m].isEmpty) && textP nl[m]):=rfl;have q7:(m:Int) < (nn:Int):=by omega
     clear HNC HSN HBN hall HOK;generalize nl[m]=S at c KT HB HS hnp
     cases hS:S with
     | nil =>
      subst hS;have hR:=hid (HB.out (by rw [hnp]; rfl));clear HB HS hnp;go_wp2;go_ret;exact ⟨ret_int hR.out.symm,hbw⟩
     | cons x y =>
      have pe:(S==[])=false:=by rw [hS]; rfl
      have hie:S.isEmpty=false:=by rw [hS]; rfl
      rw [hie] at hnp
      cases htx:textP S with
      | false =>
       rw [htx] at KT hnp;have hR:=hid (HB.out (by rw [hnp]; rfl));clear HB HS hnp hS hie htx;go_wp2_with (go_at_call 55; refine (KT.out _).mono ?_; rintro e w' ⟨rfl,hw'⟩; rw [hw']; clear hw' w')
       go_ret;exact ⟨ret_int hR.out.symm,hbw⟩
      | true =>
       rw [htx] at KT hnp;have hN:=hid (HS.out (by rw [hnp]; rfl));clear HB HS hnp hS hie htx;go_wp2_with (go_at_call 55; refine (KT.out _).mono ?_; rintro e w' ⟨rfl,hw'⟩; rw [hw']; clear hw' w')
       go_roundw
       case rel=>exact ⟨m+1,by omega,by go_num,by first | rfl | trivial,hN⟩
       case measure=>simp [intOf]; omega
    ·have q7:¬ (m:Int) < (nn:Int):=by omega
     have hR:=hid (HOK.out HT0.out (by have:=hall.out; rwa [List.take_of_length_le (by have:=HNN.out; omega)] at this));clear HNC HSN HBN hall HOK;go_wp2;go_ret;exact ⟨ret_int hR.out.symm,hbw⟩
end Go.Proofs.YteicmbhilambpaaGreatDoor
namespace Go.Proofs.YteicmbhilambpaaGreatDoor
open Go.RowKit Go.Maps Go.WideMaps Sc
def smallA (a:Pa):Bool:=decide (a.doc.tuples.length≤40) && decide (a.doc.notes.length≤40) && decide (a.doc.entity.length≤500)
set_option maxHeartbeats 1000000 in
set_option maxRecDepth 100000 in
theorem small16_any (w:World) (a:Pa) {ta na:Option Addr} {tc nc:Nat} (h1:a.doc.entity.length≤281474976710656) :
  Calls Tryz.prog 13 #[askV a (.slice ta a.doc.tuples.length tc) (.slice na a.doc.notes.length nc)] w fun e w'=>e=.returned (.bool (smallA a))∧Below w.heap.size w w':=by
 have r5:RowIs (w.alloc (.cells #[.string ⟨a.who.toArray⟩,.string ⟨a.mt.toArray⟩,.int .i64 a.exp,.bool a.has,.string ⟨a.doc.entity.toArray⟩,.slice ta a.doc.tuples.length tc,.slice na a.doc.notes.length nc,.string ⟨a.tag.toArray⟩] 37)) w.heap.size 37 (pskL a (.slice ta a.doc.tuples.length tc) (.slice na a.doc.notes.length nc)):=by unfold RowIs; rw [heap_alloc_new]; rfl
 have b1:Below w.heap.size w (w.alloc (.cells #[.string ⟨a.who.toArray⟩,.string ⟨a.mt.toArray⟩,.int .i64 a.exp,.bool a.has,.string ⟨a.doc.entity.toArray⟩,.slice ta a.doc.tuples.length tc,.slice na a.doc.notes.length nc,.string ⟨a.tag.toArray⟩] 37)):=(Below.refl _ w).alloc (Nat.le_refl _) _;unfold smallA
 cases k1:decide (a.doc.tuples.length≤40) <;> cases k2:decide (a.doc.notes.length≤40) <;> cases k3:decide (a.doc.entity.length≤500)
 all_goals (
  have j1:=k1;have j2:=k2;have j3:=k3;simp only [decide_eq_true_eq,decide_eq_false_iff_not] at j1 j2 j3;have i1:decide ((a.doc.tuples.length:Int)≤40)=decide (a.doc.tuples.length≤40):=by rw [decide_eq_decide]; omega
  have i2:decide ((a.doc.notes.length:Int)≤40)=decide (a.doc.notes.length≤40):=by rw [decide_eq_decide]; omega
  have i3:decide ((a.doc.entity.length:Int)≤500)=decide (a.doc.entity.length≤500):=by rw [decide_eq_decide]; omega
  rw [k1] at i1;rw [k2] at i2;rw [k3] at i3;clear k1 k2 k3
  go_enter Tryz.func13,Tryz.ntmps13
  unfold askV
  go_upto_region 1 with fail
  generalize World.alloc _ _=w1 at r5 b1 ⊢;obtain ⟨a0,a1,a2,a3,a4,a5,a6,a7⟩:=bgA_ofR r5;go_wp2;go_ret;exact ⟨by simp,b1⟩)
end Go.Proofs.YteicmbhilambpaaGreatDoor
namespace Go.Proofs.YteicmbhilambpaaGreatDoor
open Go.RowKit Go.ChangeShapes Go.WideShapes Go.Deep
theorem DocPa.below {w w':World} {d:Dc} {ts ns:Value} (h:DocPa w d ts ns) (hb:Below w.heap.size w w'):DocPa w' d ts ns:=⟨h.t.below hb,h.n.below hb,h.c⟩
section
variable {H : Type} {enc : TypeId × Value → H} {W : World} {sp : Nat → Bool}
def AcsAt (w:World) (v:Value) (cs:List AcP):Prop :=
 ∃ (ao:Option Addr) (cap:Nat),v=.slice ao cs.length cap∧∀ k (hk:k < cs.length),∃ ad,ao=some ad∧ad.block < w.heap.size∧∀ (j:Nat) (u:Value),(acpCells cs[k])[j]? = some u → w.cell? (if j=0 then ad.add (k * 10) else ⟨(ad.add (k * 10)).block,(ad.add (k * 10)).off+j,none⟩)=some u
theorem AcsAt.below {w w':World} {v:Value} {cs:List AcP} (h:AcsAt w v cs) (hb:Below w.heap.size w w'):AcsAt w' v cs:=by
 obtain ⟨ao,cap,hv,hc⟩:=h;refine ⟨ao,cap,hv,fun k hk=>?_⟩
 obtain ⟨ad,e,hlt,hcell⟩:=hc k hk;refine ⟨ad,e,Nat.lt_of_lt_of_le hlt hb.size,fun j u hj=>cell_below hb ?_ (hcell j u hj)⟩
 split <;> simp only [add_block] <;> exact hlt
theorem open_acps {fuel:Nat} {cs:List Value} {x:DataW H × List MemPlace} (h:DataW.trod enc Tryz.prog W 0 sp true fuel 24 cs=some x) :
  ∃ (v:Value) (al:List AcP),cs=[v]∧AcsAt W v al∧(∀ c ∈ al,DocPa W c.a.doc c.ts c.ns∧(∀ t ∈ c.a.doc.tuples,(Lit.int .i64 t.prio).wf=true)∧(Lit.int .i64 c.a.exp).wf=true∧(Lit.int .i64 c.now).wf=true)∧((x.1=.nil∧al=[])∨∃ ds sp,x.1=.slice ds sp∧ds.length=al.length∧∀ k (hk:k < al.length) (hd:k < ds.length),AcD ds[k] al[k]):=by
 rcases open_slice Tryz.underlying24 h with ⟨rfl,rfl⟩ | ⟨a,len,cap,m,n,D,Pl,rfl,_,hlc,hcm,hm,rfl,hall⟩
 ·exact ⟨_,[],rfl,⟨none,0,rfl,fun k hk=>by simp at hk⟩,fun c hc=>by simp at hc,Or.inl ⟨rfl,rfl⟩⟩
 ·have hlm:len≤m:=by rw [hm]; split <;> omega
  have each:∀ i,i < len → ∃ c:AcP,AcD (D i) c∧(DocPa W c.a.doc c.ts c.ns∧(∀ t ∈ c.a.doc.tuples,(Lit.int .i64 t.prio).wf=true)∧(Lit.int .i64 c.a.exp).wf=true∧(Lit.int .i64 c.now).wf=true)∧(a.block < W.heap.size∧∀ (j:Nat) (u:Value),(acpCells c)[j]? = some u → W.cell? (if j=0 then a.add (i * 10) else ⟨(a.add (i * 10)).block,(a.add (i * 10)).off+j,none⟩)=some u):=by
   intro i hi;obtain ⟨cs',h1,h2⟩:=hall i (by omega);obtain ⟨c,rfl,hat,hd,hw1,hw2,hw3⟩:=open_acp h2;rw [cellsActP] at h1;obtain ⟨_,_,hc⟩:=World.cells?_some h1;have c0:=hc 0 (by omega);have hc0:W.cell? (a.add (i * 10))=some (.bool c.expire):=by simpa [Addr.add,acpCells] using c0
   refine ⟨c,hd,⟨hat,hw1,hw2,hw3⟩,?_,?_⟩
   ·have:(a.add (i * 10)).block < W.heap.size:=by
     unfold World.cell? at hc0
     cases hh:W.heap[(a.add (i * 10)).block]? with
     | none=>simp [hh] at hc0
     | some o=>exact (Array.getElem?_eq_some_iff.1 hh).1
    rwa [add_block] at this
   ·intro j u hj;have hj8:j < 10:=by have:=(List.getElem?_eq_some_iff.1 hj).1; simpa [acpCells,askL] using this
    by_cases j0:j=0
    ·subst j0;rw [if_pos rfl,hc0,← hj]; rfl
    ·rw [if_neg j0];have cj:=hc j hj8;rw [hj] at cj;rw [← cj]
     simp [Addr.add,j0]
  obtain ⟨f,hf⟩:=@choose_lt AcP ⟨⟨false,0,⟨[],[],0,false,⟨[],[],[]⟩,[]⟩,.nilIface,.nilIface⟩⟩ len _ each;refine ⟨_,(List.range len).map f,rfl,⟨some a,cap,by simp,fun k hk=>?_⟩,fun c hc=>?_,Or.inr ⟨(List.range len).map D,_,rfl,by simp,fun k hk hd=>?_⟩⟩
  ·simp at hk
   refine ⟨a,rfl,?_⟩
   simpa using (hf k hk).2.2
  ·simp only [List.mem_map,List.mem_range] at hc;obtain ⟨k,hk,rfl⟩:=hc;exact (hf k hk).2.1
  ·simp at hk
   simpa using (hf k hk).1
theorem bytesActP:1≤Tryz.prog.bytesOf 39:=of_decide_eq_true (by kernel_rfl)
def PaIn (B:Nat) (W:World) (v:Value):Prop:=∃ (a:Pa) (ts ns:Value),v=askV a ts ns∧DocPa W a.doc ts ns∧SmallPa B a
def AcpsIn (B:Nat) (W:World) (v:Value):Prop:=∃ cs:List AcP,AcsAt W v cs∧cs.length≤B∧∀ x ∈ cs,DocPa W x.a.doc x.ts x.ns∧SmallPa B x.a∧(Lit.int .i64 x.now).wf=true
theorem pask_said {B:Nat} {r:Reach} {b0:Nat} {v:Value} {d:DataW H} {p:List MemPlace} (hv:Value.okWide Tryz.prog W r b0 37 v) (h:DataW.Trod enc Tryz.prog W 0 sp true 37 v d p)
  (hz:∀ n ∈ d.weights Tryz.prog 37,n≤B):PaIn B W v:=by
 obtain ⟨cs,rfl,hsz⟩:=okWide_struct Tryz.underlying37 hv;obtain ⟨fuel,hf0⟩:=h;obtain ⟨a,ts,ns,hc,hat,hd,hw,he⟩:=open_pa hf0;obtain ⟨l⟩:=cs;simp only [Value.cells] at hc;refine ⟨a,ts,ns,?_,hat,paD_said hd hw he hz⟩
 simp only [askV]
 congr 1
 apply Array.toList_inj.1
 rw [hc]; rfl
theorem pacts_said {B:Nat} {r:Reach} {b0:Nat} {v:Value} {d:DataW H} {p:List MemPlace} (hv:Value.okWide Tryz.prog W r b0 24 v) (h:DataW.Trod enc Tryz.prog W 0 sp true 24 v d p)
  (hz:∀ n ∈ d.weights Tryz.prog 24,n≤B):AcpsIn B W v:=by
 obtain ⟨a,len,cap,rfl⟩:=okWide_slice Tryz.underlying24 hv;obtain ⟨fuel,hf0⟩:=h;obtain ⟨v',al,hc,hat,hwf,hd⟩:=open_acps hf0
 simp [Value.cells] at hc
 subst hc;refine ⟨al,hat,?_⟩
 rcases hd with ⟨_,rfl⟩ | ⟨ds,sp,hd,hl,hk⟩
 ·simp
 ·simp only at hd;subst hd;simp only [DataW.weights,Tryz.underlying24] at hz;refine ⟨?_,fun c hc=>?_⟩
  ·rw [← hl]; exact len_said (sp:=sp) bytesActP (hz _ (List.mem_cons_self ..))
  ·obtain ⟨k,hk',rfl⟩:=List.getElem_of_mem hc;obtain ⟨w1,w2,w3,w4⟩:=hwf _ hc;exact ⟨w1,acD_said (hk k hk' (by omega)) w2 w3 fun n hn=>hz n (List.mem_cons_of_mem _ (List.mem_append.2 (Or.inl (weights_all ds k (by omega) n hn)))),w4⟩
end
end Go.Proofs.YteicmbhilambpaaGreatDoor
namespace Go.Proofs.YteicmbhilambpaaGreatDoor
open Go.RowKit Sc
theorem followsU:Tryz.prog.follows .mixedOrders=true:=by kernel_rfl
structure RC where
 iA:Nat
 iB:Nat
 i6:Nat
 i7:Nat
 iZ:Nat
 dA:Nat
 dB:Nat
 lo:Nat
 hi:Nat
 a0:Act
 T:List (Nat × Nat × Value)
structure RC.Ok (c:RC):Prop where
 r0:8 < c.lo
 r1:c.hi≤208
 r2:c.lo≤c.dA∧c.dA < c.hi
 r3:c.lo≤c.dB∧c.dB < c.hi
 r4:c.dA ≠ c.dB
 r5:c.iA ≠ c.iB∧c.iA ≠ c.i6∧c.iA ≠ c.i7∧c.iA ≠ c.iZ
 r6:c.iB ≠ c.i6∧c.iB ≠ c.i7∧c.iB ≠ c.iZ
 r7:c.i6 ≠ c.i7∧c.i6 ≠ c.iZ∧c.i7 ≠ c.iZ
 r8:∀ e ∈ c.T,(e.1 ≠ c.iA∧e.1 ≠ c.iB∧e.1 ≠ c.i6∧e.1 ≠ c.i7∧e.1 ≠ c.iZ)∧e.2.1 ≠ c.dA∧e.2.1 ≠ c.dB∧e.2.1 ≠ 8
structure InvD (k:KD) (c:RC) (L:Array Bool) (a:Act) (w:World):Prop where
 sz:a.tmps.size=208
 df:a.defers=[]
 out:∀ s,(s < c.lo∨c.hi≤s) → s ≠ 8 → a.eval (.tmp s)=c.a0.eval (.tmp s)
 t8:L.getD c.iZ false=true → a.eval (.tmp 8)=.int .i64 0
 tab:TabOk c.T L a
 dyn:DynD k (L.getD c.iA false) (L.getD c.iB false) (L.getD c.i6 false) (L.getD c.i7 false) (a.eval (.tmp c.dA)) (a.eval (.tmp c.dB)) w
section
variable {k : KD} {c : RC} {L : Array Bool} {a : Act} {w w' : World}
theorem InvD.quiet (h:InvD k c L a w) (hc:c.Ok) (i d:Nat) (v:Value) (hi:i ≠ c.iA∧i ≠ c.iB∧i ≠ c.i6∧i ≠ c.i7∧i ≠ c.iZ) (hd:c.lo≤d∧d < c.hi∧d ≠ c.dA∧d ≠ c.dB)
  (hT:∀ e ∈ c.T,(e.2.1=d∧e.2.2=v)∨(e.1 ≠ i∧e.2.1 ≠ d)):InvD k c (L.setIfInBounds i true) (a.put (some d) v) w:=by
 obtain ⟨i1,i2,i3,i4,i5⟩:=hi;obtain ⟨d1,d2,d3,d4⟩:=hd;have r0:=hc.r0;have r1:=hc.r1;refine ⟨by rw [put_size]; exact h.sz,by rw [put_defers]; exact h.df,fun s hs h8=>by rw [eval_put_ne (by omega)]; exact h.out s hs h8,fun hl=>?_,h.tab.put (by rw [h.sz]; omega) hT,?_⟩
 ·rw [getD_set_ne (Ne.symm i5)] at hl;rw [eval_put_ne (by omega)]; exact h.t8 hl
 ·rw [getD_set_ne (Ne.symm i1),getD_set_ne (Ne.symm i2),getD_set_ne (Ne.symm i3),getD_set_ne (Ne.symm i4),eval_put_ne (Ne.symm d3),eval_put_ne (Ne.symm d4)];exact h.dyn
theorem InvD.sA (h:InvD k c L a w) (hk:k.Ok) (hc:c.Ok) (hL:c.iA < L.size) (h0:L.getD c.iA false=false) {v':Value} (ho:OwnPb w' k.B v' (k.L0++k.R0)) (hg:w.grownBy w' k.v13.ownBlock):InvD k c (L.setIfInBounds c.iA true) (a.put (some c.dA) v') w':=by
 obtain ⟨i2,i3,i4,i5⟩:=hc.r5;have r0:=hc.r0;have r1:=hc.r1;have r2:=hc.r2;refine ⟨by rw [put_size]; exact h.sz,by rw [put_defers]; exact h.df,fun s hs h8=>by rw [eval_put_ne (by omega)]; exact h.out s hs h8,fun hl=>?_,h.tab.put (by rw [h.sz]; omega) (fun e he=>.inr ⟨(hc.r8 e he).1.1,(hc.r8 e he).2.1⟩),?_⟩
 ·rw [getD_set_ne (Ne.symm i5)] at hl;rw [eval_put_ne (by omega)]; exact h.t8 hl
 ·rw [getD_set_same hL,getD_set_ne (Ne.symm i2),getD_set_ne (Ne.symm i3),getD_set_ne (Ne.symm i4),eval_put_same (by rw [h.sz]; omega),eval_put_ne (Ne.symm hc.r4)];exact h.dyn.app hk h0 ho hg
theorem InvD.sB (h:InvD k c L a w) (hc:c.Ok) (hL:c.iB < L.size) (hA:L.getD c.iA false=true):InvD k c (L.setIfInBounds c.iB true) (a.put (some c.dB) (stoV k.S (a.eval (.tmp c.dA)))) w:=by
 obtain ⟨i3,i4,i5⟩:=hc.r6;have r0:=hc.r0;have r1:=hc.r1;have r2:=hc.r3;refine ⟨by rw [put_size]; exact h.sz,by rw [put_defers]; exact h.df,fun s hs h8=>by rw [eval_put_ne (by omega)]; exact h.out s hs h8,fun hl=>?_,h.tab.put (by rw [h.sz]; omega) (fun e he=>.inr ⟨(hc.r8 e he).1.2.1,(hc.r8 e he).2.2.1⟩),?_⟩
 ·rw [getD_set_ne (Ne.symm i5)] at hl;rw [eval_put_ne (by omega)]; exact h.t8 hl
 ·rw [getD_set_same hL,getD_set_ne hc.r5.1,getD_set_ne (Ne.symm i3),getD_set_ne (Ne.symm i4),eval_put_same (by rw [h.sz]; omega),eval_put_ne hc.r4];exact h.dyn.bld hA
theorem InvD.s6 (h:InvD k c L a w) (hk:k.Ok) (hc:c.Ok) (hL:c.i6 < L.size) (hB:L.getD c.iB false=true) (h0:L.getD c.i6 false=false):InvD k c (L.setIfInBounds c.i6 true) a ((((((((((w.setCell ⟨k.b6,0,none⟩ (.string ⟨k.S.c.host.toArray⟩)).setCell ⟨k.b6,1,none⟩ (.int .i64 k.S.c.calls)).setCell ⟨k.b6,2,none⟩ (.int .i64 k.S.c.pubs)).setCell ⟨k.b6,3,none⟩ (.int .i64 k.S.c.subs)).setCell ⟨k.b6,4,none⟩ (.int .i64 k.S.c.least)).setCell ⟨k.b6,5,none⟩ (.int .i64 k.S.c.most)).setCell ⟨k.b6,6,none⟩ (.int .i64 k.S.c.usual)).setCell ⟨k.b6,7,none⟩ (.int .i64 k.S.last)).setCell ⟨k.b6,8,none⟩ (a.eval (.tmp c.dA)))):=by
 refine ⟨h.sz,h.df,h.out,fun hl=>h.t8 (by rwa [getD_set_ne (Ne.symm hc.r7.2.1)] at hl),h.tab.skip (fun e he=>(hc.r8 e he).1.2.2.1),?_⟩
 rw [getD_set_same hL,getD_set_ne hc.r5.2.1,getD_set_ne hc.r6.1,getD_set_ne (Ne.symm hc.r7.1)];exact h.dyn.s6 hk hB h0
theorem InvD.s7 (h:InvD k c L a w) (hk:k.Ok) (hc:c.Ok) (hL:c.i7 < L.size) (h0:L.getD c.i7 false=false):InvD k c (L.setIfInBounds c.i7 true) a ((((w.setCell ⟨k.b7,0,none⟩ (.int .i64 k.T.status)).setCell ⟨k.b7,1,none⟩ (.int .i64 k.T.expires)).setCell ⟨k.b7,2,none⟩ (.string ⟨k.T.tag.toArray⟩)).setCell ⟨k.b7,3,none⟩ (.bool k.T.changed)):=by
 refine ⟨h.sz,h.df,h.out,fun hl=>h.t8 (by rwa [getD_set_ne (Ne.symm hc.r7.2.2)] at hl),h.tab.skip (fun e he=>(hc.r8 e he).1.2.2.2.1),?_⟩
 rw [getD_set_same hL,getD_set_ne hc.r5.2.2.1,getD_set_ne hc.r6.2.1,getD_set_ne hc.r7.1];exact h.dyn.s7 hk h0
theorem InvD.sZ (h:InvD k c L a w) (hc:c.Ok):InvD k c (L.setIfInBounds c.iZ true) (a.put (some 8) (.int .i64 0)) w:=by
 have r0:=hc.r0;have r2:=hc.r2;have r3:=hc.r3;refine ⟨by rw [put_size]; exact h.sz,by rw [put_defers]; exact h.df,fun s hs h8=>by rw [eval_put_ne h8]; exact h.out s hs h8,fun _=>eval_put_same (by rw [h.sz]; decide),h.tab.put (by rw [h.sz]; decide) (fun e he=>.inr ⟨(hc.r8 e he).1.2.2.2.2,(hc.r8 e he).2.2.2⟩),?_⟩
 rw [getD_set_ne hc.r5.2.2.2,getD_set_ne hc.r6.2.2,getD_set_ne hc.r7.2.1,getD_set_ne hc.r7.2.2,eval_put_ne (by omega),eval_put_ne (by omega)];exact h.dyn
end
def pbEnd (ad:Addr) (n cap i:Nat):Value:=.slice (if cap=i+1 then some ad else some (ad.add ((i+1) * 7))) (n - (i+1)) (cap - (i+1))
end Go.Proofs.YteicmbhilambpaaGreatDoor
