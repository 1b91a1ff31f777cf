/-
  RefWho, PR4, CpU, CpT, CpV.
-/
import Derived.Test.YtldkidljjbkmbaaGreatDoorPX17
import Derived.Test.YtldkidljjbkmbaaGreatDoorPA31
set_option linter.unusedVariables false
set_option linter.unusedSimpArgs false
set_option maxRecDepth 20000
namespace Go.Proofs.YtldkidljjbkmbaaGreatDoor
open Go.RowKit Sc
set_option maxHeartbeats 1000000 in
set_option maxRecDepth 100000 in
theorem refwho_any (u:Uri) (p h:Value) (w:World) (hsm:SmallU 140737488355328 u) (hp:ParsAt w p u.params) (hh:ParsAt w h u.headers) :
  Calls Tryz.prog 60 #[uriV u p h] w fun e w'=>e=.returned (.tuple #[.string ⟨(whoV u).1.toArray⟩,.int .i64 (whoV u).2])∧Below w.heap.size w w':=by
 have hbox:=box_new w u p h;have hbw:Below w.heap.size w (w.alloc (.cells #[.string ⟨u.scheme.toArray⟩,.string ⟨u.user.toArray⟩,.string ⟨u.host.toArray⟩,.int .i64 u.port,p,h] 97)):=(Below.refl _ w).alloc (Nat.le_refl _) _;have hws:=alloc_lt w (.cells #[.string ⟨u.scheme.toArray⟩,.string ⟨u.user.toArray⟩,.string ⟨u.host.toArray⟩,.int .i64 u.port,p,h] 97);have K1:=hid (fun w' (hb:Below w.heap.size w w')=>refcheck_any u p h w' hsm (hp.below hb) (hh.below hb));obtain ⟨a1,c1,rfl⟩:=hp.form;obtain ⟨a2,c2,rfl⟩:=hh.form;have hul:checkV u=0 → u.user.length≤64∧u.host.length≤64:=fun h=>⟨(check_ok h).2.1,(hostB_ok (check_ok h).2.2.1).2⟩
 have hwv:whoV u=whoV u:=rfl
 conv at hwv=>rhs; unfold whoV
 have hwt:Hid ((ByteArray.mk (escL usersK u.user).toArray++⟨#[64]⟩)++⟨u.host.toArray⟩=⟨(whoT u).toArray⟩):=show _=_ by rw [whoT,← appL,← appL]
 obtain ⟨n,hn⟩:∃ n,checkV u=n:=⟨_,rfl⟩
 rw [hn] at K1 hwv hul;clear hn hp hh hsm;unfold uriV at K1 ⊢;by_cases e1:n=0
 ·subst e1;obtain ⟨hu64,hh64⟩:=hul rfl;have hel:=escL_len usersK u.user;have hl1:¬ 9223372036854775807 < (escL usersK u.user).length+1:=by omega
  have hl2:¬ 9223372036854775807 < (escL usersK u.user).length+1+u.host.length:=by omega
  rw [if_neg (by simp)] at hwv;by_cases eu:u.user=[]
  ·have hue:u.user.isEmpty=true:=by simp [eu]
   rw [if_pos eu] at hwv;have HV:=hid hwv;clear hwv eu hul
   go_enter Tryz.func60,Tryz.ntmps60
   go_wp2_with fail
   refine (K1.out _ hbw).mono ?_
   rintro e w2 ⟨rfl,hw2⟩;have hb2:=hbw.trans (hw2.mono hbw.size);obtain ⟨g0,g1,g2,g3,g4,g5⟩:=hbox.below hw2 hws;clear hbox hbw hws hw2;go_wp2;go_ret2;exact ⟨ret_who HV.out,hb2⟩
  ·have hue:u.user.isEmpty=false:=by simpa using eu
   rw [if_neg eu] at hwv;have HV:=hid hwv;have K3:=hid (fun w'=>refesc_list u.user usersK w' (by omega) (by decide));clear hwv eu hul
   go_enter Tryz.func60,Tryz.ntmps60
   go_wp2_with fail
   refine (K1.out _ hbw).mono ?_
   rintro e w2 ⟨rfl,hw2⟩;have hacc:=(hbw.trans (hw2.mono hbw.size)).drew;have hlt:w.heap.size < w2.drew.heap.size:=Nat.lt_of_lt_of_le hws hw2.size;obtain ⟨q0,q1,q2,q3,q4,q5⟩:=hbox.below hw2 hws;have hbx:Hid (BoxU w2.drew w.heap.size u (.slice a1 u.params.length c1) (.slice a2 u.headers.length c2)):=⟨q0,q1,q2,q3,q4,q5⟩
   obtain ⟨g0,g1,g2,g3,g4,g5⟩:=hbx.out;clear hbox hbw hws hw2;go_wp2
   go_region_law (go_simp; go_at_call 94; refine (K3.out _).mono ?_; rintro e w3 ⟨rfl,hw3⟩; replace hbx:=hid (hbx.out.below hw3 hlt); replace hacc:=hacc.trans (hw3.mono hacc.size); obtain ⟨g0,g1,g2,g3,g4,g5⟩:=hbx.out; clear hw3)
   all_goals (
    try go_simp
    go_wp2;rw [hwt.out];go_ret2;exact ⟨ret_who HV.out,hacc⟩)
 ·have e1a:(n != 0)=true:=by simpa using e1
  have e1b:(n==0)=false:=by simpa using e1
  rw [if_pos e1] at hwv;have HV:=hid hwv;clear hwv hul
  go_enter Tryz.func60,Tryz.ntmps60
  go_wp2_with fail
  refine (K1.out _ hbw).mono ?_
  rintro e w2 ⟨rfl,hw2⟩;have hb2:=hbw.trans (hw2.mono hbw.size);obtain ⟨g0,g1,g2,g3,g4,g5⟩:=hbox.below hw2 hws;clear hbox hbw hws hw2;go_wp2_with fail
  refine (K1.out _ hb2).mono ?_
  rintro e w3 ⟨rfl,hw3⟩;have hb3:=hb2.trans (hw3.mono hb2.size);clear g0 g1 g2 g3 g4 g5 hw3;go_wp2;go_ret2;exact ⟨ret_who HV.out,hb3⟩
theorem refparse4 {l:List UInt8} {u:Uri} {er:Int} (h:parseV ([115,105,112,58]++l)=(u,er)) (w:World) (hs:l.length+4≤1048640) :
  Calls Tryz.prog 59 #[.string (⟨#[115,105,112,58]⟩++⟨l.toArray⟩)] w fun e w'=>∃ a1 k1 a2 k2,e=.returned (.tuple #[.agg #[.string ⟨u.scheme.toArray⟩,.string ⟨u.user.toArray⟩,.string ⟨u.host.toArray⟩,.int .i64 u.port,.slice a1 u.params.length k1,.slice a2 u.headers.length k2],.int .i64 er])∧ParsAt w' (.slice a1 u.params.length k1) u.params∧ParsAt w' (.slice a2 u.headers.length k2) u.headers∧Below w.heap.size w w':=by
 have k:=refparse_any ([115,105,112,58]++l) w (by simp; omega);rw [h,← appL] at k;refine k.mono ?_
 rintro e w' ⟨p,q,rfl,hp,hq,hb⟩;have hp2:=hp.parsAt;have hq2:=hq.parsAt;obtain ⟨a1,k1,e1⟩:=hp2.form;obtain ⟨a2,k2,e2⟩:=hq2.form;simp only at e1 e2 hp2 hq2;subst e1 e2;exact ⟨a1,k1,a2,k2,rfl,hp2,hq2,hb⟩
set_option maxHeartbeats 1000000 in
set_option maxRecDepth 100000 in
theorem refhost_who (l:List UInt8) (w:World) (hs:l.length+4≤1048640) :
  Calls Tryz.prog 37 #[.string ⟨l.toArray⟩] w fun e w'=>e=.returned (.tuple #[.string ⟨(hostV l).1.toArray⟩,.int .i64 (hostV l).2])∧Below w.heap.size w w':=by
 obtain ⟨u,er,hpv⟩:∃ u er,parseV ([115,105,112,58]++l)=(u,er):=⟨_,_,rfl⟩
 have K1:=hid (refparse4 hpv w hs);by_cases her:er=0
 ·subst her;have hcz:=parse_checked hpv;have hsm:=small_of_check hcz;obtain ⟨t,n,hwv⟩:∃ t n,whoV u=(t,n):=⟨_,_,rfl⟩
  have K2:=hid (fun (w':World) (p h:Value)=>refwho_any u p h w' hsm);rw [hwv] at K2;unfold uriV at K2;simp only at K2;by_cases hn:n=0
  ·subst hn;by_cases ht:t=l
   ·subst ht;have HV:=hid (host_yes (t:=t) hpv hwv);clear hpv hwv hcz hsm
    go_enter Tryz.func37,Tryz.ntmps37
    go_wp2_with fail
    refine K1.out.mono ?_
    rintro e w1 ⟨a1,k1,a2,k2,rfl,hp,hq,hw1⟩;have hb1:=hw1.alloc hw1.size (.cells #[.string ⟨u.scheme.toArray⟩,.string ⟨u.user.toArray⟩,.string ⟨u.host.toArray⟩,.int .i64 u.port,.slice a1 u.params.length k1,.slice a2 u.headers.length k2] 97);have hx:=box_new w1 u (.slice a1 u.params.length k1) (.slice a2 u.headers.length k2);have hlx:=alloc_lt w1 (.cells #[.string ⟨u.scheme.toArray⟩,.string ⟨u.user.toArray⟩,.string ⟨u.host.toArray⟩,.int .i64 u.port,.slice a1 u.params.length k1,.slice a2 u.headers.length k2] 97);have HX:=hid hx;have HP:=hid (hp.alloc (.cells #[.string ⟨u.scheme.toArray⟩,.string ⟨u.user.toArray⟩,.string ⟨u.host.toArray⟩,.int .i64 u.port,.slice a1 u.params.length k1,.slice a2 u.headers.length k2] 97));have HQ:=hid (hq.alloc (.cells #[.string ⟨u.scheme.toArray⟩,.string ⟨u.user.toArray⟩,.string ⟨u.host.toArray⟩,.int .i64 u.port,.slice a1 u.params.length k1,.slice a2 u.headers.length k2] 97));obtain ⟨g0,g1,g2,g3,g4,g5⟩:=hx;clear hp hq hw1 K1;go_wp2_with fail
    refine (K2.out _ _ _ HP.out HQ.out).mono ?_
    rintro e w2 ⟨rfl,hw2⟩;have hb2:=hb1.trans (hw2.mono hb1.size);clear g0 g1 g2 g3 g4 g5;obtain ⟨g0,g1,g2,g3,g4,g5⟩:=HX.out.below hw2 hlx;clear hw2 HP HQ HX hlx;go_wp2;go_ret2;exact ⟨ret_who HV.out,hb2⟩
   ·have HV:=hid (host_no hpv (by rw [hwv]; simp [ht]));have ht2:(t==l)=false:=by simpa using ht
    clear hpv hwv hcz hsm
    go_enter Tryz.func37,Tryz.ntmps37
    go_wp2_with fail
    refine K1.out.mono ?_
    rintro e w1 ⟨a1,k1,a2,k2,rfl,hp,hq,hw1⟩;have hb1:=hw1.alloc hw1.size (.cells #[.string ⟨u.scheme.toArray⟩,.string ⟨u.user.toArray⟩,.string ⟨u.host.toArray⟩,.int .i64 u.port,.slice a1 u.params.length k1,.slice a2 u.headers.length k2] 97);have hx:=box_new w1 u (.slice a1 u.params.length k1) (.slice a2 u.headers.length k2);have HP:=hid (hp.alloc (.cells #[.string ⟨u.scheme.toArray⟩,.string ⟨u.user.toArray⟩,.string ⟨u.host.toArray⟩,.int .i64 u.port,.slice a1 u.params.length k1,.slice a2 u.headers.length k2] 97));have HQ:=hid (hq.alloc (.cells #[.string ⟨u.scheme.toArray⟩,.string ⟨u.user.toArray⟩,.string ⟨u.host.toArray⟩,.int .i64 u.port,.slice a1 u.params.length k1,.slice a2 u.headers.length k2] 97));obtain ⟨g0,g1,g2,g3,g4,g5⟩:=hx;clear hp hq hw1 K1;go_wp2_with fail
    refine (K2.out _ _ _ HP.out HQ.out).mono ?_
    rintro e w2 ⟨rfl,hw2⟩;have hb2:=hb1.trans (hw2.mono hb1.size);clear g0 g1 g2 g3 g4 g5 hw2 HP HQ;go_wp2;go_ret2;exact ⟨ret_who HV.out,hb2⟩
  ·have HV:=hid (host_no hpv (by rw [hwv]; simp [hn]));have hn1:(n != 0)=true:=by simpa using hn
   have hn2:(n==0)=false:=by simpa using hn
   clear hpv hwv hcz hsm
   go_enter Tryz.func37,Tryz.ntmps37
   go_wp2_with fail
   refine K1.out.mono ?_
   rintro e w1 ⟨a1,k1,a2,k2,rfl,hp,hq,hw1⟩;have hb1:=hw1.alloc hw1.size (.cells #[.string ⟨u.scheme.toArray⟩,.string ⟨u.user.toArray⟩,.string ⟨u.host.toArray⟩,.int .i64 u.port,.slice a1 u.params.length k1,.slice a2 u.headers.length k2] 97);have hx:=box_new w1 u (.slice a1 u.params.length k1) (.slice a2 u.headers.length k2);have HP:=hid (hp.alloc (.cells #[.string ⟨u.scheme.toArray⟩,.string ⟨u.user.toArray⟩,.string ⟨u.host.toArray⟩,.int .i64 u.port,.slice a1 u.params.length k1,.slice a2 u.headers.length k2] 97));have HQ:=hid (hq.alloc (.cells #[.string ⟨u.scheme.toArray⟩,.string ⟨u.user.toArray⟩,.string ⟨u.host.toArray⟩,.int .i64 u.port,.slice a1 u.params.length k1,.slice a2 u.headers.length k2] 97));obtain ⟨g0,g1,g2,g3,g4,g5⟩:=hx;clear hp hq hw1 K1;go_wp2_with fail
   refine (K2.out _ _ _ HP.out HQ.out).mono ?_
   rintro e w2 ⟨rfl,hw2⟩;have hb2:=hb1.trans (hw2.mono hb1.size);clear g0 g1 g2 g3 g4 g5 hw2 HP HQ;go_wp2;go_ret2;exact ⟨ret_who HV.out,hb2⟩
 ·have HV:=hid (host_bad hpv her);have he1:(er != 0)=true:=by simpa using her
  have he2:(er==0)=false:=by simpa using her
  clear hpv
  go_enter Tryz.func37,Tryz.ntmps37
  go_wp2_with fail
  refine K1.out.mono ?_
  rintro e w1 ⟨a1,k1,a2,k2,rfl,hp,hq,hw1⟩;have hb1:=hw1.alloc hw1.size (.cells #[.string ⟨u.scheme.toArray⟩,.string ⟨u.user.toArray⟩,.string ⟨u.host.toArray⟩,.int .i64 u.port,.slice a1 u.params.length k1,.slice a2 u.headers.length k2] 97);clear hp hq hw1 K1;go_wp2;go_ret2;exact ⟨ret_who HV.out,hb1⟩
theorem box3 (w:World) (v0 v1 v2:Value) (t:TypeId):RowC3 (w.alloc (.cells #[v0,v1,v2] t)) w.heap.size v0 v1 v2:=(rc_row3 w v0 v1 v2 t).rc3
set_option maxHeartbeats 4000000 in
set_option maxRecDepth 100000 in
theorem rcheck14_any (d:Dc) (ts ns:Value) (w:World) (hsm:SmallD 140737488355328 d) (hen:d.entity.length+4≤1048640) (hts:TusAt w ts d.tuples) (hns:StrsAt w ns d.notes) :
  Calls Tryz.prog 23 #[docV d ts ns] w fun e w'=>e=.returned (.int .i64 (checkD d))∧Below w.heap.size w w':=by
 obtain ⟨en,tl,nl⟩:=d;obtain ⟨_,hz1,hz2,hst,hsn⟩:=hsm;simp only at hz1 hz2 hst hsn hen hts hns;have KH:=hid (fun w'=>refhost_who en w' hen);have hv:checkD ⟨en,tl,nl⟩=if (hostV en).2 ≠ 0∨16 < tl.length∨16 < nl.length then 140 else if (tl.all tupP && (distinctT tl && nl.all noteP))=true then 0 else 140:=rfl
 have hok:(hostV en).2=0 → tl.length≤16 → nl.length≤16 → checkD ⟨en,tl,nl⟩=if (tupsOk tl && nl.all noteP)=true then 0 else 140:=fun h1 h2 h3=>chkD_is h1 h2 h3
 unfold docV
 simp only
 generalize checkD ⟨en,tl,nl⟩=R at hv hok ⊢;obtain ⟨ta,tc,rfl,htc⟩:=hts;obtain ⟨na,nc,rfl,hnc⟩:=hns;have HTC:=hid htc;have HNC:=hid hnc;have HST:=hid hst;have HSN:=hid hsn;obtain ⟨tn,htn⟩:∃ tn,tn=tl.length:=⟨_,rfl⟩
 obtain ⟨nn,hnn⟩:∃ nn,nn=nl.length:=⟨_,rfl⟩
 rw [← htn] at hz1 hv hok ⊢;rw [← hnn] at hz2 hv hok ⊢;have HTN:=hid htn;have HNN:=hid hnn;clear htc hnc hst hsn htn hnn;generalize hostV en=HV at KH hv hok;obtain ⟨hs,he⟩:=HV;simp only at KH hv hok;have hbx:=box3 w (.string ⟨en.toArray⟩) (.slice ta tn tc) (.slice na nn nc) 28;have hbn:Below w.heap.size w (w.alloc (.cells #[.string ⟨en.toArray⟩,.slice ta tn tc,.slice na nn nc] 28)):=(Below.refl _ w).alloc (Nat.le_refl _) _;have hbr:=rc_row3 w (.string ⟨en.toArray⟩) (.slice ta tn tc) (.slice na nn nc) 28;have hlt0:=alloc_lt w (.cells #[.string ⟨en.toArray⟩,.slice ta tn tc,.slice na nn nc] 28);obtain ⟨x0,x1,x2,_,_,_⟩:=hbx;by_cases h1:he=0
 case neg =>
  rw [if_pos (.inl h1)] at hv;have HR:=hid hv;have q1:(he != 0)=true:=by simpa using h1
  clear hv hok h1 HTC HNC HST HSN
  go_enter Tryz.func23,Tryz.ntmps23
  go_wp2_with fail
  generalize World.alloc w _=W0 at x0 x1 x2 hbn hbr hlt0 ⊢;refine (KH.out _).mono ?_
  rintro e w1 ⟨rfl,hw1⟩;go_wp2;go_ret;exact ⟨ret_int HR.out.symm,hbn.trans (hw1.mono hbn.size)⟩
 subst h1;by_cases h2:16 < tn
 ·rw [if_pos (.inr (.inl h2))] at hv;have HR:=hid hv;have q2:(16:Int) < (tn:Int):=by omega
  clear hv hok HTC HNC HST HSN
  go_enter Tryz.func23,Tryz.ntmps23
  go_wp2_with fail
  generalize World.alloc w _=W0 at x0 x1 x2 hbn hbr hlt0 ⊢;refine (KH.out _).mono ?_
  rintro e w1 ⟨rfl,hw1⟩;obtain ⟨y0,y1,y2,_,_,_⟩:=(hbr.below hw1 hlt0).rc3;go_wp2;go_ret;exact ⟨ret_int HR.out.symm,hbn.trans (hw1.mono hbn.size)⟩
 have q2:¬ (16:Int) < (tn:Int):=by omega
 by_cases h3:16 < nn
 ·rw [if_pos (.inr (.inr h3))] at hv;have HR:=hid hv;have q3:(16:Int) < (nn:Int):=by omega
  clear hv hok HTC HNC HST HSN
  go_enter Tryz.func23,Tryz.ntmps23
  go_wp2_with fail
  generalize World.alloc w _=W0 at x0 x1 x2 hbn hbr hlt0 ⊢;refine (KH.out _).mono ?_
  rintro e w1 ⟨rfl,hw1⟩;obtain ⟨y0,y1,y2,_,_,_⟩:=(hbr.below hw1 hlt0).rc3;go_wp2;go_ret;exact ⟨ret_int HR.out.symm,hbn.trans (hw1.mono hbn.size)⟩
 have q3:¬ (16:Int) < (nn:Int):=by omega
 have hR0:=hok rfl (by omega) (by omega);have HBT:Hid (tupsOk tl=false → R=140):=fun h=>by rw [hR0,h]; simp
 have HBN:Hid (nl.all noteP=false → R=140):=fun h=>by rw [hR0,h]; simp
 have HOK:Hid (tupsOk tl=true → nl.all noteP=true → R=0):=fun h h'=>by rw [hR0,h,h']; rfl
 clear hv hok hR0
 go_enter Tryz.func23,Tryz.ntmps23
 go_wp2_with fail
 generalize World.alloc w _=W0 at x0 x1 x2 hbn hbr hlt0 ⊢;refine (KH.out _).mono ?_
 rintro e w1 ⟨rfl,hw1⟩;obtain ⟨y0,y1,y2,_,_,_⟩:=(hbr.below hw1 hlt0).rc3;have hb1:=hbn.trans (hw1.mono hbn.size);have HBR:=hid (hbr.below hw1 hlt0);have hlt1:=Nat.lt_of_lt_of_le hlt0 hw1.size;clear x0 x1 x2 hbn hbr hlt0 KH hw1;go_wp2;clear y0 y1 y2
 go_loopw [5] (fun i wr=>∃ j:Nat,j≤tn∧i=.int .i64 j∧Hid (tupsOk (tl.take j)=true)∧Below w1.heap.size w1 wr) (fun i _=>tn - (intOf i).toNat)
 case atStart=>exact ⟨0,Nat.zero_le _,rfl,show _=_ from rfl,Below.refl _ _⟩
 case round =>
  obtain ⟨j,hjn,rfl,ha,hb⟩:=hrel;have hbw:Below w.heap.size w wr:=hb1.trans (hb.mono hb1.size);obtain ⟨y0,y1,y2,_,_,_⟩:=(HBR.out.below hb hlt1).rc3;by_cases hlt:j < tn
  ·have hjl:j < tl.length:=by have:=HTN.out; omega
   obtain ⟨ad,hao,hab,c⟩:=HTC.out j hjl;subst hao;have c:=c.below hbw hab;obtain ⟨s1,s2,s3,s4⟩:=HST.out tl[j] (List.getElem_mem hjl);have s5:=i64_of s4;have HBad:Hid (tupP tl[j]=false → R=140):=fun h=>HBT.out (tups_bad hjl h);have HTw:Hid (∀ m (hm:m < j),((tl[m]'(by omega)).id==tl[j].id)=true → R=140):=fun m hm h=>HBT.out (tups_twice hjl hm h);have HSn:Hid (tupP tl[j]=true → (tl.take j).all (fun q=>!(q.id==tl[j].id))=true → tupsOk (tl.take (j+1))=true):=fun h1 h2=>tups_snoc hjl ha.out h1 h2;have KI:=hid (fun w'=>ident_list tl[j].id w' s1);have KC:=hid (fun w'=>rtext14_any tl[j].contact w' s2);have KN:=hid (fun w'=>rtext14_any tl[j].note w' s3);have htp:tupP tl[j]=(identP tl[j].id && (textP tl[j].contact && (textP tl[j].note && (decide (-1≤tl[j].prio) && (decide (tl[j].prio≤1000) && (!tl[j].contact.isEmpty || tl[j].prio==-1)))))):=rfl;obtain ⟨W2,hW2⟩:∃ W2,W2=wr.alloc (.cells #[.string ⟨tl[j].id.toArray⟩,.bool tl[j].opn,.string ⟨tl[j].contact.toArray⟩,.int .i64 tl[j].prio,.string ⟨tl[j].note.toArray⟩] 48):=⟨_,rfl⟩
   have hbW:Below w1.heap.size w1 W2:=by rw [hW2]; exact hb.alloc hb.size _
   have hwW:Below w.heap.size w W2:=by rw [hW2]; exact hbw.alloc hbw.size _
   have hrT:RowIs W2 wr.heap.size 48 [.string ⟨tl[j].id.toArray⟩,.bool tl[j].opn,.string ⟨tl[j].contact.toArray⟩,.int .i64 tl[j].prio,.string ⟨tl[j].note.toArray⟩]:=by rw [hW2]; exact rc_row5 _ _ _ _ _ _ _
   have hltT:wr.heap.size < W2.heap.size:=by rw [hW2]; exact alloc_lt _ _
   have HM:Hid (∀ m (hm:m < j),∀ w',Below w.heap.size w w' → w'.cell? (ad.add (m * 5))=some (.string ⟨(tl[m]'(by omega)).id.toArray⟩)):=fun m hm w' hb'=>by
    obtain ⟨ad2,hao2,hab2,c2⟩:=HTC.out m (by omega)
    have:ad2=ad:=(Option.some.inj hao2).symm
    subst this;exact (c2.below hb' hab).c0
   clear HBT ha HST s1 s2 s3 s4 HTC;generalize hTj:tl[j]=T at c HBad HTw HSn KI KC KN htp hW2 hrT s5;obtain ⟨ti,to',tk,tp,tnn⟩:=T;simp only at c KI KC KN htp hW2 hrT HTw HSn s5;obtain ⟨c0,c1,c2,c3,c4⟩:=c;simp only at c0 c1 c2 c3 c4;have q6:(j:Int) < (tn:Int):=by omega
   have HRT:=hid hrT;go_wp2_with fail
   clear c0 c1 c2 c3 c4 y0 y1 y2;rw [← hW2];clear hW2;obtain ⟨b0,b1,b2,b3,b4,_,_,_,_,_⟩:=hrT.rc5;obtain ⟨y0,y1,y2,_,_,_⟩:=(HBR.out.below hbW hlt1).rc3
   cases hidt:identP ti with
   | false =>
    rw [hidt] at KI htp;have hR:=hid (HBad.out (by rw [htp]; rfl));clear HBad HTw HSn htp hidt;refine (KI.out _).mono ?_
    rintro e w' ⟨rfl,hw'⟩; rw [hw']; clear hw' w'
    go_wp2;go_ret;exact ⟨ret_int hR.out.symm,hwW⟩
   | true =>
   rw [hidt,Bool.true_and] at htp;rw [hidt] at KI;refine (KI.out _).mono ?_
   rintro e w' ⟨rfl,hw'⟩; rw [hw']; clear hw' w' KI
   go_wp2_with fail
   cases hct:textP tk with
   | false =>
    rw [hct] at KC htp;have hR:=hid (HBad.out (by rw [htp]; rfl));clear HBad HTw HSn htp hct;refine (KC.out _).mono ?_
    rintro e w' ⟨rfl,hw'⟩; rw [hw']; clear hw' w'
    go_wp2;go_ret;exact ⟨ret_int hR.out.symm,hwW⟩
   | true =>
   rw [hct,Bool.true_and] at htp;rw [hct] at KC;refine (KC.out _).mono ?_
   rintro e w' ⟨rfl,hw'⟩; rw [hw']; clear hw' w' KC
   go_wp2_with fail
   cases hnt:textP tnn with
   | false =>
    rw [hnt] at KN htp;have hR:=hid (HBad.out (by rw [htp]; rfl));clear HBad HTw HSn htp hnt;refine (KN.out _).mono ?_
    rintro e w' ⟨rfl,hw'⟩; rw [hw']; clear hw' w'
    go_wp2;go_ret;exact ⟨ret_int hR.out.symm,hwW⟩
   | true =>
   rw [hnt,Bool.true_and] at htp;rw [hnt] at KN;refine (KN.out _).mono ?_
   rintro e w' ⟨rfl,hw'⟩; rw [hw']; clear hw' w' KN
   by_cases p1:tp < -1
   ·have hR:=hid (HBad.out (by rw [htp,decide_eq_false (by omega)]; rfl));have p1d:decide (tp < -1)=true:=decide_eq_true p1;clear HBad HTw HSn htp;go_wp2;go_ret;exact ⟨ret_int hR.out.symm,hwW⟩
   have p1d:decide (tp < -1)=false:=decide_eq_false p1;rw [decide_eq_true (show -1≤tp by omega),Bool.true_and] at htp;by_cases p2:1000 < tp
   ·have hR:=hid (HBad.out (by rw [htp,decide_eq_false (by omega)]; rfl));have p2d:decide (1000 < tp)=true:=decide_eq_true p2;clear HBad HTw HSn htp;go_wp2;go_ret;exact ⟨ret_int hR.out.symm,hwW⟩
   have p2d:decide (1000 < tp)=false:=decide_eq_false p2;rw [decide_eq_true (show tp≤1000 by omega),Bool.true_and] at htp
   have hpass:(!(tk==[]) || tp==-1)=true → tupP ⟨ti,to',tk,tp,tnn⟩=true:=fun h=>by
    rw [htp]
    cases tk with
    | nil=>simpa using h
    | cons a b=>rfl
   have hfail:(!(tk==[]) || tp==-1)=false → tupP ⟨ti,to',tk,tp,tnn⟩=false:=fun h=>by
    rw [htp]
    cases tk with
    | nil=>simpa using h
    | cons a b=>simp at h
   have HPass:=hid hpass;have HFail:=hid hfail;clear htp hpass hfail;have fin:∀ pe:Bool,(tk==[])=pe → ∀ pm:Bool,(tp==-1)=pm → (!pe || pm)=true → True:=fun _ _ _ _ _=>trivial
   cases p3:(tk==[]) with
   | true =>
    cases p4:(tp==-1) with
    | false =>
     have hR:=hid (HBad.out (HFail.out (by rw [p3,p4]; rfl)));have p4n:(tp != -1)=true:=by rw [bne,p4]; rfl
     clear HBad HTw HSn HPass HFail;go_wp2;go_ret;exact ⟨ret_int hR.out.symm,hwW⟩
    | true =>
     have hT:=hid (HPass.out (by rw [p3,p4]; rfl));have p4n:(tp != -1)=false:=by rw [bne,p4]; rfl
     clear HBad HPass HFail;go_wp2;clear b0 b1 b2 b3 b4 y0 y1 y2
     go_loopw [7] (fun i wr2=>∃ (m q:Nat),m≤j∧i=.int .i64 m∧wr2=W2.drewN q∧Hid ((tl.take m).all (fun q=>!(q.id==ti))=true)) (fun i _=>j - (intOf i).toNat)
     case atStart=>exact ⟨0,0,Nat.zero_le _,rfl,rfl,show _=_ from rfl⟩
     case round =>
      obtain ⟨m,q,hmj,rfl,rfl,hall⟩:=hrel;by_cases hml:m < j
      ·have hmn:m < tl.length:=by omega
       have cm:=HM.out m hml W2 hwW;have HT2:=hid (HTw.out m hml);have hsn:Hid ((tl[m].id==ti)=false → (tl.take (m+1)).all (fun q=>!(q.id==ti))=true):=fun h=>by rw [List.take_succ_eq_append_getElem hmn,List.all_append,hall.out]; simp [h]
       have q7:(m:Int) < (j:Int):=by omega
       have q8:(m:Int) < (tn:Int):=by omega
       obtain ⟨b0,b1,b2,b3,b4,_,_,_,_,_⟩:=HRT.out.rc5;obtain ⟨y0,y1,y2,_,_,_⟩:=(HBR.out.below hbW hlt1).rc3;clear HTw HSn hall HM;generalize tl[m].id=mi at cm HT2 hsn
       cases hcmp:(mi==ti) with
       | true =>
        have hR:=hid (HT2.out hcmp);clear HT2 hsn;go_wp2
        go_quiet (fail)
        go_wp2;go_ret;exact ⟨ret_int hR.out.symm,by first | exact hwW.trans (below_drewN _ _ |>.mono hwW.size) | (rw [World.drewN_drewN]; exact hwW.trans (below_drewN _ _ |>.mono hwW.size))⟩
       | false =>
        have hall2:=hid (hsn.out hcmp);clear HT2 hsn;go_wp2
        go_quiet (fail)
        go_wp2;go_roundw
        case rel=>exact ⟨m+1,q+nq,by omega,by go_num,by first | rfl | rw [World.drewN_drewN],hall2⟩
        case measure=>simp [intOf]; omega
      ·have hmj2:m=j:=by omega
       subst hmj2;have hN:=hid (HSn.out hT.out hall.out);clear HTw HSn hall HM hT;go_wp2;go_roundw
       case rel=>exact ⟨m+1,by omega,by go_num,hN,hbW.trans (below_drewN _ _ |>.mono hbW.size)⟩
       case measure=>simp [intOf]; omega
   | false =>
    have hT:=hid (HPass.out (by rw [p3]; rfl));clear HBad HPass HFail;go_wp2;clear b0 b1 b2 b3 b4 y0 y1 y2
    go_loopw [7] (fun i wr2=>∃ (m q:Nat),m≤j∧i=.int .i64 m∧wr2=W2.drewN q∧Hid ((tl.take m).all (fun q=>!(q.id==ti))=true)) (fun i _=>j - (intOf i).toNat)
    case atStart=>exact ⟨0,0,Nat.zero_le _,rfl,rfl,show _=_ from rfl⟩
    case round =>
     obtain ⟨m,q,hmj,rfl,rfl,hall⟩:=hrel;by_cases hml:m < j
     ·have hmn:m < tl.length:=by omega
      have cm:=HM.out m hml W2 hwW;have HT2:=hid (HTw.out m hml);have hsn:Hid ((tl[m].id==ti)=false → (tl.take (m+1)).all (fun q=>!(q.id==ti))=true):=fun h=>by rw [List.take_succ_eq_append_getElem hmn,List.all_append,hall.out]; simp [h]
      have q7:(m:Int) < (j:Int):=by omega
      have q8:(m:Int) < (tn:Int):=by omega
      obtain ⟨b0,b1,b2,b3,b4,_,_,_,_,_⟩:=HRT.out.rc5;obtain ⟨y0,y1,y2,_,_,_⟩:=(HBR.out.below hbW hlt1).rc3;clear HTw HSn hall HM;generalize tl[m].id=mi at cm HT2 hsn
      cases hcmp:(mi==ti) with
      | true =>
       have hR:=hid (HT2.out hcmp);clear HT2 hsn;go_wp2
       go_quiet (fail)
       go_wp2;go_ret;exact ⟨ret_int hR.out.symm,by first | exact hwW.trans (below_drewN _ _ |>.mono hwW.size) | (rw [World.drewN_drewN]; exact hwW.trans (below_drewN _ _ |>.mono hwW.size))⟩
      | false =>
       have hall2:=hid (hsn.out hcmp);clear HT2 hsn;go_wp2
       go_quiet (fail)
       go_wp2;go_roundw
       case rel=>exact ⟨m+1,q+nq,by omega,by go_num,by first | rfl | rw [World.drewN_drewN],hall2⟩
       case measure=>simp [intOf]; omega
     ·have hmj2:m=j:=by omega
      subst hmj2;have hN:=hid (HSn.out hT.out hall.out);clear HTw HSn hall HM hT;go_wp2;go_roundw
      case rel=>exact ⟨m+1,by omega,by go_num,hN,hbW.trans (below_drewN _ _ |>.mono hbW.size)⟩
      case measure=>simp [intOf]; omega
  ·have hjt:j=tn:=by omega
   subst hjt;have HT0:Hid (tupsOk tl=true):=show _=_ by have:=ha.out; rwa [List.take_of_length_le (by have:=HTN.out; omega)] at this
   clear ha HTC HST HBT;have q6:¬ (j:Int) < (j:Int):=by omega
   have HY:=hid (show w1.heap.size≤wr.heap.size from hb.size);go_wp2;clear y0 y1 y2
   go_loopw [8] (fun i wr2=>∃ m:Nat,m≤nn∧i=.int .i64 m∧wr2=wr∧Hid ((nl.take m).all noteP=true)) (fun i _=>nn - (intOf i).toNat)
   case atStart=>exact ⟨0,Nat.zero_le _,rfl,rfl,show _=_ from rfl⟩
   case round =>
    obtain ⟨m,hmn,rfl,rfl,hall⟩:=hrel;obtain ⟨y0,y1,y2,_,_,_⟩:=(HBR.out.below hb hlt1).rc3;by_cases hml:m < nn
    ·have hmt:m < nl.length:=by have:=HNN.out; omega
     obtain ⟨ad,hao,hab,c⟩:=HNC.out m hmt;subst hao;have c:=cell_below hbw (by rw [add_block]; exact hab) c;have s1:=HSN.out nl[m] (List.getElem_mem hmt);have KT:=hid (fun w'=>rtext14_any nl[m] w' s1);have HB:Hid (noteP nl[m]=false → R=140):=fun h=>HBN.out (by rw [List.all_eq_false]; exact ⟨nl[m],List.getElem_mem hmt,by rw [h]; simp⟩);have HS:Hid (noteP nl[m]=true → (nl.take (m+1)).all noteP=true):=fun h=>by rw [List.take_succ_eq_append_getElem hmt,List.all_append,hall.out]; simp [h]
     have hnp:noteP nl[m]=(!(nl[m].isEmpty) && textP nl[m]):=rfl;have q7:(m:Int) < (nn:Int):=by omega
     clear HNC HSN HBN hall HOK;generalize nl[m]=S at c KT HB HS hnp
     cases hS:S with
     | nil =>
      subst hS;have hR:=hid (HB.out (by rw [hnp]; rfl));clear HB HS hnp;go_wp2;go_ret;exact ⟨ret_int hR.out.symm,hbw⟩
     | cons x y =>
      have pe:(S==[])=false:=by rw [hS]; rfl
      have hie:S.isEmpty=false:=by rw [hS]; rfl
      rw [hie] at hnp
      cases htx:textP S with
      | false =>
       rw [htx] at KT hnp;have hR:=hid (HB.out (by rw [hnp]; rfl));clear HB HS hnp hS hie htx;go_wp2_with (go_at_call 39; refine (KT.out _).mono ?_; rintro e w' ⟨rfl,hw'⟩; rw [hw']; clear hw' w')
       go_ret;exact ⟨ret_int hR.out.symm,hbw⟩
      | true =>
       rw [htx] at KT hnp;have hN:=hid (HS.out (by rw [hnp]; rfl));clear HB HS hnp hS hie htx;go_wp2_with (go_at_call 39; refine (KT.out _).mono ?_; rintro e w' ⟨rfl,hw'⟩; rw [hw']; clear hw' w')
       go_roundw
       case rel=>exact ⟨m+1,by omega,by go_num,by first | rfl | trivial,hN⟩
       case measure=>simp [intOf]; omega
    ·have q7:¬ (m:Int) < (nn:Int):=by omega
     have hR:=hid (HOK.out HT0.out (by have:=hall.out; rwa [List.take_of_length_le (by have:=HNN.out; omega)] at this));clear HNC HSN HBN hall HOK;go_wp2;go_ret;exact ⟨ret_int hR.out.symm,hbw⟩
end Go.Proofs.YtldkidljjbkmbaaGreatDoor
namespace Go.Proofs.YtldkidljjbkmbaaGreatDoor
open Go.RowKit Go.Maps Go.WideMaps Sc
theorem tu_cmpU (s t:Tu):s=t∨(s ≠ t∧((s.id==t.id)=false∨((s.id==t.id)=true∧(s.opn==t.opn)=false)∨((s.id==t.id)=true∧(s.opn==t.opn)=true∧(s.contact==t.contact)=false)∨((s.id==t.id)=true∧(s.opn==t.opn)=true∧(s.contact==t.contact)=true∧(s.prio==t.prio)=false)∨((s.id==t.id)=true∧(s.opn==t.opn)=true∧(s.contact==t.contact)=true∧(s.prio==t.prio)=true∧(s.note==t.note)=false))):=by
 obtain ⟨s0,s1,s2,s3,s4⟩:=s;obtain ⟨t0,t1,t2,t3,t4⟩:=t;by_cases h0:s0=t0 <;> by_cases h1:s1=t1 <;> by_cases h2:s2=t2 <;> by_cases h3:s3=t3 <;> by_cases h4:s4=t4 <;> simp_all
set_option maxHeartbeats 2000000 in
set_option maxRecDepth 100000 in
theorem rnamed_any {w:World} {v:Value} {ts:List Tu} (hv:TusAt w v ts) (hz:ts.length≤2000000) (id:List UInt8) :
  Calls Tryz.prog 40 #[v,.string ⟨id.toArray⟩] w fun e w'=>e=.returned (.bool (namedC ts id))∧Below w.heap.size w w':=by
 obtain ⟨ao,cap,rfl,hat⟩:=hv;have HC:=hid hat;obtain ⟨n,hnn⟩:∃ n,n=ts.length:=⟨_,rfl⟩
 rw [← hnn] at hz ⊢;have HN:=hid hnn;clear hat hnn
 go_enter Tryz.func40,Tryz.ntmps40
 go_wp2
 go_loopw [5] (fun i wr=>∃ j:Nat,j≤n∧i=.int .i64 j∧Hid (namedC (ts.take j) id=false)∧Hid (Below w.heap.size w wr)) (fun i _=>n - (intOf i).toNat)
 case atStart=>exact ⟨0,Nat.zero_le _,rfl,hid rfl,hid (Below.refl _ _)⟩
 case round =>
  obtain ⟨j,hj,rfl,HF,HB⟩:=hrel;by_cases hlt:j < n
  ·have hlt':(j:Int) < (n:Int):=by omega
   have hjl:j < ts.length:=by rw [← HN.out]; exact hlt
   obtain ⟨ad,hao,hab,c⟩:=HC.out j hjl;subst hao;obtain ⟨c0,c1,c2,c3,c4⟩:=c.below HB.out hab
   have HS:=hid (show namedC (ts.take (j+1)) id=(ts[j].id==id) by
    rw [List.take_succ_eq_append_getElem hjl];have h:=HF.out;unfold namedC at h ⊢;rw [List.any_append,h]
    simp)
   have HT:=hid (show (ts[j].id==id)=true → namedC ts id=true from fun h=>by
    unfold namedC;rw [List.any_eq_true];exact ⟨_,List.getElem_mem hjl,h⟩)
   clear hab c1 c2 c3 c4;generalize ts[j].id=s at c0 HS HT
   cases hq:(s==id) with
   | true =>
    have hR:=HT.out hq;go_wp2;go_ret;exact ⟨by first | rfl | (rw [hR]; rfl),HB.out⟩
   | false =>
    rw [hq] at HS;go_wp2;go_roundw
    case rel=>exact ⟨j+1,by omega,by go_num,HS,HB⟩
    case measure=>simp [intOf]; omega
  ·have hlt':¬ (j:Int) < (n:Int):=by omega
   have hR:namedC ts id=false:=by
    have h:=HF.out
    rwa [List.take_of_length_le (by have:=HN.out; omega)] at h
   go_wp2;go_ret;exact ⟨rfl,HB.out⟩
set_option maxHeartbeats 4000000 in
set_option maxRecDepth 100000 in
theorem rknown_any {w:World} {v:Value} {ts:List Tu} (hv:TusAt w v ts) (hz:ts.length≤2000000) (t:Tu) :
  Calls Tryz.prog 24 #[v,tuV t] w fun e w'=>e=.returned (.bool (decide (t ∈ ts)))∧Below w.heap.size w w':=by
 obtain ⟨ao,cap,rfl,hat⟩:=hv;have HC:=hid hat;obtain ⟨n,hnn⟩:∃ n,n=ts.length:=⟨_,rfl⟩
 rw [← hnn] at hz ⊢;have HN:=hid hnn;clear hat hnn;unfold tuV;have r0:=rc_row5 w (.string ⟨t.id.toArray⟩) (.bool t.opn) (.string ⟨t.contact.toArray⟩) (.int .i64 t.prio) (.string ⟨t.note.toArray⟩) 48;have b0:Below w.heap.size w (w.alloc (.cells #[.string ⟨t.id.toArray⟩,.bool t.opn,.string ⟨t.contact.toArray⟩,.int .i64 t.prio,.string ⟨t.note.toArray⟩] 48)):=(Below.refl _ w).alloc (Nat.le_refl _) _
 go_enter Tryz.func24,Tryz.ntmps24
 go_wp2;have R0:=hid r0;have B0:=hid b0;clear r0 b0;generalize w.heap.size=gt at R0 ⊢;generalize World.alloc w _=w0 at R0 B0 ⊢
 go_loopw [5] (fun i wr=>∃ j:Nat,j≤n∧i=.int .i64 j∧Hid (¬ t ∈ ts.take j)∧Hid (Below w0.heap.size w0 wr)) (fun i _=>n - (intOf i).toNat)
 case atStart=>exact ⟨0,Nat.zero_le _,rfl,hid (show ¬ t ∈ ts.take 0 by simp),hid (Below.refl _ _)⟩
 case round =>
  obtain ⟨j,hj,rfl,HF,HB⟩:=hrel;have HR:=hid (R0.out.below HB.out R0.out.bl);have HBw:=hid (B0.out.trans (HB.out.mono B0.out.size));by_cases hlt:j < n
  ·have hlt':(j:Int) < (n:Int):=by omega
   have hjl:j < ts.length:=by rw [← HN.out]; exact hlt
   obtain ⟨ad,hao,hab,c⟩:=HC.out j hjl;subst hao;obtain ⟨z0,z1,z2,z3,z4⟩:=c.below HBw.out hab;obtain ⟨y0,y1,y2,y3,y4,-,-,-,-,-⟩:=HR.out.rc5
   have h1:=hid (show ts[j] ≠ t → ¬ t ∈ ts.take (j+1) from fun h hm=>by
    rw [List.take_succ_eq_append_getElem hjl] at hm
    rcases List.mem_append.1 hm with hm | hm
    ·exact HF.out hm
    ·rw [List.mem_singleton] at hm; exact h hm.symm)
   have h2:=hid (show ts[j]=t → t ∈ ts from fun h=>by rw [← h]; exact List.getElem_mem hjl);clear hab HF c;generalize ts[j]=s at z0 z1 z2 z3 z4 h1 h2
   rcases tu_cmpU s t with rfl | ⟨hne,hq⟩
   ·have hR:=decide_eq_true (h2.out rfl);have HR2:=hid hR;clear hR h1 h2;obtain ⟨s0,s1,s2,s3,s4⟩:=s;simp only at z0 z1 z2 z3 z4 y0 y1 y2 y3 y4;have e0:(s0==s0)=true:=by simp
    have e2:(s2==s2)=true:=by simp
    have e3:(s3==s3)=true:=by simp
    have e4:(s4==s4)=true:=by simp
    go_wp2
    go_quiet (fail)
    go_wp2;go_ret;exact ⟨by rw [HR2.out]; rfl,HBw.out.trans ((below_drewN _ _).mono HBw.out.size)⟩
   ·have h3:=hid (h1.out hne);obtain ⟨t'0,t'1,t'2,t'3,t'4⟩:=t;obtain ⟨s'0,s'1,s'2,s'3,s'4⟩:=s;simp only at z0 z1 z2 z3 z4 y0 y1 y2 y3 y4 hq;clear h1 h2 hne
    rcases hq with q0 | ⟨q0,q1⟩ | ⟨q0,q1,q2⟩ | ⟨q0,q1,q2,q3⟩ | ⟨q0,q1,q2,q3,q4⟩
    all_goals (
     go_wp2
     go_quiet (fail)
     go_wp2;go_roundw
     case rel=>exact ⟨j+1,by omega,by go_num,h3,hid (HB.out.trans ((below_drewN _ _).mono HB.out.size))⟩
     case measure=>simp [intOf]; omega)
  ·have hlt':¬ (j:Int) < (n:Int):=by omega
   have HR2:=hid (show decide (t ∈ ts)=false from decide_eq_false (by
    have h:=HF.out
    rwa [List.take_of_length_le (by have:=HN.out; omega)] at h))
   go_wp2;go_ret;exact ⟨by rw [HR2.out]; rfl,HBw.out⟩
end Go.Proofs.YtldkidljjbkmbaaGreatDoor
namespace Go.Proofs.YtldkidljjbkmbaaGreatDoor
open Go.RowKit Sc
theorem cons_len {α:Type} {us:List α} {n:Nat} (h:us.length=n+1):∃ u r,us=u :: r∧r.length=n:=by
 cases us with
 | nil=>simp at h
 | cons u r=>exact ⟨u,r,rfl,by simpa using h⟩
theorem tusCells_atU (ts:List Tu) (i:Nat) (u:Value) (h:(tusCells ts)[i]? = some u):∃ (k:Nat) (hk:k < ts.length) (j:Nat),j < 5∧i=k * 5+j∧(tuCells ts[k])[j]? = some u:=by
 have hi:i < ts.length * 5:=by rw [← tusCells_len]; exact (List.getElem?_eq_some_iff.1 h).1
 have hk:i / 5 < ts.length:=by omega
 have hj:i % 5 < 5:=by omega
 obtain ⟨v,hv⟩:∃ v,(tuCells ts[i / 5])[i % 5]? = some v:=⟨_,List.getElem?_eq_getElem (l:=tuCells ts[i / 5]) (i:=i % 5) (by simp [tuCells]; exact hj)⟩
 have:=tusCells_get ts (i / 5) hk (i % 5) v hv
 rw [show i / 5 * 5+i % 5=i by omega,h] at this
 injection this with this
 exact ⟨i / 5,hk,i % 5,hj,by omega,by rw [hv,this]⟩
theorem tus_front {w:World} {ad:Addr} {ts:List Tu} (h:∀ k (hk:k < ts.length),TuAt w ad k ts[k]) (j:Nat) (u:Value) (hu:(tusCells ts)[j]? = some u):w.cell? (ad.add j)=some u:=by
 obtain ⟨k,hk,j',hj,rfl,hc⟩:=tusCells_atU ts j u hu;obtain ⟨c0,c1,c2,c3,c4⟩:=h k hk
 rcases (show j'=0∨j'=1∨j'=2∨j'=3∨j'=4 by omega) with rfl | rfl | rfl | rfl | rfl
 ·simp [tuCells] at hc; subst hc; simpa using c0
 ·simp [tuCells] at hc; subst hc; rw [add_two _ _ _ (by decide)]; exact c1
 ·simp [tuCells] at hc; subst hc; rw [add_two _ _ _ (by decide)]; exact c2
 ·simp [tuCells] at hc; subst hc; rw [add_two _ _ _ (by decide)]; exact c3
 ·simp [tuCells] at hc; subst hc; rw [add_two _ _ _ (by decide)]; exact c4
theorem step_appTu0 {P:Program} {ops:Array Oper} {o:Oper} {a:Act} {w:World} {K:Act → World → Prop} {Q:Exit → Act → World → Prop} {E:Prop} (hgd:o.guard=none)
  (s x:Operand) (t:TypeId) (ho:o.op=Op.call { callee:=Callee.builtin Builtin.append,args:=#[s,x],argTypes:=#[t,t] }) (B:Nat) (i:TypeInfo)
  (z:Value) (ht:P.underlying t=some (TypeDesc.slice 48)) (hi:P.info? 48=some i) (hz:i.zero=some z) (hsize:i.size=5) (hby:i.bytes=64) (hzs:z.cells.size=5)
  (g0:Nat) (hs:a.eval s=.slice (some ⟨g0,0,none⟩) 0 0) (hg0:B≤g0) (hr0:RowIs w g0 48 []) (v:Value) (ts:List Tu) (hx:a.eval x=v) (hv:TusAt w v ts) (hnil:ts=[] → v=.slice none 0 0)
  (hlen:ts.length≤2000000) (hB:B≤w.heap.size)
  (h:∀ (v':Value) (w':World),OwnU w' B v' ts → Below w.heap.size w w' → K (a.put o.dst v') w'):if Region.wanted o (yielded ops a.tmps)=true then Oper.wp P o a w K Q else E:=by
 have hw:Region.wanted o (yielded ops a.tmps)=true:=by simp [Region.wanted,hgd]
 rw [if_pos hw];by_cases hn:ts=[]
 ·subst hn;rw [hnil rfl] at hx;have hown:OwnU w B (.slice (some ⟨g0,0,none⟩) 0 0) []:=⟨rfl,.inr ⟨g0,0,#[],rfl,hg0,hr0,Nat.le_refl _,by unfold maxLen; omega,rfl,rfl⟩⟩
  have hrun:=run_append_owned_none (P:=P) (w:=w) B t o.type 48 i 5 ht hi (.slice (some ⟨g0,0,none⟩) 0 0) 0 [] hown;unfold Oper.wp
  simp [execOp,ho,resolve,invoke,builtin,hs,hx,hrun,Result.andThen]
  exact h _ w hown (Below.refl _ _)
 ·obtain ⟨ao,k,rfl,hat⟩:=hv;have hpos:0 < ts.length:=Nat.pos_of_ne_zero (fun e=>hn (List.eq_nil_of_length_eq_zero e));obtain ⟨ad,had,_,_⟩:=hat 0 hpos;subst had;have hpl:(tusCells ts).length=ts.length * 5:=tusCells_len ts
  have hnews:∀ (j:Nat) (u:Value),(tusCells ts)[j]? = some u → w.cell? (ad.add j)=some u:=fun j u hu=>tus_front (fun q hq=>by
   obtain ⟨ad',h1,_,h3⟩:=hat q hq
   injection h1 with h1
   subst h1;exact h3) j u hu
  have hr:=run_append_grow (P:=P) w t o.type 48 i z ht hi hz ⟨g0,0,none⟩ 0 0 [] (by simp) (by intro j v hj; simp at hj) ad ts.length k (tusCells ts) (by rw [hpl,hsize]) hnews (by omega) (by omega) (growslice_fits (by omega) (by rw [hby]; omega));simp only [Nat.zero_add,List.nil_append,Array.empty_append] at hr;have hge:=grownCap_ge w ts.length 0 48;have hcm:grownCap w ts.length 0 48≤maxLen:=grownCap_le_maxLen w ts.length 0 48 (by unfold maxLen; omega);unfold Oper.wp
  simp [execOp,ho,resolve,invoke,builtin,hs,hx,hr,Result.andThen]
  refine h _ _ ⟨hpl,.inr ⟨w.heap.size,_,_,rfl,hB,heap_alloc_new w.drew _,hge,hcm,?_,?_⟩⟩ (((Below.refl _ w).drew).alloc (Nat.le_refl _) _)
  ·simp only [Array.size_append,List.size_toArray,size_zeroCells,hzs,hpl,← Nat.add_mul]
   congr 1
   omega
  ·simp only [Array.toList_append];rw [← hpl];exact List.take_left
structure rt9Ops (ops:Array Oper):Prop where
 sz:ops.size=7
 p0:OpIs ops 0 (some 33) (.buildSlice 25 0 #[])
 p1:OpIs ops 1 (some 34) (.move (.tmp 0))
 p2:OpIs ops 2 (some 35) (.call { callee:=.builtin .append,args:=#[.tmp 33,.tmp 34],argTypes:=#[25,25] })
 p3:OpIs ops 3 (some 36) (.load 48 (.tmp 4))
 p4:OpIs ops 4 (some 37) (.buildSlice 25 1 #[(0,.tmp 36)])
 p5:OpIs ops 5 (some 38) (.call { callee:=.builtin .append,args:=#[.tmp 35,.tmp 37],argTypes:=#[25,25] })
 p6:OpIs ops 6 (some 6) (.assign (.tmp 38))
 w2_0:Waits ops 2 0
 w2_1:Waits ops 2 1
 w4_3:Waits ops 4 3
 w5_2:Waits ops 5 2
 w5_4:Waits ops 5 4
 w6_5:Waits ops 6 5
def rt9D:Nat → Nat
 | 0=>33
 | 1=>34
 | 2=>35
 | 3=>36
 | 4=>37
 | 5=>38
 | 6=>6
 | _=>2000
def rt9R (v0:Value) (ts:List Tu) (t:Tu) (B:Nat):Nat → Value → World → Prop
 | 0=>fun v w=>∃ g,v=.slice (some ⟨g,0,none⟩) 0 0∧B≤g∧RowIs w g 48 []
 | 1=>fun v w=>v=v0
 | 2=>fun v w=>OwnU w B v ts
 | 3=>fun v w=>v=tuV t
 | 4=>fun v w=>∃ g,v=.slice (some ⟨g,0,none⟩) 1 1∧g < w.heap.size∧∀ (j:Nat) (u:Value),(tuCells t)[j]? = some u → w.cell? ((⟨g,0,none⟩:Addr).add j)=some u
 | _=>fun _ _=>True
def rt9P (a0:Act) (W:World) (v0:Value) (ts:List Tu) (t:Tu) (B:Nat):MP where
 a0:=a0
 lo:=6
 hi:=39
 n:=39
 k:=7
 W:=W
 D:=rt9D
 R:=rt9R v0 ts t B
theorem rt9_inj:∀ j,j < 7 → ∀ i,i < 7 → j ≠ i → rt9D j ≠ rt9D i:=by decide +kernel
theorem rt9_st (v0:Value) (ts:List Tu) (t:Tu) (B:Nat) {u u':World} (hb:Below u.heap.size u u'):∀ j v,j < 7 → rt9R v0 ts t B j v u → rt9R v0 ts t B j v u':=by
 intro j v hj h
 rcases (show j=0∨j=1∨j=2∨j=3∨j=4∨j=5∨j=6 by omega) with rfl | rfl | rfl | rfl | rfl | rfl | rfl
 ·obtain ⟨g,h1,h2,h3⟩:=h; exact ⟨g,h1,h2,h3.below hb h3.bl⟩
 ·exact h
 ·exact OwnU.below h hb
 ·exact h
 ·obtain ⟨g2,h1,h3,h4⟩:=h; exact ⟨g2,h1,Nat.lt_of_lt_of_le h3 hb.size,fun j u hj=>cell_below hb (by rw [add_block]; exact h3) (h4 j u hj)⟩
 ·exact h
 ·exact h
end Go.Proofs.YtldkidljjbkmbaaGreatDoor
