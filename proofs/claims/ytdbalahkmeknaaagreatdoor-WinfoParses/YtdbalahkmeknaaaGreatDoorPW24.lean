/-
  RefWho, WR1, WR2, WR3.
-/
import Derived.Test.YtdbalahkmeknaaaGreatDoorPW27
import Derived.Test.YtdbalahkmeknaaaGreatDoorPW21
set_option linter.unusedVariables false
set_option linter.unusedSimpArgs false
set_option maxRecDepth 20000
namespace Go.Proofs.YtdbalahkmeknaaaGreatDoor
open Go.RowKit Sc
set_option maxHeartbeats 1000000 in
set_option maxRecDepth 100000 in
theorem refwho_any (u:Uri) (p h:Value) (w:World) (hsm:SmallU 140737488355328 u) (hp:ParsAt w p u.params) (hh:ParsAt w h u.headers) :
  Calls Tryz.prog 52 #[uriV u p h] w fun e w'=>e=.returned (.tuple #[.string ⟨(whoV u).1.toArray⟩,.int .i64 (whoV u).2])∧Below w.heap.size w w':=by
 have hbox:=box_new w u p h;have hbw:Below w.heap.size w (w.alloc (.cells #[.string ⟨u.scheme.toArray⟩,.string ⟨u.user.toArray⟩,.string ⟨u.host.toArray⟩,.int .i64 u.port,p,h] 93)):=(Below.refl _ w).alloc (Nat.le_refl _) _;have hws:=alloc_lt w (.cells #[.string ⟨u.scheme.toArray⟩,.string ⟨u.user.toArray⟩,.string ⟨u.host.toArray⟩,.int .i64 u.port,p,h] 93);have K1:=hid (fun w' (hb:Below w.heap.size w w')=>refcheck_any u p h w' hsm (hp.below hb) (hh.below hb));obtain ⟨a1,c1,rfl⟩:=hp.form;obtain ⟨a2,c2,rfl⟩:=hh.form;have hul:checkV u=0 → u.user.length≤64∧u.host.length≤64:=fun h=>⟨(check_ok h).2.1,(hostB_ok (check_ok h).2.2.1).2⟩
 have hwv:whoV u=whoV u:=rfl
 conv at hwv=>rhs; unfold whoV
 have hwt:Hid ((ByteArray.mk (escL usersK u.user).toArray++⟨#[64]⟩)++⟨u.host.toArray⟩=⟨(whoT u).toArray⟩):=show _=_ by rw [whoT,← appL,← appL]
 obtain ⟨n,hn⟩:∃ n,checkV u=n:=⟨_,rfl⟩
 rw [hn] at K1 hwv hul;clear hn hp hh hsm;unfold uriV at K1 ⊢;by_cases e1:n=0
 ·subst e1;obtain ⟨hu64,hh64⟩:=hul rfl;have hel:=escL_len usersK u.user;have hl1:¬ 9223372036854775807 < (escL usersK u.user).length+1:=by omega
  have hl2:¬ 9223372036854775807 < (escL usersK u.user).length+1+u.host.length:=by omega
  rw [if_neg (by simp)] at hwv;by_cases eu:u.user=[]
  ·have hue:u.user.isEmpty=true:=by simp [eu]
   rw [if_pos eu] at hwv;have HV:=hid hwv;clear hwv eu hul
   go_enter Tryz.func52,Tryz.ntmps52
   go_wp2_with fail
   refine (K1.out _ hbw).mono ?_
   rintro e w2 ⟨rfl,hw2⟩;have hb2:=hbw.trans (hw2.mono hbw.size);obtain ⟨g0,g1,g2,g3,g4,g5⟩:=hbox.below hw2 hws;clear hbox hbw hws hw2;go_wp2;go_ret2;exact ⟨ret_who HV.out,hb2⟩
  ·have hue:u.user.isEmpty=false:=by simpa using eu
   rw [if_neg eu] at hwv;have HV:=hid hwv;have K3:=hid (fun w'=>refesc_list u.user usersK w' (by omega) (by decide));clear hwv eu hul
   go_enter Tryz.func52,Tryz.ntmps52
   go_wp2_with fail
   refine (K1.out _ hbw).mono ?_
   rintro e w2 ⟨rfl,hw2⟩;have hacc:=(hbw.trans (hw2.mono hbw.size)).drew;have hlt:w.heap.size < w2.drew.heap.size:=Nat.lt_of_lt_of_le hws hw2.size;obtain ⟨q0,q1,q2,q3,q4,q5⟩:=hbox.below hw2 hws;have hbx:Hid (BoxU w2.drew w.heap.size u (.slice a1 u.params.length c1) (.slice a2 u.headers.length c2)):=⟨q0,q1,q2,q3,q4,q5⟩
   obtain ⟨g0,g1,g2,g3,g4,g5⟩:=hbx.out;clear hbox hbw hws hw2;go_wp2
   go_region_law (go_simp; go_at_call 98; refine (K3.out _).mono ?_; rintro e w3 ⟨rfl,hw3⟩; replace hbx:=hid (hbx.out.below hw3 hlt); replace hacc:=hacc.trans (hw3.mono hacc.size); obtain ⟨g0,g1,g2,g3,g4,g5⟩:=hbx.out; clear hw3)
   all_goals (
    try go_simp
    go_wp2;rw [hwt.out];go_ret2;exact ⟨ret_who HV.out,hacc⟩)
 ·have e1a:(n != 0)=true:=by simpa using e1
  have e1b:(n==0)=false:=by simpa using e1
  rw [if_pos e1] at hwv;have HV:=hid hwv;clear hwv hul
  go_enter Tryz.func52,Tryz.ntmps52
  go_wp2_with fail
  refine (K1.out _ hbw).mono ?_
  rintro e w2 ⟨rfl,hw2⟩;have hb2:=hbw.trans (hw2.mono hbw.size);obtain ⟨g0,g1,g2,g3,g4,g5⟩:=hbox.below hw2 hws;clear hbox hbw hws hw2;go_wp2_with fail
  refine (K1.out _ hb2).mono ?_
  rintro e w3 ⟨rfl,hw3⟩;have hb3:=hb2.trans (hw3.mono hb2.size);clear g0 g1 g2 g3 g4 g5 hw3;go_wp2;go_ret2;exact ⟨ret_who HV.out,hb3⟩
theorem refparse4 {l:List UInt8} {u:Uri} {er:Int} (h:parseV ([115,105,112,58]++l)=(u,er)) (w:World) (hs:l.length+4≤1048576) :
  Calls Tryz.prog 51 #[.string (⟨#[115,105,112,58]⟩++⟨l.toArray⟩)] w fun e w'=>∃ a1 k1 a2 k2,e=.returned (.tuple #[.agg #[.string ⟨u.scheme.toArray⟩,.string ⟨u.user.toArray⟩,.string ⟨u.host.toArray⟩,.int .i64 u.port,.slice a1 u.params.length k1,.slice a2 u.headers.length k2],.int .i64 er])∧ParsAt w' (.slice a1 u.params.length k1) u.params∧ParsAt w' (.slice a2 u.headers.length k2) u.headers∧Below w.heap.size w w':=by
 have k:=refparse_any ([115,105,112,58]++l) w (by simp; omega);rw [h,← appL] at k;refine k.mono ?_
 rintro e w' ⟨p,q,rfl,hp,hq,hb⟩;have hp2:=hp.parsAt;have hq2:=hq.parsAt;obtain ⟨a1,k1,e1⟩:=hp2.form;obtain ⟨a2,k2,e2⟩:=hq2.form;simp only at e1 e2 hp2 hq2;subst e1 e2;exact ⟨a1,k1,a2,k2,rfl,hp2,hq2,hb⟩
set_option maxHeartbeats 1000000 in
set_option maxRecDepth 100000 in
theorem refhost_who (l:List UInt8) (w:World) (hs:l.length+4≤1048576) :
  Calls Tryz.prog 27 #[.string ⟨l.toArray⟩] w fun e w'=>e=.returned (.tuple #[.string ⟨(hostV l).1.toArray⟩,.int .i64 (hostV l).2])∧Below w.heap.size w w':=by
 obtain ⟨u,er,hpv⟩:∃ u er,parseV ([115,105,112,58]++l)=(u,er):=⟨_,_,rfl⟩
 have K1:=hid (refparse4 hpv w hs);by_cases her:er=0
 ·subst her;have hcz:=parse_checked hpv;have hsm:=small_of_check hcz;obtain ⟨t,n,hwv⟩:∃ t n,whoV u=(t,n):=⟨_,_,rfl⟩
  have K2:=hid (fun (w':World) (p h:Value)=>refwho_any u p h w' hsm);rw [hwv] at K2;unfold uriV at K2;simp only at K2;by_cases hn:n=0
  ·subst hn;by_cases ht:t=l
   ·subst ht;have HV:=hid (host_yes (t:=t) hpv hwv);clear hpv hwv hcz hsm
    go_enter Tryz.func27,Tryz.ntmps27
    go_wp2_with fail
    refine K1.out.mono ?_
    rintro e w1 ⟨a1,k1,a2,k2,rfl,hp,hq,hw1⟩;have hb1:=hw1.alloc hw1.size (.cells #[.string ⟨u.scheme.toArray⟩,.string ⟨u.user.toArray⟩,.string ⟨u.host.toArray⟩,.int .i64 u.port,.slice a1 u.params.length k1,.slice a2 u.headers.length k2] 93);have hx:=box_new w1 u (.slice a1 u.params.length k1) (.slice a2 u.headers.length k2);have hlx:=alloc_lt w1 (.cells #[.string ⟨u.scheme.toArray⟩,.string ⟨u.user.toArray⟩,.string ⟨u.host.toArray⟩,.int .i64 u.port,.slice a1 u.params.length k1,.slice a2 u.headers.length k2] 93);have HX:=hid hx;have HP:=hid (hp.alloc (.cells #[.string ⟨u.scheme.toArray⟩,.string ⟨u.user.toArray⟩,.string ⟨u.host.toArray⟩,.int .i64 u.port,.slice a1 u.params.length k1,.slice a2 u.headers.length k2] 93));have HQ:=hid (hq.alloc (.cells #[.string ⟨u.scheme.toArray⟩,.string ⟨u.user.toArray⟩,.string ⟨u.host.toArray⟩,.int .i64 u.port,.slice a1 u.params.length k1,.slice a2 u.headers.length k2] 93));obtain ⟨g0,g1,g2,g3,g4,g5⟩:=hx;clear hp hq hw1 K1;go_wp2_with fail
    refine (K2.out _ _ _ HP.out HQ.out).mono ?_
    rintro e w2 ⟨rfl,hw2⟩;have hb2:=hb1.trans (hw2.mono hb1.size);clear g0 g1 g2 g3 g4 g5;obtain ⟨g0,g1,g2,g3,g4,g5⟩:=HX.out.below hw2 hlx;clear hw2 HP HQ HX hlx;go_wp2;go_ret2;exact ⟨ret_who HV.out,hb2⟩
   ·have HV:=hid (host_no hpv (by rw [hwv]; simp [ht]));have ht2:(t==l)=false:=by simpa using ht
    clear hpv hwv hcz hsm
    go_enter Tryz.func27,Tryz.ntmps27
    go_wp2_with fail
    refine K1.out.mono ?_
    rintro e w1 ⟨a1,k1,a2,k2,rfl,hp,hq,hw1⟩;have hb1:=hw1.alloc hw1.size (.cells #[.string ⟨u.scheme.toArray⟩,.string ⟨u.user.toArray⟩,.string ⟨u.host.toArray⟩,.int .i64 u.port,.slice a1 u.params.length k1,.slice a2 u.headers.length k2] 93);have hx:=box_new w1 u (.slice a1 u.params.length k1) (.slice a2 u.headers.length k2);have HP:=hid (hp.alloc (.cells #[.string ⟨u.scheme.toArray⟩,.string ⟨u.user.toArray⟩,.string ⟨u.host.toArray⟩,.int .i64 u.port,.slice a1 u.params.length k1,.slice a2 u.headers.length k2] 93));have HQ:=hid (hq.alloc (.cells #[.string ⟨u.scheme.toArray⟩,.string ⟨u.user.toArray⟩,.string ⟨u.host.toArray⟩,.int .i64 u.port,.slice a1 u.params.length k1,.slice a2 u.headers.length k2] 93));obtain ⟨g0,g1,g2,g3,g4,g5⟩:=hx;clear hp hq hw1 K1;go_wp2_with fail
    refine (K2.out _ _ _ HP.out HQ.out).mono ?_
    rintro e w2 ⟨rfl,hw2⟩;have hb2:=hb1.trans (hw2.mono hb1.size);clear g0 g1 g2 g3 g4 g5 hw2 HP HQ;go_wp2;go_ret2;exact ⟨ret_who HV.out,hb2⟩
  ·have HV:=hid (host_no hpv (by rw [hwv]; simp [hn]));have hn1:(n != 0)=true:=by simpa using hn
   have hn2:(n==0)=false:=by simpa using hn
   clear hpv hwv hcz hsm
   go_enter Tryz.func27,Tryz.ntmps27
   go_wp2_with fail
   refine K1.out.mono ?_
   rintro e w1 ⟨a1,k1,a2,k2,rfl,hp,hq,hw1⟩;have hb1:=hw1.alloc hw1.size (.cells #[.string ⟨u.scheme.toArray⟩,.string ⟨u.user.toArray⟩,.string ⟨u.host.toArray⟩,.int .i64 u.port,.slice a1 u.params.length k1,.slice a2 u.headers.length k2] 93);have hx:=box_new w1 u (.slice a1 u.params.length k1) (.slice a2 u.headers.length k2);have HP:=hid (hp.alloc (.cells #[.string ⟨u.scheme.toArray⟩,.string ⟨u.user.toArray⟩,.string ⟨u.host.toArray⟩,.int .i64 u.port,.slice a1 u.params.length k1,.slice a2 u.headers.length k2] 93));have HQ:=hid (hq.alloc (.cells #[.string ⟨u.scheme.toArray⟩,.string ⟨u.user.toArray⟩,.string ⟨u.host.toArray⟩,.int .i64 u.port,.slice a1 u.params.length k1,.slice a2 u.headers.length k2] 93));obtain ⟨g0,g1,g2,g3,g4,g5⟩:=hx;clear hp hq hw1 K1;go_wp2_with fail
   refine (K2.out _ _ _ HP.out HQ.out).mono ?_
   rintro e w2 ⟨rfl,hw2⟩;have hb2:=hb1.trans (hw2.mono hb1.size);clear g0 g1 g2 g3 g4 g5 hw2 HP HQ;go_wp2;go_ret2;exact ⟨ret_who HV.out,hb2⟩
 ·have HV:=hid (host_bad hpv her);have he1:(er != 0)=true:=by simpa using her
  have he2:(er==0)=false:=by simpa using her
  clear hpv
  go_enter Tryz.func27,Tryz.ntmps27
  go_wp2_with fail
  refine K1.out.mono ?_
  rintro e w1 ⟨a1,k1,a2,k2,rfl,hp,hq,hw1⟩;have hb1:=hw1.alloc hw1.size (.cells #[.string ⟨u.scheme.toArray⟩,.string ⟨u.user.toArray⟩,.string ⟨u.host.toArray⟩,.int .i64 u.port,.slice a1 u.params.length k1,.slice a2 u.headers.length k2] 93);clear hp hq hw1 K1;go_wp2;go_ret2;exact ⟨ret_who HV.out,hb1⟩
set_option maxHeartbeats 4000000 in
set_option maxRecDepth 100000 in
theorem rcheck15_any (d:Inf) (ws:Value) (w:World) (hsm:SmallI 1048576 d) (hws:WtsAt w ws d.ws) :
  Calls Tryz.prog 13 #[infV d ws] w fun e w'=>e=.returned (.int .i64 (checkI d))∧Below w.heap.size w w':=by
 obtain ⟨vr,rs,wl⟩:=d;obtain ⟨hvr,hrs,hz1,hst⟩:=hsm;simp only at hvr hrs hz1 hst hws;have KH:=hid (fun w'=>refhost_who rs w' hrs);have hv:(vr < 0∨2147483647 < vr∨(hostV rs).2 ≠ 0∨198 < wl.length) → checkI ⟨vr,rs,wl⟩=150:=fun h=>checkI_bad1 h;have hok:0≤vr → vr≤2147483647 → (hostV rs).2=0 → wl.length≤198 → checkI ⟨vr,rs,wl⟩=if wtsOk wl=true then 0 else 150:=fun h0 h1 h2 h3=>chkI_is h0 h1 h2 h3
 unfold infV
 simp only
 generalize checkI ⟨vr,rs,wl⟩=R at hv hok ⊢;obtain ⟨ta,tc,rfl,hcp,htc⟩:=hws;have HTC:=hid htc;have HST:=hid hst;obtain ⟨tn,htn⟩:∃ tn,tn=wl.length:=⟨_,rfl⟩
 rw [← htn] at hz1 hv hok hcp ⊢;have HTN:=hid htn;have s0:=i64_of hvr;clear htc hst htn hvr;generalize hostV rs=HV at KH hv hok;obtain ⟨hs,he⟩:=HV;simp only at KH hv hok;have hbx:=box3I w (.int .i64 vr) (.string ⟨rs.toArray⟩) (.slice ta tn tc) 24;have hbn:Below w.heap.size w (w.alloc (.cells #[.int .i64 vr,.string ⟨rs.toArray⟩,.slice ta tn tc] 24)):=(Below.refl _ w).alloc (Nat.le_refl _) _;have hbr:=rc_row3 w (.int .i64 vr) (.string ⟨rs.toArray⟩) (.slice ta tn tc) 24;have hlt0:=alloc_lt w (.cells #[.int .i64 vr,.string ⟨rs.toArray⟩,.slice ta tn tc] 24);obtain ⟨x0,x1,x2,_,_,_⟩:=hbx;by_cases hbad:vr < 0∨2147483647 < vr∨he ≠ 0∨198 < tn
 ·have HR:=hid (hv hbad);clear hv hok HTC HST
  go_enter Tryz.func13,Tryz.ntmps13
  go_wp2_with fail
  generalize World.alloc w _=W0 at x0 x1 x2 hbn hbr hlt0 ⊢;refine (KH.out _).mono ?_
  rintro e w1 ⟨rfl,hw1⟩;obtain ⟨y0,y1,y2,_,_,_⟩:=(hbr.below hw1 hlt0).rc3;have hbb:=hid (hbn.trans (hw1.mono hbn.size));clear x0 x1 x2 hbn hbr hlt0 KH hw1;by_cases h1:vr < 0
  ·have h1d:decide (vr < 0)=true:=decide_eq_true h1;clear hbad;go_wp2;go_ret;exact ⟨ret_int HR.out.symm,hbb.out⟩
  have h1d:decide (vr < 0)=false:=decide_eq_false h1;by_cases h2:2147483647 < vr
  ·have h2d:decide (2147483647 < vr)=true:=decide_eq_true h2;clear hbad;go_wp2;go_ret;exact ⟨ret_int HR.out.symm,hbb.out⟩
  have h2d:decide (2147483647 < vr)=false:=decide_eq_false h2;by_cases h3:he=0
  ·have h3d:(he != 0)=false:=by simp [h3]
   have h4:198 < tn:=by rcases hbad with h | h | h | h <;> first | exact h | (exfalso; first | exact h1 h | exact h2 h | exact h h3)
   have h4d:(198:Int) < (tn:Int):=by omega
   clear hbad h3;go_wp2;go_ret;exact ⟨ret_int HR.out.symm,hbb.out⟩
  ·have h3d:(he != 0)=true:=by simpa using h3
   clear hbad;go_wp2;go_ret;exact ⟨ret_int HR.out.symm,hbb.out⟩
 simp only [not_or,Int.not_lt,Nat.not_lt,ne_eq,Decidable.not_not] at hbad;obtain ⟨h1,h2,h3,h4⟩:=hbad;have hR0:=hok h1 h2 h3 h4;have HBT:Hid (wtsOk wl=false → R=150):=fun h=>by rw [hR0,h]; simp
 have HOK:Hid (wtsOk wl=true → R=0):=fun h=>by rw [hR0,h]; rfl
 subst h3;have h1d:decide (vr < 0)=false:=decide_eq_false (by omega);have h2d:decide (2147483647 < vr)=false:=decide_eq_false (by omega);have h4d:¬ (198:Int) < (tn:Int):=by omega
 clear hv hok hR0
 go_enter Tryz.func13,Tryz.ntmps13
 go_wp2_with fail
 generalize World.alloc w _=W0 at x0 x1 x2 hbn hbr hlt0 ⊢;refine (KH.out _).mono ?_
 rintro e w1 ⟨rfl,hw1⟩;obtain ⟨y0,y1,y2,_,_,_⟩:=(hbr.below hw1 hlt0).rc3;have hb1:=hbn.trans (hw1.mono hbn.size);have HBR:=hid (hbr.below hw1 hlt0);have hlt1:=Nat.lt_of_lt_of_le hlt0 hw1.size;clear x0 x1 x2 hbn hbr hlt0 KH hw1;go_wp2;clear y0 y1 y2
 go_loopw [5] (fun i wr=>∃ j:Nat,j≤tn∧i=.int .i64 j∧Hid (wtsOk (wl.take j)=true)∧Below w1.heap.size w1 wr) (fun i _=>tn - (intOf i).toNat)
 case atStart=>exact ⟨0,Nat.zero_le _,rfl,show _=_ from rfl,Below.refl _ _⟩
 case round =>
  obtain ⟨j,hjn,rfl,ha,hb⟩:=hrel;have hbw:Below w.heap.size w wr:=hb1.trans (hb.mono hb1.size);obtain ⟨y0,y1,y2,_,_,_⟩:=(HBR.out.below hb hlt1).rc3;by_cases hlt:j < tn
  ·have hjl:j < wl.length:=by have:=HTN.out; omega
   obtain ⟨ad,hao,hab,c⟩:=HTC.out j hjl;subst hao;have c:=c.below hbw hab;obtain ⟨s1,s2,s3,s4⟩:=HST.out wl[j] (List.getElem_mem hjl);have s5:=i64_of s4;have HBad:Hid (wtP wl[j]=false → R=150):=fun h=>HBT.out (wts_bad hjl h);have HTw:Hid (∀ m (hm:m < j),((wl[m]'(by omega)).id==wl[j].id)=true → R=150):=fun m hm h=>HBT.out (wts_twice hjl hm h);have HSn:Hid (wtP wl[j]=true → (wl.take j).all (fun q=>!(q.id==wl[j].id))=true → wtsOk (wl.take (j+1))=true):=fun h1 h2=>wts_snoc hjl ha.out h1 h2;have KU:=hid (fun w'=>refhost_who wl[j].uri w' s1);have KT:=hid (fun w'=>reftoken_list wl[j].ev w' (by omega));have htp:wtP wl[j]=(decide (1≤wl[j].id) && (decide (wl[j].id≤1099511627776) && (decide ((hostV wl[j].uri).2=0) && (statP wl[j].stat && tokenB wl[j].ev)))):=rfl;obtain ⟨W2,hW2⟩:∃ W2,W2=wr.alloc (.cells #[.int .i64 wl[j].id,.string ⟨wl[j].uri.toArray⟩,.string ⟨wl[j].stat.toArray⟩,.string ⟨wl[j].ev.toArray⟩] 51):=⟨_,rfl⟩
   have hbW:Below w1.heap.size w1 W2:=by rw [hW2]; exact hb.alloc hb.size _
   have hwW:Below w.heap.size w W2:=by rw [hW2]; exact hbw.alloc hbw.size _
   have hrT:RowIs W2 wr.heap.size 51 [.int .i64 wl[j].id,.string ⟨wl[j].uri.toArray⟩,.string ⟨wl[j].stat.toArray⟩,.string ⟨wl[j].ev.toArray⟩]:=by rw [hW2]; exact rc_row4 _ _ _ _ _ _
   have hltT:wr.heap.size < W2.heap.size:=by rw [hW2]; exact alloc_lt _ _
   have HM:Hid (∀ m (hm:m < j),∀ w',Below w.heap.size w w' → w'.cell? (ad.add (m * 4))=some (.int .i64 (wl[m]'(by omega)).id)):=fun m hm w' hb'=>by
    obtain ⟨ad2,hao2,hab2,c2⟩:=HTC.out m (by omega)
    have:ad2=ad:=(Option.some.inj hao2).symm
    subst this;exact (c2.below hb' hab).c0
   have HSM:Hid (∀ m (hm:m < j),(Lit.int .i64 (wl[m]'(by omega)).id).wf=true):=fun m hm=>(HST.out wl[m] (List.getElem_mem _)).2.2.2;clear HBT ha HST s1 s2 s3 s4 HTC HOK;generalize hTj:wl[j]=T at c HBad HTw HSn KU KT htp hW2 hrT s5;obtain ⟨ti,tu,ts,te⟩:=T;simp only at c KU KT htp hW2 hrT HTw HSn s5;generalize hostV tu=HU at KU htp;obtain ⟨hs2,he2⟩:=HU;simp only at KU htp;generalize tokenB te=TB at KT htp;obtain ⟨c0,c1,c2,c3⟩:=c;simp only at c0 c1 c2 c3;have q6:(j:Int) < (tn:Int):=by omega
   generalize wtP ⟨ti,tu,ts,te⟩=WP at HBad HSn htp;have HTP:=hid htp;clear hTj htp;go_wp2_with fail
   clear c0 c1 c2 c3 y0 y1 y2;rw [← hW2];clear hW2;refine (KU.out _).mono ?_
   rintro e w2 ⟨rfl,hw2⟩;have hb2:=hbW.trans (hw2.mono hbW.size);have hww:=hwW.trans (hw2.mono hwW.size);have HRT:=hid (hrT.below hw2 hltT);clear hrT hw2 KU hbW hwW hltT;obtain ⟨b0,b1,b2,b3,_,_,_,_⟩:=HRT.out.rc4
   go_upto_region 9 with fail
   go_cut [84] from 52 to 84 (fun c wx=>c=.bool (!WP)∧wx=w2)
   case first =>
    have htp:=HTP.out;clear HTP HBad HTw HSn HM;by_cases p1:ti < 1
    ·have e:WP=false:=by rw [htp,decide_eq_false (show ¬ 1≤ti by omega)]; rfl
     have p1d:decide (ti < 1)=true:=decide_eq_true p1;subst e;clear htp;go_wp2
     go_meet
     case rel=>exact ⟨rfl,rfl⟩
    have p1d:decide (ti < 1)=false:=decide_eq_false p1;rw [decide_eq_true (show 1≤ti by omega),Bool.true_and] at htp;by_cases p2:1099511627776 < ti
    ·have e:WP=false:=by rw [htp,decide_eq_false (show ¬ ti≤1099511627776 by omega)]; rfl
     have p2d:decide (1099511627776 < ti)=true:=decide_eq_true p2;subst e;clear htp;go_wp2
     go_meet
     case rel=>exact ⟨rfl,rfl⟩
    have p2d:decide (1099511627776 < ti)=false:=decide_eq_false p2;rw [decide_eq_true (show ti≤1099511627776 by omega),Bool.true_and] at htp;by_cases p3:he2=0
    case neg =>
     have e:WP=false:=by rw [htp,decide_eq_false p3]; rfl
     have p3d:(he2 != 0)=true:=by simpa using p3
     subst e;clear htp p3;go_wp2
     go_meet
     case rel=>exact ⟨rfl,rfl⟩
    have p3d:(he2 != 0)=false:=by simp [p3]
    rw [decide_eq_true p3,Bool.true_and] at htp;clear p3;have hst:statP ts=((ts==[112,101,110,100,105,110,103]) || ((ts==[97,99,116,105,118,101]) || (ts==[116,101,114,109,105,110,97,116,101,100]))):=rfl;rw [hst] at htp;clear hst
    cases o1:(ts==[112,101,110,100,105,110,103]) with
    | true =>
     have o1n:(ts != [112,101,110,100,105,110,103])=false:=by rw [bne,o1]; rfl
     rw [o1,Bool.true_or,Bool.true_and] at htp;subst htp;go_wp2_with (go_at_call 28; refine (KT.out _).mono ?_; rintro e w' ⟨rfl,hw'⟩; rw [hw']; clear hw' w')
     go_meet
     case rel=>exact ⟨rfl,rfl⟩
    | false =>
    have o1n:(ts != [112,101,110,100,105,110,103])=true:=by rw [bne,o1]; rfl
    rw [o1,Bool.false_or] at htp
    cases o2:(ts==[97,99,116,105,118,101]) with
    | true =>
     have o2n:(ts != [97,99,116,105,118,101])=false:=by rw [bne,o2]; rfl
     rw [o2,Bool.true_or,Bool.true_and] at htp;subst htp;go_wp2_with (go_at_call 28; refine (KT.out _).mono ?_; rintro e w' ⟨rfl,hw'⟩; rw [hw']; clear hw' w')
     go_meet
     case rel=>exact ⟨rfl,rfl⟩
    | false =>
    have o2n:(ts != [97,99,116,105,118,101])=true:=by rw [bne,o2]; rfl
    rw [o2,Bool.false_or] at htp
    cases o3:(ts==[116,101,114,109,105,110,97,116,101,100]) with
    | true =>
     have o3n:(ts != [116,101,114,109,105,110,97,116,101,100])=false:=by rw [bne,o3]; rfl
     rw [o3,Bool.true_and] at htp;subst htp;go_wp2_with (go_at_call 28; refine (KT.out _).mono ?_; rintro e w' ⟨rfl,hw'⟩; rw [hw']; clear hw' w')
     go_meet
     case rel=>exact ⟨rfl,rfl⟩
    | false =>
     have o3n:(ts != [116,101,114,109,105,110,97,116,101,100])=true:=by rw [bne,o3]; rfl
     rw [o3,Bool.false_and] at htp;subst htp;go_wp2
     go_meet
     case rel=>exact ⟨rfl,rfl⟩
   case rest =>
    obtain ⟨rfl,hwc⟩:=hcut;subst hwc;clear KT HTP b0 b1 b2 b3
    cases WP with
    | false =>
     have hR:=hid (HBad.out rfl);clear HBad HTw HSn HM;go_wp2;go_ret;exact ⟨ret_int hR.out.symm,hww⟩
    | true =>
    have HSn2:Hid ((wl.take j).all (fun q=>!(q.id==ti))=true → wtsOk (wl.take (j+1))=true):=fun h=>HSn.out rfl h;clear HBad HSn;go_wp2
    go_loopw [9] (fun i wr2=>∃ (m q:Nat),m≤j∧i=.int .i64 m∧wr2=wc.drewN q∧Hid ((wl.take m).all (fun q=>!(q.id==ti))=true)) (fun i _=>j - (intOf i).toNat)
    case atStart=>exact ⟨0,0,Nat.zero_le _,rfl,rfl,show _=_ from rfl⟩
    case round =>
     obtain ⟨m,q,hmj,rfl,rfl,hall⟩:=hrel;by_cases hml:m < j
     ·have hmn:m < wl.length:=by omega
      have cm:=HM.out m hml wc hww;have HT2:=hid (HTw.out m hml);have sm:=i64_of (HSM.out m hml);have hsn:Hid ((wl[m].id==ti)=false → (wl.take (m+1)).all (fun q=>!(q.id==ti))=true):=fun h=>by rw [List.take_succ_eq_append_getElem hmn,List.all_append,hall.out]; simp [h]
      have q7:(m:Int) < (j:Int):=by omega
      have q8:(m:Int) < (tn:Int):=by omega
      obtain ⟨b0,b1,b2,b3,_,_,_,_⟩:=HRT.out.rc4;obtain ⟨y0,y1,y2,_,_,_⟩:=(HBR.out.below hb2 hlt1).rc3;clear HTw HSn2 hall HM HSM;generalize wl[m].id=mi at cm HT2 hsn sm
      cases hcmp:(mi==ti) with
      | true =>
       have hR:=hid (HT2.out hcmp);clear HT2 hsn;go_wp2
       go_quiet (fail)
       go_wp2;go_ret;exact ⟨ret_int hR.out.symm,by first | exact hww.trans (below_drewN _ _ |>.mono hww.size) | (rw [World.drewN_drewN]; exact hww.trans (below_drewN _ _ |>.mono hww.size))⟩
      | false =>
       have hall2:=hid (hsn.out hcmp);clear HT2 hsn;go_wp2
       go_quiet (fail)
       go_wp2;go_roundw
       case rel=>exact ⟨m+1,q+nq,by omega,by go_num,by first | rfl | rw [World.drewN_drewN],hall2⟩
       case measure=>simp [intOf]; omega
     ·have hmj2:m=j:=by omega
      subst hmj2;have hN:=hid (HSn2.out hall.out);clear HTw HSn2 hall HM HSM;go_wp2;go_roundw
      case rel=>exact ⟨m+1,by omega,by go_num,hN,hb2.trans (below_drewN _ _ |>.mono hb2.size)⟩
      case measure=>simp [intOf]; omega
  ·have q6:¬ (j:Int) < (tn:Int):=by omega
   have hR:=hid (HOK.out (by have h:=ha.out; rw [List.take_of_length_le (by have:=HTN.out; omega)] at h; exact h));clear HBT HOK ha HTC HST;go_wp2;go_ret;exact ⟨ret_int hR.out.symm,hbw⟩
set_option maxHeartbeats 1000000 in
set_option maxRecDepth 100000 in
theorem ratr15_any (x y:ByteArray) (w:World) :
  Calls Tryz.prog 47 #[.string x,.string y] w fun e w'=>e=.returned (.agg #[.string x,.string y,.bool true])∧Below w.heap.size w w':=by
 have hr0':=rc_row3 w (.string ⟨#[]⟩) (.string ⟨#[]⟩) (.bool false) 70;have hb0:Below w.heap.size w (w.alloc (.cells #[.string ⟨#[]⟩,.string ⟨#[]⟩,.bool false] 70)):=(Below.refl _ w).alloc (Nat.le_refl _) _;have hlt0:=alloc_lt w (.cells #[.string ⟨#[]⟩,.string ⟨#[]⟩,.bool false] 70);obtain ⟨c0,c1,c2,f0,f1,f2⟩:=hr0'.rc3;have hr0:=hid hr0';clear hr0'
 go_enter Tryz.func47,Tryz.ntmps47
 go_wp2;have hr5:=rc_store3 hr0.out (.string x) (.string y) (.bool true);have hb5:=rc_below3 hb0 w.heap.size (Nat.le_refl _) (.string x) (.string y) (.bool true);generalize World.setCell _ _ _=w5 at hr5 hb5 ⊢;obtain ⟨d0,d1,d2,_,_,_⟩:=hr5.rc3
 try simp only [Exit.inBlock,Exit.then]
 refine bodyPost_ret (v:=.agg #[.string x,.string y,.bool true]) (by simp [results,Tryz.results47,go_sem,d0,d1,d2]; try rfl) rfl ?_
 exact ⟨rfl,(Below.refl _ w).alloc (Nat.le_refl _) _⟩
set_option maxHeartbeats 2000000 in
set_option maxRecDepth 100000 in
theorem rprint15_bad (d:Inf) (ws:Value) (w:World) (hsm:SmallI 1048576 d) (hws:WtsAt w ws d.ws) (hc:checkI d ≠ 0) :
  Calls Tryz.prog 11 #[infV d ws] w fun e w'=>e=.returned (.tuple #[.string ⟨#[]⟩,.int .i64 (checkI d)])∧Below w.heap.size w w':=by
 have KC:=hid (fun w' (h:Below w.heap.size w w')=>rcheck15_any d ws w' hsm (hws.below h));obtain ⟨vr,rs,wl⟩:=d;unfold infV at KC ⊢;simp only at KC ⊢;generalize checkI ⟨vr,rs,wl⟩=R at KC hc ⊢;have r1:(R != 0)=true:=by simpa using hc
 clear hc hsm hws;have hbx:=box3I w (.int .i64 vr) (.string ⟨rs.toArray⟩) ws 24;have hbn:Below w.heap.size w (w.alloc (.cells #[.int .i64 vr,.string ⟨rs.toArray⟩,ws] 24)):=(Below.refl _ w).alloc (Nat.le_refl _) _;have hbr:=rc_row3 w (.int .i64 vr) (.string ⟨rs.toArray⟩) ws 24;have hlt0:=alloc_lt w (.cells #[.int .i64 vr,.string ⟨rs.toArray⟩,ws] 24);obtain ⟨x0,x1,x2,_,_,_⟩:=hbx
 go_enter Tryz.func11,Tryz.ntmps11
 go_wp2_with fail
 generalize World.alloc w _=W0 at x0 x1 x2 hbn hbr hlt0 ⊢;refine (KC.out _ hbn).mono ?_
 rintro e w1 ⟨rfl,hw1⟩;have hb1:=hbn.trans (hw1.mono hbn.size);obtain ⟨y0,y1,y2,_,_,_⟩:=(hbr.below hw1 hlt0).rc3;clear x0 x1 x2;go_wp2_with fail
 refine (KC.out _ hb1).mono ?_
 rintro e w2 ⟨rfl,hw2⟩;go_wp2;go_ret2;exact ⟨rfl,hb1.trans (hw2.mono hb1.size)⟩
theorem ownP_newI (W:World) (B:Nat) (hB:B≤W.heap.size) (ps:List Par) (n:Nat) (hn:ps.length=n) (hm:n≤1000):OwnP (W.alloc (.cells (parsCells ps).toArray 70)) B (.slice (some ⟨W.heap.size,0,none⟩) n n) ps:=by
 subst hn;refine ⟨parsCells_len ps,.inr ⟨_,_,(parsCells ps).toArray,rfl,hB,heap_alloc_new _ _,Nat.le_refl _,by unfold maxLen; omega,by simp [parsCells_len],?_⟩⟩
 rw [List.take_of_length_le (by simp [parsCells_len])]
structure rn7Ops (ops:Array Oper):Prop where
 sz:ops.size=20
 p0:OpIs ops 0 (some 37) (.move (.tmp 3))
 p1:OpIs ops 1 (some 38) (.fieldAddr 51 (.tmp 5) 0)
 p2:OpIs ops 2 (some 39) (.load 3 (.tmp 38))
 p3:OpIs ops 3 (some 40) (.call { callee:=.value (.func 48),args:=#[.tmp 39],argTypes:=#[3] })
 p4:OpIs ops 4 (some 41) (.binOp .add 9 (.const (.string ⟨#[119]⟩)) (.tmp 40) 9)
 p5:OpIs ops 5 (some 42) (.call { callee:=.value (.func 47),args:=#[.const (.string ⟨#[105,100]⟩),.tmp 41],argTypes:=#[9,9] })
 p6:OpIs ops 6 (some 43) (.fieldAddr 51 (.tmp 5) 2)
 p7:OpIs ops 7 (some 44) (.load 9 (.tmp 43))
 p8:OpIs ops 8 (some 45) (.call { callee:=.value (.func 47),args:=#[.const (.string ⟨#[115,116,97,116,117,115]⟩),.tmp 44],argTypes:=#[9,9] })
 p9:OpIs ops 9 (some 46) (.fieldAddr 51 (.tmp 5) 3)
 p10:OpIs ops 10 (some 47) (.load 9 (.tmp 46))
 p11:OpIs ops 11 (some 48) (.call { callee:=.value (.func 47),args:=#[.const (.string ⟨#[101,118,101,110,116]⟩),.tmp 47],argTypes:=#[9,9] })
 p12:OpIs ops 12 (some 49) (.buildSlice 47 3 #[(0,.tmp 42),(1,.tmp 45),(2,.tmp 48)])
 p13:OpIs ops 13 (some 50) (.fieldAddr 51 (.tmp 5) 1)
 p14:OpIs ops 14 (some 51) (.load 9 (.tmp 50))
 p15:OpIs ops 15 (some 52) (.binOp .add 9 (.const (.string ⟨#[115,105,112,58]⟩)) (.tmp 51) 9)
 p16:OpIs ops 16 (some 53) (.build 49 #[(0,.const (.int .i64 2)),(1,.const (.string ⟨#[119,97,116,99,104,101,114]⟩)),(2,.tmp 49),(3,.tmp 52)])
 p17:OpIs ops 17 (some 54) (.buildSlice 40 1 #[(0,.tmp 53)])
 p18:OpIs ops 18 (some 55) (.call { callee:=.builtin .append,args:=#[.tmp 37,.tmp 54],argTypes:=#[40,40] })
 p19:OpIs ops 19 (some 3) (.assign (.tmp 55))
 w2_1:Waits ops 2 1
 w3_2:Waits ops 3 2
 w4_3:Waits ops 4 3
 w5_4:Waits ops 5 4
 w7_6:Waits ops 7 6
 w8_7:Waits ops 8 7
 w10_9:Waits ops 10 9
 w11_10:Waits ops 11 10
 w12_5:Waits ops 12 5
 w12_8:Waits ops 12 8
 w12_11:Waits ops 12 11
 w14_13:Waits ops 14 13
 w15_14:Waits ops 15 14
 w16_12:Waits ops 16 12
 w16_15:Waits ops 16 15
 w17_16:Waits ops 17 16
def rn7D:Nat → Nat
 | 0=>37
 | 1=>38
 | 2=>39
 | 3=>40
 | 4=>41
 | 5=>42
 | 6=>43
 | 7=>44
 | 8=>45
 | 9=>46
 | 10=>47
 | 11=>48
 | 12=>49
 | 13=>50
 | 14=>51
 | 15=>52
 | 16=>53
 | 17=>54
 | _=>0
def rn7R (B:Nat) (vo:Option Addr) (n vc b:Nat) (t:Wt) (dl:List UInt8):Nat → Value → World → Prop
 | 0=>fun v w=>v=.slice vo n vc
 | 1=>fun v w=>v=.pointer (some ⟨b,0,none⟩)
 | 2=>fun v w=>v=.int .i64 t.id
 | 3=>fun v w=>v=.string ⟨dl.toArray⟩
 | 4=>fun v w=>v=.string ⟨(119 :: dl).toArray⟩
 | 5=>fun v w=>v=.agg #[.string ⟨#[105,100]⟩,.string ⟨(119 :: dl).toArray⟩,.bool true]
 | 6=>fun v w=>v=.pointer (some ⟨b,2,none⟩)
 | 7=>fun v w=>v=.string ⟨t.stat.toArray⟩
 | 8=>fun v w=>v=.agg #[.string ⟨#[115,116,97,116,117,115]⟩,.string ⟨t.stat.toArray⟩,.bool true]
 | 9=>fun v w=>v=.pointer (some ⟨b,3,none⟩)
 | 10=>fun v w=>v=.string ⟨t.ev.toArray⟩
 | 11=>fun v w=>v=.agg #[.string ⟨#[101,118,101,110,116]⟩,.string ⟨t.ev.toArray⟩,.bool true]
 | 12=>fun v w=>∃ g,v=.slice (some ⟨g,0,none⟩) 3 3∧OwnP w B (.slice (some ⟨g,0,none⟩) 3 3) (ps7 dl t)
 | 13=>fun v w=>v=.pointer (some ⟨b,1,none⟩)
 | 14=>fun v w=>v=.string ⟨t.uri.toArray⟩
 | 15=>fun v w=>v=.string ⟨(sipcK++t.uri).toArray⟩
 | 16=>fun v w=>∃ g,v=.agg #[.int .i64 2,.string ⟨#[119,97,116,99,104,101,114]⟩,.slice (some ⟨g,0,none⟩) 3 3,.string ⟨(sipcK++t.uri).toArray⟩]∧OwnP w B (.slice (some ⟨g,0,none⟩) 3 3) (ps7 dl t)
 | 17=>fun v w=>∃ g g2,v=.slice (some ⟨g2,0,none⟩) 1 1∧OwnP w B (.slice (some ⟨g,0,none⟩) 3 3) (ps7 dl t)∧g2 < w.heap.size∧∀ (j:Nat) (u:Value),(ndCells ⟨nd7 dl t,.slice (some ⟨g,0,none⟩) 3 3⟩)[j]? = some u → w.cell? ((⟨g2,0,none⟩:Addr).add j)=some u
 | _=>fun _ _=>True
def rn7P (a0:Act) (W:World) (B:Nat) (vo:Option Addr) (n vc b:Nat) (t:Wt) (dl:List UInt8):MP where
 a0:=a0
 lo:=37
 hi:=56
 n:=57
 k:=18
 W:=W
 D:=rn7D
 R:=rn7R B vo n vc b t dl
theorem rn7_inj:∀ j,j < 18 → ∀ i,i < 18 → j ≠ i → rn7D j ≠ rn7D i:=by decide +kernel
theorem rn7_st (B:Nat) (vo:Option Addr) (n vc b:Nat) (t:Wt) (dl:List UInt8) {u u':World} (hb:Below u.heap.size u u'):∀ j v,j < 18 → rn7R B vo n vc b t dl j v u → rn7R B vo n vc b t dl j v u':=by
 intro j v hj h
 rcases (show j=0∨j=1∨j=2∨j=3∨j=4∨j=5∨j=6∨j=7∨j=8∨j=9∨j=10∨j=11∨j=12∨j=13∨j=14∨j=15∨j=16∨j=17 by omega) with rfl | rfl | rfl | rfl | rfl | rfl | rfl | rfl | rfl | rfl | rfl | rfl | rfl | rfl | rfl | rfl | rfl | rfl
 ·exact h
 ·exact h
 ·exact h
 ·exact h
 ·exact h
 ·exact h
 ·exact h
 ·exact h
 ·exact h
 ·exact h
 ·exact h
 ·exact h
 ·obtain ⟨g,h1,h2⟩:=h; exact ⟨g,h1,h2.below hb⟩
 ·exact h
 ·exact h
 ·exact h
 ·obtain ⟨g,h1,h2⟩:=h; exact ⟨g,h1,h2.below hb⟩
 ·obtain ⟨g,g2,h1,h2,h3,h4⟩:=h; exact ⟨g,g2,h1,h2.below hb,Nat.lt_of_lt_of_le h3 hb.size,fun j u hj=>cell_below hb (by rw [add_block]; exact h3) (h4 j u hj)⟩
set_option maxHeartbeats 4000000 in
set_option maxRecDepth 100000 in
theorem rn7_steps {ops:Array Oper} (S:rn7Ops ops) (a0:Act) (W:World) (B:Nat) (vo:Option Addr) (n vc b:Nat) (t:Wt) (dl:List UInt8)
  (B3:a0.eval (.tmp 3)=.slice vo n vc)
  (B5:a0.eval (.tmp 5)=.pointer (some ⟨b,0,none⟩))
  (hBW:B≤W.heap.size) (hul:t.uri.length≤1048576) (hdl:dl.length≤20)
  (HC:∀ u,Below W.heap.size W u → u.cell? ⟨b,0,none⟩=some (.int .i64 t.id)∧u.cell? ⟨b,1,none⟩=some (.string ⟨t.uri.toArray⟩)∧u.cell? ⟨b,2,none⟩=some (.string ⟨t.stat.toArray⟩)∧u.cell? ⟨b,3,none⟩=some (.string ⟨t.ev.toArray⟩))
  (KD:∀ u,Calls Tryz.prog 48 #[.int .i64 t.id] u fun e u'=>e=.returned (.string ⟨dl.toArray⟩)∧Below u.heap.size u u')
  (Q:Exit → Act → World → Prop) (L:Array Bool) (a:Act) (w:World) (i:Nat) (hsz:L.size=ops.size) (hik:i < 18) (hi:i ∈ Region.ready .any ops L) (hI:MI (rn7P a0 W B vo n vc b t dl) ops L a w) :
  wpOp Tryz.prog ops Q i (MI (rn7P a0 W B vo n vc b t dl) ops (L.setIfInBounds i true)) a w:=by
 have evc:∀ v,a.eval (.const v)=v:=fun _=>rfl;have b3:=(hI.o.out 3 (.inl (by simp [rn7P]))).trans B3;have b5:=(hI.o.out 5 (.inl (by simp [rn7P]))).trans B5;obtain ⟨hC0,hC1,hC2,hC3⟩:=HC w hI.bel
 have put:∀ (i d:Nat) (hi:i ∈ Region.ready .any ops L) (hk:i < 18) (hd:rn7D i=d) (h1:37≤d) (h2:d < 56) (v:Value) (w':World) (hb:Below w.heap.size w w') (hR:rn7R B vo n vc b t dl i v w'),MI (rn7P a0 W B vo n vc b t dl) ops (L.setIfInBounds i true) (a.put (some d) v) w':=fun i d hi hk hd h1 h2 v w' hb hR =>
  hI.put hsz i hi d hd (fun j hj hji=>by subst hd; exact rn7_inj j hj i hk hji) h1 h2 (by simp [rn7P]) (fun j v hj h=>rn7_st B vo n vc b t dl hb j v hj h) v hb hR
 rcases (show i=0∨i=1∨i=2∨i=3∨i=4∨i=5∨i=6∨i=7∨i=8∨i=9∨i=10∨i=11∨i=12∨i=13∨i=14∨i=15∨i=16∨i=17 by omega) with rfl | rfl | rfl | rfl | rfl | rfl | rfl | rfl | rfl | rfl | rfl | rfl | rfl | rfl | rfl | rfl | rfl | rfl
 ·refine S.p0.val (v:=.slice vo n vc) (w':=w) (fun o ho=>?_) (put 0 37 hi (by decide) rfl (by decide) (by decide) _ _ (Below.refl _ _) rfl)
  simp only [execOp,ho,b3];clear hI S hi hsz put evc;go_simp
 ·refine S.p1.val (v:=.pointer (some ⟨b,0,none⟩)) (w':=w) (fun o ho=>?_) (put 1 38 hi (by decide) rfl (by decide) (by decide) _ _ (Below.refl _ _) rfl)
  simp only [execOp,ho,b5];clear hI S hi hsz put evc;go_simp
 ·have q1:=hI.val 1 (by simp [rn7P]) (S.w2_1.on hi);simp only [rn7P,rn7R,rn7D] at q1;refine S.p2.val (v:=.int .i64 t.id) (w':=w) (fun o ho=>?_) (put 2 39 hi (by decide) rfl (by decide) (by decide) _ _ (Below.refl _ _) rfl)
  simp only [execOp,ho,q1];clear hI S hi hsz put evc;go_simp
 ·have q2:=hI.val 2 (by simp [rn7P]) (S.w3_2.on hi);simp only [rn7P,rn7R,rn7D] at q2;refine S.p3.enter (vals:=#[.int .i64 t.id]) (by simp only [List.map_toArray,List.map_cons,List.map_nil,evc,q2]) (fun xs u=>by kernel_rfl) ?_
  refine (KD w).mono ?_
  rintro e w' ⟨rfl,hb⟩;exact ⟨_,rfl,put 3 40 hi (by decide) rfl (by decide) (by decide) _ _ hb rfl⟩
 ·have q3:=hI.val 3 (by simp [rn7P]) (S.w4_3.on hi);simp only [rn7P,rn7R,rn7D] at q3;refine S.p4.val (v:=.string ⟨(119 :: dl).toArray⟩) (w':=w) (fun o ho=>?_) (put 4 41 hi (by decide) rfl (by decide) (by decide) _ _ (Below.refl _ _) rfl)
  simp only [execOp,ho,q3];have hg1:(⟨#[119]⟩:ByteArray)++⟨dl.toArray⟩=⟨(119 :: dl).toArray⟩:=by rw [ByteArray.mk_append_mk]; simp
  have z1:=size_list dl;clear hI S hi hsz put evc;go_simp
  try omega
 ·have q4:=hI.val 4 (by simp [rn7P]) (S.w5_4.on hi);simp only [rn7P,rn7R,rn7D] at q4;refine S.p5.enter (vals:=#[.string ⟨#[105,100]⟩,.string ⟨(119 :: dl).toArray⟩]) (by simp only [List.map_toArray,List.map_cons,List.map_nil,evc,q4]) (fun xs u=>by kernel_rfl) ?_
  refine (ratr15_any ⟨#[105,100]⟩ ⟨(119 :: dl).toArray⟩ w).mono ?_
  rintro e w' ⟨rfl,hb⟩;exact ⟨_,rfl,put 5 42 hi (by decide) rfl (by decide) (by decide) _ _ hb rfl⟩
 ·refine S.p6.val (v:=.pointer (some ⟨b,2,none⟩)) (w':=w) (fun o ho=>?_) (put 6 43 hi (by decide) rfl (by decide) (by decide) _ _ (Below.refl _ _) rfl)
  simp only [execOp,ho,b5];clear hI S hi hsz put evc;go_simp
 ·have q6:=hI.val 6 (by simp [rn7P]) (S.w7_6.on hi);simp only [rn7P,rn7R,rn7D] at q6;refine S.p7.val (v:=.string ⟨t.stat.toArray⟩) (w':=w) (fun o ho=>?_) (put 7 44 hi (by decide) rfl (by decide) (by decide) _ _ (Below.refl _ _) rfl)
  simp only [execOp,ho,q6];clear hI S hi hsz put evc;go_simp
 ·have q7:=hI.val 7 (by simp [rn7P]) (S.w8_7.on hi);simp only [rn7P,rn7R,rn7D] at q7;refine S.p8.enter (vals:=#[.string ⟨#[115,116,97,116,117,115]⟩,.string ⟨t.stat.toArray⟩]) (by simp only [List.map_toArray,List.map_cons,List.map_nil,evc,q7]) (fun xs u=>by kernel_rfl) ?_
  refine (ratr15_any ⟨#[115,116,97,116,117,115]⟩ ⟨t.stat.toArray⟩ w).mono ?_
  rintro e w' ⟨rfl,hb⟩;exact ⟨_,rfl,put 8 45 hi (by decide) rfl (by decide) (by decide) _ _ hb rfl⟩
 ·refine S.p9.val (v:=.pointer (some ⟨b,3,none⟩)) (w':=w) (fun o ho=>?_) (put 9 46 hi (by decide) rfl (by decide) (by decide) _ _ (Below.refl _ _) rfl)
  simp only [execOp,ho,b5];clear hI S hi hsz put evc;go_simp
 ·have q9:=hI.val 9 (by simp [rn7P]) (S.w10_9.on hi);simp only [rn7P,rn7R,rn7D] at q9;refine S.p10.val (v:=.string ⟨t.ev.toArray⟩) (w':=w) (fun o ho=>?_) (put 10 47 hi (by decide) rfl (by decide) (by decide) _ _ (Below.refl _ _) rfl)
  simp only [execOp,ho,q9];clear hI S hi hsz put evc;go_simp
 ·have q10:=hI.val 10 (by simp [rn7P]) (S.w11_10.on hi);simp only [rn7P,rn7R,rn7D] at q10;refine S.p11.enter (vals:=#[.string ⟨#[101,118,101,110,116]⟩,.string ⟨t.ev.toArray⟩]) (by simp only [List.map_toArray,List.map_cons,List.map_nil,evc,q10]) (fun xs u=>by kernel_rfl) ?_
  refine (ratr15_any ⟨#[101,118,101,110,116]⟩ ⟨t.ev.toArray⟩ w).mono ?_
  rintro e w' ⟨rfl,hb⟩;exact ⟨_,rfl,put 11 48 hi (by decide) rfl (by decide) (by decide) _ _ hb rfl⟩
 ·have q5:=hI.val 5 (by simp [rn7P]) (S.w12_5.on hi);simp only [rn7P,rn7R,rn7D] at q5;have q8:=hI.val 8 (by simp [rn7P]) (S.w12_8.on hi);simp only [rn7P,rn7R,rn7D] at q8;have q11:=hI.val 11 (by simp [rn7P]) (S.w12_11.on hi);simp only [rn7P,rn7R,rn7D] at q11;refine S.p12.val (v:=.slice (some ⟨w.heap.size,0,none⟩) 3 3) (w':=w.alloc (.cells #[.string ⟨#[105,100]⟩,.string ⟨(119 :: dl).toArray⟩,.bool true,.string ⟨#[115,116,97,116,117,115]⟩,.string ⟨t.stat.toArray⟩,.bool true,.string ⟨#[101,118,101,110,116]⟩,.string ⟨t.ev.toArray⟩,.bool true] 70)) (fun o ho=>?_) (put 12 49 hi (by decide) rfl (by decide) (by decide) _ _ ((Below.refl _ w).alloc (Nat.le_refl _) _) ⟨_,rfl,by exact ownP_newI w B (Nat.le_trans hBW hI.bel.size) (ps7 dl t) 3 rfl (by decide)⟩)
  simp only [execOp,ho];have em:Array.map (fun x:Nat × Operand=>(x.fst,a.eval x.snd)) #[(0,Operand.tmp 42),(1,Operand.tmp 45),(2,Operand.tmp 48)]=#[(0,.agg #[.string ⟨#[105,100]⟩,.string ⟨(119 :: dl).toArray⟩,.bool true]),(1,.agg #[.string ⟨#[115,116,97,116,117,115]⟩,.string ⟨t.stat.toArray⟩,.bool true]),(2,.agg #[.string ⟨#[101,118,101,110,116]⟩,.string ⟨t.ev.toArray⟩,.bool true])]:=by simp only [List.map_toArray,List.map_cons,List.map_nil,q5,q8,q11]
  rw [em];clear hI S hi hsz put evc;go_simp
 ·refine S.p13.val (v:=.pointer (some ⟨b,1,none⟩)) (w':=w) (fun o ho=>?_) (put 13 50 hi (by decide) rfl (by decide) (by decide) _ _ (Below.refl _ _) rfl)
  simp only [execOp,ho,b5];clear hI S hi hsz put evc;go_simp
 ·have q13:=hI.val 13 (by simp [rn7P]) (S.w14_13.on hi);simp only [rn7P,rn7R,rn7D] at q13;refine S.p14.val (v:=.string ⟨t.uri.toArray⟩) (w':=w) (fun o ho=>?_) (put 14 51 hi (by decide) rfl (by decide) (by decide) _ _ (Below.refl _ _) rfl)
  simp only [execOp,ho,q13];clear hI S hi hsz put evc;go_simp
 ·have q14:=hI.val 14 (by simp [rn7P]) (S.w15_14.on hi);simp only [rn7P,rn7R,rn7D] at q14;refine S.p15.val (v:=.string ⟨(sipcK++t.uri).toArray⟩) (w':=w) (fun o ho=>?_) (put 15 52 hi (by decide) rfl (by decide) (by decide) _ _ (Below.refl _ _) rfl)
  simp only [execOp,ho,q14];have hg1:(⟨#[115,105,112,58]⟩:ByteArray)++⟨t.uri.toArray⟩=⟨(sipcK++t.uri).toArray⟩:=by rw [ByteArray.mk_append_mk]; simp [sipcK]
  have z1:=size_list t.uri;clear hI S hi hsz put evc;go_simp
  try omega
 ·have q12:=hI.val 12 (by simp [rn7P]) (S.w16_12.on hi);simp only [rn7P,rn7R,rn7D] at q12;obtain ⟨g12,q12,o12⟩:=q12;have q15:=hI.val 15 (by simp [rn7P]) (S.w16_15.on hi);simp only [rn7P,rn7R,rn7D] at q15;refine S.p16.val (v:=.agg #[.int .i64 2,.string ⟨#[119,97,116,99,104,101,114]⟩,.slice (some ⟨g12,0,none⟩) 3 3,.string ⟨(sipcK++t.uri).toArray⟩]) (w':=w) (fun o ho=>?_) (put 16 53 hi (by decide) rfl (by decide) (by decide) _ _ (Below.refl _ _) ⟨g12,rfl,o12⟩)
  simp only [execOp,ho,q12,q15];have em:Array.map (fun x:Nat × Operand=>(x.fst,a.eval x.snd)) #[(0,Operand.const (.int .i64 2)),(1,Operand.const (.string ⟨#[119,97,116,99,104,101,114]⟩)),(2,Operand.tmp 49),(3,Operand.tmp 52)]=#[(0,.int .i64 2),(1,.string ⟨#[119,97,116,99,104,101,114]⟩),(2,.slice (some ⟨g12,0,none⟩) 3 3),(3,.string ⟨(sipcK++t.uri).toArray⟩)]:=by simp only [List.map_toArray,List.map_cons,List.map_nil,q12,q15,evc]
  try rw [em]
  clear hI S hi hsz put evc;go_simp
 ·have q16:=hI.val 16 (by simp [rn7P]) (S.w17_16.on hi);simp only [rn7P,rn7R,rn7D] at q16;obtain ⟨g16,q16,o16⟩:=q16;refine S.p17.val (v:=.slice (some ⟨w.heap.size,0,none⟩) 1 1) (w':=w.alloc (.cells #[.int .i64 2,.string ⟨#[119,97,116,99,104,101,114]⟩,.slice (some ⟨g16,0,none⟩) 3 3,.string ⟨(sipcK++t.uri).toArray⟩] 49)) (fun o ho=>?_) (put 17 54 hi (by decide) rfl (by decide) (by decide) _ _ ((Below.refl _ w).alloc (Nat.le_refl _) _) ⟨g16,_,rfl,o16.alloc _,by simp,by exact xnd_new w ⟨nd7 dl t,.slice (some ⟨g16,0,none⟩) 3 3⟩ _ rfl⟩)
  simp only [execOp,ho];have em:Array.map (fun x:Nat × Operand=>(x.fst,a.eval x.snd)) #[(0,Operand.tmp 53)]=#[(0,.agg #[.int .i64 2,.string ⟨#[119,97,116,99,104,101,114]⟩,.slice (some ⟨g16,0,none⟩) 3 3,.string ⟨(sipcK++t.uri).toArray⟩])]:=by simp only [List.map_toArray,List.map_cons,List.map_nil,q16]
  rw [em];clear hI S hi hsz put evc;go_simp
end Go.Proofs.YtdbalahkmeknaaaGreatDoor
