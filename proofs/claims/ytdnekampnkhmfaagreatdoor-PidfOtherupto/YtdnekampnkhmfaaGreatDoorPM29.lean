/-
  RefWho, PR4, PR7b, XPar, XParse.
-/
import Derived.Test.YtdnekampnkhmfaaGreatDoorPM22
import Derived.Test.YtdnekampnkhmfaaGreatDoorPM28
set_option linter.unusedVariables false
set_option linter.unusedSimpArgs false
set_option maxRecDepth 20000
namespace Go.Proofs.YtdnekampnkhmfaaGreatDoor
open Go.RowKit Sc
set_option maxHeartbeats 1000000 in
set_option maxRecDepth 100000 in
theorem refwho_any (u:Uri) (p h:Value) (w:World) (hsm:SmallU 140737488355328 u) (hp:ParsAt w p u.params) (hh:ParsAt w h u.headers) :
  Calls Tryz.prog 39 #[uriV u p h] w fun e w'=>e=.returned (.tuple #[.string ⟨(whoV u).1.toArray⟩,.int .i64 (whoV u).2])∧Below w.heap.size w w':=by
 have hbox:=box_new w u p h;have hbw:Below w.heap.size w (w.alloc (.cells #[.string ⟨u.scheme.toArray⟩,.string ⟨u.user.toArray⟩,.string ⟨u.host.toArray⟩,.int .i64 u.port,p,h] 73)):=(Below.refl _ w).alloc (Nat.le_refl _) _;have hws:=alloc_lt w (.cells #[.string ⟨u.scheme.toArray⟩,.string ⟨u.user.toArray⟩,.string ⟨u.host.toArray⟩,.int .i64 u.port,p,h] 73);have K1:=hid (fun w' (hb:Below w.heap.size w w')=>refcheck_any u p h w' hsm (hp.below hb) (hh.below hb));obtain ⟨a1,c1,rfl⟩:=hp.form;obtain ⟨a2,c2,rfl⟩:=hh.form;have hul:checkV u=0 → u.user.length≤64∧u.host.length≤64:=fun h=>⟨(check_ok h).2.1,(hostB_ok (check_ok h).2.2.1).2⟩
 have hwv:whoV u=whoV u:=rfl
 conv at hwv=>rhs; unfold whoV
 have hwt:Hid ((ByteArray.mk (escL usersK u.user).toArray++⟨#[64]⟩)++⟨u.host.toArray⟩=⟨(whoT u).toArray⟩):=show _=_ by rw [whoT,← appL,← appL]
 obtain ⟨n,hn⟩:∃ n,checkV u=n:=⟨_,rfl⟩
 rw [hn] at K1 hwv hul;clear hn hp hh hsm;unfold uriV at K1 ⊢;by_cases e1:n=0
 ·subst e1;obtain ⟨hu64,hh64⟩:=hul rfl;have hel:=escL_len usersK u.user;have hl1:¬ 9223372036854775807 < (escL usersK u.user).length+1:=by omega
  have hl2:¬ 9223372036854775807 < (escL usersK u.user).length+1+u.host.length:=by omega
  rw [if_neg (by simp)] at hwv;by_cases eu:u.user=[]
  ·have hue:u.user.isEmpty=true:=by simp [eu]
   rw [if_pos eu] at hwv;have HV:=hid hwv;clear hwv eu hul
   go_enter Tryz.func39,Tryz.ntmps39
   go_wp2_with fail
   refine (K1.out _ hbw).mono ?_
   rintro e w2 ⟨rfl,hw2⟩;have hb2:=hbw.trans (hw2.mono hbw.size);obtain ⟨g0,g1,g2,g3,g4,g5⟩:=hbox.below hw2 hws;clear hbox hbw hws hw2;go_wp2;go_ret2;exact ⟨ret_who HV.out,hb2⟩
  ·have hue:u.user.isEmpty=false:=by simpa using eu
   rw [if_neg eu] at hwv;have HV:=hid hwv;have K3:=hid (fun w'=>refesc_list u.user usersK w' (by omega) (by decide));clear hwv eu hul
   go_enter Tryz.func39,Tryz.ntmps39
   go_wp2_with fail
   refine (K1.out _ hbw).mono ?_
   rintro e w2 ⟨rfl,hw2⟩;have hacc:=(hbw.trans (hw2.mono hbw.size)).drew;have hlt:w.heap.size < w2.drew.heap.size:=Nat.lt_of_lt_of_le hws hw2.size;obtain ⟨q0,q1,q2,q3,q4,q5⟩:=hbox.below hw2 hws;have hbx:Hid (BoxU w2.drew w.heap.size u (.slice a1 u.params.length c1) (.slice a2 u.headers.length c2)):=⟨q0,q1,q2,q3,q4,q5⟩
   obtain ⟨g0,g1,g2,g3,g4,g5⟩:=hbx.out;clear hbox hbw hws hw2;go_wp2
   go_region_law (go_simp; go_at_call 87; refine (K3.out _).mono ?_; rintro e w3 ⟨rfl,hw3⟩; replace hbx:=hid (hbx.out.below hw3 hlt); replace hacc:=hacc.trans (hw3.mono hacc.size); obtain ⟨g0,g1,g2,g3,g4,g5⟩:=hbx.out; clear hw3)
   all_goals (
    try go_simp
    go_wp2;rw [hwt.out];go_ret2;exact ⟨ret_who HV.out,hacc⟩)
 ·have e1a:(n != 0)=true:=by simpa using e1
  have e1b:(n==0)=false:=by simpa using e1
  rw [if_pos e1] at hwv;have HV:=hid hwv;clear hwv hul
  go_enter Tryz.func39,Tryz.ntmps39
  go_wp2_with fail
  refine (K1.out _ hbw).mono ?_
  rintro e w2 ⟨rfl,hw2⟩;have hb2:=hbw.trans (hw2.mono hbw.size);obtain ⟨g0,g1,g2,g3,g4,g5⟩:=hbox.below hw2 hws;clear hbox hbw hws hw2;go_wp2_with fail
  refine (K1.out _ hb2).mono ?_
  rintro e w3 ⟨rfl,hw3⟩;have hb3:=hb2.trans (hw3.mono hb2.size);clear g0 g1 g2 g3 g4 g5 hw3;go_wp2;go_ret2;exact ⟨ret_who HV.out,hb3⟩
theorem refparse4 {l:List UInt8} {u:Uri} {er:Int} (h:parseV ([115,105,112,58]++l)=(u,er)) (w:World) (hs:l.length+4≤1048576) :
  Calls Tryz.prog 37 #[.string (⟨#[115,105,112,58]⟩++⟨l.toArray⟩)] w fun e w'=>∃ a1 k1 a2 k2,e=.returned (.tuple #[.agg #[.string ⟨u.scheme.toArray⟩,.string ⟨u.user.toArray⟩,.string ⟨u.host.toArray⟩,.int .i64 u.port,.slice a1 u.params.length k1,.slice a2 u.headers.length k2],.int .i64 er])∧ParsAt w' (.slice a1 u.params.length k1) u.params∧ParsAt w' (.slice a2 u.headers.length k2) u.headers∧Below w.heap.size w w':=by
 have k:=refparse_any ([115,105,112,58]++l) w (by simp; omega);rw [h,← appL] at k;refine k.mono ?_
 rintro e w' ⟨p,q,rfl,hp,hq,hb⟩;have hp2:=hp.parsAt;have hq2:=hq.parsAt;obtain ⟨a1,k1,e1⟩:=hp2.form;obtain ⟨a2,k2,e2⟩:=hq2.form;simp only at e1 e2 hp2 hq2;subst e1 e2;exact ⟨a1,k1,a2,k2,rfl,hp2,hq2,hb⟩
set_option maxHeartbeats 1000000 in
set_option maxRecDepth 100000 in
theorem refhost_who (l:List UInt8) (w:World) (hs:l.length+4≤1048576) :
  Calls Tryz.prog 31 #[.string ⟨l.toArray⟩] w fun e w'=>e=.returned (.tuple #[.string ⟨(hostV l).1.toArray⟩,.int .i64 (hostV l).2])∧Below w.heap.size w w':=by
 obtain ⟨u,er,hpv⟩:∃ u er,parseV ([115,105,112,58]++l)=(u,er):=⟨_,_,rfl⟩
 have K1:=hid (refparse4 hpv w hs);by_cases her:er=0
 ·subst her;have hcz:=parse_checked hpv;have hsm:=small_of_check hcz;obtain ⟨t,n,hwv⟩:∃ t n,whoV u=(t,n):=⟨_,_,rfl⟩
  have K2:=hid (fun (w':World) (p h:Value)=>refwho_any u p h w' hsm);rw [hwv] at K2;unfold uriV at K2;simp only at K2;by_cases hn:n=0
  ·subst hn;by_cases ht:t=l
   ·subst ht;have HV:=hid (host_yes (t:=t) hpv hwv);clear hpv hwv hcz hsm
    go_enter Tryz.func31,Tryz.ntmps31
    go_wp2_with fail
    refine K1.out.mono ?_
    rintro e w1 ⟨a1,k1,a2,k2,rfl,hp,hq,hw1⟩;have hb1:=hw1.alloc hw1.size (.cells #[.string ⟨u.scheme.toArray⟩,.string ⟨u.user.toArray⟩,.string ⟨u.host.toArray⟩,.int .i64 u.port,.slice a1 u.params.length k1,.slice a2 u.headers.length k2] 73);have hx:=box_new w1 u (.slice a1 u.params.length k1) (.slice a2 u.headers.length k2);have hlx:=alloc_lt w1 (.cells #[.string ⟨u.scheme.toArray⟩,.string ⟨u.user.toArray⟩,.string ⟨u.host.toArray⟩,.int .i64 u.port,.slice a1 u.params.length k1,.slice a2 u.headers.length k2] 73);have HX:=hid hx;have HP:=hid (hp.alloc (.cells #[.string ⟨u.scheme.toArray⟩,.string ⟨u.user.toArray⟩,.string ⟨u.host.toArray⟩,.int .i64 u.port,.slice a1 u.params.length k1,.slice a2 u.headers.length k2] 73));have HQ:=hid (hq.alloc (.cells #[.string ⟨u.scheme.toArray⟩,.string ⟨u.user.toArray⟩,.string ⟨u.host.toArray⟩,.int .i64 u.port,.slice a1 u.params.length k1,.slice a2 u.headers.length k2] 73));obtain ⟨g0,g1,g2,g3,g4,g5⟩:=hx;clear hp hq hw1 K1;go_wp2_with fail
    refine (K2.out _ _ _ HP.out HQ.out).mono ?_
    rintro e w2 ⟨rfl,hw2⟩;have hb2:=hb1.trans (hw2.mono hb1.size);clear g0 g1 g2 g3 g4 g5;obtain ⟨g0,g1,g2,g3,g4,g5⟩:=HX.out.below hw2 hlx;clear hw2 HP HQ HX hlx;go_wp2;go_ret2;exact ⟨ret_who HV.out,hb2⟩
   ·have HV:=hid (host_no hpv (by rw [hwv]; simp [ht]));have ht2:(t==l)=false:=by simpa using ht
    clear hpv hwv hcz hsm
    go_enter Tryz.func31,Tryz.ntmps31
    go_wp2_with fail
    refine K1.out.mono ?_
    rintro e w1 ⟨a1,k1,a2,k2,rfl,hp,hq,hw1⟩;have hb1:=hw1.alloc hw1.size (.cells #[.string ⟨u.scheme.toArray⟩,.string ⟨u.user.toArray⟩,.string ⟨u.host.toArray⟩,.int .i64 u.port,.slice a1 u.params.length k1,.slice a2 u.headers.length k2] 73);have hx:=box_new w1 u (.slice a1 u.params.length k1) (.slice a2 u.headers.length k2);have HP:=hid (hp.alloc (.cells #[.string ⟨u.scheme.toArray⟩,.string ⟨u.user.toArray⟩,.string ⟨u.host.toArray⟩,.int .i64 u.port,.slice a1 u.params.length k1,.slice a2 u.headers.length k2] 73));have HQ:=hid (hq.alloc (.cells #[.string ⟨u.scheme.toArray⟩,.string ⟨u.user.toArray⟩,.string ⟨u.host.toArray⟩,.int .i64 u.port,.slice a1 u.params.length k1,.slice a2 u.headers.length k2] 73));obtain ⟨g0,g1,g2,g3,g4,g5⟩:=hx;clear hp hq hw1 K1;go_wp2_with fail
    refine (K2.out _ _ _ HP.out HQ.out).mono ?_
    rintro e w2 ⟨rfl,hw2⟩;have hb2:=hb1.trans (hw2.mono hb1.size);clear g0 g1 g2 g3 g4 g5 hw2 HP HQ;go_wp2;go_ret2;exact ⟨ret_who HV.out,hb2⟩
  ·have HV:=hid (host_no hpv (by rw [hwv]; simp [hn]));have hn1:(n != 0)=true:=by simpa using hn
   have hn2:(n==0)=false:=by simpa using hn
   clear hpv hwv hcz hsm
   go_enter Tryz.func31,Tryz.ntmps31
   go_wp2_with fail
   refine K1.out.mono ?_
   rintro e w1 ⟨a1,k1,a2,k2,rfl,hp,hq,hw1⟩;have hb1:=hw1.alloc hw1.size (.cells #[.string ⟨u.scheme.toArray⟩,.string ⟨u.user.toArray⟩,.string ⟨u.host.toArray⟩,.int .i64 u.port,.slice a1 u.params.length k1,.slice a2 u.headers.length k2] 73);have hx:=box_new w1 u (.slice a1 u.params.length k1) (.slice a2 u.headers.length k2);have HP:=hid (hp.alloc (.cells #[.string ⟨u.scheme.toArray⟩,.string ⟨u.user.toArray⟩,.string ⟨u.host.toArray⟩,.int .i64 u.port,.slice a1 u.params.length k1,.slice a2 u.headers.length k2] 73));have HQ:=hid (hq.alloc (.cells #[.string ⟨u.scheme.toArray⟩,.string ⟨u.user.toArray⟩,.string ⟨u.host.toArray⟩,.int .i64 u.port,.slice a1 u.params.length k1,.slice a2 u.headers.length k2] 73));obtain ⟨g0,g1,g2,g3,g4,g5⟩:=hx;clear hp hq hw1 K1;go_wp2_with fail
   refine (K2.out _ _ _ HP.out HQ.out).mono ?_
   rintro e w2 ⟨rfl,hw2⟩;have hb2:=hb1.trans (hw2.mono hb1.size);clear g0 g1 g2 g3 g4 g5 hw2 HP HQ;go_wp2;go_ret2;exact ⟨ret_who HV.out,hb2⟩
 ·have HV:=hid (host_bad hpv her);have he1:(er != 0)=true:=by simpa using her
  have he2:(er==0)=false:=by simpa using her
  clear hpv
  go_enter Tryz.func31,Tryz.ntmps31
  go_wp2_with fail
  refine K1.out.mono ?_
  rintro e w1 ⟨a1,k1,a2,k2,rfl,hp,hq,hw1⟩;have hb1:=hw1.alloc hw1.size (.cells #[.string ⟨u.scheme.toArray⟩,.string ⟨u.user.toArray⟩,.string ⟨u.host.toArray⟩,.int .i64 u.port,.slice a1 u.params.length k1,.slice a2 u.headers.length k2] 73);clear hp hq hw1 K1;go_wp2;go_ret2;exact ⟨ret_who HV.out,hb1⟩
theorem distinctT_snoc (t:Tu):∀ l:List Tu,distinctT (l++[t])=(distinctT l && l.all (fun q=>!(q.id==t.id)))
 | []=>rfl
 | q :: l=>by
  rw [List.cons_append,distinctT,distinctT,distinctT_snoc t l,List.all_append,List.all_cons,List.all_cons,List.all_nil];have e:(t.id==q.id)=(q.id==t.id):=BEq.comm;rw [e]
  cases l.all (fun q_1=>!(q_1.id==q.id)) <;> cases distinctT l <;> cases (q.id==t.id) <;> cases l.all (fun q=>!(q.id==t.id)) <;> rfl
theorem distinctT_front:∀ a b:List Tu,distinctT (a++b)=true → distinctT a=true
 | [],b,_=>rfl
 | t :: a,b,h=>by
  rw [List.cons_append,distinctT,List.all_append] at h;simp only [Bool.and_eq_true] at h;rw [distinctT,distinctT_front a b h.2,h.1.1]; rfl
def tupsOk (l:List Tu):Bool:=l.all tupP && distinctT l
theorem tups_snoc {l:List Tu} {j:Nat} (hj:j < l.length) (ha:tupsOk (l.take j)=true) (h1:tupP l[j]=true) (h2:(l.take j).all (fun q=>!(q.id==l[j].id))=true):tupsOk (l.take (j+1))=true:=by
 simp only [tupsOk,Bool.and_eq_true] at ha ⊢;rw [List.take_succ_eq_append_getElem hj,List.all_append,distinctT_snoc,ha.1,ha.2,h2]
 simp [h1]
theorem chkD_is {d:Dc} (h1:(hostV d.entity).2=0) (h2:d.tuples.length≤16) (h3:d.notes.length≤16):checkD d=if (tupsOk d.tuples && d.notes.all noteP)=true then 0 else 140:=by
 unfold checkD tupsOk;rw [if_neg (by simp [h1]; omega),Bool.and_assoc]
theorem tups_bad {l:List Tu} {j:Nat} (hj:j < l.length) (h1:tupP l[j]=false):tupsOk l=false:=by
 unfold tupsOk
 have:l.all tupP=false:=by
  rw [List.all_eq_false];exact ⟨l[j],List.getElem_mem hj,by rw [h1]; simp⟩
 rw [this]; rfl
theorem tups_twice {l:List Tu} {j m:Nat} (hj:j < l.length) (hm:m < j) (h1:((l[m]'(by omega)).id==l[j].id)=true):tupsOk l=false:=by
 unfold tupsOk
 have:distinctT l=false:=by
  cases hd:distinctT l with
  | false=>rfl
  | true =>
   exfalso
   have e:l=l.take (j+1)++l.drop (j+1):=by simp
   rw [e] at hd;have h2:=distinctT_front _ _ hd;rw [List.take_succ_eq_append_getElem hj,distinctT_snoc] at h2;simp only [Bool.and_eq_true,List.all_eq_true] at h2;have h3:=h2.2 (l[m]'(by omega)) (by rw [List.mem_take_iff_getElem]; exact ⟨m,by omega,rfl⟩);rw [h1] at h3
   simp at h3
 rw [this]; simp
theorem box3 (w:World) (v0 v1 v2:Value) (t:TypeId):RowC3 (w.alloc (.cells #[v0,v1,v2] t)) w.heap.size v0 v1 v2:=(rc_row3 w v0 v1 v2 t).rc3
set_option maxHeartbeats 4000000 in
set_option maxRecDepth 100000 in
theorem rcheck14_any (d:Dc) (ts ns:Value) (w:World) (hsm:SmallD 140737488355328 d) (hen:d.entity.length+4≤1048576) (hts:TusAt w ts d.tuples) (hns:StrsAt w ns d.notes) :
  Calls Tryz.prog 14 #[docV d ts ns] w fun e w'=>e=.returned (.int .i64 (checkD d))∧Below w.heap.size w w':=by
 obtain ⟨en,tl,nl⟩:=d;obtain ⟨_,hz1,hz2,hst,hsn⟩:=hsm;simp only at hz1 hz2 hst hsn hen hts hns;have KH:=hid (fun w'=>refhost_who en w' hen);have hv:checkD ⟨en,tl,nl⟩=if (hostV en).2 ≠ 0∨16 < tl.length∨16 < nl.length then 140 else if (tl.all tupP && (distinctT tl && nl.all noteP))=true then 0 else 140:=rfl
 have hok:(hostV en).2=0 → tl.length≤16 → nl.length≤16 → checkD ⟨en,tl,nl⟩=if (tupsOk tl && nl.all noteP)=true then 0 else 140:=fun h1 h2 h3=>chkD_is h1 h2 h3
 unfold docV
 simp only
 generalize checkD ⟨en,tl,nl⟩=R at hv hok ⊢;obtain ⟨ta,tc,rfl,htc⟩:=hts;obtain ⟨na,nc,rfl,hnc⟩:=hns;have HTC:=hid htc;have HNC:=hid hnc;have HST:=hid hst;have HSN:=hid hsn;obtain ⟨tn,htn⟩:∃ tn,tn=tl.length:=⟨_,rfl⟩
 obtain ⟨nn,hnn⟩:∃ nn,nn=nl.length:=⟨_,rfl⟩
 rw [← htn] at hz1 hv hok ⊢;rw [← hnn] at hz2 hv hok ⊢;have HTN:=hid htn;have HNN:=hid hnn;clear htc hnc hst hsn htn hnn;generalize hostV en=HV at KH hv hok;obtain ⟨hs,he⟩:=HV;simp only at KH hv hok;have hbx:=box3 w (.string ⟨en.toArray⟩) (.slice ta tn tc) (.slice na nn nc) 25;have hbn:Below w.heap.size w (w.alloc (.cells #[.string ⟨en.toArray⟩,.slice ta tn tc,.slice na nn nc] 25)):=(Below.refl _ w).alloc (Nat.le_refl _) _;have hbr:=rc_row3 w (.string ⟨en.toArray⟩) (.slice ta tn tc) (.slice na nn nc) 25;have hlt0:=alloc_lt w (.cells #[.string ⟨en.toArray⟩,.slice ta tn tc,.slice na nn nc] 25);obtain ⟨x0,x1,x2,_,_,_⟩:=hbx;by_cases h1:he=0
 case neg =>
  rw [if_pos (.inl h1)] at hv;have HR:=hid hv;have q1:(he != 0)=true:=by simpa using h1
  clear hv hok h1 HTC HNC HST HSN
  go_enter Tryz.func14,Tryz.ntmps14
  go_wp2_with fail
  generalize World.alloc w _=W0 at x0 x1 x2 hbn hbr hlt0 ⊢;refine (KH.out _).mono ?_
  rintro e w1 ⟨rfl,hw1⟩;go_wp2;go_ret;exact ⟨ret_int HR.out.symm,hbn.trans (hw1.mono hbn.size)⟩
 subst h1;by_cases h2:16 < tn
 ·rw [if_pos (.inr (.inl h2))] at hv;have HR:=hid hv;have q2:(16:Int) < (tn:Int):=by omega
  clear hv hok HTC HNC HST HSN
  go_enter Tryz.func14,Tryz.ntmps14
  go_wp2_with fail
  generalize World.alloc w _=W0 at x0 x1 x2 hbn hbr hlt0 ⊢;refine (KH.out _).mono ?_
  rintro e w1 ⟨rfl,hw1⟩;obtain ⟨y0,y1,y2,_,_,_⟩:=(hbr.below hw1 hlt0).rc3;go_wp2;go_ret;exact ⟨ret_int HR.out.symm,hbn.trans (hw1.mono hbn.size)⟩
 have q2:¬ (16:Int) < (tn:Int):=by omega
 by_cases h3:16 < nn
 ·rw [if_pos (.inr (.inr h3))] at hv;have HR:=hid hv;have q3:(16:Int) < (nn:Int):=by omega
  clear hv hok HTC HNC HST HSN
  go_enter Tryz.func14,Tryz.ntmps14
  go_wp2_with fail
  generalize World.alloc w _=W0 at x0 x1 x2 hbn hbr hlt0 ⊢;refine (KH.out _).mono ?_
  rintro e w1 ⟨rfl,hw1⟩;obtain ⟨y0,y1,y2,_,_,_⟩:=(hbr.below hw1 hlt0).rc3;go_wp2;go_ret;exact ⟨ret_int HR.out.symm,hbn.trans (hw1.mono hbn.size)⟩
 have q3:¬ (16:Int) < (nn:Int):=by omega
 have hR0:=hok rfl (by omega) (by omega);have HBT:Hid (tupsOk tl=false → R=140):=fun h=>by rw [hR0,h]; simp
 have HBN:Hid (nl.all noteP=false → R=140):=fun h=>by rw [hR0,h]; simp
 have HOK:Hid (tupsOk tl=true → nl.all noteP=true → R=0):=fun h h'=>by rw [hR0,h,h']; rfl
 clear hv hok hR0
 go_enter Tryz.func14,Tryz.ntmps14
 go_wp2_with fail
 generalize World.alloc w _=W0 at x0 x1 x2 hbn hbr hlt0 ⊢;refine (KH.out _).mono ?_
 rintro e w1 ⟨rfl,hw1⟩;obtain ⟨y0,y1,y2,_,_,_⟩:=(hbr.below hw1 hlt0).rc3;have hb1:=hbn.trans (hw1.mono hbn.size);have HBR:=hid (hbr.below hw1 hlt0);have hlt1:=Nat.lt_of_lt_of_le hlt0 hw1.size;clear x0 x1 x2 hbn hbr hlt0 KH hw1;go_wp2;clear y0 y1 y2
 go_loopw [5] (fun i wr=>∃ j:Nat,j≤tn∧i=.int .i64 j∧Hid (tupsOk (tl.take j)=true)∧Below w1.heap.size w1 wr) (fun i _=>tn - (intOf i).toNat)
 case atStart=>exact ⟨0,Nat.zero_le _,rfl,show _=_ from rfl,Below.refl _ _⟩
 case round =>
  obtain ⟨j,hjn,rfl,ha,hb⟩:=hrel;have hbw:Below w.heap.size w wr:=hb1.trans (hb.mono hb1.size);obtain ⟨y0,y1,y2,_,_,_⟩:=(HBR.out.below hb hlt1).rc3;by_cases hlt:j < tn
  ·have hjl:j < tl.length:=by have:=HTN.out; omega
   obtain ⟨ad,hao,hab,c⟩:=HTC.out j hjl;subst hao;have c:=c.below hbw hab;obtain ⟨s1,s2,s3,s4⟩:=HST.out tl[j] (List.getElem_mem hjl);have s5:=i64_of s4;have HBad:Hid (tupP tl[j]=false → R=140):=fun h=>HBT.out (tups_bad hjl h);have HTw:Hid (∀ m (hm:m < j),((tl[m]'(by omega)).id==tl[j].id)=true → R=140):=fun m hm h=>HBT.out (tups_twice hjl hm h);have HSn:Hid (tupP tl[j]=true → (tl.take j).all (fun q=>!(q.id==tl[j].id))=true → tupsOk (tl.take (j+1))=true):=fun h1 h2=>tups_snoc hjl ha.out h1 h2;have KI:=hid (fun w'=>ident_list tl[j].id w' s1);have KC:=hid (fun w'=>rtext14_any tl[j].contact w' s2);have KN:=hid (fun w'=>rtext14_any tl[j].note w' s3);have htp:tupP tl[j]=(identP tl[j].id && (textP tl[j].contact && (textP tl[j].note && (decide (-1≤tl[j].prio) && (decide (tl[j].prio≤1000) && (!tl[j].contact.isEmpty || tl[j].prio==-1)))))):=rfl;obtain ⟨W2,hW2⟩:∃ W2,W2=wr.alloc (.cells #[.string ⟨tl[j].id.toArray⟩,.bool tl[j].opn,.string ⟨tl[j].contact.toArray⟩,.int .i64 tl[j].prio,.string ⟨tl[j].note.toArray⟩] 56):=⟨_,rfl⟩
   have hbW:Below w1.heap.size w1 W2:=by rw [hW2]; exact hb.alloc hb.size _
   have hwW:Below w.heap.size w W2:=by rw [hW2]; exact hbw.alloc hbw.size _
   have hrT:RowIs W2 wr.heap.size 56 [.string ⟨tl[j].id.toArray⟩,.bool tl[j].opn,.string ⟨tl[j].contact.toArray⟩,.int .i64 tl[j].prio,.string ⟨tl[j].note.toArray⟩]:=by rw [hW2]; exact rc_row5 _ _ _ _ _ _ _
   have hltT:wr.heap.size < W2.heap.size:=by rw [hW2]; exact alloc_lt _ _
   have HM:Hid (∀ m (hm:m < j),∀ w',Below w.heap.size w w' → w'.cell? (ad.add (m * 5))=some (.string ⟨(tl[m]'(by omega)).id.toArray⟩)):=fun m hm w' hb'=>by
    obtain ⟨ad2,hao2,hab2,c2⟩:=HTC.out m (by omega)
    have:ad2=ad:=(Option.some.inj hao2).symm
    subst this;exact (c2.below hb' hab).c0
   clear HBT ha HST s1 s2 s3 s4 HTC;generalize hTj:tl[j]=T at c HBad HTw HSn KI KC KN htp hW2 hrT s5;obtain ⟨ti,to',tk,tp,tnn⟩:=T;simp only at c KI KC KN htp hW2 hrT HTw HSn s5;obtain ⟨c0,c1,c2,c3,c4⟩:=c;simp only at c0 c1 c2 c3 c4;have q6:(j:Int) < (tn:Int):=by omega
   have HRT:=hid hrT;go_wp2_with fail
   clear c0 c1 c2 c3 c4 y0 y1 y2;rw [← hW2];clear hW2;obtain ⟨b0,b1,b2,b3,b4,_,_,_,_,_⟩:=hrT.rc5;obtain ⟨y0,y1,y2,_,_,_⟩:=(HBR.out.below hbW hlt1).rc3
   cases hidt:identP ti with
   | false =>
    rw [hidt] at KI htp;have hR:=hid (HBad.out (by rw [htp]; rfl));clear HBad HTw HSn htp hidt;refine (KI.out _).mono ?_
    rintro e w' ⟨rfl,hw'⟩; rw [hw']; clear hw' w'
    go_wp2;go_ret;exact ⟨ret_int hR.out.symm,hwW⟩
   | true =>
   rw [hidt,Bool.true_and] at htp;rw [hidt] at KI;refine (KI.out _).mono ?_
   rintro e w' ⟨rfl,hw'⟩; rw [hw']; clear hw' w' KI
   go_wp2_with fail
   cases hct:textP tk with
   | false =>
    rw [hct] at KC htp;have hR:=hid (HBad.out (by rw [htp]; rfl));clear HBad HTw HSn htp hct;refine (KC.out _).mono ?_
    rintro e w' ⟨rfl,hw'⟩; rw [hw']; clear hw' w'
    go_wp2;go_ret;exact ⟨ret_int hR.out.symm,hwW⟩
   | true =>
   rw [hct,Bool.true_and] at htp;rw [hct] at KC;refine (KC.out _).mono ?_
   rintro e w' ⟨rfl,hw'⟩; rw [hw']; clear hw' w' KC
   go_wp2_with fail
   cases hnt:textP tnn with
   | false =>
    rw [hnt] at KN htp;have hR:=hid (HBad.out (by rw [htp]; rfl));clear HBad HTw HSn htp hnt;refine (KN.out _).mono ?_
    rintro e w' ⟨rfl,hw'⟩; rw [hw']; clear hw' w'
    go_wp2;go_ret;exact ⟨ret_int hR.out.symm,hwW⟩
   | true =>
   rw [hnt,Bool.true_and] at htp;rw [hnt] at KN;refine (KN.out _).mono ?_
   rintro e w' ⟨rfl,hw'⟩; rw [hw']; clear hw' w' KN
   by_cases p1:tp < -1
   ·have hR:=hid (HBad.out (by rw [htp,decide_eq_false (by omega)]; rfl));have p1d:decide (tp < -1)=true:=decide_eq_true p1;clear HBad HTw HSn htp;go_wp2;go_ret;exact ⟨ret_int hR.out.symm,hwW⟩
   have p1d:decide (tp < -1)=false:=decide_eq_false p1;rw [decide_eq_true (show -1≤tp by omega),Bool.true_and] at htp;by_cases p2:1000 < tp
   ·have hR:=hid (HBad.out (by rw [htp,decide_eq_false (by omega)]; rfl));have p2d:decide (1000 < tp)=true:=decide_eq_true p2;clear HBad HTw HSn htp;go_wp2;go_ret;exact ⟨ret_int hR.out.symm,hwW⟩
   have p2d:decide (1000 < tp)=false:=decide_eq_false p2;rw [decide_eq_true (show tp≤1000 by omega),Bool.true_and] at htp;have hpass:(!(tk==[]) || tp==-1)=true → tupP ⟨ti,to',tk,tp,tnn⟩=true:=fun h=>by
    rw [htp]
    cases tk with
    | nil=>simpa using h
    | cons a b=>rfl
   have hfail:(!(tk==[]) || tp==-1)=false → tupP ⟨ti,to',tk,tp,tnn⟩=false:=fun h=>by
    rw [htp]
    cases tk with
    | nil=>simpa using h
    | cons a b=>simp at h
   have HPass:=hid hpass;have HFail:=hid hfail;clear htp hpass hfail;have fin:∀ pe:Bool,(tk==[])=pe → ∀ pm:Bool,(tp==-1)=pm → (!pe || pm)=true → True:=fun _ _ _ _ _=>trivial
   cases p3:(tk==[]) with
   | true =>
    cases p4:(tp==-1) with
    | false =>
     have hR:=hid (HBad.out (HFail.out (by rw [p3,p4]; rfl)));have p4n:(tp != -1)=true:=by rw [bne,p4]; rfl
     clear HBad HTw HSn HPass HFail;go_wp2;go_ret;exact ⟨ret_int hR.out.symm,hwW⟩
    | true =>
     have hT:=hid (HPass.out (by rw [p3,p4]; rfl));have p4n:(tp != -1)=false:=by rw [bne,p4]; rfl
     clear HBad HPass HFail;go_wp2;clear b0 b1 b2 b3 b4 y0 y1 y2
     go_loopw [7] (fun i wr2=>∃ (m q:Nat),m≤j∧i=.int .i64 m∧wr2=W2.drewN q∧Hid ((tl.take m).all (fun q=>!(q.id==ti))=true)) (fun i _=>j - (intOf i).toNat)
     case atStart=>exact ⟨0,0,Nat.zero_le _,rfl,rfl,show _=_ from rfl⟩
     case round =>
      obtain ⟨m,q,hmj,rfl,rfl,hall⟩:=hrel;by_cases hml:m < j
      ·have hmn:m < tl.length:=by omega
       have cm:=HM.out m hml W2 hwW;have HT2:=hid (HTw.out m hml);have hsn:Hid ((tl[m].id==ti)=false → (tl.take (m+1)).all (fun q=>!(q.id==ti))=true):=fun h=>by rw [List.take_succ_eq_append_getElem hmn,List.all_append,hall.out]; simp [h]
       have q7:(m:Int) < (j:Int):=by omega
       have q8:(m:Int) < (tn:Int):=by omega
       obtain ⟨b0,b1,b2,b3,b4,_,_,_,_,_⟩:=HRT.out.rc5;obtain ⟨y0,y1,y2,_,_,_⟩:=(HBR.out.below hbW hlt1).rc3;clear HTw HSn hall HM;generalize tl[m].id=mi at cm HT2 hsn
       cases hcmp:(mi==ti) with
       | true =>
        have hR:=hid (HT2.out hcmp);clear HT2 hsn;go_wp2
        go_quiet (fail)
        go_wp2;go_ret;exact ⟨ret_int hR.out.symm,by first | exact hwW.trans (below_drewN _ _ |>.mono hwW.size) | (rw [World.drewN_drewN]; exact hwW.trans (below_drewN _ _ |>.mono hwW.size))⟩
       | false =>
        have hall2:=hid (hsn.out hcmp);clear HT2 hsn;go_wp2
        go_quiet (fail)
        go_wp2;go_roundw
        case rel=>exact ⟨m+1,q+nq,by omega,by go_num,by first | rfl | rw [World.drewN_drewN],hall2⟩
        case measure=>simp [intOf]; omega
      ·have hmj2:m=j:=by omega
       subst hmj2;have hN:=hid (HSn.out hT.out hall.out);clear HTw HSn hall HM hT;go_wp2;go_roundw
       case rel=>exact ⟨m+1,by omega,by go_num,hN,hbW.trans (below_drewN _ _ |>.mono hbW.size)⟩
       case measure=>simp [intOf]; omega
   | false =>
    have hT:=hid (HPass.out (by rw [p3]; rfl));clear HBad HPass HFail;go_wp2;clear b0 b1 b2 b3 b4 y0 y1 y2
    go_loopw [7] (fun i wr2=>∃ (m q:Nat),m≤j∧i=.int .i64 m∧wr2=W2.drewN q∧Hid ((tl.take m).all (fun q=>!(q.id==ti))=true)) (fun i _=>j - (intOf i).toNat)
    case atStart=>exact ⟨0,0,Nat.zero_le _,rfl,rfl,show _=_ from rfl⟩
    case round =>
     obtain ⟨m,q,hmj,rfl,rfl,hall⟩:=hrel;by_cases hml:m < j
     ·have hmn:m < tl.length:=by omega
      have cm:=HM.out m hml W2 hwW;have HT2:=hid (HTw.out m hml);have hsn:Hid ((tl[m].id==ti)=false → (tl.take (m+1)).all (fun q=>!(q.id==ti))=true):=fun h=>by rw [List.take_succ_eq_append_getElem hmn,List.all_append,hall.out]; simp [h]
      have q7:(m:Int) < (j:Int):=by omega
      have q8:(m:Int) < (tn:Int):=by omega
      obtain ⟨b0,b1,b2,b3,b4,_,_,_,_,_⟩:=HRT.out.rc5;obtain ⟨y0,y1,y2,_,_,_⟩:=(HBR.out.below hbW hlt1).rc3;clear HTw HSn hall HM;generalize tl[m].id=mi at cm HT2 hsn
      cases hcmp:(mi==ti) with
      | true =>
       have hR:=hid (HT2.out hcmp);clear HT2 hsn;go_wp2
       go_quiet (fail)
       go_wp2;go_ret;exact ⟨ret_int hR.out.symm,by first | exact hwW.trans (below_drewN _ _ |>.mono hwW.size) | (rw [World.drewN_drewN]; exact hwW.trans (below_drewN _ _ |>.mono hwW.size))⟩
      | false =>
       have hall2:=hid (hsn.out hcmp);clear HT2 hsn;go_wp2
       go_quiet (fail)
       go_wp2;go_roundw
       case rel=>exact ⟨m+1,q+nq,by omega,by go_num,by first | rfl | rw [World.drewN_drewN],hall2⟩
       case measure=>simp [intOf]; omega
     ·have hmj2:m=j:=by omega
      subst hmj2;have hN:=hid (HSn.out hT.out hall.out);clear HTw HSn hall HM hT;go_wp2;go_roundw
      case rel=>exact ⟨m+1,by omega,by go_num,hN,hbW.trans (below_drewN _ _ |>.mono hbW.size)⟩
      case measure=>simp [intOf]; omega
  ·have hjt:j=tn:=by omega
   subst hjt;have HT0:Hid (tupsOk tl=true):=show _=_ by have:=ha.out; rwa [List.take_of_length_le (by have:=HTN.out; omega)] at this
   clear ha HTC HST HBT;have q6:¬ (j:Int) < (j:Int):=by omega
   have HY:=hid (show w1.heap.size≤wr.heap.size from hb.size);go_wp2;clear y0 y1 y2
   go_loopw [8] (fun i wr2=>∃ m:Nat,m≤nn∧i=.int .i64 m∧wr2=wr∧Hid ((nl.take m).all noteP=true)) (fun i _=>nn - (intOf i).toNat)
   case atStart=>exact ⟨0,Nat.zero_le _,rfl,rfl,show _=_ from rfl⟩
   case round =>
    obtain ⟨m,hmn,rfl,rfl,hall⟩:=hrel;obtain ⟨y0,y1,y2,_,_,_⟩:=(HBR.out.below hb hlt1).rc3;by_cases hml:m < nn
    ·have hmt:m < nl.length:=by have:=HNN.out; omega
     obtain ⟨ad,hao,hab,c⟩:=HNC.out m hmt;subst hao;have c:=cell_below hbw (by rw [add_block]; exact hab) c;have s1:=HSN.out nl[m] (List.getElem_mem hmt);have KT:=hid (fun w'=>rtext14_any nl[m] w' s1);have HB:Hid (noteP nl[m]=false → R=140):=fun h=>HBN.out (by rw [List.all_eq_false]; exact ⟨nl[m],List.getElem_mem hmt,by rw [h]; simp⟩);have HS:Hid (noteP nl[m]=true → (nl.take (m+1)).all noteP=true):=fun h=>by rw [List.take_succ_eq_append_getElem hmt,List.all_append,hall.out]; simp [h]
     have hnp:noteP nl[m]=(!(nl[m].isEmpty) && textP nl[m]):=rfl;have q7:(m:Int) < (nn:Int):=by omega
     clear HNC HSN HBN hall HOK;generalize nl[m]=S at c KT HB HS hnp
     cases hS:S with
     | nil =>
      subst hS;have hR:=hid (HB.out (by rw [hnp]; rfl));clear HB HS hnp;go_wp2;go_ret;exact ⟨ret_int hR.out.symm,hbw⟩
     | cons x y =>
      have pe:(S==[])=false:=by rw [hS]; rfl
      have hie:S.isEmpty=false:=by rw [hS]; rfl
      rw [hie] at hnp
      cases htx:textP S with
      | false =>
       rw [htx] at KT hnp;have hR:=hid (HB.out (by rw [hnp]; rfl));clear HB HS hnp hS hie htx;go_wp2_with (go_at_call 33; refine (KT.out _).mono ?_; rintro e w' ⟨rfl,hw'⟩; rw [hw']; clear hw' w')
       go_ret;exact ⟨ret_int hR.out.symm,hbw⟩
      | true =>
       rw [htx] at KT hnp;have hN:=hid (HS.out (by rw [hnp]; rfl));clear HB HS hnp hS hie htx;go_wp2_with (go_at_call 33; refine (KT.out _).mono ?_; rintro e w' ⟨rfl,hw'⟩; rw [hw']; clear hw' w')
       go_roundw
       case rel=>exact ⟨m+1,by omega,by go_num,by first | rfl | trivial,hN⟩
       case measure=>simp [intOf]; omega
    ·have q7:¬ (m:Int) < (nn:Int):=by omega
     have hR:=hid (HOK.out HT0.out (by have:=hall.out; rwa [List.take_of_length_le (by have:=HNN.out; omega)] at this));clear HNC HSN HBN hall HOK;go_wp2;go_ret;exact ⟨ret_int hR.out.symm,hbw⟩
def smX (B:Nat) (k:XT):Prop:=(textOf k).length≤B∧SmallP B (attrsOf k)
theorem thou_le (s:List UInt8):thouV s≤1000:=by
 unfold thouV
 split
 ·omega
 ·split
  ·omega
  ·omega
theorem cont_small {B:Nat} {ks:List XT} {c:List UInt8 × Int} (h:contP ks=some c) (hk:∀ k ∈ ks,smX B k):c.1.length≤B∧-1≤c.2∧c.2≤1000:=by
 have hm:∀ k ∈ namedX pcontK ks,smX B k:=fun k h=>hk k (List.mem_filter.1 h).1;unfold contP at h
 split at h
 ·injection h with h; subst h; simp
 ·next c0 r e =>
  have h0:=(hm c0 (by rw [e]; simp)).1
  split at h
  ·injection h with h; subst h; exact ⟨h0,by simp,by simp⟩
  ·next p hp =>
   have h1:=thou_le p
   split at h
   ·cases h
   ·next hn=>injection h with h; subst h; exact ⟨h0,by simp only; omega,h1⟩
theorem tup_small {B:Nat} {t:XT} {x:Tu} (h:tupleT t=some x) (h0:smX B t) (hk:∀ k ∈ kidsOf t,smX B k):SmallT B x:=by
 unfold tupleT at h
 split at h
 ·split at h
  ·split at h
   ·cases h
   ·split at h
    ·cases h
    ·cases hc:contP (kidsOf t) with
     | none=>rw [hc] at h; cases h
     | some c =>
      rw [hc] at h;simp only [Option.map_some,Option.some.injEq] at h;obtain ⟨c1,c2,c3⟩:=cont_small hc hk;subst h;refine ⟨?_,c1,?_,?_⟩
      ·simp only
       cases hP:attG pidK (attrsOf t) with
       | none=>simp
       | some v=>exact attG_small h0.2 hP
      ·simp only
       cases hn:namedX noteK (kidsOf t) with
       | nil=>simp
       | cons k r =>
        have hm:k ∈ kidsOf t:=(List.mem_filter.1 (show k ∈ namedX noteK (kidsOf t) by rw [hn]; simp)).1;exact (hk k hm).1
      ·simp only [Lit.wf,IntKind.min,IntKind.max,IntKind.signed,IntKind.bits,Bool.and_eq_true,decide_eq_true_eq,if_true];omega
  ·cases h
 ·cases h
theorem kid_at {ks:List XT} {d p:Nat} {k:XT} (h:k ∈ ks):∃ y ∈ startsP d ks p,y.2=k:=by
 rw [← startsP_snd d ks p] at h;obtain ⟨y,hy,e⟩:=List.mem_map.1 h;exact ⟨y,hy,e⟩
theorem RowD.smX {w:World} {v:Value} {cs:List NdC} (h:RowD w v cs) {q d:Nat} {t:XT} (hs:SubAt (ndsL cs) q d t):smX 1048576 t:=by
 obtain ⟨_,_,_,_,_,_,_,_,_,_,_,h1,h2⟩:=h.node hs;exact ⟨h2,h1⟩
theorem RowD.tup {w:World} {v:Value} {cs:List NdC} (h:RowD w v cs) {q d:Nat} {t:XT} (hs:SubAt (ndsL cs) q d t) {x:Tu} (hx:tupleT t=some x):SmallT 1048576 x :=
 tup_small hx (h.smX hs) fun k hk=>by
  obtain ⟨y,hy,rfl⟩:=kid_at (d:=d+1) (p:=q+1) hk;exact h.smX (sub_kids hs y hy)
theorem FrX.row {b c:Nat} {v v':Value} {w w':World} {e:TypeId} {l:List Value} (h:FrX b v w v' w') (hr:RowIs w c e l) (hn:c ≠ b) (hv:v.ownBlock ≠ some c):RowIs w' c e l:=by
 unfold RowIs at hr ⊢;rw [h.block c (Array.getElem?_eq_some_iff.1 hr).1 hn hv]; exact hr
theorem one_row (w:World) (v:Value) (t:TypeId):RowIs (w.alloc (.cells #[v] t)) w.heap.size t [v]:=by
 unfold RowIs; rw [heap_alloc_new]
def AttP (o:Option (List Nd)) (b B:Nat) (w:World) (e:Ending) (w':World):Prop:=match o with
 | none=>e=.returned (.tuple #[.slice none 0 0,.int .i64 130])∧FrX b (.slice none 0 0) w (.slice none 0 0) w'
 | some ns=>∃ v' cs',e=.returned (.tuple #[v',.int .i64 0])∧ndsL cs'=ns∧OwnN w' B v' cs'∧FrX b (.slice none 0 0) w (.slice none 0 0) w'
set_option maxHeartbeats 4000000 in
set_option maxRecDepth 100000 in
theorem attempt_any (b:Nat) (l:List UInt8) (w:World) (hrd:XrAt w b l (.slice none 0 0)) (hl:l.length≤4096) :
  Calls Tryz.prog 52 #[.func (.func 53) #[.pointer (some ⟨b,0,none⟩)] #[]] w fun e w'=>AttP (docC l) b w.heap.size w e w':=by
 have hmf:∀ (fn:Fn) (first cap:Array Value) (w:World),(Instr.makeFunc fn first cap).run Tryz.prog w=.ok (.func fn first cap) w:=fun _ _ _ _=>rfl;have hbw:=hrd.lt;have hrp:=(one_row w (.slice none 0 0) 47).below ((Below.refl _ (w.alloc (.cells #[.slice none 0 0] 47))).alloc (Nat.le_refl _) (.cells #[.int .i64 0] 28)) (by simp);have hrq:=one_row (w.alloc (.cells #[.slice none 0 0] 47)) (.int .i64 0) 28;rw [show (w.alloc (.cells #[.slice none 0 0] 47)).heap.size=w.heap.size+1 by simp] at hrq;have hb0:Below w.heap.size w ((w.alloc (.cells #[.slice none 0 0] 47)).alloc (.cells #[.int .i64 0] 28)):=((Below.refl _ w).alloc (Nat.le_refl _) _).alloc (by simp) _;have hsz:((w.alloc (.cells #[.slice none 0 0] 47)).alloc (.cells #[.int .i64 0] 28)).heap.size=w.heap.size+2:=by simp
 have hr0:=hrd.below hb0;have KD:=hid (doc_any b (w.heap.size+2) l _ hr0 (by omega) (Nat.le_of_eq hsz.symm) hl);have HB0:=hid hb0;have HRP:=hid hrp;have HRQ:=hid hrq;have HSZ:=hid hsz;clear hrd hr0 hb0 hrp hrq hsz;generalize docC l=R at KD ⊢
 cases R with
 | none =>
  simp only [DocP] at KD
  go_enter_defers Tryz.func52,Tryz.ntmps52
  go_wp2_with fail
  generalize World.alloc _ _=W0 at KD HB0 HRP HRQ HSZ ⊢;refine (KD.out).mono ?_
  rintro e w2 ⟨rfl,hf2⟩;have hp2:=hf2.row HRP.out (by omega) (by simp [Value.ownBlock]);have hq2:=hf2.row HRQ.out (by omega) (by simp [Value.ownBlock]);have hq3:RowIs (w2.setCell ⟨w.heap.size,0,none⟩ (.slice none 0 0)) (w.heap.size+1) 28 [.int .i64 0]:=by
   unfold RowIs; rw [heap_setCell_other _ _ _ _ (show w.heap.size+1 ≠ w.heap.size by omega)]; exact hq2
  refine leaves_cons (f:=100) (args:=#[.pointer (some ⟨w.heap.size,0,none⟩),.pointer (some ⟨w.heap.size+1,0,none⟩)]) (by simp) (by simp [go_sem]) ?_
  refine (catch_panic ⟨w.heap.size,0,none⟩ ⟨w.heap.size+1,0,none⟩ _ _ [] w2 (hp2.cell 0 (by simp)) (hp2.frozen 0) (hq3.cell 0 (by simp)) (hq3.frozen 0)).mono ?_
  rintro e u' w'' ⟨rfl,rfl,rfl⟩;have hp4:RowIs ((w2.setCell ⟨w.heap.size,0,none⟩ (.slice none 0 0)).setCell ⟨w.heap.size+1,0,none⟩ (.int .i64 130)) w.heap.size 47 [.slice none 0 0]:=by
   have:=hp2.set 0 (.slice none 0 0)
   unfold RowIs at this ⊢;rw [heap_setCell_other _ _ _ _ (show w.heap.size ≠ w.heap.size+1 by omega)]; simpa using this
  have hq4:RowIs ((w2.setCell ⟨w.heap.size,0,none⟩ (.slice none 0 0)).setCell ⟨w.heap.size+1,0,none⟩ (.int .i64 130)) (w.heap.size+1) 28 [.int .i64 130]:=by
   have:=hq3.set 0 (.int .i64 130)
   simpa using this
  have hfin:FrX b (.slice none 0 0) w (.slice none 0 0) ((w2.setCell ⟨w.heap.size,0,none⟩ (.slice none 0 0)).setCell ⟨w.heap.size+1,0,none⟩ (.int .i64 130)):=by
   have h1:=(FrX.of (v:=.slice none 0 0) (FrR.below (b:=b) HB0.out)).trans hf2;refine ⟨h1.os,h1.tape,h1.output,by simp only [World.size_setCell]; exact h1.size,fun c hc hn hv=>?_,h1.own⟩
   rw [heap_setCell_other _ _ _ _ (show c ≠ w.heap.size+1 by omega),heap_setCell_other _ _ _ _ (show c ≠ w.heap.size by omega)];exact h1.block c hc hn hv
  have c4:=hp4.cell 0 (by simp);have c5:=hq4.cell 0 (by simp);generalize World.setCell _ _ _=w4 at hfin c4 c5 ⊢;simp only [List.getElem_cons_zero] at c4 c5
  simp [Leaves,settle,results,Tryz.results52,go_sem,c4,c5,AttP,hfin]
 | some ns =>
  simp only [DocP] at KD
  go_enter_defers Tryz.func52,Tryz.ntmps52
  go_wp2_with fail
  generalize World.alloc _ _=W0 at KD HB0 HRP HRQ HSZ ⊢;refine (KD.out).mono ?_
  rintro e w2 ⟨v2,cs2,rfl,hk2,hown2,hf2⟩;have hp2:=hf2.row HRP.out (by omega) (by simp [Value.ownBlock]);have hq2:=hf2.row HRQ.out (by omega) (by simp [Value.ownBlock]);obtain ⟨xa,xc,hv2⟩:=hown2.form;obtain ⟨N2,hN2⟩:∃ N2,cs2.length=N2:=⟨_,rfl⟩
  rw [hN2] at hv2;subst hv2;have hq3:RowIs (w2.setCell ⟨w.heap.size,0,none⟩ (.slice xa N2 xc)) (w.heap.size+1) 28 [.int .i64 0]:=by
   unfold RowIs; rw [heap_setCell_other _ _ _ _ (show w.heap.size+1 ≠ w.heap.size by omega)]; exact hq2
  have cp:=hp2.cell 0 (by simp);have fp:=hp2.frozen 0;have cq:=hq3.cell 0 (by simp);have fq:=hq3.frozen 0;simp only [List.getElem_cons_zero] at cp cq;have hp4:RowIs ((w2.setCell ⟨w.heap.size,0,none⟩ (.slice xa N2 xc)).setCell ⟨w.heap.size+1,0,none⟩ (.int .i64 0)) w.heap.size 47 [.slice xa N2 xc]:=by
   have:=hp2.set 0 (.slice xa N2 xc)
   unfold RowIs at this ⊢;rw [heap_setCell_other _ _ _ _ (show w.heap.size ≠ w.heap.size+1 by omega)]; simpa using this
  have hq4:RowIs ((w2.setCell ⟨w.heap.size,0,none⟩ (.slice xa N2 xc)).setCell ⟨w.heap.size+1,0,none⟩ (.int .i64 0)) (w.heap.size+1) 28 [.int .i64 0]:=by
   have:=hq3.set 0 (.int .i64 0)
   simpa using this
  have hfin:FrX b (.slice none 0 0) w (.slice none 0 0) ((w2.setCell ⟨w.heap.size,0,none⟩ (.slice xa N2 xc)).setCell ⟨w.heap.size+1,0,none⟩ (.int .i64 0)):=by
   have h1:=(FrX.of (v:=.slice none 0 0) (FrR.below (b:=b) HB0.out)).trans hf2.none;refine ⟨h1.os,h1.tape,h1.output,by simp only [World.size_setCell]; exact h1.size,fun c hc hn hv=>?_,h1.own⟩
   rw [heap_setCell_other _ _ _ _ (show c ≠ w.heap.size+1 by omega),heap_setCell_other _ _ _ _ (show c ≠ w.heap.size by omega)];exact h1.block c hc hn hv
  have hown4:OwnN ((w2.setCell ⟨w.heap.size,0,none⟩ (.slice xa N2 xc)).setCell ⟨w.heap.size+1,0,none⟩ (.int .i64 0)) w.heap.size (.slice xa N2 xc) cs2:=by
   have h1:OwnN ((w2.setCell ⟨w.heap.size,0,none⟩ (.slice xa N2 xc)).setCell ⟨w.heap.size+1,0,none⟩ (.int .i64 0)) (w.heap.size+2) (.slice xa N2 xc) cs2 :=
    ⟨ownsRow_setCell_below (ownsRow_setCell_below hown2.1 (by simp) _) (by simp) _,fun c hc=>ownsRow_setCell_below (ownsRow_setCell_below (hown2.2 c hc) (by simp) _) (by simp) _⟩
   exact h1.mono (by omega)
  have c4:=hp4.cell 0 (by simp);have c5:=hq4.cell 0 (by simp);have HFIN:=hid hfin;have HOWN:=hid hown4;have HK2:=hid hk2;have C4:=hid c4;have C5:=hid c5;clear hp4 hq4 hfin hown4 hown2 hk2 hN2 c4 c5 hf2 hp2 hq2 hq3;go_wp2;generalize World.setCell _ _ _=w4 at HFIN HOWN C4 C5 ⊢;have c4:=C4.out;have c5:=C5.out;simp only [List.getElem_cons_zero] at c4 c5;refine leaves_cons (f:=100) (args:=#[.pointer (some ⟨w.heap.size,0,none⟩),.pointer (some ⟨w.heap.size+1,0,none⟩)]) (by simp) (by simp [go_sem]) ?_
  refine (catch_idle ⟨w.heap.size,0,none⟩ ⟨w.heap.size+1,0,none⟩ _).mono ?_
  rintro e u' w'' ⟨rfl,rfl,rfl⟩
  simp [Leaves,settle,results,Tryz.results52,go_sem,c4,c5]
  exact ⟨.slice xa N2 xc,cs2,rfl,HK2.out,HOWN.out,HFIN.out⟩
def ParP (R:List Nd × Int) (w:World) (e:Ending) (w':World):Prop:=∃ v' cs',e=.returned (.tuple #[v',.int .i64 R.2])∧ndsL cs'=R.1∧OwnN w' w.heap.size v' cs'∧Below w.heap.size w w'
theorem fr_below {w w':World} {o:Obj} (h:FrX w.heap.size (.slice none 0 0) (w.alloc o) (.slice none 0 0) w'):Below w.heap.size w w':=by
 have hb:Below w.heap.size w (w.alloc o):=(Below.refl _ w).alloc (Nat.le_refl _) o;refine ⟨h.os.trans hb.os,h.tape.trans hb.tape,h.output.trans hb.output,Nat.le_trans hb.size h.size,fun c hc=>?_⟩
 rw [h.block c (Nat.lt_of_lt_of_le hc hb.size) (by omega) (by simp [Value.ownBlock]),hb.block c hc]
end Go.Proofs.YtdnekampnkhmfaaGreatDoor
