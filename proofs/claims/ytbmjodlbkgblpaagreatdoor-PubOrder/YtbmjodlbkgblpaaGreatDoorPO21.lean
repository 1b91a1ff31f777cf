/-
  RefWho, PR4, Re5, PC2, PC3.
-/
import Derived.Test.YtbmjodlbkgblpaaGreatDoorPO20
import Derived.Lib.QuietBelow
set_option linter.unusedVariables false
set_option linter.unusedSimpArgs false
set_option maxRecDepth 20000
namespace Go.Proofs.YtbmjodlbkgblpaaGreatDoor
open Go.RowKit Sc
set_option maxHeartbeats 1000000 in
set_option maxRecDepth 100000 in
theorem refwho_any (u:Uri) (p h:Value) (w:World) (hsm:SmallU 140737488355328 u) (hp:ParsAt w p u.params) (hh:ParsAt w h u.headers) :
  Calls Tryz.prog 65 #[uriV u p h] w fun e w'=>e=.returned (.tuple #[.string ⟨(whoV u).1.toArray⟩,.int .i64 (whoV u).2])∧Below w.heap.size w w':=by
 have hbox:=box_new w u p h;have hbw:Below w.heap.size w (w.alloc (.cells #[.string ⟨u.scheme.toArray⟩,.string ⟨u.user.toArray⟩,.string ⟨u.host.toArray⟩,.int .i64 u.port,p,h] 120)):=(Below.refl _ w).alloc (Nat.le_refl _) _;have hws:=alloc_lt w (.cells #[.string ⟨u.scheme.toArray⟩,.string ⟨u.user.toArray⟩,.string ⟨u.host.toArray⟩,.int .i64 u.port,p,h] 120);have K1:=hid (fun w' (hb:Below w.heap.size w w')=>refcheck_any u p h w' hsm (hp.below hb) (hh.below hb));obtain ⟨a1,c1,rfl⟩:=hp.form;obtain ⟨a2,c2,rfl⟩:=hh.form;have hul:checkV u=0 → u.user.length≤64∧u.host.length≤64:=fun h=>⟨(check_ok h).2.1,(hostB_ok (check_ok h).2.2.1).2⟩
 have hwv:whoV u=whoV u:=rfl
 conv at hwv=>rhs; unfold whoV
 have hwt:Hid ((ByteArray.mk (escL usersK u.user).toArray++⟨#[64]⟩)++⟨u.host.toArray⟩=⟨(whoT u).toArray⟩):=show _=_ by rw [whoT,← appL,← appL]
 obtain ⟨n,hn⟩:∃ n,checkV u=n:=⟨_,rfl⟩
 rw [hn] at K1 hwv hul;clear hn hp hh hsm;unfold uriV at K1 ⊢;by_cases e1:n=0
 ·subst e1;obtain ⟨hu64,hh64⟩:=hul rfl;have hel:=escL_len usersK u.user;have hl1:¬ 9223372036854775807 < (escL usersK u.user).length+1:=by omega
  have hl2:¬ 9223372036854775807 < (escL usersK u.user).length+1+u.host.length:=by omega
  rw [if_neg (by simp)] at hwv;by_cases eu:u.user=[]
  ·have hue:u.user.isEmpty=true:=by simp [eu]
   rw [if_pos eu] at hwv;have HV:=hid hwv;clear hwv eu hul
   go_enter Tryz.func65,Tryz.ntmps65
   go_wp2_with fail
   refine (K1.out _ hbw).mono ?_
   rintro e w2 ⟨rfl,hw2⟩;have hb2:=hbw.trans (hw2.mono hbw.size);obtain ⟨g0,g1,g2,g3,g4,g5⟩:=hbox.below hw2 hws;clear hbox hbw hws hw2;go_wp2;go_ret2;exact ⟨ret_who HV.out,hb2⟩
  ·have hue:u.user.isEmpty=false:=by simpa using eu
   rw [if_neg eu] at hwv;have HV:=hid hwv;have K3:=hid (fun w'=>refesc_list u.user usersK w' (by omega) (by decide));clear hwv eu hul
   go_enter Tryz.func65,Tryz.ntmps65
   go_wp2_with fail
   refine (K1.out _ hbw).mono ?_
   rintro e w2 ⟨rfl,hw2⟩;have hacc:=(hbw.trans (hw2.mono hbw.size)).drew;have hlt:w.heap.size < w2.drew.heap.size:=Nat.lt_of_lt_of_le hws hw2.size;obtain ⟨q0,q1,q2,q3,q4,q5⟩:=hbox.below hw2 hws;have hbx:Hid (BoxU w2.drew w.heap.size u (.slice a1 u.params.length c1) (.slice a2 u.headers.length c2)):=⟨q0,q1,q2,q3,q4,q5⟩
   obtain ⟨g0,g1,g2,g3,g4,g5⟩:=hbx.out;clear hbox hbw hws hw2;go_wp2
   go_region_law (go_simp; go_at_call 91; refine (K3.out _).mono ?_; rintro e w3 ⟨rfl,hw3⟩; replace hbx:=hid (hbx.out.below hw3 hlt); replace hacc:=hacc.trans (hw3.mono hacc.size); obtain ⟨g0,g1,g2,g3,g4,g5⟩:=hbx.out; clear hw3)
   all_goals (
    try go_simp
    go_wp2;rw [hwt.out];go_ret2;exact ⟨ret_who HV.out,hacc⟩)
 ·have e1a:(n != 0)=true:=by simpa using e1
  have e1b:(n==0)=false:=by simpa using e1
  rw [if_pos e1] at hwv;have HV:=hid hwv;clear hwv hul
  go_enter Tryz.func65,Tryz.ntmps65
  go_wp2_with fail
  refine (K1.out _ hbw).mono ?_
  rintro e w2 ⟨rfl,hw2⟩;have hb2:=hbw.trans (hw2.mono hbw.size);obtain ⟨g0,g1,g2,g3,g4,g5⟩:=hbox.below hw2 hws;clear hbox hbw hws hw2;go_wp2_with fail
  refine (K1.out _ hb2).mono ?_
  rintro e w3 ⟨rfl,hw3⟩;have hb3:=hb2.trans (hw3.mono hb2.size);clear g0 g1 g2 g3 g4 g5 hw3;go_wp2;go_ret2;exact ⟨ret_who HV.out,hb3⟩
theorem refparse4 {l:List UInt8} {u:Uri} {er:Int} (h:parseV ([115,105,112,58]++l)=(u,er)) (w:World) (hs:l.length+4≤1048576) :
  Calls Tryz.prog 64 #[.string (⟨#[115,105,112,58]⟩++⟨l.toArray⟩)] w fun e w'=>∃ a1 k1 a2 k2,e=.returned (.tuple #[.agg #[.string ⟨u.scheme.toArray⟩,.string ⟨u.user.toArray⟩,.string ⟨u.host.toArray⟩,.int .i64 u.port,.slice a1 u.params.length k1,.slice a2 u.headers.length k2],.int .i64 er])∧ParsAt w' (.slice a1 u.params.length k1) u.params∧ParsAt w' (.slice a2 u.headers.length k2) u.headers∧Below w.heap.size w w':=by
 have k:=refparse_any ([115,105,112,58]++l) w (by simp; omega);rw [h,← appL] at k;refine k.mono ?_
 rintro e w' ⟨p,q,rfl,hp,hq,hb⟩;have hp2:=hp.parsAt;have hq2:=hq.parsAt;obtain ⟨a1,k1,e1⟩:=hp2.form;obtain ⟨a2,k2,e2⟩:=hq2.form;simp only at e1 e2 hp2 hq2;subst e1 e2;exact ⟨a1,k1,a2,k2,rfl,hp2,hq2,hb⟩
set_option maxHeartbeats 1000000 in
set_option maxRecDepth 100000 in
theorem refhost_who (l:List UInt8) (w:World) (hs:l.length+4≤1048576) :
  Calls Tryz.prog 36 #[.string ⟨l.toArray⟩] w fun e w'=>e=.returned (.tuple #[.string ⟨(hostV l).1.toArray⟩,.int .i64 (hostV l).2])∧Below w.heap.size w w':=by
 obtain ⟨u,er,hpv⟩:∃ u er,parseV ([115,105,112,58]++l)=(u,er):=⟨_,_,rfl⟩
 have K1:=hid (refparse4 hpv w hs);by_cases her:er=0
 ·subst her;have hcz:=parse_checked hpv;have hsm:=small_of_check hcz;obtain ⟨t,n,hwv⟩:∃ t n,whoV u=(t,n):=⟨_,_,rfl⟩
  have K2:=hid (fun (w':World) (p h:Value)=>refwho_any u p h w' hsm);rw [hwv] at K2;unfold uriV at K2;simp only at K2;by_cases hn:n=0
  ·subst hn;by_cases ht:t=l
   ·subst ht;have HV:=hid (host_yes (t:=t) hpv hwv);clear hpv hwv hcz hsm
    go_enter Tryz.func36,Tryz.ntmps36
    go_wp2_with fail
    refine K1.out.mono ?_
    rintro e w1 ⟨a1,k1,a2,k2,rfl,hp,hq,hw1⟩;have hb1:=hw1.alloc hw1.size (.cells #[.string ⟨u.scheme.toArray⟩,.string ⟨u.user.toArray⟩,.string ⟨u.host.toArray⟩,.int .i64 u.port,.slice a1 u.params.length k1,.slice a2 u.headers.length k2] 120);have hx:=box_new w1 u (.slice a1 u.params.length k1) (.slice a2 u.headers.length k2);have hlx:=alloc_lt w1 (.cells #[.string ⟨u.scheme.toArray⟩,.string ⟨u.user.toArray⟩,.string ⟨u.host.toArray⟩,.int .i64 u.port,.slice a1 u.params.length k1,.slice a2 u.headers.length k2] 120);have HX:=hid hx;have HP:=hid (hp.alloc (.cells #[.string ⟨u.scheme.toArray⟩,.string ⟨u.user.toArray⟩,.string ⟨u.host.toArray⟩,.int .i64 u.port,.slice a1 u.params.length k1,.slice a2 u.headers.length k2] 120));have HQ:=hid (hq.alloc (.cells #[.string ⟨u.scheme.toArray⟩,.string ⟨u.user.toArray⟩,.string ⟨u.host.toArray⟩,.int .i64 u.port,.slice a1 u.params.length k1,.slice a2 u.headers.length k2] 120));obtain ⟨g0,g1,g2,g3,g4,g5⟩:=hx;clear hp hq hw1 K1;go_wp2_with fail
    refine (K2.out _ _ _ HP.out HQ.out).mono ?_
    rintro e w2 ⟨rfl,hw2⟩;have hb2:=hb1.trans (hw2.mono hb1.size);clear g0 g1 g2 g3 g4 g5;obtain ⟨g0,g1,g2,g3,g4,g5⟩:=HX.out.below hw2 hlx;clear hw2 HP HQ HX hlx;go_wp2;go_ret2;exact ⟨ret_who HV.out,hb2⟩
   ·have HV:=hid (host_no hpv (by rw [hwv]; simp [ht]));have ht2:(t==l)=false:=by simpa using ht
    clear hpv hwv hcz hsm
    go_enter Tryz.func36,Tryz.ntmps36
    go_wp2_with fail
    refine K1.out.mono ?_
    rintro e w1 ⟨a1,k1,a2,k2,rfl,hp,hq,hw1⟩;have hb1:=hw1.alloc hw1.size (.cells #[.string ⟨u.scheme.toArray⟩,.string ⟨u.user.toArray⟩,.string ⟨u.host.toArray⟩,.int .i64 u.port,.slice a1 u.params.length k1,.slice a2 u.headers.length k2] 120);have hx:=box_new w1 u (.slice a1 u.params.length k1) (.slice a2 u.headers.length k2);have HP:=hid (hp.alloc (.cells #[.string ⟨u.scheme.toArray⟩,.string ⟨u.user.toArray⟩,.string ⟨u.host.toArray⟩,.int .i64 u.port,.slice a1 u.params.length k1,.slice a2 u.headers.length k2] 120));have HQ:=hid (hq.alloc (.cells #[.string ⟨u.scheme.toArray⟩,.string ⟨u.user.toArray⟩,.string ⟨u.host.toArray⟩,.int .i64 u.port,.slice a1 u.params.length k1,.slice a2 u.headers.length k2] 120));obtain ⟨g0,g1,g2,g3,g4,g5⟩:=hx;clear hp hq hw1 K1;go_wp2_with fail
    refine (K2.out _ _ _ HP.out HQ.out).mono ?_
    rintro e w2 ⟨rfl,hw2⟩;have hb2:=hb1.trans (hw2.mono hb1.size);clear g0 g1 g2 g3 g4 g5 hw2 HP HQ;go_wp2;go_ret2;exact ⟨ret_who HV.out,hb2⟩
  ·have HV:=hid (host_no hpv (by rw [hwv]; simp [hn]));have hn1:(n != 0)=true:=by simpa using hn
   have hn2:(n==0)=false:=by simpa using hn
   clear hpv hwv hcz hsm
   go_enter Tryz.func36,Tryz.ntmps36
   go_wp2_with fail
   refine K1.out.mono ?_
   rintro e w1 ⟨a1,k1,a2,k2,rfl,hp,hq,hw1⟩;have hb1:=hw1.alloc hw1.size (.cells #[.string ⟨u.scheme.toArray⟩,.string ⟨u.user.toArray⟩,.string ⟨u.host.toArray⟩,.int .i64 u.port,.slice a1 u.params.length k1,.slice a2 u.headers.length k2] 120);have hx:=box_new w1 u (.slice a1 u.params.length k1) (.slice a2 u.headers.length k2);have HP:=hid (hp.alloc (.cells #[.string ⟨u.scheme.toArray⟩,.string ⟨u.user.toArray⟩,.string ⟨u.host.toArray⟩,.int .i64 u.port,.slice a1 u.params.length k1,.slice a2 u.headers.length k2] 120));have HQ:=hid (hq.alloc (.cells #[.string ⟨u.scheme.toArray⟩,.string ⟨u.user.toArray⟩,.string ⟨u.host.toArray⟩,.int .i64 u.port,.slice a1 u.params.length k1,.slice a2 u.headers.length k2] 120));obtain ⟨g0,g1,g2,g3,g4,g5⟩:=hx;clear hp hq hw1 K1;go_wp2_with fail
   refine (K2.out _ _ _ HP.out HQ.out).mono ?_
   rintro e w2 ⟨rfl,hw2⟩;have hb2:=hb1.trans (hw2.mono hb1.size);clear g0 g1 g2 g3 g4 g5 hw2 HP HQ;go_wp2;go_ret2;exact ⟨ret_who HV.out,hb2⟩
 ·have HV:=hid (host_bad hpv her);have he1:(er != 0)=true:=by simpa using her
  have he2:(er==0)=false:=by simpa using her
  clear hpv
  go_enter Tryz.func36,Tryz.ntmps36
  go_wp2_with fail
  refine K1.out.mono ?_
  rintro e w1 ⟨a1,k1,a2,k2,rfl,hp,hq,hw1⟩;have hb1:=hw1.alloc hw1.size (.cells #[.string ⟨u.scheme.toArray⟩,.string ⟨u.user.toArray⟩,.string ⟨u.host.toArray⟩,.int .i64 u.port,.slice a1 u.params.length k1,.slice a2 u.headers.length k2] 120);clear hp hq hw1 K1;go_wp2;go_ret2;exact ⟨ret_who HV.out,hb1⟩
theorem distinctT_snoc (t:Tu):∀ l:List Tu,distinctT (l++[t])=(distinctT l && l.all (fun q=>!(q.id==t.id)))
 | []=>rfl
 | q :: l=>by
  rw [List.cons_append,distinctT,distinctT,distinctT_snoc t l,List.all_append,List.all_cons,List.all_cons,List.all_nil];have e:(t.id==q.id)=(q.id==t.id):=BEq.comm;rw [e]
  cases l.all (fun q_1=>!(q_1.id==q.id)) <;> cases distinctT l <;> cases (q.id==t.id) <;> cases l.all (fun q=>!(q.id==t.id)) <;> rfl
theorem distinctT_front:∀ a b:List Tu,distinctT (a++b)=true → distinctT a=true
 | [],b,_=>rfl
 | t :: a,b,h=>by
  rw [List.cons_append,distinctT,List.all_append] at h;simp only [Bool.and_eq_true] at h;rw [distinctT,distinctT_front a b h.2,h.1.1]; rfl
def tupsOk (l:List Tu):Bool:=l.all tupP && distinctT l
theorem tups_snoc {l:List Tu} {j:Nat} (hj:j < l.length) (ha:tupsOk (l.take j)=true) (h1:tupP l[j]=true) (h2:(l.take j).all (fun q=>!(q.id==l[j].id))=true):tupsOk (l.take (j+1))=true:=by
 simp only [tupsOk,Bool.and_eq_true] at ha ⊢;rw [List.take_succ_eq_append_getElem hj,List.all_append,distinctT_snoc,ha.1,ha.2,h2]
 simp [h1]
theorem chkD_is {d:Dc} (h1:(hostV d.entity).2=0) (h2:d.tuples.length≤16) (h3:d.notes.length≤16):checkD d=if (tupsOk d.tuples && d.notes.all noteP)=true then 0 else 140:=by
 unfold checkD tupsOk;rw [if_neg (by simp [h1]; omega),Bool.and_assoc]
theorem tups_bad {l:List Tu} {j:Nat} (hj:j < l.length) (h1:tupP l[j]=false):tupsOk l=false:=by
 unfold tupsOk
 have:l.all tupP=false:=by
  rw [List.all_eq_false];exact ⟨l[j],List.getElem_mem hj,by rw [h1]; simp⟩
 rw [this]; rfl
theorem tups_twice {l:List Tu} {j m:Nat} (hj:j < l.length) (hm:m < j) (h1:((l[m]'(by omega)).id==l[j].id)=true):tupsOk l=false:=by
 unfold tupsOk
 have:distinctT l=false:=by
  cases hd:distinctT l with
  | false=>rfl
  | true =>
   exfalso
   have e:l=l.take (j+1)++l.drop (j+1):=by simp
   rw [e] at hd;have h2:=distinctT_front _ _ hd;rw [List.take_succ_eq_append_getElem hj,distinctT_snoc] at h2;simp only [Bool.and_eq_true,List.all_eq_true] at h2;have h3:=h2.2 (l[m]'(by omega)) (by rw [List.mem_take_iff_getElem]; exact ⟨m,by omega,rfl⟩);rw [h1] at h3
   simp at h3
 rw [this]; simp
theorem box3 (w:World) (v0 v1 v2:Value) (t:TypeId):RowC3 (w.alloc (.cells #[v0,v1,v2] t)) w.heap.size v0 v1 v2:=(rc_row3 w v0 v1 v2 t).rc3
set_option maxHeartbeats 4000000 in
set_option maxRecDepth 100000 in
theorem rcheck14_any (d:Dc) (ts ns:Value) (w:World) (hsm:SmallD 140737488355328 d) (hen:d.entity.length+4≤1048576) (hts:TusAt w ts d.tuples) (hns:StrsAt w ns d.notes) :
  Calls Tryz.prog 22 #[docV d ts ns] w fun e w'=>e=.returned (.int .i64 (checkD d))∧Below w.heap.size w w':=by
 obtain ⟨en,tl,nl⟩:=d;obtain ⟨_,hz1,hz2,hst,hsn⟩:=hsm;simp only at hz1 hz2 hst hsn hen hts hns;have KH:=hid (fun w'=>refhost_who en w' hen);have hv:checkD ⟨en,tl,nl⟩=if (hostV en).2 ≠ 0∨16 < tl.length∨16 < nl.length then 140 else if (tl.all tupP && (distinctT tl && nl.all noteP))=true then 0 else 140:=rfl
 have hok:(hostV en).2=0 → tl.length≤16 → nl.length≤16 → checkD ⟨en,tl,nl⟩=if (tupsOk tl && nl.all noteP)=true then 0 else 140:=fun h1 h2 h3=>chkD_is h1 h2 h3
 unfold docV
 simp only
 generalize checkD ⟨en,tl,nl⟩=R at hv hok ⊢;obtain ⟨ta,tc,rfl,htc⟩:=hts;obtain ⟨na,nc,rfl,hnc⟩:=hns;have HTC:=hid htc;have HNC:=hid hnc;have HST:=hid hst;have HSN:=hid hsn;obtain ⟨tn,htn⟩:∃ tn,tn=tl.length:=⟨_,rfl⟩
 obtain ⟨nn,hnn⟩:∃ nn,nn=nl.length:=⟨_,rfl⟩
 rw [← htn] at hz1 hv hok ⊢;rw [← hnn] at hz2 hv hok ⊢;have HTN:=hid htn;have HNN:=hid hnn;clear htc hnc hst hsn htn hnn;generalize hostV en=HV at KH hv hok;obtain ⟨hs,he⟩:=HV;simp only at KH hv hok;have hbx:=box3 w (.string ⟨en.toArray⟩) (.slice ta tn tc) (.slice na nn nc) 35;have hbn:Below w.heap.size w (w.alloc (.cells #[.string ⟨en.toArray⟩,.slice ta tn tc,.slice na nn nc] 35)):=(Below.refl _ w).alloc (Nat.le_refl _) _;have hbr:=rc_row3 w (.string ⟨en.toArray⟩) (.slice ta tn tc) (.slice na nn nc) 35;have hlt0:=alloc_lt w (.cells #[.string ⟨en.toArray⟩,.slice ta tn tc,.slice na nn nc] 35);obtain ⟨x0,x1,x2,_,_,_⟩:=hbx;by_cases h1:he=0
 case neg =>
  rw [if_pos (.inl h1)] at hv;have HR:=hid hv;have q1:(he != 0)=true:=by simpa using h1
  clear hv hok h1 HTC HNC HST HSN
  go_enter Tryz.func22,Tryz.ntmps22
  go_wp2_with fail
  generalize World.alloc w _=W0 at x0 x1 x2 hbn hbr hlt0 ⊢;refine (KH.out _).mono ?_
  rintro e w1 ⟨rfl,hw1⟩;go_wp2;go_ret;exact ⟨ret_int HR.out.symm,hbn.trans (hw1.mono hbn.size)⟩
 subst h1;by_cases h2:16 < tn
 ·rw [if_pos (.inr (.inl h2))] at hv;have HR:=hid hv;have q2:(16:Int) < (tn:Int):=by omega
  clear hv hok HTC HNC HST HSN
  go_enter Tryz.func22,Tryz.ntmps22
  go_wp2_with fail
  generalize World.alloc w _=W0 at x0 x1 x2 hbn hbr hlt0 ⊢;refine (KH.out _).mono ?_
  rintro e w1 ⟨rfl,hw1⟩;obtain ⟨y0,y1,y2,_,_,_⟩:=(hbr.below hw1 hlt0).rc3;go_wp2;go_ret;exact ⟨ret_int HR.out.symm,hbn.trans (hw1.mono hbn.size)⟩
 have q2:¬ (16:Int) < (tn:Int):=by omega
 by_cases h3:16 < nn
 ·rw [if_pos (.inr (.inr h3))] at hv;have HR:=hid hv;have q3:(16:Int) < (nn:Int):=by omega
  clear hv hok HTC HNC HST HSN
  go_enter Tryz.func22,Tryz.ntmps22
  go_wp2_with fail
  generalize World.alloc w _=W0 at x0 x1 x2 hbn hbr hlt0 ⊢;refine (KH.out _).mono ?_
  rintro e w1 ⟨rfl,hw1⟩;obtain ⟨y0,y1,y2,_,_,_⟩:=(hbr.below hw1 hlt0).rc3;go_wp2;go_ret;exact ⟨ret_int HR.out.symm,hbn.trans (hw1.mono hbn.size)⟩
 have q3:¬ (16:Int) < (nn:Int):=by omega
 have hR0:=hok rfl (by omega) (by omega);have HBT:Hid (tupsOk tl=false → R=140):=fun h=>by rw [hR0,h]; simp
 have HBN:Hid (nl.all noteP=false → R=140):=fun h=>by rw [hR0,h]; simp
 have HOK:Hid (tupsOk tl=true → nl.all noteP=true → R=0):=fun h h'=>by rw [hR0,h,h']; rfl
 clear hv hok hR0
 go_enter Tryz.func22,Tryz.ntmps22
 go_wp2_with fail
 generalize World.alloc w _=W0 at x0 x1 x2 hbn hbr hlt0 ⊢;refine (KH.out _).mono ?_
 rintro e w1 ⟨rfl,hw1⟩;obtain ⟨y0,y1,y2,_,_,_⟩:=(hbr.below hw1 hlt0).rc3;have hb1:=hbn.trans (hw1.mono hbn.size);have HBR:=hid (hbr.below hw1 hlt0);have hlt1:=Nat.lt_of_lt_of_le hlt0 hw1.size;clear x0 x1 x2 hbn hbr hlt0 KH hw1;go_wp2;clear y0 y1 y2
 go_loopw [5] (fun i wr=>∃ j:Nat,j≤tn∧i=.int .i64 j∧Hid (tupsOk (tl.take j)=true)∧Below w1.heap.size w1 wr) (fun i _=>tn - (intOf i).toNat)
 case atStart=>exact ⟨0,Nat.zero_le _,rfl,show _=_ from rfl,Below.refl _ _⟩
 case round =>
  obtain ⟨j,hjn,rfl,ha,hb⟩:=hrel;have hbw:Below w.heap.size w wr:=hb1.trans (hb.mono hb1.size);obtain ⟨y0,y1,y2,_,_,_⟩:=(HBR.out.below hb hlt1).rc3;by_cases hlt:j < tn
  ·have hjl:j < tl.length:=by have:=HTN.out; omega
   obtain ⟨ad,hao,hab,c⟩:=HTC.out j hjl;subst hao;have c:=c.below hbw hab;obtain ⟨s1,s2,s3,s4⟩:=HST.out tl[j] (List.getElem_mem hjl);have s5:=i64_of s4;have HBad:Hid (tupP tl[j]=false → R=140):=fun h=>HBT.out (tups_bad hjl h);have HTw:Hid (∀ m (hm:m < j),((tl[m]'(by omega)).id==tl[j].id)=true → R=140):=fun m hm h=>HBT.out (tups_twice hjl hm h);have HSn:Hid (tupP tl[j]=true → (tl.take j).all (fun q=>!(q.id==tl[j].id))=true → tupsOk (tl.take (j+1))=true):=fun h1 h2=>tups_snoc hjl ha.out h1 h2;have KI:=hid (fun w'=>ident_list tl[j].id w' s1);have KC:=hid (fun w'=>rtext14_any tl[j].contact w' s2);have KN:=hid (fun w'=>rtext14_any tl[j].note w' s3);have htp:tupP tl[j]=(identP tl[j].id && (textP tl[j].contact && (textP tl[j].note && (decide (-1≤tl[j].prio) && (decide (tl[j].prio≤1000) && (!tl[j].contact.isEmpty || tl[j].prio==-1)))))):=rfl;obtain ⟨W2,hW2⟩:∃ W2,W2=wr.alloc (.cells #[.string ⟨tl[j].id.toArray⟩,.bool tl[j].opn,.string ⟨tl[j].contact.toArray⟩,.int .i64 tl[j].prio,.string ⟨tl[j].note.toArray⟩] 89):=⟨_,rfl⟩
   have hbW:Below w1.heap.size w1 W2:=by rw [hW2]; exact hb.alloc hb.size _
   have hwW:Below w.heap.size w W2:=by rw [hW2]; exact hbw.alloc hbw.size _
   have hrT:RowIs W2 wr.heap.size 89 [.string ⟨tl[j].id.toArray⟩,.bool tl[j].opn,.string ⟨tl[j].contact.toArray⟩,.int .i64 tl[j].prio,.string ⟨tl[j].note.toArray⟩]:=by rw [hW2]; exact rc_row5 _ _ _ _ _ _ _
   have hltT:wr.heap.size < W2.heap.size:=by rw [hW2]; exact alloc_lt _ _
   have HM:Hid (∀ m (hm:m < j),∀ w',Below w.heap.size w w' → w'.cell? (ad.add (m * 5))=some (.string ⟨(tl[m]'(by omega)).id.toArray⟩)):=fun m hm w' hb'=>by
    obtain ⟨ad2,hao2,hab2,c2⟩:=HTC.out m (by omega)
    have:ad2=ad:=(Option.some.inj hao2).symm
    subst this;exact (c2.below hb' hab).c0
   clear HBT ha HST s1 s2 s3 s4 HTC;generalize hTj:tl[j]=T at c HBad HTw HSn KI KC KN htp hW2 hrT s5;obtain ⟨ti,to',tk,tp,tnn⟩:=T;simp only at c KI KC KN htp hW2 hrT HTw HSn s5;obtain ⟨c0,c1,c2,c3,c4⟩:=c;simp only at c0 c1 c2 c3 c4;have q6:(j:Int) < (tn:Int):=by omega
   have HRT:=hid hrT;go_wp2_with fail
   clear c0 c1 c2 c3 c4 y0 y1 y2;rw [← hW2];clear hW2;obtain ⟨b0,b1,b2,b3,b4,_,_,_,_,_⟩:=hrT.rc5;obtain ⟨y0,y1,y2,_,_,_⟩:=(HBR.out.below hbW hlt1).rc3
   cases hidt:identP ti with
   | false =>
    rw [hidt] at KI htp;have hR:=hid (HBad.out (by rw [htp]; rfl));clear HBad HTw HSn htp hidt;refine (KI.out _).mono ?_
    rintro e w' ⟨rfl,hw'⟩; rw [hw']; clear hw' w'
    go_wp2;go_ret;exact ⟨ret_int hR.out.symm,hwW⟩
   | true =>
   rw [hidt,Bool.true_and] at htp;rw [hidt] at KI;refine (KI.out _).mono ?_
   rintro e w' ⟨rfl,hw'⟩; rw [hw']; clear hw' w' KI
   go_wp2_with fail
   cases hct:textP tk with
   | false =>
    rw [hct] at KC htp;have hR:=hid (HBad.out (by rw [htp]; rfl));clear HBad HTw HSn htp hct;refine (KC.out _).mono ?_
    rintro e w' ⟨rfl,hw'⟩; rw [hw']; clear hw' w'
    go_wp2;go_ret;exact ⟨ret_int hR.out.symm,hwW⟩
   | true =>
   rw [hct,Bool.true_and] at htp;rw [hct] at KC;refine (KC.out _).mono ?_
   rintro e w' ⟨rfl,hw'⟩; rw [hw']; clear hw' w' KC
   go_wp2_with fail
   cases hnt:textP tnn with
   | false =>
    rw [hnt] at KN htp;have hR:=hid (HBad.out (by rw [htp]; rfl));clear HBad HTw HSn htp hnt;refine (KN.out _).mono ?_
    rintro e w' ⟨rfl,hw'⟩; rw [hw']; clear hw' w'
    go_wp2;go_ret;exact ⟨ret_int hR.out.symm,hwW⟩
   | true =>
   rw [hnt,Bool.true_and] at htp;rw [hnt] at KN;refine (KN.out _).mono ?_
   rintro e w' ⟨rfl,hw'⟩; rw [hw']; clear hw' w' KN
   by_cases p1:tp < -1
   ·have hR:=hid (HBad.out (by rw [htp,decide_eq_false (by omega)]; rfl));have p1d:decide (tp < -1)=true:=decide_eq_true p1;clear HBad HTw HSn htp;go_wp2;go_ret;exact ⟨ret_int hR.out.symm,hwW⟩
   have p1d:decide (tp < -1)=false:=decide_eq_false p1;rw [decide_eq_true (show -1≤tp by omega),Bool.true_and] at htp;by_cases p2:1000 < tp
   ·have hR:=hid (HBad.out (by rw [htp,decide_eq_false (by omega)]; rfl));have p2d:decide (1000 < tp)=true:=decide_eq_true p2;clear HBad HTw HSn htp;go_wp2;go_ret;exact ⟨ret_int hR.out.symm,hwW⟩
   have p2d:decide (1000 < tp)=false:=decide_eq_false p2;rw [decide_eq_true (show tp≤1000 by omega),Bool.true_and] at htp
   have hpass:(!(tk==[]) || tp==-1)=true → tupP ⟨ti,to',tk,tp,tnn⟩=true:=fun h=>by
    rw [htp]
    cases tk with
    | nil=>simpa using h
    | cons a b=>rfl
   have hfail:(!(tk==[]) || tp==-1)=false → tupP ⟨ti,to',tk,tp,tnn⟩=false:=fun h=>by
    rw [htp]
    cases tk with
    | nil=>simpa using h
    | cons a b=>simp at h
   have HPass:=hid hpass;have HFail:=hid hfail;clear htp hpass hfail;have fin:∀ pe:Bool,(tk==[])=pe → ∀ pm:Bool,(tp==-1)=pm → (!pe || pm)=true → True:=fun _ _ _ _ _=>trivial
   cases p3:(tk==[]) with
   | true =>
    cases p4:(tp==-1) with
    | false =>
     have hR:=hid (HBad.out (HFail.out (by rw [p3,p4]; rfl)));have p4n:(tp != -1)=true:=by rw [bne,p4]; rfl
     clear HBad HTw HSn HPass HFail;go_wp2;go_ret;exact ⟨ret_int hR.out.symm,hwW⟩
    | true =>
     have hT:=hid (HPass.out (by rw [p3,p4]; rfl));have p4n:(tp != -1)=false:=by rw [bne,p4]; rfl
     clear HBad HPass HFail;go_wp2;clear b0 b1 b2 b3 b4 y0 y1 y2
     go_loopw [7] (fun i wr2=>∃ (m q:Nat),m≤j∧i=.int .i64 m∧wr2=W2.drewN q∧Hid ((tl.take m).all (fun q=>!(q.id==ti))=true)) (fun i _=>j - (intOf i).toNat)
     case atStart=>exact ⟨0,0,Nat.zero_le _,rfl,rfl,show _=_ from rfl⟩
     case round =>
      obtain ⟨m,q,hmj,rfl,rfl,hall⟩:=hrel;by_cases hml:m < j
      ·have hmn:m < tl.length:=by omega
       have cm:=HM.out m hml W2 hwW;have HT2:=hid (HTw.out m hml);have hsn:Hid ((tl[m].id==ti)=false → (tl.take (m+1)).all (fun q=>!(q.id==ti))=true):=fun h=>by rw [List.take_succ_eq_append_getElem hmn,List.all_append,hall.out]; simp [h]
       have q7:(m:Int) < (j:Int):=by omega
       have q8:(m:Int) < (tn:Int):=by omega
       obtain ⟨b0,b1,b2,b3,b4,_,_,_,_,_⟩:=HRT.out.rc5;obtain ⟨y0,y1,y2,_,_,_⟩:=(HBR.out.below hbW hlt1).rc3;clear HTw HSn hall HM;generalize tl[m].id=mi at cm HT2 hsn
       cases hcmp:(mi==ti) with
       | true =>
        have hR:=hid (HT2.out hcmp);clear HT2 hsn;go_wp2
        go_quiet (fail)
        go_wp2;go_ret;exact ⟨ret_int hR.out.symm,by first | exact hwW.trans (below_drewN _ _ |>.mono hwW.size) | (rw [World.drewN_drewN]; exact hwW.trans (below_drewN _ _ |>.mono hwW.size))⟩
       | false =>
        have hall2:=hid (hsn.out hcmp);clear HT2 hsn;go_wp2
        go_quiet (fail)
        go_wp2;go_roundw
        case rel=>exact ⟨m+1,q+nq,by omega,by go_num,by first | rfl | rw [World.drewN_drewN],hall2⟩
        case measure=>simp [intOf]; omega
      ·have hmj2:m=j:=by omega
       subst hmj2;have hN:=hid (HSn.out hT.out hall.out);clear HTw HSn hall HM hT;go_wp2;go_roundw
       case rel=>exact ⟨m+1,by omega,by go_num,hN,hbW.trans (below_drewN _ _ |>.mono hbW.size)⟩
       case measure=>simp [intOf]; omega
   | false =>
    have hT:=hid (HPass.out (by rw [p3]; rfl));clear HBad HPass HFail;go_wp2;clear b0 b1 b2 b3 b4 y0 y1 y2
    go_loopw [7] (fun i wr2=>∃ (m q:Nat),m≤j∧i=.int .i64 m∧wr2=W2.drewN q∧Hid ((tl.take m).all (fun q=>!(q.id==ti))=true)) (fun i _=>j - (intOf i).toNat)
    case atStart=>exact ⟨0,0,Nat.zero_le _,rfl,rfl,show _=_ from rfl⟩
    case round =>
     obtain ⟨m,q,hmj,rfl,rfl,hall⟩:=hrel;by_cases hml:m < j
     ·have hmn:m < tl.length:=by omega
      have cm:=HM.out m hml W2 hwW;have HT2:=hid (HTw.out m hml);have hsn:Hid ((tl[m].id==ti)=false → (tl.take (m+1)).all (fun q=>!(q.id==ti))=true):=fun h=>by rw [List.take_succ_eq_append_getElem hmn,List.all_append,hall.out]; simp [h]
      have q7:(m:Int) < (j:Int):=by omega
      have q8:(m:Int) < (tn:Int):=by omega
      obtain ⟨b0,b1,b2,b3,b4,_,_,_,_,_⟩:=HRT.out.rc5;obtain ⟨y0,y1,y2,_,_,_⟩:=(HBR.out.below hbW hlt1).rc3;clear HTw HSn hall HM;generalize tl[m].id=mi at cm HT2 hsn
      cases hcmp:(mi==ti) with
      | true =>
       have hR:=hid (HT2.out hcmp);clear HT2 hsn;go_wp2
       go_quiet (fail)
       go_wp2;go_ret;exact ⟨ret_int hR.out.symm,by first | exact hwW.trans (below_drewN _ _ |>.mono hwW.size) | (rw [World.drewN_drewN]; exact hwW.trans (below_drewN _ _ |>.mono hwW.size))⟩
      | false =>
       have hall2:=hid (hsn.out hcmp);clear HT2 hsn;go_wp2
       go_quiet (fail)
       go_wp2;go_roundw
       case rel=>exact ⟨m+1,q+nq,by omega,by go_num,by first | rfl | rw [World.drewN_drewN],hall2⟩
       case measure=>simp [intOf]; omega
     ·have hmj2:m=j:=by omega
      subst hmj2;have hN:=hid (HSn.out hT.out hall.out);clear HTw HSn hall HM hT;go_wp2;go_roundw
      case rel=>exact ⟨m+1,by omega,by go_num,hN,hbW.trans (below_drewN _ _ |>.mono hbW.size)⟩
      case measure=>simp [intOf]; omega
  ·have hjt:j=tn:=by omega
   subst hjt;have HT0:Hid (tupsOk tl=true):=show _=_ by have:=ha.out; rwa [List.take_of_length_le (by have:=HTN.out; omega)] at this
   clear ha HTC HST HBT;have q6:¬ (j:Int) < (j:Int):=by omega
   have HY:=hid (show w1.heap.size≤wr.heap.size from hb.size);go_wp2;clear y0 y1 y2
   go_loopw [8] (fun i wr2=>∃ m:Nat,m≤nn∧i=.int .i64 m∧wr2=wr∧Hid ((nl.take m).all noteP=true)) (fun i _=>nn - (intOf i).toNat)
   case atStart=>exact ⟨0,Nat.zero_le _,rfl,rfl,show _=_ from rfl⟩
   case round =>
    obtain ⟨m,hmn,rfl,rfl,hall⟩:=hrel;obtain ⟨y0,y1,y2,_,_,_⟩:=(HBR.out.below hb hlt1).rc3;by_cases hml:m < nn
    ·have hmt:m < nl.length:=by have:=HNN.out; omega
     obtain ⟨ad,hao,hab,c⟩:=HNC.out m hmt;subst hao;have c:=cell_below hbw (by rw [add_block]; exact hab) c;have s1:=HSN.out nl[m] (List.getElem_mem hmt);have KT:=hid (fun w'=>rtext14_any nl[m] w' s1);have HB:Hid (noteP nl[m]=false → R=140):=fun h=>HBN.out (by rw [List.all_eq_false]; exact ⟨nl[m],List.getElem_mem hmt,by rw [h]; simp⟩);have HS:Hid (noteP nl[m]=true → (nl.take (m+1)).all noteP=true):=fun h=>by rw [List.take_succ_eq_append_getElem hmt,List.all_append,hall.out]; simp [h]
     have hnp:noteP nl[m]=(!(nl[m].isEmpty) && textP nl[m]):=rfl;have q7:(m:Int) < (nn:Int):=by omega
     clear HNC HSN HBN hall HOK;generalize nl[m]=S at c KT HB HS hnp
     cases hS:S with
     | nil =>
      subst hS;have hR:=hid (HB.out (by rw [hnp]; rfl));clear HB HS hnp;go_wp2;go_ret;exact ⟨ret_int hR.out.symm,hbw⟩
     | cons x y =>
      have pe:(S==[])=false:=by rw [hS]; rfl
      have hie:S.isEmpty=false:=by rw [hS]; rfl
      rw [hie] at hnp
      cases htx:textP S with
      | false =>
       rw [htx] at KT hnp;have hR:=hid (HB.out (by rw [hnp]; rfl));clear HB HS hnp hS hie htx;go_wp2_with (go_at_call 38; refine (KT.out _).mono ?_; rintro e w' ⟨rfl,hw'⟩; rw [hw']; clear hw' w')
       go_ret;exact ⟨ret_int hR.out.symm,hbw⟩
      | true =>
       rw [htx] at KT hnp;have hN:=hid (HS.out (by rw [hnp]; rfl));clear HB HS hnp hS hie htx;go_wp2_with (go_at_call 38; refine (KT.out _).mono ?_; rintro e w' ⟨rfl,hw'⟩; rw [hw']; clear hw' w')
       go_roundw
       case rel=>exact ⟨m+1,by omega,by go_num,by first | rfl | trivial,hN⟩
       case measure=>simp [intOf]; omega
    ·have q7:¬ (m:Int) < (nn:Int):=by omega
     have hR:=hid (HOK.out HT0.out (by have:=hall.out; rwa [List.take_of_length_le (by have:=HNN.out; omega)] at this));clear HNC HSN HBN hall HOK;go_wp2;go_ret;exact ⟨ret_int hR.out.symm,hbw⟩
end Go.Proofs.YtbmjodlbkgblpaaGreatDoor
namespace Go.Proofs.YtbmjodlbkgblpaaGreatDoor
open Go.RowKit Go.Sort Go.Lib
theorem below_re5 {w W:World} (h:Below w.heap.size w W) (d:Nat) (os:Array Obj):Below w.heap.size w (grow (redrawn W d) os):=h.trans ((below_regrown W d os).mono h.size)
theorem followsMixed5:Tryz.prog.follows .mixedOrders=true:=by kernel_rfl
end Go.Proofs.YtbmjodlbkgblpaaGreatDoor
namespace Go.Proofs.YtbmjodlbkgblpaaGreatDoor
open Go.RowKit Sc
set_option maxHeartbeats 1000000 in
set_option maxRecDepth 100000 in
theorem pmay_any (t:Tu) (w:World) (hsm:SmallT 140737488355328 t) :
  Calls Tryz.prog 76 #[tuV t] w fun e w'=>e=.returned (.bool (tupP t))∧Below w.heap.size w w':=by
 obtain ⟨hi,hc,hn,hp⟩:=hsm;have hp:=i64_of hp;have KI:=hid (fun w'=>pident_list t.id w' hi);have KC:=hid (fun w'=>ptext_any t.contact w' hc);have KN:=hid (fun w'=>ptext_any t.note w' hn);have hv:tupP t=(identP t.id && (textP t.contact && (textP t.note && (decide (-1≤t.prio) && (decide (t.prio≤1000) && (!t.contact.isEmpty || t.prio==-1)))))):=rfl;generalize tupP t=R at hv ⊢;obtain ⟨ti,tb,tk,tp,tn⟩:=t;unfold tuV;simp only at KI KC KN hv hp ⊢;have hr:=rc_row5 w (.string ⟨ti.toArray⟩) (.bool tb) (.string ⟨tk.toArray⟩) (.int .i64 tp) (.string ⟨tn.toArray⟩) 89;have hbn:Below w.heap.size w (w.alloc (.cells #[.string ⟨ti.toArray⟩,.bool tb,.string ⟨tk.toArray⟩,.int .i64 tp,.string ⟨tn.toArray⟩] 89)):=(Below.refl _ w).alloc (Nat.le_refl _) _;have hlt:=alloc_lt w (.cells #[.string ⟨ti.toArray⟩,.bool tb,.string ⟨tk.toArray⟩,.int .i64 tp,.string ⟨tn.toArray⟩] 89);have HV:=hid hv;clear hv
 go_enter Tryz.func76,Tryz.ntmps76
 go_wp2_with fail
 generalize World.alloc w _=W1 at hr hbn hlt ⊢;refine (KI.out _).mono ?_
 rintro e w1 ⟨rfl,hw1⟩;have hb1:=hbn.trans (hw1.mono hbn.size);have hr1:=hr.below hw1 hlt;have hlt1:=Nat.lt_of_lt_of_le hlt hw1.size;clear KI hr hbn hlt hw1;obtain ⟨a0,a1,a2,a3,a4,_,_,_,_,_⟩:=hr1.rc5
 cases hI:identP ti with
 | false =>
  have hR:Hid (R=false):=show _=_ by rw [HV.out,hI]; rfl
  clear HV;go_wp2;go_ret;exact ⟨ret_bool hR.out.symm,hb1⟩
 | true =>
  go_wp2_with fail
  refine (KC.out _).mono ?_
  rintro e w2 ⟨rfl,hw2⟩;have hb2:=hb1.trans (hw2.mono hb1.size);have hr2:=hr1.below hw2 hlt1;have hlt2:=Nat.lt_of_lt_of_le hlt1 hw2.size;clear KC hr1 hb1 hlt1 hw2 a0 a1 a2 a3 a4;obtain ⟨a0,a1,a2,a3,a4,_,_,_,_,_⟩:=hr2.rc5
  cases hC:textP tk with
  | false =>
   have hR:Hid (R=false):=show _=_ by rw [HV.out,hI,hC]; rfl
   clear HV;go_wp2;go_ret;exact ⟨ret_bool hR.out.symm,hb2⟩
  | true =>
   go_wp2_with fail
   refine (KN.out _).mono ?_
   rintro e w3 ⟨rfl,hw3⟩;have hb3:=hb2.trans (hw3.mono hb2.size);have hr3:=hr2.below hw3 hlt2;clear KN hr2 hb2 hlt2 hw3 a0 a1 a2 a3 a4;obtain ⟨a0,a1,a2,a3,a4,_,_,_,_,_⟩:=hr3.rc5
   cases hN:textP tn with
   | false =>
    have hR:Hid (R=false):=show _=_ by rw [HV.out,hI,hC,hN]; rfl
    clear HV;go_wp2;go_ret;exact ⟨ret_bool hR.out.symm,hb3⟩
   | true =>
    have hR:R=(decide (-1≤tp) && (decide (tp≤1000) && (!tk.isEmpty || tp==-1))):=by rw [HV.out,hI,hC,hN]; rfl
    clear HV
    cases hE:tk.isEmpty with
    | true =>
     have e:tk=[]:=by cases tk <;> simp_all
     subst e
     have hR2:Hid (R=(tp==-1)):=show _=_ by
      rw [hR];by_cases h:tp=-1
      ·subst h; rfl
      ·have:(tp==-1)=false:=by rw [beq_eq_false_iff_ne]; exact h
       rw [this]; simp
     clear hR;go_wp2;go_ret;exact ⟨ret_bool hR2.out.symm,hb3⟩
    | false =>
     have hne:(tk==[])=false:=by cases tk <;> simp_all
     rw [hE] at hR;by_cases h1:-1≤tp
     ·have hR2:Hid (R=decide (tp≤1000)):=show _=_ by rw [hR,decide_eq_true h1]; simp
      clear hR;go_wp2;go_ret;exact ⟨ret_bool hR2.out.symm,hb3⟩
     ·have hR2:Hid (R=false):=show _=_ by rw [hR,decide_eq_false h1]; rfl
      have q1:decide (-1≤tp)=false:=decide_eq_false h1;clear hR;go_wp2;go_ret;exact ⟨ret_bool hR2.out.symm,hb3⟩
def hasT (x:List UInt8) (l:List Tu):Bool:=l.any (fun q=>q.id==x)
theorem hasT_not (x:List UInt8) (l:List Tu):l.all (fun q=>!(q.id==x))=!hasT x l:=by
 unfold hasT
 induction l with
 | nil=>rfl
 | cons a l ih=>rw [List.all_cons,List.any_cons,ih]; cases (a.id==x) <;> rfl
set_option maxHeartbeats 1000000 in
set_option maxRecDepth 100000 in
theorem phas_any (v:Value) (ts:List Tu) (x:List UInt8) (w:World) (hz:ts.length≤1000) (hv:TusAt w v ts) :
  Calls Tryz.prog 77 #[v,.string ⟨x.toArray⟩] w fun e w'=>e=.returned (.bool (hasT x ts))∧Below w.heap.size w w':=by
 obtain ⟨ao,cap,rfl,hc⟩:=hv;have HC:=hid hc
 have HS:Hid (∀ j (hj:j < ts.length),hasT x (ts.take j)=false → (ts[j].id==x)=false → hasT x (ts.take (j+1))=false):=fun j hj h1 h2=>by
  unfold hasT at *;rw [List.take_succ_eq_append_getElem hj,List.any_append,h1]
  simp [h2]
 have HB:Hid (∀ j (hj:j < ts.length),(ts[j].id==x)=true → hasT x ts=true):=fun j hj h=>by
  unfold hasT;exact List.any_eq_true.2 ⟨_,List.getElem_mem hj,h⟩
 have HT:Hid (∀ j,ts.length≤j → hasT x (ts.take j)=false → hasT x ts=false):=fun j hj h=>by rw [List.take_of_length_le hj] at h; exact h
 generalize hasT x ts=R at HB HT ⊢;obtain ⟨tn,htn⟩:∃ tn,tn=ts.length:=⟨_,rfl⟩
 rw [← htn] at hz HT ⊢;have HTN:=hid htn;clear hc htn
 go_enter Tryz.func77,Tryz.ntmps77
 go_wp2
 go_loopw [9] (fun i wr=>∃ j:Nat,j≤tn∧i=.int .i64 j∧Hid (hasT x (ts.take j)=false)∧Below w.heap.size w wr) (fun i _=>tn - (intOf i).toNat)
 case atStart=>exact ⟨0,Nat.zero_le _,rfl,show _=_ from rfl,Below.refl _ _⟩
 case round =>
  obtain ⟨j,hjn,rfl,ha,hb⟩:=hrel;by_cases hlt:j < tn
  ·have hjl:j < ts.length:=by have:=HTN.out; omega
   obtain ⟨ad,hao,hab,c⟩:=HC.out j hjl;subst hao;have c:=c.below hb hab;have h1:=hid (HS.out j hjl ha.out);have h2:=hid (HB.out j hjl);have hbn:=fun o=>hb.alloc (o:=o) hb.size;clear HS HB HT HC ha;generalize ts[j]=T at c h1 h2;obtain ⟨ti,tb,tk,tp,tnn⟩:=T;obtain ⟨c0,c1,c2,c3,c4⟩:=c;simp only at c0 c1 c2 c3 c4 h1 h2;have q6:(j:Int) < (tn:Int):=by omega
   cases hx:(ti==x) with
   | true =>
    have hR:Hid (R=true):=h2.out hx;clear h1 h2;go_wp2;go_ret;exact ⟨ret_bool hR.out.symm,hb.alloc hb.size _⟩
   | false =>
    have hA:Hid (hasT x (ts.take (j+1))=false):=h1.out hx;clear h1 h2;go_wp2;go_roundw
    case rel=>exact ⟨j+1,by omega,by go_num,hA,hb.alloc hb.size _⟩
    case measure=>simp [intOf]; omega
  ·have hR:Hid (R=false):=HT.out j (by omega) ha.out;have q6:¬ (j:Int) < (tn:Int):=by omega
   clear HS HB HT HC ha;go_wp2;go_ret;exact ⟨ret_bool hR.out.symm,hb⟩
theorem tusAt_take {w:World} {ao:Option Addr} {n cap:Nat} {ts:List Tu} (hn:n=ts.length) (h:TusAt w (.slice ao n cap) ts) (k cap':Nat) (hk:k≤n):TusAt w (.slice ao k cap') (ts.take k):=by
 obtain ⟨a,c,e,hc⟩:=h;have ea:ao=a:=by injection e
 subst ea;refine ⟨ao,cap',by rw [List.length_take,Nat.min_eq_left (by omega)],fun j hj=>?_⟩
 rw [List.length_take] at hj;obtain ⟨ad,h1,h2,h3⟩:=hc j (by omega);exact ⟨ad,h1,h2,by rw [List.getElem_take]; exact h3⟩
end Go.Proofs.YtbmjodlbkgblpaaGreatDoor
namespace Go.Proofs.YtbmjodlbkgblpaaGreatDoor
open Go.RowKit Go.Sort Go.Lib Sc
def CapTu (v:Value):Prop:=∀ a n c,v=.slice a n c → n≤c
end Go.Proofs.YtbmjodlbkgblpaaGreatDoor
