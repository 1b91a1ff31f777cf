/-
  Kit, Params, HeadL, RefTexts, OpenAddr, OpenEv, HeadStepL, FrameLawL, ReplyL, FMsg, OpenMsg, RAll, ACheck, HRef2, ASame, RFields, QSmall, CReadQ0, CTextsQ, CReadQ1.
-/
import Derived.Test.YtiogedceommcoaaGreatDoorK12
import Derived.Test.YtiogedceommcoaaGreatDoorK40
set_option linter.unusedVariables false
set_option linter.unusedSimpArgs false
set_option maxRecDepth 20000
namespace Go.Proofs.YtiogedceommcoaaGreatDoor
open Go.RowKit
theorem u64_of {a:Int} (h:(Lit.int .u64 a).wf=true):0≤a∧a≤18446744073709551615:=by
 simpa [Lit.wf,IntKind.min,IntKind.max,IntKind.signed,IntKind.bits] using h
end Go.Proofs.YtiogedceommcoaaGreatDoor
namespace Go.Proofs.YtiogedceommcoaaGreatDoor
open Go.RowKit Sc
theorem stoodPar:Tryz.prog.stoodInHeld 158=false:=by kernel_rfl
theorem guardPar:Tryz.prog.eqGuardType Tryz.prog.depth 158=false:=by kernel_rfl
theorem fieldsPar:Tryz.prog.underlying 158=some (.struct (Tryz.prog.fieldsOf 158)):=by kernel_rfl
theorem listPar : (Tryz.prog.fieldsOf 158).toList.map (fun f => (f.type, f.offset, f.name == "_")) = [(9, 0, false), (9, 1, false), (4, 2, false)] := by kernel_rfl
theorem plainStr:Tryz.prog.plainKey 9=true:=by kernel_rfl
theorem plainBool:Tryz.prog.plainKey 4=true:=by kernel_rfl
theorem neqPar (x y x' y':ByteArray) (b b':Bool) (u:World):(binOp .neq 158 (.agg #[.string x,.string y,.bool b]) (.agg #[.string x',.string y',.bool b'])).run Tryz.prog u=.ok (.bool (!(x.toList==x'.toList && (y.toList==y'.toList && b==b')))) u:=by
 rw [run_neq_struct,run_equalIn_agg _ 9999 _ _ _ fieldsPar stoodPar];have h:=listPar;generalize (Tryz.prog.fieldsOf 158).toList=fs at h ⊢;have hlen:fs.length=3:=by have:=congrArg List.length h; simpa using this
 match fs,hlen,h with
 | [f0,f1,f2],_,h =>
  simp only [List.map_cons,List.map_nil,List.cons.injEq,Prod.mk.injEq,and_true,beq_eq_false_iff_ne] at h;obtain ⟨⟨t0,o0,n0⟩,⟨t1,o1,n1⟩,t2,o2,n2⟩:=h;have p0:∀ (X Y:ByteArray) (B:Bool) (v:World),(part 9 #[.string X,.string Y,.bool B] 0).run Tryz.prog v=.ok (.string X) v:=fun X Y B v=>run_part_plain v plainStr rfl;have p1:∀ (X Y:ByteArray) (B:Bool) (v:World),(part 9 #[.string X,.string Y,.bool B] 1).run Tryz.prog v=.ok (.string Y) v:=fun X Y B v=>run_part_plain v plainStr rfl;have p2:∀ (X Y:ByteArray) (B:Bool) (v:World),(part 4 #[.string X,.string Y,.bool B] 2).run Tryz.prog v=.ok (.bool B) v:=fun X Y B v=>run_part_plain v plainBool rfl;have q1:∀ (X Y:ByteArray) (v:World),(Op.equalIn 9999 9 (.string X) (.string Y)).run Tryz.prog v=.ok (X.toList==Y.toList) v:=fun X Y v=>run_equalIn_string v 9998 _ X Y Tryz.underlying9;have q2:∀ (X Y:Bool) (v:World),(Op.equalIn 9999 4 (.bool X) (.bool Y)).run Tryz.prog v=.ok (X==Y) v:=fun X Y v=>run_equalIn_bool' v 9998 _ X Y Tryz.underlying4;simp only [Op.eqFields,t0,t1,t2,o0,o1,o2,Sem.run_bind,Sem.run_ite,if_pos n0,if_pos n1,if_pos n2,p0,p1,p2,q1,q2,Result.andThen_ok]
  cases h0:(x.toList==x'.toList) <;> cases h1:(y.toList==y'.toList) <;> cases h2:(b==b') <;> rfl
theorem neqPar_is (p q:Par) (u:World):(binOp .neq 158 (.agg #[.string ⟨p.name.toArray⟩,.string ⟨p.value.toArray⟩,.bool p.has]) (.agg #[.string ⟨q.name.toArray⟩,.string ⟨q.value.toArray⟩,.bool q.has])).run Tryz.prog u=.ok (.bool (decide (p ≠ q))) u:=by
 rw [neqPar]
 congr 2
 obtain ⟨a,b,c⟩:=p;obtain ⟨a',b',c'⟩:=q;rw [Bool.eq_iff_iff]
 simp [ByteArray.toList_eq]
set_option maxHeartbeats 1000000 in
theorem lists_len (v1 v2:Value) (ps qs:List Par) (w:World) (h1:ParsAt w v1 ps) (h2:ParsAt w v2 qs) (hne:¬ ps.length=qs.length) :
  Calls Tryz.prog 78 #[v1,v2] w fun e w'=>e=.returned (.bool (decide (ps=qs)))∧∃ q,w'=w.drewN q:=by
 have hd:Hid (decide (ps=qs)=false):=show _=_ by simp; intro e; exact hne (by rw [e])
 obtain ⟨a1,c1,rfl⟩:=h1.form;obtain ⟨a2,c2,rfl⟩:=h2.form;have hn:((ps.length:Int) != (qs.length:Int))=true:=by simp only [bne_iff_ne,ne_eq]; omega
 clear h1 h2 hne
 go_enter Tryz.func78,Tryz.ntmps78
 go_wp2;go_ret;exact ⟨ret_bool hd.out.symm,0,rfl⟩
set_option maxHeartbeats 1000000 in
theorem lists_row (a b:Addr) (c1 c2:Nat) (ps qs:List Par) (w:World) (hlen:ps.length=qs.length) (hz:ps.length≤140737488355328) (h1:∀ k (hk:k < ps.length),ParAt w a k ps[k]) (h2:∀ k (hk:k < qs.length),ParAt w b k qs[k]) :
  Calls Tryz.prog 78 #[.slice (some a) ps.length c1,.slice (some b) qs.length c2] w fun e w'=>e=.returned (.bool (decide (ps=qs)))∧∃ q,w'=w.drewN q:=by
 have H1:Hid _:=h1; clear h1
 have H2:Hid _:=h2; clear h2
 obtain ⟨n,hn⟩:∃ n,n=ps.length:=⟨_,rfl⟩
 have hn2:qs.length=n:=by omega
 rw [← hn,hn2];have HN:Hid _:=hn; have HN2:Hid _:=hn2
 have hnz:n≤140737488355328:=by omega
 clear hlen hz hn hn2
 go_enter Tryz.func78,Tryz.ntmps78
 go_wp2
 go_loopw [5] (fun i wr=>∃ k q:Nat,k≤n∧i=.int .i64 k∧wr=w.drewN q∧Hid (ps.take k=qs.take k)) (fun i _=>n - (intOf i).toNat)
 case atStart=>exact ⟨0,0,by omega,rfl,rfl,rfl⟩
 case round =>
  obtain ⟨k,q,hk,rfl,rfl,heq⟩:=hrel;by_cases hlt:k < n
  ·have k1:k < ps.length:=by have:=HN.out; omega
   have k2:k < qs.length:=by have:=HN2.out; omega
   obtain ⟨x0,x1,x2⟩:=H1.out k k1;obtain ⟨y0,y1,y2⟩:=H2.out k k2;have hg:=guardPar;by_cases hpq:ps[k]=qs[k]
   ·have hcmp:∀ u,(binOp .neq 158 (.agg #[.string ⟨ps[k].name.toArray⟩,.string ⟨ps[k].value.toArray⟩,.bool ps[k].has]) (.agg #[.string ⟨qs[k].name.toArray⟩,.string ⟨qs[k].value.toArray⟩,.bool qs[k].has])).run Tryz.prog u=.ok (.bool false) u:=fun u=>by
     rw [neqPar_is]; simp [hpq]
    have hnx:Hid (ps.take (k+1)=qs.take (k+1)):=show _=_ by
     rw [List.take_succ_eq_append_getElem k1,List.take_succ_eq_append_getElem k2,heq.out,hpq]
    clear hpq heq;go_wp2
    go_quiet (fail)
    go_wp2;go_roundw
    case rel=>exact ⟨k+1,q+nq,by omega,by go_num,rfl,hnx⟩
    case measure=>simp [intOf]; omega
   ·have hcmp:∀ u,(binOp .neq 158 (.agg #[.string ⟨ps[k].name.toArray⟩,.string ⟨ps[k].value.toArray⟩,.bool ps[k].has]) (.agg #[.string ⟨qs[k].name.toArray⟩,.string ⟨qs[k].value.toArray⟩,.bool qs[k].has])).run Tryz.prog u=.ok (.bool true) u:=fun u=>by
     rw [neqPar_is]; simp [hpq]
    have hnx:Hid (decide (ps=qs)=false):=show _=_ by
     simp only [decide_eq_false_iff_not];intro e;subst e;exact hpq rfl
    clear hpq heq;go_wp2
    go_quiet (fail)
    go_wp2;go_ret;exact ⟨ret_bool hnx.out.symm,q+nq,by rw [World.drewN_drewN]⟩
  ·have hd:Hid (decide (ps=qs)=true):=show _=_ by
    have h:=heq.out;have e1:=HN.out;have e2:=HN2.out;rw [List.take_of_length_le (by omega),List.take_of_length_le (by omega)] at h
    simpa using h
   clear heq;go_wp2;go_ret;exact ⟨ret_bool hd.out.symm,q,rfl⟩
set_option maxHeartbeats 400000 in
theorem lists_nil (a b:Option Addr) (c1 c2:Nat) (w:World) :
  Calls Tryz.prog 78 #[.slice a 0 c1,.slice b 0 c2] w fun e w'=>e=.returned (.bool true)∧w'=w:=by
 go_enter Tryz.func78,Tryz.ntmps78
 go_wp2
 go_loop [5] (fun i=>i=.int .i64 0) (fun i=>0)
 case atStart=>rfl
 case round =>
  subst hrel;go_wp2;go_ret;exact ⟨rfl,rfl⟩
theorem lists_any (v1 v2:Value) (ps qs:List Par) (w:World) (hz:ps.length≤140737488355328) (h1:ParsAt w v1 ps) (h2:ParsAt w v2 qs) :
  Calls Tryz.prog 78 #[v1,v2] w fun e w'=>e=.returned (.bool (decide (ps=qs)))∧∃ q,w'=w.drewN q:=by
 by_cases hlen:ps.length=qs.length
 ·by_cases h0:ps=[]
  ·have hq:qs=[]:=List.eq_nil_of_length_eq_zero (by rw [← hlen,h0]; rfl);obtain ⟨a1,c1,rfl⟩:=h1.form;obtain ⟨a2,c2,rfl⟩:=h2.form;subst h0 hq;refine (lists_nil a1 a2 c1 c2 w).mono ?_
   rintro e w' ⟨rfl,rfl⟩;exact ⟨rfl,0,rfl⟩
  ·have hq:qs ≠ []:=by intro e; apply h0; exact List.eq_nil_of_length_eq_zero (by rw [hlen,e]; rfl)
   rcases h1 with ⟨_,e⟩ | ⟨a,c1,rfl,r1⟩
   ·exact absurd e h0
   ·rcases h2 with ⟨_,e⟩ | ⟨b,c2,rfl,r2⟩
    ·exact absurd e hq
    ·exact lists_row a b c1 c2 ps qs w hlen hz (fun k hk=>(r1 k hk).2) (fun k hk=>(r2 k hk).2)
 ·exact lists_len v1 v2 ps qs w h1 h2 hlen
set_option maxHeartbeats 1000000 in
theorem usame_any (u v:Uri) (p h p' h':Value) (w:World) (z1:u.params.length≤140737488355328) (z2:u.headers.length≤140737488355328) (h1:ParsAt w p u.params) (h2:ParsAt w h u.headers) (h3:ParsAt w p' v.params) (h4:ParsAt w h' v.headers) :
  Calls Tryz.prog 34 #[uriV u p h,uriV v p' h'] w fun e w'=>e=.returned (.bool (decide (u=v)))∧Below w.heap.size w w':=by
 obtain ⟨s,us,ho,po,ps,hs⟩:=u;obtain ⟨s',us',ho',po',ps',hs'⟩:=v;simp only at z1 z2 h1 h2 h3 h4;have hd:Hid (decide (Uri.mk s us ho po ps hs=Uri.mk s' us' ho' po' ps' hs')=(s==s' && (us==us' && (ho==ho' && (po==po' && (decide (ps=ps') && decide (hs=hs'))))))):=show _=_ by
  rw [Bool.eq_iff_iff]; simp [Uri.mk.injEq]
 unfold uriV
 simp only
 have b2:∀ o1 o2,Below w.heap.size w ((w.alloc o1).alloc o2):=fun o1 o2=>((Below.refl _ w).alloc (Nat.le_refl _) o1).alloc (by simp) o2;have k1:∀ o1 o2,ParsAt ((w.alloc o1).alloc o2) p ps:=fun o1 o2=>h1.below (b2 o1 o2);have k2:∀ o1 o2,ParsAt ((w.alloc o1).alloc o2) h hs:=fun o1 o2=>h2.below (b2 o1 o2);have k3:∀ o1 o2,ParsAt ((w.alloc o1).alloc o2) p' ps':=fun o1 o2=>h3.below (b2 o1 o2);have k4:∀ o1 o2,ParsAt ((w.alloc o1).alloc o2) h' hs':=fun o1 o2=>h4.below (b2 o1 o2);have K1:Hid _:=k1; have K2:Hid _:=k2; have K3:Hid _:=k3; have K4:Hid _:=k4
 have B2:Hid _:=b2;obtain ⟨a1,c1,rfl⟩:=h1.form;obtain ⟨a2,c2,rfl⟩:=h2.form;obtain ⟨a3,c3,rfl⟩:=h3.form;obtain ⟨a4,c4,rfl⟩:=h4.form;clear k1 k2 k3 k4 b2 h1 h2 h3 h4;by_cases e1:s=s'
 ·by_cases e2:us=us'
  ·by_cases e3:ho=ho'
   ·by_cases e4:po=po'
    ·subst e1 e2 e3 e4
     go_enter Tryz.func34,Tryz.ntmps34
     go_wp2_with fail
     refine (lists_any _ _ ps ps' _ z1 (K1.out _ _) (K3.out _ _)).mono ?_
     rintro e w1 ⟨rfl,q1,rfl⟩;by_cases e5:ps=ps'
     ·subst e5;rw [decide_eq_true rfl];go_wp2_with fail
      refine (lists_any _ _ hs hs' _ z2 ((K2.out _ _).below (below_drewN _ q1)) ((K4.out _ _).below (below_drewN _ q1))).mono ?_
      rintro e w2 ⟨rfl,q2,rfl⟩;go_wp2;go_ret;exact ⟨ret_bool (by rw [hd.out]; simp),(B2.out _ _).trans ((below_drewN _ _).mono (B2.out _ _).size)⟩
     ·rw [decide_eq_false e5];go_wp2;go_ret;exact ⟨ret_bool (by rw [hd.out]; simp [e5]),(B2.out _ _).trans ((below_drewN _ _).mono (B2.out _ _).size)⟩
    ·go_enter Tryz.func34,Tryz.ntmps34
     go_wp2;go_ret;exact ⟨ret_bool (by rw [hd.out]; simp [e4]),B2.out _ _⟩
   ·go_enter Tryz.func34,Tryz.ntmps34
    go_wp2;go_ret;exact ⟨ret_bool (by rw [hd.out]; simp [e3]),B2.out _ _⟩
  ·go_enter Tryz.func34,Tryz.ntmps34
   go_wp2;go_ret;exact ⟨ret_bool (by rw [hd.out]; simp [e2]),B2.out _ _⟩
 ·go_enter Tryz.func34,Tryz.ntmps34
  go_wp2;go_ret;exact ⟨ret_bool (by rw [hd.out]; simp [e1]),B2.out _ _⟩
def evB (v:Ev):Bool:=tokenB v.name && (decide (v.params.length≤16) && mayGo [] v.params)
theorem ev_facts {v:Ev} (h:evB v=true):tokenB v.name=true∧v.params.length≤16∧mayGo [] v.params=true:=by
 simp only [evB,Bool.and_eq_true,decide_eq_true_eq] at h; exact h
theorem event_checked {s:List UInt8} {v:Ev} (h:eventV s=(v,0)):evB v=true:=by
 unfold eventV at h
 split at h
 ·simp at h
 ·rename_i hc
  simp only [not_or,Bool.not_eq_false,ne_eq,Decidable.not_not] at hc;simp only [Prod.mk.injEq,and_true] at h;subst h;obtain ⟨f1,f2⟩:=fieldsV_may hc.2;simp only [evB,hc.1,f2,Bool.true_and,Bool.and_true,decide_eq_true_eq]; exact f1
set_option maxHeartbeats 1000000 in
theorem texts_eq (B1 B2:Nat) (v1 v2:Value) (ps:List (List UInt8)) (w:World) (h1:Own w B1 9 v1 (strs ps)) (h2:Own w B2 9 v2 (strs ps)) (hne:ps ≠ []) (hl:ps.length≤281474976710656) :
  Calls Tryz.prog 38 #[v1,v2] w fun e w'=>e=.returned (.bool true)∧∃ q,w'=w.drewN q:=by
 obtain ⟨g1,c1,rfl,k1⟩:=own_strs h1 hne;obtain ⟨g2,c2,rfl,k2⟩:=own_strs h2 hne;have K1:Hid (∀ j (hj:j < ps.length),w.cell? ⟨g1,j,none⟩=some (.string ⟨(ps[j]).toArray⟩)):=k1;have K2:Hid (∀ j (hj:j < ps.length),w.cell? ⟨g2,j,none⟩=some (.string ⟨(ps[j]).toArray⟩)):=k2;clear k1 k2 h1 h2 hne
 go_enter Tryz.func38,Tryz.ntmps38
 go_wp2
 go_loopw [5] (fun i wr=>∃ (k q:Nat),k≤ps.length∧i=.int .i64 k∧wr=w.drewN q) (fun i _=>ps.length - (intOf i).toNat)
 case atStart=>exact ⟨0,0,Nat.zero_le _,rfl,rfl⟩
 case round =>
  obtain ⟨k,q,hk,rfl,rfl⟩:=hrel;by_cases hlt:k < ps.length
  ·have f1:=K1.out k hlt;have f2:=K2.out k hlt;have q6:(k:Int) < (ps.length:Int):=by omega
   go_wp2
   go_quiet (fail)
   go_wp2;go_roundw
   case rel=>exact ⟨k+1,q+nq,by omega,by go_num,rfl⟩
   case measure=>simp [intOf]; omega
  ·go_wp2;go_ret;exact ⟨rfl,q,rfl⟩
end Go.Proofs.YtiogedceommcoaaGreatDoor
namespace Go.Proofs.YtiogedceommcoaaGreatDoor
open Go.RowKit Go.ChangeShapes Go.WideShapes Go.Deep
theorem AdrsAt.form {w:World} {v:Value} {cs:List AdrC} (h:AdrsAt w v cs):∃ a cap,v=.slice a cs.length cap:=by
 obtain ⟨⟨ao,cap,hv,_⟩,_⟩:=h;exact ⟨ao,cap,hv⟩
section
variable {H : Type} {enc : TypeId × Value → H} {W : World} {sp : Nat → Bool}
def SmallE (B:Nat) (h:Ev):Prop:=h.name.length≤B∧SmallP B h.params
end
def BoxE (w:World) (b:Nat) (v:Ev) (q:Value):Prop:=w.cell? ⟨b,0,none⟩=some (.string ⟨v.name.toArray⟩)∧w.cell? ⟨b,1,none⟩=some q
theorem BoxE.below {w w':World} {b B:Nat} {v:Ev} {q:Value} (k:BoxE w b v q) (hb:Below B w w') (hlt:b < B):BoxE w' b v q:=⟨cell_below hb hlt k.1,cell_below hb hlt k.2⟩
def objE (v:Ev) (q:Value):Obj:=.cells #[.string ⟨v.name.toArray⟩,q] 33
theorem boxE_new (w:World) (v:Ev) (q:Value):BoxE (w.alloc (objE v q)) w.heap.size v q:=by
 unfold BoxE World.cell? objE;simp only [heap_alloc_new];exact ⟨rfl,rfl⟩
end Go.Proofs.YtiogedceommcoaaGreatDoor
namespace Go.Proofs.YtiogedceommcoaaGreatDoor
open Go.RowKit Sc
theorem ev_eq (a b:Ev):decide (a=b)=(a.name==b.name && decide (a.params=b.params)):=by
 obtain ⟨d,p⟩:=a;obtain ⟨d',p'⟩:=b;rw [Bool.eq_iff_iff]; simp [Ev.mk.injEq]
theorem sumH_mem:∀ (hs:List Hdr),∀ x ∈ hs,x.name.length≤sumH hs∧x.value.length≤sumH hs
 | [],x,h=>by simp at h
 | y :: hs,x,h=>by
  have e:sumH (y :: hs)=10+y.name.length+y.value.length+sumH hs:=by simp [sumH]
  rw [e]
  rcases List.mem_cons.1 h with rfl | h
  ·omega
  ·have:=sumH_mem hs x h; omega
theorem all_put (m:Ms) (k:Nat) (x:Hdr) (nm:List UInt8) (h:sameB x.name nm=false):allV { m with headers:=m.headers.take k++[x]++m.headers.drop k } nm=allV m nm:=by
 unfold allV;have e:m.headers=m.headers.take k++m.headers.drop k:=(List.take_append_drop k _).symm;simp only [List.filter_append]
 conv=>rhs; rw [e,List.filter_append]
 simp [h]
def otherK:List UInt8:=[88,45,79,116,104,101,114]
theorem other_no:∀ nm ∈ [rViaK,fromK,toK,callK,cseqK,expireK,eventK,contactK,typeK,matchK,routeK,acceptK],sameB otherK nm=false:=by decide +kernel
theorem base_congr {m n:Ms} (h1:m.method=n.method) (h2:m.body=n.body) (h:∀ nm ∈ [rViaK,fromK,toK,callK,cseqK],allV m nm=allV n nm):baseV m=baseV n:=by
 have o:∀ nm ∈ [rViaK,fromK,toK,callK,cseqK],oneV m nm=oneV n nm:=fun nm hn=>by unfold oneV; rw [h nm hn]
 have a:∀ nm ∈ [fromK,toK],addressV m nm=addressV n nm:=fun nm hn=>by unfold addressV; rw [o nm (by simp at hn; rcases hn with rfl | rfl <;> simp)]
 have p:hop0 m=hop0 n:=by unfold hop0; rw [h rViaK (by simp)]
 unfold baseV baseR;rw [h1,h2,h rViaK (by simp),p,a fromK (by simp),a toK (by simp),o callK (by simp),o cseqK (by simp)]
theorem read_congr {m n:Ms} (h1:m.method=n.method) (h2:m.body=n.body) (h3:m.target=n.target) (h:∀ nm ∈ [rViaK,fromK,toK,callK,cseqK,expireK,eventK,contactK,typeK,matchK,routeK,acceptK],allV m nm=allV n nm):rreadV m=rreadV n:=by
 have b:=base_congr h1 h2 (fun nm hn=>h nm (by simp at hn ⊢; rcases hn with h | h | h | h | h <;> simp [h]));have p:∀ nm ∈ [routeK,acceptK],piecesV m nm=piecesV n nm:=fun nm hn=>by unfold piecesV; rw [h nm (by simp at hn; rcases hn with rfl | rfl <;> simp)]
 have f:∀ r,fieldsR m r=fieldsR n r:=fun r=>by
  unfold fieldsR fExpV fEvtV fConV fTypV fMatV;rw [h expireK (by simp),h eventK (by simp),h contactK (by simp),h typeK (by simp),h matchK (by simp)]
 unfold rreadV;rw [b,h3,p routeK (by simp),p acceptK (by simp),f]
theorem order_same (m:Ms) (k:Nat) (v:List UInt8):rreadV { m with headers:=m.headers.take k++[⟨otherK,v⟩]++m.headers.drop k }=rreadV m∧baseV { m with headers:=m.headers.take k++[⟨otherK,v⟩]++m.headers.drop k }=baseV m :=
 ⟨read_congr rfl rfl rfl fun nm hn=>all_put m k _ nm (other_no nm hn),base_congr rfl rfl fun nm hn=>all_put m k _ nm (other_no nm (by simp at hn ⊢; rcases hn with h | h | h | h | h <;> simp [h]))⟩
theorem thenV_ok {x:Rq × Int} {f:Rq → Rq × Int} (h:(thenV x f).2=0):x.2=0∧thenV x f=f x.1:=by
 unfold thenV at h ⊢;by_cases hx:x.2=0
 ·rw [if_neg (by simp [hx])]; exact ⟨hx,rfl⟩
 ·rw [if_pos hx] at h; exact absurd h hx
theorem HdrsAt.take {w:World} {a:Addr} {hs:List Hdr} {cap k:Nat} (hk:k≤hs.length) (hc:hs.length≤cap) (h:∀ j (hj:j < hs.length),a.block < w.heap.size∧HdrAt w a j hs[j]):HdrsAt w (.slice (some a) k cap) (hs.take k):=by
 refine Or.inr ⟨a,cap,by rw [List.length_take,Nat.min_eq_left hk],by rw [List.length_take]; omega,fun j hj=>?_⟩
 have hj':j < hs.length:=by rw [List.length_take] at hj; omega
 rw [List.getElem_take];exact h j hj'
end Go.Proofs.YtiogedceommcoaaGreatDoor
namespace Go.Proofs.YtiogedceommcoaaGreatDoor
open Go.RowKit Go.ChangeShapes Go.WideShapes Go.Deep
section
variable {H : Type} {enc : TypeId × Value → H} {W : World} {sp : Nat → Bool}
theorem bytesHdr:Tryz.prog.bytesOf 52=32:=by kernel_rfl
theorem hdr_weights (p:Hdr):(hdrD (H:=H) p).weights Tryz.prog 52=[p.name.length,p.value.length]:=by
 simp [hdrD,DataW.weights,Tryz.underlying52,DataW.weightsEach]
theorem hdrs_weights (ps:List Hdr):∀ p ∈ ps,p.name.length ∈ DataW.weightsAll Tryz.prog 52 (ps.map (hdrD (H:=H)))∧p.value.length ∈ DataW.weightsAll Tryz.prog 52 (ps.map (hdrD (H:=H))):=by
 induction ps with
 | nil=>simp
 | cons q ps ih =>
  intro p hp;simp only [List.map_cons,DataW.weightsAll,List.mem_append]
  rcases List.mem_cons.1 hp with rfl | hp
  ·exact ⟨Or.inl (by rw [hdr_weights]; simp),Or.inl (by rw [hdr_weights]; simp)⟩
  ·exact ⟨Or.inr (ih p hp).1,Or.inr (ih p hp).2⟩
theorem hdrs_said {B:Nat} {d:DataW H} {ps:List Hdr} (hd:HdrD d ps) (hz:∀ n ∈ d.weights Tryz.prog 22,n≤B) (hB:B≤140737488355328):SmallH B ps∧ps.length≤4398046511104:=by
 rcases hd with ⟨rfl,rfl⟩ | ⟨sp,rfl⟩
 ·exact ⟨⟨by simp,by simp⟩,by simp⟩
 ·simp only [DataW.weights,Tryz.underlying22,bytesHdr] at hz;have hcnt:=hz _ (List.mem_cons_self ..)
  simp at hcnt
  refine ⟨⟨by omega,fun p hp=>⟨?_,?_⟩⟩,by omega⟩
  ·exact hz _ (List.mem_cons_of_mem _ (List.mem_append.2 (Or.inl (hdrs_weights ps p hp).1)))
  ·exact hz _ (List.mem_cons_of_mem _ (List.mem_append.2 (Or.inl (hdrs_weights ps p hp).2)))
theorem msg_said {B:Nat} {r:Reach} {b0:Nat} {v:Value} {d:DataW H} {p:List MemPlace} (hv:Value.okWide Tryz.prog W r b0 24 v) (h:DataW.Trod enc Tryz.prog W 0 sp true 24 v d p)
  (hz:∀ n ∈ d.weights Tryz.prog 24,n≤B) (hB:B≤140737488355328:=by omega):MsgGot B W v:=by
 obtain ⟨m,hh,dh,rfl,a1,rfl,d1,wf⟩:=open_msg hv h;simp only [DataW.weights,Tryz.underlying24,List.map_cons,List.map_nil,DataW.weightsEach] at hz;have hh2:=hdrs_said d1 (fun n hn=>hz n (by simp [hn])) hB;exact ⟨m,hh,rfl,a1,⟨hz _ (by simp),hz _ (by simp),hz _ (by simp),hz _ (by simp),hh2.1⟩,hh2.2,wf⟩
end
end Go.Proofs.YtiogedceommcoaaGreatDoor
namespace Go.Proofs.YtiogedceommcoaaGreatDoor
open Go.RowKit Go.Sort Sc
set_option maxHeartbeats 1000000 in
theorem texts_nil (B1 B2:Nat) (v1 v2:Value) (w:World) (h1:Own w B1 9 v1 (strs [])) (h2:Own w B2 9 v2 (strs [])) :
  Calls Tryz.prog 38 #[v1,v2] w fun e w'=>e=.returned (.bool true)∧Below w.heap.size w w':=by
 obtain ⟨a1,c1,rfl⟩:=h1.form;obtain ⟨a2,c2,rfl⟩:=h2.form;rw [strs_length];have hb:=Below.refl w.heap.size w;simp only [List.length_nil];clear h1 h2
 go_enter Tryz.func38,Tryz.ntmps38
 go_wp2
 go_loopw [5] (fun i wr=>i=.int .i64 0∧wr=w) (fun i _=>0)
 case atStart=>exact ⟨rfl,rfl⟩
 case round =>
  obtain ⟨rfl,rfl⟩:=hrel;go_wp2;go_ret;exact ⟨rfl,hb⟩
theorem texts_any (B1 B2:Nat) (v1 v2:Value) (ps:List (List UInt8)) (w:World) (h1:Own w B1 9 v1 (strs ps)) (h2:Own w B2 9 v2 (strs ps)) (hl:ps.length≤281474976710656) :
  Calls Tryz.prog 38 #[v1,v2] w fun e w'=>e=.returned (.bool true)∧Below w.heap.size w w':=by
 by_cases hne:ps=[]
 ·subst hne; exact texts_nil B1 B2 v1 v2 w h1 h2
 ·refine (texts_eq B1 B2 v1 v2 ps w h1 h2 hne hl).mono ?_
  rintro e w' ⟨rfl,q,rfl⟩;exact ⟨rfl,below_drewN w q⟩
end Go.Proofs.YtiogedceommcoaaGreatDoor
namespace Go.Proofs.YtiogedceommcoaaGreatDoor
open Go.RowKit Sc
theorem BoxA.below {w w':World} {b B:Nat} {a:Adr} {p h q:Value} (k:BoxA w b a p h q) (hb:Below B w w') (hlt:b < B):BoxA w' b a p h q :=
 ⟨cell_below hb hlt k.1,cell_below hb hlt k.2.1,cell_below hb hlt k.2.2.1,cell_below hb hlt k.2.2.2.1,cell_below hb hlt k.2.2.2.2.1,cell_below hb hlt k.2.2.2.2.2.1,cell_below hb hlt k.2.2.2.2.2.2.1,cell_below hb hlt k.2.2.2.2.2.2.2⟩
set_option maxHeartbeats 1000000 in
set_option maxRecDepth 100000 in
theorem evsame_any (c c':EvC) (w:World) (z3:c.v.params.length≤140737488355328) (h:c.At w) (h':c'.At w) :
  Calls Tryz.prog 36 #[evV c.v c.q,evV c'.v c'.q] w fun e w'=>e=.returned (.bool (decide (c.v=c'.v)))∧Below w.heap.size w w':=by
 obtain ⟨a,q⟩:=c;obtain ⟨a',q'⟩:=c';obtain ⟨h3,_⟩:=h;obtain ⟨k3,_⟩:=h';simp only at h3 k3 z3 ⊢;have hd:=ev_eq a a';have KL:=hid (fun w' (hb:Below w.heap.size w w')=>lists_any q q' a.params a'.params w' z3 (h3.below hb) (k3.below hb));have hbx:=boxE_new w a q;have hb0:Below w.heap.size w (w.alloc (objE a q)):=(Below.refl _ w).alloc (Nat.le_refl _) _;have hlt:=alloc_lt w (objE a q);have hby:=boxE_new (w.alloc (objE a q)) a' q';have hb1:Below w.heap.size w ((w.alloc (objE a q)).alloc (objE a' q')):=hb0.alloc hb0.size _;have hbz:=hbx.below ((Below.refl _ (w.alloc (objE a q))).alloc (Nat.le_refl _) (objE a' q')) hlt;have hs1:(w.alloc (objE a q)).heap.size=w.heap.size+1:=by simp
 rw [hs1] at hby;clear hbx hb0 hlt;obtain ⟨a3,c3,rfl⟩:=h3.form;obtain ⟨a6,c6,rfl⟩:=k3.form;clear h3 k3 z3;generalize decide (a=a')=R at hd ⊢;generalize decide (a.params=a'.params)=rp at hd KL;obtain ⟨ho,ps⟩:=a;obtain ⟨ho',ps'⟩:=a';unfold evV;unfold objE at hb1 hbz hby hs1;simp only at KL hb1 hbz hby hd hs1 ⊢;have HD:=hid hd;clear hd hs1;obtain ⟨x0,x1⟩:=hbz;obtain ⟨y0,y1⟩:=hby;simp only at x0 x1 y0 y1;by_cases hdd:ho=ho'
 ·subst hdd
  go_enter Tryz.func36,Tryz.ntmps36
  go_wp2_with fail
  refine (KL.out _ hb1).mono ?_
  rintro e w3 ⟨rfl,q3,rfl⟩;go_wp2;go_ret;exact ⟨ret_bool (by rw [HD.out]; simp),hb1.trans ((below_drewN _ _).mono hb1.size)⟩
 ·go_enter Tryz.func36,Tryz.ntmps36
  go_wp2;go_ret;exact ⟨ret_bool (by rw [HD.out]; simp [hdd]),hb1⟩
theorem adr_eq (a b:Adr):decide (a=b)=(a.display==b.display && (decide (a.uri=b.uri) && decide (a.params=b.params))):=by
 obtain ⟨d,u,p⟩:=a;obtain ⟨d',u',p'⟩:=b;rw [Bool.eq_iff_iff]; simp [Adr.mk.injEq]
set_option maxHeartbeats 1000000 in
set_option maxRecDepth 100000 in
theorem asame_any (c c':AdrC) (w:World) (z1:c.a.uri.params.length≤140737488355328) (z2:c.a.uri.headers.length≤140737488355328) (z3:c.a.params.length≤140737488355328) (h:c.At w) (h':c'.At w) :
  Calls Tryz.prog 35 #[adrV c.a c.p c.h c.q,adrV c'.a c'.p c'.h c'.q] w fun e w'=>e=.returned (.bool (decide (c.a=c'.a)))∧Below w.heap.size w w':=by
 obtain ⟨a,p,hh,q⟩:=c;obtain ⟨a',p',hh',q'⟩:=c';obtain ⟨h1,h2,h3,_⟩:=h;obtain ⟨k1,k2,k3,_⟩:=h';simp only at h1 h2 h3 k1 k2 k3 z1 z2 z3 ⊢;have hd:=adr_eq a a';have KU:=hid (fun w' (hb:Below w.heap.size w w')=>usame_any a.uri a'.uri p hh p' hh' w' z1 z2 (h1.below hb) (h2.below hb) (k1.below hb) (k2.below hb));have KL:=hid (fun w' (hb:Below w.heap.size w w')=>lists_any q q' a.params a'.params w' z3 (h3.below hb) (k3.below hb));have hbx:=boxA_new w a p hh q;have hb0:Below w.heap.size w (w.alloc (objA a p hh q)):=(Below.refl _ w).alloc (Nat.le_refl _) _;have hlt:=alloc_lt w (objA a p hh q);have hby:=boxA_new (w.alloc (objA a p hh q)) a' p' hh' q';have hb1:Below w.heap.size w ((w.alloc (objA a p hh q)).alloc (objA a' p' hh' q')):=hb0.alloc hb0.size _;have hbz:=hbx.below ((Below.refl _ (w.alloc (objA a p hh q))).alloc (Nat.le_refl _) (objA a' p' hh' q')) hlt;have hlt2:=alloc_lt (w.alloc (objA a p hh q)) (objA a' p' hh' q');have hs1:(w.alloc (objA a p hh q)).heap.size=w.heap.size+1:=by simp
 rw [hs1] at hby hlt2;clear hbx hb0;obtain ⟨a1,c1,rfl⟩:=h1.form;obtain ⟨a2,c2,rfl⟩:=h2.form;obtain ⟨a3,c3,rfl⟩:=h3.form;obtain ⟨a4,c4,rfl⟩:=k1.form;obtain ⟨a5,c5,rfl⟩:=k2.form;obtain ⟨a6,c6,rfl⟩:=k3.form;clear h1 h2 h3 k1 k2 k3 z1 z2 z3;generalize decide (a=a')=R at hd ⊢;generalize decide (a.uri=a'.uri)=ru at hd KU;generalize decide (a.params=a'.params)=rp at hd KL;obtain ⟨d,u,ps⟩:=a;obtain ⟨us,uu,uh,up,upp,uhh⟩:=u;obtain ⟨d',u',ps'⟩:=a';obtain ⟨us',uu',uh',up',upp',uhh'⟩:=u';unfold adrV;unfold uriV at KU;unfold objA at hb1 hbz hby hlt hlt2 hs1;simp only at KU KL hb1 hbz hby hlt hlt2 hd hs1 ⊢;have HZ:=hid hbz;have HY:=hid hby;have HD:=hid hd;clear hbz hby hd hs1;obtain ⟨x0,x1,x2,x3,x4,x5,x6,x7⟩:=HZ.out;obtain ⟨y0,y1,y2,y3,y4,y5,y6,y7⟩:=HY.out;simp only at x0 x1 x2 x3 x4 x5 x6 x7 y0 y1 y2 y3 y4 y5 y6 y7;by_cases hdd:d=d'
 ·subst hdd
  go_enter Tryz.func35,Tryz.ntmps35
  go_wp2_with fail
  refine (KU.out _ hb1).mono ?_
  rintro e w2 ⟨rfl,hw2⟩;have HZ2:=hid (BoxA.below HZ.out hw2 (Nat.lt_trans hlt (by simp)));have HY2:=hid (BoxA.below HY.out hw2 hlt2);have hb2:=hb1.trans (hw2.mono hb1.size);clear x0 x1 x2 x3 x4 x5 x6 x7 y0 y1 y2 y3 y4 y5 y6 y7 HZ HY hw2 KU hb1 hlt hlt2;obtain ⟨x0,x1,x2,x3,x4,x5,x6,x7⟩:=HZ2.out;obtain ⟨y0,y1,y2,y3,y4,y5,y6,y7⟩:=HY2.out;simp only at x0 x1 x2 x3 x4 x5 x6 x7 y0 y1 y2 y3 y4 y5 y6 y7
  cases ru with
  | false =>
   go_wp2;go_ret;exact ⟨ret_bool (by rw [HD.out]; simp),hb2⟩
  | true =>
   go_wp2_with fail
   refine (KL.out _ hb2).mono ?_
   rintro e w3 ⟨rfl,q3,rfl⟩;go_wp2;go_ret;exact ⟨ret_bool (by rw [HD.out]; simp),hb2.trans ((below_drewN _ _).mono hb2.size)⟩
 ·go_enter Tryz.func35,Tryz.ntmps35
  go_wp2;go_ret;exact ⟨ret_bool (by rw [HD.out]; simp [hdd]),hb1⟩
theorem ownsRow_setCell {w:World} {B:Nat} {e:TypeId} {k n:Nat} {v:Value} {xs:List Value} (h:w.ownsRow B e k v n xs) {a:Addr} (ha:a.block < B) (x:Value):(w.setCell a x).ownsRow B e k v n xs:=by
 obtain ⟨h1,h2⟩:=h;refine ⟨h1,?_⟩
 rcases h2 with h2 | ⟨g,cap,cur,hv,hg,hh,r⟩
 ·exact Or.inl h2
 ·exact Or.inr ⟨g,cap,cur,hv,hg,by rw [Below.heap_setCell _ _ _ _ (by omega)]; exact hh,r⟩
theorem BoxM.setC {w:World} {b:Nat} {m:Ms} {h:Value} (k:BoxM w b m h) {a:Addr} (ha:a.block ≠ b) (x:Value):BoxM (w.setCell a x) b m h:=by
 have e:∀ j,(w.setCell a x).cell? ⟨b,j,none⟩=w.cell? ⟨b,j,none⟩:=fun j=>World.cell?_of_block (Below.heap_setCell _ _ _ _ (fun e=>ha e.symm));unfold BoxM;rw [e,e,e,e,e,e]; exact k
def names12:List (List UInt8):=[rViaK,fromK,toK,callK,cseqK,expireK,eventK,contactK,typeK,matchK,routeK,acceptK]
def SmallQ (m:Ms):Prop:=SmallM 140737488355328 m∧m.target.length≤1048576∧∀ nm ∈ names12,∀ l ∈ allV m nm,l.length≤1048576
theorem SmallQ.all {m:Ms} (h:SmallQ m) (nm:List UInt8) (hn:nm ∈ names12):∀ l ∈ allV m nm,l.length≤1048576:=h.2.2 nm hn
theorem SmallQ.one {m:Ms} (h:SmallQ m) (nm:List UInt8) (hn:nm ∈ names12):(oneV m nm).1.length≤1048576:=by
 unfold oneV
 split
 ·rename_i x hx; exact h.all nm hn x (by rw [hx]; simp)
 ·simp
theorem allowQ_calls (B0:Nat) (w1:World) (b:Nat) (m:Ms) (r0:Rq) (g:Nat) (hsm:SmallQ m):∀ k (hk:k < (allowL g).length) wr s,AwIn B0 w1 b m r0 g k wr → allV m (allowL g)[k].nm=[s] →
  Calls Tryz.prog (allowL g)[k].fn (#[.string ⟨s.toArray⟩]++(allowL g)[k].cap) wr fun e w'=>e=.returned (.int .i64 (allowE m k))∧(∃ c',Upd b c' wr w')∧(allowE m k=0 → AwIn B0 w1 b m r0 g (k+1) w'):=by
 intro k hk wr s ⟨c,H,hc,hp⟩ ha;have hn:=ptr_ne hp H.row;have hN:=pref_next hc;have hmem:(allowL g)[k].nm ∈ names12:=by
  match k,hk with
  | 0,_=>simp [allowL,names12]
  | 1,_=>simp [allowL,names12]
  | 2,_=>simp [allowL,names12]
  | 3,_=>simp [allowL,names12]
  | 4,_=>simp [allowL,names12]
  | k+5,hk=>exact absurd hk (by simp [allowL])
 have hsl:s.length≤1048576:=hsm.all _ hmem s (by rw [ha]; simp);have hlo:b+1≤wr.heap.size:=row_lt H.row
 match k,hk with
 | 0,hk =>
  have e0:∀ r,fK 0 m r=({ r with expires:=(timeV s).1 },(timeV s).2):=fun r=>by show fExpV m r=_; unfold fExpV; rw [show allV m expireK=[s] from ha]
  have e1:allowE m 0=(timeV s).2:=by unfold allowE; rw [e0]
  refine (allow1_any s b g c wr hsl hp H.row).mono ?_
  rintro e w' ⟨rfl,hu⟩;rw [e1];refine ⟨rfl,⟨_,hu⟩,fun h0=>⟨_,H.exp hu,?_,hu.one hp hn⟩⟩
  rw [hN,e0,h0]; rfl
 | 1,hk =>
  have e0:∀ r,fK 1 m r=({ r with event:=(eventV s).1 },(eventV s).2):=fun r=>by show fEvtV m r=_; unfold fEvtV; rw [show allV m eventK=[s] from ha]
  have e1:allowE m 1=(eventV s).2:=by unfold allowE; rw [e0]
  refine (allow2_any s b g c wr hsl hp H.row).mono ?_
  rintro e w' ⟨rfl,v,hv,hu⟩;rw [e1];refine ⟨rfl,⟨_,hu⟩,fun h0=>⟨_,H.evt hu (OwnP.mono hv hlo),?_,hu.one hp hn⟩⟩
  rw [hN,e0,h0]; rfl
 | 2,hk =>
  have e0:∀ r,fK 2 m r=({ r with contact:=(listA s).1 },(listA s).2):=fun r=>by show fConV m r=_; unfold fConV; rw [show allV m contactK=[s] from ha]
  have e1:allowE m 2=(listA s).2:=by unfold allowE; rw [e0]
  refine (allow3_any s b g c wr hsl hp H.row).mono ?_
  rintro e w' ⟨rfl,v,cs,hcs,hv,hu⟩;rw [e1];refine ⟨rfl,⟨_,hu⟩,fun h0=>⟨_,H.con hu ⟨cs,hv.mono hlo,hcs⟩,?_,hu.one hp hn⟩⟩
  rw [hN,e0,h0]; rfl
 | 3,hk =>
  have e0:∀ r,fK 3 m r=({ r with type:=typeT s },0):=fun r=>by show fTypV m r=_; unfold fTypV; rw [show allV m typeK=[s] from ha]
  have e1:allowE m 3=0:=by unfold allowE; rw [e0]
  refine (allow4_any s b g c wr hsl hp H.row).mono ?_
  rintro e w' ⟨rfl,hu⟩;rw [e1];refine ⟨rfl,⟨_,hu⟩,fun h0=>⟨_,H.typ hu,?_,hu.one hp hn⟩⟩
  rw [hN,e0]; rfl
 | 4,hk =>
  have e0:∀ r,fK 4 m r=({ r with mtch:=s },if tokenB s=true then 0 else 160):=fun r=>by show fMatV m r=_; unfold fMatV; rw [show allV m matchK=[s] from ha]
  have e1:allowE m 4=if tokenB s=true then 0 else 160:=by unfold allowE; rw [e0]
  refine (allow5_any s b g c wr hsl hp H.row).mono ?_
  rintro e w' ⟨rfl,hu⟩;rw [e1];refine ⟨rfl,⟨_,hu⟩,fun h0=>?_⟩
  have ht:tokenB s=true:=by
   cases hx:tokenB s with
   | true=>rfl
   | false=>rw [hx] at h0; simp at h0
  rw [if_pos ht] at hu;refine ⟨_,H.mat hu,?_,hu.one hp hn⟩
  rw [hN,e0,if_pos ht]; rfl
 | k+5,hk=>exact absurd hk (by simp [allowL])
theorem readAllowedQ_more {B0:Nat} (m:Ms) (h:Value) (w0 w1 W:World) (b:Nat) (c:RqC) (g bl:Nat) (hsm:SmallQ m) (hhl:m.headers.length≤1048576) (hat:HdrsAt w0 h m.headers) (h01:Below w0.heap.size w0 w1) (H:RmIn B0 w1 b c W) (hp:PtrAt W g b)
  (hrow:RowIs W bl 104 (singCells (allowL g))) :
  Calls Tryz.prog 80 #[msgV m h,.slice (some ⟨bl,0,none⟩) 5 5] W fun e w'=>∃ x,e=.returned (.int .i64 x)∧(fieldsR m c.r).2=x∧(x=0 → ∃ c',RmIn B0 w1 b c' w'∧fieldsR m c.r=(c'.r,0))∧∃ c',Upd b c' W w':=by
 have hne:bl ≠ b:=by
  rintro rfl
  have:=H.row
  unfold RowIs at this hrow;rw [hrow] at this
  simp at this
 have hb0:Below w0.heap.size w0 W:=h01.trans (H.b1.mono h01.size);refine (readAllowed_any m h (allowL g) bl b c w0 W (AwIn B0 w1 b m c.r g) (allowE m) hsm.1 hhl hat hb0 (Nat.le_trans h01.size H.lo) (allow_enters g) (by intro s hs; simp [allowL] at hs; rcases hs with rfl | rfl | rfl | rfl | rfl <;> simp [expireK,eventK,contactK,typeK,matchK]) (by simp [allowL]) hrow hne H.row
  (fun k wr w' h1 h2=>h1.below h2) ⟨c,H,rfl,hp⟩ (allow_skip B0 w1 b m c.r g) (allowQ_calls B0 w1 b m c.r g hsm)).mono ?_
 rintro e w' ⟨x,rfl,hx,hin,hu⟩;refine ⟨x,rfl,fields_first hx,fun h0=>?_,hu⟩
 obtain ⟨c',h1,h2,_⟩:=hin h0;exact ⟨c',h1,by rw [fields_pref]; exact h2⟩
set_option maxHeartbeats 2000000 in
set_option maxRecDepth 100000 in
theorem ctextsQ_any (m:Ms) (h:Value) (nm:List UInt8) (w:World) (hsm:SmallM 140737488355328 m) (hal:∀ l ∈ allV m nm,l.length≤1048576) (hhl:m.headers.length≤1048576) (hnl:nm.length≤140737488355328) (hat:HdrsAt w h m.headers) (hpl:(piecesV m nm).length≤1048576) :
  Calls Tryz.prog 135 #[msgV m h,.string ⟨nm.toArray⟩] w fun e w'=>∃ v,e=.returned v∧Own w' w.heap.size 9 v (strs (piecesV m nm))∧Below w.heap.size w w':=by
 obtain ⟨i0,hi,hz0,hz1,hz2⟩:=info_parts info9;have KA:=hid (fun w' (hb:Below w.heap.size w w')=>fall_any m h nm w' hsm (by omega) hnl (hat.below hb));have HVL:=hid hal;have HBX:=hid (boxM_new w m h);have hb0:Below w.heap.size w (w.alloc (objM m h)):=(Below.refl _ w).alloc (Nat.le_refl _) _;have hcn:(allV m nm).length≤1048576:=by unfold allV; rw [List.length_map]; exact Nat.le_trans (List.length_filter_le _ _) hhl
 have HPV:Hid (piecesV m nm=(allV m nm).flatMap pieceF):=show _=_ from rfl
 obtain ⟨ah,ch,rfl⟩:=hat.form;clear hsm hhl hat hal;obtain ⟨me,ta,st,re,hs,bo⟩:=m;unfold msgV at KA ⊢;unfold objM at HBX hb0;simp only at KA HBX hb0 ⊢;generalize piecesV _ nm=R at HPV hpl ⊢;generalize allV _ nm=vals at KA HVL HPV hcn;rw [HPV.out] at hpl;obtain ⟨n,hn⟩:∃ n,n=vals.length:=⟨_,rfl⟩
 rw [← hn] at hcn;have HN:=hid hn;have HL:=hid hpl;clear hn hpl;obtain ⟨x0,x1,x2,x3,x4,x5⟩:=HBX.out;simp only at x0 x1 x2 x3 x4 x5
 go_enter Tryz.func135,Tryz.ntmps135
 go_wp2_with fail
 refine (KA.out _ hb0).mono ?_
 rintro e w1 ⟨v0,rfl,hov,hw1⟩;have hb1:=hb0.trans (hw1.mono hb0.size);obtain ⟨va,vc,hve,hvc⟩:=hov.txts;subst hve;rw [← HN.out];have HC:=hid hvc;clear hvc KA hov hw1 hb0 HBX x0 x1 x2 x3 x4 x5;go_wp2
 go_loopw [5,14] (fun x i wr=>∃ (k:Nat),k≤n∧i=.int .i64 k∧Hid (Own wr w1.heap.size 9 x (strs ((vals.take k).flatMap pieceF)))∧Below w1.heap.size w1 wr) (fun _ i _=>n - (intOf i).toNat)
 case atStart=>exact ⟨0,by omega,rfl,hid (Own.nil _ _ _),Below.refl _ _⟩
 case round =>
  obtain ⟨k,hkn,rfl,hown,hb⟩:=hrel;obtain ⟨acc,hacc⟩:∃ a,(vals.take k).flatMap pieceF=a:=⟨_,rfl⟩
  rw [hacc] at hown;have HAC:=hid hacc;obtain ⟨xa,xc,hxe⟩:=hown.out.form;subst hxe;by_cases hlt:k < n
  ·have hkl:k < vals.length:=by have:=HN.out; omega
   obtain ⟨a,hao,hab,hcell⟩:=HC.out k hkl;subst hao;have hcell2:=cell_below hb (by rw [add_block]; exact hab) hcell;have hll:=HVL.out _ (List.getElem_mem hkl);obtain ⟨qs,hqs⟩:∃ qs,partsV 44 vals[k]=qs:=⟨_,rfl⟩
   have KP:=hid (fun w'=>parts_own hqs w' hll);have HQL:Hid (∀ l ∈ qs,l.length≤1048576):=fun l hl=>by have:=p_mem_len 44 vals[k] l (by rw [hqs]; exact hl); omega
   have hst:=fm_take pieceF vals k hkl;have hle:=fm_le pieceF vals (k+1);have hpf:pieceF vals[k]=qs.map trimL:=by unfold pieceF; rw [hqs]
   rw [hst,hpf,List.length_append,List.length_map] at hle;rw [hacc] at hst hle;have hq2:acc.length+qs.length≤1048576:=Nat.le_trans hle HL.out;rw [hpf] at hst;have HST:=hid hst;clear hcell hqs hll hst hle hpf hacc HAC;go_wp2_with fail
   refine (KP.out _).mono ?_
   rintro e w2 ⟨pa,pc,rfl,hop,hw2⟩;have HP:=hid (PcIn.begin hown.out hb hw2 hop);clear hown hop hb hw2 KP hcell2;obtain ⟨n2,hn2⟩:∃ n2,n2=qs.length:=⟨_,rfl⟩
   rw [← hn2] at hq2 ⊢;have HN2:=hid hn2;clear hn2;go_wp2
   go_loopw [5,21] (fun x i wr=>∃ (j:Nat),j≤n2∧i=.int .i64 j∧Hid (PcIn w1 pa qs x (acc++(qs.take j).map trimL) wr)) (fun _ i _=>n2 - (intOf i).toNat)
   case atStart=>exact ⟨0,by omega,rfl,by simpa using HP⟩
   case round =>
    clear HP;obtain ⟨j,hjn,rfl,hp⟩:=hrel;obtain ⟨xa,xc,hxe⟩:=hp.out.own.form;subst hxe;by_cases hlt2:j < n2
    ·have hjl:j < qs.length:=by have:=HN2.out; omega
     obtain ⟨a,hao,hab,hcell,hnb⟩:=hp.out.ps j hjl;subst hao;have hll:=HQL.out _ (List.getElem_mem hjl);have KT:=hid (fun w'=>trim_list qs[j] w' (by omega));have hnx:acc++(qs.take (j+1)).map trimL=(acc++(qs.take j).map trimL)++[trimL qs[j]]:=by rw [List.take_succ_eq_append_getElem hjl,List.map_append,← List.append_assoc]; rfl
     have hln:(acc++(qs.take j).map trimL).length+1≤8796093022208:=by simp; omega
     have HNX:=hid hnx;clear hnx hll hab hnb;generalize acc++(qs.take j).map trimL=cur at hp HNX hln;generalize qs[j]=q at hcell KT HNX;have hsz:=hp.out.b.size;go_wp2_with fail
     refine (KT.out _).mono ?_
     rintro e w3 ⟨rfl,hw3⟩;have HP3:=hid (hp.out.below hw3);have hP3:=hid (fun o=>HP3.out.below ((Below.refl _ w3).alloc (Nat.le_refl _) o));have HNV:=hid (one_new w3 9 (.string ⟨(trimL q).toArray⟩) 0 _ rfl);have hsz3:=Nat.le_trans hsz hw3.size;clear hp KT hw3 hcell;go_wp2_with (at_builtin; refine wp_appAt _ rfl (.tmp 25) (.tmp 28) 35 rfl w1.heap.size 9 i0 (.string .empty) Tryz.underlying35 hi hz0 hz1 hz2 rfl _ cur rfl (hP3.out _).own ⟨_,0,none⟩ 1 (trimL q) rfl HNV.out hln (by simp; omega) ?_; intro v5 w5 hown5 hgr5 hat5)
     have HP5:=hid ((hP3.out _).app hown5 hgr5 hat5);rw [← HNX.out] at HP5;clear hown5 hgr5 hat5 hP3 HP3;go_wp2;go_roundw
     case rel=>exact ⟨j+1,by omega,by go_num,HP5⟩
     case measure=>simp [intOf]; omega
    ·have hjq:j=qs.length:=by have:=HN2.out; omega
     have HO2:Hid (Own wr w1.heap.size 9 (.slice xa (strs (acc++(qs.take j).map trimL)).length xc) (strs ((vals.take (k+1)).flatMap pieceF))):=by
      have:=hp.out.own
      rw [HST.out];rw [hjq,List.take_length] at this ⊢;exact this
     have hb2:=hp.out.b;clear hp;go_wp2;go_roundw
     case rel=>exact ⟨k+1,by omega,by go_num,HO2,hb2⟩
     case measure=>simp [intOf]; omega
  ·have hkl:vals.length≤k:=by have:=HN.out; omega
   have he:acc=R:=by rw [← HAC.out,List.take_of_length_le hkl,HPV.out]
   subst he;clear hacc HAC HPV;go_wp2;go_ret;exact ⟨_,rfl,hown.out.mono hb1.size,hb1.trans (hb.mono hb1.size)⟩
theorem piecesQ_small {m:Ms} {nm:List UInt8} (h:∀ l ∈ allV m nm,l.length≤1048576):∀ s ∈ piecesV m nm,s.length≤1048576:=by
 intro s hs;unfold piecesV at hs;simp only [List.mem_flatMap,List.mem_map] at hs;obtain ⟨v,hv,q,hq,rfl⟩:=hs;have h1:=h v hv;have h2:=p_mem_len 44 v q hq;have h3:=trimL_len q;omega
end Go.Proofs.YtiogedceommcoaaGreatDoor
