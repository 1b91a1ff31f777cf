/-
  Params, RefTexts, OpenAddr, OpenEv, HeadStepL, RAll, ACheck, HRef2, ASame, QuietL, AAll, RSame10, ReqSmall.
-/
import Derived.Test.YtiogedceommcoaaGreatDoorK12
import Derived.Test.YtiogedceommcoaaGreatDoorK26
import Derived.Test.YtiogedceommcoaaGreatDoorK28
set_option linter.unusedVariables false
set_option linter.unusedSimpArgs false
set_option maxRecDepth 20000
namespace Go.Proofs.YtiogedceommcoaaGreatDoor
open Go.RowKit Sc
theorem stoodPar:Tryz.prog.stoodInHeld 158=false:=by kernel_rfl
theorem guardPar:Tryz.prog.eqGuardType Tryz.prog.depth 158=false:=by kernel_rfl
theorem fieldsPar:Tryz.prog.underlying 158=some (.struct (Tryz.prog.fieldsOf 158)):=by kernel_rfl
theorem listPar : (Tryz.prog.fieldsOf 158).toList.map (fun f => (f.type, f.offset, f.name == "_")) = [(9, 0, false), (9, 1, false), (4, 2, false)] := by kernel_rfl
theorem plainStr:Tryz.prog.plainKey 9=true:=by kernel_rfl
theorem plainBool:Tryz.prog.plainKey 4=true:=by kernel_rfl
theorem neqPar (x y x' y':ByteArray) (b b':Bool) (u:World):(binOp .neq 158 (.agg #[.string x,.string y,.bool b]) (.agg #[.string x',.string y',.bool b'])).run Tryz.prog u=.ok (.bool (!(x.toList==x'.toList && (y.toList==y'.toList && b==b')))) u:=by
 rw [run_neq_struct,run_equalIn_agg _ 9999 _ _ _ fieldsPar stoodPar];have h:=listPar;generalize (Tryz.prog.fieldsOf 158).toList=fs at h ⊢;have hlen:fs.length=3:=by have:=congrArg List.length h; simpa using this
 match fs,hlen,h with
 | [f0,f1,f2],_,h =>
  simp only [List.map_cons,List.map_nil,List.cons.injEq,Prod.mk.injEq,and_true,beq_eq_false_iff_ne] at h;obtain ⟨⟨t0,o0,n0⟩,⟨t1,o1,n1⟩,t2,o2,n2⟩:=h;have p0:∀ (X Y:ByteArray) (B:Bool) (v:World),(part 9 #[.string X,.string Y,.bool B] 0).run Tryz.prog v=.ok (.string X) v:=fun X Y B v=>run_part_plain v plainStr rfl;have p1:∀ (X Y:ByteArray) (B:Bool) (v:World),(part 9 #[.string X,.string Y,.bool B] 1).run Tryz.prog v=.ok (.string Y) v:=fun X Y B v=>run_part_plain v plainStr rfl;have p2:∀ (X Y:ByteArray) (B:Bool) (v:World),(part 4 #[.string X,.string Y,.bool B] 2).run Tryz.prog v=.ok (.bool B) v:=fun X Y B v=>run_part_plain v plainBool rfl;have q1:∀ (X Y:ByteArray) (v:World),(Op.equalIn 9999 9 (.string X) (.string Y)).run Tryz.prog v=.ok (X.toList==Y.toList) v:=fun X Y v=>run_equalIn_string v 9998 _ X Y Tryz.underlying9;have q2:∀ (X Y:Bool) (v:World),(Op.equalIn 9999 4 (.bool X) (.bool Y)).run Tryz.prog v=.ok (X==Y) v:=fun X Y v=>run_equalIn_bool' v 9998 _ X Y Tryz.underlying4;simp only [Op.eqFields,t0,t1,t2,o0,o1,o2,Sem.run_bind,Sem.run_ite,if_pos n0,if_pos n1,if_pos n2,p0,p1,p2,q1,q2,Result.andThen_ok]
  cases h0:(x.toList==x'.toList) <;> cases h1:(y.toList==y'.toList) <;> cases h2:(b==b') <;> rfl
theorem neqPar_is (p q:Par) (u:World):(binOp .neq 158 (.agg #[.string ⟨p.name.toArray⟩,.string ⟨p.value.toArray⟩,.bool p.has]) (.agg #[.string ⟨q.name.toArray⟩,.string ⟨q.value.toArray⟩,.bool q.has])).run Tryz.prog u=.ok (.bool (decide (p ≠ q))) u:=by
 rw [neqPar]
 congr 2
 obtain ⟨a,b,c⟩:=p;obtain ⟨a',b',c'⟩:=q;rw [Bool.eq_iff_iff]
 simp [ByteArray.toList_eq]
set_option maxHeartbeats 1000000 in
theorem lists_len (v1 v2:Value) (ps qs:List Par) (w:World) (h1:ParsAt w v1 ps) (h2:ParsAt w v2 qs) (hne:¬ ps.length=qs.length) :
  Calls Tryz.prog 78 #[v1,v2] w fun e w'=>e=.returned (.bool (decide (ps=qs)))∧∃ q,w'=w.drewN q:=by
 have hd:Hid (decide (ps=qs)=false):=show _=_ by simp; intro e; exact hne (by rw [e])
 obtain ⟨a1,c1,rfl⟩:=h1.form;obtain ⟨a2,c2,rfl⟩:=h2.form;have hn:((ps.length:Int) != (qs.length:Int))=true:=by simp only [bne_iff_ne,ne_eq]; omega
 clear h1 h2 hne
 go_enter Tryz.func78,Tryz.ntmps78
 go_wp2;go_ret;exact ⟨ret_bool hd.out.symm,0,rfl⟩
set_option maxHeartbeats 1000000 in
theorem lists_row (a b:Addr) (c1 c2:Nat) (ps qs:List Par) (w:World) (hlen:ps.length=qs.length) (hz:ps.length≤140737488355328) (h1:∀ k (hk:k < ps.length),ParAt w a k ps[k]) (h2:∀ k (hk:k < qs.length),ParAt w b k qs[k]) :
  Calls Tryz.prog 78 #[.slice (some a) ps.length c1,.slice (some b) qs.length c2] w fun e w'=>e=.returned (.bool (decide (ps=qs)))∧∃ q,w'=w.drewN q:=by
 have H1:Hid _:=h1; clear h1
 have H2:Hid _:=h2; clear h2
 obtain ⟨n,hn⟩:∃ n,n=ps.length:=⟨_,rfl⟩
 have hn2:qs.length=n:=by omega
 rw [← hn,hn2];have HN:Hid _:=hn; have HN2:Hid _:=hn2
 have hnz:n≤140737488355328:=by omega
 clear hlen hz hn hn2
 go_enter Tryz.func78,Tryz.ntmps78
 go_wp2
 go_loopw [5] (fun i wr=>∃ k q:Nat,k≤n∧i=.int .i64 k∧wr=w.drewN q∧Hid (ps.take k=qs.take k)) (fun i _=>n - (intOf i).toNat)
 case atStart=>exact ⟨0,0,by omega,rfl,rfl,rfl⟩
 case round =>
  obtain ⟨k,q,hk,rfl,rfl,heq⟩:=hrel;by_cases hlt:k < n
  ·have k1:k < ps.length:=by have:=HN.out; omega
   have k2:k < qs.length:=by have:=HN2.out; omega
   obtain ⟨x0,x1,x2⟩:=H1.out k k1;obtain ⟨y0,y1,y2⟩:=H2.out k k2;have hg:=guardPar;by_cases hpq:ps[k]=qs[k]
   ·have hcmp:∀ u,(binOp .neq 158 (.agg #[.string ⟨ps[k].name.toArray⟩,.string ⟨ps[k].value.toArray⟩,.bool ps[k].has]) (.agg #[.string ⟨qs[k].name.toArray⟩,.string ⟨qs[k].value.toArray⟩,.bool qs[k].has])).run Tryz.prog u=.ok (.bool false) u:=fun u=>by
     rw [neqPar_is]; simp [hpq]
    have hnx:Hid (ps.take (k+1)=qs.take (k+1)):=show _=_ by
     rw [List.take_succ_eq_append_getElem k1,List.take_succ_eq_append_getElem k2,heq.out,hpq]
    clear hpq heq;go_wp2
    go_quiet (fail)
    go_wp2;go_roundw
    case rel=>exact ⟨k+1,q+nq,by omega,by go_num,rfl,hnx⟩
    case measure=>simp [intOf]; omega
   ·have hcmp:∀ u,(binOp .neq 158 (.agg #[.string ⟨ps[k].name.toArray⟩,.string ⟨ps[k].value.toArray⟩,.bool ps[k].has]) (.agg #[.string ⟨qs[k].name.toArray⟩,.string ⟨qs[k].value.toArray⟩,.bool qs[k].has])).run Tryz.prog u=.ok (.bool true) u:=fun u=>by
     rw [neqPar_is]; simp [hpq]
    have hnx:Hid (decide (ps=qs)=false):=show _=_ by
     simp only [decide_eq_false_iff_not];intro e;subst e;exact hpq rfl
    clear hpq heq;go_wp2
    go_quiet (fail)
    go_wp2;go_ret;exact ⟨ret_bool hnx.out.symm,q+nq,by rw [World.drewN_drewN]⟩
  ·have hd:Hid (decide (ps=qs)=true):=show _=_ by
    have h:=heq.out;have e1:=HN.out;have e2:=HN2.out;rw [List.take_of_length_le (by omega),List.take_of_length_le (by omega)] at h
    simpa using h
   clear heq;go_wp2;go_ret;exact ⟨ret_bool hd.out.symm,q,rfl⟩
set_option maxHeartbeats 400000 in
theorem lists_nil (a b:Option Addr) (c1 c2:Nat) (w:World) :
  Calls Tryz.prog 78 #[.slice a 0 c1,.slice b 0 c2] w fun e w'=>e=.returned (.bool true)∧w'=w:=by
 go_enter Tryz.func78,Tryz.ntmps78
 go_wp2
 go_loop [5] (fun i=>i=.int .i64 0) (fun i=>0)
 case atStart=>rfl
 case round =>
  subst hrel;go_wp2;go_ret;exact ⟨rfl,rfl⟩
theorem lists_any (v1 v2:Value) (ps qs:List Par) (w:World) (hz:ps.length≤140737488355328) (h1:ParsAt w v1 ps) (h2:ParsAt w v2 qs) :
  Calls Tryz.prog 78 #[v1,v2] w fun e w'=>e=.returned (.bool (decide (ps=qs)))∧∃ q,w'=w.drewN q:=by
 by_cases hlen:ps.length=qs.length
 ·by_cases h0:ps=[]
  ·have hq:qs=[]:=List.eq_nil_of_length_eq_zero (by rw [← hlen,h0]; rfl);obtain ⟨a1,c1,rfl⟩:=h1.form;obtain ⟨a2,c2,rfl⟩:=h2.form;subst h0 hq;refine (lists_nil a1 a2 c1 c2 w).mono ?_
   rintro e w' ⟨rfl,rfl⟩;exact ⟨rfl,0,rfl⟩
  ·have hq:qs ≠ []:=by intro e; apply h0; exact List.eq_nil_of_length_eq_zero (by rw [hlen,e]; rfl)
   rcases h1 with ⟨_,e⟩ | ⟨a,c1,rfl,r1⟩
   ·exact absurd e h0
   ·rcases h2 with ⟨_,e⟩ | ⟨b,c2,rfl,r2⟩
    ·exact absurd e hq
    ·exact lists_row a b c1 c2 ps qs w hlen hz (fun k hk=>(r1 k hk).2) (fun k hk=>(r2 k hk).2)
 ·exact lists_len v1 v2 ps qs w h1 h2 hlen
set_option maxHeartbeats 1000000 in
theorem usame_any (u v:Uri) (p h p' h':Value) (w:World) (z1:u.params.length≤140737488355328) (z2:u.headers.length≤140737488355328) (h1:ParsAt w p u.params) (h2:ParsAt w h u.headers) (h3:ParsAt w p' v.params) (h4:ParsAt w h' v.headers) :
  Calls Tryz.prog 34 #[uriV u p h,uriV v p' h'] w fun e w'=>e=.returned (.bool (decide (u=v)))∧Below w.heap.size w w':=by
 obtain ⟨s,us,ho,po,ps,hs⟩:=u;obtain ⟨s',us',ho',po',ps',hs'⟩:=v;simp only at z1 z2 h1 h2 h3 h4;have hd:Hid (decide (Uri.mk s us ho po ps hs=Uri.mk s' us' ho' po' ps' hs')=(s==s' && (us==us' && (ho==ho' && (po==po' && (decide (ps=ps') && decide (hs=hs'))))))):=show _=_ by
  rw [Bool.eq_iff_iff]; simp [Uri.mk.injEq]
 unfold uriV
 simp only
 have b2:∀ o1 o2,Below w.heap.size w ((w.alloc o1).alloc o2):=fun o1 o2=>((Below.refl _ w).alloc (Nat.le_refl _) o1).alloc (by simp) o2;have k1:∀ o1 o2,ParsAt ((w.alloc o1).alloc o2) p ps:=fun o1 o2=>h1.below (b2 o1 o2);have k2:∀ o1 o2,ParsAt ((w.alloc o1).alloc o2) h hs:=fun o1 o2=>h2.below (b2 o1 o2);have k3:∀ o1 o2,ParsAt ((w.alloc o1).alloc o2) p' ps':=fun o1 o2=>h3.below (b2 o1 o2);have k4:∀ o1 o2,ParsAt ((w.alloc o1).alloc o2) h' hs':=fun o1 o2=>h4.below (b2 o1 o2);have K1:Hid _:=k1; have K2:Hid _:=k2; have K3:Hid _:=k3; have K4:Hid _:=k4
 have B2:Hid _:=b2;obtain ⟨a1,c1,rfl⟩:=h1.form;obtain ⟨a2,c2,rfl⟩:=h2.form;obtain ⟨a3,c3,rfl⟩:=h3.form;obtain ⟨a4,c4,rfl⟩:=h4.form;clear k1 k2 k3 k4 b2 h1 h2 h3 h4;by_cases e1:s=s'
 ·by_cases e2:us=us'
  ·by_cases e3:ho=ho'
   ·by_cases e4:po=po'
    ·subst e1 e2 e3 e4
     go_enter Tryz.func34,Tryz.ntmps34
     go_wp2_with fail
     refine (lists_any _ _ ps ps' _ z1 (K1.out _ _) (K3.out _ _)).mono ?_
     rintro e w1 ⟨rfl,q1,rfl⟩;by_cases e5:ps=ps'
     ·subst e5;rw [decide_eq_true rfl];go_wp2_with fail
      refine (lists_any _ _ hs hs' _ z2 ((K2.out _ _).below (below_drewN _ q1)) ((K4.out _ _).below (below_drewN _ q1))).mono ?_
      rintro e w2 ⟨rfl,q2,rfl⟩;go_wp2;go_ret;exact ⟨ret_bool (by rw [hd.out]; simp),(B2.out _ _).trans ((below_drewN _ _).mono (B2.out _ _).size)⟩
     ·rw [decide_eq_false e5];go_wp2;go_ret;exact ⟨ret_bool (by rw [hd.out]; simp [e5]),(B2.out _ _).trans ((below_drewN _ _).mono (B2.out _ _).size)⟩
    ·go_enter Tryz.func34,Tryz.ntmps34
     go_wp2;go_ret;exact ⟨ret_bool (by rw [hd.out]; simp [e4]),B2.out _ _⟩
   ·go_enter Tryz.func34,Tryz.ntmps34
    go_wp2;go_ret;exact ⟨ret_bool (by rw [hd.out]; simp [e3]),B2.out _ _⟩
  ·go_enter Tryz.func34,Tryz.ntmps34
   go_wp2;go_ret;exact ⟨ret_bool (by rw [hd.out]; simp [e2]),B2.out _ _⟩
 ·go_enter Tryz.func34,Tryz.ntmps34
  go_wp2;go_ret;exact ⟨ret_bool (by rw [hd.out]; simp [e1]),B2.out _ _⟩
set_option maxHeartbeats 1000000 in
theorem texts_eq (B1 B2:Nat) (v1 v2:Value) (ps:List (List UInt8)) (w:World) (h1:Own w B1 9 v1 (strs ps)) (h2:Own w B2 9 v2 (strs ps)) (hne:ps ≠ []) (hl:ps.length≤281474976710656) :
  Calls Tryz.prog 38 #[v1,v2] w fun e w'=>e=.returned (.bool true)∧∃ q,w'=w.drewN q:=by
 obtain ⟨g1,c1,rfl,k1⟩:=own_strs h1 hne;obtain ⟨g2,c2,rfl,k2⟩:=own_strs h2 hne;have K1:Hid (∀ j (hj:j < ps.length),w.cell? ⟨g1,j,none⟩=some (.string ⟨(ps[j]).toArray⟩)):=k1;have K2:Hid (∀ j (hj:j < ps.length),w.cell? ⟨g2,j,none⟩=some (.string ⟨(ps[j]).toArray⟩)):=k2;clear k1 k2 h1 h2 hne
 go_enter Tryz.func38,Tryz.ntmps38
 go_wp2
 go_loopw [5] (fun i wr=>∃ (k q:Nat),k≤ps.length∧i=.int .i64 k∧wr=w.drewN q) (fun i _=>ps.length - (intOf i).toNat)
 case atStart=>exact ⟨0,0,Nat.zero_le _,rfl,rfl⟩
 case round =>
  obtain ⟨k,q,hk,rfl,rfl⟩:=hrel;by_cases hlt:k < ps.length
  ·have f1:=K1.out k hlt;have f2:=K2.out k hlt;have q6:(k:Int) < (ps.length:Int):=by omega
   go_wp2
   go_quiet (fail)
   go_wp2;go_roundw
   case rel=>exact ⟨k+1,q+nq,by omega,by go_num,rfl⟩
   case measure=>simp [intOf]; omega
  ·go_wp2;go_ret;exact ⟨rfl,q,rfl⟩
end Go.Proofs.YtiogedceommcoaaGreatDoor
namespace Go.Proofs.YtiogedceommcoaaGreatDoor
open Go.RowKit Go.ChangeShapes Go.WideShapes Go.Deep
theorem AdrsAt.form {w:World} {v:Value} {cs:List AdrC} (h:AdrsAt w v cs):∃ a cap,v=.slice a cs.length cap:=by
 obtain ⟨⟨ao,cap,hv,_⟩,_⟩:=h;exact ⟨ao,cap,hv⟩
def BoxE (w:World) (b:Nat) (v:Ev) (q:Value):Prop:=w.cell? ⟨b,0,none⟩=some (.string ⟨v.name.toArray⟩)∧w.cell? ⟨b,1,none⟩=some q
theorem BoxE.below {w w':World} {b B:Nat} {v:Ev} {q:Value} (k:BoxE w b v q) (hb:Below B w w') (hlt:b < B):BoxE w' b v q:=⟨cell_below hb hlt k.1,cell_below hb hlt k.2⟩
def objE (v:Ev) (q:Value):Obj:=.cells #[.string ⟨v.name.toArray⟩,q] 33
theorem boxE_new (w:World) (v:Ev) (q:Value):BoxE (w.alloc (objE v q)) w.heap.size v q:=by
 unfold BoxE World.cell? objE;simp only [heap_alloc_new];exact ⟨rfl,rfl⟩
end Go.Proofs.YtiogedceommcoaaGreatDoor
namespace Go.Proofs.YtiogedceommcoaaGreatDoor
open Go.RowKit Sc
theorem ev_eq (a b:Ev):decide (a=b)=(a.name==b.name && decide (a.params=b.params)):=by
 obtain ⟨d,p⟩:=a;obtain ⟨d',p'⟩:=b;rw [Bool.eq_iff_iff]; simp [Ev.mk.injEq]
end Go.Proofs.YtiogedceommcoaaGreatDoor
namespace Go.Proofs.YtiogedceommcoaaGreatDoor
open Go.RowKit Go.Sort Sc
set_option maxHeartbeats 1000000 in
theorem texts_nil (B1 B2:Nat) (v1 v2:Value) (w:World) (h1:Own w B1 9 v1 (strs [])) (h2:Own w B2 9 v2 (strs [])) :
  Calls Tryz.prog 38 #[v1,v2] w fun e w'=>e=.returned (.bool true)∧Below w.heap.size w w':=by
 obtain ⟨a1,c1,rfl⟩:=h1.form;obtain ⟨a2,c2,rfl⟩:=h2.form;rw [strs_length];have hb:=Below.refl w.heap.size w;simp only [List.length_nil];clear h1 h2
 go_enter Tryz.func38,Tryz.ntmps38
 go_wp2
 go_loopw [5] (fun i wr=>i=.int .i64 0∧wr=w) (fun i _=>0)
 case atStart=>exact ⟨rfl,rfl⟩
 case round =>
  obtain ⟨rfl,rfl⟩:=hrel;go_wp2;go_ret;exact ⟨rfl,hb⟩
theorem texts_any (B1 B2:Nat) (v1 v2:Value) (ps:List (List UInt8)) (w:World) (h1:Own w B1 9 v1 (strs ps)) (h2:Own w B2 9 v2 (strs ps)) (hl:ps.length≤281474976710656) :
  Calls Tryz.prog 38 #[v1,v2] w fun e w'=>e=.returned (.bool true)∧Below w.heap.size w w':=by
 by_cases hne:ps=[]
 ·subst hne; exact texts_nil B1 B2 v1 v2 w h1 h2
 ·refine (texts_eq B1 B2 v1 v2 ps w h1 h2 hne hl).mono ?_
  rintro e w' ⟨rfl,q,rfl⟩;exact ⟨rfl,below_drewN w q⟩
end Go.Proofs.YtiogedceommcoaaGreatDoor
namespace Go.Proofs.YtiogedceommcoaaGreatDoor
open Go.RowKit Sc
theorem BoxA.below {w w':World} {b B:Nat} {a:Adr} {p h q:Value} (k:BoxA w b a p h q) (hb:Below B w w') (hlt:b < B):BoxA w' b a p h q :=
 ⟨cell_below hb hlt k.1,cell_below hb hlt k.2.1,cell_below hb hlt k.2.2.1,cell_below hb hlt k.2.2.2.1,cell_below hb hlt k.2.2.2.2.1,cell_below hb hlt k.2.2.2.2.2.1,cell_below hb hlt k.2.2.2.2.2.2.1,cell_below hb hlt k.2.2.2.2.2.2.2⟩
set_option maxHeartbeats 1000000 in
set_option maxRecDepth 100000 in
theorem evsame_any (c c':EvC) (w:World) (z3:c.v.params.length≤140737488355328) (h:c.At w) (h':c'.At w) :
  Calls Tryz.prog 36 #[evV c.v c.q,evV c'.v c'.q] w fun e w'=>e=.returned (.bool (decide (c.v=c'.v)))∧Below w.heap.size w w':=by
 obtain ⟨a,q⟩:=c;obtain ⟨a',q'⟩:=c';obtain ⟨h3,_⟩:=h;obtain ⟨k3,_⟩:=h';simp only at h3 k3 z3 ⊢;have hd:=ev_eq a a';have KL:=hid (fun w' (hb:Below w.heap.size w w')=>lists_any q q' a.params a'.params w' z3 (h3.below hb) (k3.below hb));have hbx:=boxE_new w a q;have hb0:Below w.heap.size w (w.alloc (objE a q)):=(Below.refl _ w).alloc (Nat.le_refl _) _;have hlt:=alloc_lt w (objE a q);have hby:=boxE_new (w.alloc (objE a q)) a' q';have hb1:Below w.heap.size w ((w.alloc (objE a q)).alloc (objE a' q')):=hb0.alloc hb0.size _;have hbz:=hbx.below ((Below.refl _ (w.alloc (objE a q))).alloc (Nat.le_refl _) (objE a' q')) hlt;have hs1:(w.alloc (objE a q)).heap.size=w.heap.size+1:=by simp
 rw [hs1] at hby;clear hbx hb0 hlt;obtain ⟨a3,c3,rfl⟩:=h3.form;obtain ⟨a6,c6,rfl⟩:=k3.form;clear h3 k3 z3;generalize decide (a=a')=R at hd ⊢;generalize decide (a.params=a'.params)=rp at hd KL;obtain ⟨ho,ps⟩:=a;obtain ⟨ho',ps'⟩:=a';unfold evV;unfold objE at hb1 hbz hby hs1;simp only at KL hb1 hbz hby hd hs1 ⊢;have HD:=hid hd;clear hd hs1;obtain ⟨x0,x1⟩:=hbz;obtain ⟨y0,y1⟩:=hby;simp only at x0 x1 y0 y1;by_cases hdd:ho=ho'
 ·subst hdd
  go_enter Tryz.func36,Tryz.ntmps36
  go_wp2_with fail
  refine (KL.out _ hb1).mono ?_
  rintro e w3 ⟨rfl,q3,rfl⟩;go_wp2;go_ret;exact ⟨ret_bool (by rw [HD.out]; simp),hb1.trans ((below_drewN _ _).mono hb1.size)⟩
 ·go_enter Tryz.func36,Tryz.ntmps36
  go_wp2;go_ret;exact ⟨ret_bool (by rw [HD.out]; simp [hdd]),hb1⟩
theorem adr_eq (a b:Adr):decide (a=b)=(a.display==b.display && (decide (a.uri=b.uri) && decide (a.params=b.params))):=by
 obtain ⟨d,u,p⟩:=a;obtain ⟨d',u',p'⟩:=b;rw [Bool.eq_iff_iff]; simp [Adr.mk.injEq]
set_option maxHeartbeats 1000000 in
set_option maxRecDepth 100000 in
theorem asame_any (c c':AdrC) (w:World) (z1:c.a.uri.params.length≤140737488355328) (z2:c.a.uri.headers.length≤140737488355328) (z3:c.a.params.length≤140737488355328) (h:c.At w) (h':c'.At w) :
  Calls Tryz.prog 35 #[adrV c.a c.p c.h c.q,adrV c'.a c'.p c'.h c'.q] w fun e w'=>e=.returned (.bool (decide (c.a=c'.a)))∧Below w.heap.size w w':=by
 obtain ⟨a,p,hh,q⟩:=c;obtain ⟨a',p',hh',q'⟩:=c';obtain ⟨h1,h2,h3,_⟩:=h;obtain ⟨k1,k2,k3,_⟩:=h';simp only at h1 h2 h3 k1 k2 k3 z1 z2 z3 ⊢;have hd:=adr_eq a a';have KU:=hid (fun w' (hb:Below w.heap.size w w')=>usame_any a.uri a'.uri p hh p' hh' w' z1 z2 (h1.below hb) (h2.below hb) (k1.below hb) (k2.below hb));have KL:=hid (fun w' (hb:Below w.heap.size w w')=>lists_any q q' a.params a'.params w' z3 (h3.below hb) (k3.below hb));have hbx:=boxA_new w a p hh q;have hb0:Below w.heap.size w (w.alloc (objA a p hh q)):=(Below.refl _ w).alloc (Nat.le_refl _) _;have hlt:=alloc_lt w (objA a p hh q);have hby:=boxA_new (w.alloc (objA a p hh q)) a' p' hh' q';have hb1:Below w.heap.size w ((w.alloc (objA a p hh q)).alloc (objA a' p' hh' q')):=hb0.alloc hb0.size _;have hbz:=hbx.below ((Below.refl _ (w.alloc (objA a p hh q))).alloc (Nat.le_refl _) (objA a' p' hh' q')) hlt;have hlt2:=alloc_lt (w.alloc (objA a p hh q)) (objA a' p' hh' q');have hs1:(w.alloc (objA a p hh q)).heap.size=w.heap.size+1:=by simp
 rw [hs1] at hby hlt2;clear hbx hb0;obtain ⟨a1,c1,rfl⟩:=h1.form;obtain ⟨a2,c2,rfl⟩:=h2.form;obtain ⟨a3,c3,rfl⟩:=h3.form;obtain ⟨a4,c4,rfl⟩:=k1.form;obtain ⟨a5,c5,rfl⟩:=k2.form;obtain ⟨a6,c6,rfl⟩:=k3.form;clear h1 h2 h3 k1 k2 k3 z1 z2 z3;generalize decide (a=a')=R at hd ⊢;generalize decide (a.uri=a'.uri)=ru at hd KU;generalize decide (a.params=a'.params)=rp at hd KL;obtain ⟨d,u,ps⟩:=a;obtain ⟨us,uu,uh,up,upp,uhh⟩:=u;obtain ⟨d',u',ps'⟩:=a';obtain ⟨us',uu',uh',up',upp',uhh'⟩:=u';unfold adrV;unfold uriV at KU;unfold objA at hb1 hbz hby hlt hlt2 hs1;simp only at KU KL hb1 hbz hby hlt hlt2 hd hs1 ⊢;have HZ:=hid hbz;have HY:=hid hby;have HD:=hid hd;clear hbz hby hd hs1;obtain ⟨x0,x1,x2,x3,x4,x5,x6,x7⟩:=HZ.out;obtain ⟨y0,y1,y2,y3,y4,y5,y6,y7⟩:=HY.out;simp only at x0 x1 x2 x3 x4 x5 x6 x7 y0 y1 y2 y3 y4 y5 y6 y7;by_cases hdd:d=d'
 ·subst hdd
  go_enter Tryz.func35,Tryz.ntmps35
  go_wp2_with fail
  refine (KU.out _ hb1).mono ?_
  rintro e w2 ⟨rfl,hw2⟩;have HZ2:=hid (BoxA.below HZ.out hw2 (Nat.lt_trans hlt (by simp)));have HY2:=hid (BoxA.below HY.out hw2 hlt2);have hb2:=hb1.trans (hw2.mono hb1.size);clear x0 x1 x2 x3 x4 x5 x6 x7 y0 y1 y2 y3 y4 y5 y6 y7 HZ HY hw2 KU hb1 hlt hlt2;obtain ⟨x0,x1,x2,x3,x4,x5,x6,x7⟩:=HZ2.out;obtain ⟨y0,y1,y2,y3,y4,y5,y6,y7⟩:=HY2.out;simp only at x0 x1 x2 x3 x4 x5 x6 x7 y0 y1 y2 y3 y4 y5 y6 y7
  cases ru with
  | false =>
   go_wp2;go_ret;exact ⟨ret_bool (by rw [HD.out]; simp),hb2⟩
  | true =>
   go_wp2_with fail
   refine (KL.out _ hb2).mono ?_
   rintro e w3 ⟨rfl,q3,rfl⟩;go_wp2;go_ret;exact ⟨ret_bool (by rw [HD.out]; simp),hb2.trans ((below_drewN _ _).mono hb2.size)⟩
 ·go_enter Tryz.func35,Tryz.ntmps35
  go_wp2;go_ret;exact ⟨ret_bool (by rw [HD.out]; simp [hdd]),hb1⟩
end Go.Proofs.YtiogedceommcoaaGreatDoor
namespace Go.Proofs.YtiogedceommcoaaGreatDoor
section
variable {P : Program} {ops : Array Oper} {C : World → Prop} {Q : Exit → Act → World → Prop}
theorem wpList_of_quiet:∀ (l:List Oper) (a:Act) (w:World),C w → wpQuiet P ops C (fun a'=>∀ w',C w' → Q .normal a' w') l a → wpList P ops Q l a w
 | [],a,w,hw,h=>h w hw
 | o :: rest,a,w,hw,h=>by
  unfold wpList;unfold wpQuiet at h
  split
  ·rename_i hx
   rw [if_pos hx] at h;exact .inl (Oper.wp_of_quiet hw (fun a' w' hw' k=>wpList_of_quiet rest a' w' hw' k) h)
  ·rename_i hx
   rw [if_neg hx] at h;exact wpList_of_quiet rest _ w hw h
theorem wpList_quiet_at {a:Act} {w:World} {o:Oper} {rest:List Oper} (t:TypeId) (x:Operand) (k:Nat) (ho:o.op=.fieldAddr t x k)
  (h:∀ T:Act → Prop,(∀ a',(∀ w',(∃ p:Regrown,w'=Sort.grow (redrawn w p.d) p.os) → Q .normal a' w') → T a') → wpQuiet P ops (fun w'=>∃ p:Regrown,w'=Sort.grow (redrawn w p.d) p.os) T (o :: rest) a):wpList P ops Q (o :: rest) a w :=
 wpList_of_quiet (C:=fun w'=>∃ p:Regrown,w'=Sort.grow (redrawn w p.d) p.os) _ _ _ ⟨⟨w.drawn,#[]⟩,by rw [Sort.grow_empty]; rfl⟩ (h _ fun _ h=>h)
end
end Go.Proofs.YtiogedceommcoaaGreatDoor
namespace Go.Proofs.YtiogedceommcoaaGreatDoor
open Go.RowKit Go.Sort Sc
structure EightAt (w:World) (ad:Addr) (k:Nat) (c:AdrC):Prop where
 c0:w.cell? (ad.add (k * 8))=some (.string ⟨c.a.display.toArray⟩)
 c1:w.cell? ⟨(ad.add (k * 8)).block,(ad.add (k * 8)).off+1,none⟩=some (.string ⟨c.a.uri.scheme.toArray⟩)
 c2:w.cell? ⟨(ad.add (k * 8)).block,(ad.add (k * 8)).off+2,none⟩=some (.string ⟨c.a.uri.user.toArray⟩)
 c3:w.cell? ⟨(ad.add (k * 8)).block,(ad.add (k * 8)).off+3,none⟩=some (.string ⟨c.a.uri.host.toArray⟩)
 c4:w.cell? ⟨(ad.add (k * 8)).block,(ad.add (k * 8)).off+4,none⟩=some (.int .i64 c.a.uri.port)
 c5:w.cell? ⟨(ad.add (k * 8)).block,(ad.add (k * 8)).off+5,none⟩=some c.p
 c6:w.cell? ⟨(ad.add (k * 8)).block,(ad.add (k * 8)).off+6,none⟩=some c.h
 c7:w.cell? ⟨(ad.add (k * 8)).block,(ad.add (k * 8)).off+7,none⟩=some c.q
theorem EightAt.below {w w':World} {ad:Addr} {k:Nat} {c:AdrC} (h:EightAt w ad k c) (hb:Below w.heap.size w w') (hlt:ad.block < w.heap.size):EightAt w' ad k c:=by
 have hl:(ad.add (k * 8)).block < w.heap.size:=by rw [add_block]; exact hlt
 exact ⟨cell_below hb hl h.c0,cell_below (a:=⟨(ad.add (k * 8)).block,(ad.add (k * 8)).off+1,none⟩) hb hl h.c1,cell_below (a:=⟨(ad.add (k * 8)).block,(ad.add (k * 8)).off+2,none⟩) hb hl h.c2,cell_below (a:=⟨(ad.add (k * 8)).block,(ad.add (k * 8)).off+3,none⟩) hb hl h.c3,cell_below (a:=⟨(ad.add (k * 8)).block,(ad.add (k * 8)).off+4,none⟩) hb hl h.c4,cell_below (a:=⟨(ad.add (k * 8)).block,(ad.add (k * 8)).off+5,none⟩) hb hl h.c5,cell_below (a:=⟨(ad.add (k * 8)).block,(ad.add (k * 8)).off+6,none⟩) hb hl h.c6,cell_below (a:=⟨(ad.add (k * 8)).block,(ad.add (k * 8)).off+7,none⟩) hb hl h.c7⟩
theorem AdrsAt.eight {w:World} {v:Value} {cs:List AdrC} (h:AdrsAt w v cs) (k:Nat) (hk:k < cs.length):∃ ad cap,v=.slice (some ad) cs.length cap∧ad.block < w.heap.size∧EightAt w ad k cs[k]:=by
 obtain ⟨⟨ao,cap,rfl,hc⟩,_⟩:=h;obtain ⟨ad,rfl,hlt,hcell⟩:=hc k hk;exact ⟨ad,cap,rfl,hlt,hcell 0 _ rfl,hcell 1 _ rfl,hcell 2 _ rfl,hcell 3 _ rfl,hcell 4 _ rfl,hcell 5 _ rfl,hcell 6 _ rfl,hcell 7 _ rfl⟩
set_option maxHeartbeats 1000000 in
set_option maxRecDepth 100000 in
theorem aall_any (v v':Value) (cs cs':List AdrC) (w:World) (hl:cs.length≤1048576) (hsm:∀ c ∈ cs,SmallA 140737488355328 c.a) (he:cs.map AdrC.a=cs'.map AdrC.a) (h:AdrsAt w v cs) (h':AdrsAt w v' cs') :
  Calls Tryz.prog 37 #[v,v'] w fun e w'=>e=.returned (.bool true)∧Below w.heap.size w w':=by
 have hlen:cs'.length=cs.length:=by have:=congrArg List.length he; simpa using this.symm
 obtain ⟨n,hn⟩:∃ n,n=cs.length:=⟨_,rfl⟩
 have HE:=hid (fun k (hk:k < cs.length)=>h.eight k hk);have HE':=hid (fun k (hk:k < cs'.length)=>h'.eight k hk);have HAT:=hid h;have HAT':=hid h';obtain ⟨a1,c1,e1⟩:=h.form;obtain ⟨a2,c2,e2⟩:=h'.form;rw [hlen,← hn] at e2;rw [← hn] at e1 hl;have HLEN:=hid hlen;have HN:=hid hn;have HSM:=hid hsm;have HEQ:=hid he;clear h h' hlen hn hsm he;subst e1 e2
 go_enter Tryz.func37,Tryz.ntmps37
 go_wp2
 go_loopw [5] (fun i wr=>∃ (k:Nat),k≤n∧i=.int .i64 k∧Below w.heap.size w wr) (fun i _=>n - (intOf i).toNat)
 case atStart=>exact ⟨0,by omega,rfl,Below.refl _ _⟩
 case round =>
  obtain ⟨k,hkn,rfl,hb⟩:=hrel;by_cases hlt:k < n
  ·have hkl:k < cs.length:=by have:=HN.out; omega
   have hkl':k < cs'.length:=by have:=HN.out; have:=HLEN.out; omega
   obtain ⟨ad,cap,e1,hab,hei⟩:=HE.out k hkl;obtain ⟨ad',cap',e1',hab',hei'⟩:=HE'.out k hkl';simp only [Value.slice.injEq] at e1 e1';obtain ⟨rfl,_,rfl⟩:=e1;obtain ⟨rfl,_,rfl⟩:=e1';have heq:cs[k].a=cs'[k].a:=by
    have h1:(cs.map AdrC.a)[k]? = (cs'.map AdrC.a)[k]? := by rw [HEQ.out]
    rw [List.getElem?_map,List.getElem?_map,List.getElem?_eq_getElem hkl,List.getElem?_eq_getElem hkl'] at h1
    simpa using h1
   have hss:=HSM.out _ (List.getElem_mem hkl);have KS:=hid (fun w' (hb':Below w.heap.size w w')=>asame_any cs[k] cs'[k] w' hss.2.1.2.2.2.1.1 hss.2.1.2.2.2.2.1 hss.2.2.1 ((HAT.out.2 _ (List.getElem_mem hkl)).below hb') ((HAT'.out.2 _ (List.getElem_mem hkl')).below hb'));have hat:=HAT.out.2 _ (List.getElem_mem hkl);have hat':=HAT'.out.2 _ (List.getElem_mem hkl');have hei2:=hei.below hb hab;have hei2':=hei'.below hb hab';clear hei hei' hss;generalize cs[k]=c at heq KS hei2 hat;generalize cs'[k]=c' at heq KS hei2' hat';obtain ⟨x,p,h,q⟩:=c;obtain ⟨x',p',h',q'⟩:=c';simp only at heq;subst heq;obtain ⟨b1,j1,r1⟩:=hat.1.form;obtain ⟨b2,j2,r2⟩:=hat.2.1.form;obtain ⟨b3,j3,r3⟩:=hat.2.2.1.form;obtain ⟨b4,j4,r4⟩:=hat'.1.form;obtain ⟨b5,j5,r5⟩:=hat'.2.1.form;obtain ⟨b6,j6,r6⟩:=hat'.2.2.1.form;simp only at r1 r2 r3 r4 r5 r6;subst r1 r2 r3 r4 r5 r6;clear hat hat';obtain ⟨d,⟨us,uu,uh,up,upp,uhh⟩,ps⟩:=x;obtain ⟨x0,x1,x2,x3,x4,x5,x6,x7⟩:=hei2;obtain ⟨y0,y1,y2,y3,y4,y5,y6,y7⟩:=hei2';unfold adrV at KS;simp only [decide_true] at KS x0 x1 x2 x3 x4 x5 x6 x7 y0 y1 y2 y3 y4 y5 y6 y7;replace x0:=cell_regrown x0;replace x1:=cell_regrown x1;replace x2:=cell_regrown x2;replace x3:=cell_regrown x3;replace x4:=cell_regrown x4;replace x5:=cell_regrown x5;replace x6:=cell_regrown x6;replace x7:=cell_regrown x7;replace y0:=cell_regrown y0;replace y1:=cell_regrown y1;replace y2:=cell_regrown y2;replace y3:=cell_regrown y3;replace y4:=cell_regrown y4;replace y5:=cell_regrown y5;replace y6:=cell_regrown y6;replace y7:=cell_regrown y7;have c:=hid (fun (d:Nat) (os:Array Obj)=>Calls.regrown_of (KS.out (grow (redrawn wr d) os) (below_re5 hb d os)));clear KS;go_wp2;refine wp_region_quiet_below followsMixed5 (by kernel_rfl) ?_
   repeat (go_big_quiet_step (with_reducible exact c.out _ _))
   refine wpQuiet_nil ?_
   intro _ hw';obtain ⟨⟨dq,osq⟩,hw''⟩:=hw';subst hw'';have hb1:=below_re5 hb dq osq;clear c x0 x1 x2 x3 x4 x5 x6 x7 y0 y1 y2 y3 y4 y5 y6 y7 hb;go_wp2;go_roundw
   case rel=>exact ⟨k+1,by omega,by go_num,hb1⟩
   case measure=>simp [intOf]; omega
  ·go_wp2;go_ret;exact ⟨rfl,hb⟩
end Go.Proofs.YtiogedceommcoaaGreatDoor
namespace Go.Proofs.YtiogedceommcoaaGreatDoor
open Go.RowKit Sc
structure SmallR (r:Rq):Prop where
 t1:r.target.params.length≤140737488355328
 t2:r.target.headers.length≤140737488355328
 f:SmallA 140737488355328 r.frm
 o:SmallA 140737488355328 r.too
 e:r.event.params.length≤140737488355328
 c1:r.contact.length≤1048576
 c2:∀ a ∈ r.contact,SmallA 140737488355328 a
 ro:r.routes.length≤281474976710656
 ac:r.accept.length≤281474976710656
theorem below_re10 {w W:World} (h:Below w.heap.size w W) (d:Nat) (os:Array Obj):Below w.heap.size w (Sort.grow (redrawn W d) os):=h.trans ((below_regrown W d os).mono h.size)
set_option maxHeartbeats 8000000 in
set_option maxRecDepth 100000 in
theorem rsame10_any (c c':RqC) (w:World) (he:c'.r=c.r) (h:c.At w) (h':c'.At w) (hs:SmallR c.r) :
  Calls Tryz.prog 12 #[rqV c,rqV c'] w fun e w'=>e=.returned (.bool true)∧Below w.heap.size w w':=by
 obtain ⟨r0,tp,th,fp,fh,fq,op,oh,oq,eq,co,ro,ac⟩:=c;obtain ⟨r,tp',th',fp',fh',fq',op',oh',oq',eq',co',ro',ac'⟩:=c';simp only at he;subst he;unfold rqV;obtain ⟨CA,hCA⟩:∃ a,a=(rqCells ⟨r,tp,th,fp,fh,fq,op,oh,oq,eq,co,ro,ac⟩).toArray:=⟨_,rfl⟩
 obtain ⟨CB,hCB⟩:∃ a,a=(rqCells ⟨r,tp',th',fp',fh',fq',op',oh',oq',eq',co',ro',ac'⟩).toArray:=⟨_,rfl⟩
 rw [← hCA,← hCB];have hinfA:(Tryz.prog.info? 37).map (·.size)=some CA.size:=by rw [hCA]; exact infoR
 have hinfB:(Tryz.prog.info? 37).map (·.size)=some CB.size:=by rw [hCB]; exact infoR
 have A2:=(Below.refl _ (w.alloc (.cells CA 37))).alloc (Nat.le_refl _) (.cells CB 37);have hB:=hid (((Below.refl w.heap.size w).alloc (Nat.le_refl _) (.cells CA 37)).trans (A2.mono (by simp)));have hr1:RowIs ((w.alloc (.cells CA 37)).alloc (.cells CB 37)) w.heap.size 37 (rqCells ⟨r,tp,th,fp,fh,fq,op,oh,oq,eq,co,ro,ac⟩):=by unfold RowIs; rw [A2.block _ (by simp),heap_alloc_new,hCA]
 have hr2:RowIs ((w.alloc (.cells CA 37)).alloc (.cells CB 37)) (w.heap.size+1) 37 (rqCells ⟨r,tp',th',fp',fh',fq',op',oh',oq',eq',co',ro',ac'⟩):=by
  unfold RowIs;have e:(w.alloc (.cells CA 37)).heap.size=w.heap.size+1:=by simp
  rw [← e,heap_alloc_new,hCB]
 replace hr1:=hid hr1;replace hr2:=hid hr2;clear hCA hCB A2
 go_enter Tryz.func12,Tryz.ntmps12
 repeat (fail_if_success (refine wpList_quiet_at _ _ _ rfl ?_)
         go_step)
 refine wpList_quiet_at _ _ _ rfl ?_
 intro T HT;replace HT:=hid HT;generalize World.alloc _ _=W at hB hr1 hr2 HT ⊢;have g0:∀ d os,(Sort.grow (redrawn W d) os).cell? ⟨w.heap.size,0,none⟩=some (.string ⟨r.method.toArray⟩):=cell_regrown (hr1.out.cell 0 (by rw [rq_len]; decide));have g1:∀ d os,(Sort.grow (redrawn W d) os).cell? ⟨w.heap.size,1,none⟩=some (.string ⟨r.target.scheme.toArray⟩):=cell_regrown (hr1.out.cell 1 (by rw [rq_len]; decide));have g2:∀ d os,(Sort.grow (redrawn W d) os).cell? ⟨w.heap.size,2,none⟩=some (.string ⟨r.target.user.toArray⟩):=cell_regrown (hr1.out.cell 2 (by rw [rq_len]; decide));have g3:∀ d os,(Sort.grow (redrawn W d) os).cell? ⟨w.heap.size,3,none⟩=some (.string ⟨r.target.host.toArray⟩):=cell_regrown (hr1.out.cell 3 (by rw [rq_len]; decide));have g4:∀ d os,(Sort.grow (redrawn W d) os).cell? ⟨w.heap.size,4,none⟩=some (.int .i64 r.target.port):=cell_regrown (hr1.out.cell 4 (by rw [rq_len]; decide));have g5:∀ d os,(Sort.grow (redrawn W d) os).cell? ⟨w.heap.size,5,none⟩=some (tp):=cell_regrown (hr1.out.cell 5 (by rw [rq_len]; decide));have g6:∀ d os,(Sort.grow (redrawn W d) os).cell? ⟨w.heap.size,6,none⟩=some (th):=cell_regrown (hr1.out.cell 6 (by rw [rq_len]; decide));have g7:∀ d os,(Sort.grow (redrawn W d) os).cell? ⟨w.heap.size,7,none⟩=some (.string ⟨r.branch.toArray⟩):=cell_regrown (hr1.out.cell 7 (by rw [rq_len]; decide));have g8:∀ d os,(Sort.grow (redrawn W d) os).cell? ⟨w.heap.size,8,none⟩=some (.string ⟨r.sentBy.toArray⟩):=cell_regrown (hr1.out.cell 8 (by rw [rq_len]; decide));have g9:∀ d os,(Sort.grow (redrawn W d) os).cell? ⟨w.heap.size,9,none⟩=some (.string ⟨r.frm.display.toArray⟩):=cell_regrown (hr1.out.cell 9 (by rw [rq_len]; decide));have g10:∀ d os,(Sort.grow (redrawn W d) os).cell? ⟨w.heap.size,10,none⟩=some (.string ⟨r.frm.uri.scheme.toArray⟩):=cell_regrown (hr1.out.cell 10 (by rw [rq_len]; decide));have g11:∀ d os,(Sort.grow (redrawn W d) os).cell? ⟨w.heap.size,11,none⟩=some (.string ⟨r.frm.uri.user.toArray⟩):=cell_regrown (hr1.out.cell 11 (by rw [rq_len]; decide));have g12:∀ d os,(Sort.grow (redrawn W d) os).cell? ⟨w.heap.size,12,none⟩=some (.string ⟨r.frm.uri.host.toArray⟩):=cell_regrown (hr1.out.cell 12 (by rw [rq_len]; decide));have g13:∀ d os,(Sort.grow (redrawn W d) os).cell? ⟨w.heap.size,13,none⟩=some (.int .i64 r.frm.uri.port):=cell_regrown (hr1.out.cell 13 (by rw [rq_len]; decide));have g14:∀ d os,(Sort.grow (redrawn W d) os).cell? ⟨w.heap.size,14,none⟩=some (fp):=cell_regrown (hr1.out.cell 14 (by rw [rq_len]; decide));have g15:∀ d os,(Sort.grow (redrawn W d) os).cell? ⟨w.heap.size,15,none⟩=some (fh):=cell_regrown (hr1.out.cell 15 (by rw [rq_len]; decide));have g16:∀ d os,(Sort.grow (redrawn W d) os).cell? ⟨w.heap.size,16,none⟩=some (fq):=cell_regrown (hr1.out.cell 16 (by rw [rq_len]; decide));have g17:∀ d os,(Sort.grow (redrawn W d) os).cell? ⟨w.heap.size,17,none⟩=some (.string ⟨r.too.display.toArray⟩):=cell_regrown (hr1.out.cell 17 (by rw [rq_len]; decide));have g18:∀ d os,(Sort.grow (redrawn W d) os).cell? ⟨w.heap.size,18,none⟩=some (.string ⟨r.too.uri.scheme.toArray⟩):=cell_regrown (hr1.out.cell 18 (by rw [rq_len]; decide));have g19:∀ d os,(Sort.grow (redrawn W d) os).cell? ⟨w.heap.size,19,none⟩=some (.string ⟨r.too.uri.user.toArray⟩):=cell_regrown (hr1.out.cell 19 (by rw [rq_len]; decide));have g20:∀ d os,(Sort.grow (redrawn W d) os).cell? ⟨w.heap.size,20,none⟩=some (.string ⟨r.too.uri.host.toArray⟩):=cell_regrown (hr1.out.cell 20 (by rw [rq_len]; decide));have g21:∀ d os,(Sort.grow (redrawn W d) os).cell? ⟨w.heap.size,21,none⟩=some (.int .i64 r.too.uri.port):=cell_regrown (hr1.out.cell 21 (by rw [rq_len]; decide));have g22:∀ d os,(Sort.grow (redrawn W d) os).cell? ⟨w.heap.size,22,none⟩=some (op):=cell_regrown (hr1.out.cell 22 (by rw [rq_len]; decide));have g23:∀ d os,(Sort.grow (redrawn W d) os).cell? ⟨w.heap.size,23,none⟩=some (oh):=cell_regrown (hr1.out.cell 23 (by rw [rq_len]; decide));have g24:∀ d os,(Sort.grow (redrawn W d) os).cell? ⟨w.heap.size,24,none⟩=some (oq):=cell_regrown (hr1.out.cell 24 (by rw [rq_len]; decide));have g25:∀ d os,(Sort.grow (redrawn W d) os).cell? ⟨w.heap.size,25,none⟩=some (.string ⟨r.fromTag.toArray⟩):=cell_regrown (hr1.out.cell 25 (by rw [rq_len]; decide));have g26:∀ d os,(Sort.grow (redrawn W d) os).cell? ⟨w.heap.size,26,none⟩=some (.string ⟨r.toTag.toArray⟩):=cell_regrown (hr1.out.cell 26 (by rw [rq_len]; decide));have g27:∀ d os,(Sort.grow (redrawn W d) os).cell? ⟨w.heap.size,27,none⟩=some (.string ⟨r.callID.toArray⟩):=cell_regrown (hr1.out.cell 27 (by rw [rq_len]; decide));have g28:∀ d os,(Sort.grow (redrawn W d) os).cell? ⟨w.heap.size,28,none⟩=some (.int .i64 r.seq):=cell_regrown (hr1.out.cell 28 (by rw [rq_len]; decide));have g29:∀ d os,(Sort.grow (redrawn W d) os).cell? ⟨w.heap.size,29,none⟩=some (.int .i64 r.expires):=cell_regrown (hr1.out.cell 29 (by rw [rq_len]; decide));have g30:∀ d os,(Sort.grow (redrawn W d) os).cell? ⟨w.heap.size,30,none⟩=some (.string ⟨r.event.name.toArray⟩):=cell_regrown (hr1.out.cell 30 (by rw [rq_len]; decide));have g31:∀ d os,(Sort.grow (redrawn W d) os).cell? ⟨w.heap.size,31,none⟩=some (eq):=cell_regrown (hr1.out.cell 31 (by rw [rq_len]; decide));have g32:∀ d os,(Sort.grow (redrawn W d) os).cell? ⟨w.heap.size,32,none⟩=some (co):=cell_regrown (hr1.out.cell 32 (by rw [rq_len]; decide));have g33:∀ d os,(Sort.grow (redrawn W d) os).cell? ⟨w.heap.size,33,none⟩=some (ro):=cell_regrown (hr1.out.cell 33 (by rw [rq_len]; decide));have g34:∀ d os,(Sort.grow (redrawn W d) os).cell? ⟨w.heap.size,34,none⟩=some (ac):=cell_regrown (hr1.out.cell 34 (by rw [rq_len]; decide));have g35:∀ d os,(Sort.grow (redrawn W d) os).cell? ⟨w.heap.size,35,none⟩=some (.string ⟨r.type.toArray⟩):=cell_regrown (hr1.out.cell 35 (by rw [rq_len]; decide));have g36:∀ d os,(Sort.grow (redrawn W d) os).cell? ⟨w.heap.size,36,none⟩=some (.string ⟨r.mtch.toArray⟩):=cell_regrown (hr1.out.cell 36 (by rw [rq_len]; decide));have g37:∀ d os,(Sort.grow (redrawn W d) os).cell? ⟨w.heap.size,37,none⟩=some (.string ⟨r.body.toArray⟩):=cell_regrown (hr1.out.cell 37 (by rw [rq_len]; decide));have k0:∀ d os,(Sort.grow (redrawn W d) os).cell? ⟨w.heap.size+1,0,none⟩=some (.string ⟨r.method.toArray⟩):=cell_regrown (hr2.out.cell 0 (by rw [rq_len]; decide));have k1:∀ d os,(Sort.grow (redrawn W d) os).cell? ⟨w.heap.size+1,1,none⟩=some (.string ⟨r.target.scheme.toArray⟩):=cell_regrown (hr2.out.cell 1 (by rw [rq_len]; decide));have k2:∀ d os,(Sort.grow (redrawn W d) os).cell? ⟨w.heap.size+1,2,none⟩=some (.string ⟨r.target.user.toArray⟩):=cell_regrown (hr2.out.cell 2 (by rw [rq_len]; decide));have k3:∀ d os,(Sort.grow (redrawn W d) os).cell? ⟨w.heap.size+1,3,none⟩=some (.string ⟨r.target.host.toArray⟩):=cell_regrown (hr2.out.cell 3 (by rw [rq_len]; decide));have k4:∀ d os,(Sort.grow (redrawn W d) os).cell? ⟨w.heap.size+1,4,none⟩=some (.int .i64 r.target.port):=cell_regrown (hr2.out.cell 4 (by rw [rq_len]; decide));have k5:∀ d os,(Sort.grow (redrawn W d) os).cell? ⟨w.heap.size+1,5,none⟩=some (tp'):=cell_regrown (hr2.out.cell 5 (by rw [rq_len]; decide));have k6:∀ d os,(Sort.grow (redrawn W d) os).cell? ⟨w.heap.size+1,6,none⟩=some (th'):=cell_regrown (hr2.out.cell 6 (by rw [rq_len]; decide));have k7:∀ d os,(Sort.grow (redrawn W d) os).cell? ⟨w.heap.size+1,7,none⟩=some (.string ⟨r.branch.toArray⟩):=cell_regrown (hr2.out.cell 7 (by rw [rq_len]; decide));have k8:∀ d os,(Sort.grow (redrawn W d) os).cell? ⟨w.heap.size+1,8,none⟩=some (.string ⟨r.sentBy.toArray⟩):=cell_regrown (hr2.out.cell 8 (by rw [rq_len]; decide));have k9:∀ d os,(Sort.grow (redrawn W d) os).cell? ⟨w.heap.size+1,9,none⟩=some (.string ⟨r.frm.display.toArray⟩):=cell_regrown (hr2.out.cell 9 (by rw [rq_len]; decide));have k10:∀ d os,(Sort.grow (redrawn W d) os).cell? ⟨w.heap.size+1,10,none⟩=some (.string ⟨r.frm.uri.scheme.toArray⟩):=cell_regrown (hr2.out.cell 10 (by rw [rq_len]; decide));have k11:∀ d os,(Sort.grow (redrawn W d) os).cell? ⟨w.heap.size+1,11,none⟩=some (.string ⟨r.frm.uri.user.toArray⟩):=cell_regrown (hr2.out.cell 11 (by rw [rq_len]; decide));have k12:∀ d os,(Sort.grow (redrawn W d) os).cell? ⟨w.heap.size+1,12,none⟩=some (.string ⟨r.frm.uri.host.toArray⟩):=cell_regrown (hr2.out.cell 12 (by rw [rq_len]; decide));have k13:∀ d os,(Sort.grow (redrawn W d) os).cell? ⟨w.heap.size+1,13,none⟩=some (.int .i64 r.frm.uri.port):=cell_regrown (hr2.out.cell 13 (by rw [rq_len]; decide));have k14:∀ d os,(Sort.grow (redrawn W d) os).cell? ⟨w.heap.size+1,14,none⟩=some (fp'):=cell_regrown (hr2.out.cell 14 (by rw [rq_len]; decide));have k15:∀ d os,(Sort.grow (redrawn W d) os).cell? ⟨w.heap.size+1,15,none⟩=some (fh'):=cell_regrown (hr2.out.cell 15 (by rw [rq_len]; decide));have k16:∀ d os,(Sort.grow (redrawn W d) os).cell? ⟨w.heap.size+1,16,none⟩=some (fq'):=cell_regrown (hr2.out.cell 16 (by rw [rq_len]; decide));have k17:∀ d os,(Sort.grow (redrawn W d) os).cell? ⟨w.heap.size+1,17,none⟩=some (.string ⟨r.too.display.toArray⟩):=cell_regrown (hr2.out.cell 17 (by rw [rq_len]; decide));have k18:∀ d os,(Sort.grow (redrawn W d) os).cell? ⟨w.heap.size+1,18,none⟩=some (.string ⟨r.too.uri.scheme.toArray⟩):=cell_regrown (hr2.out.cell 18 (by rw [rq_len]; decide));have k19:∀ d os,(Sort.grow (redrawn W d) os).cell? ⟨w.heap.size+1,19,none⟩=some (.string ⟨r.too.uri.user.toArray⟩):=cell_regrown (hr2.out.cell 19 (by rw [rq_len]; decide));have k20:∀ d os,(Sort.grow (redrawn W d) os).cell? ⟨w.heap.size+1,20,none⟩=some (.string ⟨r.too.uri.host.toArray⟩):=cell_regrown (hr2.out.cell 20 (by rw [rq_len]; decide));have k21:∀ d os,(Sort.grow (redrawn W d) os).cell? ⟨w.heap.size+1,21,none⟩=some (.int .i64 r.too.uri.port):=cell_regrown (hr2.out.cell 21 (by rw [rq_len]; decide));have k22:∀ d os,(Sort.grow (redrawn W d) os).cell? ⟨w.heap.size+1,22,none⟩=some (op'):=cell_regrown (hr2.out.cell 22 (by rw [rq_len]; decide));have k23:∀ d os,(Sort.grow (redrawn W d) os).cell? ⟨w.heap.size+1,23,none⟩=some (oh'):=cell_regrown (hr2.out.cell 23 (by rw [rq_len]; decide));have k24:∀ d os,(Sort.grow (redrawn W d) os).cell? ⟨w.heap.size+1,24,none⟩=some (oq'):=cell_regrown (hr2.out.cell 24 (by rw [rq_len]; decide));have k25:∀ d os,(Sort.grow (redrawn W d) os).cell? ⟨w.heap.size+1,25,none⟩=some (.string ⟨r.fromTag.toArray⟩):=cell_regrown (hr2.out.cell 25 (by rw [rq_len]; decide));have k26:∀ d os,(Sort.grow (redrawn W d) os).cell? ⟨w.heap.size+1,26,none⟩=some (.string ⟨r.toTag.toArray⟩):=cell_regrown (hr2.out.cell 26 (by rw [rq_len]; decide));have k27:∀ d os,(Sort.grow (redrawn W d) os).cell? ⟨w.heap.size+1,27,none⟩=some (.string ⟨r.callID.toArray⟩):=cell_regrown (hr2.out.cell 27 (by rw [rq_len]; decide));have k28:∀ d os,(Sort.grow (redrawn W d) os).cell? ⟨w.heap.size+1,28,none⟩=some (.int .i64 r.seq):=cell_regrown (hr2.out.cell 28 (by rw [rq_len]; decide));have k29:∀ d os,(Sort.grow (redrawn W d) os).cell? ⟨w.heap.size+1,29,none⟩=some (.int .i64 r.expires):=cell_regrown (hr2.out.cell 29 (by rw [rq_len]; decide));have k30:∀ d os,(Sort.grow (redrawn W d) os).cell? ⟨w.heap.size+1,30,none⟩=some (.string ⟨r.event.name.toArray⟩):=cell_regrown (hr2.out.cell 30 (by rw [rq_len]; decide));have k31:∀ d os,(Sort.grow (redrawn W d) os).cell? ⟨w.heap.size+1,31,none⟩=some (eq'):=cell_regrown (hr2.out.cell 31 (by rw [rq_len]; decide));have k32:∀ d os,(Sort.grow (redrawn W d) os).cell? ⟨w.heap.size+1,32,none⟩=some (co'):=cell_regrown (hr2.out.cell 32 (by rw [rq_len]; decide));have k33:∀ d os,(Sort.grow (redrawn W d) os).cell? ⟨w.heap.size+1,33,none⟩=some (ro'):=cell_regrown (hr2.out.cell 33 (by rw [rq_len]; decide));have k34:∀ d os,(Sort.grow (redrawn W d) os).cell? ⟨w.heap.size+1,34,none⟩=some (ac'):=cell_regrown (hr2.out.cell 34 (by rw [rq_len]; decide));have k35:∀ d os,(Sort.grow (redrawn W d) os).cell? ⟨w.heap.size+1,35,none⟩=some (.string ⟨r.type.toArray⟩):=cell_regrown (hr2.out.cell 35 (by rw [rq_len]; decide));have k36:∀ d os,(Sort.grow (redrawn W d) os).cell? ⟨w.heap.size+1,36,none⟩=some (.string ⟨r.mtch.toArray⟩):=cell_regrown (hr2.out.cell 36 (by rw [rq_len]; decide));have k37:∀ d os,(Sort.grow (redrawn W d) os).cell? ⟨w.heap.size+1,37,none⟩=some (.string ⟨r.body.toArray⟩):=cell_regrown (hr2.out.cell 37 (by rw [rq_len]; decide));have cU:=hid (fun (d:Nat) (os:Array Obj)=>Calls.regrown_of (usame_any r.target r.target tp th tp' th' (Sort.grow (redrawn W d) os) hs.t1 hs.t2 (h.tp.below (below_re10 hB.out d os)) (h.th.below (below_re10 hB.out d os)) (h'.tp.below (below_re10 hB.out d os)) (h'.th.below (below_re10 hB.out d os))));have cF:=hid (fun (d:Nat) (os:Array Obj)=>Calls.regrown_of (asame_any ⟨r.frm,fp,fh,fq⟩ ⟨r.frm,fp',fh',fq'⟩ (Sort.grow (redrawn W d) os) hs.f.2.1.2.2.2.1.1 hs.f.2.1.2.2.2.2.1 hs.f.2.2.1 (h.frm.below (below_re10 hB.out d os)) (h'.frm.below (below_re10 hB.out d os))));have cT:=hid (fun (d:Nat) (os:Array Obj)=>Calls.regrown_of (asame_any ⟨r.too,op,oh,oq⟩ ⟨r.too,op',oh',oq'⟩ (Sort.grow (redrawn W d) os) hs.o.2.1.2.2.2.1.1 hs.o.2.1.2.2.2.2.1 hs.o.2.2.1 (h.too.below (below_re10 hB.out d os)) (h'.too.below (below_re10 hB.out d os))));have cE:=hid (fun (d:Nat) (os:Array Obj)=>Calls.regrown_of (evsame_any ⟨r.event,eq⟩ ⟨r.event,eq'⟩ (Sort.grow (redrawn W d) os) hs.e (h.ev.below (below_re10 hB.out d os)) (h'.ev.below (below_re10 hB.out d os))));obtain ⟨cs,hc1,hc2⟩:=h.co;obtain ⟨cs',hc1',hc2'⟩:=h'.co;have cA:=hid (fun (d:Nat) (os:Array Obj)=>Calls.regrown_of (aall_any co co' cs cs' (Sort.grow (redrawn W d) os) (by have:=hs.c1; rw [← hc2,List.length_map] at this; exact this) (fun c hc=>hs.c2 c.a (by rw [← hc2]; exact List.mem_map_of_mem hc)) (hc2.trans hc2'.symm) (hc1.below (below_re10 hB.out d os)) (hc1'.below (below_re10 hB.out d os))));obtain ⟨B1,o1⟩:=h.ro;obtain ⟨B1',o1'⟩:=h'.ro;obtain ⟨B2,o2⟩:=h.ac;obtain ⟨B2',o2'⟩:=h'.ac;have cR:=hid (fun (d:Nat) (os:Array Obj)=>Calls.regrown_of (texts_any B1 B1' ro ro' r.routes (Sort.grow (redrawn W d) os) (o1.below (below_re10 hB.out d os)) (o1'.below (below_re10 hB.out d os)) hs.ro));have cC:=hid (fun (d:Nat) (os:Array Obj)=>Calls.regrown_of (texts_any B2 B2' ac ac' r.accept (Sort.grow (redrawn W d) os) (o2.below (below_re10 hB.out d os)) (o2'.below (below_re10 hB.out d os)) hs.ac));unfold uriV at cU;unfold adrV at cF cT;unfold evV at cE;simp only [decide_true] at cU cF cT cE;clear h h' hs hc1 hc1' hc2 hc2' o1 o1' o2 o2' hr1 hr2;simp only [List.append_eq,List.cons_append,List.nil_append]
 repeat (go_big_quiet_step (first | with_reducible exact cU.out _ _ | with_reducible exact cF.out _ _ | with_reducible exact cT.out _ _ | with_reducible exact cE.out _ _ | with_reducible exact cA.out _ _ | with_reducible exact cR.out _ _ | with_reducible exact cC.out _ _))
 refine wpQuiet_nil (HT.out _ ?_)
 clear HT cU cF cT cE cA cR cC;clear g0 g1 g2 g3 g4 g5 g6 g7 g8 g9 g10 g11 g12 g13 g14 g15 g16 g17 g18 g19 g20 g21 g22 g23 g24 g25 g26 g27 g28 g29 g30 g31 g32 g33 g34 g35 g36 g37;clear k0 k1 k2 k3 k4 k5 k6 k7 k8 k9 k10 k11 k12 k13 k14 k15 k16 k17 k18 k19 k20 k21 k22 k23 k24 k25 k26 k27 k28 k29 k30 k31 k32 k33 k34 k35 k36 k37;intro _ hw';obtain ⟨⟨dq,osq⟩,hw''⟩:=hw';subst hw'';have hb1:=below_re10 hB.out dq osq;go_wp2;go_ret;exact ⟨rfl,hb1⟩
theorem small_noR:SmallR noR:=⟨by simp [noR,noU],by simp [noR,noU],smallA_none,smallA_none,by simp [noR,noE],by simp [noR],fun a ha=>by simp [noR] at ha,by simp [noR],by simp [noR]⟩
theorem small_base (m:Ms):SmallR (baseV m).1:=by
 by_cases h:(baseV m).2=0
 ·rw [(base_ok h).1];exact ⟨by simp [baseR,noU],by simp [baseR,noU],adr_small,adr_small,by simp [baseR,noE],by simp [baseR],fun a ha=>by simp [baseR] at ha,by simp [baseR],by simp [baseR]⟩
 ·have:(baseV m).1=noR:=by
   unfold baseV at h ⊢
   repeat' split
   all_goals first | rfl | skip
   all_goals simp_all
  rw [this]; exact small_noR
end Go.Proofs.YtiogedceommcoaaGreatDoor
