/-
  Params, RXL, NdFr, RX1, RX4, RX8, RX5, RXS, WinfoL, RX6.
-/
import Derived.Test.YtdbalahkmeknaaaGreatDoorPW17
import Derived.Test.YtdbalahkmeknaaaGreatDoorPW10
set_option linter.unusedVariables false
set_option linter.unusedSimpArgs false
set_option maxRecDepth 20000
namespace Go.Proofs.YtdbalahkmeknaaaGreatDoor
open Go.RowKit Sc
theorem stoodPar:Tryz.prog.stoodInHeld 70=false:=by kernel_rfl
theorem guardPar:Tryz.prog.eqGuardType Tryz.prog.depth 70=false:=by kernel_rfl
theorem fieldsPar:Tryz.prog.underlying 70=some (.struct (Tryz.prog.fieldsOf 70)):=by kernel_rfl
theorem listPar : (Tryz.prog.fieldsOf 70).toList.map (fun f => (f.type, f.offset, f.name == "_")) = [(9, 0, false), (9, 1, false), (4, 2, false)] := by kernel_rfl
theorem plainStr:Tryz.prog.plainKey 9=true:=by kernel_rfl
theorem plainBool:Tryz.prog.plainKey 4=true:=by kernel_rfl
theorem neqPar (x y x' y':ByteArray) (b b':Bool) (u:World):(binOp .neq 70 (.agg #[.string x,.string y,.bool b]) (.agg #[.string x',.string y',.bool b'])).run Tryz.prog u=.ok (.bool (!(x.toList==x'.toList && (y.toList==y'.toList && b==b')))) u:=by
 rw [run_neq_struct,run_equalIn_agg _ 9999 _ _ _ fieldsPar stoodPar];have h:=listPar;generalize (Tryz.prog.fieldsOf 70).toList=fs at h ⊢;have hlen:fs.length=3:=by have:=congrArg List.length h; simpa using this
 match fs,hlen,h with
 | [f0,f1,f2],_,h =>
  simp only [List.map_cons,List.map_nil,List.cons.injEq,Prod.mk.injEq,and_true,beq_eq_false_iff_ne] at h;obtain ⟨⟨t0,o0,n0⟩,⟨t1,o1,n1⟩,t2,o2,n2⟩:=h;have p0:∀ (X Y:ByteArray) (B:Bool) (v:World),(part 9 #[.string X,.string Y,.bool B] 0).run Tryz.prog v=.ok (.string X) v:=fun X Y B v=>run_part_plain v plainStr rfl;have p1:∀ (X Y:ByteArray) (B:Bool) (v:World),(part 9 #[.string X,.string Y,.bool B] 1).run Tryz.prog v=.ok (.string Y) v:=fun X Y B v=>run_part_plain v plainStr rfl;have p2:∀ (X Y:ByteArray) (B:Bool) (v:World),(part 4 #[.string X,.string Y,.bool B] 2).run Tryz.prog v=.ok (.bool B) v:=fun X Y B v=>run_part_plain v plainBool rfl;have q1:∀ (X Y:ByteArray) (v:World),(Op.equalIn 9999 9 (.string X) (.string Y)).run Tryz.prog v=.ok (X.toList==Y.toList) v:=fun X Y v=>run_equalIn_string v 9998 _ X Y Tryz.underlying9;have q2:∀ (X Y:Bool) (v:World),(Op.equalIn 9999 4 (.bool X) (.bool Y)).run Tryz.prog v=.ok (X==Y) v:=fun X Y v=>run_equalIn_bool' v 9998 _ X Y Tryz.underlying4;simp only [Op.eqFields,t0,t1,t2,o0,o1,o2,Sem.run_bind,Sem.run_ite,if_pos n0,if_pos n1,if_pos n2,p0,p1,p2,q1,q2,Result.andThen_ok]
  cases h0:(x.toList==x'.toList) <;> cases h1:(y.toList==y'.toList) <;> cases h2:(b==b') <;> rfl
theorem neqPar_is (p q:Par) (u:World):(binOp .neq 70 (.agg #[.string ⟨p.name.toArray⟩,.string ⟨p.value.toArray⟩,.bool p.has]) (.agg #[.string ⟨q.name.toArray⟩,.string ⟨q.value.toArray⟩,.bool q.has])).run Tryz.prog u=.ok (.bool (decide (p ≠ q))) u:=by
 rw [neqPar]
 congr 2
 obtain ⟨a,b,c⟩:=p;obtain ⟨a',b',c'⟩:=q;rw [Bool.eq_iff_iff]
 simp [ByteArray.toList_eq]
set_option maxHeartbeats 1000000 in
theorem lists_len (v1 v2:Value) (ps qs:List Par) (w:World) (h1:ParsAt w v1 ps) (h2:ParsAt w v2 qs) (hne:¬ ps.length=qs.length) :
  Calls Tryz.prog 65 #[v1,v2] w fun e w'=>e=.returned (.bool (decide (ps=qs)))∧∃ q,w'=w.drewN q:=by
 have hd:Hid (decide (ps=qs)=false):=show _=_ by simp; intro e; exact hne (by rw [e])
 obtain ⟨a1,c1,rfl⟩:=h1.form;obtain ⟨a2,c2,rfl⟩:=h2.form;have hn:((ps.length:Int) != (qs.length:Int))=true:=by simp only [bne_iff_ne,ne_eq]; omega
 clear h1 h2 hne
 go_enter Tryz.func65,Tryz.ntmps65
 go_wp2;go_ret;exact ⟨ret_bool hd.out.symm,0,rfl⟩
set_option maxHeartbeats 1000000 in
theorem lists_row (a b:Addr) (c1 c2:Nat) (ps qs:List Par) (w:World) (hlen:ps.length=qs.length) (hz:ps.length≤140737488355328) (h1:∀ k (hk:k < ps.length),ParAt w a k ps[k]) (h2:∀ k (hk:k < qs.length),ParAt w b k qs[k]) :
  Calls Tryz.prog 65 #[.slice (some a) ps.length c1,.slice (some b) qs.length c2] w fun e w'=>e=.returned (.bool (decide (ps=qs)))∧∃ q,w'=w.drewN q:=by
 have H1:Hid _:=h1; clear h1
 have H2:Hid _:=h2; clear h2
 obtain ⟨n,hn⟩:∃ n,n=ps.length:=⟨_,rfl⟩
 have hn2:qs.length=n:=by omega
 rw [← hn,hn2];have HN:Hid _:=hn; have HN2:Hid _:=hn2
 have hnz:n≤140737488355328:=by omega
 clear hlen hz hn hn2
 go_enter Tryz.func65,Tryz.ntmps65
 go_wp2
 go_loopw [5] (fun i wr=>∃ k q:Nat,k≤n∧i=.int .i64 k∧wr=w.drewN q∧Hid (ps.take k=qs.take k)) (fun i _=>n - (intOf i).toNat)
 case atStart=>exact ⟨0,0,by omega,rfl,rfl,rfl⟩
 case round =>
  obtain ⟨k,q,hk,rfl,rfl,heq⟩:=hrel;by_cases hlt:k < n
  ·have k1:k < ps.length:=by have:=HN.out; omega
   have k2:k < qs.length:=by have:=HN2.out; omega
   obtain ⟨x0,x1,x2⟩:=H1.out k k1;obtain ⟨y0,y1,y2⟩:=H2.out k k2;have hg:=guardPar;by_cases hpq:ps[k]=qs[k]
   ·have hcmp:∀ u,(binOp .neq 70 (.agg #[.string ⟨ps[k].name.toArray⟩,.string ⟨ps[k].value.toArray⟩,.bool ps[k].has]) (.agg #[.string ⟨qs[k].name.toArray⟩,.string ⟨qs[k].value.toArray⟩,.bool qs[k].has])).run Tryz.prog u=.ok (.bool false) u:=fun u=>by
     rw [neqPar_is]; simp [hpq]
    have hnx:Hid (ps.take (k+1)=qs.take (k+1)):=show _=_ by
     rw [List.take_succ_eq_append_getElem k1,List.take_succ_eq_append_getElem k2,heq.out,hpq]
    clear hpq heq;go_wp2
    go_quiet (fail)
    go_wp2;go_roundw
    case rel=>exact ⟨k+1,q+nq,by omega,by go_num,rfl,hnx⟩
    case measure=>simp [intOf]; omega
   ·have hcmp:∀ u,(binOp .neq 70 (.agg #[.string ⟨ps[k].name.toArray⟩,.string ⟨ps[k].value.toArray⟩,.bool ps[k].has]) (.agg #[.string ⟨qs[k].name.toArray⟩,.string ⟨qs[k].value.toArray⟩,.bool qs[k].has])).run Tryz.prog u=.ok (.bool true) u:=fun u=>by
     rw [neqPar_is]; simp [hpq]
    have hnx:Hid (decide (ps=qs)=false):=show _=_ by
     simp only [decide_eq_false_iff_not];intro e;subst e;exact hpq rfl
    clear hpq heq;go_wp2
    go_quiet (fail)
    go_wp2;go_ret;exact ⟨ret_bool hnx.out.symm,q+nq,by rw [World.drewN_drewN]⟩
  ·have hd:Hid (decide (ps=qs)=true):=show _=_ by
    have h:=heq.out;have e1:=HN.out;have e2:=HN2.out;rw [List.take_of_length_le (by omega),List.take_of_length_le (by omega)] at h
    simpa using h
   clear heq;go_wp2;go_ret;exact ⟨ret_bool hd.out.symm,q,rfl⟩
set_option maxHeartbeats 400000 in
theorem lists_nil (a b:Option Addr) (c1 c2:Nat) (w:World) :
  Calls Tryz.prog 65 #[.slice a 0 c1,.slice b 0 c2] w fun e w'=>e=.returned (.bool true)∧w'=w:=by
 go_enter Tryz.func65,Tryz.ntmps65
 go_wp2
 go_loop [5] (fun i=>i=.int .i64 0) (fun i=>0)
 case atStart=>rfl
 case round =>
  subst hrel;go_wp2;go_ret;exact ⟨rfl,rfl⟩
theorem lists_any (v1 v2:Value) (ps qs:List Par) (w:World) (hz:ps.length≤140737488355328) (h1:ParsAt w v1 ps) (h2:ParsAt w v2 qs) :
  Calls Tryz.prog 65 #[v1,v2] w fun e w'=>e=.returned (.bool (decide (ps=qs)))∧∃ q,w'=w.drewN q:=by
 by_cases hlen:ps.length=qs.length
 ·by_cases h0:ps=[]
  ·have hq:qs=[]:=List.eq_nil_of_length_eq_zero (by rw [← hlen,h0]; rfl);obtain ⟨a1,c1,rfl⟩:=h1.form;obtain ⟨a2,c2,rfl⟩:=h2.form;subst h0 hq;refine (lists_nil a1 a2 c1 c2 w).mono ?_
   rintro e w' ⟨rfl,rfl⟩;exact ⟨rfl,0,rfl⟩
  ·have hq:qs ≠ []:=by intro e; apply h0; exact List.eq_nil_of_length_eq_zero (by rw [hlen,e]; rfl)
   rcases h1 with ⟨_,e⟩ | ⟨a,c1,rfl,r1⟩
   ·exact absurd e h0
   ·rcases h2 with ⟨_,e⟩ | ⟨b,c2,rfl,r2⟩
    ·exact absurd e hq
    ·exact lists_row a b c1 c2 ps qs w hlen hz (fun k hk=>(r1 k hk).2) (fun k hk=>(r2 k hk).2)
 ·exact lists_len v1 v2 ps qs w h1 h2 hlen
section
variable {p : UInt8 → Bool} {l : List UInt8} {k : Nat}
theorem run_step (hk:k < l.length) (h:p l[k]=true):runL p l (k+1)=runL p l k:=by
 unfold runL;rw [List.drop_eq_getElem_cons hk,List.takeWhile_cons,if_pos h,List.length_cons]; omega
theorem run_stop (hk:k < l.length) (h:p l[k]=false):runL p l k=k:=by
 unfold runL;rw [List.drop_eq_getElem_cons hk,List.takeWhile_cons,if_neg (by simp [h])]; simp
theorem run_end (hk:l.length≤k):runL p l k=k:=by
 unfold runL;rw [List.drop_eq_nil_of_le hk]; simp
theorem run_at (hk:k≤l.length):runL p l k < l.length → ∃ c r,(l.drop k).dropWhile p=c :: r∧p c=false:=fun h=>by
 have e:=run_drop (p:=p) (l:=l) (k:=k);rw [List.drop_eq_getElem_cons h] at e;refine ⟨_,_,e.symm,?_⟩
 have h2:=List.head?_dropWhile_not p (l.drop k);rw [← e,List.head?_cons] at h2
 simpa using h2
end
def isAt (l:List UInt8) (k:Nat) (t:List UInt8):Bool:=decide ((l.drop k).take t.length=t)
theorem isAt_long {l t:List UInt8} {k:Nat} (h:l.length < k+t.length) (ht:t ≠ []∨k≤l.length):isAt l k t=false:=by
 unfold isAt;rw [decide_eq_false_iff_not];intro e
 have:=congrArg List.length e
 rw [List.length_take,List.length_drop] at this
 rcases ht with ht | ht
 ·have:1≤t.length:=by cases t with | nil=>exact absurd rfl ht | cons a b=>simp
  omega
 ·omega
theorem isAt_one {l:List UInt8} {k:Nat} {c:UInt8}:isAt l k [c]=decide (l[k]? = some c):=by
 unfold isAt
 congr 1
 rw [List.length_cons,List.length_nil,eq_iff_iff];by_cases h:k < l.length
 ·rw [List.drop_eq_getElem_cons h,List.getElem?_eq_getElem h,Nat.zero_add,List.take_succ_cons,List.take_zero]; simp
 ·rw [List.drop_eq_nil_of_le (by omega),List.getElem?_eq_none (by omega)]; simp
theorem readX_at {l:List UInt8} {k:Nat} (hk:k < l.length) (h:l[k] ≠ 38):readX (l.drop k)=(readX (l.drop (k+1))).map (l[k] :: ·):=by
 rw [List.drop_eq_getElem_cons hk]; exact read_cons h
theorem readX_ent {l:List UInt8} {k n:Nat} {c:UInt8} (hk:k < l.length) (h:l[k]=38) (he:entX (l.drop (k+1))=some (c,n)):readX (l.drop k)=(readX (l.drop (k+1+n))).map (c :: ·):=by
 rw [List.drop_eq_getElem_cons hk,h];exact read_ent he (by rw [List.drop_drop])
def entK:List (List UInt8 × UInt8):=[([97,109,112,59],38),([108,116,59],60),([103,116,59],62),([113,117,111,116,59],34),([97,112,111,115,59],39)]
def foundK (r:List UInt8):Nat → Int
 | 0=>-1
 | k+1=>match entK[k]? with
  | some e=>if r.take e.1.length=e.1 then (k:Int) else foundK r k
  | none=>foundK r k
theorem found_ent (r:List UInt8):(foundK r 5=-1∧entX r=none)∨∃ (k:Nat) (hk:k < entK.length),foundK r 5=(k:Int)∧entX r=some (entK[k].2,entK[k].1.length):=by
 by_cases h0:r.take 4=[97,109,112,59]
 ·have n1:¬ r.take 3=[108,116,59]:=fun e=>by have:=congrArg (List.take 1) h0; have:=congrArg (List.take 1) e; simp [List.take_take] at *; simp_all
  have n2:¬ r.take 3=[103,116,59]:=fun e=>by have:=congrArg (List.take 1) h0; have:=congrArg (List.take 1) e; simp [List.take_take] at *; simp_all
  have n3:¬ r.take 5=[113,117,111,116,59]:=fun e=>by have:=congrArg (List.take 1) h0; have:=congrArg (List.take 1) e; simp [List.take_take] at *; simp_all
  have n4:¬ r.take 5=[97,112,111,115,59]:=fun e=>by have:=congrArg (List.take 2) h0; have:=congrArg (List.take 2) e; simp [List.take_take] at *; simp_all
  exact .inr ⟨0,by decide,by simp [foundK,entK,h0,n1,n2,n3,n4],by simp [entX,entK,h0]⟩
 ·by_cases h1:r.take 3=[108,116,59]
  ·have n2:¬ r.take 3=[103,116,59]:=fun e=>by rw [h1] at e; simp at e
   have n3:¬ r.take 5=[113,117,111,116,59]:=fun e=>by have:=congrArg (List.take 1) h1; have:=congrArg (List.take 1) e; simp [List.take_take] at *; simp_all
   have n4:¬ r.take 5=[97,112,111,115,59]:=fun e=>by have:=congrArg (List.take 1) h1; have:=congrArg (List.take 1) e; simp [List.take_take] at *; simp_all
   exact .inr ⟨1,by decide,by simp [foundK,entK,h0,h1,n2,n3,n4],by simp [entX,entK,h0,h1]⟩
  ·by_cases h2:r.take 3=[103,116,59]
   ·have n3:¬ r.take 5=[113,117,111,116,59]:=fun e=>by have:=congrArg (List.take 1) h2; have:=congrArg (List.take 1) e; simp [List.take_take] at *; simp_all
    have n4:¬ r.take 5=[97,112,111,115,59]:=fun e=>by have:=congrArg (List.take 1) h2; have:=congrArg (List.take 1) e; simp [List.take_take] at *; simp_all
    exact .inr ⟨2,by decide,by simp [foundK,entK,h0,h1,h2,n3,n4],by simp [entX,entK,h0,h1,h2]⟩
   ·by_cases h3:r.take 5=[113,117,111,116,59]
    ·have n4:¬ r.take 5=[97,112,111,115,59]:=fun e=>by rw [h3] at e; simp at e
     exact .inr ⟨3,by decide,by simp [foundK,entK,h0,h1,h2,h3,n4],by simp [entX,entK,h0,h1,h2,h3]⟩
    ·by_cases h4:r.take 5=[97,112,111,115,59]
     ·exact .inr ⟨4,by decide,by simp [foundK,entK,h0,h1,h2,h3,h4],by simp [entX,entK,h0,h1,h2,h3,h4]⟩
     ·exact .inl ⟨by simp [foundK,entK,h0,h1,h2,h3,h4],by simp [entX,h0,h1,h2,h3,h4]⟩
theorem FrN.none {v v':Value} {w w':World} (h:FrN v w v' w'):FrN v w (.slice none 0 0) w':=⟨h.os,h.tape,h.output,h.size,h.block,fun g hg=>by cases hg⟩
set_option maxHeartbeats 1000000 in
set_option maxRecDepth 100000 in
theorem rover_any (s:ByteArray) (a:Nat) (w:World) (hs:s.size≤140737488355328) (ha:a≤s.size) :
  Calls Tryz.prog 61 #[.string s,.int .i64 a] w fun e w'=>e=.returned (.int .i64 (runL xblk s.data.toList a))∧w'=w:=by
 have hl:=len_data s
 go_enter Tryz.func61,Tryz.ntmps61
 go_wp2
 go_loop [1] (fun i=>∃ k:Nat,k≤s.size∧i=.int .i64 k∧Hid (runL xblk s.data.toList k=runL xblk s.data.toList a)) (fun i=>s.size - (intOf i).toNat)
 case atStart=>exact ⟨a,ha,rfl,show _=_ from rfl⟩
 case round =>
  obtain ⟨k,hk,rfl,hr⟩:=hrel;by_cases hlt:k < s.size
  ·cases hc:xblk s[k] with
   | true =>
    have KH:=hid (fun w'=>hasX_of hc w')
    have hr2:Hid (runL xblk s.data.toList (k+1)=runL xblk s.data.toList a):=show _=_ by
     rw [run_step (by omega) (by rw [getB s k hlt]; exact hc)]; exact hr.out
    clear hr hc hl;go_wp2_with (go_at_call 92; refine (KH.out _).mono ?_; rintro e w' ⟨rfl,rfl⟩)
    go_round
    case rel=>exact ⟨k+1,by omega,by go_num,hr2⟩
    case measure=>simp [intOf]; omega
   | false =>
    have KH:=hid (fun w'=>hasX_of hc w')
    have hr2:Hid (k=runL xblk s.data.toList a):=show _=_ by
     rw [← hr.out]; exact (run_stop (by omega) (by rw [getB s k hlt]; exact hc)).symm
    clear hr hc hl;go_wp2_with (go_at_call 92; refine (KH.out _).mono ?_; rintro e w' ⟨rfl,rfl⟩)
    go_ret;exact ⟨ret_int (by rw [← hr2.out]),rfl⟩
  ·have hr2:Hid (k=runL xblk s.data.toList a):=show _=_ by
    rw [← hr.out]; exact (run_end (by omega)).symm
   clear hr hl;go_wp2;go_ret;exact ⟨ret_int (by rw [← hr2.out]),rfl⟩
set_option maxHeartbeats 1000000 in
set_option maxRecDepth 100000 in
theorem rupto_any (s t:ByteArray) (a:Nat) (w:World) (hs:s.size≤140737488355328) (ht:t.size≤140737488355328) (ha:a≤s.size) :
  Calls Tryz.prog 59 #[.string s,.int .i64 a,.string t] w fun e w'=>e=.returned (.int .i64 (runL (fun b=>!hasL b t.data.toList) s.data.toList a))∧w'=w:=by
 have hl:=len_data s;generalize hp:(fun b=>!hasL b t.data.toList)=p;have hpb:∀ b,p b=!hasL b t.data.toList:=fun b=>by rw [← hp]
 clear hp
 go_enter Tryz.func59,Tryz.ntmps59
 go_wp2
 go_loop [1] (fun i=>∃ k:Nat,k≤s.size∧i=.int .i64 k∧Hid (runL p s.data.toList k=runL p s.data.toList a)) (fun i=>s.size - (intOf i).toNat)
 case atStart=>exact ⟨a,ha,rfl,show _=_ from rfl⟩
 case round =>
  obtain ⟨k,hk,rfl,hr⟩:=hrel;by_cases hlt:k < s.size
  ·cases hc:hasL s[k] t.data.toList with
   | false =>
    have KH:=hid (fun w'=>has_of hc ht w')
    have hr2:Hid (runL p s.data.toList (k+1)=runL p s.data.toList a):=show _=_ by
     rw [run_step (by omega) (by rw [getB s k hlt,hpb,hc]; rfl)]; exact hr.out
    clear hr hc hl hpb;go_wp2_with (go_at_call 92; refine (KH.out _).mono ?_; rintro e w' ⟨rfl,rfl⟩)
    go_round
    case rel=>exact ⟨k+1,by omega,by go_num,hr2⟩
    case measure=>simp [intOf]; omega
   | true =>
    have KH:=hid (fun w'=>has_of hc ht w')
    have hr2:Hid (k=runL p s.data.toList a):=show _=_ by
     rw [← hr.out]; exact (run_stop (by omega) (by rw [getB s k hlt,hpb,hc]; rfl)).symm
    clear hr hc hl hpb;go_wp2_with (go_at_call 92; refine (KH.out _).mono ?_; rintro e w' ⟨rfl,rfl⟩)
    go_ret;exact ⟨ret_int (by rw [← hr2.out]),rfl⟩
  ·have hr2:Hid (k=runL p s.data.toList a):=show _=_ by
    rw [← hr.out]; exact (run_end (by omega)).symm
   clear hr hl hpb;go_wp2;go_ret;exact ⟨ret_int (by rw [← hr2.out]),rfl⟩
theorem isAt_ext (s t:ByteArray) (k:Nat):((s.extract k (k+t.size)).toList==t.toList)=isAt s.data.toList k t.data.toList:=by
 rw [ext_list,ByteArray.toList_eq,ByteArray.toList_eq,Nat.add_sub_cancel_left];unfold isAt;rw [len_data];rw [Bool.eq_iff_iff]; simp
set_option maxHeartbeats 1000000 in
set_option maxRecDepth 100000 in
theorem ris_any (s t:ByteArray) (k:Nat) (w:World) (hs:s.size≤140737488355328) (ht:t.size≤140737488355328) (hk:k≤140737488355328) (hn:t.size ≠ 0∨k≤s.size) :
  Calls Tryz.prog 58 #[.string s,.int .i64 k,.string t] w fun e w'=>e=.returned (.bool (isAt s.data.toList k t.data.toList))∧w'=w:=by
 have hw1:IntKind.i64.wrap ((k:Int)+(t.size:Int))=((k+t.size:Nat):Int):=by rw [IntKind.wrap_i64]; omega
 have hl:=len_data s;have hl2:=len_data t;by_cases h:k+t.size≤s.size
 ·have HE:=hid (isAt_ext s t k);generalize isAt s.data.toList k t.data.toList=b at HE ⊢;clear hl hl2 hn;have h1:((k+t.size:Nat):Int)≤(s.size:Int):=by omega
  cases b with
  | true =>
   have he:=HE.out;clear HE
   go_enter Tryz.func58,Tryz.ntmps58
   go_wp2;go_ret;exact ⟨rfl,rfl⟩
  | false =>
   have he:=HE.out;clear HE
   go_enter Tryz.func58,Tryz.ntmps58
   go_wp2;go_ret;exact ⟨rfl,rfl⟩
 ·have hv:Hid (isAt s.data.toList k t.data.toList=false):=show _=_ from isAt_long (by omega) (by
   rcases hn with hn | hn
   ·exact .inl (fun e=>by rw [e] at hl2; simp at hl2; omega)
   ·exact .inr (by omega))
  clear hl hl2 hn;have h1:¬ ((k+t.size:Nat):Int)≤(s.size:Int):=by omega
  go_enter Tryz.func58,Tryz.ntmps58
  go_wp2;go_ret;exact ⟨ret_bool hv.out.symm,rfl⟩
def namesV:Array Value:=#[.string ⟨#[97,109,112,59]⟩,.string ⟨#[108,116,59]⟩,.string ⟨#[103,116,59]⟩,.string ⟨#[113,117,111,116,59]⟩,.string ⟨#[97,112,111,115,59]⟩]
theorem found_step (s nb:ByteArray) (k j:Nat) (hj:j < 5) (hn:entK[j]?.map (·.1)=some nb.data.toList):foundK (s.data.toList.drop (k+1)) (j+1)=if isAt s.data.toList (k+1) nb.data.toList then (j:Int) else foundK (s.data.toList.drop (k+1)) j:=by
 cases he:entK[j]? with
 | none=>rw [he] at hn; cases hn
 | some e =>
  rw [he] at hn;have hn2:e.1=nb.data.toList:=by simpa using hn
  rw [foundK,he]
  simp only
  unfold isAt;rw [hn2];by_cases h:((s.data.toList.drop (k+1)).take nb.data.toList.length=nb.data.toList) <;> simp [h]
def nameB (j:Nat):ByteArray:=⟨((entK.getD j ([],0)).1).toArray⟩
theorem nameB_at {j:Nat} (hj:j < 5):entK[j]?.map (·.1)=some (nameB j).data.toList∧(nameB j).size≤5∧1≤(nameB j).size:=by
 match j,hj with
 | 0,_=>decide +kernel
 | 1,_=>decide +kernel
 | 2,_=>decide +kernel
 | 3,_=>decide +kernel
 | 4,_=>decide +kernel
 | k+5,h=>omega
theorem names_new (w:World) {j:Nat} (hj:j < 5):(w.alloc (.cells namesV 9)).cell? ⟨w.heap.size,j,none⟩=some (.string (nameB j)):=by
 rw [World.cell?_alloc_new]
 match j,hj with
 | 0,_=>rfl
 | 1,_=>rfl
 | 2,_=>rfl
 | 3,_=>rfl
 | 4,_=>rfl
 | k+5,h=>omega
theorem signs_at {j:Nat} (hj:j < entK.length):(⟨#[38,60,62,34,39]⟩:ByteArray).extract j (j+1)=⟨#[entK[j].2]⟩∧(nameB j).size=entK[j].1.length:=by
 match j,hj with
 | 0,_=>exact ⟨rfl,rfl⟩
 | 1,_=>exact ⟨rfl,rfl⟩
 | 2,_=>exact ⟨rfl,rfl⟩
 | 3,_=>exact ⟨rfl,rfl⟩
 | 4,_=>exact ⟨rfl,rfl⟩
 | k+5,h=>exact absurd h (by simp [entK])
def readR (l:List UInt8):Value:=match readX l with
 | some v=>.tuple #[.string ⟨v.toArray⟩,.bool true]
 | none=>.tuple #[.string ⟨#[]⟩,.bool false]
theorem readR_none {l:List UInt8} (h:readX l=none):Value.tuple #[.string ⟨#[]⟩,.bool false]=readR l:=by unfold readR; rw [h]
theorem readR_some {l v:List UInt8} (h:readX l=some v):Value.tuple #[.string ⟨v.toArray⟩,.bool true]=readR l:=by unfold readR; rw [h]
theorem ent_long {r:List UInt8} {c:UInt8} {n:Nat} (h:entX r=some (c,n)):n≤r.length:=by
 unfold entX at h
 have key:∀ (m:Nat) (t:List UInt8),r.take m=t → t.length=m → m≤r.length:=fun m t e ht=>by
  have:=congrArg List.length e
  rw [List.length_take,ht] at this; omega
 split at h
 ·next e=>have:=key 4 _ e rfl; simp at h; omega
 split at h
 ·next e=>have:=key 3 _ e rfl; simp at h; omega
 split at h
 ·next e=>have:=key 3 _ e rfl; simp at h; omega
 split at h
 ·next e=>have:=key 5 _ e rfl; simp at h; omega
 split at h
 ·next e=>have:=key 5 _ e rfl; simp at h; omega
 ·cases h
def RdAt (l:List UInt8) (k:Nat) (a:List UInt8):Prop:=readX l=(readX (l.drop k)).map (a++·)∧a.length≤k
theorem rd_zero (l:List UInt8):RdAt l 0 []:=⟨by simp,Nat.le_refl _⟩
theorem rd_plain {l a:List UInt8} {k:Nat} (h:RdAt l k a) (hk:k < l.length) (hc:l[k] ≠ 38):RdAt l (k+1) (a++[l[k]]):=by
 refine ⟨?_,by have:=h.2; simp; omega⟩
 rw [h.1,readX_at hk hc,Option.map_map]
 congr 1; funext x; simp
theorem rd_end {l a:List UInt8} {k:Nat} (h:RdAt l k a) (hk:l.length≤k):readX l=some a:=by
 rw [h.1,List.drop_eq_nil_of_le hk]
 simp [readX,readG]
theorem rd_none {l a:List UInt8} {k:Nat} (h:RdAt l k a) (hk:k < l.length) (hc:l[k]=38) (he:entX (l.drop (k+1))=none):readX l=none:=by
 rw [h.1,readX_none hk hc he]; rfl
theorem rd_ent {l a:List UInt8} {k n:Nat} {c:UInt8} (h:RdAt l k a) (hk:k < l.length) (hc:l[k]=38) (he:entX (l.drop (k+1))=some (c,n)):RdAt l (k+1+n) (a++[c]):=by
 refine ⟨?_,by have:=h.2; simp; omega⟩
 rw [h.1,readX_ent hk hc he,Option.map_map]
 congr 1; funext x; simp
set_option maxHeartbeats 4000000 in
set_option maxRecDepth 100000 in
theorem rread_any (s:ByteArray) (w:World) (hs:s.size≤1048576) :
  Calls Tryz.prog 128 #[.string s] w fun e w'=>e=.returned (readR s.data.toList)∧Below w.heap.size w w':=by
 have hN:=hid (fun j (hj:j < 5)=>names_new w hj);have hbn:Below w.heap.size w (w.alloc (.cells namesV 9)):=(Below.refl _ w).alloc (Nat.le_refl _) _;unfold namesV at hN hbn;have hl:=len_data s
 have HP:Hid (∀ (k:Nat) (a:List UInt8) (h:k < s.size),RdAt s.data.toList k a → s[k] ≠ 38 → RdAt s.data.toList (k+1) (a++[s[k]])):=fun k a h hr hc=>by
  have:=rd_plain hr (by omega) (by rw [getB s k h]; exact hc)
  rw [getB s k h] at this; exact this
 have HN0:Hid (∀ (k:Nat) (a:List UInt8) (h:k < s.size),RdAt s.data.toList k a → s[k]=38 → entX (s.data.toList.drop (k+1))=none → readX s.data.toList=none):=fun k a h hr hc he =>
  rd_none hr (by omega) (by rw [getB s k h]; exact hc) he
 have HEn:Hid (∀ (k n:Nat) (c:UInt8) (a:List UInt8) (h:k < s.size),RdAt s.data.toList k a → s[k]=38 → entX (s.data.toList.drop (k+1))=some (c,n) → RdAt s.data.toList (k+1+n) (a++[c])∧k+1+n≤s.size):=fun k n c a h hr hc he =>
  ⟨rd_ent hr (by omega) (by rw [getB s k h]; exact hc) he,by have:=ent_long he; rw [List.length_drop] at this; omega⟩
 have HF:=hid (found_step s);have HI:=hid (fun nb k=>isAt_ext s nb k);have HX:Hid (∀ (k n:Nat),s.size < k+n → n ≠ 0 → ∀ nb:ByteArray,nb.size=n → isAt s.data.toList k nb.data.toList=false):=fun k n h h0 nb hn=>isAt_long (by rw [len_data,len_data]; omega) (.inl (fun e=>by have:=len_data nb; rw [e] at this; simp at this; omega));generalize s.data.toList=l at HP HN0 HEn HF HI HX hl ⊢
 go_enter Tryz.func128,Tryz.ntmps128
 go_wp2;generalize World.alloc _ _=W0 at hN hbn ⊢
 go_loopw [5,6] (fun o i wr=>∃ (k q:Nat) (a:List UInt8),k≤s.size∧i=.int .i64 k∧o=.string ⟨a.toArray⟩∧wr=W0.drewN q∧Hid (RdAt l k a)) (fun _ i _=>s.size - (intOf i).toNat)
 case atStart=>exact ⟨0,0,[],Nat.zero_le _,rfl,rfl,rfl,rd_zero l⟩
 case round =>
  obtain ⟨k,q,a,hk,rfl,rfl,rfl,hrd⟩:=hrel;by_cases hlt:k < s.size
  ·have hbd:=u8_bd s[k];have hw1:IntKind.i64.wrap ((k:Int)+1)=((k+1:Nat):Int):=by rw [IntKind.wrap_i64]; omega
   have hz:=size_list a;have hal:a.length≤1048576:=by have:=hrd.out.2; omega
   by_cases h38:s[k]=38
   ·have q1:((s[k].toNat:Int)==38)=true:=u8_eq (b:=38) h38;have HE0:=hid (HN0.out k a hlt hrd.out h38);have HE1:=hid (fun n c=>HEn.out k n c a hlt hrd.out h38);have HFo:=hid (found_ent (l.drop (k+1)));clear HP HN0 HEn h38 hrd;have q1n:((s[k].toNat:Int) != 38)=false:=by rw [bne,q1]; rfl
    go_wp2
    go_loopw [7,8] (fun f i wr=>∃ (j q:Nat),j≤5∧i=.int .i64 j∧f=.int .i64 (foundK (l.drop (k+1)) j)∧wr=W0.drewN q) (fun _ i _=>5 - (intOf i).toNat)
    case atStart=>exact ⟨0,q,by omega,rfl,rfl,rfl⟩
    case round =>
     obtain ⟨j,q2,hj,rfl,rfl,rfl⟩:=hrel;by_cases hj5:j < 5
     ·obtain ⟨hna,hn5,hn1⟩:=nameB_at hj5;have f1:=hN.out j hj5;have hfs:=hid (HF.out (nameB j) k j hj5 hna);have hie:=hid (HI.out (nameB j) (k+1));have hxe:=hid (fun h=>HX.out (k+1) (nameB j).size h (by omega) (nameB j) rfl);have q6:(j:Int) < 5:=by omega
      clear hna;generalize nameB j=nb at f1 hn5 hn1 hfs hie hxe;have hw2:IntKind.i64.wrap ((k:Int)+1+(nb.size:Int))=(k:Int)+1+(nb.size:Int):=by rw [IntKind.wrap_i64]; omega
      clear HE0 HE1 HFo HF HI HX hN;by_cases hfit:k+1+nb.size≤s.size
      ·have q7:(k:Int)+1+(nb.size:Int)≤(s.size:Int):=by omega
       have q8:(k:Int)+1≤(k:Int)+1+(nb.size:Int):=by omega
       have q10:((k:Int)+1+(nb.size:Int)).toNat=k+1+nb.size:=by omega
       have q9:((k:Int)+1).toNat=k+1:=by omega
       cases hb:isAt l (k+1) nb.data.toList with
       | true =>
        have hie2:((s.extract (k+1) (k+1+nb.size)).toList==nb.toList)=true:=by rw [hie.out]; exact hb
        rw [hb,if_pos rfl] at hfs;clear hie hb hxe;go_wp2
        go_quiet (fail)
        go_wp2;go_roundw
        case rel=>exact ⟨j+1,q2+nq,by omega,by go_num,by rw [hfs.out],rfl⟩
        case measure=>simp [intOf]; omega
       | false =>
        have hie2:((s.extract (k+1) (k+1+nb.size)).toList==nb.toList)=false:=by rw [hie.out]; exact hb
        rw [hb,if_neg (by simp)] at hfs;clear hie hb hxe;go_wp2
        go_quiet (fail)
        go_wp2;go_roundw
        case rel=>exact ⟨j+1,q2+nq,by omega,by go_num,by rw [hfs.out],rfl⟩
        case measure=>simp [intOf]; omega
      ·have q7:¬ (k:Int)+1+(nb.size:Int)≤(s.size:Int):=by omega
       have q8:decide ((k:Int)+1+(nb.size:Int)≤(s.size:Int))=false:=decide_eq_false q7;rw [hxe.out (by omega),if_neg (by simp)] at hfs;clear hie hxe;go_wp2
       go_quiet (fail)
       go_wp2;go_roundw
       case rel=>exact ⟨j+1,q2+nq,by omega,by go_num,by rw [hfs.out],rfl⟩
       case measure=>simp [intOf]; omega
     ·have hj6:j=5:=by omega
      subst hj6
      rcases HFo.out with ⟨hf,he⟩ | ⟨j,hj4,hf,he⟩
      ·have hv:=hid (readR_none (HE0.out he));rw [hf];clear HE0 HE1 HFo HF HI HX hN he hf;go_wp2;go_ret2;exact ⟨by rw [← hv.out]; rfl,hbn.trans (belowD _ _ _)⟩
      ·obtain ⟨hr2,hr3⟩:=HE1.out _ _ he;have hR2:=hid hr2;obtain ⟨hsg,hnl⟩:=signs_at hj4;have hj5:j < 5:=by (have:entK.length=5:=rfl); omega
       have f1:=hN.out j hj5;rw [hf];generalize entK[j].2=c at hR2 hsg;have q6:(j:Int) < 5:=by omega
       rw [← hnl] at hR2 hr3;obtain ⟨hna,hn5,hn1⟩:=nameB_at hj5;clear hna hnl hr2;generalize nameB j=nb at f1 hR2 hr3 hn5 hn1;have hw2:IntKind.i64.wrap ((k:Int)+1+(nb.size:Int))=(k:Int)+1+(nb.size:Int):=by rw [IntKind.wrap_i64]; omega
       have hw3:IntKind.i64.wrap ((j:Int)+1)=((j+1:Nat):Int):=by rw [IntKind.wrap_i64]; omega
       have q8:((j+1:Nat):Int)≤5:=by omega
       have HG:=hid (glueB a #[c]);clear HE0 HE1 HFo HF HI HX hN he hf;go_wp2;go_roundw
       case rel=>exact ⟨k+1+nb.size,q2,a++[c],hr3,by go_num,by rw [HG.out],rfl,hR2⟩
       case measure=>simp [intOf]; omega
   ·have q1:((s[k].toNat:Int)==38)=false:=u8_ne (b:=38) h38;have hrd2:=hid (HP.out k a hlt hrd.out h38);have he:=one_ext s k hlt;have hb1:((k+1:Nat):Int)≤(s.size:Int):=by omega
    have HG:=hid (glueB a #[s[k]]);clear hrd h38 HP HN0 HEn HF HI HX hN;go_wp2;go_roundw
    case rel=>exact ⟨k+1,q,a++[s[k]],by omega,by go_num,by rw [HG.out],rfl,hrd2⟩
    case measure=>simp [intOf]; omega
  ·have hv:=hid (readR_some (rd_end hrd.out (by omega)));clear hrd HP HN0 HEn HF HI HX hN;go_wp2;go_ret2;exact ⟨by rw [← hv.out]; rfl,hbn.trans (belowD _ _ _)⟩
theorem nds_ne {cs ds:List NdC} {k:Nat} (h1:k < cs.length) (h2:k < ds.length) (h:cs[k].nd ≠ ds[k].nd):ndsL cs ≠ ndsL ds:=fun e=>by
 apply h
 have:=congrArg (fun l=>l[k]?) e
 simpa [ndsL,h1,h2] using this
theorem nds_eq {cs ds:List NdC} (hl:cs.length=ds.length) (h:∀ k (h1:k < cs.length) (h2:k < ds.length),cs[k].nd=ds[k].nd):ndsL cs=ndsL ds:=by
 apply List.ext_getElem
 ·simp [ndsL,hl]
 ·intro k h1 h2;simp only [ndsL,List.getElem_map];exact h k (by simpa [ndsL] using h1) (by simpa [ndsL] using h2)
set_option maxHeartbeats 4000000 in
set_option maxRecDepth 100000 in
theorem rsame13_any (v u:Value) (cs ds:List NdC) (w:World) (hz:cs.length≤140737488355328) (hz2:ds.length≤140737488355328) (hp:∀ c ∈ cs,c.nd.attrs.length≤140737488355328) (hv:NdsAt w v cs) (hu:NdsAt w u ds) :
  Calls Tryz.prog 33 #[v,u] w fun e w'=>e=.returned (.bool (decide (ndsL cs=ndsL ds)))∧∃ q,w'=w.drewN q:=by
 obtain ⟨ao,cap,rfl,hc⟩:=hv;obtain ⟨bo,cap2,rfl,hd⟩:=hu;have HC:=hid hc;have HD:=hid hd;have HP:=hid hp;clear hc hd hp;by_cases hlen:cs.length=ds.length
 ·have HNE:=hid (fun k h1 h2=>@nds_ne cs ds k h1 h2);have HEQ:=hid (@nds_eq cs ds hlen);have hne:((cs.length:Int) != (ds.length:Int))=false:=by rw [bne,hlen]; simp
  generalize hR:decide (ndsL cs=ndsL ds)=R;have HF:Hid (ndsL cs ≠ ndsL ds → R=false):=fun h=>by rw [← hR]; exact decide_eq_false h
  have HT:Hid (ndsL cs=ndsL ds → R=true):=fun h=>by rw [← hR]; exact decide_eq_true h
  clear hR;obtain ⟨n,hn⟩:∃ n,n=cs.length:=⟨_,rfl⟩
  obtain ⟨n2,hn2⟩:∃ n,n=ds.length:=⟨_,rfl⟩
  rw [← hn] at hne hz ⊢;rw [← hn2] at hne hz2 ⊢;have HL:=hid (And.intro hn hn2);have e12:(n2:Int)=(n:Int):=by omega
  clear hlen hn hn2
  go_enter Tryz.func33,Tryz.ntmps33
  go_wp2
  go_loopw [5] (fun i wr=>∃ (j q:Nat),j≤n∧i=.int .i64 j∧wr=w.drewN q∧Hid (∀ k (h1:k < cs.length) (h2:k < ds.length),k < j → cs[k].nd=ds[k].nd)) (fun i _=>n - (intOf i).toNat)
  case atStart=>exact ⟨0,0,Nat.zero_le _,rfl,rfl,fun k _ _ h=>absurd h (by omega)⟩
  case round =>
   obtain ⟨j,q,hjn,rfl,rfl,ha⟩:=hrel;by_cases hlt:j < n
   ·have hj1:j < cs.length:=by have:=HL.out.1; omega
    have hj2:j < ds.length:=by have:=HL.out.2; omega
    obtain ⟨ad,hao,hab,⟨c0,c1,c2,c3⟩,pa⟩:=HC.out j hj1;obtain ⟨bd,hbo,hbb,⟨d0,d1,d2,d3⟩,pb⟩:=HD.out j hj2;subst hao hbo;have hpl:=HP.out _ (List.getElem_mem hj1);have KL:=hid (fun W (hW:Below w.heap.size w W)=>lists_any cs[j].a ds[j].a cs[j].nd.attrs ds[j].nd.attrs W hpl (pa.below hW) (pb.below hW));have HNE1:=hid (HNE.out j hj1 hj2)
    have HA:Hid (cs[j].nd=ds[j].nd → ∀ k (h1:k < cs.length) (h2:k < ds.length),k < j+1 → cs[k].nd=ds[k].nd):=fun he k h1 h2 hk=>by
     by_cases hkj:k < j
     ·exact ha.out k h1 h2 hkj
     ·have:k=j:=by omega
      subst this; exact he
    have q6:(j:Int) < (n:Int):=by omega
    have q7:(j:Int) < (n2:Int):=by omega
    obtain ⟨W,hW⟩:∃ W,W=w.drewN q:=⟨_,rfl⟩
    replace c0:=cellD hW c0;replace c1:=cellD hW c1;replace c2:=cellD hW c2;replace c3:=cellD hW c3;replace d0:=cellD hW d0;replace d1:=cellD hW d1;replace d2:=cellD hW d2;replace d3:=cellD hW d3;have hBW:Hid (∀ m,Below w.heap.size w (W.drewN m)):=fun m=>by rw [hW]; exact ⟨rfl,rfl,rfl,Nat.le_refl _,fun _ _=>rfl⟩
    have hEW:Hid (∀ m,∃ q',W.drewN m=w.drewN q'):=fun m=>⟨q+m,by rw [hW,World.drewN_drewN]⟩
    rw [← hW];clear hW;clear HC HD HP HNE HEQ HT ha pa pb hpl;generalize cs[j]=c at c0 c1 c2 c3 KL HNE1 HA;generalize ds[j]=d at d0 d1 d2 d3 KL HNE1 HA;obtain ⟨⟨cd,cn,ca,ct⟩,cv⟩:=c;obtain ⟨⟨dd,dn,da,dt⟩,dv⟩:=d;simp only at c0 c1 c2 c3 d0 d1 d2 d3 KL HNE1 HA;have hdec:(Nd.mk cd cn ca ct=Nd.mk dd dn da dt) ↔ (cd=dd∧cn=dn∧ca=da∧ct=dt):=by simp
    by_cases e1:cd=dd
    ·have r1:(cd != dd)=false:=by simp [e1]
     by_cases e2:cn=dn
     ·have r2:(cn==dn)=true:=by simp [e2]
      have r2n:(cn != dn)=false:=by simp [e2]
      by_cases e3:ct=dt
      ·have r3:(ct==dt)=true:=by simp [e3]
       have r3n:(ct != dt)=false:=by simp [e3]
       by_cases e4:ca=da
       ·have HA2:=hid (HA.out (hdec.2 ⟨e1,e2,e4,e3⟩));have KL2:Hid (∀ m,Calls Tryz.prog 65 #[cv,dv] (W.drewN m) fun e w'=>e=.returned (.bool true)∧∃ m',w'=(W.drewN m).drewN m'):=fun m=>by have:=KL.out _ (hBW.out m); rw [decide_eq_true e4] at this; exact this
        clear KL HA HNE1 hdec HF e1 e2 e3 e4;go_wp2
        go_quiet (first | (go_at_call 65; exact Calls.quiet_of (KL2.out _)))
        go_wp2;go_roundw
        case rel=>obtain ⟨q',hq'⟩:=hEW.out nq; exact ⟨j+1,q',by omega,by go_num,hq',HA2⟩
        case measure=>simp [intOf]; omega
       ·have hR:=hid (HF.out (HNE1.out fun e=>e4 (hdec.1 e).2.2.1));have KL2:Hid (∀ m,Calls Tryz.prog 65 #[cv,dv] (W.drewN m) fun e w'=>e=.returned (.bool false)∧∃ m',w'=(W.drewN m).drewN m'):=fun m=>by have:=KL.out _ (hBW.out m); rw [decide_eq_false e4] at this; exact this
        clear KL HA HNE1 hdec HF e1 e2 e3 e4;go_wp2
        go_quiet (first | (go_at_call 65; exact Calls.quiet_of (KL2.out _)))
        go_wp2;go_ret;exact ⟨ret_bool hR.out.symm,hEW.out _⟩
      ·have r3:(ct==dt)=false:=by simp [e3]
       have r3n:(ct != dt)=true:=by simp [e3]
       have hR:=hid (HF.out (HNE1.out fun e=>e3 (hdec.1 e).2.2.2));clear KL HA HNE1 hdec HF e1 e2 e3;go_wp2
       go_quiet (fail)
       go_wp2;go_ret;exact ⟨ret_bool hR.out.symm,hEW.out _⟩
     ·have r2:(cn==dn)=false:=by simp [e2]
      have r2n:(cn != dn)=true:=by simp [e2]
      have hR:=hid (HF.out (HNE1.out fun e=>e2 (hdec.1 e).2.1));clear KL HA HNE1 hdec HF e1 e2;go_wp2
      go_quiet (fail)
      go_wp2;go_ret;exact ⟨ret_bool hR.out.symm,hEW.out _⟩
    ·have r1:(cd != dd)=true:=by simp [e1]
     have hR:=hid (HF.out (HNE1.out fun e=>e1 (hdec.1 e).1));clear KL HA HNE1 hdec HF e1;go_wp2
     go_quiet (fail)
     go_wp2;go_ret;exact ⟨ret_bool hR.out.symm,hEW.out _⟩
   ·have hR:=hid (HT.out (HEQ.out fun k h1 h2=>ha.out k h1 h2 (by have:=HL.out.1; omega)));clear HC HD HP HNE HEQ HT HF ha;go_wp2;go_ret;exact ⟨ret_bool hR.out.symm,q,rfl⟩
 ·have hR:Hid (decide (ndsL cs=ndsL ds)=false):=show _=_ from decide_eq_false fun e=>hlen (by have:=congrArg List.length e; simpa [ndsL] using this)
  have hne:((cs.length:Int) != (ds.length:Int))=true:=by simp; omega
  generalize decide (ndsL cs=ndsL ds)=R at hR ⊢;obtain ⟨n,hn⟩:∃ n,n=cs.length:=⟨_,rfl⟩
  obtain ⟨n2,hn2⟩:∃ n,n=ds.length:=⟨_,rfl⟩
  rw [← hn] at hne hz ⊢;rw [← hn2] at hne hz2 ⊢;clear HC HD HP hlen hn hn2
  go_enter Tryz.func33,Tryz.ntmps33
  go_wp2;go_ret;exact ⟨ret_bool hR.out.symm,0,rfl⟩
def attrR (o:Option (Par × Nat)):Value:=match o with
 | some (p,n)=>.tuple #[.agg #[.string ⟨p.name.toArray⟩,.string ⟨p.value.toArray⟩,.bool p.has],.int .i64 n]
 | none=>.tuple #[.agg #[.string ⟨#[]⟩,.string ⟨#[]⟩,.bool false],.int .i64 (-1)]
theorem suf_drop {a b:List UInt8} (h:a <:+ b):a=b.drop (b.length - a.length):=by
 obtain ⟨t,rfl⟩:=h;rw [List.length_append,Nat.add_sub_cancel,List.drop_left]
theorem info_ok {l:List Nd} (h:(infoX l).2=0):checkI (infoX l).1=0∧(prologK++printX (treeI (infoX l).1)).length≤4096∧nodesI (infoX l).1=l:=by
 unfold infoX at h ⊢
 split at h
 ·simp at h
 ·next h1 =>
  rw [if_neg h1];simp only [not_or,Nat.not_lt] at h1;exact ⟨Classical.not_not.1 h1.1,h1.2.1,Classical.not_not.1 h1.2.2⟩
theorem info_val (l:List Nd):((infoX l).2=0∨(infoX l).2=150)∧((infoX l).2 ≠ 0 → (infoX l).1=noI):=by
 unfold infoX
 split
 ·exact ⟨.inr rfl,fun _=>rfl⟩
 ·exact ⟨.inl rfl,fun h=>absurd rfl h⟩
theorem parseI_ok {s:List UInt8} (h:(parseI s).2=0):checkI (parseI s).1=0∧(prologK++printX (treeI (parseI s).1)).length≤4096:=by
 unfold parseI at h ⊢
 split at h
 ·next h1=>exact absurd h h1
 ·next h1 =>
  rw [if_neg h1]
  have:=info_ok h
  exact ⟨this.1,this.2.1⟩
theorem parseI_bad {s:List UInt8} (h:(parseI s).2 ≠ 0):(parseI s).1=noI:=by
 unfold parseI at h ⊢
 split at h
 ·next h1=>rw [if_pos h1]
 ·next h1 =>
  rw [if_neg h1];exact (info_val _).2 h
theorem rover_at (s:ByteArray) (a:Nat) (i:Int) (hi:i=a) (w:World) (hs:s.size≤140737488355328) (ha:a≤s.size) :
  Calls Tryz.prog 61 #[.string s,.int .i64 i] w fun e w'=>e=.returned (.int .i64 (runL xblk s.data.toList a))∧w'=w:=by
 subst hi; exact rover_any s a w hs ha
theorem rupto_at (s:ByteArray) (a:Nat) (t:Array UInt8) (p:UInt8 → Bool) (i:Int) (hi:i=a) (hp:∀ b,(!hasL b t.toList)=p b) (w:World) (hs:s.size≤140737488355328) (ht:t.size≤100) (ha:a≤s.size) :
  Calls Tryz.prog 59 #[.string s,.int .i64 i,.string ⟨t⟩] w fun e w'=>e=.returned (.int .i64 (runL p s.data.toList a))∧w'=w:=by
 subst hi;have e:(fun b=>!hasL b t.toList)=p:=funext hp;have k:=rupto_any s ⟨t⟩ a w hs (by show t.size≤_; omega) ha;rw [← e]; exact k
theorem ris_at (s:ByteArray) (a:Nat) (t:Array UInt8) (i:Int) (hi:i=a) (w:World) (hs:s.size≤140737488355328) (ht:t.size≤100000000) (h0:0 < t.size) (ha:a≤s.size) :
  Calls Tryz.prog 58 #[.string s,.int .i64 i,.string ⟨t⟩] w fun e w'=>e=.returned (.bool (isAt s.data.toList a t.toList))∧w'=w:=by
 subst hi;exact ris_any s ⟨t⟩ a w hs (by show t.size≤_; omega) (by omega) (.inr ha)
theorem has_one (c b:UInt8):(!hasL b [c])=(b != c):=by
 simp only [hasL,List.contains_cons,List.contains_nil,Bool.or_false]; rfl
theorem has_two (c d b:UInt8):(!hasL b [c,d])=(b != c && b != d):=by
 simp only [hasL,List.contains_cons,List.contains_nil,Bool.or_false,Bool.not_or]; rfl
theorem ruptoQ (s:ByteArray) (a:Nat) (h:a < s.size) (w:World) (hs:s.size≤1048576) :
  Calls Tryz.prog 59 #[.string s,.int .i64 ((a:Int)+1),.string (⟨#[s[a]]⟩++⟨#[60]⟩)] w fun e w'=>e=.returned (.int .i64 (runL (fun b=>b != s[a] && b != 60) s.data.toList (a+1)))∧w'=w :=
 rupto_at s (a+1) #[s[a],60] _ _ (by omega) (has_two s[a] 60) w (by omega) (by simp) (by omega)
theorem risQ (s:ByteArray) (a u:Nat) (h:a < s.size) (w:World) (hs:s.size≤1048576) (hu:u≤s.size) :
  Calls Tryz.prog 58 #[.string s,.int .i64 u,.string ⟨#[s[a]]⟩] w fun e w'=>e=.returned (.bool (decide (s.data.toList[u]? = some s[a])))∧w'=w:=by
 have k:=ris_at s u #[s[a]] u rfl w (by omega) (by simp) (by simp) hu;rw [show isAt s.data.toList u #[s[a]].toList=decide (s.data.toList[u]? = some s[a]) from isAt_one] at k;exact k
theorem ext_mid (s:ByteArray) (a b:Nat):(s.data.toList.drop a).take (b - a)=(s.extract a b).data.toList:=by rw [ext_list]
end Go.Proofs.YtdbalahkmeknaaaGreatDoor
