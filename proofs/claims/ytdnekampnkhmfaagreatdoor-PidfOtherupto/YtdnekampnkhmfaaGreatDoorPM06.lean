/-
  XmlDocL, NdFr, RXL, RX1, RX4, RX5, RXS, PR2, RX15.
-/
import Derived.Test.YtdnekampnkhmfaaGreatDoorPM17
set_option linter.unusedVariables false
set_option linter.unusedSimpArgs false
set_option maxRecDepth 20000
namespace Go.Proofs.YtdnekampnkhmfaaGreatDoor
open Go.RowKit Sc
theorem steps_take:∀ (a b:List Nd),stepsX (a++b)=true → stepsX a=true
 | [],b,_=>rfl
 | [x],b,h=>by rw [stepsX]; exact (steps_tail h).1
 | x :: y :: a,b,h=>by
  obtain ⟨h1,h2,h3⟩:=steps_tail h;rw [stepsX,h1,h3 y rfl];exact steps_take (y :: a) b h2
theorem forest_of:∀ (n:Nat) (l:List Nd) (d:Nat),l.length≤n → stepsX l=true → (∀ x ∈ l,(d:Int)≤x.deep) → (∀ x,l.head? = some x → x.deep=d) → ∃ ks,flatXs d ks=l∧okXs d ks=true
 | 0,l,d,hl,_,_,_=>by
  obtain rfl:=List.eq_nil_of_length_eq_zero (Nat.le_zero.1 hl);exact ⟨[],rfl,rfl⟩
 | n+1,[],d,_,_,_,_=>⟨[],rfl,rfl⟩
 | n+1,x :: r,d,hl,hs,hd,hh=>by
  obtain ⟨s1,s2,s3⟩:=steps_tail hs;have hx:x.deep=d:=hh x rfl
  -- what lies in x, and what behind
  obtain ⟨a,b,rfl,ha,hb⟩:∃ a b,r=a++b∧(∀ y ∈ a,(d:Int) < y.deep)∧(∀ y,b.head? = some y → y.deep≤d):=by
   refine ⟨r.takeWhile (fun y=>decide ((d:Int) < y.deep)),r.dropWhile (fun y=>decide ((d:Int) < y.deep)),(List.takeWhile_append_dropWhile).symm,?_,?_⟩
   ·intro y hy
    have:=List.all_eq_true.1 (List.all_takeWhile (p:=fun y:Nd=>decide ((d:Int) < y.deep)) (l:=r)) y hy
    simpa using this
   ·intro y hy
    have:=List.head?_dropWhile_not (fun y:Nd=>decide ((d:Int) < y.deep)) r
    rw [hy] at this; simpa using this
  simp only [List.length_cons,List.length_append] at hl;obtain ⟨ks,k1,k2⟩:=forest_of n a (d+1) (by omega) (steps_take a b s2) (fun y hy=>by have:=ha y hy; omega) (fun y hy=>by
   have h1:=ha y (List.mem_of_mem_head? hy);have h2:=s3 y (by rw [List.head?_append,hy]; rfl);simp only [nextOk,Bool.and_eq_true,decide_eq_true_eq] at h2;omega)
  obtain ⟨ms,m1,m2⟩:=forest_of n b d (by omega) (steps_drop a b s2) (fun y hy=>hd y (by simp [hy])) (fun y hy=>by
   have h1:=hb y hy;have h2:=hd y (by simp [List.mem_of_mem_head? hy]);omega)
  obtain ⟨f1,f2,f3,f4⟩:=node_facts s1;refine ⟨.mk x.name x.attrs x.text ks :: ms,?_,?_⟩
  ·rw [flatXs,flatX,k1,m1];obtain ⟨dp,nm,at',tx⟩:=x;simp only at hx; subst hx; simp
  ·rw [okXs,okX,m2,k2,f2,f3];simp only [Bool.and_true,Bool.true_and,Bool.and_eq_true,decide_eq_true_eq,beq_iff_eq,Bool.or_eq_true,List.isEmpty_iff];refine ⟨by omega,f4,?_⟩
   cases ks with
   | nil=>exact Or.inl rfl
   | cons t ts =>
    refine Or.inr ?_
    -- a is not empty: its first is deeper
    have hne:a ≠ []:=by
     rw [← k1];obtain ⟨n',a',t',k'⟩:=t;rw [flatXs,flatX]; simp
    cases ha':a with
    | nil=>exact absurd ha' hne
    | cons y q =>
     have h1:=ha y (by rw [ha']; simp);have h2:=s3 y (by rw [ha']; rfl);simp only [nextOk,Bool.and_eq_true,Bool.or_eq_true,Bool.not_eq_true',decide_eq_true_eq,decide_eq_false_iff_not,List.isEmpty_iff] at h2
     rcases h2.2 with h3 | h3
     ·omega
     ·exact h3
theorem steps_deep:∀ (r:List Nd) (x:Nd),stepsX (x :: r)=true → ∀ y ∈ r,(1:Int)≤y.deep
 | [],x,_,y,hy=>by simp at hy
 | z :: r,x,h,y,hy=>by
  obtain ⟨_,h2,h3⟩:=steps_tail h;have hz:=h3 z rfl;simp only [nextOk,Bool.and_eq_true,decide_eq_true_eq] at hz
  rcases List.mem_cons.1 hy with rfl | hy
  ·exact hz.1.1
  ·exact steps_deep r z h2 y hy
theorem tree_of {l:List Nd} (h:checkX l=0):∃ t,flatX 0 t=l∧okX 0 t=true:=by
 obtain ⟨h1,h2,h3,h4⟩:=checkX_ok h
 cases l with
 | nil=>simp at h1
 | cons x r =>
  obtain ⟨s1,s2,s3⟩:=steps_tail h4;have hx:x.deep=0:=by simpa using h3
  have hdeep:∀ y ∈ r,(1:Int)≤y.deep:=steps_deep r x h4;obtain ⟨ks,k1,k2⟩:=forest_of r.length r 1 (Nat.le_refl _) s2 (fun y hy=>by have:=hdeep y hy; omega) (fun y hy=>by
   have a1:=hdeep y (List.mem_of_mem_head? hy);have a2:=s3 y hy;simp only [nextOk,Bool.and_eq_true,decide_eq_true_eq] at a2;omega)
  obtain ⟨f1,f2,f3,f4⟩:=node_facts s1;refine ⟨.mk x.name x.attrs x.text ks,?_,?_⟩
  ·rw [flatX,k1];obtain ⟨dp,nm,at',tx⟩:=x;simp only at hx; subst hx; rfl
  ·rw [okX,k2,f2,f3];simp only [Bool.and_true,Bool.true_and,Bool.and_eq_true,decide_eq_true_eq,beq_iff_eq,Bool.or_eq_true,List.isEmpty_iff];refine ⟨by omega,f4,?_⟩
   cases r with
   | nil =>
    refine Or.inl ?_
    cases ks with
    | nil=>rfl
    | cons t ts=>obtain ⟨n',a',t',k'⟩:=t; rw [flatXs,flatX] at k1; simp at k1
   | cons y q =>
    refine Or.inr ?_
    have a1:=hdeep y (by simp);have a2:=s3 y rfl;simp only [nextOk,Bool.and_eq_true,Bool.or_eq_true,Bool.not_eq_true',decide_eq_true_eq,decide_eq_false_iff_not,List.isEmpty_iff] at a2
    rcases a2.2 with h3 | h3
    ·omega
    ·exact h3
theorem FrN.trans {v v1 v2:Value} {w w1 w2:World} (h:FrN v w v1 w1) (k:FrN v1 w1 v2 w2):FrN v w v2 w2:=by
 refine ⟨k.os.trans h.os,k.tape.trans h.tape,k.output.trans h.output,Nat.le_trans h.size k.size,fun b hb hn=>?_,fun g hg=>?_⟩
 ·have hn2:v1.ownBlock ≠ some b:=fun e=>by
   rcases h.own b e with e | e
   ·exact hn e
   ·omega
  rw [k.block b (Nat.lt_of_lt_of_le hb h.size) hn2,h.block b hb hn]
 ·rcases k.own g hg with e | e
  ·exact h.own g e
  ·exact .inr (Nat.le_trans h.size e)
theorem FrN.below {v:Value} {w w':World} (h:Below w.heap.size w w'):FrN v w v w':=⟨h.os,h.tape,h.output,h.size,fun b hb _=>h.block b hb,fun g hg=>.inl hg⟩
theorem FrN.none {v v':Value} {w w':World} (h:FrN v w v' w'):FrN v w (.slice none 0 0) w':=⟨h.os,h.tape,h.output,h.size,h.block,fun g hg=>by cases hg⟩
section
variable {p : UInt8 → Bool} {l : List UInt8} {k : Nat}
theorem run_step (hk:k < l.length) (h:p l[k]=true):runL p l (k+1)=runL p l k:=by
 unfold runL;rw [List.drop_eq_getElem_cons hk,List.takeWhile_cons,if_pos h,List.length_cons]; omega
theorem run_stop (hk:k < l.length) (h:p l[k]=false):runL p l k=k:=by
 unfold runL;rw [List.drop_eq_getElem_cons hk,List.takeWhile_cons,if_neg (by simp [h])]; simp
theorem run_end (hk:l.length≤k):runL p l k=k:=by
 unfold runL;rw [List.drop_eq_nil_of_le hk]; simp
theorem run_at (hk:k≤l.length):runL p l k < l.length → ∃ c r,(l.drop k).dropWhile p=c :: r∧p c=false:=fun h=>by
 have e:=run_drop (p:=p) (l:=l) (k:=k);rw [List.drop_eq_getElem_cons h] at e;refine ⟨_,_,e.symm,?_⟩
 have h2:=List.head?_dropWhile_not p (l.drop k);rw [← e,List.head?_cons] at h2
 simpa using h2
end
def isAt (l:List UInt8) (k:Nat) (t:List UInt8):Bool:=decide ((l.drop k).take t.length=t)
theorem isAt_long {l t:List UInt8} {k:Nat} (h:l.length < k+t.length) (ht:t ≠ []∨k≤l.length):isAt l k t=false:=by
 unfold isAt;rw [decide_eq_false_iff_not];intro e
 have:=congrArg List.length e
 rw [List.length_take,List.length_drop] at this
 rcases ht with ht | ht
 ·have:1≤t.length:=by cases t with | nil=>exact absurd rfl ht | cons a b=>simp
  omega
 ·omega
theorem isAt_one {l:List UInt8} {k:Nat} {c:UInt8}:isAt l k [c]=decide (l[k]? = some c):=by
 unfold isAt
 congr 1
 rw [List.length_cons,List.length_nil,eq_iff_iff];by_cases h:k < l.length
 ·rw [List.drop_eq_getElem_cons h,List.getElem?_eq_getElem h,Nat.zero_add,List.take_succ_cons,List.take_zero]; simp
 ·rw [List.drop_eq_nil_of_le (by omega),List.getElem?_eq_none (by omega)]; simp
theorem readX_at {l:List UInt8} {k:Nat} (hk:k < l.length) (h:l[k] ≠ 38):readX (l.drop k)=(readX (l.drop (k+1))).map (l[k] :: ·):=by
 rw [List.drop_eq_getElem_cons hk]; exact read_cons h
theorem readX_ent {l:List UInt8} {k n:Nat} {c:UInt8} (hk:k < l.length) (h:l[k]=38) (he:entX (l.drop (k+1))=some (c,n)):readX (l.drop k)=(readX (l.drop (k+1+n))).map (c :: ·):=by
 rw [List.drop_eq_getElem_cons hk,h];exact read_ent he (by rw [List.drop_drop])
def entK:List (List UInt8 × UInt8):=[([97,109,112,59],38),([108,116,59],60),([103,116,59],62),([113,117,111,116,59],34),([97,112,111,115,59],39)]
def foundK (r:List UInt8):Nat → Int
 | 0=>-1
 | k+1=>match entK[k]? with
  | some e=>if r.take e.1.length=e.1 then (k:Int) else foundK r k
  | none=>foundK r k
theorem found_ent (r:List UInt8):(foundK r 5=-1∧entX r=none)∨∃ (k:Nat) (hk:k < entK.length),foundK r 5=(k:Int)∧entX r=some (entK[k].2,entK[k].1.length):=by
 by_cases h0:r.take 4=[97,109,112,59]
 ·have n1:¬ r.take 3=[108,116,59]:=fun e=>by have:=congrArg (List.take 1) h0; have:=congrArg (List.take 1) e; simp [List.take_take] at *; simp_all
  have n2:¬ r.take 3=[103,116,59]:=fun e=>by have:=congrArg (List.take 1) h0; have:=congrArg (List.take 1) e; simp [List.take_take] at *; simp_all
  have n3:¬ r.take 5=[113,117,111,116,59]:=fun e=>by have:=congrArg (List.take 1) h0; have:=congrArg (List.take 1) e; simp [List.take_take] at *; simp_all
  have n4:¬ r.take 5=[97,112,111,115,59]:=fun e=>by have:=congrArg (List.take 2) h0; have:=congrArg (List.take 2) e; simp [List.take_take] at *; simp_all
  exact .inr ⟨0,by decide,by simp [foundK,entK,h0,n1,n2,n3,n4],by simp [entX,entK,h0]⟩
 ·by_cases h1:r.take 3=[108,116,59]
  ·have n2:¬ r.take 3=[103,116,59]:=fun e=>by rw [h1] at e; simp at e
   have n3:¬ r.take 5=[113,117,111,116,59]:=fun e=>by have:=congrArg (List.take 1) h1; have:=congrArg (List.take 1) e; simp [List.take_take] at *; simp_all
   have n4:¬ r.take 5=[97,112,111,115,59]:=fun e=>by have:=congrArg (List.take 1) h1; have:=congrArg (List.take 1) e; simp [List.take_take] at *; simp_all
   exact .inr ⟨1,by decide,by simp [foundK,entK,h0,h1,n2,n3,n4],by simp [entX,entK,h0,h1]⟩
  ·by_cases h2:r.take 3=[103,116,59]
   ·have n3:¬ r.take 5=[113,117,111,116,59]:=fun e=>by have:=congrArg (List.take 1) h2; have:=congrArg (List.take 1) e; simp [List.take_take] at *; simp_all
    have n4:¬ r.take 5=[97,112,111,115,59]:=fun e=>by have:=congrArg (List.take 1) h2; have:=congrArg (List.take 1) e; simp [List.take_take] at *; simp_all
    exact .inr ⟨2,by decide,by simp [foundK,entK,h0,h1,h2,n3,n4],by simp [entX,entK,h0,h1,h2]⟩
   ·by_cases h3:r.take 5=[113,117,111,116,59]
    ·have n4:¬ r.take 5=[97,112,111,115,59]:=fun e=>by rw [h3] at e; simp at e
     exact .inr ⟨3,by decide,by simp [foundK,entK,h0,h1,h2,h3,n4],by simp [entX,entK,h0,h1,h2,h3]⟩
    ·by_cases h4:r.take 5=[97,112,111,115,59]
     ·exact .inr ⟨4,by decide,by simp [foundK,entK,h0,h1,h2,h3,h4],by simp [entX,entK,h0,h1,h2,h3,h4]⟩
     ·exact .inl ⟨by simp [foundK,entK,h0,h1,h2,h3,h4],by simp [entX,h0,h1,h2,h3,h4]⟩
set_option maxHeartbeats 1000000 in
set_option maxRecDepth 100000 in
theorem rover_any (s:ByteArray) (a:Nat) (w:World) (hs:s.size≤140737488355328) (ha:a≤s.size) :
  Calls Tryz.prog 78 #[.string s,.int .i64 a] w fun e w'=>e=.returned (.int .i64 (runL xblk s.data.toList a))∧w'=w:=by
 have hl:=len_data s
 go_enter Tryz.func78,Tryz.ntmps78
 go_wp2
 go_loop [1] (fun i=>∃ k:Nat,k≤s.size∧i=.int .i64 k∧Hid (runL xblk s.data.toList k=runL xblk s.data.toList a)) (fun i=>s.size - (intOf i).toNat)
 case atStart=>exact ⟨a,ha,rfl,show _=_ from rfl⟩
 case round =>
  obtain ⟨k,hk,rfl,hr⟩:=hrel;by_cases hlt:k < s.size
  ·cases hc:xblk s[k] with
   | true =>
    have KH:=hid (fun w'=>hasX_of hc w');have hr2:Hid (runL xblk s.data.toList (k+1)=runL xblk s.data.toList a):=show _=_ by
     rw [run_step (by omega) (by rw [getB s k hlt]; exact hc)]; exact hr.out
    clear hr hc hl;go_wp2_with (go_at_call 81; refine (KH.out _).mono ?_; rintro e w' ⟨rfl,rfl⟩)
    go_round
    case rel=>exact ⟨k+1,by omega,by go_num,hr2⟩
    case measure=>simp [intOf]; omega
   | false =>
    have KH:=hid (fun w'=>hasX_of hc w');have hr2:Hid (k=runL xblk s.data.toList a):=show _=_ by
     rw [← hr.out]; exact (run_stop (by omega) (by rw [getB s k hlt]; exact hc)).symm
    clear hr hc hl;go_wp2_with (go_at_call 81; refine (KH.out _).mono ?_; rintro e w' ⟨rfl,rfl⟩)
    go_ret;exact ⟨ret_int (by rw [← hr2.out]),rfl⟩
  ·have hr2:Hid (k=runL xblk s.data.toList a):=show _=_ by
    rw [← hr.out]; exact (run_end (by omega)).symm
   clear hr hl;go_wp2;go_ret;exact ⟨ret_int (by rw [← hr2.out]),rfl⟩
set_option maxHeartbeats 1000000 in
set_option maxRecDepth 100000 in
theorem rupto_any (s t:ByteArray) (a:Nat) (w:World) (hs:s.size≤140737488355328) (ht:t.size≤140737488355328) (ha:a≤s.size) :
  Calls Tryz.prog 76 #[.string s,.int .i64 a,.string t] w fun e w'=>e=.returned (.int .i64 (runL (fun b=>!hasL b t.data.toList) s.data.toList a))∧w'=w:=by
 have hl:=len_data s;generalize hp:(fun b=>!hasL b t.data.toList)=p;have hpb:∀ b,p b=!hasL b t.data.toList:=fun b=>by rw [← hp]
 clear hp
 go_enter Tryz.func76,Tryz.ntmps76
 go_wp2
 go_loop [1] (fun i=>∃ k:Nat,k≤s.size∧i=.int .i64 k∧Hid (runL p s.data.toList k=runL p s.data.toList a)) (fun i=>s.size - (intOf i).toNat)
 case atStart=>exact ⟨a,ha,rfl,show _=_ from rfl⟩
 case round =>
  obtain ⟨k,hk,rfl,hr⟩:=hrel;by_cases hlt:k < s.size
  ·cases hc:hasL s[k] t.data.toList with
   | false =>
    have KH:=hid (fun w'=>has_of hc ht w');have hr2:Hid (runL p s.data.toList (k+1)=runL p s.data.toList a):=show _=_ by
     rw [run_step (by omega) (by rw [getB s k hlt,hpb,hc]; rfl)]; exact hr.out
    clear hr hc hl hpb;go_wp2_with (go_at_call 81; refine (KH.out _).mono ?_; rintro e w' ⟨rfl,rfl⟩)
    go_round
    case rel=>exact ⟨k+1,by omega,by go_num,hr2⟩
    case measure=>simp [intOf]; omega
   | true =>
    have KH:=hid (fun w'=>has_of hc ht w');have hr2:Hid (k=runL p s.data.toList a):=show _=_ by
     rw [← hr.out]; exact (run_stop (by omega) (by rw [getB s k hlt,hpb,hc]; rfl)).symm
    clear hr hc hl hpb;go_wp2_with (go_at_call 81; refine (KH.out _).mono ?_; rintro e w' ⟨rfl,rfl⟩)
    go_ret;exact ⟨ret_int (by rw [← hr2.out]),rfl⟩
  ·have hr2:Hid (k=runL p s.data.toList a):=show _=_ by
    rw [← hr.out]; exact (run_end (by omega)).symm
   clear hr hl hpb;go_wp2;go_ret;exact ⟨ret_int (by rw [← hr2.out]),rfl⟩
theorem isAt_ext (s t:ByteArray) (k:Nat):((s.extract k (k+t.size)).toList==t.toList)=isAt s.data.toList k t.data.toList:=by
 rw [ext_list,ByteArray.toList_eq,ByteArray.toList_eq,Nat.add_sub_cancel_left];unfold isAt;rw [len_data];rw [Bool.eq_iff_iff]; simp
set_option maxHeartbeats 1000000 in
set_option maxRecDepth 100000 in
theorem ris_any (s t:ByteArray) (k:Nat) (w:World) (hs:s.size≤140737488355328) (ht:t.size≤140737488355328) (hk:k≤140737488355328) (hn:t.size ≠ 0∨k≤s.size) :
  Calls Tryz.prog 75 #[.string s,.int .i64 k,.string t] w fun e w'=>e=.returned (.bool (isAt s.data.toList k t.data.toList))∧w'=w:=by
 have hw1:IntKind.i64.wrap ((k:Int)+(t.size:Int))=((k+t.size:Nat):Int):=by rw [IntKind.wrap_i64]; omega
 have hl:=len_data s;have hl2:=len_data t;by_cases h:k+t.size≤s.size
 ·have HE:=hid (isAt_ext s t k);generalize isAt s.data.toList k t.data.toList=b at HE ⊢;clear hl hl2 hn;have h1:((k+t.size:Nat):Int)≤(s.size:Int):=by omega
  cases b with
  | true =>
   have he:=HE.out;clear HE
   go_enter Tryz.func75,Tryz.ntmps75
   go_wp2;go_ret;exact ⟨rfl,rfl⟩
  | false =>
   have he:=HE.out;clear HE
   go_enter Tryz.func75,Tryz.ntmps75
   go_wp2;go_ret;exact ⟨rfl,rfl⟩
 ·have hv:Hid (isAt s.data.toList k t.data.toList=false):=show _=_ from isAt_long (by omega) (by
   rcases hn with hn | hn
   ·exact .inl (fun e=>by rw [e] at hl2; simp at hl2; omega)
   ·exact .inr (by omega))
  clear hl hl2 hn;have h1:¬ ((k+t.size:Nat):Int)≤(s.size:Int):=by omega
  go_enter Tryz.func75,Tryz.ntmps75
  go_wp2;go_ret;exact ⟨ret_bool hv.out.symm,rfl⟩
def namesV:Array Value:=#[.string ⟨#[97,109,112,59]⟩,.string ⟨#[108,116,59]⟩,.string ⟨#[103,116,59]⟩,.string ⟨#[113,117,111,116,59]⟩,.string ⟨#[97,112,111,115,59]⟩]
theorem found_step (s nb:ByteArray) (k j:Nat) (hj:j < 5) (hn:entK[j]?.map (·.1)=some nb.data.toList):foundK (s.data.toList.drop (k+1)) (j+1)=if isAt s.data.toList (k+1) nb.data.toList then (j:Int) else foundK (s.data.toList.drop (k+1)) j:=by
 cases he:entK[j]? with
 | none=>rw [he] at hn; cases hn
 | some e =>
  rw [he] at hn;have hn2:e.1=nb.data.toList:=by simpa using hn
  rw [foundK,he]
  simp only
  unfold isAt;rw [hn2];by_cases h:((s.data.toList.drop (k+1)).take nb.data.toList.length=nb.data.toList) <;> simp [h]
def nameB (j:Nat):ByteArray:=⟨((entK.getD j ([],0)).1).toArray⟩
theorem nameB_at {j:Nat} (hj:j < 5):entK[j]?.map (·.1)=some (nameB j).data.toList∧(nameB j).size≤5∧1≤(nameB j).size:=by
 match j,hj with
 | 0,_=>decide +kernel
 | 1,_=>decide +kernel
 | 2,_=>decide +kernel
 | 3,_=>decide +kernel
 | 4,_=>decide +kernel
 | k+5,h=>omega
theorem names_new (w:World) {j:Nat} (hj:j < 5):(w.alloc (.cells namesV 9)).cell? ⟨w.heap.size,j,none⟩=some (.string (nameB j)):=by
 rw [World.cell?_alloc_new]
 match j,hj with
 | 0,_=>rfl
 | 1,_=>rfl
 | 2,_=>rfl
 | 3,_=>rfl
 | 4,_=>rfl
 | k+5,h=>omega
theorem signs_at {j:Nat} (hj:j < entK.length):(⟨#[38,60,62,34,39]⟩:ByteArray).extract j (j+1)=⟨#[entK[j].2]⟩∧(nameB j).size=entK[j].1.length:=by
 match j,hj with
 | 0,_=>exact ⟨rfl,rfl⟩
 | 1,_=>exact ⟨rfl,rfl⟩
 | 2,_=>exact ⟨rfl,rfl⟩
 | 3,_=>exact ⟨rfl,rfl⟩
 | 4,_=>exact ⟨rfl,rfl⟩
 | k+5,h=>exact absurd h (by simp [entK])
def readR (l:List UInt8):Value:=match readX l with
 | some v=>.tuple #[.string ⟨v.toArray⟩,.bool true]
 | none=>.tuple #[.string ⟨#[]⟩,.bool false]
theorem readR_none {l:List UInt8} (h:readX l=none):Value.tuple #[.string ⟨#[]⟩,.bool false]=readR l:=by unfold readR; rw [h]
theorem readR_some {l v:List UInt8} (h:readX l=some v):Value.tuple #[.string ⟨v.toArray⟩,.bool true]=readR l:=by unfold readR; rw [h]
theorem ent_long {r:List UInt8} {c:UInt8} {n:Nat} (h:entX r=some (c,n)):n≤r.length:=by
 unfold entX at h;have key:∀ (m:Nat) (t:List UInt8),r.take m=t → t.length=m → m≤r.length:=fun m t e ht=>by
  have:=congrArg List.length e
  rw [List.length_take,ht] at this; omega
 split at h
 ·next e=>have:=key 4 _ e rfl; simp at h; omega
 split at h
 ·next e=>have:=key 3 _ e rfl; simp at h; omega
 split at h
 ·next e=>have:=key 3 _ e rfl; simp at h; omega
 split at h
 ·next e=>have:=key 5 _ e rfl; simp at h; omega
 split at h
 ·next e=>have:=key 5 _ e rfl; simp at h; omega
 ·cases h
def RdAt (l:List UInt8) (k:Nat) (a:List UInt8):Prop:=readX l=(readX (l.drop k)).map (a++·)∧a.length≤k
theorem rd_zero (l:List UInt8):RdAt l 0 []:=⟨by simp,Nat.le_refl _⟩
theorem rd_plain {l a:List UInt8} {k:Nat} (h:RdAt l k a) (hk:k < l.length) (hc:l[k] ≠ 38):RdAt l (k+1) (a++[l[k]]):=by
 refine ⟨?_,by have:=h.2; simp; omega⟩
 rw [h.1,readX_at hk hc,Option.map_map]
 congr 1; funext x; simp
theorem rd_end {l a:List UInt8} {k:Nat} (h:RdAt l k a) (hk:l.length≤k):readX l=some a:=by
 rw [h.1,List.drop_eq_nil_of_le hk]
 simp [readX,readG]
theorem rd_none {l a:List UInt8} {k:Nat} (h:RdAt l k a) (hk:k < l.length) (hc:l[k]=38) (he:entX (l.drop (k+1))=none):readX l=none:=by
 rw [h.1,readX_none hk hc he]; rfl
theorem rd_ent {l a:List UInt8} {k n:Nat} {c:UInt8} (h:RdAt l k a) (hk:k < l.length) (hc:l[k]=38) (he:entX (l.drop (k+1))=some (c,n)):RdAt l (k+1+n) (a++[c]):=by
 refine ⟨?_,by have:=h.2; simp; omega⟩
 rw [h.1,readX_ent hk hc he,Option.map_map]
 congr 1; funext x; simp
set_option maxHeartbeats 4000000 in
set_option maxRecDepth 100000 in
theorem rread_any (s:ByteArray) (w:World) (hs:s.size≤1048576) :
  Calls Tryz.prog 168 #[.string s] w fun e w'=>e=.returned (readR s.data.toList)∧Below w.heap.size w w':=by
 have hN:=hid (fun j (hj:j < 5)=>names_new w hj);have hbn:Below w.heap.size w (w.alloc (.cells namesV 9)):=(Below.refl _ w).alloc (Nat.le_refl _) _;unfold namesV at hN hbn;have hl:=len_data s;have HP:Hid (∀ (k:Nat) (a:List UInt8) (h:k < s.size),RdAt s.data.toList k a → s[k] ≠ 38 → RdAt s.data.toList (k+1) (a++[s[k]])):=fun k a h hr hc=>by
  have:=rd_plain hr (by omega) (by rw [getB s k h]; exact hc)
  rw [getB s k h] at this; exact this
 have HN0:Hid (∀ (k:Nat) (a:List UInt8) (h:k < s.size),RdAt s.data.toList k a → s[k]=38 → entX (s.data.toList.drop (k+1))=none → readX s.data.toList=none):=fun k a h hr hc he =>
  rd_none hr (by omega) (by rw [getB s k h]; exact hc) he
 have HEn:Hid (∀ (k n:Nat) (c:UInt8) (a:List UInt8) (h:k < s.size),RdAt s.data.toList k a → s[k]=38 → entX (s.data.toList.drop (k+1))=some (c,n) → RdAt s.data.toList (k+1+n) (a++[c])∧k+1+n≤s.size):=fun k n c a h hr hc he =>
  ⟨rd_ent hr (by omega) (by rw [getB s k h]; exact hc) he,by have:=ent_long he; rw [List.length_drop] at this; omega⟩
 have HF:=hid (found_step s);have HI:=hid (fun nb k=>isAt_ext s nb k);have HX:Hid (∀ (k n:Nat),s.size < k+n → n ≠ 0 → ∀ nb:ByteArray,nb.size=n → isAt s.data.toList k nb.data.toList=false):=fun k n h h0 nb hn=>isAt_long (by rw [len_data,len_data]; omega) (.inl (fun e=>by have:=len_data nb; rw [e] at this; simp at this; omega));generalize s.data.toList=l at HP HN0 HEn HF HI HX hl ⊢
 go_enter Tryz.func168,Tryz.ntmps168
 go_wp2;generalize World.alloc _ _=W0 at hN hbn ⊢
 go_loopw [5,6] (fun o i wr=>∃ (k q:Nat) (a:List UInt8),k≤s.size∧i=.int .i64 k∧o=.string ⟨a.toArray⟩∧wr=W0.drewN q∧Hid (RdAt l k a)) (fun _ i _=>s.size - (intOf i).toNat)
 case atStart=>exact ⟨0,0,[],Nat.zero_le _,rfl,rfl,rfl,rd_zero l⟩
 case round =>
  obtain ⟨k,q,a,hk,rfl,rfl,rfl,hrd⟩:=hrel;by_cases hlt:k < s.size
  ·have hbd:=u8_bd s[k];have hw1:IntKind.i64.wrap ((k:Int)+1)=((k+1:Nat):Int):=by rw [IntKind.wrap_i64]; omega
   have hz:=size_list a;have hal:a.length≤1048576:=by have:=hrd.out.2; omega
   by_cases h38:s[k]=38
   ·have q1:((s[k].toNat:Int)==38)=true:=u8_eq (b:=38) h38;have HE0:=hid (HN0.out k a hlt hrd.out h38);have HE1:=hid (fun n c=>HEn.out k n c a hlt hrd.out h38);have HFo:=hid (found_ent (l.drop (k+1)));clear HP HN0 HEn h38 hrd;have q1n:((s[k].toNat:Int) != 38)=false:=by rw [bne,q1]; rfl
    go_wp2
    go_loopw [7,8] (fun f i wr=>∃ (j q:Nat),j≤5∧i=.int .i64 j∧f=.int .i64 (foundK (l.drop (k+1)) j)∧wr=W0.drewN q) (fun _ i _=>5 - (intOf i).toNat)
    case atStart=>exact ⟨0,q,by omega,rfl,rfl,rfl⟩
    case round =>
     obtain ⟨j,q2,hj,rfl,rfl,rfl⟩:=hrel;by_cases hj5:j < 5
     ·obtain ⟨hna,hn5,hn1⟩:=nameB_at hj5;have f1:=hN.out j hj5;have hfs:=hid (HF.out (nameB j) k j hj5 hna);have hie:=hid (HI.out (nameB j) (k+1));have hxe:=hid (fun h=>HX.out (k+1) (nameB j).size h (by omega) (nameB j) rfl);have q6:(j:Int) < 5:=by omega
      clear hna;generalize nameB j=nb at f1 hn5 hn1 hfs hie hxe;have hw2:IntKind.i64.wrap ((k:Int)+1+(nb.size:Int))=(k:Int)+1+(nb.size:Int):=by rw [IntKind.wrap_i64]; omega
      clear HE0 HE1 HFo HF HI HX hN;by_cases hfit:k+1+nb.size≤s.size
      ·have q7:(k:Int)+1+(nb.size:Int)≤(s.size:Int):=by omega
       have q8:(k:Int)+1≤(k:Int)+1+(nb.size:Int):=by omega
       have q10:((k:Int)+1+(nb.size:Int)).toNat=k+1+nb.size:=by omega
       have q9:((k:Int)+1).toNat=k+1:=by omega
       cases hb:isAt l (k+1) nb.data.toList with
       | true =>
        have hie2:((s.extract (k+1) (k+1+nb.size)).toList==nb.toList)=true:=by rw [hie.out]; exact hb
        rw [hb,if_pos rfl] at hfs;clear hie hb hxe;go_wp2
        go_quiet (fail)
        go_wp2;go_roundw
        case rel=>exact ⟨j+1,q2+nq,by omega,by go_num,by rw [hfs.out],rfl⟩
        case measure=>simp [intOf]; omega
       | false =>
        have hie2:((s.extract (k+1) (k+1+nb.size)).toList==nb.toList)=false:=by rw [hie.out]; exact hb
        rw [hb,if_neg (by simp)] at hfs;clear hie hb hxe;go_wp2
        go_quiet (fail)
        go_wp2;go_roundw
        case rel=>exact ⟨j+1,q2+nq,by omega,by go_num,by rw [hfs.out],rfl⟩
        case measure=>simp [intOf]; omega
      ·have q7:¬ (k:Int)+1+(nb.size:Int)≤(s.size:Int):=by omega
       have q8:decide ((k:Int)+1+(nb.size:Int)≤(s.size:Int))=false:=decide_eq_false q7;rw [hxe.out (by omega),if_neg (by simp)] at hfs;clear hie hxe;go_wp2
       go_quiet (fail)
       go_wp2;go_roundw
       case rel=>exact ⟨j+1,q2+nq,by omega,by go_num,by rw [hfs.out],rfl⟩
       case measure=>simp [intOf]; omega
     ·have hj6:j=5:=by omega
      subst hj6
      rcases HFo.out with ⟨hf,he⟩ | ⟨j,hj4,hf,he⟩
      ·have hv:=hid (readR_none (HE0.out he));rw [hf];clear HE0 HE1 HFo HF HI HX hN he hf;go_wp2;go_ret2;exact ⟨by rw [← hv.out]; rfl,hbn.trans (belowD _ _ _)⟩
      ·obtain ⟨hr2,hr3⟩:=HE1.out _ _ he;have hR2:=hid hr2;obtain ⟨hsg,hnl⟩:=signs_at hj4;have hj5:j < 5:=by (have:entK.length=5:=rfl); omega
       have f1:=hN.out j hj5;rw [hf];generalize entK[j].2=c at hR2 hsg;have q6:(j:Int) < 5:=by omega
       rw [← hnl] at hR2 hr3;obtain ⟨hna,hn5,hn1⟩:=nameB_at hj5;clear hna hnl hr2;generalize nameB j=nb at f1 hR2 hr3 hn5 hn1;have hw2:IntKind.i64.wrap ((k:Int)+1+(nb.size:Int))=(k:Int)+1+(nb.size:Int):=by rw [IntKind.wrap_i64]; omega
       have hw3:IntKind.i64.wrap ((j:Int)+1)=((j+1:Nat):Int):=by rw [IntKind.wrap_i64]; omega
       have q8:((j+1:Nat):Int)≤5:=by omega
       have HG:=hid (glueB a #[c]);clear HE0 HE1 HFo HF HI HX hN he hf;go_wp2;go_roundw
       case rel=>exact ⟨k+1+nb.size,q2,a++[c],hr3,by go_num,by rw [HG.out],rfl,hR2⟩
       case measure=>simp [intOf]; omega
   ·have q1:((s[k].toNat:Int)==38)=false:=u8_ne (b:=38) h38;have hrd2:=hid (HP.out k a hlt hrd.out h38);have he:=one_ext s k hlt;have hb1:((k+1:Nat):Int)≤(s.size:Int):=by omega
    have HG:=hid (glueB a #[s[k]]);clear hrd h38 HP HN0 HEn HF HI HX hN;go_wp2;go_roundw
    case rel=>exact ⟨k+1,q,a++[s[k]],by omega,by go_num,by rw [HG.out],rfl,hrd2⟩
    case measure=>simp [intOf]; omega
  ·have hv:=hid (readR_some (rd_end hrd.out (by omega)));clear hrd HP HN0 HEn HF HI HX hN;go_wp2;go_ret2;exact ⟨by rw [← hv.out]; rfl,hbn.trans (belowD _ _ _)⟩
def attrR (o:Option (Par × Nat)):Value:=match o with
 | some (p,n)=>.tuple #[.agg #[.string ⟨p.name.toArray⟩,.string ⟨p.value.toArray⟩,.bool p.has],.int .i64 n]
 | none=>.tuple #[.agg #[.string ⟨#[]⟩,.string ⟨#[]⟩,.bool false],.int .i64 (-1)]
theorem suf_drop {a b:List UInt8} (h:a <:+ b):a=b.drop (b.length - a.length):=by
 obtain ⟨t,rfl⟩:=h;rw [List.length_append,Nat.add_sub_cancel,List.drop_left]
theorem refall_list (l:List UInt8) (c:Int) (w:World) (h:l.length≤1000) :
  Calls Tryz.prog 47 #[.string ⟨l.toArray⟩,.int .i64 c] w fun e w'=>e=.returned (.bool (allB c l))∧w'=w:=refall_any ⟨l.toArray⟩ c w (by rw [size_list]; unfold maxLen; omega)
theorem refnum4_list (l:List UInt8) (w:World) (h:l.length≤1000) :
  Calls Tryz.prog 48 #[.string ⟨l.toArray⟩,.int .i64 10000] w fun e w'=>e=.returned (.tuple #[.int .i64 (numV 10000 l).1,.int .i64 (numV 10000 l).2])∧w'=w:=refnumber_any ⟨l.toArray⟩ 10000 w (by rw [size_list]; unfold maxLen; omega) (by decide) (by decide)
def thouAB (a b:List UInt8):Int :=
 if ¬ (a=[48]∨a=[49])∨3 < b.length∨allB 1 b=false then -1
 else if 1000 < (numV 10000 (a++(b++List.replicate (3 - b.length) 48))).1 then -1
 else (numV 10000 (a++(b++List.replicate (3 - b.length) 48))).1
theorem thou_ab (s:List UInt8):thouV s=thouAB (cutL 46 s).1 (cutL 46 s).2.1:=rfl
set_option maxHeartbeats 1000000 in
set_option maxRecDepth 100000 in
theorem rthou_any (l:List UInt8) (w:World) (h:l.length≤140737488355328) :
  Calls Tryz.prog 19 #[.string ⟨l.toArray⟩] w fun e w'=>e=.returned (.int .i64 (thouV l))∧∃ q,w'=w.drewN q:=by
 have K:=hid (fun w'=>cut3_any ⟨l.toArray⟩ 46 w' (by rw [size_list]; unfold maxLen; omega));rw [show (⟨l.toArray⟩:ByteArray).data.toList=l from by simp] at K;have hlen:=cutL_len 46 l;rw [thou_ab];generalize cutL 46 l=C at K hlen ⊢;obtain ⟨a,b,o⟩:=C;simp only at K hlen ⊢;have hv:thouAB a b=if ¬ (a=[48]∨a=[49])∨3 < b.length∨allB 1 b=false then -1 else if 1000 < (numV 10000 (a++(b++List.replicate (3 - b.length) 48))).1 then -1 else (numV 10000 (a++(b++List.replicate (3 - b.length) 48))).1:=rfl
 generalize thouAB a b=R at hv ⊢;have za:=size_list a;have zb:=size_list b;have hbl:b.length≤140737488355328:=by omega
 by_cases ha:a=[48]∨a=[49]
 case neg =>
  rw [if_pos (.inl ha)] at hv;have HV:=hid hv;have n1:(a != [48])=true:=by simp; exact fun e=>ha (.inl e)
  have n2:(a != [49])=true:=by simp; exact fun e=>ha (.inr e)
  have n3:(a==[48])=false:=by rw [beq_eq_false_iff_ne]; exact fun e=>ha (.inl e)
  have n4:(a==[49])=false:=by rw [beq_eq_false_iff_ne]; exact fun e=>ha (.inr e)
  clear hv ha
  go_enter Tryz.func19,Tryz.ntmps19
  go_wp2_with fail
  refine (K.out _).mono ?_
  rintro e w1 ⟨rfl,q,rfl⟩;go_wp2;go_ret;exact ⟨by rw [HV.out]; rfl,q,rfl⟩
 have hab:((a != [48]) && (a != [49]))=false:=by rcases ha with rfl | rfl <;> rfl
 have hal:a.length=1:=by rcases ha with rfl | rfl <;> rfl
 by_cases hb:3 < b.length
 ·rw [if_pos (.inr (.inl hb))] at hv;have HV:=hid hv;have r3:(3:Int) < (b.length:Int):=by omega
  clear hv
  rcases ha with rfl | rfl
  all_goals
   go_enter Tryz.func19,Tryz.ntmps19
   go_wp2_with fail
   refine (K.out _).mono ?_
   rintro e w1 ⟨rfl,q,rfl⟩;go_wp2;go_ret;exact ⟨by rw [HV.out]; rfl,q,rfl⟩
 have r3:¬ (3:Int) < (b.length:Int):=by omega
 have KA:=hid (fun w'=>refall_list b 1 w' (by omega))
 cases hall:allB 1 b with
 | false =>
  rw [hall] at KA;rw [if_pos (.inr (.inr hall))] at hv;have HV:=hid hv;clear hv hall
  rcases ha with rfl | rfl
  all_goals
   go_enter Tryz.func19,Tryz.ntmps19
   go_wp2_with fail
   refine (K.out _).mono ?_
   rintro e w1 ⟨rfl,q,rfl⟩;go_wp2_with fail
   refine (KA.out _).mono ?_
   rintro e w' ⟨rfl,hw'⟩; rw [hw']; clear hw' w'
   go_wp2;go_ret;exact ⟨by rw [HV.out]; rfl,q,rfl⟩
 | true =>
  rw [hall] at KA;rw [if_neg (by simp [ha,hall]; omega)] at hv;have KN:=hid (fun w'=>refnum4_list (a++(b++List.replicate (3 - b.length) 48)) w' (by simp; omega));generalize (numV 10000 (a++(b++List.replicate (3 - b.length) 48)))=N at hv KN;obtain ⟨nv,ne⟩:=N;simp only at hv KN;rw [← glueLL] at KN;have HV:=hid hv;clear hv hall
  rcases ha with rfl | rfl
  all_goals
   go_enter Tryz.func19,Tryz.ntmps19
   go_wp2_with fail
   refine (K.out _).mono ?_
   rintro e w1 ⟨rfl,q,rfl⟩;go_wp2_with fail
   refine (KA.out _).mono ?_
   rintro e w' ⟨rfl,hw'⟩; rw [hw']; clear hw' w'
   go_wp2
   go_loop [4] (fun v=>∃ i:Nat,v=.string ⟨(b++List.replicate i 48).toArray⟩∧b.length+i≤3) (fun v=>3 - lenV v)
   case atStart=>exact ⟨0,by simp,by omega⟩
   case round =>
    obtain ⟨i,rfl,hi⟩:=hrel;have zz:=size_list (b++List.replicate i 48);have hgl:=glueLL (b++List.replicate i 48) [48];have hrep:b++List.replicate i 48++[48]=b++List.replicate (i+1) 48:=by rw [List.append_assoc,List.replicate_succ']
    rw [hrep] at hgl;have HGL:=hid hgl;have hll:(b++List.replicate i 48).length=b.length+i:=by simp
    rw [hll] at zz;by_cases h3:b.length+i=3
    ·have ei:3 - b.length=i:=by omega
     rw [ei] at KN;clear HGL hgl hrep;generalize b++List.replicate i 48=B at KN zz hll;have zB:B.length=3:=by omega
     have r5:¬ ((b.length+i:Nat):Int) < 3:=by omega
     by_cases hn:1000 < nv
     ·have HR:Hid (R=-1):=show _=_ by rw [HV.out,if_pos hn]
      clear HV;go_wp2_with (go_at_call 48; refine (KN.out _).mono ?_; rintro e w' ⟨rfl,hw'⟩; rw [hw']; clear hw' w')
      go_ret;exact ⟨by rw [HR.out]; rfl,q,rfl⟩
     ·have HR:Hid (R=nv):=show _=_ by rw [HV.out,if_neg hn]
      clear HV;go_wp2_with (go_at_call 48; refine (KN.out _).mono ?_; rintro e w' ⟨rfl,hw'⟩; rw [hw']; clear hw' w')
      go_ret;exact ⟨by rw [HR.out]; rfl,q,rfl⟩
    ·have r5:((b.length+i:Nat):Int) < 3:=by omega
     clear hrep hgl;go_wp2
     go_round
     case rel=>exact ⟨i+1,by rw [← HGL.out],by omega⟩
     case measure =>
      have zy:((⟨(b++List.replicate i 48).toArray⟩:ByteArray)++⟨#[48]⟩).size=b.length+i+1:=by rw [ByteArray.size_append,zz]; rfl
      show 3 - ((⟨(b++List.replicate i 48).toArray⟩:ByteArray)++⟨#[48]⟩).size < 3 - (⟨(b++List.replicate i 48).toArray⟩:ByteArray).size
      rw [zy,zz];omega
theorem rlocal_any (l:List UInt8) (w:World) (h:l.length≤140737488355328) :
  Calls Tryz.prog 38 #[.string ⟨l.toArray⟩] w fun e w'=>e=.returned (.string ⟨(localX l).toArray⟩)∧Below w.heap.size w w':=by
 have K:=hid (fun w'=>cut3_any ⟨l.toArray⟩ 58 w' (by rw [size_list]; unfold maxLen; omega));rw [show (⟨l.toArray⟩:ByteArray).data.toList=l from by simp] at K;have hv:localX l=if (cutL 58 l).2.2=true then (cutL 58 l).2.1 else (cutL 58 l).1:=rfl
 generalize localX l=R at hv ⊢;generalize cutL 58 l=C at K hv;obtain ⟨a,b,o⟩:=C;simp only at K hv;have HV:=hid hv;clear hv
 go_enter Tryz.func38,Tryz.ntmps38
 go_wp2_with fail
 refine (K.out _).mono ?_
 rintro e w1 ⟨rfl,q,rfl⟩
 cases o with
 | true =>
  go_wp2;go_ret;exact ⟨by rw [HV.out]; rfl,below_drewN _ _⟩
 | false =>
  go_wp2;go_ret;exact ⟨by rw [HV.out]; rfl,below_drewN _ _⟩
theorem attG_at {nm:List UInt8} {l:List Par} {k:Nat} (hk:k < l.length):attG nm (l.drop k)=if l[k].name=nm then some l[k].value else attG nm (l.drop (k+1)):=by
 rw [List.drop_eq_getElem_cons hk,attG]
theorem attG_end {nm:List UInt8} {l:List Par} {k:Nat} (hk:l.length≤k):attG nm (l.drop k)=none:=by
 rw [List.drop_eq_nil_of_le hk,attG]
def attV (o:Option (List UInt8)):Value:=match o with
 | none=>.tuple #[.string ⟨#[]⟩,.bool false]
 | some v=>.tuple #[.string ⟨v.toArray⟩,.bool true]
set_option maxHeartbeats 2000000 in
set_option maxRecDepth 100000 in
theorem rattG_any (x:Nd) (a:Value) (nm:List UInt8) (w:World) (hz:x.attrs.length≤140737488355328) (hv:ParsAt w a x.attrs) :
  Calls Tryz.prog 36 #[ndV x a,.string ⟨nm.toArray⟩] w fun e w'=>e=.returned (attV (attG nm x.attrs))∧Below w.heap.size w w':=by
 obtain ⟨xd,xn,ps,xt⟩:=x;unfold ndV;simp only at hz hv ⊢;obtain ⟨ao,cap,rfl,hc⟩:=hv.open;have HC:=hid hc;have hbn:Below w.heap.size w (w.alloc (.cells #[.int .i64 xd,.string ⟨xn.toArray⟩,.slice ao ps.length cap,.string ⟨xt.toArray⟩] 52)):=(Below.refl _ w).alloc (Nat.le_refl _) _;have hr:=rc_row4 w (.int .i64 xd) (.string ⟨xn.toArray⟩) (.slice ao ps.length cap) (.string ⟨xt.toArray⟩) 52;obtain ⟨R,hR⟩:∃ R,R=attG nm ps:=⟨_,rfl⟩
 rw [← hR];have HR:Hid (R=attG nm (ps.drop 0)):=hR;obtain ⟨n,hn⟩:∃ n,n=ps.length:=⟨_,rfl⟩
 rw [← hn] at hz hbn hr ⊢;have HL:=hid hn;clear hn hR hc hv;obtain ⟨b0,b1,b2,b3,_,_,_,_⟩:=hr.rc4;clear hr
 go_enter Tryz.func36,Tryz.ntmps36
 go_wp2;generalize World.alloc w _=W at hbn b0 b1 b2 b3 ⊢
 go_loopw [6] (fun i wr=>∃ k:Nat,k≤n∧i=.int .i64 k∧Hid (R=attG nm (ps.drop k))∧wr=W) (fun i _=>n - (intOf i).toNat)
 case atStart=>exact ⟨0,Nat.zero_le _,rfl,HR,rfl⟩
 case round =>
  obtain ⟨k,hk,rfl,hv,rfl⟩:=hrel;clear HR;by_cases hlt:k < n
  ·have hkl:k < ps.length:=by have:=HL.out; omega
   obtain ⟨ad,hao,hab,c0,c1,c2⟩:=HC.out k hkl;subst hao;have hv2:=hv.out;rw [attG_at hkl] at hv2;have q6:(k:Int) < (n:Int):=by omega
   have a0:=cell_below hbn (by rw [add_block]; exact hab) c0;have a1:=cell_below hbn (by simp only [add_block]; exact hab) c1;clear c0 c1 c2;generalize ps[k]=P at a0 a1 hv2;obtain ⟨pn,pv,ph⟩:=P;simp only at a0 a1 hv2;by_cases he:pn=nm
   ·rw [if_pos he] at hv2;have hE:=hid hv2;have e1:(pn==nm)=true:=by rw [beq_iff_eq]; exact he
    clear hv hv2 he;go_wp2;go_ret2;exact ⟨by rw [hE.out]; rfl,hbn⟩
   ·rw [if_neg he] at hv2;have hE:=hid hv2;have e1:(pn==nm)=false:=by rw [beq_eq_false_iff_ne]; exact he
    clear hv hv2 he;go_wp2;go_roundw
    case rel=>exact ⟨k+1,by omega,by go_num,hE,by first | rfl | trivial⟩
    case measure=>simp [intOf]; omega
  ·have hE:Hid (R=none):=show _=_ by rw [hv.out]; exact attG_end (by have:=HL.out; omega)
   have q6:¬ (k:Int) < (n:Int):=by omega
   clear hv;go_wp2;go_ret2;exact ⟨by rw [hE.out]; rfl,hbn⟩
end Go.Proofs.YtdnekampnkhmfaaGreatDoor
