/-
  XmlL, XmlBackL, XmlTreeL, XmlDocL, OpenNode, RefCut, ParOwn, NdOwn, NdFr, PidfL.
-/
import Derived.Test.YtdnekampnkhmfaaGreatDoorPK06
import Derived.OpenShut
import Derived.OneCell
import Derived.Laws.OwnMore
import Derived.Deep.AppendLies
set_option linter.unusedVariables false
set_option linter.unusedSimpArgs false
set_option maxRecDepth 20000
namespace Go.Proofs.YtdnekampnkhmfaaGreatDoor
open Go.RowKit Sc
theorem xtrim_ends {l:List UInt8} (h:xtrim l=l):(∀ b,l.head? = some b → xblk b=false)∧∀ b,l.getLast? = some b → xblk b=false:=by
 refine ⟨fun b hb=>?_,fun b hb=>?_⟩
 ·rw [← h] at hb;unfold xtrim at hb;rw [List.head?_reverse] at hb;have hs:(l.dropWhile xblk).reverse.dropWhile xblk <:+ (l.dropWhile xblk).reverse:=List.dropWhile_suffix _;obtain ⟨p,hp⟩:=hs;have hl:(l.dropWhile xblk).reverse.getLast? = some b:=by
   rw [← hp,List.getLast?_append,hb]; rfl
  rw [List.getLast?_reverse] at hl
  cases hd:l.dropWhile xblk with
  | nil=>rw [hd] at hl; simp at hl
  | cons x r =>
   rw [hd] at hl; simp at hl; subst hl
   have:=List.head?_dropWhile_not xblk l
   rw [hd] at this; simpa using this
 ·rw [← h] at hb;unfold xtrim at hb;rw [List.getLast?_reverse] at hb
  have:=List.head?_dropWhile_not xblk (l.dropWhile xblk).reverse
  rw [hb] at this; simpa using this
theorem escS_ends:∀ b:UInt8,(∀ x,(escS b).head? = some x → xblk x=true → xblk b=true)∧(∀ x,(escS b).getLast? = some x → xblk x=true → xblk b=true):=by
 have h:∀ b:UInt8,((escS b).head?.all fun x=>!xblk x || xblk b)=true∧((escS b).getLast?.all fun x=>!xblk x || xblk b)=true:=by apply byte_all; decide +kernel
 intro b;refine ⟨fun x hx hb=>?_,fun x hx hb=>?_⟩
 ·have:=(h b).1; rw [hx] at this; simpa [hb] using this
 ·have:=(h b).2; rw [hx] at this; simpa [hb] using this
theorem escS_ne:∀ b:UInt8,escS b ≠ []:=by apply byte_all; decide +kernel
theorem xtrim_esc {l:List UInt8} (h:xtrim l=l):xtrim (escX l)=escX l:=by
 obtain ⟨h1,h2⟩:=xtrim_ends h
 apply xtrim_id
 ·intro x hx
  cases l with
  | nil=>simp [escX] at hx
  | cons b r =>
   have e:escX (b :: r)=escS b++escX r:=by simp [escX]
   rw [e] at hx;have hx2:(escS b).head? = some x:=by
    cases hq:escS b with
    | nil=>exact absurd hq (escS_ne b)
    | cons y q=>rw [hq] at hx; simpa using hx
   cases hb:xblk x with
   | false=>rfl
   | true=>have:=h1 b rfl; rw [(escS_ends b).1 x hx2 hb] at this; simp at this
 ·intro x hx
  rcases List.eq_nil_or_concat l with rfl | ⟨r,b,rfl⟩
  ·simp [escX] at hx
  ·have e:escX (r++[b])=escX r++escS b:=by simp [escX]
   simp only [List.concat_eq_append] at hx h2;rw [e] at hx;have hx2:=last_app (escS_ne b) hx
   cases hb:xblk x with
   | false=>rfl
   | true=>have:=h2 b (by simp); rw [(escS_ends b).2 x hx2 hb] at this; simp at this
theorem namc_facts:∀ b:UInt8,namc b=true → xblk b=false∧b ≠ 47∧b ≠ 62∧b ≠ 61∧b ≠ 60∧b ≠ 34:=by apply byte_all; decide +kernel
theorem name_factsX {l:List UInt8} (h:nameX l=true):l ≠ []∧(∀ b ∈ l,namc b=true):=by
 simp only [nameX,Bool.and_eq_true] at h;refine ⟨?_,fun b hb=>List.all_eq_true.1 h.1 b hb⟩
 intro e; subst e; simp at h
def xbehind (l:List UInt8):List UInt8:=(l.reverse.dropWhile xblk).reverse
def attrX (s:List UInt8):Option (Par × List UInt8) :=
 match (s.dropWhile (· != 61)) with
 | []=>none
 | _ :: r=>match r.dropWhile xblk with
  | []=>none
  | q :: r2=>if q ≠ 34∧q ≠ 39 then none
   else match r2.dropWhile (fun b=>b != q && b != 60) with
    | []=>none
    | e :: r3=>if e ≠ q then none else (readX (r2.takeWhile (fun b=>b != q && b != 60))).map fun v=>(⟨xbehind (s.takeWhile (· != 61)),v,true⟩,r3)
def attrsX:Nat → List Par → List UInt8 → Option (List Par × List UInt8)
 | 0,_,_=>none
 | n+1,acc,s=>match s.dropWhile xblk with
  | []=>some (acc,[])
  | b :: r=>if b=47∨b=62 then some (acc,b :: r) else if s.head?.any xblk=false then none else match attrX (b :: r) with
   | none=>none
   | some (p,r2)=>attrsX n (acc++[p]) r2
def endc (b:UInt8):Bool:=b==47 || (b==62 || xblk b)
mutual
def elemX:Nat → Nat → Nat → List UInt8 → Option (List Nd × List UInt8)
 | 0,_,_,_=>none
 | n+1,d,c,s=>match s with
  | []=>none
  | b :: r=>if 8≤d∨200≤c∨b ≠ 60 then none
   else if r.dropWhile (fun b=>!endc b)=[] then none
   else match attrsX r.length [] (r.dropWhile (fun b=>!endc b)) with
    | none=>none
    | some (at',r2)=>match r2 with
     | 47 :: 62 :: r3=>some ([⟨d,r.takeWhile (fun b=>!endc b),at',[]⟩],r3)
     | 62 :: r3=>contX n ⟨d,r.takeWhile (fun b=>!endc b),at',[]⟩ d c [] [] r3
     | _=>none
def contX:Nat → Nd → Nat → Nat → List UInt8 → List Nd → List UInt8 → Option (List Nd × List UInt8)
 | 0,_,_,_,_,_,_=>none
 | n+1,x,d,c,txt,kids,s=>match s.dropWhile (· != 60) with
  | []=>none
  | b :: r =>
   if r.head? = some 47 then
    (if r.tail.take x.name.length ≠ x.name then none else match (r.tail.drop x.name.length).dropWhile xblk with
     | 62 :: r3=>(readX (xtrim (txt++s.takeWhile (· != 60)))).map fun t=>({ x with text:=xtrim t } :: kids,r3)
     | _=>none)
   else match elemX n (d+1) (c+1+kids.length) (b :: r) with
    | none=>none
    | some (ks,r3)=>contX n x d c (txt++s.takeWhile (· != 60)) (kids++ks) r3
end
inductive XT where
 | mk (name:List UInt8) (attrs:List Par) (text:List UInt8) (kids:List XT)
def attrT (p:Par):List UInt8:=[32]++p.name++[61,34]++escX p.value++[34]
def attrsT (l:List Par):List UInt8:=l.flatMap attrT
mutual
def printX:XT → List UInt8
 | .mk n a t k=>[60]++n++attrsT a++(if escX t++printXs k=[] then [47,62] else [62]++(escX t++printXs k)++([60,47]++n++[62]))
def printXs:List XT → List UInt8
 | []=>[]
 | k :: ks=>printX k++printXs ks
end
mutual
def flatX:Nat → XT → List Nd
 | d,.mk n a t k=>⟨d,n,a,t⟩ :: flatXs (d+1) k
def flatXs:Nat → List XT → List Nd
 | _,[]=>[]
 | d,k :: ks=>flatX d k++flatXs d ks
end
mutual
def szX:XT → Nat
 | .mk _ _ _ k=>szXs k+2
def szXs:List XT → Nat
 | []=>1
 | k :: ks=>szX k+szXs ks+1
end
mutual
def okX:Nat → XT → Bool
 | d,.mk n a t k=>decide (d < 8) && (nameX n && (a.all (fun p=>nameX p.name && p.has) && (xtrim t==t && ((k.isEmpty || t.isEmpty) && okXs (d+1) k))))
def okXs:Nat → List XT → Bool
 | _,[]=>true
 | d,k :: ks=>okX d k && okXs d ks
end
theorem takeW_app {p:UInt8 → Bool} {a:List UInt8} {c:UInt8} {r:List UInt8} (h:∀ b ∈ a,p b=true) (hc:p c=false):(a++c :: r).takeWhile p=a∧(a++c :: r).dropWhile p=c :: r:=by
 induction a with
 | nil=>simp [List.takeWhile_cons,List.dropWhile_cons,hc]
 | cons x a ih =>
  have hx:=h x (by simp);obtain ⟨i1,i2⟩:=ih (fun b hb=>h b (by simp [hb]));rw [List.cons_append,List.takeWhile_cons,List.dropWhile_cons,hx]
  simp [i1,i2]
theorem xbehind_id {l:List UInt8} (h:∀ b ∈ l,xblk b=false):xbehind l=l:=by
 unfold xbehind;rw [xdrop_id (fun b hb=>h b (by have:=List.mem_of_mem_head? hb; simpa using this)),List.reverse_reverse]
theorem attr_back {p:Par} (h:nameX p.name=true) (hh:p.has=true) (r:List UInt8):attrX (p.name++[61,34]++escX p.value++[34]++r)=some (p,r):=by
 obtain ⟨_,hn⟩:=name_factsX h;have e:p.name++[61,34]++escX p.value++[34]++r=p.name++61 :: (34 :: (escX p.value++34 :: r)):=by simp
 have t1:=takeW_app (p:=fun b=>b != 61) (a:=p.name) (c:=61) (r:=34 :: (escX p.value++34 :: r)) (fun b hb=>by have:=(namc_facts b (hn b hb)).2.2.2.1; simpa using this) (by simp);have hf:=escX_free p.value;have t2:=takeW_app (p:=fun b=>b != 34 && b != 60) (a:=escX p.value) (c:=34) (r:=r) (fun b hb=>by
  have h1:b ≠ 34:=fun e=>hf.2.2 (e ▸ hb);have h2:b ≠ 60:=fun e=>hf.1 (e ▸ hb)
  simp [h1,h2]) (by simp)
 unfold attrX;rw [e,t1.1,t1.2]
 simp only
 have e34:(34 :: (escX p.value++34 :: r)).dropWhile xblk=34 :: (escX p.value++34 :: r):=xdrop_id (by intro b hb; simp at hb; subst hb; decide +kernel);rw [e34]
 simp only
 rw [if_neg (by simp),t2.2]
 simp only
 rw [if_neg (by simp),t2.1,read_esc,xbehind_id fun b hb=>(namc_facts b (hn b hb)).1];obtain ⟨nm,vl,hs⟩:=p;simp only at hh; subst hh; rfl
theorem attrs_back:∀ (l acc:List Par) (n:Nat) (c:UInt8) (r:List UInt8),l.length < n → (∀ p ∈ l,nameX p.name=true∧p.has=true) → (c=47∨c=62) → attrsX n acc (attrsT l++c :: r)=some (acc++l,c :: r)
 | [],acc,0,c,r,h,_,_=>by simp at h
 | [],acc,n+1,c,r,h,_,hc=>by
  have hx:xblk c=false:=by rcases hc with rfl | rfl <;> decide +kernel
  rw [attrsT,List.flatMap_nil,List.nil_append,attrsX];have e:(c :: r).dropWhile xblk=c :: r:=xdrop_id (by intro b hb; simp at hb; subst hb; exact hx);rw [e]
  simp only
  rw [if_pos hc]; simp
 | p :: l,acc,0,c,r,h,_,_=>by simp at h
 | p :: l,acc,n+1,c,r,h,ha,hc=>by
  obtain ⟨h1,h2⟩:=ha p (by simp);obtain ⟨hne,hn⟩:=name_factsX h1;have e:attrsT (p :: l)++c :: r=32 :: (p.name++[61,34]++escX p.value++[34]++(attrsT l++c :: r)):=by simp [attrsT,attrT]
  rw [e,attrsX];have x32:xblk 32=true:=by decide +kernel
  cases hq:p.name with
  | nil=>exact absurd hq hne
  | cons y q =>
   have hy:=namc_facts y (hn y (by rw [hq]; simp));have e2:(32 :: (y :: q++[61,34]++escX p.value++[34]++(attrsT l++c :: r))).dropWhile xblk=y :: (q++[61,34]++escX p.value++[34]++(attrsT l++c :: r)):=by
    rw [List.dropWhile_cons,x32];simp only [if_true];rw [show y :: q++[61,34]++escX p.value++[34]++(attrsT l++c :: r)=y :: (q++[61,34]++escX p.value++[34]++(attrsT l++c :: r)) by simp,List.dropWhile_cons,hy.1]; rfl
   rw [e2]
   simp only
   rw [if_neg (by rintro (e | e); exact hy.2.1 e; exact hy.2.2.1 e),if_neg (by simp [x32])];have e3:y :: (q++[61,34]++escX p.value++[34]++(attrsT l++c :: r))=p.name++[61,34]++escX p.value++[34]++(attrsT l++c :: r):=by rw [hq]; simp
   rw [e3,attr_back h1 h2]
   simp only
   rw [attrs_back l (acc++[p]) n c r (by simp at h; omega) (fun x hx=>ha x (by simp [hx])) hc]; simp
theorem okX_facts {d:Nat} {n:List UInt8} {a:List Par} {t:List UInt8} {k:List XT} (h:okX d (.mk n a t k)=true):d < 8∧nameX n=true∧(∀ p ∈ a,nameX p.name=true∧p.has=true)∧xtrim t=t∧(k=[]∨t=[])∧okXs (d+1) k=true:=by
 rw [okX] at h;simp only [Bool.and_eq_true,decide_eq_true_eq,beq_iff_eq,Bool.or_eq_true,List.isEmpty_iff] at h;obtain ⟨h1,h2,h3,h4,h5,h6⟩:=h;exact ⟨h1,h2,fun p hp=>by have:=List.all_eq_true.1 h3 p hp; simpa using this,h4,h5,h6⟩
theorem print_head (t:XT) (d:Nat) (h:okX d t=true):∃ y q,printX t=60 :: y :: q∧y ≠ 47:=by
 obtain ⟨n,a,tx,k⟩:=t;obtain ⟨_,h2,_⟩:=okX_facts h;obtain ⟨hne,hn⟩:=name_factsX h2
 cases hq:n with
 | nil=>exact absurd hq hne
 | cons y q =>
  rw [printX];exact ⟨y,_,rfl,(namc_facts y (hn y (by rw [hq]; simp))).2.1⟩
theorem attrs_len (a:List Par):a.length≤(attrsT a).length:=by
 induction a with
 | nil=>simp
 | cons p a ih =>
  have e:attrsT (p :: a)=attrT p++attrsT a:=by simp [attrsT]
  rw [e,List.length_append,List.length_cons]
  have:1≤(attrT p).length:=by simp [attrT]
  omega
theorem tail_end (a:List Par) (c:UInt8) (r:List UInt8) (hc:c=47∨c=62):∃ e q,attrsT a++c :: r=e :: q∧endc e=true:=by
 cases a with
 | nil=>exact ⟨c,r,by simp [attrsT],by rcases hc with rfl | rfl <;> decide +kernel⟩
 | cons p a=>exact ⟨32,_,by simp [attrsT,attrT]; rfl,by decide +kernel⟩
theorem front_back {n:List UInt8} {a:List Par} {c:UInt8} {r:List UInt8} (hn:nameX n=true) (ha:∀ p ∈ a,nameX p.name=true∧p.has=true) (hc:c=47∨c=62) :
  (n++(attrsT a++c :: r)).takeWhile (fun b=>!endc b)=n∧(n++(attrsT a++c :: r)).dropWhile (fun b=>!endc b)=attrsT a++c :: r∧attrsT a++c :: r ≠ []∧attrsX (n++(attrsT a++c :: r)).length [] (attrsT a++c :: r)=some (a,c :: r):=by
 obtain ⟨hne,hb⟩:=name_factsX hn;obtain ⟨e,q,he,hee⟩:=tail_end a c r hc;have hnn:∀ b ∈ n,(!endc b)=true:=fun b hx=>by
  obtain ⟨f1,f2,f3,_⟩:=namc_facts b (hb b hx)
  simp [endc,f1,f2,f3]
 have tw:=takeW_app (p:=fun b=>!endc b) (a:=n) (c:=e) (r:=q) hnn (by simp [hee]);rw [← he] at tw;refine ⟨tw.1,tw.2,by rw [he]; simp,?_⟩
 have hl:a.length < (n++(attrsT a++c :: r)).length:=by
  have:=attrs_len a
  have:1≤n.length:=by cases n with | nil=>exact absurd rfl hne | cons x y=>simp
  simp; omega
 have:=attrs_back a [] _ c r hl ha hc
 simpa using this
theorem close_back {m:Nat} {x:Nd} {d c:Nat} {txt:List UInt8} {acc:List Nd} {rest t:List UInt8} (ht:readX (xtrim txt)=some t):contX (m+1) x d c txt acc ([60,47]++x.name++[62]++rest)=some ({ x with text:=xtrim t } :: acc,rest):=by
 have e:[60,47]++x.name++[62]++rest=60 :: (47 :: (x.name++62 :: rest)):=by simp
 have ed:(60 :: (47 :: (x.name++62 :: rest))).dropWhile (fun b=>b != 60)=60 :: (47 :: (x.name++62 :: rest)):=by simp [List.dropWhile_cons]
 have et:(60 :: (47 :: (x.name++62 :: rest))).takeWhile (fun b=>b != 60)=[]:=by simp [List.takeWhile_cons]
 have ex:(62 :: rest).dropWhile xblk=62 :: rest:=xdrop_id (by intro b hb; simp at hb; subst hb; decide +kernel);rw [e,contX,ed,et];simp only [List.head?_cons,if_true,List.tail_cons];have e1:(x.name++62 :: rest).take x.name.length=x.name:=by simp
 have e2:(x.name++62 :: rest).drop x.name.length=62 :: rest:=by simp
 simp [ex,ht]
theorem text_back {m:Nat} {x:Nd} {d c:Nat} {t rest:List UInt8} (ht:xtrim t=t):contX (m+1) x d c [] [] (escX t++([60,47]++x.name++[62]++rest))=some ([{ x with text:=t }],rest):=by
 have hf:=(escX_free t).1;have tw:=takeW_app (p:=fun b=>b != 60) (a:=escX t) (c:=60) (r:=47 :: (x.name++62 :: rest)) (fun b hb=>by have:b ≠ 60:=fun e=>hf (e ▸ hb); simpa using this) (by simp);have e:escX t++([60,47]++x.name++[62]++rest)=escX t++60 :: (47 :: (x.name++62 :: rest)):=by simp
 have ex:(62 :: rest).dropWhile xblk=62 :: rest:=xdrop_id (by intro b hb; simp at hb; subst hb; decide +kernel);rw [e,contX,tw.2,tw.1];simp only [List.head?_cons,if_true,List.tail_cons,List.nil_append];have e1:(x.name++62 :: rest).take x.name.length=x.name:=by simp
 have e2:(x.name++62 :: rest).drop x.name.length=62 :: rest:=by simp
 simp [ex,xtrim_esc ht,read_esc,ht]
theorem printXs_nil {k:List XT} {d:Nat} (h:okXs d k=true) (e:printXs k=[]):k=[]:=by
 cases k with
 | nil=>rfl
 | cons t k =>
  rw [okXs,Bool.and_eq_true] at h;obtain ⟨y,q,hp,_⟩:=print_head t d h.1;rw [printXs,hp] at e; simp at e
theorem tree_back:∀ n:Nat,
  (∀ (t:XT) (d c:Nat) (rest:List UInt8),okX d t=true → szX t≤n → c+(flatX d t).length≤200 → elemX n d c (printX t++rest)=some (flatX d t,rest)) ∧
  (∀ (ks:List XT) (x:Nd) (d c:Nat) (acc:List Nd) (rest:List UInt8),okXs (d+1) ks=true → szXs ks≤n → c+1+acc.length+(flatXs (d+1) ks).length≤200 →
   contX n x d c [] acc (printXs ks++([60,47]++x.name++[62]++rest))=some ({ x with text:=[] } :: (acc++flatXs (d+1) ks),rest))
 | 0=>by
  refine ⟨fun t d c rest _ h _=>?_,fun ks x d c acc rest _ h _=>?_⟩
  ·obtain ⟨n,a,tx,k⟩:=t; rw [szX] at h; omega
  ·cases ks with
   | nil=>rw [szXs] at h; omega
   | cons t ks=>rw [szXs] at h; omega
 | n+1=>by
  obtain ⟨ih1,ih2⟩:=tree_back n;refine ⟨fun t d c rest hok hsz hc=>?_,fun ks x d c acc rest hok hsz hc=>?_⟩
  ·obtain ⟨nm,a,tx,k⟩:=t;obtain ⟨k1,k2,k3,k4,k5,k6⟩:=okX_facts hok;rw [szX] at hsz;have hfl:(flatX d (.mk nm a tx k)).length=1+(flatXs (d+1) k).length:=by rw [flatX]; simp; omega
   rw [printX];by_cases hin:escX tx++printXs k=[]
   ·rw [if_pos hin];simp only [List.append_eq_nil_iff] at hin;obtain rfl:=escX_nil.1 hin.1;obtain rfl:=printXs_nil k6 hin.2;have e:[60]++nm++attrsT a++[47,62]++rest=60 :: (nm++(attrsT a++47 :: (62 :: rest))):=by simp
    obtain ⟨f1,f2,f3,f4⟩:=front_back (n:=nm) (a:=a) (c:=47) (r:=62 :: rest) k2 k3 (Or.inl rfl);rw [e,elemX]
    try simp only
    rw [if_neg (by rintro (c1 | c1 | c1); omega; omega; exact c1 rfl),f2,if_neg f3,f4]
    simp only
    rw [f1,flatX,flatXs]
   ·rw [if_neg hin];have e:[60]++nm++attrsT a++([62]++(escX tx++printXs k)++([60,47]++nm++[62]))++rest=60 :: (nm++(attrsT a++62 :: ((escX tx++printXs k)++([60,47]++nm++[62]++rest)))):=by simp
    obtain ⟨f1,f2,f3,f4⟩:=front_back (n:=nm) (a:=a) (c:=62) (r:=(escX tx++printXs k)++([60,47]++nm++[62]++rest)) k2 k3 (Or.inr rfl);rw [e,elemX]
    try simp only
    rw [if_neg (by rintro (c1 | c1 | c1); omega; omega; exact c1 rfl),f2,if_neg f3,f4]
    simp only
    rw [f1]
    rcases k5 with rfl | rfl
    ·cases n with
     | zero=>rw [szXs] at hsz; omega
     | succ m =>
      rw [printXs,List.append_nil]
      have:=text_back (m:=m) (x:=⟨d,nm,a,[]⟩) (d:=d) (c:=c) (t:=tx) (rest:=rest) k4
      rw [this,flatX,flatXs]
    ·have he:escX ([]:List UInt8)=[]:=rfl;rw [he,List.nil_append]
     have:=ih2 k ⟨d,nm,a,[]⟩ d c [] rest k6 (by omega) (by simp; omega)
     rw [this,flatX]; rfl
  ·cases ks with
   | nil =>
    rw [printXs,List.nil_append,flatXs]
    have:=close_back (m:=n) (x:=x) (d:=d) (c:=c) (txt:=[]) (acc:=acc) (rest:=rest) (t:=[]) rfl
    rw [this]; simp [xtrim]
   | cons t ks =>
    rw [okXs,Bool.and_eq_true] at hok;rw [szXs] at hsz;have hfl:(flatXs (d+1) (t :: ks)).length=(flatX (d+1) t).length+(flatXs (d+1) ks).length:=by rw [flatXs]; simp
    obtain ⟨y,q,hp,hy⟩:=print_head t (d+1) hok.1;have e:printXs (t :: ks)++([60,47]++x.name++[62]++rest)=printX t++(printXs ks++([60,47]++x.name++[62]++rest)):=by rw [printXs]; simp
    rw [e];have hel:=ih1 t (d+1) (c+1+acc.length) (printXs ks++([60,47]++x.name++[62]++rest)) hok.1 (by omega) (by omega);rw [hp] at hel ⊢;have ed:(60 :: y :: q++(printXs ks++([60,47]++x.name++[62]++rest))).dropWhile (fun b=>b != 60)=60 :: (y :: (q++(printXs ks++([60,47]++x.name++[62]++rest)))):=by simp [List.dropWhile_cons]
    have et:(60 :: y :: q++(printXs ks++([60,47]++x.name++[62]++rest))).takeWhile (fun b=>b != 60)=[]:=by simp [List.takeWhile_cons]
    rw [contX,ed,et];simp only [List.head?_cons,List.append_nil];rw [if_neg (by simpa using hy)];have hel2:elemX n (d+1) (c+1+acc.length) (60 :: (y :: (q++(printXs ks++([60,47]++x.name++[62]++rest)))))=some (flatX (d+1) t,printXs ks++([60,47]++x.name++[62]++rest)):=by simpa using hel
    rw [hel2]
    simp only
    rw [ih2 ks x d c (acc++flatX (d+1) t) rest hok.2 (by omega) (by simp; omega),flatXs]
    simp
def distinctX:List Par → Bool
 | []=>true
 | p :: ps=>ps.all (fun q=>!(q.name==p.name)) && distinctX ps
def attrsOk (l:List Par):Bool:=decide (l.length≤16) && (l.all (fun p=>nameX p.name && (p.has && signsX p.value)) && distinctX l)
def nodeOk (x:Nd):Bool:=decide (x.deep < 8) && (nameX x.name && (attrsOk x.attrs && (signsX x.text && xtrim x.text==x.text)))
def nextOk (x y:Nd):Bool:=decide (1≤y.deep∧y.deep≤x.deep+1) && (!decide (x.deep < y.deep) || x.text.isEmpty)
def stepsX:List Nd → Bool
 | []=>true
 | [x]=>nodeOk x
 | x :: y :: r=>nodeOk x && (nextOk x y && stepsX (y :: r))
def checkX (l:List Nd):Int:=if l.length < 1∨200 < l.length∨(l.head?.map (·.deep)) ≠ some 0∨stepsX l=false then 130 else 0
theorem steps_tail {x:Nd} {r:List Nd} (h:stepsX (x :: r)=true):nodeOk x=true∧stepsX r=true∧(∀ y,r.head? = some y → nextOk x y=true):=by
 cases r with
 | nil=>rw [stepsX] at h; exact ⟨h,rfl,by simp⟩
 | cons y r =>
  rw [stepsX] at h;simp only [Bool.and_eq_true] at h;exact ⟨h.1,h.2.2,fun z hz=>by simp at hz; subst hz; exact h.2.1⟩
theorem steps_drop:∀ (a b:List Nd),stepsX (a++b)=true → stepsX b=true
 | [],b,h=>h
 | x :: a,b,h=>steps_drop a b (steps_tail h).2.1
theorem node_facts {x:Nd} (h:nodeOk x=true):x.deep < 8∧nameX x.name=true∧(x.attrs.all fun p=>nameX p.name && p.has)=true∧xtrim x.text=x.text:=by
 simp only [nodeOk,attrsOk,Bool.and_eq_true,decide_eq_true_eq,beq_iff_eq] at h;obtain ⟨h1,h2,⟨_,h3,_⟩,_,h5⟩:=h;refine ⟨h1,h2,?_,h5⟩
 rw [List.all_eq_true] at h3 ⊢;intro p hp
 have:=h3 p hp
 simp only [Bool.and_eq_true] at this ⊢;exact ⟨this.1,this.2.1⟩
theorem checkX_ok {l:List Nd} (h:checkX l=0):1≤l.length∧l.length≤200∧(l.head?.map (·.deep))=some 0∧stepsX l=true:=by
 unfold checkX at h
 split at h
 ·simp at h
 ·rename_i hc
  simp only [not_or,Nat.not_lt,ne_eq,Decidable.not_not,Bool.not_eq_false] at hc;exact ⟨by omega,hc.2.1,hc.2.2.1,hc.2.2.2⟩
def prologK:List UInt8:=[60,63,120,109,108,32,118,101,114,115,105,111,110,61,34,49,46,48,34,32,101,110,99,111,100,105,110,103,61,34,85,84,70,45,56,34,63,62,10]
def bodyX (s:List UInt8):Option (List UInt8) :=
 if s.take 5=[60,63,120,109,108] then (if ((s.drop 5).dropWhile (· != 63)).take 2=[63,62] then some (((s.drop 5).dropWhile (· != 63)).drop 2) else none) else some s
def parseX (s:List UInt8):List Nd × Int :=
 if 4096 < s.length then ([],2)
 else match bodyX s with
  | none=>([],130)
  | some r=>match elemX (s.length+1) 0 0 (r.dropWhile xblk) with
   | none=>([],130)
   | some (l,r2)=>if r2.dropWhile xblk=[]∧checkX l=0 then (l,0) else ([],130)
theorem sz_len (n:Nat):(∀ (t:XT) (d:Nat),szX t≤n → okX d t=true → szX t+1≤(printX t).length)∧(∀ (ks:List XT) (d:Nat),szXs ks≤n → okXs d ks=true → szXs ks≤1+(printXs ks).length):=by
 induction n with
 | zero =>
  refine ⟨fun t d h _=>?_,fun ks d h _=>?_⟩
  ·obtain ⟨n',a,tx,k⟩:=t; rw [szX] at h; omega
  ·cases ks with
   | nil=>rw [szXs] at h; omega
   | cons t ks=>rw [szXs] at h; omega
 | succ n ih =>
  refine ⟨fun t d h hok=>?_,fun ks d h hok=>?_⟩
  ·obtain ⟨nm,a,tx,k⟩:=t;obtain ⟨k1,k2,k3,k4,k5,k6⟩:=okX_facts hok;obtain ⟨hne,_⟩:=name_factsX k2;have hnl:1≤nm.length:=by cases nm with | nil=>exact absurd rfl hne | cons x y=>simp
   rw [szX] at h ⊢
   have:=ih.2 k (d+1) (by omega) k6
   rw [printX]
   split
   ·rename_i hin
    simp only [List.append_eq_nil_iff] at hin;rw [hin.2] at this
    simp at this ⊢; omega
   ·simp; omega
  ·cases ks with
   | nil=>rw [szXs]; omega
   | cons t ks =>
    rw [okXs,Bool.and_eq_true] at hok;rw [szXs] at h ⊢;have a1:=ih.1 t d (by omega) hok.1;have a2:=ih.2 ks d (by omega) hok.2;rw [printXs,List.length_append]; omega
theorem doc_back {l:List Nd} {t:XT} (h:checkX l=0) (hf:flatX 0 t=l) (hok:okX 0 t=true) {bl:List UInt8} (hb:∀ b ∈ bl,xblk b=true) (hl:(prologK++printX t++bl).length≤4096):parseX (prologK++printX t++bl)=(l,0):=by
 obtain ⟨h1,h2,h3,h4⟩:=checkX_ok h;have hbody:bodyX (prologK++printX t++bl)=some (10 :: (printX t++bl)):=by
  unfold bodyX;have e5:(prologK++printX t++bl).take 5=[60,63,120,109,108]:=by simp [prologK]
  have e6:((prologK++printX t++bl).drop 5).dropWhile (· != 63)=63 :: 62 :: 10 :: (printX t++bl):=by simp [prologK,List.dropWhile_cons]
  rw [if_pos e5,e6]; simp
 obtain ⟨y,q,hp,_⟩:=print_head t 0 hok;have hbl:bl.dropWhile xblk=[]:=by
  clear hl hbody
  induction bl with
  | nil=>rfl
  | cons x bl ih=>rw [List.dropWhile_cons,hb x (by simp),if_pos rfl]; exact ih (fun b hx=>hb b (by simp [hx]))
 have hd:(10 :: (printX t++bl)).dropWhile xblk=printX t++bl:=by
  rw [List.dropWhile_cons,show xblk 10=true by decide +kernel];simp only [if_true];exact xdrop_id (by intro b hx; rw [hp] at hx; simp at hx; subst hx; decide +kernel)
 have hsz:=(sz_len (szX t)).1 t 0 (Nat.le_refl _) hok;have he:=(tree_back ((prologK++printX t++bl).length+1)).1 t 0 0 bl hok (by simp; omega) (by rw [hf]; omega);unfold parseX;rw [if_neg (by omega),hbody]
 simp only
 rw [hd,he]
 simp only
 rw [hbl,hf,if_pos ⟨rfl,h⟩]
end Go.Proofs.YtdnekampnkhmfaaGreatDoor
namespace Go.Proofs.YtdnekampnkhmfaaGreatDoor
open Go.RowKit Go.ChangeShapes Go.WideShapes Go.Deep
structure NdC where
 nd:Nd
 a:Value
def ndCells (c:NdC):List Value:=[.int .i64 c.nd.deep,.string ⟨c.nd.name.toArray⟩,c.a,.string ⟨c.nd.text.toArray⟩]
def ndV (x:Nd) (a:Value):Value:=.agg #[.int .i64 x.deep,.string ⟨x.name.toArray⟩,a,.string ⟨x.text.toArray⟩]
structure NdAt (w:World) (ad:Addr) (k:Nat) (c:NdC):Prop where
 c0:w.cell? (ad.add (k * 4))=some (.int .i64 c.nd.deep)
 c1:w.cell? ⟨(ad.add (k * 4)).block,(ad.add (k * 4)).off+1,none⟩=some (.string ⟨c.nd.name.toArray⟩)
 c2:w.cell? ⟨(ad.add (k * 4)).block,(ad.add (k * 4)).off+2,none⟩=some c.a
 c3:w.cell? ⟨(ad.add (k * 4)).block,(ad.add (k * 4)).off+3,none⟩=some (.string ⟨c.nd.text.toArray⟩)
theorem NdAt.below {B:Nat} {w w':World} {ad:Addr} {k:Nat} {c:NdC} (h:NdAt w ad k c) (hb:Below B w w') (ha:ad.block < B):NdAt w' ad k c :=
 ⟨cell_below hb (by rw [add_block]; exact ha) h.c0,cell_below hb (by simp only [add_block]; exact ha) h.c1,cell_below hb (by simp only [add_block]; exact ha) h.c2,cell_below hb (by simp only [add_block]; exact ha) h.c3⟩
def NdsAt (w:World) (v:Value) (cs:List NdC):Prop :=
 ∃ (ao:Option Addr) (cap:Nat),v=.slice ao cs.length cap∧∀ k (hk:k < cs.length),∃ ad,ao=some ad∧ad.block < w.heap.size∧NdAt w ad k cs[k]∧ParsAt w cs[k].a cs[k].nd.attrs
theorem NdsAt.below {w w':World} {v:Value} {cs:List NdC} (h:NdsAt w v cs) (hb:Below w.heap.size w w'):NdsAt w' v cs:=by
 obtain ⟨ao,cap,hv,hc⟩:=h;refine ⟨ao,cap,hv,fun k hk=>?_⟩
 obtain ⟨ad,e,hlt,hcell,hp⟩:=hc k hk;exact ⟨ad,e,Nat.lt_of_lt_of_le hlt hb.size,hcell.below hb hlt,hp.below hb⟩
def ndsL (cs:List NdC):List Nd:=cs.map NdC.nd
theorem ndsL_len (cs:List NdC):(ndsL cs).length=cs.length:=by simp [ndsL]
def SmallN (B:Nat) (x:Nd):Prop:=x.name.length≤B∧x.text.length≤B∧SmallP B x.attrs∧(Lit.int .i64 x.deep).wf=true
end Go.Proofs.YtdnekampnkhmfaaGreatDoor
namespace Go.Proofs.YtdnekampnkhmfaaGreatDoor
open Go.RowKit Sc
theorem u8_eq {a b:UInt8} (h:a=b):((a.toNat:Int)==(b.toNat:Int))=true:=by simp [h]
theorem u8_ne {a b:UInt8} (h:¬ a=b):((a.toNat:Int)==(b.toNat:Int))=false:=by
 simp only [beq_eq_false_iff_ne,ne_eq];intro e; exact h (UInt8.toNat_inj.1 (by omega))
theorem ret_cut {p:List UInt8 × List UInt8 × Bool} {x y:ByteArray} {b:Bool} (h:p=(x.data.toList,y.data.toList,b)):Ending.returned (.tuple #[.string x,.string y,.bool b])=.returned (.tuple #[.string ⟨p.1.toArray⟩,.string ⟨p.2.1.toArray⟩,.bool p.2.2]):=by
 have hx:(⟨x.data.toList.toArray⟩:ByteArray)=x:=by apply ByteArray.ext; simp
 have hy:(⟨y.data.toList.toArray⟩:ByteArray)=y:=by apply ByteArray.ext; simp
 rw [h,hx,hy]
def lenOf:Value → Nat
 | .string s=>s.size
 | _=>0
theorem size_list (l:List UInt8):(⟨l.toArray⟩:ByteArray).size=l.length:=by simp [ByteArray.size]
theorem splitL_next {c:UInt8} {l0 r:List UInt8} {ps:List (List UInt8)} (h:splitL c l0=ps++splitL c r) (hb:(cutL c r).2.2=true):splitL c l0=(ps++[(cutL c r).1])++splitL c (cutL c r).2.1:=by
 rw [h,splitL_cut c r,if_pos hb]; simp
def parsCells (ps:List Par):List Value:=ps.flatMap parCells
theorem parsCells_len (ps:List Par):(parsCells ps).length=ps.length * 3:=by
 induction ps with
 | nil=>rfl
 | cons p ps ih=>simp [parsCells,parCells] at ih ⊢; omega
theorem parsCells_get (ps:List Par) (k:Nat) (hk:k < ps.length):(parsCells ps)[k * 3]? = some (.string ⟨ps[k].name.toArray⟩)∧(parsCells ps)[k * 3+1]? = some (.string ⟨ps[k].value.toArray⟩)∧(parsCells ps)[k * 3+2]? = some (.bool ps[k].has):=by
 induction ps generalizing k with
 | nil=>simp at hk
 | cons p ps ih =>
  have e:parsCells (p :: ps)=parCells p++parsCells ps:=rfl
  cases k with
  | zero=>rw [e]; simp [parCells]
  | succ k =>
   have:=ih k (by simpa using hk)
   rw [e,show (k+1) * 3=k * 3+3 by omega]
   simpa [parCells] using this
def OwnP (w:World) (B:Nat) (v:Value) (ps:List Par):Prop:=w.ownsRow B 59 3 v ps.length (parsCells ps)
theorem OwnP.nil (w:World) (B:Nat):OwnP w B (.slice none 0 0) []:=World.ownsRow_nil _ _ _ _
theorem OwnP.alloc {w:World} {B:Nat} {v:Value} {ps:List Par} (h:OwnP w B v ps) (o:Obj):OwnP (w.alloc o) B v ps:=World.ownsRow.alloc h o
theorem OwnP.below {w w':World} {B:Nat} {v:Value} {ps:List Par} (h:OwnP w B v ps) (hb:Below w.heap.size w w'):OwnP w' B v ps:=by
 obtain ⟨h1,h2⟩:=h;refine ⟨h1,?_⟩
 rcases h2 with h2 | ⟨g,cap,cur,hv,hg,hh,r⟩
 ·exact Or.inl h2
 ·exact Or.inr ⟨g,cap,cur,hv,hg,by rw [hb.block g (Array.getElem?_eq_some_iff.1 hh).1]; exact hh,r⟩
theorem OwnP.parsAt {w:World} {B:Nat} {v:Value} {ps:List Par} (h:OwnP w B v ps):ParsAt w v ps:=by
 have h0:=h
 rcases h.2 with ⟨rfl,hn⟩ | ⟨g,cap,cur,rfl,hb,hg,r⟩
 ·exact Or.inl ⟨rfl,List.eq_nil_of_length_eq_zero hn⟩
 ·refine Or.inr ⟨⟨g,0,none⟩,cap,rfl,fun k hk=>⟨(Array.getElem?_eq_some_iff.1 hg).1,?_⟩⟩
  obtain ⟨c0,c1,c2⟩:=parsCells_get ps k hk;have a0:=World.ownsRow.cells h0 (g:=g) rfl (k * 3) _ c0;have a1:=World.ownsRow.cells h0 (g:=g) rfl (k * 3+1) _ c1;have a2:=World.ownsRow.cells h0 (g:=g) rfl (k * 3+2) _ c2;have e:∀ j,(⟨g,0,none⟩:Addr).add j=⟨g,j,none⟩:=fun j=>by unfold Addr.add; split <;> simp_all
  rw [e] at a0 a1 a2;unfold ParAt;rw [e];exact ⟨a0,a1,a2⟩
theorem infoPar:(Tryz.prog.info? 59).map (fun i=>(i.zero,i.size,i.bytes))=some (some (.agg #[.string .empty,.string .empty,.bool false]),3,40):=by kernel_rfl
theorem wp_appP {P:Program} (w:World) {ops:Array Oper} {rest:List Oper} {o:Oper} {a:Act} {Q:Exit → Act → World → Prop} (hgd:o.guard=none)
  (s x:Operand) (t:TypeId) (ho:o.op=Op.call { callee:=Callee.builtin Builtin.append,args:=#[s,x],argTypes:=#[t,t] }) (B:Nat) (i:TypeInfo)
  (z:Value) (ht:P.underlying t=some (TypeDesc.slice 59)) (hi:P.info? 59=some i) (hz:i.zero=some z) (hsize:i.size=3) (hby:i.bytes=40) (hzs:z.cells.size=3)
  (v:Value) (ps:List Par) (hs:a.eval s=v) (hown:OwnP w B v ps) (ad:Addr) (c:Nat) (p:Par) (hx:a.eval x=Value.slice (some ad) 1 c)
  (hnews:∀ (j:Nat) (u:Value),(parCells p)[j]? = some u → w.cell? (ad.add j)=some u)
  (hlen:ps.length≤2000000) (w0:World) (hb:Below B w0 w) (hB:B≤w.heap.size)
  (h:∀ (v':Value) (w':World),OwnP w' B v' (ps++[p]) → Below B w0 w' → B≤w'.heap.size → wpList P ops Q rest (a.put o.dst v') w'):wpList P ops Q (o :: rest) a w:=by
 refine wpList_append_own w hgd s x t ho B 59 i z 3 40 ht hi hz hsize hby hzs (by decide) v ps.length (parsCells ps) hs hown ad 1 c (parCells p) hx rfl hnews (by intro u hu; simp [parCells] at hu; rcases hu with rfl | rfl | rfl <;> rfl) (by unfold maxLen; omega) (by omega) hB ?_
 intro v' w' hown' hgr _;refine h v' w' ?_ (hb.grown hgr hB (fun k hk=>(World.ownsRow.lt hown k hk).1)) (Nat.le_trans hB hgr.size)
 unfold OwnP;have e:parsCells (ps++[p])=parsCells ps++parCells p:=by simp [parsCells]
 rw [e,List.length_append];exact hown'
def ndsCells (cs:List NdC):List Value:=cs.flatMap ndCells
theorem ndCells_len (c:NdC):(ndCells c).length=4:=rfl
theorem ndsCells_len (cs:List NdC):(ndsCells cs).length=cs.length * 4:=by
 induction cs with
 | nil=>rfl
 | cons c cs ih =>
  have e:ndsCells (c :: cs)=ndCells c++ndsCells cs:=rfl;rw [e,List.length_append,ih,ndCells_len,List.length_cons]; omega
theorem ndsCells_get (cs:List NdC) (k:Nat) (hk:k < cs.length) (j:Nat) (u:Value) (h:(ndCells cs[k])[j]? = some u):(ndsCells cs)[k * 4+j]? = some u:=by
 induction cs generalizing k with
 | nil=>simp at hk
 | cons c cs ih =>
  have e:ndsCells (c :: cs)=ndCells c++ndsCells cs:=rfl
  cases k with
  | zero =>
   have hj:j < 4:=by have:=(List.getElem?_eq_some_iff.1 h).1; simpa [ndCells] using this
   rw [e,List.getElem?_append_left (by rw [ndCells_len]; omega),Nat.zero_mul,Nat.zero_add];exact h
  | succ k =>
   have:=ih k (by simpa using hk) (by simpa using h)
   rw [e,List.getElem?_append_right (by rw [ndCells_len]; omega),ndCells_len,show (k+1) * 4+j - 4=k * 4+j by omega];exact this
theorem ownP_mono {w:World} {B C:Nat} {v:Value} {ps:List Par} (h:OwnP w B v ps) (hc:C≤B):OwnP w C v ps:=by
 obtain ⟨h1,h2⟩:=h;refine ⟨h1,?_⟩
 rcases h2 with h2 | ⟨g,cap,cur,hv,hg,r⟩
 ·exact Or.inl h2
 ·exact Or.inr ⟨g,cap,cur,hv,Nat.le_trans hc hg,r⟩
def OwnN (w:World) (B:Nat) (v:Value) (cs:List NdC):Prop:=w.ownsRow B 52 4 v cs.length (ndsCells cs)∧∀ c ∈ cs,OwnP w B c.a c.nd.attrs
theorem OwnN.nil (w:World) (B:Nat):OwnN w B (.slice none 0 0) []:=⟨World.ownsRow_nil _ _ _ _,fun c hc=>by simp at hc⟩
theorem OwnN.below {w w':World} {B:Nat} {v:Value} {cs:List NdC} (h:OwnN w B v cs) (hb:Below w.heap.size w w'):OwnN w' B v cs:=by
 obtain ⟨⟨h1,h2⟩,h3⟩:=h;refine ⟨⟨h1,?_⟩,fun c hc=>(h3 c hc).below hb⟩
 rcases h2 with h2 | ⟨g,cap,cur,hv,hg,hh,r⟩
 ·exact Or.inl h2
 ·exact Or.inr ⟨g,cap,cur,hv,hg,by rw [hb.block g (Array.getElem?_eq_some_iff.1 hh).1]; exact hh,r⟩
theorem OwnN.mono {w:World} {B C:Nat} {v:Value} {cs:List NdC} (h:OwnN w B v cs) (hc:C≤B):OwnN w C v cs:=by
 obtain ⟨⟨h1,h2⟩,h3⟩:=h;refine ⟨⟨h1,?_⟩,fun c hc'=>ownP_mono (h3 c hc') hc⟩
 rcases h2 with h2 | ⟨g,cap,cur,hv,hg,r⟩
 ·exact Or.inl h2
 ·exact Or.inr ⟨g,cap,cur,hv,Nat.le_trans hc hg,r⟩
theorem OwnN.alloc {w:World} {B:Nat} {v:Value} {cs:List NdC} (h:OwnN w B v cs) (o:Obj):OwnN (w.alloc o) B v cs:=h.below ((Below.refl _ w).alloc (Nat.le_refl _) o)
theorem OwnN.form {w:World} {B:Nat} {v:Value} {cs:List NdC} (h:OwnN w B v cs):∃ a cap,v=.slice a cs.length cap:=by
 rcases h.1.2 with ⟨rfl,hn⟩ | ⟨g,cap,cur,rfl,_⟩
 ·exact ⟨none,0,by rw [hn]⟩
 ·exact ⟨_,cap,rfl⟩
theorem OwnN.ndsAt {w:World} {B:Nat} {v:Value} {cs:List NdC} (h:OwnN w B v cs):NdsAt w v cs:=by
 have h0:=h.1
 rcases h.1.2 with ⟨rfl,hn⟩ | ⟨g,cap,cur,rfl,hb,hg,r⟩
 ·exact ⟨none,0,by rw [hn],fun k hk=>by omega⟩
 ·refine ⟨some ⟨g,0,none⟩,cap,rfl,fun k hk=>⟨_,rfl,(Array.getElem?_eq_some_iff.1 hg).1,?_,(h.2 _ (List.getElem_mem hk)).parsAt⟩⟩
  have e:∀ j,(⟨g,0,none⟩:Addr).add j=⟨g,j,none⟩:=fun j=>by unfold Addr.add; split <;> simp_all
  have c:∀ j u,(ndCells cs[k])[j]? = some u → w.cell? ⟨g,k * 4+j,none⟩=some u:=fun j u hj=>by
   have:=World.ownsRow.cells h0 (g:=g) rfl (k * 4+j) _ (ndsCells_get cs k hk j u hj)
   rw [e] at this; exact this
  refine ⟨?_,?_,?_,?_⟩
  ·rw [e]; exact c 0 _ rfl
  ·rw [e]; exact c 1 _ rfl
  ·rw [e]; exact c 2 _ rfl
  ·rw [e]; exact c 3 _ rfl
theorem rows_neN {w:World} {B1 B2 e1 e2 s1 s2 n1 n2:Nat} {v1 v2:Value} {x1 x2:List Value} (h1:w.ownsRow B1 e1 s1 v1 n1 x1) (h2:w.ownsRow B2 e2 s2 v2 n2 x2) (hne:e2 ≠ e1):v2.ownBlock=none∨v2.ownBlock ≠ v1.ownBlock:=by
 rcases h2.2 with ⟨rfl,_⟩ | ⟨g2,c2,u2,rfl,_,hg2,_⟩
 ·exact Or.inl rfl
 ·right
  rcases h1.2 with ⟨rfl,_⟩ | ⟨g1,c1,u1,rfl,_,hg1,_⟩
  ·simp [Value.ownBlock]
  ·simp only [Value.ownBlock];intro e
   injection e with e
   rw [e,hg1] at hg2
   injection hg2 with hg2
   injection hg2 with _ hg2
   exact hne hg2.symm
theorem infoNodeB:(Tryz.prog.info? 52).map (fun i=>(i.zero,i.size,i.bytes))=some (some (.agg #[.int .i64 0,.string .empty,.slice none 0 0,.string .empty]),4,64):=by kernel_rfl
def setText (c:NdC) (t:List UInt8):NdC:=⟨{ c.nd with text:=t },c.a⟩
theorem nds_set (t:List UInt8):∀ (cs:List NdC) (k:Nat) (hk:k < cs.length),ndsCells (cs.set k (setText cs[k] t))=(ndsCells cs).set (k * 4+3) (.string ⟨t.toArray⟩)
 | [],k,hk=>by simp at hk
 | c :: cs,0,hk=>by
  have e:∀ (c:NdC) (cs:List NdC),ndsCells (c :: cs)=ndCells c++ndsCells cs:=fun _ _=>rfl;rw [List.set_cons_zero,e,e]
  simp [ndCells,setText]
 | c :: cs,k+1,hk=>by
  have e:∀ (c:NdC) (cs:List NdC),ndsCells (c :: cs)=ndCells c++ndsCells cs:=fun _ _=>rfl;have ih:=nds_set t cs k (by simpa using hk);rw [List.set_cons_succ,e,e];have e2:(c :: cs)[k+1]=cs[k]'(by simpa using hk):=rfl;rw [e2,ih,List.set_append_right _ _ (by rw [ndCells_len]; omega),ndCells_len]
  congr 2
  omega
theorem OwnN.text {w:World} {B g cap:Nat} {cs:List NdC} (h:OwnN w B (.slice (some ⟨g,0,none⟩) cs.length cap) cs) (k:Nat) (hk:k < cs.length) (t:List UInt8) :
  OwnN (w.setCell ⟨g,k * 4+3,none⟩ (.string ⟨t.toArray⟩)) B (.slice (some ⟨g,0,none⟩) cs.length cap) (cs.set k (setText cs[k] t)):=by
 have keep:∀ (ps:List Par) (u:Value),OwnP w B u ps → OwnP (w.setCell ⟨g,k * 4+3,none⟩ (.string ⟨t.toArray⟩)) B u ps:=fun ps u hu=>by
  refine ownsRow_setCell_other hu ?_ _
  rcases rows_neN h.1 hu (by decide) with h1 | h1
  ·rw [h1]; simp
  ·simpa [Value.ownBlock] using h1
 refine ⟨?_,fun c hc=>?_⟩
 ·rw [nds_set t cs k hk,List.length_set];exact (World.ownsRow.stored h.1 _ _).1
 ·rcases List.mem_or_eq_of_mem_set hc with hc | hc
  ·exact keep _ _ (h.2 c hc)
  ·subst hc;exact keep _ _ (h.2 cs[k] (List.getElem_mem hk))
structure FrN (v:Value) (w:World) (v':Value) (w':World):Prop where
 os:w'.os=w.os
 tape:w'.tape=w.tape
 output:w'.output=w.output
 size:w.heap.size≤w'.heap.size
 block:∀ b,b < w.heap.size → v.ownBlock ≠ some b → w'.heap[b]? = w.heap[b]?
 own:∀ g,v'.ownBlock=some g → v.ownBlock=some g∨w.heap.size≤g
theorem FrN.to {v v':Value} {w w':World} (h:FrN v w v' w') {B:Nat} (hB:B≤w.heap.size) (hv:∀ g,v.ownBlock=some g → B≤g):Below B w w' :=
 ⟨h.os,h.tape,h.output,h.size,fun b hb=>h.block b (Nat.lt_of_lt_of_le hb hB) (fun e=>by have:=hv b e; omega)⟩
theorem FrN.row {v v':Value} {w w':World} (h:FrN v w v' w') {b:Nat} {e:TypeId} {l:List Value} (hr:RowIs w b e l) (hb:b < w.heap.size) (hn:v.ownBlock ≠ some b):RowIs w' b e l:=by
 unfold RowIs at hr ⊢;rw [h.block b hb hn]; exact hr
theorem grown_fr {v v':Value} {w w':World} (h:w.grownBy w' v.ownBlock) (ho:v'.ownBlock=v.ownBlock∨v'.ownBlock=some w.heap.size):FrN v w v' w' :=
 ⟨h.os,h.tape,h.output,h.size,fun b hb hn=>h.block b hb (fun e=>hn e.symm),fun g hg=>by
  rcases ho with ho | ho
  ·exact .inl (by rw [← ho]; exact hg)
  ·rw [ho] at hg; injection hg with hg; exact .inr (by omega)⟩
theorem wp_appN2 {P:Program} (w:World) {ops:Array Oper} {rest:List Oper} {o:Oper} {a:Act} {Q:Exit → Act → World → Prop} (hgd:o.guard=none)
  (s x:Operand) (t:TypeId) (ho:o.op=Op.call { callee:=Callee.builtin Builtin.append,args:=#[s,x],argTypes:=#[t,t] }) (B:Nat) (i:TypeInfo)
  (z:Value) (ht:P.underlying t=some (TypeDesc.slice 52)) (hi:P.info? 52=some i) (hz:i.zero=some z) (hsize:i.size=4) (hby:i.bytes=64) (hzs:z.cells.size=4)
  (v:Value) (cs:List NdC) (hs:a.eval s=v) (hown:OwnN w B v cs) (ad:Addr) (k:Nat) (c:NdC) (hc:OwnP w B c.a c.nd.attrs) (hx:a.eval x=Value.slice (some ad) 1 k)
  (hnews:∀ (j:Nat) (u:Value),(ndCells c)[j]? = some u → w.cell? (ad.add j)=some u)
  (hlen:cs.length≤2000000) (hB:B≤w.heap.size)
  (h:∀ (v':Value) (w':World),OwnN w' B v' (cs++[c]) → FrN v w v' w' → wpList P ops Q rest (a.put o.dst v') w'):wpList P ops Q (o :: rest) a w:=by
 have one:∀ (ps:List Par) (B:Nat) (v:Value),OwnP w B v ps → v.oneCell'=true:=fun ps B v h=>by
  rcases h.2 with ⟨rfl,_⟩ | ⟨g,cap,cur,rfl,_⟩ <;> rfl
 refine wpList_append_own_at w hgd s x t ho B 52 i z 4 64 ht hi hz hsize hby hzs (by decide) v cs.length (ndsCells cs) hs hown.1 ad 1 k (ndCells c) hx rfl hnews
  (by intro u hu; simp [ndCells] at hu; rcases hu with rfl | rfl | rfl | rfl <;> first | rfl | exact one _ _ _ hc) (by unfold maxLen; omega) (by omega) hB ?_
 intro v' w' hown' hgr _ hat;have keep:∀ (ps:List Par) (u:Value),OwnP w B u ps → OwnP w' B u ps:=fun ps u hu=>World.ownsRow.kept hu hgr (rows_neN hown.1 hu (by decide));refine h v' w' ⟨?_,?_⟩ (grown_fr hgr hat)
 ·have e:ndsCells (cs++[c])=ndsCells cs++ndCells c:=by simp [ndsCells]
  rw [e,List.length_append];exact hown'
 ·intro c' hc'
  rcases List.mem_append.1 hc' with hc' | hc'
  ·exact keep _ _ (hown.2 c' hc')
  ·simp at hc'; subst hc'
   exact keep _ _ hc
structure Tu where
 id:List UInt8
 opn:Bool
 contact:List UInt8
 prio:Int
 note:List UInt8
deriving DecidableEq
structure Dc where
 entity:List UInt8
 tuples:List Tu
 notes:List (List UInt8)
deriving DecidableEq
def noD:Dc:=⟨[],[],[]⟩
def textP (s:List UInt8):Bool:=decide (s.length≤128) && (signsX s && xtrim s==s)
def idc (b:UInt8):Bool:=decide (33≤b.toNat) && decide (b.toNat≤126)
def identP (s:List UInt8):Bool:=s.all idc && (decide (1≤s.length) && decide (s.length≤64))
def prioP (t:Tu):Bool:=decide (-1≤t.prio) && (decide (t.prio≤1000) && (!t.contact.isEmpty || t.prio==-1))
def tupP (t:Tu):Bool:=identP t.id && (textP t.contact && (textP t.note && prioP t))
def distinctT:List Tu → Bool
 | []=>true
 | t :: r=>r.all (fun q=>!(q.id==t.id)) && distinctT r
def noteP (s:List UInt8):Bool:=!s.isEmpty && textP s
def checkD (d:Dc):Int:=if (hostV d.entity).2 ≠ 0∨16 < d.tuples.length∨16 < d.notes.length then 140 else if (d.tuples.all tupP && (distinctT d.tuples && d.notes.all noteP))=true then 0 else 140
def d3 (n:Nat):List UInt8:=[UInt8.ofNat (48+n / 100 % 10),UInt8.ofNat (48+n / 10 % 10),UInt8.ofNat (48+n % 10)]
def stripZ (l:List UInt8):List UInt8:=(l.reverse.dropWhile (·==48)).reverse
def decL (n:Int):List UInt8:=if n < 0∨1000 < n then [] else if n=0 then [48] else if n=1000 then [49] else [48,46]++stripZ (d3 n.toNat)
def thouV (s:List UInt8):Int :=
 if ¬ ((cutL 46 s).1=[48]∨(cutL 46 s).1=[49])∨3 < (cutL 46 s).2.1.length∨allB 1 (cutL 46 s).2.1=false then -1
 else if 1000 < (numV 10000 ((cutL 46 s).1++((cutL 46 s).2.1++List.replicate (3 - (cutL 46 s).2.1.length) 48))).1 then -1
 else (numV 10000 ((cutL 46 s).1++((cutL 46 s).2.1++List.replicate (3 - (cutL 46 s).2.1.length) 48))).1
def localX (s:List UInt8):List UInt8:=if (cutL 58 s).2.2=true then (cutL 58 s).2.1 else (cutL 58 s).1
def presenceK:List UInt8:=[112,114,101,115,101,110,99,101]
def xmlnsK:List UInt8:=[120,109,108,110,115]
def spaceK:List UInt8:=[117,114,110,58,105,101,116,102,58,112,97,114,97,109,115,58,120,109,108,58,110,115,58,112,105,100,102]
def entityK:List UInt8:=[101,110,116,105,116,121]
def presK:List UInt8:=[112,114,101,115]
def tupleK:List UInt8:=[116,117,112,108,101]
def pidK:List UInt8:=[105,100]
def pstatK:List UInt8:=[115,116,97,116,117,115]
def basicK:List UInt8:=[98,97,115,105,99]
def openK:List UInt8:=[111,112,101,110]
def closedK:List UInt8:=[99,108,111,115,101,100]
def pcontK:List UInt8:=[99,111,110,116,97,99,116]
def priorityK:List UInt8:=[112,114,105,111,114,105,116,121]
def noteK:List UInt8:=[110,111,116,101]
def atr (n v:List UInt8):Par:=⟨n,v,true⟩
def nameT:XT → List UInt8 | .mk n _ _ _=>n
def attrsOf:XT → List Par | .mk _ a _ _=>a
def textOf:XT → List UInt8 | .mk _ _ t _=>t
def kidsOf:XT → List XT | .mk _ _ _ k=>k
def statT (o:Bool):XT:=.mk pstatK [] [] [.mk basicK [] (if o then openK else closedK) []]
def contT (t:Tu):List XT:=if t.contact=[] then [] else [.mk pcontK (if t.prio=-1 then [] else [atr priorityK (decL t.prio)]) t.contact []]
def noteT (s:List UInt8):XT:=.mk noteK [] s []
def tnoteT (t:Tu):List XT:=if t.note=[] then [] else [noteT t.note]
def tupT (t:Tu):XT:=.mk tupleK [atr pidK t.id] [] (statT t.opn :: (contT t++tnoteT t))
def treeD (d:Dc):XT:=.mk presenceK [atr xmlnsK spaceK,atr entityK (presK++[58]++d.entity)] [] (d.tuples.map tupT++d.notes.map noteT)
def attG (nm:List UInt8):List Par → Option (List UInt8)
 | []=>none
 | p :: ps=>if p.name=nm then some p.value else attG nm ps
def namedX (nm:List UInt8) (ks:List XT):List XT:=ks.filter fun k=>localX (nameT k)==nm
def contP (ks:List XT):Option (List UInt8 × Int):=match namedX pcontK ks with
 | []=>some ([],-1)
 | c :: _=>match attG priorityK (attrsOf c) with
  | none=>some (textOf c,-1)
  | some p=>if thouV p < 0 then none else some (textOf c,thouV p)
def tupleT (t:XT):Option Tu:=match namedX pstatK (kidsOf t) with
 | [st]=>match namedX basicK (kidsOf st) with
  | [b] =>
   if textOf b ≠ openK∧textOf b ≠ closedK then none
   else if 1 < (namedX pcontK (kidsOf t)).length∨1 < (namedX noteK (kidsOf t)).length then none
   else (contP (kidsOf t)).map fun c=>⟨(attG pidK (attrsOf t)).getD [],textOf b==openK,c.1,c.2,(((namedX noteK (kidsOf t)).head?).map textOf).getD []⟩
  | _=>none
 | _=>none
def tuplesT:List XT → Option (List Tu)
 | []=>some []
 | t :: r=>match tupleT t with
  | none=>none
  | some x=>(tuplesT r).map (x :: ·)
def notesT (ks:List XT):List (List UInt8):=((namedX noteK ks).map textOf).filter fun s=>!s.isEmpty
def entU (t:XT):Uri × Int:=parseV ((attG entityK (attrsOf t)).getD [])
def docT (t:XT):Dc × Int :=
 if (entU t).2 ≠ 0∨localX (nameT t) ≠ presenceK then (noD,140)
 else match tuplesT (namedX tupleK (kidsOf t)) with
  | none=>(noD,140)
  | some ts=>if checkD ⟨(whoV (entU t).1).1,ts,notesT (kidsOf t)⟩ ≠ 0 then (noD,checkD ⟨(whoV (entU t).1).1,ts,notesT (kidsOf t)⟩) else (⟨(whoV (entU t).1).1,ts,notesT (kidsOf t)⟩,0)
theorem dec_back_all:∀ n:Fin 1001,thouV (decL (n.val:Int))=(n.val:Int):=by decide +kernel
theorem dec_back {n:Int} (h0:0≤n) (h1:n≤1000):thouV (decL n)=n:=by
 obtain ⟨k,rfl⟩:=Int.eq_ofNat_of_zero_le h0;exact dec_back_all ⟨k,by omega⟩
end Go.Proofs.YtdnekampnkhmfaaGreatDoor
