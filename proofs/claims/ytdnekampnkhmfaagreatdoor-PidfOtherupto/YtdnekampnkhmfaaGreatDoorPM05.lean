/-
  UBackL, SameL, AddrBackL, XmlL, XmlBackL, XmlTreeL, XmlDocL, PR2.
-/
import Derived.Test.YtdnekampnkhmfaaGreatDoorPM04
import Derived.OpenShut
set_option linter.unusedVariables false
set_option linter.unusedSimpArgs false
set_option maxRecDepth 20000
namespace Go.Proofs.YtdnekampnkhmfaaGreatDoor
open Go.RowKit Sc
theorem parse_checked {s:List UInt8} {u:Uri} (h:parseV s=(u,0)):checkV u=0:=by
 unfold parseV at h
 split at h
 ·have:=congrArg Prod.snd h; simp at this
 split at h
 ·rename_i h2; exact absurd (congrArg Prod.snd h) h2
 unfold bothV at h
 split at h
 ·rename_i h2; exact absurd (congrArg Prod.snd h) h2
 unfold endV at h
 split at h
 ·rename_i h2; exact absurd (congrArg Prod.snd h) h2
 ·rename_i h2
  have:=congrArg Prod.fst h
  simp only at this;rw [← this];exact Classical.not_not.1 h2
def sipK:List UInt8:=[115,105,112]
def whoT (u:Uri):List UInt8:=escL usersK u.user++[64]++u.host
def whoV (u:Uri):List UInt8 × Int:=if checkV u ≠ 0 then ([],checkV u) else if u.user=[] then ([],31) else (whoT u,0)
def nameU (sch:List UInt8) (u:Uri):Uri:=⟨sch,u.user,u.host,0,[],[]⟩
theorem check_name {sch:List UInt8} {u:Uri} (hs:schemeB sch=true) (h:checkV u=0):checkV (nameU sch u)=0:=by
 obtain ⟨_,h2,h3,_⟩:=check_ok h;have h2':¬ 64 < u.user.length:=by omega
 simp [checkV,nameU,hs,h2',h3,listB,listGo]
theorem text_name {u:Uri} (hu:u.user ≠ []):textT (nameU sipK u)=[115,105,112,58]++whoT u:=by
 simp [textT,frontT,nameU,hu,parsT,hdrT,whoT,sipK]
theorem print_name {u:Uri} (h:checkV u=0) (hu:u.user ≠ []):printV (nameU sipK u)=([115,105,112,58]++whoT u,0):=by
 rw [printV,if_pos (check_name (by decide +kernel) h),text_name hu]
def hostV (s:List UInt8):List UInt8 × Int :=
 if (parseV ([115,105,112,58]++s)).2 ≠ 0 then ([],(parseV ([115,105,112,58]++s)).2)
 else if whoV (parseV ([115,105,112,58]++s)).1=(s,0) then ((parseV ([115,105,112,58]++s)).1.host,0) else ([],31)
theorem who_name {sch:List UInt8} {u:Uri} (hs:schemeB sch=true) (h:checkV u=0) (hu:u.user ≠ []):whoV (nameU sch u)=(whoT u,0):=by
 rw [whoV,if_neg (by simp [check_name hs h]),if_neg (by simpa [nameU] using hu)]; rfl
theorem escL_len (keep l:List UInt8):(escL keep l).length≤3 * l.length:=by
 unfold escL
 induction l with
 | nil=>simp [esc]
 | cons b l ih =>
  rw [esc]
  split <;> simp <;> omega
theorem whoT_len {u:Uri} (h:checkV u=0):(whoT u).length≤257:=by
 obtain ⟨_,h2,h3,_⟩:=check_ok h
 have:=hostB_ok h3
 have:=escL_len usersK u.user
 simp [whoT]; omega
theorem last_app {a b:List UInt8} (hb:b ≠ []) {x:UInt8} (h:(a++b).getLast? = some x):b.getLast? = some x:=by
 rw [List.getLast?_append] at h
 cases hl:b.getLast? with
 | none=>exact absurd (List.getLast?_eq_none_iff.1 hl) hb
 | some y=>rw [hl] at h; simpa using h
structure Nd where
 deep:Int
 name:List UInt8
 attrs:List Par
 text:List UInt8
deriving DecidableEq
def xblk (b:UInt8):Bool:=b==32 || (b==9 || (b==13 || b==10))
def xtrim (l:List UInt8):List UInt8:=((l.dropWhile xblk).reverse.dropWhile xblk).reverse
def letX (b:UInt8):Bool:=isB b.toNat 2 || b==95
def namc (b:UInt8):Bool:=letX b || (isB b.toNat 1 || (b==45 || (b==46 || b==58)))
def nameX (l:List UInt8):Bool:=l.all namc && (l.head?.any letX && decide (l.length≤64))
def signX (b:UInt8):Bool:=xblk b || !(decide (b.toNat < 32) || b==127)
def signsX (l:List UInt8):Bool:=l.all signX
def escS (b:UInt8):List UInt8:=if b=38 then [38,97,109,112,59] else if b=60 then [38,108,116,59] else if b=62 then [38,103,116,59] else if b=34 then [38,113,117,111,116,59] else [b]
def escX (l:List UInt8):List UInt8:=l.flatMap escS
def entX (r:List UInt8):Option (UInt8 × Nat) :=
 if r.take 4=[97,109,112,59] then some (38,4) else if r.take 3=[108,116,59] then some (60,3) else if r.take 3=[103,116,59] then some (62,3)
 else if r.take 5=[113,117,111,116,59] then some (34,5) else if r.take 5=[97,112,111,115,59] then some (39,5) else none
def readG:Nat → List UInt8 → Option (List UInt8)
 | _,[]=>some []
 | 0,_ :: _=>none
 | n+1,b :: r=>if b=38 then (match entX r with | none=>none | some (c,k)=>(readG n (r.drop k)).map (c :: ·)) else (readG n r).map (b :: ·)
def readX (l:List UInt8):Option (List UInt8):=readG l.length l
theorem readG_fuel:∀ (n:Nat) (l:List UInt8),l.length≤n → readG n l=readX l:=by
 have key:∀ (n m:Nat) (l:List UInt8),l.length≤n → l.length≤m → readG n l=readG m l:=by
  intro n
  induction n with
  | zero=>intro m l h1 h2; obtain rfl:=List.eq_nil_of_length_eq_zero (Nat.le_zero.1 h1); cases m <;> rfl
  | succ n ih =>
   intro m l h1 h2
   cases l with
   | nil=>cases m <;> rfl
   | cons b r =>
    cases m with
    | zero=>simp at h2
    | succ m =>
     simp only [List.length_cons] at h1 h2;rw [readG,readG]
     split
     ·cases he:entX r with
      | none=>rfl
      | some x=>simp only; rw [ih m (r.drop x.2) (by simp; omega) (by simp; omega)]
     ·rw [ih m r (by omega) (by omega)]
 intro n l h;exact key n l.length l h (Nat.le_refl _)
theorem read_cons {b:UInt8} {r:List UInt8} (h:b ≠ 38):readX (b :: r)=(readX r).map (b :: ·):=by
 unfold readX; rw [List.length_cons,readG,if_neg h]
theorem read_ent {c:UInt8} {r q:List UInt8} {k:Nat} (h:entX r=some (c,k)) (hk:r.drop k=q):readX (38 :: r)=(readX q).map (c :: ·):=by
 unfold readX;rw [List.length_cons,readG,if_pos rfl,h]
 simp only
 rw [hk,readG_fuel _ _ (by rw [← hk]; simp)]; rfl
theorem read_escS (b:UInt8) (r:List UInt8):readX (escS b++r)=(readX r).map (b :: ·):=by
 unfold escS
 split
 ·rename_i h; subst h; exact read_ent (k:=4) (by simp [entX]) (by simp)
 ·split
  ·rename_i h; subst h; exact read_ent (k:=3) (by simp [entX]) (by simp)
  ·split
   ·rename_i h; subst h; exact read_ent (k:=3) (by simp [entX]) (by simp)
   ·split
    ·rename_i h; subst h; exact read_ent (k:=5) (by simp [entX]) (by simp)
    ·rename_i h _ _ _; exact read_cons h
theorem read_esc:∀ l:List UInt8,readX (escX l)=some l
 | []=>rfl
 | b :: l=>by
  have e:escX (b :: l)=escS b++escX l:=by simp [escX]
  rw [e,read_escS,read_esc l]; rfl
theorem escS_free:∀ b:UInt8,(60:UInt8) ∉ escS b∧(62:UInt8) ∉ escS b∧(34:UInt8) ∉ escS b:=by apply byte_all; decide +kernel
theorem escX_free (l:List UInt8):(60:UInt8) ∉ escX l∧(62:UInt8) ∉ escX l∧(34:UInt8) ∉ escX l:=by
 unfold escX;refine ⟨?_,?_,?_⟩ <;> (rw [List.mem_flatMap]; rintro ⟨b,_,hb⟩)
 ·exact (escS_free b).1 hb
 ·exact (escS_free b).2.1 hb
 ·exact (escS_free b).2.2 hb
theorem escX_app (a b:List UInt8):escX (a++b)=escX a++escX b:=by simp [escX]
theorem escX_nil {l:List UInt8}:escX l=[] ↔ l=[]:=by
 constructor
 ·intro h
  cases l with
  | nil=>rfl
  | cons b l =>
   have hb:∀ b:UInt8,escS b ≠ []:=by apply byte_all; decide +kernel
   have e:escX (b :: l)=escS b++escX l:=by simp [escX]
   rw [e] at h; simp at h; exact absurd h.1 (hb b)
 ·rintro rfl; rfl
theorem xdrop_id {l:List UInt8} (h:∀ b,l.head? = some b → xblk b=false):l.dropWhile xblk=l:=by
 cases l with
 | nil=>rfl
 | cons x l=>rw [List.dropWhile_cons,h x rfl]; rfl
theorem xtrim_id {l:List UInt8} (h1:∀ b,l.head? = some b → xblk b=false) (h2:∀ b,l.getLast? = some b → xblk b=false):xtrim l=l:=by
 unfold xtrim;rw [xdrop_id h1,xdrop_id (by intro b hb; rw [List.head?_reverse] at hb; exact h2 b hb),List.reverse_reverse]
theorem xtrim_ends {l:List UInt8} (h:xtrim l=l):(∀ b,l.head? = some b → xblk b=false)∧∀ b,l.getLast? = some b → xblk b=false:=by
 refine ⟨fun b hb=>?_,fun b hb=>?_⟩
 ·rw [← h] at hb;unfold xtrim at hb;rw [List.head?_reverse] at hb;have hs:(l.dropWhile xblk).reverse.dropWhile xblk <:+ (l.dropWhile xblk).reverse:=List.dropWhile_suffix _;obtain ⟨p,hp⟩:=hs;have hl:(l.dropWhile xblk).reverse.getLast? = some b:=by
   rw [← hp,List.getLast?_append,hb]; rfl
  rw [List.getLast?_reverse] at hl
  cases hd:l.dropWhile xblk with
  | nil=>rw [hd] at hl; simp at hl
  | cons x r =>
   rw [hd] at hl; simp at hl; subst hl
   have:=List.head?_dropWhile_not xblk l
   rw [hd] at this; simpa using this
 ·rw [← h] at hb;unfold xtrim at hb;rw [List.getLast?_reverse] at hb
  have:=List.head?_dropWhile_not xblk (l.dropWhile xblk).reverse
  rw [hb] at this; simpa using this
theorem escS_ends:∀ b:UInt8,(∀ x,(escS b).head? = some x → xblk x=true → xblk b=true)∧(∀ x,(escS b).getLast? = some x → xblk x=true → xblk b=true):=by
 have h:∀ b:UInt8,((escS b).head?.all fun x=>!xblk x || xblk b)=true∧((escS b).getLast?.all fun x=>!xblk x || xblk b)=true:=by apply byte_all; decide +kernel
 intro b;refine ⟨fun x hx hb=>?_,fun x hx hb=>?_⟩
 ·have:=(h b).1; rw [hx] at this; simpa [hb] using this
 ·have:=(h b).2; rw [hx] at this; simpa [hb] using this
theorem escS_ne:∀ b:UInt8,escS b ≠ []:=by apply byte_all; decide +kernel
theorem xtrim_esc {l:List UInt8} (h:xtrim l=l):xtrim (escX l)=escX l:=by
 obtain ⟨h1,h2⟩:=xtrim_ends h
 apply xtrim_id
 ·intro x hx
  cases l with
  | nil=>simp [escX] at hx
  | cons b r =>
   have e:escX (b :: r)=escS b++escX r:=by simp [escX]
   rw [e] at hx;have hx2:(escS b).head? = some x:=by
    cases hq:escS b with
    | nil=>exact absurd hq (escS_ne b)
    | cons y q=>rw [hq] at hx; simpa using hx
   cases hb:xblk x with
   | false=>rfl
   | true=>have:=h1 b rfl; rw [(escS_ends b).1 x hx2 hb] at this; simp at this
 ·intro x hx
  rcases List.eq_nil_or_concat l with rfl | ⟨r,b,rfl⟩
  ·simp [escX] at hx
  ·have e:escX (r++[b])=escX r++escS b:=by simp [escX]
   simp only [List.concat_eq_append] at hx h2;rw [e] at hx;have hx2:=last_app (escS_ne b) hx
   cases hb:xblk x with
   | false=>rfl
   | true=>have:=h2 b (by simp); rw [(escS_ends b).2 x hx2 hb] at this; simp at this
theorem namc_facts:∀ b:UInt8,namc b=true → xblk b=false∧b ≠ 47∧b ≠ 62∧b ≠ 61∧b ≠ 60∧b ≠ 34:=by apply byte_all; decide +kernel
theorem name_factsX {l:List UInt8} (h:nameX l=true):l ≠ []∧(∀ b ∈ l,namc b=true):=by
 simp only [nameX,Bool.and_eq_true] at h;refine ⟨?_,fun b hb=>List.all_eq_true.1 h.1 b hb⟩
 intro e; subst e; simp at h
def xbehind (l:List UInt8):List UInt8:=(l.reverse.dropWhile xblk).reverse
def attrX (s:List UInt8):Option (Par × List UInt8) :=
 match (s.dropWhile (· != 61)) with
 | []=>none
 | _ :: r=>match r.dropWhile xblk with
  | []=>none
  | q :: r2=>if q ≠ 34∧q ≠ 39 then none
   else match r2.dropWhile (fun b=>b != q && b != 60) with
    | []=>none
    | e :: r3=>if e ≠ q then none else (readX (r2.takeWhile (fun b=>b != q && b != 60))).map fun v=>(⟨xbehind (s.takeWhile (· != 61)),v,true⟩,r3)
def attrsX:Nat → List Par → List UInt8 → Option (List Par × List UInt8)
 | 0,_,_=>none
 | n+1,acc,s=>match s.dropWhile xblk with
  | []=>some (acc,[])
  | b :: r=>if b=47∨b=62 then some (acc,b :: r) else if s.head?.any xblk=false then none else match attrX (b :: r) with
   | none=>none
   | some (p,r2)=>attrsX n (acc++[p]) r2
def endc (b:UInt8):Bool:=b==47 || (b==62 || xblk b)
mutual
def elemX:Nat → Nat → Nat → List UInt8 → Option (List Nd × List UInt8)
 | 0,_,_,_=>none
 | n+1,d,c,s=>match s with
  | []=>none
  | b :: r=>if 8≤d∨200≤c∨b ≠ 60 then none
   else if r.dropWhile (fun b=>!endc b)=[] then none
   else match attrsX r.length [] (r.dropWhile (fun b=>!endc b)) with
    | none=>none
    | some (at',r2)=>match r2 with
     | 47 :: 62 :: r3=>some ([⟨d,r.takeWhile (fun b=>!endc b),at',[]⟩],r3)
     | 62 :: r3=>contX n ⟨d,r.takeWhile (fun b=>!endc b),at',[]⟩ d c [] [] r3
     | _=>none
def contX:Nat → Nd → Nat → Nat → List UInt8 → List Nd → List UInt8 → Option (List Nd × List UInt8)
 | 0,_,_,_,_,_,_=>none
 | n+1,x,d,c,txt,kids,s=>match s.dropWhile (· != 60) with
  | []=>none
  | b :: r =>
   if r.head? = some 47 then
    (if r.tail.take x.name.length ≠ x.name then none else match (r.tail.drop x.name.length).dropWhile xblk with
     | 62 :: r3=>(readX (xtrim (txt++s.takeWhile (· != 60)))).map fun t=>({ x with text:=xtrim t } :: kids,r3)
     | _=>none)
   else match elemX n (d+1) (c+1+kids.length) (b :: r) with
    | none=>none
    | some (ks,r3)=>contX n x d c (txt++s.takeWhile (· != 60)) (kids++ks) r3
end
inductive XT where
 | mk (name:List UInt8) (attrs:List Par) (text:List UInt8) (kids:List XT)
def attrT (p:Par):List UInt8:=[32]++p.name++[61,34]++escX p.value++[34]
def attrsT (l:List Par):List UInt8:=l.flatMap attrT
mutual
def printX:XT → List UInt8
 | .mk n a t k=>[60]++n++attrsT a++(if escX t++printXs k=[] then [47,62] else [62]++(escX t++printXs k)++([60,47]++n++[62]))
def printXs:List XT → List UInt8
 | []=>[]
 | k :: ks=>printX k++printXs ks
end
mutual
def flatX:Nat → XT → List Nd
 | d,.mk n a t k=>⟨d,n,a,t⟩ :: flatXs (d+1) k
def flatXs:Nat → List XT → List Nd
 | _,[]=>[]
 | d,k :: ks=>flatX d k++flatXs d ks
end
mutual
def szX:XT → Nat
 | .mk _ _ _ k=>szXs k+2
def szXs:List XT → Nat
 | []=>1
 | k :: ks=>szX k+szXs ks+1
end
mutual
def okX:Nat → XT → Bool
 | d,.mk n a t k=>decide (d < 8) && (nameX n && (a.all (fun p=>nameX p.name && p.has) && (xtrim t==t && ((k.isEmpty || t.isEmpty) && okXs (d+1) k))))
def okXs:Nat → List XT → Bool
 | _,[]=>true
 | d,k :: ks=>okX d k && okXs d ks
end
theorem takeW_app {p:UInt8 → Bool} {a:List UInt8} {c:UInt8} {r:List UInt8} (h:∀ b ∈ a,p b=true) (hc:p c=false):(a++c :: r).takeWhile p=a∧(a++c :: r).dropWhile p=c :: r:=by
 induction a with
 | nil=>simp [List.takeWhile_cons,List.dropWhile_cons,hc]
 | cons x a ih =>
  have hx:=h x (by simp);obtain ⟨i1,i2⟩:=ih (fun b hb=>h b (by simp [hb]));rw [List.cons_append,List.takeWhile_cons,List.dropWhile_cons,hx]
  simp [i1,i2]
theorem xbehind_id {l:List UInt8} (h:∀ b ∈ l,xblk b=false):xbehind l=l:=by
 unfold xbehind;rw [xdrop_id (fun b hb=>h b (by have:=List.mem_of_mem_head? hb; simpa using this)),List.reverse_reverse]
theorem attr_back {p:Par} (h:nameX p.name=true) (hh:p.has=true) (r:List UInt8):attrX (p.name++[61,34]++escX p.value++[34]++r)=some (p,r):=by
 obtain ⟨_,hn⟩:=name_factsX h;have e:p.name++[61,34]++escX p.value++[34]++r=p.name++61 :: (34 :: (escX p.value++34 :: r)):=by simp
 have t1:=takeW_app (p:=fun b=>b != 61) (a:=p.name) (c:=61) (r:=34 :: (escX p.value++34 :: r)) (fun b hb=>by have:=(namc_facts b (hn b hb)).2.2.2.1; simpa using this) (by simp);have hf:=escX_free p.value;have t2:=takeW_app (p:=fun b=>b != 34 && b != 60) (a:=escX p.value) (c:=34) (r:=r) (fun b hb=>by
  have h1:b ≠ 34:=fun e=>hf.2.2 (e ▸ hb);have h2:b ≠ 60:=fun e=>hf.1 (e ▸ hb)
  simp [h1,h2]) (by simp)
 unfold attrX;rw [e,t1.1,t1.2]
 simp only
 have e34:(34 :: (escX p.value++34 :: r)).dropWhile xblk=34 :: (escX p.value++34 :: r):=xdrop_id (by intro b hb; simp at hb; subst hb; decide +kernel);rw [e34]
 simp only
 rw [if_neg (by simp),t2.2]
 simp only
 rw [if_neg (by simp),t2.1,read_esc,xbehind_id fun b hb=>(namc_facts b (hn b hb)).1];obtain ⟨nm,vl,hs⟩:=p;simp only at hh; subst hh; rfl
theorem attrs_back:∀ (l acc:List Par) (n:Nat) (c:UInt8) (r:List UInt8),l.length < n → (∀ p ∈ l,nameX p.name=true∧p.has=true) → (c=47∨c=62) → attrsX n acc (attrsT l++c :: r)=some (acc++l,c :: r)
 | [],acc,0,c,r,h,_,_=>by simp at h
 | [],acc,n+1,c,r,h,_,hc=>by
  have hx:xblk c=false:=by rcases hc with rfl | rfl <;> decide +kernel
  rw [attrsT,List.flatMap_nil,List.nil_append,attrsX];have e:(c :: r).dropWhile xblk=c :: r:=xdrop_id (by intro b hb; simp at hb; subst hb; exact hx);rw [e]
  simp only
  rw [if_pos hc]; simp
 | p :: l,acc,0,c,r,h,_,_=>by simp at h
 | p :: l,acc,n+1,c,r,h,ha,hc=>by
  obtain ⟨h1,h2⟩:=ha p (by simp);obtain ⟨hne,hn⟩:=name_factsX h1;have e:attrsT (p :: l)++c :: r=32 :: (p.name++[61,34]++escX p.value++[34]++(attrsT l++c :: r)):=by simp [attrsT,attrT]
  rw [e,attrsX];have x32:xblk 32=true:=by decide +kernel
  cases hq:p.name with
  | nil=>exact absurd hq hne
  | cons y q =>
   have hy:=namc_facts y (hn y (by rw [hq]; simp));have e2:(32 :: (y :: q++[61,34]++escX p.value++[34]++(attrsT l++c :: r))).dropWhile xblk=y :: (q++[61,34]++escX p.value++[34]++(attrsT l++c :: r)):=by
    rw [List.dropWhile_cons,x32];simp only [if_true];rw [show y :: q++[61,34]++escX p.value++[34]++(attrsT l++c :: r)=y :: (q++[61,34]++escX p.value++[34]++(attrsT l++c :: r)) by simp,List.dropWhile_cons,hy.1]; rfl
   rw [e2]
   simp only
   rw [if_neg (by rintro (e | e); exact hy.2.1 e; exact hy.2.2.1 e),if_neg (by simp [x32])];have e3:y :: (q++[61,34]++escX p.value++[34]++(attrsT l++c :: r))=p.name++[61,34]++escX p.value++[34]++(attrsT l++c :: r):=by rw [hq]; simp
   rw [e3,attr_back h1 h2]
   simp only
   rw [attrs_back l (acc++[p]) n c r (by simp at h; omega) (fun x hx=>ha x (by simp [hx])) hc]; simp
theorem okX_facts {d:Nat} {n:List UInt8} {a:List Par} {t:List UInt8} {k:List XT} (h:okX d (.mk n a t k)=true):d < 8∧nameX n=true∧(∀ p ∈ a,nameX p.name=true∧p.has=true)∧xtrim t=t∧(k=[]∨t=[])∧okXs (d+1) k=true:=by
 rw [okX] at h;simp only [Bool.and_eq_true,decide_eq_true_eq,beq_iff_eq,Bool.or_eq_true,List.isEmpty_iff] at h;obtain ⟨h1,h2,h3,h4,h5,h6⟩:=h;exact ⟨h1,h2,fun p hp=>by have:=List.all_eq_true.1 h3 p hp; simpa using this,h4,h5,h6⟩
theorem print_head (t:XT) (d:Nat) (h:okX d t=true):∃ y q,printX t=60 :: y :: q∧y ≠ 47:=by
 obtain ⟨n,a,tx,k⟩:=t;obtain ⟨_,h2,_⟩:=okX_facts h;obtain ⟨hne,hn⟩:=name_factsX h2
 cases hq:n with
 | nil=>exact absurd hq hne
 | cons y q =>
  rw [printX];exact ⟨y,_,rfl,(namc_facts y (hn y (by rw [hq]; simp))).2.1⟩
theorem attrs_len (a:List Par):a.length≤(attrsT a).length:=by
 induction a with
 | nil=>simp
 | cons p a ih =>
  have e:attrsT (p :: a)=attrT p++attrsT a:=by simp [attrsT]
  rw [e,List.length_append,List.length_cons]
  have:1≤(attrT p).length:=by simp [attrT]
  omega
theorem tail_end (a:List Par) (c:UInt8) (r:List UInt8) (hc:c=47∨c=62):∃ e q,attrsT a++c :: r=e :: q∧endc e=true:=by
 cases a with
 | nil=>exact ⟨c,r,by simp [attrsT],by rcases hc with rfl | rfl <;> decide +kernel⟩
 | cons p a=>exact ⟨32,_,by simp [attrsT,attrT]; rfl,by decide +kernel⟩
theorem front_back {n:List UInt8} {a:List Par} {c:UInt8} {r:List UInt8} (hn:nameX n=true) (ha:∀ p ∈ a,nameX p.name=true∧p.has=true) (hc:c=47∨c=62) :
  (n++(attrsT a++c :: r)).takeWhile (fun b=>!endc b)=n∧(n++(attrsT a++c :: r)).dropWhile (fun b=>!endc b)=attrsT a++c :: r∧attrsT a++c :: r ≠ []∧attrsX (n++(attrsT a++c :: r)).length [] (attrsT a++c :: r)=some (a,c :: r):=by
 obtain ⟨hne,hb⟩:=name_factsX hn;obtain ⟨e,q,he,hee⟩:=tail_end a c r hc;have hnn:∀ b ∈ n,(!endc b)=true:=fun b hx=>by
  obtain ⟨f1,f2,f3,_⟩:=namc_facts b (hb b hx)
  simp [endc,f1,f2,f3]
 have tw:=takeW_app (p:=fun b=>!endc b) (a:=n) (c:=e) (r:=q) hnn (by simp [hee]);rw [← he] at tw;refine ⟨tw.1,tw.2,by rw [he]; simp,?_⟩
 have hl:a.length < (n++(attrsT a++c :: r)).length:=by
  have:=attrs_len a
  have:1≤n.length:=by cases n with | nil=>exact absurd rfl hne | cons x y=>simp
  simp; omega
 have:=attrs_back a [] _ c r hl ha hc
 simpa using this
theorem close_back {m:Nat} {x:Nd} {d c:Nat} {txt:List UInt8} {acc:List Nd} {rest t:List UInt8} (ht:readX (xtrim txt)=some t):contX (m+1) x d c txt acc ([60,47]++x.name++[62]++rest)=some ({ x with text:=xtrim t } :: acc,rest):=by
 have e:[60,47]++x.name++[62]++rest=60 :: (47 :: (x.name++62 :: rest)):=by simp
 have ed:(60 :: (47 :: (x.name++62 :: rest))).dropWhile (fun b=>b != 60)=60 :: (47 :: (x.name++62 :: rest)):=by simp [List.dropWhile_cons]
 have et:(60 :: (47 :: (x.name++62 :: rest))).takeWhile (fun b=>b != 60)=[]:=by simp [List.takeWhile_cons]
 have ex:(62 :: rest).dropWhile xblk=62 :: rest:=xdrop_id (by intro b hb; simp at hb; subst hb; decide +kernel);rw [e,contX,ed,et];simp only [List.head?_cons,if_true,List.tail_cons];have e1:(x.name++62 :: rest).take x.name.length=x.name:=by simp
 have e2:(x.name++62 :: rest).drop x.name.length=62 :: rest:=by simp
 simp [ex,ht]
theorem text_back {m:Nat} {x:Nd} {d c:Nat} {t rest:List UInt8} (ht:xtrim t=t):contX (m+1) x d c [] [] (escX t++([60,47]++x.name++[62]++rest))=some ([{ x with text:=t }],rest):=by
 have hf:=(escX_free t).1;have tw:=takeW_app (p:=fun b=>b != 60) (a:=escX t) (c:=60) (r:=47 :: (x.name++62 :: rest)) (fun b hb=>by have:b ≠ 60:=fun e=>hf (e ▸ hb); simpa using this) (by simp);have e:escX t++([60,47]++x.name++[62]++rest)=escX t++60 :: (47 :: (x.name++62 :: rest)):=by simp
 have ex:(62 :: rest).dropWhile xblk=62 :: rest:=xdrop_id (by intro b hb; simp at hb; subst hb; decide +kernel);rw [e,contX,tw.2,tw.1];simp only [List.head?_cons,if_true,List.tail_cons,List.nil_append];have e1:(x.name++62 :: rest).take x.name.length=x.name:=by simp
 have e2:(x.name++62 :: rest).drop x.name.length=62 :: rest:=by simp
 simp [ex,xtrim_esc ht,read_esc,ht]
theorem printXs_nil {k:List XT} {d:Nat} (h:okXs d k=true) (e:printXs k=[]):k=[]:=by
 cases k with
 | nil=>rfl
 | cons t k =>
  rw [okXs,Bool.and_eq_true] at h;obtain ⟨y,q,hp,_⟩:=print_head t d h.1;rw [printXs,hp] at e; simp at e
theorem tree_back:∀ n:Nat,
  (∀ (t:XT) (d c:Nat) (rest:List UInt8),okX d t=true → szX t≤n → c+(flatX d t).length≤200 → elemX n d c (printX t++rest)=some (flatX d t,rest)) ∧
  (∀ (ks:List XT) (x:Nd) (d c:Nat) (acc:List Nd) (rest:List UInt8),okXs (d+1) ks=true → szXs ks≤n → c+1+acc.length+(flatXs (d+1) ks).length≤200 →
   contX n x d c [] acc (printXs ks++([60,47]++x.name++[62]++rest))=some ({ x with text:=[] } :: (acc++flatXs (d+1) ks),rest))
 | 0=>by
  refine ⟨fun t d c rest _ h _=>?_,fun ks x d c acc rest _ h _=>?_⟩
  ·obtain ⟨n,a,tx,k⟩:=t; rw [szX] at h; omega
  ·cases ks with
   | nil=>rw [szXs] at h; omega
   | cons t ks=>rw [szXs] at h; omega
 | n+1=>by
  obtain ⟨ih1,ih2⟩:=tree_back n;refine ⟨fun t d c rest hok hsz hc=>?_,fun ks x d c acc rest hok hsz hc=>?_⟩
  ·obtain ⟨nm,a,tx,k⟩:=t;obtain ⟨k1,k2,k3,k4,k5,k6⟩:=okX_facts hok;rw [szX] at hsz;have hfl:(flatX d (.mk nm a tx k)).length=1+(flatXs (d+1) k).length:=by rw [flatX]; simp; omega
   rw [printX];by_cases hin:escX tx++printXs k=[]
   ·rw [if_pos hin];simp only [List.append_eq_nil_iff] at hin;obtain rfl:=escX_nil.1 hin.1;obtain rfl:=printXs_nil k6 hin.2;have e:[60]++nm++attrsT a++[47,62]++rest=60 :: (nm++(attrsT a++47 :: (62 :: rest))):=by simp
    obtain ⟨f1,f2,f3,f4⟩:=front_back (n:=nm) (a:=a) (c:=47) (r:=62 :: rest) k2 k3 (Or.inl rfl);rw [e,elemX]
    try simp only
    rw [if_neg (by rintro (c1 | c1 | c1); omega; omega; exact c1 rfl),f2,if_neg f3,f4]
    simp only
    rw [f1,flatX,flatXs]
   ·rw [if_neg hin];have e:[60]++nm++attrsT a++([62]++(escX tx++printXs k)++([60,47]++nm++[62]))++rest=60 :: (nm++(attrsT a++62 :: ((escX tx++printXs k)++([60,47]++nm++[62]++rest)))):=by simp
    obtain ⟨f1,f2,f3,f4⟩:=front_back (n:=nm) (a:=a) (c:=62) (r:=(escX tx++printXs k)++([60,47]++nm++[62]++rest)) k2 k3 (Or.inr rfl);rw [e,elemX]
    try simp only
    rw [if_neg (by rintro (c1 | c1 | c1); omega; omega; exact c1 rfl),f2,if_neg f3,f4]
    simp only
    rw [f1]
    rcases k5 with rfl | rfl
    ·cases n with
     | zero=>rw [szXs] at hsz; omega
     | succ m =>
      rw [printXs,List.append_nil]
      have:=text_back (m:=m) (x:=⟨d,nm,a,[]⟩) (d:=d) (c:=c) (t:=tx) (rest:=rest) k4
      rw [this,flatX,flatXs]
    ·have he:escX ([]:List UInt8)=[]:=rfl;rw [he,List.nil_append]
     have:=ih2 k ⟨d,nm,a,[]⟩ d c [] rest k6 (by omega) (by simp; omega)
     rw [this,flatX]; rfl
  ·cases ks with
   | nil =>
    rw [printXs,List.nil_append,flatXs]
    have:=close_back (m:=n) (x:=x) (d:=d) (c:=c) (txt:=[]) (acc:=acc) (rest:=rest) (t:=[]) rfl
    rw [this]; simp [xtrim]
   | cons t ks =>
    rw [okXs,Bool.and_eq_true] at hok;rw [szXs] at hsz;have hfl:(flatXs (d+1) (t :: ks)).length=(flatX (d+1) t).length+(flatXs (d+1) ks).length:=by rw [flatXs]; simp
    obtain ⟨y,q,hp,hy⟩:=print_head t (d+1) hok.1;have e:printXs (t :: ks)++([60,47]++x.name++[62]++rest)=printX t++(printXs ks++([60,47]++x.name++[62]++rest)):=by rw [printXs]; simp
    rw [e];have hel:=ih1 t (d+1) (c+1+acc.length) (printXs ks++([60,47]++x.name++[62]++rest)) hok.1 (by omega) (by omega);rw [hp] at hel ⊢;have ed:(60 :: y :: q++(printXs ks++([60,47]++x.name++[62]++rest))).dropWhile (fun b=>b != 60)=60 :: (y :: (q++(printXs ks++([60,47]++x.name++[62]++rest)))):=by simp [List.dropWhile_cons]
    have et:(60 :: y :: q++(printXs ks++([60,47]++x.name++[62]++rest))).takeWhile (fun b=>b != 60)=[]:=by simp [List.takeWhile_cons]
    rw [contX,ed,et];simp only [List.head?_cons,List.append_nil];rw [if_neg (by simpa using hy)];have hel2:elemX n (d+1) (c+1+acc.length) (60 :: (y :: (q++(printXs ks++([60,47]++x.name++[62]++rest)))))=some (flatX (d+1) t,printXs ks++([60,47]++x.name++[62]++rest)):=by simpa using hel
    rw [hel2]
    simp only
    rw [ih2 ks x d c (acc++flatX (d+1) t) rest hok.2 (by omega) (by simp; omega),flatXs]
    simp
def distinctX:List Par → Bool
 | []=>true
 | p :: ps=>ps.all (fun q=>!(q.name==p.name)) && distinctX ps
def attrsOk (l:List Par):Bool:=decide (l.length≤16) && (l.all (fun p=>nameX p.name && (p.has && signsX p.value)) && distinctX l)
def nodeOk (x:Nd):Bool:=decide (x.deep < 8) && (nameX x.name && (attrsOk x.attrs && (signsX x.text && xtrim x.text==x.text)))
def nextOk (x y:Nd):Bool:=decide (1≤y.deep∧y.deep≤x.deep+1) && (!decide (x.deep < y.deep) || x.text.isEmpty)
def stepsX:List Nd → Bool
 | []=>true
 | [x]=>nodeOk x
 | x :: y :: r=>nodeOk x && (nextOk x y && stepsX (y :: r))
def checkX (l:List Nd):Int:=if l.length < 1∨200 < l.length∨(l.head?.map (·.deep)) ≠ some 0∨stepsX l=false then 130 else 0
theorem steps_tail {x:Nd} {r:List Nd} (h:stepsX (x :: r)=true):nodeOk x=true∧stepsX r=true∧(∀ y,r.head? = some y → nextOk x y=true):=by
 cases r with
 | nil=>rw [stepsX] at h; exact ⟨h,rfl,by simp⟩
 | cons y r =>
  rw [stepsX] at h;simp only [Bool.and_eq_true] at h;exact ⟨h.1,h.2.2,fun z hz=>by simp at hz; subst hz; exact h.2.1⟩
theorem steps_drop:∀ (a b:List Nd),stepsX (a++b)=true → stepsX b=true
 | [],b,h=>h
 | x :: a,b,h=>steps_drop a b (steps_tail h).2.1
theorem node_facts {x:Nd} (h:nodeOk x=true):x.deep < 8∧nameX x.name=true∧(x.attrs.all fun p=>nameX p.name && p.has)=true∧xtrim x.text=x.text:=by
 simp only [nodeOk,attrsOk,Bool.and_eq_true,decide_eq_true_eq,beq_iff_eq] at h;obtain ⟨h1,h2,⟨_,h3,_⟩,_,h5⟩:=h;refine ⟨h1,h2,?_,h5⟩
 rw [List.all_eq_true] at h3 ⊢;intro p hp
 have:=h3 p hp
 simp only [Bool.and_eq_true] at this ⊢;exact ⟨this.1,this.2.1⟩
theorem checkX_ok {l:List Nd} (h:checkX l=0):1≤l.length∧l.length≤200∧(l.head?.map (·.deep))=some 0∧stepsX l=true:=by
 unfold checkX at h
 split at h
 ·simp at h
 ·rename_i hc
  simp only [not_or,Nat.not_lt,ne_eq,Decidable.not_not,Bool.not_eq_false] at hc;exact ⟨by omega,hc.2.1,hc.2.2.1,hc.2.2.2⟩
theorem glueLL (a b:List UInt8):(⟨a.toArray⟩:ByteArray)++⟨b.toArray⟩=⟨(a++b).toArray⟩:=by
 rw [ByteArray.mk_append_mk]; first | done | simp
end Go.Proofs.YtdnekampnkhmfaaGreatDoor
