/-
  XmlTreeL, XmlDocL, OpenNode, PidfL, XmlPadL, PidfBackL, PidfRoundL, NumL, RefCut.
-/
import Derived.Test.YtdbalahkmeknaaaGreatDoorPW06
import Derived.OpenShut
set_option linter.unusedVariables false
set_option linter.unusedSimpArgs false
set_option maxRecDepth 20000
namespace Go.Proofs.YtdbalahkmeknaaaGreatDoor
open Go.RowKit Sc
theorem tree_back:∀ n:Nat,
  (∀ (t:XT) (d c:Nat) (rest:List UInt8),okX d t=true → szX t≤n → c+(flatX d t).length≤200 → elemX n d c (printX t++rest)=some (flatX d t,rest)) ∧
  (∀ (ks:List XT) (x:Nd) (d c:Nat) (acc:List Nd) (rest:List UInt8),okXs (d+1) ks=true → szXs ks≤n → c+1+acc.length+(flatXs (d+1) ks).length≤200 →
   contX n x d c [] acc (printXs ks++([60,47]++x.name++[62]++rest))=some ({ x with text:=[] } :: (acc++flatXs (d+1) ks),rest))
 | 0=>by
  refine ⟨fun t d c rest _ h _=>?_,fun ks x d c acc rest _ h _=>?_⟩
  ·obtain ⟨n,a,tx,k⟩:=t; rw [szX] at h; omega
  ·cases ks with
   | nil=>rw [szXs] at h; omega
   | cons t ks=>rw [szXs] at h; omega
 | n+1=>by
  obtain ⟨ih1,ih2⟩:=tree_back n;refine ⟨fun t d c rest hok hsz hc=>?_,fun ks x d c acc rest hok hsz hc=>?_⟩
  ·obtain ⟨nm,a,tx,k⟩:=t;obtain ⟨k1,k2,k3,k4,k5,k6⟩:=okX_facts hok;rw [szX] at hsz;have hfl:(flatX d (.mk nm a tx k)).length=1+(flatXs (d+1) k).length:=by rw [flatX]; simp; omega
   rw [printX];by_cases hin:escX tx++printXs k=[]
   ·rw [if_pos hin];simp only [List.append_eq_nil_iff] at hin;obtain rfl:=escX_nil.1 hin.1;obtain rfl:=printXs_nil k6 hin.2;have e:[60]++nm++attrsT a++[47,62]++rest=60 :: (nm++(attrsT a++47 :: (62 :: rest))):=by simp
    obtain ⟨f1,f2,f3,f4⟩:=front_back (n:=nm) (a:=a) (c:=47) (r:=62 :: rest) k2 k3 (Or.inl rfl);rw [e,elemX]
    try simp only
    rw [if_neg (by rintro (c1 | c1 | c1); omega; omega; exact c1 rfl),f2,if_neg f3,f4]
    simp only
    rw [f1,flatX,flatXs]
   ·rw [if_neg hin];have e:[60]++nm++attrsT a++([62]++(escX tx++printXs k)++([60,47]++nm++[62]))++rest=60 :: (nm++(attrsT a++62 :: ((escX tx++printXs k)++([60,47]++nm++[62]++rest)))):=by simp
    obtain ⟨f1,f2,f3,f4⟩:=front_back (n:=nm) (a:=a) (c:=62) (r:=(escX tx++printXs k)++([60,47]++nm++[62]++rest)) k2 k3 (Or.inr rfl);rw [e,elemX]
    try simp only
    rw [if_neg (by rintro (c1 | c1 | c1); omega; omega; exact c1 rfl),f2,if_neg f3,f4]
    simp only
    rw [f1]
    rcases k5 with rfl | rfl
    ·cases n with
     | zero=>rw [szXs] at hsz; omega
     | succ m =>
      rw [printXs,List.append_nil]
      have:=text_back (m:=m) (x:=⟨d,nm,a,[]⟩) (d:=d) (c:=c) (t:=tx) (rest:=rest) k4
      rw [this,flatX,flatXs]
    ·have he:escX ([]:List UInt8)=[]:=rfl;rw [he,List.nil_append]
     have:=ih2 k ⟨d,nm,a,[]⟩ d c [] rest k6 (by omega) (by simp; omega)
     rw [this,flatX]; rfl
  ·cases ks with
   | nil =>
    rw [printXs,List.nil_append,flatXs]
    have:=close_back (m:=n) (x:=x) (d:=d) (c:=c) (txt:=[]) (acc:=acc) (rest:=rest) (t:=[]) rfl
    rw [this]; simp [xtrim]
   | cons t ks =>
    rw [okXs,Bool.and_eq_true] at hok;rw [szXs] at hsz;have hfl:(flatXs (d+1) (t :: ks)).length=(flatX (d+1) t).length+(flatXs (d+1) ks).length:=by rw [flatXs]; simp
    obtain ⟨y,q,hp,hy⟩:=print_head t (d+1) hok.1;have e:printXs (t :: ks)++([60,47]++x.name++[62]++rest)=printX t++(printXs ks++([60,47]++x.name++[62]++rest)):=by rw [printXs]; simp
    rw [e];have hel:=ih1 t (d+1) (c+1+acc.length) (printXs ks++([60,47]++x.name++[62]++rest)) hok.1 (by omega) (by omega);rw [hp] at hel ⊢;have ed:(60 :: y :: q++(printXs ks++([60,47]++x.name++[62]++rest))).dropWhile (fun b=>b != 60)=60 :: (y :: (q++(printXs ks++([60,47]++x.name++[62]++rest)))):=by simp [List.dropWhile_cons]
    have et:(60 :: y :: q++(printXs ks++([60,47]++x.name++[62]++rest))).takeWhile (fun b=>b != 60)=[]:=by simp [List.takeWhile_cons]
    rw [contX,ed,et];simp only [List.head?_cons,List.append_nil];rw [if_neg (by simpa using hy)];have hel2:elemX n (d+1) (c+1+acc.length) (60 :: (y :: (q++(printXs ks++([60,47]++x.name++[62]++rest)))))=some (flatX (d+1) t,printXs ks++([60,47]++x.name++[62]++rest)):=by simpa using hel
    rw [hel2]
    simp only
    rw [ih2 ks x d c (acc++flatX (d+1) t) rest hok.2 (by omega) (by simp; omega),flatXs]
    simp
def distinctX:List Par → Bool
 | []=>true
 | p :: ps=>ps.all (fun q=>!(q.name==p.name)) && distinctX ps
def attrsOk (l:List Par):Bool:=decide (l.length≤16) && (l.all (fun p=>nameX p.name && (p.has && signsX p.value)) && distinctX l)
def nodeOk (x:Nd):Bool:=decide (x.deep < 8) && (nameX x.name && (attrsOk x.attrs && (signsX x.text && xtrim x.text==x.text)))
def nextOk (x y:Nd):Bool:=decide (1≤y.deep∧y.deep≤x.deep+1) && (!decide (x.deep < y.deep) || x.text.isEmpty)
def stepsX:List Nd → Bool
 | []=>true
 | [x]=>nodeOk x
 | x :: y :: r=>nodeOk x && (nextOk x y && stepsX (y :: r))
def checkX (l:List Nd):Int:=if l.length < 1∨200 < l.length∨(l.head?.map (·.deep)) ≠ some 0∨stepsX l=false then 130 else 0
theorem steps_tail {x:Nd} {r:List Nd} (h:stepsX (x :: r)=true):nodeOk x=true∧stepsX r=true∧(∀ y,r.head? = some y → nextOk x y=true):=by
 cases r with
 | nil=>rw [stepsX] at h; exact ⟨h,rfl,by simp⟩
 | cons y r =>
  rw [stepsX] at h;simp only [Bool.and_eq_true] at h;exact ⟨h.1,h.2.2,fun z hz=>by simp at hz; subst hz; exact h.2.1⟩
theorem steps_drop:∀ (a b:List Nd),stepsX (a++b)=true → stepsX b=true
 | [],b,h=>h
 | x :: a,b,h=>steps_drop a b (steps_tail h).2.1
theorem steps_take:∀ (a b:List Nd),stepsX (a++b)=true → stepsX a=true
 | [],b,_=>rfl
 | [x],b,h=>by rw [stepsX]; exact (steps_tail h).1
 | x :: y :: a,b,h=>by
  obtain ⟨h1,h2,h3⟩:=steps_tail h;rw [stepsX,h1,h3 y rfl];exact steps_take (y :: a) b h2
theorem node_facts {x:Nd} (h:nodeOk x=true):x.deep < 8∧nameX x.name=true∧(x.attrs.all fun p=>nameX p.name && p.has)=true∧xtrim x.text=x.text:=by
 simp only [nodeOk,attrsOk,Bool.and_eq_true,decide_eq_true_eq,beq_iff_eq] at h;obtain ⟨h1,h2,⟨_,h3,_⟩,_,h5⟩:=h;refine ⟨h1,h2,?_,h5⟩
 rw [List.all_eq_true] at h3 ⊢;intro p hp
 have:=h3 p hp
 simp only [Bool.and_eq_true] at this ⊢;exact ⟨this.1,this.2.1⟩
theorem forest_of:∀ (n:Nat) (l:List Nd) (d:Nat),l.length≤n → stepsX l=true → (∀ x ∈ l,(d:Int)≤x.deep) → (∀ x,l.head? = some x → x.deep=d) → ∃ ks,flatXs d ks=l∧okXs d ks=true
 | 0,l,d,hl,_,_,_=>by
  obtain rfl:=List.eq_nil_of_length_eq_zero (Nat.le_zero.1 hl);exact ⟨[],rfl,rfl⟩
 | n+1,[],d,_,_,_,_=>⟨[],rfl,rfl⟩
 | n+1,x :: r,d,hl,hs,hd,hh=>by
  obtain ⟨s1,s2,s3⟩:=steps_tail hs;have hx:x.deep=d:=hh x rfl
  -- what lies in x, and what behind
  obtain ⟨a,b,rfl,ha,hb⟩:∃ a b,r=a++b∧(∀ y ∈ a,(d:Int) < y.deep)∧(∀ y,b.head? = some y → y.deep≤d):=by
   refine ⟨r.takeWhile (fun y=>decide ((d:Int) < y.deep)),r.dropWhile (fun y=>decide ((d:Int) < y.deep)),(List.takeWhile_append_dropWhile).symm,?_,?_⟩
   ·intro y hy
    have:=List.all_eq_true.1 (List.all_takeWhile (p:=fun y:Nd=>decide ((d:Int) < y.deep)) (l:=r)) y hy
    simpa using this
   ·intro y hy
    have:=List.head?_dropWhile_not (fun y:Nd=>decide ((d:Int) < y.deep)) r
    rw [hy] at this; simpa using this
  simp only [List.length_cons,List.length_append] at hl
  obtain ⟨ks,k1,k2⟩:=forest_of n a (d+1) (by omega) (steps_take a b s2) (fun y hy=>by have:=ha y hy; omega) (fun y hy=>by
   have h1:=ha y (List.mem_of_mem_head? hy);have h2:=s3 y (by rw [List.head?_append,hy]; rfl);simp only [nextOk,Bool.and_eq_true,decide_eq_true_eq] at h2;omega)
  obtain ⟨ms,m1,m2⟩:=forest_of n b d (by omega) (steps_drop a b s2) (fun y hy=>hd y (by simp [hy])) (fun y hy=>by
   have h1:=hb y hy;have h2:=hd y (by simp [List.mem_of_mem_head? hy]);omega)
  obtain ⟨f1,f2,f3,f4⟩:=node_facts s1;refine ⟨.mk x.name x.attrs x.text ks :: ms,?_,?_⟩
  ·rw [flatXs,flatX,k1,m1];obtain ⟨dp,nm,at',tx⟩:=x;simp only at hx; subst hx; simp
  ·rw [okXs,okX,m2,k2,f2,f3];simp only [Bool.and_true,Bool.true_and,Bool.and_eq_true,decide_eq_true_eq,beq_iff_eq,Bool.or_eq_true,List.isEmpty_iff];refine ⟨by omega,f4,?_⟩
   cases ks with
   | nil=>exact Or.inl rfl
   | cons t ts =>
    refine Or.inr ?_
    -- a is not empty: its first is deeper
    have hne:a ≠ []:=by
     rw [← k1];obtain ⟨n',a',t',k'⟩:=t;rw [flatXs,flatX]; simp
    cases ha':a with
    | nil=>exact absurd ha' hne
    | cons y q =>
     have h1:=ha y (by rw [ha']; simp);have h2:=s3 y (by rw [ha']; rfl);simp only [nextOk,Bool.and_eq_true,Bool.or_eq_true,Bool.not_eq_true',decide_eq_true_eq,decide_eq_false_iff_not,List.isEmpty_iff] at h2
     rcases h2.2 with h3 | h3
     ·omega
     ·exact h3
theorem steps_deep:∀ (r:List Nd) (x:Nd),stepsX (x :: r)=true → ∀ y ∈ r,(1:Int)≤y.deep
 | [],x,_,y,hy=>by simp at hy
 | z :: r,x,h,y,hy=>by
  obtain ⟨_,h2,h3⟩:=steps_tail h;have hz:=h3 z rfl;simp only [nextOk,Bool.and_eq_true,decide_eq_true_eq] at hz
  rcases List.mem_cons.1 hy with rfl | hy
  ·exact hz.1.1
  ·exact steps_deep r z h2 y hy
theorem checkX_ok {l:List Nd} (h:checkX l=0):1≤l.length∧l.length≤200∧(l.head?.map (·.deep))=some 0∧stepsX l=true:=by
 unfold checkX at h
 split at h
 ·simp at h
 ·rename_i hc
  simp only [not_or,Nat.not_lt,ne_eq,Decidable.not_not,Bool.not_eq_false] at hc;exact ⟨by omega,hc.2.1,hc.2.2.1,hc.2.2.2⟩
theorem tree_of {l:List Nd} (h:checkX l=0):∃ t,flatX 0 t=l∧okX 0 t=true:=by
 obtain ⟨h1,h2,h3,h4⟩:=checkX_ok h
 cases l with
 | nil=>simp at h1
 | cons x r =>
  obtain ⟨s1,s2,s3⟩:=steps_tail h4;have hx:x.deep=0:=by simpa using h3
  have hdeep:∀ y ∈ r,(1:Int)≤y.deep:=steps_deep r x h4
  obtain ⟨ks,k1,k2⟩:=forest_of r.length r 1 (Nat.le_refl _) s2 (fun y hy=>by have:=hdeep y hy; omega) (fun y hy=>by
   have a1:=hdeep y (List.mem_of_mem_head? hy);have a2:=s3 y hy;simp only [nextOk,Bool.and_eq_true,decide_eq_true_eq] at a2;omega)
  obtain ⟨f1,f2,f3,f4⟩:=node_facts s1;refine ⟨.mk x.name x.attrs x.text ks,?_,?_⟩
  ·rw [flatX,k1];obtain ⟨dp,nm,at',tx⟩:=x;simp only at hx; subst hx; rfl
  ·rw [okX,k2,f2,f3];simp only [Bool.and_true,Bool.true_and,Bool.and_eq_true,decide_eq_true_eq,beq_iff_eq,Bool.or_eq_true,List.isEmpty_iff];refine ⟨by omega,f4,?_⟩
   cases r with
   | nil =>
    refine Or.inl ?_
    cases ks with
    | nil=>rfl
    | cons t ts=>obtain ⟨n',a',t',k'⟩:=t; rw [flatXs,flatX] at k1; simp at k1
   | cons y q =>
    refine Or.inr ?_
    have a1:=hdeep y (by simp);have a2:=s3 y rfl;simp only [nextOk,Bool.and_eq_true,Bool.or_eq_true,Bool.not_eq_true',decide_eq_true_eq,decide_eq_false_iff_not,List.isEmpty_iff] at a2
    rcases a2.2 with h3 | h3
    ·omega
    ·exact h3
def prologK:List UInt8:=[60,63,120,109,108,32,118,101,114,115,105,111,110,61,34,49,46,48,34,32,101,110,99,111,100,105,110,103,61,34,85,84,70,45,56,34,63,62,10]
def bodyX (s:List UInt8):Option (List UInt8) :=
 if s.take 5=[60,63,120,109,108] then (if ((s.drop 5).dropWhile (· != 63)).take 2=[63,62] then some (((s.drop 5).dropWhile (· != 63)).drop 2) else none) else some s
def parseX (s:List UInt8):List Nd × Int :=
 if 4096 < s.length then ([],2)
 else match bodyX s with
  | none=>([],130)
  | some r=>match elemX (s.length+1) 0 0 (r.dropWhile xblk) with
   | none=>([],130)
   | some (l,r2)=>if r2.dropWhile xblk=[]∧checkX l=0 then (l,0) else ([],130)
theorem sz_len (n:Nat):(∀ (t:XT) (d:Nat),szX t≤n → okX d t=true → szX t+1≤(printX t).length)∧(∀ (ks:List XT) (d:Nat),szXs ks≤n → okXs d ks=true → szXs ks≤1+(printXs ks).length):=by
 induction n with
 | zero =>
  refine ⟨fun t d h _=>?_,fun ks d h _=>?_⟩
  ·obtain ⟨n',a,tx,k⟩:=t; rw [szX] at h; omega
  ·cases ks with
   | nil=>rw [szXs] at h; omega
   | cons t ks=>rw [szXs] at h; omega
 | succ n ih =>
  refine ⟨fun t d h hok=>?_,fun ks d h hok=>?_⟩
  ·obtain ⟨nm,a,tx,k⟩:=t;obtain ⟨k1,k2,k3,k4,k5,k6⟩:=okX_facts hok;obtain ⟨hne,_⟩:=name_factsX k2;have hnl:1≤nm.length:=by cases nm with | nil=>exact absurd rfl hne | cons x y=>simp
   rw [szX] at h ⊢
   have:=ih.2 k (d+1) (by omega) k6
   rw [printX]
   split
   ·rename_i hin
    simp only [List.append_eq_nil_iff] at hin;rw [hin.2] at this
    simp at this ⊢; omega
   ·simp; omega
  ·cases ks with
   | nil=>rw [szXs]; omega
   | cons t ks =>
    rw [okXs,Bool.and_eq_true] at hok;rw [szXs] at h ⊢;have a1:=ih.1 t d (by omega) hok.1;have a2:=ih.2 ks d (by omega) hok.2;rw [printXs,List.length_append]; omega
theorem doc_back {l:List Nd} {t:XT} (h:checkX l=0) (hf:flatX 0 t=l) (hok:okX 0 t=true) {bl:List UInt8} (hb:∀ b ∈ bl,xblk b=true) (hl:(prologK++printX t++bl).length≤4096):parseX (prologK++printX t++bl)=(l,0):=by
 obtain ⟨h1,h2,h3,h4⟩:=checkX_ok h
 have hbody:bodyX (prologK++printX t++bl)=some (10 :: (printX t++bl)):=by
  unfold bodyX;have e5:(prologK++printX t++bl).take 5=[60,63,120,109,108]:=by simp [prologK]
  have e6:((prologK++printX t++bl).drop 5).dropWhile (· != 63)=63 :: 62 :: 10 :: (printX t++bl):=by simp [prologK,List.dropWhile_cons]
  rw [if_pos e5,e6]; simp
 obtain ⟨y,q,hp,_⟩:=print_head t 0 hok
 have hbl:bl.dropWhile xblk=[]:=by
  clear hl hbody
  induction bl with
  | nil=>rfl
  | cons x bl ih=>rw [List.dropWhile_cons,hb x (by simp),if_pos rfl]; exact ih (fun b hx=>hb b (by simp [hx]))
 have hd:(10 :: (printX t++bl)).dropWhile xblk=printX t++bl:=by
  rw [List.dropWhile_cons,show xblk 10=true by decide +kernel];simp only [if_true];exact xdrop_id (by intro b hx; rw [hp] at hx; simp at hx; subst hx; decide +kernel)
 have hsz:=(sz_len (szX t)).1 t 0 (Nat.le_refl _) hok;have he:=(tree_back ((prologK++printX t++bl).length+1)).1 t 0 0 bl hok (by simp; omega) (by rw [hf]; omega);unfold parseX;rw [if_neg (by omega),hbody]
 simp only
 rw [hd,he]
 simp only
 rw [hbl,hf,if_pos ⟨rfl,h⟩]
end Go.Proofs.YtdbalahkmeknaaaGreatDoor
namespace Go.Proofs.YtdbalahkmeknaaaGreatDoor
open Go.RowKit Go.ChangeShapes Go.WideShapes Go.Deep
structure NdC where
 nd:Nd
 a:Value
def ndCells (c:NdC):List Value:=[.int .i64 c.nd.deep,.string ⟨c.nd.name.toArray⟩,c.a,.string ⟨c.nd.text.toArray⟩]
def ndV (x:Nd) (a:Value):Value:=.agg #[.int .i64 x.deep,.string ⟨x.name.toArray⟩,a,.string ⟨x.text.toArray⟩]
structure NdAt (w:World) (ad:Addr) (k:Nat) (c:NdC):Prop where
 c0:w.cell? (ad.add (k * 4))=some (.int .i64 c.nd.deep)
 c1:w.cell? ⟨(ad.add (k * 4)).block,(ad.add (k * 4)).off+1,none⟩=some (.string ⟨c.nd.name.toArray⟩)
 c2:w.cell? ⟨(ad.add (k * 4)).block,(ad.add (k * 4)).off+2,none⟩=some c.a
 c3:w.cell? ⟨(ad.add (k * 4)).block,(ad.add (k * 4)).off+3,none⟩=some (.string ⟨c.nd.text.toArray⟩)
theorem NdAt.below {B:Nat} {w w':World} {ad:Addr} {k:Nat} {c:NdC} (h:NdAt w ad k c) (hb:Below B w w') (ha:ad.block < B):NdAt w' ad k c :=
 ⟨cell_below hb (by rw [add_block]; exact ha) h.c0,cell_below hb (by simp only [add_block]; exact ha) h.c1,cell_below hb (by simp only [add_block]; exact ha) h.c2,cell_below hb (by simp only [add_block]; exact ha) h.c3⟩
def NdsAt (w:World) (v:Value) (cs:List NdC):Prop :=
 ∃ (ao:Option Addr) (cap:Nat),v=.slice ao cs.length cap∧∀ k (hk:k < cs.length),∃ ad,ao=some ad∧ad.block < w.heap.size∧NdAt w ad k cs[k]∧ParsAt w cs[k].a cs[k].nd.attrs
theorem NdsAt.below {w w':World} {v:Value} {cs:List NdC} (h:NdsAt w v cs) (hb:Below w.heap.size w w'):NdsAt w' v cs:=by
 obtain ⟨ao,cap,hv,hc⟩:=h;refine ⟨ao,cap,hv,fun k hk=>?_⟩
 obtain ⟨ad,e,hlt,hcell,hp⟩:=hc k hk;exact ⟨ad,e,Nat.lt_of_lt_of_le hlt hb.size,hcell.below hb hlt,hp.below hb⟩
theorem NdsAt.form {w:World} {v:Value} {cs:List NdC} (h:NdsAt w v cs):∃ a cap,v=.slice a cs.length cap:=by
 obtain ⟨ao,cap,hv,_⟩:=h;exact ⟨ao,cap,hv⟩
def ndsL (cs:List NdC):List Nd:=cs.map NdC.nd
theorem ndsL_len (cs:List NdC):(ndsL cs).length=cs.length:=by simp [ndsL]
def SmallN (B:Nat) (x:Nd):Prop:=x.name.length≤B∧x.text.length≤B∧SmallP B x.attrs∧(Lit.int .i64 x.deep).wf=true
end Go.Proofs.YtdbalahkmeknaaaGreatDoor
namespace Go.Proofs.YtdbalahkmeknaaaGreatDoor
open Go.RowKit Sc
def d3 (n:Nat):List UInt8:=[UInt8.ofNat (48+n / 100 % 10),UInt8.ofNat (48+n / 10 % 10),UInt8.ofNat (48+n % 10)]
def presenceK:List UInt8:=[112,114,101,115,101,110,99,101]
def xmlnsK:List UInt8:=[120,109,108,110,115]
def presK:List UInt8:=[112,114,101,115]
def pidK:List UInt8:=[105,100]
def pstatK:List UInt8:=[115,116,97,116,117,115]
def atr (n v:List UInt8):Par:=⟨n,v,true⟩
def attG (nm:List UInt8):List Par → Option (List UInt8)
 | []=>none
 | p :: ps=>if p.name=nm then some p.value else attG nm ps
def blanksX (l:List UInt8):Prop:=∀ b ∈ l,xblk b=true
theorem drop_blanks {l:List UInt8} (h:blanksX l):l.dropWhile xblk=[]:=by
 induction l with
 | nil=>rfl
 | cons x l ih=>rw [List.dropWhile_cons,h x (by simp),if_pos rfl]; exact ih (fun b hb=>h b (by simp [hb]))
mutual
def goodX:Nat → XT → Prop
 | d,.mk n a t k=>nodeOk ⟨d,n,a,t⟩=true∧(k=[]∨t=[])∧goodXs (d+1) k
def goodXs:Nat → List XT → Prop
 | _,[]=>True
 | d,k :: ks=>goodX d k∧goodXs d ks
end
theorem goodXs_all (d:Nat):∀ a:List XT,goodXs d a ↔ ∀ k ∈ a,goodX d k
 | []=>by simp [goodXs]
 | k :: a=>by rw [goodXs,goodXs_all d a]; simp
theorem steps_cons {x:Nd} {r:List Nd} (h:nodeOk x=true) (hr:stepsX r=true) (hn:∀ y,r.head? = some y → nextOk x y=true):stepsX (x :: r)=true:=by
 cases r with
 | nil=>simpa [stepsX] using h
 | cons y r=>simp [stepsX,h,hr,hn y rfl]
mutual
theorem steps_good:∀ (t:XT) (d:Nat) (post:List Nd),goodX d t → stepsX post=true → (∀ y,post.head? = some y → 1≤y.deep∧y.deep≤(d:Int)) → stepsX (flatX d t++post)=true
 | .mk n a tx ks,d,post,hg,hp,hh=>by
  rw [goodX] at hg;obtain ⟨h1,h2,h3⟩:=hg;obtain ⟨k1,k2⟩:=steps_goods ks (d+1) post (by omega) h3 hp (fun y hy=>⟨(hh y hy).1,by have:=(hh y hy).2; omega⟩);rw [flatX,List.cons_append];refine steps_cons h1 k1 fun y hy=>?_
  have h4:=k2 y hy;simp only [nextOk,Bool.and_eq_true,decide_eq_true_eq,Bool.or_eq_true,Bool.not_eq_true',decide_eq_false_iff_not];refine ⟨⟨h4.1,by have:=h4.2; omega⟩,?_⟩
  rcases h2 with rfl | rfl
  ·left
   rw [flatXs,List.nil_append] at hy
   have:=(hh y hy).2
   omega
  ·right; rfl
theorem steps_goods:∀ (ks:List XT) (d:Nat) (post:List Nd),1≤d → goodXs d ks → stepsX post=true → (∀ y,post.head? = some y → 1≤y.deep∧y.deep≤(d:Int)) → stepsX (flatXs d ks++post)=true∧∀ y,(flatXs d ks++post).head? = some y → 1≤y.deep∧y.deep≤(d:Int)
 | [],d,post,hd,_,hp,hh=>by rw [flatXs,List.nil_append]; exact ⟨hp,hh⟩
 | k :: ks,d,post,hd,hg,hp,hh=>by
  rw [goodXs] at hg;obtain ⟨k1,k2⟩:=steps_goods ks d post hd hg.2 hp hh;rw [flatXs,List.append_assoc];refine ⟨steps_good k d _ hg.1 k1 k2,fun y hy=>?_⟩
  obtain ⟨n,a,t,q⟩:=k;rw [flatX,List.cons_append,List.head?_cons] at hy
  injection hy with hy
  subst hy;exact ⟨by simp only; omega,by simp⟩
end
theorem check_good {t:XT} (h:goodX 0 t) (hl:(flatX 0 t).length≤200):checkX (flatX 0 t)=0:=by
 have hs:=steps_good t 0 [] h rfl (fun y hy=>by simp at hy);rw [List.append_nil] at hs;obtain ⟨n,a,tx,k⟩:=t;unfold checkX;rw [if_neg];rw [hs];rw [flatX] at hl ⊢
 simp at hl ⊢
 omega
mutual
theorem ok_good:∀ (t:XT) (d:Nat),goodX d t → okX d t=true
 | .mk n a tx ks,d,hg=>by
  rw [goodX] at hg;obtain ⟨h1,h2,h3⟩:=hg;obtain ⟨f1,f2,f3,f4⟩:=node_facts h1;have hk:=ok_goods ks (d+1) h3;simp only at f1 f2 f3 f4;rw [okX];have f1':d < 8:=by omega
  rcases h2 with rfl | rfl
  ·simp [f1',f2,f3,f4,hk]
  ·simp [f1',f2,f3,f4,hk]
theorem ok_goods:∀ (ks:List XT) (d:Nat),goodXs d ks → okXs d ks=true
 | [],d,_=>by simp [okXs]
 | k :: ks,d,hg=>by
  rw [goodXs] at hg;rw [okXs,ok_good k d hg.1,ok_goods ks d hg.2]; rfl
end
theorem host_is {s:List UInt8} (h:(hostV s).2=0):∃ u,checkV u=0∧u.user ≠ []∧s=whoT u:=by
 unfold hostV at h
 split at h
 ·next h1=>exact absurd h h1
 ·split at h
  ·next h2 =>
   generalize (parseV ([115,105,112,58]++s)).1=u at h2;unfold whoV at h2
   split at h2
   ·next h3=>simp only [Prod.mk.injEq] at h2; exact absurd h2.2 h3
   ·next h3 =>
    split at h2
    ·simp at h2
    ·next h4 =>
     simp only [Prod.mk.injEq,and_true] at h2;exact ⟨u,Classical.not_not.1 h3,h4,h2.symm⟩
  ·simp at h
theorem sign_users (b:UInt8) (h:okw usersK b=true):signX b=true:=byte_all (P:=fun b=>okw usersK b=true → signX b=true) (by decide +kernel) b h
theorem sign_host (b:UInt8) (h:hob b=true):signX b=true:=byte_all (P:=fun b=>hob b=true → signX b=true) (by decide +kernel) b h
theorem who_signs {u:Uri} (h:checkV u=0):signsX (presK++[58]++whoT u)=true:=by
 obtain ⟨c1,c2,c3,_⟩:=check_ok h;unfold signsX;rw [List.all_eq_true];intro b hb;unfold whoT at hb;simp only [List.mem_append,List.mem_singleton] at hb
 rcases hb with (hb | hb) | ((hb | hb) | hb)
 ·revert b; decide +kernel
 ·subst hb; decide +kernel
 ·exact sign_users b (escL_ok _ _ b hb)
 ·subst hb; decide +kernel
 ·exact sign_host b ((host_facts c3).1 b hb)
theorem node_of {d:Nat} {n tx:List UInt8} {a:List Par} (hd:d < 8) (hn:nameX n=true) (ha:attrsOk a=true) (hs:signsX tx=true) (ht:xtrim tx=tx):nodeOk ⟨d,n,a,tx⟩=true:=by
 have hd':(d:Int) < 8:=by omega
 simp [nodeOk,hd',hn,ha,hs,ht]
theorem trim_nil:xtrim []=[]:=rfl
def valG:Int → List UInt8 → Int
 | n,[]=>n
 | n,b :: r=>valG (10 * n+((b.toNat:Int) - 48)) r
theorem valG_ge:∀ (l:List UInt8) (n:Int),0≤n → allB 1 l=true → n≤valG n l
 | [],n,_,_=>Int.le_refl _
 | b :: r,n,h0,h=>by
  have hb:=u8_bd b;have h1:isB b.toNat 1=true∧allB 1 r=true:=by unfold allB at h ⊢; simpa using h
  rw [isB_digit _ hb.1 hb.2] at h1;have h2:=of_decide_eq_true h1.1
  have:=valG_ge r (10 * n+((b.toNat:Int) - 48)) (by omega) h1.2
  unfold valG; omega
theorem numL_is (most:Int) (hm:9≤most):∀ (l:List UInt8) (n:Int),0≤n → n≤most → allB 1 l=true → numL most n l=if valG n l≤most then some (valG n l) else none
 | [],n,_,hn,_=>by rw [numL,valG,if_pos hn]
 | b :: r,n,h0,hn,h=>by
  have hb:=u8_bd b;have h1:isB b.toNat 1=true∧allB 1 r=true:=by unfold allB at h ⊢; simpa using h
  rw [isB_digit _ hb.1 hb.2] at h1;have h2:=of_decide_eq_true h1.1;have hg:=valG_ge r (10 * n+((b.toNat:Int) - 48)) (by omega) h1.2;rw [numL,valG];by_cases hc:(b.toNat:Int) - 48 > most∨n > (most - ((b.toNat:Int) - 48)) / 10
  ·rw [if_pos hc,if_neg (by omega)]
  ·rw [if_neg hc,numL_is most hm r _ (by omega) (by omega) h1.2]
theorem numV_is {most:Int} (hm:9≤most) (l:List UInt8):numV most l=if l=[]∨allB 1 l=false then (0,10) else if valG 0 l≤most then (valG 0 l,0) else (0,9):=by
 unfold numV;by_cases h:l=[]∨allB 1 l=false
 ·rw [if_pos h,if_pos h]
 ·rw [if_neg h,if_neg h,numL_is most hm l 0 (by omega) (by omega) (by simp only [not_or] at h; simpa using h.2)];by_cases h2:valG 0 l≤most
  ·rw [if_pos h2,if_pos h2]
  ·rw [if_neg h2,if_neg h2]
theorem numV_nonneg {most:Int} (hm:9≤most) {l:List UInt8} (h:(numV most l).2=0):0≤(numV most l).1∧(numV most l).1≤most:=by
 rw [numV_is hm] at h ⊢
 split at h
 ·simp at h
 ·rename_i h1
  rw [if_neg h1]
  split at h
  ·rename_i h2
   rw [if_pos h2];simp only [not_or] at h1;exact ⟨valG_ge l 0 (Int.le_refl _) (by simpa using h1.2),h2⟩
  ·simp at h
theorem u8_eq {a b:UInt8} (h:a=b):((a.toNat:Int)==(b.toNat:Int))=true:=by simp [h]
theorem u8_ne {a b:UInt8} (h:¬ a=b):((a.toNat:Int)==(b.toNat:Int))=false:=by
 simp only [beq_eq_false_iff_ne,ne_eq];intro e; exact h (UInt8.toNat_inj.1 (by omega))
end Go.Proofs.YtdbalahkmeknaaaGreatDoor
