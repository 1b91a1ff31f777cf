/-
  XLawL, WinfoL, OpenInfo, WinfoM, WinfoN, FlatInj, WnL, XAttrG, XAtt, StrSplit, RefHost.
-/
import Derived.Test.YtdbalahkmeknaaaGreatDoorPW16
set_option linter.unusedVariables false
set_option linter.unusedSimpArgs false
set_option maxRecDepth 20000
namespace Go.Proofs.YtdbalahkmeknaaaGreatDoor
open Go.RowKit Sc
def attW (p:Par):Nat:=5+p.name.length+p.value.length
def attsW (l:List Par):Nat:=(l.map attW).sum
def ndW (x:Nd):Nat:=5+x.name.length+x.text.length+attsW x.attrs
def ndsW (l:List Nd):Nat:=(l.map ndW).sum
theorem ndsW_app (a b:List Nd):ndsW (a++b)=ndsW a+ndsW b:=by simp [ndsW]
theorem attsW_le {l:List Par} {K:Nat} (h:∀ p ∈ l,attW p≤K):attsW l≤l.length * K:=by
 induction l with
 | nil=>simp [attsW]
 | cons a l ih =>
  have e:attsW (a :: l)=attW a+attsW l:=by simp [attsW]
  have h1:=h a (by simp);have h2:=ih fun p hp=>h p (by simp [hp]);rw [e,List.length_cons,Nat.succ_mul]; omega
theorem ndsW_le {l:List Nd} {K:Nat} (h:∀ x ∈ l,ndW x≤K):ndsW l≤l.length * K:=by
 induction l with
 | nil=>simp [ndsW]
 | cons a l ih =>
  have e:ndsW (a :: l)=ndW a+ndsW l:=by simp [ndsW]
  have h1:=h a (by simp);have h2:=ih fun p hp=>h p (by simp [hp]);rw [e,List.length_cons,Nat.succ_mul]; omega
theorem attrsT_W (l:List Par):(attrsT l).length≤6 * attsW l:=by
 induction l with
 | nil=>simp [attrsT]
 | cons a l ih =>
  have e:attsW (a :: l)=attW a+attsW l:=by simp [attsW]
  have e2:attrsT (a :: l)=attrT a++attrsT l:=rfl;have h1:=escX_len a.value;rw [e,e2,List.length_append,attrT_len];unfold attW;omega
mutual
theorem printX_W (d:Nat):∀ t:XT,(printX t).length≤6 * ndsW (flatX d t)
 | .mk n a tx ks=>by
  have h1:=printXs_W (d+1) ks;have h2:=attrsT_W a;have h3:=escX_len tx;have e:ndsW (flatX d (.mk n a tx ks))=(5+n.length+tx.length+attsW a)+ndsW (flatXs (d+1) ks):=by rw [flatX]; simp [ndsW,ndW]
  rw [e,printX]
  split
  ·simp only [List.length_append,List.length_cons,List.length_nil]; omega
  ·simp only [List.length_append,List.length_cons,List.length_nil]; omega
theorem printXs_W (d:Nat):∀ ks:List XT,(printXs ks).length≤6 * ndsW (flatXs d ks)
 | []=>by simp [printXs]
 | k :: ks=>by
  have h1:=printX_W d k;have h2:=printXs_W d ks;rw [printXs,flatXs,List.length_append,ndsW_app]; omega
end
theorem ok_W {l:List Nd} {K:Nat} (h:checkX l=0) (hk:∀ x ∈ l,x.name.length≤K∧x.text.length≤K∧∀ p ∈ x.attrs,p.name.length≤K∧p.value.length≤K):ndsW l≤200 * (17 * (5+2 * K)):=by
 obtain ⟨h1,h2,h3,h4⟩:=checkX_ok h
 have hn:∀ x ∈ l,nodeOk x=true:=by
  intro x hx;obtain ⟨a,b,rfl⟩:=List.append_of_mem hx;exact (steps_tail (steps_drop a (x :: b) h4)).1
 have hw:∀ x ∈ l,ndW x≤17 * (5+2 * K):=by
  intro x hx;obtain ⟨k1,k2,k3⟩:=hk x hx
  have ha:x.attrs.length≤16:=by
   have:=hn x hx
   simp only [nodeOk,attrsOk,Bool.and_eq_true,decide_eq_true_eq] at this;exact this.2.2.1.1
  have hp:=attsW_le (l:=x.attrs) (K:=5+2 * K) fun p hp=>by have:=k3 p hp; unfold attW; omega
  have hm:x.attrs.length * (5+2 * K)≤16 * (5+2 * K):=Nat.mul_le_mul_right _ ha;unfold ndW; omega
 have:=ndsW_le hw
 have hm:l.length * (17 * (5+2 * K))≤200 * (17 * (5+2 * K)):=Nat.mul_le_mul_right _ h2;omega
theorem parseX_ok {s:List UInt8} {l:List Nd} (h:parseX s=(l,0)):checkX l=0:=by
 unfold parseX at h
 split at h
 ·simp at h
 ·split at h
  ·simp at h
  ·split at h
   ·simp at h
   ·split at h
    ·next hc=>simp only [Prod.mk.injEq,and_true] at h; rw [← h]; exact hc.2
    ·simp at h
theorem parseX_sm {s:List UInt8} {l:List Nd} (h:parseX s=(l,0)):∀ x ∈ l,SmNd 4096 x:=by
 rw [parseC_is] at h
 split at h
 ·simp at h
 ·next h4 =>
  cases ho:docC s with
  | none=>rw [ho] at h; simp [parseD] at h
  | some q =>
   rw [ho] at h;simp only [parseD,Prod.mk.injEq,and_true] at h;subst h;unfold docC at ho
   split at ho
   ·cases ho
   ·next r hr =>
    have hl:=headC_len hr;unfold bodyC at ho
    split at ho
    ·cases ho
    ·next l2 r2 he =>
     have hd:=(suf_dw xblk r).length_le
     have:=elemC_small 4096 _ 0 _ _ _ (by omega) he
     repeat' split at ho
     all_goals first
      | (simp only [Option.some.injEq] at ho; subst ho; exact this)
      | (exfalso; simp at ho)
structure Wt where
 id:Int
 uri:List UInt8
 stat:List UInt8
 ev:List UInt8
deriving DecidableEq
structure Inf where
 ver:Int
 res:List UInt8
 ws:List Wt
deriving DecidableEq
def noI:Inf:=⟨0,[],[]⟩
def pendingK:List UInt8:=[112,101,110,100,105,110,103]
def activeK:List UInt8:=[97,99,116,105,118,101]
def terminatedK:List UInt8:=[116,101,114,109,105,110,97,116,101,100]
def winfoK:List UInt8:=[119,97,116,99,104,101,114,105,110,102,111]
def wspaceK:List UInt8:=[117,114,110,58,105,101,116,102,58,112,97,114,97,109,115,58,120,109,108,58,110,115,58,119,97,116,99,104,101,114,105,110,102,111]
def versionK:List UInt8:=[118,101,114,115,105,111,110]
def stateK:List UInt8:=[115,116,97,116,101]
def fullK:List UInt8:=[102,117,108,108]
def wlistK:List UInt8:=[119,97,116,99,104,101,114,45,108,105,115,116]
def resourceK:List UInt8:=[114,101,115,111,117,114,99,101]
def packageK:List UInt8:=[112,97,99,107,97,103,101]
def watcherK:List UInt8:=[119,97,116,99,104,101,114]
def weventK:List UInt8:=[101,118,101,110,116]
def sipcK:List UInt8:=[115,105,112,58]
def statP (s:List UInt8):Bool:=s==pendingK || (s==activeK || s==terminatedK)
def wtP (t:Wt):Bool:=decide (1≤t.id) && (decide (t.id≤1099511627776) && (decide ((hostV t.uri).2=0) && (statP t.stat && tokenB t.ev)))
def distinctW:List Wt → Bool
 | []=>true
 | t :: r=>r.all (fun q=>!(q.id==t.id)) && distinctW r
def checkI (d:Inf):Int:=if d.ver < 0∨2147483647 < d.ver∨(hostV d.res).2 ≠ 0∨198 < d.ws.length then 150 else if (d.ws.all wtP && distinctW d.ws)=true then 0 else 150
def wtT (t:Wt):XT:=.mk watcherK [atr pidK (119 :: digL t.id.toNat),atr pstatK t.stat,atr weventK t.ev] (sipcK++t.uri) []
def listT (d:Inf):XT:=.mk wlistK [atr resourceK (sipcK++d.res),atr packageK presenceK] [] (d.ws.map wtT)
def treeI (d:Inf):XT:=.mk winfoK [atr xmlnsK wspaceK,atr versionK (digL d.ver.toNat),atr stateK fullK] [] [listT d]
def wtN (t:Wt):Nd:=⟨2,watcherK,[atr pidK (119 :: digL t.id.toNat),atr pstatK t.stat,atr weventK t.ev],sipcK++t.uri⟩
def rootI (d:Inf):Nd:=⟨0,winfoK,[atr xmlnsK wspaceK,atr versionK (digL d.ver.toNat),atr stateK fullK],[]⟩
def listN (d:Inf):Nd:=⟨1,wlistK,[atr resourceK (sipcK++d.res),atr packageK presenceK],[]⟩
def nodesI (d:Inf):List Nd:=rootI d :: listN d :: d.ws.map wtN
theorem flat_wts:∀ ws:List Wt,flatXs 2 (ws.map wtT)=ws.map wtN
 | []=>rfl
 | t :: r=>by
  rw [List.map_cons,flatXs,flat_wts r,wtT,flatX,flatXs]; rfl
theorem flat_treeI (d:Inf):flatX 0 (treeI d)=nodesI d:=by
 rw [treeI,flatX,flatXs,listT,flatX,flatXs,flat_wts]; simp [nodesI,rootI,listN]
def wattV (nm:List UInt8) (x:Nd):List UInt8:=(attG nm x.attrs).getD []
def wtOf (x:Nd):Wt:=⟨(numV 1099511627776 ((wattV pidK x).drop 1)).1,x.text.drop 4,wattV pstatK x,wattV weventK x⟩
def guessI:List Nd → Inf
 | a :: b :: r=>⟨(numV 2147483647 (wattV versionK a)).1,(wattV resourceK b).drop 4,r.map wtOf⟩
 | _=>noI
def infoX (l:List Nd):Inf × Int:=if checkI (guessI l) ≠ 0∨4096 < (prologK++printX (treeI (guessI l))).length∨nodesI (guessI l) ≠ l then (noI,150) else (guessI l,0)
def parseI (s:List UInt8):Inf × Int:=if (parseX s).2 ≠ 0 then (noI,(parseX s).2) else infoX (parseX s).1
theorem checkI_ok {d:Inf} (h:checkI d=0):0≤d.ver∧d.ver≤2147483647∧(hostV d.res).2=0∧d.ws.length≤198∧(∀ t ∈ d.ws,wtP t=true)∧distinctW d.ws=true:=by
 unfold checkI at h
 split at h
 ·simp at h
 ·next h1 =>
  split at h
  ·next h2 =>
   simp only [Bool.and_eq_true,List.all_eq_true] at h2;simp only [not_or,Nat.not_lt,Int.not_lt] at h1;exact ⟨h1.1,h1.2.1,Classical.not_not.1 h1.2.2.1,h1.2.2.2,h2.1,h2.2⟩
  ·simp at h
theorem wtP_facts {t:Wt} (h:wtP t=true):1≤t.id∧t.id≤1099511627776∧(hostV t.uri).2=0∧statP t.stat=true∧tokenB t.ev=true:=by
 simp only [wtP,Bool.and_eq_true,decide_eq_true_eq] at h;exact ⟨h.1,h.2.1,h.2.2.1,h.2.2.2.1,h.2.2.2.2⟩
theorem statP_cases {s:List UInt8} (h:statP s=true):s=pendingK∨s=activeK∨s=terminatedK:=by
 simp only [statP,Bool.or_eq_true,beq_iff_eq] at h;exact h
theorem sign_dig:∀ b:UInt8,isB b.toNat 1=true → signX b=true:=by
 refine byte_all (P:=fun b=>isB b.toNat 1=true → signX b=true) ?_
 decide +kernel
theorem sign_tok:∀ b:UInt8,isB b.toNat 8=true → signX b=true:=by
 refine byte_all (P:=fun b=>isB b.toNat 8=true → signX b=true) ?_
 decide +kernel
theorem wdig_all (n:Nat):allB 1 (digL n)=true:=digits_all n n (Nat.le_refl _)
theorem dig_signs (n:Nat):signsX (digL n)=true:=by
 have h:=wdig_all n;unfold allB at h;unfold signsX;rw [List.all_eq_true] at h ⊢;exact fun b hb=>sign_dig b (h b hb)
theorem tok_signs {s:List UInt8} (h:tokenB s=true):signsX s=true:=by
 simp only [tokenB,Bool.and_eq_true] at h;have h2:=h.2;unfold allB at h2;unfold signsX;rw [List.all_eq_true] at h2 ⊢;exact fun b hb=>sign_tok b (h2 b hb)
theorem wdig_num {n most:Nat} (h:n≤most):numV most (digL n)=((n:Int),0):=by
 unfold numV;rw [if_neg (by rw [digits_all n n (Nat.le_refl _)]; simp [digits_ne n]),numL_digits n n most (Nat.le_refl _) h]
theorem host_nb:∀ b:UInt8,hob b=true → xblk b=false:=by
 refine byte_all (P:=fun b=>hob b=true → xblk b=false) ?_
 decide +kernel
theorem sip_text {s:List UInt8} (h:(hostV s).2=0):signsX (sipcK++s)=true∧xtrim (sipcK++s)=sipcK++s:=by
 obtain ⟨u,k1,k2,k3⟩:=host_is h;subst k3;have hw:=who_signs k1;obtain ⟨c1,c2,c3,_⟩:=check_ok k1;unfold signsX at hw ⊢;rw [List.all_append,Bool.and_eq_true] at hw;refine ⟨by rw [List.all_append,hw.2]; decide +kernel,xtrim_id (fun b hb=>?_) (fun b hb=>?_)⟩
 ·simp [sipcK] at hb; subst hb; decide
 ·obtain ⟨hh,hne⟩:=host_facts c3
  have hn:u.host ≠ []:=by
   intro e;rw [e] at c3
   revert c3
   decide +kernel
  have e2:sipcK++whoT u=(sipcK++escL usersK u.user++[64])++u.host:=by simp [whoT,List.append_assoc]
  rw [e2,List.getLast?_append] at hb
  cases hg:u.host.getLast? with
  | none=>exact absurd (List.getLast?_eq_none_iff.1 hg) hn
  | some x =>
   rw [hg] at hb
   simp at hb
   subst hb;exact host_nb _ (hh _ (List.mem_of_getLast? hg))
theorem good_wt {t:Wt} (h:wtP t=true):goodX 2 (wtT t):=by
 obtain ⟨h1,h2,h3,h4,h5⟩:=wtP_facts h;obtain ⟨s1,s2⟩:=sip_text h3;rw [wtT,goodX];refine ⟨node_of (by decide) (by decide +kernel) ?_ s1 s2,.inl rfl,trivial⟩
 have e1:nameX pidK=true:=by decide +kernel
 have e2:nameX pstatK=true:=by decide +kernel
 have e3:nameX weventK=true:=by decide +kernel
 have e4:signsX (119 :: digL t.id.toNat)=true:=by
  have:=dig_signs t.id.toNat
  unfold signsX at this ⊢;rw [List.all_cons,this]; decide +kernel
 have e5:signsX t.stat=true:=by rcases statP_cases h4 with e | e | e <;> rw [e] <;> decide +kernel
 have e6:=tok_signs h5;have e7:(pstatK==pidK)=false:=by decide
 have e8:(weventK==pidK)=false:=by decide
 have e9:(weventK==pstatK)=false:=by decide
 unfold attrsOk;simp only [List.all_cons,List.all_nil,atr,e1,e2,e3,e4,e5,e6,distinctX,e7,e8,e9,List.length_cons,List.length_nil]
 rfl
theorem good_treeI {d:Inf} (h:checkI d=0):goodX 0 (treeI d):=by
 obtain ⟨h1,h2,h3,h4,h5,h6⟩:=checkI_ok h;obtain ⟨s1,s2⟩:=sip_text h3;rw [treeI,goodX];refine ⟨node_of (by decide) (by decide +kernel) ?_ rfl trim_nil,.inr rfl,?_⟩
 ·have e1:nameX xmlnsK=true:=by decide +kernel
  have e2:nameX versionK=true:=by decide +kernel
  have e3:nameX stateK=true:=by decide +kernel
  have e4:signsX wspaceK=true:=by decide +kernel
  have e5:=dig_signs d.ver.toNat;have e6:signsX fullK=true:=by decide +kernel
  have e7:(versionK==xmlnsK)=false:=by decide
  have e8:(stateK==xmlnsK)=false:=by decide
  have e9:(stateK==versionK)=false:=by decide
  unfold attrsOk;simp only [List.all_cons,List.all_nil,atr,e1,e2,e3,e4,e5,e6,distinctX,e7,e8,e9,List.length_cons,List.length_nil]
  rfl
 ·rw [goodXs,goodXs,listT,goodX];refine ⟨⟨node_of (by decide) (by decide +kernel) ?_ rfl trim_nil,.inr rfl,?_⟩,trivial⟩
  ·have e1:nameX resourceK=true:=by decide +kernel
   have e2:nameX packageK=true:=by decide +kernel
   have e3:signsX presenceK=true:=by decide +kernel
   have e4:(packageK==resourceK)=false:=by decide
   unfold attrsOk;simp only [List.all_cons,List.all_nil,atr,e1,e2,e3,s1,distinctX,e4,List.length_cons,List.length_nil]
   rfl
  ·rw [goodXs_all];intro k hk;obtain ⟨t,ht,rfl⟩:=List.mem_map.1 hk;exact good_wt (h5 t ht)
theorem nodesI_len (d:Inf):(nodesI d).length=d.ws.length+2:=by simp [nodesI]
theorem tree_checkI {d:Inf} (h:checkI d=0):checkX (nodesI d)=0:=by
 rw [← flat_treeI];refine check_good (good_treeI h) ?_
 rw [flat_treeI,nodesI_len]
 have:=(checkI_ok h).2.2.2.1
 omega
theorem info_xml {d:Inf} (h:checkI d=0) (hl:(prologK++printX (treeI d)).length≤4096):parseX (prologK++printX (treeI d))=(nodesI d,0):=by
 have:=doc_back (tree_checkI h) (flat_treeI d) (ok_good _ _ (good_treeI h)) (bl:=[]) (fun b hb=>by simp at hb) (by rw [List.append_nil]; exact hl)
 rw [List.append_nil] at this;exact this
theorem att_root (d:Inf):wattV versionK (rootI d)=digL d.ver.toNat:=by
 have e1:¬ xmlnsK=versionK:=by decide
 simp [wattV,rootI,attG,atr,e1]
theorem att_list (d:Inf):wattV resourceK (listN d)=sipcK++d.res:=by
 simp [wattV,listN,attG,atr]
theorem att_wt (t:Wt):wattV pidK (wtN t)=119 :: digL t.id.toNat∧wattV pstatK (wtN t)=t.stat∧wattV weventK (wtN t)=t.ev:=by
 have e1:¬ pidK=pstatK:=by decide
 have e2:¬ pidK=weventK:=by decide
 have e3:¬ pstatK=weventK:=by decide
 refine ⟨?_,?_,?_⟩ <;> simp [wattV,wtN,attG,atr,e1,e2,e3]
theorem wtOf_wt {t:Wt} (h:wtP t=true):wtOf (wtN t)=t:=by
 obtain ⟨h1,h2,h3,h4,h5⟩:=wtP_facts h;obtain ⟨a1,a2,a3⟩:=att_wt t;have e:numV 1099511627776 (digL t.id.toNat)=((t.id.toNat:Int),0):=wdig_num (most:=1099511627776) (by omega);have e2:((t.id.toNat:Nat):Int)=t.id:=Int.toNat_of_nonneg (by omega);rw [wtOf,a1,a2,a3];simp only [List.drop_succ_cons,List.drop_zero];rw [e];simp only [e2,wtN,sipcK,List.cons_append,List.nil_append,List.drop_succ_cons,List.drop_zero]
theorem guess_nodes {d:Inf} (h:checkI d=0):guessI (nodesI d)=d:=by
 obtain ⟨h1,h2,h3,h4,h5,h6⟩:=checkI_ok h;have e:numV 2147483647 (digL d.ver.toNat)=((d.ver.toNat:Int),0):=wdig_num (most:=2147483647) (by omega);have e2:((d.ver.toNat:Nat):Int)=d.ver:=Int.toNat_of_nonneg (by omega)
 have e3:∀ ws:List Wt,(∀ t ∈ ws,wtP t=true) → (ws.map wtN).map wtOf=ws:=fun ws hw=>by
  rw [List.map_map]
  conv=>rhs; rw [← List.map_id ws]
  exact List.map_congr_left fun t ht=>wtOf_wt (hw t ht)
 rw [nodesI,guessI,att_root,att_list,e,e3 _ h5,e2];simp only [sipcK,List.cons_append,List.nil_append,List.drop_succ_cons,List.drop_zero]
theorem info_of {d:Inf} {l:List Nd} (h:checkI d=0) (hl:(prologK++printX (treeI d)).length≤4096) (he:nodesI d=l):infoX l=(d,0):=by
 subst he;unfold infoX;rw [guess_nodes h,if_neg];simp only [not_or,Nat.not_lt];exact ⟨by simp [h],hl,by simp⟩
theorem info_none {l:List Nd} (h:∀ d,checkI d=0 → (prologK++printX (treeI d)).length≤4096 → nodesI d ≠ l):infoX l=(noI,150):=by
 unfold infoX;rw [if_pos];by_cases h1:checkI (guessI l)=0
 ·by_cases h2:(prologK++printX (treeI (guessI l))).length≤4096
  ·exact .inr (.inr (h _ h1 h2))
  ·exact .inr (.inl (by omega))
 ·exact .inl h1
theorem info_back {d:Inf} (h:checkI d=0) (hl:(prologK++printX (treeI d)).length≤4096):parseI (prologK++printX (treeI d))=(d,0):=by
 unfold parseI;rw [info_xml h hl];simp only [ne_eq,not_true_eq_false,if_false];exact info_of h hl rfl
end Go.Proofs.YtdbalahkmeknaaaGreatDoor
namespace Go.Proofs.YtdbalahkmeknaaaGreatDoor
open Go.RowKit Go.ChangeShapes Go.WideShapes Go.Deep
def wtCells (t:Wt):List Value:=[.int .i64 t.id,.string ⟨t.uri.toArray⟩,.string ⟨t.stat.toArray⟩,.string ⟨t.ev.toArray⟩]
def wtV (t:Wt):Value:=.agg #[.int .i64 t.id,.string ⟨t.uri.toArray⟩,.string ⟨t.stat.toArray⟩,.string ⟨t.ev.toArray⟩]
def infV (d:Inf) (ws:Value):Value:=.agg #[.int .i64 d.ver,.string ⟨d.res.toArray⟩,ws]
structure WtAt (w:World) (ad:Addr) (k:Nat) (t:Wt):Prop where
 c0:w.cell? (ad.add (k * 4))=some (.int .i64 t.id)
 c1:w.cell? ⟨(ad.add (k * 4)).block,(ad.add (k * 4)).off+1,none⟩=some (.string ⟨t.uri.toArray⟩)
 c2:w.cell? ⟨(ad.add (k * 4)).block,(ad.add (k * 4)).off+2,none⟩=some (.string ⟨t.stat.toArray⟩)
 c3:w.cell? ⟨(ad.add (k * 4)).block,(ad.add (k * 4)).off+3,none⟩=some (.string ⟨t.ev.toArray⟩)
theorem WtAt.below {B:Nat} {w w':World} {ad:Addr} {k:Nat} {t:Wt} (h:WtAt w ad k t) (hb:Below B w w') (ha:ad.block < B):WtAt w' ad k t :=
 ⟨cell_below hb (by rw [add_block]; exact ha) h.c0,cell_below hb (by simp only [add_block]; exact ha) h.c1,cell_below hb (by simp only [add_block]; exact ha) h.c2,cell_below hb (by simp only [add_block]; exact ha) h.c3⟩
def WtsAt (w:World) (v:Value) (ws:List Wt):Prop :=
 ∃ (ao:Option Addr) (cap:Nat),v=.slice ao ws.length cap∧ws.length≤cap∧∀ k (hk:k < ws.length),∃ ad,ao=some ad∧ad.block < w.heap.size∧WtAt w ad k ws[k]
theorem WtsAt.below {w w':World} {v:Value} {ws:List Wt} (h:WtsAt w v ws) (hb:Below w.heap.size w w'):WtsAt w' v ws:=by
 obtain ⟨ao,cap,hv,hcp,hc⟩:=h;refine ⟨ao,cap,hv,hcp,fun k hk=>?_⟩
 obtain ⟨ad,e,hlt,hcell⟩:=hc k hk;exact ⟨ad,e,Nat.lt_of_lt_of_le hlt hb.size,hcell.below hb hlt⟩
theorem WtsAt.alloc {w:World} {v:Value} {ws:List Wt} (h:WtsAt w v ws) (o:Obj):WtsAt (w.alloc o) v ws:=h.below ((Below.refl _ w).alloc (Nat.le_refl _) o)
def SmallW (B:Nat) (t:Wt):Prop:=t.uri.length+4≤B∧t.stat.length≤B∧t.ev.length≤B∧(Lit.int .i64 t.id).wf=true
structure SmallI (B:Nat) (d:Inf):Prop where
 ver:(Lit.int .i64 d.ver).wf=true
 res:d.res.length+4≤B
 wl:d.ws.length≤B
 ws:∀ t ∈ d.ws,SmallW B t
end Go.Proofs.YtdbalahkmeknaaaGreatDoor
namespace Go.Proofs.YtdbalahkmeknaaaGreatDoor
open Go.RowKit Sc
theorem distinctW_snoc (t:Wt):∀ l:List Wt,distinctW (l++[t])=(distinctW l && l.all (fun q=>!(q.id==t.id)))
 | []=>rfl
 | q :: l=>by
  rw [List.cons_append,distinctW,distinctW,distinctW_snoc t l,List.all_append,List.all_cons,List.all_cons,List.all_nil];have e:(t.id==q.id)=(q.id==t.id):=BEq.comm;rw [e]
  cases l.all (fun q_1=>!(q_1.id==q.id)) <;> cases distinctW l <;> cases (q.id==t.id) <;> cases l.all (fun q=>!(q.id==t.id)) <;> rfl
def wtsOk (l:List Wt):Bool:=l.all wtP && distinctW l
theorem wts_bad {l:List Wt} {j:Nat} (hj:j < l.length) (h1:wtP l[j]=false):wtsOk l=false:=by
 unfold wtsOk
 have:l.all wtP=false:=by
  rw [List.all_eq_false];exact ⟨l[j],List.getElem_mem hj,by rw [h1]; simp⟩
 rw [this]; rfl
theorem hostV_len {s:List UInt8} (h:(hostV s).2=0):s.length≤257:=by
 obtain ⟨u,k1,k2,k3⟩:=host_is h;rw [k3]; exact whoT_len k1
theorem tok_len {s:List UInt8} (h:tokenB s=true):s.length≤64:=by
 simp only [tokenB,Bool.and_eq_true,decide_eq_true_eq] at h; exact h.1.2
theorem stat_len {s:List UInt8} (h:statP s=true):s.length≤10:=by
 rcases statP_cases h with e | e | e <;> rw [e] <;> decide
theorem wt_small {t:Wt} (h:wtP t=true):SmallW 1048576 t:=by
 obtain ⟨h1,h2,h3,h4,h5⟩:=wtP_facts h
 have:=hostV_len h3
 have:=stat_len h4
 have:=tok_len h5
 refine ⟨by omega,by omega,by omega,?_⟩
 simp only [Lit.wf,IntKind.min,IntKind.max,IntKind.signed,IntKind.bits,Bool.and_eq_true,decide_eq_true_eq]
 constructor <;> simp <;> omega
theorem inf_small {d:Inf} (h:checkI d=0):SmallI 1048576 d:=by
 obtain ⟨h1,h2,h3,h4,h5,h6⟩:=checkI_ok h
 have:=hostV_len h3
 refine ⟨?_,by omega,by omega,fun t ht=>wt_small (h5 t ht)⟩
 simp only [Lit.wf,IntKind.min,IntKind.max,IntKind.signed,IntKind.bits,Bool.and_eq_true,decide_eq_true_eq]
 constructor <;> simp <;> omega
theorem wf_small {n:Int} (h0:0≤n) (h1:n≤10):(Lit.int .i64 n).wf=true:=by
 simp only [Lit.wf,IntKind.min,IntKind.max,IntKind.signed,IntKind.bits,Bool.and_eq_true,decide_eq_true_eq]
 constructor <;> simp <;> omega
theorem nodes_small {d:Inf} (h:checkI d=0):∀ x ∈ nodesI d,x.name.length≤4096∧x.text.length≤4096∧x.attrs.length≤4096∧(∀ p ∈ x.attrs,p.name.length≤4096∧p.value.length≤4096)∧0≤x.deep∧x.deep≤10:=by
 obtain ⟨h1,h2,h3,h4,h5,h6⟩:=checkI_ok h;have hl:=hostV_len h3;have hd:=digL_len19 (n:=d.ver.toNat) (by omega);have e4:sipcK.length=4:=rfl;intro x hx;simp only [nodesI,List.mem_cons,List.mem_map] at hx
 rcases hx with rfl | rfl | ⟨t,ht,rfl⟩
 ·refine ⟨by show winfoK.length≤_; decide,by show (0:Nat)≤_; decide,by show (3:Nat)≤_; decide,fun p hp=>?_,by show (0:Int)≤0; decide,by show (0:Int)≤10; decide⟩
  simp only [rootI,List.mem_cons,List.not_mem_nil,or_false] at hp
  rcases hp with rfl | rfl | rfl
  ·exact ⟨by decide,by decide⟩
  ·exact ⟨by show versionK.length≤_; decide,by show (digL d.ver.toNat).length≤_; omega⟩
  ·exact ⟨by decide,by decide⟩
 ·refine ⟨by show wlistK.length≤_; decide,by show (0:Nat)≤_; decide,by show (2:Nat)≤_; decide,fun p hp=>?_,by show (0:Int)≤1; decide,by show (1:Int)≤10; decide⟩
  simp only [listN,List.mem_cons,List.not_mem_nil,or_false] at hp
  rcases hp with rfl | rfl
  ·exact ⟨by show resourceK.length≤_; decide,by show (sipcK++d.res).length≤_; rw [List.length_append]; omega⟩
  ·exact ⟨by decide,by decide⟩
 ·obtain ⟨k1,k2,k3,k4,k5⟩:=wtP_facts (h5 t ht);have m1:=hostV_len k3;have m2:=stat_len k4;have m3:=tok_len k5;have m4:=digL_len19 (n:=t.id.toNat) (by omega);refine ⟨by show watcherK.length≤_; decide,by show (sipcK++t.uri).length≤_; rw [List.length_append]; omega,by show (3:Nat)≤_; decide,fun p hp=>?_,by show (0:Int)≤2; decide,by show (2:Int)≤10; decide⟩
  simp only [wtN,List.mem_cons,List.not_mem_nil,or_false] at hp
  rcases hp with rfl | rfl | rfl
  ·exact ⟨by show pidK.length≤_; decide,by show (119 :: digL t.id.toNat).length≤_; rw [List.length_cons]; omega⟩
  ·exact ⟨by show pstatK.length≤_; decide,by show t.stat.length≤_; omega⟩
  ·exact ⟨by show weventK.length≤_; decide,by show t.ev.length≤_; omega⟩
theorem nodes_smallN {d:Inf} (h:checkI d=0) {B:Nat} (hB:4096≤B):∀ x ∈ nodesI d,SmallN B x:=by
 intro x hx;obtain ⟨s1,s2,s3,s4,s5,s6⟩:=nodes_small h x hx;exact ⟨by omega,by omega,⟨by omega,fun p hp=>⟨by have:=(s4 p hp).1; omega,by have:=(s4 p hp).2; omega⟩⟩,wf_small s5 s6⟩
theorem print_smI {d:Inf} (h:checkI d=0):(printX (treeI d)).length≤1000000000:=by
 have h1:=printX_W 0 (treeI d);rw [flat_treeI] at h1;have h2:=ok_W (K:=4096) (tree_checkI h) fun x hx=>by obtain ⟨a,b,_,c,_⟩:=nodes_small h x hx; exact ⟨a,b,c⟩
 omega
theorem flatXs_head {d:Nat} {ks:List XT} {A:List Nd} (hA:∀ x,A.head? = some x → x.deep < (d:Int)):∀ x,(flatXs d ks++A).head? = some x → x.deep≤(d:Int):=by
 intro x hx
 cases ks with
 | nil=>rw [flatXs,List.nil_append] at hx; have:=hA x hx; omega
 | cons k ks =>
  obtain ⟨n,a,tx,q⟩:=k;rw [flatXs,flatX] at hx
  simp at hx
  subst hx;exact Int.le_refl _
mutual
theorem flat_app_inj:∀ (t t':XT) (d:Nat) (A B:List Nd),(∀ x,A.head? = some x → x.deep≤(d:Int)) → (∀ x,B.head? = some x → x.deep≤(d:Int)) → flatX d t++A=flatX d t'++B → t=t'∧A=B
 | .mk n a tx ks,.mk n' a' tx' ks',d,A,B,hA,hB,h=>by
  rw [flatX,flatX,List.cons_append,List.cons_append] at h
  injection h with h1 h2
  injection h1 with _ h3 h4 h5
  obtain ⟨e1,e2⟩:=flats_app_inj ks ks' (d+1) A B (fun x hx=>by have:=hA x hx; omega) (fun x hx=>by have:=hB x hx; omega) h2;subst h3 h4 h5 e1;exact ⟨rfl,e2⟩
theorem flats_app_inj:∀ (ks ks':List XT) (d:Nat) (A B:List Nd),(∀ x,A.head? = some x → x.deep < (d:Int)) → (∀ x,B.head? = some x → x.deep < (d:Int)) → flatXs d ks++A=flatXs d ks'++B → ks=ks'∧A=B
 | [],[],d,A,B,hA,hB,h=>by
  rw [flatXs,List.nil_append,List.nil_append] at h;exact ⟨rfl,h⟩
 | [],.mk n a tx q :: ks',d,A,B,hA,hB,h=>by
  rw [flatXs,flatXs,flatX,List.nil_append] at h
  have:=hA ⟨d,n,a,tx⟩ (by rw [h]; rfl)
  simp at this
 | .mk n a tx q :: ks,[],d,A,B,hA,hB,h=>by
  rw [flatXs,flatXs,flatX,List.nil_append] at h
  have:=hB ⟨d,n,a,tx⟩ (by rw [← h]; rfl)
  simp at this
 | k :: ks,k' :: ks',d,A,B,hA,hB,h=>by
  rw [flatXs,flatXs,List.append_assoc,List.append_assoc] at h;obtain ⟨e1,e2⟩:=flat_app_inj k k' d _ _ (flatXs_head hA) (flatXs_head hB) h;obtain ⟨e3,e4⟩:=flats_app_inj ks ks' d A B hA hB e2;subst e1 e3;exact ⟨rfl,e4⟩
end
theorem flat_inj {t t':XT} {d:Nat} (h:flatX d t=flatX d t'):t=t' :=
 (flat_app_inj t t' d [] [] (fun x hx=>by simp at hx) (fun x hx=>by simp at hx) (by rw [h])).1
def trimP (p l:List UInt8):List UInt8:=if p.isPrefixOf l=true then l.drop p.length else l
theorem trimP_app (p l:List UInt8):trimP p (p++l)=l:=by
 have h:p.isPrefixOf (p++l)=true:=by
  rw [List.isPrefixOf_iff_prefix];exact List.prefix_append p l
 unfold trimP;rw [if_pos h,List.drop_left]
theorem trimP_len (p l:List UInt8):(trimP p l).length≤l.length:=by
 unfold trimP
 split
 ·rw [List.length_drop]; omega
 ·exact Nat.le_refl _
def wtR (x:Nd):Wt:=⟨(numV 1099511627776 (trimP [119] (wattV pidK x))).1,trimP sipcK x.text,wattV pstatK x,wattV weventK x⟩
def verR:List Nd → Int
 | []=>0
 | a :: _=>(numV 2147483647 (wattV versionK a)).1
def resR:List Nd → List UInt8
 | _ :: b :: _=>trimP sipcK (wattV resourceK b)
 | _=>[]
def wreadR (l:List Nd):Inf:=⟨verR l,resR l,(l.drop 2).map wtR⟩
theorem wtR_wt {t:Wt} (h:wtP t=true):wtR (wtN t)=t:=by
 obtain ⟨h1,h2,h3,h4,h5⟩:=wtP_facts h;obtain ⟨a1,a2,a3⟩:=att_wt t;have e:numV 1099511627776 (digL t.id.toNat)=((t.id.toNat:Int),0):=wdig_num (most:=1099511627776) (by omega);have e2:((t.id.toNat:Nat):Int)=t.id:=Int.toNat_of_nonneg (by omega);have e3:trimP [119] (119 :: digL t.id.toNat)=digL t.id.toNat:=trimP_app [119] _;have e4:trimP sipcK (wtN t).text=t.uri:=trimP_app sipcK _;rw [wtR,a1,a2,a3,e3,e,e4,e2]
theorem wreadR_nodes {d:Inf} (h:checkI d=0):wreadR (nodesI d)=d:=by
 obtain ⟨h1,h2,h3,h4,h5,h6⟩:=checkI_ok h;have e:numV 2147483647 (digL d.ver.toNat)=((d.ver.toNat:Int),0):=wdig_num (most:=2147483647) (by omega);have e2:((d.ver.toNat:Nat):Int)=d.ver:=Int.toNat_of_nonneg (by omega)
 have e3:∀ ws:List Wt,(∀ t ∈ ws,wtP t=true) → (ws.map wtN).map wtR=ws:=fun ws hw=>by
  rw [List.map_map]
  conv=>rhs; rw [← List.map_id ws]
  exact List.map_congr_left fun t ht=>wtR_wt (hw t ht)
 have e4:verR (nodesI d)=d.ver:=by
  show (numV 2147483647 (wattV versionK (rootI d))).1=d.ver
  rw [att_root,e,e2]
 have e5:resR (nodesI d)=d.res:=by
  show trimP sipcK (wattV resourceK (listN d))=d.res
  rw [att_list,trimP_app]
 have e6:(nodesI d).drop 2=d.ws.map wtN:=rfl;rw [wreadR,e4,e5,e6,e3 _ h5]
theorem says_nodes {d:Inf} {l:List Nd} {t:XT} (hl:checkX l=0) (hf:flatX 0 t=l) (hok:okX 0 t=true) (hc:checkI d=0) (h4:(prologK++printX (treeI d)).length≤4096) (he:prologK++printX t=prologK++printX (treeI d)):nodesI d=l:=by
 have h1:=info_xml hc h4;have h2:=doc_back hl hf hok (bl:=[]) (fun b hb=>by simp at hb) (by rw [List.append_nil,he]; exact h4);rw [List.append_nil,he,h1] at h2
 injection h2
theorem infoX_read {l:List Nd} {t:XT} (hl:checkX l=0) (hf:flatX 0 t=l) (hok:okX 0 t=true) :
  infoX l=if checkI (wreadR l)=0∧(prologK++printX (treeI (wreadR l))).length≤4096∧prologK++printX t=prologK++printX (treeI (wreadR l)) then (wreadR l,0) else (noI,150):=by
 split
 ·next h=>exact info_of h.1 h.2.1 (says_nodes hl hf hok h.1 h.2.1 h.2.2)
 ·next h =>
  refine info_none fun d hc h4 he=>h ?_
  have e:wreadR l=d:=by rw [← he]; exact wreadR_nodes hc
  rw [e];refine ⟨hc,h4,?_⟩
  have h2:treeI d=t:=flat_inj (d:=0) (by rw [flat_treeI,he,hf]);rw [h2]
def attrGet (nm:List UInt8):List Par → Option (List UInt8)
 | []=>none
 | p :: ps=>if p.name=nm then some p.value else attrGet nm ps
theorem findX_get (nm:List UInt8):∀ (ps:List Par) (k:Nat),(findX nm ps k=-1∧attrGet nm ps=none)∨∃ (j:Nat) (h:j < ps.length),findX nm ps k=((k+j:Nat):Int)∧attrGet nm ps=some ps[j].value
 | [],k=>.inl ⟨rfl,rfl⟩
 | p :: ps,k=>by
  rw [findX,attrGet];by_cases h:p.name=nm
  ·rw [if_pos h,if_pos h];exact .inr ⟨0,by simp,by simp,rfl⟩
  ·rw [if_neg h,if_neg h]
   rcases findX_get nm ps (k+1) with ⟨h1,h2⟩ | ⟨j,hj,h1,h2⟩
   ·exact .inl ⟨h1,h2⟩
   ·exact .inr ⟨j+1,by simp; omega,by rw [h1]; omega,by rw [h2]; rfl⟩
def xattR (o:Option (List UInt8)):Value:=match o with
 | none=>.tuple #[.string ⟨#[]⟩,.bool false]
 | some v=>.tuple #[.string ⟨v.toArray⟩,.bool true]
set_option maxHeartbeats 2000000 in
set_option maxRecDepth 100000 in
theorem xattr_any (x:Nd) (a:Value) (nm:List UInt8) (w:World) (hz:SmallP 140737488355328 x.attrs) (hv:ParsAt w a x.attrs) :
  Calls Tryz.prog 19 #[ndV x a,.string ⟨nm.toArray⟩] w fun e w'=>e=.returned (xattR (attrGet nm x.attrs))∧Below w.heap.size w w':=by
 obtain ⟨xd,xn,ps,xt⟩:=x;unfold ndV;simp only at hz hv ⊢;have KF:=hid (fun w' (hb:Below w.heap.size w w')=>xfind_any a ps nm w' hz.1 (hv.below hb));obtain ⟨ao,cap,rfl,hc⟩:=hv.open;have hbn:Below w.heap.size w (w.alloc (.cells #[.int .i64 xd,.string ⟨xn.toArray⟩,.slice ao ps.length cap,.string ⟨xt.toArray⟩] 49)):=(Below.refl _ w).alloc (Nat.le_refl _) _;have hr:=rc_row4 w (.int .i64 xd) (.string ⟨xn.toArray⟩) (.slice ao ps.length cap) (.string ⟨xt.toArray⟩) 49;have hlt:=alloc_lt w (.cells #[.int .i64 xd,.string ⟨xn.toArray⟩,.slice ao ps.length cap,.string ⟨xt.toArray⟩] 49);obtain ⟨b0,b1,b2,b3,_,_,_,_⟩:=hr.rc4;have HR:=hid hr;have HC:=hid hc;have HZ:=hid hz;have hz1:=hz.1;clear hc hv hr hz
 rcases findX_get nm ps 0 with ⟨h1,h2⟩ | ⟨j,hj,h1,h2⟩
 ·rw [h1] at KF;rw [h2];clear h1 h2 HC HZ;generalize ps.length=n at KF HR hbn hlt b0 b1 b2 b3 hz1 ⊢
  go_enter Tryz.func19,Tryz.ntmps19
  go_wp2_with fail
  refine (KF.out _ hbn).mono ?_
  rintro e w1 ⟨rfl,hw1⟩;have hb1:=hbn.trans (hw1.mono hbn.size);go_wp2;go_ret2;exact ⟨rfl,hb1⟩
 ·rw [h1] at KF;rw [h2];obtain ⟨ad,hao,hab,c0,c1,c2⟩:=HC.out j hj;subst hao;have hvl:=(HZ.out.2 _ (List.getElem_mem hj)).2;have KC:=hid (fun w'=>xclone_list ps[j].value w' hvl);have c1:w.cell? ⟨(ad.add (j * 3)).block,(ad.add (j * 3)).off+1,none⟩=some (.string ⟨ps[j].value.toArray⟩):=c1;clear h1 h2 HC HZ c0 c2;generalize ps[j].value=V at KC c1 hvl ⊢;obtain ⟨n,hn⟩:∃ n,n=ps.length:=⟨_,rfl⟩
  rw [← hn] at KF HR hbn hlt b0 b1 b2 b3 hz1 ⊢;have hj:j < n:=by omega
  clear hn;rw [Nat.zero_add] at KF
  go_enter Tryz.func19,Tryz.ntmps19
  go_wp2_with fail
  refine (KF.out _ hbn).mono ?_
  rintro e w1 ⟨rfl,hw1⟩;have hb1:=hbn.trans (hw1.mono hbn.size);have c1':=cell_below hb1 (by simp only [add_block]; exact hab) c1;have hr1:=hid (HR.out.below hw1 hlt);clear b0 b1 b2 b3 hw1 c1;obtain ⟨b0,b1,b2,b3,_,_,_,_⟩:=hr1.out.rc4;go_wp2_with fail
  refine (KC.out _).mono ?_
  rintro e w2 ⟨rfl,hw2⟩;go_wp2;go_ret2;exact ⟨rfl,hb1.trans (hw2.mono hb1.size)⟩
theorem attG_small {nm:List UInt8} {B:Nat}:∀ {l:List Par} {v:List UInt8},SmallP B l → attG nm l=some v → v.length≤B:=by
 intro l v hs h
 have:∀ l:List Par,(∀ p ∈ l,p.value.length≤B) → attG nm l=some v → v.length≤B:=by
  intro l
  induction l with
  | nil=>intro _ h; cases h
  | cons p l ih =>
   intro hp h;rw [attG] at h
   split at h
   ·injection h with h; subst h; exact hp p (by simp)
   ·exact ih (fun q hq=>hp q (by simp [hq])) h
 exact this l (fun p hp=>(hs.2 p hp).2) h
theorem attrGet_is (nm:List UInt8):∀ l:List Par,attrGet nm l=attG nm l
 | []=>rfl
 | p :: l=>by rw [attrGet,attG,attrGet_is nm l]
theorem xattR_is (o:Option (List UInt8)):xattR o=.tuple #[.string ⟨(o.getD []).toArray⟩,.bool o.isSome]:=by cases o <;> rfl
theorem xatt_any (x:Nd) (a:Value) (nm:List UInt8) (w:World) (hz:SmallP 140737488355328 x.attrs) (hv:ParsAt w a x.attrs) :
  Calls Tryz.prog 19 #[ndV x a,.string ⟨nm.toArray⟩] w fun e w'=>e=.returned (.tuple #[.string ⟨((attG nm x.attrs).getD []).toArray⟩,.bool (attG nm x.attrs).isSome])∧Below w.heap.size w w':=by
 have K:=xattr_any x a nm w hz hv;rw [attrGet_is,xattR_is] at K;exact K
theorem splitL_count (c:UInt8) (l:List UInt8):(splitL c l).length=Lib.countByte l c+1:=by
 unfold Lib.countByte
 induction l with
 | nil=>rfl
 | cons x l ih =>
  obtain ⟨p,ps,hp⟩:=splitL_cons c l;rw [splitL];rw [hp] at ih ⊢;by_cases h:x=c
  ·rw [if_pos h,h,List.count_cons_self]; simp at ih ⊢; omega
  ·rw [if_neg h,List.count_cons_of_ne h]; simpa using ih
def filledS (ps:List (List UInt8)) (n:Nat):List Value:=strs ps++List.replicate (n - ps.length) (.string .empty)
theorem filledS_len (ps:List (List UInt8)) (n:Nat) (h:ps.length≤n):(filledS ps n).length=n:=by simp [filledS,strs]; omega
theorem filledS_full (ps:List (List UInt8)) (n:Nat) (h:ps.length=n):filledS ps n=strs ps:=by simp [filledS,h]
theorem filledS_set (ps:List (List UInt8)) (n:Nat) (p:List UInt8) (h:ps.length < n):(filledS ps n).set ps.length (.string ⟨p.toArray⟩)=filledS (ps++[p]) n:=by
 have e:n - ps.length=(n - (ps.length+1))+1:=by omega
 have hl:(strs ps).length=ps.length:=strs_length ps;unfold filledS;rw [List.set_append_right _ _ (by omega),hl,Nat.sub_self,e,List.replicate_succ,List.set_cons_zero,strs_append,List.append_assoc,List.length_append]
 rfl
theorem made_rowS (w:World) (e:TypeId) (n:Nat):RowIs (w.alloc (.cells (madeCells #[.string .empty] n) e)) w.heap.size e (filledS [] n):=by
 unfold RowIs;rw [heap_alloc_new]
 have:madeCells #[.string .empty] n=(filledS [] n).toArray:=by
  apply Array.ext
  ·simp [size_madeCells,filledS,strs]
  ·intro i h1 h2
   simp [madeCells,filledS,strs,Nat.mod_one]
 rw [this]
set_option maxHeartbeats 1000000 in
theorem genSplit_any (l0:List UInt8) (c:UInt8) (w:World) (hs:l0.length≤1048576) :
  Calls Tryz.prog 173 #[.string ⟨l0.toArray⟩,.string ⟨#[c]⟩,.int .i64 0,.int .i64 (-1)] w fun e w'=>∃ v,e=.returned v∧Own w' w.heap.size 9 v (strs (splitL c l0))∧Below w.heap.size w w':=by
 obtain ⟨i0,hi,hz0,hz1,hz2⟩:=info_parts info9;have h0:(ByteArray.mk #[c]).size=1:=rfl;have hz:(⟨l0.toArray⟩:ByteArray).size=l0.length:=size_list l0;obtain ⟨N,hN⟩:∃ N,N=(splitL c l0).length:=⟨_,rfl⟩
 have hN1:N≤l0.length+1:=by rw [hN]; exact splitL_len c l0
 have hcn:(Lib.countByte l0 c:Int)=(N:Int) - 1:=by rw [hN,splitL_count]; omega
 have hN0:1≤N:=by rw [hN,splitL_count]; omega
 have hmk:∀ u:World,(Instr.makeSlice 116 (.int .i64 (N:Int)) (.int .i64 (N:Int))).run Tryz.prog u =
   .ok (.slice (some ⟨u.heap.size,0,none⟩) N N) (u.alloc (.cells (madeCells #[.string .empty] N) 9)):=fun u=>by
  have h:=run_make (P:=Tryz.prog) u 116 9 i0 (.string .empty) Tryz.underlying116 hi hz0 .i64 .i64 (N:Int) (N:Int) (by omega) (Int.le_refl _) (by rw [hz2]; omega) (by omega)
  simpa [hz1,Value.cells] using h
 have hr0:Hid (RowIs (w.alloc (.cells (madeCells #[.string .empty] N) 9)) w.heap.size 9 (filledS [] N)):=made_rowS w _ _
 have hw1:IntKind.i64.wrap ((N:Int) - 1+1)=(N:Int):=by
  simp [IntKind.wrap,IntKind.bits,IntKind.signed]; omega
 have hNs:Hid _:=hN;clear hN
 go_enter Tryz.func173,Tryz.ntmps173
 go_wp2_with (go_at_call 185; refine (strCount_any _ c _).mono ?_; rintro e w' ⟨rfl,rfl⟩; rw [hcn])
 clear hmk
 go_loopw [0,10] (fun x i wr=>∃ (r:List UInt8) (ps:List (List UInt8)),x=.string ⟨r.toArray⟩∧i=.int .i64 ps.length∧Hid (splitL c l0=ps++splitL c r)∧r.length≤l0.length∧Hid (RowIs wr w'.heap.size 9 (filledS ps N))∧Below w'.heap.size w' wr) (fun _ i _=>N - (intOf i).toNat)
 case atStart=>exact ⟨l0,[],rfl,rfl,show _=_ from rfl,Nat.le_refl _,hr0,(Below.refl _ _).alloc (Nat.le_refl _) _⟩
 case round =>
  clear hr0 hcn hw1 hz;obtain ⟨r,ps,rfl,rfl,hsp,hrl,hr,hb⟩:=hrel;have hz:(⟨r.toArray⟩:ByteArray).size=r.length:=size_list r;have hln:N=ps.length+(splitL c r).length:=by rw [hNs.out,hsp.out,List.length_append]
  have hln1:1≤(splitL c r).length:=by rw [splitL_count]; omega
  have hf:=hr.out.frozen ps.length;obtain ⟨x,hc⟩:∃ x,wr.cell? ⟨w'.heap.size,ps.length,none⟩=some x:=⟨_,hr.out.cell ps.length (by rw [filledS_len _ _ (by omega)]; omega)⟩
  by_cases hlt:ps.length < N - 1
  ·have hin:c ∈ r:=by
    apply Classical.byContradiction
    intro hno;rw [splitL_cut,cutL_miss hno] at hln
    simp at hln; omega
   rcases idx_cases r c with ⟨h1,_⟩ | ⟨a,b,h1,h2,h3⟩
   ·exact absurd hin h1
   ·have hd:(⟨r.toArray⟩:ByteArray).data.toList=a++c :: b:=h1;obtain ⟨e1,e2,e3⟩:=cut_data ⟨r.toArray⟩ hd;rw [hz] at e3;have hcut:cutL c r=(a,b,true):=by rw [h1]; exact cutL_hit h2
    have hsp2:Hid (splitL c l0=(ps++[a])++splitL c b):=show _=_ by
     have:=splitL_next hsp.out (by rw [hcut]); rw [hcut] at this; exact this
    have hr':Hid (RowIs (wr.setCell ⟨w'.heap.size,ps.length,none⟩ (.string ⟨a.toArray⟩)) w'.heap.size 9 (filledS (ps++[a]) N)):=by
     have h:=hr.out.set ps.length (.string ⟨a.toArray⟩);rw [filledS_set ps N a (by omega)] at h;exact h
    have hwr:IntKind.i64.wrap ((a.length:Int)+1)=((a.length+1:Nat):Int):=by
     simp [IntKind.wrap,IntKind.bits,IntKind.signed]; omega
    have h3':Lib.indexByte (⟨r.toArray⟩:ByteArray).data.toList c=(a.length:Int):=h3;rw [hz,e3] at e2;clear hd hcut hin h1 h2 hsp hr hln hln1;go_wp2_with (go_at_call 186; refine (strIndex_any _ c _).mono ?_; rintro e w2 ⟨rfl,rfl⟩; rw [h3'])
    go_roundw
    case rel=>exact ⟨b,ps++[a],by first | rfl | rw [e2],by simp,hsp2,by omega,hr',hb.setCell (Nat.le_refl _) _⟩
    case measure=>simp [intOf]; omega
  ·have hone:splitL c r=[r]:=by
    have:(splitL c r).length=1:=by omega
    rw [splitL_count,Lib.countByte] at this
    exact splitL_cut c r ▸ (by
     have hno:c ∉ r:=List.count_eq_zero.1 (by omega);rw [cutL_miss hno]; rfl)
   have hr':Hid (Own (wr.setCell ⟨w'.heap.size,ps.length,none⟩ (.string ⟨r.toArray⟩)) w'.heap.size 9 (.slice (some ⟨w'.heap.size,0,none⟩) N N) (strs (splitL c l0))):=by
    have h:=hr.out.set ps.length (.string ⟨r.toArray⟩);rw [filledS_set ps N r (by omega),filledS_full _ _ (by rw [List.length_append,hln,hone])] at h;rw [hsp.out,hone];exact h.own _ N (Nat.le_refl _) (by rw [strs_length,List.length_append,hln,hone]) (by unfold maxLen; omega)
   have hN2:ps.length+1=N:=by rw [hone] at hln; simp at hln; omega
   clear hone hr hsp hln hln1;go_wp2;go_ret;exact ⟨_,rfl,by first | exact hr'.out | (have:=hr'.out; simpa [hN2] using this),hb.setCell (Nat.le_refl _) _⟩
set_option maxHeartbeats 400000 in
theorem strSplit_any (s:ByteArray) (c:UInt8) (w:World) (hs:s.size≤1048576) :
  Calls Tryz.prog 148 #[.string s,.string ⟨#[c]⟩] w fun e w'=>∃ v,e=.returned v∧Own w' w.heap.size 9 v (strs (splitL c s.data.toList))∧Below w.heap.size w w':=by
 have hs0:s=⟨s.data.toList.toArray⟩:=by apply ByteArray.ext; simp
 have hl:=len_data s;generalize s.data.toList=l0 at hs0 hl ⊢;subst hs0;rw [← hl] at hs
 go_enter Tryz.func148,Tryz.ntmps148
 go_wp2_with (go_at_call 173; refine (genSplit_any _ c _ hs).mono ?_; rintro e w' ⟨v,rfl,hown,hb⟩)
 go_ret;exact ⟨_,rfl,hown,hb⟩
def labAll (ps:List (List UInt8)):Bool:=ps.all labB
theorem labAll_snoc {ps:List (List UInt8)} {k:Nat} (hk:k < ps.length) (h:labAll (ps.take k)=true) (hb:labB ps[k]=true):labAll (ps.take (k+1))=true:=by
 unfold labAll at *;rw [List.take_succ_eq_append_getElem hk,List.all_append,h]
 simp [hb]
theorem labAll_bad {ps:List (List UInt8)} {k:Nat} (hk:k < ps.length) (hb:labB ps[k]=false):labAll ps=false:=by
 unfold labAll;rw [List.all_eq_false];exact ⟨ps[k],List.getElem_mem hk,by simp [hb]⟩
end Go.Proofs.YtdbalahkmeknaaaGreatDoor
