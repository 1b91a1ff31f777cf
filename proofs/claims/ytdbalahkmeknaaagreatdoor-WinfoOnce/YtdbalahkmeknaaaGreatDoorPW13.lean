/-
  XElL, XEqA, XInn, XElem, XSmall.
-/
import Derived.Test.YtdbalahkmeknaaaGreatDoorPW12
set_option linter.unusedVariables false
set_option linter.unusedSimpArgs false
set_option maxRecDepth 20000
namespace Go.Proofs.YtdbalahkmeknaaaGreatDoor
open Go.RowKit Sc
def InP (o:Option (List UInt8 × List Nd × List UInt8)) (b:Nat) (cs:List NdC) (B:Nat) (v:Value) (w:World) (e:Ending) (w':World):Prop:=match o with
 | none=>e=gaveUp∧FrX b v w (.slice none 0 0) w'
 | some (t,ns,r)=>∃ v' cs',e=.returned (.string ⟨t.toArray⟩)∧ndsL cs'=ns∧OwnN w' B v' (cs++cs')∧XrAt w' b r v'∧FrX b v w v' w'
def ElS (n:Nat):Prop:=∀ (b d:Nat) (l:List UInt8) (v:Value) (cs:List NdC) (B:Nat) (w:World),XrAt w b l v → OwnN w B v cs → b < B → B≤w.heap.size → l.length < n → cs.length+l.length≤100000 → d+l.length≤100000 →
 Calls Tryz.prog 71 #[.pointer (some ⟨b,0,none⟩),.int .i64 d] w fun e w'=>ElP (elemC n d l) b cs B v w e w'
def innA (n d:Nat) (s:List UInt8):Option (List UInt8 × List Nd × List UInt8):=match upP (·==60) s with
 | none=>none
 | some (x,y)=>innC n d x [] y
def InS (n:Nat):Prop:=∀ (b d:Nat) (l:List UInt8) (v:Value) (cs:List NdC) (B:Nat) (w:World),XrAt w b l v → OwnN w B v cs → b < B → B≤w.heap.size → l.length+1 < n → cs.length+l.length≤100000 → d+l.length≤100000 →
 Calls Tryz.prog 108 #[.pointer (some ⟨b,0,none⟩),.int .i64 d] w fun e w'=>InP (innA n d l) b cs B v w e w'
theorem dw_nil {p:UInt8 → Bool}:∀ {l:List UInt8},l.dropWhile p=[] ↔ ∀ b ∈ l,p b=true
 | []=>by simp
 | a :: l=>by
  rw [List.dropWhile_cons]
  cases ha:p a with
  | false=>simp [ha]
  | true =>
   rw [if_pos rfl,dw_nil (l:=l)]
   simp [ha]
theorem up_split {q:UInt8} {l x r:List UInt8} (h:upP (·==q) l=some (x,q :: r)):l=x++q :: r∧(∀ b ∈ x,(b != q)=true)∧x=l.takeWhile (· != q)∧q :: r=l.dropWhile (· != q):=by
 have ef:(fun b:UInt8=>!(b==q))=(· != q):=rfl;unfold upP at h;rw [ef] at h
 split at h
 ·cases h
 ·simp only [Option.some.injEq,Prod.mk.injEq] at h;have e:=List.takeWhile_append_dropWhile (p:=(· != q)) (l:=l);rw [h.1,h.2] at e;refine ⟨e.symm,fun b hb=>?_,h.1.symm,h.2.symm⟩
  rw [← h.1] at hb;exact List.all_eq_true.1 List.all_takeWhile b hb
theorem up_none {q:UInt8} {l:List UInt8} (h:upP (·==q) l=none):l.dropWhile (· != q)=[]:=by
 have ef:(fun b:UInt8=>!(b==q))=(· != q):=rfl;unfold upP at h;rw [ef] at h
 split at h
 ·next ha =>
  exact dw_nil.2 (List.all_eq_true.1 ha)
 ·cases h
theorem dw_stop {p:UInt8 → Bool} {x:List UInt8} {c:UInt8} {r:List UInt8} (h:∀ b ∈ x,p b=true) (hc:p c=false):(x++c :: r).takeWhile p=x∧(x++c :: r).dropWhile p=c :: r:=takeW_app h hc
def valueX (t:List UInt8):Option (List UInt8 × List UInt8):=match t with
 | []=>none
 | q :: r2=>if q ≠ 34∧q ≠ 39 then none else match r2.dropWhile (fun b=>b != q && b != 60) with
  | []=>none
  | e :: r3=>if e ≠ q then none else some (r2.takeWhile (fun b=>b != q && b != 60),r3)
theorem valueQ_is (q:UInt8) (hq:q ≠ 60) (r2:List UInt8):valueQ q (q :: r2)=match r2.dropWhile (fun b=>b != q && b != 60) with
  | []=>none
  | e :: r3=>if e ≠ q then none else some (r2.takeWhile (fun b=>b != q && b != 60),r3):=by
 unfold valueQ;rw [if_neg (by rw [pre_one]; simp),show List.drop 1 (q :: r2)=r2 from rfl]
 cases hu:upP (·==q) r2 with
 | none =>
  have hd:=up_none hu;have hn:∀ b ∈ r2,(b != q)=true:=dw_nil.1 hd
  simp only
  cases hx:r2.dropWhile (fun b=>b != q && b != 60) with
  | nil=>rfl
  | cons e r3 =>
   have he:e ∈ r2:=(List.dropWhile_suffix _).subset (by rw [hx]; exact List.mem_cons_self ..)
   have:=hn e he
   simp only
   rw [if_pos (by simpa using this)]
 | some xy =>
  obtain ⟨x,y⟩:=xy;obtain ⟨r,rfl,hl⟩:=up_eq hu;obtain ⟨h1,h2,h3,h4⟩:=up_split hu;simp only [List.drop_succ_cons,List.drop_zero]
  cases hc:x.contains 60 with
  | true =>
   rw [if_pos rfl];have hm:(60:UInt8) ∈ x:=by simpa using hc
   rcases idx_cases x 60 with ⟨h5,_⟩ | ⟨a,b,h5,h6,_⟩
   ·exact absurd hm h5
   ·have e:r2=a++60 :: (b++q :: r):=by rw [h1,h5]; simp
    have hd:=(dw_stop (p:=fun b=>b != q && b != 60) (x:=a) (c:=60) (r:=b++q :: r) (fun c hc=>by
     have h7:=h2 c (by rw [h5]; simp [hc]);have h8:c ≠ 60:=fun e=>h6 (by rw [← e]; exact hc);simp only [h7,Bool.true_and,bne_iff_ne,ne_eq]; exact h8) (by simp)).2
    rw [← e] at hd;rw [hd]
    simp only
    rw [if_pos (Ne.symm hq)]
  | false =>
   rw [if_neg (by simp)];have hm:(60:UInt8) ∉ x:=by simpa using hc
   have hd:=dw_stop (p:=fun b=>b != q && b != 60) (x:=x) (c:=q) (r:=r) (fun c hc=>by
    have h7:=h2 c hc;have h8:c ≠ 60:=fun e=>hm (by rw [← e]; exact hc);simp only [h7,Bool.true_and,bne_iff_ne,ne_eq]; exact h8) (by simp)
   rw [← h1] at hd;rw [hd.1,hd.2]
   simp
theorem valueC_is (t:List UInt8):valueC t=valueX t:=by
 unfold valueC valueX
 cases t with
 | nil=>rfl
 | cons q r2 =>
  simp only
  by_cases h39:q=39
  ·subst h39;rw [if_pos (pre_one 39 r2),valueQ_is 39 (by decide)];rw [if_neg (by simp)]
  ·have hp:preX [39] (q :: r2)=false:=by simp [preX,h39]
   rw [if_neg (by rw [hp]; simp)];by_cases h34:q=34
   ·subst h34;rw [valueQ_is 34 (by decide),if_neg (by simp)]
   ·rw [if_pos ⟨h34,h39⟩];unfold valueQ;rw [if_pos (by simp [preX,h34])]
theorem attrC_is (s:List UInt8):attrC s=attrX s:=by
 unfold attrC attrX
 cases hu:upP (·==61) s with
 | none=>rw [up_none hu]
 | some xy =>
  obtain ⟨x,y⟩:=xy;obtain ⟨r,rfl,hl⟩:=up_eq hu;obtain ⟨h1,h2,h3,h4⟩:=up_split hu;rw [← h4,← h3];simp only [List.drop_succ_cons,List.drop_zero];rw [valueC_is];unfold valueX
  cases r.dropWhile xblk with
  | nil=>rfl
  | cons q r2 =>
   simp only
   by_cases hq:q ≠ 34∧q ≠ 39
   ·rw [if_pos hq,if_pos hq]
   ·rw [if_neg hq,if_neg hq]
    cases hd:r2.dropWhile (fun b=>b != q && b != 60) with
    | nil=>rfl
    | cons e r3 =>
     simp only
     by_cases he:e ≠ q
     ·rw [if_pos he,if_pos he]
     ·rw [if_neg he,if_neg he]
def goodR (r:List UInt8):Bool:=preX [47,62] r || preX [62] r
theorem dw_head {s:List UInt8}:s.head?.any xblk=decide ((s.dropWhile xblk).length < s.length):=by
 cases s with
 | nil=>rfl
 | cons b r =>
  rw [List.head?_cons,Option.any_some,List.dropWhile_cons]
  cases hb:xblk b with
  | false=>simp
  | true =>
   have:=dw_len xblk r
   simp
   omega
theorem attrs_XC:∀ (n:Nat) (acc:List Par) (s:List UInt8) (ps:List Par) (r2:List UInt8),attrsX n acc s=some (ps,r2) → goodR r2=true → ∀ m,s.length < m → attrsC m acc s=some (ps,r2)
 | 0,_,_,_,_,h,_,_,_=>by rw [attrsX] at h; cases h
 | n+1,acc,s,ps,r2,h,hg,m,hm=>by
  obtain ⟨m',rfl⟩:∃ m',m=m'+1:=⟨m - 1,by omega⟩
  rw [attrsX] at h;rw [attrsC];have hdl:=dw_len xblk s
  cases hs:s.dropWhile xblk with
  | nil =>
   rw [hs] at h;simp only [Option.some.injEq,Prod.mk.injEq] at h;rw [← h.2] at hg
   cases hg
  | cons b r =>
   rw [hs] at h hdl;simp only at h
   split at h
   ·next hb =>
    simp only [Option.some.injEq,Prod.mk.injEq] at h;rw [← h.2] at hg ⊢;rw [if_neg,h.1];unfold goodR at hg;rw [Bool.or_eq_true] at hg
    rcases hg with hg | hg <;> (rw [hg]; simp)
   ·next hb =>
    split at h
    ·cases h
    ·next hh =>
     have hb62:preX [62] (b :: r)=false:=by
      have:b ≠ 62:=fun e=>hb (.inr e)
      simp [preX,this]
     have hb47:preX [47,62] (b :: r)=false:=by
      have:b ≠ 47:=fun e=>hb (.inl e)
      simp [preX,this]
     have hlt:decide ((b :: r).length < s.length)=true:=by
      rw [← hs,← dw_head]
      simpa using hh
     rw [if_pos (by rw [hlt,hb62,hb47]; rfl),attrC_is]
     split at h
     ·cases h
     ·next p r3 ha =>
      rw [ha]
      simp only
      have hal:=attrC_len (by rw [attrC_is]; exact ha);exact attrs_XC n _ _ _ _ h hg m' (by omega)
theorem attrs_pre:∀ (m:Nat) (acc:List Par) (s:List UInt8) (ps:List Par) (r2:List UInt8),attrsC m acc s=some (ps,r2) → ∀ p ∈ acc,p ∈ ps
 | 0,_,_,_,_,h=>by rw [attrsC] at h; cases h
 | m+1,acc,s,ps,r2,h=>by
  rw [attrsC] at h
  split at h
  ·split at h
   ·cases h
   ·intro p hp;exact attrs_pre m _ _ _ _ h p (by simp [hp])
  ·simp only [Option.some.injEq,Prod.mk.injEq] at h;rw [h.1]; exact fun p hp=>hp
theorem slash_bad {r t:List UInt8} {p:Par} (h:attrC (47 :: r)=some (p,t)):nameX p.name=false:=by
 unfold attrC at h
 split at h
 ·cases h
 ·next n y hu =>
  obtain ⟨r',rfl,hl⟩:=up_eq hu;obtain ⟨_,_,h3,_⟩:=up_split hu
  split at h
  ·cases h
  ·next v r2 hv =>
   cases hr:readX v with
   | none=>rw [hr] at h; cases h
   | some x =>
    rw [hr] at h;simp only [Option.map_some,Option.some.injEq,Prod.mk.injEq] at h;rw [← h.1]
    simp only
    have hn:∃ z,n=47 :: z:=⟨_,by rw [h3,List.takeWhile_cons,if_pos (by decide)]⟩
    obtain ⟨z,rfl⟩:=hn
    have hx:∃ z',xbehind (47 :: z)=47 :: z':=by
     unfold xbehind;rw [List.reverse_cons,List.dropWhile_append]
     split
     ·exact ⟨[],by rw [List.dropWhile_cons,if_neg (by decide)]; rfl⟩
     ·exact ⟨_,by rw [List.reverse_append]; rfl⟩
    obtain ⟨z',hz⟩:=hx;rw [hz]
    have:letX 47=false:=by decide +kernel
    simp [nameX,this]
theorem attrs_CX:∀ (m:Nat) (acc:List Par) (s:List UInt8) (ps:List Par) (r2:List UInt8),attrsC m acc s=some (ps,r2) → goodR r2=true → (∀ p ∈ ps,nameX p.name=true) → ∀ n,s.length≤n → 1≤n → attrsX n acc s=some (ps,r2)
 | 0,_,_,_,_,h,_,_,_,_,_=>by rw [attrsC] at h; cases h
 | m+1,acc,s,ps,r2,h,hg,hnm,n,hn,hn1=>by
  obtain ⟨n',rfl⟩:∃ n',n=n'+1:=⟨n - 1,by omega⟩
  have hpre:=attrs_pre _ _ _ _ _ h;rw [attrsC] at h;rw [attrsX];have hdl:=dw_len xblk s
  cases hs:s.dropWhile xblk with
  | nil =>
   rw [hs] at h
   split at h
   ·split at h
    ·cases h
    ·next ha=>rw [attrC_is] at ha; cases ha
   ·simp only [Option.some.injEq,Prod.mk.injEq] at h;rw [← h.2] at hg
    cases hg
  | cons b r =>
   rw [hs] at h hdl
   simp only
   split at h
   ·next hc =>
    split at h
    ·cases h
    ·next p r3 ha =>
     rw [Bool.and_eq_true,Bool.and_eq_true] at hc
     have hp62:b ≠ 62:=fun e=>by
      have:=hc.2.1
      rw [e] at this;rw [pre_one] at this; cases this
     have hp47:b ≠ 47:=fun e=>by
      subst e;have h1:=slash_bad ha;have h2:=hnm p (attrs_pre _ _ _ _ _ h p (by simp));rw [h1] at h2; cases h2
     rw [if_neg (by rintro (e | e); exact hp47 e; exact hp62 e)];have hh:s.head?.any xblk=true:=by rw [dw_head,hs]; exact hc.1
     rw [if_neg (by rw [hh]; simp),← attrC_is,ha]
     simp only
     have hal:=attrC_len ha;have hlt:=of_decide_eq_true hc.1;exact attrs_CX m _ _ _ _ h hg hnm n' (by omega) (by omega)
   ·next hc =>
    simp only [Option.some.injEq,Prod.mk.injEq] at h;rw [← h.2] at hg
    have hb:b=47∨b=62:=by
     unfold goodR at hg;rw [Bool.or_eq_true] at hg
     rcases hg with hg | hg
     ·left
      have:=of_decide_eq_true hg
      simp at this
      exact this.1
     ·right
      have:=of_decide_eq_true hg
      simpa using this
    rw [if_pos hb,h.1,h.2]
mutual
theorem elemC_cnt:∀ (n d:Nat) (s:List UInt8) (l:List Nd) (r:List UInt8),elemC n d s=some (l,r) → l.length+r.length≤s.length
 | 0,_,_,_,_,h=>by rw [elemC] at h; cases h
 | n+1,d,s,l,r,h=>by
  rw [elemC] at h
  split at h
  ·cases h
  ·next h1 =>
   have h1':preX [60] s=true:=by simpa using h1
   have hp:=pre_len h1'
   split at h
   ·cases h
   ·next nm r1 hu =>
    obtain ⟨c,q,hq,_,hlq⟩:=up_head hu
    split at h
    ·cases h
    ·next ps r2 ha =>
     have ha':=attrsC_len _ _ _ _ _ ha
     split at h
     ·simp only [Option.some.injEq,Prod.mk.injEq] at h;rw [← h.1,← h.2]
      simp at *
      omega
     ·split at h
      ·cases h
      ·split at h
       ·cases h
       ·next x y hu2 =>
        obtain ⟨c2,q2,hq2,_,hlq2⟩:=up_head hu2
        split at h
        ·cases h
        ·next t ks r3 hi =>
         have:=innC_cnt n _ _ _ _ _ _ _ hi
         cases hc:closeC nm r3 with
         | none=>rw [hc] at h; cases h
         | some r4 =>
          rw [hc] at h;simp only [Option.map_some,Option.some.injEq,Prod.mk.injEq] at h;rw [← h.1,← h.2]
          have:=closeC_len hc
          simp at *
          omega
theorem innC_cnt:∀ (n d:Nat) (txt:List UInt8) (ks:List Nd) (s t:List UInt8) (l:List Nd) (r:List UInt8),innC n d txt ks s=some (t,l,r) → l.length+r.length≤ks.length+s.length
 | 0,_,_,_,_,_,_,_,h=>by rw [innC] at h; cases h
 | n+1,d,txt,ks,s,t,l,r,h=>by
  rw [innC] at h
  split at h
  ·cases hv:readX (xtrim txt) with
   | none=>rw [hv] at h; cases h
   | some u =>
    rw [hv] at h;simp only [Option.map_some,Option.some.injEq,Prod.mk.injEq] at h;rw [← h.2.2,← h.2.1]; exact Nat.le_refl _
  ·split at h
   ·cases h
   ·next k2 r1 he =>
    have:=elemC_cnt n _ _ _ _ he
    split at h
    ·cases h
    ·next x y hu =>
     obtain ⟨c,q,hq,_,hlq⟩:=up_head hu
     have:=innC_cnt n _ _ _ _ _ _ _ h
     rw [List.length_append] at this;omega
end
theorem xcat (a b:List UInt8):(⟨a.toArray⟩:ByteArray)++⟨b.toArray⟩=⟨(a++b).toArray⟩:=by
 apply ByteArray.ext
 simp [ByteArray.data_append]
theorem ndsL_app (a b:List NdC):ndsL (a++b)=ndsL a++ndsL b:=by simp [ndsL]
theorem xtrim_len (l:List UInt8):(xtrim l).length≤l.length:=by
 rw [← xtrim_two];exact Nat.le_trans (dw_len _ _) (xbehind_len l)
set_option maxHeartbeats 4000000 in
set_option maxRecDepth 100000 in
theorem inn_step (n:Nat) (hEl:∀ m,m < n → ElS m):InS n:=by
 intro b d l v cs B w hrd hown hbB hB hn hcl hdl;have HEl:=hid hEl;have HO:=hid hown;have KU:=hid (fun w' (h':XrAt w' b l v)=>upTo_bad (·==60) ⟨#[60]⟩ b l v w' h' (by omega) (fun w'=>xany_lt l w'));have hA:innA n d l=(match upP (·==60) l with | none=>none | some (x,y)=>innC n d x [] y):=rfl;generalize innA n d l=R at hA ⊢;clear hEl
 cases hu:upP (·==60) l with
 | none =>
  rw [hu] at hA;have HA:Hid (R=none):=hA;have HU:=hid hu;have HRD:=hid hrd;clear hA hu hrd hown
  go_enter Tryz.func108,Tryz.ntmps108
  go_wp2_with fail
  refine (KU.out w HRD.out HU.out).mono ?_
  rintro e w1 ⟨rfl,hf1⟩;refine ⟨rfl,?_⟩
  rw [HA.out];exact ⟨rfl,(FrX.of hf1).none⟩
 | some xy =>
  obtain ⟨x,y⟩:=xy;rw [hu] at hA;have HA:Hid (R=innC n d x [] y):=hA;have HU:=hid hu;obtain ⟨c0,q0,hq0,_,hlq0⟩:=up_head hu;have KU2:=hid (upTo_ok (·==60) ⟨#[60]⟩ b l v w hrd (by omega) (fun w'=>xany_lt l w') x y hu);have HRD:=hid hrd;clear hA hu hrd hown hq0
  go_enter Tryz.func108,Tryz.ntmps108
  go_wp2_with fail
  refine (KU2.out).mono ?_
  rintro e w1 ⟨rfl,hr1,hf1⟩;have hown1:=HO.out.fr hf1 HRD.out;have hfx1:FrX b v w v w1:=FrX.of hf1;clear KU2 KU HO;go_wp2
  go_loopw [5] (fun tv wr=>∃ (txt s:List UInt8) (ks:List NdC) (v':Value) (m:Nat),tv=.string ⟨txt.toArray⟩∧Hid (R=innC m d txt (ndsL ks) s)∧s.length+1 < m∧m≤n∧txt.length+s.length≤100000∧cs.length+ks.length+s.length≤100000∧d+s.length≤100000∧Hid (OwnN wr B v' (cs++ks))∧Hid (XrAt wr b s v')∧FrX b v w v' wr) (fun _ wr=>restLen b wr)
  case atStart=>exact ⟨x,y,[],v,n,rfl,HA,by omega,Nat.le_refl _,by omega,by simp; omega,by omega,by simpa using hid hown1,hid hr1,hfx1⟩
  case round =>
   obtain ⟨txt,s,ks,v',m,rfl,hR,hm,hmn,ht,hc,hd',hown,hrd,hfr⟩:=hrel;clear HA hown1 hr1 hf1 hfx1 HU HRD;obtain ⟨m',rfl⟩:∃ m',m=m'+1:=⟨m - 1,by omega⟩
   have hRe:=hR.out;rw [innC] at hRe;have KS:=hid (sees_any b s [60,47] v' wr hrd.out (by omega) (by decide));have HL:=hid hrd.out.rest;have hBw:B≤wr.heap.size:=Nat.le_trans hB hfr.size;clear hR
   cases h1:preX [60,47] s with
   | true =>
    rw [h1] at hRe KS;rw [if_pos rfl] at hRe;have hxl:=xtrim_len txt;have KT:=hid (fun w'=>xtrimAll_list txt w' (by omega));have KP:=hid (fun w'=>plain_any (xtrim txt) w' (by omega));clear h1
    cases hr:readX (xtrim txt) with
    | none =>
     rw [hr] at hRe KP;have hE:Hid (R=none):=hRe;clear hRe hr;generalize xtrim txt=tt at KT KP hxl;go_wp2_with fail
     refine (KS.out).mono ?_
     rintro e wr ⟨rfl,rfl⟩;go_wp2_with fail
     refine (KT.out _).mono ?_
     rintro e w2 ⟨rfl,hw2⟩;go_wp2_with fail
     refine (KP.out _).mono ?_
     rintro e w3 ⟨rfl,hw3⟩;refine ⟨rfl,?_⟩
     rw [hE.out];exact ⟨rfl,((hfr.trans (FrX.of (FrR.below hw2))).trans (FrX.of (FrR.below hw3))).none⟩
    | some t =>
     rw [hr] at hRe KP;have hE:Hid (R=some (t,ndsL ks,s)):=hRe;clear hRe hr;generalize xtrim txt=tt at KT KP hxl;go_wp2_with fail
     refine (KS.out).mono ?_
     rintro e wr ⟨rfl,rfl⟩;go_wp2_with fail
     refine (KT.out _).mono ?_
     rintro e w2 ⟨rfl,hw2⟩;go_wp2_with fail
     refine (KP.out _).mono ?_
     rintro e w3 ⟨rfl,hw3⟩;go_wp2;go_ret;rw [hE.out];exact ⟨v',ks,rfl,rfl,(hown.out.below hw2).below hw3,(hrd.out.below hw2).below hw3,(hfr.trans (FrX.of (FrR.below hw2))).trans (FrX.of (FrR.below hw3))⟩
   | false =>
    rw [h1] at hRe KS;rw [if_neg (by simp)] at hRe;have KE:=hid (HEl.out m' (by omega) b d s v' (cs++ks) B wr hrd.out hown.out hbB hBw (by omega) (by rw [List.length_append]; omega) hd');clear h1
    cases he:elemC m' d s with
    | none =>
     rw [he] at hRe KE;simp only [ElP] at KE;have hE:Hid (R=none):=hRe;clear hRe he;go_wp2_with fail
     refine (KS.out).mono ?_
     rintro e wr ⟨rfl,rfl⟩;go_wp2_with fail
     refine (KE.out).mono ?_
     rintro e w3 ⟨rfl,hf3⟩;refine ⟨rfl,?_⟩
     rw [hE.out];exact ⟨rfl,hfr.trans hf3⟩
    | some kr =>
     obtain ⟨k2,r⟩:=kr;have hel:=elemC_len _ _ _ _ _ he;have hec:=elemC_cnt _ _ _ _ _ he;rw [he] at hRe KE;simp only [ElP] at KE;simp only at hRe;clear he
     cases hu:upP (·==60) r with
     | none =>
      rw [hu] at hRe;have hE:Hid (R=none):=hRe;have HU:=hid hu;clear hRe hu;go_wp2_with fail
      refine (KS.out).mono ?_
      rintro e wr ⟨rfl,rfl⟩;go_wp2_with fail
      refine (KE.out).mono ?_
      rintro e w3 ⟨v3,k3,rfl,hk3,hown3,hr3,hf3⟩;go_wp2_with fail
      refine (upTo_bad (·==60) ⟨#[60]⟩ b r v3 w3 hr3 (by omega) (fun w'=>xany_lt r w') HU.out).mono ?_
      rintro e w4 ⟨rfl,hf4⟩;refine ⟨rfl,?_⟩
      rw [hE.out];exact ⟨rfl,((hfr.trans hf3).trans (FrX.of hf4)).none⟩
     | some xy =>
      obtain ⟨x2,y2⟩:=xy;rw [hu] at hRe;have hE:Hid (R=innC m' d (txt++x2) (ndsL ks++k2) y2):=hRe;have HU:=hid hu;obtain ⟨c0,q0,hq0,_,hlq⟩:=up_head hu;have hcat:=xcat txt x2;have hcl2:¬ 9223372036854775807 < txt.length+x2.length:=by omega
      have hz1:=size_list txt;have hz2:=size_list x2;have HL3:Hid (y2.length < s.length):=show _ < _ by omega
      have HL4:Hid (y2.length+1 < m'):=show _ < _ by omega
      have HL5:Hid ((txt++x2).length+y2.length≤100000):=show _≤_ by rw [List.length_append]; omega
      have HL6:Hid (∀ k3:List NdC,ndsL k3=k2 → cs.length+(ks++k3).length+y2.length≤100000):=fun k3 hk=>by
       have:=congrArg List.length hk
       rw [ndsL_len] at this;rw [List.length_append]; omega
      clear hRe hu hq0;go_wp2_with fail
      refine (KS.out).mono ?_
      rintro e wr ⟨rfl,rfl⟩;go_wp2_with fail
      refine (KE.out).mono ?_
      rintro e w3 ⟨v3,k3,rfl,hk3,hown3,hr3,hf3⟩;have HK3:=hid hk3;have HO3:=hid hown3;clear hk3 hown3;go_wp2_with fail
      refine (upTo_ok (·==60) ⟨#[60]⟩ b r v3 w3 hr3 (by omega) (fun w'=>xany_lt r w') x2 y2 HU.out).mono ?_
      rintro e w4 ⟨rfl,hr4,hf4⟩;have hown4:=HO3.out.fr hf4 hr3;go_wp2;go_roundw
      case rel=>exact ⟨txt++x2,y2,ks++k3,v3,m',by first | rfl | rw [hcat],by rw [ndsL_app,HK3.out]; exact hE,HL4.out,by omega,HL5.out,HL6.out k3 HK3.out,by have:=HL3.out; omega,by rw [← List.append_assoc]; exact hid hown4,hid hr4,(hfr.trans hf3).trans (FrX.of hf4)⟩
      case measure=>rw [hr4.rest,HL.out]; exact HL3.out
theorem FrN.rd {v v':Value} {w w':World} {b:Nat} {l:List UInt8} {u:Value} (h:FrN v w v' w') (hr:XrAt w b l u) (hn:v.ownBlock ≠ some b):XrAt w' b l u:=h.row hr hr.lt hn
theorem XrAt.nodes {w:World} {b:Nat} {l:List UInt8} {v:Value} (h:XrAt w b l v) (u:Value):XrAt (w.setCell ⟨b,1,none⟩ u) b l u:=by
 have:=RowIs.set h 1 u
 unfold XrAt; simpa using this
theorem OwnN.put {w:World} {b B:Nat} {v u x:Value} {l:List UInt8} {cs:List NdC} {j:Nat} (h:OwnN w B v cs) (hr:XrAt w b l u):OwnN (w.setCell ⟨b,j,none⟩ x) B v cs:=h.fr ((FrR.refl b w).setCell j x) hr
theorem own_text {w:World} {B:Nat} {v:Value} {cs k8:List NdC} {c:NdC} (h:OwnN w B v (cs++[c]++k8)):∃ g cap N,w.frozen? ⟨g,cs.length * 4+3,none⟩=false∧v=.slice (some ⟨g,0,none⟩) N cap∧cs.length < N∧w.cell? ⟨g,cs.length * 4+3,none⟩=some (.string ⟨c.nd.text.toArray⟩):=by
 have h0:=h.1
 rcases h.1.2 with ⟨_,hn⟩ | ⟨g,cap,cur,rfl,hb,hg,r⟩
 ·simp at hn
 ·refine ⟨g,cap,_,?_,rfl,by simp,?_⟩
  ·unfold World.frozen?;rw [hg]; simp
  ·have hc:(cs++[c]++k8)[cs.length]'(by simp)=c:=by simp
   have:=World.ownsRow.cells h0 (g:=g) rfl (cs.length * 4+3) (.string ⟨c.nd.text.toArray⟩) (ndsCells_get _ cs.length (by simp) 3 _ (by rw [hc]; rfl))
   have e:(⟨g,0,none⟩:Addr).add (cs.length * 4+3)=⟨g,cs.length * 4+3,none⟩:=by unfold Addr.add; split <;> simp_all
   rw [e] at this; exact this
theorem own_text_set {w:World} {B g N cap:Nat} {cs k8:List NdC} {c:NdC} (h:OwnN w B (.slice (some ⟨g,0,none⟩) N cap) (cs++[c]++k8)) (t:List UInt8):OwnN (w.setCell ⟨g,cs.length * 4+3,none⟩ (.string ⟨t.toArray⟩)) B (.slice (some ⟨g,0,none⟩) N cap) (cs++(setText c t :: k8)):=by
 obtain ⟨a,cap',hv⟩:=h.form;simp only [Value.slice.injEq] at hv;obtain ⟨_,hN,rfl⟩:=hv;subst hN
 have:=h.text cs.length (by simp) t
 have e:(cs++[c]++k8).set cs.length (setText ((cs++[c]++k8)[cs.length]'(by simp)) t)=cs++(setText c t :: k8):=by
  have hc:(cs++[c]++k8)[cs.length]'(by simp)=c:=by simp
  rw [hc,List.append_assoc,List.set_append_right _ _ (Nat.le_refl _)]
  simp
 rw [e] at this;exact this
set_option maxHeartbeats 4000000 in
set_option maxRecDepth 100000 in
theorem el_step (n:Nat) (hIn:InS n):ElS (n+1):=by
 intro b d l v cs B w hrd hown hbB hB hn hcl hdl;obtain ⟨i1,hj,hy0,hy1,hy2⟩:=info_parts infoNodeB;have HI:=hid hIn;have HO:=hid hown;have HRD:=hid hrd;have hE:=elemC.eq_2 d l n;generalize elemC (n+1) d l=R at hE ⊢;clear hIn
 cases h0:preX [60] l with
 | false =>
  have KM:=hid (must_bad b l [60] v w hrd (by omega) (by decide) h0);have HE:Hid (R=none):=show _=_ by rw [hE,if_pos h0]
  clear hE h0 hrd hown
  go_enter Tryz.func71,Tryz.ntmps71
  go_wp2_with fail
  refine (KM.out).mono ?_
  rintro e w1 ⟨rfl,hf1⟩;refine ⟨rfl,?_⟩
  rw [HE.out];exact ⟨rfl,(FrX.of hf1).none⟩
 | true =>
  have KM:=hid (must_ok b l [60] v w hrd (by omega) (by decide) h0);have hp:=pre_len h0;rw [if_neg (by rw [h0]; simp)] at hE;rw [show l.drop [(60:UInt8)].length=l.drop 1 from rfl] at KM;have hl1:(l.drop 1).length=l.length - 1:=by rw [List.length_drop]
  simp only [List.length_cons,List.length_nil] at hp;generalize l.drop 1=l1 at hE KM hl1;clear h0
  cases hu:upP endc l1 with
  | none =>
   rw [hu] at hE;have HE:Hid (R=none):=hE;have HU:=hid hu;clear hE hu hrd hown
   go_enter Tryz.func71,Tryz.ntmps71
   go_wp2_with fail
   refine (KM.out).mono ?_
   rintro e w1 ⟨rfl,hr1,hf1⟩;go_wp2_with fail
   refine (upTo_bad endc ⟨#[32,9,13,10,47,62]⟩ b l1 v w1 hr1 (by omega) (fun w'=>xend_of l1 w' (by omega)) HU.out).mono ?_
   rintro e w2 ⟨rfl,hf2⟩;refine ⟨rfl,?_⟩
   rw [HE.out];exact ⟨rfl,(FrX.of (hf1.trans hf2)).none⟩
  | some xy =>
   obtain ⟨nm,r⟩:=xy;rw [hu] at hE;simp only at hE;have HU:=hid hu;obtain ⟨c0,q0,hq0,_,hlq⟩:=up_head hu;have hql:1≤r.length:=by rw [hq0]; simp
   have KA:=hid (fun w' (h':XrAt w' b r v)=>attrs_any b r v w' h' (by omega) (r.length+1) (by omega));clear hu hq0
   cases ha:attrsC (r.length+1) [] r with
   | none =>
    rw [ha] at hE KA;simp only [AtsPost] at KA;have HE:Hid (R=none):=hE;clear hE ha hrd hown
    go_enter Tryz.func71,Tryz.ntmps71
    go_wp2_with fail
    refine (KM.out).mono ?_
    rintro e w1 ⟨rfl,hr1,hf1⟩;go_wp2_with fail
    refine (upTo_ok endc ⟨#[32,9,13,10,47,62]⟩ b l1 v w1 hr1 (by omega) (fun w'=>xend_of l1 w' (by omega)) nm r HU.out).mono ?_
    rintro e w2 ⟨rfl,hr2,hf2⟩;go_wp2_with fail
    refine (KA.out w2 hr2).mono ?_
    rintro e w3 ⟨rfl,hf3⟩;refine ⟨rfl,?_⟩
    rw [HE.out];exact ⟨rfl,(FrX.of ((hf1.trans hf2).trans hf3)).none⟩
   | some pr =>
    obtain ⟨ps,r2⟩:=pr;have hal:=attrsC_len _ _ _ _ _ ha;rw [ha] at hE KA;simp only [AtsPost] at KA;simp only at hE;have HE:=hid hE;have KC:=hid (fun w'=>xclone_list nm w' (by omega));clear hE ha hrd hown
    go_enter Tryz.func71,Tryz.ntmps71
    go_wp2_with fail
    refine (KM.out).mono ?_
    rintro e w1 ⟨rfl,hr1,hf1⟩;go_wp2_with fail
    refine (upTo_ok endc ⟨#[32,9,13,10,47,62]⟩ b l1 v w1 hr1 (by omega) (fun w'=>xend_of l1 w' (by omega)) nm r HU.out).mono ?_
    rintro e w2 ⟨rfl,hr2,hf2⟩;go_wp2_with fail
    refine (KA.out w2 hr2).mono ?_
    rintro e w3 ⟨av,rfl,hav,hr3,hf3⟩;have hfA:=(hf1.trans hf2).trans hf3;have hown3:=HO.out.fr hfA HRD.out;have hav3:=ownP_mono hav (show B≤w2.heap.size from Nat.le_trans hB (hf1.trans hf2).size);have hB3:B≤w3.heap.size:=Nat.le_trans hB hfA.size;have hfx3:FrX b v w v w3:=FrX.of hfA;obtain ⟨po,pc,rfl⟩:=xownP_form hav3;obtain ⟨vo,vc,rfl⟩:=hown3.form;obtain ⟨c0,c1,f0,f1⟩:=RowIs.rc2 hr3;have hap:(Value.slice vo cs.length vc).ownBlock ≠ some b:=row_apart hr3 hown3.1 (by decide);obtain ⟨N1,hN1⟩:∃ N1,(cs++[(⟨⟨d,nm,ps,[]⟩,.slice po ps.length pc⟩:NdC)]).length=N1:=⟨_,rfl⟩
    have HN1:=hid hN1;have HR3:=hid hr3;have HO3:=hid hown3;have HP3:=hid hav3;have HF3:=hid hfx3;clear hf1 hf2 hf3 hfA hr1 hr2 hav KM KA HU HO HRD hN1 hr3 hown3 hav3 hfx3;have hcl2:cs.length≤2000000:=by omega
    go_upto_region 4 with fail
    go_cut [32] from 19 to 32 (fun s32 wx=>∃ v5,Hid (OwnN wx B v5 (cs++[⟨⟨d,nm,ps,[]⟩,.slice po ps.length pc⟩]))∧Hid (XrAt wx b r2 v5)∧Hid (FrX b (.slice vo cs.length vc) w v5 wx))
    case first =>
     have hnewN:=hid (fun (W:World) (g:Nat) (hg:g=W.heap.size)=>xnd_new W ⟨⟨d,nm,ps,[]⟩,.slice po ps.length pc⟩ g hg)
     go_region_law (first
      | (go_simp; go_at_call 37; refine (KC.out _).mono ?_; rintro e w4 ⟨rfl,hw4⟩; replace hw4:=(show Below w3.heap.size w3 w4 from (Below.refl w3.heap.size w3).drew.trans hw4); have hr4:=HR3.out.below hw4; have hown4:=HO3.out.below hw4; have hav4:=HP3.out.below hw4; obtain ⟨e0,e1,k0,k1⟩:=RowIs.rc2 hr4; have ea:=fun o=>cell_below ((Below.refl w4.heap.size w4).alloc (Nat.le_refl _) o) hr4.lt e1; have hB4:=Nat.le_trans hB3 hw4.size)
      | (refine step_appN rfl (.tmp 23) (.tmp 29) 40 rfl B i1 _ Tryz.underlying40 hj hy0 hy1 hy2 rfl _ cs rfl (by exact hown4.alloc _) ⟨_,0,none⟩ 1 ⟨⟨d,nm,ps,[]⟩,.slice po ps.length pc⟩ (by exact OwnP.alloc hav4 _) rfl (by exact hnewN.out _ _ rfl) hcl2 (by simp; omega) ?_; intro v5 w5 hown5 hf5; have hr5:=hf5.rd (hr4.below ((Below.refl w4.heap.size w4).alloc (Nat.le_refl _) _)) hap; obtain ⟨d0,d1,g0,g1⟩:=RowIs.rc2 hr5; obtain ⟨xa,xc,e5⟩:=hown5.form; rw [HN1.out] at e5; subst e5))
     all_goals
      (have hown6:=hown5.put (j:=1) (x:=.slice xa N1 xc) hr5
       have hr6:=hr5.nodes (.slice xa N1 xc);have hfx6:=(((HF3.out.trans (FrX.of (FrR.below hw4))).trans (FrX.of (FrR.below ((Below.refl w4.heap.size w4).alloc (Nat.le_refl _) _)))).trans (FrX.ofN hf5)).put (u:=.slice xa N1 xc) 1;go_wp2_with fail
       go_meet
       case rel=>exact ⟨.slice xa N1 xc,hid hown6,hid hr6,hid hfx6⟩)
    case rest =>
     obtain ⟨v5,HO5,HR5,HF5⟩:=hcut;clear HF3 HP3 HO3 HR3 c0 c1 f0 f1 KC;have hB5:B≤wc.heap.size:=Nat.le_trans hB HF5.out.size;have KT:=hid (took_any b r2 [47,62] v5 wc HR5.out (by omega) (by decide))
     cases h4:preX [47,62] r2 with
     | true =>
      have HE2:Hid (R=some ([⟨d,nm,ps,[]⟩],r2.drop 2)):=show _=_ by rw [HE.out,if_pos h4]
      rw [h4,show tookL [47,62] r2=r2.drop 2 by unfold tookL; rw [if_pos h4]; rfl] at KT;clear HE h4;go_wp2_with fail
      refine (KT.out).mono ?_
      rintro e w6 ⟨rfl,hr6,hf6⟩;have hown6:=HO5.out.fr hf6 HR5.out;go_wp2
      first | go_end0 | refine bodyPost_ret (results_none rfl _ _ _) rfl ?_
      rw [HE2.out];exact ⟨v5,[⟨⟨d,nm,ps,[]⟩,.slice po ps.length pc⟩],rfl,rfl,hown6,hr6,HF5.out.trans (FrX.of hf6)⟩
     | false =>
      have hE3:=HE.out;rw [if_neg (by rw [h4]; simp)] at hE3;rw [h4,show tookL [47,62] r2=r2 by unfold tookL; rw [if_neg (by rw [h4]; simp)]] at KT;clear HE h4
      cases h6:preX [62] r2 with
      | false =>
       have HE2:Hid (R=none):=show _=_ by rw [hE3,if_pos h6]
       have H6:=hid h6;clear hE3 h6;go_wp2_with fail
       refine (KT.out).mono ?_
       rintro e w6 ⟨rfl,hr6,hf6⟩;go_wp2_with fail
       refine (must_bad b r2 [62] v5 w6 hr6 (by omega) (by decide) H6.out).mono ?_
       rintro e w7 ⟨rfl,hf7⟩;refine ⟨rfl,?_⟩
       rw [HE2.out];exact ⟨rfl,(HF5.out.trans (FrX.of (hf6.trans hf7))).none⟩
      | true =>
       rw [if_neg (by rw [h6]; simp)] at hE3;have hp2:=pre_len h6;simp only [List.length_cons,List.length_nil] at hp2;have hl3:(r2.drop 1).length=r2.length - 1:=by rw [List.length_drop]
       have hwd:IntKind.i64.wrap ((d:Int)+1)=(d:Int)+1:=by rw [IntKind.wrap_i64]; omega
       have KM6:=hid (fun w' (h':XrAt w' b r2 v5)=>must_ok b r2 [62] v5 w' h' (by omega) (by decide) h6);rw [show r2.drop [(62:UInt8)].length=r2.drop 1 from rfl] at KM6;have hA:innA n (d+1) (r2.drop 1)=(match upP (·==60) (r2.drop 1) with | none=>none | some (x,y)=>innC n (d+1) x [] y):=rfl
       have hE4:R=(match innA n (d+1) (r2.drop 1) with | none=>none | some (t,ks,r3)=>(closeC nm r3).map fun r4=>(⟨d,nm,ps,t⟩ :: ks,r4)):=by
        rw [hE3,hA]
        cases upP (·==60) (r2.drop 1) with
        | none=>rfl
        | some xy=>rfl
       clear hE3 hA h6;have KI:=hid (fun w' (h':XrAt w' b (r2.drop 1) v5) (ho':OwnN w' B v5 (cs++[⟨⟨d,nm,ps,[]⟩,.slice po ps.length pc⟩])) (hB':B≤w'.heap.size)=>HI.out b (d+1) (r2.drop 1) v5 _ B w' h' ho' hbB hB' (by omega) (by rw [List.length_append,List.length_cons,List.length_nil]; omega) (by omega));rw [show ((d+1:Nat):Int)=(d:Int)+1 by omega] at KI
       have hil:∀ t ks r3,innA n (d+1) (r2.drop 1)=some (t,ks,r3) → r3.length≤r2.length:=fun t ks r3 h=>by
        unfold innA at h
        cases hu2:upP (·==60) (r2.drop 1) with
        | none=>rw [hu2] at h; cases h
        | some xy =>
         obtain ⟨x,y⟩:=xy;rw [hu2] at h;obtain ⟨_,_,_,_,hh⟩:=up_head hu2
         have:=innC_len _ _ _ _ _ _ _ _ h
         omega
       have HIL:=hid hil;clear hil;generalize innA n (d+1) (r2.drop 1)=IA at hE4 KI HIL;generalize r2.drop 1=r3' at KM6 KI hl3
       cases IA with
       | none =>
        have HE2:Hid (R=none):=hE4;clear hE4;simp only [InP] at KI;go_wp2_with fail
        refine (KT.out).mono ?_
        rintro e w6 ⟨rfl,hr6,hf6⟩;go_wp2_with fail
        refine (KM6.out w6 hr6).mono ?_
        rintro e w7 ⟨rfl,hr7,hf7⟩;have hown7:=(HO5.out.fr hf6 HR5.out).fr hf7 hr6;have hB7:B≤w7.heap.size:=Nat.le_trans hB5 (hf6.trans hf7).size;go_wp2_with fail
        refine (KI.out w7 hr7 hown7 hB7).mono ?_
        rintro e w8 ⟨rfl,hf8⟩;refine ⟨rfl,?_⟩
        rw [HE2.out];exact ⟨rfl,(HF5.out.trans (FrX.of (hf6.trans hf7))).trans hf8⟩
       | some tkr =>
        obtain ⟨t,ks,r3⟩:=tkr;simp only [InP] at KI;simp only at hE4;have hr3l:=HIL.out t ks r3 rfl;have HE4:=hid hE4;clear hE4 HIL;go_wp2_with fail
        refine (KT.out).mono ?_
        rintro e w6 ⟨rfl,hr6,hf6⟩;go_wp2_with fail
        refine (KM6.out w6 hr6).mono ?_
        rintro e w7 ⟨rfl,hr7,hf7⟩;have hown7:=(HO5.out.fr hf6 HR5.out).fr hf7 hr6;have hB7:B≤w7.heap.size:=Nat.le_trans hB5 (hf6.trans hf7).size;have hfx7:=HF5.out.trans (FrX.of (hf6.trans hf7));go_wp2_with fail
        refine (KI.out w7 hr7 hown7 hB7).mono ?_
        rintro e w8 ⟨v8,k8,rfl,hk8,hown8,hr8,hf8⟩;have hfx8:=hfx7.trans hf8;obtain ⟨g,cap,N8,fz8,hv8,hN8,hat8⟩:=own_text hown8;subst hv8;have hgb:g ≠ b:=fun e=>row_apart hr8 hown8.1 (by decide) (by rw [e]; rfl);obtain ⟨c0,c1,f0,f1⟩:=RowIs.rc2 hr8;have hlt8:(cs.length:Int) < (N8:Int):=by omega
        have hown9:=own_text_set hown8 t
        have hr9:XrAt (w8.setCell ⟨g,cs.length * 4+3,none⟩ (.string ⟨t.toArray⟩)) b r3 (.slice (some ⟨g,0,none⟩) N8 cap):=by
         unfold XrAt RowIs;rw [heap_setCell_other _ _ _ _ (Ne.symm hgb)]; exact hr8
        have hfx9:FrX b (.slice vo cs.length vc) w (.slice (some ⟨g,0,none⟩) N8 cap) (w8.setCell ⟨g,cs.length * 4+3,none⟩ (.string ⟨t.toArray⟩)):=hfx8.set rfl;have HO9:=hid hown9;have HR9:=hid hr9;have HF9:=hid hfx9;have HK8:=hid hk8;clear hown8 hfx8 hf8 hown7 hfx7 hr6 hf6 hr7 hf7 KT KM6 KI HO5 HR5 HF5 hr9 hfx9 hown9 hk8 hN8;have hCl:closeC nm r3=if preX [60,47] r3=false then none else if preX nm (r3.drop 2)=false then none else if preX [62] (((r3.drop 2).drop nm.length).dropWhile xblk)=false then none else some ((((r3.drop 2).drop nm.length).dropWhile xblk).drop 1):=rfl
        cases k1:preX [60,47] r3 with
        | false =>
         have HE2:Hid (R=none):=show _=_ by rw [HE4.out,hCl,if_pos k1]; rfl
         have KB:=hid (fun w' (h':XrAt w' b r3 (.slice (some ⟨g,0,none⟩) N8 cap))=>must_bad b r3 [60,47] _ w' h' (by omega) (by decide) k1);clear HE4 hCl k1;go_wp2_with fail
         generalize w8.setCell _ _=w9 at HO9 HR9 HF9 ⊢;refine (KB.out _ HR9.out).mono ?_
         rintro e w10 ⟨rfl,hf10⟩;refine ⟨rfl,?_⟩
         rw [HE2.out];exact ⟨rfl,(HF9.out.trans (FrX.of hf10)).none⟩
        | true =>
         rw [if_neg (by rw [k1]; simp)] at hCl;have KB:=hid (fun w' (h':XrAt w' b r3 (.slice (some ⟨g,0,none⟩) N8 cap))=>must_ok b r3 [60,47] _ w' h' (by omega) (by decide) k1);rw [show r3.drop [(60:UInt8),47].length=r3.drop 2 from rfl] at KB;have hl4:(r3.drop 2).length≤r3.length:=by rw [List.length_drop]; omega
         generalize r3.drop 2=r4 at hCl KB hl4;clear k1
         cases k2:preX nm r4 with
         | false =>
          have HE2:Hid (R=none):=show _=_ by rw [HE4.out,hCl,if_pos k2]; rfl
          have KB2:=hid (fun w' (h':XrAt w' b r4 (.slice (some ⟨g,0,none⟩) N8 cap))=>must_bad b r4 nm _ w' h' (by omega) (by omega) k2);clear HE4 hCl k2;go_wp2_with fail
          generalize w8.setCell _ _=w9 at HO9 HR9 HF9 ⊢;refine (KB.out _ HR9.out).mono ?_
          rintro e w10 ⟨rfl,hr10,hf10⟩;go_wp2_with fail
          refine (KB2.out _ hr10).mono ?_
          rintro e w11 ⟨rfl,hf11⟩;refine ⟨rfl,?_⟩
          rw [HE2.out];exact ⟨rfl,(HF9.out.trans (FrX.of (hf10.trans hf11))).none⟩
         | true =>
          rw [if_neg (by rw [k2]; simp)] at hCl;have KB2:=hid (fun w' (h':XrAt w' b r4 (.slice (some ⟨g,0,none⟩) N8 cap))=>must_ok b r4 nm _ w' h' (by omega) (by omega) k2);have hl5:(r4.drop nm.length).length≤r4.length:=by rw [List.length_drop]; omega
          generalize r4.drop nm.length=r5 at hCl KB2 hl5;clear k2;have KB3:=hid (fun w' (h':XrAt w' b r5 (.slice (some ⟨g,0,none⟩) N8 cap))=>skip_any b r5 _ w' h' (by omega));have hl6:=dw_len xblk r5;generalize r5.dropWhile xblk=r6 at hCl KB3 hl6
          cases k3:preX [62] r6 with
          | false =>
           have HE2:Hid (R=none):=show _=_ by rw [HE4.out,hCl,if_pos k3]; rfl
           have KB4:=hid (fun w' (h':XrAt w' b r6 (.slice (some ⟨g,0,none⟩) N8 cap))=>must_bad b r6 [62] _ w' h' (by omega) (by decide) k3);clear HE4 hCl k3;go_wp2_with fail
           generalize w8.setCell _ _=w9 at HO9 HR9 HF9 ⊢;refine (KB.out _ HR9.out).mono ?_
           rintro e w10 ⟨rfl,hr10,hf10⟩;go_wp2_with fail
           refine (KB2.out _ hr10).mono ?_
           rintro e w11 ⟨rfl,hr11,hf11⟩;go_wp2_with fail
           refine (KB3.out _ hr11).mono ?_
           rintro e w12 ⟨rfl,hr12,hf12⟩;go_wp2_with fail
           refine (KB4.out _ hr12).mono ?_
           rintro e w13 ⟨rfl,hf13⟩;refine ⟨rfl,?_⟩
           rw [HE2.out];exact ⟨rfl,(HF9.out.trans (FrX.of (((hf10.trans hf11).trans hf12).trans hf13))).none⟩
          | true =>
           rw [if_neg (by rw [k3]; simp)] at hCl;have HE2:Hid (R=some (⟨d,nm,ps,t⟩ :: ks,r6.drop 1)):=show _=_ by rw [HE4.out,hCl]; rfl
           have KB4:=hid (fun w' (h':XrAt w' b r6 (.slice (some ⟨g,0,none⟩) N8 cap))=>must_ok b r6 [62] _ w' h' (by omega) (by decide) k3);rw [show r6.drop [(62:UInt8)].length=r6.drop 1 from rfl] at KB4;clear HE4 hCl k3;go_wp2_with fail
           generalize w8.setCell _ _=w9 at HO9 HR9 HF9 ⊢;refine (KB.out _ HR9.out).mono ?_
           rintro e w10 ⟨rfl,hr10,hf10⟩;go_wp2_with fail
           refine (KB2.out _ hr10).mono ?_
           rintro e w11 ⟨rfl,hr11,hf11⟩;go_wp2_with fail
           refine (KB3.out _ hr11).mono ?_
           rintro e w12 ⟨rfl,hr12,hf12⟩;go_wp2_with fail
           refine (KB4.out _ hr12).mono ?_
           rintro e w13 ⟨rfl,hr13,hf13⟩;have hown13:=(((HO9.out.fr hf10 HR9.out).fr hf11 hr10).fr hf12 hr11).fr hf13 hr12;go_wp2
           first | go_end0 | refine bodyPost_ret (results_none rfl _ _ _) rfl ?_
           rw [HE2.out];exact ⟨_,setText ⟨⟨d,nm,ps,[]⟩,.slice po ps.length pc⟩ t :: k8,rfl,by rw [← HK8.out]; rfl,hown13,hr13,HF9.out.trans (FrX.of (((hf10.trans hf11).trans hf12).trans hf13))⟩
theorem el_in (n:Nat):ElS n∧InS n:=by
 induction n using Nat.strongRecOn with
 | _ n ih =>
  refine ⟨?_,inn_step n fun m hm=>(ih m hm).1⟩
  cases n with
  | zero=>intro b d l v cs B w _ _ _ _ h; omega
  | succ n=>exact el_step n (ih n (Nat.lt_succ_self _)).2
theorem el_any (n:Nat):ElS n:=(el_in n).1
theorem readG_len:∀ (n:Nat) (l r:List UInt8),readG n l=some r → r.length≤l.length
 | n,[],r,h=>by cases n <;> (rw [readG] at h; simp at h; subst h; simp)
 | 0,_ :: _,r,h=>by rw [readG] at h; cases h
 | n+1,b :: l,r,h=>by
  rw [readG] at h
  split at h
  ·split at h
   ·cases h
   ·next c k he =>
    cases hq:readG n (l.drop k) with
    | none=>rw [hq] at h; cases h
    | some q =>
     rw [hq] at h;simp only [Option.map_some,Option.some.injEq] at h
     have:=readG_len n _ _ hq
     rw [List.length_drop] at this;rw [← h];simp only [List.length_cons];omega
  ·cases hq:readG n l with
   | none=>rw [hq] at h; cases h
   | some q =>
    rw [hq] at h;simp only [Option.map_some,Option.some.injEq] at h
    have:=readG_len n _ _ hq
    rw [← h];simp only [List.length_cons];omega
theorem readX_len {l r:List UInt8} (h:readX l=some r):r.length≤l.length:=readG_len _ _ _ h
theorem attrC_small {s r:List UInt8} {p:Par} (h:attrC s=some (p,r)):p.name.length+r.length < s.length∧p.value.length+r.length < s.length:=by
 unfold attrC at h
 split at h
 ·cases h
 ·next n y hu =>
  obtain ⟨r',rfl,hl⟩:=up_eq hu
  split at h
  ·cases h
  ·next v r2 hv =>
   have h1:=valueC_len hv;have h2:=dw_len xblk r';have h3:=xbehind_len n;simp only [List.drop_succ_cons,List.drop_zero] at h1
   cases hr:readX v with
   | none=>rw [hr] at h; cases h
   | some x =>
    have h4:=readX_len hr;rw [hr] at h;simp only [Option.map_some,Option.some.injEq,Prod.mk.injEq] at h;rw [← h.2,← h.1]
    simp only
    omega
def SmAt (K:Nat) (ps:List Par) (s:List UInt8):Prop:=ps.length+s.length≤K∧∀ p ∈ ps,p.name.length≤K∧p.value.length≤K
theorem attrsC_small (K:Nat):∀ (n:Nat) (acc:List Par) (s:List UInt8) (l:List Par) (r:List UInt8),SmAt K acc s → attrsC n acc s=some (l,r) → SmAt K l r
 | 0,_,_,_,_,_,h=>by rw [attrsC] at h; cases h
 | n+1,acc,s,l,r,hk,h=>by
  rw [attrsC] at h;have hd:=dw_len xblk s
  split at h
  ·split at h
   ·cases h
   ·next p r2 ha =>
    have h1:=attrC_small ha;have h2:=hk.1;refine attrsC_small K n _ _ _ _ ⟨by simp; omega,fun q hq=>?_⟩ h
    rcases List.mem_append.1 hq with hq | hq
    ·exact hk.2 q hq
    ·simp at hq; subst hq; omega
  ·simp only [Option.some.injEq,Prod.mk.injEq] at h;obtain ⟨rfl,rfl⟩:=h;exact ⟨by have:=hk.1; omega,hk.2⟩
def SmNd (K:Nat) (x:Nd):Prop:=x.name.length≤K∧x.text.length≤K∧x.attrs.length≤K∧(∀ p ∈ x.attrs,p.name.length≤K∧p.value.length≤K)∧0≤x.deep∧x.deep≤K
end Go.Proofs.YtdbalahkmeknaaaGreatDoor
