/-
  AddrStepL, AddrKit, ViaStepL, ReplyL, Awake10L, FMsg, OpenMsg, Awake10P, OpenReq.
-/
import Derived.Test.YtiogedceommcoaaGreatDoorK17
import Derived.Laws.Rows
set_option linter.unusedVariables false
set_option linter.unusedSimpArgs false
set_option maxRecDepth 20000
namespace Go.Proofs.YtiogedceommcoaaGreatDoor
open Go.RowKit Sc
theorem fields_on {qs:List (List UInt8)} {out:List Par} {k:Nat} {p:Par} (hk:k < qs.length) (h:fieldsG [] qs=fieldsG out (qs.drop k)) (hp:fieldOf qs[k]=some p) (hm:mayB out p=true):fieldsG [] qs=fieldsG (out++[p]) (qs.drop (k+1)):=by
 rw [h,List.drop_eq_getElem_cons hk,fieldsG,hp]; simp only [hm,if_true]
theorem fields_none {qs:List (List UInt8)} {out:List Par} {k:Nat} (hk:k < qs.length) (h:fieldsG [] qs=fieldsG out (qs.drop k)) (hp:fieldOf qs[k]=none):fieldsG [] qs=none:=by
 rw [h,List.drop_eq_getElem_cons hk,fieldsG,hp]
theorem fields_not {qs:List (List UInt8)} {out:List Par} {k:Nat} {p:Par} (hk:k < qs.length) (h:fieldsG [] qs=fieldsG out (qs.drop k)) (hp:fieldOf qs[k]=some p) (hm:mayB out p=false):fieldsG [] qs=none:=by
 rw [h,List.drop_eq_getElem_cons hk,fieldsG,hp]; simp [hm]
theorem fieldsV_bad {qs:List (List UInt8)} (hl:qs.length≤16) (h:fieldsG [] qs=none):fieldsV qs=([],34):=by rw [fieldsV,if_neg (by omega),h]
theorem fieldsV_ok {qs:List (List UInt8)} {ps:List Par} (hl:qs.length≤16) (h:fieldsG [] qs=some ps):fieldsV qs=(ps,0):=by rw [fieldsV,if_neg (by omega),h]
theorem fieldsV_many {qs:List (List UInt8)} (hl:16 < qs.length):fieldsV qs=([],4):=by rw [fieldsV,if_pos hl]
theorem words_blank1 {b:UInt8} {r:List UInt8} (hb:blk b=true):wordsG [] (b :: r)=wordsG [] r:=by rw [wordsG,if_pos hb,if_pos rfl]
theorem words_blank2 {b:UInt8} {r cur:List UInt8} (hb:blk b=true) (hc:cur ≠ []):wordsG cur (b :: r)=cur :: wordsG [] r:=by rw [wordsG,if_pos hb,if_neg hc]
theorem words_sign {b:UInt8} {r cur:List UInt8} (hb:blk b=false):wordsG cur (b :: r)=wordsG (cur++[b]) r:=by rw [wordsG,if_neg (by rw [hb]; simp)]
theorem open_esc {b:UInt8} {r:List UInt8} (hb:b=92):openV true (b :: r)=(openV true (r.drop 1)).map (·+2):=by
 subst hb
 cases r with
 | nil=>rfl
 | cons c r=>rw [openV_cons (by simp),if_pos rfl]; rfl
theorem open_q2 {b:UInt8} {r:List UInt8} (hb:b=34):openV true (b :: r)=(openV false r).map (·+1):=by
 subst hb
 cases r with
 | nil=>rfl
 | cons c r=>rw [openV_cons (by simp),if_neg (by decide),if_pos rfl]
theorem open_in {b:UInt8} {r:List UInt8} (h1:b ≠ 92) (h2:b ≠ 34):openV true (b :: r)=(openV true r).map (·+1):=by
 cases r with
 | nil=>rfl
 | cons c r=>rw [openV_cons (by simp),if_neg h1,if_neg h2]
theorem open_hit {r:List UInt8}:openV false (60 :: r)=some 0:=by rw [openV,if_pos rfl]
theorem open_q1 {r:List UInt8}:openV false (34 :: r)=(openV true r).map (·+1):=by rw [openV,if_neg (by decide),if_pos rfl]
theorem open_out {b:UInt8} {r:List UInt8} (h1:b ≠ 60) (h2:b ≠ 34):openV false (b :: r)=(openV false r).map (·+1):=by rw [openV,if_neg h1,if_neg h2]
theorem openV_lt:∀ (n:Nat) (l:List UInt8) (q:Bool) (k:Nat),l.length≤n → openV q l=some k → k < l.length∧l[k]? = some 60
 | 0,l,q,k,hl,h=>by
  obtain rfl:=List.eq_nil_of_length_eq_zero (Nat.le_zero.1 hl)
  cases q <;> simp [openV] at h
 | n+1,[],q,k,hl,h=>by cases q <;> simp [openV] at h
 | n+1,b :: r,q,k,hl,h=>by
  simp only [List.length_cons] at hl
  cases q with
  | false =>
   by_cases h1:b=60
   ·subst h1; rw [open_hit] at h; simp at h; subst h; simp
   ·by_cases h2:b=34
    ·subst h2; rw [open_q1] at h
     simp only [Option.map_eq_some_iff] at h;obtain ⟨x,hx,rfl⟩:=h
     have:=openV_lt n r true x (by omega) hx
     simp; exact this
    ·rw [open_out h1 h2] at h;simp only [Option.map_eq_some_iff] at h;obtain ⟨x,hx,rfl⟩:=h
     have:=openV_lt n r false x (by omega) hx
     simp; exact this
  | true =>
   by_cases h1:b=92
   ·rw [open_esc h1] at h;simp only [Option.map_eq_some_iff] at h;obtain ⟨x,hx,rfl⟩:=h
    have:=openV_lt n (r.drop 1) true x (by simp; omega) hx
    rw [List.getElem?_drop] at this;simp only [List.length_drop] at this;refine ⟨by simp; omega,?_⟩
    rw [List.getElem?_cons_succ,← this.2]; congr 1; omega
   ·by_cases h2:b=34
    ·rw [open_q2 h2] at h;simp only [Option.map_eq_some_iff] at h;obtain ⟨x,hx,rfl⟩:=h
     have:=openV_lt n r false x (by omega) hx
     simp; exact this
    ·rw [open_in h1 h2] at h;simp only [Option.map_eq_some_iff] at h;obtain ⟨x,hx,rfl⟩:=h
     have:=openV_lt n r true x (by omega) hx
     simp; exact this
theorem quote_list (l:List UInt8) (w:World) (h:l.length≤1048576) :
  Calls Tryz.prog 205 #[.string ⟨l.toArray⟩] w fun e w'=>e=.returned (.tuple #[.string ⟨(quoteV l).1.toArray⟩,.int .i64 (quoteV l).2])∧Below w.heap.size w w':=quote_any ⟨l.toArray⟩ w (by rw [size_list]; omega)
theorem unquote_list (l:List UInt8) (w:World) (h:l.length≤140737488355328) :
  Calls Tryz.prog 184 #[.string ⟨l.toArray⟩] w fun e w'=>e=.returned (.tuple #[.string ⟨(unquoteV l).1.toArray⟩,.int .i64 (unquoteV l).2])∧Below w.heap.size w w':=unquote_any ⟨l.toArray⟩ w (by rw [size_list]; exact h)
theorem startsB_quo (l:List UInt8):startsB 34 l=quoB l:=by
 unfold startsB quoB
 cases l with
 | nil=>decide
 | cons b r=>simp
theorem strPrefix_l (l:List UInt8) (w:World) :
  Calls Tryz.prog 111 #[.string ⟨l.toArray⟩,.string ⟨#[34]⟩] w fun e w'=>e=.returned (.bool (quoB l))∧w'=w:=by
 have h:=strPrefix_any ⟨l.toArray⟩ 34 w (by decide);have e:startsB 34 (⟨l.toArray⟩:ByteArray).data.toList=quoB l:=startsB_quo l;rw [e] at h; exact h
theorem partsG_cons (sep:Int):∀ (l:List UInt8) (p:Pl) (cur:List UInt8),∃ p0 ps,partsG sep p cur l=p0 :: ps
 | [],p,cur=>⟨_,_,rfl⟩
 | b :: r,p,cur=>by
  rw [partsG]
  split
  ·exact ⟨_,_,rfl⟩
  ·exact partsG_cons sep r _ _
theorem own_row {w:World} {B:Nat} {v:Value} {p0:List UInt8} {ps:List (List UInt8)} (hown2:Own w B 9 v (strs (p0 :: ps))) :
  ∃ g cap,v=.slice (some ⟨g,0,none⟩) (ps.length+1) cap∧ps.length+1≤cap∧g < w.heap.size∧(∀ j (hj:j < (p0 :: ps).length),w.cell? ⟨g,j,none⟩=some (.string ⟨((p0 :: ps)[j]).toArray⟩)):=by
 obtain ⟨g,cap,rfl,hc⟩:=own_strs hown2 (by simp);have hcap:ps.length+1≤cap∧g < w.heap.size:=by
  rcases hown2.2 with ⟨e,_⟩ | ⟨g',cap',cur,e,hB,hg,h1,h2,h3,h4⟩
  ·simp at e
  ·simp only [Value.slice.injEq,Option.some.injEq,Addr.mk.injEq] at e;obtain ⟨⟨rfl,_⟩,_,rfl⟩:=e;rw [strs_length] at h1;refine ⟨h1,?_⟩
   apply Classical.byContradiction
   intro hge;rw [Array.getElem?_eq_none (by omega)] at hg
   cases hg
 exact ⟨g,cap,rfl,hcap.1,hcap.2,hc⟩
theorem parts_of {l p0:List UInt8} {ps:List (List UInt8)} {c:Int} (h:partsV c l=p0 :: ps) (w:World) (hs:l.length≤1048576) :
  Calls Tryz.prog 109 #[.string ⟨l.toArray⟩,.int .u8 c] w fun e w'=>∃ g cap,e=.returned (.slice (some ⟨g,0,none⟩) (ps.length+1) cap)∧ps.length+1≤cap∧g < w'.heap.size∧(∀ j (hj:j < (p0 :: ps).length),w'.cell? ⟨g,j,none⟩=some (.string ⟨((p0 :: ps)[j]).toArray⟩))∧Below w.heap.size w w':=by
 have k:=parts_any ⟨l.toArray⟩ c w (by rw [size_list]; omega);refine k.mono ?_
 rintro e w' ⟨v,rfl,hown,hb⟩;have hown2:Own w' (w.heap.size+1) 9 v (strs (p0 :: ps)):=by rw [← h]; exact hown
 obtain ⟨g,cap,rfl,h1,h2,h3⟩:=own_row hown2;exact ⟨g,cap,rfl,h1,h2,h3,hb⟩
theorem blk_two:∀ b:UInt8,blk b=true → b=32∨b=9:=by apply byte_all; decide +kernel
theorem trimL_blk {b:UInt8} (h:blk b=true) (l:List UInt8):trimL (b :: l)=trimL l:=by unfold trimL; rw [List.dropWhile_cons,h]; rfl
theorem partsG_cur (sep:Int) (c:List UInt8):∀ (l:List UInt8) (p:Pl) (cur:List UInt8),∃ x xs,partsG sep p cur l=x :: xs∧partsG sep p (c++cur) l=(c++x) :: xs
 | [],p,cur=>⟨cur,[],rfl,rfl⟩
 | b :: r,p,cur=>by
  rw [partsG,partsG]
  split
  ·exact ⟨cur,_,rfl,rfl⟩
  ·obtain ⟨x,xs,h1,h2⟩:=partsG_cur sep c r (pst p b.toNat).1 (cur++[b]);exact ⟨x,xs,h1,by rw [List.append_assoc]; exact h2⟩
theorem parts_blk {b:UInt8} (h:blk b=true) (r:List UInt8):∃ x xs,partsV 59 r=x :: xs∧partsV 59 (b :: r)=(b :: x) :: xs:=by
 obtain ⟨x,xs,h1,h2⟩:=partsG_cur 59 [b] r pl0 [];refine ⟨x,xs,h1,?_⟩
 unfold partsV;rw [partsG];have hb:(pst pl0 (b.toNat:Int)).1=pl0∧¬ ((b.toNat:Int)=59):=by
  rcases blk_two b h with rfl | rfl
  ·exact ⟨by simp [pst,pl0],by decide⟩
  ·exact ⟨by simp [pst,pl0],by decide⟩
 rw [if_neg (fun k=>hb.2 k.2),hb.1];exact h2
theorem restH_of {q p0:List UInt8} {ps:List (List UInt8)} (h:partsV 59 q=p0 :: ps):restH q=if (whereV (trimL p0)).2.2 ≠ 0 then (noH,(whereV (trimL p0)).2.2) else if (fieldsV ps).2 ≠ 0 then (noH,(fieldsV ps).2) else (⟨(whereV (trimL p0)).1,(whereV (trimL p0)).2.1,(fieldsV ps).1⟩,0):=by
 unfold restH;rw [h]
 rfl
theorem restH_blk {b:UInt8} (h:blk b=true) (r:List UInt8):restH (b :: r)=restH r:=by
 obtain ⟨x,xs,h1,h2⟩:=parts_blk h r;rw [restH_of h1,restH_of h2,trimL_blk h]
def behV (t:List UInt8):List UInt8 × Bool:=if wordN t=t.length∨sameB (t.take (wordN t)) protoK=false then ([],false) else (t.drop (wordN t+1),true)
theorem behV_none {t:List UInt8} (h:wordN t=t.length):behV t=([],false):=by rw [behV,if_pos (Or.inl h)]
theorem behV_other {t:List UInt8} (h:sameB (t.take (wordN t)) protoK=false):behV t=([],false):=by rw [behV,if_pos (Or.inr h)]
theorem behV_yes {t:List UInt8} (h:wordN t ≠ t.length) (h2:sameB (t.take (wordN t)) protoK=true):behV t=(t.drop (wordN t+1),true):=by
 rw [behV,if_neg]; rintro (k | k)
 ·exact h k
 ·rw [h2] at k; cases k
theorem behV_len (t:List UInt8):(behV t).1.length≤t.length:=by
 unfold behV
 split
 ·simp
 ·simp
theorem parseH_beh (s:List UInt8):parseH s=if (behV (trimL s)).2=false then (noH,70) else restH (behV (trimL s)).1:=by
 unfold parseH behV;by_cases h:wordN (trimL s)=(trimL s).length∨sameB ((trimL s).take (wordN (trimL s))) protoK=false
 ·rw [if_pos h,if_pos h]; rfl
 ·rw [if_neg h,if_neg h];have hlt:wordN (trimL s) < (trimL s).length:=by
   have:=wordN_le (trimL s)
   have h2:¬ wordN (trimL s)=(trimL s).length:=fun k=>h (Or.inl k);omega
  obtain ⟨b,r,h1,h2,h3⟩:=wordN_at _ hlt;rw [h1,restH_blk h2,h3]; rfl
theorem parseH_none {s:List UInt8} {v:Hop} {n:Int} (h:parseH s=(v,n)) (hn:n ≠ 0):v=noH:=by
 unfold parseH at h
 split at h
 ·exact (Prod.mk.inj h).1.symm
 ·unfold restH at h
  split at h
  ·exact (Prod.mk.inj h).1.symm
  ·split at h
   ·exact (Prod.mk.inj h).1.symm
   ·exact absurd (Prod.mk.inj h).2.symm hn
def branchK:List UInt8:=[98,114,97,110,99,104]
def brOf (b:List UInt8):List UInt8 × Bool:=if b.length≤7∨b.take 7 ≠ cookieK then ([],false) else (b,true)
def brV (ps:List Par):List UInt8 × Bool:=brOf (valV ps branchK).1
theorem prefix_take (b:List UInt8):List.isPrefixOf cookieK b=decide (b.take 7=cookieK):=by
 rw [Bool.eq_iff_iff,List.isPrefixOf_iff_prefix,List.prefix_iff_eq_take,decide_eq_true_iff];exact eq_comm
theorem br_seven {b:List UInt8} (h:b.length=7):brOf b=([],false):=by rw [brOf,if_pos (Or.inl (by omega))]
theorem br_not {b:List UInt8} (h:b.take 7 ≠ cookieK):brOf b=([],false):=by rw [brOf,if_pos (Or.inr h)]
theorem br_no {b:List UInt8} (h:List.isPrefixOf cookieK b=false):brOf b=([],false):=by
 rw [prefix_take] at h;exact br_not (of_decide_eq_false h)
theorem br_yes {b:List UInt8} (h:b.length ≠ 7) (h2:List.isPrefixOf cookieK b=true):brOf b=(b,true):=by
 rw [prefix_take] at h2;have h3:=of_decide_eq_true h2;have hl:=congrArg List.length h3
 simp [cookieK] at hl
 rw [brOf,if_neg];rintro (k | k)
 ·omega
 ·exact k h3
def digI (n:Int):List UInt8:=if n < 0 then [] else digL n.toNat
theorem digI_len {n:Int} (h:n≤9223372036854775807):(digI n).length≤19:=by
 unfold digI
 split
 ·simp
 ·exact digL_len19 (by omega)
def whoH (h:Hop):List UInt8:=h.host++[58]++digI (if h.port=0 then 5060 else h.port)
theorem may_small:∀ (ps b:List Par),mayGo b ps=true → ∀ p ∈ ps,p.name.length≤140737488355328∧p.value.length≤140737488355328
 | [],b,h,p,hp=>by simp at hp
 | q :: ps,b,h,p,hp=>by
  rw [mayGo,Bool.and_eq_true] at h
  rcases List.mem_cons.1 hp with rfl | hp
  ·obtain ⟨m1,_,m3,_,_⟩:=may_facts h.1;obtain ⟨_,t2,_⟩:=tok_facts m1;omega
  ·exact may_small ps _ h.2 p hp
theorem wf_port {n:Int} (h0:0≤n) (h1:n≤65535):(Lit.int .i64 n).wf=true:=by
 simp [Lit.wf,IntKind.min,IntKind.max,IntKind.signed,IntKind.bits]
 omega
theorem smallV_ok {v:Hop} (h:checkH v=0):SmallV 140737488355328 v:=by
 obtain ⟨k1,k2,k3,k4,k5⟩:=checkH_ok h;have h1:=hostB_ok k1;exact ⟨by omega,⟨by omega,may_small _ _ k5⟩,wf_port k2 k3⟩
theorem smallV_no:SmallV 140737488355328 noH:=⟨by decide,⟨by decide,by intro p hp; simp [noH] at hp⟩,wf_port (by decide) (by decide)⟩
theorem parseH_small {s:List UInt8}:SmallV 140737488355328 (parseH s).1:=by
 cases h:parseH s with
 | mk v n =>
  by_cases hn:n=0
  ·subst hn; exact smallV_ok (parseH_checked h)
  ·rw [parseH_none h hn]; exact smallV_no
def restQ (vals:List (List UInt8)) (i:Nat):List (List UInt8):=(vals.drop i).flatMap (partsV 44)
theorem hop_next {vals:List (List UInt8)} {i:Nat} (hi:i < vals.length):restQ vals i=partsV 44 vals[i]++restQ vals (i+1):=by
 unfold restQ;rw [List.drop_eq_getElem_cons hi,List.flatMap_cons]
theorem hop_over {vals:List (List UInt8)} {i:Nat} (hi:vals.length≤i):restQ vals i=[]:=by
 unfold restQ;rw [List.drop_of_length_le hi]; rfl
theorem hop_on {F:List Hop × Int} {qs rest:List (List UInt8)} {out:List Hop} {k:Nat} {v:Hop} (hk:k < qs.length) (h:F=hopsG out (qs.drop k++rest)) (hp:parseH qs[k]=(v,0)) (hl:out.length < 16):F=hopsG (out++[v]) (qs.drop (k+1)++rest):=by
 rw [h,List.drop_eq_getElem_cons hk,List.cons_append,hopsG,hp];simp only [ne_eq,not_true,if_false];rw [if_neg (by omega)]
theorem hop_full {F:List Hop × Int} {qs rest:List (List UInt8)} {out:List Hop} {k:Nat} {v:Hop} (hk:k < qs.length) (h:F=hopsG out (qs.drop k++rest)) (hp:parseH qs[k]=(v,0)) (hl:16≤out.length):F=([],4):=by
 rw [h,List.drop_eq_getElem_cons hk,List.cons_append,hopsG,hp];simp only [ne_eq,not_true,if_false];rw [if_pos hl]
theorem hop_bad {F:List Hop × Int} {qs rest:List (List UInt8)} {out:List Hop} {k:Nat} {v:Hop} {n:Int} (hk:k < qs.length) (h:F=hopsG out (qs.drop k++rest)) (hp:parseH qs[k]=(v,n)) (hn:n ≠ 0):F=([],n):=by
 rw [h,List.drop_eq_getElem_cons hk,List.cons_append,hopsG,hp]; simp [hn]
theorem hop_done {F:List Hop × Int} {qs rest:List (List UInt8)} {out:List Hop} {k:Nat} (hk:qs.length≤k) (h:F=hopsG out (qs.drop k++rest)):F=hopsG out rest:=by
 rw [h,List.drop_of_length_le hk,List.nil_append]
theorem hopsV_is (vals:List (List UInt8)):hopsV vals=if (hopsG [] (restQ vals 0)).2 ≠ 0 then ([],(hopsG [] (restQ vals 0)).2) else if (hopsG [] (restQ vals 0)).1=[] then ([],100) else ((hopsG [] (restQ vals 0)).1,0):=rfl
structure Rq where
 method:List UInt8
 target:Uri
 branch:List UInt8
 sentBy:List UInt8
 frm:Adr
 too:Adr
 fromTag:List UInt8
 toTag:List UInt8
 callID:List UInt8
 seq:Int
 expires:Int
 event:Ev
 contact:List Adr
 routes:List (List UInt8)
 accept:List (List UInt8)
 type:List UInt8
 mtch:List UInt8
 body:List UInt8
def noR:Rq:=⟨[],noU,[],[],noA,noA,[],[],[],0,0,noE,[],[],[],[],[],[]⟩
def rViaK:List UInt8:=[86,105,97]
def fromK:List UInt8:=[70,114,111,109]
def toK:List UInt8:=[84,111]
def callK:List UInt8:=[67,97,108,108,45,73,68]
def cseqK:List UInt8:=[67,83,101,113]
def tagK:List UInt8:=[116,97,103]
def expireK:List UInt8:=[69,120,112,105,114,101,115]
def eventK:List UInt8:=[69,118,101,110,116]
def contactK:List UInt8:=[67,111,110,116,97,99,116]
def typeK:List UInt8:=[67,111,110,116,101,110,116,45,84,121,112,101]
def matchK:List UInt8:=[83,73,80,45,73,102,45,77,97,116,99,104]
def routeK:List UInt8:=[82,101,99,111,114,100,45,82,111,117,116,101]
def acceptK:List UInt8:=[65,99,99,101,112,116]
def addressV (m:Ms) (nm:List UInt8):Adr × Int:=if (oneV m nm).2=false then (noA,100) else parseA (oneV m nm).1
def tagV (a:Adr):List UInt8:=(valV a.params tagK).1
def hop0 (m:Ms):Hop:=(hopsV (allV m rViaK)).1.headD noH
def baseR (m:Ms):Rq :=
 ⟨m.method,noU,(brV (hop0 m).params).1,whoH (hop0 m),(addressV m fromK).1,(addressV m toK).1,tagV (addressV m fromK).1,tagV (addressV m toK).1,(oneV m callK).1,(seqV (oneV m cseqK).1).1,-1,noE,[],[],[],[],[],m.body⟩
def baseV (m:Ms):Rq × Int :=
 if m.method=[] then (noR,1)
 else if (hopsV (allV m rViaK)).2 ≠ 0 then (noR,(hopsV (allV m rViaK)).2)
 else if (brV (hop0 m).params).2=false then (noR,70)
 else if (addressV m fromK).2 ≠ 0 then (noR,(addressV m fromK).2)
 else if (addressV m toK).2 ≠ 0 then (noR,(addressV m toK).2)
 else if (oneV m callK).2=false∨(oneV m cseqK).2=false∨callB (oneV m callK).1=false then (noR,100)
 else if (seqV (oneV m cseqK).1).2.2 ≠ 0∨(seqV (oneV m cseqK).1).2.1 ≠ m.method then (noR,80)
 else (baseR m,0)
def piecesV (m:Ms) (nm:List UInt8):List (List UInt8):=(allV m nm).flatMap fun v=>(partsV 44 v).map trimL
def fExpV (m:Ms) (r:Rq):Rq × Int:=match allV m expireK with | []=>(r,0) | [s]=>({ r with expires:=(timeV s).1 },(timeV s).2) | _=>(r,4)
def fEvtV (m:Ms) (r:Rq):Rq × Int:=match allV m eventK with | []=>(r,0) | [s]=>({ r with event:=(eventV s).1 },(eventV s).2) | _=>(r,4)
def fConV (m:Ms) (r:Rq):Rq × Int:=match allV m contactK with | []=>(r,0) | [s]=>({ r with contact:=(listA s).1 },(listA s).2) | _=>(r,4)
def fTypV (m:Ms) (r:Rq):Rq × Int:=match allV m typeK with | []=>(r,0) | [s]=>({ r with type:=typeT s },0) | _=>(r,4)
def fMatV (m:Ms) (r:Rq):Rq × Int:=match allV m matchK with | []=>(r,0) | [s]=>({ r with mtch:=s },if tokenB s=true then 0 else 160) | _=>(r,4)
def thenV (x:Rq × Int) (f:Rq → Rq × Int):Rq × Int:=if x.2 ≠ 0 then x else f x.1
def fieldsR (m:Ms) (r:Rq):Rq × Int:=thenV (thenV (thenV (thenV (fExpV m r) (fEvtV m)) (fConV m)) (fTypV m)) (fMatV m)
def routesE:List (List UInt8) → Int
 | []=>0
 | s :: l=>if (parseA s).2 ≠ 0 then (parseA s).2 else routesE l
def rreadV (m:Ms):Rq × Int :=
 if (baseV m).2 ≠ 0 then (noR,(baseV m).2)
 else if (parseV m.target).2 ≠ 0 then (noR,(parseV m.target).2)
 else if (baseV m).1.fromTag=[] then (noR,100)
 else if (fieldsR m (baseV m).1).2 ≠ 0 then (noR,(fieldsR m (baseV m).1).2)
 else if routesE (piecesV m routeK) ≠ 0 then (noR,routesE (piecesV m routeK))
 else if 16 < (piecesV m routeK).length∨16 < (piecesV m acceptK).length then (noR,4)
 else ({ (fieldsR m (baseV m).1).1 with target:=(parseV m.target).1,routes:=piecesV m routeK,accept:=piecesV m acceptK },0)
def reasonsT:List (Int × List UInt8) :=
 [(200,[79,75]),(202,[65,99,99,101,112,116,101,100]),(400,[66,97,100,32,82,101,113,117,101,115,116]),(403,[70,111,114,98,105,100,100,101,110]),(404,[78,111,116,32,70,111,117,110,100]),
  (405,[77,101,116,104,111,100,32,78,111,116,32,65,108,108,111,119,101,100]),(406,[78,111,116,32,65,99,99,101,112,116,97,98,108,101]),
  (412,[67,111,110,100,105,116,105,111,110,97,108,32,82,101,113,117,101,115,116,32,70,97,105,108,101,100]),(415,[85,110,115,117,112,112,111,114,116,101,100,32,77,101,100,105,97,32,84,121,112,101]),
  (423,[73,110,116,101,114,118,97,108,32,84,111,111,32,66,114,105,101,102]),(481,[67,97,108,108,47,84,114,97,110,115,97,99,116,105,111,110,32,68,111,101,115,32,78,111,116,32,69,120,105,115,116]),
  (489,[66,97,100,32,69,118,101,110,116]),(500,[83,101,114,118,101,114,32,73,110,116,101,114,110,97,108,32,69,114,114,111,114]),(503,[83,101,114,118,105,99,101,32,85,110,97,118,97,105,108,97,98,108,101])]
def statusK:List UInt8:=[83,116,97,116,117,115,32]
def reasonV (n:Int):List UInt8:=match reasonsT.find? (fun x=>x.1==n) with | some x=>x.2 | none=>statusK++(if n < 0 then [] else digL n.toNat)
def toV (m:Ms) (tag:List UInt8):List UInt8:=if (baseV m).1.toTag=[]∧tag ≠ [] then (oneV m toK).1++([59]++tagK++[61]++tag) else (oneV m toK).1
def answerH (m:Ms) (tag:List UInt8) (more:List Hdr):List Hdr :=
 ((allV m rViaK).map fun v=>⟨rViaK,v⟩)++[⟨fromK,(oneV m fromK).1⟩,⟨toK,toV m tag⟩,⟨callK,(oneV m callK).1⟩,⟨cseqK,(oneV m cseqK).1⟩]++more
def answerM (m:Ms) (status:Int) (tag:List UInt8) (more:List Hdr):Ms:=⟨[],[],status,reasonV status,answerH m tag more,[]⟩
def answerV (m:Ms) (status:Int) (tag:List UInt8) (more:List Hdr):List UInt8 × Int :=
 if (baseV m).2 ≠ 0 then ([],(baseV m).2)
 else if status < 100∨699 < status∨(tag ≠ []∧tokenB tag=false) then ([],1)
 else printM (answerM m status tag more)
def plainM:Ms:=⟨[80,85,66,76,73,83,72],[115,105,112,58,97,64,98],0,[],[⟨[86,105,97],[83,73,80,47,50,46,48,47,85,68,80,32,99,59,98,114,97,110,99,104,61,122,57,104,71,52,98,75,49]⟩,⟨[70,114,111,109],[60,115,105,112,58,97,64,98,62,59,116,97,103,61,49]⟩,⟨[84,111],[60,115,105,112,58,97,64,98,62]⟩,⟨[67,97,108,108,45,73,68],[57]⟩,⟨[67,83,101,113],[49,32,80,85,66,76,73,83,72]⟩],[]⟩
def plainT:List UInt8:=[83,73,80,47,50,46,48,32,50,48,48,32,79,75,13,10,86,105,97,58,32,83,73,80,47,50,46,48,47,85,68,80,32,99,59,98,114,97,110,99,104,61,122,57,104,71,52,98,75,49,13,10,70,114,111,109,58,32,60,115,105,112,58,97,64,98,62,59,116,97,103,61,49,13,10,84,111,58,32,60,115,105,112,58,97,64,98,62,59,116,97,103,61,120,13,10,67,97,108,108,45,73,68,58,32,57,13,10,67,83,101,113,58,32,49,32,80,85,66,76,73,83,72,13,10,67,111,110,116,101,110,116,45,76,101,110,103,116,104,58,32,48,13,10,13,10]
def plainA:Ms:=⟨[],[],200,[79,75],[⟨[86,105,97],[83,73,80,47,50,46,48,47,85,68,80,32,99,59,98,114,97,110,99,104,61,122,57,104,71,52,98,75,49]⟩,⟨[70,114,111,109],[60,115,105,112,58,97,64,98,62,59,116,97,103,61,49]⟩,⟨[84,111],[60,115,105,112,58,97,64,98,62,59,116,97,103,61,120]⟩,⟨[67,97,108,108,45,73,68],[57]⟩,⟨[67,83,101,113],[49,32,80,85,66,76,73,83,72]⟩],[]⟩
theorem plain_ans:answerV plainM 200 [120] []=(plainT,0):=by decide +kernel
theorem plain_parse:parseM plainT=(plainA,0):=by decide +kernel
theorem plain_to:oneV plainA toK=([60,115,105,112,58,97,64,98,62,59,116,97,103,61,120],true):=by decide +kernel
theorem plain_read:(rreadV plainM).2=0∧(rreadV plainM).1.branch=[122,57,104,71,52,98,75,49]∧(rreadV plainM).1.fromTag=[49]:=by decide +kernel
theorem plain_reason:reasonV 489=[66,97,100,32,69,118,101,110,116]:=by decide +kernel
def hdrCells (x:Hdr):List Value:=[.string ⟨x.name.toArray⟩,.string ⟨x.value.toArray⟩]
def HdrAt (w:World) (a:Addr) (k:Nat) (x:Hdr):Prop :=
 w.cell? (a.add (k * 2))=some (.string ⟨x.name.toArray⟩)∧w.cell? ⟨(a.add (k * 2)).block,(a.add (k * 2)).off+1,none⟩=some (.string ⟨x.value.toArray⟩)
def HdrsAt (w:World) (v:Value) (hs:List Hdr):Prop :=
 (v=.slice none 0 0∧hs=[])∨∃ (a:Addr) (cap:Nat),v=.slice (some a) hs.length cap∧hs.length≤cap∧∀ k (hk:k < hs.length),a.block < w.heap.size∧HdrAt w a k hs[k]
theorem HdrAt.below {B:Nat} {w w':World} {a:Addr} {k:Nat} {x:Hdr} (h:HdrAt w a k x) (hb:Below B w w') (ha:a.block < B):HdrAt w' a k x :=
 ⟨cell_below hb (by rw [add_block]; exact ha) h.1,cell_below hb (by simp only [add_block]; exact ha) h.2⟩
theorem HdrsAt.below {w w':World} {v:Value} {hs:List Hdr} (h:HdrsAt w v hs) (hb:Below w.heap.size w w'):HdrsAt w' v hs:=by
 rcases h with h | ⟨a,cap,hv,hk,hc⟩
 ·exact Or.inl h
 ·exact Or.inr ⟨a,cap,hv,hk,fun k hk=>⟨Nat.lt_of_lt_of_le (hc k hk).1 hb.size,(hc k hk).2.below hb (hc k hk).1⟩⟩
theorem HdrsAt.form {w:World} {v:Value} {hs:List Hdr} (h:HdrsAt w v hs):∃ a cap,v=.slice a hs.length cap:=by
 rcases h with ⟨rfl,rfl⟩ | ⟨a,cap,rfl,_,_⟩
 ·exact ⟨none,0,rfl⟩
 ·exact ⟨_,cap,rfl⟩
def hdrsCells (hs:List Hdr):List Value:=hs.flatMap hdrCells
theorem hdrsCells_len (hs:List Hdr):(hdrsCells hs).length=hs.length * 2:=by
 induction hs with
 | nil=>rfl
 | cons p ps ih=>simp [hdrsCells,hdrCells] at ih ⊢; omega
theorem hdrsCells_get (hs:List Hdr) (k:Nat) (hk:k < hs.length):(hdrsCells hs)[k * 2]? = some (.string ⟨hs[k].name.toArray⟩)∧(hdrsCells hs)[k * 2+1]? = some (.string ⟨hs[k].value.toArray⟩):=by
 induction hs generalizing k with
 | nil=>simp at hk
 | cons p ps ih =>
  have e:hdrsCells (p :: ps)=hdrCells p++hdrsCells ps:=rfl
  cases k with
  | zero=>rw [e]; simp [hdrCells]
  | succ k =>
   have:=ih k (by simpa using hk)
   rw [e,show (k+1) * 2=k * 2+2 by omega]
   simpa [hdrCells] using this
def OwnH (w:World) (B:Nat) (v:Value) (hs:List Hdr):Prop:=w.ownsRow B 52 2 v hs.length (hdrsCells hs)
theorem OwnH.nil (w:World) (B:Nat):OwnH w B (.slice none 0 0) []:=World.ownsRow_nil _ _ _ _
theorem OwnH.alloc {w:World} {B:Nat} {v:Value} {hs:List Hdr} (h:OwnH w B v hs) (o:Obj):OwnH (w.alloc o) B v hs:=World.ownsRow.alloc h o
theorem OwnH.below {w w':World} {B:Nat} {v:Value} {hs:List Hdr} (h:OwnH w B v hs) (hb:Below w.heap.size w w'):OwnH w' B v hs:=by
 obtain ⟨h1,h2⟩:=h;refine ⟨h1,?_⟩
 rcases h2 with h2 | ⟨g,cap,cur,hv,hg,hh,r⟩
 ·exact Or.inl h2
 ·exact Or.inr ⟨g,cap,cur,hv,hg,by rw [hb.block g (Array.getElem?_eq_some_iff.1 hh).1]; exact hh,r⟩
theorem OwnH.mono {w:World} {B C:Nat} {v:Value} {hs:List Hdr} (h:OwnH w B v hs) (hc:C≤B):OwnH w C v hs:=by
 obtain ⟨h1,h2⟩:=h;refine ⟨h1,?_⟩
 rcases h2 with h2 | ⟨g,cap,cur,hv,hg,r⟩
 ·exact Or.inl h2
 ·exact Or.inr ⟨g,cap,cur,hv,Nat.le_trans hc hg,r⟩
theorem OwnH.hdrsAt {w:World} {B:Nat} {v:Value} {hs:List Hdr} (h:OwnH w B v hs):HdrsAt w v hs:=by
 have h0:=h
 rcases h.2 with ⟨rfl,hn⟩ | ⟨g,cap,cur,rfl,hb,hg,hnc,r⟩
 ·exact Or.inl ⟨rfl,List.eq_nil_of_length_eq_zero hn⟩
 ·refine Or.inr ⟨⟨g,0,none⟩,cap,rfl,hnc,fun k hk=>⟨(Array.getElem?_eq_some_iff.1 hg).1,?_⟩⟩
  obtain ⟨c0,c1⟩:=hdrsCells_get hs k hk;have a0:=World.ownsRow.cells h0 (g:=g) rfl (k * 2) _ c0;have a1:=World.ownsRow.cells h0 (g:=g) rfl (k * 2+1) _ c1;have e:∀ j,(⟨g,0,none⟩:Addr).add j=⟨g,j,none⟩:=fun j=>by unfold Addr.add; split <;> simp_all
  rw [e] at a0 a1;unfold HdrAt;rw [e];exact ⟨a0,a1⟩
theorem infoHdr:(Tryz.prog.info? 52).map (fun i=>(i.zero,i.size,i.bytes))=some (some (.agg #[.string .empty,.string .empty]),2,32):=by kernel_rfl
theorem new_hdr (w4:World) (x:Hdr) (t:TypeId):∀ (j:Nat) (u:Value),(hdrCells x)[j]? = some u → (w4.alloc (.cells #[.string ⟨x.name.toArray⟩,.string ⟨x.value.toArray⟩] t)).cell? ((⟨w4.heap.size,0,none⟩:Addr).add j)=some u:=by
 intro j u hj;have e:(⟨w4.heap.size,0,none⟩:Addr).add j=⟨w4.heap.size,j,none⟩:=by unfold Addr.add; split <;> simp_all
 rw [e];unfold World.cell?;rw [heap_alloc_new]
 simpa [hdrCells] using hj
theorem wp_appH {P:Program} (w:World) {ops:Array Oper} {rest:List Oper} {o:Oper} {a:Act} {Q:Exit → Act → World → Prop} (hgd:o.guard=none)
  (s x:Operand) (t:TypeId) (ho:o.op=Op.call { callee:=Callee.builtin Builtin.append,args:=#[s,x],argTypes:=#[t,t] }) (B:Nat) (i:TypeInfo)
  (z:Value) (ht:P.underlying t=some (TypeDesc.slice 52)) (hi:P.info? 52=some i) (hz:i.zero=some z) (hsize:i.size=2) (hby:i.bytes=32) (hzs:z.cells.size=2)
  (v:Value) (hs:List Hdr) (hsv:a.eval s=v) (hown:OwnH w B v hs) (ad:Addr) (c:Nat) (p:Hdr) (hx:a.eval x=Value.slice (some ad) 1 c)
  (hnews:∀ (j:Nat) (u:Value),(hdrCells p)[j]? = some u → w.cell? (ad.add j)=some u)
  (hlen:hs.length≤2000000) (w0:World) (hb:Below B w0 w) (hB:B≤w.heap.size)
  (h:∀ (v':Value) (w':World),OwnH w' B v' (hs++[p]) → Below B w0 w' → w.grownBy w' v.ownBlock → B≤w'.heap.size → wpList P ops Q rest (a.put o.dst v') w'):wpList P ops Q (o :: rest) a w:=by
 refine wpList_append_own w hgd s x t ho B 52 i z 2 32 ht hi hz hsize hby hzs (by decide) v hs.length (hdrsCells hs) hsv hown ad 1 c (hdrCells p) hx rfl hnews (by intro u hu; simp [hdrCells] at hu; rcases hu with rfl | rfl <;> rfl) (by unfold maxLen; omega) (by omega) hB ?_
 intro v' w' hown' hgr _;refine h v' w' ?_ (hb.grown hgr hB (fun k hk=>(World.ownsRow.lt hown k hk).1)) hgr (Nat.le_trans hB hgr.size)
 unfold OwnH;have e:hdrsCells (hs++[p])=hdrsCells hs++hdrCells p:=by simp [hdrsCells]
 rw [e,List.length_append];exact hown'
def msgV (m:Ms) (h:Value):Value:=.agg #[.string ⟨m.method.toArray⟩,.string ⟨m.target.toArray⟩,.int .i64 m.status,.string ⟨m.reason.toArray⟩,h,.string ⟨m.body.toArray⟩]
def objM (m:Ms) (h:Value):Obj:=.cells #[.string ⟨m.method.toArray⟩,.string ⟨m.target.toArray⟩,.int .i64 m.status,.string ⟨m.reason.toArray⟩,h,.string ⟨m.body.toArray⟩] 24
def BoxM (w:World) (b:Nat) (m:Ms) (h:Value):Prop :=
 w.cell? ⟨b,0,none⟩=some (.string ⟨m.method.toArray⟩)∧w.cell? ⟨b,1,none⟩=some (.string ⟨m.target.toArray⟩)∧w.cell? ⟨b,2,none⟩=some (.int .i64 m.status) ∧
 w.cell? ⟨b,3,none⟩=some (.string ⟨m.reason.toArray⟩)∧w.cell? ⟨b,4,none⟩=some h∧w.cell? ⟨b,5,none⟩=some (.string ⟨m.body.toArray⟩)
theorem BoxM.below {w w':World} {b B:Nat} {m:Ms} {h:Value} (k:BoxM w b m h) (hb:Below B w w') (hlt:b < B):BoxM w' b m h :=
 ⟨cell_below hb hlt k.1,cell_below hb hlt k.2.1,cell_below hb hlt k.2.2.1,cell_below hb hlt k.2.2.2.1,cell_below hb hlt k.2.2.2.2.1,cell_below hb hlt k.2.2.2.2.2⟩
theorem boxM_new (w:World) (m:Ms) (h:Value):BoxM (w.alloc (objM m h)) w.heap.size m h:=by
 unfold BoxM World.cell? objM;simp only [heap_alloc_new];refine ⟨rfl,rfl,rfl,rfl,rfl,rfl⟩
def SmallH (B:Nat) (hs:List Hdr):Prop:=hs.length≤B∧∀ p ∈ hs,p.name.length≤B∧p.value.length≤B
def SmallM (B:Nat) (m:Ms):Prop:=m.method.length≤B∧m.target.length≤B∧m.reason.length≤B∧m.body.length≤B∧SmallH B m.headers
theorem SmallM.le {B C:Nat} {m:Ms} (h:SmallM B m) (hc:B≤C):SmallM C m :=
 ⟨Nat.le_trans h.1 hc,Nat.le_trans h.2.1 hc,Nat.le_trans h.2.2.1 hc,Nat.le_trans h.2.2.2.1 hc,Nat.le_trans h.2.2.2.2.1 hc,fun p hp=>⟨Nat.le_trans (h.2.2.2.2.2 p hp).1 hc,Nat.le_trans (h.2.2.2.2.2 p hp).2 hc⟩⟩
end Go.Proofs.YtiogedceommcoaaGreatDoor
namespace Go.Proofs.YtiogedceommcoaaGreatDoor
open Go.RowKit Go.ChangeShapes Go.WideShapes Go.Deep
def MsgGot (B:Nat) (W:World) (v:Value):Prop:=∃ (m:Ms) (h:Value),v=msgV m h∧HdrsAt W h m.headers∧SmallM B m∧m.headers.length≤4398046511104∧(Lit.int .i64 m.status).wf=true
theorem cellsHdr:Tryz.prog.cellsOf 52=2:=by kernel_rfl
theorem cellsMsg:Tryz.prog.cellsOf 24=6:=by kernel_rfl
theorem cellsHdrs:Tryz.prog.cellsOf 22=1:=by kernel_rfl
section
variable {H : Type} {enc : TypeId × Value → H} {W : World} {sp : Nat → Bool}
def hdrD (p:Hdr):DataW H:=.agg [.lit (.string p.name),.lit (.string p.value)]
def HdrD (d:DataW H) (ps:List Hdr):Prop:=(d=.nil∧ps=[])∨∃ sp,d=.slice (ps.map hdrD) sp
theorem open_hdr {fuel:Nat} {cs:List Value} {x:DataW H × List MemPlace} (h:DataW.trod enc Tryz.prog W 0 sp true fuel 52 cs=some x) :
  ∃ p:Hdr,cs=hdrCells p∧x.1=hdrD p:=by
 obtain ⟨xs,n,_,rfl,hl,hlen,hf⟩:=DataW.trod_struct Tryz.underlying52 h;rw [cellsHdr] at hl
 match cs,hl,xs,hlen with
 | [c0,c1],_,[y0,y1],_ =>
  have f0:=hf 0 _ rfl;have f1:=hf 1 _ rfl
  simp [cellsStr] at f0 f1
  obtain ⟨s0,e0,rfl,_⟩:=DataW.trod_string Tryz.underlying9 f0;obtain ⟨s1,e1,rfl,_⟩:=DataW.trod_string Tryz.underlying9 f1;simp only [List.cons.injEq,and_true] at e0 e1;subst e0 e1;exact ⟨⟨s0.data.toList,s1.data.toList⟩,by simp [hdrCells],rfl⟩
theorem open_hdrs {fuel:Nat} {cs:List Value} {x:DataW H × List MemPlace} (h:DataW.trod enc Tryz.prog W 0 sp true fuel 22 cs=some x) :
  ∃ (v:Value) (ps:List Hdr),cs=[v]∧HdrsAt W v ps∧HdrD x.1 ps:=by
 rcases open_slice Tryz.underlying22 h with ⟨rfl,rfl⟩ | ⟨a,len,cap,m,n,D,Pl,rfl,_,hlc,hcm,hm,rfl,hall⟩
 ·exact ⟨_,[],rfl,Or.inl ⟨rfl,rfl⟩,Or.inl ⟨rfl,rfl⟩⟩
 ·have hlm:len≤m:=by rw [hm]; split <;> omega
  have each:∀ i,i < len → ∃ p:Hdr,D i=hdrD p∧(a.block < W.heap.size∧HdrAt W a i p):=by
   intro i hi;obtain ⟨cs',h1,h2⟩:=hall i (by omega);obtain ⟨p,rfl,hd⟩:=open_hdr h2;rw [cellsHdr] at h1;obtain ⟨_,_,hc⟩:=World.cells?_some h1;have c0:=hc 0 (by omega);have c1:=hc 1 (by omega);refine ⟨p,hd,?_,?_,?_⟩
   ·have hc0:W.cell? (a.add (i * 2))=some (.string ⟨p.name.toArray⟩):=by simpa [Addr.add,hdrCells] using c0
    have:(a.add (i * 2)).block < W.heap.size:=by
     unfold World.cell? at hc0
     cases hh:W.heap[(a.add (i * 2)).block]? with
     | none=>simp [hh] at hc0
     | some o=>exact (Array.getElem?_eq_some_iff.1 hh).1
    rwa [add_block] at this
   ·simpa [Addr.add,hdrCells] using c0
   ·simpa [Addr.add,hdrCells] using c1
  obtain ⟨f,hf⟩:=@choose_lt Hdr ⟨⟨[],[]⟩⟩ len _ each;refine ⟨_,(List.range len).map f,rfl,Or.inr ⟨a,cap,by simp,by simpa using hlc,fun k hk=>?_⟩,Or.inr ⟨(List.range (m - len)).map fun j=>D (len+j),?_⟩⟩
  ·simp at hk
   simpa using (hf k hk).2
  ·simp only [List.map_map]
   congr 1
   apply List.map_congr_left
   intro i hi;exact (hf i (by simpa using hi)).1
theorem open_msg {r:Reach} {b0:Nat} {v:Value} {d:DataW H} {p:List MemPlace} (hv:Value.okWide Tryz.prog W r b0 24 v) (h:DataW.Trod enc Tryz.prog W 0 sp true 24 v d p) :
  ∃ (m:Ms) (hh:Value) (dh:DataW H),v=msgV m hh∧HdrsAt W hh m.headers ∧
   d=.agg [.lit (.string m.method),.lit (.string m.target),.lit (.int .i64 m.status),.lit (.string m.reason),dh,.lit (.string m.body)]∧HdrD dh m.headers∧(Lit.int .i64 m.status).wf=true:=by
 obtain ⟨cs,rfl,hsz⟩:=okWide_struct Tryz.underlying24 hv;obtain ⟨fuel,hf0⟩:=h;obtain ⟨xs,n,_,hx,hl,hlen,hf⟩:=DataW.trod_struct Tryz.underlying24 hf0;rw [cellsMsg] at hsz;obtain ⟨l⟩:=cs
 match l,hsz,xs,hlen with
 | [c0,c1,c2,c3,c4,c5],_,[y0,y1,y2,y3,y4,y5],_ =>
  have f0:=hf 0 _ rfl;have f1:=hf 1 _ rfl;have f2:=hf 2 _ rfl;have f3:=hf 3 _ rfl;have f4:=hf 4 _ rfl;have f5:=hf 5 _ rfl
  simp [cellsStr,cellsInt,cellsHdrs,Value.cells] at f0 f1 f2 f3 f4 f5
  obtain ⟨s0,e0,rfl,_⟩:=DataW.trod_string Tryz.underlying9 f0;obtain ⟨s1,e1,rfl,_⟩:=DataW.trod_string Tryz.underlying9 f1;obtain ⟨i2,e2,rfl,w2⟩:=DataW.trod_int Tryz.underlying3 f2;obtain ⟨s3,e3,rfl,_⟩:=DataW.trod_string Tryz.underlying9 f3;obtain ⟨v4,p4,e4,a4,d4⟩:=open_hdrs f4;obtain ⟨s5,e5,rfl,_⟩:=DataW.trod_string Tryz.underlying9 f5;simp only [List.cons.injEq,and_true] at e0 e1 e2 e3 e4 e5;subst e0 e1 e2 e3 e4 e5;simp only [Prod.mk.injEq] at hx;exact ⟨⟨s0.data.toList,s1.data.toList,i2,s3.data.toList,p4,s5.data.toList⟩,c4,y4.1,by simp [msgV],a4,by simpa using hx.1,d4,w2⟩
theorem bulk_hdrs (ps:List Hdr):(∀ p ∈ ps,p.name.length+p.value.length≤Rows.uptoBulkAll (ps.map (hdrD (H:=H))))∧ps.length≤Rows.uptoBulkAll (ps.map (hdrD (H:=H))):=by
 induction ps with
 | nil=>simp
 | cons q ps ih =>
  simp only [List.map_cons,Rows.uptoBulkAll,hdrD,Rows.uptoBulk] at ih ⊢;refine ⟨fun p hp=>?_,by simp; omega⟩
  rcases List.mem_cons.1 hp with rfl | hp
  ·omega
  ·have:=ih.1 p hp; omega
theorem hdrs_upto {B:Nat} {d:DataW H} {ps:List Hdr} (hd:HdrD d ps) (hz:Rows.uptoBulk d≤B):SmallH B ps:=by
 rcases hd with ⟨rfl,rfl⟩ | ⟨sp,rfl⟩
 ·exact ⟨by simp,by simp⟩
 ·simp only [Rows.uptoBulk] at hz;have hb:=bulk_hdrs (H:=H) ps;exact ⟨by omega,fun p hp=>by have:=hb.1 p hp; omega⟩
theorem msg_upto {B:Nat} {r:Reach} {b0:Nat} {v:Value} {d:DataW H} {p:List MemPlace} (hv:Value.okWide Tryz.prog W r b0 24 v) (h:DataW.Trod enc Tryz.prog W 0 sp true 24 v d p)
  (hz:Rows.uptoBulk d≤B) (hB:B≤4398046511104:=by omega):MsgGot B W v:=by
 obtain ⟨m,hh,dh,rfl,a1,rfl,d1,wf⟩:=open_msg hv h;simp only [Rows.uptoBulkAll,Rows.uptoBulk] at hz;have hu:=hdrs_upto (B:=B) d1 (by omega);exact ⟨m,hh,rfl,a1,⟨by omega,by omega,by omega,by omega,hu⟩,Nat.le_trans hu.1 hB,wf⟩
end
end Go.Proofs.YtiogedceommcoaaGreatDoor
namespace Go.Proofs.YtiogedceommcoaaGreatDoor
open Go.RowKit Sc
theorem row_hdrs {w:World} {g n:Nat} {hs:List Hdr} (h:RowIs w g 52 (hdrsCells hs)) (hn:hs.length=n):HdrsAt w (.slice (some ⟨g,0,none⟩) n n) hs:=by
 subst hn;refine Or.inr ⟨⟨g,0,none⟩,hs.length,rfl,Nat.le_refl _,fun k hk=>⟨(Array.getElem?_eq_some_iff.1 h).1,?_⟩⟩
 obtain ⟨c0,c1⟩:=hdrsCells_get hs k hk;have e:∀ j,(⟨g,0,none⟩:Addr).add j=⟨g,j,none⟩:=fun j=>by unfold Addr.add; split <;> simp_all
 have cell:∀ j u,(hdrsCells hs)[j]? = some u → w.cell? ⟨g,j,none⟩=some u:=fun j u hu=>by
  unfold RowIs at h;simp only [World.cell?,h]
  simpa using hu
 unfold HdrAt;rw [e];exact ⟨cell _ _ c0,cell _ _ c1⟩
set_option maxHeartbeats 2000000 in
set_option maxRecDepth 100000 in
theorem lplain_any (w:World):Calls Tryz.prog 19 #[] w fun e w'=>∃ g,e=.returned (msgV plainM (.slice (some ⟨g,0,none⟩) 5 5))∧HdrsAt w' (.slice (some ⟨g,0,none⟩) 5 5) plainM.headers∧Below w.heap.size w w':=by
 obtain ⟨o1,ho1⟩:∃ o,o=Obj.cells #[.string ⟨#[80,85,66,76,73,83,72]⟩,.string ⟨#[115,105,112,58,97,64,98]⟩,.int .i64 0,.string ⟨#[]⟩,.slice (some ⟨w.heap.size+1,0,none⟩) 5 5,.string ⟨#[]⟩] 24:=⟨_,rfl⟩
 obtain ⟨o2,ho2⟩:∃ o,o=Obj.cells (hdrsCells plainM.headers).toArray 52:=⟨_,rfl⟩
 have s1:(w.alloc o1).heap.size=w.heap.size+1:=by simp
 have A2:=(Below.refl _ (w.alloc o1)).alloc (Nat.le_refl _) o2;have hR1:RowIs ((w.alloc o1).alloc o2) w.heap.size 24 [.string ⟨#[80,85,66,76,73,83,72]⟩,.string ⟨#[115,105,112,58,97,64,98]⟩,.int .i64 0,.string ⟨#[]⟩,.slice (some ⟨w.heap.size+1,0,none⟩) 5 5,.string ⟨#[]⟩]:=by unfold RowIs; rw [A2.block _ (by simp),heap_alloc_new,ho1]
 have hR2:RowIs ((w.alloc o1).alloc o2) (w.heap.size+1) 52 (hdrsCells plainM.headers):=by unfold RowIs; rw [← s1,heap_alloc_new,ho2]
 have hB:Below w.heap.size w ((w.alloc o1).alloc o2):=((Below.refl _ w).alloc (Nat.le_refl _) o1).alloc (by simp) o2;have F:=hid (And.intro hR1 (And.intro (row_hdrs (n:=5) hR2 rfl) hB));have ho2':o2=Obj.cells #[.string ⟨#[86,105,97]⟩,.string ⟨#[83,73,80,47,50,46,48,47,85,68,80,32,99,59,98,114,97,110,99,104,61,122,57,104,71,52,98,75,49]⟩,.string ⟨#[70,114,111,109]⟩,.string ⟨#[60,115,105,112,58,97,64,98,62,59,116,97,103,61,49]⟩,.string ⟨#[84,111]⟩,.string ⟨#[60,115,105,112,58,97,64,98,62]⟩,.string ⟨#[67,97,108,108,45,73,68]⟩,.string ⟨#[57]⟩,.string ⟨#[67,83,101,113]⟩,.string ⟨#[49,32,80,85,66,76,73,83,72]⟩] 52:=ho2;rw [ho1,ho2'] at F;clear hR1 hR2 hB A2 s1 ho1 ho2 ho2'
 go_enter Tryz.func19,Tryz.ntmps19
 go_wp2;generalize World.alloc _ _=w7 at F ⊢;obtain ⟨r7,h7,b7⟩:=F.out;have y0:=r7.cell 0 (by simp);have y1:=r7.cell 1 (by simp);have y2:=r7.cell 2 (by simp);have y3:=r7.cell 3 (by simp);have y4:=r7.cell 4 (by simp);have y5:=r7.cell 5 (by simp);simp only [List.getElem_cons_zero,List.getElem_cons_succ] at y0 y1 y2 y3 y4 y5;refine bodyPost_ret (v:=.agg #[.string ⟨#[80,85,66,76,73,83,72]⟩,.string ⟨#[115,105,112,58,97,64,98]⟩,.int .i64 0,.string ⟨#[]⟩,.slice (some ⟨w.heap.size+1,0,none⟩) 5 5,.string ⟨#[]⟩]) (by simp [results,Tryz.results19,go_sem,y0,y1,y2,y3,y4,y5]; try rfl) rfl ?_
 exact ⟨_,rfl,h7,b7⟩
structure RqC where
 r:Rq
 tp:Value
 th:Value
 fp:Value
 fh:Value
 fq:Value
 op:Value
 oh:Value
 oq:Value
 eq:Value
 co:Value
 ro:Value
 ac:Value
def txt (l:List UInt8):Value:=.string ⟨l.toArray⟩
def rqCells (c:RqC):List Value :=
 [txt c.r.method,txt c.r.target.scheme,txt c.r.target.user,txt c.r.target.host,.int .i64 c.r.target.port,c.tp,c.th,txt c.r.branch,txt c.r.sentBy,
  txt c.r.frm.display,txt c.r.frm.uri.scheme,txt c.r.frm.uri.user,txt c.r.frm.uri.host,.int .i64 c.r.frm.uri.port,c.fp,c.fh,c.fq,
  txt c.r.too.display,txt c.r.too.uri.scheme,txt c.r.too.uri.user,txt c.r.too.uri.host,.int .i64 c.r.too.uri.port,c.op,c.oh,c.oq,
  txt c.r.fromTag,txt c.r.toTag,txt c.r.callID,.int .i64 c.r.seq,.int .i64 c.r.expires,txt c.r.event.name,c.eq,c.co,c.ro,c.ac,txt c.r.type,txt c.r.mtch,txt c.r.body]
def rqV (c:RqC):Value:=.agg (rqCells c).toArray
def nilS:Value:=.slice none 0 0
def noC:RqC:=⟨noR,nilS,nilS,nilS,nilS,nilS,nilS,nilS,nilS,nilS,nilS,nilS,nilS⟩
theorem rq_len (c:RqC):(rqCells c).length=38:=rfl
structure RqC.At (w:World) (c:RqC):Prop where
 tp:ParsAt w c.tp c.r.target.params
 th:ParsAt w c.th c.r.target.headers
 frm:AdrC.At w ⟨c.r.frm,c.fp,c.fh,c.fq⟩
 too:AdrC.At w ⟨c.r.too,c.op,c.oh,c.oq⟩
 ev:EvC.At w ⟨c.r.event,c.eq⟩
 co:∃ cs:List AdrC,AdrsAt w c.co cs∧cs.map AdrC.a=c.r.contact
 ro:∃ B,Own w B 9 c.ro (strs c.r.routes)
 ac:∃ B,Own w B 9 c.ac (strs c.r.accept)
def SliceV (v:Value):Prop:=∃ a n k,v=.slice a n k
structure RqC.Sl (c:RqC):Prop where
 tp:SliceV c.tp
 th:SliceV c.th
 fp:SliceV c.fp
 fh:SliceV c.fh
 fq:SliceV c.fq
 op:SliceV c.op
 oh:SliceV c.oh
 oq:SliceV c.oq
 eq:SliceV c.eq
 co:SliceV c.co
 ro:SliceV c.ro
 ac:SliceV c.ac
theorem SliceV.one {v:Value} (h:SliceV v):v.oneCell'=true:=by
 obtain ⟨a,n,k,rfl⟩:=h
 rfl
theorem rq_one {c:RqC} (h:c.Sl):∀ v ∈ rqCells c,v.oneCell'=true:=by
 intro v hv;simp only [rqCells,List.mem_cons,List.not_mem_nil,or_false] at hv
 rcases hv with rfl | rfl | rfl | rfl | rfl | rfl | rfl | rfl | rfl | rfl | rfl | rfl | rfl | rfl | rfl | rfl | rfl | rfl | rfl | rfl | rfl | rfl | rfl | rfl | rfl | rfl | rfl | rfl | rfl | rfl | rfl | rfl | rfl | rfl | rfl | rfl | rfl | rfl
 all_goals first | rfl | exact h.tp.one | exact h.th.one | exact h.fp.one | exact h.fh.one | exact h.fq.one | exact h.op.one | exact h.oh.one | exact h.oq.one | exact h.eq.one | exact h.co.one | exact h.ro.one | exact h.ac.one
theorem pars_nil (w:World):ParsAt w nilS []:=Or.inl ⟨rfl,rfl⟩
theorem adr_nil (w:World):AdrC.At w ⟨noA,nilS,nilS,nilS⟩:=⟨pars_nil w,pars_nil w,pars_nil w,by simp [CapOk,nilS]⟩
theorem noC_at (w:World):noC.At w:=⟨pars_nil w,pars_nil w,adr_nil w,adr_nil w,⟨pars_nil w,by simp [CapOk,noC,nilS]⟩,⟨[],⟨⟨none,0,rfl,fun k hk=>absurd hk (Nat.not_lt_zero k)⟩,fun c hc=>by simp at hc⟩,rfl⟩,⟨0,Own.nil _ _ _⟩,⟨0,Own.nil _ _ _⟩⟩
theorem nil_sl:SliceV nilS:=⟨none,0,0,rfl⟩
theorem noC_sl:noC.Sl:=⟨nil_sl,nil_sl,nil_sl,nil_sl,nil_sl,nil_sl,nil_sl,nil_sl,nil_sl,nil_sl,nil_sl,nil_sl⟩
end Go.Proofs.YtiogedceommcoaaGreatDoor
