/-
  PubN, PubT, PtR, PtS, WPubFull.
-/
import Derived.Test.YteicmbhilambpaaGreatDoorPU06
set_option linter.unusedVariables false
set_option linter.unusedSimpArgs false
set_option maxRecDepth 20000
namespace Go.Proofs.YteicmbhilambpaaGreatDoor
open Go.RowKit Sc
theorem bad_no {s:Sto} {now:Int} {a:Pa} (h0:0≤now) (h1:now≤549755813888) (h2:tokenB a.tag=true) (h3:placeP s.l a.tag < 0) (h4:a.has=true → checkD a.doc=0):badA s now a=false:=by
 unfold badA;rw [decide_eq_false (by omega),decide_eq_false (show ¬ 549755813888 < now by omega),h2,decide_eq_false (show ¬ 0≤placeP s.l a.tag by omega)]
 cases hh:a.has with
 | false=>rfl
 | true=>rw [decide_eq_true (h4 hh)]; rfl
theorem idx_at {s:Sto} (h:StOK s) {k:Nat} (hk:k < s.l.length):pidxP s.l s.l[k].tag=k∧placeP s.l s.l[k].tag=(k:Int):=by
 rcases idx_two s.l s.l[k].tag with ⟨_,_,h3⟩ | ⟨j,hj,h1,h2,h3,_⟩
 ·exact absurd rfl (h3 _ (List.getElem_mem hk))
 ·have:=h.tags j k hj hk h3
  subst this;exact ⟨h1,h2⟩
theorem doS_go {s:Sto} {now:Int} {a:Pa} {k:Nat} (hb:badA s now a=false) (hn:noneP s a=false) (hl:(secC s.c a.exp).2=true) (hm:a.mt ≠ []) (hh:a.has=false) (h0:(secC s.c a.exp).1 ≠ 0) (hi:pidxP s.l a.mt=k) :
  doS s now a=(⟨s.c,s.last,s.l.modify k (fun p=>goP p now (secC s.c a.exp).1 a)⟩,⟨200,(secC s.c a.exp).1,a.tag,false⟩,0):=by
 unfold doS;rw [if_neg (by rw [hb]; simp),if_neg (by rw [hn]; simp),if_neg (by rw [hl]; simp),if_neg hm,if_neg (by rw [hh]; simp),if_neg h0,hi,hh]
theorem doS_new {s:Sto} {now:Int} {a:Pa} (hb:badA s now a=false) (hl:(secC s.c a.exp).2=true) (hm:a.mt=[]) (hh:a.has=true) (h0:(secC s.c a.exp).1 ≠ 0) (hf:(s.l.length:Int) < s.c.pubs) :
  doS s now a=(⟨s.c,s.last+1,s.l++[newP s now (secC s.c a.exp).1 a]⟩,⟨200,(secC s.c a.exp).1,a.tag,true⟩,0):=by
 have hn:noneP s a=false:=by unfold noneP; rw [hm]; rfl
 unfold doS;rw [if_neg (by rw [hb]; simp),if_neg (by rw [hn]; simp),if_neg (by rw [hl]; simp),if_pos hm,if_neg (by rw [hh]; simp [h0]),if_neg (by omega)]
theorem sec60 (c:Cf) (h1:c.least=60) (h2:c.most=3600):secC c 60=(60,true):=by
 unfold secC;rw [h1,h2,if_neg (by decide),if_neg (by decide)]; rfl
def askP (who mt:List UInt8) (exp:Int) (tag:List UInt8):Pa:=⟨who,mt,exp,false,⟨[],[],[]⟩,tag⟩
def abD:Dc:=⟨[97,64,98],[],[]⟩
theorem abD_is:checkD abD=0:=by decide +kernel
def askD (who mt:List UInt8) (exp:Int) (tag:List UInt8):Pa:=⟨who,mt,exp,true,abD,tag⟩
theorem pplace_nil (tag:List UInt8):placeP [] tag < 0:=place_neg (fun p hp=>by simp at hp)
def fullS (m:Int) (who:List UInt8):Nat → Sto
 | 0=>⟨plainC m,0,[]⟩
 | i+1=>(doS (fullS m who i) 0 (askD who [] 60 [UInt8.ofNat (97+i)])).1
def fullL (who:List UInt8) (i:Nat):List Pb:=(List.range i).map fun (j:Nat)=>⟨(j:Int)+1,who,[UInt8.ofNat (97+j)],600,abD⟩
theorem letter_tok:∀ i,i < 26 → tokenB [UInt8.ofNat (97+i)]=true:=by decide +kernel
theorem letter_ne {i j:Nat} (hi:i < 26) (hj:j < 26) (h:UInt8.ofNat (97+i)=UInt8.ofNat (97+j)):i=j:=by
 have:=congrArg UInt8.toNat h
 simp at this
 omega
theorem full_is {m:Nat} (h1:1≤m) (h2:m≤20) (who:List UInt8):∀ i,i≤m → fullS (m:Int) who i=⟨plainC m,i,fullL who i⟩∧(i < m → doS (fullS (m:Int) who i) 0 (askD who [] 60 [UInt8.ofNat (97+i)])=(fullS (m:Int) who (i+1),⟨200,60,[UInt8.ofNat (97+i)],true⟩,0))
 | 0,_=>by
  have hs:fullS (m:Int) who 0=⟨plainC m,0,fullL who 0⟩:=rfl;refine ⟨hs,fun h=>?_⟩
  have d:=doS_new (s:=fullS (m:Int) who 0) (now:=0) (a:=askD who [] 60 [UInt8.ofNat (97+0)]) (bad_no (by decide) (by decide) (letter_tok 0 (by decide)) (pplace_nil _) (fun _=>abD_is)) (show (secC (plainC m) 60).2=true by rw [sec60 _ rfl rfl]) rfl rfl (show (secC (plainC m) 60).1 ≠ 0 by rw [sec60 _ rfl rfl]; decide) (show ((0:Nat):Int) < (m:Int) by omega);have e:(doS (fullS (m:Int) who 0) 0 (askD who [] 60 [UInt8.ofNat (97+0)])).1=fullS (m:Int) who (0+1):=rfl;rw [← e,d];rw [show secC (fullS (m:Int) who 0).c (askD who [] 60 [UInt8.ofNat (97+0)]).exp=(60,true) from sec60 _ rfl rfl]
  rfl
 | i+1,h=>by
  obtain ⟨ih,ihd⟩:=full_is h1 h2 who i (by omega);have hd:=ihd (by omega)
  have hs:fullS (m:Int) who (i+1)=⟨plainC m,((i+1:Nat):Int),fullL who (i+1)⟩:=by
   have d:=doS_new (s:=fullS (m:Int) who i) (now:=0) (a:=askD who [] 60 [UInt8.ofNat (97+i)]) (bad_no (by decide) (by decide) (letter_tok i (by omega)) (by
    rw [ih];refine place_neg fun p hp=>?_
    simp only [fullL,List.mem_map,List.mem_range] at hp;obtain ⟨j,hj,rfl⟩:=hp;intro e;simp only [askD] at e
    injection e with e
    have:=letter_ne (i:=j) (j:=i) (by omega) (by omega) e
    omega) (fun _=>abD_is)) (show (secC (fullS (m:Int) who i).c 60).2=true by rw [ih,sec60 _ rfl rfl]) rfl rfl (show (secC (fullS (m:Int) who i).c 60).1 ≠ 0 by rw [ih,sec60 _ rfl rfl]; decide) (by rw [ih]; show (((fullL who i).length:Nat):Int) < (m:Int); simp [fullL]; omega)
   rw [fullS,d,ih];simp only [fullL,List.range_succ,List.map_append,List.map_cons,List.map_nil,newP,askD,sec60 (plainC (m:Int)) rfl rfl]
   rfl
  refine ⟨hs,fun hlt=>?_⟩
  have d:=doS_new (s:=fullS (m:Int) who (i+1)) (now:=0) (a:=askD who [] 60 [UInt8.ofNat (97+(i+1))]) (bad_no (by decide) (by decide) (letter_tok (i+1) (by omega)) (by
    rw [hs];refine place_neg fun p hp=>?_
    simp only [fullL,List.mem_map,List.mem_range] at hp;obtain ⟨j,hj,rfl⟩:=hp;intro e;simp only [askD] at e
    injection e with e
    have:=letter_ne (i:=j) (j:=i+1) (by omega) (by omega) e
    omega) (fun _=>abD_is)) (show (secC (fullS (m:Int) who (i+1)).c 60).2=true by rw [hs,sec60 _ rfl rfl]) rfl rfl (show (secC (fullS (m:Int) who (i+1)).c 60).1 ≠ 0 by rw [hs,sec60 _ rfl rfl]; decide) (by rw [hs]; show (((fullL who (i+1)).length:Nat):Int) < (m:Int); simp [fullL]; omega)
  have e:(doS (fullS (m:Int) who (i+1)) 0 (askD who [] 60 [UInt8.ofNat (97+(i+1))])).1=fullS (m:Int) who (i+1+1):=rfl;rw [← e,d];rw [show secC (fullS (m:Int) who (i+1)).c (askD who [] 60 [UInt8.ofNat (97+(i+1))]).exp=(60,true) by rw [hs]; exact sec60 _ rfl rfl]
  rfl
end Go.Proofs.YteicmbhilambpaaGreatDoor
namespace Go.Proofs.YteicmbhilambpaaGreatDoor
open Go.RowKit Go.Maps Go.WideMaps Sc
section
variable {w wr w' : World} {bt : Nat} {S S' : Sto} {v : Value} {cs : List PbC} {l : List (Nat × TypeId × List Value)}
theorem does_askP (h:Bag w wr bt S v cs l) (hl9:S.last≤1000000000) {now exp er:Int} {who mt tag:List UInt8} {td:Td} (hd:doS S now (askP who mt exp tag)=(S',td,er)) (h1:who.length≤281474976710656) (h2:mt.length≤281474976710656) (h3:tag.length≤140737488355328) :
  Calls Tryz.prog 18 #[.pointer (some ⟨bt,0,none⟩),.int .i64 now,.agg #[.string ⟨who.toArray⟩,.string ⟨mt.toArray⟩,.int .i64 exp,.bool false,.string ⟨#[]⟩,.slice none 0 0,.slice none 0 0,.string ⟨tag.toArray⟩]] wr fun e w'=>e=.returned (.tuple #[.agg #[.int .i64 td.status,.int .i64 td.expires,.string ⟨td.tag.toArray⟩,.bool td.changed],.int .i64 er])∧Bag w w' bt S' v cs l:=by
 have hs:SmA (askP who mt exp tag):=⟨by show who.length≤_; omega,by show mt.length≤_; omega,by show tag.length≤_; omega,⟨by simp [askP],by simp [askP],by simp [askP],by simp [askP],by simp [askP]⟩,by simp [askP],by simp [askP]⟩
 have K:=does16_any h.tab hs h3 hl9 (now:=now) (ts:=.slice none 0 0) (ns:=.slice none 0 0) (fun hh=>by cases hh);rw [hd] at K;refine K.mono ?_
 rintro e w' ⟨rfl,hT,hF⟩;exact ⟨rfl,h.call hT hF⟩
theorem does_askD (h:Bag w wr bt S v cs l) (hl9:S.last≤1000000000) {now exp er:Int} {who mt tag:List UInt8} {td:Td} (hd:doS S now (askD who mt exp tag)=(S',td,er)) (h1:who.length≤281474976710656) (h2:mt.length≤281474976710656) (h3:tag.length≤140737488355328) :
  Calls Tryz.prog 18 #[.pointer (some ⟨bt,0,none⟩),.int .i64 now,.agg #[.string ⟨who.toArray⟩,.string ⟨mt.toArray⟩,.int .i64 exp,.bool true,.string ⟨#[97,64,98]⟩,.slice none 0 0,.slice none 0 0,.string ⟨tag.toArray⟩]] wr fun e w'=>e=.returned (.tuple #[.agg #[.int .i64 td.status,.int .i64 td.expires,.string ⟨td.tag.toArray⟩,.bool td.changed],.int .i64 er])∧Bag w w' bt S' v cs l:=by
 have hs:SmA (askD who mt exp tag):=⟨by show who.length≤_; omega,by show mt.length≤_; omega,by show tag.length≤_; omega,smD_nil _ (by decide),by simp [askD,abD],by simp [askD,abD]⟩
 have K:=does16_any h.tab hs h3 hl9 (now:=now) (ts:=.slice none 0 0) (ns:=.slice none 0 0) (fun _=>⟨by simp [askD,abD],capT_nil,fun _ _=>⟨⟨none,0,rfl,fun k hk=>by simp [askD,abD] at hk⟩,⟨none,0,rfl,fun k hk=>by simp [askD,abD] at hk⟩⟩⟩);rw [hd] at K;refine K.mono ?_
 rintro e w' ⟨rfl,hT,hF⟩;exact ⟨rfl,h.call hT hF⟩
end
end Go.Proofs.YteicmbhilambpaaGreatDoor
namespace Go.Proofs.YteicmbhilambpaaGreatDoor
open Go.RowKit Sc
theorem full_ok {m:Nat} (h1:1≤m) (h2:m≤20) (who:List UInt8):∀ i,i≤m → StOK (fullS (m:Int) who i)
 | 0,_=>StOK.nil (plain_right (by omega) (by omega))
 | i+1,h=>by
  have ih:=full_ok h1 h2 who i (by omega);have hc:=(full_is h1 h2 who i (by omega)).1;exact doS_ok (by rw [hc]; exact plain_right (by omega) (by omega)) ih 0 (askD who [] 60 [UInt8.ofNat (97+i)])
theorem full_no {m i:Nat} (h1:m≤20) (h2:m≤i) (h3:i < 26) (who:List UInt8):placeP (fullL who m) [UInt8.ofNat (97+i)] < 0:=by
 refine place_neg fun p hp=>?_
 simp only [fullL,List.mem_map,List.mem_range] at hp;obtain ⟨j,hj,rfl⟩:=hp;intro e
 injection e with e
 have:=letter_ne (i:=j) (j:=i) (by omega) (by omega) e
 omega
theorem full_more {m i:Nat} (h1:1≤m) (h2:m≤20) (h3:m≤i) (h4:i < 26) (who:List UInt8):doS (fullS (m:Int) who m) 0 (askD who [] 60 [UInt8.ofNat (97+i)])=(fullS (m:Int) who m,⟨503,0,[],false⟩,0):=by
 have hs:=(full_is h1 h2 who m (Nat.le_refl _)).1;refine doS_full (bad_no (by decide) (by decide) (letter_tok i h4) (by rw [hs]; exact full_no h2 h3 h4 who) (fun _=>abD_is)) rfl (show (secC (fullS (m:Int) who m).c 60).2=true by rw [hs,sec60 _ rfl rfl]) rfl ?_ ?_
 ·rintro (h | h)
  ·cases h
  ·rw [hs] at h;rw [show secC (⟨plainC (m:Int),(m:Int),fullL who m⟩:Sto).c (askD who [] 60 [UInt8.ofNat (97+i)]).exp=(60,true) from sec60 _ rfl rfl] at h
   cases h
 ·rw [hs]
  show (m:Int)≤((fullL who m).length:Nat)
  simp [fullL]
theorem tok_z0:tokenB [122,48]=true:=by decide +kernel
theorem full_go {m:Nat} (h1:1≤m) (h2:m≤20) (who:List UInt8):∃ s:Sto,doS (fullS (m:Int) who m) 0 (askP who [97] 60 [122,48])=(s,⟨200,60,[122,48],false⟩,0)∧s.l.length=m∧(liveS s.l who).length=m∧s.last=m∧s.c=plainC m:=by
 have hs:=(full_is h1 h2 who m (Nat.le_refl _)).1;have ok:=full_ok h1 h2 who m (Nat.le_refl _);rw [hs] at ok ⊢;have hl:0 < (⟨plainC (m:Int),(m:Int),fullL who m⟩:Sto).l.length:=by simp [fullL]; omega
 obtain ⟨hi,hpl⟩:=idx_at ok hl;have h0:(⟨plainC (m:Int),(m:Int),fullL who m⟩:Sto).l[0]=⟨1,who,[97],600,abD⟩:=by simp [fullL]
 rw [h0] at hi hpl
 have hb:badA ⟨plainC (m:Int),(m:Int),fullL who m⟩ 0 (askP who [97] 60 [122,48])=false:=bad_no (by decide) (by decide) tok_z0 (by
  refine place_neg fun p hp=>?_
  simp only [fullL,List.mem_map,List.mem_range] at hp;obtain ⟨j,hj,rfl⟩:=hp;intro e
  simp [askP] at e) (fun hh=>by cases hh)
 have d:=doS_go (k:=0) hb (none_no (a:=askP who [97] 60 [122,48]) hl hi hpl (by rw [h0]; rfl)) (show (secC (plainC (m:Int)) 60).2=true by rw [sec60 _ rfl rfl]) (by simp [askP]) rfl (show (secC (plainC (m:Int)) 60).1 ≠ 0 by rw [sec60 _ rfl rfl]; decide) hi;rw [show secC (⟨plainC (m:Int),(m:Int),fullL who m⟩:Sto).c (askP who [97] 60 [122,48]).exp=(60,true) from sec60 _ rfl rfl] at d;refine ⟨_,d,by simp [fullL],?_,rfl,rfl⟩
 have hall:∀ p ∈ (fullL who m).modify 0 (fun p=>goP p 0 60 (askP who [97] 60 [122,48])),p.who=who:=by
  intro p hp;obtain ⟨i,hi',rfl⟩:=List.mem_iff_getElem.1 hp;simp only [List.getElem_modify]
  split <;> simp [fullL,goP]
 unfold liveS;rw [List.filter_eq_self.2 (fun p hp=>by simp [hall p hp])]
 simp [fullL]
end Go.Proofs.YteicmbhilambpaaGreatDoor
namespace Go.Proofs.YteicmbhilambpaaGreatDoor.pubFull
open Go.RowKit Go.Maps Go.WideMaps Sc
theorem str_off (s:ByteArray):∃ l:List UInt8,s=⟨l.toArray⟩:=⟨s.data.toList,by apply ByteArray.ext; simp⟩
theorem conv_byteF (u:World) (k:Nat) (hk:k < 100):(convert 70 9 (.slice (some ⟨u.heap.size,0,none⟩) 1 1)).run Tryz.prog (u.alloc (.cells #[.int .u8 (97+(k:Int))] 5))=.ok (.string ⟨[UInt8.ofNat (97+k)].toArray⟩) (u.alloc (.cells #[.int .u8 (97+(k:Int))] 5)):=by
 refine run_convert_bytes_back (P:=Tryz.prog) _ 70 9 5 _ 1 [UInt8.ofNat (97+k)] Tryz.underlying70 Tryz.underlying5 Tryz.underlying9 fun j hj=>?_
 have:j=0:=by simpa using hj
 subst this
 simp [Addr.add,World.cell?_alloc_new]
 omega
theorem full_at {m:Nat} (h1:1≤m) (h2:m≤20) (who:List UInt8) {i:Nat} (hi:i < m+3):doS (fullS (m:Int) who (min i m)) 0 (askD who [] 60 [UInt8.ofNat (97+i)])=(fullS (m:Int) who (min (i+1) m),if i < m then ⟨200,60,[UInt8.ofNat (97+i)],true⟩ else ⟨503,0,[],false⟩,0):=by
 by_cases h:i < m
 ·rw [if_pos h,Nat.min_eq_left (by omega),Nat.min_eq_left (by omega)];exact (full_is h1 h2 who i (by omega)).2 h
 ·rw [if_neg h,Nat.min_eq_right (by omega),Nat.min_eq_right (by omega)];exact full_more h1 h2 (by omega) (by omega) who
theorem full_last {m:Nat} (h1:1≤m) (h2:m≤20) (who:List UInt8) (i:Nat):(fullS (m:Int) who (min i m)).last≤1000000000:=by
 rw [(full_is h1 h2 who (min i m) (Nat.min_le_right _ _)).1]
 show ((min i m:Nat):Int)≤1000000000
 have:=Nat.min_le_right i m
 omega
set_option maxHeartbeats 8000000 in
set_option maxRecDepth 100000 in
theorem law_walk (a0:Int) (a1:ByteArray) (w0:(Lit.int .u8 a0).wf=true) (b1:a1.size≤140737488351232) (w:World) :
  Calls Tryz.prog 7 #[.int .u8 a0,.string a1] w fun e w'=>e=.returned (.bool true)∧Below w.heap.size w w':=by
 obtain ⟨who,rfl⟩:=str_off a1;have hwho:who.length≤140737488351232:=by simpa [ByteArray.size] using b1
 have w0':0≤a0∧a0≤255:=by simpa [Lit.wf,IntKind.min,IntKind.max,IntKind.signed,IntKind.bits] using w0
 clear w0;obtain ⟨m,hm⟩:∃ m:Nat,(m:Int)=1+a0 % 20:=⟨(1+a0 % 20).toNat,by omega⟩
 have hm1:1≤m∧m≤20:=by omega
 obtain ⟨h1,h2⟩:=hm1;have KP:=hid (fun (u:World)=>plain16_any u (m:Int));have KB:=hid (fun (u:World)=>begun16_ok u (plainC (m:Int)) (plain_right (by omega) (by omega)));have KO:=hid (fun (u:World)=>doc16_any u [97,64,98]);have KW:=hid awake16_any;unfold docV at KO;unfold cfV plainC at KP KB;have qw1:wrap64 a0=a0:=by unfold wrap64; omega
 have qw0:Int.tmod a0 20=a0 % 20:=Int.tmod_eq_emod_of_nonneg w0'.1;have qw2:1+a0 % 20=(m:Int):=hm.symm;have qw3:wrap64 (m:Int)=m:=by unfold wrap64; omega
 clear hm b1
 go_enter Tryz.func7,Tryz.ntmps7
 go_upto_region 2 with fail
 clear w0'

 go_wp2_with fail
 refine (KP.out _).mono ?_
 rintro e w1 ⟨rfl,hb1⟩;have bel:=hid hb1;clear hb1;go_wp2_with fail
 refine (KB.out _).mono ?_
 rintro e w2 ⟨bt,rfl,hT,hb2⟩;have BG:=hid (⟨hT.lower bel.out.size,fun x hx=>by simp at hx,bel.out.trans (hb2.mono bel.out.size),OwnPb.nil _ _⟩:Bag w w2 bt (fullS (m:Int) who (min 0 m)) (.slice none 0 0) [] []);clear hT hb2 bel;go_wp2
 go_loopw [7] (fun i wr=>∃ k:Nat,k≤m+3∧i=.int .i64 k∧Hid (Bag w wr bt (fullS (m:Int) who (min k m)) (.slice none 0 0) [] [])) (fun i _=>m+3 - (intOf i).toNat)
 case atStart=>exact ⟨0,by omega,rfl,BG⟩
 case round =>
  clear BG;obtain ⟨k,hk,rfl,BG⟩:=hrel;by_cases hlt:k < m+3
  ·have hlt':(k:Int) < (m:Int)+3:=by omega
   have hcv:=conv_byteF wr k (by omega);have d:=full_at h1 h2 who hlt;have hl9:=full_last h1 h2 who k;generalize UInt8.ofNat (97+k)=lt at hcv d;have B1:=hid (BG.out.below ((Below.refl _ wr).alloc (Nat.le_refl _) (.cells #[.int .u8 (97+(k:Int))] 5)));clear BG;by_cases hkm:k < m
   ·have f1:decide ((k:Int) < (m:Int))=true:=decide_eq_true (by omega);rw [if_pos hkm] at d;clear qw0 qw1 qw2 qw3;go_wp2_with fail
    refine (KO.out _).mono ?_
    rintro e w3 ⟨rfl,hb3⟩;have B3:=hid (B1.out.below hb3);have KD:=hid (does_askD B3.out hl9 d (by omega) (by simp) (by simp));clear B1 B3 hb3 hcv d;go_wp2_with fail
    refine KD.out.mono ?_
    rintro e w4 ⟨rfl,BG4⟩;have BG5:=hid (BG4.new [.int .i64 200,.int .i64 60,.string ⟨[lt].toArray⟩,.bool true] 46 tyTold);clear BG4 KD
    go_upto_region 10 with fail
    generalize w4.heap.size=g at BG5 ⊢;generalize World.alloc _ _=w5 at BG5 ⊢;obtain ⟨t0,t1,t2,t3,_,_,_,_⟩:=BG5.out.r0.rc4;go_wp2;go_roundw
    case rel=>exact ⟨k+1,by omega,by go_num,BG5.out.tl⟩
    case measure=>simp [intOf]; omega
   ·have f1:decide ((k:Int) < (m:Int))=false:=decide_eq_false (by omega);rw [if_neg hkm] at d;clear qw0 qw1 qw2 qw3;go_wp2_with fail
    refine (KO.out _).mono ?_
    rintro e w3 ⟨rfl,hb3⟩;have B3:=hid (B1.out.below hb3);have KD:=hid (does_askD B3.out hl9 d (by omega) (by simp) (by simp));clear B1 B3 hb3 hcv d;go_wp2_with fail
    refine KD.out.mono ?_
    rintro e w4 ⟨rfl,BG4⟩;have BG5:=hid (BG4.new [.int .i64 503,.int .i64 0,.string ⟨[].toArray⟩,.bool false] 46 tyTold);clear BG4 KD
    go_upto_region 10 with fail
    generalize w4.heap.size=g at BG5 ⊢;generalize World.alloc _ _=w5 at BG5 ⊢;obtain ⟨t0,t1,t2,t3,_,_,_,_⟩:=BG5.out.r0.rc4;go_wp2;go_roundw
    case rel=>exact ⟨k+1,by omega,by go_num,BG5.out.tl⟩
    case measure=>simp [intOf]; omega
  ·have hlt':¬ (k:Int) < (m:Int)+3:=by omega
   obtain ⟨s,d,e1,e2,e3,e4⟩:=full_go h1 h2 who;have hl9:=full_last h1 h2 who k;have hmin:min k m=m:=Nat.min_eq_right (by omega);rw [hmin] at hl9;have B1:=BG.out;rw [hmin] at B1;have KD:=hid (does_askP B1 hl9 d (by omega) (by simp) (by simp));clear B1 BG d hmin hl9;go_wp2_with fail
   refine KD.out.mono ?_
   rintro e w4 ⟨rfl,BG4⟩;have BG5:=hid (BG4.new [.int .i64 200,.int .i64 60,.string ⟨[122,48].toArray⟩,.bool false] 46 tyTold);clear BG4 KD
   go_upto_region 13 with fail
   generalize w4.heap.size=g at BG5 ⊢;generalize World.alloc _ _=w5 at BG5 ⊢;obtain ⟨t0,t1,t2,t3,_,_,_,_⟩:=BG5.out.r0.rc4;have KN:=hid (plen_tab BG5.out.tab);have KL:=hid (plive_tab BG5.out.tab who);rw [e1] at KN;go_wp2_with fail
   refine KN.out.mono ?_
   rintro e wx ⟨rfl,hwx⟩;rw [hwx];clear hwx KN;go_wp2_with fail
   refine KL.out.mono ?_
   rintro e w6 ⟨v,ds,rfl,ho,_,hds,hb6⟩
   have hdl:ds.length=m:=by
    have:=congrArg List.length hds
    rw [pbsL_len,e2] at this;exact this
   obtain ⟨oa,oc,rfl⟩:=ho.form;rw [hdl];have bel:=hid (BG5.out.bel.trans (hb6.mono BG5.out.bel.size));clear KL ho hds hb6 BG5 t0 t1 t2 t3;go_wp2_with fail
   refine (KW.out _).mono ?_
   rintro e w9 ⟨rfl,hw9⟩;go_wp2;go_ret;exact ⟨rfl,bel.out.trans (hw9.mono bel.out.size)⟩
end Go.Proofs.YteicmbhilambpaaGreatDoor.pubFull
