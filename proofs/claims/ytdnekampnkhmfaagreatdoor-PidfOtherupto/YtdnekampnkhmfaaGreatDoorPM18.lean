/-
  PD1, PD2, XKids, PidfPosL.
-/
import Derived.Test.YtdnekampnkhmfaaGreatDoorPM17
set_option linter.unusedVariables false
set_option linter.unusedSimpArgs false
set_option maxRecDepth 20000
namespace Go.Proofs.YtdnekampnkhmfaaGreatDoor
open Go.RowKit Sc
theorem ret_data {t:ByteArray} {l:List UInt8} (h:t.data.toList=l):Ending.returned (.string t)=.returned (.string ⟨l.toArray⟩):=by
 rw [← h]
set_option maxHeartbeats 1000000 in
theorem trimZ_byte (s:ByteArray) (w:World) (hs:s.size≤1000) :
  Calls Tryz.prog 96 #[.string s,.int .u8 48] w fun e w'=>e=.returned (.string ⟨(stripZ s.data.toList).toArray⟩)∧w'=w:=by
 go_enter Tryz.func96,Tryz.ntmps96
 go_wp2
 go_loop [0] (fun v=>∃ u:ByteArray,v=.string u∧u.size≤1000∧Hid (stripZ u.data.toList=stripZ s.data.toList)) (fun v=>lenV v)
 case atStart=>exact ⟨s,rfl,hs,hid rfl⟩
 case round =>
  obtain ⟨u,rfl,hu,hd⟩:=hrel;by_cases h0:0 < u.size
  ·have hlt:u.size - 1 < u.size:=by omega
   have hbd:=u8_bd u[u.size - 1];have q0:(0:Int) < (u.size:Int):=by omega
   have hw1:IntKind.i64.wrap ((u.size:Int) - 1)=((u.size - 1:Nat):Int):=by rw [IntKind.wrap_i64]; omega
   have hn1:((u.size:Int) - 1).toNat=u.size - 1:=by omega
   by_cases hx:u[u.size - 1]=48
   ·have p1:((u[u.size - 1].toNat:Int)==48)=true:=u8_eq (b:=48) hx;have hd2:Hid (stripZ (u.extract 0 (u.size - 1)).data.toList=stripZ s.data.toList):=show _=_ by rw [stripB_step u hlt hx]; exact hd.out
    have hz:(u.extract 0 (u.size - 1)).size < u.size∧(u.extract 0 (u.size - 1)).size≤1000:=by rw [ByteArray.size_extract]; omega
    clear hd hx;go_wp2
    go_round
    case rel=>exact ⟨_,rfl,hz.2,hd2⟩
    case measure=>exact hz.1
   ·have p1:((u[u.size - 1].toNat:Int)==48)=false:=u8_ne (b:=48) hx;have hE:Hid (u.data.toList=stripZ s.data.toList):=show _=_ by rw [← hd.out,stripB_stop u hlt hx]
    clear hd hx;go_wp2;go_ret;exact ⟨ret_data hE.out,rfl⟩
  ·have q0:¬ (0:Int) < (u.size:Int):=by omega
   have e:u.data.toList=[]:=List.eq_nil_of_length_eq_zero (by rw [len_data]; omega);have hE:Hid (u.data.toList=stripZ s.data.toList):=show _=_ by rw [← hd.out,e]; rfl
   clear hd e;go_wp2;go_ret;exact ⟨ret_data hE.out,rfl⟩
set_option maxHeartbeats 1000000 in
theorem trimZ_any (l:List UInt8) (w:World) (h0:l.isEmpty=false) (hl:l.length≤1000) :
  Calls Tryz.prog 50 #[.string ⟨l.toArray⟩,.string ⟨#[48]⟩] w fun e w'=>e=.returned (.string ⟨(stripZ l).toArray⟩)∧w'=w:=by
 have K:=hid (fun w'=>trimZ_byte ⟨l.toArray⟩ w' (by rw [size_list]; exact hl));rw [show (⟨l.toArray⟩:ByteArray).data.toList=l from by simp] at K;generalize stripZ l=R at K ⊢;have hne:(l==[])=false:=by cases l <;> simp_all
 have h1:(ByteArray.mk #[48]).size=1:=rfl
 go_enter Tryz.func50,Tryz.ntmps50
 go_wp2_with (go_at_call 96; refine (K.out _).mono ?_; rintro e w' ⟨rfl,hw'⟩; rw [hw']; clear hw' w')
 go_ret;exact ⟨rfl,rfl⟩
set_option maxHeartbeats 1000000 in
theorem mul64_one (c:Int) (hc:c=2∨c=3) (w:World):Calls Tryz.prog 139 #[.int .u64 1,.int .u64 c] w fun e w'=>e=.returned (.tuple #[.int .u64 0,.int .u64 c])∧w'=w:=by
 rcases hc with rfl | rfl
 all_goals
  go_enter Tryz.func139,Tryz.ntmps139
  go_wp2;go_ret2;exact ⟨by rfl,rfl⟩
set_option maxHeartbeats 1000000 in
theorem mul_one_ (c:Int) (hc:c=2∨c=3) (w:World):Calls Tryz.prog 90 #[.int .u64 1,.int .u64 c] w fun e w'=>e=.returned (.tuple #[.int .u64 0,.int .u64 c])∧w'=w:=by
 have K:=hid (fun w'=>mul64_one c hc w')
 go_enter Tryz.func90,Tryz.ntmps90
 go_wp2_with (go_at_call 139; refine (K.out _).mono ?_; rintro e w' ⟨rfl,hw'⟩; rw [hw']; clear hw' w')
 go_ret2;exact ⟨rfl,rfl⟩
theorem pre32 (s:ByteArray) (R:Bool) (hR:startsB 48 s.data.toList=R) (w:World):Calls Tryz.prog 91 #[.string s,.string ⟨#[48]⟩] w fun e w'=>e=.returned (.bool R)∧w'=w:=by
 rw [← hR];exact strPrefix_any s 48 w (by decide)
set_option maxHeartbeats 2000000 in
set_option maxRecDepth 100000 in
theorem rep0_any (k:Nat) (hk:k≤3) (w:World):Calls Tryz.prog 44 #[.string ⟨#[48]⟩,.int .i64 k] w fun e w'=>e=.returned (.string ⟨(List.replicate k 48).toArray⟩)∧w'=w:=by
 have h1:(ByteArray.mk #[48]).size=1:=rfl
 match k,hk with
 | 0,_ =>
  go_enter Tryz.func44,Tryz.ntmps44
  go_wp2;go_ret;exact ⟨rfl,rfl⟩
 | 1,_ =>
  go_enter Tryz.func44,Tryz.ntmps44
  go_wp2;go_ret;exact ⟨rfl,rfl⟩
 | 2,_ =>
  have K:=hid (fun w'=>mul_one_ 2 (.inl rfl) w')
  go_enter Tryz.func44,Tryz.ntmps44
  go_wp2_with (first | (go_at_call 90; refine (K.out _).mono ?_; rintro e w' ⟨rfl,hw'⟩; rw [hw']; clear hw' w') | (go_at_call 91; refine (pre32 _ _ (by rfl) _).mono ?_; rintro e w' ⟨rfl,hw'⟩; rw [hw']; clear hw' w'))
  go_ret;exact ⟨rfl,rfl⟩
 | 3,_ =>
  have K:=hid (fun w'=>mul_one_ 3 (.inr rfl) w')
  go_enter Tryz.func44,Tryz.ntmps44
  go_wp2_with (first | (go_at_call 90; refine (K.out _).mono ?_; rintro e w' ⟨rfl,hw'⟩; rw [hw']; clear hw' w') | (go_at_call 91; refine (pre32 _ _ (by rfl) _).mono ?_; rintro e w' ⟨rfl,hw'⟩; rw [hw']; clear hw' w'))
  go_ret;exact ⟨rfl,rfl⟩
theorem pnum_list (l:List UInt8) (w:World) (h:l.length≤1000) :
  Calls Tryz.prog 45 #[.string ⟨l.toArray⟩,.int .i64 1000] w fun e w'=>e=.returned (.tuple #[.int .i64 (numV 1000 l).1,.int .i64 (numV 1000 l).2])∧w'=w:=number_any ⟨l.toArray⟩ 1000 w (by rw [size_list]; unfold maxLen; omega) (by decide) (by decide)
set_option maxHeartbeats 1000000 in
set_option maxRecDepth 100000 in
theorem pdec_any (n:Int) (w:World):Calls Tryz.prog 20 #[.int .i64 n] w fun e w'=>e=.returned (.string ⟨(decL n).toArray⟩)∧Below w.heap.size w w':=by
 have hv:decL n=if n < 0∨1000 < n then [] else if n=0 then [48] else if n=1000 then [49] else [48,46]++stripZ (d3 n.toNat):=rfl
 generalize decL n=R at hv ⊢;by_cases h0:n < 0
 ·rw [if_pos (.inl h0)] at hv;have HV:=hid hv;clear hv
  go_enter Tryz.func20,Tryz.ntmps20
  go_wp2;go_ret;exact ⟨by rw [HV.out]; rfl,Below.refl _ _⟩
 by_cases h1:1000 < n
 ·rw [if_pos (.inr h1)] at hv;have HV:=hid hv;clear hv
  go_enter Tryz.func20,Tryz.ntmps20
  go_wp2;go_ret;exact ⟨by rw [HV.out]; rfl,Below.refl _ _⟩
 rw [if_neg (by omega)] at hv;by_cases h2:n=0
 ·rw [if_pos h2] at hv;have HV:=hid hv;subst h2;clear hv;have K:=hid (fun w'=>digits_any 0 w' (by omega));rw [show digL 0=[48] from by rw [digL_small (by omega)]; rfl] at K
  go_enter Tryz.func20,Tryz.ntmps20
  go_wp2_with fail
  refine (K.out _).mono ?_
  rintro e w1 ⟨rfl,hw1⟩;go_wp2;go_ret;exact ⟨by rw [HV.out]; rfl,hw1⟩
 by_cases h3:n=1000
 ·rw [if_neg h2,if_pos h3] at hv;have HV:=hid hv;subst h3;clear hv;have K:=hid (fun w'=>digits_any 1 w' (by omega));rw [show digL 1=[49] from by rw [digL_small (by omega)]; rfl] at K
  go_enter Tryz.func20,Tryz.ntmps20
  go_wp2_with fail
  refine (K.out _).mono ?_
  rintro e w1 ⟨rfl,hw1⟩;go_wp2;go_ret;exact ⟨by rw [HV.out]; rfl,hw1⟩
 rw [if_neg h2,if_neg h3] at hv;obtain ⟨k,rfl⟩:=Int.eq_ofNat_of_zero_le (show 0≤n by omega);rw [Int.toNat_natCast] at hv;have hk0:0 < k:=by omega
 have hk1:k < 1000:=by omega
 have K0:=hid (fun w'=>digits_any 0 w' (by omega));rw [show digL 0=[48] from by rw [digL_small (by omega)]; rfl] at K0;have K1:=hid (fun w'=>digits_any (1000+k) w' (by omega));rw [dig_thou hk1] at K1;have e3:=d3_len k;generalize d3 k=T at K1 hv e3;have KT:=hid (fun w'=>trimZ_any T w' (by cases T <;> simp_all) (by omega));have hsl:(stripZ T).length≤3:=by
  unfold stripZ;rw [List.length_reverse]
  have:=(List.dropWhile_suffix (l:=T.reverse) (·==48)).length_le
  rw [List.length_reverse] at this;omega
 have HG:Hid (⟨#[48]⟩++⟨#[46]⟩++⟨(stripZ T).toArray⟩=(⟨([48,46]++stripZ T).toArray⟩:ByteArray)):=show _=_ by rw [show (⟨#[48]⟩:ByteArray)++⟨#[46]⟩=⟨[48,46].toArray⟩ from rfl,glueLL]
 have HV:=hid hv;generalize stripZ T=S at KT hsl HG HV;have zs:=size_list S;have z4:(⟨(49 :: T).toArray⟩:ByteArray).size=4:=by rw [size_list]; simp; omega
 have hex:(⟨(49 :: T).toArray⟩:ByteArray).extract 1 4=⟨T.toArray⟩:=by rw [ext_list]; simp [List.take_of_length_le,e3]
 have hq:((k:Int)).tdiv 1000=0:=by rw [Int.tdiv_eq_ediv_of_nonneg (by omega)]; omega
 have hr:((k:Int)).tmod 1000=(k:Int):=by rw [Int.tmod_eq_emod_of_nonneg (by omega)]; omega
 have hw:IntKind.i64.wrap (1000+(k:Int))=((1000+k:Nat):Int):=by rw [IntKind.wrap_i64]; omega
 have q0:((k:Int)==0)=false:=by rw [beq_eq_false_iff_ne]; omega
 clear hv h2 h3 h0 h1
 go_enter Tryz.func20,Tryz.ntmps20
 go_wp2_with fail
 refine (K0.out _).mono ?_
 rintro e w1 ⟨rfl,hw1⟩;go_wp2_with fail
 refine (K1.out _).mono ?_
 rintro e w2 ⟨rfl,hw2⟩;go_wp2_with fail
 refine (KT.out _).mono ?_
 rintro e w' ⟨rfl,hw'⟩; rw [hw']; clear hw' w'
 go_wp2;go_ret;exact ⟨by rw [HV.out,← HG.out]; rfl,hw1.trans (hw2.mono hw1.size)⟩
set_option maxHeartbeats 1000000 in
set_option maxRecDepth 100000 in
theorem pthou_any (l:List UInt8) (w:World) (h:l.length≤140737488355328) :
  Calls Tryz.prog 18 #[.string ⟨l.toArray⟩] w fun e w'=>e=.returned (.tuple #[.int .i64 (thouC l).1,.bool (thouC l).2])∧∃ q,w'=w.drewN q:=by
 have K:=hid (fun w'=>strCut_any ⟨l.toArray⟩ 46 w' (by rw [size_list]; omega));rw [show (⟨l.toArray⟩:ByteArray).data.toList=l from by simp] at K;have hlen:=cutL_len 46 l;rw [thou_code];generalize cutL 46 l=C at K hlen ⊢;obtain ⟨a,b,o⟩:=C;simp only at K hlen ⊢;have hv:thouCC a b=if ¬ (a=[48]∨a=[49])∨3 < b.length then (0,false) else ((numV 1000 (a++(b++List.replicate (3 - b.length) 48))).1,(numV 1000 (a++(b++List.replicate (3 - b.length) 48))).2==0):=rfl
 generalize thouCC a b=R at hv ⊢;have za:=size_list a;have zb:=size_list b;have hbl:b.length≤140737488355328:=by omega
 by_cases ha:a=[48]∨a=[49]
 case neg =>
  rw [if_pos (.inl ha)] at hv;have HV:=hid hv;have n1:(a != [48])=true:=by simp; exact fun e=>ha (.inl e)
  have n2:(a != [49])=true:=by simp; exact fun e=>ha (.inr e)
  have n3:(a==[48])=false:=by rw [beq_eq_false_iff_ne]; exact fun e=>ha (.inl e)
  have n4:(a==[49])=false:=by rw [beq_eq_false_iff_ne]; exact fun e=>ha (.inr e)
  clear hv ha
  go_enter Tryz.func18,Tryz.ntmps18
  go_wp2_with fail
  refine (K.out _).mono ?_
  rintro e w1 ⟨rfl,q,rfl⟩;go_wp2;go_ret2;exact ⟨by rw [HV.out]; rfl,q,rfl⟩
 have hal:a.length=1:=by rcases ha with rfl | rfl <;> rfl
 by_cases hb:3 < b.length
 ·rw [if_pos (.inr hb)] at hv;have HV:=hid hv;have r3:(3:Int) < (b.length:Int):=by omega
  clear hv
  rcases ha with rfl | rfl
  all_goals
   go_enter Tryz.func18,Tryz.ntmps18
   go_wp2_with fail
   refine (K.out _).mono ?_
   rintro e w1 ⟨rfl,q,rfl⟩;go_wp2;go_ret2;exact ⟨by rw [HV.out]; rfl,q,rfl⟩
 have r3:¬ (3:Int) < (b.length:Int):=by omega
 rw [if_neg (by simp [ha]; omega)] at hv;obtain ⟨z,hz⟩:∃ z,z=3 - b.length:=⟨_,rfl⟩
 rw [← hz] at hv;have hzw:IntKind.i64.wrap (3 - (b.length:Int))=(z:Int):=by rw [IntKind.wrap_i64]; omega
 have KR:=hid (fun w'=>rep0_any z (by omega) w');have KN:=hid (fun w'=>pnum_list (a++(b++List.replicate z 48)) w' (by simp; omega));generalize (numV 1000 (a++(b++List.replicate z 48)))=N at hv KN;obtain ⟨nv,ne⟩:=N;simp only at hv KN;rw [← glueLL,← glueLL] at KN;have HV:=hid hv;have zr:(⟨(List.replicate z 48).toArray⟩:ByteArray).size=z:=by rw [size_list]; simp
 have zbr:(⟨b.toArray⟩++⟨(List.replicate z 48).toArray⟩:ByteArray).size=3:=by rw [ByteArray.size_append,zr,zb]; omega
 have HZ:=hid hz;have hcat:¬ 9223372036854775807 < b.length+z:=by omega
 have hz3:z≤3:=by omega
 clear hv hz;generalize (⟨(List.replicate z 48).toArray⟩:ByteArray)=Z at KR KN zr zbr
 rcases ha with rfl | rfl
 all_goals
  go_enter Tryz.func18,Tryz.ntmps18
  go_wp2_with fail
  refine (K.out _).mono ?_
  rintro e w1 ⟨rfl,q,rfl⟩;go_wp2_with fail
  refine (KR.out _).mono ?_
  rintro e w' ⟨rfl,hw'⟩; rw [hw']; clear hw' w'
  go_wp2_with fail
  refine (KN.out _).mono ?_
  rintro e w' ⟨rfl,hw'⟩; rw [hw']; clear hw' w'
  go_wp2;go_ret2;exact ⟨by rw [HV.out]; rfl,q,rfl⟩
def kidsL (d:Int):List Nd → Nat → List Nat
 | [],_=>[]
 | x :: r,i=>if x.deep≤d then [] else if x.deep=d+1 then i :: kidsL d r (i+1) else kidsL d r (i+1)
def startsX (d:Nat):List XT → Nat → List Nat
 | [],_=>[]
 | k :: ks,p=>p :: startsX d ks (p+(flatX d k).length)
mutual
theorem flatX_deep (d:Nat):∀ (t:XT) (x:Nd),x ∈ flatX d t → (d:Int)≤x.deep
 | .mk n a tx k,x,h=>by
  rw [flatX] at h
  rcases List.mem_cons.1 h with h | h
  ·subst h; exact Int.le_refl _
  ·have:=flatXs_deep (d+1) k x h; omega
theorem flatXs_deep (d:Nat):∀ (ks:List XT) (x:Nd),x ∈ flatXs d ks → (d:Int)≤x.deep
 | [],x,h=>by rw [flatXs] at h; simp at h
 | k :: ks,x,h=>by
  rw [flatXs] at h
  rcases List.mem_append.1 h with h | h
  ·exact flatX_deep d k x h
  ·exact flatXs_deep d ks x h
end
theorem kids_skip (d:Int):∀ (l r:List Nd) (p:Nat),(∀ x ∈ l,d+2≤x.deep) → kidsL d (l++r) p=kidsL d r (p+l.length)
 | [],r,p,_=>by simp
 | x :: l,r,p,h=>by
  have hx:=h x (by simp);rw [List.cons_append,kidsL,if_neg (by omega),if_neg (by omega),kids_skip d l r (p+1) (fun y hy=>h y (by simp [hy]))]
  congr 1
  simp; omega
theorem kids_of (d:Nat):∀ (ks:List XT) (post:List Nd) (p:Nat),(∀ x,post.head? = some x → x.deep≤(d:Int)) → kidsL d (flatXs (d+1) ks++post) p=startsX (d+1) ks p
 | [],post,p,h=>by
  rw [flatXs,List.nil_append,startsX]
  cases post with
  | nil=>rfl
  | cons x r=>rw [kidsL,if_pos (h x rfl)]
 | k :: ks,post,p,h=>by
  obtain ⟨n,a,tx,kk⟩:=k;rw [flatXs,List.append_assoc,startsX];have e:flatX (d+1) (.mk n a tx kk)=⟨((d+1:Nat):Int),n,a,tx⟩ :: flatXs (d+1+1) kk:=by rw [flatX]
  rw [e,List.cons_append,kidsL,if_neg (by simp only; omega),if_pos (by simp only; omega),kids_skip _ _ _ _ (fun x hx=>by have:=flatXs_deep _ _ x hx; omega),kids_of d ks post _ h]
  congr 2
  simp; omega
def posCells (l:List Nat):List Value:=l.map fun (i:Nat)=>Value.int .i64 (i:Int)
theorem kids_len (d:Int):∀ (l:List Nd) (p:Nat),(kidsL d l p).length≤l.length
 | [],p=>by simp [kidsL]
 | x :: r,p=>by
  rw [kidsL]
  have:=kids_len d r (p+1)
  split
  ·simp
  ·split
   ·simp; omega
   ·simp; omega
theorem infoInt:(Tryz.prog.info? 3).map (fun i=>(i.zero,i.size,i.bytes))=some (some (.int .i64 0),1,8):=by kernel_rfl
theorem kidsL_at {d:Int} {l:List Nd} {k:Nat} (hk:k < l.length):kidsL d (l.drop k) k=if l[k].deep≤d then [] else if l[k].deep=d+1 then k :: kidsL d (l.drop (k+1)) (k+1) else kidsL d (l.drop (k+1)) (k+1):=by
 rw [List.drop_eq_getElem_cons hk,kidsL]
theorem ndsL_get {cs:List NdC} {k:Nat} (h:k < cs.length):(ndsL cs)[k]'(by rw [ndsL_len]; exact h)=cs[k].nd:=by simp [ndsL]
set_option maxHeartbeats 4000000 in
set_option maxRecDepth 100000 in
theorem xkids_any (v:Value) (cs:List NdC) (k:Nat) (w:World) (hk:k < cs.length) (hz:cs.length≤1000000) (hd:0≤cs[k].nd.deep) (hd2:cs[k].nd.deep≤1000000) (hv:NdsAt w v cs) :
  Calls Tryz.prog 113 #[v,.int .i64 k] w fun e w'=>∃ kv,e=.returned kv∧Own w' w.heap.size 3 kv (posCells (kidsL cs[k].nd.deep ((ndsL cs).drop (k+1)) (k+1)))∧Below w.heap.size w w':=by
 obtain ⟨i0,hi,hz0,hz1,hz2⟩:=info_parts infoInt;obtain ⟨ao,cap,rfl,hc⟩:=hv;obtain ⟨ad,hao,hab,c0,cP⟩:=hc k hk;subst hao;have HC:Hid (∀ j (hj:j < cs.length),w.cell? (ad.add (j * 4))=some (.int .i64 cs[j].nd.deep)):=fun j hj=>by
  obtain ⟨ad3,hao3,_,c3,_⟩:=hc j hj
  have:ad3=ad:=(Option.some.inj hao3).symm
  subst this; exact c3.c0
 have z0:=c0.c0;generalize cs[k].nd.deep=d at z0 hd hd2 ⊢;obtain ⟨R,hR⟩:∃ R,R=kidsL d ((ndsL cs).drop (k+1)) (k+1):=⟨_,rfl⟩
 rw [← hR];have HR:=hid hR;obtain ⟨n,hn⟩:∃ n,n=cs.length:=⟨_,rfl⟩
 have HL:=hid hn;have hkn:k < n:=by omega
 have hzn:n≤1000000:=by omega
 rw [← hn];have q1:¬ (k:Int) < 0:=by omega
 have q2:¬ (n:Int)≤(k:Int):=by omega
 have q3:(k:Int) < (n:Int):=by omega
 have hw1:IntKind.i64.wrap ((k:Int)+1)=(k:Int)+1:=by rw [IntKind.wrap_i64]; omega
 have hw2:IntKind.i64.wrap (d+1)=d+1:=by rw [IntKind.wrap_i64]; omega
 clear hc c0 cP hR hn hk hz
 go_enter Tryz.func113,Tryz.ntmps113
 go_wp2
 go_loopw [6,7] (fun pv iv wr=>∃ (j:Nat) (acc:List Nat),j≤n∧k+1≤j∧iv=.int .i64 (j:Int)∧Hid (R=acc++kidsL d ((ndsL cs).drop j) j)∧acc.length≤j∧Own wr w.heap.size 3 pv (posCells acc)∧Below w.heap.size w wr∧w.heap.size≤wr.heap.size) (fun _ iv _=>n - (intOf iv).toNat)
 case atStart=>exact ⟨k+1,[],by omega,Nat.le_refl _,by first | rfl | (congr 1),HR,by simp,Own.nil _ _ _,Below.refl _ _,Nat.le_refl _⟩
 case round =>
  obtain ⟨j,acc,hjn,hkj,rfl,hv,hal,hown,hb,hB⟩:=hrel;clear HR z0;by_cases hlt:j < n
  ·have hjl:j < cs.length:=by have:=HL.out; omega
   have hjl2:j < (ndsL cs).length:=by rw [ndsL_len]; exact hjl
   have cj:=cell_below hb (by rw [add_block]; exact hab) (HC.out j hjl);have hv2:=hv.out;rw [kidsL_at hjl2,ndsL_get hjl] at hv2;generalize cs[j].nd.deep=x at cj hv2;have q6:(j:Int) < (n:Int):=by omega
   have hwj:IntKind.i64.wrap ((j:Int)+1)=(j:Int)+1:=by rw [IntKind.wrap_i64]; omega
   by_cases hx:x≤d
   ·rw [if_pos hx,List.append_nil] at hv2;have hE:=hid hv2;have qx:¬ d < x:=by omega
    clear hv hv2 hx;go_wp2;go_ret;exact ⟨_,rfl,by rw [hE.out]; exact hown,hb⟩
   ·have qx:d < x:=by omega
    rw [if_neg hx] at hv2;by_cases hx1:x=d+1
    ·rw [if_pos hx1] at hv2;have hE:Hid (R=(acc++[j])++kidsL d ((ndsL cs).drop (j+1)) (j+1)):=show _=_ by rw [hv2]; simp
     have q7:(x==d+1)=true:=by rw [beq_iff_eq]; exact hx1
     have hpl:(posCells acc).length=acc.length:=by simp [posCells]
     clear hv hv2 hx hx1;go_wp2_with (at_builtin; refine wp_app _ rfl (.tmp 46) (.tmp 48) 78 rfl w.heap.size 3 i0 (.int .i64 0) 8 Tryz.underlying78 hi hz0 hz1 hz2 rfl _ _ rfl (hown.alloc _) ⟨_,0,none⟩ 1 1 [.int .i64 (j:Int)] rfl rfl (by exact one_new _ _ _) (by intro u hu; simp at hu; subst hu; rfl) (by rw [hpl]; unfold maxLen; omega) (by rw [hpl]; omega) w (hb.alloc hB _) (by simp; omega) ?_; intro v3 w3 hown3 hb3 hB3)
     rw [show posCells acc++[.int .i64 (j:Int)]=posCells (acc++[j]) by simp [posCells]] at hown3;go_roundw
     case rel=>exact ⟨j+1,acc++[j],by omega,by omega,by first | rfl | (congr 1),hE,by simp; omega,hown3,hb3,hB3⟩
     case measure=>simp [intOf]; omega
    ·rw [if_neg hx1] at hv2;have hE:=hid hv2;have q7:(x==d+1)=false:=by rw [beq_eq_false_iff_ne]; exact hx1
     clear hv hv2 hx hx1;go_wp2;go_roundw
     case rel=>exact ⟨j+1,acc,by omega,by omega,by first | rfl | (congr 1),hE,by omega,hown,hb,hB⟩
     case measure=>simp [intOf]; omega
  ·have hE:Hid (R=acc):=show _=_ by
    rw [hv.out,List.drop_eq_nil_of_le (by rw [ndsL_len]; have:=HL.out; omega),kidsL,List.append_nil]
   have q6:¬ (j:Int) < (n:Int):=by omega
   clear hv;go_wp2;go_ret;exact ⟨_,rfl,by rw [hE.out]; exact hown,hb⟩
def SubAt (l:List Nd) (p d:Nat) (t:XT):Prop:=∃ post,l.drop p=flatX d t++post∧∀ x,post.head? = some x → x.deep≤(d:Int)
theorem sub_root {l:List Nd} {t:XT} (h:flatX 0 t=l):SubAt l 0 0 t:=⟨[],by rw [List.drop_zero,List.append_nil,h],fun x hx=>by simp at hx⟩
theorem sub_lt {l:List Nd} {p d:Nat} {t:XT} (h:SubAt l p d t):p < l.length:=by
 obtain ⟨post,h1,_⟩:=h;obtain ⟨n,a,tx,k⟩:=t
 apply Classical.byContradiction
 intro hn;rw [List.drop_eq_nil_of_le (by omega),flatX] at h1
 cases h1
theorem sub_node {l:List Nd} {p d:Nat} {t:XT} (h:SubAt l p d t):l[p]'(sub_lt h)=⟨d,nameT t,attrsOf t,textOf t⟩:=by
 have hl:=sub_lt h;obtain ⟨post,h1,_⟩:=h;obtain ⟨n,a,tx,k⟩:=t;rw [List.drop_eq_getElem_cons hl,flatX,List.cons_append] at h1
 injection h1 with h1 _
def startsP (d:Nat):List XT → Nat → List (Nat × XT)
 | [],_=>[]
 | k :: ks,p=>(p,k) :: startsP d ks (p+(flatX d k).length)
theorem startsP_fst (d:Nat):∀ (ks:List XT) (p:Nat),(startsP d ks p).map Prod.fst=startsX d ks p
 | [],p=>rfl
 | k :: ks,p=>by rw [startsP,startsX,List.map_cons,startsP_fst d ks]
theorem startsP_snd (d:Nat):∀ (ks:List XT) (p:Nat),(startsP d ks p).map Prod.snd=ks
 | [],p=>rfl
 | k :: ks,p=>by rw [startsP,List.map_cons,startsP_snd d ks]
theorem sub_row {l:List Nd} {d:Nat}:∀ (ks:List XT) (p:Nat) (post:List Nd),l.drop p=flatXs d ks++post → (∀ x,post.head? = some x → x.deep≤(d:Int)) → ∀ y ∈ startsP d ks p,SubAt l y.1 d y.2
 | [],p,post,_,_,y,hy=>by simp [startsP] at hy
 | k :: ks,p,post,h,hp,y,hy=>by
  rw [flatXs,List.append_assoc] at h;rw [startsP] at hy
  rcases List.mem_cons.1 hy with rfl | hy
  ·refine ⟨_,h,fun x hx=>?_⟩
   cases ks with
   | nil=>rw [flatXs,List.nil_append] at hx; exact hp x hx
   | cons q qs =>
    obtain ⟨n,a,tx,k2⟩:=q;rw [flatXs,flatX,List.cons_append,List.cons_append,List.head?_cons] at hx
    injection hx with hx
    subst hx
    simp
  ·refine sub_row ks (p+(flatX d k).length) post ?_ hp y hy
   rw [← List.drop_drop,h,List.drop_left]
theorem sub_kids {l:List Nd} {p d:Nat} {t:XT} (h:SubAt l p d t):∀ y ∈ startsP (d+1) (kidsOf t) (p+1),SubAt l y.1 (d+1) y.2:=by
 obtain ⟨post,h1,h2⟩:=h;obtain ⟨n,a,tx,k⟩:=t;have h3:l.drop (p+1)=flatXs (d+1) k++post:=by
  have:=congrArg (List.drop 1) h1
  rw [flatX,List.drop_drop] at this
  simpa using this
 exact sub_row k (p+1) post h3 fun x hx=>by have:=h2 x hx; omega
theorem sub_places {l:List Nd} {p d:Nat} {t:XT} (h:SubAt l p d t):kidsL d (l.drop (p+1)) (p+1)=(startsP (d+1) (kidsOf t) (p+1)).map Prod.fst:=by
 obtain ⟨post,h1,h2⟩:=h;obtain ⟨n,a,tx,k⟩:=t;have h3:l.drop (p+1)=flatXs (d+1) k++post:=by
  have:=congrArg (List.drop 1) h1
  rw [flatX,List.drop_drop] at this
  simpa using this
 rw [startsP_fst,h3];exact kids_of d k post (p+1) h2
def namedP (nm:List UInt8) (ps:List (Nat × XT)):List (Nat × XT):=ps.filter fun y=>localX (nameT y.2)==nm
theorem namedP_snd (nm:List UInt8) (ps:List (Nat × XT)):(namedP nm ps).map Prod.snd=namedX nm (ps.map Prod.snd):=by
 unfold namedP namedX;rw [List.filter_map]; rfl
theorem namedP_kids (nm:List UInt8) (d:Nat) (ks:List XT) (p:Nat):(namedP nm (startsP d ks p)).map Prod.snd=namedX nm ks:=by rw [namedP_snd,startsP_snd]
theorem namedP_sub {nm:List UInt8} {l:List Nd} {p d:Nat} {t:XT} (h:SubAt l p d t):∀ y ∈ namedP nm (startsP (d+1) (kidsOf t) (p+1)),SubAt l y.1 (d+1) y.2:=fun y hy=>sub_kids h y (List.mem_filter.1 hy).1
theorem namedP_len {nm:List UInt8} {d:Nat} {ks:List XT} {p:Nat}:(namedP nm (startsP d ks p)).length=(namedX nm ks).length:=by rw [← namedP_kids nm d ks p,List.length_map]
end Go.Proofs.YtdnekampnkhmfaaGreatDoor
