/-
  PNd, PdL, PD1, PD2, XKids, Builder, XBld, XWrite.
-/
import Derived.Test.YtldkidljjbkmbaaGreatDoorPX03
import Derived.Lib.Builder
set_option linter.unusedVariables false
set_option linter.unusedSimpArgs false
set_option maxRecDepth 20000
namespace Go.Proofs.YtldkidljjbkmbaaGreatDoor
open Go.RowKit Sc
theorem wp_appNs {P:Program} (w:World) {ops:Array Oper} {rest:List Oper} {o:Oper} {a:Act} {Q:Exit → Act → World → Prop} (hgd:o.guard=none)
  (s x:Operand) (t:TypeId) (ho:o.op=Op.call { callee:=Callee.builtin Builtin.append,args:=#[s,x],argTypes:=#[t,t] }) (B:Nat) (i:TypeInfo)
  (z:Value) (ht:P.underlying t=some (TypeDesc.slice 82)) (hi:P.info? 82=some i) (hz:i.zero=some z) (hsize:i.size=4) (hby:i.bytes=64) (hzs:z.cells.size=4)
  (v:Value) (cs:List NdC) (hs:a.eval s=v) (hown:OwnN w B v cs) (ad:Addr) (k:Nat) (c:List NdC) (n:Nat) (hn:n=c.length) (hn0:0 < n) (hc:∀ d ∈ c,OwnP w B d.a d.nd.attrs) (hx:a.eval x=Value.slice (some ad) n k)
  (hnews:∀ (j:Nat) (u:Value),(ndsCells c)[j]? = some u → w.cell? (ad.add j)=some u)
  (hlen:cs.length≤1000000) (hlen2:c.length≤1000000) (hB:B≤w.heap.size)
  (h:∀ (v':Value) (w':World),OwnN w' B v' (cs++c) → FrN v w v' w' → wpList P ops Q rest (a.put o.dst v') w'):wpList P ops Q (o :: rest) a w:=by
 have one:∀ (ps:List Par) (B:Nat) (v:Value),OwnP w B v ps → v.oneCell'=true:=fun ps B v h=>by
  rcases h.2 with ⟨rfl,_⟩ | ⟨g,cap,cur,rfl,_⟩ <;> rfl
 subst hn
 refine wpList_append_own_at w hgd s x t ho B 82 i z 4 64 ht hi hz hsize hby hzs (by decide) v cs.length (ndsCells cs) hs hown.1 ad c.length k (ndsCells c) hx (ndsCells_len c) hnews
  (by
   intro u hu;unfold ndsCells at hu;obtain ⟨d,hd,hu⟩:=List.mem_flatMap.1 hu
   simp [ndCells] at hu
   rcases hu with rfl | rfl | rfl | rfl <;> first | rfl | exact one _ _ _ (hc d hd)) (by unfold maxLen; omega) (by omega) hB ?_
 intro v' w' hown' hgr _ hat;have keep:∀ (ps:List Par) (u:Value),OwnP w B u ps → OwnP w' B u ps:=fun ps u hu=>World.ownsRow.kept hu hgr (rows_neN hown.1 hu (by decide));refine h v' w' ⟨?_,?_⟩ (grown_fr hgr hat)
 ·have e:ndsCells (cs++c)=ndsCells cs++ndsCells c:=by simp [ndsCells]
  rw [e,List.length_append];exact hown'
 ·intro c' hc'
  rcases List.mem_append.1 hc' with hc' | hc'
  ·exact keep _ _ (hown.2 c' hc')
  ·exact keep _ _ (hc c' hc')
theorem ownN_cells {w:World} {B:Nat} {a:Option Addr} {n k:Nat} {cs:List NdC} (h:OwnN w B (.slice a n k) cs) (h0:0 < cs.length):∃ g,a=some ⟨g,0,none⟩∧n=cs.length∧g < w.heap.size∧B≤g∧∀ (j:Nat) (u:Value),(ndsCells cs)[j]? = some u → w.cell? ((⟨g,0,none⟩:Addr).add j)=some u:=by
 have h1:=h.1
 rcases h.1.2 with ⟨e,hn⟩ | ⟨g,cap,cur,e,hb,hg,_⟩
 ·omega
 ·injection e with ea en ek
  subst ea en ek;exact ⟨g,rfl,rfl,(Array.getElem?_eq_some_iff.1 hg).1,hb,fun j u hj=>World.ownsRow.cells h1 (g:=g) rfl j u hj⟩
theorem dig_thou {k:Nat} (h:k < 1000):digL (1000+k)=49 :: d3 k:=by
 have hz:∀ m:Nat,digb m=UInt8.ofNat (48+m % 10):=fun m=>rfl;rw [digL_big (by omega),digL_big (by omega),digL_big (by omega),digL_small (by omega)];have e1:(1000+k) / 10 / 10 / 10 % 10=1:=by omega
 have e2:(1000+k) / 10 / 10 % 10=k / 100 % 10:=by omega
 have e3:(1000+k) / 10 % 10=k / 10 % 10:=by omega
 have e4:(1000+k) % 10=k % 10:=by omega
 simp only [d3,hz,e1,e2,e3,e4]
 rfl
theorem d3_len (k:Nat):(d3 k).length=3:=rfl
theorem ret_data {t:ByteArray} {l:List UInt8} (h:t.data.toList=l):Ending.returned (.string t)=.returned (.string ⟨l.toArray⟩):=by
 rw [← h]
set_option maxHeartbeats 1000000 in
theorem trimZ_byte (s:ByteArray) (w:World) (hs:s.size≤1000) :
  Calls Tryz.prog 128 #[.string s,.int .u8 48] w fun e w'=>e=.returned (.string ⟨(stripZ s.data.toList).toArray⟩)∧w'=w:=by
 go_enter Tryz.func128,Tryz.ntmps128
 go_wp2
 go_loop [0] (fun v=>∃ u:ByteArray,v=.string u∧u.size≤1000∧Hid (stripZ u.data.toList=stripZ s.data.toList)) (fun v=>lenV v)
 case atStart=>exact ⟨s,rfl,hs,hid rfl⟩
 case round =>
  obtain ⟨u,rfl,hu,hd⟩:=hrel;by_cases h0:0 < u.size
  ·have hlt:u.size - 1 < u.size:=by omega
   have hbd:=u8_bd u[u.size - 1];have q0:(0:Int) < (u.size:Int):=by omega
   have hw1:IntKind.i64.wrap ((u.size:Int) - 1)=((u.size - 1:Nat):Int):=by rw [IntKind.wrap_i64]; omega
   have hn1:((u.size:Int) - 1).toNat=u.size - 1:=by omega
   by_cases hx:u[u.size - 1]=48
   ·have p1:((u[u.size - 1].toNat:Int)==48)=true:=u8_eq (b:=48) hx;have hd2:Hid (stripZ (u.extract 0 (u.size - 1)).data.toList=stripZ s.data.toList):=show _=_ by rw [stripB_step u hlt hx]; exact hd.out
    have hz:(u.extract 0 (u.size - 1)).size < u.size∧(u.extract 0 (u.size - 1)).size≤1000:=by rw [ByteArray.size_extract]; omega
    clear hd hx;go_wp2
    go_round
    case rel=>exact ⟨_,rfl,hz.2,hd2⟩
    case measure=>exact hz.1
   ·have p1:((u[u.size - 1].toNat:Int)==48)=false:=u8_ne (b:=48) hx;have hE:Hid (u.data.toList=stripZ s.data.toList):=show _=_ by rw [← hd.out,stripB_stop u hlt hx]
    clear hd hx;go_wp2;go_ret;exact ⟨ret_data hE.out,rfl⟩
  ·have q0:¬ (0:Int) < (u.size:Int):=by omega
   have e:u.data.toList=[]:=List.eq_nil_of_length_eq_zero (by rw [len_data]; omega);have hE:Hid (u.data.toList=stripZ s.data.toList):=show _=_ by rw [← hd.out,e]; rfl
   clear hd e;go_wp2;go_ret;exact ⟨ret_data hE.out,rfl⟩
set_option maxHeartbeats 1000000 in
theorem trimZ_any (l:List UInt8) (w:World) (h0:l.isEmpty=false) (hl:l.length≤1000) :
  Calls Tryz.prog 134 #[.string ⟨l.toArray⟩,.string ⟨#[48]⟩] w fun e w'=>e=.returned (.string ⟨(stripZ l).toArray⟩)∧w'=w:=by
 have K:=hid (fun w'=>trimZ_byte ⟨l.toArray⟩ w' (by rw [size_list]; exact hl));rw [show (⟨l.toArray⟩:ByteArray).data.toList=l from by simp] at K;generalize stripZ l=R at K ⊢;have hne:(l==[])=false:=by cases l <;> simp_all
 have h1:(ByteArray.mk #[48]).size=1:=rfl
 go_enter Tryz.func134,Tryz.ntmps134
 go_wp2_with (go_at_call 128; refine (K.out _).mono ?_; rintro e w' ⟨rfl,hw'⟩; rw [hw']; clear hw' w')
 go_ret;exact ⟨rfl,rfl⟩
set_option maxHeartbeats 1000000 in
set_option maxRecDepth 100000 in
theorem pdec_any (n:Int) (w:World):Calls Tryz.prog 105 #[.int .i64 n] w fun e w'=>e=.returned (.string ⟨(decL n).toArray⟩)∧Below w.heap.size w w':=by
 have hv:decL n=if n < 0∨1000 < n then [] else if n=0 then [48] else if n=1000 then [49] else [48,46]++stripZ (d3 n.toNat):=rfl
 generalize decL n=R at hv ⊢;by_cases h0:n < 0
 ·rw [if_pos (.inl h0)] at hv;have HV:=hid hv;clear hv
  go_enter Tryz.func105,Tryz.ntmps105
  go_wp2;go_ret;exact ⟨by rw [HV.out]; rfl,Below.refl _ _⟩
 by_cases h1:1000 < n
 ·rw [if_pos (.inr h1)] at hv;have HV:=hid hv;clear hv
  go_enter Tryz.func105,Tryz.ntmps105
  go_wp2;go_ret;exact ⟨by rw [HV.out]; rfl,Below.refl _ _⟩
 rw [if_neg (by omega)] at hv;by_cases h2:n=0
 ·rw [if_pos h2] at hv;have HV:=hid hv;subst h2;clear hv;have K:=hid (fun w'=>digits_any 0 w' (by omega));rw [show digL 0=[48] from by rw [digL_small (by omega)]; rfl] at K
  go_enter Tryz.func105,Tryz.ntmps105
  go_wp2_with fail
  refine (K.out _).mono ?_
  rintro e w1 ⟨rfl,hw1⟩;go_wp2;go_ret;exact ⟨by rw [HV.out]; rfl,hw1⟩
 by_cases h3:n=1000
 ·rw [if_neg h2,if_pos h3] at hv;have HV:=hid hv;subst h3;clear hv;have K:=hid (fun w'=>digits_any 1 w' (by omega));rw [show digL 1=[49] from by rw [digL_small (by omega)]; rfl] at K
  go_enter Tryz.func105,Tryz.ntmps105
  go_wp2_with fail
  refine (K.out _).mono ?_
  rintro e w1 ⟨rfl,hw1⟩;go_wp2;go_ret;exact ⟨by rw [HV.out]; rfl,hw1⟩
 rw [if_neg h2,if_neg h3] at hv;obtain ⟨k,rfl⟩:=Int.eq_ofNat_of_zero_le (show 0≤n by omega);rw [Int.toNat_natCast] at hv;have hk0:0 < k:=by omega
 have hk1:k < 1000:=by omega
 have K0:=hid (fun w'=>digits_any 0 w' (by omega));rw [show digL 0=[48] from by rw [digL_small (by omega)]; rfl] at K0;have K1:=hid (fun w'=>digits_any (1000+k) w' (by omega));rw [dig_thou hk1] at K1;have e3:=d3_len k;generalize d3 k=T at K1 hv e3;have KT:=hid (fun w'=>trimZ_any T w' (by cases T <;> simp_all) (by omega))
 have hsl:(stripZ T).length≤3:=by
  unfold stripZ;rw [List.length_reverse]
  have:=(List.dropWhile_suffix (l:=T.reverse) (·==48)).length_le
  rw [List.length_reverse] at this;omega
 have HG:Hid (⟨#[48]⟩++⟨#[46]⟩++⟨(stripZ T).toArray⟩=(⟨([48,46]++stripZ T).toArray⟩:ByteArray)):=show _=_ by rw [show (⟨#[48]⟩:ByteArray)++⟨#[46]⟩=⟨[48,46].toArray⟩ from rfl,glueLL]
 have HV:=hid hv;generalize stripZ T=S at KT hsl HG HV;have zs:=size_list S;have z4:(⟨(49 :: T).toArray⟩:ByteArray).size=4:=by rw [size_list]; simp; omega
 have hex:(⟨(49 :: T).toArray⟩:ByteArray).extract 1 4=⟨T.toArray⟩:=by rw [ext_list]; simp [List.take_of_length_le,e3]
 have hq:((k:Int)).tdiv 1000=0:=by rw [Int.tdiv_eq_ediv_of_nonneg (by omega)]; omega
 have hr:((k:Int)).tmod 1000=(k:Int):=by rw [Int.tmod_eq_emod_of_nonneg (by omega)]; omega
 have hw:IntKind.i64.wrap (1000+(k:Int))=((1000+k:Nat):Int):=by rw [IntKind.wrap_i64]; omega
 have q0:((k:Int)==0)=false:=by rw [beq_eq_false_iff_ne]; omega
 clear hv h2 h3 h0 h1
 go_enter Tryz.func105,Tryz.ntmps105
 go_wp2_with fail
 refine (K0.out _).mono ?_
 rintro e w1 ⟨rfl,hw1⟩;go_wp2_with fail
 refine (K1.out _).mono ?_
 rintro e w2 ⟨rfl,hw2⟩;go_wp2_with fail
 refine (KT.out _).mono ?_
 rintro e w' ⟨rfl,hw'⟩; rw [hw']; clear hw' w'
 go_wp2;go_ret;exact ⟨by rw [HV.out,← HG.out]; rfl,hw1.trans (hw2.mono hw1.size)⟩
def kidsL (d:Int):List Nd → Nat → List Nat
 | [],_=>[]
 | x :: r,i=>if x.deep≤d then [] else if x.deep=d+1 then i :: kidsL d r (i+1) else kidsL d r (i+1)
def startsX (d:Nat):List XT → Nat → List Nat
 | [],_=>[]
 | k :: ks,p=>p :: startsX d ks (p+(flatX d k).length)
mutual
theorem flatX_deep (d:Nat):∀ (t:XT) (x:Nd),x ∈ flatX d t → (d:Int)≤x.deep
 | .mk n a tx k,x,h=>by
  rw [flatX] at h
  rcases List.mem_cons.1 h with h | h
  ·subst h; exact Int.le_refl _
  ·have:=flatXs_deep (d+1) k x h; omega
theorem flatXs_deep (d:Nat):∀ (ks:List XT) (x:Nd),x ∈ flatXs d ks → (d:Int)≤x.deep
 | [],x,h=>by rw [flatXs] at h; simp at h
 | k :: ks,x,h=>by
  rw [flatXs] at h
  rcases List.mem_append.1 h with h | h
  ·exact flatX_deep d k x h
  ·exact flatXs_deep d ks x h
end
theorem kids_skip (d:Int):∀ (l r:List Nd) (p:Nat),(∀ x ∈ l,d+2≤x.deep) → kidsL d (l++r) p=kidsL d r (p+l.length)
 | [],r,p,_=>by simp
 | x :: l,r,p,h=>by
  have hx:=h x (by simp);rw [List.cons_append,kidsL,if_neg (by omega),if_neg (by omega),kids_skip d l r (p+1) (fun y hy=>h y (by simp [hy]))]
  congr 1
  simp; omega
theorem kids_of (d:Nat):∀ (ks:List XT) (post:List Nd) (p:Nat),(∀ x,post.head? = some x → x.deep≤(d:Int)) → kidsL d (flatXs (d+1) ks++post) p=startsX (d+1) ks p
 | [],post,p,h=>by
  rw [flatXs,List.nil_append,startsX]
  cases post with
  | nil=>rfl
  | cons x r=>rw [kidsL,if_pos (h x rfl)]
 | k :: ks,post,p,h=>by
  obtain ⟨n,a,tx,kk⟩:=k;rw [flatXs,List.append_assoc,startsX];have e:flatX (d+1) (.mk n a tx kk)=⟨((d+1:Nat):Int),n,a,tx⟩ :: flatXs (d+1+1) kk:=by rw [flatX]
  rw [e,List.cons_append,kidsL,if_neg (by simp only; omega),if_pos (by simp only; omega),kids_skip _ _ _ _ (fun x hx=>by have:=flatXs_deep _ _ x hx; omega),kids_of d ks post _ h]
  congr 2
  simp; omega
def posCells (l:List Nat):List Value:=l.map fun (i:Nat)=>Value.int .i64 (i:Int)
theorem infoInt:(Tryz.prog.info? 3).map (fun i=>(i.zero,i.size,i.bytes))=some (some (.int .i64 0),1,8):=by kernel_rfl
theorem kidsL_at {d:Int} {l:List Nd} {k:Nat} (hk:k < l.length):kidsL d (l.drop k) k=if l[k].deep≤d then [] else if l[k].deep=d+1 then k :: kidsL d (l.drop (k+1)) (k+1) else kidsL d (l.drop (k+1)) (k+1):=by
 rw [List.drop_eq_getElem_cons hk,kidsL]
theorem ndsL_get {cs:List NdC} {k:Nat} (h:k < cs.length):(ndsL cs)[k]'(by rw [ndsL_len]; exact h)=cs[k].nd:=by simp [ndsL]
set_option maxHeartbeats 4000000 in
set_option maxRecDepth 100000 in
theorem xkids_any (v:Value) (cs:List NdC) (k:Nat) (w:World) (hk:k < cs.length) (hz:cs.length≤1000000) (hd:0≤cs[k].nd.deep) (hd2:cs[k].nd.deep≤1000000) (hv:NdsAt w v cs) :
  Calls Tryz.prog 71 #[v,.int .i64 k] w fun e w'=>∃ kv,e=.returned kv∧Own w' w.heap.size 3 kv (posCells (kidsL cs[k].nd.deep ((ndsL cs).drop (k+1)) (k+1)))∧Below w.heap.size w w':=by
 obtain ⟨i0,hi,hz0,hz1,hz2⟩:=info_parts infoInt;obtain ⟨ao,cap,rfl,hc⟩:=hv;obtain ⟨ad,hao,hab,c0,cP⟩:=hc k hk;subst hao
 have HC:Hid (∀ j (hj:j < cs.length),w.cell? (ad.add (j * 4))=some (.int .i64 cs[j].nd.deep)):=fun j hj=>by
  obtain ⟨ad3,hao3,_,c3,_⟩:=hc j hj
  have:ad3=ad:=(Option.some.inj hao3).symm
  subst this; exact c3.c0
 have z0:=c0.c0;generalize cs[k].nd.deep=d at z0 hd hd2 ⊢;obtain ⟨R,hR⟩:∃ R,R=kidsL d ((ndsL cs).drop (k+1)) (k+1):=⟨_,rfl⟩
 rw [← hR];have HR:=hid hR;obtain ⟨n,hn⟩:∃ n,n=cs.length:=⟨_,rfl⟩
 have HL:=hid hn;have hkn:k < n:=by omega
 have hzn:n≤1000000:=by omega
 rw [← hn];have q1:¬ (k:Int) < 0:=by omega
 have q2:¬ (n:Int)≤(k:Int):=by omega
 have q3:(k:Int) < (n:Int):=by omega
 have hw1:IntKind.i64.wrap ((k:Int)+1)=(k:Int)+1:=by rw [IntKind.wrap_i64]; omega
 have hw2:IntKind.i64.wrap (d+1)=d+1:=by rw [IntKind.wrap_i64]; omega
 clear hc c0 cP hR hn hk hz
 go_enter Tryz.func71,Tryz.ntmps71
 go_wp2
 go_loopw [6,7] (fun pv iv wr=>∃ (j:Nat) (acc:List Nat),j≤n∧k+1≤j∧iv=.int .i64 (j:Int)∧Hid (R=acc++kidsL d ((ndsL cs).drop j) j)∧acc.length≤j∧Own wr w.heap.size 3 pv (posCells acc)∧Below w.heap.size w wr∧w.heap.size≤wr.heap.size) (fun _ iv _=>n - (intOf iv).toNat)
 case atStart=>exact ⟨k+1,[],by omega,Nat.le_refl _,by first | rfl | (congr 1),HR,by simp,Own.nil _ _ _,Below.refl _ _,Nat.le_refl _⟩
 case round =>
  obtain ⟨j,acc,hjn,hkj,rfl,hv,hal,hown,hb,hB⟩:=hrel;clear HR z0;by_cases hlt:j < n
  ·have hjl:j < cs.length:=by have:=HL.out; omega
   have hjl2:j < (ndsL cs).length:=by rw [ndsL_len]; exact hjl
   have cj:=cell_below hb (by rw [add_block]; exact hab) (HC.out j hjl);have hv2:=hv.out;rw [kidsL_at hjl2,ndsL_get hjl] at hv2;generalize cs[j].nd.deep=x at cj hv2;have q6:(j:Int) < (n:Int):=by omega
   have hwj:IntKind.i64.wrap ((j:Int)+1)=(j:Int)+1:=by rw [IntKind.wrap_i64]; omega
   by_cases hx:x≤d
   ·rw [if_pos hx,List.append_nil] at hv2;have hE:=hid hv2;have qx:¬ d < x:=by omega
    clear hv hv2 hx;go_wp2;go_ret;exact ⟨_,rfl,by rw [hE.out]; exact hown,hb⟩
   ·have qx:d < x:=by omega
    rw [if_neg hx] at hv2;by_cases hx1:x=d+1
    ·rw [if_pos hx1] at hv2;have hE:Hid (R=(acc++[j])++kidsL d ((ndsL cs).drop (j+1)) (j+1)):=show _=_ by rw [hv2]; simp
     have q7:(x==d+1)=true:=by rw [beq_iff_eq]; exact hx1
     have hpl:(posCells acc).length=acc.length:=by simp [posCells]
     clear hv hv2 hx hx1;go_wp2_with (at_builtin; refine wp_app _ rfl (.tmp 46) (.tmp 48) 112 rfl w.heap.size 3 i0 (.int .i64 0) 8 Tryz.underlying112 hi hz0 hz1 hz2 rfl _ _ rfl (hown.alloc _) ⟨_,0,none⟩ 1 1 [.int .i64 (j:Int)] rfl rfl (by exact one_new _ _ _) (by intro u hu; simp at hu; subst hu; rfl) (by rw [hpl]; unfold maxLen; omega) (by rw [hpl]; omega) w (hb.alloc hB _) (by simp; omega) ?_; intro v3 w3 hown3 hb3 hB3)
     rw [show posCells acc++[.int .i64 (j:Int)]=posCells (acc++[j]) by simp [posCells]] at hown3;go_roundw
     case rel=>exact ⟨j+1,acc++[j],by omega,by omega,by first | rfl | (congr 1),hE,by simp; omega,hown3,hb3,hB3⟩
     case measure=>simp [intOf]; omega
    ·rw [if_neg hx1] at hv2;have hE:=hid hv2;have q7:(x==d+1)=false:=by rw [beq_eq_false_iff_ne]; exact hx1
     clear hv hv2 hx hx1;go_wp2;go_roundw
     case rel=>exact ⟨j+1,acc,by omega,by omega,by first | rfl | (congr 1),hE,by omega,hown,hb,hB⟩
     case measure=>simp [intOf]; omega
  ·have hE:Hid (R=acc):=show _=_ by
    rw [hv.out,List.drop_eq_nil_of_le (by rw [ndsL_len]; have:=HL.out; omega),kidsL,List.append_nil]
   have q6:¬ (j:Int) < (n:Int):=by omega
   clear hv;go_wp2;go_ret;exact ⟨_,rfl,by rw [hE.out]; exact hown,hb⟩
end Go.Proofs.YtldkidljjbkmbaaGreatDoor
namespace Go.Proofs.YtldkidljjbkmbaaGreatDoor
open Go.RowKit
abbrev IsBld (w:World) (B b:Nat) (l:List UInt8):Prop:=Lib.IsBuilderF 88 5 B b (Lib.byteCells l) w
theorem sizeBld:(Tryz.prog.info? 88).map (·.size)=some 2:=by kernel_rfl
theorem liesBld:liesAt Tryz.prog Tryz.prog.depth 88 (2 / Tryz.prog.cellsOf 88) 0 88 1=true:=by kernel_rfl
theorem infoPB:∃ j,Tryz.prog.info? 88=some j∧j.size=2:=Option.map_eq_some_iff.1 sizeBld
set_option maxHeartbeats 400000 in
theorem copyUsed (b:Nat) (w:World) (h0:w.cell? ⟨b,0,none⟩=some (.pointer (some ⟨b,0,none⟩))) :
  Calls Tryz.prog 69 #[.pointer (some ⟨b,0,none⟩)] w fun e w'=>e=.returned (.tuple #[])∧w'=w:=by
 obtain ⟨j,hj,_⟩:=infoPB
 go_enter Tryz.func69,Tryz.ntmps69
 go_wp2;rw [Lib.run_neq_ptr_same w _ Tryz.underlying85 hj];go_wp2
 go_end0
 exact ⟨rfl,rfl⟩
set_option maxHeartbeats 400000 in
theorem copyFresh (b:Nat) (w:World) (h0:w.cell? ⟨b,0,none⟩=some (.pointer none)) (hsh:w.shape? b=some (88,2)) (hfz:w.frozen? ⟨b,0,none⟩=false) :
  Calls Tryz.prog 69 #[.pointer (some ⟨b,0,none⟩)] w fun e w'=>e=.returned (.tuple #[])∧w'=w.setCell ⟨b,0,none⟩ (.pointer (some ⟨b,0,none⟩)):=by
 obtain ⟨j,hj,hjs⟩:=infoPB
 go_enter Tryz.func69,Tryz.ntmps69
 go_wp2;rw [Lib.run_to_unsafe w ⟨b,0,none⟩ Tryz.underlying85 Tryz.underlying136 hj (by rw [hjs]; decide) hsh (Nat.zero_lt_succ 1)];simp only [Result.andThen];rw [Oper.upon_value];go_wp2;rw [run_callFunc_extern Tryz.func103 (by kernel_rfl) (by kernel_rfl) (by kernel_rfl) (e:=Extern.AbiNoEscape.same) (by kernel_rfl)];rw [Lib.run_noEscape];simp only [Result.andThen];rw [Oper.upon_value];go_wp2;rw [Lib.run_from_unsafe w ⟨b,0,none⟩ Tryz.underlying136 Tryz.underlying85 hj hsh liesBld];simp only [Result.andThen];rw [Oper.upon_value];go_wp2
 go_end0
 exact ⟨rfl,rfl⟩
theorem copyCheck_any (B b:Nat) (bs:List Value) (w:World) (h:Lib.IsBuilderF 88 5 B b bs w) :
  Calls Tryz.prog 69 #[.pointer (some ⟨b,0,none⟩)] w fun e w'=>e=.returned (.tuple #[])∧(Lib.BuilderAtF 88 5 B b (.pointer (some ⟨b,0,none⟩)) bs w'∧Below B w w'∧Lib.OthersKept 5 (some b) w w'):=by
 rcases h with h | h
 ·refine (copyFresh b w h.cell0 h.shape h.frozen0).mono ?_
  rintro e w' ⟨rfl,rfl⟩;exact ⟨rfl,h.used _,(Below.refl B w).setCell (p:=⟨b,0,none⟩) h.1 _,(Lib.OthersKept.refl _ _ w).setCell ⟨b,0,none⟩ rfl _⟩
 ·refine (copyUsed b w h.cell0).mono ?_
  rintro e w' ⟨rfl,rfl⟩;exact ⟨rfl,h,Below.refl B _,Lib.OthersKept.refl _ _ _⟩
set_option maxHeartbeats 2000000 in
set_option maxRecDepth 100000 in
theorem writeByte_any (B b:Nat) (bs:List Value) (c:Int) (w:World) (h:Lib.IsBuilderF 88 5 B b bs w) (hlen:bs.length+1≤140737488355328) (hBw:B≤w.heap.size) :
  Calls Tryz.prog 104 #[.pointer (some ⟨b,0,none⟩),.int .u8 c] w fun e w'=>e=.returned .nilIface∧(Lib.BuilderAtF 88 5 B b (.pointer (some ⟨b,0,none⟩)) (bs++[.int .u8 c]) w'∧Below B w w'∧Lib.OthersKept 5 (some b) w w'):=by
 obtain ⟨i0,hi,hz0,hz1,hz2⟩:=info_parts info5
 go_enter Tryz.func104,Tryz.ntmps104
 go_wp2_with (go_at_call 69; refine (copyCheck_any B b bs _ h).mono ?_)
 rintro e w1 ⟨rfl,h1,hb1,hk1⟩;obtain ⟨hB,v,hbk,hown,hne⟩:=h1;have c0:w1.cell? ⟨b,0,none⟩=some (.pointer (some ⟨b,0,none⟩)):=by rw [Lib.cell_of_heap hbk]; rfl
 have c1:w1.cell? ⟨b,1,none⟩=some v:=by rw [Lib.cell_of_heap hbk]; rfl
 go_wp2_with (at_builtin; refine wpList_append_ownF _ rfl _ _ 86 rfl B 5 i0 (.int .u8 0) 1 1 Tryz.underlying86 hi hz0 hz1 hz2 rfl (by decide) _ _ _ rfl (hown.alloc _) ⟨w1.heap.size,0,none⟩ 1 1 [.int .u8 c] rfl rfl ?c1 ?c2 ?c3 ?c4 ?c5 ?_)
 case c1 =>
  intro j u hj
  match j,hj with
  | 0,hj=>simp at hj; subst hj; simp [Addr.add]
 case c2=>intro u hu; simp at hu; subst hu; rfl
 case c3=>unfold maxLen; omega
 case c4=>omega
 case c5=>have:=hb1.size; simp; omega
 intro v' w2 hown' hgrow _
 have hlt:b < w1.heap.size:=by
  rcases Nat.lt_or_ge b w1.heap.size with h' | h'
  ·exact h'
  ·simp [Array.getElem?_eq_none h'] at hbk
 have hb2:w2.heap[b]? = some (.cells #[.pointer (some ⟨b,0,none⟩),v] 88 (0,0)):=by
  rw [hgrow.block b (by simp; omega) (fun e=>hne e.symm),Lib.alloc_old w1 _ b hlt];exact hbk
 have d0:w2.cell? ⟨b,0,none⟩=some (.pointer (some ⟨b,0,none⟩)):=by rw [Lib.cell_of_heap hb2]; rfl
 have d1:w2.cell? ⟨b,1,none⟩=some v:=by rw [Lib.cell_of_heap hb2]; rfl
 have f1:w2.frozen? ⟨b,1,none⟩=false:=Lib.frozen_of_heap hb2 1
 obtain ⟨g,cap,rfl⟩:∃ g cap,v'=.slice (some ⟨g,0,none⟩) (bs.length+1) cap:=by
  rcases hown'.2 with ⟨_,h0⟩ | ⟨g,cap,cur,fz,hv,_⟩
  ·omega
  ·exact ⟨g,cap,hv⟩
 go_wp2;go_ret;refine ⟨rfl,?_,?_,((hk1.alloc _).grown hgrow (Lib.ownsRowF_kind (hown.alloc _))).setCell ⟨b,1,none⟩ rfl _⟩
 ·exact Lib.BuilderAtF.put (T:=88) (e:=5) hB hb2 (bs':=bs++[.int .u8 c]) (by simpa using hown') (by decide)
 ·exact ((hb1.alloc (by have:=hb1.size; omega) _).grown hgrow (by have:=hb1.size; simp; omega) (fun k hk=>(hown.lt k hk).1)).setCell (p:=⟨b,1,none⟩) hB _
theorem cellsU8:Tryz.prog.cellsOf 5=1:=by kernel_rfl
set_option maxHeartbeats 1000000 in
set_option maxRecDepth 100000 in
theorem bldString (B b:Nat) (l:List UInt8) (w:World) (h:IsBld w B b l) (h0:l ≠ []) :
  Calls Tryz.prog 48 #[.pointer (some ⟨b,0,none⟩)] w fun e w'=>e=.returned (.string ⟨l.toArray⟩)∧(IsBld w' B b l∧Below B w w'∧Lib.OthersKept 5 (some b) w w'):=by
 obtain ⟨p,hp,hAt⟩:∃ p,(p=.pointer none∨p=.pointer (some ⟨b,0,none⟩))∧Lib.BuilderAtF 88 5 B b p (Lib.byteCells l) w:=by
  rcases h with h | h
  ·exact ⟨_,.inl rfl,h⟩
  ·exact ⟨_,.inr rfl,h⟩
 obtain ⟨hB,v,hbk,hown,hne⟩:=hAt;have hl0:l.length ≠ 0:=by simpa using h0
 rw [Lib.byteCells_length] at hown
 obtain ⟨g,cap,cur,fz,rfl,hbg,hg,hfz,hnc,hcm,hcs,htake⟩:∃ g cap cur fz,v=.slice (some ⟨g,0,none⟩) l.length cap∧B≤g∧w.heap[g]? = some (.cells cur 5 fz)∧fz.2≤l.length * 1∧l.length≤cap∧cap≤maxLen∧cur.size=cap * 1∧cur.toList.take (l.length * 1)=Lib.byteCells l:=by
  rcases hown.2 with ⟨_,hz⟩ | ⟨g,cap,cur,fz,hv,r⟩
  ·exact absurd hz hl0
  ·exact ⟨g,cap,cur,fz,hv,r⟩
 have c1:w.drew.cell? ⟨b,1,none⟩=some (.slice (some ⟨g,0,none⟩) l.length cap):=by
  have:w.drew.heap[b]? = some (.cells #[p,.slice (some ⟨g,0,none⟩) l.length cap] 88 (0,0)):=hbk
  rw [Lib.cell_of_heap this]; rfl
 have hSD:(Builtin.unsafeSliceData_ #[86] 102 #[.slice (some ⟨g,0,none⟩) l.length cap]).run Tryz.prog w.drew=.ok (.pointer (some ⟨g,0,none⟩)) w.drew :=
  Lib.run_unsafeSliceData_row _ _ _ _ _ _ (by omega)
 have hUS:(Builtin.unsafeString_ #[102,3] 9 #[.pointer (some ⟨g,0,none⟩),.int .i64 l.length]).run Tryz.prog w.drew=.ok (.string ⟨l.toArray⟩) (w.drew.freeze ⟨g,0,none⟩ l.length):=by
  refine Lib.run_unsafeString_row w.drew 102 3 9 5 Tryz.underlying102 cellsU8 g cur.size (by have hg':w.drew.heap[g]? = some (.cells cur 5 fz):=hg; simp [World.shape?,hg']) l h0 (by omega) (by unfold maxLen at hcm; omega) ?_
  intro j x hx
  have:=hown.cells (g:=g) rfl j (.int .u8 x.toNat) (by simp [Lib.byteCells,hx])
  exact this
 have hkeep:IsBld (w.drew.freeze ⟨g,0,none⟩ l.length) B b l:=by
  have hA:Lib.BuilderAtF 88 5 B b p (Lib.byteCells l) w.drew:=⟨hB,_,hbk,by rw [Lib.byteCells_length]; exact hown,hne⟩
  have hF:=hA.froze (g:=g) (cap:=cap) (by rw [Lib.byteCells_length]; exact c1);rw [Lib.byteCells_length] at hF
  rcases hp with rfl | rfl
  ·exact .inl hF
  ·exact .inr hF
 go_enter Tryz.func48,Tryz.ntmps48
 go_wp2
 go_region
 all_goals (go_wp2; go_ret; exact ⟨rfl,hkeep,Lib.below_freeze (Below.drew (Below.refl B w)) (p:=⟨g,0,none⟩) hbg _,((Lib.OthersKept.refl _ _ w).drew).freeze ⟨g,0,none⟩ _ ⟨cur,fz,hg⟩⟩)
end Go.Proofs.YtldkidljjbkmbaaGreatDoor
namespace Go.Proofs.YtldkidljjbkmbaaGreatDoor
open Go.RowKit Sc
structure Wrote (B b:Nat) (l:List UInt8) (w w':World):Prop where
 bld:IsBld w' B b l
 bel:Below B w w'
 oth:Lib.OthersKept 5 (some b) w w'
theorem Wrote.trans {B b:Nat} {l l':List UInt8} {w w1 w2:World} (h:Wrote B b l w w1) (k:Wrote B b l' w1 w2):Wrote B b l' w w2:=⟨k.bld,h.bel.trans k.bel,h.oth.trans k.oth⟩
theorem bld_below {B b:Nat} {l:List UInt8} {w w':World} (h:IsBld w B b l) (hb:Below w.heap.size w w'):IsBld w' B b l:=by
 have key:∀ p,Lib.BuilderAtF 88 5 B b p (Lib.byteCells l) w → Lib.BuilderAtF 88 5 B b p (Lib.byteCells l) w':=by
  rintro p ⟨h1,v,h2,⟨h3,h4⟩,h5⟩;refine ⟨h1,v,by rw [hb.block b (Array.getElem?_eq_some_iff.1 h2).1]; exact h2,⟨h3,?_⟩,h5⟩
  rcases h4 with h4 | ⟨g,cap,cur,fz,hv,hg,hh,r⟩
  ·exact .inl h4
  ·exact .inr ⟨g,cap,cur,fz,hv,hg,by rw [hb.block g (Array.getElem?_eq_some_iff.1 hh).1]; exact hh,r⟩
 rcases h with h | h
 ·exact .inl (key _ h)
 ·exact .inr (key _ h)
theorem oth_below {b:Nat} {w w':World} (hb:Below w.heap.size w w'):Lib.OthersKept 5 (some b) w w':=fun k o hk _ _=>by
 rw [hb.block k (Array.getElem?_eq_some_iff.1 hk).1]; exact hk
theorem Wrote.of {B b:Nat} {l:List UInt8} {w w':World} (h:IsBld w B b l) (hB:B≤w.heap.size) (hb:Below w.heap.size w w'):Wrote B b l w w':=⟨bld_below h hb,hb.mono hB,oth_below hb⟩
theorem Wrote.row {B b c:Nat} {l:List UInt8} {w w':World} {e:TypeId} {us:List Value} (h:Wrote B b l w w') (hr:RowIs w c e us) (hn:c ≠ b) (he:e ≠ 5):RowIs w' c e us :=
 h.oth c _ hr (fun e=>hn (Option.some.inj e)) (fun c' fz e'=>by injection e' with _ e2 _; exact he e2)
theorem Wrote.owns {B b C n s:Nat} {l:List UInt8} {w w':World} {e:TypeId} {v:Value} {xs:List Value} (h:Wrote B b l w w') (ho:w.ownsRow C e s v n xs) (hn:v.ownBlock ≠ some b) (he:e ≠ 5):w'.ownsRow C e s v n xs:=by
 obtain ⟨h1,h2⟩:=ho;refine ⟨h1,?_⟩
 rcases h2 with h2 | ⟨g,cap,cur,rfl,hg,hh,r⟩
 ·exact .inl h2
 ·exact .inr ⟨g,cap,cur,rfl,hg,h.oth g _ hh (fun e=>hn (by rw [← e]; rfl)) (fun c' fz e'=>by injection e' with _ e2 _; exact he e2),r⟩
theorem bld_lt {B b:Nat} {l:List UInt8} {w:World} (h:IsBld w B b l):b < w.heap.size:=by
 rcases h with ⟨_,v,h2,_⟩ | ⟨_,v,h2,_⟩ <;> exact (Array.getElem?_eq_some_iff.1 h2).1
set_option maxHeartbeats 2000000 in
set_option maxRecDepth 100000 in
theorem xbldWrite (B b:Nat) (l r:List UInt8) (w:World) (h:IsBld w B b l) (hlen:l.length+r.length≤140737488355328) (hBw:B≤w.heap.size) :
  Calls Tryz.prog 46 #[.pointer (some ⟨b,0,none⟩),.string ⟨r.toArray⟩] w fun e w'=>e=.returned (.tuple #[.int .i64 r.length,.nilIface])∧Wrote B b (l++r) w w':=by
 obtain ⟨i0,hi,hz0,hz1,hz2⟩:=info_parts info5;have hz:(⟨r.toArray⟩:ByteArray).size=r.length:=size_list r;have hbl:(Lib.byteCells l).length=l.length:=Lib.byteCells_length l;have KC:=hid (copyCheck_any B b (Lib.byteCells l) w h);clear h
 go_enter Tryz.func46,Tryz.ntmps46
 go_wp2_with fail
 refine KC.out.mono ?_
 rintro e w1 ⟨rfl,h1,hb1,hk1⟩;obtain ⟨hB,v,hbk,hown,hne⟩:=h1;have c0:w1.cell? ⟨b,0,none⟩=some (.pointer (some ⟨b,0,none⟩)):=by rw [Lib.cell_of_heap hbk]; rfl
 have c1:w1.cell? ⟨b,1,none⟩=some v:=by rw [Lib.cell_of_heap hbk]; rfl
 have hlt:b < w1.heap.size:=(Array.getElem?_eq_some_iff.1 hbk).1;have hBw1:B≤w1.heap.size:=Nat.le_trans hBw hb1.size;go_wp2_with (at_builtin; refine Lib.wpList_append_own_stringF _ rfl _ _ 86 9 rfl B 5 i0 Tryz.underlying86 Tryz.underlying9 hi hz0 hz1 hz2 _ _ _ rfl hown ⟨r.toArray⟩ rfl ?c3 ?c4 hBw1 ?_)
 case c3=>rw [hz,hbl]; unfold maxLen; omega
 case c4=>rw [hz,hbl]; omega
 intro v' w2 hown' hgrow _
 have hb2:w2.heap[b]? = some (.cells #[.pointer (some ⟨b,0,none⟩),v] 88 (0,0)):=by
  rw [hgrow.block b hlt (fun e=>hne e.symm)];exact hbk
 have d0:w2.cell? ⟨b,0,none⟩=some (.pointer (some ⟨b,0,none⟩)):=by rw [Lib.cell_of_heap hb2]; rfl
 have d1:w2.cell? ⟨b,1,none⟩=some v:=by rw [Lib.cell_of_heap hb2]; rfl
 have f1:w2.frozen? ⟨b,1,none⟩=false:=Lib.frozen_of_heap hb2 1
 obtain ⟨ao,n',cap,rfl⟩:∃ ao n' cap,v'=.slice ao n' cap:=by
  rcases hown'.2 with ⟨hv,_⟩ | ⟨g,cap,cur,fz,hv,_⟩
  ·exact ⟨_,_,_,hv⟩
  ·exact ⟨_,_,_,hv⟩
 have hput:=hid (Lib.BuilderAtF.put (T:=88) (e:=5) hB hb2 (bs':=Lib.byteCells l++Lib.strCells ⟨r.toArray⟩) (by rw [List.length_append,Lib.strCells_length,hbl,hz]; exact hown') (by decide));have hbel:=hid ((hb1.grown hgrow hBw1 (fun k hk=>(hown.lt k hk).1)).setCell (p:=⟨b,1,none⟩) hB (.slice ao n' cap));have hoth:=hid ((hk1.grown hgrow (Lib.ownsRowF_kind hown)).setCell ⟨b,1,none⟩ rfl (.slice ao n' cap));rw [strC_list,← Lib.byteCells_append] at hput;clear hown' hgrow hb2 hbk hown hne KC hbl hk1 hb1;go_wp2;go_ret2;exact ⟨by simp,.inr hput.out,hbel.out,hoth.out⟩
theorem xesc_snoc {t:ByteArray} {k:Nat} (h:k < t.size):escX (t.data.toList.take (k+1))=escX (t.data.toList.take k)++escS t[k]:=by
 rw [take_snoc t k h,escX_app]
 simp [escX]
theorem esc_take (t:ByteArray) (k:Nat) (h:k < t.size):(escX (t.data.toList.take k)).length+(escS t[k]).length≤(escX t.data.toList).length:=by
 have e:=List.take_append_drop (k+1) t.data.toList;have e2:escX t.data.toList=escX (t.data.toList.take (k+1))++escX (t.data.toList.drop (k+1)):=by rw [← escX_app,e]
 rw [e2,xesc_snoc h,List.length_append,List.length_append];omega
set_option maxHeartbeats 2000000 in
set_option maxRecDepth 100000 in
theorem writeText_any (B b:Nat) (l:List UInt8) (t:ByteArray) (w:World) (h:IsBld w B b l) (hlen:l.length+(escX t.data.toList).length≤140737488355328) (hts:t.size≤140737488355328) (hBw:B≤w.heap.size) :
  Calls Tryz.prog 70 #[.pointer (some ⟨b,0,none⟩),.string t] w fun e w'=>e=.returned (.tuple #[])∧Wrote B b (l++escX t.data.toList) w w':=by
 have H:=hid h;have HE:Hid (∀ k,t.size≤k → escX (t.data.toList.take k)=escX t.data.toList):=fun k hk=>by rw [take_all t k hk]
 have HT:=hid (fun k h=>esc_take t k h);have HS:=hid (fun k h=>@xesc_snoc t k h);clear h
 go_enter Tryz.func70,Tryz.ntmps70
 go_wp2
 go_loopw [7] (fun i wr=>∃ k:Nat,k≤t.size∧i=.int .i64 k∧Wrote B b (l++escX (t.data.toList.take k)) w wr∧B≤wr.heap.size) (fun i _=>t.size - (intOf i).toNat)
 case atStart=>exact ⟨0,Nat.zero_le _,rfl,⟨by simpa [escX] using H.out,Below.refl _ _,Lib.OthersKept.refl _ _ _⟩,hBw⟩
 case round =>
  obtain ⟨k,hk,rfl,hw,hB⟩:=hrel;by_cases hlt:k < t.size
  ·have hbd:=u8_bd t[k];have htk:=HT.out k hlt;have hsn:=HS.out k hlt;have HW:=hid hw;by_cases h38:t[k]=38
   ·have q38:((t[k].toNat:Int)==38)=true:=u8_eq (b:=38) h38;rw [h38,show escS 38=[38,97,109,112,59] from rfl] at htk hsn;have KW:=hid (xbldWrite B b (l++escX (t.data.toList.take k)) [38,97,109,112,59] wr HW.out.bld (by rw [List.length_append]; omega) hB);rw [List.append_assoc,← hsn] at KW;clear hsn htk h38 hw;go_wp2_with fail
    refine (KW.out).mono ?_
    rintro e w2 ⟨rfl,hw2⟩;go_wp2;go_roundw
    case rel=>exact ⟨k+1,by omega,by go_num,HW.out.trans hw2,Nat.le_trans hB hw2.bel.size⟩
    case measure=>simp [intOf]; omega
   have q38:((t[k].toNat:Int)==38)=false:=u8_ne (b:=38) h38;by_cases h60:t[k]=60
   ·have q60:((t[k].toNat:Int)==60)=true:=u8_eq (b:=60) h60;rw [h60,show escS 60=[38,108,116,59] from rfl] at htk hsn;have KW:=hid (xbldWrite B b (l++escX (t.data.toList.take k)) [38,108,116,59] wr HW.out.bld (by rw [List.length_append]; omega) hB);rw [List.append_assoc,← hsn] at KW;clear hsn htk h60 hw;go_wp2_with fail
    refine (KW.out).mono ?_
    rintro e w2 ⟨rfl,hw2⟩;go_wp2;go_roundw
    case rel=>exact ⟨k+1,by omega,by go_num,HW.out.trans hw2,Nat.le_trans hB hw2.bel.size⟩
    case measure=>simp [intOf]; omega
   have q60:((t[k].toNat:Int)==60)=false:=u8_ne (b:=60) h60;by_cases h62:t[k]=62
   ·have q62:((t[k].toNat:Int)==62)=true:=u8_eq (b:=62) h62;rw [h62,show escS 62=[38,103,116,59] from rfl] at htk hsn;have KW:=hid (xbldWrite B b (l++escX (t.data.toList.take k)) [38,103,116,59] wr HW.out.bld (by rw [List.length_append]; omega) hB);rw [List.append_assoc,← hsn] at KW;clear hsn htk h62 hw;go_wp2_with fail
    refine (KW.out).mono ?_
    rintro e w2 ⟨rfl,hw2⟩;go_wp2;go_roundw
    case rel=>exact ⟨k+1,by omega,by go_num,HW.out.trans hw2,Nat.le_trans hB hw2.bel.size⟩
    case measure=>simp [intOf]; omega
   have q62:((t[k].toNat:Int)==62)=false:=u8_ne (b:=62) h62;by_cases h34:t[k]=34
   ·have q34:((t[k].toNat:Int)==34)=true:=u8_eq (b:=34) h34;rw [h34,show escS 34=[38,113,117,111,116,59] from rfl] at htk hsn;have KW:=hid (xbldWrite B b (l++escX (t.data.toList.take k)) [38,113,117,111,116,59] wr HW.out.bld (by rw [List.length_append]; omega) hB);rw [List.append_assoc,← hsn] at KW;clear hsn htk h34 hw;go_wp2_with fail
    refine (KW.out).mono ?_
    rintro e w2 ⟨rfl,hw2⟩;go_wp2;go_roundw
    case rel=>exact ⟨k+1,by omega,by go_num,HW.out.trans hw2,Nat.le_trans hB hw2.bel.size⟩
    case measure=>simp [intOf]; omega
   have q34:((t[k].toNat:Int)==34)=false:=u8_ne (b:=34) h34;have hes:escS t[k]=[t[k]]:=by unfold escS; rw [if_neg h38,if_neg h60,if_neg h62,if_neg h34]
   rw [hes] at htk hsn;simp only [List.length_cons,List.length_nil] at htk;have KB:=hid (writeByte_any B b (Lib.byteCells (l++escX (t.data.toList.take k))) (t[k].toNat:Int) wr HW.out.bld (by rw [Lib.byteCells_length,List.length_append]; omega) hB);rw [show Lib.byteCells (l++escX (t.data.toList.take k))++[.int .u8 (t[k].toNat:Int)]=Lib.byteCells (l++escX (t.data.toList.take (k+1))) by rw [hsn,← List.append_assoc,Lib.byteCells_append (l++escX (t.data.toList.take k)) [t[k]]]; rfl] at KB;clear hsn htk hes h38 h60 h62 h34 hw;go_wp2_with fail
   refine (KB.out).mono ?_
   rintro e w2 ⟨rfl,h1,h2,h3⟩;go_wp2;go_roundw
   case rel=>exact ⟨k+1,by omega,by go_num,HW.out.trans ⟨.inr h1,h2,h3⟩,Nat.le_trans hB h2.size⟩
   case measure=>simp [intOf]; omega
  ·have hE:=HE.out k (by omega);rw [hE] at hw;have HW:=hid hw;clear hE hw;go_wp2
   first | go_end0 | refine bodyPost_ret (results_none rfl _ _ _) rfl ?_
   exact ⟨rfl,HW.out⟩
theorem writeText_list (B b:Nat) (l t:List UInt8) (w:World) (h:IsBld w B b l) (hlen:l.length+(escX t).length≤140737488355328) (hts:t.length≤140737488355328) (hBw:B≤w.heap.size) :
  Calls Tryz.prog 70 #[.pointer (some ⟨b,0,none⟩),.string ⟨t.toArray⟩] w fun e w'=>e=.returned (.tuple #[])∧Wrote B b (l++escX t) w w':=writeText_any B b l ⟨t.toArray⟩ w h hlen (by rw [size_list]; exact hts) hBw
theorem starts_len (d:Nat):∀ (ks:List XT) (p:Nat),(startsX d ks p).length=ks.length
 | [],p=>rfl
 | k :: ks,p=>by rw [startsX,List.length_cons,List.length_cons,starts_len d ks]
theorem starts_at (d:Nat):∀ (ks:List XT) (p j:Nat) (h:j < ks.length),(startsX d ks p)[j]'(by rw [starts_len]; exact h)=p+(flatXs d (ks.take j)).length
 | k :: ks,p,0,h=>by simp [startsX,flatXs]
 | k :: ks,p,j+1,h=>by
  have:=starts_at d ks (p+(flatX d k).length) j (by simpa using h)
  simp only [startsX,List.getElem_cons_succ,List.take_succ_cons,flatXs,List.length_append];rw [this]; omega
theorem printX_pos (t:XT):1≤(printX t).length:=by
 obtain ⟨n,a,tx,k⟩:=t
 have:=print_len n a tx k
 omega
theorem prints_nil {ks:List XT} (h:printXs ks=[]):ks=[]:=by
 cases ks with
 | nil=>rfl
 | cons k ks =>
  rw [printXs] at h
  have:=printX_pos k
  have e:=congrArg List.length h;rw [List.length_append,List.length_nil] at e;omega
theorem prints_snoc {ks:List XT} {j:Nat} (h:j < ks.length):printXs (ks.take (j+1))=printXs (ks.take j)++printX ks[j]:=by
 rw [List.take_succ_eq_append_getElem h,printXs_app,printXs,printXs,List.append_nil]
theorem prints_take {ks:List XT} {j:Nat} (h:j < ks.length):(printXs (ks.take j)).length+(printX ks[j]).length≤(printXs ks).length:=by
 have e:=List.take_append_drop (j+1) ks;have e2:printXs ks=printXs (ks.take (j+1))++printXs (ks.drop (j+1)):=by rw [← printXs_app,e]
 rw [e2,prints_snoc h,List.length_append,List.length_append]; omega
theorem own_pos {w:World} {C n kc:Nat} {ka:Option Addr} {l:List Nat} (h:Own w C 3 (.slice ka n kc) (posCells l)) (j:Nat) (hj:j < l.length):∃ g,ka=some ⟨g,0,none⟩∧w.cell? ⟨g,j,none⟩=some (.int .i64 ((l[j]:Nat):Int)):=by
 have h0:=h
 rcases h.2 with ⟨hv,hn⟩ | ⟨g,cap,cur,hv,hb,hg,r⟩
 ·simp [posCells] at hn
  rw [hn] at hj; simp at hj
 ·simp only [Value.slice.injEq] at hv;obtain ⟨rfl,hv2,hv3⟩:=hv;refine ⟨g,rfl,?_⟩
  have:=World.ownsRow.cells h0 (g:=g) rfl j (.int .i64 ((l[j]:Nat):Int)) (by simp [posCells,hj])
  have e:(⟨g,0,none⟩:Addr).add j=⟨g,j,none⟩:=by unfold Addr.add; split <;> simp_all
  rw [e] at this; exact this
theorem szX_in {n:List UInt8} {a:List Par} {tx:List UInt8} {ks:List XT} {j:Nat} (h:j < ks.length):szX ks[j]+2≤szX (.mk n a tx ks):=by
 have:=sz_in (n:=n) (a:=a) (t:=tx) (ks:=ks) (done:=ks.take j) (k:=ks[j]) (rest:=ks.drop (j+1)) (N:=szX (.mk n a tx ks) - 1) (by rw [szX]; omega) (by rw [← List.drop_eq_getElem_cons h,List.take_append_drop])
 have key:∀ (l r:List XT) (k:XT),szX k≤szXs (l++k :: r):=fun l r k=>by
  induction l with
  | nil=>rw [List.nil_append,szXs]; omega
  | cons x l ih=>rw [List.cons_append,szXs]; omega
 have h2:=key (ks.take j) (ks.drop (j+1)) ks[j];rw [← List.drop_eq_getElem_cons h,List.take_append_drop] at h2;rw [szX]; omega
theorem szXs_len:∀ ks:List XT,ks.length≤szXs ks
 | []=>Nat.zero_le _
 | k :: ks=>by
  have:=szXs_len ks
  obtain ⟨n,a,tx,kk⟩:=k;rw [szXs,szX,List.length_cons]; omega
def WrE (B b:Nat) (v:Value) (k:Nat) (l:List UInt8) (w:World):Prop :=
 Calls Tryz.prog 47 #[.pointer (some ⟨b,0,none⟩),v,.int .i64 k] w fun e w'=>e=.returned (.tuple #[])∧Wrote B b l w w'
section
variable (wP : World) (v : Value) (cs : List NdC) (b : Nat)
def WrS (N:Nat):Prop:=∀ (t:XT),szX t≤N → ∀ (k d:Nat) (post:List Nd) (l0:List UInt8) (w:World),(ndsL cs).drop k=flatX d t++post → (∀ x,post.head? = some x → x.deep≤(d:Int)) → Below wP.heap.size wP w → IsBld w wP.heap.size b l0 → l0.length+(printX t).length≤140737488355328 → d+szX t≤1000000 → WrE wP.heap.size b v k (l0++printX t) w
end
end Go.Proofs.YtldkidljjbkmbaaGreatDoor
