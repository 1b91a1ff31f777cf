/-
  XKids, WR8, WnP, WC6, WC7, WC8, WR9.
-/
import Derived.Test.YtdbalahkmeknaaaGreatDoorPW29
set_option linter.unusedVariables false
set_option linter.unusedSimpArgs false
set_option maxRecDepth 20000
namespace Go.Proofs.YtdbalahkmeknaaaGreatDoor
open Go.RowKit Sc
def kidsL (d:Int):List Nd → Nat → List Nat
 | [],_=>[]
 | x :: r,i=>if x.deep≤d then [] else if x.deep=d+1 then i :: kidsL d r (i+1) else kidsL d r (i+1)
def startsX (d:Nat):List XT → Nat → List Nat
 | [],_=>[]
 | k :: ks,p=>p :: startsX d ks (p+(flatX d k).length)
mutual
theorem flatX_deep (d:Nat):∀ (t:XT) (x:Nd),x ∈ flatX d t → (d:Int)≤x.deep
 | .mk n a tx k,x,h=>by
  rw [flatX] at h
  rcases List.mem_cons.1 h with h | h
  ·subst h; exact Int.le_refl _
  ·have:=flatXs_deep (d+1) k x h; omega
theorem flatXs_deep (d:Nat):∀ (ks:List XT) (x:Nd),x ∈ flatXs d ks → (d:Int)≤x.deep
 | [],x,h=>by rw [flatXs] at h; simp at h
 | k :: ks,x,h=>by
  rw [flatXs] at h
  rcases List.mem_append.1 h with h | h
  ·exact flatX_deep d k x h
  ·exact flatXs_deep d ks x h
end
theorem kids_skip (d:Int):∀ (l r:List Nd) (p:Nat),(∀ x ∈ l,d+2≤x.deep) → kidsL d (l++r) p=kidsL d r (p+l.length)
 | [],r,p,_=>by simp
 | x :: l,r,p,h=>by
  have hx:=h x (by simp);rw [List.cons_append,kidsL,if_neg (by omega),if_neg (by omega),kids_skip d l r (p+1) (fun y hy=>h y (by simp [hy]))]
  congr 1
  simp; omega
theorem kids_of (d:Nat):∀ (ks:List XT) (post:List Nd) (p:Nat),(∀ x,post.head? = some x → x.deep≤(d:Int)) → kidsL d (flatXs (d+1) ks++post) p=startsX (d+1) ks p
 | [],post,p,h=>by
  rw [flatXs,List.nil_append,startsX]
  cases post with
  | nil=>rfl
  | cons x r=>rw [kidsL,if_pos (h x rfl)]
 | k :: ks,post,p,h=>by
  obtain ⟨n,a,tx,kk⟩:=k;rw [flatXs,List.append_assoc,startsX];have e:flatX (d+1) (.mk n a tx kk)=⟨((d+1:Nat):Int),n,a,tx⟩ :: flatXs (d+1+1) kk:=by rw [flatX]
  rw [e,List.cons_append,kidsL,if_neg (by simp only; omega),if_pos (by simp only; omega),kids_skip _ _ _ _ (fun x hx=>by have:=flatXs_deep _ _ x hx; omega),kids_of d ks post _ h]
  congr 2
  simp; omega
def posCells (l:List Nat):List Value:=l.map fun (i:Nat)=>Value.int .i64 (i:Int)
theorem infoInt:(Tryz.prog.info? 3).map (fun i=>(i.zero,i.size,i.bytes))=some (some (.int .i64 0),1,8):=by kernel_rfl
theorem kidsL_at {d:Int} {l:List Nd} {k:Nat} (hk:k < l.length):kidsL d (l.drop k) k=if l[k].deep≤d then [] else if l[k].deep=d+1 then k :: kidsL d (l.drop (k+1)) (k+1) else kidsL d (l.drop (k+1)) (k+1):=by
 rw [List.drop_eq_getElem_cons hk,kidsL]
theorem ndsL_get {cs:List NdC} {k:Nat} (h:k < cs.length):(ndsL cs)[k]'(by rw [ndsL_len]; exact h)=cs[k].nd:=by simp [ndsL]
set_option maxHeartbeats 4000000 in
set_option maxRecDepth 100000 in
theorem xkids_any (v:Value) (cs:List NdC) (k:Nat) (w:World) (hk:k < cs.length) (hz:cs.length≤1000000) (hd:0≤cs[k].nd.deep) (hd2:cs[k].nd.deep≤1000000) (hv:NdsAt w v cs) :
  Calls Tryz.prog 18 #[v,.int .i64 k] w fun e w'=>∃ kv,e=.returned kv∧Own w' w.heap.size 3 kv (posCells (kidsL cs[k].nd.deep ((ndsL cs).drop (k+1)) (k+1)))∧Below w.heap.size w w':=by
 obtain ⟨i0,hi,hz0,hz1,hz2⟩:=info_parts infoInt;obtain ⟨ao,cap,rfl,hc⟩:=hv;obtain ⟨ad,hao,hab,c0,cP⟩:=hc k hk;subst hao
 have HC:Hid (∀ j (hj:j < cs.length),w.cell? (ad.add (j * 4))=some (.int .i64 cs[j].nd.deep)):=fun j hj=>by
  obtain ⟨ad3,hao3,_,c3,_⟩:=hc j hj
  have:ad3=ad:=(Option.some.inj hao3).symm
  subst this; exact c3.c0
 have z0:=c0.c0;generalize cs[k].nd.deep=d at z0 hd hd2 ⊢;obtain ⟨R,hR⟩:∃ R,R=kidsL d ((ndsL cs).drop (k+1)) (k+1):=⟨_,rfl⟩
 rw [← hR];have HR:=hid hR;obtain ⟨n,hn⟩:∃ n,n=cs.length:=⟨_,rfl⟩
 have HL:=hid hn;have hkn:k < n:=by omega
 have hzn:n≤1000000:=by omega
 rw [← hn];have q1:¬ (k:Int) < 0:=by omega
 have q2:¬ (n:Int)≤(k:Int):=by omega
 have q3:(k:Int) < (n:Int):=by omega
 have hw1:IntKind.i64.wrap ((k:Int)+1)=(k:Int)+1:=by rw [IntKind.wrap_i64]; omega
 have hw2:IntKind.i64.wrap (d+1)=d+1:=by rw [IntKind.wrap_i64]; omega
 clear hc c0 cP hR hn hk hz
 go_enter Tryz.func18,Tryz.ntmps18
 go_wp2
 go_loopw [6,7] (fun pv iv wr=>∃ (j:Nat) (acc:List Nat),j≤n∧k+1≤j∧iv=.int .i64 (j:Int)∧Hid (R=acc++kidsL d ((ndsL cs).drop j) j)∧acc.length≤j∧Own wr w.heap.size 3 pv (posCells acc)∧Below w.heap.size w wr∧w.heap.size≤wr.heap.size) (fun _ iv _=>n - (intOf iv).toNat)
 case atStart=>exact ⟨k+1,[],by omega,Nat.le_refl _,by first | rfl | (congr 1),HR,by simp,Own.nil _ _ _,Below.refl _ _,Nat.le_refl _⟩
 case round =>
  obtain ⟨j,acc,hjn,hkj,rfl,hv,hal,hown,hb,hB⟩:=hrel;clear HR z0;by_cases hlt:j < n
  ·have hjl:j < cs.length:=by have:=HL.out; omega
   have hjl2:j < (ndsL cs).length:=by rw [ndsL_len]; exact hjl
   have cj:=cell_below hb (by rw [add_block]; exact hab) (HC.out j hjl);have hv2:=hv.out;rw [kidsL_at hjl2,ndsL_get hjl] at hv2;generalize cs[j].nd.deep=x at cj hv2;have q6:(j:Int) < (n:Int):=by omega
   have hwj:IntKind.i64.wrap ((j:Int)+1)=(j:Int)+1:=by rw [IntKind.wrap_i64]; omega
   by_cases hx:x≤d
   ·rw [if_pos hx,List.append_nil] at hv2;have hE:=hid hv2;have qx:¬ d < x:=by omega
    clear hv hv2 hx;go_wp2;go_ret;exact ⟨_,rfl,by rw [hE.out]; exact hown,hb⟩
   ·have qx:d < x:=by omega
    rw [if_neg hx] at hv2;by_cases hx1:x=d+1
    ·rw [if_pos hx1] at hv2;have hE:Hid (R=(acc++[j])++kidsL d ((ndsL cs).drop (j+1)) (j+1)):=show _=_ by rw [hv2]; simp
     have q7:(x==d+1)=true:=by rw [beq_iff_eq]; exact hx1
     have hpl:(posCells acc).length=acc.length:=by simp [posCells]
     clear hv hv2 hx hx1;go_wp2_with (at_builtin; refine wp_app _ rfl (.tmp 46) (.tmp 48) 43 rfl w.heap.size 3 i0 (.int .i64 0) 8 Tryz.underlying43 hi hz0 hz1 hz2 rfl _ _ rfl (hown.alloc _) ⟨_,0,none⟩ 1 1 [.int .i64 (j:Int)] rfl rfl (by exact one_new _ _ _) (by intro u hu; simp at hu; subst hu; rfl) (by rw [hpl]; unfold maxLen; omega) (by rw [hpl]; omega) w (hb.alloc hB _) (by simp; omega) ?_; intro v3 w3 hown3 hb3 hB3)
     rw [show posCells acc++[.int .i64 (j:Int)]=posCells (acc++[j]) by simp [posCells]] at hown3;go_roundw
     case rel=>exact ⟨j+1,acc++[j],by omega,by omega,by first | rfl | (congr 1),hE,by simp; omega,hown3,hb3,hB3⟩
     case measure=>simp [intOf]; omega
    ·rw [if_neg hx1] at hv2;have hE:=hid hv2;have q7:(x==d+1)=false:=by rw [beq_eq_false_iff_ne]; exact hx1
     clear hv hv2 hx hx1;go_wp2;go_roundw
     case rel=>exact ⟨j+1,acc,by omega,by omega,by first | rfl | (congr 1),hE,by omega,hown,hb,hB⟩
     case measure=>simp [intOf]; omega
  ·have hE:Hid (R=acc):=show _=_ by
    rw [hv.out,List.drop_eq_nil_of_le (by rw [ndsL_len]; have:=HL.out; omega),kidsL,List.append_nil]
   have q6:¬ (j:Int) < (n:Int):=by omega
   clear hv;go_wp2;go_ret;exact ⟨_,rfl,by rw [hE.out]; exact hown,hb⟩
theorem watt_small {x:Nd} {nm:List UInt8} {B:Nat} (h:SmallP B x.attrs):(wattV nm x).length≤B:=by
 unfold wattV
 cases hg:attG nm x.attrs with
 | none=>simp
 | some v=>exact attG_small h hg
def GuP (R:Inf) (w:World) (e:Ending) (w':World):Prop:=∃ ws,e=.returned (infV R ws)∧OwnW w' w.heap.size ws R.ws∧Below w.heap.size w w'
structure GuS (w W:World) (x0 x1 v:Value) (ts:List Wt):Prop where
 own:OwnW W (w.heap.size+2) v ts
 row:RowIs W (w.heap.size+1) 24 [x0,x1,v]
 res:RowIs W w.heap.size 24 [.int .i64 0,.string ⟨#[]⟩,.slice none 0 0]
 bel:Below w.heap.size w W
 lt:w.heap.size+2≤W.heap.size
theorem GuS.below {w W W':World} {x0 x1 v:Value} {ts:List Wt} (h:GuS w W x0 x1 v ts) (hb:Below W.heap.size W W'):GuS w W' x0 x1 v ts :=
 ⟨h.own.below hb,h.row.below hb (by have:=h.lt; omega),h.res.below hb (by have:=h.lt; omega),h.bel.trans (hb.mono h.bel.size),Nat.le_trans h.lt hb.size⟩
theorem GuS.alloc {w W:World} {x0 x1 v:Value} {ts:List Wt} (h:GuS w W x0 x1 v ts) (o:Obj):GuS w (W.alloc o) x0 x1 v ts:=h.below ((Below.refl _ W).alloc (Nat.le_refl _) o)
theorem ownW_set {W:World} {B b j:Nat} {v u:Value} {ts:List Wt} (h:OwnW W B v ts) (hb:b < B):OwnW (W.setCell ⟨b,j,none⟩ u) B v ts:=by
 obtain ⟨h1,h2⟩:=h;refine ⟨h1,?_⟩
 rcases h2 with h2 | ⟨g,cap,cur,hv,hg,hh,r⟩
 ·exact Or.inl h2
 ·exact Or.inr ⟨g,cap,cur,hv,hg,by rw [heap_setCell_other _ _ _ _ (show g ≠ b by omega)]; exact hh,r⟩
theorem row_otherI {w:World} {b c j:Nat} {e:TypeId} {l:List Value} {v:Value} (h:RowIs w b e l) (hn:b ≠ c):RowIs (w.setCell ⟨c,j,none⟩ v) b e l:=by
 unfold RowIs at h ⊢;rw [heap_setCell_other _ _ _ _ hn]; exact h
theorem GuS.set0 {w W:World} {x0 x1 v:Value} {ts:List Wt} (h:GuS w W x0 x1 v ts) (u:Value):GuS w (W.setCell ⟨w.heap.size+1,0,none⟩ u) u x1 v ts :=
 ⟨ownW_set h.own (by omega),h.row.set 0 u,row_otherI h.res (by omega),h.bel.setCell (show w.heap.size≤w.heap.size+1 by omega) _,by rw [World.size_setCell]; exact h.lt⟩
theorem GuS.set1 {w W:World} {x0 x1 v:Value} {ts:List Wt} (h:GuS w W x0 x1 v ts) (u:Value):GuS w (W.setCell ⟨w.heap.size+1,1,none⟩ u) x0 u v ts :=
 ⟨ownW_set h.own (by omega),h.row.set 1 u,row_otherI h.res (by omega),h.bel.setCell (show w.heap.size≤w.heap.size+1 by omega) _,by rw [World.size_setCell]; exact h.lt⟩
theorem GuS.app {w W u:World} {x0 x1 v v':Value} {ts ts':List Wt} (h:GuS w W x0 x1 v ts) (hb:Below (w.heap.size+2) W u) (ho:OwnW u (w.heap.size+2) v' ts'):GuS w (u.setCell ⟨w.heap.size+1,2,none⟩ v') x0 x1 v' ts' :=
 ⟨ownW_set ho (by omega),(h.row.below hb (by omega)).set 2 v',row_otherI (h.res.below hb (by omega)) (by omega),(h.bel.trans (hb.mono (by omega))).setCell (show w.heap.size≤w.heap.size+1 by omega) _,by rw [World.size_setCell]; exact Nat.le_trans h.lt hb.size⟩
theorem gu_new (w:World):GuS w ((w.alloc (.cells #[.int .i64 0,.string ⟨#[]⟩,.slice none 0 0] 24)).alloc (.cells #[.int .i64 0,.string ⟨#[]⟩,.slice none 0 0] 24)) (.int .i64 0) (.string ⟨#[]⟩) (.slice none 0 0) []:=by
 have h1:=rc_row3 w (.int .i64 0) (.string ⟨#[]⟩) (.slice none 0 0) 24;have hl:=alloc_lt w (.cells #[.int .i64 0,.string ⟨#[]⟩,.slice none 0 0] 24);have hs:(w.alloc (.cells #[.int .i64 0,.string ⟨#[]⟩,.slice none 0 0] 24)).heap.size=w.heap.size+1:=by simp
 have hb1:Below w.heap.size w (w.alloc (.cells #[.int .i64 0,.string ⟨#[]⟩,.slice none 0 0] 24)):=(Below.refl _ w).alloc (Nat.le_refl _) _;generalize w.alloc (.cells #[.int .i64 0,.string ⟨#[]⟩,.slice none 0 0] 24)=W1 at h1 hl hs hb1 ⊢;have h2:=rc_row3 W1 (.int .i64 0) (.string ⟨#[]⟩) (.slice none 0 0) 24;rw [hs] at h2;exact ⟨OwnW.nil _ _,h2,h1.below ((Below.refl _ W1).alloc (Nat.le_refl _) _) hl,hb1.alloc hb1.size _,by simp [hs]⟩
theorem GuS.done {w W:World} {x0 x1 v:Value} {ts:List Wt} (h:GuS w W x0 x1 v ts):OwnW (((W.setCell ⟨w.heap.size,0,none⟩ x0).setCell ⟨w.heap.size,1,none⟩ x1).setCell ⟨w.heap.size,2,none⟩ v) w.heap.size v ts∧RowIs (((W.setCell ⟨w.heap.size,0,none⟩ x0).setCell ⟨w.heap.size,1,none⟩ x1).setCell ⟨w.heap.size,2,none⟩ v) w.heap.size 24 [x0,x1,v]∧Below w.heap.size w (((W.setCell ⟨w.heap.size,0,none⟩ x0).setCell ⟨w.heap.size,1,none⟩ x1).setCell ⟨w.heap.size,2,none⟩ v) :=
 ⟨sv_mono (ownW_set (ownW_set (ownW_set h.own (by omega)) (by omega)) (by omega)) (by omega),rc_store3 h.res x0 x1 v,rc_below3 h.bel w.heap.size (Nat.le_refl _) x0 x1 v⟩
theorem wi_wf {n:Int} (h0:-1099511627776≤n) (h1:n≤1099511627776):(Lit.int .i64 n).wf=true:=by
 simp only [Lit.wf,IntKind.min,IntKind.max,IntKind.signed,IntKind.bits,Bool.and_eq_true,decide_eq_true_eq]
 constructor <;> simp <;> omega
theorem numV_rng {most:Int} (hm:9≤most) (l:List UInt8):0≤(numV most l).1∧(numV most l).1≤most:=by
 by_cases h:(numV most l).2=0
 ·exact numV_nonneg hm h
 ·rw [numV_is hm] at h ⊢
  split
  ·exact ⟨by simp,by simp only; omega⟩
  ·next h1 =>
   rw [if_neg h1] at h
   split
   ·next h2=>rw [if_pos h2] at h; simp at h
   ·exact ⟨by simp,by simp only; omega⟩
theorem sm_small {x:Nd} (h:SmNd 4096 x):SmallN 4096 x:=by
 obtain ⟨h1,h2,h3,h4,h5,h6⟩:=h;exact ⟨h1,h2,⟨h3,h4⟩,wi_wf (by omega) (by omega)⟩
theorem smallN_up {B C:Nat} {x:Nd} (h:SmallN B x) (hc:B≤C):SmallN C x:=by
 obtain ⟨h1,h2,⟨h3,h4⟩,h5⟩:=h;exact ⟨by omega,by omega,⟨by omega,fun p hp=>⟨by have:=(h4 p hp).1; omega,by have:=(h4 p hp).2; omega⟩⟩,h5⟩
theorem watt_le {x:Nd} {nm:List UInt8} (h:SmallN 4096 x):(wattV nm x).length≤4096:=watt_small h.2.2.1
theorem wtR_small {x:Nd} (hs:SmallN 4096 x):SmallW 1048576 (wtR x):=by
 have r2:=numV_rng (most:=1099511627776) (by decide) (trimP [119] (wattV pidK x));have r3:=watt_le (nm:=pstatK) hs;have r4:=watt_le (nm:=weventK) hs;have r5:=hs.2.1;have r6:=trimP_len sipcK x.text;exact ⟨by simp only [wtR]; omega,by simp only [wtR]; omega,by simp only [wtR]; omega,wi_wf (by simp only [wtR]; omega) (by simp only [wtR]; omega)⟩
theorem wread_small {l:List Nd} (hn:l.length≤1000) (h:∀ x ∈ l,SmallN 4096 x):SmallI 1048576 (wreadR l):=by
 refine ⟨?_,?_,?_,fun t ht=>?_⟩
 ·match l,h with
  | [],_=>exact wi_wf (by decide) (by decide)
  | a :: r,_ =>
   have r1:=numV_rng (most:=2147483647) (by decide) (wattV versionK a);exact wi_wf (by simp only [wreadR,verR]; omega) (by simp only [wreadR,verR]; omega)
 ·match l,h with
  | [],_=>simp [wreadR,resR]
  | [a],_=>simp [wreadR,resR]
  | a :: b :: r,h =>
   have:=watt_le (nm:=resourceK) (h b (by simp))
   have r6:=trimP_len sipcK (wattV resourceK b);simp only [wreadR,resR]; omega
 ·simp only [wreadR,List.length_map,List.length_drop]; omega
 ·simp only [wreadR,List.mem_map] at ht;obtain ⟨x,hx,rfl⟩:=ht;exact wtR_small (h x (List.mem_of_mem_drop hx))
theorem parse_small {s:List UInt8} {l:List Nd} (h:parseX s=(l,0)):∀ x ∈ l,SmallN 4096 x:=fun x hx=>sm_small (parseX_sm h x hx)
structure ww1Ops (ops:Array Oper):Prop where
 sz:ops.size=13
 p0:OpIs ops 0 (some 3) (.load 49 (.tmp 1))
 p1:OpIs ops 1 (some 4) (.call { callee:=.value (.func 55),args:=#[.tmp 3,.const (.string ⟨#[105,100]⟩)],argTypes:=#[49,9] })
 p2:OpIs ops 2 (some 5) (.call { callee:=.value (.func 56),args:=#[.tmp 4,.const (.string ⟨#[119]⟩)],argTypes:=#[9,9] })
 p3:OpIs ops 3 (some 6) (.call { callee:=.value (.func 54),args:=#[.tmp 5,.const (.int .i64 1099511627776)],argTypes:=#[9,3] })
 p4:OpIs ops 4 (some 7) (.fieldAddr 49 (.tmp 1) 3)
 p5:OpIs ops 5 (some 8) (.load 9 (.tmp 7))
 p6:OpIs ops 6 (some 9) (.call { callee:=.value (.func 56),args:=#[.tmp 8,.const (.string ⟨#[115,105,112,58]⟩)],argTypes:=#[9,9] })
 p7:OpIs ops 7 (some 10) (.load 49 (.tmp 1))
 p8:OpIs ops 8 (some 11) (.call { callee:=.value (.func 55),args:=#[.tmp 10,.const (.string ⟨#[115,116,97,116,117,115]⟩)],argTypes:=#[49,9] })
 p9:OpIs ops 9 (some 12) (.load 49 (.tmp 1))
 p10:OpIs ops 10 (some 13) (.call { callee:=.value (.func 55),args:=#[.tmp 12,.const (.string ⟨#[101,118,101,110,116]⟩)],argTypes:=#[49,9] })
 p11:OpIs ops 11 (some 14) (.build 51 #[(0,.tmp 6),(1,.tmp 9),(2,.tmp 11),(3,.tmp 13)])
 p12:OpIs ops 12 none (.store 51 (.tmp 2) (.tmp 14))
 w1_0:Waits ops 1 0
 w2_1:Waits ops 2 1
 w3_2:Waits ops 3 2
 w5_4:Waits ops 5 4
 w6_5:Waits ops 6 5
 w8_7:Waits ops 8 7
 w10_9:Waits ops 10 9
def ww1D:Nat → Nat
 | 0=>3
 | 1=>4
 | 2=>5
 | 3=>6
 | 4=>7
 | 5=>8
 | 6=>9
 | 7=>10
 | 8=>11
 | 9=>12
 | 10=>13
 | _=>0
def ww1R (b:Nat) (dp:Int) (nm tx ID ST EV:List UInt8) (pa:Option Addr) (pn pc:Nat) (wid:Int):Nat → Value → World → Prop
 | 0=>fun v w=>v=.agg #[.int .i64 dp,.string ⟨nm.toArray⟩,.slice pa pn pc,.string ⟨tx.toArray⟩]
 | 1=>fun v w=>v=.string ⟨ID.toArray⟩
 | 2=>fun v w=>v=.string ⟨(trimP [119] ID).toArray⟩
 | 3=>fun v w=>v=.int .i64 wid
 | 4=>fun v w=>v=.pointer (some ⟨b,3,none⟩)
 | 5=>fun v w=>v=.string ⟨tx.toArray⟩
 | 6=>fun v w=>v=.string ⟨(trimP sipcK tx).toArray⟩
 | 7=>fun v w=>v=.agg #[.int .i64 dp,.string ⟨nm.toArray⟩,.slice pa pn pc,.string ⟨tx.toArray⟩]
 | 8=>fun v w=>v=.string ⟨ST.toArray⟩
 | 9=>fun v w=>v=.agg #[.int .i64 dp,.string ⟨nm.toArray⟩,.slice pa pn pc,.string ⟨tx.toArray⟩]
 | 10=>fun v w=>v=.string ⟨EV.toArray⟩
 | _=>fun _ _=>True
def ww1P (a0:Act) (W:World) (b:Nat) (dp:Int) (nm tx ID ST EV:List UInt8) (pa:Option Addr) (pn pc:Nat) (wid:Int):MP where
 a0:=a0
 lo:=3
 hi:=15
 n:=15
 k:=11
 W:=W
 D:=ww1D
 R:=ww1R b dp nm tx ID ST EV pa pn pc wid
theorem ww1_inj:∀ j,j < 11 → ∀ i,i < 11 → j ≠ i → ww1D j ≠ ww1D i:=by decide +kernel
theorem ww1_st (b:Nat) (dp:Int) (nm tx ID ST EV:List UInt8) (pa:Option Addr) (pn pc:Nat) (wid:Int) {u u':World} (hb:Below u.heap.size u u'):∀ j v,j < 11 → ww1R b dp nm tx ID ST EV pa pn pc wid j v u → ww1R b dp nm tx ID ST EV pa pn pc wid j v u':=by
 intro j v hj h
 rcases (show j=0∨j=1∨j=2∨j=3∨j=4∨j=5∨j=6∨j=7∨j=8∨j=9∨j=10 by omega) with rfl | rfl | rfl | rfl | rfl | rfl | rfl | rfl | rfl | rfl | rfl
 ·exact h
 ·exact h
 ·exact h
 ·exact h
 ·exact h
 ·exact h
 ·exact h
 ·exact h
 ·exact h
 ·exact h
 ·exact h
set_option maxHeartbeats 4000000 in
set_option maxRecDepth 100000 in
theorem ww1_steps {ops:Array Oper} (S:ww1Ops ops) (a0:Act) (W:World) (b:Nat) (dp:Int) (nm tx ID ST EV:List UInt8) (pa:Option Addr) (pn pc:Nat) (wid:Int)
  (B1:a0.eval (.tmp 1)=.pointer (some ⟨b,0,none⟩))
  (hidl:ID.length≤140737488355328) (htx:tx.length≤140737488355328)
  (HC:∀ u,Below W.heap.size W u → u.cell? ⟨b,0,none⟩=some (.int .i64 dp)∧u.cell? ⟨b,1,none⟩=some (.string ⟨nm.toArray⟩)∧u.cell? ⟨b,2,none⟩=some (.slice pa pn pc)∧u.cell? ⟨b,3,none⟩=some (.string ⟨tx.toArray⟩))
  (K1:∀ u,Below W.heap.size W u → Calls Tryz.prog 55 #[.agg #[.int .i64 dp,.string ⟨nm.toArray⟩,.slice pa pn pc,.string ⟨tx.toArray⟩],.string ⟨#[105,100]⟩] u fun e u'=>e=.returned (.string ⟨ID.toArray⟩)∧Below u.heap.size u u')
  (K2:∀ u,Below W.heap.size W u → Calls Tryz.prog 55 #[.agg #[.int .i64 dp,.string ⟨nm.toArray⟩,.slice pa pn pc,.string ⟨tx.toArray⟩],.string ⟨#[115,116,97,116,117,115]⟩] u fun e u'=>e=.returned (.string ⟨ST.toArray⟩)∧Below u.heap.size u u')
  (K3:∀ u,Below W.heap.size W u → Calls Tryz.prog 55 #[.agg #[.int .i64 dp,.string ⟨nm.toArray⟩,.slice pa pn pc,.string ⟨tx.toArray⟩],.string ⟨#[101,118,101,110,116]⟩] u fun e u'=>e=.returned (.string ⟨EV.toArray⟩)∧Below u.heap.size u u')
  (KN:∀ u,Calls Tryz.prog 54 #[.string ⟨(trimP [119] ID).toArray⟩,.int .i64 1099511627776] u fun e u'=>e=.returned (.int .i64 wid)∧u'=u)
  (Q:Exit → Act → World → Prop) (L:Array Bool) (a:Act) (w:World) (i:Nat) (hsz:L.size=ops.size) (hik:i < 11) (hi:i ∈ Region.ready .any ops L) (hI:MI (ww1P a0 W b dp nm tx ID ST EV pa pn pc wid) ops L a w) :
  wpOp Tryz.prog ops Q i (MI (ww1P a0 W b dp nm tx ID ST EV pa pn pc wid) ops (L.setIfInBounds i true)) a w:=by
 have evc:∀ v,a.eval (.const v)=v:=fun _=>rfl;have b1:=(hI.o.out 1 (.inl (by simp [ww1P]))).trans B1;obtain ⟨hC0,hC1,hC2,hC3⟩:=HC w hI.bel
 have put:∀ (i d:Nat) (hi:i ∈ Region.ready .any ops L) (hk:i < 11) (hd:ww1D i=d) (h1:3≤d) (h2:d < 15) (v:Value) (w':World) (hb:Below w.heap.size w w') (hR:ww1R b dp nm tx ID ST EV pa pn pc wid i v w'),MI (ww1P a0 W b dp nm tx ID ST EV pa pn pc wid) ops (L.setIfInBounds i true) (a.put (some d) v) w':=fun i d hi hk hd h1 h2 v w' hb hR =>
  hI.put hsz i hi d hd (fun j hj hji=>by subst hd; exact ww1_inj j hj i hk hji) h1 h2 (by simp [ww1P]) (fun j v hj h=>ww1_st b dp nm tx ID ST EV pa pn pc wid hb j v hj h) v hb hR
 rcases (show i=0∨i=1∨i=2∨i=3∨i=4∨i=5∨i=6∨i=7∨i=8∨i=9∨i=10 by omega) with rfl | rfl | rfl | rfl | rfl | rfl | rfl | rfl | rfl | rfl | rfl
 ·refine S.p0.val (v:=.agg #[.int .i64 dp,.string ⟨nm.toArray⟩,.slice pa pn pc,.string ⟨tx.toArray⟩]) (w':=w) (fun o ho=>?_) (put 0 3 hi (by decide) rfl (by decide) (by decide) _ _ (Below.refl _ _) rfl)
  simp only [execOp,ho,b1];clear hI S hi hsz put evc;go_simp
 ·have q0:=hI.val 0 (by simp [ww1P]) (S.w1_0.on hi);simp only [ww1P,ww1R,ww1D] at q0;refine S.p1.enter (vals:=#[.agg #[.int .i64 dp,.string ⟨nm.toArray⟩,.slice pa pn pc,.string ⟨tx.toArray⟩],.string ⟨#[105,100]⟩]) (by simp only [List.map_toArray,List.map_cons,List.map_nil,evc,q0]) (fun xs u=>by kernel_rfl) ?_
  refine (K1 w hI.bel).mono ?_
  rintro e w' ⟨rfl,hb⟩;exact ⟨_,rfl,put 1 4 hi (by decide) rfl (by decide) (by decide) _ _ hb rfl⟩
 ·have q1:=hI.val 1 (by simp [ww1P]) (S.w2_1.on hi);simp only [ww1P,ww1R,ww1D] at q1;refine S.p2.enter (vals:=#[.string ⟨ID.toArray⟩,.string ⟨#[119]⟩]) (by simp only [List.map_toArray,List.map_cons,List.map_nil,evc,q1]) (fun xs u=>by kernel_rfl) ?_
  refine (trimP_any ID [119] w (by omega) (by decide)).mono ?_
  rintro e w' ⟨rfl,hw'⟩; subst hw'
  exact ⟨_,rfl,put 2 5 hi (by decide) rfl (by decide) (by decide) _ _ (Below.refl _ _) rfl⟩
 ·have q2:=hI.val 2 (by simp [ww1P]) (S.w3_2.on hi);simp only [ww1P,ww1R,ww1D] at q2;refine S.p3.enter (vals:=#[.string ⟨(trimP [119] ID).toArray⟩,.int .i64 1099511627776]) (by simp only [List.map_toArray,List.map_cons,List.map_nil,evc,q2]) (fun xs u=>by kernel_rfl) ?_
  refine (KN w).mono ?_
  rintro e w' ⟨rfl,hw'⟩; subst hw'
  exact ⟨_,rfl,put 3 6 hi (by decide) rfl (by decide) (by decide) _ _ (Below.refl _ _) rfl⟩
 ·refine S.p4.val (v:=.pointer (some ⟨b,3,none⟩)) (w':=w) (fun o ho=>?_) (put 4 7 hi (by decide) rfl (by decide) (by decide) _ _ (Below.refl _ _) rfl)
  simp only [execOp,ho,b1];clear hI S hi hsz put evc;go_simp
 ·have q4:=hI.val 4 (by simp [ww1P]) (S.w5_4.on hi);simp only [ww1P,ww1R,ww1D] at q4;refine S.p5.val (v:=.string ⟨tx.toArray⟩) (w':=w) (fun o ho=>?_) (put 5 8 hi (by decide) rfl (by decide) (by decide) _ _ (Below.refl _ _) rfl)
  simp only [execOp,ho,q4];clear hI S hi hsz put evc;go_simp
 ·have q5:=hI.val 5 (by simp [ww1P]) (S.w6_5.on hi);simp only [ww1P,ww1R,ww1D] at q5;refine S.p6.enter (vals:=#[.string ⟨tx.toArray⟩,.string ⟨#[115,105,112,58]⟩]) (by simp only [List.map_toArray,List.map_cons,List.map_nil,evc,q5]) (fun xs u=>by kernel_rfl) ?_
  refine (trimP_any tx [115,105,112,58] w (by omega) (by decide)).mono ?_
  rintro e w' ⟨rfl,hw'⟩; subst hw'
  exact ⟨_,rfl,put 6 9 hi (by decide) rfl (by decide) (by decide) _ _ (Below.refl _ _) rfl⟩
 ·refine S.p7.val (v:=.agg #[.int .i64 dp,.string ⟨nm.toArray⟩,.slice pa pn pc,.string ⟨tx.toArray⟩]) (w':=w) (fun o ho=>?_) (put 7 10 hi (by decide) rfl (by decide) (by decide) _ _ (Below.refl _ _) rfl)
  simp only [execOp,ho,b1];clear hI S hi hsz put evc;go_simp
 ·have q7:=hI.val 7 (by simp [ww1P]) (S.w8_7.on hi);simp only [ww1P,ww1R,ww1D] at q7;refine S.p8.enter (vals:=#[.agg #[.int .i64 dp,.string ⟨nm.toArray⟩,.slice pa pn pc,.string ⟨tx.toArray⟩],.string ⟨#[115,116,97,116,117,115]⟩]) (by simp only [List.map_toArray,List.map_cons,List.map_nil,evc,q7]) (fun xs u=>by kernel_rfl) ?_
  refine (K2 w hI.bel).mono ?_
  rintro e w' ⟨rfl,hb⟩;exact ⟨_,rfl,put 8 11 hi (by decide) rfl (by decide) (by decide) _ _ hb rfl⟩
 ·refine S.p9.val (v:=.agg #[.int .i64 dp,.string ⟨nm.toArray⟩,.slice pa pn pc,.string ⟨tx.toArray⟩]) (w':=w) (fun o ho=>?_) (put 9 12 hi (by decide) rfl (by decide) (by decide) _ _ (Below.refl _ _) rfl)
  simp only [execOp,ho,b1];clear hI S hi hsz put evc;go_simp
 ·have q9:=hI.val 9 (by simp [ww1P]) (S.w10_9.on hi);simp only [ww1P,ww1R,ww1D] at q9;refine S.p10.enter (vals:=#[.agg #[.int .i64 dp,.string ⟨nm.toArray⟩,.slice pa pn pc,.string ⟨tx.toArray⟩],.string ⟨#[101,118,101,110,116]⟩]) (by simp only [List.map_toArray,List.map_cons,List.map_nil,evc,q9]) (fun xs u=>by kernel_rfl) ?_
  refine (K3 w hI.bel).mono ?_
  rintro e w' ⟨rfl,hb⟩;exact ⟨_,rfl,put 10 13 hi (by decide) rfl (by decide) (by decide) _ _ hb rfl⟩
set_option maxHeartbeats 4000000 in
set_option maxRecDepth 100000 in
theorem ww1_region {ops:Array Oper} (S:ww1Ops ops) (hlow:lowB .any ops=true) (hpar:parentB ops 11=true) (hww:waitsB ops 12 11=true) {Q:Exit → Act → World → Prop} {id:Nat} (a0:Act) (w:World) (r:Nat) (b:Nat) (dp:Int) (nm tx ID ST EV:List UInt8) (pa:Option Addr) (pn pc:Nat) (wid:Int)
  (hsz:a0.tmps.size=15) (hdf:a0.defers=[]) (B1:a0.eval (.tmp 1)=.pointer (some ⟨b,0,none⟩)) (B2:a0.eval (.tmp 2)=.pointer (some ⟨r,0,none⟩))
  (hidl:ID.length≤140737488355328) (htx:tx.length≤140737488355328) (hrow:RowIs w b 49 [.int .i64 dp,.string ⟨nm.toArray⟩,.slice pa pn pc,.string ⟨tx.toArray⟩]) (hbl:b < w.heap.size)
  (hres:RowIs w r 51 [.int .i64 0,.string ⟨#[]⟩,.string ⟨#[]⟩,.string ⟨#[]⟩]) (hrl:r < w.heap.size)
  (K1:∀ u,Below w.heap.size w u → Calls Tryz.prog 55 #[.agg #[.int .i64 dp,.string ⟨nm.toArray⟩,.slice pa pn pc,.string ⟨tx.toArray⟩],.string ⟨#[105,100]⟩] u fun e u'=>e=.returned (.string ⟨ID.toArray⟩)∧Below u.heap.size u u')
  (K2:∀ u,Below w.heap.size w u → Calls Tryz.prog 55 #[.agg #[.int .i64 dp,.string ⟨nm.toArray⟩,.slice pa pn pc,.string ⟨tx.toArray⟩],.string ⟨#[115,116,97,116,117,115]⟩] u fun e u'=>e=.returned (.string ⟨ST.toArray⟩)∧Below u.heap.size u u')
  (K3:∀ u,Below w.heap.size w u → Calls Tryz.prog 55 #[.agg #[.int .i64 dp,.string ⟨nm.toArray⟩,.slice pa pn pc,.string ⟨tx.toArray⟩],.string ⟨#[101,118,101,110,116]⟩] u fun e u'=>e=.returned (.string ⟨EV.toArray⟩)∧Below u.heap.size u u')
  (KN:∀ u,Calls Tryz.prog 54 #[.string ⟨(trimP [119] ID).toArray⟩,.int .i64 1099511627776] u fun e u'=>e=.returned (.int .i64 wid)∧u'=u)
  (fin:∀ (us:List Value) (u:World),us.length=12 → Below w.heap.size w u → Q .normal ⟨(a0.tmps.toList.take 3++(us++a0.tmps.toList.drop 15)).toArray,[]⟩ ((((u.setCell ⟨r,0,none⟩ (.int .i64 wid)).setCell ⟨r,1,none⟩ (.string ⟨(trimP sipcK tx).toArray⟩)).setCell ⟨r,2,none⟩ (.string ⟨ST.toArray⟩)).setCell ⟨r,3,none⟩ (.string ⟨EV.toArray⟩))) :
  (Code.region id ops true).wp Tryz.prog Q a0 w:=by
 have hb0:Below w.heap.size w { w with drawn:=w.drawn+1 }:=⟨rfl,rfl,rfl,Nat.le_refl _,fun _ _=>rfl⟩
 have HC:∀ u,Below ({ w with drawn:=w.drawn+1 }:World).heap.size { w with drawn:=w.drawn+1 } u → u.cell? ⟨b,0,none⟩=some (.int .i64 dp)∧u.cell? ⟨b,1,none⟩=some (.string ⟨nm.toArray⟩)∧u.cell? ⟨b,2,none⟩=some (.slice pa pn pc)∧u.cell? ⟨b,3,none⟩=some (.string ⟨tx.toArray⟩):=fun u hu=>by
  have h:=RowIs.rc4 (show RowIs u b 49 [.int .i64 dp,.string ⟨nm.toArray⟩,.slice pa pn pc,.string ⟨tx.toArray⟩] from hrow.below (hb0.trans hu) hbl);exact ⟨h.1,h.2,h.3,h.4⟩
 refine wp_region_mem followsM (ww1P a0 { w with drawn:=w.drawn+1 } b dp nm tx ID ST EV pa pn pc wid) rfl rfl hsz hdf S.sz hlow hpar hww
  (fun a u=>Outs (ww1P a0 { w with drawn:=w.drawn+1 } b dp nm tx ID ST EV pa pn pc wid) a0 a∧a.eval (.tmp 14)=.agg #[.int .i64 wid,.string ⟨(trimP sipcK tx).toArray⟩,.string ⟨ST.toArray⟩,.string ⟨EV.toArray⟩]∧Below w.heap.size w u)
  (fun a u=>∃ u0:World,Outs (ww1P a0 { w with drawn:=w.drawn+1 } b dp nm tx ID ST EV pa pn pc wid) a0 a∧Below w.heap.size w u0∧u=(((u0.setCell ⟨r,0,none⟩ (.int .i64 wid)).setCell ⟨r,1,none⟩ (.string ⟨(trimP sipcK tx).toArray⟩)).setCell ⟨r,2,none⟩ (.string ⟨ST.toArray⟩)).setCell ⟨r,3,none⟩ (.string ⟨EV.toArray⟩))
  (fun L a u i h1 h2 h3 h4=>ww1_steps S a0 { w with drawn:=w.drawn+1 } b dp nm tx ID ST EV pa pn pc wid B1 hidl htx HC (fun u hu=>K1 u (hb0.trans hu)) (fun u hu=>K2 u (hb0.trans hu)) (fun u hu=>K3 u (hb0.trans hu)) KN Q L a u i h1 h2 h3 h4) ?_ ?_ ?_
 ·intro a u ho hb hR;have q3:=hR 3 (by simp [ww1P]);have q6:=hR 6 (by simp [ww1P]);have q8:=hR 8 (by simp [ww1P]);have q10:=hR 10 (by simp [ww1P]);simp only [ww1P,ww1R,ww1D] at q3 q6 q8 q10;have hb1:Below w.heap.size w u:=hb0.trans hb;refine S.p11.val (v:=.agg #[.int .i64 wid,.string ⟨(trimP sipcK tx).toArray⟩,.string ⟨ST.toArray⟩,.string ⟨EV.toArray⟩]) (w':=u) (fun o ho2=>?_) ⟨ho.put 14 _ (by simp [ww1P]) (by simp [ww1P]),eval_put_same (by rw [ho.sz]; simp [ww1P]),hb1⟩
  simp only [execOp,ho2,q3,q6,q8,q10];have em:Array.map (fun x:Nat × Operand=>(x.fst,a.eval x.snd)) #[(0,Operand.tmp 6),(1,Operand.tmp 9),(2,Operand.tmp 11),(3,Operand.tmp 13)]=#[(0,.int .i64 wid),(1,.string ⟨(trimP sipcK tx).toArray⟩),(2,.string ⟨ST.toArray⟩),(3,.string ⟨EV.toArray⟩)]:=by simp only [List.map_toArray,List.map_cons,List.map_nil,q3,q6,q8,q10]
  try rw [em]
  clear hR em ho;go_simp
 ·rintro a u ⟨ho,he,hfr⟩;have b2:=(ho.out 2 (.inl (by simp [ww1P]))).trans B2;obtain ⟨c0,c1,c2,c3,f0,f1,f2,f3⟩:=RowIs.rc4 (hres.below hfr hrl);refine S.p12.skip (w':=(((u.setCell ⟨r,0,none⟩ (.int .i64 wid)).setCell ⟨r,1,none⟩ (.string ⟨(trimP sipcK tx).toArray⟩)).setCell ⟨r,2,none⟩ (.string ⟨ST.toArray⟩)).setCell ⟨r,3,none⟩ (.string ⟨EV.toArray⟩)) (fun o ho2=>?_) ⟨u,ho,hfr,rfl⟩
  simp only [execOp,ho2,he,b2];clear ho hfr hrow hres HC;go_simp
 ·rintro a u ⟨u0,ho,hfr,rfl⟩;obtain ⟨us,hus,hau⟩:=ho.fin hsz (by simp [ww1P]) (by simp [ww1P]);rw [hau];exact fin us u0 hus hfr
structure rr6Ops (ops:Array Oper):Prop where
 sz:ops.size=8
 p0:OpIs ops 0 (some 14) (.fieldAddr 24 (.tmp 3) 2)
 p1:OpIs ops 1 (some 15) (.load 22 (.tmp 14))
 p2:OpIs ops 2 (some 16) (.load 49 (.tmp 5))
 p3:OpIs ops 3 (some 17) (.call { callee:=.value (.func 57),args:=#[.tmp 16],argTypes:=#[49] })
 p4:OpIs ops 4 (some 18) (.buildSlice 22 1 #[(0,.tmp 17)])
 p5:OpIs ops 5 (some 19) (.call { callee:=.builtin .append,args:=#[.tmp 15,.tmp 18],argTypes:=#[22,22] })
 p6:OpIs ops 6 (some 20) (.fieldAddr 24 (.tmp 3) 2)
 p7:OpIs ops 7 none (.store 22 (.tmp 20) (.tmp 19))
 w1_0:Waits ops 1 0
 w3_2:Waits ops 3 2
 w4_3:Waits ops 4 3
 w5_1:Waits ops 5 1
 w5_4:Waits ops 5 4
 w7_5:Waits ops 7 5
 w7_6:Waits ops 7 6
def rr6D:Nat → Nat
 | 0=>14
 | 1=>15
 | 2=>16
 | 3=>17
 | 4=>18
 | 6=>20
 | 5=>19
 | _=>2000
def rr6R (b nb tn tc:Nat) (vo:Option Addr) (dp:Int) (nm tx:List UInt8) (pa:Option Addr) (pn pc:Nat) (t:Wt):Nat → Value → World → Prop
 | 0=>fun v w=>v=.pointer (some ⟨b,2,none⟩)
 | 1=>fun v w=>v=.slice vo tn tc
 | 2=>fun v w=>v=.agg #[.int .i64 dp,.string ⟨nm.toArray⟩,.slice pa pn pc,.string ⟨tx.toArray⟩]
 | 3=>fun v w=>v=.agg #[.int .i64 t.id,.string ⟨t.uri.toArray⟩,.string ⟨t.stat.toArray⟩,.string ⟨t.ev.toArray⟩]
 | 4=>fun v w=>∃ g2,v=.slice (some ⟨g2,0,none⟩) 1 1∧g2 < w.heap.size∧∀ (j:Nat) (u:Value),(wtCells t)[j]? = some u → w.cell? ((⟨g2,0,none⟩:Addr).add j)=some u
 | 6=>fun v w=>v=.pointer (some ⟨b,2,none⟩)
 | _=>fun _ _=>True
def rr6P (a0:Act) (W:World) (b nb tn tc:Nat) (vo:Option Addr) (dp:Int) (nm tx:List UInt8) (pa:Option Addr) (pn pc:Nat) (t:Wt):MP where
 a0:=a0
 lo:=14
 hi:=21
 n:=35
 k:=8
 W:=W
 D:=rr6D
 R:=rr6R b nb tn tc vo dp nm tx pa pn pc t
theorem rr6_inj:∀ j,j < 8 → ∀ i,i < 7 → j ≠ i → rr6D j ≠ rr6D i:=by decide +kernel
theorem rr6_st (b nb tn tc:Nat) (vo:Option Addr) (dp:Int) (nm tx:List UInt8) (pa:Option Addr) (pn pc:Nat) (t:Wt) {u u':World} (hb:Below u.heap.size u u'):∀ j v,j < 8 → rr6R b nb tn tc vo dp nm tx pa pn pc t j v u → rr6R b nb tn tc vo dp nm tx pa pn pc t j v u':=by
 intro j v hj h
 rcases (show j=0∨j=1∨j=2∨j=3∨j=4∨j=5∨j=6∨j=7 by omega) with rfl | rfl | rfl | rfl | rfl | rfl | rfl | rfl
 ·exact h
 ·exact h
 ·exact h
 ·exact h
 ·obtain ⟨g2,h1,h3,h4⟩:=h; exact ⟨g2,h1,Nat.lt_of_lt_of_le h3 hb.size,fun j u hj=>cell_below hb (by rw [add_block]; exact h3) (h4 j u hj)⟩
 ·exact h
 ·exact h
 ·exact h
set_option maxHeartbeats 4000000 in
set_option maxRecDepth 100000 in
theorem rr6_steps {ops:Array Oper} (S:rr6Ops ops) (a0:Act) (W:World) (b nb tn tc:Nat) (vo:Option Addr) (dp:Int) (nm tx:List UInt8) (pa:Option Addr) (pn pc:Nat) (t:Wt)
  (B3:a0.eval (.tmp 3)=.pointer (some ⟨b,0,none⟩))
  (B5:a0.eval (.tmp 5)=.pointer (some ⟨nb,0,none⟩))
  (HR:∀ u,Below W.heap.size W u → u.cell? ⟨b,2,none⟩=some (.slice vo tn tc)) (HC:∀ u,Below W.heap.size W u → u.cell? ⟨nb,0,none⟩=some (.int .i64 dp)∧u.cell? ⟨nb,1,none⟩=some (.string ⟨nm.toArray⟩)∧u.cell? ⟨nb,2,none⟩=some (.slice pa pn pc)∧u.cell? ⟨nb,3,none⟩=some (.string ⟨tx.toArray⟩))
  (KW:∀ u,Below W.heap.size W u → Calls Tryz.prog 57 #[.agg #[.int .i64 dp,.string ⟨nm.toArray⟩,.slice pa pn pc,.string ⟨tx.toArray⟩]] u fun e u'=>e=.returned (.agg #[.int .i64 t.id,.string ⟨t.uri.toArray⟩,.string ⟨t.stat.toArray⟩,.string ⟨t.ev.toArray⟩])∧Below u.heap.size u u')
  (Q:Exit → Act → World → Prop) (L:Array Bool) (a:Act) (w:World) (i:Nat) (hsz:L.size=ops.size) (hm:L.getD 5 false=false) (hne:i ≠ 5) (hi:i ∈ Region.ready .any ops L) (hI:MI (rr6P a0 W b nb tn tc vo dp nm tx pa pn pc t) ops L a w) :
  wpOp Tryz.prog ops Q i (MI (rr6P a0 W b nb tn tc vo dp nm tx pa pn pc t) ops (L.setIfInBounds i true)) a w:=by
 have evc:∀ v,a.eval (.const v)=v:=fun _=>rfl;have hik:i < 8:=by have:=(ready_nots hi).2; rw [S.sz] at this; exact this
 have b3:=(hI.o.out 3 (.inl (by simp [rr6P]))).trans B3;have b5:=(hI.o.out 5 (.inl (by simp [rr6P]))).trans B5;have hR:=HR w hI.bel;obtain ⟨hC0,hC1,hC2,hC3⟩:=HC w hI.bel
 have put:∀ (i d:Nat) (hi:i ∈ Region.ready .any ops L) (hk:i < 7) (hd:rr6D i=d) (h1:14≤d) (h2:d < 21) (v:Value) (w':World) (hb:Below w.heap.size w w') (hR:rr6R b nb tn tc vo dp nm tx pa pn pc t i v w'),MI (rr6P a0 W b nb tn tc vo dp nm tx pa pn pc t) ops (L.setIfInBounds i true) (a.put (some d) v) w':=fun i d hi hk hd h1 h2 v w' hb hR =>
  hI.put hsz i hi d hd (fun j hj hji=>by subst hd; exact rr6_inj j hj i hk hji) h1 h2 (by simp [rr6P]) (fun j v hj h=>rr6_st b nb tn tc vo dp nm tx pa pn pc t hb j v hj h) v hb hR
 rcases (show i=0∨i=1∨i=2∨i=3∨i=4∨i=5∨i=6∨i=7 by omega) with rfl | rfl | rfl | rfl | rfl | rfl | rfl | rfl
 ·refine S.p0.val (v:=.pointer (some ⟨b,2,none⟩)) (w':=w) (fun o ho=>?_) (put 0 14 hi (by decide) rfl (by decide) (by decide) _ _ (Below.refl _ _) rfl)
  simp only [execOp,ho,b3];clear hI S hi hsz put evc HR HC KW;go_simp
 ·have q0:=hI.val 0 (by simp [rr6P]) (S.w1_0.on hi);simp only [rr6P,rr6R,rr6D] at q0;refine S.p1.val (v:=.slice vo tn tc) (w':=w) (fun o ho=>?_) (put 1 15 hi (by decide) rfl (by decide) (by decide) _ _ (Below.refl _ _) rfl)
  simp only [execOp,ho,q0];clear hI S hi hsz put evc HR HC KW;go_simp
 ·refine S.p2.val (v:=.agg #[.int .i64 dp,.string ⟨nm.toArray⟩,.slice pa pn pc,.string ⟨tx.toArray⟩]) (w':=w) (fun o ho=>?_) (put 2 16 hi (by decide) rfl (by decide) (by decide) _ _ (Below.refl _ _) rfl)
  simp only [execOp,ho,b5];clear hI S hi hsz put evc HR HC KW;go_simp
 ·have q2:=hI.val 2 (by simp [rr6P]) (S.w3_2.on hi);simp only [rr6P,rr6R,rr6D] at q2;refine S.p3.enter (vals:=#[.agg #[.int .i64 dp,.string ⟨nm.toArray⟩,.slice pa pn pc,.string ⟨tx.toArray⟩]]) (by simp only [List.map_toArray,List.map_cons,List.map_nil,evc,q2]) (fun xs u=>by kernel_rfl) ?_
  refine (KW w hI.bel).mono ?_
  rintro e w' ⟨rfl,hb⟩;exact ⟨_,rfl,put 3 17 hi (by decide) rfl (by decide) (by decide) _ _ hb rfl⟩
 ·have q3:=hI.val 3 (by simp [rr6P]) (S.w4_3.on hi);simp only [rr6P,rr6R,rr6D] at q3;refine S.p4.val (v:=.slice (some ⟨w.heap.size,0,none⟩) 1 1) (w':=w.alloc (.cells #[.int .i64 t.id,.string ⟨t.uri.toArray⟩,.string ⟨t.stat.toArray⟩,.string ⟨t.ev.toArray⟩] 51)) (fun o ho=>?_) (put 4 18 hi (by decide) rfl (by decide) (by decide) _ _ ((Below.refl _ w).alloc (Nat.le_refl _) _) ⟨_,rfl,by simp,by exact wt_new w t _ rfl⟩)
  simp only [execOp,ho];have em:Array.map (fun x:Nat × Operand=>(x.fst,a.eval x.snd)) #[(0,Operand.tmp 17)]=#[(0,.agg #[.int .i64 t.id,.string ⟨t.uri.toArray⟩,.string ⟨t.stat.toArray⟩,.string ⟨t.ev.toArray⟩])]:=by simp only [List.map_toArray,List.map_cons,List.map_nil,q3]
  rw [em];clear hI S hi hsz put evc HR HC KW;go_simp
 ·exact absurd rfl hne
 ·refine S.p6.val (v:=.pointer (some ⟨b,2,none⟩)) (w':=w) (fun o ho=>?_) (put 6 20 hi (by decide) rfl (by decide) (by decide) _ _ (Below.refl _ _) rfl)
  simp only [execOp,ho,b3];clear hI S hi hsz put evc HR HC KW;go_simp
 ·have:=S.w7_5.on hi
  rw [hm] at this; cases this
set_option maxHeartbeats 4000000 in
set_option maxRecDepth 100000 in
theorem rr6_region {ops:Array Oper} (S:rr6Ops ops) (hlow:lowB .any ops=true) (hpar:parentB ops 5=true) {Q:Exit → Act → World → Prop} {id:Nat} (a0:Act) (w:World) (B:Nat) (b nb tn tc:Nat) (vo:Option Addr) (dp:Int) (nm tx:List UInt8) (pa:Option Addr) (pn pc:Nat) (t:Wt)
  (hsz:a0.tmps.size=35) (hdf:a0.defers=[]) (B3:a0.eval (.tmp 3)=.pointer (some ⟨b,0,none⟩)) (B5:a0.eval (.tmp 5)=.pointer (some ⟨nb,0,none⟩))
  (x0 x1:Value) (hrow:RowIs w b 24 [x0,x1,.slice vo tn tc]) (hbB:b < B) (hBw:B≤w.heap.size)
  (hnrow:RowIs w nb 49 [.int .i64 dp,.string ⟨nm.toArray⟩,.slice pa pn pc,.string ⟨tx.toArray⟩]) (hnl:nb < w.heap.size)
  (KW:∀ u,Below w.heap.size w u → Calls Tryz.prog 57 #[.agg #[.int .i64 dp,.string ⟨nm.toArray⟩,.slice pa pn pc,.string ⟨tx.toArray⟩]] u fun e u'=>e=.returned (.agg #[.int .i64 t.id,.string ⟨t.uri.toArray⟩,.string ⟨t.stat.toArray⟩,.string ⟨t.ev.toArray⟩])∧Below u.heap.size u u')
  (ts:List Wt) (hown:OwnW w B (.slice vo tn tc) ts) (hlen:ts.length≤1000000)
  (fin:∀ (v':Value) (us:List Value) (u:World),us.length=7 → OwnW u B v' (ts++[t]) → Below B w u → Q .normal ⟨(a0.tmps.toList.take 14++(us++a0.tmps.toList.drop 21)).toArray,[]⟩ (u.setCell ⟨b,2,none⟩ v')) :
  (Code.region id ops true).wp Tryz.prog Q a0 w:=by
 have hb0:Below w.heap.size w { w with drawn:=w.drawn+1 }:=⟨rfl,rfl,rfl,Nat.le_refl _,fun _ _=>rfl⟩
 have HR:∀ u,Below ({ w with drawn:=w.drawn+1 }:World).heap.size { w with drawn:=w.drawn+1 } u → u.cell? ⟨b,2,none⟩=some (.slice vo tn tc):=fun u hu=>(RowIs.rc3 (hrow.below (hb0.trans hu) (Nat.lt_of_lt_of_le hbB hBw))).3
 have HC:∀ u,Below ({ w with drawn:=w.drawn+1 }:World).heap.size { w with drawn:=w.drawn+1 } u → u.cell? ⟨nb,0,none⟩=some (.int .i64 dp)∧u.cell? ⟨nb,1,none⟩=some (.string ⟨nm.toArray⟩)∧u.cell? ⟨nb,2,none⟩=some (.slice pa pn pc)∧u.cell? ⟨nb,3,none⟩=some (.string ⟨tx.toArray⟩):=fun u hu=>by
  have h:=RowIs.rc4 (hnrow.below (hb0.trans hu) hnl);exact ⟨h.1,h.2,h.3,h.4⟩
 obtain ⟨i1,hj,hy0,hy1,hy2⟩:=info_parts infoWt
 refine wp_region_two followsM (rr6P a0 { w with drawn:=w.drawn+1 } b nb tn tc vo dp nm tx pa pn pc t) 5 rfl rfl hsz hdf (by rw [S.sz]; decide) hlow
  (fun L a u=>∃ v':Value,Outs (rr6P a0 { w with drawn:=w.drawn+1 } b nb tn tc vo dp nm tx pa pn pc t) a0 a∧a.eval (.tmp 19)=v'∧(L.getD 6 false=true → a.eval (.tmp 20)=.pointer (some ⟨b,2,none⟩))∧(∀ i,i < 5 → L.getD i false=true)∧∃ u0,OwnW u0 B v' (ts++[t])∧Below B w u0∧u=if L.getD 7 false=true then u0.setCell ⟨b,2,none⟩ v' else u0)
  (fun L a u i h1 h2 h3 h4 h5=>rr6_steps S a0 { w with drawn:=w.drawn+1 } b nb tn tc vo dp nm tx pa pn pc t B3 B5 HR HC (fun u hu=>KW u (hb0.trans hu)) Q L a u i h1 h2 h3 h4 h5) ?_ ?_ ?_
 ·intro L a u hs hi hI;have q1:=hI.val 1 (by simp [rr6P]) (S.w5_1.on hi);have q4:=hI.val 4 (by simp [rr6P]) (S.w5_4.on hi);simp only [rr6P,rr6R,rr6D] at q1 q4;obtain ⟨g2,q4,_,hnew⟩:=q4;have hb1:Below w.heap.size w u:=hb0.trans hI.bel;have hall:=parent_all hpar hi hI.dn;have h6:L.getD 6 false=true → a.eval (.tmp 20)=.pointer (some ⟨b,2,none⟩):=fun hl=>hI.val 6 (by simp [rr6P]) hl
  have h7:L.getD 7 false=false:=by
   cases h:L.getD 7 false with
   | false=>rfl
   | true=>have:=hI.dn 7 5 S.w7_5 h; rw [(ready_nots hi).1] at this; cases this
  obtain ⟨o,ho1,hg,hd,hop⟩:=S.p5;refine wpOp_of (E:=True) ho1 (step_appW hg (.tmp 15) (.tmp 18) 22 hop B i1 _ Tryz.underlying22 hj hy0 hy1 hy2 rfl (.slice vo tn tc) ts q1 (hown.below hb1) ⟨g2,0,none⟩ 1 t q4 hnew (by omega) (Nat.le_trans hBw hb1.size) ?_) hg
  intro v' w' hown' hfr;rw [hd];refine ⟨v',hI.o.put 19 v' (by simp [rr6P]) (by simp [rr6P]),eval_put_same (by rw [hI.o.sz]; simp [rr6P]),fun hl=>?_,fun j hj=>?_,w',hown',(hb1.mono hBw).trans hfr,?_⟩
  ·rw [getD_set_ne (by decide)] at hl;rw [eval_put_ne (by decide)]; exact h6 hl
  ·rw [getD_set_ne (by omega)]; exact hall j hj
  ·rw [getD_set_ne (by decide),h7]; rfl
 ·rintro L a u i hs hm hi ⟨v',ho,he,h6,hall,u0,hown',hbu,hu⟩;obtain ⟨hn,hlt⟩:=ready_nots hi;rw [S.sz] at hlt;by_cases hi5:i < 5
  ·rw [hall i hi5] at hn; cases hn
  rcases (show i=5∨i=6∨i=7 by omega) with rfl | rfl | rfl
  ·rw [hm] at hn; cases hn
  ·have b3:=(ho.out 3 (.inl (by simp [rr6P]))).trans B3;refine S.p6.val (v:=.pointer (some ⟨b,2,none⟩)) (w':=u) (fun o ho2=>?_) ⟨v',ho.put 20 _ (by simp [rr6P]) (by simp [rr6P]),by rw [eval_put_ne (by decide)]; exact he,fun _=>eval_put_same (by rw [ho.sz]; simp [rr6P]),fun j hj=>by rw [getD_set_ne (by omega)]; exact hall j hj,u0,hown',hbu,by rw [getD_set_ne (by decide)]; exact hu⟩
   simp only [execOp,ho2,b3];clear hu hbu hown' hall h6 ho;go_simp
  ·have q6:=h6 (S.w7_6.on hi);rw [hn] at hu;simp only [Bool.false_eq_true,if_false] at hu;subst hu;have hr:=RowIs.rc3 (hrow.below hbu hbB);refine S.p7.skip (w':=u.setCell ⟨b,2,none⟩ v') (fun o ho2=>?_) ⟨v',ho,he,fun _=>q6,fun j hj=>by rw [getD_set_ne (by omega)]; exact hall j hj,u,hown',hbu,by rw [getD_set_same (by rw [hs,S.sz]; decide)]; rfl⟩
   obtain ⟨va,vcap,hvf⟩:=hown'.form;subst hvf;have hc:=hr.3;obtain ⟨_,_,_,_,_,hf⟩:=hr;simp only [execOp,ho2,q6,he];clear hall h6 ho hbu hown' HC HR KW;go_simp
 ·rintro L a u hs hall ⟨v',ho,he,h6,_,u0,hown',hbu,hu⟩;rw [hall 7 (by rw [S.sz]; decide)] at hu;simp only [if_true] at hu;subst hu;obtain ⟨us,hus,hau⟩:=ho.fin hsz (by simp [rr6P]) (by simp [rr6P]);rw [hau];exact fin v' us u0 hus hown' hbu
theorem list12I {α:Type} {l:List α} (h:l.length=12):∃ a0 a1 a2 a3 a4 a5 a6 a7 a8 a9 a10 a11,l=[a0,a1,a2,a3,a4,a5,a6,a7,a8,a9,a10,a11]:=by
 match l,h with
 | [a0,a1,a2,a3,a4,a5,a6,a7,a8,a9,a10,a11],_=>exact ⟨a0,a1,a2,a3,a4,a5,a6,a7,a8,a9,a10,a11,rfl⟩
theorem list7I {α:Type} {l:List α} (h:l.length=7):∃ a0 a1 a2 a3 a4 a5 a6,l=[a0,a1,a2,a3,a4,a5,a6]:=by
 match l,h with
 | [a0,a1,a2,a3,a4,a5,a6],_=>exact ⟨a0,a1,a2,a3,a4,a5,a6,rfl⟩
structure WbS (w W:World) (n0 n1 n2 n3:Value):Prop where
 row:RowIs W w.heap.size 49 [n0,n1,n2,n3]
 res:RowIs W (w.heap.size+1) 51 [.int .i64 0,.string ⟨#[]⟩,.string ⟨#[]⟩,.string ⟨#[]⟩]
 bel:Below w.heap.size w W
 lt:w.heap.size+2≤W.heap.size
theorem wb_new (w:World) (n0 n1 n2 n3:Value):WbS w ((w.alloc (.cells #[n0,n1,n2,n3] 49)).alloc (.cells #[.int .i64 0,.string ⟨#[]⟩,.string ⟨#[]⟩,.string ⟨#[]⟩] 51)) n0 n1 n2 n3:=by
 have h1:=rc_row4 w n0 n1 n2 n3 49;have hl:=alloc_lt w (.cells #[n0,n1,n2,n3] 49);have hs:(w.alloc (.cells #[n0,n1,n2,n3] 49)).heap.size=w.heap.size+1:=by simp
 have hb1:Below w.heap.size w (w.alloc (.cells #[n0,n1,n2,n3] 49)):=(Below.refl _ w).alloc (Nat.le_refl _) _;generalize w.alloc (.cells #[n0,n1,n2,n3] 49)=W1 at h1 hl hs hb1 ⊢;have h2:=rc_row4 W1 (.int .i64 0) (.string ⟨#[]⟩) (.string ⟨#[]⟩) (.string ⟨#[]⟩) 51;rw [hs] at h2;exact ⟨h1.below ((Below.refl _ W1).alloc (Nat.le_refl _) _) hl,h2,hb1.alloc hb1.size _,by simp [hs]⟩
set_option maxHeartbeats 4000000 in
set_option maxRecDepth 100000 in
theorem wwatcher_any (x:Nd) (a:Value) (w:World) (hz:SmallN 1048576 x) (hv:ParsAt w a x.attrs) :
  Calls Tryz.prog 57 #[ndV x a] w fun e w'=>e=.returned (wtV (wtR x))∧Below w.heap.size w w':=by
 have hzp:SmallP 140737488355328 x.attrs:=⟨by have:=hz.2.2.1.1; omega,fun p hp=>⟨by have:=(hz.2.2.1.2 p hp).1; omega,by have:=(hz.2.2.1.2 p hp).2; omega⟩⟩
 have K1:=hid (fun u (h:Below w.heap.size w u)=>wsaid_any x a pidK u hzp (hv.below h));have K2:=hid (fun u (h:Below w.heap.size w u)=>wsaid_any x a pstatK u hzp (hv.below h));have K3:=hid (fun u (h:Below w.heap.size w u)=>wsaid_any x a weventK u hzp (hv.below h));have hid1:(wattV pidK x).length≤1048576:=watt_small hz.2.2.1;have htx:x.text.length≤1048576:=hz.2.1;have hR:wtR x=⟨(numV 1099511627776 (trimP [119] (wattV pidK x))).1,trimP sipcK x.text,wattV pstatK x,wattV weventK x⟩:=rfl;have KN:=hid (fun u=>wnumber_any (trimP [119] (wattV pidK x)) 1099511627776 u (by have:=trimP_len [119] (wattV pidK x); omega) (by decide) (by decide));rw [hR];generalize wattV pidK x=ID at K1 hid1 KN ⊢;generalize wattV pstatK x=ST at K2 ⊢;generalize wattV weventK x=EV at K3 ⊢;generalize (numV 1099511627776 (trimP [119] ID)).1=wid at KN ⊢;obtain ⟨pa,pc,hpf⟩:=hv.form;obtain ⟨dp,nm,ps,tx⟩:=x;unfold ndV wtV at *;simp only at K1 K2 K3 hpf htx ⊢;obtain ⟨pn,hpn⟩:∃ pn,pn=ps.length:=⟨_,rfl⟩
 rw [← hpn] at hpf;subst hpf;clear hpn hv hz hzp hR;have HE:=hid (wb_new w (.int .i64 dp) (.string ⟨nm.toArray⟩) (.slice pa pn pc) (.string ⟨tx.toArray⟩))
 go_enter Tryz.func57,Tryz.ntmps57
 go_upto_region 1 with fail
 generalize World.alloc (World.alloc w _) _=W0 at HE ⊢;refine ww1_region ⟨rfl,⟨_,rfl,rfl,rfl,rfl⟩,⟨_,rfl,rfl,rfl,rfl⟩,⟨_,rfl,rfl,rfl,rfl⟩,⟨_,rfl,rfl,rfl,rfl⟩,⟨_,rfl,rfl,rfl,rfl⟩,⟨_,rfl,rfl,rfl,rfl⟩,⟨_,rfl,rfl,rfl,rfl⟩,⟨_,rfl,rfl,rfl,rfl⟩,⟨_,rfl,rfl,rfl,rfl⟩,⟨_,rfl,rfl,rfl,rfl⟩,⟨_,rfl,rfl,rfl,rfl⟩,⟨_,rfl,rfl,rfl,rfl⟩,⟨_,rfl,rfl,rfl,rfl⟩,waits_of (by kernel_rfl),waits_of (by kernel_rfl),waits_of (by kernel_rfl),waits_of (by kernel_rfl),waits_of (by kernel_rfl),waits_of (by kernel_rfl),waits_of (by kernel_rfl)⟩ (by kernel_rfl) (by kernel_rfl) (by kernel_rfl) _ W0 (w.heap.size+1) w.heap.size dp nm tx ID ST EV pa pn pc wid rfl rfl rfl rfl (by omega) (by omega) HE.out.row (by have:=HE.out.lt; omega) HE.out.res (by have:=HE.out.lt; omega) (fun u h=>K1.out u (HE.out.bel.trans (h.mono HE.out.bel.size))) (fun u h=>K2.out u (HE.out.bel.trans (h.mono HE.out.bel.size))) (fun u h=>K3.out u (HE.out.bel.trans (h.mono HE.out.bel.size))) KN.out ?_
 intro us u hus hbu;obtain ⟨r0,r1,r2,r3,r4,r5,r6,r7,r8,r9,r10,r11,rfl⟩:=list12I hus;have hres:=HE.out.res.below hbu (by have:=HE.out.lt; omega);have hr5:=rc_store4 hres (.int .i64 wid) (.string ⟨(trimP sipcK tx).toArray⟩) (.string ⟨ST.toArray⟩) (.string ⟨EV.toArray⟩);have hb5:=hid (rc_below4 (HE.out.bel.trans (hbu.mono HE.out.bel.size)) (w.heap.size+1) (Nat.le_succ _) (.int .i64 wid) (.string ⟨(trimP sipcK tx).toArray⟩) (.string ⟨ST.toArray⟩) (.string ⟨EV.toArray⟩));generalize World.setCell _ _ _=w5 at hr5 hb5 ⊢;obtain ⟨e0,e1,e2,e3,_,_,_,_⟩:=hr5.rc4;clear hus hbu HE K1 K2 K3 KN hres;simp only [List.take_succ_cons,List.take_zero,List.drop_succ_cons,List.drop_zero,List.cons_append,List.nil_append]
 try go_wp2
 try simp only [Exit.inBlock,Exit.then]
 refine bodyPost_ret (v:=.agg #[.int .i64 wid,.string ⟨(trimP sipcK tx).toArray⟩,.string ⟨ST.toArray⟩,.string ⟨EV.toArray⟩]) (by simp [results,Tryz.results57,go_sem,e0,e1,e2,e3]; try rfl) rfl ?_
 exact ⟨rfl,hb5.out⟩
theorem rnext {l:List Nd} {k:Nat} (h2:2≤k) (hk:k < l.length):((l.take (k+1)).drop 2).map wtR=((l.take k).drop 2).map wtR++[wtR l[k]]:=by
 rw [List.take_succ_eq_append_getElem hk,List.drop_append_of_le_length (by rw [List.length_take]; omega),List.map_append]; rfl
theorem rfew {l:List Nd} {k:Nat} (h:k≤2):((l.take k).drop 2).map wtR=[]:=by
 rw [List.drop_of_length_le (by rw [List.length_take]; omega)]; rfl
theorem verR_one {l:List Nd} (h:0 < l.length):verR (l.take 1)=(numV 2147483647 (wattV versionK l[0])).1:=by
 match l,h with
 | a :: r,_=>rfl
theorem verR_more {l:List Nd} {k:Nat} (h:1≤k) (hk:k < l.length):verR (l.take (k+1))=verR (l.take k):=by
 match l,k,h with
 | a :: r,k+1,_=>rfl
theorem resR_one (l:List Nd):resR (l.take 1)=[]:=by
 match l with
 | []=>rfl
 | a :: r=>rfl
theorem resR_two {l:List Nd} (h:1 < l.length):resR (l.take 2)=trimP sipcK (wattV resourceK l[1]):=by
 match l,h with
 | a :: b :: r,_=>rfl
theorem resR_more {l:List Nd} {k:Nat} (h:2≤k) (hk:k < l.length):resR (l.take (k+1))=resR (l.take k):=by
 match l,k,h,hk with
 | a :: b :: r,k+2,_,_=>rfl
 | [a],k+2,_,hk=>simp at hk
def RdS (w wr:World) (l:List Nd) (k:Nat) (n0:Int) (t1:List UInt8) (vo:Option Addr) (tn tc:Nat) (ts:List Wt):Prop:=n0=verR (l.take k)∧t1=resR (l.take k)∧ts=((l.take k).drop 2).map wtR∧tn=ts.length∧tn≤k∧GuS w wr (.int .i64 n0) (.string ⟨t1.toArray⟩) (.slice vo tn tc) ts
def IfP (R:Inf × Int) (w:World) (e:Ending) (w':World):Prop:=∃ ws,e=.returned (.tuple #[infV R.1 ws,.int .i64 R.2])∧OwnW w' w.heap.size ws R.1.ws∧Below w.heap.size w w'
structure PaS (w W:World):Prop where
 res:RowIs W w.heap.size 24 [.int .i64 0,.string ⟨#[]⟩,.slice none 0 0]
 bel:Below w.heap.size w W
 lt:w.heap.size < W.heap.size
theorem PaS.below {w W W':World} (h:PaS w W) (hb:Below W.heap.size W W'):PaS w W':=⟨h.res.below hb h.lt,h.bel.trans (hb.mono h.bel.size),Nat.lt_of_lt_of_le h.lt hb.size⟩
theorem PaS.alloc {w W:World} (h:PaS w W) (o:Obj):PaS w (W.alloc o):=h.below ((Below.refl _ W).alloc (Nat.le_refl _) o)
theorem pa_new (w:World):PaS w (w.alloc (.cells #[.int .i64 0,.string ⟨#[]⟩,.slice none 0 0] 24)):=⟨rc_row3 w _ _ _ _,(Below.refl _ w).alloc (Nat.le_refl _) _,alloc_lt w _⟩
theorem PaS.done {w W:World} (h:PaS w W) (x0 x1 x2:Value):RowIs (((W.setCell ⟨w.heap.size,0,none⟩ x0).setCell ⟨w.heap.size,1,none⟩ x1).setCell ⟨w.heap.size,2,none⟩ x2) w.heap.size 24 [x0,x1,x2]∧Below w.heap.size w (((W.setCell ⟨w.heap.size,0,none⟩ x0).setCell ⟨w.heap.size,1,none⟩ x1).setCell ⟨w.heap.size,2,none⟩ x2) :=
 ⟨rc_store3 h.res x0 x1 x2,rc_below3 h.bel w.heap.size (Nat.le_refl _) x0 x1 x2⟩
theorem PaS.own {w W:World} {B:Nat} {v:Value} {ts:List Wt} (h:PaS w W) (ho:OwnW W B v ts) (hB:w.heap.size < B) (x0 x1 x2:Value):OwnW (((W.setCell ⟨w.heap.size,0,none⟩ x0).setCell ⟨w.heap.size,1,none⟩ x1).setCell ⟨w.heap.size,2,none⟩ x2) w.heap.size v ts :=
 sv_mono (ownW_set (ownW_set (ownW_set ho hB) hB) hB) (by omega)
theorem parseI_err {l:List UInt8} {nl:List Nd} {er:Int} (h:parseX l=(nl,er)) (he:er ≠ 0):parseI l=(noI,er):=by
 unfold parseI;rw [h,if_pos he]
theorem parseI_yes {l:List UInt8} {nl:List Nd} (h:parseX l=(nl,0)):parseI l=infoX nl:=by
 unfold parseI;rw [h,if_neg (by simp)]
end Go.Proofs.YtdbalahkmeknaaaGreatDoor
