/-
  RHead2, RFirst, RStart6, RParseL.
-/
import Derived.Test.YtiogedceommcoaaGreatDoorK34
set_option linter.unusedVariables false
set_option linter.unusedSimpArgs false
set_option maxRecDepth 20000
namespace Go.Proofs.YtiogedceommcoaaGreatDoor
open Go.RowKit Go.Sort Sc
set_option maxHeartbeats 4000000 in
set_option maxRecDepth 100000 in
theorem rhead_any (s:List UInt8) (w:World) (hs:s.length≤4096) :
  Calls Tryz.prog 52 #[.string ⟨s.toArray⟩] w fun e w'=>HeadRes (headV s) s w w' e∧Below w.heap.size w w':=by
 obtain ⟨i0,hi,hz0,hz1,hz2⟩:=info_parts info9;obtain ⟨H,hH⟩:∃ H,H=headV s:=⟨_,rfl⟩
 rw [← hH];have HH:Hid (H=headF [] (s.drop 0)):=show _=_ by rw [hH,headF_is,List.drop_zero]
 clear hH
 go_enter Tryz.func52,Tryz.ntmps52
 go_wp2
 go_loopw [4,5] (fun x i wr=>∃ (k:Nat) (Q:List (List UInt8)),k≤s.length∧i=.int .i64 k∧Hid (H=headF Q (s.drop k))∧sumL Q≤2 * k∧Hid (Own wr w.heap.size 9 x (strs Q))∧Below w.heap.size w wr) (fun _ i _=>s.length - (intOf i).toNat)
 case atStart=>exact ⟨0,[],Nat.zero_le _,rfl,HH,by simp [sumL],Own.nil _ _ _,Below.refl _ _⟩
 case round =>
  obtain ⟨k,Q,hk,rfl,hF,hsum,HO,hb⟩:=hrel;have KL:=hid (fun w'=>rline_list s k w' hs hk);have hQl:Q.length≤sumL Q:=by
   rw [sumL_is]; omega
  cases hlv:lineV (s.drop k) with
  | none =>
   rw [lineI_none hlv] at KL;have hv:=hid (hF.out.trans (headF_none hlv));clear hlv hF HO;go_wp2_with (go_at_call 107; refine (KL.out _).mono ?_; rintro e w' ⟨rfl,hw⟩; rw [hw])
   go_ret2;exact ⟨Or.inl ⟨hv.out,rfl⟩,hb⟩
  | some y =>
   obtain ⟨t,r⟩:=y;rw [lineI_some hlv] at KL;obtain ⟨hr,hnl,hloop⟩:=line_rest hlv;clear hloop;by_cases ht:t=[]
   ·subst ht;have hv:Hid (H=some (Q,s.drop (k+2))):=show _=_ by
     rw [hF.out,headF_end hlv,hr]; simp
    simp only [List.length_nil,Nat.add_zero] at KL hnl;clear hlv hF hr;obtain ⟨xa,xc,hxe⟩:=HO.out.form;subst hxe;go_wp2_with (go_at_call 107; refine (KL.out _).mono ?_; rintro e w' ⟨rfl,hw⟩; rw [hw])
    go_ret2;exact ⟨Or.inr ⟨Q,k+2,_,hv.out,by first | rfl | go_num,HO.out,by omega,by omega⟩,hb⟩
   ·have hnx:=hF.out.trans (headF_on hlv ht);rw [hr] at hnx;have hps:=push_sum Q t;have htl:1≤t.length:=by cases t with | nil=>exact absurd rfl ht | cons _ _=>simp
    have hie:t.isEmpty=false:=by cases t with | nil=>exact absurd rfl ht | cons _ _=>rfl
    have KT:=hid (fun w'=>reftrim_list t w' (by omega));have htr:=trimL_len t;obtain ⟨N,hN⟩:∃ N,N=k+t.length+2:=⟨_,rfl⟩
    rw [← hN] at KL hnx hnl;have hkN:k < N:=by omega
    have htN:t.length≤4096:=by omega
    have hsN:sumL (pushL Q t)≤2 * N:=by omega
    have HNX:=hid hnx;clear hnx hN hr hlv hF hps;obtain ⟨xa,xc,hxe⟩:=HO.out.form;subst hxe;rw [strs_length] at HO ⊢;have HBA:=hid (fun o=>hb.alloc hb.size o);have HOA:=hid (fun o=>HO.out.alloc o);have happend:(¬ (2≤Q.length∧t.head?.any blk=true)) → Hid (Q++[t]=pushL Q t):=fun h=>(push_new h).symm;have z0:0 < (⟨t.toArray⟩:ByteArray).size:=by rw [size_list]; omega
    have hbd:=u8_bd ((⟨t.toArray⟩:ByteArray)[0]'z0);have hblk:t.head?.any blk=(cls ((⟨t.toArray⟩:ByteArray)[0]'z0).toNat==32):=by
     rw [← blk_cls]
     cases t with
     | nil=>exact absurd rfl ht
     | cons b r=>rfl
    by_cases hq2:2≤Q.length
    ·have hq2':(2:Int)≤(Q.length:Int):=by omega
     cases hbk:(cls ((⟨t.toArray⟩:ByteArray)[0]'z0).toNat==32) with
     | false =>
      have hpn:=happend (by rw [hblk,hbk]; simp);have HNV:=hid (one_new wr 9 (.string ⟨t.toArray⟩));clear happend HO hblk KT;go_wp2_with (first
       | (go_at_call 107; refine (KL.out _).mono ?_; rintro e w' ⟨rfl,hw⟩; rw [hw])
       | (go_at_call 77; refine (refclass_any _ _ hbd.1 hbd.2).mono ?_; rintro e w' ⟨rfl,hw⟩; rw [hw])
       | (at_builtin; refine wp_appT _ rfl (.tmp 46) (.tmp 48) 35 rfl w.heap.size 9 i0 (.string .empty) Tryz.underlying35 hi hz0 hz1 hz2 rfl _ Q rfl (HOA.out _) ⟨_,0,none⟩ 1 [t] 1 rfl rfl (by exact HNV.out) (by omega) w (HBA.out _) (by have:=hb.size; simp; omega) ?_; intro v5 w5 hown5 hb5 hB5))
      rw [hpn.out] at hown5;have HO5:=hid hown5;clear hown5;go_wp2;go_roundw
      case rel=>exact ⟨N,pushL Q t,hnl,rfl,HNX,hsN,HO5,hb5⟩
      case measure=>simp [intOf]; omega
     | true =>
      rw [hbk] at hblk;have hQne:Q ≠ []:=by intro e; rw [e] at hq2; simp at hq2
      obtain ⟨I,z,rfl⟩:∃ I z,Q=I++[z]:=⟨Q.dropLast,Q.getLast hQne,(List.dropLast_concat_getLast _).symm⟩
      have hzl:z.length≤8192:=by have:=sumL_mem (I++[z]) z (by simp); omega
      have hset:Hid (strs ((I++[z]).set I.length ((z++[32])++trimL t))=strs (pushL (I++[z]) t)):=show _=_ by
       rw [push_fold hq2 hblk]; simp
      obtain ⟨g,cp,hve,hpc,hg,hBg,hcl⟩:=own_cells HO.out hQne;have hz1c:=hcl I.length (by simp);simp only [List.getElem_concat_length] at hz1c;simp only [Value.slice.injEq] at hve;obtain ⟨rfl,_,rfl⟩:=hve;have hql:(I++[z]).length=I.length+1:=by simp
      rw [hql] at HO hpc hq2 hq2';have hqI:I.length≤8192:=by omega
      have hwr:IntKind.i64.wrap (I.length:Int)=(I.length:Int):=by
       simp [IntKind.wrap,IntKind.bits,IntKind.signed]; omega
      have hin:0≤(I.length:Int)∧(I.length:Int) < (I.length:Int)+1:=by omega
      generalize trimL t=tr at KT htr hset;have hf0:=own_frozen HO.out I.length;have HOW:=own_set HO.out I.length (.string ⟨((z++[32])++tr).toArray⟩);have HBB:=hb.setCell (p:=⟨g,I.length,none⟩) hBg (.string ⟨((z++[32])++tr).toArray⟩);rw [strs_set,hset.out] at HOW;have q1:¬ 9223372036854775807 < z.length+1:=by omega
      have q2:¬ 9223372036854775807 < z.length+1+tr.length:=by omega
      have hglue:((⟨z.toArray⟩:ByteArray)++⟨#[32]⟩)++⟨tr.toArray⟩=⟨((z++[32])++tr).toArray⟩:=by
       rw [show (⟨#[32]⟩:ByteArray)=⟨[32].toArray⟩ from rfl,ByteArray.mk_append_mk,ByteArray.mk_append_mk]
      rw [show (z++[32])++tr=z++32 :: tr by simp] at HBB HOW;have HOW2:=hid HOW.drew;have HBB2:=hid HBB.drew;clear HOW HBB happend HO HOA hcl hset hql HBA hQne;simp only [List.length_append,List.length_cons,List.length_nil,Nat.zero_add];go_wp2_with (first
       | (go_at_call 107; refine (KL.out _).mono ?_; rintro e w' ⟨rfl,hw⟩; rw [hw])
       | (go_at_call 77; refine (refclass_any _ _ hbd.1 hbd.2).mono ?_; rintro e w' ⟨rfl,hw⟩; rw [hw]))
      go_region_law (go_simp; go_at_call 57; refine (KT.out _).mono ?_; rintro e w3 ⟨rfl,hw3⟩; rw [hw3])
      all_goals
       go_wp2;go_roundw
       case rel=>exact ⟨N,pushL (I++[z]) t,hnl,rfl,HNX,hsN,HOW2,HBB2.out⟩
       case measure=>simp [intOf]; omega
    ·have hq2':¬ ((2:Int)≤(Q.length:Int)):=by omega
     have hpn:=happend (by omega);have HNV:=hid (one_new wr 9 (.string ⟨t.toArray⟩));clear happend HO hblk KT;go_wp2_with (first
      | (go_at_call 107; refine (KL.out _).mono ?_; rintro e w' ⟨rfl,hw⟩; rw [hw])
      | (at_builtin; refine wp_appT _ rfl (.tmp 46) (.tmp 48) 35 rfl w.heap.size 9 i0 (.string .empty) Tryz.underlying35 hi hz0 hz1 hz2 rfl _ Q rfl (HOA.out _) ⟨_,0,none⟩ 1 [t] 1 rfl rfl (by exact HNV.out) (by omega) w (HBA.out _) (by have:=hb.size; simp; omega) ?_; intro v5 w5 hown5 hb5 hB5))
     rw [hpn.out] at hown5;have HO5:=hid hown5;clear hown5;go_wp2;go_roundw
     case rel=>exact ⟨N,pushL Q t,hnl,rfl,HNX,hsN,HO5,hb5⟩
     case measure=>simp [intOf]; omega
theorem first_resp2 {m:Ms} (h:m.method.isEmpty=true):firstB m=(m.target.isEmpty && (decide (100≤m.status∧m.status≤699) && valB m.reason)):=by
 unfold firstB; rw [if_pos (by simpa using h)]
theorem first_req2 {m:Ms} (h:m.method.isEmpty=false):firstB m=(m.target.all (fun b=>!blk b) && (tokenB m.method && (!m.target.isEmpty && (visB m.target && (decide (m.status=0) && m.reason.isEmpty))))):=by
 unfold firstB; rw [if_neg (by intro e; rw [e] at h; cases h)]
set_option maxHeartbeats 2000000 in
set_option maxRecDepth 100000 in
theorem rfirst_any (m:Ms) (ao:Option Addr) (hn hc:Nat) (w:World) (hsm:SmallM 140737488355328 m) :
  Calls Tryz.prog 108 #[msgV m (.slice ao hn hc)] w fun e w'=>e=.returned (.bool (firstB m))∧Below w.heap.size w w':=by
 have KV:=hid (fun w'=>rvalue_list m.reason w' hsm.2.2.1);have KS:=hid (fun w'=>rvisible_list m.target w' hsm.2.1);have KT:=hid (fun w'=>reftoken_list m.method w' hsm.1);have htl:=hsm.2.1;have f1:=@first_resp2 m;have f2:=@first_req2 m;have HBX:=hid (boxM_new w m (.slice ao hn hc));have hb0:Below w.heap.size w (w.alloc (objM m (.slice ao hn hc))):=(Below.refl _ w).alloc (Nat.le_refl _) _;clear hsm;obtain ⟨me,ta,st,re,hs,bo⟩:=m;unfold msgV;unfold objM at HBX hb0;simp only at KV KS KT f1 f2 HBX hb0 htl ⊢;generalize firstB _=r at f1 f2 ⊢;obtain ⟨x0,x1,x2,x3,x4,x5⟩:=HBX.out;simp only at x0 x1 x2 x3 x4 x5
 cases he:me.isEmpty with
 | true =>
  have hf:=f1 he;clear f1 f2 KS KT
  cases ht:ta.isEmpty with
  | false =>
   have HM:Hid (r=false):=show _=_ by rw [hf,ht]; rfl
   clear hf
   go_enter Tryz.func108,Tryz.ntmps108
   go_wp2;go_ret;exact ⟨ret_bool HM.out.symm,hb0⟩
  | true =>
   by_cases h1:100≤st
   ·by_cases h2:st≤699
    ·have HM:Hid (r=valB re):=show _=_ by rw [hf,ht]; simp [h1,h2]
     clear hf;generalize valB re=vb at KV HM
     go_enter Tryz.func108,Tryz.ntmps108
     go_wp2_with fail
     refine (KV.out _).mono ?_
     rintro e w1 ⟨rfl,rfl⟩;go_wp2;go_ret;exact ⟨ret_bool (by rw [HM.out]),hb0⟩
    ·have HM:Hid (r=false):=show _=_ by rw [hf]; simp [h2]
     clear hf
     go_enter Tryz.func108,Tryz.ntmps108
     go_wp2;go_ret;exact ⟨ret_bool HM.out.symm,hb0⟩
   ·have HM:Hid (r=false):=show _=_ by rw [hf]; simp [h1]
    clear hf
    go_enter Tryz.func108,Tryz.ntmps108
    go_wp2;go_ret;exact ⟨ret_bool HM.out.symm,hb0⟩
 | false =>
  have hf:=f2 he;clear f1 f2 KV HBX;have hie:ta.isEmpty=decide ((⟨ta.toArray⟩:ByteArray).size=0):=by rw [size_list]; cases ta <;> simp
  have hts:(⟨ta.toArray⟩:ByteArray).size=ta.length:=size_list ta;obtain ⟨s,hs2⟩:∃ s:ByteArray,s=⟨ta.toArray⟩:=⟨_,rfl⟩
  have hd:s.data.toList=ta:=by rw [hs2]
  rw [← hs2] at hie hts KS x1 hb0 ⊢;rw [← hd] at hf;have HF:=hid hf;have HS:Hid (s.size≤140737488355328):=by show _≤_; omega
  have HD:=hid hd;clear hf hs2 hd hts htl;have HIE:=hid hie;clear hie;have hss:=HS.out
  go_enter Tryz.func108,Tryz.ntmps108
  go_wp2
  go_loop [3] (fun i=>∃ k:Nat,k≤s.size∧i=.int .i64 k∧Hid ((s.data.toList.take k).all (fun b=>!blk b)=true)) (fun i=>s.size - (intOf i).toNat)
  case atStart=>exact ⟨0,Nat.zero_le _,rfl,hid (by simp)⟩
  case round =>
   obtain ⟨k,hk,rfl,hall⟩:=hrel;by_cases hlt:k < s.size
   ·have hbd:=u8_bd s[k];by_cases hb:blk s[k]=true
    ·have hb':(cls s[k].toNat==32)=true:=by rw [← blk_cls]; exact hb
     have HM:Hid (r=false):=show _=_ by
      rw [HF.out]
      have:s.data.toList.all (fun b=>!blk b)=false:=by
       rw [List.all_eq_false]; exact ⟨s[k],by rw [split_at s k hlt]; simp,by rw [hb]; simp⟩
      rw [this]; rfl
     clear hb hall HF;go_wp2_with (go_at_call 77; refine (refclass_any _ _ hbd.1 hbd.2).mono ?_; rintro e w' ⟨rfl,rfl⟩)
     go_ret;exact ⟨ret_bool HM.out.symm,hb0⟩
    ·have hb':(cls s[k].toNat==32)=false:=by rw [← blk_cls]; simpa using hb
     have hnx:Hid ((s.data.toList.take (k+1)).all (fun b=>!blk b)=true):=show _=_ by
      rw [take_snoc s k hlt,List.all_append,hall.out]; simp; simpa using hb
     clear hb hall;go_wp2_with (go_at_call 77; refine (refclass_any _ _ hbd.1 hbd.2).mono ?_; rintro e w' ⟨rfl,rfl⟩)
     go_round
     case rel=>exact ⟨k+1,by omega,by go_num,hnx⟩
     case measure=>simp [intOf]; omega
   ·have hf:r=(tokenB me && (!ta.isEmpty && (visB ta && (decide (st=0) && re.isEmpty)))):=by
     have h:=hall.out;rw [take_all s k (by omega)] at h;rw [HF.out,h,HD.out]; rfl
    have HE:Hid (ta.isEmpty=s.toList.isEmpty):=show _=_ by rw [ByteArray.toList_eq,HD.out]
    rw [HE.out] at hf;clear HF hall HIE HE HD;generalize tokenB me=tb at KT hf;generalize visB ta=vb at KS hf
    cases tb with
    | false =>
     have HM:Hid (r=false):=show _=_ by rw [hf]; rfl
     clear hf;go_wp2_with fail
     refine (KT.out _).mono ?_
     rintro e w1 ⟨rfl,rfl⟩;go_wp2;go_ret;exact ⟨ret_bool HM.out.symm,hb0⟩
    | true =>
     cases hte:s.toList.isEmpty with
     | true =>
      have HM:Hid (r=false):=show _=_ by rw [hf,hte]; rfl
      clear hf;go_wp2_with fail
      refine (KT.out _).mono ?_
      rintro e w1 ⟨rfl,rfl⟩;go_wp2;go_ret;exact ⟨ret_bool HM.out.symm,hb0⟩
     | false =>
      have HM:Hid (r=(vb && (decide (st=0) && re.isEmpty))):=show _=_ by rw [hf,hte]; rfl
      clear hf;go_wp2_with fail
      refine (KT.out _).mono ?_
      rintro e w1 ⟨rfl,rfl⟩;go_wp2_with fail
      refine (KS.out _).mono ?_
      rintro e w1 ⟨rfl,rfl⟩
      cases vb with
      | false =>
       go_wp2;go_ret;exact ⟨ret_bool (by rw [HM.out]; rfl),hb0⟩
      | true =>
       by_cases h0:st=0
       ·have HM2:Hid (r=re.isEmpty):=show _=_ by rw [HM.out]; simp [h0]
        subst h0;clear HM;go_wp2;go_ret;exact ⟨ret_bool HM2.out.symm,hb0⟩
       ·have e0:(st==0)=false:=by simpa using h0
        have HM2:Hid (r=false):=show _=_ by rw [HM.out]; simp [h0]
        clear HM h0;go_wp2;go_ret;exact ⟨ret_bool HM2.out.symm,hb0⟩
theorem rowS_new (w:World) (v0 v1 v2 v3 v4 v5:Value):RowIs (w.alloc (.cells #[v0,v1,v2,v3,v4,v5] 24)) w.heap.size 24 [v0,v1,v2,v3,v4,v5]:=by
 unfold RowIs; rw [heap_alloc_new]
theorem cut3_lof {r a b:List UInt8} {f:Bool} {c:UInt8} (h:cutL c r=(a,b,f)) (w:World) (hs:r.length≤100000) :
  Calls Tryz.prog 54 #[.string ⟨r.toArray⟩,.int .u8 c.toNat] w fun e w'=>e=.returned (.tuple #[.string ⟨a.toArray⟩,.string ⟨b.toArray⟩,.bool f])∧Below w.heap.size w w':=by
 have k:=cut3_list r c w (by omega);rw [h] at k;refine k.mono ?_
 rintro e w' ⟨rfl,q,rfl⟩;exact ⟨rfl,below_drewN w q⟩
def StartRes (V:Option Ms) (e:Ending):Prop:=∃ (m:Ms) (b:Bool),e=.returned (.tuple #[msgV m (.slice none 0 0),.bool b])∧m.headers=[]∧m.body=[]∧((b=true∧V=some m)∨(b=false∧V=none))
theorem fin_or {V:Option Ms} {nz:Int} {b c:List UInt8} (h:V=if (0:Int)=0∧b.length=3∧firstB ⟨[],[],nz,c,[],[]⟩=true then some ⟨[],[],nz,c,[],[]⟩ else none) (h3:b.length=3) :
  (firstB ⟨[],[],nz,c,[],[]⟩=true∧V=some ⟨[],[],nz,c,[],[]⟩)∨(firstB ⟨[],[],nz,c,[],[]⟩=false∧V=none):=by
 cases hf:firstB ⟨[],[],nz,c,[],[]⟩ with
 | true=>exact Or.inl ⟨rfl,by rw [h,if_pos ⟨rfl,h3,hf⟩]⟩
 | false=>exact Or.inr ⟨rfl,by rw [h,if_neg (fun k=>by rw [hf] at k; exact absurd k.2.2 (by simp))]⟩
set_option maxHeartbeats 4000000 in
set_option maxRecDepth 100000 in
theorem rstart_any (s:List UInt8) (w:World) (hs:s.length≤100000) :
  Calls Tryz.prog 53 #[.string ⟨s.toArray⟩] w fun e w'=>StartRes (startV s) e∧Below w.heap.size w w':=by
 have l1:=cutL_len 32 s;obtain ⟨a,r,ok1,h1⟩:∃ a r ok1,cutL 32 s=(a,r,ok1):=⟨_,_,_,rfl⟩
 have l2:=cutL_len 32 r;obtain ⟨b,c,ok,h2⟩:∃ b c ok,cutL 32 r=(b,c,ok):=⟨_,_,_,rfl⟩
 have hmore:=@cut_more 32 s;have hv:startV s=if ok1=false∨ok=false then none
   else if sameB a versionK=true then (if (numV 999 b).2=0∧b.length=3∧firstB ⟨[],[],(numV 999 b).1,c,[],[]⟩=true then some ⟨[],[],(numV 999 b).1,c,[],[]⟩ else none)
   else if a ≠ []∧firstB ⟨a,b,0,[],[],[]⟩=true∧sameB c versionK=true then some ⟨a,b,0,[],[],[]⟩ else none:=by
  unfold startV; simp only [h1,h2]
 rw [h1] at l1 hmore;rw [h2] at l2;simp only at l1 l2 hmore;rw [h2] at hmore;simp only at hmore;have KC1:=hid (fun w'=>cut3_lof h1 w' (by omega));have KC2:=hid (fun w'=>cut3_lof h2 w' (by omega));have KA:=hid (fun w'=>refsame_list a versionK w' (by omega) (by decide));have KB:=hid (fun w'=>refsame_list c versionK w' (by omega) (by decide));have KN:=hid (fun w'=>refnum_list b 999 w' (by omega) (by omega) (by omega));have KF:=hid (fun (m:Ms) (hm:SmallM 140737488355328 m) w'=>rfirst_any m none 0 0 w' hm);generalize startV s=V at hv ⊢;clear h1 h2;have HV:=hid hv;clear hv;have hr0:=rowM_new w;have hb0:Below w.heap.size w (w.alloc (.cells #[.string ⟨#[]⟩,.string ⟨#[]⟩,.int .i64 0,.string ⟨#[]⟩,.slice none 0 0,.string ⟨#[]⟩] 24)):=(Below.refl _ w).alloc (Nat.le_refl _) _;have hlt0:=alloc_lt w (.cells #[.string ⟨#[]⟩,.string ⟨#[]⟩,.int .i64 0,.string ⟨#[]⟩,.slice none 0 0,.string ⟨#[]⟩] 24)
 go_enter Tryz.func53,Tryz.ntmps53
 go_wp2_with fail
 refine (KC1.out _).mono ?_
 rintro e w1 ⟨rfl,hw1⟩;have hr1:=hr0.below hw1 hlt0;have hb1:=hb0.trans (hw1.mono hb0.size);have hlt1:=Nat.lt_of_lt_of_le hlt0 hw1.size;clear hr0 hb0 hlt0 hw1 KC1;go_wp2_with fail
 refine (KC2.out _).mono ?_
 rintro e w2 ⟨rfl,hw2⟩;have hr2:=hr1.below hw2 hlt1;have hb2:=hb1.trans (hw2.mono hb1.size);have hlt2:=Nat.lt_of_lt_of_le hlt1 hw2.size;clear hr1 hb1 hlt1 hw2 KC2;by_cases hoo:ok1=false∨ok=false
 ·rw [if_pos hoo] at HV;clear KA KB KN KF hmore;obtain ⟨y0,y1,y2,y3,y4,y5,f0,f1,f2,f3,f4,f5⟩:=hr2.six;have hr7:=row_store hr2 (.string ⟨#[]⟩) (.string ⟨#[]⟩) (.int .i64 0) (.string ⟨#[]⟩) (.slice none 0 0) (.string ⟨#[]⟩);have hb7:=store_below hb2 w.heap.size (Nat.le_refl _) (.string ⟨#[]⟩) (.string ⟨#[]⟩) (.int .i64 0) (.string ⟨#[]⟩) (.slice none 0 0) (.string ⟨#[]⟩)
  cases ok1 <;> cases ok
  all_goals first
   | (exfalso; revert hoo; decide)
   | (go_wp2
      generalize World.setCell _ _ _=w7 at hr7 hb7 ⊢;obtain ⟨d0,d1,d2,d3,d4,d5,_,_,_,_,_,_⟩:=hr7.six
      try simp only [Exit.inBlock,Exit.then]
      refine bodyPost_ret (v:=.tuple #[.agg #[.string ⟨#[]⟩,.string ⟨#[]⟩,.int .i64 0,.string ⟨#[]⟩,.slice none 0 0,.string ⟨#[]⟩],.bool false]) (by simp [results,Tryz.results53,go_sem,d0,d1,d2,d3,d4,d5]; try rfl) rfl ?_
      exact ⟨⟨noM,false,rfl,rfl,rfl,Or.inr ⟨rfl,HV.out⟩⟩,hb7⟩)
 rw [if_neg hoo] at HV;simp only [not_or,Bool.not_eq_false] at hoo;obtain ⟨rfl,rfl⟩:=hoo;clear hmore
 cases hsa:sameB a versionK with
 | true =>
  rw [hsa] at KA;rw [if_pos hsa] at HV;go_wp2_with fail
  refine (KA.out _).mono ?_
  rintro e w4 ⟨rfl,hw4⟩;have hr4:=hr2.below hw4 hlt2;have hb4:=hb2.trans (hw4.mono hb2.size);have hlt4:=Nat.lt_of_lt_of_le hlt2 hw4.size;clear hr2 hb2 hlt2 hw4 KA hsa KB;obtain ⟨nz,ne,hnv⟩:∃ nz ne,numV 999 b=(nz,ne):=⟨_,_,rfl⟩
  rw [hnv] at HV KN;simp only at HV KN;clear hnv;have sb:=size_list b;have KS:=hid (fun w'=>KF.out ⟨[],[],nz,c,[],[]⟩ (smallM_of (by simp) (by simp) (by omega)) w');unfold msgV at KS;simp only at KS;have hmX:=rowS_new w4 (.string ⟨#[]⟩) (.string ⟨#[]⟩) (.int .i64 nz) (.string ⟨c.toArray⟩) (.slice none 0 0) (.string ⟨#[]⟩);have hA:=(Below.refl _ w4).alloc (Nat.le_refl _) (.cells #[.string ⟨#[]⟩,.string ⟨#[]⟩,.int .i64 nz,.string ⟨c.toArray⟩,.slice none 0 0,.string ⟨#[]⟩] 24);have hrX:=hr4.below hA hlt4;have hbX:=hb4.trans (hA.mono hb4.size);have hlX2:=alloc_lt w4 (.cells #[.string ⟨#[]⟩,.string ⟨#[]⟩,.int .i64 nz,.string ⟨c.toArray⟩,.slice none 0 0,.string ⟨#[]⟩] 24);have hlX1:=hlt4;clear hr4 hb4 hA;by_cases hne:ne=0
  ·subst hne;by_cases h3:b.length=3
   ·have h3':((b.length:Int)==3)=true:=by rw [h3]; rfl
    have HF:=hid (fin_or HV.out h3);go_wp2_with (go_at_call 60; refine (KN.out _).mono ?_; rintro e w' ⟨rfl,hw⟩; rw [hw])
    generalize World.alloc w4 _=X at hmX hrX hbX hlX2 ⊢;obtain ⟨p0,p1,p2,p3,p4,p5,g0,g1,g2,g3,g4,g5⟩:=hmX.six;obtain ⟨y0,y1,y2,y3,y4,y5,f0,f1,f2,f3,f4,f5⟩:=hrX.six;have KR:=hid (key hmX hrX hbX hlX1 hlX2);clear hmX hrX hbX
    go_region_with (go_at_call 108; refine (KS.out _).mono ?_; rintro e w6 ⟨rfl,hw6⟩; obtain ⟨⟨q0,q1,q2,q3,q4,q5,_,_,_,_,_,_⟩,⟨z0,z1,z2,z3,z4,z5,k0,k1,k2,k3,k4,k5⟩,hr6,hb6⟩:=KR.out w6 hw6)
    all_goals (
     have hr7:=row_store hr6 (.string ⟨#[]⟩) (.string ⟨#[]⟩) (.int .i64 nz) (.string ⟨c.toArray⟩) (.slice none 0 0) (.string ⟨#[]⟩);have hb7:=store_below hb6 w.heap.size (Nat.le_refl _) (.string ⟨#[]⟩) (.string ⟨#[]⟩) (.int .i64 nz) (.string ⟨c.toArray⟩) (.slice none 0 0) (.string ⟨#[]⟩);generalize World.setCell _ _ _=w7 at hr7 hb7 ⊢;obtain ⟨d0,d1,d2,d3,d4,d5,_,_,_,_,_,_⟩:=hr7.six;go_wp2
     try simp only [Exit.inBlock,Exit.then]
     refine bodyPost_ret (v:=.tuple #[.agg #[.string ⟨#[]⟩,.string ⟨#[]⟩,.int .i64 nz,.string ⟨c.toArray⟩,.slice none 0 0,.string ⟨#[]⟩],.bool (firstB ⟨[],[],nz,c,[],[]⟩)]) (by simp [results,Tryz.results53,go_sem,d0,d1,d2,d3,d4,d5]; try rfl) rfl ?_
     exact ⟨⟨⟨[],[],nz,c,[],[]⟩,firstB ⟨[],[],nz,c,[],[]⟩,rfl,rfl,rfl,HF.out⟩,hb7⟩)
   ·have h3':((b.length:Int)==3)=false:=beq_eq_false_iff_ne.2 (by omega);have HV2:Hid (V=none):=show _=_ by rw [HV.out,if_neg (fun h=>h3 h.2.1)]
    clear KS;go_wp2_with (go_at_call 60; refine (KN.out _).mono ?_; rintro e w' ⟨rfl,hw⟩; rw [hw])
    generalize World.alloc w4 _=X at hmX hrX hbX hlX2 ⊢;obtain ⟨p0,p1,p2,p3,p4,p5,g0,g1,g2,g3,g4,g5⟩:=hmX.six;obtain ⟨y0,y1,y2,y3,y4,y5,f0,f1,f2,f3,f4,f5⟩:=hrX.six
    go_region
    all_goals (
     have hr7:=(row_store hrX (.string ⟨#[]⟩) (.string ⟨#[]⟩) (.int .i64 nz) (.string ⟨c.toArray⟩) (.slice none 0 0) (.string ⟨#[]⟩)).drew;have hb7:=(store_below hbX w.heap.size (Nat.le_refl _) (.string ⟨#[]⟩) (.string ⟨#[]⟩) (.int .i64 nz) (.string ⟨c.toArray⟩) (.slice none 0 0) (.string ⟨#[]⟩)).drew;generalize World.drew _=w7 at hr7 hb7 ⊢;obtain ⟨d0,d1,d2,d3,d4,d5,_,_,_,_,_,_⟩:=hr7.six;go_wp2
     try simp only [Exit.inBlock,Exit.then]
     refine bodyPost_ret (v:=.tuple #[.agg #[.string ⟨#[]⟩,.string ⟨#[]⟩,.int .i64 nz,.string ⟨c.toArray⟩,.slice none 0 0,.string ⟨#[]⟩],.bool false]) (by simp [results,Tryz.results53,go_sem,d0,d1,d2,d3,d4,d5]; try rfl) rfl ?_
     exact ⟨⟨⟨[],[],nz,c,[],[]⟩,false,rfl,rfl,rfl,Or.inr ⟨rfl,HV2.out⟩⟩,hb7⟩)
  ·have hne2:(ne==0)=false:=by simpa using hne
   have HV2:Hid (V=none):=show _=_ by rw [HV.out,if_neg (fun h=>hne h.1)]
   clear KS;go_wp2_with (go_at_call 60; refine (KN.out _).mono ?_; rintro e w' ⟨rfl,hw⟩; rw [hw])
   generalize World.alloc w4 _=X at hmX hrX hbX hlX2 ⊢;obtain ⟨p0,p1,p2,p3,p4,p5,g0,g1,g2,g3,g4,g5⟩:=hmX.six;obtain ⟨y0,y1,y2,y3,y4,y5,f0,f1,f2,f3,f4,f5⟩:=hrX.six
   go_region
   all_goals (
    have hr7:=(row_store hrX (.string ⟨#[]⟩) (.string ⟨#[]⟩) (.int .i64 nz) (.string ⟨c.toArray⟩) (.slice none 0 0) (.string ⟨#[]⟩)).drew;have hb7:=(store_below hbX w.heap.size (Nat.le_refl _) (.string ⟨#[]⟩) (.string ⟨#[]⟩) (.int .i64 nz) (.string ⟨c.toArray⟩) (.slice none 0 0) (.string ⟨#[]⟩)).drew;generalize World.drew _=w7 at hr7 hb7 ⊢;obtain ⟨d0,d1,d2,d3,d4,d5,_,_,_,_,_,_⟩:=hr7.six;go_wp2
    try simp only [Exit.inBlock,Exit.then]
    refine bodyPost_ret (v:=.tuple #[.agg #[.string ⟨#[]⟩,.string ⟨#[]⟩,.int .i64 nz,.string ⟨c.toArray⟩,.slice none 0 0,.string ⟨#[]⟩],.bool false]) (by simp [results,Tryz.results53,go_sem,d0,d1,d2,d3,d4,d5]; try rfl) rfl ?_
    exact ⟨⟨⟨[],[],nz,c,[],[]⟩,false,rfl,rfl,rfl,Or.inr ⟨rfl,HV2.out⟩⟩,hb7⟩)
 | false =>
  rw [hsa] at KA;rw [if_neg (by rw [hsa]; simp)] at HV;go_wp2_with fail
  refine (KA.out _).mono ?_
  rintro e w4 ⟨rfl,hw4⟩;have hr4:=hr2.below hw4 hlt2;have hb4:=hb2.trans (hw4.mono hb2.size);have hlt4:=Nat.lt_of_lt_of_le hlt2 hw4.size;clear hr2 hb2 hlt2 hw4 KA hsa KN;have KS:=hid (fun w'=>KF.out ⟨a,b,0,[],[],[]⟩ (smallM_of (by omega) (by omega) (by simp)) w');unfold msgV at KS;simp only at KS;have hmX:=rowS_new w4 (.string ⟨a.toArray⟩) (.string ⟨b.toArray⟩) (.int .i64 0) (.string ⟨#[]⟩) (.slice none 0 0) (.string ⟨#[]⟩);have hA:=(Below.refl _ w4).alloc (Nat.le_refl _) (.cells #[.string ⟨a.toArray⟩,.string ⟨b.toArray⟩,.int .i64 0,.string ⟨#[]⟩,.slice none 0 0,.string ⟨#[]⟩] 24);have hrX:=hr4.below hA hlt4;have hbX:=hb4.trans (hA.mono hb4.size);have hlX2:=alloc_lt w4 (.cells #[.string ⟨a.toArray⟩,.string ⟨b.toArray⟩,.int .i64 0,.string ⟨#[]⟩,.slice none 0 0,.string ⟨#[]⟩] 24);have hlX1:=hlt4;clear hr4 hb4 hA
  cases hae:a.isEmpty with
  | true =>
   have HV2:Hid (V=none):=show _=_ by rw [HV.out,if_neg (fun h=>h.1 (by simpa using hae))]
   clear KS KB;go_wp2;generalize World.alloc w4 _=X at hmX hrX hbX hlX2 ⊢;obtain ⟨p0,p1,p2,p3,p4,p5,g0,g1,g2,g3,g4,g5⟩:=hmX.six;obtain ⟨y0,y1,y2,y3,y4,y5,f0,f1,f2,f3,f4,f5⟩:=hrX.six
   go_region
   all_goals (
    have hr7:=(row_store hrX (.string ⟨a.toArray⟩) (.string ⟨b.toArray⟩) (.int .i64 0) (.string ⟨#[]⟩) (.slice none 0 0) (.string ⟨#[]⟩)).drew;have hb7:=(store_below hbX w.heap.size (Nat.le_refl _) (.string ⟨a.toArray⟩) (.string ⟨b.toArray⟩) (.int .i64 0) (.string ⟨#[]⟩) (.slice none 0 0) (.string ⟨#[]⟩)).drew;generalize World.drew _=w7 at hr7 hb7 ⊢;obtain ⟨d0,d1,d2,d3,d4,d5,_,_,_,_,_,_⟩:=hr7.six;go_wp2
    try simp only [Exit.inBlock,Exit.then]
    refine bodyPost_ret (v:=.tuple #[.agg #[.string ⟨a.toArray⟩,.string ⟨b.toArray⟩,.int .i64 0,.string ⟨#[]⟩,.slice none 0 0,.string ⟨#[]⟩],.bool false]) (by simp [results,Tryz.results53,go_sem,d0,d1,d2,d3,d4,d5]; try rfl) rfl ?_
    exact ⟨⟨⟨a,b,0,[],[],[]⟩,false,rfl,rfl,rfl,Or.inr ⟨rfl,HV2.out⟩⟩,hb7⟩)
  | false =>
   have hane:a ≠ []:=by intro e; rw [e] at hae; cases hae
   obtain ⟨ah,at',rfl⟩:=List.exists_cons_of_ne_nil hane
   cases hfb:firstB ⟨ah :: at',b,0,[],[],[]⟩ with
   | false =>
    rw [hfb] at KS;have HV2:Hid (V=none):=show _=_ by rw [HV.out,if_neg (fun h=>by rw [hfb] at h; exact absurd h.2.1 (by simp))]
    clear KB;go_wp2;generalize World.alloc w4 _=X at hmX hrX hbX hlX2 ⊢;obtain ⟨p0,p1,p2,p3,p4,p5,g0,g1,g2,g3,g4,g5⟩:=hmX.six;obtain ⟨y0,y1,y2,y3,y4,y5,f0,f1,f2,f3,f4,f5⟩:=hrX.six;have KR:=hid (key hmX hrX hbX hlX1 hlX2);clear hmX hrX hbX
    first | (go_region_with (go_at_call 108; refine (KS.out _).mono ?_; rintro e w6 ⟨rfl,hw6⟩; obtain ⟨⟨q0,q1,q2,q3,q4,q5,_,_,_,_,_,_⟩,⟨z0,z1,z2,z3,z4,z5,k0,k1,k2,k3,k4,k5⟩,hr6,hb6⟩:=KR.out w6 hw6)) | fail
    all_goals (
     have hr7:=row_store hr6 (.string ⟨(ah :: at').toArray⟩) (.string ⟨b.toArray⟩) (.int .i64 0) (.string ⟨#[]⟩) (.slice none 0 0) (.string ⟨#[]⟩);have hb7:=store_below hb6 w.heap.size (Nat.le_refl _) (.string ⟨(ah :: at').toArray⟩) (.string ⟨b.toArray⟩) (.int .i64 0) (.string ⟨#[]⟩) (.slice none 0 0) (.string ⟨#[]⟩);generalize World.setCell _ _ _=w7 at hr7 hb7 ⊢;obtain ⟨d0,d1,d2,d3,d4,d5,_,_,_,_,_,_⟩:=hr7.six;go_wp2
     try simp only [Exit.inBlock,Exit.then]
     refine bodyPost_ret (v:=.tuple #[.agg #[.string ⟨(ah :: at').toArray⟩,.string ⟨b.toArray⟩,.int .i64 0,.string ⟨#[]⟩,.slice none 0 0,.string ⟨#[]⟩],.bool false]) (by simp [results,Tryz.results53,go_sem,d0,d1,d2,d3,d4,d5]; try rfl) rfl ?_
     exact ⟨⟨⟨ah :: at',b,0,[],[],[]⟩,false,rfl,rfl,rfl,Or.inr ⟨rfl,HV2.out⟩⟩,hb7⟩)
   | true =>
    rw [hfb] at KS;go_wp2;generalize World.alloc w4 _=X at hmX hrX hbX hlX2 ⊢;obtain ⟨p0,p1,p2,p3,p4,p5,g0,g1,g2,g3,g4,g5⟩:=hmX.six;obtain ⟨y0,y1,y2,y3,y4,y5,f0,f1,f2,f3,f4,f5⟩:=hrX.six;have KR:=hid (key hmX hrX hbX hlX1 hlX2);have KR2:=hid (fun (w6:World) (hw6:Below X.drew.heap.size X.drew w6) (w8:World) (hw8:Below w6.heap.size w6 w8)=>key hmX hrX hbX hlX1 hlX2 w8 (hw6.trans (hw8.mono hw6.size)));clear hmX hrX hbX
    first | (go_region_with (first | (go_at_call 108; refine (KS.out _).mono ?_; rintro e w6 ⟨rfl,hw6⟩; obtain ⟨⟨q0,q1,q2,q3,q4,q5,_,_,_,_,_,_⟩,⟨z0,z1,z2,z3,z4,z5,k0,k1,k2,k3,k4,k5⟩,hr6,hb6⟩:=KR.out w6 hw6) | (go_at_call 105; refine (KB.out _).mono ?_; rintro e w8 ⟨rfl,hw8⟩; obtain ⟨⟨r0,r1,r2,r3,r4,r5,_,_,_,_,_,_⟩,⟨s0,s1,s2,s3,s4,s5,m0,m1,m2,m3,m4,m5⟩,hr8,hb8⟩:=KR2.out w6 hw6 w8 hw8))) | fail
    all_goals (
     have hr7:=row_store hr8 (.string ⟨(ah :: at').toArray⟩) (.string ⟨b.toArray⟩) (.int .i64 0) (.string ⟨#[]⟩) (.slice none 0 0) (.string ⟨#[]⟩);have hb7:=store_below hb8 w.heap.size (Nat.le_refl _) (.string ⟨(ah :: at').toArray⟩) (.string ⟨b.toArray⟩) (.int .i64 0) (.string ⟨#[]⟩) (.slice none 0 0) (.string ⟨#[]⟩);generalize World.setCell _ _ _=w7 at hr7 hb7 ⊢;obtain ⟨d0,d1,d2,d3,d4,d5,_,_,_,_,_,_⟩:=hr7.six;go_wp2
     try simp only [Exit.inBlock,Exit.then]
     refine bodyPost_ret (v:=.tuple #[.agg #[.string ⟨(ah :: at').toArray⟩,.string ⟨b.toArray⟩,.int .i64 0,.string ⟨#[]⟩,.slice none 0 0,.string ⟨#[]⟩],.bool (sameB c versionK)]) (by simp [results,Tryz.results53,go_sem,d0,d1,d2,d3,d4,d5]; try rfl) rfl ?_
     refine ⟨⟨⟨ah :: at',b,0,[],[],[]⟩,sameB c versionK,rfl,rfl,rfl,?_⟩,hb7⟩
     cases hsc:sameB c versionK with
     | true=>exact Or.inl ⟨rfl,by rw [HV.out,if_pos ⟨hane,hfb,hsc⟩]⟩
     | false=>exact Or.inr ⟨rfl,by rw [HV.out,if_neg (fun h=>by rw [hsc] at h; exact absurd h.2.2 (by simp))]⟩)
def InM (w5 wr:World) (m:Ms) (v:Value):Prop:=Below w5.heap.size w5 wr ∧
 RowIs wr w5.heap.size 24 [.string ⟨m.method.toArray⟩,.string ⟨m.target.toArray⟩,.int .i64 m.status,.string ⟨m.reason.toArray⟩,v,.string ⟨m.body.toArray⟩] ∧
 OwnH wr (w5.heap.size+1) v m.headers∧w5.heap.size < wr.heap.size
theorem InM.step {w5 wr w':World} {m:Ms} {v:Value} (h:InM w5 wr m v) (hb:Below wr.heap.size wr w'):InM w5 w' m v :=
 ⟨h.1.trans (hb.mono h.1.size),h.2.1.below hb h.2.2.2,h.2.2.1.below hb,Nat.lt_of_lt_of_le h.2.2.2 hb.size⟩
theorem InM.new (w5:World) (me ta re:List UInt8) (st:Int):InM w5 (w5.alloc (.cells #[.string ⟨me.toArray⟩,.string ⟨ta.toArray⟩,.int .i64 st,.string ⟨re.toArray⟩,.slice none 0 0,.string ⟨#[]⟩] 24)) ⟨me,ta,st,re,[],[]⟩ (.slice none 0 0) :=
 ⟨(Below.refl _ w5).alloc (Nat.le_refl _) _,rowB_new w5 me ta re [] st,OwnH.nil _ _,alloc_lt _ _⟩
theorem InM.app {w5 wr w':World} {me ta re bo:List UInt8} {st:Int} {l l':List Hdr} {v v':Value} (h:InM w5 wr ⟨me,ta,st,re,l,bo⟩ v) (hb:Below (w5.heap.size+1) wr w') (ho:OwnH w' (w5.heap.size+1) v' l') :
  InM w5 (w'.setCell ⟨w5.heap.size,4,none⟩ v') ⟨me,ta,st,re,l',bo⟩ v':=by
 obtain ⟨h1,h2,h3,h4⟩:=h;refine ⟨(h1.trans (hb.mono (Nat.le_succ _))).setCell (p:=⟨w5.heap.size,4,none⟩) (Nat.le_refl _) v',?_,OwnH.setB ho (Nat.lt_succ_self _) 4 v',?_⟩
 ·have:=(h2.below hb (Nat.lt_succ_self _)).set 4 v'
  simp only [List.set_cons_succ,List.set_cons_zero] at this;exact this
 ·have h5:=Nat.lt_of_lt_of_le h4 hb.size
  simpa [World.setCell] using h5
theorem InM.body {w5 wr:World} {me ta re bo bo':List UInt8} {st:Int} {l:List Hdr} {v:Value} (h:InM w5 wr ⟨me,ta,st,re,l,bo⟩ v) :
  InM w5 (wr.setCell ⟨w5.heap.size,5,none⟩ (.string ⟨bo'.toArray⟩)) ⟨me,ta,st,re,l,bo'⟩ v:=by
 obtain ⟨h1,h2,h3,h4⟩:=h;refine ⟨h1.setCell (p:=⟨w5.heap.size,5,none⟩) (Nat.le_refl _) _,?_,OwnH.setB h3 (Nat.lt_succ_self _) 5 _,?_⟩
 ·have:=h2.set 5 (.string ⟨bo'.toArray⟩)
  simp only [List.set_cons_succ,List.set_cons_zero] at this;exact this
 ·simpa [World.setCell] using h4
theorem hdrG_end (rest:List UInt8) (m:Ms) (size:Nat) (told:Bool) {Q:List (List UInt8)} {j:Nat} (hj:¬ j < Q.length):hdrG rest m size told (Q.drop j)=if rest.length < size then (noM,62) else ({ m with body:=rest.take size },0):=by
 rw [List.drop_of_length_le (by omega),hdrG]
theorem hdrG_on (rest:List UInt8) (m:Ms) (size:Nat) (told:Bool) {Q:List (List UInt8)} {j:Nat} (hj:j < Q.length):hdrG rest m size told (Q.drop j) =
  if (cutL 58 Q[j]).2.2=false∨tokenB (longV (behindL (cutL 58 Q[j]).1))=false∨visB (trimL (cutL 58 Q[j]).2.1)=false then (noM,61)
  else if lengthB (longV (behindL (cutL 58 Q[j]).1))=false then
   (if 64≤m.headers.length then (noM,4) else hdrG rest { m with headers:=m.headers++[⟨longV (behindL (cutL 58 Q[j]).1),trimL (cutL 58 Q[j]).2.1⟩] } size told (Q.drop (j+1)))
  else if (numV 4096 (trimL (cutL 58 Q[j]).2.1)).2 ≠ 0∨told=true then (noM,62)
  else hdrG rest m (numV 4096 (trimL (cutL 58 Q[j]).2.1)).1.toNat true (Q.drop (j+1)):=by
 rw [List.drop_eq_getElem_cons hj,hdrG]
theorem parseM_none63 {s:List UInt8} (h4:¬ 4096 < s.length) (h:headV s=none):parseM s=(noM,63):=by
 rw [parseM,if_neg h4,h]
theorem parseM_some {s rest:List UInt8} {l:List (List UInt8)} (h4:¬ 4096 < s.length) (h:headV s=some (l,rest)):parseM s=if l=[] then (noM,63) else match startV (l.headD []) with
   | none=>(noM,60)
   | some m=>hdrG rest m rest.length false l.tail:=by
 rw [parseM,if_neg h4,h];by_cases hl:l=[]
 ·rw [if_pos hl]; exact if_pos hl
 ·rw [if_neg hl];refine (if_neg hl).trans ?_
  cases startV (l.headD []) <;> rfl
end Go.Proofs.YtiogedceommcoaaGreatDoor
