/-
  RAll, ACut, ANext, WordsL, RBase1, VOwn, VCheck, VParse, VParse2, VList.
-/
import Derived.Test.YtiogedceommcoaaGreatDoorK16
import Derived.Lib.AppendStr
set_option linter.unusedVariables false
set_option linter.unusedSimpArgs false
set_option maxRecDepth 20000
namespace Go.Proofs.YtiogedceommcoaaGreatDoor
open Go.RowKit Go.Sort Sc
set_option maxHeartbeats 2000000 in
set_option maxRecDepth 100000 in
theorem rall_any (m:Ms) (h:Value) (nm:List UInt8) (w:World) (hsm:SmallM 140737488355328 m) (hhl:m.headers.length≤4398046511104) (hnl:nm.length≤140737488355328) (hat:HdrsAt w h m.headers) :
  Calls Tryz.prog 48 #[msgV m h,.string ⟨nm.toArray⟩] w fun e w'=>∃ v,e=.returned v∧Own w' w.heap.size 9 v (strs (allV m nm))∧Below w.heap.size w w':=by
 obtain ⟨i0,hi,hz0,hz1,hz2⟩:=info_parts info9;obtain ⟨ao,cap,rfl,hcell⟩:=hat.get;have HC:=hid hcell;have HSM:=hid hsm.2.2.2.2.2;have HEND:=hid (fun (k:Nat) (hk:m.headers.length≤k)=>allK_end m nm hk);have HBX:=hid (boxM_new w m (.slice ao m.headers.length cap));have hb0:Below w.heap.size w (w.alloc (objM m (.slice ao m.headers.length cap))):=(Below.refl _ w).alloc (Nat.le_refl _) _;have hlt:=alloc_lt w (objM m (.slice ao m.headers.length cap));clear hsm hat hcell;obtain ⟨me,ta,st,re,hs,bo⟩:=m;unfold msgV;unfold objM at HBX hb0 hlt;simp only at HC HSM HEND HBX hb0 hlt hhl ⊢;generalize allV _ nm=R at HEND ⊢;obtain ⟨n,hn⟩:∃ n,n=hs.length:=⟨_,rfl⟩
 rw [← hn] at HBX hb0 hlt hhl ⊢;have HN:=hid hn;clear hn;obtain ⟨x0,x1,x2,x3,x4,x5⟩:=HBX.out;simp only at x0 x1 x2 x3 x4 x5;generalize hW:World.alloc w _=W at HBX hb0 hlt x0 x1 x2 x3 x4 x5
 go_enter Tryz.func48,Tryz.ntmps48
 go_wp2;clear hW;have HOUT:=hid (fun (w':World) (h':Below W.heap.size W w')=>hb0.trans (h'.mono hb0.size));have HBX2:=hid (fun (w':World) (h':Below W.heap.size W w')=>BoxM.below HBX.out h' hlt);have hWl:=Nat.le_of_lt hlt
 go_loopw [5,6] (fun x i wr=>∃ k:Nat,k≤n∧i=.int .i64 k∧Hid (Own wr W.heap.size 9 x (strs (allK hs nm k)))∧Below W.heap.size W wr) (fun _ i _=>n - (intOf i).toNat)
 case atStart=>exact ⟨0,Nat.zero_le _,rfl,hid (Own.nil _ _ _),Below.refl _ W⟩
 case round =>
  clear x0 x1 x2 x3 x4 x5 HBX hb0;obtain ⟨k,hk,rfl,HO,hb⟩:=hrel;obtain ⟨x0,x1,x2,x3,x4,x5⟩:=HBX2.out _ hb;simp only at x0 x1 x2 x3 x4 x5;by_cases hlt2:k < n
  ·have hkl:k < hs.length:=by have:=HN.out; omega
   obtain ⟨a,ha,hab,h0,h1⟩:=HC.out k hkl;have D0:=hid (fun (w':World) (hb:Below w.heap.size w w')=>cell_below hb (by rw [add_block]; exact hab) h0);have D1:=hid (fun (w':World) (hb:Below w.heap.size w w')=>cell_below hb (by simp only [add_block]; exact hab) h1);have hss:=HSM.out _ (List.getElem_mem hkl);have hyes:=hid (@allK_yes hs nm k hkl);have hno:=hid (@allK_no hs nm k hkl);have hal:=allK_len hs nm k;clear hab h0 h1;subst ha;generalize hs[k]=x at D0 D1 hss hyes hno;obtain ⟨xn,xv⟩:=x;simp only at D0 D1 hss hyes hno;have KX:=hid (fun w'=>refsame_list xn nm w' hss.1 hnl);generalize allK hs nm k=Q at HO hyes hno hal;obtain ⟨xa,xc,hxe⟩:=HO.out.form;subst hxe;have d0:=D0.out _ (HOUT.out _ hb);go_wp2_with fail
   refine (KX.out _).mono ?_
   rintro e w3 ⟨rfl,hw3⟩;have hb3:=hb.trans (hw3.mono hb.size);have HO3:=hid (HO.out.below hw3);clear hw3 hb HO KX x0 x1 x2 x3 x4 x5 d0;obtain ⟨x0,x1,x2,x3,x4,x5⟩:=HBX2.out _ hb3;simp only at x0 x1 x2 x3 x4 x5
   cases heq:sameB xn nm with
   | false =>
    have HQ:=hid (hno.out heq);clear hyes hno;go_wp2;go_roundw
    case rel=>exact ⟨k+1,by omega,by go_num,hid (by rw [HQ.out]; exact HO3.out),hb3⟩
    case measure=>simp [intOf]; omega
   | true =>
    have HQ:=hid (hyes.out heq);clear hyes hno;have d1:=D1.out _ (HOUT.out _ hb3);have HNV:=hid (one_new w3 9 (.string ⟨xv.toArray⟩));have HOX:=hid (fun o=>HO3.out.alloc o);have HBX:=hid (fun o=>hb3.alloc hb3.size o);clear HO3;go_wp2_with (at_builtin; refine wp_appT _ rfl (.tmp 22) (.tmp 29) 35 rfl W.heap.size 9 i0 (.string .empty) Tryz.underlying35 hi hz0 hz1 hz2 rfl _ Q rfl (HOX.out _) ⟨_,0,none⟩ 1 [xv] 1 rfl rfl (by exact HNV.out) (by omega) W (HBX.out _) (by have:=hb3.size; simp; omega) ?_; intro v5 w5 hown5 hb5 hB5)
    rw [← HQ.out] at hown5;have HO5:=hid hown5;clear hown5;go_wp2;go_roundw
    case rel=>exact ⟨k+1,by omega,by go_num,HO5,hb5⟩
    case measure=>simp [intOf]; omega
  ·rw [HEND.out k (by have:=HN.out; omega)] at HO;go_wp2;go_ret;exact ⟨_,rfl,HO.out.mono hWl,HOUT.out _ hb⟩
set_option maxHeartbeats 2000000 in
set_option maxRecDepth 100000 in
theorem rone_any (m:Ms) (h:Value) (nm:List UInt8) (w:World) (hsm:SmallM 140737488355328 m) (hhl:m.headers.length≤4398046511104) (hnl:nm.length≤140737488355328) (hat:HdrsAt w h m.headers) :
  Calls Tryz.prog 21 #[msgV m h,.string ⟨nm.toArray⟩] w fun e w'=>e=.returned (.tuple #[.string ⟨(oneV m nm).1.toArray⟩,.bool (oneV m nm).2])∧Below w.heap.size w w':=by
 obtain ⟨ao,cap,rfl,hcell⟩:=hat.get;have KA:=hid (fun w' (hb:Below w.heap.size w w')=>rall_any m (.slice ao m.headers.length cap) nm w' hsm hhl hnl (hat.below hb));obtain ⟨o1,o2⟩:=oneV_is m nm;have hb0:Below w.heap.size w (w.alloc (objM m (.slice ao m.headers.length cap))):=(Below.refl _ w).alloc (Nat.le_refl _) _;have hal:=allK_len m.headers nm m.headers.length;rw [allK_end m nm (Nat.le_refl _)] at hal;clear hsm hcell hat;obtain ⟨me,ta,st,re,hs,bo⟩:=m;unfold msgV at KA ⊢;unfold objM at hb0;simp only at KA hb0 hal hhl ⊢;generalize allV _ nm=Q at KA o1 o2 hal;generalize oneV _ nm=R at o1 o2 ⊢
 go_enter Tryz.func21,Tryz.ntmps21
 go_wp2_with fail
 refine (KA.out _ hb0).mono ?_
 rintro e w1 ⟨v,rfl,hown,hw1⟩;have hb1:=hb0.trans (hw1.mono hb0.size);by_cases h1:Q.length=1
 ·match Q,h1 with
  | [x],_ =>
   have HR:=hid (o1 x rfl);obtain ⟨g,c,rfl,hc,hg,hB,hcl⟩:=own_cells hown (by simp);have c0:=hcl 0 (by simp);simp only [List.getElem_cons_zero] at c0;simp only [List.length_cons,List.length_nil,Nat.zero_add] at hc ⊢;clear hcl hown o1 o2 KA hal;go_wp2;go_ret2;exact ⟨ret_sb HR.out,hb1⟩
 ·have HR:=hid (o2 h1);obtain ⟨xa,xc,rfl⟩:=hown.form;rw [strs_length];have h1':((Q.length:Int) != 1)=true:=by rw [bne,beq_eq_false_iff_ne.2 (by omega)]; rfl
  clear hown o1 o2 KA;go_wp2;go_ret2;exact ⟨ret_sb (x:=[]) HR.out,hb1⟩
end Go.Proofs.YtiogedceommcoaaGreatDoor
namespace Go.Proofs.YtiogedceommcoaaGreatDoor
open Go.RowKit Sc
def openI (s:List UInt8):Int:=match openV false s with | some k=>(k:Int) | none=>-1
theorem openI_some {s:List UInt8} {k:Nat} (h:openV false s=some k):openI s=k:=by rw [openI,h]
theorem openI_none {s:List UInt8} (h:openV false s=none):openI s=-1:=by rw [openI,h]
theorem map_add {o:Option Nat} (a b:Nat):(o.map (·+a)).map (·+b)=o.map (·+(b+a)):=by cases o <;> simp; omega
set_option maxHeartbeats 1000000 in
theorem angle_any (s:ByteArray) (w:World) (hs:s.size≤140737488355328) :
  Calls Tryz.prog 155 #[.string s] w fun e w'=>e=.returned (.int .i64 (openI s.data.toList))∧w'=w:=by
 go_enter Tryz.func155,Tryz.ntmps155
 go_wp2
 go_loop [3,4,8] (fun x y i=>∃ (k:Nat) (ins esc:Bool),k≤s.size∧i=.int .i64 k∧x=.bool ins∧y=.bool esc∧Hid (openV false s.data.toList=if esc=true then (openV true (s.data.toList.drop (k+1))).map (·+(k+1)) else (openV ins (s.data.toList.drop k)).map (·+k))∧Hid (esc=true → ins=true)) (fun _ _ i=>s.size - (intOf i).toNat)
 case atStart=>exact ⟨0,false,false,by omega,rfl,rfl,rfl,hid (by simp),hid (by simp)⟩
 case round =>
  obtain ⟨k,ins,esc,hk,rfl,rfl,rfl,hop,hei⟩:=hrel;by_cases hlt:k < s.size
  ·have hd:=drop_cons s k hlt
   cases esc with
   | true =>
    obtain rfl:=hei.out rfl;have h2:Hid (openV false s.data.toList=if false=true then (openV true (s.data.toList.drop (k+1+1))).map (·+(k+1+1)) else (openV true (s.data.toList.drop (k+1))).map (·+(k+1))):=show _=_ by rw [hop.out]; simp
    clear hop hei hd;go_wp2
    go_round
    case rel=>exact ⟨k+1,true,false,by omega,by go_num,rfl,rfl,h2,hid (by simp)⟩
    case measure=>simp [intOf]; omega
   | false =>
    have hop2:openV false s.data.toList=(openV ins (s[k] :: s.data.toList.drop (k+1))).map (·+k):=by rw [hop.out,← hd]; simp
    clear hop hd;by_cases h34:s[k]=34
    ·have e34:((s[k].toNat:Int)==34)=true:=by rw [h34]; rfl
     have h2:Hid (openV false s.data.toList=if false=true then (openV true (s.data.toList.drop (k+1+1))).map (·+(k+1+1)) else (openV (!ins) (s.data.toList.drop (k+1))).map (·+(k+1))):=show _=_ by
      rw [hop2,if_neg (by simp)]
      cases ins with
      | true=>rw [open_q2 h34,map_add]; rfl
      | false=>rw [h34,open_q1,map_add]; rfl
     clear hop2 hei h34;go_wp2
     go_round
     case rel=>exact ⟨k+1,!ins,false,by omega,by go_num,rfl,rfl,h2,hid (by simp)⟩
     case measure=>simp [intOf]; omega
    ·have e34:((s[k].toNat:Int)==34)=false:=u8_ne h34
     cases ins with
     | true =>
      by_cases h92:s[k]=92
      ·have e92:((s[k].toNat:Int)==92)=true:=by rw [h92]; rfl
       have h2:Hid (openV false s.data.toList=if true=true then (openV true (s.data.toList.drop (k+1+1))).map (·+(k+1+1)) else (openV true (s.data.toList.drop (k+1))).map (·+(k+1))):=show _=_ by
        rw [hop2,if_pos rfl,open_esc h92,map_add,List.drop_drop]
       clear hop2 hei h34 h92;go_wp2
       go_round
       case rel=>exact ⟨k+1,true,true,by omega,by go_num,rfl,rfl,h2,hid (by simp)⟩
       case measure=>simp [intOf]; omega
      ·have e92:((s[k].toNat:Int)==92)=false:=u8_ne h92;have h2:Hid (openV false s.data.toList=if false=true then (openV true (s.data.toList.drop (k+1+1))).map (·+(k+1+1)) else (openV true (s.data.toList.drop (k+1))).map (·+(k+1))):=show _=_ by
        rw [hop2,if_neg (by simp),open_in h92 h34,map_add]
       clear hop2 hei h34 h92;go_wp2
       go_round
       case rel=>exact ⟨k+1,true,false,by omega,by go_num,rfl,rfl,h2,hid (by simp)⟩
       case measure=>simp [intOf]; omega
     | false =>
      by_cases h60:s[k]=60
      ·have e60:((s[k].toNat:Int)==60)=true:=by rw [h60]; rfl
       have h2:Hid (openI s.data.toList=k):=openI_some (by rw [hop2,h60,open_hit]; simp);clear hop2 hei h34 h60;go_wp2;go_ret;exact ⟨ret_int h2.out.symm,rfl⟩
      ·have e60:((s[k].toNat:Int)==60)=false:=u8_ne h60;have h2:Hid (openV false s.data.toList=if false=true then (openV true (s.data.toList.drop (k+1+1))).map (·+(k+1+1)) else (openV false (s.data.toList.drop (k+1))).map (·+(k+1))):=show _=_ by
        rw [hop2,if_neg (by simp),open_out h60 h34,map_add]
       clear hop2 hei h34 h60;go_wp2
       go_round
       case rel=>exact ⟨k+1,false,false,by omega,by go_num,rfl,rfl,h2,hid (by simp)⟩
       case measure=>simp [intOf]; omega
  ·have h2:Hid (openI s.data.toList=-1):=openI_none (by
    rw [hop.out,drop_all s k (by omega),drop_all s (k+1) (by omega)]
    cases esc <;> cases ins <;> simp [openV])
   clear hop hei;go_wp2;go_ret;exact ⟨ret_int h2.out.symm,rfl⟩
structure Only (b:Nat) (w w':World):Prop where
 below:Below b w w'
 size:w'.heap.size=w.heap.size
 other:∀ j,j ≠ b → w'.heap[j]? = w.heap[j]?
theorem Only.refl (b:Nat) (w:World):Only b w w:=⟨Below.refl _ _,rfl,fun _ _=>rfl⟩
theorem Only.set {b:Nat} {w w':World} (h:Only b w w') (o:Nat) (v:Value):Only b w (w'.setCell ⟨b,o,none⟩ v) :=
 ⟨h.below.setCell (Nat.le_refl b) v,by rw [← h.size]; simp [World.setCell],fun j hj=>by
  rw [← h.other j hj]
  rcases Nat.lt_or_gt_of_ne hj with hlt | hgt
  ·exact Below.heap_setCell _ _ _ _ (by simpa using hj)
  ·exact Below.heap_setCell _ _ _ _ (by simpa using hj)⟩
theorem Own.only {w w':World} {B b:Nat} {e:TypeId} {v:Value} {xs:List Value} (h:Own w B e v xs) (hb:Only b w w') (hlt:b < B):Own w' B e v xs:=by
 obtain ⟨h1,h2⟩:=h;refine ⟨h1,?_⟩
 rcases h2 with h2 | ⟨g,cap,cur,hv,hg,hh,r⟩
 ·exact Or.inl h2
 ·exact Or.inr ⟨g,cap,cur,hv,hg,by rw [hb.other g (by omega)]; exact hh,r⟩
set_option maxHeartbeats 400000 in
theorem blank_any (c:UInt8) (w:World) :
  Calls Tryz.prog 217 #[.int .u8 c.toNat] w fun e w'=>e=.returned (.bool (blk c))∧w'=w:=by
 have hbd:=u8_bd c;have K:=hid (fun w'=>class_any c.toNat w' hbd.1 hbd.2);have hv:Hid (blk c=(bits BinOp.and IntKind.i64 (cls c.toNat) 32 != 0)):=show _=_ from rfl
 go_enter Tryz.func217,Tryz.ntmps217
 go_wp2_with fail
 refine (K.out _).mono ?_
 rintro e w1 ⟨rfl,rfl⟩;go_wp2;go_ret;exact ⟨by rw [hv.out]; rfl,rfl⟩
theorem dropW_blk {L:List UInt8} {i:Nat} {b:UInt8} (h:L.drop i=b :: L.drop (i+1)) (hb:blk b=true):(L.drop i).dropWhile blk=(L.drop (i+1)).dropWhile blk:=by rw [h,List.dropWhile_cons,if_pos hb]
theorem dropW_stop {L:List UInt8} {i:Nat} {b:UInt8} (h:L.drop i=b :: L.drop (i+1)) (hb:blk b=false):(L.drop i).dropWhile blk=L.drop i:=by rw [h,List.dropWhile_cons,if_neg (by rw [hb]; simp)]
structure NextW (L:List UInt8) (k i j:Nat):Prop where
 le1:k≤i
 le2:i≤j
 le3:j≤L.length
 skip:(L.drop k).dropWhile blk=L.drop i
 head:∀ b,(L.drop i).head? = some b → blk b=false
 word:∀ b ∈ (L.drop i).take (j - i),blk b=false
 stop:∀ b,(L.drop j).head? = some b → blk b=true
theorem take_next {s:ByteArray} {i j:Nat} (hij:i≤j) (h:j < s.size) (hw:∀ b ∈ (s.data.toList.drop i).take (j - i),blk b=false) (hb:blk s[j]=false):∀ b ∈ (s.data.toList.drop i).take (j+1 - i),blk b=false:=by
 have e:j+1 - i=(j - i)+1:=by omega
 have hl:j - i < (s.data.toList.drop i).length:=by rw [List.length_drop,len_data]; omega
 rw [e,List.take_succ_eq_append_getElem hl];intro b hbm
 rcases List.mem_append.1 hbm with hm | hm
 ·exact hw b hm
 ·have:=List.mem_singleton.1 hm
  subst this;rw [List.getElem_drop];have e2:i+(j - i)=j:=by omega
  simp only [e2];exact hb
set_option maxHeartbeats 1000000 in
set_option maxRecDepth 100000 in
theorem next_any (b0 b1:Nat) (s:ByteArray) (k:Nat) (w:World) (hs:s.size≤140737488355328) (hk:k≤s.size) (h01:b0 < b1) (hsr:RowIs w b0 9 [.string s]) (har:RowIs w b1 3 [.int .i64 k]) :
  Calls Tryz.prog 216 #[.pointer (some ⟨b1,0,none⟩),.pointer (some ⟨b0,0,none⟩)] w fun e w'=>∃ i j,NextW s.data.toList k i j∧e=.returned (.string (s.extract i j))∧RowIs w' b1 3 [.int .i64 j]∧Only b1 w w':=by
 have hl:=len_data s;have HS:=hid hsr;have HA:=hid har;clear hsr har
 go_enter Tryz.func216,Tryz.ntmps216
 go_wp2
 go_loopg [4] (s.size - k) (fun g _ wx=>∃ i:Nat,i+g=s.size∧k≤i∧Hid (RowIs wx b1 3 [.int .i64 i])∧Hid (Only b1 w wx)∧Hid ((s.data.toList.drop k).dropWhile blk=(s.data.toList.drop i).dropWhile blk))
 case atStart=>exact ⟨k,by omega,by omega,HA,Only.refl _ _,rfl⟩
 case round =>
  obtain ⟨i,hig,hki,hrow,hon,hdw⟩:=hrel;have cA:=hrow.out.cell 0 (by simp);have fA:=hrow.out.frozen 0;have cS:=(HS.out.below hon.out.below h01).cell 0 (by simp);simp only [List.getElem_cons_zero] at cA cS;have hrow0:=hrow
  cases gk with
  | zero =>
   have hge1:s.size≤i:=by omega
   have hge2:i≤s.size:=by omega
   have hnl:¬ ((i:Int) < (s.size:Int)):=by omega
   clear hig;have hd0:=drop_all s i (by omega);have hskip:Hid ((s.data.toList.drop k).dropWhile blk=s.data.toList.drop i):=show _=_ by rw [hdw.out,hd0]; rfl
   have hhead:Hid (∀ b,(s.data.toList.drop i).head? = some b → blk b=false):=fun b hb=>by rw [hd0] at hb; cases hb
   clear hd0;go_wp2;clear hrow hdw cA cS fA
   go_loopg [17] (s.size - i) (fun g _ wx=>∃ j:Nat,j+g=s.size∧i≤j∧Hid (RowIs wx b1 3 [.int .i64 j])∧Hid (Only b1 w wx)∧Hid (∀ b ∈ (s.data.toList.drop i).take (j - i),blk b=false))
   case atStart=>exact ⟨i,by omega,by omega,hrow0,hon,hid (by simp)⟩
   case round =>
    clear hrow0 hon;obtain ⟨j,hjg,hij,hrow,hon,hwd⟩:=hrel;have cA:=hrow.out.cell 0 (by simp);have fA:=hrow.out.frozen 0;have cS:=(HS.out.below hon.out.below h01).cell 0 (by simp);simp only [List.getElem_cons_zero] at cA cS
    cases gk with
    | zero =>
     have hje1:s.size≤j:=by omega
     have hje2:j≤s.size:=by omega
     have hfin:Hid (NextW s.data.toList k i j):=⟨hki,hij,by omega,hskip.out,hhead.out,hwd.out,fun b hb=>by rw [drop_all s j (by omega)] at hb; cases hb⟩
     have hji:¬ ((j:Int) < (s.size:Int)):=by omega
     clear hwd hjg;go_wp2;go_ret;exact ⟨i,j,hfin.out,rfl,hrow.out,hon.out⟩
    | succ g=>exfalso; omega
  | succ g =>
   have hlt:i < s.size:=by omega
   have hdi:=drop_cons s i hlt
   cases hbk:blk s[i] with
   | true =>
    have hd2:Hid ((s.data.toList.drop k).dropWhile blk=(s.data.toList.drop (i+1)).dropWhile blk):=show _=_ by rw [hdw.out,dropW_blk hdi hbk]
    have hr2:Hid (RowIs (wr.setCell ⟨b1,0,none⟩ (.int .i64 ((i+1:Nat):Int))) b1 3 [.int .i64 ((i+1:Nat):Int)]):=by have:=hrow.out.set 0 (.int .i64 ((i+1:Nat):Int)); exact hid (by simpa using this)
    have ho2:Hid (Only b1 w (wr.setCell ⟨b1,0,none⟩ (.int .i64 ((i+1:Nat):Int)))):=hid (hon.out.set 0 _);rw [show ((i+1:Nat):Int)=(i:Int)+1 by omega] at hr2 ho2;have KB:=hid (fun w'=>blank_any s[i] w');rw [hbk] at KB;clear hdw hdi hbk;go_wp2_with fail
    refine (KB.out _).mono ?_
    rintro e w1 ⟨rfl,rfl⟩;go_wp2
    go_roundg g
    case measure=>omega
    case rel=>exact ⟨i+1,by omega,by omega,by first | exact hr2 | simpa using hr2,by first | exact ho2 | simpa using ho2,hd2⟩
   | false =>
    have hskip:Hid ((s.data.toList.drop k).dropWhile blk=s.data.toList.drop i):=show _=_ by rw [hdw.out,dropW_stop hdi hbk]
    have hhead:Hid (∀ b,(s.data.toList.drop i).head? = some b → blk b=false):=fun b hb=>by rw [hdi] at hb; cases hb; exact hbk
    have KB:=hid (fun w'=>blank_any s[i] w');rw [hbk] at KB;clear hdi hbk;go_wp2_with fail
    refine (KB.out _).mono ?_
    rintro e w1 ⟨rfl,rfl⟩;clear KB;go_wp2;clear hrow hdw cA cS fA
    go_loopg [17] (s.size - i) (fun g _ wx=>∃ j:Nat,j+g=s.size∧i≤j∧Hid (RowIs wx b1 3 [.int .i64 j])∧Hid (Only b1 w wx)∧Hid (∀ b ∈ (s.data.toList.drop i).take (j - i),blk b=false))
    case atStart=>exact ⟨i,by omega,by omega,hrow0,hon,hid (by simp)⟩
    case round =>
     clear hrow0 hon;obtain ⟨j,hjg,hij,hrow,hon,hwd⟩:=hrel;have cA:=hrow.out.cell 0 (by simp);have fA:=hrow.out.frozen 0;have cS:=(HS.out.below hon.out.below h01).cell 0 (by simp);simp only [List.getElem_cons_zero] at cA cS
     cases gk with
     | zero =>
      have hje1:s.size≤j:=by omega
      have hje2:j≤s.size:=by omega
      have hfin:Hid (NextW s.data.toList k i j):=⟨hki,hij,by omega,hskip.out,hhead.out,hwd.out,fun b hb=>by rw [drop_all s j (by omega)] at hb; cases hb⟩
      have hji:¬ ((j:Int) < (s.size:Int)):=by omega
      clear hwd hjg;go_wp2;go_ret;exact ⟨i,j,hfin.out,rfl,hrow.out,hon.out⟩
     | succ g =>
      have hlt2:j < s.size:=by omega
      have hdj:=drop_cons s j hlt2
      cases hbk:blk s[j] with
      | false =>
       have hw2:Hid (∀ b ∈ (s.data.toList.drop i).take (j+1 - i),blk b=false):=hid (take_next hij hlt2 hwd.out hbk);have hr2:Hid (RowIs (wr.setCell ⟨b1,0,none⟩ (.int .i64 ((j+1:Nat):Int))) b1 3 [.int .i64 ((j+1:Nat):Int)]):=by have:=hrow.out.set 0 (.int .i64 ((j+1:Nat):Int)); exact hid (by simpa using this)
       have ho2:Hid (Only b1 w (wr.setCell ⟨b1,0,none⟩ (.int .i64 ((j+1:Nat):Int)))):=hid (hon.out.set 0 _);rw [show ((j+1:Nat):Int)=(j:Int)+1 by omega] at hr2 ho2;have KB:=hid (fun w'=>blank_any s[j] w');rw [hbk] at KB;clear hwd hdj hbk;go_wp2_with fail
       refine (KB.out _).mono ?_
       rintro e w1 ⟨rfl,rfl⟩;go_wp2
       go_roundg g
       case measure=>omega
       case rel=>exact ⟨j+1,by omega,by omega,by first | exact hr2 | simpa using hr2,by first | exact ho2 | simpa using ho2,hw2⟩
      | true =>
       have hfin:Hid (NextW s.data.toList k i j):=⟨hki,hij,by omega,hskip.out,hhead.out,hwd.out,fun b hb=>by rw [hdj] at hb; cases hb; exact hbk⟩
       have KB:=hid (fun w'=>blank_any s[j] w');rw [hbk] at KB;clear hwd hdj hbk;go_wp2_with fail
       refine (KB.out _).mono ?_
       rintro e w1 ⟨rfl,rfl⟩;go_wp2;go_ret;exact ⟨i,j,hfin.out,rfl,hrow.out,hon.out⟩
theorem words_skip:∀ r:List UInt8,wordsG [] r=wordsG [] (r.dropWhile blk)
 | []=>rfl
 | b :: r=>by
  cases hb:blk b with
  | true=>rw [words_blank1 hb,List.dropWhile_cons,if_pos hb]; exact words_skip r
  | false=>rw [List.dropWhile_cons,if_neg (by rw [hb]; simp)]
theorem words_run:∀ (one cur rest:List UInt8),(∀ b ∈ one,blk b=false) → wordsG cur (one++rest)=wordsG (cur++one) rest
 | [],cur,rest,h=>by simp
 | b :: one,cur,rest,h=>by
  rw [List.cons_append,words_sign (h b (by simp)),words_run one _ rest (fun x hx=>h x (by simp [hx]))]; simp
theorem words_end {cur rest:List UInt8} (hc:cur ≠ []) (h:∀ b,rest.head? = some b → blk b=true):wordsG cur rest=cur :: wordsG [] rest:=by
 cases rest with
 | nil=>rw [wordsG,if_neg hc]; rfl
 | cons b r=>rw [words_blank2 (h b rfl) hc,words_blank1 (h b rfl)]
theorem drop_split {L:List UInt8} {i j:Nat} (h:i≤j):L.drop i=(L.drop i).take (j - i)++L.drop j:=by
 have:=(List.take_append_drop (j - i) (L.drop i)).symm
 rwa [List.drop_drop,show i+(j - i)=j by omega] at this
theorem words_next {L:List UInt8} {k i j:Nat} (h:NextW L k i j) (hne:(L.drop i).take (j - i) ≠ []):wordsG [] (L.drop k)=(L.drop i).take (j - i) :: wordsG [] (L.drop j):=by
 rw [words_skip,h.skip,drop_split h.le2,words_run _ _ _ h.word,List.nil_append,words_end hne h.stop];rw [← drop_split h.le2]
theorem words_none {L:List UInt8} {k i j:Nat} (h:NextW L k i j) (hne:(L.drop i).take (j - i)=[]):L.drop i=[]:=by
 cases hd:L.drop i with
 | nil=>rfl
 | cons b r =>
  exfalso
  have hb:=h.head b (by rw [hd]; rfl);rw [hd] at hne;have hji:j - i=0:=by
   cases hx:j - i with
   | zero=>rfl
   | succ n=>rw [hx] at hne; simp at hne
  have he:j=i:=by have:=h.le2; omega
  have:=h.stop b (by rw [he,hd]; rfl)
  rw [hb] at this; cases this
def okD (b:UInt8):Bool:=blk b || tokc b
theorem all_skip:∀ r:List UInt8,r.all okD=(r.dropWhile blk).all okD
 | []=>rfl
 | b :: r=>by
  cases hb:blk b with
  | true=>rw [List.all_cons,List.dropWhile_cons,if_pos hb,← all_skip r]; simp [okD,hb]
  | false=>rw [List.dropWhile_cons,if_neg (by rw [hb]; simp)]
theorem all_word {l:List UInt8} (h:∀ b ∈ l,blk b=false):l.all okD=allB 8 l:=by
 induction l with
 | nil=>rfl
 | cons b r ih =>
  have h1:=h b (by simp);have h2:=ih (fun x hx=>h x (by simp [hx]));rw [List.all_cons,h2];have e:okD b=tokc b:=by simp [okD,h1]
  rw [e]; rfl
theorem all_next {L:List UInt8} {k i j:Nat} (h:NextW L k i j):(L.drop k).all okD=(allB 8 ((L.drop i).take (j - i)) && (L.drop j).all okD):=by
 rw [all_skip,h.skip,drop_split h.le2,List.all_append,all_word h.word];rw [← drop_split h.le2]
theorem join_cons (a:List UInt8):∀ {x:List (List UInt8)},x ≠ [] → joinB (a :: x)=a++[32]++joinB x
 | [],h=>absurd rfl h
 | b :: x,_=>rfl
theorem join_snoc:∀ (ws:List (List UInt8)) (w:List UInt8),joinB (ws++[w])=if ws=[] then w else joinB ws++[32]++w
 | [],w=>rfl
 | a :: ws,w=>by
  rw [if_neg (by simp),List.cons_append,join_cons a (by simp),join_snoc ws w];by_cases h:ws=[]
  ·subst h; rfl
  ·rw [if_neg h,join_cons a h]; simp
theorem join_ne:∀ (ws:List (List UInt8)),(∀ w ∈ ws,w ≠ []) → ws ≠ [] → joinB ws ≠ []
 | [],_,h=>absurd rfl h
 | [a],h,_=>by simpa [joinB] using h a (by simp)
 | a :: b :: ws,h,_=>by
  rw [join_cons a (by simp)]; simp
def wordsR (s:List UInt8):List UInt8 × Bool:=if s.all okD=true then (joinB (wordsG [] s),decide ((joinB (wordsG [] s)).length≤64)) else ([],false)
theorem pars_sl {w:World} {v:Value} {ps:List Par} (h:ParsAt w v ps):SliceV v:=by
 obtain ⟨a,c,rfl⟩:=h.form;exact ⟨a,_,c,rfl⟩
def BoxV (w:World) (b:Nat) (h:Hop) (q:Value):Prop:=w.cell? ⟨b,0,none⟩=some (.string ⟨h.host.toArray⟩)∧w.cell? ⟨b,1,none⟩=some (.int .i64 h.port)∧w.cell? ⟨b,2,none⟩=some q
def objV (h:Hop) (q:Value):Obj:=.cells #[.string ⟨h.host.toArray⟩,.int .i64 h.port,q] 71
theorem boxV_new (w:World) (h:Hop) (q:Value):BoxV (w.alloc (objV h q)) w.heap.size h q:=by
 unfold BoxV World.cell? objV;simp only [heap_alloc_new];exact ⟨rfl,rfl,rfl⟩
def hopsCells (cs:List HopC):List Value:=cs.flatMap hpCells
theorem hpCells_len (c:HopC):(hpCells c).length=3:=rfl
theorem hopsCells_get (cs:List HopC) (k:Nat) (hk:k < cs.length) (j:Nat) (u:Value) (h:(hpCells cs[k])[j]? = some u):(hopsCells cs)[k * 3+j]? = some u:=by
 induction cs generalizing k with
 | nil=>simp at hk
 | cons c cs ih =>
  have e:hopsCells (c :: cs)=hpCells c++hopsCells cs:=rfl
  cases k with
  | zero =>
   have hj:j < 3:=by have:=(List.getElem?_eq_some_iff.1 h).1; simpa [hpCells] using this
   rw [e,List.getElem?_append_left (by rw [hpCells_len]; omega),Nat.zero_mul,Nat.zero_add];exact h
  | succ k =>
   have:=ih k (by simpa using hk) (by simpa using h)
   rw [e,List.getElem?_append_right (by rw [hpCells_len]; omega),hpCells_len,show (k+1) * 3+j - 3=k * 3+j by omega];exact this
def HopC.Own (w:World) (B:Nat) (c:HopC):Prop:=OwnP w B c.q c.h.params
theorem HopC.Own.below {w w':World} {B:Nat} {c:HopC} (h:c.Own w B) (hb:Below w.heap.size w w'):c.Own w' B:=OwnP.below h hb
theorem HopC.Own.mono {w:World} {B B':Nat} {c:HopC} (h:c.Own w B) (hle:B'≤B):c.Own w B':=OwnP.mono h hle
theorem HopC.Own.at {w:World} {B:Nat} {c:HopC} (h:c.Own w B):c.At w:=⟨OwnP.parsAt h,OwnP.cap h⟩
def OwnV (w:World) (B:Nat) (v:Value) (cs:List HopC):Prop:=w.ownsRow B 71 3 v cs.length (hopsCells cs)∧∀ c ∈ cs,c.Own w B
theorem OwnV.nil (w:World) (B:Nat):OwnV w B (.slice none 0 0) []:=⟨World.ownsRow_nil _ _ _ _,fun c hc=>by simp at hc⟩
theorem OwnV.below {w w':World} {B:Nat} {v:Value} {cs:List HopC} (h:OwnV w B v cs) (hb:Below w.heap.size w w'):OwnV w' B v cs:=by
 obtain ⟨⟨h1,h2⟩,h3⟩:=h;refine ⟨⟨h1,?_⟩,fun c hc=>(h3 c hc).below hb⟩
 rcases h2 with h2 | ⟨g,cap,cur,hv,hg,hh,r⟩
 ·exact Or.inl h2
 ·exact Or.inr ⟨g,cap,cur,hv,hg,by rw [hb.block g (Array.getElem?_eq_some_iff.1 hh).1]; exact hh,r⟩
theorem OwnV.mono {w:World} {B C:Nat} {v:Value} {cs:List HopC} (h:OwnV w B v cs) (hc:C≤B):OwnV w C v cs:=by
 obtain ⟨⟨h1,h2⟩,h3⟩:=h;refine ⟨⟨h1,?_⟩,fun c hc'=>(h3 c hc').mono hc⟩
 rcases h2 with h2 | ⟨g,cap,cur,hv,hg,r⟩
 ·exact Or.inl h2
 ·exact Or.inr ⟨g,cap,cur,hv,Nat.le_trans hc hg,r⟩
theorem OwnV.form {w:World} {B:Nat} {v:Value} {cs:List HopC} (h:OwnV w B v cs):∃ a cap,v=.slice a cs.length cap:=by
 rcases h.1.2 with ⟨rfl,hn⟩ | ⟨g,cap,cur,rfl,_⟩
 ·exact ⟨none,0,by rw [hn]⟩
 ·exact ⟨_,cap,rfl⟩
theorem infoHop:(Tryz.prog.info? 71).map (fun i=>(i.zero,i.size,i.bytes))=some (some (.agg #[.string .empty,.int .i64 0,.slice none 0 0]),3,48):=by kernel_rfl
theorem rows_nev {w:World} {B1 B2 e1 e2 s1 s2 n1 n2:Nat} {v1 v2:Value} {x1 x2:List Value} (h1:w.ownsRow B1 e1 s1 v1 n1 x1) (h2:w.ownsRow B2 e2 s2 v2 n2 x2) (hne:e2 ≠ e1):v2.ownBlock=none∨v2.ownBlock ≠ v1.ownBlock:=by
 rcases h2.2 with ⟨rfl,_⟩ | ⟨g2,c2,u2,rfl,_,hg2,_⟩
 ·exact Or.inl rfl
 ·right
  rcases h1.2 with ⟨rfl,_⟩ | ⟨g1,c1,u1,rfl,_,hg1,_⟩
  ·simp [Value.ownBlock]
  ·simp only [Value.ownBlock];intro e
   injection e with e
   rw [e,hg1] at hg2
   injection hg2 with hg2
   injection hg2 with _ hg2
   exact hne hg2.symm
theorem wp_appV {P:Program} (w:World) {ops:Array Oper} {rest:List Oper} {o:Oper} {a:Act} {Q:Exit → Act → World → Prop} (hgd:o.guard=none)
  (s x:Operand) (t:TypeId) (ho:o.op=Op.call { callee:=Callee.builtin Builtin.append,args:=#[s,x],argTypes:=#[t,t] }) (B:Nat) (i:TypeInfo)
  (z:Value) (ht:P.underlying t=some (TypeDesc.slice 71)) (hi:P.info? 71=some i) (hz:i.zero=some z) (hsize:i.size=3) (hby:i.bytes=48) (hzs:z.cells.size=3)
  (v:Value) (cs:List HopC) (hs:a.eval s=v) (hown:OwnV w B v cs) (ad:Addr) (k:Nat) (c:HopC) (hc:c.Own w B) (hx:a.eval x=Value.slice (some ad) 1 k)
  (hnews:∀ (j:Nat) (u:Value),(hpCells c)[j]? = some u → w.cell? (ad.add j)=some u)
  (hlen:cs.length≤2000000) (w0:World) (hb:Below B w0 w) (hB:B≤w.heap.size)
  (h:∀ (v':Value) (w':World),OwnV w' B v' (cs++[c]) → (∀ (B2:Nat) (u:Value) (xs:List Value),Own w B2 9 u xs → Own w' B2 9 u xs) → Below B w0 w' → B≤w'.heap.size → wpList P ops Q rest (a.put o.dst v') w'):wpList P ops Q (o :: rest) a w:=by
 have one:∀ (ps:List Par) (B:Nat) (v:Value),OwnP w B v ps → v.oneCell'=true:=fun ps B v h=>by
  rcases h.2 with ⟨rfl,_⟩ | ⟨g,cap,cur,rfl,_⟩ <;> rfl
 refine wpList_append_own w hgd s x t ho B 71 i z 3 48 ht hi hz hsize hby hzs (by decide) v cs.length (hopsCells cs) hs hown.1 ad 1 k (hpCells c) hx rfl hnews
  (by intro u hu; simp [hpCells] at hu; rcases hu with rfl | rfl | rfl <;> first | rfl | exact one _ _ _ hc) (by unfold maxLen; omega) (by omega) hB ?_
 intro v' w' hown' hgr _;have keep:∀ (ps:List Par) (u:Value),OwnP w B u ps → OwnP w' B u ps:=fun ps u hu=>World.ownsRow.kept hu hgr (rows_nev hown.1 hu (by decide));refine h v' w' ⟨?_,?_⟩ (fun B2 u xs hu=>World.ownsRow.kept hu hgr (rows_nev hown.1 hu (by decide))) (hb.grown hgr hB (fun k hk=>(World.ownsRow.lt hown.1 k hk).1)) (Nat.le_trans hB hgr.size)
 ·have e:hopsCells (cs++[c])=hopsCells cs++hpCells c:=by simp [hopsCells]
  rw [e,List.length_append];exact hown'
 ·intro c' hc'
  rcases List.mem_append.1 hc' with hc' | hc'
  ·exact keep _ _ (hown.2 c' hc')
  ·simp at hc'; subst hc'
   exact keep _ _ hc
theorem new_hop (w4:World) (c:HopC) (t:TypeId):∀ (j:Nat) (u:Value),(hpCells c)[j]? = some u → (w4.alloc (.cells #[.string ⟨c.h.host.toArray⟩,.int .i64 c.h.port,c.q] t)).cell? ((⟨w4.heap.size,0,none⟩:Addr).add j)=some u:=by
 intro j u hj;have e:(⟨w4.heap.size,0,none⟩:Addr).add j=⟨w4.heap.size,j,none⟩:=by unfold Addr.add; split <;> simp_all
 rw [e];unfold World.cell?;rw [heap_alloc_new]
 simpa [hpCells] using hj
theorem digits_nat (n:Int) (w:World) (h0:0≤n) (h1:n≤9223372036854775807) :
  Calls Tryz.prog 50 #[.int .i64 n] w fun e w'=>e=.returned (.string ⟨(digL n.toNat).toArray⟩)∧Below w.heap.size w w':=by
 have k:=digits_any n.toNat w (by omega);rw [Int.toNat_of_nonneg h0] at k;exact k
theorem vsame_list (a b:List UInt8) (w:World) (ha:a.length≤140737488355328) (hb:b.length≤140737488355328) :
  Calls Tryz.prog 180 #[.string ⟨a.toArray⟩,.string ⟨b.toArray⟩] w fun e w'=>e=.returned (.bool (sameB a b))∧Below w.heap.size w w' :=
 same_any ⟨a.toArray⟩ ⟨b.toArray⟩ w (by rw [size_list]; omega) (by rw [size_list]; omega)
theorem index_of (l:List UInt8) (w:World) (hl:l.length≤140737488355328) :
  Calls Tryz.prog 160 #[.string ⟨l.toArray⟩,.string ⟨#[32,9]⟩] w fun e w'=>e=.returned (.int .i64 (if wordN l=l.length then -1 else (wordN l:Int)))∧Below w.heap.size w w':=by
 have z:=size_list l;rw [← index_word];by_cases h8:(⟨l.toArray⟩:ByteArray).size≤8
 ·exact bindexAny_short ⟨l.toArray⟩ w h8
 ·exact bindexAny_long ⟨l.toArray⟩ w (by omega) (by omega)
theorem vtake_ext (l:List UInt8) (k:Nat):(⟨l.toArray⟩:ByteArray).extract 0 k=⟨(l.take k).toArray⟩:=by
 apply ByteArray.ext
 simp
theorem vdrop_ext (l:List UInt8) (k:Nat):(⟨l.toArray⟩:ByteArray).extract k (⟨l.toArray⟩:ByteArray).size=⟨(l.drop k).toArray⟩:=by
 apply ByteArray.ext
 rw [size_list]
 simp [List.take_of_length_le]
theorem ret_tb {R:List UInt8 × Bool} {x:List UInt8} {b:Bool} (h:R=(x,b)):Ending.returned (.tuple #[.string ⟨x.toArray⟩,.bool b])=.returned (.tuple #[.string ⟨R.1.toArray⟩,.bool R.2]):=by rw [h]
set_option maxHeartbeats 1000000 in
set_option maxRecDepth 100000 in
theorem behind_any (t:List UInt8) (w:World) (hs:t.length≤140737488355328) :
  Calls Tryz.prog 152 #[.string ⟨t.toArray⟩] w fun e w'=>e=.returned (.tuple #[.string ⟨(behV t).1.toArray⟩,.bool (behV t).2])∧Below w.heap.size w w':=by
 have KI:=hid (fun w'=>index_of t w' hs);have b1:=hid (@behV_none t);have b2:=hid (@behV_other t);have b3:=hid (@behV_yes t);have hle:=wordN_le t;have htk:=vtake_ext t (wordN t);have hdr:=vdrop_ext t (wordN t+1);have KS:=hid (fun w'=>vsame_list (t.take (wordN t)) protoK w' (by simp; omega) (by decide));have hz:=size_list t;generalize behV t=R at b1 b2 b3 ⊢;generalize wordN t=n at KI b1 b2 b3 hle htk hdr KS;by_cases hn:n=t.length
 ·have HV:=hid (b1.out hn);rw [if_pos hn] at KI;clear b1 b2 b3 KS htk hdr
  go_enter Tryz.func152,Tryz.ntmps152
  go_wp2_with fail
  refine (KI.out _).mono ?_
  rintro e w1 ⟨rfl,hw1⟩;go_wp2;go_ret2;exact ⟨ret_tb (x:=[]) HV.out,hw1⟩
 ·rw [if_neg hn] at KI;have hlt:n < t.length:=by omega
  have d0:decide ((n:Int) < 0)=false:=decide_eq_false (by omega);generalize t.take n=tk at KS b2 b3 htk;have HB3:=hid (fun h=>b3.out hn h);clear b3
  cases hsb:sameB tk protoK with
  | false =>
   have HV:=hid (b2.out hsb);rw [hsb] at KS;clear b1 b2 HB3 hsb;unfold protoK at KS
   go_enter Tryz.func152,Tryz.ntmps152
   go_wp2_with fail
   refine (KI.out _).mono ?_
   rintro e w1 ⟨rfl,hw1⟩;go_wp2_with fail
   refine (KS.out _).mono ?_
   rintro e w2 ⟨rfl,hw2⟩;go_wp2;go_ret2;exact ⟨ret_tb (x:=[]) HV.out,hw1.trans (hw2.mono hw1.size)⟩
  | true =>
   have HV:=hid (HB3.out hsb);rw [hsb] at KS;clear b1 b2 HB3 hsb;unfold protoK at KS
   go_enter Tryz.func152,Tryz.ntmps152
   go_wp2_with fail
   refine (KI.out _).mono ?_
   rintro e w1 ⟨rfl,hw1⟩;go_wp2_with fail
   refine (KS.out _).mono ?_
   rintro e w2 ⟨rfl,hw2⟩;go_wp2;go_ret2
   first
    | exact ⟨ret_tb HV.out,hw1.trans (hw2.mono hw1.size)⟩
    | exact ⟨by rw [HV.out,← hdr]; rfl,hw1.trans (hw2.mono hw1.size)⟩
theorem OwnP.store3 {w:World} {B:Nat} {v:Value} {ps:List Par} (h:OwnP w B v ps) {b:Nat} (hb:b < B) (v0 v1 v2:Value):OwnP (((w.setCell ⟨b,0,none⟩ v0).setCell ⟨b,1,none⟩ v1).setCell ⟨b,2,none⟩ v2) B v ps :=
 ownsRow_setCell_below (ownsRow_setCell_below (ownsRow_setCell_below h hb _) hb _) hb _
def HopRes (R:Hop × Int) (w w':World) (e:Ending):Prop:=∃ q,e=.returned (.tuple #[hpV R.1 q,.int .i64 R.2])∧OwnP w' w.heap.size q R.1.params
theorem hres_none {R:Hop × Int} {n:Int} {w w':World} (h:R=(noH,n)):HopRes R w w' (.returned (.tuple #[.agg #[.string ⟨#[]⟩,.int .i64 0,.slice none 0 0],.int .i64 n])):=by
 subst h;exact ⟨.slice none 0 0,rfl,OwnP.nil _ _⟩
theorem pG_mem_len (sep:Int):∀ (l:List UInt8) (p:Pl) (cur x:List UInt8),x ∈ partsG sep p cur l → x.length≤cur.length+l.length
 | [],p,cur,x,h=>by rw [partsG] at h; simp at h; subst h; simp
 | b :: r,p,cur,x,h=>by
  rw [partsG] at h
  split at h
  ·rcases List.mem_cons.1 h with rfl | h
   ·omega
   ·have:=pG_mem_len sep r _ _ x h; simp at this ⊢; omega
  ·have:=pG_mem_len sep r _ _ x h; simp at this ⊢; omega
theorem p_mem_len (sep:Int) (l:List UInt8):∀ x ∈ partsV sep l,x.length≤l.length:=fun x h=>by have:=pG_mem_len sep l pl0 [] x h; simpa using this
theorem row3_at (w:World) (v0 v1 v2:Value) (t:TypeId):RowIs (w.alloc (.cells #[v0,v1,v2] t)) w.heap.size t [v0,v1,v2]:=by
 unfold RowIs; rw [heap_alloc_new]
theorem where_list (l:List UInt8) (w:World) (hs:l.length≤140737488355328) :
  Calls Tryz.prog 153 #[.string ⟨l.toArray⟩] w fun e w'=>e=.returned (.tuple #[.string ⟨(whereV l).1.toArray⟩,.int .i64 (whereV l).2.1,.int .i64 (whereV l).2.2])∧Below w.heap.size w w':=where_any ⟨l.toArray⟩ w (by rw [size_list]; exact hs)
set_option maxHeartbeats 1000000 in
set_option maxRecDepth 100000 in
theorem vparse_any (s:List UInt8) (w:World) (hs:s.length≤1048576) :
  Calls Tryz.prog 110 #[.string ⟨s.toArray⟩] w fun e w'=>HopRes (parseH s) w w' e∧Below w.heap.size w w':=by
 have hts:=trimL_len s;have hbl:=behV_len (trimL s);have KT:=hid (fun w'=>trim_list s w' (by omega));have KB:=hid (fun w'=>behind_any (trimL s) w' (by omega));have hv:=parseH_beh s;generalize parseH s=R at hv ⊢;generalize trimL s=t at KT KB hv hts hbl;generalize behV t=B at KB hv hbl;obtain ⟨r,bb⟩:=B;simp only at KB hv hbl;have hr0:=row3_at w (.string ⟨#[]⟩) (.int .i64 0) (.slice none 0 0) 71;have hb0:Below w.heap.size w (w.alloc (.cells #[.string ⟨#[]⟩,.int .i64 0,.slice none 0 0] 71)):=(Below.refl _ w).alloc (Nat.le_refl _) _;have hlt0:=alloc_lt w (.cells #[.string ⟨#[]⟩,.int .i64 0,.slice none 0 0] 71);have HV:=hid hv;clear hv
 go_enter Tryz.func110,Tryz.ntmps110
 go_wp2_with fail
 refine (KT.out _).mono ?_
 rintro e w1 ⟨rfl,hw1⟩;have hr1:=hr0.below hw1 hlt0;have hb1:=hb0.trans (hw1.mono hb0.size);have hlt1:=Nat.lt_of_lt_of_le hlt0 hw1.size;clear hr0 hb0 hlt0 hw1 KT;go_wp2_with fail
 refine (KB.out _).mono ?_
 rintro e w2 ⟨rfl,hw2⟩;have hr2:=hr1.below hw2 hlt1;have hb2:=hb1.trans (hw2.mono hb1.size);have hlt2:=Nat.lt_of_lt_of_le hlt1 hw2.size;clear hr1 hb1 hlt1 hw2 KB
 cases bb with
 | false =>
  have HR:Hid (R=(noH,70)):=show _=_ by rw [HV.out]; rfl
  clear HV;have hr7:=row_store3 hr2 (.string ⟨#[]⟩) (.int .i64 0) (.slice none 0 0);have hb7:=store_below3 hb2 w.heap.size (Nat.le_refl _) (.string ⟨#[]⟩) (.int .i64 0) (.slice none 0 0);obtain ⟨y0,y1,y2,f0,f1,f2⟩:=hr2.three;have H7:=hid (And.intro hr7 hb7);clear hr7 hb7;go_wp2;generalize World.setCell _ _ _=w7 at H7 ⊢;obtain ⟨hr7,hb7⟩:=H7.out;obtain ⟨d0,d1,d2,_,_,_⟩:=hr7.three
  try simp only [Exit.inBlock,Exit.then]
  refine bodyPost_ret (v:=.tuple #[.agg #[.string ⟨#[]⟩,.int .i64 0,.slice none 0 0],.int .i64 70]) (by simp [results,Tryz.results110,go_sem,d0,d1,d2]; try rfl) rfl ?_
  exact ⟨hres_none HR.out,hb7⟩
 | true =>
  rw [if_neg (by simp)] at HV;obtain ⟨p0',ps0,hpt⟩:=partsG_cons 59 r pl0 [];have hpt2:partsV 59 r=p0' :: ps0:=hpt;have hmem:=p_mem_len 59 r;rw [hpt2] at hmem;have hp0:=hmem p0' (by simp);have htp:=trimL_len p0';have KP:=hid (fun w'=>parts_of hpt2 w' (by omega));have KTT:=hid (fun w'=>trim_list p0' w' (by omega));have KW:=hid (fun w'=>where_list (trimL p0') w' (by omega));have HML:Hid (∀ l ∈ ps0,l.length≤1048576):=fun l hl=>by have:=hmem l (by simp [hl]); omega
  rw [restH_of hpt2] at HV;clear hpt hpt2 hmem;generalize trimL p0'=tp at KTT KW HV htp;generalize whereV tp=W at KW HV;obtain ⟨wh,wp,wn⟩:=W;simp only at KW HV;go_wp2_with fail
  refine (KP.out _).mono ?_
  rintro e w5 ⟨g,cap,rfl,hcap,hgl,hcells,hw5⟩;have hg0:=hcells 0 (by simp);simp only [List.getElem_cons_zero] at hg0;have hr6:=hr2.below hw5 hlt2;have hb6:=hb2.trans (hw5.mono hb2.size);have hlt6:=Nat.lt_of_lt_of_le hlt2 hw5.size;have HC:=hid hcells;clear hcells hw5 KP;go_wp2_with fail
  refine (KTT.out _).mono ?_
  rintro e w6 ⟨rfl,hw6⟩;have hr7:=hr6.below hw6 hlt6;have hb7:=hb6.trans (hw6.mono hb6.size);have hlt7:=Nat.lt_of_lt_of_le hlt6 hw6.size;clear hr6 hb6 KTT;go_wp2_with fail
  refine (KW.out _).mono ?_
  rintro e w7 ⟨rfl,hw7⟩;have hr8:=hr7.below hw7 hlt7;have hb8:=hb7.trans (hw7.mono hb7.size);have hlt8:=Nat.lt_of_lt_of_le hlt7 hw7.size;have hw8:=hw6.trans (hw7.mono hw6.size);clear hr7 hb7 KW hlt7 hw6 hw7;by_cases hun:wn=0
  ·subst hun;have HT2:Hid (R=if (fieldsV ps0).2 ≠ 0 then (noH,(fieldsV ps0).2) else (⟨wh,wp,(fieldsV ps0).1⟩,0)):=show _=_ by rw [HV.out,if_neg (by simp)]
   have HSA:Hid (StrsAt w7 (.slice (some ⟨g,1,none⟩) ps0.length (cap - 1)) ps0):=strs_tail HC.out hgl hw8;have HSB:Hid (ps0=[] → StrsAt w7 (.slice (some ⟨g,0,none⟩) ps0.length 0) ps0):=fun h=>by subst h; exact strs_none _ _ _
   clear HV HC hg0 hgl hw8;go_wp2_with fail
   all_goals (
    refine (afields_any _ ps0 w7 HML.out ?hstr).mono ?_
    case hstr=>first | with_reducible exact HSA.out | exact HSB.out (List.eq_nil_of_length_eq_zero (by omega))
    rintro e w9 ⟨fv,fn,rfl,⟨hfn,hfo⟩,hw9⟩;generalize fieldsV ps0=fr at HT2 hfn hfo;obtain ⟨fp,fm⟩:=fr;simp only at HT2 hfn hfo;subst hfn;obtain ⟨a3,k3,hfe⟩:=hfo.parsAt.form;subst hfe;have hr9:=hr8.below hw9 hlt8;have hb9:=hb8.trans (hw9.mono hb8.size);have HO9:=hid (OwnP.mono hfo (show w.heap.size+1≤_ by omega));clear hfo hw9 hr8 hb8;by_cases hfz:fn=0
    ·subst hfz;have HR:Hid (R=(⟨wh,wp,fp⟩,0)):=show _=_ by rw [HT2.out,if_neg (by simp)]
     clear HT2;have hrA:=row_store3 hr9 (.string ⟨wh.toArray⟩) (.int .i64 wp) (.slice a3 fp.length k3);have hbA:=store_below3 hb9 w.heap.size (Nat.le_refl _) (.string ⟨wh.toArray⟩) (.int .i64 wp) (.slice a3 fp.length k3);have q3:=(OwnP.store3 HO9.out (Nat.lt_succ_self _) (.string ⟨wh.toArray⟩) (.int .i64 wp) (.slice a3 fp.length k3)).mono (Nat.le_succ w.heap.size);obtain ⟨y0,y1,y2,f0,f1,f2⟩:=hr9.three;have HA:=hid (And.intro hrA (And.intro hbA q3));clear hrA hbA q3;go_wp2;generalize World.setCell _ _ _=wA at HA ⊢;obtain ⟨hrA,hbA,q3⟩:=HA.out;obtain ⟨d0,d1,d2,_,_,_⟩:=hrA.three
     try simp only [Exit.inBlock,Exit.then]
     refine bodyPost_ret (v:=.tuple #[.agg #[.string ⟨wh.toArray⟩,.int .i64 wp,.slice a3 fp.length k3],.int .i64 0]) (by simp [results,Tryz.results110,go_sem,d0,d1,d2]; try rfl) rfl ?_
     refine ⟨?_,hbA⟩
     rw [HR.out];exact ⟨_,rfl,q3⟩
    ·have HR:Hid (R=(noH,fn)):=show _=_ by rw [HT2.out,if_pos hfz]
     have hne:(fn != 0)=true:=by simpa using hfz
     clear HT2 HO9;have hr7:=row_store3 hr9 (.string ⟨#[]⟩) (.int .i64 0) (.slice none 0 0);have hb7:=store_below3 hb9 w.heap.size (Nat.le_refl _) (.string ⟨#[]⟩) (.int .i64 0) (.slice none 0 0);obtain ⟨y0,y1,y2,f0,f1,f2⟩:=hr9.three;have H7:=hid (And.intro hr7 hb7);clear hr7 hb7;go_wp2;generalize World.setCell _ _ _=w7 at H7 ⊢;obtain ⟨hr7,hb7⟩:=H7.out;obtain ⟨d0,d1,d2,_,_,_⟩:=hr7.three
     try simp only [Exit.inBlock,Exit.then]
     refine bodyPost_ret (v:=.tuple #[.agg #[.string ⟨#[]⟩,.int .i64 0,.slice none 0 0],.int .i64 fn]) (by simp [results,Tryz.results110,go_sem,d0,d1,d2]; try rfl) rfl ?_
     exact ⟨hres_none HR.out,hb7⟩
     )
  ·have HR:Hid (R=(noH,wn)):=show _=_ by rw [HV.out,if_pos hun]
   have hne:(wn != 0)=true:=by simpa using hun
   clear HV HC;have hr7:=row_store3 hr8 (.string ⟨#[]⟩) (.int .i64 0) (.slice none 0 0);have hb7:=store_below3 hb8 w.heap.size (Nat.le_refl _) (.string ⟨#[]⟩) (.int .i64 0) (.slice none 0 0);obtain ⟨y0,y1,y2,f0,f1,f2⟩:=hr8.three;have H7:=hid (And.intro hr7 hb7);clear hr7 hb7;go_wp2;generalize World.setCell _ _ _=w7 at H7 ⊢;obtain ⟨hr7,hb7⟩:=H7.out;obtain ⟨d0,d1,d2,_,_,_⟩:=hr7.three
   try simp only [Exit.inBlock,Exit.then]
   refine bodyPost_ret (v:=.tuple #[.agg #[.string ⟨#[]⟩,.int .i64 0,.slice none 0 0],.int .i64 wn]) (by simp [results,Tryz.results110,go_sem,d0,d1,d2]; try rfl) rfl ?_
   exact ⟨hres_none HR.out,hb7⟩
def viaK:List UInt8:=[86,105,97]
def HopsRes (R:List Hop × Int) (w w':World) (e:Ending):Prop:=∃ v cs,e=.returned (.tuple #[v,.int .i64 R.2])∧cs.map HopC.h=R.1∧OwnV w' w.heap.size v cs
theorem hsres_bad {R:List Hop × Int} {n:Int} {w w':World} (h:R=([],n)):HopsRes R w w' (.returned (.tuple #[.slice none 0 0,.int .i64 n])):=⟨_,[],by rw [h],by rw [h]; rfl,OwnV.nil _ _⟩
theorem Own.txts {w:World} {B e:Nat} {v:Value} {ps:List (List UInt8)} (h:Own w B e v (strs ps)):∃ ao cap,v=.slice ao ps.length cap∧∀ j (hj:j < ps.length),∃ a,ao=some a∧a.block < w.heap.size∧w.cell? (a.add j)=some (.string ⟨(ps[j]).toArray⟩):=by
 by_cases hne:ps=[]
 ·obtain ⟨a,cap,rfl⟩:=h.form;subst hne;exact ⟨a,cap,rfl,fun j hj=>by simp at hj⟩
 ·obtain ⟨g,cap,rfl,hc⟩:=own_strs h hne;refine ⟨_,cap,rfl,fun j hj=>⟨_,rfl,?_,?_⟩⟩
  ·exact World.block_lt_of_cell? w ⟨g,j,none⟩ (hc j hj)
  ·have e:(⟨g,0,none⟩:Addr).add j=⟨g,j,none⟩:=by unfold Addr.add; split <;> simp_all
   rw [e]; exact hc j hj
theorem Own.lower {w:World} {B C:Nat} {e:TypeId} {v:Value} {xs:List Value} (h:Own w B e v xs) (hc:C≤B):Own w C e v xs:=by
 obtain ⟨h1,h2⟩:=h;refine ⟨h1,?_⟩
 rcases h2 with h2 | ⟨g,cap,cur,hv,hg,r⟩
 ·exact Or.inl h2
 ·exact Or.inr ⟨g,cap,cur,hv,Nat.le_trans hc hg,r⟩
theorem parts_own {l:List UInt8} {qs:List (List UInt8)} {c:Int} (h:partsV c l=qs) (w:World) (hs:l.length≤1048576) :
  Calls Tryz.prog 109 #[.string ⟨l.toArray⟩,.int .u8 c] w fun e w'=>∃ a cap,e=.returned (.slice a qs.length cap)∧Own w' w.heap.size 9 (.slice a qs.length cap) (strs qs)∧Below w.heap.size w w':=by
 refine (parts_any ⟨l.toArray⟩ c w (by rw [size_list]; omega)).mono ?_
 rintro e w' ⟨v,rfl,hown,hb⟩;have ho:Own w' w.heap.size 9 v (strs qs):=by rw [← h]; exact hown.lower (Nat.le_succ _)
 obtain ⟨a,cap,rfl⟩:=ho.form;rw [strs_length] at ho ⊢;exact ⟨a,cap,rfl,ho,hb⟩
end Go.Proofs.YtiogedceommcoaaGreatDoor
