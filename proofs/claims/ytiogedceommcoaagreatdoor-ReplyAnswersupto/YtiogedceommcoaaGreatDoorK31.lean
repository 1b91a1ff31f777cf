/-
  RReason, RFirst, RCheck6, RPrint6, RAnsL, RAnswer.
-/
import Derived.Test.YtiogedceommcoaaGreatDoorK03
import Derived.Test.YtiogedceommcoaaGreatDoorK36
set_option linter.unusedVariables false
set_option linter.unusedSimpArgs false
set_option maxRecDepth 20000
namespace Go.Proofs.YtiogedceommcoaaGreatDoor
open Go.RowKit Sc
def codesA:Array Value:=#[.int .i64 200,.int .i64 202,.int .i64 400,.int .i64 403,.int .i64 404,.int .i64 405,.int .i64 406,.int .i64 412,.int .i64 415,.int .i64 423,.int .i64 481,.int .i64 489,.int .i64 500,.int .i64 503]
def wordsA:Array Value:=#[.string ⟨#[79,75]⟩,.string ⟨#[65,99,99,101,112,116,101,100]⟩,.string ⟨#[66,97,100,32,82,101,113,117,101,115,116]⟩,.string ⟨#[70,111,114,98,105,100,100,101,110]⟩,.string ⟨#[78,111,116,32,70,111,117,110,100]⟩,.string ⟨#[77,101,116,104,111,100,32,78,111,116,32,65,108,108,111,119,101,100]⟩,.string ⟨#[78,111,116,32,65,99,99,101,112,116,97,98,108,101]⟩,.string ⟨#[67,111,110,100,105,116,105,111,110,97,108,32,82,101,113,117,101,115,116,32,70,97,105,108,101,100]⟩,.string ⟨#[85,110,115,117,112,112,111,114,116,101,100,32,77,101,100,105,97,32,84,121,112,101]⟩,.string ⟨#[73,110,116,101,114,118,97,108,32,84,111,111,32,66,114,105,101,102]⟩,.string ⟨#[67,97,108,108,47,84,114,97,110,115,97,99,116,105,111,110,32,68,111,101,115,32,78,111,116,32,69,120,105,115,116]⟩,.string ⟨#[66,97,100,32,69,118,101,110,116]⟩,.string ⟨#[83,101,114,118,101,114,32,73,110,116,101,114,110,97,108,32,69,114,114,111,114]⟩,.string ⟨#[83,101,114,118,105,99,101,32,85,110,97,118,97,105,108,97,98,108,101]⟩]
theorem codes_at:∀ k,k < 14 → codesA[k]? = some (.int .i64 (reasonsT.map Prod.fst)[k]!):=fun k hk=>match k,hk with | 0,_=>rfl | 1,_=>rfl | 2,_=>rfl | 3,_=>rfl | 4,_=>rfl | 5,_=>rfl | 6,_=>rfl | 7,_=>rfl | 8,_=>rfl | 9,_=>rfl | 10,_=>rfl | 11,_=>rfl | 12,_=>rfl | 13,_=>rfl | k+14,h=>absurd h (by omega)
theorem words_at:∀ k,k < 14 → wordsA[k]? = some (.string ⟨((reasonsT.map Prod.snd)[k]!).toArray⟩):=fun k hk=>match k,hk with | 0,_=>rfl | 1,_=>rfl | 2,_=>rfl | 3,_=>rfl | 4,_=>rfl | 5,_=>rfl | 6,_=>rfl | 7,_=>rfl | 8,_=>rfl | 9,_=>rfl | 10,_=>rfl | 11,_=>rfl | 12,_=>rfl | 13,_=>rfl | k+14,h=>absurd h (by omega)
theorem rdigits_i (n:Int) (w:World) (h1:n≤9223372036854775807):Calls Tryz.prog 51 #[.int .i64 n] w fun e w'=>e=.returned (.string ⟨(if n < 0 then [] else digL n.toNat).toArray⟩)∧Below w.heap.size w w':=by
 by_cases h0:n < 0
 ·rw [if_pos h0];refine (refdigits_neg n w h0).mono ?_
  rintro e w' ⟨rfl,rfl⟩;exact ⟨rfl,Below.refl _ _⟩
 ·rw [if_neg h0];refine (refdigits_any n.toNat n w (by omega) (by omega) h1).mono ?_
  rintro e w' ⟨rfl,q,rfl⟩;exact ⟨rfl,below_drewN _ _⟩
set_option maxHeartbeats 2000000 in
set_option maxRecDepth 100000 in
theorem rreason_any (n:Int) (w:World) (h1:n≤9223372036854775807) :
  Calls Tryz.prog 18 #[.int .i64 n] w fun e w'=>e=.returned (.string ⟨(reasonV n).toArray⟩)∧Below w.heap.size w w':=by
 have KD:=hid (fun w'=>rdigits_i n w' h1);have HNO:=hid (@reason_no n);have HAT:=hid (fun k=>@reason_at n k);generalize reasonV n=R at HNO HAT ⊢;obtain ⟨o1,ho1⟩:∃ o,o=Obj.cells codesA 3:=⟨_,rfl⟩
 obtain ⟨o2,ho2⟩:∃ o,o=Obj.cells wordsA 9:=⟨_,rfl⟩
 have s1:(w.alloc o1).heap.size=w.heap.size+1:=by simp
 have A2:=(Below.refl _ (w.alloc o1)).alloc (Nat.le_refl _) o2;have hR1:((w.alloc o1).alloc o2).heap[w.heap.size]? = some (.cells codesA 3 (0,0)):=by rw [A2.block _ (by simp),heap_alloc_new,ho1]
 have hR2:((w.alloc o1).alloc o2).heap[w.heap.size+1]? = some (.cells wordsA 9 (0,0)):=by rw [← s1,heap_alloc_new,ho2]
 have hB:Below w.heap.size w ((w.alloc o1).alloc o2):=((Below.refl _ w).alloc (Nat.le_refl _) o1).alloc (by simp) o2;have H1:=hid hR1;have H2:=hid hR2;have HB:=hid hB;rw [ho1,ho2] at H1 H2 HB;clear hR1 hR2 hB s1 A2 ho1 ho2;unfold codesA wordsA at HB;have H1':Hid (((w.alloc (Obj.cells codesA 3)).alloc (Obj.cells wordsA 9)).heap[w.heap.size]? = some (.cells codesA 3 (0,0))):=H1;have H2':Hid (((w.alloc (Obj.cells codesA 3)).alloc (Obj.cells wordsA 9)).heap[w.heap.size+1]? = some (.cells wordsA 9 (0,0))):=H2;clear H1 H2;obtain ⟨W,hW⟩:∃ W,W=(w.alloc (Obj.cells codesA 3)).alloc (Obj.cells wordsA 9):=⟨_,rfl⟩
 rw [← hW] at H1' H2';unfold codesA wordsA at hW;rw [← hW] at HB
 go_enter Tryz.func18,Tryz.ntmps18
 go_wp2
 go_loopw [5] (fun i wr=>wr=W∧∃ k:Nat,k≤14∧i=.int .i64 k∧Hid (∀ j,j < k → (reasonsT.map Prod.fst)[j]! ≠ n)) (fun i _=>14 - (intOf i).toNat)
 case atStart=>exact ⟨hW.symm,0,by omega,rfl,hid (fun j hj=>absurd hj (Nat.not_lt_zero j))⟩
 case round =>
  obtain ⟨hwr,k,hk,rfl,hno⟩:=hrel;subst hwr;clear hW;by_cases hlt:k < 14
  ·have hlt':(k:Int) < 14:=by omega
   have c1:=arr_cell H1'.out (codes_at k hlt);have c2:=arr_cell H2'.out (words_at k hlt);have HA:=hid (HAT.out k hlt);have HN:Hid ((reasonsT.map Prod.fst)[k]! ≠ n → ∀ j,j < k+1 → (reasonsT.map Prod.fst)[j]! ≠ n):=fun h j hj=>by
    by_cases e:j=k
    ·rw [e]; exact h
    ·exact hno.out j (by omega)
   generalize (reasonsT.map Prod.fst)[k]! = c at c1 HA HN;generalize (reasonsT.map Prod.snd)[k]! = s at c2 HA;clear hno HAT HNO;by_cases hc:c=n
   ·subst hc;have hR:=HA.out rfl;subst hR;have hcc:(c==c)=true:=by simp
    go_wp2;go_ret;exact ⟨rfl,HB.out⟩
   ·have hcc:(c==n)=false:=by simpa using hc
    have HN2:=hid (HN.out hc);clear HN HA;go_wp2;go_roundw
    case rel=>exact ⟨by first | rfl | trivial,k+1,by omega,by go_num,HN2⟩
    case measure=>simp [intOf]; omega
  ·obtain rfl:k=14:=by omega
   have HR:=hid (HNO.out hno.out);clear HAT HNO hno;have hdl:(if n < 0 then ([]:List UInt8) else digL n.toNat).length≤20:=by
    split
    ·decide
    ·have:=digL_len19 (n:=n.toNat) (by omega); omega
   generalize (if n < 0 then ([]:List UInt8) else digL n.toNat)=ds at KD HR hdl;go_wp2_with fail
   refine (KD.out _).mono ?_
   rintro e w3 ⟨rfl,hw3⟩;have hb3:=HB.out.trans (hw3.mono HB.out.size);have hcat:(⟨#[83,116,97,116,117,115,32]⟩:ByteArray)++⟨ds.toArray⟩=⟨R.toArray⟩:=by
    rw [HR.out]
    apply ByteArray.ext
    simp [statusK]
   clear HR KD;go_wp2;go_ret;exact ⟨rfl,hb3⟩
end Go.Proofs.YtiogedceommcoaaGreatDoor
namespace Go.Proofs.YtiogedceommcoaaGreatDoor
open Go.RowKit Go.Sort Sc
theorem rtok_below (l:List UInt8) (w:World) (h:l.length≤140737488355328) :
  Calls Tryz.prog 47 #[.string ⟨l.toArray⟩] w fun e w'=>e=.returned (.bool (tokenB l))∧Below w.heap.size w w':=(reftoken_list l w h).mono fun _ _ ⟨h1,h2⟩=>⟨h1,by rw [h2]; exact Below.refl _ _⟩
theorem rvalue_below (l:List UInt8) (w:World) (h:l.length≤140737488355328) :
  Calls Tryz.prog 149 #[.string ⟨l.toArray⟩] w fun e w'=>e=.returned (.bool (valB l))∧Below w.heap.size w w':=(rvalue_list l w h).mono fun _ _ ⟨h1,h2⟩=>⟨h1,by rw [h2]; exact Below.refl _ _⟩
theorem and4_true:∀ a b c d:Bool,true=(a && (b && (!c && d))) → a=true∧b=true∧c=false∧d=true:=by decide
theorem and4_false:∀ a b c d:Bool,false=(a && (b && (!c && d))) → a=false∨(a=true∧b=false)∨(a=true∧b=true∧c=true)∨(a=true∧b=true∧c=false∧d=false):=by decide
set_option maxHeartbeats 2000000 in
set_option maxRecDepth 100000 in
theorem rcheck_any (m:Ms) (h:Value) (w:World) (hsm:SmallM 140737488355328 m) (hat:HdrsAt w h m.headers) :
  Calls Tryz.prog 106 #[msgV m h] w fun e w'=>e=.returned (.int .i64 (checkM m))∧Below w.heap.size w w':=by
 obtain ⟨ao,cap,rfl,hcell⟩:=hat.get;have HC:=hid hcell;have KS:=hid (fun w'=>rfirst_any m ao m.headers.length cap w' hsm);have c1:=hid (@checkM_1 m);have c2:=hid (@checkM_2 m);have c3:=hid (@checkM_3 m);have c4:=hid (@checkM_4 m);have HSM:=hid hsm.2.2.2.2.2;have HBX:=hid (boxM_new w m (.slice ao m.headers.length cap));have hb0:Below w.heap.size w (w.alloc (objM m (.slice ao m.headers.length cap))):=(Below.refl _ w).alloc (Nat.le_refl _) _;have hlt:=alloc_lt w (objM m (.slice ao m.headers.length cap));clear hsm hat hcell;obtain ⟨me,ta,st,re,hs,bo⟩:=m;unfold msgV at KS ⊢;unfold objM at HBX hb0 hlt;simp only at HC KS c1 c2 c3 c4 HSM HBX hb0 hlt ⊢;generalize checkM _=r at c1 c2 c3 c4 ⊢;generalize firstB _=fb at KS c1 c2 c3 c4;obtain ⟨n,hn⟩:∃ n,n=hs.length:=⟨_,rfl⟩
 rw [← hn] at HBX hb0 hlt KS c2 c3 c4 ⊢;have HN:=hid hn;clear hn;obtain ⟨x0,x1,x2,x3,x4,x5⟩:=HBX.out;simp only at x0 x1 x2 x3 x4 x5
 go_enter Tryz.func106,Tryz.ntmps106
 go_wp2_with fail
 refine (KS.out _).mono ?_
 rintro e w1 ⟨rfl,hw1⟩;have HB1:=hid (BoxM.below HBX.out hw1 hlt);have hb1:=hb0.trans (hw1.mono hb0.size);have hlt1:=Nat.lt_of_lt_of_le hlt hw1.size;clear HBX hw1 hb0 hlt x0 x1 x2 x3 x4 x5 KS;obtain ⟨x0,x1,x2,x3,x4,x5⟩:=HB1.out;simp only at x0 x1 x2 x3 x4 x5
 cases fb with
 | false =>
  have hv:=hid (c1.out rfl);go_wp2;go_ret;exact ⟨ret_int hv.out.symm,hb1⟩
 | true =>
  by_cases h64:64 < n
  ·have h64':(64:Int) < (n:Int):=by omega
   have hv:=hid (c2.out rfl h64);go_wp2;go_ret;exact ⟨ret_int hv.out.symm,hb1⟩
  ·have h64':¬ ((64:Int) < (n:Int)):=by omega
   have C3:=hid (c3.out rfl h64);have C4:=hid (c4.out rfl h64);clear c1 c2 c3 c4;go_wp2
   go_loopw [3] (fun i wr=>∃ k:Nat,k≤n∧i=.int .i64 k∧Hid ((hs.take k).all hdrB=true)∧Below w1.heap.size w1 wr) (fun i _=>n - (intOf i).toNat)
   case atStart=>exact ⟨0,Nat.zero_le _,rfl,hid (by simp),Below.refl _ _⟩
   case round =>
    clear x0 x1 x2 x3 x4 x5;obtain ⟨k,hk,rfl,hall,hb⟩:=hrel;obtain ⟨x0,x1,x2,x3,x4,x5⟩:=BoxM.below HB1.out hb hlt1;simp only at x0 x1 x2 x3 x4 x5;by_cases hlt2:k < n
    ·have hkl:k < hs.length:=by have:=HN.out; omega
     obtain ⟨a,ha,hab,h0,h1⟩:=HC.out k hkl;have hbw:Below w.heap.size w wr:=hb1.trans (hb.mono hb1.size);have d0:=cell_below hbw (by rw [add_block]; exact hab) h0;have d1:=cell_below hbw (by simp only [add_block]; exact hab) h1;have hss:=HSM.out _ (List.getElem_mem hkl);have hbad:=hid (@hdrs_bad hs k hkl);have hmore:=hid (@hdrs_more hs k hkl hall.out);clear hab h0 h1 hall HC HSM;subst ha;generalize hs[k]=x at d0 d1 hss hbad hmore;obtain ⟨nm,vl⟩:=x;simp only at d0 d1 hss;obtain ⟨y0,y1⟩:=boxH_new wr ⟨nm,vl⟩;have hbA:=(Below.refl _ wr).alloc (Nat.le_refl _) (objH ⟨nm,vl⟩);unfold objH at y0 y1 hbA;simp only at y0 y1 hbA;have hm:hdrB ⟨nm,vl⟩=(tokenB nm && (longV nm==nm && (!lengthB nm && valB vl))):=rfl;have cT:=hid (fun (W:World) (d:Nat) (os:Array Obj)=>Calls.regrown_of (rtok_below nm (grow (redrawn W d) os) hss.1));have cL:=hid (fun (W:World) (d:Nat) (os:Array Obj)=>Calls.regrown_of (rlong_list nm (grow (redrawn W d) os) hss.1));have cN:=hid (fun (W:World) (d:Nat) (os:Array Obj)=>Calls.regrown_of (rlength_list nm (grow (redrawn W d) os) hss.1));have cV:=hid (fun (W:World) (d:Nat) (os:Array Obj)=>Calls.regrown_of (rvalue_below vl (grow (redrawn W d) os) hss.2));replace y0:=cell_regrown y0;replace y1:=cell_regrown y1;have hbw2:=hbw.trans (hbA.mono hbw.size);have hb2:=hb.trans (hbA.mono hb.size);generalize hdrB ⟨nm,vl⟩=hbb at hm hbad hmore;generalize longV nm=q at cL hm;generalize lengthB nm=lb at cN hm;generalize valB vl=vb at cV hm;generalize tokenB nm=tb at cT hm;have hbre:=hid (fun dq osq=>hbw2.trans ((below_regrown _ dq osq).mono hbw2.size));have hbre2:=hid (fun dq osq=>hb2.trans ((below_regrown _ dq osq).mono hb2.size));clear hbA hbw hb hbw2 hb2 hss
     cases hbb with
     | false =>
      have hv:=hid (C3.out (hbad.out rfl));clear C3 C4 hbad hmore hbre2;have hq2:(q != nm)=!(q==nm):=rfl
      rcases and4_false _ _ _ _ hm with h1 | ⟨h1,hq⟩ | ⟨h1,hq,h2⟩ | ⟨h1,hq,h2,h3⟩
      ·subst h1;clear hm hq2;go_wp2;refine wp_region_quiet_below followsF (by kernel_rfl) ?_
       repeat (go_big_quiet_step (first | with_reducible exact cT.out _ _ _ | with_reducible exact cL.out _ _ _ | with_reducible exact cN.out _ _ _ | with_reducible exact cV.out _ _ _))
       refine wpQuiet_nil ?_
       intro _ hw';obtain ⟨⟨dq,osq⟩,hw''⟩:=hw';subst hw'';go_wp2;go_ret;exact ⟨ret_int hv.out.symm,hbre.out dq osq⟩
      all_goals (
       subst h1
       (try subst h2)
       (try subst h3)
       rw [hq] at hq2;simp only [Bool.not_true,Bool.not_false] at hq2;clear hm;go_wp2;refine wp_region_quiet_below followsF (by kernel_rfl) ?_
       repeat (go_big_quiet_step (first | with_reducible exact cT.out _ _ _ | with_reducible exact cL.out _ _ _ | with_reducible exact cN.out _ _ _ | with_reducible exact cV.out _ _ _))
       refine wpQuiet_nil ?_
       intro _ hw';obtain ⟨⟨dq,osq⟩,hw''⟩:=hw';subst hw'';go_wp2;go_ret;exact ⟨ret_int hv.out.symm,hbre.out dq osq⟩)
     | true =>
      have hnx:=hid (hmore.out rfl);obtain ⟨rfl,hq,rfl,rfl⟩:=and4_true _ _ _ _ hm;have hq2:(q != nm)=false:=by rw [bne,hq]; rfl
      clear hbad hmore hm hbre;go_wp2;refine wp_region_quiet_below followsF (by kernel_rfl) ?_
      repeat (go_big_quiet_step (first | with_reducible exact cT.out _ _ _ | with_reducible exact cL.out _ _ _ | with_reducible exact cN.out _ _ _ | with_reducible exact cV.out _ _ _))
      refine wpQuiet_nil ?_
      intro _ hw';obtain ⟨⟨dq,osq⟩,hw''⟩:=hw';subst hw'';go_wp2;go_roundw
      case rel=>exact ⟨k+1,by omega,by go_num,hnx,hbre2.out dq osq⟩
      case measure=>simp [intOf]; omega
    ·have hv:=hid (C4.out (by have h:=hall.out; rw [List.take_of_length_le (by have:=HN.out; omega)] at h; exact h));clear C3 C4 hall;go_wp2;go_ret;exact ⟨ret_int hv.out.symm,hb1.trans (hb.mono hb1.size)⟩
theorem cat_ex (a b:List UInt8) {A B:Nat} (ha:a.length≤A) (hb:b.length≤B):∃ c:List UInt8,Hid (c=a++b)∧(⟨a.toArray⟩:ByteArray)++⟨b.toArray⟩=⟨c.toArray⟩∧c.length≤A+B :=
 ⟨a++b,hid rfl,by apply ByteArray.ext; simp,by rw [List.length_append]; omega⟩
def accP (m:Ms) (k:Nat):List UInt8:=(lineT m++crlf)++(m.headers.take k).flatMap fun x=>hdrLine x++crlf
theorem accP_step {m:Ms} {k:Nat} (hk:k < m.headers.length):accP m (k+1)=accP m k++m.headers[k].name++[58,32]++m.headers[k].value++crlf:=by
 unfold accP;rw [List.take_succ_eq_append_getElem hk,List.flatMap_append]
 simp [hdrLine]
theorem accP_end {m:Ms} {k:Nat} (hk:m.headers.length≤k):accP m k++(lengthK++[58,32])++digL m.body.length++crlf++crlf++m.body=textM m:=by
 unfold accP textM linesT lenLine;rw [List.take_of_length_le hk,List.flatMap_cons,List.flatMap_append,List.flatMap_map]
 simp
set_option maxHeartbeats 4000000 in
set_option maxRecDepth 100000 in
theorem rprint_any (m:Ms) (h:Value) (w:World) (hsm:SmallM 140737488355328 m) (hat:HdrsAt w h m.headers) :
  Calls Tryz.prog 49 #[msgV m h] w fun e w'=>e=.returned (.tuple #[.string ⟨(printM m).1.toArray⟩,.int .i64 (printM m).2])∧Below w.heap.size w w':=by
 have KC:=hid (fun w' (hb:Below w.heap.size w w')=>rcheck_any m h w' hsm (hat.below hb));obtain ⟨ao,cap,rfl,hcell⟩:=hat.get;have HC:=hid hcell;have HBX:=hid (boxM_new w m (.slice ao m.headers.length cap));have hb0:Below w.heap.size w (w.alloc (objM m (.slice ao m.headers.length cap))):=(Below.refl _ w).alloc (Nat.le_refl _) _;have hlt:=alloc_lt w (objM m (.slice ao m.headers.length cap));clear hcell hat;by_cases hok:checkM m=0
 case neg =>
  have HP:Hid (printM m=([],checkM m)):=show _=_ by rw [printM,if_pos hok]
  have hne:(checkM m != 0)=true:=by simpa using hok
  generalize printM m=R at HP ⊢;generalize checkM m=cv at KC HP hne;clear hok hsm HC;obtain ⟨me,ta,st,re,hs,bo⟩:=m;unfold msgV at KC ⊢;unfold objM at HBX hb0 hlt;simp only at KC HBX hb0 hlt ⊢;obtain ⟨x0,x1,x2,x3,x4,x5⟩:=HBX.out;simp only at x0 x1 x2 x3 x4 x5
  go_enter Tryz.func49,Tryz.ntmps49
  go_wp2_with fail
  refine (KC.out _ hb0).mono ?_
  rintro e w1 ⟨rfl,hw1⟩;have HB1:=hid (BoxM.below HBX.out hw1 hlt);have hb1:=hb0.trans (hw1.mono hb0.size);clear HBX hw1 hb0 hlt x0 x1 x2 x3 x4 x5;obtain ⟨x0,x1,x2,x3,x4,x5⟩:=HB1.out;simp only at x0 x1 x2 x3 x4 x5;go_wp2_with fail
  refine (KC.out _ hb1).mono ?_
  rintro e w2 ⟨rfl,hw2⟩;go_wp2;go_ret2;exact ⟨ret_pr (x:=[]) HP.out,hb1.trans (hw2.mono hb1.size)⟩
 obtain ⟨f1,f2,f3⟩:=checkM_ok hok;obtain ⟨s0,s1⟩:=first_st f1;have HP:Hid (printM m=if 4096 < (textM m).length then ([],2) else (textM m,0)):=show _=_ by rw [printM,if_neg (by simp [hok])]
 obtain ⟨k1,k2,k3,k4,_,k6⟩:=hsm;have HK6:=hid k6;have HA0:Hid (accP m 0=lineT m++crlf):=show _=_ by unfold accP; simp
 have HST:=hid (fun (k:Nat) (hk:k < m.headers.length)=>accP_step hk);have HEND:=hid (fun (k:Nat) (hk:m.headers.length≤k)=>accP_end hk);have KD:=hid (fun w'=>refdigits_any m.body.length m.body.length w' (Int.le_refl _) (by omega) (by omega));have KT:=hid (fun w'=>refdigits_any m.status.toNat m.status w' (by omega) s0 (by omega));have d1:(digL m.body.length).length≤19:=digL_len19 (by omega);have d2:(digL m.status.toNat).length≤19:=digL_len19 (by omega);simp only [Int.toNat_natCast] at KD;have HLT:Hid (lineT m=if m.method=[] then versionK++[32]++digL m.status.toNat++[32]++m.reason else m.method++[32]++m.target++[32]++versionK):=rfl;rw [hok] at KC;generalize printM m=R at HP ⊢;generalize textM m=T at HEND HP;generalize lineT m=L at HA0 HLT;generalize digL m.body.length=dg at KD HEND d1;generalize digL m.status.toNat=ds at KT HLT d2;generalize accP m=AP at HA0 HST HEND;clear hok f1 f3 k6;obtain ⟨me,ta,st,re,hs,bo⟩:=m;unfold msgV at KC ⊢;unfold objM at HBX hb0 hlt;simp only at KC KD KT HC HBX hb0 hlt HK6 HLT HST HEND k1 k2 k3 k4 f2 ⊢;obtain ⟨n,hnn⟩:∃ n,n=hs.length:=⟨_,rfl⟩
 rw [← hnn] at HBX hb0 hlt KC f2 ⊢;have HN:=hid hnn;clear hnn;obtain ⟨x0,x1,x2,x3,x4,x5⟩:=HBX.out;simp only at x0 x1 x2 x3 x4 x5;have zm:=size_list me;have zb:=size_list bo
 -- the first line
 obtain ⟨S1,HS1,e1,l1⟩:=cat_ex me [32] (A:=140737488355328) (B:=1) k1 (by simp);obtain ⟨S2,HS2,e2,l2⟩:=cat_ex S1 ta (A:=140737488355329) (B:=140737488355328) l1 k2;obtain ⟨S3,HS3,e3,l3⟩:=cat_ex S2 [32] (A:=281474976710657) (B:=1) l2 (by simp);obtain ⟨S4,HS4,e4,l4⟩:=cat_ex S3 [83,73,80,47,50,46,48] (A:=281474976710658) (B:=7) l3 (by simp);obtain ⟨S5,HS5,e5,l5⟩:=cat_ex S4 [13,10] (A:=281474976710665) (B:=2) l4 (by simp);have q1:¬ 9223372036854775807 < me.length+1:=by omega
 have q2:¬ 9223372036854775807 < S1.length+ta.length:=by omega
 have q3:¬ 9223372036854775807 < S2.length+1:=by omega
 have q4:¬ 9223372036854775807 < S3.length+7:=by omega
 have q5:¬ 9223372036854775807 < S4.length+2:=by omega
 obtain ⟨R1,HR1,r1,t1⟩:=cat_ex [83,73,80,47,50,46,48,32] ds (A:=8) (B:=19) (by simp) d2;obtain ⟨R2,HR2,r2,t2⟩:=cat_ex R1 [32] (A:=27) (B:=1) t1 (by simp);obtain ⟨R3,HR3,r3,t3⟩:=cat_ex R2 re (A:=28) (B:=140737488355328) t2 k3;obtain ⟨R4,HR4,r4,t4⟩:=cat_ex R3 [13,10] (A:=140737488355356) (B:=2) t3 (by simp);have p1:¬ 9223372036854775807 < 8+ds.length:=by omega
 have p2:¬ 9223372036854775807 < R1.length+1:=by omega
 have p3:¬ 9223372036854775807 < R2.length+re.length:=by omega
 have p4:¬ 9223372036854775807 < R3.length+2:=by omega
 generalize hW:World.alloc w _=W at HBX hb0 hlt x0 x1 x2 x3 x4 x5
 go_enter Tryz.func49,Tryz.ntmps49
 go_wp2_with fail
 clear hW;refine (KC.out _ hb0).mono ?_
 rintro e w1 ⟨rfl,hw1⟩;have HB1:=hid (BoxM.below HBX.out hw1 hlt);have hb1:=hb0.trans (hw1.mono hb0.size);clear HBX hw1 hb0 hlt x0 x1 x2 x3 x4 x5 KC;obtain ⟨x0,x1,x2,x3,x4,x5⟩:=HB1.out;simp only at x0 x1 x2 x3 x4 x5
 cases he:me.isEmpty with
 | false =>
  have HS0:Hid (S5=AP 0):=show _=_ by
   rw [HA0.out,HLT.out,if_neg (by intro e; rw [e] at he; cases he),HS5.out,HS4.out,HS3.out,HS2.out,HS1.out]; rfl
  clear HS1 HS2 HS3 HS4 HS5 HR1 HR2 HR3 HR4 r1 r2 r3 r4 p1 p2 p3 p4 t1 t2 t3 t4 HLT HA0 KT;go_wp2;clear e1 e2 e3 e4 e5 q1 q2 q3 q4 q5 l1 l2 l3 l4
  go_loopw [4,5] (fun x i wr=>∃ (k q:Nat) (s:List UInt8),k≤n∧i=.int .i64 k∧x=.string ⟨s.toArray⟩∧s.length≤281474976710667+k * 281474976710660∧Hid (s=AP k)∧wr=w1.drewN q) (fun _ i _=>n - (intOf i).toNat)
  case atStart=>exact ⟨0,0,S5,Nat.zero_le _,rfl,rfl,by omega,HS0,rfl⟩
  case round =>
   obtain ⟨k,q,s,hk,rfl,rfl,hsl,HS,rfl⟩:=hrel;by_cases hlt2:k < n
   ·have hkl:k < hs.length:=by have:=HN.out; omega
    obtain ⟨a,ha,hab,h0,h1⟩:=HC.out k hkl;have y0:=cell_below hb1 (by rw [add_block]; exact hab) h0;have y1:=cell_below hb1 (by simp only [add_block]; exact hab) h1;have hss:=HK6.out _ (List.getElem_mem hkl);have hst:=hid (HST.out k hkl);clear hab h0 h1;subst ha;generalize hs[k]=x at y0 y1 hss hst;obtain ⟨nm,vl⟩:=x;simp only at y0 y1 hss hst;obtain ⟨A1,HA1,a1,m1⟩:=cat_ex s nm hsl hss.1;obtain ⟨A2,HA2,a2,m2⟩:=cat_ex A1 [58,32] (B:=2) m1 (by simp);obtain ⟨A3,HA3,a3,m3⟩:=cat_ex A2 vl m2 hss.2;obtain ⟨A4,HA4,a4,m4⟩:=cat_ex A3 [13,10] (B:=2) m3 (by simp);have o1:¬ 9223372036854775807 < s.length+nm.length:=by omega
    have o2:¬ 9223372036854775807 < A1.length+2:=by omega
    have o3:¬ 9223372036854775807 < A2.length+vl.length:=by omega
    have o4:¬ 9223372036854775807 < A3.length+2:=by omega
    have HA:Hid (A4=AP (k+1)):=show _=_ by
     rw [hst.out,HA4.out,HA3.out,HA2.out,HA1.out,← HS.out]; rfl
    clear HA1 HA2 HA3 HA4 hst HS;go_wp2
    go_quiet (fail)
    go_wp2;go_roundw
    case rel=>exact ⟨k+1,q+nq,A4,by omega,by go_num,rfl,by omega,HA,by first | rfl | rw [World.drewN_drewN]⟩
    case measure=>simp [intOf]; omega
   ·have hst:=hid (HEND.out k (by have:=HN.out; omega));have hk64:k≤64:=by omega
    obtain ⟨A1,HA1,a1,m1⟩:=cat_ex s [67,111,110,116,101,110,116,45,76,101,110,103,116,104,58,32] (B:=16) hsl (by simp);obtain ⟨A2,HA2,a2,m2⟩:=cat_ex A1 dg m1 d1;obtain ⟨A3,HA3,a3,m3⟩:=cat_ex A2 [13,10] (B:=2) m2 (by simp);obtain ⟨A4,HA4,a4,m4⟩:=cat_ex A3 [13,10] (B:=2) m3 (by simp);obtain ⟨A5,HA5,a5,m5⟩:=cat_ex A4 bo m4 k4;have o1:¬ 9223372036854775807 < s.length+16:=by omega
    have o2:¬ 9223372036854775807 < A1.length+dg.length:=by omega
    have o3:¬ 9223372036854775807 < A2.length+2:=by omega
    have o4:¬ 9223372036854775807 < A3.length+2:=by omega
    have o5:¬ 9223372036854775807 < A4.length+bo.length:=by omega
    have HA:Hid (A5=T):=show _=_ by
     rw [← hst.out,HA5.out,HA4.out,HA3.out,HA2.out,HA1.out,← HS.out]; rfl
    clear HA1 HA2 HA3 HA4 HA5 hst HS;rw [← HA.out] at HP;clear HA;have HBq:=hid (show BoxM (w1.drewN q) w.heap.size ⟨me,ta,st,re,hs,bo⟩ (.slice ao n cap) from HB1.out);have hbq:=hb1.trans ((below_drewN w1 q).mono hb1.size);clear x0 x1 x2 x3 x4 x5;generalize w1.drewN q=wq at HBq hbq ⊢;obtain ⟨x0,x1,x2,x3,x4,x5⟩:=HBq.out;simp only at x0 x1 x2 x3 x4 x5;by_cases h4:4096 < A5.length
    ·have h4':(4096:Int) < (A5.length:Int):=by omega
     have HR:Hid (R=([],2)):=show _=_ by rw [HP.out,if_pos h4]
     go_wp2
     go_quiet (first | (go_at_call 51; exact Calls.quiet_of (KD.out _)))
     go_wp2;go_ret2;exact ⟨ret_pr (x:=[]) HR.out,hbq.trans ((below_drewN wq _).mono hbq.size)⟩
    ·have h4':¬ ((4096:Int) < (A5.length:Int)):=by omega
     have HR:Hid (R=(A5,0)):=show _=_ by rw [HP.out,if_neg h4]
     go_wp2
     go_quiet (first | (go_at_call 51; exact Calls.quiet_of (KD.out _)))
     go_wp2;go_ret2;exact ⟨ret_pr HR.out,hbq.trans ((below_drewN wq _).mono hbq.size)⟩
 | true =>
  have hme:me=[]:=by simpa using he
  have HS0:Hid (R4=AP 0):=show _=_ by
   rw [HA0.out,HLT.out,if_pos hme,HR4.out,HR3.out,HR2.out,HR1.out]; rfl
  clear hme HS1 HS2 HS3 HS4 HS5 HR1 HR2 HR3 HR4 HLT HA0;go_wp2
  go_quiet (first | (go_at_call 51; exact Calls.quiet_of (KT.out _)))
  go_wp2;clear e1 e2 e3 e4 e5 q1 q2 q3 q4 q5 l1 l2 l3 l4 l5 r1 r2 r3 r4 p1 p2 p3 p4 t1 t2 t3 KT
  go_loopw [4,5] (fun x i wr=>∃ (k q:Nat) (s:List UInt8),k≤n∧i=.int .i64 k∧x=.string ⟨s.toArray⟩∧s.length≤281474976710667+k * 281474976710660∧Hid (s=AP k)∧wr=w1.drewN q) (fun _ i _=>n - (intOf i).toNat)
  case atStart=>exact ⟨0,_,R4,Nat.zero_le _,rfl,rfl,by omega,HS0,rfl⟩
  case round =>
   obtain ⟨k,q,s,hk,rfl,rfl,hsl,HS,rfl⟩:=hrel;by_cases hlt2:k < n
   ·have hkl:k < hs.length:=by have:=HN.out; omega
    obtain ⟨a,ha,hab,h0,h1⟩:=HC.out k hkl;have y0:=cell_below hb1 (by rw [add_block]; exact hab) h0;have y1:=cell_below hb1 (by simp only [add_block]; exact hab) h1;have hss:=HK6.out _ (List.getElem_mem hkl);have hst:=hid (HST.out k hkl);clear hab h0 h1;subst ha;generalize hs[k]=x at y0 y1 hss hst;obtain ⟨nm,vl⟩:=x;simp only at y0 y1 hss hst;obtain ⟨A1,HA1,a1,m1⟩:=cat_ex s nm hsl hss.1;obtain ⟨A2,HA2,a2,m2⟩:=cat_ex A1 [58,32] (B:=2) m1 (by simp);obtain ⟨A3,HA3,a3,m3⟩:=cat_ex A2 vl m2 hss.2;obtain ⟨A4,HA4,a4,m4⟩:=cat_ex A3 [13,10] (B:=2) m3 (by simp);have o1:¬ 9223372036854775807 < s.length+nm.length:=by omega
    have o2:¬ 9223372036854775807 < A1.length+2:=by omega
    have o3:¬ 9223372036854775807 < A2.length+vl.length:=by omega
    have o4:¬ 9223372036854775807 < A3.length+2:=by omega
    have HA:Hid (A4=AP (k+1)):=show _=_ by
     rw [hst.out,HA4.out,HA3.out,HA2.out,HA1.out,← HS.out]; rfl
    clear HA1 HA2 HA3 HA4 hst HS;go_wp2
    go_quiet (fail)
    go_wp2;go_roundw
    case rel=>exact ⟨k+1,q+nq,A4,by omega,by go_num,rfl,by omega,HA,by first | rfl | rw [World.drewN_drewN]⟩
    case measure=>simp [intOf]; omega
   ·have hst:=hid (HEND.out k (by have:=HN.out; omega));have hk64:k≤64:=by omega
    obtain ⟨A1,HA1,a1,m1⟩:=cat_ex s [67,111,110,116,101,110,116,45,76,101,110,103,116,104,58,32] (B:=16) hsl (by simp);obtain ⟨A2,HA2,a2,m2⟩:=cat_ex A1 dg m1 d1;obtain ⟨A3,HA3,a3,m3⟩:=cat_ex A2 [13,10] (B:=2) m2 (by simp);obtain ⟨A4,HA4,a4,m4⟩:=cat_ex A3 [13,10] (B:=2) m3 (by simp);obtain ⟨A5,HA5,a5,m5⟩:=cat_ex A4 bo m4 k4;have o1:¬ 9223372036854775807 < s.length+16:=by omega
    have o2:¬ 9223372036854775807 < A1.length+dg.length:=by omega
    have o3:¬ 9223372036854775807 < A2.length+2:=by omega
    have o4:¬ 9223372036854775807 < A3.length+2:=by omega
    have o5:¬ 9223372036854775807 < A4.length+bo.length:=by omega
    have HA:Hid (A5=T):=show _=_ by
     rw [← hst.out,HA5.out,HA4.out,HA3.out,HA2.out,HA1.out,← HS.out]; rfl
    clear HA1 HA2 HA3 HA4 HA5 hst HS;rw [← HA.out] at HP;clear HA;have HBq:=hid (show BoxM (w1.drewN q) w.heap.size ⟨me,ta,st,re,hs,bo⟩ (.slice ao n cap) from HB1.out);have hbq:=hb1.trans ((below_drewN w1 q).mono hb1.size);clear x0 x1 x2 x3 x4 x5;generalize w1.drewN q=wq at HBq hbq ⊢;obtain ⟨x0,x1,x2,x3,x4,x5⟩:=HBq.out;simp only at x0 x1 x2 x3 x4 x5;by_cases h4:4096 < A5.length
    ·have h4':(4096:Int) < (A5.length:Int):=by omega
     have HR:Hid (R=([],2)):=show _=_ by rw [HP.out,if_pos h4]
     go_wp2
     go_quiet (first | (go_at_call 51; exact Calls.quiet_of (KD.out _)))
     go_wp2;go_ret2;exact ⟨ret_pr (x:=[]) HR.out,hbq.trans ((below_drewN wq _).mono hbq.size)⟩
    ·have h4':¬ ((4096:Int) < (A5.length:Int)):=by omega
     have HR:Hid (R=(A5,0)):=show _=_ by rw [HP.out,if_neg h4]
     go_wp2
     go_quiet (first | (go_at_call 51; exact Calls.quiet_of (KD.out _)))
     go_wp2;go_ret2;exact ⟨ret_pr HR.out,hbq.trans ((below_drewN wq _).mono hbq.size)⟩
end Go.Proofs.YtiogedceommcoaaGreatDoor
namespace Go.Proofs.YtiogedceommcoaaGreatDoor
open Go.RowKit Sc
theorem viaH_take {vs:List (List UInt8)} {k:Nat} (hk:k < vs.length):viaH (vs.take (k+1))=viaH (vs.take k)++[⟨rViaK,vs[k]⟩]:=by
 unfold viaH;rw [List.take_succ_eq_append_getElem hk,List.map_append]; rfl
def ansNames:Array Value:=#[.string ⟨#[70,114,111,109]⟩,.string ⟨#[84,111]⟩,.string ⟨#[67,97,108,108,45,73,68]⟩,.string ⟨#[67,83,101,113]⟩]
theorem tagglue (v t:List UInt8):((⟨v.toArray⟩:ByteArray)++(⟨#[59,116,97,103,61]⟩:ByteArray))++⟨t.toArray⟩=⟨(v++([59]++tagK++[61]++t)).toArray⟩:=by
 have e0:(⟨#[59,116,97,103,61]⟩:ByteArray)=⟨[59,116,97,103,61].toArray⟩:=rfl;rw [e0,ByteArray.mk_append_mk,ByteArray.mk_append_mk]
 simp [tagK]
end Go.Proofs.YtiogedceommcoaaGreatDoor
