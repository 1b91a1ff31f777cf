/-
  CReadQ2, LSmallQ, WOrd10, QuietL, AAll, RSame10, HRef6, ReqSmall, WReplyOrder0.
-/
import Derived.Test.YtiogedceommcoaaGreatDoorM49
import Derived.Laws.OwnMore
import Derived.DataElems
import Derived.Deep.CutRange
set_option linter.unusedVariables false
set_option linter.unusedSimpArgs false
set_option maxRecDepth 20000
namespace Go.Proofs.YtiogedceommcoaaGreatDoor
open Go.RowKit Sc
set_option maxHeartbeats 8000000 in
set_option maxRecDepth 100000 in
theorem creadQ_any (m:Ms) (h:Value) (w:World) (hsm:SmallQ m) (hhl:m.headers.length≤1048576) (hat:HdrsAt w h m.headers) (hp1:(piecesV m routeK).length≤1048576) (hp2:(piecesV m acceptK).length≤1048576) :
  Calls Tryz.prog 13 #[msgV m h] w fun e w'=>ReadRes (rreadV m) w' e∧Below w.heap.size w w':=by
 have hz:=zeroR0;have hb0:=buildR0;obtain ⟨ao,cap,hh0⟩:=hat.form;subst hh0;have KB:=hid (fun w' (hb:Below w.heap.size w w')=>cbaseQ_any m _ w' hsm hhl (hat.below hb));have KM:=hid (fun b c w1 W (h01:Below w.heap.size w w1) (H:RmIn (w.heap.size+1+1) w1 b c W) (hB:baseV m=(c.r,0))=>readMoreQ_any m (.slice ao m.headers.length cap) b c w w1 W hsm hhl hat h01 H hB hp1 hp2);have HRB:Hid ((baseV m).2 ≠ 0 → rreadV m=(noR,(baseV m).2)):=fun hx=>by unfold rreadV; rw [if_pos hx]
 have N0:((w.alloc (objM m (.slice ao m.headers.length cap))).alloc (.cells rq0 37)).heap[w.heap.size+1]? = some (.cells rq0 37 (0,0)):=by
  rw [show w.heap.size+1=(w.alloc (objM m (.slice ao m.headers.length cap))).heap.size by simp,heap_alloc_new]
 have B0:Below w.heap.size w ((w.alloc (objM m (.slice ao m.headers.length cap))).alloc (.cells rq0 37)):=((Below.refl w.heap.size w).alloc (Nat.le_refl _) (objM m (.slice ao m.headers.length cap))).alloc (by simp) _;have X0:=(boxM_new w m (.slice ao m.headers.length cap)).below ((Below.refl _ (w.alloc (objM m (.slice ao m.headers.length cap)))).alloc (Nat.le_refl _) (.cells rq0 37)) (by simp);obtain ⟨W,hW⟩:∃ W,W=(w.alloc (objM m (.slice ao m.headers.length cap))).alloc (.cells rq0 37):=⟨_,rfl⟩
 have hWs:W.heap.size=w.heap.size+1+1:=by rw [hW]; simp
 have HXX:=hid X0;have HN0:=hid N0;have HB0:=hid B0;rw [← hW] at HXX HN0 HB0;clear N0 B0 hsm hhl hat;generalize rreadV m=R at KM HRB ⊢;generalize baseV m=bv at KB KM HRB;obtain ⟨br,bn⟩:=bv;obtain ⟨me,ta,st,re,hs,bo⟩:=m;unfold msgV at KB KM ⊢;unfold objM at hW X0;unfold BaseRes rqV at KB;simp only at KB KM HRB hW X0 ⊢;obtain ⟨x0,x1,x2,x3,x4,x5⟩:=X0;simp only at x0 x1 x2 x3 x4 x5;have HW:=hid hW;clear hW
 go_enter Tryz.func13,Tryz.ntmps13
 go_wp2_with fail
 rw [← HW.out];refine (KB.out _ HB0.out).mono ?_
 rintro e w1 ⟨⟨c,hcr,rfl,hrb⟩,hw1⟩;rw [hWs] at hrb;have HM:=hid (read_rm hrb);have hnw:(w1.alloc (.cells rq0 37)).heap[w1.heap.size]? = some (.cells rq0 37 (0,0)):=by rw [heap_alloc_new]
 have hlw:w.heap.size+1+1≤w1.heap.size:=by rw [← hWs]; exact hw1.size
 have hb1:=HB0.out.trans (hw1.mono HB0.out.size);have rs1:w1.heap[w.heap.size+1]? = some (.cells rq0 37 (0,0)):=by rw [hw1.block _ (by rw [hWs]; omega)]; exact HN0.out
 have A1:=(Below.refl _ w1).alloc (Nat.le_refl _) (.cells (rqCells c).toArray 37);have HX1:=hid ((HXX.out.below hw1 (by rw [hWs]; omega)).below A1 (by omega));have rs2:=Below.one A1 rs1;have hb2:=hb1.trans (A1.mono hb1.size);obtain ⟨CA,hCA⟩:∃ a,a=(rqCells c).toArray:=⟨_,rfl⟩
 rw [← hCA] at HM HX1 rs2 hb2 ⊢;have hone:CA.all (·.oneCell')=true:=by rw [hCA]; exact oneR hrb.sl
 have hinf:(Tryz.prog.info? 37).map (·.size)=some CA.size:=by rw [hCA]; exact infoR
 have hsz:rq0.size=CA.size:=by rw [hCA]; rfl
 clear x0 x1 x2 x3 x4 x5 HXX HN0 hw1 A1 hCA hrb KB HW HB0 rs1;by_cases hbn:bn=0
 case neg =>
  have HR:Hid (R=(noR,bn)):=HRB.out hbn;have hne:(bn != 0)=true:=by simpa using hbn
  have hld:=run_loadVar_row (P:=Tryz.prog) _ _ _ 37 _ _ _ rs2 Tryz.underlying37 rfl infoR0;clear KM HRB HM HX1;go_wp2_with (first
   | (refine wpList_store_row rfl 37 (.tmp 2) _ rfl (w.heap.size+1) rq0 rfl rfl _ _ rs2 infoR0 rfl oneR0 ?_; rw [setRow_self _ _ _ _ _ rs2])
   | (refine wpList_store_row rfl 37 (.tmp 4) _ rfl w1.heap.size CA rfl rfl _ _ hnw hinf hsz hone ?_; rw [World.setRow_alloc_new]))
  try simp only [Exit.inBlock,Exit.then]
  refine bodyPost_ret (v:=.tuple #[.agg rq0,.int .i64 bn]) (by simp [results,Tryz.results13,asAddr,hld]; try rfl) rfl ?_
  exact ⟨read_none HR.out,hb2⟩
 subst hbn;have KX:=hid (KM.out _ _ _ _ hb1 HM.out (by rw [hcr]));obtain ⟨x0,x1,x2,x3,x4,x5⟩:=HX1.out;simp only at x0 x1 x2 x3 x4 x5;clear KM HRB;go_wp2_with (first
  | (refine wpList_store_row rfl 37 (.tmp 4) _ rfl w1.heap.size CA rfl rfl _ _ hnw hinf hsz hone ?_; rw [World.setRow_alloc_new]))
 refine KX.out.mono ?_
 rintro e w3 ⟨x,c3,rfl,hu3,hx1,hx2⟩;have rs3:=hu3.one rs2 (by omega);have hb3:=hu3.outer0 hb2 (by omega);have HX1':=hid hx1;have HX2':=hid hx2;have HU3:=hid hu3;clear x0 x1 x2 x3 x4 x5 HX1 KX hx1 hx2 rs2 HM hu3;by_cases hx:x=0
 case neg =>
  have HR:=hid (HX1'.out hx);have hne:(x != 0)=true:=by simpa using hx
  have hld:=run_loadVar_row (P:=Tryz.prog) _ _ _ 37 _ _ _ rs3 Tryz.underlying37 rfl infoR0;clear HX1' HX2';go_wp2_with (first
   | (refine wpList_store_row rfl 37 (.tmp 2) _ rfl (w.heap.size+1) rq0 rfl rfl _ _ rs3 infoR0 rfl oneR0 ?_; rw [setRow_self _ _ _ _ _ rs3]))
  try simp only [Exit.inBlock,Exit.then]
  refine bodyPost_ret (v:=.tuple #[.agg rq0,.int .i64 x]) (by simp [results,Tryz.results13,asAddr,hld]; try rfl) rfl ?_
  exact ⟨read_none HR.out,hb3⟩
 subst hx;obtain ⟨hR,hm3⟩:=HX2'.out rfl;have hlo:_=_:=hm3.row;unfold RowIs at hlo;have hone3:=oneR hm3.sl;have hinf3:(Tryz.prog.info? 37).map (·.size)=some (rqCells c3).toArray.size:=infoR;have HO:Hid ((ReadRes R (w3.setRow (w.heap.size+1) (rqCells c3).toArray) (.returned (.tuple #[.agg (rqCells c3).toArray,.int .i64 0]))∧Below w.heap.size w (w3.setRow (w.heap.size+1) (rqCells c3).toArray))∧(w3.setRow (w.heap.size+1) (rqCells c3).toArray).heap[w.heap.size+1]? = some (.cells (rqCells c3).toArray 37 (0,0))) :=
  show _∧_ from ⟨⟨⟨c3,by rw [hR],by rw [hR]; rfl,hm3.out (by omega) hlw _,hm3.sl⟩,below_setRow hb3 (by omega) _⟩,setRow_heap _ _ _ _ _ _ rs3⟩
 generalize (rqCells c3).toArray=CB at hlo hone3 HO hinf3;have hsz3:rq0.size=CB.size:=by have:=infoR0; rw [hinf3] at this; injection this with this; exact this.symm
 clear HX1' HX2' HU3 hR hm3 hb3;go_wp2_with (first
  | (refine wpList_load_row rfl 37 (.tmp 4) rfl w1.heap.size rfl _ _ _ _ hlo Tryz.underlying37 rfl hinf3 ?_)
  | (refine wpList_store_row rfl 37 (.tmp 2) _ rfl (w.heap.size+1) CB rfl rfl _ _ rs3 hinf3 hsz3 hone3 ?_))
 obtain ⟨HO1,HO2⟩:=HO.out;generalize World.setRow _ _ _=wE at HO1 HO2 ⊢;have hld:=run_loadVar_row (P:=Tryz.prog) _ _ _ 37 _ _ _ HO2 Tryz.underlying37 rfl hinf3
 try simp only [Exit.inBlock,Exit.then]
 refine bodyPost_ret (v:=.tuple #[.agg CB,.int .i64 0]) (by simp [results,Tryz.results13,asAddr,hld]; try rfl) rfl ?_
 exact HO1
set_option maxHeartbeats 2000000 in
set_option maxRecDepth 100000 in
theorem lsmallA (m:Ms) (h:Value) (w:World) (hsm:SmallM 140737488355328 m) (h64:m.headers.length≤64) (hat:HdrsAt w h m.headers) :
  Calls Tryz.prog 8 #[msgV m h] w fun e w'=>e=.returned (.bool (decide (sumQ m≤6000)))∧Below w.heap.size w w':=by
 obtain ⟨ao,cap,rfl,hcell⟩:=hat.get;have HC:=hid hcell;have HBX:=hid (boxM_new w m (.slice ao m.headers.length cap));have hb0:Below w.heap.size w (w.alloc (objM m (.slice ao m.headers.length cap))):=(Below.refl _ w).alloc (Nat.le_refl _) _;have hsb:=sumH_bound m.headers hsm.2.2.2.2.2;have hmm:m.headers.length * (2 * 140737488355328+10)≤64 * (2 * 140737488355328+10):=Nat.mul_le_mul_right _ h64;obtain ⟨k1,k2,k3,k4,_⟩:=hsm;have hv:sumQ m=m.method.length+m.target.length+m.body.length+sumH m.headers:=rfl;clear hat hcell;obtain ⟨me,ta,st,re,hs,bo⟩:=m;unfold msgV;unfold objM at HBX hb0;simp only at HC HBX hb0 k1 k2 k3 k4 hsb hmm hv h64 ⊢;have hSB:sumH hs≤18014398509482624:=by omega
 generalize sumQ _=S at hv ⊢;have HV:=hid hv;clear hsb hmm hv;obtain ⟨n,hn⟩:∃ n,n=hs.length:=⟨_,rfl⟩
 rw [← hn] at HBX hb0 h64 ⊢;have HN:=hid hn;clear hn;obtain ⟨x0,x1,x2,x3,x4,x5⟩:=HBX.out;simp only at x0 x1 x2 x3 x4 x5;have z1:=size_list me;have z2:=size_list ta;have z4:=size_list bo;have HB0:=hid hb0;generalize hW:World.alloc w _=W at HBX hb0 HB0 x0 x1 x2 x3 x4 x5
 go_enter Tryz.func8,Tryz.ntmps8
 go_wp2;clear hW
 go_loopw [3,4] (fun x i wr=>∃ k q t:Nat,k≤n∧i=.int .i64 k∧x=.int .i64 t∧t≤27021597764222976∧Hid (t=me.length+ta.length+bo.length+sumH (hs.take k))∧wr=W.drewN q) (fun _ i _=>n - (intOf i).toNat)
 case atStart=>exact ⟨0,0,me.length+ta.length+bo.length,Nat.zero_le _,rfl,by go_num,by omega,hid (by simp [sumH]),rfl⟩
 case round =>
  obtain ⟨k,q,t,hk,rfl,rfl,ht4,ht,rfl⟩:=hrel;by_cases hlt2:k < n
  ·have hkl:k < hs.length:=by have:=HN.out; omega
   obtain ⟨a,ha,hab,h0,h1⟩:=HC.out k hkl;have d0:=cell_below HB0.out (by rw [add_block]; exact hab) h0;have d1:=cell_below HB0.out (by simp only [add_block]; exact hab) h1;have hst:=hid (sumH_step hkl);have hle:=sumH_le hs (k+1);clear hab h0 h1;subst ha;generalize hs[k]=x at d0 d1 hst;obtain ⟨xn,xv⟩:=x;simp only at d0 d1 hst;have s1:=size_list xn;have s2:=size_list xv;have hbig:t+10+xn.length+xv.length≤27021597764222976:=by have h1:=hst.out; have h2:=ht.out; omega
   have w1:IntKind.i64.wrap ((t:Int)+10)=((t+10:Nat):Int):=by
    simp [IntKind.wrap,IntKind.bits,IntKind.signed]; omega
   have w2:IntKind.i64.wrap ((t:Int)+10+(xn.length:Int))=((t+10+xn.length:Nat):Int):=by
    simp [IntKind.wrap,IntKind.bits,IntKind.signed]; omega
   have w3:IntKind.i64.wrap ((t:Int)+10+(xn.length:Int)+(xv.length:Int))=((t+10+xn.length+xv.length:Nat):Int):=by
    simp [IntKind.wrap,IntKind.bits,IntKind.signed]; omega
   have hnx:Hid (t+10+xn.length+xv.length=me.length+ta.length+bo.length+sumH (hs.take (k+1))):=show _=_ by rw [hst.out,ht.out]; omega
   clear hst ht hle;go_wp2
   go_quiet (fail)
   go_wp2;go_roundw
   case rel=>exact ⟨k+1,q+nq,t+10+xn.length+xv.length,by omega,by go_num,by first | rfl | (simp only [w3,w2,w1]; go_num) | go_num,hbig,hnx,by first | rfl | rw [World.drewN_drewN]⟩
   case measure=>simp [intOf]; omega
  ·have hv:Hid (t=S):=show _=_ by rw [ht.out,HV.out,List.take_of_length_le (by have:=HN.out; omega)]
   clear ht;go_wp2;go_ret;exact ⟨ret_bool (by rw [hv.out]; simp; omega),HB0.out.trans ((below_drewN W q).mono HB0.out.size)⟩
set_option maxHeartbeats 2000000 in
set_option maxRecDepth 100000 in
theorem lsmallB (m:Ms) (h:Value) (w:World) (hsm:SmallM 140737488355328 m) (h64:m.headers.length≤4398046511104) (hat:HdrsAt w h m.headers) :
  Calls Tryz.prog 8 #[msgV m h] w fun e w'=>(∃ b,e=.returned (.bool b))∧Below w.heap.size w w':=by
 obtain ⟨ao,cap,rfl,hcell⟩:=hat.get;have HC:=hid hcell;have HBX:=hid (boxM_new w m (.slice ao m.headers.length cap));have hb0:Below w.heap.size w (w.alloc (objM m (.slice ao m.headers.length cap))):=(Below.refl _ w).alloc (Nat.le_refl _) _;obtain ⟨k1,k2,k3,k4,_⟩:=hsm;clear hat hcell;obtain ⟨me,ta,st,re,hs,bo⟩:=m;unfold msgV;unfold objM at HBX hb0;simp only at HC HBX hb0 k1 k2 k3 k4 h64 ⊢;obtain ⟨n,hn⟩:∃ n,n=hs.length:=⟨_,rfl⟩
 rw [← hn] at HBX hb0 h64 ⊢;have HN:=hid hn;clear hn;obtain ⟨x0,x1,x2,x3,x4,x5⟩:=HBX.out;simp only at x0 x1 x2 x3 x4 x5;have z1:=size_list me;have z2:=size_list ta;have z4:=size_list bo;have HB0:=hid hb0;generalize hW:World.alloc w _=W at HBX hb0 HB0 x0 x1 x2 x3 x4 x5
 go_enter Tryz.func8,Tryz.ntmps8
 go_wp2;clear hW
 go_loopw [3,4] (fun x i wr=>∃ (k q:Nat) (t:Int),k≤n∧i=.int .i64 k∧x=.int .i64 t∧wr=W.drewN q) (fun _ i _=>n - (intOf i).toNat)
 case atStart=>exact ⟨0,0,_,Nat.zero_le _,rfl,rfl,rfl⟩
 case round =>
  obtain ⟨k,q,t,hk,rfl,rfl,rfl⟩:=hrel;by_cases hlt2:k < n
  ·have hkl:k < hs.length:=by have:=HN.out; omega
   obtain ⟨a,ha,hab,h0,h1⟩:=HC.out k hkl;have d0:=cell_below HB0.out (by rw [add_block]; exact hab) h0;have d1:=cell_below HB0.out (by simp only [add_block]; exact hab) h1;clear hab h0 h1;subst ha;generalize hs[k]=x at d0 d1;obtain ⟨xn,xv⟩:=x;simp only at d0 d1;have s1:=size_list xn;have s2:=size_list xv;go_wp2
   go_quiet (fail)
   go_wp2;go_roundw
   case rel=>exact ⟨k+1,q+nq,_,by omega,by go_num,rfl,by first | rfl | rw [World.drewN_drewN]⟩
   case measure=>simp [intOf]; omega
  ·go_wp2;go_ret;exact ⟨⟨_,rfl⟩,HB0.out.trans ((below_drewN W q).mono HB0.out.size)⟩
theorem lsmallQ (m:Ms) (h:Value) (w:World) (hsm:SmallM 140737488355328 m) (h64:m.headers.length≤4398046511104) (hat:HdrsAt w h m.headers) :
  Calls Tryz.prog 8 #[msgV m h] w fun e w'=>(∃ b,e=.returned (.bool b)∧(m.headers.length < 64 → b=decide (sumQ m≤6000)))∧Below w.heap.size w w':=by
 by_cases hn:m.headers.length < 64
 ·refine (lsmallA m h w hsm (by omega) hat).mono ?_
  rintro e w' ⟨rfl,hb⟩;exact ⟨⟨_,rfl,fun _=>rfl⟩,hb⟩
 ·refine (lsmallB m h w hsm h64 hat).mono ?_
  rintro e w' ⟨⟨b,rfl⟩,hb⟩;exact ⟨⟨b,rfl,fun h=>absurd h hn⟩,hb⟩
theorem step_appHs {P:Program} {ops:Array Oper} {o:Oper} {a:Act} {w:World} {K:Act → World → Prop} {Q:Exit → Act → World → Prop} {E:Prop} (hgd:o.guard=none)
  (s x:Operand) (t:TypeId) (ho:o.op=Op.call { callee:=Callee.builtin Builtin.append,args:=#[s,x],argTypes:=#[t,t] }) (B:Nat) (i:TypeInfo)
  (z:Value) (ht:P.underlying t=some (TypeDesc.slice 52)) (hi:P.info? 52=some i) (hz:i.zero=some z) (hsize:i.size=2) (hby:i.bytes=32) (hzs:z.cells.size=2)
  (v:Value) (hs:List Hdr) (hsv:a.eval s=v) (hown:OwnH w B v hs) (va:Value) (ns:List Hdr) (hx:a.eval x=va) (hat:HdrsAt w va ns)
  (hlen:hs.length+ns.length≤4000000) (w0:World) (hb:Below B w0 w) (hB:B≤w.heap.size)
  (h:∀ (v':Value) (w':World),OwnH w' B v' (hs++ns) → Below B w0 w' → B≤w'.heap.size → K (a.put o.dst v') w') :
  if Region.wanted o (yielded ops a.tmps)=true then Oper.wp P o a w K Q else E:=by
 have hw:Region.wanted o (yielded ops a.tmps)=true:=by simp [Region.wanted,hgd]
 rw [if_pos hw]
 rcases hat with ⟨hv,hn⟩ | ⟨ad,cap,hv,hcap,hc⟩
 ·subst hn;rw [hv] at hx;have hrun:=run_append_owned_none (P:=P) (w:=w) B t o.type 52 i 2 ht hi v hs.length (hdrsCells hs) hown;unfold Oper.wp
  simp [execOp,ho,resolve,invoke,builtin,hsv,hx,hrun,Result.andThen]
  exact h v w (by rw [List.append_nil]; exact hown) hb hB
 ·rw [hv] at hx;obtain ⟨v',w',hrun,r1,hgr,_⟩:=run_append_own (P:=P) w B t o.type 52 i z 2 32 ht hi hz hsize hby hzs (by decide) v hs.length (hdrsCells hs) hown ad ns.length cap (hdrsCells ns) (hdrsCells_len ns) (hdrs_news hc) (by
   intro u hu;unfold hdrsCells at hu;rw [List.mem_flatMap] at hu;obtain ⟨p,_,hu⟩:=hu
   simp [hdrCells] at hu
   rcases hu with rfl | rfl <;> rfl) (by unfold maxLen; omega) (by omega) hB
  unfold Oper.wp
  simp [execOp,ho,resolve,invoke,builtin,hsv,hx,hrun,Result.andThen]
  refine h v' w' ?_ (hb.grown hgr hB (fun k hk=>(World.ownsRow.lt hown k hk).1)) (Nat.le_trans hB hgr.size)
  unfold OwnH;have e:hdrsCells (hs++ns)=hdrsCells hs++hdrsCells ns:=by simp [hdrsCells]
  rw [e,List.length_append];exact r1
theorem wpList_load_rowG {P:Program} {ops:Array Oper} {rest:List Oper} {o:Oper} {a:Act} {w:World} {Q:Exit → Act → World → Prop} (hw:Region.wanted o (yielded ops a.tmps)=true) (ty:TypeId) (x:Operand) (ho:o.op=.load ty x)
  (g:Nat) (hx:a.eval x=.pointer (some ⟨g,0,none⟩)) (t:TypeId) (cs:Array Value) (fr:Nat × Nat) (d:TypeDesc) (hg:w.heap[g]? = some (.cells cs t fr))
  (hu:P.underlying ty=some d) (hd:(match d with | .struct _ | .array _ _=>true | _=>false)=true) (hi:(P.info? ty).map (·.size)=some cs.size)
  (h:wpList P ops Q rest (a.put o.dst (.agg cs)) w):wpList P ops Q (o :: rest) a w:=by
 unfold wpList;rw [if_pos hw];exact .inl (wp_load_row ty x ho g hx t cs fr d hg hu hd hi h)
theorem hdrs_take {w:World} {ao:Option Addr} {hs:List Hdr} {cap k:Nat} (h:HdrsAt w (.slice ao hs.length cap) hs) (hk:k≤hs.length):HdrsAt w (.slice ao k cap) (hs.take k):=by
 rcases h with ⟨h1,h2⟩ | ⟨a,c,h1,h2,h3⟩
 ·subst h2;simp only [Value.slice.injEq,List.length_nil] at h1;obtain ⟨rfl,_,rfl⟩:=h1
  have:k=0:=by simpa using hk
  subst this;exact Or.inl ⟨rfl,rfl⟩
 ·simp only [Value.slice.injEq] at h1;obtain ⟨rfl,_,rfl⟩:=h1;exact HdrsAt.take hk h2 h3
theorem hdrs_drop {w:World} {a:Addr} {hs:List Hdr} {cap k:Nat} (h:HdrsAt w (.slice (some a) hs.length cap) hs) (hk:k≤hs.length):HdrsAt w (.slice (some (a.add (k * 2))) (hs.length - k) (cap - k)) (hs.drop k):=by
 rcases h with ⟨h1,_⟩ | ⟨a',c,h1,h2,h3⟩
 ·simp at h1
 ·simp only [Value.slice.injEq,Option.some.injEq] at h1;obtain ⟨rfl,_,rfl⟩:=h1;refine Or.inr ⟨a.add (k * 2),cap - k,by rw [List.length_drop],by rw [List.length_drop]; omega,fun j hj=>?_⟩
  rw [List.length_drop] at hj;obtain ⟨h4,h5,h6⟩:=h3 (k+j) (by omega);have e:(a.add (k * 2)).add (j * 2)=a.add ((k+j) * 2):=by rw [Addr.add_add,← Nat.add_mul]
  rw [List.getElem_drop];refine ⟨by rw [add_block]; exact h4,?_,?_⟩
  ·rw [e]; exact h5
  ·rw [e]; exact h6
theorem ownsRow_empty {w:World} {B g:Nat} {e:TypeId} {k:Nat} (h:w.heap[g]? = some (.cells #[] e (0,0))) (hB:B≤g):w.ownsRow B e k (.slice (some ⟨g,0,none⟩) 0 0) 0 []:=by
 refine ⟨by simp,Or.inr ⟨g,0,#[],rfl,hB,h,by simp⟩⟩
theorem OwnH.setC {w:World} {B:Nat} {v:Value} {hs:List Hdr} (h:OwnH w B v hs) {a:Addr} (ha:a.block < B) (x:Value):OwnH (w.setCell a x) B v hs:=ownsRow_setCell h ha x
end Go.Proofs.YtiogedceommcoaaGreatDoor
namespace Go.Proofs.YtiogedceommcoaaGreatDoor
section
variable {P : Program} {ops : Array Oper} {C : World → Prop} {Q : Exit → Act → World → Prop}
theorem wpList_of_quiet:∀ (l:List Oper) (a:Act) (w:World),C w → wpQuiet P ops C (fun a'=>∀ w',C w' → Q .normal a' w') l a → wpList P ops Q l a w
 | [],a,w,hw,h=>h w hw
 | o :: rest,a,w,hw,h=>by
  unfold wpList;unfold wpQuiet at h
  split
  ·rename_i hx
   rw [if_pos hx] at h;exact .inl (Oper.wp_of_quiet hw (fun a' w' hw' k=>wpList_of_quiet rest a' w' hw' k) h)
  ·rename_i hx
   rw [if_neg hx] at h;exact wpList_of_quiet rest _ w hw h
theorem wpList_quiet_at {a:Act} {w:World} {o:Oper} {rest:List Oper} (t:TypeId) (x:Operand) (k:Nat) (ho:o.op=.fieldAddr t x k)
  (h:∀ T:Act → Prop,(∀ a',(∀ w',(∃ p:Regrown,w'=Sort.grow (redrawn w p.d) p.os) → Q .normal a' w') → T a') → wpQuiet P ops (fun w'=>∃ p:Regrown,w'=Sort.grow (redrawn w p.d) p.os) T (o :: rest) a):wpList P ops Q (o :: rest) a w :=
 wpList_of_quiet (C:=fun w'=>∃ p:Regrown,w'=Sort.grow (redrawn w p.d) p.os) _ _ _ ⟨⟨w.drawn,#[]⟩,by rw [Sort.grow_empty]; rfl⟩ (h _ fun _ h=>h)
end
end Go.Proofs.YtiogedceommcoaaGreatDoor
namespace Go.Proofs.YtiogedceommcoaaGreatDoor
open Go.RowKit Go.Sort Sc
structure EightAt (w:World) (ad:Addr) (k:Nat) (c:AdrC):Prop where
 c0:w.cell? (ad.add (k * 8))=some (.string ⟨c.a.display.toArray⟩)
 c1:w.cell? ⟨(ad.add (k * 8)).block,(ad.add (k * 8)).off+1,none⟩=some (.string ⟨c.a.uri.scheme.toArray⟩)
 c2:w.cell? ⟨(ad.add (k * 8)).block,(ad.add (k * 8)).off+2,none⟩=some (.string ⟨c.a.uri.user.toArray⟩)
 c3:w.cell? ⟨(ad.add (k * 8)).block,(ad.add (k * 8)).off+3,none⟩=some (.string ⟨c.a.uri.host.toArray⟩)
 c4:w.cell? ⟨(ad.add (k * 8)).block,(ad.add (k * 8)).off+4,none⟩=some (.int .i64 c.a.uri.port)
 c5:w.cell? ⟨(ad.add (k * 8)).block,(ad.add (k * 8)).off+5,none⟩=some c.p
 c6:w.cell? ⟨(ad.add (k * 8)).block,(ad.add (k * 8)).off+6,none⟩=some c.h
 c7:w.cell? ⟨(ad.add (k * 8)).block,(ad.add (k * 8)).off+7,none⟩=some c.q
theorem EightAt.below {w w':World} {ad:Addr} {k:Nat} {c:AdrC} (h:EightAt w ad k c) (hb:Below w.heap.size w w') (hlt:ad.block < w.heap.size):EightAt w' ad k c:=by
 have hl:(ad.add (k * 8)).block < w.heap.size:=by rw [add_block]; exact hlt
 exact ⟨cell_below hb hl h.c0,cell_below (a:=⟨(ad.add (k * 8)).block,(ad.add (k * 8)).off+1,none⟩) hb hl h.c1,cell_below (a:=⟨(ad.add (k * 8)).block,(ad.add (k * 8)).off+2,none⟩) hb hl h.c2,cell_below (a:=⟨(ad.add (k * 8)).block,(ad.add (k * 8)).off+3,none⟩) hb hl h.c3,cell_below (a:=⟨(ad.add (k * 8)).block,(ad.add (k * 8)).off+4,none⟩) hb hl h.c4,cell_below (a:=⟨(ad.add (k * 8)).block,(ad.add (k * 8)).off+5,none⟩) hb hl h.c5,cell_below (a:=⟨(ad.add (k * 8)).block,(ad.add (k * 8)).off+6,none⟩) hb hl h.c6,cell_below (a:=⟨(ad.add (k * 8)).block,(ad.add (k * 8)).off+7,none⟩) hb hl h.c7⟩
theorem AdrsAt.eight {w:World} {v:Value} {cs:List AdrC} (h:AdrsAt w v cs) (k:Nat) (hk:k < cs.length):∃ ad cap,v=.slice (some ad) cs.length cap∧ad.block < w.heap.size∧EightAt w ad k cs[k]:=by
 obtain ⟨⟨ao,cap,rfl,hc⟩,_⟩:=h;obtain ⟨ad,rfl,hlt,hcell⟩:=hc k hk;exact ⟨ad,cap,rfl,hlt,hcell 0 _ rfl,hcell 1 _ rfl,hcell 2 _ rfl,hcell 3 _ rfl,hcell 4 _ rfl,hcell 5 _ rfl,hcell 6 _ rfl,hcell 7 _ rfl⟩
set_option maxHeartbeats 1000000 in
set_option maxRecDepth 100000 in
theorem aall_any (v v':Value) (cs cs':List AdrC) (w:World) (hl:cs.length≤1048576) (hsm:∀ c ∈ cs,SmallA 140737488355328 c.a) (he:cs.map AdrC.a=cs'.map AdrC.a) (h:AdrsAt w v cs) (h':AdrsAt w v' cs') :
  Calls Tryz.prog 37 #[v,v'] w fun e w'=>e=.returned (.bool true)∧Below w.heap.size w w':=by
 have hlen:cs'.length=cs.length:=by have:=congrArg List.length he; simpa using this.symm
 obtain ⟨n,hn⟩:∃ n,n=cs.length:=⟨_,rfl⟩
 have HE:=hid (fun k (hk:k < cs.length)=>h.eight k hk);have HE':=hid (fun k (hk:k < cs'.length)=>h'.eight k hk);have HAT:=hid h;have HAT':=hid h';obtain ⟨a1,c1,e1⟩:=h.form;obtain ⟨a2,c2,e2⟩:=h'.form;rw [hlen,← hn] at e2;rw [← hn] at e1 hl;have HLEN:=hid hlen;have HN:=hid hn;have HSM:=hid hsm;have HEQ:=hid he;clear h h' hlen hn hsm he;subst e1 e2
 go_enter Tryz.func37,Tryz.ntmps37
 go_wp2
 go_loopw [5] (fun i wr=>∃ (k:Nat),k≤n∧i=.int .i64 k∧Below w.heap.size w wr) (fun i _=>n - (intOf i).toNat)
 case atStart=>exact ⟨0,by omega,rfl,Below.refl _ _⟩
 case round =>
  obtain ⟨k,hkn,rfl,hb⟩:=hrel;by_cases hlt:k < n
  ·have hkl:k < cs.length:=by have:=HN.out; omega
   have hkl':k < cs'.length:=by have:=HN.out; have:=HLEN.out; omega
   obtain ⟨ad,cap,e1,hab,hei⟩:=HE.out k hkl;obtain ⟨ad',cap',e1',hab',hei'⟩:=HE'.out k hkl';simp only [Value.slice.injEq] at e1 e1';obtain ⟨rfl,_,rfl⟩:=e1;obtain ⟨rfl,_,rfl⟩:=e1';have heq:cs[k].a=cs'[k].a:=by
    have h1:(cs.map AdrC.a)[k]? = (cs'.map AdrC.a)[k]? := by rw [HEQ.out]
    rw [List.getElem?_map,List.getElem?_map,List.getElem?_eq_getElem hkl,List.getElem?_eq_getElem hkl'] at h1
    simpa using h1
   have hss:=HSM.out _ (List.getElem_mem hkl);have KS:=hid (fun w' (hb':Below w.heap.size w w')=>asame_any cs[k] cs'[k] w' hss.2.1.2.2.2.1.1 hss.2.1.2.2.2.2.1 hss.2.2.1 ((HAT.out.2 _ (List.getElem_mem hkl)).below hb') ((HAT'.out.2 _ (List.getElem_mem hkl')).below hb'));have hat:=HAT.out.2 _ (List.getElem_mem hkl);have hat':=HAT'.out.2 _ (List.getElem_mem hkl');have hei2:=hei.below hb hab;have hei2':=hei'.below hb hab';clear hei hei' hss;generalize cs[k]=c at heq KS hei2 hat;generalize cs'[k]=c' at heq KS hei2' hat';obtain ⟨x,p,h,q⟩:=c;obtain ⟨x',p',h',q'⟩:=c';simp only at heq;subst heq;obtain ⟨b1,j1,r1⟩:=hat.1.form;obtain ⟨b2,j2,r2⟩:=hat.2.1.form;obtain ⟨b3,j3,r3⟩:=hat.2.2.1.form;obtain ⟨b4,j4,r4⟩:=hat'.1.form;obtain ⟨b5,j5,r5⟩:=hat'.2.1.form;obtain ⟨b6,j6,r6⟩:=hat'.2.2.1.form;simp only at r1 r2 r3 r4 r5 r6;subst r1 r2 r3 r4 r5 r6;clear hat hat';obtain ⟨d,⟨us,uu,uh,up,upp,uhh⟩,ps⟩:=x;obtain ⟨x0,x1,x2,x3,x4,x5,x6,x7⟩:=hei2;obtain ⟨y0,y1,y2,y3,y4,y5,y6,y7⟩:=hei2';unfold adrV at KS;simp only [decide_true] at KS x0 x1 x2 x3 x4 x5 x6 x7 y0 y1 y2 y3 y4 y5 y6 y7;replace x0:=cell_regrown x0;replace x1:=cell_regrown x1;replace x2:=cell_regrown x2;replace x3:=cell_regrown x3;replace x4:=cell_regrown x4;replace x5:=cell_regrown x5;replace x6:=cell_regrown x6;replace x7:=cell_regrown x7;replace y0:=cell_regrown y0;replace y1:=cell_regrown y1;replace y2:=cell_regrown y2;replace y3:=cell_regrown y3;replace y4:=cell_regrown y4;replace y5:=cell_regrown y5;replace y6:=cell_regrown y6;replace y7:=cell_regrown y7;have c:=hid (fun (d:Nat) (os:Array Obj)=>Calls.regrown_of (KS.out (grow (redrawn wr d) os) (below_re5 hb d os)));clear KS;go_wp2;refine wp_region_quiet_below followsMixed5 (by kernel_rfl) ?_
   repeat (go_big_quiet_step (with_reducible exact c.out _ _))
   refine wpQuiet_nil ?_
   intro _ hw';obtain ⟨⟨dq,osq⟩,hw''⟩:=hw';subst hw'';have hb1:=below_re5 hb dq osq;clear c x0 x1 x2 x3 x4 x5 x6 x7 y0 y1 y2 y3 y4 y5 y6 y7 hb;go_wp2;go_roundw
   case rel=>exact ⟨k+1,by omega,by go_num,hb1⟩
   case measure=>simp [intOf]; omega
  ·go_wp2;go_ret;exact ⟨rfl,hb⟩
end Go.Proofs.YtiogedceommcoaaGreatDoor
namespace Go.Proofs.YtiogedceommcoaaGreatDoor
open Go.RowKit Sc
structure SmallR (r:Rq):Prop where
 t1:r.target.params.length≤140737488355328
 t2:r.target.headers.length≤140737488355328
 f:SmallA 140737488355328 r.frm
 o:SmallA 140737488355328 r.too
 e:r.event.params.length≤140737488355328
 c1:r.contact.length≤1048576
 c2:∀ a ∈ r.contact,SmallA 140737488355328 a
 ro:r.routes.length≤281474976710656
 ac:r.accept.length≤281474976710656
theorem below_re10 {w W:World} (h:Below w.heap.size w W) (d:Nat) (os:Array Obj):Below w.heap.size w (Sort.grow (redrawn W d) os):=h.trans ((below_regrown W d os).mono h.size)
set_option maxHeartbeats 8000000 in
set_option maxRecDepth 100000 in
theorem rsame10_any (c c':RqC) (w:World) (he:c'.r=c.r) (h:c.At w) (h':c'.At w) (hs:SmallR c.r) :
  Calls Tryz.prog 12 #[rqV c,rqV c'] w fun e w'=>e=.returned (.bool true)∧Below w.heap.size w w':=by
 obtain ⟨r0,tp,th,fp,fh,fq,op,oh,oq,eq,co,ro,ac⟩:=c;obtain ⟨r,tp',th',fp',fh',fq',op',oh',oq',eq',co',ro',ac'⟩:=c';simp only at he;subst he;unfold rqV;obtain ⟨CA,hCA⟩:∃ a,a=(rqCells ⟨r,tp,th,fp,fh,fq,op,oh,oq,eq,co,ro,ac⟩).toArray:=⟨_,rfl⟩
 obtain ⟨CB,hCB⟩:∃ a,a=(rqCells ⟨r,tp',th',fp',fh',fq',op',oh',oq',eq',co',ro',ac'⟩).toArray:=⟨_,rfl⟩
 rw [← hCA,← hCB];have hinfA:(Tryz.prog.info? 37).map (·.size)=some CA.size:=by rw [hCA]; exact infoR
 have hinfB:(Tryz.prog.info? 37).map (·.size)=some CB.size:=by rw [hCB]; exact infoR
 have A2:=(Below.refl _ (w.alloc (.cells CA 37))).alloc (Nat.le_refl _) (.cells CB 37);have hB:=hid (((Below.refl w.heap.size w).alloc (Nat.le_refl _) (.cells CA 37)).trans (A2.mono (by simp)));have hr1:RowIs ((w.alloc (.cells CA 37)).alloc (.cells CB 37)) w.heap.size 37 (rqCells ⟨r,tp,th,fp,fh,fq,op,oh,oq,eq,co,ro,ac⟩):=by unfold RowIs; rw [A2.block _ (by simp),heap_alloc_new,hCA]
 have hr2:RowIs ((w.alloc (.cells CA 37)).alloc (.cells CB 37)) (w.heap.size+1) 37 (rqCells ⟨r,tp',th',fp',fh',fq',op',oh',oq',eq',co',ro',ac'⟩):=by
  unfold RowIs;have e:(w.alloc (.cells CA 37)).heap.size=w.heap.size+1:=by simp
  rw [← e,heap_alloc_new,hCB]
 replace hr1:=hid hr1;replace hr2:=hid hr2;clear hCA hCB A2
 go_enter Tryz.func12,Tryz.ntmps12
 repeat (fail_if_success (refine wpList_quiet_at _ _ _ rfl ?_)
         go_step)
 refine wpList_quiet_at _ _ _ rfl ?_
 intro T HT;replace HT:=hid HT;generalize World.alloc _ _=W at hB hr1 hr2 HT ⊢;have g0:∀ d os,(Sort.grow (redrawn W d) os).cell? ⟨w.heap.size,0,none⟩=some (.string ⟨r.method.toArray⟩):=cell_regrown (hr1.out.cell 0 (by rw [rq_len]; decide));have g1:∀ d os,(Sort.grow (redrawn W d) os).cell? ⟨w.heap.size,1,none⟩=some (.string ⟨r.target.scheme.toArray⟩):=cell_regrown (hr1.out.cell 1 (by rw [rq_len]; decide));have g2:∀ d os,(Sort.grow (redrawn W d) os).cell? ⟨w.heap.size,2,none⟩=some (.string ⟨r.target.user.toArray⟩):=cell_regrown (hr1.out.cell 2 (by rw [rq_len]; decide));have g3:∀ d os,(Sort.grow (redrawn W d) os).cell? ⟨w.heap.size,3,none⟩=some (.string ⟨r.target.host.toArray⟩):=cell_regrown (hr1.out.cell 3 (by rw [rq_len]; decide));have g4:∀ d os,(Sort.grow (redrawn W d) os).cell? ⟨w.heap.size,4,none⟩=some (.int .i64 r.target.port):=cell_regrown (hr1.out.cell 4 (by rw [rq_len]; decide));have g5:∀ d os,(Sort.grow (redrawn W d) os).cell? ⟨w.heap.size,5,none⟩=some (tp):=cell_regrown (hr1.out.cell 5 (by rw [rq_len]; decide));have g6:∀ d os,(Sort.grow (redrawn W d) os).cell? ⟨w.heap.size,6,none⟩=some (th):=cell_regrown (hr1.out.cell 6 (by rw [rq_len]; decide));have g7:∀ d os,(Sort.grow (redrawn W d) os).cell? ⟨w.heap.size,7,none⟩=some (.string ⟨r.branch.toArray⟩):=cell_regrown (hr1.out.cell 7 (by rw [rq_len]; decide));have g8:∀ d os,(Sort.grow (redrawn W d) os).cell? ⟨w.heap.size,8,none⟩=some (.string ⟨r.sentBy.toArray⟩):=cell_regrown (hr1.out.cell 8 (by rw [rq_len]; decide));have g9:∀ d os,(Sort.grow (redrawn W d) os).cell? ⟨w.heap.size,9,none⟩=some (.string ⟨r.frm.display.toArray⟩):=cell_regrown (hr1.out.cell 9 (by rw [rq_len]; decide));have g10:∀ d os,(Sort.grow (redrawn W d) os).cell? ⟨w.heap.size,10,none⟩=some (.string ⟨r.frm.uri.scheme.toArray⟩):=cell_regrown (hr1.out.cell 10 (by rw [rq_len]; decide));have g11:∀ d os,(Sort.grow (redrawn W d) os).cell? ⟨w.heap.size,11,none⟩=some (.string ⟨r.frm.uri.user.toArray⟩):=cell_regrown (hr1.out.cell 11 (by rw [rq_len]; decide));have g12:∀ d os,(Sort.grow (redrawn W d) os).cell? ⟨w.heap.size,12,none⟩=some (.string ⟨r.frm.uri.host.toArray⟩):=cell_regrown (hr1.out.cell 12 (by rw [rq_len]; decide));have g13:∀ d os,(Sort.grow (redrawn W d) os).cell? ⟨w.heap.size,13,none⟩=some (.int .i64 r.frm.uri.port):=cell_regrown (hr1.out.cell 13 (by rw [rq_len]; decide));have g14:∀ d os,(Sort.grow (redrawn W d) os).cell? ⟨w.heap.size,14,none⟩=some (fp):=cell_regrown (hr1.out.cell 14 (by rw [rq_len]; decide));have g15:∀ d os,(Sort.grow (redrawn W d) os).cell? ⟨w.heap.size,15,none⟩=some (fh):=cell_regrown (hr1.out.cell 15 (by rw [rq_len]; decide));have g16:∀ d os,(Sort.grow (redrawn W d) os).cell? ⟨w.heap.size,16,none⟩=some (fq):=cell_regrown (hr1.out.cell 16 (by rw [rq_len]; decide));have g17:∀ d os,(Sort.grow (redrawn W d) os).cell? ⟨w.heap.size,17,none⟩=some (.string ⟨r.too.display.toArray⟩):=cell_regrown (hr1.out.cell 17 (by rw [rq_len]; decide));have g18:∀ d os,(Sort.grow (redrawn W d) os).cell? ⟨w.heap.size,18,none⟩=some (.string ⟨r.too.uri.scheme.toArray⟩):=cell_regrown (hr1.out.cell 18 (by rw [rq_len]; decide));have g19:∀ d os,(Sort.grow (redrawn W d) os).cell? ⟨w.heap.size,19,none⟩=some (.string ⟨r.too.uri.user.toArray⟩):=cell_regrown (hr1.out.cell 19 (by rw [rq_len]; decide));have g20:∀ d os,(Sort.grow (redrawn W d) os).cell? ⟨w.heap.size,20,none⟩=some (.string ⟨r.too.uri.host.toArray⟩):=cell_regrown (hr1.out.cell 20 (by rw [rq_len]; decide));have g21:∀ d os,(Sort.grow (redrawn W d) os).cell? ⟨w.heap.size,21,none⟩=some (.int .i64 r.too.uri.port):=cell_regrown (hr1.out.cell 21 (by rw [rq_len]; decide));have g22:∀ d os,(Sort.grow (redrawn W d) os).cell? ⟨w.heap.size,22,none⟩=some (op):=cell_regrown (hr1.out.cell 22 (by rw [rq_len]; decide));have g23:∀ d os,(Sort.grow (redrawn W d) os).cell? ⟨w.heap.size,23,none⟩=some (oh):=cell_regrown (hr1.out.cell 23 (by rw [rq_len]; decide));have g24:∀ d os,(Sort.grow (redrawn W d) os).cell? ⟨w.heap.size,24,none⟩=some (oq):=cell_regrown (hr1.out.cell 24 (by rw [rq_len]; decide));have g25:∀ d os,(Sort.grow (redrawn W d) os).cell? ⟨w.heap.size,25,none⟩=some (.string ⟨r.fromTag.toArray⟩):=cell_regrown (hr1.out.cell 25 (by rw [rq_len]; decide));have g26:∀ d os,(Sort.grow (redrawn W d) os).cell? ⟨w.heap.size,26,none⟩=some (.string ⟨r.toTag.toArray⟩):=cell_regrown (hr1.out.cell 26 (by rw [rq_len]; decide));have g27:∀ d os,(Sort.grow (redrawn W d) os).cell? ⟨w.heap.size,27,none⟩=some (.string ⟨r.callID.toArray⟩):=cell_regrown (hr1.out.cell 27 (by rw [rq_len]; decide));have g28:∀ d os,(Sort.grow (redrawn W d) os).cell? ⟨w.heap.size,28,none⟩=some (.int .i64 r.seq):=cell_regrown (hr1.out.cell 28 (by rw [rq_len]; decide));have g29:∀ d os,(Sort.grow (redrawn W d) os).cell? ⟨w.heap.size,29,none⟩=some (.int .i64 r.expires):=cell_regrown (hr1.out.cell 29 (by rw [rq_len]; decide));have g30:∀ d os,(Sort.grow (redrawn W d) os).cell? ⟨w.heap.size,30,none⟩=some (.string ⟨r.event.name.toArray⟩):=cell_regrown (hr1.out.cell 30 (by rw [rq_len]; decide));have g31:∀ d os,(Sort.grow (redrawn W d) os).cell? ⟨w.heap.size,31,none⟩=some (eq):=cell_regrown (hr1.out.cell 31 (by rw [rq_len]; decide));have g32:∀ d os,(Sort.grow (redrawn W d) os).cell? ⟨w.heap.size,32,none⟩=some (co):=cell_regrown (hr1.out.cell 32 (by rw [rq_len]; decide));have g33:∀ d os,(Sort.grow (redrawn W d) os).cell? ⟨w.heap.size,33,none⟩=some (ro):=cell_regrown (hr1.out.cell 33 (by rw [rq_len]; decide));have g34:∀ d os,(Sort.grow (redrawn W d) os).cell? ⟨w.heap.size,34,none⟩=some (ac):=cell_regrown (hr1.out.cell 34 (by rw [rq_len]; decide));have g35:∀ d os,(Sort.grow (redrawn W d) os).cell? ⟨w.heap.size,35,none⟩=some (.string ⟨r.type.toArray⟩):=cell_regrown (hr1.out.cell 35 (by rw [rq_len]; decide));have g36:∀ d os,(Sort.grow (redrawn W d) os).cell? ⟨w.heap.size,36,none⟩=some (.string ⟨r.mtch.toArray⟩):=cell_regrown (hr1.out.cell 36 (by rw [rq_len]; decide));have g37:∀ d os,(Sort.grow (redrawn W d) os).cell? ⟨w.heap.size,37,none⟩=some (.string ⟨r.body.toArray⟩):=cell_regrown (hr1.out.cell 37 (by rw [rq_len]; decide));have k0:∀ d os,(Sort.grow (redrawn W d) os).cell? ⟨w.heap.size+1,0,none⟩=some (.string ⟨r.method.toArray⟩):=cell_regrown (hr2.out.cell 0 (by rw [rq_len]; decide));have k1:∀ d os,(Sort.grow (redrawn W d) os).cell? ⟨w.heap.size+1,1,none⟩=some (.string ⟨r.target.scheme.toArray⟩):=cell_regrown (hr2.out.cell 1 (by rw [rq_len]; decide));have k2:∀ d os,(Sort.grow (redrawn W d) os).cell? ⟨w.heap.size+1,2,none⟩=some (.string ⟨r.target.user.toArray⟩):=cell_regrown (hr2.out.cell 2 (by rw [rq_len]; decide));have k3:∀ d os,(Sort.grow (redrawn W d) os).cell? ⟨w.heap.size+1,3,none⟩=some (.string ⟨r.target.host.toArray⟩):=cell_regrown (hr2.out.cell 3 (by rw [rq_len]; decide));have k4:∀ d os,(Sort.grow (redrawn W d) os).cell? ⟨w.heap.size+1,4,none⟩=some (.int .i64 r.target.port):=cell_regrown (hr2.out.cell 4 (by rw [rq_len]; decide));have k5:∀ d os,(Sort.grow (redrawn W d) os).cell? ⟨w.heap.size+1,5,none⟩=some (tp'):=cell_regrown (hr2.out.cell 5 (by rw [rq_len]; decide));have k6:∀ d os,(Sort.grow (redrawn W d) os).cell? ⟨w.heap.size+1,6,none⟩=some (th'):=cell_regrown (hr2.out.cell 6 (by rw [rq_len]; decide));have k7:∀ d os,(Sort.grow (redrawn W d) os).cell? ⟨w.heap.size+1,7,none⟩=some (.string ⟨r.branch.toArray⟩):=cell_regrown (hr2.out.cell 7 (by rw [rq_len]; decide));have k8:∀ d os,(Sort.grow (redrawn W d) os).cell? ⟨w.heap.size+1,8,none⟩=some (.string ⟨r.sentBy.toArray⟩):=cell_regrown (hr2.out.cell 8 (by rw [rq_len]; decide));have k9:∀ d os,(Sort.grow (redrawn W d) os).cell? ⟨w.heap.size+1,9,none⟩=some (.string ⟨r.frm.display.toArray⟩):=cell_regrown (hr2.out.cell 9 (by rw [rq_len]; decide));have k10:∀ d os,(Sort.grow (redrawn W d) os).cell? ⟨w.heap.size+1,10,none⟩=some (.string ⟨r.frm.uri.scheme.toArray⟩):=cell_regrown (hr2.out.cell 10 (by rw [rq_len]; decide));have k11:∀ d os,(Sort.grow (redrawn W d) os).cell? ⟨w.heap.size+1,11,none⟩=some (.string ⟨r.frm.uri.user.toArray⟩):=cell_regrown (hr2.out.cell 11 (by rw [rq_len]; decide));have k12:∀ d os,(Sort.grow (redrawn W d) os).cell? ⟨w.heap.size+1,12,none⟩=some (.string ⟨r.frm.uri.host.toArray⟩):=cell_regrown (hr2.out.cell 12 (by rw [rq_len]; decide));have k13:∀ d os,(Sort.grow (redrawn W d) os).cell? ⟨w.heap.size+1,13,none⟩=some (.int .i64 r.frm.uri.port):=cell_regrown (hr2.out.cell 13 (by rw [rq_len]; decide));have k14:∀ d os,(Sort.grow (redrawn W d) os).cell? ⟨w.heap.size+1,14,none⟩=some (fp'):=cell_regrown (hr2.out.cell 14 (by rw [rq_len]; decide));have k15:∀ d os,(Sort.grow (redrawn W d) os).cell? ⟨w.heap.size+1,15,none⟩=some (fh'):=cell_regrown (hr2.out.cell 15 (by rw [rq_len]; decide));have k16:∀ d os,(Sort.grow (redrawn W d) os).cell? ⟨w.heap.size+1,16,none⟩=some (fq'):=cell_regrown (hr2.out.cell 16 (by rw [rq_len]; decide));have k17:∀ d os,(Sort.grow (redrawn W d) os).cell? ⟨w.heap.size+1,17,none⟩=some (.string ⟨r.too.display.toArray⟩):=cell_regrown (hr2.out.cell 17 (by rw [rq_len]; decide));have k18:∀ d os,(Sort.grow (redrawn W d) os).cell? ⟨w.heap.size+1,18,none⟩=some (.string ⟨r.too.uri.scheme.toArray⟩):=cell_regrown (hr2.out.cell 18 (by rw [rq_len]; decide));have k19:∀ d os,(Sort.grow (redrawn W d) os).cell? ⟨w.heap.size+1,19,none⟩=some (.string ⟨r.too.uri.user.toArray⟩):=cell_regrown (hr2.out.cell 19 (by rw [rq_len]; decide));have k20:∀ d os,(Sort.grow (redrawn W d) os).cell? ⟨w.heap.size+1,20,none⟩=some (.string ⟨r.too.uri.host.toArray⟩):=cell_regrown (hr2.out.cell 20 (by rw [rq_len]; decide));have k21:∀ d os,(Sort.grow (redrawn W d) os).cell? ⟨w.heap.size+1,21,none⟩=some (.int .i64 r.too.uri.port):=cell_regrown (hr2.out.cell 21 (by rw [rq_len]; decide));have k22:∀ d os,(Sort.grow (redrawn W d) os).cell? ⟨w.heap.size+1,22,none⟩=some (op'):=cell_regrown (hr2.out.cell 22 (by rw [rq_len]; decide));have k23:∀ d os,(Sort.grow (redrawn W d) os).cell? ⟨w.heap.size+1,23,none⟩=some (oh'):=cell_regrown (hr2.out.cell 23 (by rw [rq_len]; decide));have k24:∀ d os,(Sort.grow (redrawn W d) os).cell? ⟨w.heap.size+1,24,none⟩=some (oq'):=cell_regrown (hr2.out.cell 24 (by rw [rq_len]; decide));have k25:∀ d os,(Sort.grow (redrawn W d) os).cell? ⟨w.heap.size+1,25,none⟩=some (.string ⟨r.fromTag.toArray⟩):=cell_regrown (hr2.out.cell 25 (by rw [rq_len]; decide));have k26:∀ d os,(Sort.grow (redrawn W d) os).cell? ⟨w.heap.size+1,26,none⟩=some (.string ⟨r.toTag.toArray⟩):=cell_regrown (hr2.out.cell 26 (by rw [rq_len]; decide));have k27:∀ d os,(Sort.grow (redrawn W d) os).cell? ⟨w.heap.size+1,27,none⟩=some (.string ⟨r.callID.toArray⟩):=cell_regrown (hr2.out.cell 27 (by rw [rq_len]; decide));have k28:∀ d os,(Sort.grow (redrawn W d) os).cell? ⟨w.heap.size+1,28,none⟩=some (.int .i64 r.seq):=cell_regrown (hr2.out.cell 28 (by rw [rq_len]; decide));have k29:∀ d os,(Sort.grow (redrawn W d) os).cell? ⟨w.heap.size+1,29,none⟩=some (.int .i64 r.expires):=cell_regrown (hr2.out.cell 29 (by rw [rq_len]; decide));have k30:∀ d os,(Sort.grow (redrawn W d) os).cell? ⟨w.heap.size+1,30,none⟩=some (.string ⟨r.event.name.toArray⟩):=cell_regrown (hr2.out.cell 30 (by rw [rq_len]; decide));have k31:∀ d os,(Sort.grow (redrawn W d) os).cell? ⟨w.heap.size+1,31,none⟩=some (eq'):=cell_regrown (hr2.out.cell 31 (by rw [rq_len]; decide));have k32:∀ d os,(Sort.grow (redrawn W d) os).cell? ⟨w.heap.size+1,32,none⟩=some (co'):=cell_regrown (hr2.out.cell 32 (by rw [rq_len]; decide));have k33:∀ d os,(Sort.grow (redrawn W d) os).cell? ⟨w.heap.size+1,33,none⟩=some (ro'):=cell_regrown (hr2.out.cell 33 (by rw [rq_len]; decide));have k34:∀ d os,(Sort.grow (redrawn W d) os).cell? ⟨w.heap.size+1,34,none⟩=some (ac'):=cell_regrown (hr2.out.cell 34 (by rw [rq_len]; decide));have k35:∀ d os,(Sort.grow (redrawn W d) os).cell? ⟨w.heap.size+1,35,none⟩=some (.string ⟨r.type.toArray⟩):=cell_regrown (hr2.out.cell 35 (by rw [rq_len]; decide));have k36:∀ d os,(Sort.grow (redrawn W d) os).cell? ⟨w.heap.size+1,36,none⟩=some (.string ⟨r.mtch.toArray⟩):=cell_regrown (hr2.out.cell 36 (by rw [rq_len]; decide));have k37:∀ d os,(Sort.grow (redrawn W d) os).cell? ⟨w.heap.size+1,37,none⟩=some (.string ⟨r.body.toArray⟩):=cell_regrown (hr2.out.cell 37 (by rw [rq_len]; decide));have cU:=hid (fun (d:Nat) (os:Array Obj)=>Calls.regrown_of (usame_any r.target r.target tp th tp' th' (Sort.grow (redrawn W d) os) hs.t1 hs.t2 (h.tp.below (below_re10 hB.out d os)) (h.th.below (below_re10 hB.out d os)) (h'.tp.below (below_re10 hB.out d os)) (h'.th.below (below_re10 hB.out d os))));have cF:=hid (fun (d:Nat) (os:Array Obj)=>Calls.regrown_of (asame_any ⟨r.frm,fp,fh,fq⟩ ⟨r.frm,fp',fh',fq'⟩ (Sort.grow (redrawn W d) os) hs.f.2.1.2.2.2.1.1 hs.f.2.1.2.2.2.2.1 hs.f.2.2.1 (h.frm.below (below_re10 hB.out d os)) (h'.frm.below (below_re10 hB.out d os))));have cT:=hid (fun (d:Nat) (os:Array Obj)=>Calls.regrown_of (asame_any ⟨r.too,op,oh,oq⟩ ⟨r.too,op',oh',oq'⟩ (Sort.grow (redrawn W d) os) hs.o.2.1.2.2.2.1.1 hs.o.2.1.2.2.2.2.1 hs.o.2.2.1 (h.too.below (below_re10 hB.out d os)) (h'.too.below (below_re10 hB.out d os))));have cE:=hid (fun (d:Nat) (os:Array Obj)=>Calls.regrown_of (evsame_any ⟨r.event,eq⟩ ⟨r.event,eq'⟩ (Sort.grow (redrawn W d) os) hs.e (h.ev.below (below_re10 hB.out d os)) (h'.ev.below (below_re10 hB.out d os))));obtain ⟨cs,hc1,hc2⟩:=h.co;obtain ⟨cs',hc1',hc2'⟩:=h'.co;have cA:=hid (fun (d:Nat) (os:Array Obj)=>Calls.regrown_of (aall_any co co' cs cs' (Sort.grow (redrawn W d) os) (by have:=hs.c1; rw [← hc2,List.length_map] at this; exact this) (fun c hc=>hs.c2 c.a (by rw [← hc2]; exact List.mem_map_of_mem hc)) (hc2.trans hc2'.symm) (hc1.below (below_re10 hB.out d os)) (hc1'.below (below_re10 hB.out d os))));obtain ⟨B1,o1⟩:=h.ro;obtain ⟨B1',o1'⟩:=h'.ro;obtain ⟨B2,o2⟩:=h.ac;obtain ⟨B2',o2'⟩:=h'.ac;have cR:=hid (fun (d:Nat) (os:Array Obj)=>Calls.regrown_of (texts_any B1 B1' ro ro' r.routes (Sort.grow (redrawn W d) os) (o1.below (below_re10 hB.out d os)) (o1'.below (below_re10 hB.out d os)) hs.ro));have cC:=hid (fun (d:Nat) (os:Array Obj)=>Calls.regrown_of (texts_any B2 B2' ac ac' r.accept (Sort.grow (redrawn W d) os) (o2.below (below_re10 hB.out d os)) (o2'.below (below_re10 hB.out d os)) hs.ac));unfold uriV at cU;unfold adrV at cF cT;unfold evV at cE;simp only [decide_true] at cU cF cT cE;clear h h' hs hc1 hc1' hc2 hc2' o1 o1' o2 o2' hr1 hr2;simp only [List.append_eq,List.cons_append,List.nil_append]
 repeat (go_big_quiet_step (first | with_reducible exact cU.out _ _ | with_reducible exact cF.out _ _ | with_reducible exact cT.out _ _ | with_reducible exact cE.out _ _ | with_reducible exact cA.out _ _ | with_reducible exact cR.out _ _ | with_reducible exact cC.out _ _))
 refine wpQuiet_nil (HT.out _ ?_)
 clear HT cU cF cT cE cA cR cC;clear g0 g1 g2 g3 g4 g5 g6 g7 g8 g9 g10 g11 g12 g13 g14 g15 g16 g17 g18 g19 g20 g21 g22 g23 g24 g25 g26 g27 g28 g29 g30 g31 g32 g33 g34 g35 g36 g37;clear k0 k1 k2 k3 k4 k5 k6 k7 k8 k9 k10 k11 k12 k13 k14 k15 k16 k17 k18 k19 k20 k21 k22 k23 k24 k25 k26 k27 k28 k29 k30 k31 k32 k33 k34 k35 k36 k37;intro _ hw';obtain ⟨⟨dq,osq⟩,hw''⟩:=hw';subst hw'';have hb1:=below_re10 hB.out dq osq;go_wp2;go_ret;exact ⟨rfl,hb1⟩
end Go.Proofs.YtiogedceommcoaaGreatDoor
namespace Go.Proofs.YtiogedceommcoaaGreatDoor
open Go.RowKit Go.Sort Sc
theorem ev_ok_small {v:Ev} (h:evB v=true):SmallE 4096 v:=by
 obtain ⟨h1,h2,h3⟩:=ev_facts h;refine ⟨by have:=(tok_facts h1).2.1; omega,by omega,?_⟩
 intro p hp
 have:∀ (ps b:List Par),mayGo b ps=true → ∀ p ∈ ps,p.name.length≤4096∧p.value.length≤4096:=by
  intro ps
  induction ps with
  | nil=>intro b _ p hp; simp at hp
  | cons q ps ih =>
   intro b h p hp;rw [mayGo,Bool.and_eq_true] at h
   rcases List.mem_cons.1 hp with rfl | hp
   ·obtain ⟨m1,_,m3,_,_⟩:=may_facts h.1;obtain ⟨_,t2,_⟩:=tok_facts m1;omega
   ·exact ih _ h.2 p hp
 exact this _ _ h3 p hp
theorem event_small {s:List UInt8} {v:Ev} (h:eventV s=(v,0)):SmallE 4096 v:=ev_ok_small (event_checked h)
end Go.Proofs.YtiogedceommcoaaGreatDoor
namespace Go.Proofs.YtiogedceommcoaaGreatDoor
open Go.RowKit Sc
theorem alistG_small:∀ (qs:List (List UInt8)) (out:List Adr),(∀ a ∈ out,SmallA 140737488355328 a) → (∀ a ∈ (listG out qs).1,SmallA 140737488355328 a)∧(listG out qs).1.length≤out.length+qs.length
 | [],out,h=>⟨h,by simp [listG]⟩
 | q :: qs,out,h=>by
  rw [listG]
  split
  ·exact ⟨fun a ha=>by simp at ha,by simp⟩
  ·have:=alistG_small qs (out++[(parseA q).1]) (fun a ha=>by
    rcases List.mem_append.1 ha with ha | ha
    ·exact h a ha
    ·simp at ha; subst ha; exact rsmall_parsed q)
   refine ⟨this.1,?_⟩
   have h2:=this.2
   simp at h2 ⊢; omega
theorem alist_small (s:List UInt8):(∀ a ∈ (listA s).1,SmallA 140737488355328 a)∧(listA s).1.length≤16:=by
 unfold listA
 split
 ·exact ⟨fun a ha=>by simp at ha,by simp⟩
 ·have:=alistG_small (partsV 44 s) [] (fun a ha=>by simp at ha)
  refine ⟨this.1,?_⟩
  have h2:=this.2
  simp at h2; omega
theorem small_noR:SmallR noR:=⟨by simp [noR,noU],by simp [noR,noU],smallA_none,smallA_none,by simp [noR,noE],by simp [noR],fun a ha=>by simp [noR] at ha,by simp [noR],by simp [noR]⟩
theorem small_base (m:Ms):SmallR (baseV m).1:=by
 by_cases h:(baseV m).2=0
 ·rw [(base_ok h).1];exact ⟨by simp [baseR,noU],by simp [baseR,noU],adr_small,adr_small,by simp [baseR,noE],by simp [baseR],fun a ha=>by simp [baseR] at ha,by simp [baseR],by simp [baseR]⟩
 ·have:(baseV m).1=noR:=by
   unfold baseV at h ⊢
   repeat' split
   all_goals first | rfl | skip
   all_goals simp_all
  rw [this]; exact small_noR
structure SmallF (r:Rq):Prop where
 f:SmallA 140737488355328 r.frm
 o:SmallA 140737488355328 r.too
 e:r.event.params.length≤140737488355328
 c1:r.contact.length≤1048576
 c2:∀ a ∈ r.contact,SmallA 140737488355328 a
theorem sf_exp {m:Ms} {r:Rq} (h:SmallF r):SmallF (fExpV m r).1:=by unfold fExpV; split <;> exact ⟨h.f,h.o,h.e,h.c1,h.c2⟩
theorem sf_typ {m:Ms} {r:Rq} (h:SmallF r):SmallF (fTypV m r).1:=by unfold fTypV; split <;> exact ⟨h.f,h.o,h.e,h.c1,h.c2⟩
theorem sf_mat {m:Ms} {r:Rq} (h:SmallF r):SmallF (fMatV m r).1:=by unfold fMatV; split <;> exact ⟨h.f,h.o,h.e,h.c1,h.c2⟩
theorem sf_con {m:Ms} {r:Rq} (h:SmallF r):SmallF (fConV m r).1:=by
 unfold fConV
 split
 ·exact h
 ·rename_i s _
  have:=alist_small s
  exact ⟨h.f,h.o,h.e,by simp only; omega,this.1⟩
 ·exact h
theorem sf_evt {m:Ms} {r:Rq} (h:SmallF r) (he:(fEvtV m r).2=0):SmallF (fEvtV m r).1:=by
 unfold fEvtV at he ⊢
 split at he
 ·exact h
 ·rename_i s _
  simp only at he
  have:=event_small (s:=s) (v:=(eventV s).1) (by rw [← he])
  have h2:=this.2.1;exact ⟨h.f,h.o,by simp only; omega,h.c1,h.c2⟩
 ·exact h
theorem sf_fields {m:Ms} {r:Rq} (h:SmallF r) (he:(fieldsR m r).2=0):SmallF (fieldsR m r).1:=by
 unfold fieldsR at he ⊢;obtain ⟨h4,e5⟩:=thenV_ok he;obtain ⟨h3,e4⟩:=thenV_ok h4;obtain ⟨h2,e3⟩:=thenV_ok h3;obtain ⟨h1,e2⟩:=thenV_ok h2;rw [e5,e4,e3,e2];rw [e2] at h2;exact sf_mat (sf_typ (sf_con (sf_evt (sf_exp h) h2)))
theorem small_read (m:Ms) (hp1:(piecesV m routeK).length≤1048576) (hp2:(piecesV m acceptK).length≤1048576):SmallR (rreadV m).1:=by
 have hb:=small_base m;unfold rreadV
 split
 ·exact small_noR
 ·split
  ·exact small_noR
  ·split
   ·exact small_noR
   ·split
    ·exact small_noR
    ·split
     ·exact small_noR
     ·split
      ·exact small_noR
      ·rename_i a1 a2 a3 a4 a5 a6
       have e4:(fieldsR m (baseV m).1).2=0:=Classical.byContradiction a4;have e2:(parseV m.target).2=0:=Classical.byContradiction a2;have sf:=sf_fields (m:=m) (r:=(baseV m).1) ⟨hb.f,hb.o,hb.e,hb.c1,hb.c2⟩ e4;have su:=smallU_ok (parse_checked (s:=m.target) (u:=(parseV m.target).1) (by rw [← e2]));exact ⟨su.2.2.2.1.1,su.2.2.2.2.1,sf.f,sf.o,sf.e,sf.c1,sf.c2,by simp only; omega,by simp only; omega⟩
def putX (m:Ms) (k:Nat) (vl:List UInt8):Ms:={ m with headers:=m.headers.take k++[⟨otherK,vl⟩]++m.headers.drop k }
structure OrdIn (w:World) (m m':Ms) (h h':Value) (b:Nat) (wr:World):Prop where
 bm:BoxM wr w.heap.size m h
 bn:BoxM wr b m' h'
 hn:HdrsAt wr h' m'.headers
 bw:Below w.heap.size w wr
 l1:w.heap.size < wr.heap.size
 l2:b < wr.heap.size
theorem OrdIn.below {w wr w':World} {m m':Ms} {h h':Value} {b:Nat} (H:OrdIn w m m' h h' b wr) (hb:Below wr.heap.size wr w'):OrdIn w m m' h h' b w' :=
 ⟨H.bm.below hb H.l1,H.bn.below hb H.l2,H.hn.below hb,H.bw.trans (hb.mono H.bw.size),Nat.lt_of_lt_of_le H.l1 hb.size,Nat.lt_of_lt_of_le H.l2 hb.size⟩
theorem box_row {w:World} {b:Nat} {me ta re bo:List UInt8} {st:Int} {hs:List Hdr} {v:Value} (h:RowIs w b 24 [.string ⟨me.toArray⟩,.string ⟨ta.toArray⟩,.int .i64 st,.string ⟨re.toArray⟩,v,.string ⟨bo.toArray⟩]):BoxM w b ⟨me,ta,st,re,hs,bo⟩ v :=
 ⟨h.cell 0 (by simp),h.cell 1 (by simp),h.cell 2 (by simp),h.cell 3 (by simp),h.cell 4 (by simp),h.cell 5 (by simp)⟩
end Go.Proofs.YtiogedceommcoaaGreatDoor
