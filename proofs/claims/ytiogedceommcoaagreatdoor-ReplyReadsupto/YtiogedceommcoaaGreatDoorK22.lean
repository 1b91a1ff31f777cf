/-
  AWords, ACuts, AAny2, AAny3, AAny4, APlain.
-/
import Derived.Test.YtiogedceommcoaaGreatDoorK21
set_option linter.unusedVariables false
set_option linter.unusedSimpArgs false
set_option maxRecDepth 20000
namespace Go.Proofs.YtiogedceommcoaaGreatDoor
open Go.RowKit Sc
theorem strCells_is (l:List UInt8):Lib.strCells ⟨l.toArray⟩=Lib.byteCells l:=by
 simp [Lib.strCells,Lib.byteCells]
theorem RowIs.only {w w':World} {b c:Nat} {e:TypeId} {l:List Value} (h:RowIs w c e l) (ho:Only b w w') (hne:c ≠ b):RowIs w' c e l:=by
 unfold RowIs at *; rw [ho.other c hne]; exact h
theorem ret_words {s x:List UInt8} {b:Bool} (h:wordsR s=(x,b)):Ending.returned (.tuple #[.string ⟨x.toArray⟩,.bool b])=.returned (.tuple #[.string ⟨(wordsR s).1.toArray⟩,.bool (wordsR s).2]):=by rw [h]
theorem wp_appS {P:Program} (w:World) {ops:Array Oper} {rest:List Oper} {o:Oper} {a:Act} {Q:Exit → Act → World → Prop} (hgd:o.guard=none)
  (sl x:Operand) (t u:TypeId) (ho:o.op=Op.call { callee:=Callee.builtin Builtin.append,args:=#[sl,x],argTypes:=#[t,u] }) (B:Nat) (e:TypeId) (i:TypeInfo)
  (ht:P.underlying t=some (TypeDesc.slice e)) (hu:P.underlying u=some .string) (hi:P.info? e=some i) (hz:i.zero=some (.int .u8 0)) (hsize:i.size=1) (hby:i.bytes=1)
  (v:Value) (l:List UInt8) (hs:a.eval sl=v) (hown:Own w B e v (Lib.byteCells l)) (r:List UInt8) (hx:a.eval x=.string ⟨r.toArray⟩) (hlen:l.length+r.length≤140737488355328) (hB:B≤w.heap.size)
  (h:∀ (v':Value) (w':World),Own w' B e v' (Lib.byteCells (l++r)) → Below B w w' → B≤w'.heap.size → wpList P ops Q rest (a.put o.dst v') w'):wpList P ops Q (o :: rest) a w:=by
 have e1:(Lib.byteCells l).length=l.length:=Lib.byteCells_length l;have e2:(⟨r.toArray⟩:ByteArray).size=r.length:=size_list r;refine Lib.wpList_append_own_string w hgd sl x t u ho B e i ht hu hi hz hsize hby v (Lib.byteCells l).length (Lib.byteCells l) hs hown ⟨r.toArray⟩ hx (by rw [e1,e2]; unfold maxLen; omega) (by rw [e1,e2]; exact hlen) hB ?_
 intro v' w' hown' hgr _;refine h v' w' ?_ ((Below.refl B w).grown hgr hB (fun k hk=>(World.ownsRow.lt hown k hk).1)) (Nat.le_trans hB hgr.size)
 unfold Own;have e3:Lib.byteCells (l++r)=Lib.byteCells l++Lib.strCells ⟨r.toArray⟩:=by rw [strCells_is]; simp [Lib.byteCells]
 rw [e3,List.length_append];have e4:(Lib.strCells ⟨r.toArray⟩).length=(⟨r.toArray⟩:ByteArray).size:=by rw [strCells_is,Lib.byteCells_length,e2]
 rw [e4];exact hown'
theorem one_ext {s:ByteArray} {i j:Nat}:s.extract i j=⟨((s.data.toList.drop i).take (j - i)).toArray⟩:=ext_list s i j
set_option maxHeartbeats 1000000 in
set_option maxRecDepth 100000 in
theorem words_any (s:ByteArray) (w:World) (hs:s.size≤1048576) :
  Calls Tryz.prog 202 #[.string s] w fun e w'=>e=.returned (.tuple #[.string ⟨(wordsR s.data.toList).1.toArray⟩,.bool (wordsR s.data.toList).2])∧Below w.heap.size w w':=by
 obtain ⟨i0,hi,hz0,hz1,hz2⟩:=info_parts info5;have hl:=len_data s;have hmf:∀ (fn:Fn) (first cap:Array Value) (w:World),(Instr.makeFunc fn first cap).run Tryz.prog w=.ok (.func fn first cap) w:=fun _ _ _ _=>rfl
 go_enter Tryz.func202,Tryz.ntmps202
 go_wp2
 go_step3
 go_wp2
 go_step3
 go_wp2;have hr0:RowIs ((w.alloc (.cells #[.string s] 9)).alloc (.cells #[.int .i64 0] 3)) w.heap.size 9 [.string s] :=
  RowIs.below (w:=w.alloc (.cells #[.string s] 9)) (by unfold RowIs; rw [heap_alloc_new]) ((Below.refl _ _).alloc (Nat.le_refl _) _) (by simp)
 have hr1:RowIs ((w.alloc (.cells #[.string s] 9)).alloc (.cells #[.int .i64 0] 3)) (w.heap.size+1) 3 [.int .i64 ((0:Nat):Int)]:=by
  have:=heap_alloc_new (w.alloc (.cells #[.string s] 9)) (.cells #[.int .i64 0] 3)
  unfold RowIs
  simpa using this
 have hb0:Below w.heap.size w ((w.alloc (.cells #[.string s] 9)).alloc (.cells #[.int .i64 0] 3)):=((Below.refl _ w).alloc (Nat.le_refl _) _).alloc (by simp) _;have hz:w.heap.size+2≤((w.alloc (.cells #[.string s] 9)).alloc (.cells #[.int .i64 0] 3)).heap.size:=by simp
 have HR0:=hid hr0;have HR1:=hid hr1;clear hr0 hr1;generalize World.alloc (World.alloc w _) _=W at HR0 HR1 hb0 hz ⊢
 go_loopg [6,7] s.size (fun g x _ wx=>∃ (k:Nat) (ws:List (List UInt8)),Hid (k+g=s.size)∧k≤s.size∧Hid (RowIs wx w.heap.size 9 [.string s])∧Hid (RowIs wx (w.heap.size+1) 3 [.int .i64 (k:Int)])∧Hid (Own wx (w.heap.size+2) 5 x (Lib.byteCells (joinB ws)))∧Hid (wordsG [] s.data.toList=ws++wordsG [] (s.data.toList.drop k))∧Hid (∀ t ∈ ws,t ≠ [])∧Hid (s.data.toList.all okD=(s.data.toList.drop k).all okD)∧Hid ((joinB ws).length≤2 * k)∧Below w.heap.size w wx∧w.heap.size+2≤wx.heap.size)
 case atStart=>exact ⟨0,[],hid (by omega),by omega,HR0,HR1,Own.nil _ _ _,hid (by simp),hid (by simp),hid (by simp),hid (by simp [joinB]),hb0,hz⟩
 case round =>
  clear HR0 HR1 hb0 hz;obtain ⟨k,ws,hkg,hk,hr0,hr1,hown,hwd,hne,hall,hlen,hb,hz⟩:=hrel;have KN:=hid (next_any w.heap.size (w.heap.size+1) s k wr (by omega) hk (by omega) hr0.out hr1.out);go_wp2_with fail
  refine KN.out.mono ?_
  rintro e w1 ⟨i,j,hnx,rfl,hrow1,hon⟩;rw [one_ext];have HR1:=hid hrow1;have HR0:=hid (hr0.out.only hon (by omega));have HO:=hid (hown.out.only hon (by omega));have hb1:Below w.heap.size w w1:=hb.trans (hon.below.mono (by omega));have hz1':w.heap.size+2≤w1.heap.size:=by rw [hon.size]; exact hz
  have h1:=hid (@words_next s.data.toList k i j hnx);have h2:=hid (@words_none s.data.toList k i j hnx);have h3:=hid (all_next hnx);have h4:=hid hnx.skip;have hji:i≤j:=hnx.le2;have hjk:k≤i:=hnx.le1;have hjl:j≤s.size:=by have:=hnx.le3; omega
  have hol:((s.data.toList.drop i).take (j - i)).length=j - i:=by rw [List.length_take,List.length_drop]; omega
  clear hnx hrow1 hon hown hr0 hr1 hb hz KN;generalize (s.data.toList.drop i).take (j - i)=one at h1 h2 h3 hol ⊢
  cases hie:one.isEmpty with
  | true =>
   have hoe:one=[]:=by simpa using hie
   have hfin:Hid (wordsR s.data.toList=(joinB ws,decide (((joinB ws).length:Int)≤64))):=show _=_ by
    have e0:=h2.out hoe;have e1:wordsG [] (s.data.toList.drop k)=[]:=by rw [words_skip,h4.out,e0]; rfl
    have e2:(s.data.toList.drop k).all okD=true:=by rw [all_skip,h4.out,e0]; rfl
    have e3:decide (((joinB ws).length:Int)≤64)=decide ((joinB ws).length≤64):=by congr 1; apply propext; omega
    rw [wordsR,hall.out,e2,if_pos rfl,hwd.out,e1,List.append_nil,e3]
   subst hoe;have hcv:=conv_own (P:=Tryz.prog) (joinB ws) Tryz.underlying143 Tryz.underlying5 Tryz.underlying9 HO.out;obtain ⟨oa,oc,ho⟩:=HO.out.form;have hlo:(Lib.byteCells (joinB ws)).length=(joinB ws).length:=Lib.byteCells_length _;have hl2:=hlen.out;rw [hlo] at ho;subst ho;clear HO h1 h2 h3 h4 hwd hall hne hlo hlen hol;generalize joinB ws=jw at hfin hcv hl2 ⊢;go_wp2;rw [Exit.noGoto_ret];go_ret2;exact ⟨ret_words hfin.out,hb1⟩
  | false =>
   have hoe:one ≠ []:=by intro h; rw [h] at hie; cases hie
   have hj1:1≤j - i:=by rw [← hol]; cases one with | nil=>exact absurd rfl hoe | cons a b=>simp
   have KA:=hid (fun w'=>all_l one 8 w' (by omega));have hnw:=h1.out hoe
   cases hab:allB 8 one with
   | false =>
    have hfin:Hid (wordsR s.data.toList=([],false)):=show _=_ by
     have e2:s.data.toList.all okD=false:=by rw [hall.out,h3.out,hab]; rfl
     rw [wordsR,e2]; rfl
    rw [hab] at KA;clear h1 h2 h3 h4 hwd hall hne hlen hnw HO hoe hab;go_wp2_with fail
    refine (KA.out _).mono ?_
    rintro e w2 ⟨rfl,rfl⟩;go_wp2;rw [Exit.noGoto_ret];go_ret2;exact ⟨ret_words (x:=[]) hfin.out,hb1⟩
   | true =>
    have hall2:Hid (s.data.toList.all okD=(s.data.toList.drop j).all okD):=show _=_ by rw [hall.out,h3.out,hab]; rfl
    have hwd2:Hid (wordsG [] s.data.toList=(ws++[one])++wordsG [] (s.data.toList.drop j)):=show _=_ by rw [hwd.out,hnw]; simp
    have hne2:Hid (∀ t ∈ ws++[one],t ≠ []):=fun t ht=>by
     rcases List.mem_append.1 ht with h | h
     ·exact hne.out t h
     ·rw [List.mem_singleton.1 h]; exact hoe
    have hjs:Hid ((joinB ws).length=0 → joinB (ws++[one])=joinB ws++one):=fun h=>by
     have e0:joinB ws=[]:=List.eq_nil_of_length_eq_zero h;have e1:ws=[]:=Classical.byContradiction fun hw=>join_ne ws hne.out hw e0;rw [join_snoc,if_pos e1,e0]; rfl
    have hjn:Hid (0 < (joinB ws).length → joinB (ws++[one])=(joinB ws++[32])++one):=fun h=>by
     have e1:ws ≠ []:=fun hw=>by rw [hw] at h; simp [joinB] at h
     rw [join_snoc,if_neg e1]
    rw [hab] at KA;obtain ⟨oa,oc,ho⟩:=HO.out.form;have hlo:(Lib.byteCells (joinB ws)).length=(joinB ws).length:=Lib.byteCells_length _;have hl2:=hlen.out;rw [hlo] at ho;subst ho;clear h1 h2 h3 h4 hwd hall hne hlen hnw hab hlo hoe;have hgk:Hid (s.size - j < gk):=show _ < _ by have:=hkg.out; omega
    have hkj:Hid (j+(s.size - j)=s.size):=show _=_ by omega
    generalize joinB ws=jw at HO hl2 hjs hjn ⊢;have hbl:Hid ((Lib.byteCells jw).length=jw.length):=Lib.byteCells_length jw;by_cases hpos:0 < jw.length
    ·have hposI:(0:Int) < (jw.length:Int):=by omega
     have hnew:=hid (hjn.out hpos);clear hjs hjn;have hbc:Hid (Lib.byteCells jw++Lib.byteCells [32]=Lib.byteCells (jw++[32])):=show _=_ by simp [Lib.byteCells]
     have hl3:Hid ((jw++[32]).length+one.length≤140737488355328):=show _≤_ by simp; omega
     go_wp2_with (first | (go_at_call 98; refine (KA.out _).mono ?_; rintro e w2 ⟨rfl,rfl⟩) | (at_builtin; refine wp_appS _ rfl (.tmp 25) (.tmp 26) 143 9 rfl (w.heap.size+2) 5 i0 Tryz.underlying143 Tryz.underlying9 hi hz0 hz1 hz2 _ (jw++[32]) rfl hown2 one rfl hl3.out hB2 ?_; intro v3 w3 hown3 hb3 hB3) | (at_builtin; refine wp_app _ rfl (.tmp 22) (.tmp 23) 143 rfl (w.heap.size+2) 5 i0 (.int .u8 0) 1 Tryz.underlying143 hi hz0 hz1 hz2 rfl _ _ rfl (HO.out.alloc _) ⟨_,0,none⟩ 1 1 (Lib.byteCells [32]) rfl rfl (by exact one_new _ _ _) (byteCells_one _) (by rw [hbl.out]; unfold maxLen; omega) (by rw [hbl.out]; omega) _ ((Below.refl _ _).alloc hz1' _) (by simp; omega) ?_; intro v2 w4 hown2 hb2 hB2; rw [hbc.out] at hown2))
     rw [← hnew.out] at hown3;have hO3:=hid hown3;have hR0:=hid ((HR0.out.below hb2 (by omega)).below hb3 (by omega));have hR1:=hid ((HR1.out.below hb2 (by omega)).below hb3 (by omega));have hb4:=(hb1.trans (hb2.mono (by omega))).trans (hb3.mono (by omega));have hln:Hid ((joinB (ws++[one])).length≤2 * j):=show _≤_ by rw [hnew.out,List.length_append,List.length_append]; simp; omega
     clear hown3;go_wp2
     go_roundg (s.size - j)
     case measure=>exact hgk.out
     case rel=>exact ⟨j,ws++[one],hkj,hjl,hR0,hR1,hO3,hwd2,hne2,hall2,hln,hb4,hB3⟩
    ·have hposI:¬ ((0:Int) < (jw.length:Int)):=by omega
     have hnew:=hid (hjs.out (by omega));clear hjs hjn;go_wp2_with (first | (go_at_call 98; refine (KA.out _).mono ?_; rintro e w2 ⟨rfl,rfl⟩) | (at_builtin; refine wp_appS _ rfl (.tmp 25) (.tmp 26) 143 9 rfl (w.heap.size+2) 5 i0 Tryz.underlying143 Tryz.underlying9 hi hz0 hz1 hz2 _ jw rfl HO.out one rfl (by omega) hz1' ?_; intro v3 w3 hown3 hb3 hB3))
     rw [← hnew.out] at hown3;have hO3:=hid hown3;have hR0:=hid (HR0.out.below hb3 (by omega));have hR1:=hid (HR1.out.below hb3 (by omega));have hb4:=hb1.trans (hb3.mono (by omega));have hln:Hid ((joinB (ws++[one])).length≤2 * j):=show _≤_ by rw [hnew.out,List.length_append]; omega
     clear hown3;go_wp2
     go_roundg (s.size - j)
     case measure=>exact hgk.out
     case rel=>exact ⟨j,ws++[one],hkj,hjl,hR0,hR1,hO3,hwd2,hne2,hall2,hln,hb4,hB3⟩
def nameR (l:List UInt8):List UInt8 × Bool:=if quoB l=true then ((unquoteV l).1,(unquoteV l).2==0 && decide (((unquoteV l).1.length:Int)≤64)) else wordsR l
theorem words_list (l:List UInt8) (w:World) (hs:l.length≤1048576) :
  Calls Tryz.prog 202 #[.string ⟨l.toArray⟩] w fun e w'=>e=.returned (.tuple #[.string ⟨(wordsR l).1.toArray⟩,.bool (wordsR l).2])∧Below w.heap.size w w':=words_any ⟨l.toArray⟩ w (by rw [size_list]; exact hs)
theorem ret_name {s x:List UInt8} {b:Bool} (h:nameR s=(x,b)):Ending.returned (.tuple #[.string ⟨x.toArray⟩,.bool b])=.returned (.tuple #[.string ⟨(nameR s).1.toArray⟩,.bool (nameR s).2]):=by rw [h]
set_option maxHeartbeats 400000 in
theorem name_any (l:List UInt8) (w:World) (hl:l.length≤1048576) :
  Calls Tryz.prog 182 #[.string ⟨l.toArray⟩] w fun e w'=>e=.returned (.tuple #[.string ⟨(nameR l).1.toArray⟩,.bool (nameR l).2])∧Below w.heap.size w w':=by
 have KP:=hid (fun w'=>strPrefix_l l w');have hv:nameR l=if quoB l=true then ((unquoteV l).1,(unquoteV l).2==0 && decide (((unquoteV l).1.length:Int)≤64)) else wordsR l:=rfl
 cases hq:quoB l with
 | true =>
  rw [hq] at KP hv;rw [if_pos rfl] at hv;have KU:=hid (fun w'=>unquote_list l w' (by omega));generalize unquoteV l=u at KU hv;obtain ⟨ut,un⟩:=u;simp only at KU hv;have HV:=hid hv;clear hv hq;have z:=size_list ut
  go_enter Tryz.func182,Tryz.ntmps182
  go_wp2_with fail
  refine (KP.out _).mono ?_
  rintro e w1 ⟨rfl,rfl⟩;go_wp2_with fail
  refine (KU.out _).mono ?_
  rintro e w2 ⟨rfl,hw2⟩;by_cases hun:un=0
  ·subst hun;go_wp2;go_ret2;exact ⟨ret_name (by rw [HV.out]; rfl),hw2⟩
  ·have hne:(un==0)=false:=by simpa using hun
   go_wp2;go_ret2;exact ⟨ret_name (by rw [HV.out,hne]; rfl),hw2⟩
 | false =>
  rw [hq] at KP hv;rw [if_neg (by simp)] at hv;have KW:=hid (fun w'=>words_list l w' hl);generalize wordsR l=u at KW hv;obtain ⟨ut,ub⟩:=u;have HV:=hid hv;clear hv hq
  go_enter Tryz.func182,Tryz.ntmps182
  go_wp2_with fail
  refine (KP.out _).mono ?_
  rintro e w1 ⟨rfl,rfl⟩;go_wp2_with fail
  refine (KW.out _).mono ?_
  rintro e w2 ⟨rfl,hw2⟩;go_wp2;go_ret2;exact ⟨ret_name HV.out,hw2⟩
structure Pcs where
 d:List UInt8
 u:List UInt8
 r:List UInt8
def pcsV (p:Pcs):Value:=.agg #[.string ⟨p.d.toArray⟩,.string ⟨p.u.toArray⟩,.string ⟨p.r.toArray⟩]
def angR (a b:List UInt8):Pcs × Bool:=if (nameR (trimL a)).2=true then (⟨(nameR (trimL a)).1,(cutL 62 b).1,(cutL 62 b).2.1⟩,(cutL 62 b).2.2) else (⟨[],[],[]⟩,false)
theorem ret_pcs {p:Pcs × Bool} {d u r:List UInt8} {b:Bool} (h:p=(⟨d,u,r⟩,b)):Ending.returned (.tuple #[.agg #[.string ⟨d.toArray⟩,.string ⟨u.toArray⟩,.string ⟨r.toArray⟩],.bool b])=.returned (.tuple #[pcsV p.1,.bool p.2]):=by rw [h]; rfl
set_option maxHeartbeats 1000000 in
set_option maxRecDepth 100000 in
theorem cutAngled_any (a b:List UInt8) (w:World) (ha:a.length≤1048576) (hb:b.length≤1048576) :
  Calls Tryz.prog 156 #[.string ⟨a.toArray⟩,.string ⟨b.toArray⟩] w fun e w'=>e=.returned (.tuple #[pcsV (angR a b).1,.bool (angR a b).2])∧Below w.heap.size w w':=by
 have hta:=trimL_len a;have KT:=hid (fun w'=>trim_list a w' (by omega));have KN:=hid (fun w'=>name_any (trimL a) w' (by omega));obtain ⟨ca,cb,cc,hcut⟩:∃ ca cb cc,cutL 62 b=(ca,cb,cc):=⟨_,_,_,rfl⟩
 have KC:=hid (fun w'=>strCut_of hcut w' (by omega));have hv:angR a b=if (nameR (trimL a)).2=true then (⟨(nameR (trimL a)).1,ca,cb⟩,cc) else (⟨[],[],[]⟩,false):=by rw [angR,hcut]
 clear hcut;generalize angR a b=R at hv ⊢;generalize trimL a=ta at KT KN hv;generalize nameR ta=nr at KN hv;obtain ⟨nd,nb⟩:=nr;simp only at KN hv;have hr0:=row3_any w (.string ⟨#[]⟩) (.string ⟨#[]⟩) (.string ⟨#[]⟩) 148;have hb0:Below w.heap.size w (w.alloc (.cells #[.string ⟨#[]⟩,.string ⟨#[]⟩,.string ⟨#[]⟩] 148)):=(Below.refl _ w).alloc (Nat.le_refl _) _;have hlt0:=alloc_lt w (.cells #[.string ⟨#[]⟩,.string ⟨#[]⟩,.string ⟨#[]⟩] 148)
 go_enter Tryz.func156,Tryz.ntmps156
 go_wp2_with fail
 refine (KT.out _).mono ?_
 rintro e w1 ⟨rfl,hw1⟩;have hr1:=hr0.below hw1 hlt0;have hb1:=hb0.trans (hw1.mono hb0.size);have hlt1:=Nat.lt_of_lt_of_le hlt0 hw1.size;clear hr0 hb0 hlt0 hw1 KT;go_wp2_with fail
 refine (KN.out _).mono ?_
 rintro e w2 ⟨rfl,hw2⟩;have hr2:=hr1.below hw2 hlt1;have hb2:=hb1.trans (hw2.mono hb1.size);have hlt2:=Nat.lt_of_lt_of_le hlt1 hw2.size;clear hr1 hb1 hlt1 hw2 KN
 cases nb with
 | false =>
  have HV:Hid (R=(⟨[],[],[]⟩,false)):=show _=_ by rw [hv]; rfl
  clear hv;obtain ⟨y0,y1,y2,f0,f1,f2⟩:=hr2.three;go_wp2;have hr7:=row_store3 hr2 (.string ⟨#[]⟩) (.string ⟨#[]⟩) (.string ⟨#[]⟩);have hb7:=store_below3 hb2 w.heap.size (Nat.le_refl _) (.string ⟨#[]⟩) (.string ⟨#[]⟩) (.string ⟨#[]⟩);generalize World.setCell _ _ _=w7 at hr7 hb7 ⊢;obtain ⟨d0,d1,d2,_,_,_⟩:=hr7.three
  try simp only [Exit.inBlock,Exit.then]
  refine bodyPost_ret (v:=.tuple #[.agg #[.string ⟨#[]⟩,.string ⟨#[]⟩,.string ⟨#[]⟩],.bool false]) (by simp [results,Tryz.results156,go_sem,d0,d1,d2]; try rfl) rfl ?_
  exact ⟨ret_pcs (d:=[]) (u:=[]) (r:=[]) HV.out,hb7⟩
 | true =>
  have HV:Hid (R=(⟨nd,ca,cb⟩,cc)):=show _=_ by rw [hv]; rfl
  clear hv;go_wp2_with fail
  refine (KC.out _).mono ?_
  rintro e w3 ⟨rfl,hw3⟩;have hr3:=hr2.below hw3 hlt2;have hb3:=hb2.trans (hw3.mono hb2.size);clear hr2 hb2 hlt2 hw3 KC;obtain ⟨y0,y1,y2,f0,f1,f2⟩:=hr3.three;go_wp2;have hr7:=row_store3 hr3 (.string ⟨nd.toArray⟩) (.string ⟨ca.toArray⟩) (.string ⟨cb.toArray⟩);have hb7:=store_below3 hb3 w.heap.size (Nat.le_refl _) (.string ⟨nd.toArray⟩) (.string ⟨ca.toArray⟩) (.string ⟨cb.toArray⟩);generalize World.setCell _ _ _=w7 at hr7 hb7 ⊢;obtain ⟨d0,d1,d2,_,_,_⟩:=hr7.three
  try simp only [Exit.inBlock,Exit.then]
  refine bodyPost_ret (v:=.tuple #[.agg #[.string ⟨nd.toArray⟩,.string ⟨ca.toArray⟩,.string ⟨cb.toArray⟩],.bool cc]) (by simp [results,Tryz.results156,go_sem,d0,d1,d2]; try rfl) rfl ?_
  exact ⟨ret_pcs HV.out,hb7⟩
def anyL:List UInt8:=[63,44,34]
theorem any_high {b:UInt8} (h:128≤b.toNat):anyL.contains b=false:=by
 have:∀ b:UInt8,128≤b.toNat → anyL.contains b=false:=by apply byte_all; decide +kernel
 exact this b h
theorem noAny_rune {s:ByteArray} {pos:Nat} (h:pos < s.size) (ha:128≤(s[pos]'h).toNat) (hno:Lib.NoAny s.data.toList anyL pos):Lib.NoAny s.data.toList anyL (pos+(Utf8.decode s pos).2):=by
 obtain ⟨h1,h2,h3⟩:=decode_wide s pos h;intro j b hj hb;by_cases hlt:j < pos
 ·exact hno j b hlt hb
 ·by_cases he:j=pos
  ·subst he
   have:=getL s j h
   rw [this] at hb
   cases hb
   exact any_high ha
  ·obtain ⟨hk,hk2⟩:=h3 (j - pos) (by omega) (by omega);have e:pos+(j - pos)=j:=by omega
   have:=getL s j (by omega)
   rw [this] at hb
   cases hb
   simp only [e] at hk2;exact any_high hk2
theorem any_index:∀ b:UInt8,128≤b.toNat → Lib.indexByte [63,44,34] b=-1∧Lib.indexByte [44,34] b=-1∧Lib.indexByte [34] b=-1∧Lib.indexByte [] b=-1:=by apply byte_all; decide +kernel
set_option maxHeartbeats 1000000 in
theorem indexRune_low (x:UInt8) (w:World) (h:x.toNat < 128) :
  Calls Tryz.prog 187 #[.string ⟨#[63,44,34]⟩,.int .i32 x.toNat] w fun e w'=>e=.returned (.int .i64 (Lib.indexByte [63,44,34] x))∧w'=w:=by
 have h0:(0:Int)≤(x.toNat:Int):=by omega
 have h1:(x.toNat:Int) < 128:=by omega
 have hc:IntKind.u8.wrap (x.toNat:Int)=(x.toNat:Int):=by
  simp [IntKind.wrap,IntKind.signed,IntKind.bits]; omega
 have K:=hid (fun w'=>strIndexByte_any ⟨#[63,44,34]⟩ x w')
 go_enter Tryz.func187,Tryz.ntmps187
 go_wp2_with fail
 refine (K.out _).mono ?_
 rintro e w1 ⟨rfl,rfl⟩;go_wp2;go_ret;exact ⟨rfl,rfl⟩
theorem any_ascii:∀ (j:Nat) (b:UInt8),(⟨#[63,44,34]⟩:ByteArray).data.toList[j]? = some b → b.toNat < 128:=by
 intro j b h
 have:b ∈ [63,44,34]:=List.mem_of_getElem? h
 simp at this
 rcases this with rfl | rfl | rfl <;> decide
set_option maxHeartbeats 1000000 in
set_option maxRecDepth 100000 in
theorem indexAny_long (s:ByteArray) (w:World) (h8:8 < s.size) (hs:s.size < 4294967281) :
  Calls Tryz.prog 160 #[.string s,.string ⟨#[63,44,34]⟩] w fun e w'=>e=.returned (.int .i64 (Lib.indexAny s.data.toList anyL))∧Below w.heap.size w w':=by
 have KM:=hid (makeSet_any ⟨#[63,44,34]⟩ w (by decide) any_ascii);have h8z:decide ((8:Int) < (s.size:Int))=true:=decide_eq_true (by omega);have hsz:=Lib.setCells_size [63,44,34];have hi2:=hid (show (Tryz.prog.info? 204).map (·.size)=some (Lib.setCells [63,44,34]).size by rw [hsz]; exact (zero_of_info infoSet).2);have hzv:=(zero_of_info infoSet).1;have hcellAt:∀ x:UInt8,((w.alloc (.cells (Lib.setCells [63,44,34]) 204)).alloc (.cells (Lib.setCells [63,44,34]) 204)).cell? ⟨w.heap.size+1,x.toNat,none⟩=some (.bool (anyL.contains x)):=fun x=>by
  rw [World.cell?_alloc_at _ _ _ _ (by simp),Lib.setCells_at]; rfl
 have HC:=hid hcellAt;have hb2:Below w.heap.size w ((w.alloc (.cells (Lib.setCells [63,44,34]) 204)).alloc (.cells (Lib.setCells [63,44,34]) 204)):=((Below.refl _ _).alloc (Nat.le_refl _) _).alloc (by simp) _;have hrep:Hid ((Array.replicate 256 (Value.bool false)).size=(Lib.setCells [63,44,34]).size):=show _=_ by rw [hsz,Array.size_replicate]
 have HA1:Hid ((w.alloc (.cells (Lib.setCells [63,44,34]) 204)).heap.size=w.heap.size+1):=show _=_ by simp
 clear hcellAt hsz;have K8:=hid (useSet_any (s.size:Int));rw [h8z] at K8
 go_enter Tryz.func160,Tryz.ntmps160
 go_wp2_with (first
  | (go_at_call 188; refine (K8.out _).mono ?_; rintro e w' ⟨rfl,hw⟩; rw [hw])
  | (go_at_call 189; refine KM.out.mono ?_; rintro e w' ⟨rfl,hw⟩; rw [hw])
  | (refine wp_store_new rfl (.tmp 6) (.tmp 30) 204 rfl rfl (Array.replicate 256 (.bool false)) (Lib.setCells [63,44,34]) hi2.out hrep.out (Lib.setCells_one _) (w.heap.size+1) HA1.out rfl rfl ?_))
 go_loopg [8] s.size (fun g s8 wx=>∃ i:Nat,i+g=s.size∧s8=.int .i64 i∧wx=((w.alloc (.cells (Lib.setCells [63,44,34]) 204)).alloc (.cells (Lib.setCells [63,44,34]) 204))∧Hid (Lib.NoAny s.data.toList anyL i))
 case atStart=>exact ⟨0,by omega,rfl,rfl,Lib.NoAny.zero _ _⟩
 case round =>
  obtain ⟨i,hig,rfl,rfl,HN⟩:=hrel
  cases gk with
  | zero =>
   obtain rfl:i=s.size:=by omega
   have hiz:¬ ((s.size:Int) < (s.size:Int)):=by omega
   have hv:Hid (Lib.indexAny s.data.toList anyL=-1):=Lib.indexAny_none (by rw [len_data]; exact HN.out);clear HN;go_wp2;go_ret;exact ⟨by rw [hv.out]; rfl,hb2⟩
  | succ g =>
   have hi':i < s.size:=by omega
   have hiz:(i:Int) < (s.size:Int):=by omega
   have Hx:=hid (getL s i hi');have hcx:=HC.out s[i]
   cases hin:anyL.contains s[i] with
   | false =>
    rw [hin] at hcx;have hn2:=hid (HN.out.succ Hx.out hin);have KH:=hid (setHas_any _ _ _ _ hcx);clear HN hin hcx;go_wp2_with (go_at_call 190; refine KH.out.mono ?_; rintro e w' ⟨rfl,hw⟩; rw [hw])
    go_roundg g
    case measure=>omega
    case rel=>exact ⟨i+1,by omega,by first | rfl | simp,rfl,hn2⟩
   | true =>
    rw [hin] at hcx;have hv:Hid (Lib.indexAny s.data.toList anyL=i):=Lib.indexAny_hit HN.out Hx.out hin;have KH:=hid (setHas_any _ _ _ _ hcx);clear HN hin hcx;go_wp2_with (go_at_call 190; refine KH.out.mono ?_; rintro e w' ⟨rfl,hw⟩; rw [hw])
    go_ret;exact ⟨by rw [hv.out]; rfl,hb2⟩
set_option maxHeartbeats 1000000 in
set_option maxRecDepth 100000 in
theorem indexRune_err (w:World) :
  Calls Tryz.prog 187 #[.string ⟨#[63,44,34]⟩,.int .i32 65533] w fun e w'=>e=.returned (.int .i64 (-1))∧Below w.heap.size w w':=by
 have hb:∀ p,Below w.heap.size w (w.iter ⟨#[63,44,34]⟩ p):=fun p=>(Below.refl _ _).alloc (Nat.le_refl _) _;have HB:=hid hb;clear hb
 go_enter Tryz.func187,Tryz.ntmps187
 go_wp2
 go_loopg [5,6] 3 (fun g _ _ wx=>∃ i:Nat,i+g=3∧wx=w.iter ⟨#[63,44,34]⟩ i)
 case atStart=>exact ⟨0,rfl,rfl⟩
 case round =>
  obtain ⟨i,hig,rfl⟩:=hrel
  cases gk with
  | zero =>
   obtain rfl:i=3:=by omega
   have hnx:=fun ty=>run_next_end (P:=Tryz.prog) w ⟨#[63,44,34]⟩ 3 ty (by decide);go_wp2;go_ret;exact ⟨rfl,HB.out _⟩
  | succ g =>
   have hi3:i < 3:=by omega
   rcases (show i=0∨i=1∨i=2 by omega) with rfl | rfl | rfl
   ·have hnx:=fun ty=>run_next_ascii (P:=Tryz.prog) w ⟨#[63,44,34]⟩ 0 ty (by decide) (by decide);have hnx2:∀ ty,(Instr.next (.pointer (some ⟨w.heap.size,0,none⟩)) true ty).run Tryz.prog (w.iter ⟨#[63,44,34]⟩ 0)=.ok (.tuple #[.bool true,.int .i64 0,.int .i32 63]) (w.iter ⟨#[63,44,34]⟩ 1):=hnx;clear hnx;go_wp2
    go_roundg g
    case measure=>omega
    case rel=>exact ⟨1,by omega,rfl⟩
   ·have hnx:=fun ty=>run_next_ascii (P:=Tryz.prog) w ⟨#[63,44,34]⟩ 1 ty (by decide) (by decide);have hnx2:∀ ty,(Instr.next (.pointer (some ⟨w.heap.size,0,none⟩)) true ty).run Tryz.prog (w.iter ⟨#[63,44,34]⟩ 1)=.ok (.tuple #[.bool true,.int .i64 1,.int .i32 44]) (w.iter ⟨#[63,44,34]⟩ 2):=hnx;clear hnx;go_wp2
    go_roundg g
    case measure=>omega
    case rel=>exact ⟨2,by omega,rfl⟩
   ·have hnx:=fun ty=>run_next_ascii (P:=Tryz.prog) w ⟨#[63,44,34]⟩ 2 ty (by decide) (by decide);have hnx2:∀ ty,(Instr.next (.pointer (some ⟨w.heap.size,0,none⟩)) true ty).run Tryz.prog (w.iter ⟨#[63,44,34]⟩ 2)=.ok (.tuple #[.bool true,.int .i64 2,.int .i32 34]) (w.iter ⟨#[63,44,34]⟩ 3):=hnx;clear hnx;go_wp2
    go_roundg g
    case measure=>omega
    case rel=>exact ⟨3,by omega,rfl⟩
theorem any_tail (b:UInt8) (h:128≤b.toNat):Lib.indexByte ((⟨#[63,44,34]⟩:ByteArray).extract 2 3).data.toList b=-1∧Lib.indexByte ((⟨#[63,44,34]⟩:ByteArray).extract 3 3).data.toList b=-1:=⟨(any_index b h).2.2.1,(any_index b h).2.2.2⟩
theorem three_cases:∀ (r:List UInt8),1≤r.length → r.length≤3 → (∃ x,r=[x])∨(∃ x y,r=[x,y])∨(∃ x y z,r=[x,y,z])
 | [],h,_=>by simp at h
 | [x],_,_=>Or.inl ⟨x,rfl⟩
 | [x,y],_,_=>Or.inr (Or.inl ⟨x,y,rfl⟩)
 | [x,y,z],_,_=>Or.inr (Or.inr ⟨x,y,z,rfl⟩)
 | _ :: _ :: _ :: _ :: _,_,h=>by simp at h
set_option maxHeartbeats 1000000 in
set_option maxRecDepth 1000000 in
theorem indexRune_high (c:Nat) (w:World) (h:128≤c) (hc:c≤2147483647) :
  Calls Tryz.prog 187 #[.string ⟨#[63,44,34]⟩,.int .i32 c] w fun e w'=>e=.returned (.int .i64 (-1))∧Below w.heap.size w w':=by
 by_cases he:c=65533
 ·subst he; exact indexRune_err w
 have e1:((c:Int)==65533)=false:=by simp; omega
 have h0:(0:Int)≤(c:Int):=by omega
 have h1:¬ ((c:Int) < 128):=by omega
 have KV:=hid (validRune_any c w);obtain ⟨r,b,hen,hr1,hr2,hbb⟩:=encode_high h;have HE:=hid hen;clear hen he;have hw1:IntKind.i64.wrap ((1:Int)+1)=2:=by decide
 have hw2:IntKind.i64.wrap ((2:Int)+1)=3:=by decide
 have hw3:IntKind.i64.wrap (2:Int)=2:=by decide
 have hw4:IntKind.i64.wrap (3:Int)=3:=by decide
 have hb44:((44:Int) != (b.toNat:Int))=true:=by simp; omega
 have hb34:((34:Int) != (b.toNat:Int))=true:=by simp; omega
 obtain ⟨k1,k2⟩:=any_tail b hbb
 go_enter Tryz.func187,Tryz.ntmps187
 go_wp2_with fail
 refine KV.out.mono ?_
 rintro e w1 ⟨⟨vb,rfl⟩,rfl⟩
 cases vb with
 | false =>
  go_wp2;go_ret;exact ⟨rfl,Below.refl _ _⟩
 | true =>
  have hcase:=three_cases r hr1 hr2
  rcases hcase with ⟨x,rfl⟩ | ⟨x,y,rfl⟩ | ⟨x,y,z,rfl⟩
  ·have hen:Utf8.encode (c:Int)=⟨#[x,b]⟩:=HE.out;have hq1:((((⟨#[63,44,34]⟩:ByteArray)[1]'(by decide)).toNat:Int) != (((⟨#[x,b]⟩:ByteArray)[1]'(show (1:Nat) < 2 by decide)).toNat:Int))=true:=hb44;have hq2:Lib.indexByte ((⟨#[63,44,34]⟩:ByteArray).extract 2 3).data.toList ((⟨#[x,b]⟩:ByteArray)[1]'(show (1:Nat) < 2 by decide))=-1:=k1;go_wp2
   go_step3
   go_wp2
   go_loopg [9,10] 0 (fun g p q wx=>p=.int .i64 1∧wx=w1)
   case atStart=>exact ⟨rfl,rfl⟩
   case round =>
    obtain ⟨rfl,rfl⟩:=hrel;go_wp2
    go_step3
    go_wp2
    go_quiet (fail)
    have hbq:=below_drewN wr nq;generalize wr.drewN nq=wq at hbq ⊢;go_wp2
    go_quiet (first | (go_at_call 192; exact Calls.quiet_of_same (strIndexByte_any _ _ _)))
    have hbq2:=hbq.trans ((below_drewN wq nq).mono hbq.size);generalize wq.drewN nq=wq2 at hbq2 ⊢;rw [hq2];go_wp2;rw [Exit.noGoto_ret]
    try simp only [Exit.inBlock,Exit.then]
    rw [Exit.noGoto_ret]
    try simp only [Exit.inBlock]
    go_ret;exact ⟨rfl,hbq2⟩
  ·have hen:Utf8.encode (c:Int)=⟨#[x,y,b]⟩:=HE.out;have hq1:((((⟨#[63,44,34]⟩:ByteArray)[2]'(by decide)).toNat:Int) != (((⟨#[x,y,b]⟩:ByteArray)[2]'(show (2:Nat) < 3 by decide)).toNat:Int))=true:=hb34;have hq2:Lib.indexByte ByteArray.empty.data.toList ((⟨#[x,y,b]⟩:ByteArray)[2]'(show (2:Nat) < 3 by decide))=-1:=k2;go_wp2
   go_step3
   go_wp2
   go_loopg [9,10] 0 (fun g p q wx=>p=.int .i64 2∧wx=w1)
   case atStart=>exact ⟨rfl,rfl⟩
   case round =>
    obtain ⟨rfl,rfl⟩:=hrel;go_wp2
    go_step3
    go_wp2
    go_quiet (fail)
    have hbq:=below_drewN wr nq;generalize wr.drewN nq=wq at hbq ⊢;go_wp2
    go_quiet (first | (go_at_call 192; exact Calls.quiet_of_same (strIndexByte_any _ _ _)))
    have hbq2:=hbq.trans ((below_drewN wq nq).mono hbq.size);generalize wq.drewN nq=wq2 at hbq2 ⊢;rw [hq2];go_wp2;rw [Exit.noGoto_ret]
    try simp only [Exit.inBlock,Exit.then]
    rw [Exit.noGoto_ret]
    try simp only [Exit.inBlock]
    go_ret;exact ⟨rfl,hbq2⟩
  ·have hen:Utf8.encode (c:Int)=⟨#[x,y,z,b]⟩:=HE.out;go_wp2
   go_step3
   go_wp2
   go_loopg [9,10] 0 (fun g p q wx=>p=.int .i64 3∧wx=w1)
   case atStart=>exact ⟨rfl,rfl⟩
   case round =>
    obtain ⟨rfl,rfl⟩:=hrel;go_wp2;rw [Exit.noGoto_ret]
    try simp only [Exit.inBlock]
    go_ret;exact ⟨rfl,Below.refl _ _⟩
def anyB (l:List UInt8):Bool:=hasL 63 l || (hasL 44 l || hasL 34 l)
theorem any_three (b:UInt8):anyL.contains b=(b==63 || (b==44 || b==34)):=by
 have:∀ b:UInt8,anyL.contains b=(b==63 || (b==44 || b==34)):=by apply byte_all; decide +kernel
 exact this b
theorem beq_turn (x b:UInt8):(x==b)=(b==x):=by
 by_cases h:x=b
 ·subst h; rfl
 ·have h2:¬ b=x:=fun e=>h e.symm;rw [beq_eq_false_iff_ne.2 h,beq_eq_false_iff_ne.2 h2]
theorem anyB_index:∀ l:List UInt8,decide (0≤Lib.indexAny l anyL)=anyB l
 | []=>rfl
 | b :: l=>by
  have ih:=anyB_index l;have hge:=Lib.indexAny_ge anyL l;have hb:=any_three b;unfold Lib.indexAny;rw [hb];have e:anyB (b :: l)=((b==63 || (b==44 || b==34)) || anyB l):=by
   simp only [anyB,hasL,List.contains_cons];rw [beq_turn 63 b,beq_turn 44 b,beq_turn 34 b];generalize (b==63)=p;generalize (b==44)=q;generalize (b==34)=r;generalize List.contains l 63=s;generalize List.contains l 44=t;generalize List.contains l 34=u
   revert p q r s t u; decide
  rw [e,← ih]
  split
  ·rename_i h; rw [h]; rfl
  ·rename_i h
   rw [show (b==63 || (b==44 || b==34))=false by simpa using h]
   split
   ·rename_i h2
    have:Lib.indexAny l anyL=-1:=by simpa using h2
    rw [this]; decide
   ·rename_i h2
    have:¬ Lib.indexAny l anyL=-1:=by simpa using h2
    rw [Bool.false_or]
    congr 1
    apply propext
    omega
set_option maxHeartbeats 1000000 in
set_option maxRecDepth 1000000 in
theorem indexAny_short (s:ByteArray) (w:World) (h8:s.size≤8) :
  Calls Tryz.prog 160 #[.string s,.string ⟨#[63,44,34]⟩] w fun e w'=>e=.returned (.int .i64 (Lib.indexAny s.data.toList anyL))∧Below w.heap.size w w':=by
 have h8z:decide ((8:Int) < (s.size:Int))=false:=decide_eq_false (by omega);have K8:=hid (useSet_any (s.size:Int));rw [h8z] at K8;have hit0:(w.iter s 0).heap[w.heap.size]? = some (.stringIter s 0):=World.iter_heap w s 0;have hbi:Below w.heap.size w (w.iter s 0):=(Below.refl _ _).alloc (Nat.le_refl _) _;have HI:=hid hit0;clear hit0
 go_enter Tryz.func160,Tryz.ntmps160
 go_wp2_with (go_at_call 188; refine (K8.out _).mono ?_; rintro e w' ⟨rfl,hw⟩; rw [hw])
 generalize w.iter s 0=W at HI hbi ⊢
 go_loopg [9,10] s.size (fun g _ _ wx=>∃ i:Nat,Hid (i+g=s.size)∧i≤s.size∧Hid (wx.heap[w.heap.size]? = some (.stringIter s i))∧Hid (Lib.NoAny s.data.toList anyL i)∧Below w.heap.size w wx)
 case atStart=>exact ⟨0,hid (by omega),by omega,HI,Lib.NoAny.zero _ _,hbi⟩
 case round =>
  clear HI hbi;obtain ⟨i,hig,his,HI,HN,hb⟩:=hrel;by_cases hlt:i < s.size
  ·have hnx:=fun ty=>Lib.run_next_any_at (P:=Tryz.prog) wr w.heap.size s i ty HI.out hlt;obtain ⟨dw1,dw2,_⟩:=decode_wide s i hlt;have HI2:=hid (Lib.iterAt_heap wr w.heap.size s i (i+(Utf8.decode s i).2) HI.out);have hb2:=Lib.below_iterAt hb (Nat.le_refl _) s (i+(Utf8.decode s i).2);have hgk:Hid (s.size - (i+(Utf8.decode s i).2) < gk):=show _ < _ by have:=hig.out; omega
   have hltw:w.heap.size < (wr.iterAt w.heap.size s (i+(Utf8.decode s i).2)).heap.size:=by rw [Lib.iterAt_size]; exact (Array.getElem?_eq_some_iff.1 HI.out).1
   by_cases hx:(s[i]'hlt).toNat < 128
   ·have hda:=decode_ascii s i hlt hx;have KL:=hid (fun w'=>indexRune_low s[i] w' hx);have hcon:=Lib.contains_iff_indexByte anyL s[i]
    cases hin:anyL.contains s[i] with
    | true =>
     have hv:Hid (Lib.indexAny s.data.toList anyL=i):=Lib.indexAny_hit HN.out (getL s i hlt) hin;have hge:(0:Int)≤Lib.indexByte [63,44,34] s[i]:=of_decide_eq_true (by rw [← hin]; exact hcon.symm);rw [hda] at hnx hb2;simp only at hnx hb2;generalize wr.iterAt w.heap.size s (i+1)=wi at hnx hb2;clear HN hin hcon HI HI2 hda hltw;go_wp2_with (go_at_call 187; refine (KL.out _).mono ?_; rintro e w' ⟨rfl,hw⟩; rw [hw])
     go_ret;exact ⟨by rw [hv.out]; rfl,hb2⟩
    | false =>
     have hn2:=hid (HN.out.succ (getL s i hlt) hin);have hge:¬ ((0:Int)≤Lib.indexByte [63,44,34] s[i]):=of_decide_eq_false (by rw [← hin]; exact hcon.symm);rw [hda] at hnx hb2 HI2 hgk;simp only at hnx hb2 HI2 hgk;generalize wr.iterAt w.heap.size s (i+1)=wi at hnx hb2 HI2;clear HN hin hcon HI hda hltw;go_wp2_with (go_at_call 187; refine (KL.out _).mono ?_; rintro e w' ⟨rfl,hw⟩; rw [hw])
     go_roundg (s.size - (i+1))
     case measure=>exact hgk.out
     case rel=>exact ⟨i+1,hid (by omega),by omega,HI2,hn2,hb2⟩
   ·have hhi:=decode_high s i hlt (by omega);have hle:=decode_le s i;have KH:=hid (fun w'=>indexRune_high (Utf8.decode s i).1 w' hhi.1 hle);have hn2:=hid (noAny_rune hlt (by omega) HN.out);generalize Utf8.decode s i=dd at hnx hb2 HI2 hgk KH hn2 dw1 dw2 hltw;obtain ⟨dc,dn⟩:=dd;simp only at hnx hb2 HI2 hgk KH hn2 dw1 dw2 hltw;generalize wr.iterAt w.heap.size s (i+dn)=wi at hnx hb2 HI2 hltw;clear HN HI hhi hle;go_wp2_with fail
    refine (KH.out _).mono ?_
    rintro e w2 ⟨rfl,hw2⟩;have HI3:Hid (w2.heap[w.heap.size]? = some (.stringIter s (i+dn))):=show _=_ by rw [hw2.block _ hltw]; exact HI2.out
    have hb3:=hb2.trans (hw2.mono hb2.size);clear HI2 hb2 hw2;go_wp2
    go_roundg (s.size - (i+dn))
    case measure=>exact hgk.out
    case rel=>exact ⟨i+dn,hid (by omega),by omega,HI3,hn2,hb3⟩
  ·have hnx:=fun ty=>Lib.run_next_end_at (P:=Tryz.prog) wr w.heap.size s i ty HI.out hlt;have hv:Hid (Lib.indexAny s.data.toList anyL=-1):=Lib.indexAny_none (fun j b hj hb=>HN.out j b (by rw [len_data] at hj; omega) hb);clear HN HI;go_wp2;go_ret;exact ⟨by rw [hv.out]; rfl,hb⟩
set_option maxHeartbeats 400000 in
theorem containsAny_any (l:List UInt8) (w:World) (hl:l.length≤1048576) :
  Calls Tryz.prog 183 #[.string ⟨l.toArray⟩,.string ⟨#[63,44,34]⟩] w fun e w'=>e=.returned (.bool (anyB l))∧Below w.heap.size w w':=by
 have z:=size_list l;have K:Calls Tryz.prog 160 #[.string ⟨l.toArray⟩,.string ⟨#[63,44,34]⟩] w fun e w'=>e=.returned (.int .i64 (Lib.indexAny l anyL))∧Below w.heap.size w w':=by
  by_cases h8:(⟨l.toArray⟩:ByteArray).size≤8
  ·exact indexAny_short ⟨l.toArray⟩ w h8
  ·exact indexAny_long ⟨l.toArray⟩ w (by omega) (by omega)
 have hv:=anyB_index l;have KK:=hid K;clear K;generalize Lib.indexAny l anyL=n at KK hv;have HV:=hid hv;clear hv z
 go_enter Tryz.func183,Tryz.ntmps183
 go_wp2_with fail
 refine KK.out.mono ?_
 rintro e w1 ⟨rfl,hw1⟩;go_wp2;go_ret;exact ⟨by rw [← HV.out]; rfl,hw1⟩
def plainR (s:List UInt8):Pcs × Bool:=(⟨[],trimL (cutL 59 s).1,if (cutL 59 s).2.2=true then 59 :: (cutL 59 s).2.1 else []⟩,!anyB (trimL (cutL 59 s).1))
theorem semi_app (b:List UInt8):(⟨#[59]⟩:ByteArray)++⟨b.toArray⟩=⟨(59 :: b).toArray⟩:=by
 have e:(⟨#[59]⟩:ByteArray)=⟨[59].toArray⟩:=rfl;rw [e,ByteArray.mk_append_mk]; rfl
end Go.Proofs.YtiogedceommcoaaGreatDoor
