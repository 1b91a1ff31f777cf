/-
  APlain, ACutAll, AParseL, UParse, ACheck.
-/
import Derived.Test.YtiogedceommcoaaGreatDoorK22
set_option linter.unusedVariables false
set_option linter.unusedSimpArgs false
set_option maxRecDepth 20000
namespace Go.Proofs.YtiogedceommcoaaGreatDoor
open Go.RowKit Sc
set_option maxHeartbeats 1000000 in
set_option maxRecDepth 100000 in
theorem cutPlain_any (s:List UInt8) (w:World) (hs:s.length≤1048576) :
  Calls Tryz.prog 157 #[.string ⟨s.toArray⟩] w fun e w'=>e=.returned (.tuple #[pcsV (plainR s).1,.bool (plainR s).2])∧Below w.heap.size w w':=by
 have hcl:=cutL_len 59 s;obtain ⟨ca,cb,cc,hcut⟩:∃ ca cb cc,cutL 59 s=(ca,cb,cc):=⟨_,_,_,rfl⟩
 rw [hcut] at hcl;simp only at hcl;have hv:plainR s=(⟨[],trimL ca,if cc=true then 59 :: cb else []⟩,!anyB (trimL ca)):=by rw [plainR,hcut]
 have hta:=trimL_len ca;have KC:=hid (fun w'=>strCut_of hcut w' (by omega));have KT:=hid (fun w'=>trim_list ca w' (by omega));have KA:=hid (fun w'=>containsAny_any (trimL ca) w' (by omega));clear hcut;generalize plainR s=R at hv ⊢;generalize trimL ca=u at hv hta KT KA;generalize anyB u=ab at hv KA;have HV:=hid hv;clear hv hta;have zb:=size_list cb;have hr0:=row3_any w (.string ⟨#[]⟩) (.string ⟨#[]⟩) (.string ⟨#[]⟩) 148;have hb0:Below w.heap.size w (w.alloc (.cells #[.string ⟨#[]⟩,.string ⟨#[]⟩,.string ⟨#[]⟩] 148)):=(Below.refl _ w).alloc (Nat.le_refl _) _;have hlt0:=alloc_lt w (.cells #[.string ⟨#[]⟩,.string ⟨#[]⟩,.string ⟨#[]⟩] 148)
 go_enter Tryz.func157,Tryz.ntmps157
 go_wp2_with fail
 refine (KC.out _).mono ?_
 rintro e w1 ⟨rfl,hw1⟩;have hr1:=hr0.below hw1 hlt0;have hb1:=hb0.trans (hw1.mono hb0.size);have hlt1:=Nat.lt_of_lt_of_le hlt0 hw1.size;clear hr0 hb0 hlt0 hw1 KC;go_wp2_with fail
 refine (KT.out _).mono ?_
 rintro e w3 ⟨rfl,hw2⟩;have hr3:=hr1.below hw2 hlt1;have hb3:=hb1.trans (hw2.mono hb1.size);have hlt3:=Nat.lt_of_lt_of_le hlt1 hw2.size;clear hr1 hb1 hlt1 hw2 KT;have key:∀ (w4:World) (B:Nat) (rt:List UInt8),w.heap.size < B → B < w4.heap.size → RowIs w4 B 148 [.string ⟨#[]⟩,.string ⟨u.toArray⟩,.string ⟨rt.toArray⟩] → RowIs w4 w.heap.size 148 [.string ⟨#[]⟩,.string ⟨#[]⟩,.string ⟨#[]⟩] → Below w.heap.size w w4 →
   ∀ w5,Below w4.heap.size w4.drew w5 → (Three w5 B (.string ⟨#[]⟩) (.string ⟨u.toArray⟩) (.string ⟨rt.toArray⟩)∧Three w5 w.heap.size (.string ⟨#[]⟩) (.string ⟨#[]⟩) (.string ⟨#[]⟩)∧RowIs w5 w.heap.size 148 [.string ⟨#[]⟩,.string ⟨#[]⟩,.string ⟨#[]⟩]∧Below w.heap.size w w5):=by
  intro w4 B rt hB1 hB2 hp hr hb w5 h5;refine ⟨RowIs.three (RowIs.below (show RowIs w4.drew B 148 _ from hp) h5 hB2),RowIs.three (RowIs.below (show RowIs w4.drew w.heap.size 148 _ from hr) h5 (Nat.lt_trans hB1 hB2)),RowIs.below (show RowIs w4.drew w.heap.size 148 _ from hr) h5 (Nat.lt_trans hB1 hB2),hb.drew.trans (h5.mono hb.size)⟩
 have KEY:=hid key;clear key;have hp4:=row3_any w3 (.string ⟨#[]⟩) (.string ⟨u.toArray⟩) (.string ⟨#[]⟩) 148;have hr4:=hr3.below ((Below.refl _ w3).alloc (Nat.le_refl _) (.cells #[.string ⟨#[]⟩,.string ⟨u.toArray⟩,.string ⟨#[]⟩] 148)) hlt3;have hb4:=hb3.alloc hb3.size (.cells #[.string ⟨#[]⟩,.string ⟨u.toArray⟩,.string ⟨#[]⟩] 148);have hlt4:=alloc_lt w3 (.cells #[.string ⟨#[]⟩,.string ⟨u.toArray⟩,.string ⟨#[]⟩] 148);obtain ⟨p0,p1,p2,g0,g1,g2⟩:=hp4.three;obtain ⟨y0,y1,y2,f0,f1,f2⟩:=hr4.three
 cases cc with
 | false =>
  have HV2:Hid (R=(⟨[],u,[]⟩,!ab)):=show _=_ by rw [HV.out]; rfl
  clear HV;have KR:=hid (KEY.out _ _ [] hlt3 hlt4 hp4 hr4 hb4);go_wp2;generalize World.alloc w3 _=w4 at hp4 hr4 hb4 hlt4 p0 p1 p2 g0 g1 g2 y0 y1 y2 f0 f1 f2 KR ⊢
  go_region_with (go_at_call 183; refine (KA.out _).mono ?_; rintro e w5 ⟨rfl,hw5⟩; obtain ⟨⟨q0,q1,q2,_,_,_⟩,⟨z0,z1,z2,k0,k1,k2⟩,hr5,hb5⟩:=KR.out w5 hw5)
  all_goals (
   have hr7:=row_store3 hr5 (.string ⟨#[]⟩) (.string ⟨u.toArray⟩) (.string ⟨#[]⟩);have hb7:=store_below3 hb5 w.heap.size (Nat.le_refl _) (.string ⟨#[]⟩) (.string ⟨u.toArray⟩) (.string ⟨#[]⟩);generalize World.setCell _ _ _=w7 at hr7 hb7 ⊢;obtain ⟨d0,d1,d2,_,_,_⟩:=hr7.three;go_wp2
   try simp only [Exit.inBlock,Exit.then]
   refine bodyPost_ret (v:=.tuple #[.agg #[.string ⟨#[]⟩,.string ⟨u.toArray⟩,.string ⟨#[]⟩],.bool (!ab)]) (by simp [results,Tryz.results157,go_sem,d0,d1,d2]; try rfl) rfl ?_
   exact ⟨ret_pcs (d:=[]) (r:=[]) HV2.out,hb7⟩)
 | true =>
  have HV2:Hid (R=(⟨[],u,59 :: cb⟩,!ab)):=show _=_ by rw [HV.out]; rfl
  clear HV;have hp5:=row3_any w3 (.string ⟨#[]⟩) (.string ⟨u.toArray⟩) (.string ⟨(59 :: cb).toArray⟩) 148;have hr5:RowIs (w3.alloc (.cells #[.string ⟨#[]⟩,.string ⟨u.toArray⟩,.string ⟨(59 :: cb).toArray⟩] 148)) w.heap.size 148 [.string ⟨#[]⟩,.string ⟨#[]⟩,.string ⟨#[]⟩]:=hr3.below ((Below.refl _ w3).alloc (Nat.le_refl _) _) hlt3;have hb5:Below w.heap.size w (w3.alloc (.cells #[.string ⟨#[]⟩,.string ⟨u.toArray⟩,.string ⟨(59 :: cb).toArray⟩] 148)):=hb3.alloc hb3.size _;have hlt5:w3.heap.size < (w3.alloc (.cells #[.string ⟨#[]⟩,.string ⟨u.toArray⟩,.string ⟨(59 :: cb).toArray⟩] 148)).heap.size:=alloc_lt w3 _;have KR:=hid (KEY.out _ _ (59 :: cb) hlt3 hlt5 hp5 hr5 hb5);clear hp4 hr4 hb4 hlt4 p0 p1 p2 g0 g1 g2 y0 y1 y2 f0 f1 f2 hr3 hb3;have HSA:=hid (semi_app cb);have HF:=hid (And.intro hp5.three hr5.three);clear hp5;go_wp2;rw [HSA.out];generalize World.alloc w3 _=w4 at KR hb5 hlt5 hr5 HF ⊢;obtain ⟨⟨p0,p1,p2,g0,g1,g2⟩,⟨y0,y1,y2,f0,f1,f2⟩⟩:=HF.out
  go_region_with (go_at_call 183; refine (KA.out _).mono ?_; rintro e w5 ⟨rfl,hw5⟩; obtain ⟨⟨q0,q1,q2,_,_,_⟩,⟨z0,z1,z2,k0,k1,k2⟩,hr6,hb6⟩:=KR.out w5 hw5)
  all_goals (
   have hr7:=row_store3 hr6 (.string ⟨#[]⟩) (.string ⟨u.toArray⟩) (.string ⟨(59 :: cb).toArray⟩);have hb7:=store_below3 hb6 w.heap.size (Nat.le_refl _) (.string ⟨#[]⟩) (.string ⟨u.toArray⟩) (.string ⟨(59 :: cb).toArray⟩);generalize World.setCell _ _ _=w7 at hr7 hb7 ⊢;obtain ⟨d0,d1,d2,_,_,_⟩:=hr7.three;go_wp2
   try simp only [Exit.inBlock,Exit.then]
   refine bodyPost_ret (v:=.tuple #[.agg #[.string ⟨#[]⟩,.string ⟨u.toArray⟩,.string ⟨(59 :: cb).toArray⟩],.bool (!ab)]) (by simp [results,Tryz.results157,go_sem,d0,d1,d2]; try rfl) rfl ?_
   exact ⟨ret_pcs (d:=[]) HV2.out,hb7⟩)
def cutR (s:List UInt8):Pcs × Bool:=match openV false s with | some k=>angR (s.take k) (s.drop (k+1)) | none=>plainR s
theorem angle_list (l:List UInt8) (w:World) (h:l.length≤1048576) :
  Calls Tryz.prog 155 #[.string ⟨l.toArray⟩] w fun e w'=>e=.returned (.int .i64 (openI l))∧w'=w:=angle_any ⟨l.toArray⟩ w (by rw [size_list]; omega)
theorem ext_take (l:List UInt8) (k:Nat):(⟨l.toArray⟩:ByteArray).extract 0 k=⟨(l.take k).toArray⟩:=by rw [ext_list]; simp
theorem ext_drop (l:List UInt8) (k:Nat):(⟨l.toArray⟩:ByteArray).extract k (⟨l.toArray⟩:ByteArray).size=⟨(l.drop k).toArray⟩:=by
 rw [ext_list,size_list]
 congr 2
 rw [List.take_of_length_le]
 simp
set_option maxHeartbeats 1000000 in
set_option maxRecDepth 100000 in
theorem cut_any (s:List UInt8) (w:World) (hs:s.length≤1048576) :
  Calls Tryz.prog 112 #[.string ⟨s.toArray⟩] w fun e w'=>e=.returned (.tuple #[pcsV (cutR s).1,.bool (cutR s).2])∧Below w.heap.size w w':=by
 have KA:=hid (fun w'=>angle_list s w' hs);have hr0:=row3_any w (.string ⟨#[]⟩) (.string ⟨#[]⟩) (.string ⟨#[]⟩) 148;have hb0:Below w.heap.size w (w.alloc (.cells #[.string ⟨#[]⟩,.string ⟨#[]⟩,.string ⟨#[]⟩] 148)):=(Below.refl _ w).alloc (Nat.le_refl _) _;have hlt0:=alloc_lt w (.cells #[.string ⟨#[]⟩,.string ⟨#[]⟩,.string ⟨#[]⟩] 148)
 cases ho:openV false s with
 | none =>
  have hv:cutR s=plainR s:=by rw [cutR,ho]
  rw [openI_none ho] at KA;have KP:=hid (fun w'=>cutPlain_any s w' hs);generalize cutR s=R at hv ⊢;generalize plainR s=P at hv KP;subst hv;obtain ⟨⟨d,u,r⟩,b⟩:=R;unfold pcsV at KP;simp only at KP
  go_enter Tryz.func112,Tryz.ntmps112
  go_wp2_with fail
  refine (KA.out _).mono ?_
  rintro e w1 ⟨rfl,rfl⟩;go_wp2_with fail
  refine (KP.out _).mono ?_
  rintro e w2 ⟨rfl,hw2⟩;have hr2:=hr0.below hw2 hlt0;have hb2:=hb0.trans (hw2.mono hb0.size);obtain ⟨y0,y1,y2,f0,f1,f2⟩:=hr2.three;clear hr0 hb0 hlt0 hw2;go_wp2;have hr7:=row_store3 hr2 (.string ⟨d.toArray⟩) (.string ⟨u.toArray⟩) (.string ⟨r.toArray⟩);have hb7:=store_below3 hb2 w.heap.size (Nat.le_refl _) (.string ⟨d.toArray⟩) (.string ⟨u.toArray⟩) (.string ⟨r.toArray⟩);generalize World.setCell _ _ _=w7 at hr7 hb7 ⊢;obtain ⟨d0,d1,d2,_,_,_⟩:=hr7.three
  try simp only [Exit.inBlock,Exit.then]
  refine bodyPost_ret (v:=.tuple #[.agg #[.string ⟨d.toArray⟩,.string ⟨u.toArray⟩,.string ⟨r.toArray⟩],.bool b]) (by simp [results,Tryz.results112,go_sem,d0,d1,d2]; try rfl) rfl ?_
  exact ⟨rfl,hb7⟩
 | some k =>
  obtain ⟨hk,_⟩:=openV_lt _ s false k (Nat.le_refl _) ho;have hv:cutR s=angR (s.take k) (s.drop (k+1)):=by rw [cutR,ho]
  rw [openI_some ho] at KA;have KP:=hid (fun w'=>cutAngled_any (s.take k) (s.drop (k+1)) w' (by rw [List.length_take]; omega) (by rw [List.length_drop]; omega));rw [← ext_take,← ext_drop] at KP;generalize cutR s=R at hv ⊢;generalize angR (s.take k) (s.drop (k+1))=P at hv KP;subst hv;obtain ⟨⟨d,u,r⟩,b⟩:=R;unfold pcsV at KP;simp only at KP;have z:=size_list s;have hk1:(k:Int)≤((⟨s.toArray⟩:ByteArray).size:Int):=by rw [z]; omega
  have hk2:(k:Int)+1≤((⟨s.toArray⟩:ByteArray).size:Int):=by rw [z]; omega
  have hw1:IntKind.i64.wrap ((k:Int)+1)=((k+1:Nat):Int):=by rw [IntKind.wrap_i64]; omega
  have KR:=hid (fun w5 (h5:Below (w.alloc (.cells #[.string ⟨#[]⟩,.string ⟨#[]⟩,.string ⟨#[]⟩] 148)).heap.size (w.alloc (.cells #[.string ⟨#[]⟩,.string ⟨#[]⟩,.string ⟨#[]⟩] 148)).drew w5)=>And.intro (RowIs.three (RowIs.below (show RowIs (w.alloc (.cells #[.string ⟨#[]⟩,.string ⟨#[]⟩,.string ⟨#[]⟩] 148)).drew w.heap.size 148 _ from hr0) h5 hlt0)) (And.intro (RowIs.below (show RowIs (w.alloc (.cells #[.string ⟨#[]⟩,.string ⟨#[]⟩,.string ⟨#[]⟩] 148)).drew w.heap.size 148 _ from hr0) h5 hlt0) (hb0.drew.trans (h5.mono hb0.size))))
  go_enter Tryz.func112,Tryz.ntmps112
  go_wp2_with fail
  refine (KA.out _).mono ?_
  rintro e w1 ⟨rfl,rfl⟩;go_wp2
  go_region_with (go_at_call 156; refine (KP.out _).mono ?_; rintro e w5 ⟨rfl,hw5⟩; obtain ⟨⟨z0,z1,z2,k0,k1,k2⟩,hr6,hb6⟩:=KR.out w5 hw5)
  all_goals (
   have hr7:=row_store3 hr6 (.string ⟨d.toArray⟩) (.string ⟨u.toArray⟩) (.string ⟨r.toArray⟩);have hb7:=store_below3 hb6 w.heap.size (Nat.le_refl _) (.string ⟨d.toArray⟩) (.string ⟨u.toArray⟩) (.string ⟨r.toArray⟩);generalize World.setCell _ _ _=w7 at hr7 hb7 ⊢;obtain ⟨d0,d1,d2,_,_,_⟩:=hr7.three;go_wp2
   try simp only [Exit.inBlock,Exit.then]
   refine bodyPost_ret (v:=.tuple #[.agg #[.string ⟨d.toArray⟩,.string ⟨u.toArray⟩,.string ⟨r.toArray⟩],.bool b]) (by simp [results,Tryz.results112,go_sem,d0,d1,d2]; try rfl) rfl ?_
   exact ⟨rfl,hb7⟩)
theorem disp_name (l:List UInt8):nameR (trimL l)=match displayV l with | some d=>(d,decide (d.length≤64)) | none=>((nameR (trimL l)).1,false):=by
 unfold displayV nameR wordsR;generalize trimL l=t;have e:(fun b=>blk b || tokc b)=okD:=rfl;rw [e]
 cases quoB t with
 | true =>
  simp only [if_true];by_cases h:(unquoteV t).2=0
  ·rw [if_pos h,h]; simp; omega
  ·rw [if_neg h]
   have:((unquoteV t).2==0)=false:=by simpa using h
   rw [this]; rfl
 | false =>
  simp only [Bool.false_eq_true,if_false]
  cases t.all okD <;> simp
theorem dropW_nil {p:UInt8 → Bool}:∀ {l:List UInt8},l.dropWhile p=[] ↔ ∀ b ∈ l,p b=true
 | []=>by simp
 | b :: r=>by
  rw [List.dropWhile_cons]
  cases h:p b with
  | true=>rw [if_pos rfl,dropW_nil]; simp [h]
  | false=>rw [if_neg (by simp)]; simp [h]
theorem takeW_mem {p:UInt8 → Bool}:∀ {l:List UInt8} {b:UInt8},b ∈ l.takeWhile p → p b=true
 | [],b,h=>by simp at h
 | x :: r,b,h=>by
  rw [List.takeWhile_cons] at h
  cases hx:p x with
  | true =>
   rw [hx,if_pos rfl] at h
   rcases List.mem_cons.1 h with rfl | h
   ·exact hx
   ·exact takeW_mem h
  | false=>rw [hx,if_neg (by simp)] at h; simp at h
theorem trim_nil (l:List UInt8):(trimL l=[]) ↔ allB 32 l=true:=by
 unfold allB;have e:(fun b:UInt8=>isB b.toNat 32)=blk:=rfl;rw [e];unfold trimL
 constructor
 ·intro h;rw [List.reverse_eq_nil_iff] at h;replace h:=dropW_nil.1 h;rw [List.all_eq_true];intro b hb;by_cases hd:b ∈ l.dropWhile blk
  ·exact h b (by simpa using hd)
  ·have:=List.takeWhile_append_dropWhile (p:=blk) (l:=l)
   rw [← this] at hb
   rcases List.mem_append.1 hb with h1 | h1
   ·exact takeW_mem h1
   ·exact absurd h1 hd
 ·intro h;rw [List.all_eq_true] at h
  have:l.dropWhile blk=[]:=dropW_nil.2 h
  rw [this]; rfl
theorem parseT_cut (s:List UInt8):parseT s=if (cutR s).2=true then tailV (cutR s).1.d (cutR s).1.u (cutR s).1.r else (noA,50):=by
 unfold parseT cutR
 cases ho:openV false s with
 | some k =>
  obtain ⟨hk,h60⟩:=openV_lt _ s false k (Nat.le_refl _) ho;have hd:s.drop k=60 :: s.drop (k+1):=by
   rw [List.drop_eq_getElem_cons hk];rw [List.getElem?_eq_getElem hk,Option.some.injEq] at h60;rw [h60]
  have hh:hasL 62 (s.drop k)=(cutL 62 (s.drop (k+1))).2.2:=by
   rw [hd,cutL_has]; simp [hasL]
  simp only
  rw [hh];unfold angR;have hn:=disp_name (s.take k)
  cases hdv:displayV (s.take k) with
  | none =>
   rw [hdv] at hn;simp only at hn;have h2:(nameR (trimL (s.take k))).2=false:=by rw [hn]
   rw [h2]; simp
  | some d =>
   rw [hdv] at hn;simp only at hn;rw [hn]
   simp only
   by_cases h64:d.length≤64
   ·simp only [decide_eq_true h64,if_true]
    cases (cutL 62 (s.drop (k+1))).2.2 with
    | true=>rw [if_neg (by simp; omega)]; simp
    | false=>rw [if_pos (Or.inr rfl)]; simp
   ·rw [if_pos (Or.inl (by omega)),decide_eq_false h64]; simp
 | none =>
  simp only
  have hp:(plainR s).1.u=trimL (plainV s).1∧(plainR s).1.r=(plainV s).2:=by
   unfold plainR plainV;rw [← cutL_has]
   cases hc:(cutL 59 s).2.2 with
   | true=>simp
   | false=>rw [cutL_not 59 s hc]; simp
  have hd:(plainR s).1.d=[]:=rfl;have hb:(plainR s).2=!anyB (trimL (plainV s).1):=by rw [← hp.1]; rfl
  rw [hd,hp.1,hp.2,hb];unfold anyB
  cases hasL 63 (trimL (plainV s).1) <;> cases hasL 44 (trimL (plainV s).1) <;> cases hasL 34 (trimL (plainV s).1) <;> simp
theorem une_len:∀ (n:Nat) (l r:List UInt8),l.length≤n → une l=some r → r.length≤l.length
 | 0,[],r,_,h=>by simp [une] at h; subst h; simp
 | 0,_ :: _,r,hn,h=>by simp at hn
 | n+1,[],r,_,h=>by simp [une] at h; subst h; simp
 | n+1,b :: l,r,hn,h=>by
  by_cases h37:(b.toNat:Int)=37
  ·rcases l with _ | ⟨x,_ | ⟨y,l⟩⟩
   ·rw [une_short h37 (by simp)] at h; cases h
   ·rw [une_short h37 (by simp)] at h; cases h
   ·cases hx:isB x.toNat 4 && isB y.toNat 4
    ·rw [une_bad h37 hx] at h; cases h
    ·rw [Bool.and_eq_true] at hx;rw [une_hex h37 hx.1 hx.2] at h
     cases hu:une l with
     | none=>rw [hu] at h; cases h
     | some r' =>
      rw [hu] at h
      simp at h
      subst h
      have:=une_len n l r' (by simp at hn; omega) hu
      simp; omega
  ·rw [une_plain h37] at h
   cases hu:une l with
   | none=>rw [hu] at h; cases h
   | some r' =>
    rw [hu] at h
    simp at h
    subst h
    have:=une_len n l r' (by simp at hn; omega) hu
    simp; omega
theorem written_len (keep l:List UInt8):(writtenV keep l).1.length≤l.length:=by
 unfold writtenV
 split
 ·unfold unescV
  cases hu:une l with
  | none=>simp
  | some r=>exact une_len l.length l r (Nat.le_refl _) hu
 ·simp
theorem parOf_len {keep l:List UInt8} {p:Par} (h:parOf keep l=some p):p.name.length≤l.length∧p.value.length≤l.length:=by
 unfold parOf at h
 split at h
 ·simp at h
  subst h;have c:=cutL_len 61 l;have a:=written_len keep (cutL 61 l).1;have b:=written_len keep (cutL 61 l).2.1;exact ⟨by simp only; omega,by simp only; omega⟩
 ·cases h
theorem parsOf_small {keep:List UInt8} {N:Nat}:∀ (ls:List (List UInt8)) (ps:List Par),parsOf keep ls=some ps → (∀ l ∈ ls,l.length≤N) → ∀ p ∈ ps,p.name.length≤N∧p.value.length≤N
 | [],ps,h,_,p,hp=>by simp [parsOf] at h; subst h; simp at hp
 | l :: ls,ps,h,hl,p,hp=>by
  rw [parsOf] at h
  cases h1:parOf keep l with
  | none=>rw [h1] at h; simp at h
  | some q =>
   cases h2:parsOf keep ls with
   | none=>rw [h1,h2] at h; simp at h
   | some qs =>
    rw [h1,h2] at h
    simp at h
    subst h
    rcases List.mem_cons.1 hp with rfl | hp
    ·have:=parOf_len h1
     have:=hl l (by simp)
     omega
    ·exact parsOf_small ls qs h2 (fun x hx=>hl x (by simp [hx])) p hp
theorem smallP_of {keep:List UInt8} {ls:List (List UInt8)} {ps:List Par} (h:parsOf keep ls=some ps) (hn:ls.length≤1048577) (hl:∀ l ∈ ls,l.length≤1048576):SmallP 140737488355328 ps:=by
 refine ⟨by rw [parsOf_len h]; omega,fun p hp=>?_⟩
 have:=parsOf_small ls ps h hl p hp
 omega
theorem smallP_nil:SmallP 140737488355328 []:=⟨by simp,fun p hp=>by simp at hp⟩
theorem where_len (l:List UInt8):(whereV l).1.length≤l.length:=by
 unfold whereV portV
 have:(lowL (l.take (whereGo false l))).length≤l.length:=by rw [lowL_len]; exact List.length_take_le' _ _
 split
 ·split
  ·exact this
  ·split
   ·simp
   ·exact this
 ·simp
theorem rest_small {s:List UInt8} (hs:s.length≤1048576):(restV s).1.host.length≤1048576∧SmallP 140737488355328 (restV s).1.params∧SmallP 140737488355328 (restV s).1.headers:=by
 have hc:=cutL_len 63 s;obtain ⟨ca,cb,cc,hcut⟩:∃ ca cb cc,cutL 63 s=(ca,cb,cc):=⟨_,_,_,rfl⟩
 obtain ⟨p0,ps0,hp0⟩:=splitL_cons 59 ca;obtain ⟨wh,wp,we,hwv⟩:∃ wh wp we,whereV p0=(wh,wp,we):=⟨_,_,_,rfl⟩
 rw [hcut] at hc;simp only at hc;have hm:=splitL_mem_len 59 ca;have hn:=splitL_len 59 ca;have hwl:=where_len p0;rw [hwv] at hwl;rw [hp0] at hm hn;have hp0l:=hm p0 (by simp);have hnone:noU.host.length≤1048576∧SmallP 140737488355328 noU.params∧SmallP 140737488355328 noU.headers:=⟨by simp [noU],smallP_nil,smallP_nil⟩
 rw [rest_of hcut hp0 hwv]
 split
 ·exact hnone
 ·cases h1:parsOf paramsK ps0 with
  | none=>exact hnone
  | some ps =>
   have s1:=smallP_of h1 (by simp at hn; omega) (fun l hl=>by have:=hm l (by simp [hl]); omega)
   cases h2:headsV cc cb with
   | none=>exact hnone
   | some qs =>
    refine ⟨by show wh.length≤_; simp only at hwl; omega,s1,?_⟩
    show SmallP _ qs
    unfold headsV at h2
    split at h2
    ·have hm2:=splitL_mem_len 38 cb;have hn2:=splitL_len 38 cb;exact smallP_of h2 (by omega) (fun l hl=>by have:=hm2 l hl; omega)
    ·simp at h2; subst h2; exact smallP_nil
theorem user_small (s:List UInt8):(userV s).1.length≤64:=by
 unfold userV
 split
 ·split
  ·simp
  ·rename_i h
   simp only [not_or] at h
   have:=h.2.2
   simp only at this ⊢;omega
 ·simp
theorem user_rest (s:List UInt8):(userV s).2.1.length≤s.length:=by
 have hc:=cutL_len 64 s;unfold userV
 split
 ·split
  ·simp
  ·exact hc.2
 ·simp
theorem parseV_of {s ca cb us rs:List UInt8} {cc:Bool} {ue:Int} (h1:cutL 58 s=(ca,cb,cc)) (h2:userV cb=(us,rs,ue)) :
  parseV s=if cc=false∨schemeB (lowL ca)=false then (noU,30) else if ue ≠ 0 then (noU,ue) else bothV (lowL ca) us (restV rs):=by
 unfold parseV;simp only [h1,h2]
theorem cutUser_of {s us rs:List UInt8} {ue:Int} (h:userV s=(us,rs,ue)) (w:World) (hs:s.length≤1048576) :
  Calls Tryz.prog 123 #[.string ⟨s.toArray⟩] w fun e w'=>e=.returned (.tuple #[.string ⟨us.toArray⟩,.string ⟨rs.toArray⟩,.int .i64 ue])∧Below w.heap.size w w':=by
 have k:=cutUser_any s w hs;rw [h] at k;exact k
theorem RowIs.alloc {w:World} {g:Nat} {e:TypeId} {l:List Value} (h:RowIs w g e l) (o:Obj):RowIs (w.alloc o) g e l :=
 h.below ((Below.refl _ w).alloc (Nat.le_refl _) o) (Array.getElem?_eq_some_iff.1 h).1
theorem readRest_of {rs:List UInt8} {u:Uri} {re:Int} (h:restV rs=(u,re)) (w:World) (hs:rs.length≤1048576) :
  Calls Tryz.prog 124 #[.string ⟨rs.toArray⟩] w fun e w'=>∃ p h,e=.returned (.tuple #[uriV u p h,.int .i64 re])∧OwnP w' w.heap.size p u.params∧OwnP w' w.heap.size h u.headers∧Below w.heap.size w w':=by
 have k:=readRest_any rs w hs;rw [h] at k;exact k
set_option maxHeartbeats 2000000 in
set_option maxRecDepth 100000 in
theorem parse_any (s:List UInt8) (w:World) (hs:s.length≤1048576) :
  Calls Tryz.prog 79 #[.string ⟨s.toArray⟩] w fun e w'=>∃ p h,e=.returned (.tuple #[uriV (parseV s).1 p h,.int .i64 (parseV s).2])∧OwnP w' w.heap.size p (parseV s).1.params∧OwnP w' w.heap.size h (parseV s).1.headers∧Below w.heap.size w w':=by
 have hcl:=cutL_len 58 s;obtain ⟨ca,cb,cc,hcut⟩:∃ ca cb cc,cutL 58 s=(ca,cb,cc):=⟨_,_,_,rfl⟩
 obtain ⟨us,rs,ue,hus⟩:∃ us rs ue,userV cb=(us,rs,ue):=⟨_,_,_,rfl⟩
 have hv:=parseV_of hcut hus;rw [hcut] at hcl;simp only at hcl;have hul:=user_small cb;have hrl:=user_rest cb;rw [hus] at hul hrl;simp only at hul hrl;have hr0:=rowU_new w;have hb0:Below w.heap.size w (w.alloc (.cells #[.string ⟨#[]⟩,.string ⟨#[]⟩,.string ⟨#[]⟩,.int .i64 0,.slice none 0 0,.slice none 0 0] 29)):=(Below.refl _ w).alloc (Nat.le_refl _) _;have hlt0:w.heap.size < (w.alloc (.cells #[.string ⟨#[]⟩,.string ⟨#[]⟩,.string ⟨#[]⟩,.int .i64 0,.slice none 0 0,.slice none 0 0] 29)).heap.size:=by simp
 have HKC:Hid _:=fun w'=>strCut_of hcut w' (by omega);have HKU:Hid _:=fun w'=>cutUser_of hus w' (by omega);clear hcut hus;have HV:Hid _:=hv; clear hv
 have hll:(lowL ca).length≤1048576:=by rw [lowL_len]; omega
 go_enter Tryz.func79,Tryz.ntmps79
 go_wp2_with fail
 refine (HKC.out _).mono ?_
 rintro e w1 ⟨rfl,hw1⟩;have hr1:=hr0.below hw1 hlt0;have hb1:=hb0.trans (hw1.mono hb0.size);have hlt1:=Nat.lt_of_lt_of_le hlt0 hw1.size;clear hr0 hb0 hlt0 hw1 HKC;go_wp2_with fail
 refine (lower_list ca _ (by omega)).mono ?_
 rintro e w2 ⟨rfl,hw2⟩;have hr2:=hr1.below hw2 hlt1;have hb2:=hb1.trans (hw2.mono hb1.size);have hlt2:=Nat.lt_of_lt_of_le hlt1 hw2.size;clear hr1 hb1 hlt1 hw2;obtain ⟨c0,c1,c2,c3,c4,c5,f0,f1,f2,f3,f4,f5⟩:=hr2.six
 cases cc with
 | false =>
  have hvv:Hid (parseV s=(noU,30)):=show _=_ by rw [HV.out,if_pos (Or.inl rfl)]
  clear HV HKU;go_wp2;have hr7:=row_store hr2 (.string ⟨#[]⟩) (.string ⟨#[]⟩) (.string ⟨#[]⟩) (.int .i64 0) (.slice none 0 0) (.slice none 0 0);have hb7:=store_below hb2 w.heap.size (Nat.le_refl _) (.string ⟨#[]⟩) (.string ⟨#[]⟩) (.string ⟨#[]⟩) (.int .i64 0) (.slice none 0 0) (.slice none 0 0);generalize World.setCell _ _ _=w7 at hr7 hb7 ⊢;obtain ⟨d0,d1,d2,d3,d4,d5,_,_,_,_,_,_⟩:=hr7.six
  try simp only [Exit.inBlock,Exit.then]
  refine bodyPost_ret (v:=.tuple #[.agg #[.string ⟨#[]⟩,.string ⟨#[]⟩,.string ⟨#[]⟩,.int .i64 0,.slice none 0 0,.slice none 0 0],.int .i64 30]) (by simp [results,Tryz.results79,go_sem,d0,d1,d2,d3,d4,d5]; try rfl) rfl ?_
  exact ⟨.slice none 0 0,.slice none 0 0,by rw [hvv.out]; rfl,by rw [hvv.out]; exact OwnP.nil _ _,by rw [hvv.out]; exact OwnP.nil _ _,hb7⟩
 | true =>
  cases hsc:schemeB (lowL ca) with
  | false =>
   have hvv:Hid (parseV s=(noU,30)):=show _=_ by rw [HV.out,if_pos (Or.inr hsc)]
   clear HV HKU;go_wp2_with (go_at_call 122; refine (scheme_list _ _).mono ?_; rintro e w' ⟨rfl,rfl⟩; rw [hsc])
   have hr7:=row_store hr2 (.string ⟨#[]⟩) (.string ⟨#[]⟩) (.string ⟨#[]⟩) (.int .i64 0) (.slice none 0 0) (.slice none 0 0);have hb7:=store_below hb2 w.heap.size (Nat.le_refl _) (.string ⟨#[]⟩) (.string ⟨#[]⟩) (.string ⟨#[]⟩) (.int .i64 0) (.slice none 0 0) (.slice none 0 0);generalize World.setCell _ _ _=w7 at hr7 hb7 ⊢;obtain ⟨d0,d1,d2,d3,d4,d5,_,_,_,_,_,_⟩:=hr7.six
   try simp only [Exit.inBlock,Exit.then]
   refine bodyPost_ret (v:=.tuple #[.agg #[.string ⟨#[]⟩,.string ⟨#[]⟩,.string ⟨#[]⟩,.int .i64 0,.slice none 0 0,.slice none 0 0],.int .i64 30]) (by simp [results,Tryz.results79,go_sem,d0,d1,d2,d3,d4,d5]; try rfl) rfl ?_
   exact ⟨.slice none 0 0,.slice none 0 0,by rw [hvv.out]; rfl,by rw [hvv.out]; exact OwnP.nil _ _,by rw [hvv.out]; exact OwnP.nil _ _,hb7⟩
  | true =>
   rw [if_neg (by simp [hsc])] at HV;go_wp2_with (first
    | (go_at_call 122; refine (scheme_list _ _).mono ?_; rintro e w' ⟨rfl,rfl⟩; rw [hsc])
    | (go_at_call 123; fail))
   refine (HKU.out _).mono ?_
   rintro e w3 ⟨rfl,hw3⟩;have hr3:=hr2.below hw3 hlt2;have hb3:=hb2.trans (hw3.mono hb2.size);have hlt3:=Nat.lt_of_lt_of_le hlt2 hw3.size;clear hr2 hb2 hlt2 hw3 HKU c0 c1 c2 c3 c4 c5 f0 f1 f2 f3 f4 f5;obtain ⟨c0,c1,c2,c3,c4,c5,f0,f1,f2,f3,f4,f5⟩:=hr3.six;by_cases hue:ue=0
   ·subst hue;rw [if_neg (by simp)] at HV;have hrs:rs.length≤1048576:=by omega
    obtain ⟨sm1,sm2,sm3⟩:=rest_small hrs;obtain ⟨u,re,hre⟩:∃ u re,restV rs=(u,re):=⟨_,_,rfl⟩
    rw [hre] at HV sm1 sm2 sm3;simp only at sm1 sm2 sm3;obtain ⟨u0,u1,u2,u3,u4,u5⟩:=u;simp only at sm1 sm2 sm3;have HKR:Hid _:=fun w'=>readRest_of hre w' hrs;clear hre;go_wp2_with fail
    refine (HKR.out _).mono ?_
    rintro e w4 ⟨p,h,rfl,hop,hoh,hw4⟩;obtain ⟨a1,k1,rfl⟩:=hop.parsAt.form;obtain ⟨a2,k2,rfl⟩:=hoh.parsAt.form;unfold uriV
    simp only
    have hr4:=hr3.below hw4 hlt3;have hb4:=hb3.trans (hw4.mono hb3.size);have hlt4:=Nat.lt_of_lt_of_le hlt3 hw4.size;have ho1:Hid (OwnP w4 (w.heap.size+1) (.slice a1 u4.length k1) u4):=OwnP.mono hop (by omega);have ho2:Hid (OwnP w4 (w.heap.size+1) (.slice a2 u5.length k2) u5):=OwnP.mono hoh (by omega);clear hr3 hb3 hlt3 hw4 HKR c0 c1 c2 c3 c4 c5 f0 f1 f2 f3 f4 f5 hop hoh;obtain ⟨c0,c1,c2,c3,c4,c5,f0,f1,f2,f3,f4,f5⟩:=hr4.six;by_cases hre:re=0
    ·subst hre;obtain ⟨u',hu'⟩:∃ u':Uri,u'=⟨lowL ca,us,u2,u3,u4,u5⟩:=⟨_,rfl⟩
     have HV2:Hid (parseV s=endV u'):=show _=_ by rw [HV.out,bothV,if_neg (by simp),hu']
     have hsm:SmallU 140737488355328 u':=by rw [hu']; exact ⟨by show (lowL ca).length≤_; omega,by show us.length≤_; omega,by show u2.length≤_; omega,sm2,sm3⟩
     have e4:u'.params=u4:=by rw [hu']
     have e5:u'.headers=u5:=by rw [hu']
     have hbox:=box_new w4 u' (.slice a1 u4.length k1) (.slice a2 u5.length k2);have hp4:=ho1.out.parsAt;have hh4:=ho2.out.parsAt;rw [← e4] at hp4;rw [← e5] at hh4;have HCK:Hid _:=fun w' hb=>check_any u' (.slice a1 u'.params.length k1) (.slice a2 u'.headers.length k2) w' hsm (hp4.below hb) (hh4.below hb);rw [e4,e5] at HCK;unfold uriV at HCK;rw [hu'] at hbox;have hv':Hid (∀ c,checkV u'=c → parseV s=if c ≠ 0 then (noU,c) else (⟨lowL ca,us,u2,u3,u4,u5⟩,0)):=fun c hc=>by rw [HV2.out,endV,hc,hu']
     obtain ⟨ck,hck⟩:∃ ck,checkV u'=ck:=⟨_,rfl⟩
     have hvc:=hv'.out ck hck;rw [hck,hu'] at HCK;simp only at HCK;have HVC:Hid _:=hvc;clear hvc hv' HV HV2 hp4 hh4 e4 e5 hsm hck hu' u';go_wp2_with fail
     have hbA:Below w4.heap.size w4 (w4.alloc (.cells #[.string ⟨(lowL ca).toArray⟩,.string ⟨us.toArray⟩,.string ⟨u2.toArray⟩,.int .i64 u3,.slice a1 u4.length k1,.slice a2 u5.length k2] 29)):=(Below.refl _ w4).alloc (Nat.le_refl _) _;refine (HCK.out _ hbA).mono ?_
     rintro e w5 ⟨rfl,hw5⟩;have hbx:w4.heap.size < (w4.alloc (.cells #[.string ⟨(lowL ca).toArray⟩,.string ⟨us.toArray⟩,.string ⟨u2.toArray⟩,.int .i64 u3,.slice a1 u4.length k1,.slice a2 u5.length k2] 29)).heap.size:=by simp
     obtain ⟨g0,g1,g2,g3,g4,g5⟩:=hbox.below hw5 hbx;simp only at g0 g1 g2 g3 g4 g5;have hb45:Below w4.heap.size w4 w5:=hbA.trans (hw5.mono hbA.size);have hr5:=hr4.below hb45 hlt4;have hb5:=hb4.trans (hb45.mono hb4.size);have p5:Hid (OwnP w5 (w.heap.size+1) (.slice a1 u4.length k1) u4):=ho1.out.below hb45;have q5:Hid (OwnP w5 (w.heap.size+1) (.slice a2 u5.length k2) u5):=ho2.out.below hb45;clear hw5 hb45 hbA hbx hbox HCK hr4 ho1 ho2 c0 c1 c2 c3 c4 c5 f0 f1 f2 f3 f4 f5;obtain ⟨c0,c1,c2,c3,c4,c5,f0,f1,f2,f3,f4,f5⟩:=hr5.six;by_cases hck:ck=0
     ·subst hck;have hvv:Hid (parseV s=(⟨lowL ca,us,u2,u3,u4,u5⟩,0)):=show _=_ by rw [HVC.out,if_neg (by simp)]
      clear HVC;go_wp2;have hr7:=row_store hr5 (.string ⟨(lowL ca).toArray⟩) (.string ⟨us.toArray⟩) (.string ⟨u2.toArray⟩) (.int .i64 u3) (.slice a1 u4.length k1) (.slice a2 u5.length k2);have hb7:=store_below hb5 w.heap.size (Nat.le_refl _) (.string ⟨(lowL ca).toArray⟩) (.string ⟨us.toArray⟩) (.string ⟨u2.toArray⟩) (.int .i64 u3) (.slice a1 u4.length k1) (.slice a2 u5.length k2);have p7:=(OwnP.store p5.out (Nat.lt_succ_self _) (.string ⟨(lowL ca).toArray⟩) (.string ⟨us.toArray⟩) (.string ⟨u2.toArray⟩) (.int .i64 u3) (.slice a1 u4.length k1) (.slice a2 u5.length k2)).mono (Nat.le_succ w.heap.size);have q7:=(OwnP.store q5.out (Nat.lt_succ_self _) (.string ⟨(lowL ca).toArray⟩) (.string ⟨us.toArray⟩) (.string ⟨u2.toArray⟩) (.int .i64 u3) (.slice a1 u4.length k1) (.slice a2 u5.length k2)).mono (Nat.le_succ w.heap.size);generalize World.setCell _ _ _=w7 at hr7 hb7 p7 q7 ⊢;obtain ⟨d0,d1,d2,d3,d4,d5,_,_,_,_,_,_⟩:=hr7.six
      try simp only [Exit.inBlock,Exit.then]
      refine bodyPost_ret (v:=.tuple #[.agg #[.string ⟨(lowL ca).toArray⟩,.string ⟨us.toArray⟩,.string ⟨u2.toArray⟩,.int .i64 u3,.slice a1 u4.length k1,.slice a2 u5.length k2],.int .i64 0]) (by simp [results,Tryz.results79,go_sem,d0,d1,d2,d3,d4,d5]; try rfl) rfl ?_
      exact ⟨_,_,by rw [hvv.out]; rfl,by rw [hvv.out]; exact p7,by rw [hvv.out]; exact q7,hb7⟩
     ·have hue1:(ck != 0)=true:=by simpa using hck
      have hue2:(ck==0)=false:=by simpa using hck
      have hvv:Hid (parseV s=(noU,ck)):=show _=_ by rw [HVC.out,if_pos hck]
      clear HVC;go_wp2;have hr7:=row_store hr5 (.string ⟨#[]⟩) (.string ⟨#[]⟩) (.string ⟨#[]⟩) (.int .i64 0) (.slice none 0 0) (.slice none 0 0);have hb7:=store_below hb5 w.heap.size (Nat.le_refl _) (.string ⟨#[]⟩) (.string ⟨#[]⟩) (.string ⟨#[]⟩) (.int .i64 0) (.slice none 0 0) (.slice none 0 0);generalize World.setCell _ _ _=w7 at hr7 hb7 ⊢;obtain ⟨d0,d1,d2,d3,d4,d5,_,_,_,_,_,_⟩:=hr7.six
      try simp only [Exit.inBlock,Exit.then]
      refine bodyPost_ret (v:=.tuple #[.agg #[.string ⟨#[]⟩,.string ⟨#[]⟩,.string ⟨#[]⟩,.int .i64 0,.slice none 0 0,.slice none 0 0],.int .i64 ck]) (by simp [results,Tryz.results79,go_sem,d0,d1,d2,d3,d4,d5]; try rfl) rfl ?_
      exact ⟨.slice none 0 0,.slice none 0 0,by rw [hvv.out]; rfl,by rw [hvv.out]; exact OwnP.nil _ _,by rw [hvv.out]; exact OwnP.nil _ _,hb7⟩
    ·have hue1:(re != 0)=true:=by simpa using hre
     have hue2:(re==0)=false:=by simpa using hre
     have hvv:Hid (parseV s=(noU,re)):=show _=_ by rw [HV.out,bothV,if_pos hre]
     clear HV;go_wp2;have hr7:=(row_store hr4 (.string ⟨#[]⟩) (.string ⟨#[]⟩) (.string ⟨#[]⟩) (.int .i64 0) (.slice none 0 0) (.slice none 0 0)).alloc (.cells #[.string ⟨u0.toArray⟩,.string ⟨u1.toArray⟩,.string ⟨u2.toArray⟩,.int .i64 u3,.slice a1 u4.length k1,.slice a2 u5.length k2] 29);have hb6:=store_below hb4 w.heap.size (Nat.le_refl _) (.string ⟨#[]⟩) (.string ⟨#[]⟩) (.string ⟨#[]⟩) (.int .i64 0) (.slice none 0 0) (.slice none 0 0);have hb7:=hb6.alloc hb6.size (.cells #[.string ⟨u0.toArray⟩,.string ⟨u1.toArray⟩,.string ⟨u2.toArray⟩,.int .i64 u3,.slice a1 u4.length k1,.slice a2 u5.length k2] 29);clear hb6;generalize World.alloc _ _=w7 at hr7 hb7 ⊢;obtain ⟨d0,d1,d2,d3,d4,d5,_,_,_,_,_,_⟩:=hr7.six
     try simp only [Exit.inBlock,Exit.then]
     refine bodyPost_ret (v:=.tuple #[.agg #[.string ⟨#[]⟩,.string ⟨#[]⟩,.string ⟨#[]⟩,.int .i64 0,.slice none 0 0,.slice none 0 0],.int .i64 re]) (by simp [results,Tryz.results79,go_sem,d0,d1,d2,d3,d4,d5]; try rfl) rfl ?_
     exact ⟨.slice none 0 0,.slice none 0 0,by rw [hvv.out]; rfl,by rw [hvv.out]; exact OwnP.nil _ _,by rw [hvv.out]; exact OwnP.nil _ _,hb7⟩
   ·have hue1:(ue != 0)=true:=by simpa using hue
    have hue2:(ue==0)=false:=by simpa using hue
    have hvv:Hid (parseV s=(noU,ue)):=show _=_ by rw [HV.out,if_pos hue]
    clear HV;go_wp2;have hr7:=row_store hr3 (.string ⟨#[]⟩) (.string ⟨#[]⟩) (.string ⟨#[]⟩) (.int .i64 0) (.slice none 0 0) (.slice none 0 0);have hb7:=store_below hb3 w.heap.size (Nat.le_refl _) (.string ⟨#[]⟩) (.string ⟨#[]⟩) (.string ⟨#[]⟩) (.int .i64 0) (.slice none 0 0) (.slice none 0 0);generalize World.setCell _ _ _=w7 at hr7 hb7 ⊢;obtain ⟨d0,d1,d2,d3,d4,d5,_,_,_,_,_,_⟩:=hr7.six
    try simp only [Exit.inBlock,Exit.then]
    refine bodyPost_ret (v:=.tuple #[.agg #[.string ⟨#[]⟩,.string ⟨#[]⟩,.string ⟨#[]⟩,.int .i64 0,.slice none 0 0,.slice none 0 0],.int .i64 ue]) (by simp [results,Tryz.results79,go_sem,d0,d1,d2,d3,d4,d5]; try rfl) rfl ?_
    exact ⟨.slice none 0 0,.slice none 0 0,by rw [hvv.out]; rfl,by rw [hvv.out]; exact OwnP.nil _ _,by rw [hvv.out]; exact OwnP.nil _ _,hb7⟩
def BoxA (w:World) (b:Nat) (a:Adr) (p h q:Value):Prop :=
 w.cell? ⟨b,0,none⟩=some (.string ⟨a.display.toArray⟩)∧w.cell? ⟨b,1,none⟩=some (.string ⟨a.uri.scheme.toArray⟩)∧w.cell? ⟨b,2,none⟩=some (.string ⟨a.uri.user.toArray⟩)∧w.cell? ⟨b,3,none⟩=some (.string ⟨a.uri.host.toArray⟩) ∧
 w.cell? ⟨b,4,none⟩=some (.int .i64 a.uri.port)∧w.cell? ⟨b,5,none⟩=some p∧w.cell? ⟨b,6,none⟩=some h∧w.cell? ⟨b,7,none⟩=some q
end Go.Proofs.YtiogedceommcoaaGreatDoor
