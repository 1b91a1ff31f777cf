/-
  XmlDocL, OpenNode, RefCut, RefEsc, RefUne, RefWritten, ParOwn, NdOwn, NdFr.
-/
import Derived.Test.YtdnekampnkhmfaaGreatDoorPM05
import Derived.OneCell
import Derived.Laws.OwnMore
import Derived.Deep.AppendLies
set_option linter.unusedVariables false
set_option linter.unusedSimpArgs false
set_option maxRecDepth 20000
namespace Go.Proofs.YtdnekampnkhmfaaGreatDoor
open Go.RowKit Sc
def prologK:List UInt8:=[60,63,120,109,108,32,118,101,114,115,105,111,110,61,34,49,46,48,34,32,101,110,99,111,100,105,110,103,61,34,85,84,70,45,56,34,63,62,10]
def bodyX (s:List UInt8):Option (List UInt8) :=
 if s.take 5=[60,63,120,109,108] then (if ((s.drop 5).dropWhile (· != 63)).take 2=[63,62] then some (((s.drop 5).dropWhile (· != 63)).drop 2) else none) else some s
def parseX (s:List UInt8):List Nd × Int :=
 if 4096 < s.length then ([],2)
 else match bodyX s with
  | none=>([],130)
  | some r=>match elemX (s.length+1) 0 0 (r.dropWhile xblk) with
   | none=>([],130)
   | some (l,r2)=>if r2.dropWhile xblk=[]∧checkX l=0 then (l,0) else ([],130)
theorem sz_len (n:Nat):(∀ (t:XT) (d:Nat),szX t≤n → okX d t=true → szX t+1≤(printX t).length)∧(∀ (ks:List XT) (d:Nat),szXs ks≤n → okXs d ks=true → szXs ks≤1+(printXs ks).length):=by
 induction n with
 | zero =>
  refine ⟨fun t d h _=>?_,fun ks d h _=>?_⟩
  ·obtain ⟨n',a,tx,k⟩:=t; rw [szX] at h; omega
  ·cases ks with
   | nil=>rw [szXs] at h; omega
   | cons t ks=>rw [szXs] at h; omega
 | succ n ih =>
  refine ⟨fun t d h hok=>?_,fun ks d h hok=>?_⟩
  ·obtain ⟨nm,a,tx,k⟩:=t;obtain ⟨k1,k2,k3,k4,k5,k6⟩:=okX_facts hok;obtain ⟨hne,_⟩:=name_factsX k2;have hnl:1≤nm.length:=by cases nm with | nil=>exact absurd rfl hne | cons x y=>simp
   rw [szX] at h ⊢
   have:=ih.2 k (d+1) (by omega) k6
   rw [printX]
   split
   ·rename_i hin
    simp only [List.append_eq_nil_iff] at hin;rw [hin.2] at this
    simp at this ⊢; omega
   ·simp; omega
  ·cases ks with
   | nil=>rw [szXs]; omega
   | cons t ks =>
    rw [okXs,Bool.and_eq_true] at hok;rw [szXs] at h ⊢;have a1:=ih.1 t d (by omega) hok.1;have a2:=ih.2 ks d (by omega) hok.2;rw [printXs,List.length_append]; omega
theorem doc_back {l:List Nd} {t:XT} (h:checkX l=0) (hf:flatX 0 t=l) (hok:okX 0 t=true) {bl:List UInt8} (hb:∀ b ∈ bl,xblk b=true) (hl:(prologK++printX t++bl).length≤4096):parseX (prologK++printX t++bl)=(l,0):=by
 obtain ⟨h1,h2,h3,h4⟩:=checkX_ok h;have hbody:bodyX (prologK++printX t++bl)=some (10 :: (printX t++bl)):=by
  unfold bodyX;have e5:(prologK++printX t++bl).take 5=[60,63,120,109,108]:=by simp [prologK]
  have e6:((prologK++printX t++bl).drop 5).dropWhile (· != 63)=63 :: 62 :: 10 :: (printX t++bl):=by simp [prologK,List.dropWhile_cons]
  rw [if_pos e5,e6]; simp
 obtain ⟨y,q,hp,_⟩:=print_head t 0 hok;have hbl:bl.dropWhile xblk=[]:=by
  clear hl hbody
  induction bl with
  | nil=>rfl
  | cons x bl ih=>rw [List.dropWhile_cons,hb x (by simp),if_pos rfl]; exact ih (fun b hx=>hb b (by simp [hx]))
 have hd:(10 :: (printX t++bl)).dropWhile xblk=printX t++bl:=by
  rw [List.dropWhile_cons,show xblk 10=true by decide +kernel];simp only [if_true];exact xdrop_id (by intro b hx; rw [hp] at hx; simp at hx; subst hx; decide +kernel)
 have hsz:=(sz_len (szX t)).1 t 0 (Nat.le_refl _) hok;have he:=(tree_back ((prologK++printX t++bl).length+1)).1 t 0 0 bl hok (by simp; omega) (by rw [hf]; omega);unfold parseX;rw [if_neg (by omega),hbody]
 simp only
 rw [hd,he]
 simp only
 rw [hbl,hf,if_pos ⟨rfl,h⟩]
end Go.Proofs.YtdnekampnkhmfaaGreatDoor
namespace Go.Proofs.YtdnekampnkhmfaaGreatDoor
open Go.RowKit Go.ChangeShapes Go.WideShapes Go.Deep
structure NdC where
 nd:Nd
 a:Value
def ndCells (c:NdC):List Value:=[.int .i64 c.nd.deep,.string ⟨c.nd.name.toArray⟩,c.a,.string ⟨c.nd.text.toArray⟩]
def ndV (x:Nd) (a:Value):Value:=.agg #[.int .i64 x.deep,.string ⟨x.name.toArray⟩,a,.string ⟨x.text.toArray⟩]
structure NdAt (w:World) (ad:Addr) (k:Nat) (c:NdC):Prop where
 c0:w.cell? (ad.add (k * 4))=some (.int .i64 c.nd.deep)
 c1:w.cell? ⟨(ad.add (k * 4)).block,(ad.add (k * 4)).off+1,none⟩=some (.string ⟨c.nd.name.toArray⟩)
 c2:w.cell? ⟨(ad.add (k * 4)).block,(ad.add (k * 4)).off+2,none⟩=some c.a
 c3:w.cell? ⟨(ad.add (k * 4)).block,(ad.add (k * 4)).off+3,none⟩=some (.string ⟨c.nd.text.toArray⟩)
theorem NdAt.below {B:Nat} {w w':World} {ad:Addr} {k:Nat} {c:NdC} (h:NdAt w ad k c) (hb:Below B w w') (ha:ad.block < B):NdAt w' ad k c :=
 ⟨cell_below hb (by rw [add_block]; exact ha) h.c0,cell_below hb (by simp only [add_block]; exact ha) h.c1,cell_below hb (by simp only [add_block]; exact ha) h.c2,cell_below hb (by simp only [add_block]; exact ha) h.c3⟩
def NdsAt (w:World) (v:Value) (cs:List NdC):Prop :=
 ∃ (ao:Option Addr) (cap:Nat),v=.slice ao cs.length cap∧∀ k (hk:k < cs.length),∃ ad,ao=some ad∧ad.block < w.heap.size∧NdAt w ad k cs[k]∧ParsAt w cs[k].a cs[k].nd.attrs
theorem NdsAt.below {w w':World} {v:Value} {cs:List NdC} (h:NdsAt w v cs) (hb:Below w.heap.size w w'):NdsAt w' v cs:=by
 obtain ⟨ao,cap,hv,hc⟩:=h;refine ⟨ao,cap,hv,fun k hk=>?_⟩
 obtain ⟨ad,e,hlt,hcell,hp⟩:=hc k hk;exact ⟨ad,e,Nat.lt_of_lt_of_le hlt hb.size,hcell.below hb hlt,hp.below hb⟩
def ndsL (cs:List NdC):List Nd:=cs.map NdC.nd
theorem ndsL_len (cs:List NdC):(ndsL cs).length=cs.length:=by simp [ndsL]
def SmallN (B:Nat) (x:Nd):Prop:=x.name.length≤B∧x.text.length≤B∧SmallP B x.attrs∧(Lit.int .i64 x.deep).wf=true
end Go.Proofs.YtdnekampnkhmfaaGreatDoor
namespace Go.Proofs.YtdnekampnkhmfaaGreatDoor
open Go.RowKit Sc
theorem u8_eq {a b:UInt8} (h:a=b):((a.toNat:Int)==(b.toNat:Int))=true:=by simp [h]
theorem u8_ne {a b:UInt8} (h:¬ a=b):((a.toNat:Int)==(b.toNat:Int))=false:=by
 simp only [beq_eq_false_iff_ne,ne_eq];intro e; exact h (UInt8.toNat_inj.1 (by omega))
theorem notMem_snoc {c:UInt8} {s:ByteArray} {k:Nat} (hk:k < s.size) (h:c ∉ s.data.toList.take k) (hc:¬ s[k]=c):c ∉ s.data.toList.take (k+1):=by
 rw [take_snoc s k hk];simp only [List.mem_append,List.mem_singleton,not_or];exact ⟨h,fun e=>hc e.symm⟩
theorem split_at (s:ByteArray) (k:Nat) (hk:k < s.size):s.data.toList=s.data.toList.take k++s[k] :: s.data.toList.drop (k+1):=by
 rw [← drop_cons s k hk,List.take_append_drop]
set_option maxHeartbeats 400000 in
theorem has3_any (s:ByteArray) (c:UInt8) (w:World) (hs:s.size≤maxLen) :
  Calls Tryz.prog 81 #[.string s,.int .u8 c.toNat] w fun e w'=>e=.returned (.bool (hasL c s.data.toList))∧w'=w:=by
 unfold maxLen at hs
 go_enter Tryz.func81,Tryz.ntmps81
 go_wp2
 go_loop [5] (fun i=>∃ k:Nat,k≤s.size∧i=.int .i64 k∧Hid (c ∉ s.data.toList.take k)) (fun i=>s.size - (intOf i).toNat)
 case atStart=>exact ⟨0,Nat.zero_le _,rfl,show _ ∉ _ by simp⟩
 case round =>
  obtain ⟨k,hk,rfl,hno⟩:=hrel;by_cases hlt:k < s.size
  ·by_cases hc:s[k]=c
   ·have he:=u8_eq hc;have hv:Hid (hasL c s.data.toList=true):=show _=_ by rw [hasL,split_at s k hlt,hc]; simp
    clear hc hno;go_wp2;go_ret;exact ⟨ret_bool hv.out.symm,rfl⟩
   ·have he:=u8_ne hc;have hno2:Hid (c ∉ s.data.toList.take (k+1)):=notMem_snoc hlt hno.out hc;clear hc hno;go_wp2
    go_round
    case rel=>exact ⟨k+1,by omega,by go_num,hno2⟩
    case measure=>simp [intOf]; omega
  ·have hv:Hid (hasL c s.data.toList=false):=show _=_ by
    rw [hasL]
    have:=hno.out
    rw [take_all s k (by omega)] at this
    simpa using this
   clear hno;go_wp2;go_ret;exact ⟨ret_bool hv.out.symm,rfl⟩
theorem ret_cut {p:List UInt8 × List UInt8 × Bool} {x y:ByteArray} {b:Bool} (h:p=(x.data.toList,y.data.toList,b)):Ending.returned (.tuple #[.string x,.string y,.bool b])=.returned (.tuple #[.string ⟨p.1.toArray⟩,.string ⟨p.2.1.toArray⟩,.bool p.2.2]):=by
 have hx:(⟨x.data.toList.toArray⟩:ByteArray)=x:=by apply ByteArray.ext; simp
 have hy:(⟨y.data.toList.toArray⟩:ByteArray)=y:=by apply ByteArray.ext; simp
 rw [h,hx,hy]
set_option maxHeartbeats 400000 in
theorem cut3_any (s:ByteArray) (c:UInt8) (w:World) (hs:s.size≤maxLen) :
  Calls Tryz.prog 46 #[.string s,.int .u8 c.toNat] w fun e w'=>e=.returned (.tuple #[.string ⟨(cutL c s.data.toList).1.toArray⟩,.string ⟨(cutL c s.data.toList).2.1.toArray⟩,.bool (cutL c s.data.toList).2.2])∧∃ q,w'=w.drewN q:=by
 unfold maxLen at hs
 go_enter Tryz.func46,Tryz.ntmps46
 go_wp2
 go_loop [7] (fun i=>∃ k:Nat,k≤s.size∧i=.int .i64 k∧Hid (c ∉ s.data.toList.take k)) (fun i=>s.size - (intOf i).toNat)
 case atStart=>exact ⟨0,Nat.zero_le _,rfl,show _ ∉ _ by simp⟩
 case round =>
  obtain ⟨k,hk,rfl,hno⟩:=hrel;by_cases hlt:k < s.size
  ·by_cases hc:s[k]=c
   ·have he:=u8_eq hc;have hv:Hid (cutL c s.data.toList=(s.data.toList.take k,s.data.toList.drop (k+1),true)):=show _=_ by
     conv=>lhs; rw [split_at s k hlt,hc]
     exact cutL_hit hno.out
    have e1:Hid ((s.extract 0 k).data.toList=s.data.toList.take k):=show _=_ by rw [ext_list]; simp
    have e2:Hid ((s.extract (k+1) s.size).data.toList=s.data.toList.drop (k+1)):=show _=_ by
     rw [ext_list,List.take_of_length_le (by rw [List.length_drop,len_data]; omega)]
    clear hc hno;have hwr:IntKind.i64.wrap ((k:Int)+1)=((k+1:Nat):Int):=by
     simp [IntKind.wrap,IntKind.bits,IntKind.signed]; omega
    go_wp2
    go_quiet (fail)
    go_wp2;go_ret3
    exact ⟨ret_cut (by rw [hv.out,e1.out,e2.out]),nq,rfl⟩
   ·have he:=u8_ne hc;have hno2:Hid (c ∉ s.data.toList.take (k+1)):=notMem_snoc hlt hno.out hc;clear hc hno;go_wp2
    go_round
    case rel=>exact ⟨k+1,by omega,by go_num,hno2⟩
    case measure=>simp [intOf]; omega
  ·have hv:Hid (cutL c s.data.toList=(s.data.toList,[],false)):=show _=_ by
    have:=hno.out
    rw [take_all s k (by omega)] at this;exact cutL_miss this
   clear hno;go_wp2;go_ret3
   exact ⟨ret_cut hv.out,0,rfl⟩
theorem cut3_list (r:List UInt8) (c:UInt8) (w:World) (hs:r.length≤9223372036854775807) :
  Calls Tryz.prog 46 #[.string ⟨r.toArray⟩,.int .u8 c.toNat] w fun e w'=>e=.returned (.tuple #[.string ⟨(cutL c r).1.toArray⟩,.string ⟨(cutL c r).2.1.toArray⟩,.bool (cutL c r).2.2])∧∃ q,w'=w.drewN q :=
 cut3_any ⟨r.toArray⟩ c w (by unfold maxLen; simp [ByteArray.size]; omega)
def lenOf:Value → Nat
 | .string s=>s.size
 | _=>0
def boolOf:Value → Nat
 | .bool true=>1
 | _=>0
theorem size_list (l:List UInt8):(⟨l.toArray⟩:ByteArray).size=l.length:=by simp [ByteArray.size]
theorem splitL_next {c:UInt8} {l0 r:List UInt8} {ps:List (List UInt8)} (h:splitL c l0=ps++splitL c r) (hb:(cutL c r).2.2=true):splitL c l0=(ps++[(cutL c r).1])++splitL c (cutL c r).2.1:=by
 rw [h,splitL_cut c r,if_pos hb]; simp
theorem splitL_last {c:UInt8} {l0 r:List UInt8} {ps:List (List UInt8)} (h:splitL c l0=ps++splitL c r) (hb:(cutL c r).2.2=false):splitL c l0=ps++[(cutL c r).1]:=by
 rw [h,splitL_cut c r,if_neg (by simp [hb])]
theorem cutL_dec {c:UInt8} {r:List UInt8} (hb:(cutL c r).2.2=true):(cutL c r).2.1.length < r.length:=by
 have h:=cutL_join c r hb
 have:=congrArg List.length h
 simp at this; omega
set_option maxHeartbeats 1000000 in
theorem split3_any (s:ByteArray) (c:UInt8) (w:World) (hs:s.size≤1048576) :
  Calls Tryz.prog 83 #[.string s,.int .u8 c.toNat] w fun e w'=>∃ v,e=.returned v∧Own w' w.heap.size 9 v (strs (splitL c s.data.toList))∧Below w.heap.size w w':=by
 obtain ⟨i0,hi,hz0,hz1,hz2⟩:=info_parts info9
 go_enter Tryz.func83,Tryz.ntmps83
 go_wp2;have hs0:s=⟨s.data.toList.toArray⟩:=by apply ByteArray.ext; simp
 have hl:=len_data s;generalize s.data.toList=l0 at hs0 hl ⊢;subst hs0
 go_loopw [0,5,6] (fun x v m wr=>∃ (r:List UInt8) (ps:List (List UInt8)) (b:Bool),x=.string ⟨r.toArray⟩∧m=.bool b∧Own wr w.heap.size 9 v (strs ps)∧Below w.heap.size w wr∧w.heap.size≤wr.heap.size∧ps.length+r.length≤l0.length+1∧r.length≤l0.length ∧
   Hid (if b=true then splitL c l0=ps++splitL c r∧ps.length+r.length≤l0.length else splitL c l0=ps)) (fun x _ m _=>lenOf x+boolOf m)
 case atStart=>exact ⟨l0,[],true,rfl,rfl,Own.nil _ _ _,Below.refl _ _,Nat.le_refl _,by simp,by omega,show _=_∧_ from ⟨rfl,by simp⟩⟩
 case round =>
  obtain ⟨r,ps,b,rfl,rfl,hown,hb,hB,hln,hrl,hsp⟩:=hrel
  cases b with
  | false =>
   go_wp2;go_ret;exact ⟨_,rfl,by have:=hsp.out; simp at this; rw [this]; exact hown,hb⟩
  | true =>
   have hsp2:=hsp.out;rw [if_pos rfl] at hsp2;have hsp3:Hid _:=hsp2;clear hsp hsp2;have hcl:=cutL_len c r;have hdec:=@cutL_dec c r;have hnx:=@splitL_next c l0 r ps hsp3.out.1;have hlast:=@splitL_last c l0 r ps hsp3.out.1;have hl2:=hsp3.out.2;rw [size_list] at hs;clear hsp3 hl;go_wp2_with fail
   refine (cut3_list r c _ (by omega)).mono ?_
   rintro e w' ⟨rfl,q,rfl⟩;generalize cutL c r=p at hcl hdec hnx hlast ⊢;obtain ⟨p1,p2,b⟩:=p;have HD:Hid _:=hdec; clear hdec
   have HN:Hid _:=hnx; clear hnx
   have HL:Hid _:=hlast; clear hlast
   have hown1:=hown.below (below_drewN wr q);have hb1:=hb.trans ((below_drewN wr q).mono hB);have hB1:w.heap.size≤(wr.drewN q).heap.size:=hB;clear hown hb hB;generalize wr.drewN q=w1 at hown1 hb1 hB1 ⊢;go_wp2_with (at_builtin; refine wp_app _ rfl (.tmp 16) (.tmp 18) 23 rfl w.heap.size 9 i0 (.string .empty) 16 Tryz.underlying23 hi hz0 hz1 hz2 rfl _ _ rfl (hown1.alloc _) ⟨_,0,none⟩ 1 1 [.string ⟨p1.toArray⟩] rfl rfl (by exact one_new _ _ _) (by intro u hu; simp at hu; subst hu; rfl) (by rw [strs_length]; unfold maxLen; omega) (by rw [strs_length]; omega) w (hb1.alloc (by omega) _) (by simp; omega) ?_; intro v3 w3 hown3 hb3 hB3)
   have e1:[Value.string ⟨p1.toArray⟩]=strs [p1]:=rfl;rw [e1,← strs_append] at hown3
   cases b with
   | true =>
    have hd:p2.length < r.length:=HD.out rfl;have hn:Hid (splitL c l0=ps++[p1]++splitL c p2):=HN.out rfl;clear HD HN HL;go_wp2;go_roundw
    case rel=>exact ⟨p2,ps++[p1],true,rfl,rfl,hown3,hb3,hB3,by simp; omega,by omega,show _=_∧_ from ⟨hn.out,by simp; omega⟩⟩
    case measure=>simp [lenOf,boolOf,size_list]; omega
   | false =>
    have hn:Hid (splitL c l0=ps++[p1]):=HL.out rfl;clear HD HN HL;go_wp2;go_roundw
    case rel=>exact ⟨p2,ps++[p1],false,rfl,rfl,hown3,hb3,hB3,by simp; omega,by omega,hn⟩
    case measure=>simp [lenOf,boolOf,size_list]; omega
theorem hasB_inK (keep:ByteArray) (b:UInt8):hasB b.toNat keep=inK keep.data.toList b.toNat:=by
 rw [hasB,inK]
 congr 1
 funext c
 rw [Bool.eq_iff_iff]; simp
 omega
theorem isB37:isB 37 16=false:=by decide +kernel
theorem one_hexN (w:World) (e:TypeId) (n:Nat) (h:n < 16) :
  ∀ (j:Nat) (u:Value),(Lib.byteCells [hexd n])[j]? = some u → (w.alloc (.cells #[.int .u8 ((((ByteArray.mk #[48,49,50,51,52,53,54,55,56,57,65,66,67,68,69,70])[n]'h).toNat:Nat):Int)] e)).cell? ((⟨w.heap.size,0,none⟩:Addr).add j)=some u:=by
 have:=hexi (n:Int) n (by omega) (by omega)
 simp only [Int.toNat_natCast] at this;rw [this];exact one_new w e _
set_option maxHeartbeats 2000000 in
theorem refescape_any (s keep:ByteArray) (w:World) (hs:3 * s.size≤140737488355328) (hk:keep.size≤maxLen) :
  Calls Tryz.prog 87 #[.string s,.string keep] w fun e w'=>e=.returned (.string ⟨(esc (kpF keep.data.toList) s.data.toList).toArray⟩)∧Below w.heap.size w w':=by
 obtain ⟨i0,hi,hz0,hz1,hz2⟩:=info_parts info5
 go_enter Tryz.func87,Tryz.ntmps87
 go_wp2
 go_loopw [5,6] (fun v i wr=>∃ k:Nat,k≤s.size∧i=.int .i64 k∧Own wr w.heap.size 5 v (Lib.byteCells (esc (kpF keep.data.toList) (s.data.toList.take k)))∧Below w.heap.size w wr∧w.heap.size≤wr.heap.size) (fun _ i _=>s.size - (intOf i).toNat)
 case atStart=>exact ⟨0,Nat.zero_le _,rfl,Own.nil _ _ _,Below.refl _ _,Nat.le_refl _⟩
 case round =>
  obtain ⟨k,hk',rfl,hown,hb,hB⟩:=hrel;have hlen:(Lib.byteCells (esc (kpF keep.data.toList) (s.data.toList.take k))).length≤3 * k:=by
   have:=esc_cells_len (kpF keep.data.toList) (s.data.toList.take k); have:=List.length_take_le k s.data.toList; omega
  by_cases hlt:k < s.size
  ·have hbd:=u8_bd s[k];by_cases hfree:free (kpF keep.data.toList) s[k]=true
   ·have hcs:=esc_cells1 (kpF keep.data.toList) (s.data.toList.take k) s[k] hfree;rw [← take_snoc s k hlt] at hcs;have HC:Hid _:=hcs; clear hcs
    have h37:((s[k].toNat:Int) != 37)=true:=by
     by_cases e:(s[k].toNat:Int)=37
     ·have e':s[k].toNat=37:=by omega
      rw [free,e',kpF] at hfree; simp [isB37] at hfree
     ·simpa using e
    by_cases hpl:isB s[k].toNat 16=true
    ·have hz:(bits BinOp.and IntKind.i64 (cls s[k].toNat) 16 != 0)=true:=by have:=hpl; rw [isB] at this; exact this
     clear hfree hpl;go_wp2_with (first
      | (go_at_call 95; refine (refclass_any _ _ hbd.1 hbd.2).mono ?_; rintro e w' ⟨rfl,rfl⟩)
      | (go_at_call 136; refine (has_any _ _ _ hk).mono ?_; rintro e w' ⟨rfl,rfl⟩)
      | (at_builtin; refine wp_app _ rfl (.tmp 37) (.tmp 41) 100 rfl w.heap.size 5 i0 (.int .u8 0) 1 Tryz.underlying100 hi hz0 hz1 hz2 rfl _ _ rfl (by exact hown.alloc _) ⟨_,0,none⟩ 1 1 (Lib.byteCells [s[k]]) rfl rfl (by first | exact one_hexN _ _ _ (by omega) | exact one_new _ _ _) (byteCells_one _) (by unfold maxLen; omega) (by omega) w (by exact hb.alloc hB _) (by simp; omega) ?_; intro v3 w3 hown3 hb3 hB3))
     rw [HC.out] at hown3;go_wp2;go_roundw
     case rel=>exact ⟨k+1,by omega,by go_num,hown3,hb3,hB3⟩
     case measure=>simp [intOf]; omega
    ·have hpl':isB s[k].toNat 16=false:=by simpa using hpl
     have hz:(bits BinOp.and IntKind.i64 (cls s[k].toNat) 16 != 0)=false:=by have:=hpl'; rw [isB] at this; exact this
     have hh:hasB s[k].toNat keep=true:=by
      rw [hasB_inK]; rw [free,hpl',kpF,if_neg (by simp at h37; omega)] at hfree; simpa using hfree
     clear hfree hpl hpl';go_wp2_with (first
      | (go_at_call 95; refine (refclass_any _ _ hbd.1 hbd.2).mono ?_; rintro e w' ⟨rfl,rfl⟩)
      | (go_at_call 136; refine (has_any _ _ _ hk).mono ?_; rintro e w' ⟨rfl,rfl⟩)
      | (at_builtin; refine wp_app _ rfl (.tmp 37) (.tmp 41) 100 rfl w.heap.size 5 i0 (.int .u8 0) 1 Tryz.underlying100 hi hz0 hz1 hz2 rfl _ _ rfl (by exact hown.alloc _) ⟨_,0,none⟩ 1 1 (Lib.byteCells [s[k]]) rfl rfl (by first | exact one_hexN _ _ _ (by omega) | exact one_new _ _ _) (byteCells_one _) (by unfold maxLen; omega) (by omega) w (by exact hb.alloc hB _) (by simp; omega) ?_; intro v3 w3 hown3 hb3 hB3))
     rw [HC.out] at hown3;go_wp2;go_roundw
     case rel=>exact ⟨k+1,by omega,by go_num,hown3,hb3,hB3⟩
     case measure=>simp [intOf]; omega
   ·have hfree':free (kpF keep.data.toList) s[k]=false:=by simpa using hfree
    have hcs:=esc_cells3 (kpF keep.data.toList) (s.data.toList.take k) s[k] hfree';rw [← take_snoc s k hlt] at hcs;have HC:Hid (Lib.byteCells (esc (kpF keep.data.toList) (s.data.toList.take k))++Lib.byteCells [37]++Lib.byteCells [hexd (s[k].toNat / 16)]++Lib.byteCells [hexd (s[k].toNat % 16)]=Lib.byteCells (esc (kpF keep.data.toList) (s.data.toList.take (k+1)))):=by
     show _=_; rw [← hcs,List.append_assoc,List.append_assoc]; rfl
    clear hcs hfree;have hA:(0:Int)≤(s[k].toNat:Int) / 16:=by omega
    have hB':(s[k].toNat:Int) / 16 < 16:=by omega
    have hD:(0:Int)≤(s[k].toNat:Int) % 16:=by omega
    have hE:(s[k].toNat:Int) % 16 < 16:=by omega
    by_cases h37:(s[k].toNat:Int)=37
    ·have h37':((s[k].toNat:Int) != 37)=false:=by simp [h37]
     clear h37 hfree';go_wp2_with (first
      | (at_builtin; refine wp_app _ rfl (.tmp 43) (.tmp 44) 100 rfl w.heap.size 5 i0 (.int .u8 0) 1 Tryz.underlying100 hi hz0 hz1 hz2 rfl _ _ rfl (by exact hown.alloc _) ⟨_,0,none⟩ 1 1 (Lib.byteCells [37]) rfl rfl (by first | exact one_hexN _ _ _ (by omega) | exact one_new _ _ _) (byteCells_one _) (by unfold maxLen; omega) (by omega) w (by exact hb.alloc hB _) (by simp; omega) ?_; intro v1 w1 hown1 hb1 hB1)
      | (at_builtin; refine wp_app _ rfl (.tmp 46) (.tmp 50) 100 rfl w.heap.size 5 i0 (.int .u8 0) 1 Tryz.underlying100 hi hz0 hz1 hz2 rfl _ _ rfl (by exact hown1.alloc _) ⟨_,0,none⟩ 1 1 (Lib.byteCells [hexd (s[k].toNat / 16)]) rfl rfl (by first | exact one_hexN _ _ _ (by omega) | exact one_new _ _ _) (byteCells_one _) (by simp [Lib.byteCells] at hlen ⊢; unfold maxLen; omega) (by simp [Lib.byteCells] at hlen ⊢; omega) w (by exact hb1.alloc hB1 _) (by simp; omega) ?_; intro v2 w2 hown2 hb2 hB2)
      | (at_builtin; refine wp_app _ rfl (.tmp 52) (.tmp 56) 100 rfl w.heap.size 5 i0 (.int .u8 0) 1 Tryz.underlying100 hi hz0 hz1 hz2 rfl _ _ rfl (by exact hown2.alloc _) ⟨_,0,none⟩ 1 1 (Lib.byteCells [hexd (s[k].toNat % 16)]) rfl rfl (by first | exact one_hexN _ _ _ (by omega) | exact one_new _ _ _) (byteCells_one _) (by simp [Lib.byteCells] at hlen ⊢; unfold maxLen; omega) (by simp [Lib.byteCells] at hlen ⊢; omega) w (by exact hb2.alloc hB2 _) (by simp; omega) ?_; intro v3 w3 hown3 hb3 hB3))
     rw [HC.out] at hown3;go_wp2;go_roundw
     case rel=>exact ⟨k+1,by omega,by go_num,hown3,hb3,hB3⟩
     case measure=>simp [intOf]; omega
    ·have h37':((s[k].toNat:Int) != 37)=true:=by simp [h37]
     have hpl':isB s[k].toNat 16=false:=by rw [free] at hfree'; simp at hfree'; exact hfree'.1
     have hz:(bits BinOp.and IntKind.i64 (cls s[k].toNat) 16 != 0)=false:=by have:=hpl'; rw [isB] at this; exact this
     have hh:hasB s[k].toNat keep=false:=by
      rw [hasB_inK]; rw [free,hpl',kpF,if_neg (by omega)] at hfree'; simpa using hfree'
     clear h37 hfree' hpl';go_wp2_with (first
      | (go_at_call 95; refine (refclass_any _ _ hbd.1 hbd.2).mono ?_; rintro e w' ⟨rfl,rfl⟩)
      | (go_at_call 136; refine (has_any _ _ _ hk).mono ?_; rintro e w' ⟨rfl,rfl⟩)
      | (at_builtin; refine wp_app _ rfl (.tmp 43) (.tmp 44) 100 rfl w.heap.size 5 i0 (.int .u8 0) 1 Tryz.underlying100 hi hz0 hz1 hz2 rfl _ _ rfl (by exact hown.alloc _) ⟨_,0,none⟩ 1 1 (Lib.byteCells [37]) rfl rfl (by first | exact one_hexN _ _ _ (by omega) | exact one_new _ _ _) (byteCells_one _) (by unfold maxLen; omega) (by omega) w (by exact hb.alloc hB _) (by simp; omega) ?_; intro v1 w1 hown1 hb1 hB1)
      | (at_builtin; refine wp_app _ rfl (.tmp 46) (.tmp 50) 100 rfl w.heap.size 5 i0 (.int .u8 0) 1 Tryz.underlying100 hi hz0 hz1 hz2 rfl _ _ rfl (by exact hown1.alloc _) ⟨_,0,none⟩ 1 1 (Lib.byteCells [hexd (s[k].toNat / 16)]) rfl rfl (by first | exact one_hexN _ _ _ (by omega) | exact one_new _ _ _) (byteCells_one _) (by simp [Lib.byteCells] at hlen ⊢; unfold maxLen; omega) (by simp [Lib.byteCells] at hlen ⊢; omega) w (by exact hb1.alloc hB1 _) (by simp; omega) ?_; intro v2 w2 hown2 hb2 hB2)
      | (at_builtin; refine wp_app _ rfl (.tmp 52) (.tmp 56) 100 rfl w.heap.size 5 i0 (.int .u8 0) 1 Tryz.underlying100 hi hz0 hz1 hz2 rfl _ _ rfl (by exact hown2.alloc _) ⟨_,0,none⟩ 1 1 (Lib.byteCells [hexd (s[k].toNat % 16)]) rfl rfl (by first | exact one_hexN _ _ _ (by omega) | exact one_new _ _ _) (byteCells_one _) (by simp [Lib.byteCells] at hlen ⊢; unfold maxLen; omega) (by simp [Lib.byteCells] at hlen ⊢; omega) w (by exact hb2.alloc hB2 _) (by simp; omega) ?_; intro v3 w3 hown3 hb3 hB3))
     rw [HC.out] at hown3;go_wp2;go_roundw
     case rel=>exact ⟨k+1,by omega,by go_num,hown3,hb3,hB3⟩
     case measure=>simp [intOf]; omega
  ·have hta:=take_all s k (by omega);rw [hta] at hown;have hcv:=conv_own (P:=Tryz.prog) _ Tryz.underlying100 Tryz.underlying5 Tryz.underlying9 hown;clear hta hlen;go_wp2;go_ret;exact ⟨rfl,hb⟩
def mtB (j:Nat) (c:Int):Bool:=((hexd j).toNat:Int)==c || ((lowb (hexd j)).toNat:Int)==c
def wfrom:Nat → Nat → Int → Int
 | 0,_,_=>-1
 | n+1,k,c=>if mtB k c then k else wfrom n (k+1) c
def worthV (c:Int):Int:=wfrom 16 0 c
theorem wfrom_step {k:Nat} {c:Int} (hk:k < 16) (h:mtB k c=false):wfrom (16 - k) k c=wfrom (16 - (k+1)) (k+1) c:=by
 rw [show 16 - k=(16 - (k+1))+1 by omega,wfrom,if_neg (by simp [h])]
theorem wfrom_hit {k:Nat} {c:Int} (hk:k < 16) (h:mtB k c=true):wfrom (16 - k) k c=k:=by
 rw [show 16 - k=(16 - (k+1))+1 by omega,wfrom,if_pos h]
theorem worth_hex {b:UInt8} (h:isB b.toNat 4=true):worthV b.toNat=hexv b.toNat:=by
 have hh:∀ n:Fin 256,isB (n.val:Int) 4=true → worthV (n.val:Int)=hexv (n.val:Int):=by decide +kernel
 exact hh ⟨b.toNat,b.toNat_lt⟩ h
theorem worth_not {b:UInt8} (h:isB b.toNat 4=false):worthV b.toNat=-1:=by
 have hh:∀ n:Fin 256,isB (n.val:Int) 4=false → worthV (n.val:Int)=-1:=by decide +kernel
 exact hh ⟨b.toNat,b.toNat_lt⟩ h
theorem hexAt (k:Nat) (hk:k < 16):((ByteArray.mk #[48,49,50,51,52,53,54,55,56,57,65,66,67,68,69,70])[k]'hk)=hexd k:=by
 have hh:∀ n:Fin 16,((ByteArray.mk #[48,49,50,51,52,53,54,55,56,57,65,66,67,68,69,70])[n.val]'n.isLt)=hexd n.val:=by decide +kernel
 exact hh ⟨k,hk⟩
theorem low1 (k:Nat) (hk:k < 16) (w:World) :
  Calls Tryz.prog 79 #[.string ((ByteArray.mk #[48,49,50,51,52,53,54,55,56,57,65,66,67,68,69,70]).extract k (k+1))] w fun e w'=>e=.returned (.string ⟨#[lowb (hexd k)]⟩)∧Below w.heap.size w w':=by
 have hh:∀ n:Fin 16,(ByteArray.mk #[48,49,50,51,52,53,54,55,56,57,65,66,67,68,69,70]).extract n.val (n.val+1)=⟨#[hexd n.val]⟩:=by decide +kernel
 rw [hh ⟨k,hk⟩];exact reflower_txt ⟨#[hexd k]⟩ w (by simp [ByteArray.size])
theorem byte0 (b:UInt8):((ByteArray.mk #[b])[0]'(Nat.one_pos))=b:=rfl
set_option maxHeartbeats 1000000 in
theorem worth_any (c:Int) (w:World) :
  Calls Tryz.prog 169 #[.int .u8 c] w fun e w'=>e=.returned (.int .i64 (worthV c))∧Below w.heap.size w w':=by
 go_enter Tryz.func169,Tryz.ntmps169
 go_wp2
 go_loopw [3] (fun i wr=>∃ k:Nat,k≤16∧i=.int .i64 k∧Below w.heap.size w wr∧Hid (worthV c=wfrom (16 - k) k c)) (fun i _=>16 - (intOf i).toNat)
 case atStart=>exact ⟨0,Nat.zero_le _,rfl,Below.refl _ _,rfl⟩
 case round =>
  obtain ⟨k,hk,rfl,hb,hw⟩:=hrel;by_cases hlt:k < 16
  ·have hx:=hexAt k hlt;have hy:=byte0 (lowb (hexd k));by_cases h1:((hexd k).toNat:Int)=c
   ·have h1':(((hexd k).toNat:Int)==c)=true:=by simpa using h1
    have hv:Hid (worthV c=k):=by show _=_; rw [hw.out,wfrom_hit hlt (by simp [mtB,h1'])]
    clear h1 hw;go_wp2;go_ret;exact ⟨ret_int hv.out.symm,hb⟩
   ·have h1':(((hexd k).toNat:Int)==c)=false:=by simpa using h1
    by_cases h2:((lowb (hexd k)).toNat:Int)=c
    ·have h2':(((lowb (hexd k)).toNat:Int)==c)=true:=by simpa using h2
     have hv:Hid (worthV c=k):=by show _=_; rw [hw.out,wfrom_hit hlt (by simp [mtB,h2'])]
     clear h1 h2 hw;go_wp2_with (go_at_call 79; refine (low1 k hlt _).mono ?_; rintro e w2 ⟨rfl,hb2⟩)
     go_ret;exact ⟨ret_int hv.out.symm,hb.trans (hb2.mono hb.size)⟩
    ·have h2':(((lowb (hexd k)).toNat:Int)==c)=false:=by simpa using h2
     have hw':Hid (worthV c=wfrom (16 - (k+1)) (k+1) c):=by show _=_; rw [hw.out,wfrom_step hlt (by simp [mtB,h1',h2'])]
     clear h1 h2 hw;go_wp2_with (go_at_call 79; refine (low1 k hlt _).mono ?_; rintro e w2 ⟨rfl,hb2⟩)
     go_roundw
     case rel=>exact ⟨k+1,by omega,by go_num,hb.trans (hb2.mono hb.size),hw'⟩
     case measure=>simp [intOf]; omega
  ·have hk16:k=16:=by omega
   subst hk16;go_wp2;go_ret;exact ⟨ret_int hw.out.symm,hb⟩
set_option maxHeartbeats 2000000 in
theorem refunescape_any (s:ByteArray) (w:World) (hs:s.size≤140737488355328) :
  Calls Tryz.prog 133 #[.string s] w fun e w'=>e=.returned (.tuple #[.string ⟨(unescV s.data.toList).1.toArray⟩,.int .i64 (unescV s.data.toList).2])∧Below w.heap.size w w':=by
 obtain ⟨i0,hi,hz0,hz1,hz2⟩:=info_parts info5
 go_enter Tryz.func133,Tryz.ntmps133
 go_wp2_with fail
 go_loopw [4,5] (fun v i wr=>∃ (k:Nat) (acc:List UInt8),k≤s.size∧i=.int .i64 k∧acc.length≤k∧Own wr w.heap.size 5 v (Lib.byteCells acc)∧Below w.heap.size w wr∧w.heap.size≤wr.heap.size ∧
   Hid (UneAt s.data.toList acc (s.data.toList.drop k))) (fun _ i _=>s.size - (intOf i).toNat)
 case atStart=>exact ⟨0,[],Nat.zero_le _,rfl,Nat.le_refl _,Own.nil _ _ _,Below.refl _ _,Nat.le_refl _,show UneAt _ _ _ by rw [List.drop_zero]; exact uneAt0 _⟩
 case round =>
  obtain ⟨k,acc,hk,rfl,hac,hown,hb,hB,hu⟩:=hrel;by_cases hlt:k < s.size
  ·have hu':=hu.out;rw [drop_cons s k hlt] at hu';by_cases h37:(s[k].toNat:Int)=37
   ·have c1:((s[k].toNat:Int) != 37)=false:=by simp [h37]
    by_cases hsh:k+2 < s.size
    ·rw [drop_cons s (k+1) (by omega),drop_cons s (k+1+1) (by omega)] at hu';by_cases hx1:isB s[k+1].toNat 4=true
     ·by_cases hx2:isB s[k+2].toNat 4=true
      ·have hn:Hid (UneAt s.data.toList (acc++[hxb s[k+1] s[k+2]]) (s.data.toList.drop (k+1+1+1))):=uneAt_hex hu' h37 hx1 hx2;have hw1:=worth_hex hx1;have hw2:=worth_hex hx2;have hd1:=hexv_bd hx1;have hd2:=hexv_bd hx2;have hv:=hxb_toNat hx1 hx2;clear hu hu' h37;go_wp2_with (go_at_call 169; refine (worth_any _ _).mono ?_; rintro e w5 ⟨rfl,h5⟩; replace hown:=hown.below h5; replace hb:=hb.trans (h5.mono hB); replace hB:=Nat.le_trans hB h5.size; clear h5)
       replace hown:=hown.drew;replace hb:=hb.drew;have q1:IntKind.i64.wrap ((k:Int)+1)=(k:Int)+1:=by simp [IntKind.wrap,IntKind.signed,IntKind.bits]; omega
       have q2:IntKind.i64.wrap ((k:Int)+2)=(k:Int)+2:=by simp [IntKind.wrap,IntKind.signed,IntKind.bits]; omega
       have q3:((k:Int)+1).toNat=k+1:=by omega
       have q4:((k:Int)+2).toNat=k+2:=by omega
       have q5:(0:Int)≤(k:Int)+1:=by omega
       have q6:(k:Int)+1 < (s.size:Int):=by omega
       have q7:(0:Int)≤(k:Int)+2:=by omega
       have q8:(k:Int)+2 < (s.size:Int):=by omega
       have m1:IntKind.i64.wrap (16 * hexv s[k+1].toNat)=16 * hexv s[k+1].toNat:=by simp [IntKind.wrap,IntKind.signed,IntKind.bits]; omega
       have m2:IntKind.i64.wrap (16 * hexv s[k+1].toNat+hexv s[k+2].toNat)=16 * hexv s[k+1].toNat+hexv s[k+2].toNat:=by simp [IntKind.wrap,IntKind.signed,IntKind.bits]; omega
       have m3:IntKind.u8.wrap (16 * hexv s[k+1].toNat+hexv s[k+2].toNat)=((hxb s[k+1] s[k+2]).toNat:Int):=by rw [hv]; simp [IntKind.wrap,IntKind.signed,IntKind.bits]; omega
       clear hv
       go_region_law (first | (refine step_app rfl (.tmp 43) (.tmp 57) 100 rfl w.heap.size 5 i0 (.int .u8 0) 1 Tryz.underlying100 hi hz0 hz1 hz2 rfl _ _ rfl (by exact hown.alloc _) ⟨_,0,none⟩ 1 1 (Lib.byteCells [hxb s[k+1] s[k+2]]) rfl rfl (by exact one_new _ _ _) (byteCells_one _) (by rw [Lib.byteCells_length]; unfold maxLen; omega) (by rw [Lib.byteCells_length]; omega) w (by exact hb.alloc hB _) (by simp; omega) ?_; intro v3 w3 hown3 hb3 hB3) | (go_simp; go_at_call 169; refine (worth_any _ _).mono ?_; rintro e w5 ⟨rfl,h5⟩; replace hown:=hown.below h5; replace hb:=hb.trans (h5.mono hB); replace hB:=Nat.le_trans hB h5.size; clear h5))
       all_goals
        rw [byteCells_snoc] at hown3;go_wp2;go_roundw
        case rel=>exact ⟨k+1+1+1,_,by omega,by go_num,by simp; omega,hown3,hb3,hB3,hn⟩
        case measure=>simp [intOf]; omega
      ·have hx2':isB s[k+2].toNat 4=false:=by simpa using hx2
       have hv:Hid (unescV s.data.toList=([],12)):=unescV_none (uneAt_bad hu' h37 (by rw [hx1,hx2']; rfl));have hw1:=worth_hex hx1;have hw2:=worth_not hx2';have hd1:=hexv_bd hx1;clear hu hu' h37 hx1 hx2 hx2';go_wp2_with (go_at_call 169; refine (worth_any _ _).mono ?_; rintro e w5 ⟨rfl,h5⟩; replace hown:=hown.below h5; replace hb:=hb.trans (h5.mono hB); replace hB:=Nat.le_trans hB h5.size; clear h5)
       go_ret2;exact ⟨ret_str [] 12 hv.out,hb⟩
     ·have hx1':isB s[k+1].toNat 4=false:=by simpa using hx1
      have hv:Hid (unescV s.data.toList=([],12)):=unescV_none (uneAt_bad hu' h37 (by rw [hx1']; rfl));have hw1:=worth_not hx1';clear hu hu' h37 hx1 hx1';go_wp2_with (go_at_call 169; refine (worth_any _ _).mono ?_; rintro e w5 ⟨rfl,h5⟩; replace hown:=hown.below h5; replace hb:=hb.trans (h5.mono hB); replace hB:=Nat.le_trans hB h5.size; clear h5)
      go_ret2;exact ⟨ret_str [] 12 hv.out,hb⟩
    ·have hv:Hid (unescV s.data.toList=([],12)):=unescV_none (uneAt_short hu' h37 (by rw [List.length_drop,len_data]; omega));clear hu hu' h37;go_wp2;go_ret2;exact ⟨ret_str [] 12 hv.out,hb⟩
   ·have c1:((s[k].toNat:Int) != 37)=true:=by simp [h37]
    have hn:Hid (UneAt s.data.toList (acc++[s[k]]) (s.data.toList.drop (k+1))):=uneAt_plain hu' h37;clear hu hu' h37;go_wp2_with (at_builtin; refine wp_app _ rfl (.tmp 14) (.tmp 18) 100 rfl w.heap.size 5 i0 (.int .u8 0) 1 Tryz.underlying100 hi hz0 hz1 hz2 rfl _ _ rfl (by exact hown.alloc _) ⟨_,0,none⟩ 1 1 (Lib.byteCells [s[k]]) rfl rfl (by exact one_new _ _ _) (byteCells_one _) (by rw [Lib.byteCells_length]; unfold maxLen; omega) (by rw [Lib.byteCells_length]; omega) w (by exact hb.alloc hB _) (by simp; omega) ?_; intro v3 w3 hown3 hb3 hB3)
    rw [byteCells_snoc] at hown3;go_wp2;go_roundw
    case rel=>exact ⟨k+1,_,by omega,by go_num,by simp; omega,hown3,hb3,hB3,hn⟩
    case measure=>simp [intOf]; omega
  ·have hu':=hu.out;rw [drop_all s k (by omega)] at hu';have hv:Hid (unescV s.data.toList=(acc,0)):=unescV_some (uneAt_end hu');have hcv:=conv_own (P:=Tryz.prog) _ Tryz.underlying100 Tryz.underlying5 Tryz.underlying9 hown;clear hu hu';go_wp2;go_ret2;exact ⟨ret_str acc 0 hv.out,hb⟩
theorem ret_wr {p:List UInt8 × Bool} {x:List UInt8} {b:Bool} (h:p=(x,b)):Ending.returned (.tuple #[.string ⟨x.toArray⟩,.bool b])=.returned (.tuple #[.string ⟨p.1.toArray⟩,.bool p.2]):=by rw [h]
set_option maxHeartbeats 1000000 in
theorem written_any (s keep:ByteArray) (w:World) (hs:s.size≤140737488355328) (hk:keep.size≤maxLen) :
  Calls Tryz.prog 82 #[.string s,.string keep] w fun e w'=>e=.returned (.tuple #[.string ⟨(writtenV keep.data.toList s.data.toList).1.toArray⟩,.bool (writtenV keep.data.toList s.data.toList).2])∧Below w.heap.size w w':=by
 go_enter Tryz.func82,Tryz.ntmps82
 go_wp2
 go_loop [6] (fun i=>∃ k:Nat,k≤s.size∧i=.int .i64 k∧Hid ((s.data.toList.take k).all (okw keep.data.toList)=true)) (fun i=>s.size - (intOf i).toNat)
 case atStart=>exact ⟨0,by omega,rfl,rfl⟩
 case round =>
  obtain ⟨k,hk',rfl,hall⟩:=hrel;by_cases hlt:k < s.size
  ·have hbd:=u8_bd s[k];by_cases h37:s[k]=37
   ·have e37:((s[k].toNat:Int) != 37)=false:=by rw [h37]; rfl
    have ha:Hid ((s.data.toList.take (k+1)).all (okw keep.data.toList)=true):=okw_snoc hlt hall.out (by simp [okw,h37]);clear h37 hall;go_wp2
    go_round
    case rel=>exact ⟨k+1,by omega,by go_num,ha⟩
    case measure=>simp [intOf]; omega
   ·have e37:((s[k].toNat:Int) != 37)=true:=by
     have:=u8_ne (b:=37) h37
     simp only [bne,Bool.not_eq_true']; exact this
    by_cases hx:isB s[k].toNat 16=true
    ·have hx2:(bits BinOp.and IntKind.i64 (cls s[k].toNat) 16==0)=false:=by simpa [isB] using hx
     have ha:Hid ((s.data.toList.take (k+1)).all (okw keep.data.toList)=true):=okw_snoc hlt hall.out (by simp [okw,hx]);clear h37 hall hx;go_wp2_with (go_at_call 95; refine (refclass_any _ _ hbd.1 hbd.2).mono ?_; rintro e w' ⟨rfl,rfl⟩)
     go_round
     case rel=>exact ⟨k+1,by omega,by go_num,ha⟩
     case measure=>simp [intOf]; omega
    ·have hx2:(bits BinOp.and IntKind.i64 (cls s[k].toNat) 16==0)=true:=by simpa [isB] using hx
     by_cases hh:hasL s[k] keep.data.toList=true
     ·have ha:Hid ((s.data.toList.take (k+1)).all (okw keep.data.toList)=true):=okw_snoc hlt hall.out (by simp [okw,hh]);clear h37 hall hx;go_wp2_with (first
       | (go_at_call 95; refine (refclass_any _ _ hbd.1 hbd.2).mono ?_; rintro e w' ⟨rfl,rfl⟩)
       | (go_at_call 81; refine (has3_any keep s[k] _ hk).mono ?_; rintro e w' ⟨rfl,rfl⟩))
      go_round
      case rel=>exact ⟨k+1,by omega,by go_num,ha⟩
      case measure=>simp [intOf]; omega
     ·have hh':hasL s[k] keep.data.toList=false:=by simpa using hh
      have hb:Hid (writtenV keep.data.toList s.data.toList=([],false)):=written_bad hlt (by
       simp only [okw,Bool.or_eq_false_iff,beq_eq_false_iff_ne,ne_eq];exact ⟨h37,by simpa using hx,hh'⟩)
      clear h37 hall hx hh;go_wp2_with (first
       | (go_at_call 95; refine (refclass_any _ _ hbd.1 hbd.2).mono ?_; rintro e w' ⟨rfl,rfl⟩)
       | (go_at_call 81; refine (has3_any keep s[k] _ hk).mono ?_; rintro e w' ⟨rfl,rfl⟩))
      go_ret2;exact ⟨ret_wr (x:=[]) hb.out,Below.refl _ _⟩
  ·rw [take_all s k (by omega)] at hall;have hv:=written_all hall.out;have HV:Hid _:=hv; clear hv hall
   go_wp2_with (go_at_call 133; refine (refunescape_any _ _ hs).mono ?_; rintro e w1 ⟨rfl,hw1⟩)
   all_goals go_ret2
   all_goals exact ⟨ret_wr HV.out,hw1⟩
def parsCells (ps:List Par):List Value:=ps.flatMap parCells
theorem parsCells_len (ps:List Par):(parsCells ps).length=ps.length * 3:=by
 induction ps with
 | nil=>rfl
 | cons p ps ih=>simp [parsCells,parCells] at ih ⊢; omega
theorem parsCells_get (ps:List Par) (k:Nat) (hk:k < ps.length):(parsCells ps)[k * 3]? = some (.string ⟨ps[k].name.toArray⟩)∧(parsCells ps)[k * 3+1]? = some (.string ⟨ps[k].value.toArray⟩)∧(parsCells ps)[k * 3+2]? = some (.bool ps[k].has):=by
 induction ps generalizing k with
 | nil=>simp at hk
 | cons p ps ih =>
  have e:parsCells (p :: ps)=parCells p++parsCells ps:=rfl
  cases k with
  | zero=>rw [e]; simp [parCells]
  | succ k =>
   have:=ih k (by simpa using hk)
   rw [e,show (k+1) * 3=k * 3+3 by omega]
   simpa [parCells] using this
def OwnP (w:World) (B:Nat) (v:Value) (ps:List Par):Prop:=w.ownsRow B 59 3 v ps.length (parsCells ps)
theorem OwnP.nil (w:World) (B:Nat):OwnP w B (.slice none 0 0) []:=World.ownsRow_nil _ _ _ _
theorem OwnP.alloc {w:World} {B:Nat} {v:Value} {ps:List Par} (h:OwnP w B v ps) (o:Obj):OwnP (w.alloc o) B v ps:=World.ownsRow.alloc h o
theorem OwnP.below {w w':World} {B:Nat} {v:Value} {ps:List Par} (h:OwnP w B v ps) (hb:Below w.heap.size w w'):OwnP w' B v ps:=by
 obtain ⟨h1,h2⟩:=h;refine ⟨h1,?_⟩
 rcases h2 with h2 | ⟨g,cap,cur,hv,hg,hh,r⟩
 ·exact Or.inl h2
 ·exact Or.inr ⟨g,cap,cur,hv,hg,by rw [hb.block g (Array.getElem?_eq_some_iff.1 hh).1]; exact hh,r⟩
theorem OwnP.parsAt {w:World} {B:Nat} {v:Value} {ps:List Par} (h:OwnP w B v ps):ParsAt w v ps:=by
 have h0:=h
 rcases h.2 with ⟨rfl,hn⟩ | ⟨g,cap,cur,rfl,hb,hg,r⟩
 ·exact Or.inl ⟨rfl,List.eq_nil_of_length_eq_zero hn⟩
 ·refine Or.inr ⟨⟨g,0,none⟩,cap,rfl,fun k hk=>⟨(Array.getElem?_eq_some_iff.1 hg).1,?_⟩⟩
  obtain ⟨c0,c1,c2⟩:=parsCells_get ps k hk;have a0:=World.ownsRow.cells h0 (g:=g) rfl (k * 3) _ c0;have a1:=World.ownsRow.cells h0 (g:=g) rfl (k * 3+1) _ c1;have a2:=World.ownsRow.cells h0 (g:=g) rfl (k * 3+2) _ c2;have e:∀ j,(⟨g,0,none⟩:Addr).add j=⟨g,j,none⟩:=fun j=>by unfold Addr.add; split <;> simp_all
  rw [e] at a0 a1 a2;unfold ParAt;rw [e];exact ⟨a0,a1,a2⟩
theorem infoPar:(Tryz.prog.info? 59).map (fun i=>(i.zero,i.size,i.bytes))=some (some (.agg #[.string .empty,.string .empty,.bool false]),3,40):=by kernel_rfl
theorem wp_appP {P:Program} (w:World) {ops:Array Oper} {rest:List Oper} {o:Oper} {a:Act} {Q:Exit → Act → World → Prop} (hgd:o.guard=none)
  (s x:Operand) (t:TypeId) (ho:o.op=Op.call { callee:=Callee.builtin Builtin.append,args:=#[s,x],argTypes:=#[t,t] }) (B:Nat) (i:TypeInfo)
  (z:Value) (ht:P.underlying t=some (TypeDesc.slice 59)) (hi:P.info? 59=some i) (hz:i.zero=some z) (hsize:i.size=3) (hby:i.bytes=40) (hzs:z.cells.size=3)
  (v:Value) (ps:List Par) (hs:a.eval s=v) (hown:OwnP w B v ps) (ad:Addr) (c:Nat) (p:Par) (hx:a.eval x=Value.slice (some ad) 1 c)
  (hnews:∀ (j:Nat) (u:Value),(parCells p)[j]? = some u → w.cell? (ad.add j)=some u)
  (hlen:ps.length≤2000000) (w0:World) (hb:Below B w0 w) (hB:B≤w.heap.size)
  (h:∀ (v':Value) (w':World),OwnP w' B v' (ps++[p]) → Below B w0 w' → B≤w'.heap.size → wpList P ops Q rest (a.put o.dst v') w'):wpList P ops Q (o :: rest) a w:=by
 refine wpList_append_own w hgd s x t ho B 59 i z 3 40 ht hi hz hsize hby hzs (by decide) v ps.length (parsCells ps) hs hown ad 1 c (parCells p) hx rfl hnews (by intro u hu; simp [parCells] at hu; rcases hu with rfl | rfl | rfl <;> rfl) (by unfold maxLen; omega) (by omega) hB ?_
 intro v' w' hown' hgr _;refine h v' w' ?_ (hb.grown hgr hB (fun k hk=>(World.ownsRow.lt hown k hk).1)) (Nat.le_trans hB hgr.size)
 unfold OwnP;have e:parsCells (ps++[p])=parsCells ps++parCells p:=by simp [parsCells]
 rw [e,List.length_append];exact hown'
def ndsCells (cs:List NdC):List Value:=cs.flatMap ndCells
theorem ndCells_len (c:NdC):(ndCells c).length=4:=rfl
theorem ndsCells_len (cs:List NdC):(ndsCells cs).length=cs.length * 4:=by
 induction cs with
 | nil=>rfl
 | cons c cs ih =>
  have e:ndsCells (c :: cs)=ndCells c++ndsCells cs:=rfl;rw [e,List.length_append,ih,ndCells_len,List.length_cons]; omega
theorem ndsCells_get (cs:List NdC) (k:Nat) (hk:k < cs.length) (j:Nat) (u:Value) (h:(ndCells cs[k])[j]? = some u):(ndsCells cs)[k * 4+j]? = some u:=by
 induction cs generalizing k with
 | nil=>simp at hk
 | cons c cs ih =>
  have e:ndsCells (c :: cs)=ndCells c++ndsCells cs:=rfl
  cases k with
  | zero =>
   have hj:j < 4:=by have:=(List.getElem?_eq_some_iff.1 h).1; simpa [ndCells] using this
   rw [e,List.getElem?_append_left (by rw [ndCells_len]; omega),Nat.zero_mul,Nat.zero_add];exact h
  | succ k =>
   have:=ih k (by simpa using hk) (by simpa using h)
   rw [e,List.getElem?_append_right (by rw [ndCells_len]; omega),ndCells_len,show (k+1) * 4+j - 4=k * 4+j by omega];exact this
theorem ownP_mono {w:World} {B C:Nat} {v:Value} {ps:List Par} (h:OwnP w B v ps) (hc:C≤B):OwnP w C v ps:=by
 obtain ⟨h1,h2⟩:=h;refine ⟨h1,?_⟩
 rcases h2 with h2 | ⟨g,cap,cur,hv,hg,r⟩
 ·exact Or.inl h2
 ·exact Or.inr ⟨g,cap,cur,hv,Nat.le_trans hc hg,r⟩
def OwnN (w:World) (B:Nat) (v:Value) (cs:List NdC):Prop:=w.ownsRow B 52 4 v cs.length (ndsCells cs)∧∀ c ∈ cs,OwnP w B c.a c.nd.attrs
theorem OwnN.nil (w:World) (B:Nat):OwnN w B (.slice none 0 0) []:=⟨World.ownsRow_nil _ _ _ _,fun c hc=>by simp at hc⟩
theorem OwnN.below {w w':World} {B:Nat} {v:Value} {cs:List NdC} (h:OwnN w B v cs) (hb:Below w.heap.size w w'):OwnN w' B v cs:=by
 obtain ⟨⟨h1,h2⟩,h3⟩:=h;refine ⟨⟨h1,?_⟩,fun c hc=>(h3 c hc).below hb⟩
 rcases h2 with h2 | ⟨g,cap,cur,hv,hg,hh,r⟩
 ·exact Or.inl h2
 ·exact Or.inr ⟨g,cap,cur,hv,hg,by rw [hb.block g (Array.getElem?_eq_some_iff.1 hh).1]; exact hh,r⟩
theorem OwnN.mono {w:World} {B C:Nat} {v:Value} {cs:List NdC} (h:OwnN w B v cs) (hc:C≤B):OwnN w C v cs:=by
 obtain ⟨⟨h1,h2⟩,h3⟩:=h;refine ⟨⟨h1,?_⟩,fun c hc'=>ownP_mono (h3 c hc') hc⟩
 rcases h2 with h2 | ⟨g,cap,cur,hv,hg,r⟩
 ·exact Or.inl h2
 ·exact Or.inr ⟨g,cap,cur,hv,Nat.le_trans hc hg,r⟩
theorem OwnN.alloc {w:World} {B:Nat} {v:Value} {cs:List NdC} (h:OwnN w B v cs) (o:Obj):OwnN (w.alloc o) B v cs:=h.below ((Below.refl _ w).alloc (Nat.le_refl _) o)
theorem OwnN.form {w:World} {B:Nat} {v:Value} {cs:List NdC} (h:OwnN w B v cs):∃ a cap,v=.slice a cs.length cap:=by
 rcases h.1.2 with ⟨rfl,hn⟩ | ⟨g,cap,cur,rfl,_⟩
 ·exact ⟨none,0,by rw [hn]⟩
 ·exact ⟨_,cap,rfl⟩
theorem OwnN.ndsAt {w:World} {B:Nat} {v:Value} {cs:List NdC} (h:OwnN w B v cs):NdsAt w v cs:=by
 have h0:=h.1
 rcases h.1.2 with ⟨rfl,hn⟩ | ⟨g,cap,cur,rfl,hb,hg,r⟩
 ·exact ⟨none,0,by rw [hn],fun k hk=>by omega⟩
 ·refine ⟨some ⟨g,0,none⟩,cap,rfl,fun k hk=>⟨_,rfl,(Array.getElem?_eq_some_iff.1 hg).1,?_,(h.2 _ (List.getElem_mem hk)).parsAt⟩⟩
  have e:∀ j,(⟨g,0,none⟩:Addr).add j=⟨g,j,none⟩:=fun j=>by unfold Addr.add; split <;> simp_all
  have c:∀ j u,(ndCells cs[k])[j]? = some u → w.cell? ⟨g,k * 4+j,none⟩=some u:=fun j u hj=>by
   have:=World.ownsRow.cells h0 (g:=g) rfl (k * 4+j) _ (ndsCells_get cs k hk j u hj)
   rw [e] at this; exact this
  refine ⟨?_,?_,?_,?_⟩
  ·rw [e]; exact c 0 _ rfl
  ·rw [e]; exact c 1 _ rfl
  ·rw [e]; exact c 2 _ rfl
  ·rw [e]; exact c 3 _ rfl
theorem rows_neN {w:World} {B1 B2 e1 e2 s1 s2 n1 n2:Nat} {v1 v2:Value} {x1 x2:List Value} (h1:w.ownsRow B1 e1 s1 v1 n1 x1) (h2:w.ownsRow B2 e2 s2 v2 n2 x2) (hne:e2 ≠ e1):v2.ownBlock=none∨v2.ownBlock ≠ v1.ownBlock:=by
 rcases h2.2 with ⟨rfl,_⟩ | ⟨g2,c2,u2,rfl,_,hg2,_⟩
 ·exact Or.inl rfl
 ·right
  rcases h1.2 with ⟨rfl,_⟩ | ⟨g1,c1,u1,rfl,_,hg1,_⟩
  ·simp [Value.ownBlock]
  ·simp only [Value.ownBlock];intro e
   injection e with e
   rw [e,hg1] at hg2
   injection hg2 with hg2
   injection hg2 with _ hg2
   exact hne hg2.symm
theorem infoNodeB:(Tryz.prog.info? 52).map (fun i=>(i.zero,i.size,i.bytes))=some (some (.agg #[.int .i64 0,.string .empty,.slice none 0 0,.string .empty]),4,64):=by kernel_rfl
def setText (c:NdC) (t:List UInt8):NdC:=⟨{ c.nd with text:=t },c.a⟩
theorem nds_set (t:List UInt8):∀ (cs:List NdC) (k:Nat) (hk:k < cs.length),ndsCells (cs.set k (setText cs[k] t))=(ndsCells cs).set (k * 4+3) (.string ⟨t.toArray⟩)
 | [],k,hk=>by simp at hk
 | c :: cs,0,hk=>by
  have e:∀ (c:NdC) (cs:List NdC),ndsCells (c :: cs)=ndCells c++ndsCells cs:=fun _ _=>rfl;rw [List.set_cons_zero,e,e]
  simp [ndCells,setText]
 | c :: cs,k+1,hk=>by
  have e:∀ (c:NdC) (cs:List NdC),ndsCells (c :: cs)=ndCells c++ndsCells cs:=fun _ _=>rfl;have ih:=nds_set t cs k (by simpa using hk);rw [List.set_cons_succ,e,e];have e2:(c :: cs)[k+1]=cs[k]'(by simpa using hk):=rfl;rw [e2,ih,List.set_append_right _ _ (by rw [ndCells_len]; omega),ndCells_len]
  congr 2
  omega
theorem OwnN.text {w:World} {B g cap:Nat} {cs:List NdC} (h:OwnN w B (.slice (some ⟨g,0,none⟩) cs.length cap) cs) (k:Nat) (hk:k < cs.length) (t:List UInt8) :
  OwnN (w.setCell ⟨g,k * 4+3,none⟩ (.string ⟨t.toArray⟩)) B (.slice (some ⟨g,0,none⟩) cs.length cap) (cs.set k (setText cs[k] t)):=by
 have keep:∀ (ps:List Par) (u:Value),OwnP w B u ps → OwnP (w.setCell ⟨g,k * 4+3,none⟩ (.string ⟨t.toArray⟩)) B u ps:=fun ps u hu=>by
  refine ownsRow_setCell_other hu ?_ _
  rcases rows_neN h.1 hu (by decide) with h1 | h1
  ·rw [h1]; simp
  ·simpa [Value.ownBlock] using h1
 refine ⟨?_,fun c hc=>?_⟩
 ·rw [nds_set t cs k hk,List.length_set];exact (World.ownsRow.stored h.1 _ _).1
 ·rcases List.mem_or_eq_of_mem_set hc with hc | hc
  ·exact keep _ _ (h.2 c hc)
  ·subst hc;exact keep _ _ (h.2 cs[k] (List.getElem_mem hk))
structure FrN (v:Value) (w:World) (v':Value) (w':World):Prop where
 os:w'.os=w.os
 tape:w'.tape=w.tape
 output:w'.output=w.output
 size:w.heap.size≤w'.heap.size
 block:∀ b,b < w.heap.size → v.ownBlock ≠ some b → w'.heap[b]? = w.heap[b]?
 own:∀ g,v'.ownBlock=some g → v.ownBlock=some g∨w.heap.size≤g
end Go.Proofs.YtdnekampnkhmfaaGreatDoor
