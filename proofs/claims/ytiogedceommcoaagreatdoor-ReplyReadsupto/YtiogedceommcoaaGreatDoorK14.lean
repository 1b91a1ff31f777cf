/-
  RefQuo, RefParts, AddrKit, AWord, AMay, HeadStepL.
-/
import Derived.Test.YtiogedceommcoaaGreatDoorK16
import Derived.Test.YtiogedceommcoaaGreatDoorK10
set_option linter.unusedVariables false
set_option linter.unusedSimpArgs false
set_option maxRecDepth 20000
namespace Go.Proofs.YtiogedceommcoaaGreatDoor
open Go.RowKit Sc
set_option maxHeartbeats 1000000 in
theorem refquote_any (s:ByteArray) (w:World) (hs:2 * s.size+2≤140737488355328) :
  Calls Tryz.prog 172 #[.string s] w fun e w'=>e=.returned (.tuple #[.string ⟨(quoteV s.data.toList).1.toArray⟩,.int .i64 (quoteV s.data.toList).2])∧Below w.heap.size w w':=by
 obtain ⟨i0,hi,hz0,hz1,hz2⟩:=info_parts info5
 go_enter Tryz.func172,Tryz.ntmps172
 go_wp2
 go_loopw [4,5] (fun v i wr=>∃ k:Nat,k≤s.size∧i=.int .i64 k∧Own wr w.heap.size 5 v (Lib.byteCells (quo (s.data.toList.take k)))∧Below w.heap.size w wr∧w.heap.size≤wr.heap.size∧Hid (hasBar (s.data.toList.take k)=false)) (fun _ i _=>s.size - (intOf i).toNat)
 case atStart=>exact ⟨0,Nat.zero_le _,rfl,Own.nil _ _ _,Below.refl _ _,Nat.le_refl _,rfl⟩
 case round =>
  obtain ⟨k,hk,rfl,hown,hb,hB,hbar⟩:=hrel;have hlen:(Lib.byteCells (quo (s.data.toList.take k))).length≤2 * k:=by
   rw [Lib.byteCells_length]; have:=quo_len (s.data.toList.take k); have:=List.length_take_le k s.data.toList; omega
  by_cases hlt:k < s.size
  ·by_cases hbb:barB s[k].toNat=true
   ·have hq:Hid (quoteV s.data.toList=([],11)):=by show _=_; rw [quoteV,if_pos (hasBar_hit hlt hbb)]
    clear hlen;go_wp2_with (go_at_call 170; refine (broken_any _ _).mono ?_; rintro e w' ⟨rfl,rfl⟩)
    go_ret2;exact ⟨ret_str [] 11 hq.out,hb⟩
   ·have hbb':barB s[k].toNat=false:=by simpa using hbb
    clear hbb;have hbar':Hid (hasBar (s.data.toList.take (k+1))=false):=by show _=_; rw [take_snoc s k hlt,hasBar_snoc,hbar.out,hbb']; rfl
    by_cases hba:bareB s[k].toNat=true
    ·have hcs:=quo_c1 (s.data.toList.take k) s[k] hba;rw [← take_snoc s k hlt] at hcs;have HC:Hid _:=hcs; clear hcs
     go_wp2_with (first
      | (go_at_call 170; refine (broken_any _ _).mono ?_; rintro e w' ⟨rfl,rfl⟩)
      | (go_at_call 171; refine (refbare_any _ _).mono ?_; rintro e w' ⟨rfl,rfl⟩)
      | (at_builtin; refine wp_app _ rfl (.tmp 24) (.tmp 28) 143 rfl w.heap.size 5 i0 (.int .u8 0) 1 Tryz.underlying143 hi hz0 hz1 hz2 rfl _ _ rfl (hown.alloc _) ⟨_,0,none⟩ 1 1 (Lib.byteCells [s[k]]) rfl rfl (by exact one_new _ _ _) (byteCells_one _) (by unfold maxLen; omega) (by omega) w (hb.alloc hB _) (by simp; omega) ?_; intro v3 w3 hown3 hb3 hB3))
     rw [HC.out] at hown3;go_roundw
     case rel=>exact ⟨k+1,by omega,by go_num,hown3,hb3,hB3,hbar'⟩
     case measure=>simp [intOf]; omega
    ·have hba':bareB s[k].toNat=false:=by simpa using hba
     clear hba;have hcs:=quo_c2 (s.data.toList.take k) s[k] hba';rw [← take_snoc s k hlt] at hcs;have HC:Hid _:=hcs; clear hcs
     go_wp2_with (first
      | (go_at_call 170; refine (broken_any _ _).mono ?_; rintro e w' ⟨rfl,rfl⟩)
      | (go_at_call 171; refine (refbare_any _ _).mono ?_; rintro e w' ⟨rfl,rfl⟩)
      | (at_builtin; refine wp_app _ rfl (.tmp 21) (.tmp 22) 143 rfl w.heap.size 5 i0 (.int .u8 0) 1 Tryz.underlying143 hi hz0 hz1 hz2 rfl _ _ rfl (hown.alloc _) ⟨_,0,none⟩ 1 1 (Lib.byteCells [92]) rfl rfl (by exact one_new _ _ _) (byteCells_one _) (by unfold maxLen; omega) (by omega) w (hb.alloc hB _) (by simp; omega) ?_; intro v2 w2 hown2 hb2 hB2)
      | (at_builtin; refine wp_app _ rfl (.tmp 24) (.tmp 28) 143 rfl w.heap.size 5 i0 (.int .u8 0) 1 Tryz.underlying143 hi hz0 hz1 hz2 rfl _ _ rfl (hown2.alloc _) ⟨_,0,none⟩ 1 1 (Lib.byteCells [s[k]]) rfl rfl (by exact one_new _ _ _) (byteCells_one _) (by unfold maxLen; simp [Lib.byteCells] at hlen ⊢; omega) (by simp [Lib.byteCells] at hlen ⊢; omega) w (hb2.alloc hB2 _) (by simp; omega) ?_; intro v3 w3 hown3 hb3 hB3))
     rw [HC.out] at hown3;go_roundw
     case rel=>exact ⟨k+1,by omega,by go_num,hown3,hb3,hB3,hbar'⟩
     case measure=>simp [intOf]; omega
  ·have hta:=take_all s k (by omega);rw [hta] at hown hbar hlen;have hq:Hid (quoteV s.data.toList=(34 :: quo s.data.toList++[34],0)):=by show _=_; rw [quoteV,hbar.out]; rfl
   have hcv:=conv_own (P:=Tryz.prog) _ Tryz.underlying143 Tryz.underlying5 Tryz.underlying9 hown;rw [Lib.byteCells_length] at hlen;have g1:(quo s.data.toList).length+2≤9223372036854775807:=by omega
   have g2:(quo s.data.toList).length+1≤9223372036854775807:=by omega
   have g3:1+(quo s.data.toList).length≤9223372036854775807:=by omega
   have g4:1+(quo s.data.toList).length+1≤9223372036854775807:=by omega
   have hap:Hid (ByteArray.mk #[34]++ByteArray.mk (quo s.data.toList).toArray++ByteArray.mk #[34]=⟨(34 :: quo s.data.toList++[34]).toArray⟩):=by
    show _=_
    have e:(ByteArray.mk #[34])=⟨[34].toArray⟩:=rfl;rw [e,ByteArray.mk_append_mk,ByteArray.mk_append_mk]; rfl
   clear hta;go_wp2;go_ret2;exact ⟨by rw [hq.out]; show Ending.returned (.tuple #[.string _,_])=Ending.returned (.tuple #[.string _,_]); rw [← hap.out]; rfl,hb⟩
theorem own_ne {w:World} {B1 B2 e1 e2:Nat} {v1 v2:Value} {x1 x2:List Value} (h1:Own w B1 e1 v1 x1) (h2:Own w B2 e2 v2 x2) (hne:e2 ≠ e1):v2.ownBlock=none∨v2.ownBlock ≠ v1.ownBlock:=by
 rcases h2.2 with ⟨rfl,_⟩ | ⟨g2,c2,u2,rfl,_,hg2,_⟩
 ·exact Or.inl rfl
 ·right
  rcases h1.2 with ⟨rfl,_⟩ | ⟨g1,c1,u1,rfl,_,hg1,_⟩
  ·simp [Value.ownBlock]
  ·simp only [Value.ownBlock];intro e
   injection e with e
   rw [e,hg1] at hg2
   injection hg2 with hg2
   injection hg2 with _ hg2
   exact hne hg2.symm
theorem wp_app2 {P:Program} (w:World) {ops:Array Oper} {rest:List Oper} {o:Oper} {a:Act} {Q:Exit → Act → World → Prop} (hgd:o.guard=none)
  (s x:Operand) (t:TypeId) (ho:o.op=Op.call { callee:=Callee.builtin Builtin.append,args:=#[s,x],argTypes:=#[t,t] }) (B:Nat) (e:TypeId) (i:TypeInfo)
  (z:Value) (bytes:Nat) (ht:P.underlying t=some (TypeDesc.slice e)) (hi:P.info? e=some i) (hz:i.zero=some z) (hsize:i.size=1) (hby:i.bytes=bytes) (hzs:z.cells.size=1)
  (v:Value) (xs:List Value) (hs:a.eval s=v) (hown:Own w B e v xs) {e2:TypeId} {v2:Value} {xs2:List Value} (hown2:Own w B e2 v2 xs2) (hne:e2 ≠ e)
  (ad:Addr) (m:Nat) (c:Nat) (news:List Value) (hx:a.eval x=Value.slice (some ad) m c) (hl:news.length=m)
  (hnews:∀ (j:Nat) (u:Value),news[j]? = some u → w.cell? (ad.add j)=some u) (h1:∀ u ∈ news,u.oneCell'=true)
  (h63:xs.length+m≤maxLen) (hbytes:(xs.length+m) * bytes≤140737488355328) (w0:World) (hb:Below B w0 w) (hB:B≤w.heap.size)
  (h:∀ (v':Value) (w':World),Own w' B e v' (xs++news) → Own w' B e2 v2 xs2 → Below B w0 w' → B≤w'.heap.size → wpList P ops Q rest (a.put o.dst v') w'):wpList P ops Q (o :: rest) a w:=by
 refine wpList_append_own w hgd s x t ho B e i z 1 bytes ht hi hz hsize hby hzs (by decide) v xs.length xs hs hown ad m c news hx (by simpa using hl) hnews h1 h63 hbytes hB ?_
 intro v' w' hown' hgr _;refine h v' w' ?_ (World.ownsRow.kept hown2 hgr (own_ne hown hown2 hne)) (hb.grown hgr hB (fun k hk=>(World.ownsRow.lt hown k hk).1)) (Nat.le_trans hB hgr.size)
 unfold Own;rw [List.length_append,hl];exact hown'
theorem partsG_c {sep:Int} {p p':Pl} {fr:Bool} {cur:List UInt8} {b:UInt8} {r:List UInt8} (h:pst p b.toNat=(p',fr)) (hn:¬ (fr=true∧(b.toNat:Int)=sep)) :
  partsG sep p cur (b :: r)=partsG sep p' (cur++[b]) r:=by
 rw [partsG,h,if_neg hn]
theorem partsG_s {sep:Int} {p p':Pl} {cur:List UInt8} {b:UInt8} {r:List UInt8} (h:pst p b.toNat=(p',true)) (hn:(b.toNat:Int)=sep) :
  partsG sep p cur (b :: r)=cur :: partsG sep p' [] r:=by
 rw [partsG,h,if_pos ⟨rfl,hn⟩]
set_option maxRecDepth 100000 in
set_option maxHeartbeats 4000000 in
theorem refparts_any (s:ByteArray) (sep:Int) (w:World) (hs:(s.size+1) * 16≤140737488355328) :
  Calls Tryz.prog 74 #[.string s,.int .u8 sep] w fun e w'=>∃ v,e=.returned v∧Own w' w.heap.size 9 v (strs (partsV sep s.data.toList))∧Below w.heap.size w w':=by
 obtain ⟨i0,hi,hz0,hz1,hz2⟩:=info_parts info5;obtain ⟨j0,ki,kz0,kz1,kz2⟩:=info_parts info9
 go_enter Tryz.func74,Tryz.ntmps74
 go_wp2
 go_loopw [5,6,7,8,9] (fun out vb sq sa i wr=>∃ (k:Nat) (ps:List (List UInt8)) (cur:List UInt8) (q a:Bool),k≤s.size∧i=.int .i64 k∧sq=.bool q∧sa=.bool a∧ps.length≤k∧cur.length≤k ∧
   Own wr w.heap.size 9 out (strs ps)∧Own wr w.heap.size 5 vb (Lib.byteCells cur)∧Below w.heap.size w wr∧w.heap.size≤wr.heap.size ∧
   Hid (partsV sep s.data.toList=ps++partsG sep ⟨q,false,a⟩ cur (s.data.toList.drop k))) (fun _ _ _ _ i _=>s.size - (intOf i).toNat)
 case atStart=>exact ⟨0,[],[],false,false,Nat.zero_le _,rfl,rfl,rfl,Nat.le_refl _,Nat.le_refl _,Own.nil _ _ _,Own.nil _ _ _,Below.refl _ _,Nat.le_refl _,rfl⟩
 case round =>
  obtain ⟨k,ps,cur,q,a,hk,rfl,rfl,rfl,hpl,hcl,hout,hcur,hb,hB,hpv⟩:=hrel;by_cases hlt:k < s.size
  ·have hu':=hpv.out;rw [drop_cons s k hlt] at hu';clear hpv
   cases q with
   | true =>
    by_cases h34:(s[k].toNat:Int)=34
    ·have h60:¬ (s[k].toNat:Int)=60:=by omega
     have h62:¬ (s[k].toNat:Int)=62:=by omega
     have h92:¬ (s[k].toNat:Int)=92:=by omega
     have hn:Hid (partsV sep s.data.toList=ps++partsG sep ⟨false,false,a⟩ (cur++[s[k]]) (s.data.toList.drop (k+1))):=by
      show _=_; rw [hu',partsG_c (p':=⟨false,false,a⟩) (fr:=false) (by simp [pst,h34]) (by simp)]
     have e34:((s[k].toNat:Int)==34)=true:=by simpa using h34
     have n34:((s[k].toNat:Int) != 34)=false:=by simp [h34]
     have e60:((s[k].toNat:Int)==60)=false:=by simpa using h60
     have n60:((s[k].toNat:Int) != 60)=true:=by simp [h60]
     have e62:((s[k].toNat:Int)==62)=false:=by simpa using h62
     have n62:((s[k].toNat:Int) != 62)=true:=by simp [h62]
     have e92:((s[k].toNat:Int)==92)=false:=by simpa using h92
     clear hu' h34 h60 h62 h92;go_wp2_with (at_builtin; refine wp_app2 _ rfl (.tmp 86) (.tmp 88) 143 rfl w.heap.size 5 _ (.int .u8 0) 1 Tryz.underlying143 hi hz0 hz1 hz2 rfl _ _ rfl (hcur.alloc _) (hout.alloc _) (by decide) ⟨_,0,none⟩ 1 1 (Lib.byteCells [s[k]]) rfl rfl (by exact one_new _ _ _) (byteCells_one _) (by rw [Lib.byteCells_length]; unfold maxLen; omega) (by rw [Lib.byteCells_length]; omega) w (hb.alloc hB _) (by simp; omega) ?_; intro v3 w3 hown3 hkeep3 hb3 hB3)
     rw [byteCells_snoc] at hown3;go_wp2;go_roundw
     case rel=>exact ⟨k+1,ps,_,false,a,by omega,by go_num,rfl,rfl,by omega,by simp; omega,hkeep3,hown3,hb3,hB3,hn⟩
     case measure=>simp [intOf]; omega
    ·by_cases h92:(s[k].toNat:Int)=92
     ·by_cases hlt1:k+1 < s.size
      ·rw [drop_cons s (k+1) hlt1] at hu';have hn:Hid (partsV sep s.data.toList=ps++partsG sep ⟨true,false,a⟩ (cur++[s[k]]++[s[k+1]]) (s.data.toList.drop (k+1+1))):=by
        show _=_; rw [hu',partsG_c (p':=⟨true,true,a⟩) (fr:=false) (by simp [pst,h92]) (by simp),partsG_c (p':=⟨true,false,a⟩) (fr:=false) (by simp [pst]) (by simp)]
       have e92:((s[k].toNat:Int)==92)=true:=by simpa using h92
       clear hu' h92 h34;go_wp2_with (first
        | (at_builtin; refine wp_app2 _ rfl (.tmp 25) (.tmp 27) 143 rfl w.heap.size 5 _ (.int .u8 0) 1 Tryz.underlying143 hi hz0 hz1 hz2 rfl _ _ rfl (hcur.alloc _) (hout.alloc _) (by decide) ⟨_,0,none⟩ 1 1 (Lib.byteCells [s[k]]) rfl rfl (by exact one_new _ _ _) (byteCells_one _) (by rw [Lib.byteCells_length]; unfold maxLen; omega) (by rw [Lib.byteCells_length]; omega) w (hb.alloc hB _) (by simp; omega) ?_; intro v2 w2 hown2 hkeep2 hb2 hB2)
        | (at_builtin; refine wp_app2 _ rfl (.tmp 36) (.tmp 40) 143 rfl w.heap.size 5 _ (.int .u8 0) 1 Tryz.underlying143 hi hz0 hz1 hz2 rfl _ _ rfl (hown2.alloc _) (hkeep2.alloc _) (by decide) ⟨_,0,none⟩ 1 1 (Lib.byteCells [s[k+1]]) rfl rfl (by exact one_new _ _ _) (byteCells_one _) (by simp [Lib.byteCells]; unfold maxLen; omega) (by simp [Lib.byteCells]; omega) w (hb2.alloc hB2 _) (by simp; omega) ?_; intro v3 w3 hown3 hkeep3 hb3 hB3))
       rw [byteCells_snoc,byteCells_snoc] at hown3;go_wp2;go_roundw
       case rel=>exact ⟨k+1+1,ps,_,true,a,by omega,by go_num,rfl,rfl,by omega,by simp; omega,hkeep3,hown3,hb3,hB3,hn⟩
       case measure=>simp [intOf]; omega
      ·have hn:Hid (partsV sep s.data.toList=ps++partsG sep ⟨true,false,a⟩ (cur++[s[k]]) (s.data.toList.drop (k+1))):=by
        show _=_; rw [hu',partsG_c (p':=⟨true,true,a⟩) (fr:=false) (by simp [pst,h92]) (by simp),drop_all s (k+1) (by omega)]; rfl
       have e92:((s[k].toNat:Int)==92)=true:=by simpa using h92
       clear hu' h92 h34;go_wp2_with (at_builtin; refine wp_app2 _ rfl (.tmp 25) (.tmp 27) 143 rfl w.heap.size 5 _ (.int .u8 0) 1 Tryz.underlying143 hi hz0 hz1 hz2 rfl _ _ rfl (hcur.alloc _) (hout.alloc _) (by decide) ⟨_,0,none⟩ 1 1 (Lib.byteCells [s[k]]) rfl rfl (by exact one_new _ _ _) (byteCells_one _) (by rw [Lib.byteCells_length]; unfold maxLen; omega) (by rw [Lib.byteCells_length]; omega) w (hb.alloc hB _) (by simp; omega) ?_; intro v3 w3 hown3 hkeep3 hb3 hB3)
       rw [byteCells_snoc] at hown3;go_wp2;go_roundw
       case rel=>exact ⟨k+1,ps,_,true,a,by omega,by go_num,rfl,rfl,by omega,by simp; omega,hkeep3,hown3,hb3,hB3,hn⟩
       case measure=>simp [intOf]; omega
     ·
      have hn:Hid (partsV sep s.data.toList=ps++partsG sep ⟨true,false,a⟩ (cur++[s[k]]) (s.data.toList.drop (k+1))):=by
       show _=_; rw [hu',partsG_c (p':=⟨true,false,a⟩) (fr:=false) (by simp [pst,h34,h92]) (by simp)]
      have e34:((s[k].toNat:Int)==34)=false:=by simpa using h34
      have n34:((s[k].toNat:Int) != 34)=true:=by simp [h34]
      have e92:((s[k].toNat:Int)==92)=false:=by simpa using h92
      clear hu' h34 h92;go_wp2_with (at_builtin; refine wp_app2 _ rfl (.tmp 86) (.tmp 88) 143 rfl w.heap.size 5 _ (.int .u8 0) 1 Tryz.underlying143 hi hz0 hz1 hz2 rfl _ _ rfl (hcur.alloc _) (hout.alloc _) (by decide) ⟨_,0,none⟩ 1 1 (Lib.byteCells [s[k]]) rfl rfl (by exact one_new _ _ _) (byteCells_one _) (by rw [Lib.byteCells_length]; unfold maxLen; omega) (by rw [Lib.byteCells_length]; omega) w (hb.alloc hB _) (by simp; omega) ?_; intro v3 w3 hown3 hkeep3 hb3 hB3)
      rw [byteCells_snoc] at hown3;go_wp2;go_roundw
      case rel=>exact ⟨k+1,ps,_,true,a,by omega,by go_num,rfl,rfl,by omega,by simp; omega,hkeep3,hown3,hb3,hB3,hn⟩
      case measure=>simp [intOf]; omega
   | false =>
    cases a with
    | true =>
     by_cases h34:(s[k].toNat:Int)=34
     ·have h60:¬ (s[k].toNat:Int)=60:=by omega
      have h62:¬ (s[k].toNat:Int)=62:=by omega
      have hn:Hid (partsV sep s.data.toList=ps++partsG sep ⟨true,false,true⟩ (cur++[s[k]]) (s.data.toList.drop (k+1))):=by
       show _=_; rw [hu',partsG_c (p':=⟨true,false,true⟩) (fr:=false) (by simp [pst,h34]) (by simp)]
      have e34:((s[k].toNat:Int)==34)=true:=by simpa using h34
      have n34:((s[k].toNat:Int) != 34)=false:=by simp [h34]
      have e60:((s[k].toNat:Int)==60)=false:=by simpa using h60
      have n60:((s[k].toNat:Int) != 60)=true:=by simp [h60]
      have e62:((s[k].toNat:Int)==62)=false:=by simpa using h62
      have n62:((s[k].toNat:Int) != 62)=true:=by simp [h62]
      clear hu' h34 h60 h62;go_wp2_with (at_builtin; refine wp_app2 _ rfl (.tmp 86) (.tmp 88) 143 rfl w.heap.size 5 _ (.int .u8 0) 1 Tryz.underlying143 hi hz0 hz1 hz2 rfl _ _ rfl (hcur.alloc _) (hout.alloc _) (by decide) ⟨_,0,none⟩ 1 1 (Lib.byteCells [s[k]]) rfl rfl (by exact one_new _ _ _) (byteCells_one _) (by rw [Lib.byteCells_length]; unfold maxLen; omega) (by rw [Lib.byteCells_length]; omega) w (hb.alloc hB _) (by simp; omega) ?_; intro v3 w3 hown3 hkeep3 hb3 hB3)
      rw [byteCells_snoc] at hown3;go_wp2;go_roundw
      case rel=>exact ⟨k+1,ps,_,true,true,by omega,by go_num,rfl,rfl,by omega,by simp; omega,hkeep3,hown3,hb3,hB3,hn⟩
      case measure=>simp [intOf]; omega
     ·by_cases h60:(s[k].toNat:Int)=60
      ·have h62:¬ (s[k].toNat:Int)=62:=by omega
       have hn:Hid (partsV sep s.data.toList=ps++partsG sep ⟨false,false,true⟩ (cur++[s[k]]) (s.data.toList.drop (k+1))):=by
        show _=_; rw [hu',partsG_c (p':=⟨false,false,true⟩) (fr:=false) (by simp [pst,h60]) (by simp)]
       have e34:((s[k].toNat:Int)==34)=false:=by simpa using h34
       have n34:((s[k].toNat:Int) != 34)=true:=by simp [h34]
       have e60:((s[k].toNat:Int)==60)=true:=by simpa using h60
       have n60:((s[k].toNat:Int) != 60)=false:=by simp [h60]
       have e62:((s[k].toNat:Int)==62)=false:=by simpa using h62
       have n62:((s[k].toNat:Int) != 62)=true:=by simp [h62]
       clear hu' h34 h60 h62;go_wp2_with (at_builtin; refine wp_app2 _ rfl (.tmp 86) (.tmp 88) 143 rfl w.heap.size 5 _ (.int .u8 0) 1 Tryz.underlying143 hi hz0 hz1 hz2 rfl _ _ rfl (hcur.alloc _) (hout.alloc _) (by decide) ⟨_,0,none⟩ 1 1 (Lib.byteCells [s[k]]) rfl rfl (by exact one_new _ _ _) (byteCells_one _) (by rw [Lib.byteCells_length]; unfold maxLen; omega) (by rw [Lib.byteCells_length]; omega) w (hb.alloc hB _) (by simp; omega) ?_; intro v3 w3 hown3 hkeep3 hb3 hB3)
       rw [byteCells_snoc] at hown3;go_wp2;go_roundw
       case rel=>exact ⟨k+1,ps,_,false,true,by omega,by go_num,rfl,rfl,by omega,by simp; omega,hkeep3,hown3,hb3,hB3,hn⟩
       case measure=>simp [intOf]; omega
      ·by_cases h62:(s[k].toNat:Int)=62
       ·
        have hn:Hid (partsV sep s.data.toList=ps++partsG sep ⟨false,false,false⟩ (cur++[s[k]]) (s.data.toList.drop (k+1))):=by
         show _=_; rw [hu',partsG_c (p':=⟨false,false,false⟩) (fr:=false) (by simp [pst,h62]) (by simp)]
        have e34:((s[k].toNat:Int)==34)=false:=by simpa using h34
        have n34:((s[k].toNat:Int) != 34)=true:=by simp [h34]
        have e60:((s[k].toNat:Int)==60)=false:=by simpa using h60
        have n60:((s[k].toNat:Int) != 60)=true:=by simp [h60]
        have e62:((s[k].toNat:Int)==62)=true:=by simpa using h62
        have n62:((s[k].toNat:Int) != 62)=false:=by simp [h62]
        clear hu' h34 h60 h62;go_wp2_with (at_builtin; refine wp_app2 _ rfl (.tmp 86) (.tmp 88) 143 rfl w.heap.size 5 _ (.int .u8 0) 1 Tryz.underlying143 hi hz0 hz1 hz2 rfl _ _ rfl (hcur.alloc _) (hout.alloc _) (by decide) ⟨_,0,none⟩ 1 1 (Lib.byteCells [s[k]]) rfl rfl (by exact one_new _ _ _) (byteCells_one _) (by rw [Lib.byteCells_length]; unfold maxLen; omega) (by rw [Lib.byteCells_length]; omega) w (hb.alloc hB _) (by simp; omega) ?_; intro v3 w3 hown3 hkeep3 hb3 hB3)
        rw [byteCells_snoc] at hown3;go_wp2;go_roundw
        case rel=>exact ⟨k+1,ps,_,false,false,by omega,by go_num,rfl,rfl,by omega,by simp; omega,hkeep3,hown3,hb3,hB3,hn⟩
        case measure=>simp [intOf]; omega
       ·
        have hn:Hid (partsV sep s.data.toList=ps++partsG sep ⟨false,false,true⟩ (cur++[s[k]]) (s.data.toList.drop (k+1))):=by
         show _=_; rw [hu',partsG_c (p':=⟨false,false,true⟩) (fr:=false) (by simp [pst,h34,h60,h62]) (by simp)]
        have e34:((s[k].toNat:Int)==34)=false:=by simpa using h34
        have n34:((s[k].toNat:Int) != 34)=true:=by simp [h34]
        have e60:((s[k].toNat:Int)==60)=false:=by simpa using h60
        have n60:((s[k].toNat:Int) != 60)=true:=by simp [h60]
        have e62:((s[k].toNat:Int)==62)=false:=by simpa using h62
        have n62:((s[k].toNat:Int) != 62)=true:=by simp [h62]
        clear hu' h34 h60 h62;go_wp2_with (at_builtin; refine wp_app2 _ rfl (.tmp 86) (.tmp 88) 143 rfl w.heap.size 5 _ (.int .u8 0) 1 Tryz.underlying143 hi hz0 hz1 hz2 rfl _ _ rfl (hcur.alloc _) (hout.alloc _) (by decide) ⟨_,0,none⟩ 1 1 (Lib.byteCells [s[k]]) rfl rfl (by exact one_new _ _ _) (byteCells_one _) (by rw [Lib.byteCells_length]; unfold maxLen; omega) (by rw [Lib.byteCells_length]; omega) w (hb.alloc hB _) (by simp; omega) ?_; intro v3 w3 hown3 hkeep3 hb3 hB3)
        rw [byteCells_snoc] at hown3;go_wp2;go_roundw
        case rel=>exact ⟨k+1,ps,_,false,true,by omega,by go_num,rfl,rfl,by omega,by simp; omega,hkeep3,hown3,hb3,hB3,hn⟩
        case measure=>simp [intOf]; omega
    | false =>
     by_cases h34:(s[k].toNat:Int)=34
     ·have h60:¬ (s[k].toNat:Int)=60:=by omega
      have h62:¬ (s[k].toNat:Int)=62:=by omega
      by_cases hsep:(s[k].toNat:Int)=sep
      ·
       have hn:Hid (partsV sep s.data.toList=ps++partsG sep ⟨true,false,false⟩ (cur++[s[k]]) (s.data.toList.drop (k+1))):=by
        show _=_; rw [hu',partsG_c (p':=⟨true,false,false⟩) (fr:=false) (by simp [pst,h34]) (by simp)]
       have e34:((s[k].toNat:Int)==34)=true:=by simpa using h34
       have n34:((s[k].toNat:Int) != 34)=false:=by simp [h34]
       have e60:((s[k].toNat:Int)==60)=false:=by simpa using h60
       have n60:((s[k].toNat:Int) != 60)=true:=by simp [h60]
       have e62:((s[k].toNat:Int)==62)=false:=by simpa using h62
       have n62:((s[k].toNat:Int) != 62)=true:=by simp [h62]
       have esep:((s[k].toNat:Int)==sep)=true:=by simpa using hsep
       clear hu' h34 h60 h62 hsep;go_wp2_with (at_builtin; refine wp_app2 _ rfl (.tmp 86) (.tmp 88) 143 rfl w.heap.size 5 _ (.int .u8 0) 1 Tryz.underlying143 hi hz0 hz1 hz2 rfl _ _ rfl (hcur.alloc _) (hout.alloc _) (by decide) ⟨_,0,none⟩ 1 1 (Lib.byteCells [s[k]]) rfl rfl (by exact one_new _ _ _) (byteCells_one _) (by rw [Lib.byteCells_length]; unfold maxLen; omega) (by rw [Lib.byteCells_length]; omega) w (hb.alloc hB _) (by simp; omega) ?_; intro v3 w3 hown3 hkeep3 hb3 hB3)
       rw [byteCells_snoc] at hown3;go_wp2;go_roundw
       case rel=>exact ⟨k+1,ps,_,true,false,by omega,by go_num,rfl,rfl,by omega,by simp; omega,hkeep3,hown3,hb3,hB3,hn⟩
       case measure=>simp [intOf]; omega
      ·
       have hn:Hid (partsV sep s.data.toList=ps++partsG sep ⟨true,false,false⟩ (cur++[s[k]]) (s.data.toList.drop (k+1))):=by
        show _=_; rw [hu',partsG_c (p':=⟨true,false,false⟩) (fr:=false) (by simp [pst,h34]) (by simp)]
       have e34:((s[k].toNat:Int)==34)=true:=by simpa using h34
       have n34:((s[k].toNat:Int) != 34)=false:=by simp [h34]
       have e60:((s[k].toNat:Int)==60)=false:=by simpa using h60
       have n60:((s[k].toNat:Int) != 60)=true:=by simp [h60]
       have e62:((s[k].toNat:Int)==62)=false:=by simpa using h62
       have n62:((s[k].toNat:Int) != 62)=true:=by simp [h62]
       have esep:((s[k].toNat:Int)==sep)=false:=by simpa using hsep
       clear hu' h34 h60 h62 hsep;go_wp2_with (at_builtin; refine wp_app2 _ rfl (.tmp 86) (.tmp 88) 143 rfl w.heap.size 5 _ (.int .u8 0) 1 Tryz.underlying143 hi hz0 hz1 hz2 rfl _ _ rfl (hcur.alloc _) (hout.alloc _) (by decide) ⟨_,0,none⟩ 1 1 (Lib.byteCells [s[k]]) rfl rfl (by exact one_new _ _ _) (byteCells_one _) (by rw [Lib.byteCells_length]; unfold maxLen; omega) (by rw [Lib.byteCells_length]; omega) w (hb.alloc hB _) (by simp; omega) ?_; intro v3 w3 hown3 hkeep3 hb3 hB3)
       rw [byteCells_snoc] at hown3;go_wp2;go_roundw
       case rel=>exact ⟨k+1,ps,_,true,false,by omega,by go_num,rfl,rfl,by omega,by simp; omega,hkeep3,hown3,hb3,hB3,hn⟩
       case measure=>simp [intOf]; omega
     ·by_cases h60:(s[k].toNat:Int)=60
      ·have h62:¬ (s[k].toNat:Int)=62:=by omega
       by_cases hsep:(s[k].toNat:Int)=sep
       ·
        have hn:Hid (partsV sep s.data.toList=ps++partsG sep ⟨false,false,true⟩ (cur++[s[k]]) (s.data.toList.drop (k+1))):=by
         show _=_; rw [hu',partsG_c (p':=⟨false,false,true⟩) (fr:=false) (by simp [pst,h60]) (by simp)]
        have e34:((s[k].toNat:Int)==34)=false:=by simpa using h34
        have n34:((s[k].toNat:Int) != 34)=true:=by simp [h34]
        have e60:((s[k].toNat:Int)==60)=true:=by simpa using h60
        have n60:((s[k].toNat:Int) != 60)=false:=by simp [h60]
        have e62:((s[k].toNat:Int)==62)=false:=by simpa using h62
        have n62:((s[k].toNat:Int) != 62)=true:=by simp [h62]
        have esep:((s[k].toNat:Int)==sep)=true:=by simpa using hsep
        clear hu' h34 h60 h62 hsep;go_wp2_with (at_builtin; refine wp_app2 _ rfl (.tmp 86) (.tmp 88) 143 rfl w.heap.size 5 _ (.int .u8 0) 1 Tryz.underlying143 hi hz0 hz1 hz2 rfl _ _ rfl (hcur.alloc _) (hout.alloc _) (by decide) ⟨_,0,none⟩ 1 1 (Lib.byteCells [s[k]]) rfl rfl (by exact one_new _ _ _) (byteCells_one _) (by rw [Lib.byteCells_length]; unfold maxLen; omega) (by rw [Lib.byteCells_length]; omega) w (hb.alloc hB _) (by simp; omega) ?_; intro v3 w3 hown3 hkeep3 hb3 hB3)
        rw [byteCells_snoc] at hown3;go_wp2;go_roundw
        case rel=>exact ⟨k+1,ps,_,false,true,by omega,by go_num,rfl,rfl,by omega,by simp; omega,hkeep3,hown3,hb3,hB3,hn⟩
        case measure=>simp [intOf]; omega
       ·
        have hn:Hid (partsV sep s.data.toList=ps++partsG sep ⟨false,false,true⟩ (cur++[s[k]]) (s.data.toList.drop (k+1))):=by
         show _=_; rw [hu',partsG_c (p':=⟨false,false,true⟩) (fr:=false) (by simp [pst,h60]) (by simp)]
        have e34:((s[k].toNat:Int)==34)=false:=by simpa using h34
        have n34:((s[k].toNat:Int) != 34)=true:=by simp [h34]
        have e60:((s[k].toNat:Int)==60)=true:=by simpa using h60
        have n60:((s[k].toNat:Int) != 60)=false:=by simp [h60]
        have e62:((s[k].toNat:Int)==62)=false:=by simpa using h62
        have n62:((s[k].toNat:Int) != 62)=true:=by simp [h62]
        have esep:((s[k].toNat:Int)==sep)=false:=by simpa using hsep
        clear hu' h34 h60 h62 hsep;go_wp2_with (at_builtin; refine wp_app2 _ rfl (.tmp 86) (.tmp 88) 143 rfl w.heap.size 5 _ (.int .u8 0) 1 Tryz.underlying143 hi hz0 hz1 hz2 rfl _ _ rfl (hcur.alloc _) (hout.alloc _) (by decide) ⟨_,0,none⟩ 1 1 (Lib.byteCells [s[k]]) rfl rfl (by exact one_new _ _ _) (byteCells_one _) (by rw [Lib.byteCells_length]; unfold maxLen; omega) (by rw [Lib.byteCells_length]; omega) w (hb.alloc hB _) (by simp; omega) ?_; intro v3 w3 hown3 hkeep3 hb3 hB3)
        rw [byteCells_snoc] at hown3;go_wp2;go_roundw
        case rel=>exact ⟨k+1,ps,_,false,true,by omega,by go_num,rfl,rfl,by omega,by simp; omega,hkeep3,hown3,hb3,hB3,hn⟩
        case measure=>simp [intOf]; omega
      ·by_cases h62:(s[k].toNat:Int)=62
       ·
        by_cases hsep:(s[k].toNat:Int)=sep
        ·
         have hn:Hid (partsV sep s.data.toList=ps++partsG sep ⟨false,false,false⟩ (cur++[s[k]]) (s.data.toList.drop (k+1))):=by
          show _=_; rw [hu',partsG_c (p':=⟨false,false,false⟩) (fr:=false) (by simp [pst,h62]) (by simp)]
         have e34:((s[k].toNat:Int)==34)=false:=by simpa using h34
         have n34:((s[k].toNat:Int) != 34)=true:=by simp [h34]
         have e60:((s[k].toNat:Int)==60)=false:=by simpa using h60
         have n60:((s[k].toNat:Int) != 60)=true:=by simp [h60]
         have e62:((s[k].toNat:Int)==62)=true:=by simpa using h62
         have n62:((s[k].toNat:Int) != 62)=false:=by simp [h62]
         have esep:((s[k].toNat:Int)==sep)=true:=by simpa using hsep
         clear hu' h34 h60 h62 hsep;go_wp2_with (at_builtin; refine wp_app2 _ rfl (.tmp 86) (.tmp 88) 143 rfl w.heap.size 5 _ (.int .u8 0) 1 Tryz.underlying143 hi hz0 hz1 hz2 rfl _ _ rfl (hcur.alloc _) (hout.alloc _) (by decide) ⟨_,0,none⟩ 1 1 (Lib.byteCells [s[k]]) rfl rfl (by exact one_new _ _ _) (byteCells_one _) (by rw [Lib.byteCells_length]; unfold maxLen; omega) (by rw [Lib.byteCells_length]; omega) w (hb.alloc hB _) (by simp; omega) ?_; intro v3 w3 hown3 hkeep3 hb3 hB3)
         rw [byteCells_snoc] at hown3;go_wp2;go_roundw
         case rel=>exact ⟨k+1,ps,_,false,false,by omega,by go_num,rfl,rfl,by omega,by simp; omega,hkeep3,hown3,hb3,hB3,hn⟩
         case measure=>simp [intOf]; omega
        ·
         have hn:Hid (partsV sep s.data.toList=ps++partsG sep ⟨false,false,false⟩ (cur++[s[k]]) (s.data.toList.drop (k+1))):=by
          show _=_; rw [hu',partsG_c (p':=⟨false,false,false⟩) (fr:=false) (by simp [pst,h62]) (by simp)]
         have e34:((s[k].toNat:Int)==34)=false:=by simpa using h34
         have n34:((s[k].toNat:Int) != 34)=true:=by simp [h34]
         have e60:((s[k].toNat:Int)==60)=false:=by simpa using h60
         have n60:((s[k].toNat:Int) != 60)=true:=by simp [h60]
         have e62:((s[k].toNat:Int)==62)=true:=by simpa using h62
         have n62:((s[k].toNat:Int) != 62)=false:=by simp [h62]
         have esep:((s[k].toNat:Int)==sep)=false:=by simpa using hsep
         clear hu' h34 h60 h62 hsep;go_wp2_with (at_builtin; refine wp_app2 _ rfl (.tmp 86) (.tmp 88) 143 rfl w.heap.size 5 _ (.int .u8 0) 1 Tryz.underlying143 hi hz0 hz1 hz2 rfl _ _ rfl (hcur.alloc _) (hout.alloc _) (by decide) ⟨_,0,none⟩ 1 1 (Lib.byteCells [s[k]]) rfl rfl (by exact one_new _ _ _) (byteCells_one _) (by rw [Lib.byteCells_length]; unfold maxLen; omega) (by rw [Lib.byteCells_length]; omega) w (hb.alloc hB _) (by simp; omega) ?_; intro v3 w3 hown3 hkeep3 hb3 hB3)
         rw [byteCells_snoc] at hown3;go_wp2;go_roundw
         case rel=>exact ⟨k+1,ps,_,false,false,by omega,by go_num,rfl,rfl,by omega,by simp; omega,hkeep3,hown3,hb3,hB3,hn⟩
         case measure=>simp [intOf]; omega
       ·by_cases hsep:(s[k].toNat:Int)=sep
        ·have hn:Hid (partsV sep s.data.toList=ps++[cur]++partsG sep ⟨false,false,false⟩ [] (s.data.toList.drop (k+1))):=by
          show _=_; rw [hu',partsG_s (p':=⟨false,false,false⟩) (by simp [pst,h34,h60,h62]) hsep,List.append_assoc]; rfl
         have e34:((s[k].toNat:Int)==34)=false:=by simpa using h34
         have n34:((s[k].toNat:Int) != 34)=true:=by simp [h34]
         have e60:((s[k].toNat:Int)==60)=false:=by simpa using h60
         have n60:((s[k].toNat:Int) != 60)=true:=by simp [h60]
         have e62:((s[k].toNat:Int)==62)=false:=by simpa using h62
         have n62:((s[k].toNat:Int) != 62)=true:=by simp [h62]
         have esep:((s[k].toNat:Int)==sep)=true:=by simpa using hsep
         have hcv:=conv_own (P:=Tryz.prog) _ Tryz.underlying143 Tryz.underlying5 Tryz.underlying9 hcur;clear hu' h34 h60 h62 hsep;go_wp2_with (at_builtin; refine wp_app2 _ rfl (.tmp 65) (.tmp 68) 35 rfl w.heap.size 9 _ (.string .empty) 16 Tryz.underlying35 ki kz0 kz1 kz2 rfl _ _ rfl (hout.alloc _) (hcur.alloc _) (by decide) ⟨_,0,none⟩ 1 1 (strs [cur]) rfl rfl (by exact one_new _ _ _) (strs_one _) (by rw [strs_length]; unfold maxLen; omega) (by rw [strs_length]; omega) w (hb.alloc hB _) (by simp; omega) ?_; intro v3 w3 hown3 hkeep3 hb3 hB3)
         rw [← strs_append] at hown3;go_wp2;go_roundw
         case rel=>exact ⟨k+1,_,[],false,false,by omega,by go_num,rfl,rfl,by simp; omega,by simp,hown3,Own.nil _ _ _,hb3,hB3,hn⟩
         case measure=>simp [intOf]; omega
        ·
         have hn:Hid (partsV sep s.data.toList=ps++partsG sep ⟨false,false,false⟩ (cur++[s[k]]) (s.data.toList.drop (k+1))):=by
          show _=_; rw [hu',partsG_c (p':=⟨false,false,false⟩) (fr:=true) (by simp [pst,h34,h60,h62]) (by simp [hsep])]
         have e34:((s[k].toNat:Int)==34)=false:=by simpa using h34
         have n34:((s[k].toNat:Int) != 34)=true:=by simp [h34]
         have e60:((s[k].toNat:Int)==60)=false:=by simpa using h60
         have n60:((s[k].toNat:Int) != 60)=true:=by simp [h60]
         have e62:((s[k].toNat:Int)==62)=false:=by simpa using h62
         have n62:((s[k].toNat:Int) != 62)=true:=by simp [h62]
         have esep:((s[k].toNat:Int)==sep)=false:=by simpa using hsep
         clear hu' h34 h60 h62 hsep;go_wp2_with (at_builtin; refine wp_app2 _ rfl (.tmp 86) (.tmp 88) 143 rfl w.heap.size 5 _ (.int .u8 0) 1 Tryz.underlying143 hi hz0 hz1 hz2 rfl _ _ rfl (hcur.alloc _) (hout.alloc _) (by decide) ⟨_,0,none⟩ 1 1 (Lib.byteCells [s[k]]) rfl rfl (by exact one_new _ _ _) (byteCells_one _) (by rw [Lib.byteCells_length]; unfold maxLen; omega) (by rw [Lib.byteCells_length]; omega) w (hb.alloc hB _) (by simp; omega) ?_; intro v3 w3 hown3 hkeep3 hb3 hB3)
         rw [byteCells_snoc] at hown3;go_wp2;go_roundw
         case rel=>exact ⟨k+1,ps,_,false,false,by omega,by go_num,rfl,rfl,by omega,by simp; omega,hkeep3,hown3,hb3,hB3,hn⟩
         case measure=>simp [intOf]; omega
  ·have hfin:Hid (partsV sep s.data.toList=ps++[cur]):=by
    show _=_
    rw [hpv.out,drop_all s k (by omega)]; rfl
   have hcv:=conv_own (P:=Tryz.prog) _ Tryz.underlying143 Tryz.underlying5 Tryz.underlying9 hcur;clear hpv;go_wp2_with (at_builtin; refine wp_app2 _ rfl (.tmp 90) (.tmp 93) 35 rfl w.heap.size 9 _ (.string .empty) 16 Tryz.underlying35 ki kz0 kz1 kz2 rfl _ _ rfl (hout.alloc _) (hcur.alloc _) (by decide) ⟨_,0,none⟩ 1 1 (strs [cur]) rfl rfl (by exact one_new _ _ _) (strs_one _) (by rw [strs_length]; unfold maxLen; omega) (by rw [strs_length]; omega) w (hb.alloc hB _) (by simp; omega) ?_; intro v3 w3 hown3 hkeep3 hb3 hB3)
   rw [← strs_append,← hfin.out] at hown3;go_wp2;go_ret;exact ⟨_,rfl,hown3,hb3⟩
theorem refquote_list (l:List UInt8) (w:World) (h:l.length≤1048576) :
  Calls Tryz.prog 172 #[.string ⟨l.toArray⟩] w fun e w'=>e=.returned (.tuple #[.string ⟨(quoteV l).1.toArray⟩,.int .i64 (quoteV l).2])∧Below w.heap.size w w':=refquote_any ⟨l.toArray⟩ w (by rw [size_list]; omega)
theorem refunquote_list (l:List UInt8) (w:World) (h:l.length≤140737488355328) :
  Calls Tryz.prog 139 #[.string ⟨l.toArray⟩] w fun e w'=>e=.returned (.tuple #[.string ⟨(unquoteV l).1.toArray⟩,.int .i64 (unquoteV l).2])∧Below w.heap.size w w':=refunquote_any ⟨l.toArray⟩ w (by rw [size_list]; exact h)
theorem has3_l (l:List UInt8) (c:UInt8) (w:World) (h:l.length≤140737488355328) :
  Calls Tryz.prog 85 #[.string ⟨l.toArray⟩,.int .u8 c.toNat] w fun e w'=>e=.returned (.bool (hasL c l))∧w'=w:=has3_any ⟨l.toArray⟩ c w (by rw [size_list]; unfold maxLen; omega)
theorem refparts_of {l p0:List UInt8} {ps:List (List UInt8)} {c:Int} (h:partsV c l=p0 :: ps) (w:World) (hs:l.length≤1048576) :
  Calls Tryz.prog 74 #[.string ⟨l.toArray⟩,.int .u8 c] w fun e w'=>∃ g cap,e=.returned (.slice (some ⟨g,0,none⟩) (ps.length+1) cap)∧ps.length+1≤cap∧g < w'.heap.size∧(∀ j (hj:j < (p0 :: ps).length),w'.cell? ⟨g,j,none⟩=some (.string ⟨((p0 :: ps)[j]).toArray⟩))∧Below w.heap.size w w':=by
 have k:=refparts_any ⟨l.toArray⟩ c w (by rw [size_list]; omega);refine k.mono ?_
 rintro e w' ⟨v,rfl,hown,hb⟩;have hown2:Own w' w.heap.size 9 v (strs (p0 :: ps)):=by rw [← h]; exact hown
 obtain ⟨g,cap,rfl,h1,h2,h3⟩:=own_row hown2;exact ⟨g,cap,rfl,h1,h2,h3,hb⟩
set_option maxHeartbeats 400000 in
theorem refword_any (l:List UInt8) (w:World) (hl:l.length≤140737488355328) :
  Calls Tryz.prog 141 #[.string ⟨l.toArray⟩] w fun e w'=>e=.returned (.bool (wordB l))∧Below w.heap.size w w':=by
 have K1:=hid (fun w'=>reftoken_list l w' hl);have K2:=hid (fun w'=>reflower_l l w' hl);have K3:=hid (fun w'=>refhost_list (lowL l) w' (by rw [lowL_len]; exact hl));have hv:wordB l=(tokenB l || hostB (lowL l)):=rfl;generalize wordB l=v at hv ⊢;generalize tokenB l=t at K1 hv;generalize lowL l=m at K2 K3 hv;generalize hostB m=h at K3 hv
 cases t with
 | true =>
  have HV:Hid (v=true):=show _=_ by rw [hv]; rfl
  clear hv K2 K3
  go_enter Tryz.func141,Tryz.ntmps141
  go_wp2_with fail
  refine (K1.out _).mono ?_
  rintro e w1 ⟨rfl,rfl⟩;go_wp2;go_ret;exact ⟨ret_bool HV.out.symm,Below.refl _ _⟩
 | false =>
  have HV:Hid (v=h):=show _=_ by rw [hv]; rfl
  clear hv
  go_enter Tryz.func141,Tryz.ntmps141
  go_wp2_with fail
  refine (K1.out _).mono ?_
  rintro e w1 ⟨rfl,rfl⟩;go_wp2_with fail
  refine (K2.out _).mono ?_
  rintro e w2 ⟨rfl,hw2⟩;go_wp2_with fail
  refine (K3.out _).mono ?_
  rintro e w3 ⟨rfl,hw3⟩;go_wp2;go_ret;exact ⟨ret_bool HV.out.symm,hw2.trans (hw3.mono hw2.size)⟩
theorem may_split2 (ps:List Par) (nm vl:List UInt8) (hs:Bool):mayB ps ⟨nm,vl,hs⟩=(tokenB nm && ((findV ps nm).isNone && (decide (vl.length≤64) && (!hasBar vl && (hs || vl.isEmpty))))):=rfl
theorem quote_num (l:List UInt8):(quoteV l).2=if hasBar l=true then 11 else 0:=by unfold quoteV; cases hasBar l <;> rfl
theorem place_num (ps:List Par) (nm:List UInt8) (v:Value) (w:World) (hnm:nm.length≤140737488355328) (hsm:SmallP 140737488355328 ps) (h:ParsAt w v ps) :
  Calls Tryz.prog 118 #[v,.string ⟨nm.toArray⟩] w fun e w'=>(∃ r:Int,e=.returned (.int .i64 r)∧decide (r < 0)=(findV ps nm).isNone)∧Below w.heap.size w w':=by
 refine (place_any v ps nm w hnm hsm h).mono ?_
 rintro e w' ⟨⟨r,rfl,⟨rfl,h2⟩ | ⟨k,hk,rfl,h2⟩⟩,hb⟩
 ·exact ⟨⟨-1,rfl,by rw [h2]; rfl⟩,hb⟩
 ·exact ⟨⟨k,rfl,by rw [h2]; simp⟩,hb⟩
set_option maxHeartbeats 2000000 in
theorem refmay_any (p:Par) (v:Value) (ps:List Par) (w:World) (hn:p.name.length≤140737488355328) (hvl:p.value.length≤1048576) (hsm:SmallP 140737488355328 ps) (h:ParsAt w v ps) :
  Calls Tryz.prog 142 #[v,parV p] w fun e w'=>e=.returned (.bool (mayB ps p))∧Below w.heap.size w w':=by
 obtain ⟨nm,vl,hs⟩:=p;simp only at hn hvl;have hm:=may_split2 ps nm vl hs;have hq:=quote_num vl;have z:=size_list vl;have KT:=hid (fun w'=>reftoken_list nm w' hn);have KQ:=hid (fun w'=>refquote_list vl w' hvl);have KP:=hid (fun w' (hb:Below w.heap.size w w')=>place_num ps nm v w' hn hsm (h.below hb));generalize mayB ps ⟨nm,vl,hs⟩=m at hm ⊢;generalize (findV ps nm).isNone=f at hm KP;generalize tokenB nm=t at KT hm;generalize quoteV vl=qq at KQ hq;obtain ⟨qa,qn⟩:=qq;simp only at hq KQ;generalize hasBar vl=bar at hm hq;obtain ⟨a,cap,rfl⟩:=h.form;clear h hsm;have hx:=boxP_new w ⟨nm,vl,hs⟩ 158;have hb0:Below w.heap.size w (w.alloc (.cells #[.string ⟨nm.toArray⟩,.string ⟨vl.toArray⟩,.bool hs] 158)):=(Below.refl _ w).alloc (Nat.le_refl _) _;have hlt:=alloc_lt w (.cells #[.string ⟨nm.toArray⟩,.string ⟨vl.toArray⟩,.bool hs] 158);unfold parV
 simp only
 have HB:=hid hx;obtain ⟨x0,x1,x2⟩:=hx;simp only at x0 x1 x2;have HM:=hid hm;have HQ:=hid hq;clear hm hq
 go_enter Tryz.func142,Tryz.ntmps142
 go_wp2_with fail
 refine (KQ.out _).mono ?_
 rintro e w1 ⟨rfl,hw1⟩;have HB1:=hid (BoxP.below HB.out hw1 hlt);have hb1:=hb0.trans (hw1.mono hb0.size);have hlt1:w.heap.size < w1.heap.size:=Nat.lt_of_lt_of_le hlt hw1.size;clear HB hw1 hb0 hlt x0 x1 x2 KQ;obtain ⟨x0,x1,x2⟩:=HB1.out;simp only at x0 x1 x2;go_wp2_with fail
 refine (KT.out _).mono ?_
 rintro e w2 ⟨rfl,rfl⟩;clear KT
 cases t with
 | false =>
  go_wp2;go_ret;exact ⟨ret_bool (by rw [HM.out]; rfl),hb1⟩
 | true =>
  go_wp2_with fail
  refine (KP.out _ hb1).mono ?_
  rintro e w3 ⟨⟨r,rfl,hr⟩,hw3⟩;have HB3:=hid (BoxP.below HB1.out hw3 hlt1);have hb3:=hb1.trans (hw3.mono hb1.size);clear HB1 hw3 hb1 hlt1 x0 x1 x2 KP;obtain ⟨x0,x1,x2⟩:=HB3.out;simp only at x0 x1 x2
  cases f with
  | false =>
   have hr':¬ r < 0:=of_decide_eq_false hr;go_wp2;go_ret;exact ⟨ret_bool (by rw [HM.out]; simp),hb3⟩
  | true =>
   have hr':r < 0:=of_decide_eq_true hr;clear hr;by_cases h64:vl.length≤64
   ·cases bar with
    | true =>
     obtain rfl:qn=11:=by rw [HQ.out]; rfl
     go_wp2;go_ret;exact ⟨ret_bool (by rw [HM.out]; simp),hb3⟩
    | false =>
     obtain rfl:qn=0:=by rw [HQ.out]; rfl
     cases hs with
     | true =>
      go_wp2;go_ret;exact ⟨ret_bool (by rw [HM.out]; simp [h64]),hb3⟩
     | false =>
      cases hie:vl.isEmpty with
      | true =>
       have HM2:Hid (m=true):=show _=_ by rw [HM.out,hie]; simp [h64]
       clear HM;go_wp2;go_ret;exact ⟨ret_bool HM2.out.symm,hb3⟩
      | false =>
       have HM2:Hid (m=false):=show _=_ by rw [HM.out,hie]; simp
       clear HM;go_wp2;go_ret;exact ⟨ret_bool HM2.out.symm,hb3⟩
   ·have HM2:Hid (m=false):=show _=_ by rw [HM.out,decide_eq_false h64]; simp
    clear HM;go_wp2;go_ret;exact ⟨ret_bool HM2.out.symm,hb3⟩
theorem hword_pos {l:List UInt8} {k:Nat} (hk:k < l.length) (hp:k≤wordN l) (hb:blk l[k]=true):wordN l=k:=by
 induction l generalizing k with
 | nil=>simp at hk
 | cons b l ih =>
  rw [hword_cons] at hp ⊢
  cases k with
  | zero=>rw [if_pos (by simpa using hb)]
  | succ k =>
   split
   ·rename_i h; rw [if_pos h] at hp; omega
   ·rename_i h
    rw [if_neg h] at hp;rw [ih (by simpa using hk) (by omega) (by simpa using hb)]
theorem hword_more {l:List UInt8} {k:Nat} (hk:k < l.length) (hp:k≤wordN l) (hb:blk l[k]=false):k+1≤wordN l:=by
 induction l generalizing k with
 | nil=>simp at hk
 | cons b l ih =>
  rw [hword_cons] at hp ⊢
  cases k with
  | zero=>rw [if_neg (by simpa using hb)]; omega
  | succ k =>
   split
   ·rename_i h; rw [if_pos h] at hp; omega
   ·rename_i h
    rw [if_neg h] at hp
    have:=ih (k:=k) (by simpa using hk) (by omega) (by simpa using hb)
    omega
theorem hblk_no {b:UInt8}:blk b=false ↔ (cls (b.toNat:Int) != 32)=true:=by
 rw [blk_cls]
 simp
end Go.Proofs.YtiogedceommcoaaGreatDoor
