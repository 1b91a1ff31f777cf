/-
  RefClass, RefCut, RefDig, PR2.
-/
import Derived.Test.YtdnekampnkhmfaaGreatDoorPK20
set_option linter.unusedVariables false
set_option linter.unusedSimpArgs false
set_option maxRecDepth 20000
namespace Go.Proofs.YtdnekampnkhmfaaGreatDoor
open Go.RowKit Sc
def hasB (c:Int) (s:ByteArray):Bool:=s.data.toList.any fun b=>(b.toNat:Int)==c
theorem hasB_hit {c:Int} {s:ByteArray} {k:Nat} (h:k < s.size) (hb:(s[k].toNat:Int)=c):hasB c s=true:=by
 rw [hasB,List.any_eq_true];exact ⟨s[k],List.mem_of_getElem? (getL s k h),by simp [hb]⟩
set_option maxHeartbeats 400000 in
theorem has_any (s:ByteArray) (c:Int) (w:World) (hs:s.size≤maxLen) :
  Calls Tryz.prog 136 #[.string s,.int .u8 c] w fun e w'=>e=.returned (.bool (hasB c s))∧w'=w:=by
 unfold maxLen at hs
 go_enter Tryz.func136,Tryz.ntmps136
 go_wp2
 go_loop [5] (fun i=>∃ k:Nat,k≤s.size∧i=.int .i64 k∧Hid ((s.data.toList.take k).any (fun b=>(b.toNat:Int)==c)=false)) (fun i=>s.size - (intOf i).toNat)
 case atStart=>exact ⟨0,Nat.zero_le _,rfl,rfl⟩
 case round =>
  obtain ⟨k,hk,rfl,hall⟩:=hrel;by_cases hlt:k < s.size
  ·by_cases hb:(s[k].toNat:Int)=c
   ·have hb':((s[k].toNat:Int)==c)=true:=by simpa using hb
    have HH:Hid (hasB c s=true):=hasB_hit hlt hb;clear hb;go_wp2;go_ret;exact ⟨ret_bool HH.out.symm,rfl⟩
   ·have hb':((s[k].toNat:Int)==c)=false:=by simpa using hb
    clear hb;go_wp2
    go_round
    case rel=>exact ⟨k+1,by omega,by go_num,show _=_ by rw [take_snoc s k hlt,List.any_append,hall.out]; simpa using hb'⟩
    case measure=>simp [intOf]; omega
  ·go_wp2;go_ret;exact ⟨ret_bool (by rw [hasB,← hall.out,take_all s k (by omega)]),rfl⟩
theorem of256 {p:Int → Prop} (h:∀ n:Fin 256,p (n.val:Int)) (c:Int) (h0:0≤c) (h1:c≤255):p c:=by
 obtain ⟨n,rfl⟩:=Int.eq_ofNat_of_zero_le h0;exact h ⟨n,by omega⟩
def bDg (c:Int):Bool:=decide (48≤c∧c≤57)
theorem hasDg (c:Int) (w:World) (h0:0≤c) (h1:c≤255):Calls Tryz.prog 136 #[.string ⟨#[48,49,50,51,52,53,54,55,56,57]⟩,.int .u8 c] w fun e w'=>e=.returned (.bool (bDg c))∧w'=w:=by
 have h:hasB c ⟨#[48,49,50,51,52,53,54,55,56,57]⟩=bDg c:=of256 (p:=fun c=>hasB c ⟨#[48,49,50,51,52,53,54,55,56,57]⟩=bDg c) (by decide +kernel) c h0 h1;rw [← h];exact has_any _ c w (by decide)
def bLe (c:Int):Bool:=decide (97≤c∧c≤122∨65≤c∧c≤90)
theorem hasLe (c:Int) (w:World) (h0:0≤c) (h1:c≤255):Calls Tryz.prog 136 #[.string ⟨#[97,98,99,100,101,102,103,104,105,106,107,108,109,110,111,112,113,114,115,116,117,118,119,120,121,122,65,66,67,68,69,70,71,72,73,74,75,76,77,78,79,80,81,82,83,84,85,86,87,88,89,90]⟩,.int .u8 c] w fun e w'=>e=.returned (.bool (bLe c))∧w'=w:=by
 have h:hasB c ⟨#[97,98,99,100,101,102,103,104,105,106,107,108,109,110,111,112,113,114,115,116,117,118,119,120,121,122,65,66,67,68,69,70,71,72,73,74,75,76,77,78,79,80,81,82,83,84,85,86,87,88,89,90]⟩=bLe c:=of256 (p:=fun c=>hasB c ⟨#[97,98,99,100,101,102,103,104,105,106,107,108,109,110,111,112,113,114,115,116,117,118,119,120,121,122,65,66,67,68,69,70,71,72,73,74,75,76,77,78,79,80,81,82,83,84,85,86,87,88,89,90]⟩=bLe c) (by decide +kernel) c h0 h1;rw [← h];exact has_any _ c w (by decide)
def bHx (c:Int):Bool:=decide (48≤c∧c≤57∨97≤c∧c≤102∨65≤c∧c≤70)
theorem hasHx (c:Int) (w:World) (h0:0≤c) (h1:c≤255):Calls Tryz.prog 136 #[.string ⟨#[48,49,50,51,52,53,54,55,56,57,97,98,99,100,101,102,65,66,67,68,69,70]⟩,.int .u8 c] w fun e w'=>e=.returned (.bool (bHx c))∧w'=w:=by
 have h:hasB c ⟨#[48,49,50,51,52,53,54,55,56,57,97,98,99,100,101,102,65,66,67,68,69,70]⟩=bHx c:=of256 (p:=fun c=>hasB c ⟨#[48,49,50,51,52,53,54,55,56,57,97,98,99,100,101,102,65,66,67,68,69,70]⟩=bHx c) (by decide +kernel) c h0 h1;rw [← h];exact has_any _ c w (by decide)
def bTk (c:Int):Bool:=decide (48≤c∧c≤57∨97≤c∧c≤122∨65≤c∧c≤90∨c=45∨c=46∨c=33∨c=37∨c=42∨c=95∨c=43∨c=96∨c=39∨c=126)
theorem hasTk (c:Int) (w:World) (h0:0≤c) (h1:c≤255):Calls Tryz.prog 136 #[.string ⟨#[48,49,50,51,52,53,54,55,56,57,97,98,99,100,101,102,103,104,105,106,107,108,109,110,111,112,113,114,115,116,117,118,119,120,121,122,65,66,67,68,69,70,71,72,73,74,75,76,77,78,79,80,81,82,83,84,85,86,87,88,89,90,45,46,33,37,42,95,43,96,39,126]⟩,.int .u8 c] w fun e w'=>e=.returned (.bool (bTk c))∧w'=w:=by
 have h:hasB c ⟨#[48,49,50,51,52,53,54,55,56,57,97,98,99,100,101,102,103,104,105,106,107,108,109,110,111,112,113,114,115,116,117,118,119,120,121,122,65,66,67,68,69,70,71,72,73,74,75,76,77,78,79,80,81,82,83,84,85,86,87,88,89,90,45,46,33,37,42,95,43,96,39,126]⟩=bTk c:=of256 (p:=fun c=>hasB c ⟨#[48,49,50,51,52,53,54,55,56,57,97,98,99,100,101,102,103,104,105,106,107,108,109,110,111,112,113,114,115,116,117,118,119,120,121,122,65,66,67,68,69,70,71,72,73,74,75,76,77,78,79,80,81,82,83,84,85,86,87,88,89,90,45,46,33,37,42,95,43,96,39,126]⟩=bTk c) (by decide +kernel) c h0 h1;rw [← h];exact has_any _ c w (by decide)
def bPl (c:Int):Bool:=decide (48≤c∧c≤57∨97≤c∧c≤122∨65≤c∧c≤90∨c=45∨c=95∨c=46∨c=33∨c=126∨c=42∨c=39∨c=40∨c=41)
theorem hasPl (c:Int) (w:World) (h0:0≤c) (h1:c≤255):Calls Tryz.prog 136 #[.string ⟨#[48,49,50,51,52,53,54,55,56,57,97,98,99,100,101,102,103,104,105,106,107,108,109,110,111,112,113,114,115,116,117,118,119,120,121,122,65,66,67,68,69,70,71,72,73,74,75,76,77,78,79,80,81,82,83,84,85,86,87,88,89,90,45,95,46,33,126,42,39,40,41]⟩,.int .u8 c] w fun e w'=>e=.returned (.bool (bPl c))∧w'=w:=by
 have h:hasB c ⟨#[48,49,50,51,52,53,54,55,56,57,97,98,99,100,101,102,103,104,105,106,107,108,109,110,111,112,113,114,115,116,117,118,119,120,121,122,65,66,67,68,69,70,71,72,73,74,75,76,77,78,79,80,81,82,83,84,85,86,87,88,89,90,45,95,46,33,126,42,39,40,41]⟩=bPl c:=of256 (p:=fun c=>hasB c ⟨#[48,49,50,51,52,53,54,55,56,57,97,98,99,100,101,102,103,104,105,106,107,108,109,110,111,112,113,114,115,116,117,118,119,120,121,122,65,66,67,68,69,70,71,72,73,74,75,76,77,78,79,80,81,82,83,84,85,86,87,88,89,90,45,95,46,33,126,42,39,40,41]⟩=bPl c) (by decide +kernel) c h0 h1;rw [← h];exact has_any _ c w (by decide)
def bHo (c:Int):Bool:=decide (48≤c∧c≤57∨97≤c∧c≤122∨65≤c∧c≤90∨c=45∨c=46)
theorem hasHo (c:Int) (w:World) (h0:0≤c) (h1:c≤255):Calls Tryz.prog 136 #[.string ⟨#[48,49,50,51,52,53,54,55,56,57,97,98,99,100,101,102,103,104,105,106,107,108,109,110,111,112,113,114,115,116,117,118,119,120,121,122,65,66,67,68,69,70,71,72,73,74,75,76,77,78,79,80,81,82,83,84,85,86,87,88,89,90,45,46]⟩,.int .u8 c] w fun e w'=>e=.returned (.bool (bHo c))∧w'=w:=by
 have h:hasB c ⟨#[48,49,50,51,52,53,54,55,56,57,97,98,99,100,101,102,103,104,105,106,107,108,109,110,111,112,113,114,115,116,117,118,119,120,121,122,65,66,67,68,69,70,71,72,73,74,75,76,77,78,79,80,81,82,83,84,85,86,87,88,89,90,45,46]⟩=bHo c:=of256 (p:=fun c=>hasB c ⟨#[48,49,50,51,52,53,54,55,56,57,97,98,99,100,101,102,103,104,105,106,107,108,109,110,111,112,113,114,115,116,117,118,119,120,121,122,65,66,67,68,69,70,71,72,73,74,75,76,77,78,79,80,81,82,83,84,85,86,87,88,89,90,45,46]⟩=bHo c) (by decide +kernel) c h0 h1;rw [← h];exact has_any _ c w (by decide)
set_option maxHeartbeats 400000 in
theorem refclass0 (c:Int) (w:World) (h0:0≤c) (h1:c≤255) (h:48≤c∧c≤57) :
  Calls Tryz.prog 95 #[.int .u8 c] w fun e w'=>e=.returned (.int .i64 (cls c))∧w'=w:=by
 have tDg:bDg c=true:=decide_eq_true (by omega);have tLe:bLe c=false:=decide_eq_false (by omega);have tHx:bHx c=true:=decide_eq_true (by omega);have tTk:bTk c=true:=decide_eq_true (by omega);have tPl:bPl c=true:=decide_eq_true (by omega);have tHo:bHo c=true:=decide_eq_true (by omega);have hv:Hid (cls c=93):=by show _=_; unfold cls low sgn; (repeat' split) <;> omega
 have e32:(c==32)=false:=by simp; omega
 have e9:(c==9)=false:=by simp; omega
 clear h
 go_enter Tryz.func95,Tryz.ntmps95
 go_wp2_with fail
 refine (hasDg _ _ h0 h1).mono ?_
 rintro e w' ⟨rfl,rfl⟩;go_wp2_with fail
 refine (hasLe _ _ h0 h1).mono ?_
 rintro e w' ⟨rfl,rfl⟩;go_wp2_with fail
 refine (hasHx _ _ h0 h1).mono ?_
 rintro e w' ⟨rfl,rfl⟩;go_wp2_with fail
 refine (hasTk _ _ h0 h1).mono ?_
 rintro e w' ⟨rfl,rfl⟩;go_wp2_with fail
 refine (hasPl _ _ h0 h1).mono ?_
 rintro e w' ⟨rfl,rfl⟩;go_wp2_with fail
 refine (hasHo _ _ h0 h1).mono ?_
 rintro e w' ⟨rfl,rfl⟩;go_wp2;go_ret;exact ⟨ret_int hv.out.symm,rfl⟩
set_option maxHeartbeats 400000 in
theorem refclass1 (c:Int) (w:World) (h0:0≤c) (h1:c≤255) (h:97≤c∧c≤102∨65≤c∧c≤70) :
  Calls Tryz.prog 95 #[.int .u8 c] w fun e w'=>e=.returned (.int .i64 (cls c))∧w'=w:=by
 have tDg:bDg c=false:=decide_eq_false (by omega);have tLe:bLe c=true:=decide_eq_true (by omega);have tHx:bHx c=true:=decide_eq_true (by omega);have tTk:bTk c=true:=decide_eq_true (by omega);have tPl:bPl c=true:=decide_eq_true (by omega);have tHo:bHo c=true:=decide_eq_true (by omega);have hv:Hid (cls c=94):=by show _=_; unfold cls low sgn; (repeat' split) <;> omega
 have e32:(c==32)=false:=by simp; omega
 have e9:(c==9)=false:=by simp; omega
 clear h
 go_enter Tryz.func95,Tryz.ntmps95
 go_wp2_with fail
 refine (hasDg _ _ h0 h1).mono ?_
 rintro e w' ⟨rfl,rfl⟩;go_wp2_with fail
 refine (hasLe _ _ h0 h1).mono ?_
 rintro e w' ⟨rfl,rfl⟩;go_wp2_with fail
 refine (hasHx _ _ h0 h1).mono ?_
 rintro e w' ⟨rfl,rfl⟩;go_wp2_with fail
 refine (hasTk _ _ h0 h1).mono ?_
 rintro e w' ⟨rfl,rfl⟩;go_wp2_with fail
 refine (hasPl _ _ h0 h1).mono ?_
 rintro e w' ⟨rfl,rfl⟩;go_wp2_with fail
 refine (hasHo _ _ h0 h1).mono ?_
 rintro e w' ⟨rfl,rfl⟩;go_wp2;go_ret;exact ⟨ret_int hv.out.symm,rfl⟩
set_option maxHeartbeats 400000 in
theorem refclass2 (c:Int) (w:World) (h0:0≤c) (h1:c≤255) (h:103≤c∧c≤122∨71≤c∧c≤90) :
  Calls Tryz.prog 95 #[.int .u8 c] w fun e w'=>e=.returned (.int .i64 (cls c))∧w'=w:=by
 have tDg:bDg c=false:=decide_eq_false (by omega);have tLe:bLe c=true:=decide_eq_true (by omega);have tHx:bHx c=false:=decide_eq_false (by omega);have tTk:bTk c=true:=decide_eq_true (by omega);have tPl:bPl c=true:=decide_eq_true (by omega);have tHo:bHo c=true:=decide_eq_true (by omega);have hv:Hid (cls c=90):=by show _=_; unfold cls low sgn; (repeat' split) <;> omega
 have e32:(c==32)=false:=by simp; omega
 have e9:(c==9)=false:=by simp; omega
 clear h
 go_enter Tryz.func95,Tryz.ntmps95
 go_wp2_with fail
 refine (hasDg _ _ h0 h1).mono ?_
 rintro e w' ⟨rfl,rfl⟩;go_wp2_with fail
 refine (hasLe _ _ h0 h1).mono ?_
 rintro e w' ⟨rfl,rfl⟩;go_wp2_with fail
 refine (hasHx _ _ h0 h1).mono ?_
 rintro e w' ⟨rfl,rfl⟩;go_wp2_with fail
 refine (hasTk _ _ h0 h1).mono ?_
 rintro e w' ⟨rfl,rfl⟩;go_wp2_with fail
 refine (hasPl _ _ h0 h1).mono ?_
 rintro e w' ⟨rfl,rfl⟩;go_wp2_with fail
 refine (hasHo _ _ h0 h1).mono ?_
 rintro e w' ⟨rfl,rfl⟩;go_wp2;go_ret;exact ⟨ret_int hv.out.symm,rfl⟩
set_option maxHeartbeats 400000 in
theorem refclass3 (c:Int) (w:World) (h0:0≤c) (h1:c≤255) (h:c=45∨c=46) :
  Calls Tryz.prog 95 #[.int .u8 c] w fun e w'=>e=.returned (.int .i64 (cls c))∧w'=w:=by
 have tDg:bDg c=false:=decide_eq_false (by omega);have tLe:bLe c=false:=decide_eq_false (by omega);have tHx:bHx c=false:=decide_eq_false (by omega);have tTk:bTk c=true:=decide_eq_true (by omega);have tPl:bPl c=true:=decide_eq_true (by omega);have tHo:bHo c=true:=decide_eq_true (by omega);have hv:Hid (cls c=88):=by show _=_; unfold cls low sgn; (repeat' split) <;> omega
 have e32:(c==32)=false:=by simp; omega
 have e9:(c==9)=false:=by simp; omega
 clear h
 go_enter Tryz.func95,Tryz.ntmps95
 go_wp2_with fail
 refine (hasDg _ _ h0 h1).mono ?_
 rintro e w' ⟨rfl,rfl⟩;go_wp2_with fail
 refine (hasLe _ _ h0 h1).mono ?_
 rintro e w' ⟨rfl,rfl⟩;go_wp2_with fail
 refine (hasHx _ _ h0 h1).mono ?_
 rintro e w' ⟨rfl,rfl⟩;go_wp2_with fail
 refine (hasTk _ _ h0 h1).mono ?_
 rintro e w' ⟨rfl,rfl⟩;go_wp2_with fail
 refine (hasPl _ _ h0 h1).mono ?_
 rintro e w' ⟨rfl,rfl⟩;go_wp2_with fail
 refine (hasHo _ _ h0 h1).mono ?_
 rintro e w' ⟨rfl,rfl⟩;go_wp2;go_ret;exact ⟨ret_int hv.out.symm,rfl⟩
set_option maxHeartbeats 400000 in
theorem refclass4 (c:Int) (w:World) (h0:0≤c) (h1:c≤255) (h:c=33∨c=126∨c=42∨c=95∨c=39) :
  Calls Tryz.prog 95 #[.int .u8 c] w fun e w'=>e=.returned (.int .i64 (cls c))∧w'=w:=by
 have tDg:bDg c=false:=decide_eq_false (by omega);have tLe:bLe c=false:=decide_eq_false (by omega);have tHx:bHx c=false:=decide_eq_false (by omega);have tTk:bTk c=true:=decide_eq_true (by omega);have tPl:bPl c=true:=decide_eq_true (by omega);have tHo:bHo c=false:=decide_eq_false (by omega);have hv:Hid (cls c=24):=by show _=_; unfold cls low sgn; (repeat' split) <;> omega
 have e32:(c==32)=false:=by simp; omega
 have e9:(c==9)=false:=by simp; omega
 clear h
 go_enter Tryz.func95,Tryz.ntmps95
 go_wp2_with fail
 refine (hasDg _ _ h0 h1).mono ?_
 rintro e w' ⟨rfl,rfl⟩;go_wp2_with fail
 refine (hasLe _ _ h0 h1).mono ?_
 rintro e w' ⟨rfl,rfl⟩;go_wp2_with fail
 refine (hasHx _ _ h0 h1).mono ?_
 rintro e w' ⟨rfl,rfl⟩;go_wp2_with fail
 refine (hasTk _ _ h0 h1).mono ?_
 rintro e w' ⟨rfl,rfl⟩;go_wp2_with fail
 refine (hasPl _ _ h0 h1).mono ?_
 rintro e w' ⟨rfl,rfl⟩;go_wp2_with fail
 refine (hasHo _ _ h0 h1).mono ?_
 rintro e w' ⟨rfl,rfl⟩;go_wp2;go_ret;exact ⟨ret_int hv.out.symm,rfl⟩
set_option maxHeartbeats 400000 in
theorem refclass5 (c:Int) (w:World) (h0:0≤c) (h1:c≤255) (h:c=37∨c=43∨c=96) :
  Calls Tryz.prog 95 #[.int .u8 c] w fun e w'=>e=.returned (.int .i64 (cls c))∧w'=w:=by
 have tDg:bDg c=false:=decide_eq_false (by omega);have tLe:bLe c=false:=decide_eq_false (by omega);have tHx:bHx c=false:=decide_eq_false (by omega);have tTk:bTk c=true:=decide_eq_true (by omega);have tPl:bPl c=false:=decide_eq_false (by omega);have tHo:bHo c=false:=decide_eq_false (by omega);have hv:Hid (cls c=8):=by show _=_; unfold cls low sgn; (repeat' split) <;> omega
 have e32:(c==32)=false:=by simp; omega
 have e9:(c==9)=false:=by simp; omega
 clear h
 go_enter Tryz.func95,Tryz.ntmps95
 go_wp2_with fail
 refine (hasDg _ _ h0 h1).mono ?_
 rintro e w' ⟨rfl,rfl⟩;go_wp2_with fail
 refine (hasLe _ _ h0 h1).mono ?_
 rintro e w' ⟨rfl,rfl⟩;go_wp2_with fail
 refine (hasHx _ _ h0 h1).mono ?_
 rintro e w' ⟨rfl,rfl⟩;go_wp2_with fail
 refine (hasTk _ _ h0 h1).mono ?_
 rintro e w' ⟨rfl,rfl⟩;go_wp2_with fail
 refine (hasPl _ _ h0 h1).mono ?_
 rintro e w' ⟨rfl,rfl⟩;go_wp2_with fail
 refine (hasHo _ _ h0 h1).mono ?_
 rintro e w' ⟨rfl,rfl⟩;go_wp2;go_ret;exact ⟨ret_int hv.out.symm,rfl⟩
set_option maxHeartbeats 400000 in
theorem refclass6 (c:Int) (w:World) (h0:0≤c) (h1:c≤255) (h:c=40∨c=41) :
  Calls Tryz.prog 95 #[.int .u8 c] w fun e w'=>e=.returned (.int .i64 (cls c))∧w'=w:=by
 have tDg:bDg c=false:=decide_eq_false (by omega);have tLe:bLe c=false:=decide_eq_false (by omega);have tHx:bHx c=false:=decide_eq_false (by omega);have tTk:bTk c=false:=decide_eq_false (by omega);have tPl:bPl c=true:=decide_eq_true (by omega);have tHo:bHo c=false:=decide_eq_false (by omega);have hv:Hid (cls c=16):=by show _=_; unfold cls low sgn; (repeat' split) <;> omega
 have e32:(c==32)=false:=by simp; omega
 have e9:(c==9)=false:=by simp; omega
 clear h
 go_enter Tryz.func95,Tryz.ntmps95
 go_wp2_with fail
 refine (hasDg _ _ h0 h1).mono ?_
 rintro e w' ⟨rfl,rfl⟩;go_wp2_with fail
 refine (hasLe _ _ h0 h1).mono ?_
 rintro e w' ⟨rfl,rfl⟩;go_wp2_with fail
 refine (hasHx _ _ h0 h1).mono ?_
 rintro e w' ⟨rfl,rfl⟩;go_wp2_with fail
 refine (hasTk _ _ h0 h1).mono ?_
 rintro e w' ⟨rfl,rfl⟩;go_wp2_with fail
 refine (hasPl _ _ h0 h1).mono ?_
 rintro e w' ⟨rfl,rfl⟩;go_wp2_with fail
 refine (hasHo _ _ h0 h1).mono ?_
 rintro e w' ⟨rfl,rfl⟩;go_wp2;go_ret;exact ⟨ret_int hv.out.symm,rfl⟩
set_option maxHeartbeats 400000 in
theorem refclass7 (c:Int) (w:World) (h0:0≤c) (h1:c≤255) (h:c=32∨c=9) :
  Calls Tryz.prog 95 #[.int .u8 c] w fun e w'=>e=.returned (.int .i64 (cls c))∧w'=w:=by
 have tDg:bDg c=false:=decide_eq_false (by omega);have tLe:bLe c=false:=decide_eq_false (by omega);have tHx:bHx c=false:=decide_eq_false (by omega);have tTk:bTk c=false:=decide_eq_false (by omega);have tPl:bPl c=false:=decide_eq_false (by omega);have tHo:bHo c=false:=decide_eq_false (by omega);have hv:Hid (cls c=32):=by show _=_; unfold cls low sgn; (repeat' split) <;> omega
 rcases h with h | h
 all_goals
  subst h
  go_enter Tryz.func95,Tryz.ntmps95
  go_wp2_with fail
  refine (hasDg _ _ h0 h1).mono ?_
  rintro e w' ⟨rfl,rfl⟩;go_wp2_with fail
  refine (hasLe _ _ h0 h1).mono ?_
  rintro e w' ⟨rfl,rfl⟩;go_wp2_with fail
  refine (hasHx _ _ h0 h1).mono ?_
  rintro e w' ⟨rfl,rfl⟩;go_wp2_with fail
  refine (hasTk _ _ h0 h1).mono ?_
  rintro e w' ⟨rfl,rfl⟩;go_wp2_with fail
  refine (hasPl _ _ h0 h1).mono ?_
  rintro e w' ⟨rfl,rfl⟩;go_wp2_with fail
  refine (hasHo _ _ h0 h1).mono ?_
  rintro e w' ⟨rfl,rfl⟩;go_wp2;go_ret;exact ⟨ret_int hv.out.symm,rfl⟩
set_option maxHeartbeats 400000 in
theorem refclass8 (c:Int) (w:World) (h0:0≤c) (h1:c≤255) (h:¬ (48≤c∧c≤57)∧¬ (97≤c∧c≤122∨65≤c∧c≤90)∧c ≠ 45∧c ≠ 46∧c ≠ 33∧c ≠ 37∧c ≠ 42∧c ≠ 95∧c ≠ 43∧c ≠ 96∧c ≠ 39∧c ≠ 126∧c ≠ 40∧c ≠ 41∧c ≠ 32∧c ≠ 9) :
  Calls Tryz.prog 95 #[.int .u8 c] w fun e w'=>e=.returned (.int .i64 (cls c))∧w'=w:=by
 have tDg:bDg c=false:=decide_eq_false (by omega);have tLe:bLe c=false:=decide_eq_false (by omega);have tHx:bHx c=false:=decide_eq_false (by omega);have tTk:bTk c=false:=decide_eq_false (by omega);have tPl:bPl c=false:=decide_eq_false (by omega);have tHo:bHo c=false:=decide_eq_false (by omega);have hv:Hid (cls c=0):=by show _=_; unfold cls low sgn; (repeat' split) <;> omega
 have e32:(c==32)=false:=by simp; omega
 have e9:(c==9)=false:=by simp; omega
 clear h
 go_enter Tryz.func95,Tryz.ntmps95
 go_wp2_with fail
 refine (hasDg _ _ h0 h1).mono ?_
 rintro e w' ⟨rfl,rfl⟩;go_wp2_with fail
 refine (hasLe _ _ h0 h1).mono ?_
 rintro e w' ⟨rfl,rfl⟩;go_wp2_with fail
 refine (hasHx _ _ h0 h1).mono ?_
 rintro e w' ⟨rfl,rfl⟩;go_wp2_with fail
 refine (hasTk _ _ h0 h1).mono ?_
 rintro e w' ⟨rfl,rfl⟩;go_wp2_with fail
 refine (hasPl _ _ h0 h1).mono ?_
 rintro e w' ⟨rfl,rfl⟩;go_wp2_with fail
 refine (hasHo _ _ h0 h1).mono ?_
 rintro e w' ⟨rfl,rfl⟩;go_wp2;go_ret;exact ⟨ret_int hv.out.symm,rfl⟩
theorem refclass_any (c:Int) (w:World) (h0:0≤c) (h1:c≤255) :
  Calls Tryz.prog 95 #[.int .u8 c] w fun e w'=>e=.returned (.int .i64 (cls c))∧w'=w:=by
 by_cases a0:48≤c∧c≤57
 ·exact refclass0 c w h0 h1 a0
 by_cases a1:97≤c∧c≤102∨65≤c∧c≤70
 ·exact refclass1 c w h0 h1 a1
 by_cases a2:103≤c∧c≤122∨71≤c∧c≤90
 ·exact refclass2 c w h0 h1 a2
 by_cases a3:c=45∨c=46
 ·exact refclass3 c w h0 h1 a3
 by_cases a4:c=33∨c=126∨c=42∨c=95∨c=39
 ·exact refclass4 c w h0 h1 a4
 by_cases a5:c=37∨c=43∨c=96
 ·exact refclass5 c w h0 h1 a5
 by_cases a6:c=40∨c=41
 ·exact refclass6 c w h0 h1 a6
 by_cases a7:c=32∨c=9
 ·exact refclass7 c w h0 h1 a7
 exact refclass8 c w h0 h1 (by omega)
set_option maxHeartbeats 400000 in
theorem refall_any (s:ByteArray) (class_:Int) (w:World) (hs:s.size≤maxLen) :
  Calls Tryz.prog 47 #[.string s,.int .i64 class_] w fun e w'=>e=.returned (.bool (allB class_ s.data.toList))∧w'=w:=by
 unfold maxLen at hs
 go_enter Tryz.func47,Tryz.ntmps47
 go_wp2
 go_loop [5] (fun i=>∃ k:Nat,k≤s.size∧i=.int .i64 k∧Hid (allB class_ (s.data.toList.take k)=true)) (fun i=>s.size - (intOf i).toNat)
 case atStart=>exact ⟨0,Nat.zero_le _,rfl,rfl⟩
 case round =>
  obtain ⟨k,hk,rfl,hall⟩:=hrel;by_cases hlt:k < s.size
  ·have hbd:=u8_bd s[k];by_cases hb:isB s[k].toNat class_=true
   ·have hz:(bits BinOp.and IntKind.i64 (cls s[k].toNat) class_==0)=false:=by simpa [isB] using hb
    have HB:Hid (isB s[k].toNat class_=true):=hb;clear hb;go_wp2_with (go_at_call 95; refine (refclass_any _ _ hbd.1 hbd.2).mono ?_; rintro e w' ⟨rfl,rfl⟩)
    go_round
    case rel=>exact ⟨k+1,by omega,by go_num,show _=_ by rw [take_snoc s k hlt,allB_snoc,hall.out,HB.out]; rfl⟩
    case measure=>simp [intOf]; omega
   ·have hb':isB s[k].toNat class_=false:=by simpa using hb
    have hz:(bits BinOp.and IntKind.i64 (cls s[k].toNat) class_==0)=true:=by simpa [isB] using hb'
    clear hb;have HB:Hid (isB s[k].toNat class_=false):=hb';clear hb';go_wp2_with (go_at_call 95; refine (refclass_any _ _ hbd.1 hbd.2).mono ?_; rintro e w' ⟨rfl,rfl⟩)
    go_ret;exact ⟨ret_bool (allB_hit hlt HB.out).symm,rfl⟩
  ·go_wp2;go_ret;exact ⟨ret_bool (by rw [← hall.out,take_all s k (by omega)]),rfl⟩
theorem notMem_snoc {c:UInt8} {s:ByteArray} {k:Nat} (hk:k < s.size) (h:c ∉ s.data.toList.take k) (hc:¬ s[k]=c):c ∉ s.data.toList.take (k+1):=by
 rw [take_snoc s k hk];simp only [List.mem_append,List.mem_singleton,not_or];exact ⟨h,fun e=>hc e.symm⟩
theorem split_at (s:ByteArray) (k:Nat) (hk:k < s.size):s.data.toList=s.data.toList.take k++s[k] :: s.data.toList.drop (k+1):=by
 rw [← drop_cons s k hk,List.take_append_drop]
set_option maxHeartbeats 400000 in
theorem cut3_any (s:ByteArray) (c:UInt8) (w:World) (hs:s.size≤maxLen) :
  Calls Tryz.prog 46 #[.string s,.int .u8 c.toNat] w fun e w'=>e=.returned (.tuple #[.string ⟨(cutL c s.data.toList).1.toArray⟩,.string ⟨(cutL c s.data.toList).2.1.toArray⟩,.bool (cutL c s.data.toList).2.2])∧∃ q,w'=w.drewN q:=by
 unfold maxLen at hs
 go_enter Tryz.func46,Tryz.ntmps46
 go_wp2
 go_loop [7] (fun i=>∃ k:Nat,k≤s.size∧i=.int .i64 k∧Hid (c ∉ s.data.toList.take k)) (fun i=>s.size - (intOf i).toNat)
 case atStart=>exact ⟨0,Nat.zero_le _,rfl,show _ ∉ _ by simp⟩
 case round =>
  obtain ⟨k,hk,rfl,hno⟩:=hrel;by_cases hlt:k < s.size
  ·by_cases hc:s[k]=c
   ·have he:=u8_eq hc;have hv:Hid (cutL c s.data.toList=(s.data.toList.take k,s.data.toList.drop (k+1),true)):=show _=_ by
     conv=>lhs; rw [split_at s k hlt,hc]
     exact cutL_hit hno.out
    have e1:Hid ((s.extract 0 k).data.toList=s.data.toList.take k):=show _=_ by rw [ext_list]; simp
    have e2:Hid ((s.extract (k+1) s.size).data.toList=s.data.toList.drop (k+1)):=show _=_ by
     rw [ext_list,List.take_of_length_le (by rw [List.length_drop,len_data]; omega)]
    clear hc hno;have hwr:IntKind.i64.wrap ((k:Int)+1)=((k+1:Nat):Int):=by
     simp [IntKind.wrap,IntKind.bits,IntKind.signed]; omega
    go_wp2
    go_quiet (fail)
    go_wp2;go_ret3
    exact ⟨ret_cut (by rw [hv.out,e1.out,e2.out]),nq,rfl⟩
   ·have he:=u8_ne hc;have hno2:Hid (c ∉ s.data.toList.take (k+1)):=notMem_snoc hlt hno.out hc;clear hc hno;go_wp2
    go_round
    case rel=>exact ⟨k+1,by omega,by go_num,hno2⟩
    case measure=>simp [intOf]; omega
  ·have hv:Hid (cutL c s.data.toList=(s.data.toList,[],false)):=show _=_ by
    have:=hno.out
    rw [take_all s k (by omega)] at this;exact cutL_miss this
   clear hno;go_wp2;go_ret3
   exact ⟨ret_cut hv.out,0,rfl⟩
theorem ref_stop {most n d:Int} (h:922337203685477580 < n∨most < d∨most - d < 10 * n) (hm:most≤9223372036854775807) (hd:0≤d):d > most∨n > (most - d) / 10:=by omega
set_option maxHeartbeats 600000 in
theorem refnumber_any (s:ByteArray) (most:Int) (w:World) (hs:s.size≤maxLen) (hm0:-9223372036854775808≤most) (hm1:most≤9223372036854775807) :
  Calls Tryz.prog 48 #[.string s,.int .i64 most] w fun e w'=>e=.returned (.tuple #[.int .i64 (numV most s.data.toList).1,.int .i64 (numV most s.data.toList).2])∧w'=w:=by
 have hs0:=hs;unfold maxLen at hs;by_cases he:s.size=0
 ·have hE:=isE_true he;have hv:numV most s.data.toList=(0,10):=by
   have:s.data.toList=[]:=List.eq_nil_of_length_eq_zero (by rw [len_data,he])
   rw [numV,if_pos (Or.inl this)]
  have HV:Hid (numV most s.data.toList=(0,10)):=hv; clear hv
  go_enter Tryz.func48,Tryz.ntmps48
  go_wp2;go_ret2;exact ⟨ret_pair 0 10 HV.out,rfl⟩
 have hE:=isE_false (s:=s) (by omega);have hne:=data_ne (s:=s) (by omega);by_cases ha:allB 1 s.data.toList=true
 ·have hdig:Hid (∀ k (hk:k < s.size),48≤(s[k].toNat:Int)∧(s[k].toNat:Int)≤57):=fun k hk=>digit_at ha k hk;have HV:Hid (numV most s.data.toList=match numL most 0 s.data.toList with | some n=>(n,0) | none=>(0,9)):=by
   show _=_
   rw [numV,if_neg (by simp [hne,ha])]
   rfl
  clear hne
  go_enter Tryz.func48,Tryz.ntmps48
  go_wp2_with (go_at_call 47; refine (refall_any _ _ _ hs0).mono ?_; rintro e w' ⟨rfl,rfl⟩)
  go_loop [6,7] (fun n i=>∃ (k:Nat) (m:Int),k≤s.size∧i=.int .i64 k∧n=.int .i64 m∧0≤m∧m≤9223372036854775807∧Hid (numL most 0 s.data.toList=numL most m (s.data.toList.drop k))) (fun _ i=>s.size - (intOf i).toNat)
  case atStart=>exact ⟨0,0,Nat.zero_le _,rfl,rfl,by omega,by omega,rfl⟩
  case round =>
   obtain ⟨k,m,hk,rfl,rfl,hm0',hm1',hnum⟩:=hrel;by_cases hlt:k < s.size
   ·have hd:=hdig.out k hlt;by_cases h0:922337203685477580 < m
    ·have HS:Hid (numL most m (s.data.toList.drop k)=none):=numL_stop hlt (ref_stop (Or.inl h0) hm1 (by omega));go_wp2;go_ret2;exact ⟨ret_pair 0 9 (by rw [HV.out,hnum.out,HS.out]),rfl⟩
    ·by_cases h1:most < (s[k].toNat:Int) - 48
     ·have HS:Hid (numL most m (s.data.toList.drop k)=none):=numL_stop hlt (ref_stop (Or.inr (Or.inl h1)) hm1 (by omega));go_wp2;go_ret2;exact ⟨ret_pair 0 9 (by rw [HV.out,hnum.out,HS.out]),rfl⟩
     ·by_cases h2:most - ((s[k].toNat:Int) - 48) < 10 * m
      ·have HS:Hid (numL most m (s.data.toList.drop k)=none):=numL_stop hlt (ref_stop (Or.inr (Or.inr h2)) hm1 (by omega));go_wp2;go_ret2;exact ⟨ret_pair 0 9 (by rw [HV.out,hnum.out,HS.out]),rfl⟩
      ·have hst:=numL_go (most:=most) (n:=m) hlt (by omega);have HS:Hid (numL most m (s.data.toList.drop k)=numL most (10 * m+((s[k].toNat:Int) - 48)) (s.data.toList.drop (k+1))):=hst;clear hst;go_wp2
       go_round
       case rel=>exact ⟨k+1,10 * m+((s[k].toNat:Int) - 48),by omega,by go_num,by go_num,by omega,by omega,show _=_ by rw [hnum.out,HS.out]⟩
       case measure=>simp [intOf]; omega
   ·have HD:Hid (s.data.toList.drop k=[]):=drop_all s k (by omega);go_wp2;go_ret2;exact ⟨ret_pair m 0 (by rw [HV.out,hnum.out,HD.out]; rfl),rfl⟩
 ·have ha':allB 1 s.data.toList=false:=by simpa using ha
  have HV:Hid (numV most s.data.toList=(0,10)):=by show _=_; rw [numV,if_pos (Or.inr ha')]
  clear ha hne
  go_enter Tryz.func48,Tryz.ntmps48
  go_wp2_with (go_at_call 47; refine (refall_any _ _ _ hs0).mono ?_; rintro e w' ⟨rfl,rfl⟩)
  go_ret2;exact ⟨ret_pair 0 10 HV.out,rfl⟩
theorem refall_list (l:List UInt8) (c:Int) (w:World) (h:l.length≤1000) :
  Calls Tryz.prog 47 #[.string ⟨l.toArray⟩,.int .i64 c] w fun e w'=>e=.returned (.bool (allB c l))∧w'=w:=refall_any ⟨l.toArray⟩ c w (by rw [size_list]; unfold maxLen; omega)
theorem refnum4_list (l:List UInt8) (w:World) (h:l.length≤1000) :
  Calls Tryz.prog 48 #[.string ⟨l.toArray⟩,.int .i64 10000] w fun e w'=>e=.returned (.tuple #[.int .i64 (numV 10000 l).1,.int .i64 (numV 10000 l).2])∧w'=w:=refnumber_any ⟨l.toArray⟩ 10000 w (by rw [size_list]; unfold maxLen; omega) (by decide) (by decide)
def thouAB (a b:List UInt8):Int :=
 if ¬ (a=[48]∨a=[49])∨3 < b.length∨allB 1 b=false then -1
 else if 1000 < (numV 10000 (a++(b++List.replicate (3 - b.length) 48))).1 then -1
 else (numV 10000 (a++(b++List.replicate (3 - b.length) 48))).1
theorem thou_ab (s:List UInt8):thouV s=thouAB (cutL 46 s).1 (cutL 46 s).2.1:=rfl
set_option maxHeartbeats 1000000 in
set_option maxRecDepth 100000 in
theorem rthou_any (l:List UInt8) (w:World) (h:l.length≤140737488355328) :
  Calls Tryz.prog 19 #[.string ⟨l.toArray⟩] w fun e w'=>e=.returned (.int .i64 (thouV l))∧∃ q,w'=w.drewN q:=by
 have K:=hid (fun w'=>cut3_any ⟨l.toArray⟩ 46 w' (by rw [size_list]; unfold maxLen; omega));rw [show (⟨l.toArray⟩:ByteArray).data.toList=l from by simp] at K;have hlen:=cutL_len 46 l;rw [thou_ab];generalize cutL 46 l=C at K hlen ⊢;obtain ⟨a,b,o⟩:=C;simp only at K hlen ⊢;have hv:thouAB a b=if ¬ (a=[48]∨a=[49])∨3 < b.length∨allB 1 b=false then -1 else if 1000 < (numV 10000 (a++(b++List.replicate (3 - b.length) 48))).1 then -1 else (numV 10000 (a++(b++List.replicate (3 - b.length) 48))).1:=rfl
 generalize thouAB a b=R at hv ⊢;have za:=size_list a;have zb:=size_list b;have hbl:b.length≤140737488355328:=by omega
 by_cases ha:a=[48]∨a=[49]
 case neg =>
  rw [if_pos (.inl ha)] at hv;have HV:=hid hv;have n1:(a != [48])=true:=by simp; exact fun e=>ha (.inl e)
  have n2:(a != [49])=true:=by simp; exact fun e=>ha (.inr e)
  have n3:(a==[48])=false:=by rw [beq_eq_false_iff_ne]; exact fun e=>ha (.inl e)
  have n4:(a==[49])=false:=by rw [beq_eq_false_iff_ne]; exact fun e=>ha (.inr e)
  clear hv ha
  go_enter Tryz.func19,Tryz.ntmps19
  go_wp2_with fail
  refine (K.out _).mono ?_
  rintro e w1 ⟨rfl,q,rfl⟩;go_wp2;go_ret;exact ⟨by rw [HV.out]; rfl,q,rfl⟩
 have hab:((a != [48]) && (a != [49]))=false:=by rcases ha with rfl | rfl <;> rfl
 have hal:a.length=1:=by rcases ha with rfl | rfl <;> rfl
 by_cases hb:3 < b.length
 ·rw [if_pos (.inr (.inl hb))] at hv;have HV:=hid hv;have r3:(3:Int) < (b.length:Int):=by omega
  clear hv
  rcases ha with rfl | rfl
  all_goals
   go_enter Tryz.func19,Tryz.ntmps19
   go_wp2_with fail
   refine (K.out _).mono ?_
   rintro e w1 ⟨rfl,q,rfl⟩;go_wp2;go_ret;exact ⟨by rw [HV.out]; rfl,q,rfl⟩
 have r3:¬ (3:Int) < (b.length:Int):=by omega
 have KA:=hid (fun w'=>refall_list b 1 w' (by omega))
 cases hall:allB 1 b with
 | false =>
  rw [hall] at KA;rw [if_pos (.inr (.inr hall))] at hv;have HV:=hid hv;clear hv hall
  rcases ha with rfl | rfl
  all_goals
   go_enter Tryz.func19,Tryz.ntmps19
   go_wp2_with fail
   refine (K.out _).mono ?_
   rintro e w1 ⟨rfl,q,rfl⟩;go_wp2_with fail
   refine (KA.out _).mono ?_
   rintro e w' ⟨rfl,hw'⟩; rw [hw']; clear hw' w'
   go_wp2;go_ret;exact ⟨by rw [HV.out]; rfl,q,rfl⟩
 | true =>
  rw [hall] at KA;rw [if_neg (by simp [ha,hall]; omega)] at hv;have KN:=hid (fun w'=>refnum4_list (a++(b++List.replicate (3 - b.length) 48)) w' (by simp; omega));generalize (numV 10000 (a++(b++List.replicate (3 - b.length) 48)))=N at hv KN;obtain ⟨nv,ne⟩:=N;simp only at hv KN;rw [← glueLL] at KN;have HV:=hid hv;clear hv hall
  rcases ha with rfl | rfl
  all_goals
   go_enter Tryz.func19,Tryz.ntmps19
   go_wp2_with fail
   refine (K.out _).mono ?_
   rintro e w1 ⟨rfl,q,rfl⟩;go_wp2_with fail
   refine (KA.out _).mono ?_
   rintro e w' ⟨rfl,hw'⟩; rw [hw']; clear hw' w'
   go_wp2
   go_loop [4] (fun v=>∃ i:Nat,v=.string ⟨(b++List.replicate i 48).toArray⟩∧b.length+i≤3) (fun v=>3 - lenV v)
   case atStart=>exact ⟨0,by simp,by omega⟩
   case round =>
    obtain ⟨i,rfl,hi⟩:=hrel;have zz:=size_list (b++List.replicate i 48);have hgl:=glueLL (b++List.replicate i 48) [48];have hrep:b++List.replicate i 48++[48]=b++List.replicate (i+1) 48:=by rw [List.append_assoc,List.replicate_succ']
    rw [hrep] at hgl;have HGL:=hid hgl;have hll:(b++List.replicate i 48).length=b.length+i:=by simp
    rw [hll] at zz;by_cases h3:b.length+i=3
    ·have ei:3 - b.length=i:=by omega
     rw [ei] at KN;clear HGL hgl hrep;generalize b++List.replicate i 48=B at KN zz hll;have zB:B.length=3:=by omega
     have r5:¬ ((b.length+i:Nat):Int) < 3:=by omega
     by_cases hn:1000 < nv
     ·have HR:Hid (R=-1):=show _=_ by rw [HV.out,if_pos hn]
      clear HV;go_wp2_with (go_at_call 48; refine (KN.out _).mono ?_; rintro e w' ⟨rfl,hw'⟩; rw [hw']; clear hw' w')
      go_ret;exact ⟨by rw [HR.out]; rfl,q,rfl⟩
     ·have HR:Hid (R=nv):=show _=_ by rw [HV.out,if_neg hn]
      clear HV;go_wp2_with (go_at_call 48; refine (KN.out _).mono ?_; rintro e w' ⟨rfl,hw'⟩; rw [hw']; clear hw' w')
      go_ret;exact ⟨by rw [HR.out]; rfl,q,rfl⟩
    ·have r5:((b.length+i:Nat):Int) < 3:=by omega
     clear hrep hgl;go_wp2
     go_round
     case rel=>exact ⟨i+1,by rw [← HGL.out],by omega⟩
     case measure =>
      have zy:((⟨(b++List.replicate i 48).toArray⟩:ByteArray)++⟨#[48]⟩).size=b.length+i+1:=by rw [ByteArray.size_append,zz]; rfl
      show 3 - ((⟨(b++List.replicate i 48).toArray⟩:ByteArray)++⟨#[48]⟩).size < 3 - (⟨(b++List.replicate i 48).toArray⟩:ByteArray).size
      rw [zy,zz];omega
end Go.Proofs.YtdnekampnkhmfaaGreatDoor
