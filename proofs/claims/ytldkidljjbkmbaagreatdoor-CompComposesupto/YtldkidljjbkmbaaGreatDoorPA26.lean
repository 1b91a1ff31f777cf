/-
  CutL, RefClass, Lower, HostL, Trim, XmlTreeL, RefCut, RefEsc.
-/
import Derived.Test.YtldkidljjbkmbaaGreatDoorPX03
set_option linter.unusedVariables false
set_option linter.unusedSimpArgs false
set_option maxRecDepth 20000
namespace Go.Proofs.YtldkidljjbkmbaaGreatDoor
theorem cutL_has (c:UInt8) (l:List UInt8):(cutL c l).2.2=hasL c l:=by
 unfold hasL
 induction l with
 | nil=>rfl
 | cons x l ih =>
  rw [cutL];by_cases h:x=c
  ·simp [h]
  ·rw [if_neg h]; simp [ih]; intro e; exact absurd e.symm h
theorem cutL_join (c:UInt8) (l:List UInt8):(cutL c l).2.2=true → l=(cutL c l).1++c :: (cutL c l).2.1:=by
 induction l with
 | nil=>intro h; simp [cutL] at h
 | cons x l ih =>
  rw [cutL];by_cases h:x=c
  ·simp [h]
  ·rw [if_neg h]; intro h2; simp only [List.cons_append]; rw [← ih h2]
end Go.Proofs.YtldkidljjbkmbaaGreatDoor
namespace Go.Proofs.YtldkidljjbkmbaaGreatDoor
open Go.RowKit Sc
def hasB (c:Int) (s:ByteArray):Bool:=s.data.toList.any fun b=>(b.toNat:Int)==c
theorem hasB_hit {c:Int} {s:ByteArray} {k:Nat} (h:k < s.size) (hb:(s[k].toNat:Int)=c):hasB c s=true:=by
 rw [hasB,List.any_eq_true];exact ⟨s[k],List.mem_of_getElem? (getL s k h),by simp [hb]⟩
set_option maxHeartbeats 400000 in
theorem has_any (s:ByteArray) (c:Int) (w:World) (hs:s.size≤maxLen) :
  Calls Tryz.prog 124 #[.string s,.int .u8 c] w fun e w'=>e=.returned (.bool (hasB c s))∧w'=w:=by
 unfold maxLen at hs
 go_enter Tryz.func124,Tryz.ntmps124
 go_wp2
 go_loop [5] (fun i=>∃ k:Nat,k≤s.size∧i=.int .i64 k∧Hid ((s.data.toList.take k).any (fun b=>(b.toNat:Int)==c)=false)) (fun i=>s.size - (intOf i).toNat)
 case atStart=>exact ⟨0,Nat.zero_le _,rfl,rfl⟩
 case round =>
  obtain ⟨k,hk,rfl,hall⟩:=hrel;by_cases hlt:k < s.size
  ·by_cases hb:(s[k].toNat:Int)=c
   ·have hb':((s[k].toNat:Int)==c)=true:=by simpa using hb
    have HH:Hid (hasB c s=true):=hasB_hit hlt hb;clear hb;go_wp2;go_ret;exact ⟨ret_bool HH.out.symm,rfl⟩
   ·have hb':((s[k].toNat:Int)==c)=false:=by simpa using hb
    clear hb;go_wp2
    go_round
    case rel=>exact ⟨k+1,by omega,by go_num,show _=_ by rw [take_snoc s k hlt,List.any_append,hall.out]; simpa using hb'⟩
    case measure=>simp [intOf]; omega
  ·go_wp2;go_ret;exact ⟨ret_bool (by rw [hasB,← hall.out,take_all s k (by omega)]),rfl⟩
theorem of256 {p:Int → Prop} (h:∀ n:Fin 256,p (n.val:Int)) (c:Int) (h0:0≤c) (h1:c≤255):p c:=by
 obtain ⟨n,rfl⟩:=Int.eq_ofNat_of_zero_le h0;exact h ⟨n,by omega⟩
def bDg (c:Int):Bool:=decide (48≤c∧c≤57)
theorem hasDg (c:Int) (w:World) (h0:0≤c) (h1:c≤255):Calls Tryz.prog 124 #[.string ⟨#[48,49,50,51,52,53,54,55,56,57]⟩,.int .u8 c] w fun e w'=>e=.returned (.bool (bDg c))∧w'=w:=by
 have h:hasB c ⟨#[48,49,50,51,52,53,54,55,56,57]⟩=bDg c:=of256 (p:=fun c=>hasB c ⟨#[48,49,50,51,52,53,54,55,56,57]⟩=bDg c) (by decide +kernel) c h0 h1;rw [← h];exact has_any _ c w (by decide)
def bLe (c:Int):Bool:=decide (97≤c∧c≤122∨65≤c∧c≤90)
theorem hasLe (c:Int) (w:World) (h0:0≤c) (h1:c≤255):Calls Tryz.prog 124 #[.string ⟨#[97,98,99,100,101,102,103,104,105,106,107,108,109,110,111,112,113,114,115,116,117,118,119,120,121,122,65,66,67,68,69,70,71,72,73,74,75,76,77,78,79,80,81,82,83,84,85,86,87,88,89,90]⟩,.int .u8 c] w fun e w'=>e=.returned (.bool (bLe c))∧w'=w:=by
 have h:hasB c ⟨#[97,98,99,100,101,102,103,104,105,106,107,108,109,110,111,112,113,114,115,116,117,118,119,120,121,122,65,66,67,68,69,70,71,72,73,74,75,76,77,78,79,80,81,82,83,84,85,86,87,88,89,90]⟩=bLe c:=of256 (p:=fun c=>hasB c ⟨#[97,98,99,100,101,102,103,104,105,106,107,108,109,110,111,112,113,114,115,116,117,118,119,120,121,122,65,66,67,68,69,70,71,72,73,74,75,76,77,78,79,80,81,82,83,84,85,86,87,88,89,90]⟩=bLe c) (by decide +kernel) c h0 h1;rw [← h];exact has_any _ c w (by decide)
def bHx (c:Int):Bool:=decide (48≤c∧c≤57∨97≤c∧c≤102∨65≤c∧c≤70)
theorem hasHx (c:Int) (w:World) (h0:0≤c) (h1:c≤255):Calls Tryz.prog 124 #[.string ⟨#[48,49,50,51,52,53,54,55,56,57,97,98,99,100,101,102,65,66,67,68,69,70]⟩,.int .u8 c] w fun e w'=>e=.returned (.bool (bHx c))∧w'=w:=by
 have h:hasB c ⟨#[48,49,50,51,52,53,54,55,56,57,97,98,99,100,101,102,65,66,67,68,69,70]⟩=bHx c:=of256 (p:=fun c=>hasB c ⟨#[48,49,50,51,52,53,54,55,56,57,97,98,99,100,101,102,65,66,67,68,69,70]⟩=bHx c) (by decide +kernel) c h0 h1;rw [← h];exact has_any _ c w (by decide)
def bTk (c:Int):Bool:=decide (48≤c∧c≤57∨97≤c∧c≤122∨65≤c∧c≤90∨c=45∨c=46∨c=33∨c=37∨c=42∨c=95∨c=43∨c=96∨c=39∨c=126)
theorem hasTk (c:Int) (w:World) (h0:0≤c) (h1:c≤255):Calls Tryz.prog 124 #[.string ⟨#[48,49,50,51,52,53,54,55,56,57,97,98,99,100,101,102,103,104,105,106,107,108,109,110,111,112,113,114,115,116,117,118,119,120,121,122,65,66,67,68,69,70,71,72,73,74,75,76,77,78,79,80,81,82,83,84,85,86,87,88,89,90,45,46,33,37,42,95,43,96,39,126]⟩,.int .u8 c] w fun e w'=>e=.returned (.bool (bTk c))∧w'=w:=by
 have h:hasB c ⟨#[48,49,50,51,52,53,54,55,56,57,97,98,99,100,101,102,103,104,105,106,107,108,109,110,111,112,113,114,115,116,117,118,119,120,121,122,65,66,67,68,69,70,71,72,73,74,75,76,77,78,79,80,81,82,83,84,85,86,87,88,89,90,45,46,33,37,42,95,43,96,39,126]⟩=bTk c:=of256 (p:=fun c=>hasB c ⟨#[48,49,50,51,52,53,54,55,56,57,97,98,99,100,101,102,103,104,105,106,107,108,109,110,111,112,113,114,115,116,117,118,119,120,121,122,65,66,67,68,69,70,71,72,73,74,75,76,77,78,79,80,81,82,83,84,85,86,87,88,89,90,45,46,33,37,42,95,43,96,39,126]⟩=bTk c) (by decide +kernel) c h0 h1;rw [← h];exact has_any _ c w (by decide)
def bPl (c:Int):Bool:=decide (48≤c∧c≤57∨97≤c∧c≤122∨65≤c∧c≤90∨c=45∨c=95∨c=46∨c=33∨c=126∨c=42∨c=39∨c=40∨c=41)
theorem hasPl (c:Int) (w:World) (h0:0≤c) (h1:c≤255):Calls Tryz.prog 124 #[.string ⟨#[48,49,50,51,52,53,54,55,56,57,97,98,99,100,101,102,103,104,105,106,107,108,109,110,111,112,113,114,115,116,117,118,119,120,121,122,65,66,67,68,69,70,71,72,73,74,75,76,77,78,79,80,81,82,83,84,85,86,87,88,89,90,45,95,46,33,126,42,39,40,41]⟩,.int .u8 c] w fun e w'=>e=.returned (.bool (bPl c))∧w'=w:=by
 have h:hasB c ⟨#[48,49,50,51,52,53,54,55,56,57,97,98,99,100,101,102,103,104,105,106,107,108,109,110,111,112,113,114,115,116,117,118,119,120,121,122,65,66,67,68,69,70,71,72,73,74,75,76,77,78,79,80,81,82,83,84,85,86,87,88,89,90,45,95,46,33,126,42,39,40,41]⟩=bPl c:=of256 (p:=fun c=>hasB c ⟨#[48,49,50,51,52,53,54,55,56,57,97,98,99,100,101,102,103,104,105,106,107,108,109,110,111,112,113,114,115,116,117,118,119,120,121,122,65,66,67,68,69,70,71,72,73,74,75,76,77,78,79,80,81,82,83,84,85,86,87,88,89,90,45,95,46,33,126,42,39,40,41]⟩=bPl c) (by decide +kernel) c h0 h1;rw [← h];exact has_any _ c w (by decide)
def bHo (c:Int):Bool:=decide (48≤c∧c≤57∨97≤c∧c≤122∨65≤c∧c≤90∨c=45∨c=46)
theorem hasHo (c:Int) (w:World) (h0:0≤c) (h1:c≤255):Calls Tryz.prog 124 #[.string ⟨#[48,49,50,51,52,53,54,55,56,57,97,98,99,100,101,102,103,104,105,106,107,108,109,110,111,112,113,114,115,116,117,118,119,120,121,122,65,66,67,68,69,70,71,72,73,74,75,76,77,78,79,80,81,82,83,84,85,86,87,88,89,90,45,46]⟩,.int .u8 c] w fun e w'=>e=.returned (.bool (bHo c))∧w'=w:=by
 have h:hasB c ⟨#[48,49,50,51,52,53,54,55,56,57,97,98,99,100,101,102,103,104,105,106,107,108,109,110,111,112,113,114,115,116,117,118,119,120,121,122,65,66,67,68,69,70,71,72,73,74,75,76,77,78,79,80,81,82,83,84,85,86,87,88,89,90,45,46]⟩=bHo c:=of256 (p:=fun c=>hasB c ⟨#[48,49,50,51,52,53,54,55,56,57,97,98,99,100,101,102,103,104,105,106,107,108,109,110,111,112,113,114,115,116,117,118,119,120,121,122,65,66,67,68,69,70,71,72,73,74,75,76,77,78,79,80,81,82,83,84,85,86,87,88,89,90,45,46]⟩=bHo c) (by decide +kernel) c h0 h1;rw [← h];exact has_any _ c w (by decide)
set_option maxHeartbeats 400000 in
theorem refclass0 (c:Int) (w:World) (h0:0≤c) (h1:c≤255) (h:48≤c∧c≤57) :
  Calls Tryz.prog 119 #[.int .u8 c] w fun e w'=>e=.returned (.int .i64 (cls c))∧w'=w:=by
 have tDg:bDg c=true:=decide_eq_true (by omega);have tLe:bLe c=false:=decide_eq_false (by omega);have tHx:bHx c=true:=decide_eq_true (by omega);have tTk:bTk c=true:=decide_eq_true (by omega);have tPl:bPl c=true:=decide_eq_true (by omega);have tHo:bHo c=true:=decide_eq_true (by omega);have hv:Hid (cls c=93):=by show _=_; unfold cls low sgn; (repeat' split) <;> omega
 have e32:(c==32)=false:=by simp; omega
 have e9:(c==9)=false:=by simp; omega
 clear h
 go_enter Tryz.func119,Tryz.ntmps119
 go_wp2_with fail
 refine (hasDg _ _ h0 h1).mono ?_
 rintro e w' ⟨rfl,rfl⟩;go_wp2_with fail
 refine (hasLe _ _ h0 h1).mono ?_
 rintro e w' ⟨rfl,rfl⟩;go_wp2_with fail
 refine (hasHx _ _ h0 h1).mono ?_
 rintro e w' ⟨rfl,rfl⟩;go_wp2_with fail
 refine (hasTk _ _ h0 h1).mono ?_
 rintro e w' ⟨rfl,rfl⟩;go_wp2_with fail
 refine (hasPl _ _ h0 h1).mono ?_
 rintro e w' ⟨rfl,rfl⟩;go_wp2_with fail
 refine (hasHo _ _ h0 h1).mono ?_
 rintro e w' ⟨rfl,rfl⟩;go_wp2;go_ret;exact ⟨ret_int hv.out.symm,rfl⟩
set_option maxHeartbeats 400000 in
theorem refclass1 (c:Int) (w:World) (h0:0≤c) (h1:c≤255) (h:97≤c∧c≤102∨65≤c∧c≤70) :
  Calls Tryz.prog 119 #[.int .u8 c] w fun e w'=>e=.returned (.int .i64 (cls c))∧w'=w:=by
 have tDg:bDg c=false:=decide_eq_false (by omega);have tLe:bLe c=true:=decide_eq_true (by omega);have tHx:bHx c=true:=decide_eq_true (by omega);have tTk:bTk c=true:=decide_eq_true (by omega);have tPl:bPl c=true:=decide_eq_true (by omega);have tHo:bHo c=true:=decide_eq_true (by omega);have hv:Hid (cls c=94):=by show _=_; unfold cls low sgn; (repeat' split) <;> omega
 have e32:(c==32)=false:=by simp; omega
 have e9:(c==9)=false:=by simp; omega
 clear h
 go_enter Tryz.func119,Tryz.ntmps119
 go_wp2_with fail
 refine (hasDg _ _ h0 h1).mono ?_
 rintro e w' ⟨rfl,rfl⟩;go_wp2_with fail
 refine (hasLe _ _ h0 h1).mono ?_
 rintro e w' ⟨rfl,rfl⟩;go_wp2_with fail
 refine (hasHx _ _ h0 h1).mono ?_
 rintro e w' ⟨rfl,rfl⟩;go_wp2_with fail
 refine (hasTk _ _ h0 h1).mono ?_
 rintro e w' ⟨rfl,rfl⟩;go_wp2_with fail
 refine (hasPl _ _ h0 h1).mono ?_
 rintro e w' ⟨rfl,rfl⟩;go_wp2_with fail
 refine (hasHo _ _ h0 h1).mono ?_
 rintro e w' ⟨rfl,rfl⟩;go_wp2;go_ret;exact ⟨ret_int hv.out.symm,rfl⟩
set_option maxHeartbeats 400000 in
theorem refclass2 (c:Int) (w:World) (h0:0≤c) (h1:c≤255) (h:103≤c∧c≤122∨71≤c∧c≤90) :
  Calls Tryz.prog 119 #[.int .u8 c] w fun e w'=>e=.returned (.int .i64 (cls c))∧w'=w:=by
 have tDg:bDg c=false:=decide_eq_false (by omega);have tLe:bLe c=true:=decide_eq_true (by omega);have tHx:bHx c=false:=decide_eq_false (by omega);have tTk:bTk c=true:=decide_eq_true (by omega);have tPl:bPl c=true:=decide_eq_true (by omega);have tHo:bHo c=true:=decide_eq_true (by omega);have hv:Hid (cls c=90):=by show _=_; unfold cls low sgn; (repeat' split) <;> omega
 have e32:(c==32)=false:=by simp; omega
 have e9:(c==9)=false:=by simp; omega
 clear h
 go_enter Tryz.func119,Tryz.ntmps119
 go_wp2_with fail
 refine (hasDg _ _ h0 h1).mono ?_
 rintro e w' ⟨rfl,rfl⟩;go_wp2_with fail
 refine (hasLe _ _ h0 h1).mono ?_
 rintro e w' ⟨rfl,rfl⟩;go_wp2_with fail
 refine (hasHx _ _ h0 h1).mono ?_
 rintro e w' ⟨rfl,rfl⟩;go_wp2_with fail
 refine (hasTk _ _ h0 h1).mono ?_
 rintro e w' ⟨rfl,rfl⟩;go_wp2_with fail
 refine (hasPl _ _ h0 h1).mono ?_
 rintro e w' ⟨rfl,rfl⟩;go_wp2_with fail
 refine (hasHo _ _ h0 h1).mono ?_
 rintro e w' ⟨rfl,rfl⟩;go_wp2;go_ret;exact ⟨ret_int hv.out.symm,rfl⟩
set_option maxHeartbeats 400000 in
theorem refclass3 (c:Int) (w:World) (h0:0≤c) (h1:c≤255) (h:c=45∨c=46) :
  Calls Tryz.prog 119 #[.int .u8 c] w fun e w'=>e=.returned (.int .i64 (cls c))∧w'=w:=by
 have tDg:bDg c=false:=decide_eq_false (by omega);have tLe:bLe c=false:=decide_eq_false (by omega);have tHx:bHx c=false:=decide_eq_false (by omega);have tTk:bTk c=true:=decide_eq_true (by omega);have tPl:bPl c=true:=decide_eq_true (by omega);have tHo:bHo c=true:=decide_eq_true (by omega);have hv:Hid (cls c=88):=by show _=_; unfold cls low sgn; (repeat' split) <;> omega
 have e32:(c==32)=false:=by simp; omega
 have e9:(c==9)=false:=by simp; omega
 clear h
 go_enter Tryz.func119,Tryz.ntmps119
 go_wp2_with fail
 refine (hasDg _ _ h0 h1).mono ?_
 rintro e w' ⟨rfl,rfl⟩;go_wp2_with fail
 refine (hasLe _ _ h0 h1).mono ?_
 rintro e w' ⟨rfl,rfl⟩;go_wp2_with fail
 refine (hasHx _ _ h0 h1).mono ?_
 rintro e w' ⟨rfl,rfl⟩;go_wp2_with fail
 refine (hasTk _ _ h0 h1).mono ?_
 rintro e w' ⟨rfl,rfl⟩;go_wp2_with fail
 refine (hasPl _ _ h0 h1).mono ?_
 rintro e w' ⟨rfl,rfl⟩;go_wp2_with fail
 refine (hasHo _ _ h0 h1).mono ?_
 rintro e w' ⟨rfl,rfl⟩;go_wp2;go_ret;exact ⟨ret_int hv.out.symm,rfl⟩
set_option maxHeartbeats 400000 in
theorem refclass4 (c:Int) (w:World) (h0:0≤c) (h1:c≤255) (h:c=33∨c=126∨c=42∨c=95∨c=39) :
  Calls Tryz.prog 119 #[.int .u8 c] w fun e w'=>e=.returned (.int .i64 (cls c))∧w'=w:=by
 have tDg:bDg c=false:=decide_eq_false (by omega);have tLe:bLe c=false:=decide_eq_false (by omega);have tHx:bHx c=false:=decide_eq_false (by omega);have tTk:bTk c=true:=decide_eq_true (by omega);have tPl:bPl c=true:=decide_eq_true (by omega);have tHo:bHo c=false:=decide_eq_false (by omega);have hv:Hid (cls c=24):=by show _=_; unfold cls low sgn; (repeat' split) <;> omega
 have e32:(c==32)=false:=by simp; omega
 have e9:(c==9)=false:=by simp; omega
 clear h
 go_enter Tryz.func119,Tryz.ntmps119
 go_wp2_with fail
 refine (hasDg _ _ h0 h1).mono ?_
 rintro e w' ⟨rfl,rfl⟩;go_wp2_with fail
 refine (hasLe _ _ h0 h1).mono ?_
 rintro e w' ⟨rfl,rfl⟩;go_wp2_with fail
 refine (hasHx _ _ h0 h1).mono ?_
 rintro e w' ⟨rfl,rfl⟩;go_wp2_with fail
 refine (hasTk _ _ h0 h1).mono ?_
 rintro e w' ⟨rfl,rfl⟩;go_wp2_with fail
 refine (hasPl _ _ h0 h1).mono ?_
 rintro e w' ⟨rfl,rfl⟩;go_wp2_with fail
 refine (hasHo _ _ h0 h1).mono ?_
 rintro e w' ⟨rfl,rfl⟩;go_wp2;go_ret;exact ⟨ret_int hv.out.symm,rfl⟩
set_option maxHeartbeats 400000 in
theorem refclass5 (c:Int) (w:World) (h0:0≤c) (h1:c≤255) (h:c=37∨c=43∨c=96) :
  Calls Tryz.prog 119 #[.int .u8 c] w fun e w'=>e=.returned (.int .i64 (cls c))∧w'=w:=by
 have tDg:bDg c=false:=decide_eq_false (by omega);have tLe:bLe c=false:=decide_eq_false (by omega);have tHx:bHx c=false:=decide_eq_false (by omega);have tTk:bTk c=true:=decide_eq_true (by omega);have tPl:bPl c=false:=decide_eq_false (by omega);have tHo:bHo c=false:=decide_eq_false (by omega);have hv:Hid (cls c=8):=by show _=_; unfold cls low sgn; (repeat' split) <;> omega
 have e32:(c==32)=false:=by simp; omega
 have e9:(c==9)=false:=by simp; omega
 clear h
 go_enter Tryz.func119,Tryz.ntmps119
 go_wp2_with fail
 refine (hasDg _ _ h0 h1).mono ?_
 rintro e w' ⟨rfl,rfl⟩;go_wp2_with fail
 refine (hasLe _ _ h0 h1).mono ?_
 rintro e w' ⟨rfl,rfl⟩;go_wp2_with fail
 refine (hasHx _ _ h0 h1).mono ?_
 rintro e w' ⟨rfl,rfl⟩;go_wp2_with fail
 refine (hasTk _ _ h0 h1).mono ?_
 rintro e w' ⟨rfl,rfl⟩;go_wp2_with fail
 refine (hasPl _ _ h0 h1).mono ?_
 rintro e w' ⟨rfl,rfl⟩;go_wp2_with fail
 refine (hasHo _ _ h0 h1).mono ?_
 rintro e w' ⟨rfl,rfl⟩;go_wp2;go_ret;exact ⟨ret_int hv.out.symm,rfl⟩
set_option maxHeartbeats 400000 in
theorem refclass6 (c:Int) (w:World) (h0:0≤c) (h1:c≤255) (h:c=40∨c=41) :
  Calls Tryz.prog 119 #[.int .u8 c] w fun e w'=>e=.returned (.int .i64 (cls c))∧w'=w:=by
 have tDg:bDg c=false:=decide_eq_false (by omega);have tLe:bLe c=false:=decide_eq_false (by omega);have tHx:bHx c=false:=decide_eq_false (by omega);have tTk:bTk c=false:=decide_eq_false (by omega);have tPl:bPl c=true:=decide_eq_true (by omega);have tHo:bHo c=false:=decide_eq_false (by omega);have hv:Hid (cls c=16):=by show _=_; unfold cls low sgn; (repeat' split) <;> omega
 have e32:(c==32)=false:=by simp; omega
 have e9:(c==9)=false:=by simp; omega
 clear h
 go_enter Tryz.func119,Tryz.ntmps119
 go_wp2_with fail
 refine (hasDg _ _ h0 h1).mono ?_
 rintro e w' ⟨rfl,rfl⟩;go_wp2_with fail
 refine (hasLe _ _ h0 h1).mono ?_
 rintro e w' ⟨rfl,rfl⟩;go_wp2_with fail
 refine (hasHx _ _ h0 h1).mono ?_
 rintro e w' ⟨rfl,rfl⟩;go_wp2_with fail
 refine (hasTk _ _ h0 h1).mono ?_
 rintro e w' ⟨rfl,rfl⟩;go_wp2_with fail
 refine (hasPl _ _ h0 h1).mono ?_
 rintro e w' ⟨rfl,rfl⟩;go_wp2_with fail
 refine (hasHo _ _ h0 h1).mono ?_
 rintro e w' ⟨rfl,rfl⟩;go_wp2;go_ret;exact ⟨ret_int hv.out.symm,rfl⟩
set_option maxHeartbeats 400000 in
theorem refclass7 (c:Int) (w:World) (h0:0≤c) (h1:c≤255) (h:c=32∨c=9) :
  Calls Tryz.prog 119 #[.int .u8 c] w fun e w'=>e=.returned (.int .i64 (cls c))∧w'=w:=by
 have tDg:bDg c=false:=decide_eq_false (by omega);have tLe:bLe c=false:=decide_eq_false (by omega);have tHx:bHx c=false:=decide_eq_false (by omega);have tTk:bTk c=false:=decide_eq_false (by omega);have tPl:bPl c=false:=decide_eq_false (by omega);have tHo:bHo c=false:=decide_eq_false (by omega);have hv:Hid (cls c=32):=by show _=_; unfold cls low sgn; (repeat' split) <;> omega
 rcases h with h | h
 all_goals
  subst h
  go_enter Tryz.func119,Tryz.ntmps119
  go_wp2_with fail
  refine (hasDg _ _ h0 h1).mono ?_
  rintro e w' ⟨rfl,rfl⟩;go_wp2_with fail
  refine (hasLe _ _ h0 h1).mono ?_
  rintro e w' ⟨rfl,rfl⟩;go_wp2_with fail
  refine (hasHx _ _ h0 h1).mono ?_
  rintro e w' ⟨rfl,rfl⟩;go_wp2_with fail
  refine (hasTk _ _ h0 h1).mono ?_
  rintro e w' ⟨rfl,rfl⟩;go_wp2_with fail
  refine (hasPl _ _ h0 h1).mono ?_
  rintro e w' ⟨rfl,rfl⟩;go_wp2_with fail
  refine (hasHo _ _ h0 h1).mono ?_
  rintro e w' ⟨rfl,rfl⟩;go_wp2;go_ret;exact ⟨ret_int hv.out.symm,rfl⟩
set_option maxHeartbeats 400000 in
theorem refclass8 (c:Int) (w:World) (h0:0≤c) (h1:c≤255) (h:¬ (48≤c∧c≤57)∧¬ (97≤c∧c≤122∨65≤c∧c≤90)∧c ≠ 45∧c ≠ 46∧c ≠ 33∧c ≠ 37∧c ≠ 42∧c ≠ 95∧c ≠ 43∧c ≠ 96∧c ≠ 39∧c ≠ 126∧c ≠ 40∧c ≠ 41∧c ≠ 32∧c ≠ 9) :
  Calls Tryz.prog 119 #[.int .u8 c] w fun e w'=>e=.returned (.int .i64 (cls c))∧w'=w:=by
 have tDg:bDg c=false:=decide_eq_false (by omega);have tLe:bLe c=false:=decide_eq_false (by omega);have tHx:bHx c=false:=decide_eq_false (by omega);have tTk:bTk c=false:=decide_eq_false (by omega);have tPl:bPl c=false:=decide_eq_false (by omega);have tHo:bHo c=false:=decide_eq_false (by omega);have hv:Hid (cls c=0):=by show _=_; unfold cls low sgn; (repeat' split) <;> omega
 have e32:(c==32)=false:=by simp; omega
 have e9:(c==9)=false:=by simp; omega
 clear h
 go_enter Tryz.func119,Tryz.ntmps119
 go_wp2_with fail
 refine (hasDg _ _ h0 h1).mono ?_
 rintro e w' ⟨rfl,rfl⟩;go_wp2_with fail
 refine (hasLe _ _ h0 h1).mono ?_
 rintro e w' ⟨rfl,rfl⟩;go_wp2_with fail
 refine (hasHx _ _ h0 h1).mono ?_
 rintro e w' ⟨rfl,rfl⟩;go_wp2_with fail
 refine (hasTk _ _ h0 h1).mono ?_
 rintro e w' ⟨rfl,rfl⟩;go_wp2_with fail
 refine (hasPl _ _ h0 h1).mono ?_
 rintro e w' ⟨rfl,rfl⟩;go_wp2_with fail
 refine (hasHo _ _ h0 h1).mono ?_
 rintro e w' ⟨rfl,rfl⟩;go_wp2;go_ret;exact ⟨ret_int hv.out.symm,rfl⟩
theorem refclass_any (c:Int) (w:World) (h0:0≤c) (h1:c≤255) :
  Calls Tryz.prog 119 #[.int .u8 c] w fun e w'=>e=.returned (.int .i64 (cls c))∧w'=w:=by
 by_cases a0:48≤c∧c≤57
 ·exact refclass0 c w h0 h1 a0
 by_cases a1:97≤c∧c≤102∨65≤c∧c≤70
 ·exact refclass1 c w h0 h1 a1
 by_cases a2:103≤c∧c≤122∨71≤c∧c≤90
 ·exact refclass2 c w h0 h1 a2
 by_cases a3:c=45∨c=46
 ·exact refclass3 c w h0 h1 a3
 by_cases a4:c=33∨c=126∨c=42∨c=95∨c=39
 ·exact refclass4 c w h0 h1 a4
 by_cases a5:c=37∨c=43∨c=96
 ·exact refclass5 c w h0 h1 a5
 by_cases a6:c=40∨c=41
 ·exact refclass6 c w h0 h1 a6
 by_cases a7:c=32∨c=9
 ·exact refclass7 c w h0 h1 a7
 exact refclass8 c w h0 h1 (by omega)
set_option maxHeartbeats 400000 in
theorem refall_any (s:ByteArray) (class_:Int) (w:World) (hs:s.size≤maxLen) :
  Calls Tryz.prog 147 #[.string s,.int .i64 class_] w fun e w'=>e=.returned (.bool (allB class_ s.data.toList))∧w'=w:=by
 unfold maxLen at hs
 go_enter Tryz.func147,Tryz.ntmps147
 go_wp2
 go_loop [5] (fun i=>∃ k:Nat,k≤s.size∧i=.int .i64 k∧Hid (allB class_ (s.data.toList.take k)=true)) (fun i=>s.size - (intOf i).toNat)
 case atStart=>exact ⟨0,Nat.zero_le _,rfl,rfl⟩
 case round =>
  obtain ⟨k,hk,rfl,hall⟩:=hrel;by_cases hlt:k < s.size
  ·have hbd:=u8_bd s[k];by_cases hb:isB s[k].toNat class_=true
   ·have hz:(bits BinOp.and IntKind.i64 (cls s[k].toNat) class_==0)=false:=by simpa [isB] using hb
    have HB:Hid (isB s[k].toNat class_=true):=hb;clear hb;go_wp2_with (go_at_call 119; refine (refclass_any _ _ hbd.1 hbd.2).mono ?_; rintro e w' ⟨rfl,rfl⟩)
    go_round
    case rel=>exact ⟨k+1,by omega,by go_num,show _=_ by rw [take_snoc s k hlt,allB_snoc,hall.out,HB.out]; rfl⟩
    case measure=>simp [intOf]; omega
   ·have hb':isB s[k].toNat class_=false:=by simpa using hb
    have hz:(bits BinOp.and IntKind.i64 (cls s[k].toNat) class_==0)=true:=by simpa [isB] using hb'
    clear hb;have HB:Hid (isB s[k].toNat class_=false):=hb';clear hb';go_wp2_with (go_at_call 119; refine (refclass_any _ _ hbd.1 hbd.2).mono ?_; rintro e w' ⟨rfl,rfl⟩)
    go_ret;exact ⟨ret_bool (allB_hit hlt HB.out).symm,rfl⟩
  ·go_wp2;go_ret;exact ⟨ret_bool (by rw [← hall.out,take_all s k (by omega)]),rfl⟩
theorem low_cells1 (l:List UInt8) (b:UInt8):Lib.byteCells (lowL l)++[.int .u8 (low b.toNat)]=Lib.byteCells (lowL (l++[b])):=by
 rw [lowL_snoc,Lib.byteCells_append,← lowb_toNat]; rfl
set_option maxHeartbeats 400000 in
theorem reflower_txt (s:ByteArray) (w:World) (hs:s.size≤140737488355328) :
  Calls Tryz.prog 86 #[.string s] w fun e w'=>e=.returned (.string ⟨(lowL s.data.toList).toArray⟩)∧Below w.heap.size w w':=by
 obtain ⟨i0,hi,hz0,hz1,hz2⟩:=info_parts info5
 go_enter Tryz.func86,Tryz.ntmps86
 go_wp2
 go_loopw [3,4] (fun v i wr=>∃ k:Nat,k≤s.size∧i=.int .i64 k∧Own wr w.heap.size 5 v (Lib.byteCells (lowL (s.data.toList.take k)))∧Below w.heap.size w wr∧w.heap.size≤wr.heap.size) (fun _ i _=>s.size - (intOf i).toNat)
 case atStart=>exact ⟨0,Nat.zero_le _,rfl,Own.nil _ _ _,Below.refl _ _,Nat.le_refl _⟩
 case round =>
  obtain ⟨k,hk,rfl,hown,hb,hB⟩:=hrel;have hlen:(Lib.byteCells (lowL (s.data.toList.take k))).length≤k:=by rw [Lib.byteCells_length,lowL_len]; exact List.length_take_le _ _
  by_cases hlt:k < s.size
  ·have hbd:=u8_bd s[k];have hcs:=low_cells1 (s.data.toList.take k) s[k];rw [← take_snoc s k hlt] at hcs;by_cases hup:65≤(s[k].toNat:Int)∧(s[k].toNat:Int)≤90
   ·have e:low s[k].toNat=(s[k].toNat:Int) - 65+97:=by rw [low,if_pos hup]; omega
    rw [e] at hcs;have HC:Hid (Lib.byteCells (lowL (List.take k s.data.toList))++[Value.int IntKind.u8 ((s[k].toNat:Int) - 65+97)]=Lib.byteCells (lowL (List.take (k+1) s.data.toList))):=hcs;obtain ⟨hu1,hu2⟩:=hup;clear hcs e;go_wp2_with (at_builtin; refine wp_app _ rfl (.tmp 21) (.tmp 27) 86 rfl w.heap.size 5 i0 (.int .u8 0) 1 Tryz.underlying86 hi hz0 hz1 hz2 rfl _ _ rfl (hown.alloc _) ⟨_,0,none⟩ 1 1 [.int .u8 ((s[k].toNat:Int) - 65+97)] rfl rfl (by exact one_new _ _ _) (by intro u hu; simp at hu; subst hu; rfl) (by unfold maxLen; omega) (by omega) w (hb.alloc hB _) (by simp; omega) ?_; intro v3 w3 hown3 hb3 hB3)
    rw [HC.out] at hown3;go_wp2;go_roundw
    case rel=>exact ⟨k+1,by omega,by go_num,hown3,hb3,hB3⟩
    case measure=>simp [intOf]; omega
   ·have e:low s[k].toNat=(s[k].toNat:Int):=by rw [low,if_neg hup]
    rw [e] at hcs;have HC:Hid (Lib.byteCells (lowL (List.take k s.data.toList))++[Value.int IntKind.u8 (s[k].toNat:Int)]=Lib.byteCells (lowL (List.take (k+1) s.data.toList))):=hcs;clear hcs e;by_cases hu1:65≤(s[k].toNat:Int)
    all_goals
     go_wp2_with (at_builtin; refine wp_app _ rfl (.tmp 29) (.tmp 33) 86 rfl w.heap.size 5 i0 (.int .u8 0) 1 Tryz.underlying86 hi hz0 hz1 hz2 rfl _ _ rfl (hown.alloc _) ⟨_,0,none⟩ 1 1 [.int .u8 (s[k].toNat:Int)] rfl rfl (by exact one_new _ _ _) (by intro u hu; simp at hu; subst hu; rfl) (by unfold maxLen; omega) (by omega) w (hb.alloc hB _) (by simp; omega) ?_; intro v3 w3 hown3 hb3 hB3)
     rw [HC.out] at hown3;go_wp2;go_roundw
     case rel=>exact ⟨k+1,by omega,by go_num,hown3,hb3,hB3⟩
     case measure=>simp [intOf]; omega
  ·have hta:=take_all s k (by omega);rw [hta] at hown;have hcv:=conv_own (P:=Tryz.prog) _ Tryz.underlying86 Tryz.underlying5 Tryz.underlying9 hown;clear hta hlen;go_wp2;go_ret;exact ⟨rfl,hb⟩
theorem host_short {l:List UInt8} (h:l.length=0):hostB l=false:=by
 unfold hostB; simp [h]
theorem getD_s (s:ByteArray) (k:Nat) (h:k < s.size):s.data.toList.getD k 0=s[k]:=by
 rw [List.getD_eq_getElem?_getD,getL s k h]; rfl
set_option maxHeartbeats 400000 in
theorem refsame_any (a b:ByteArray) (w:World) (ha:a.size≤140737488355328) (hb:b.size≤140737488355328) :
  Calls Tryz.prog 148 #[.string a,.string b] w fun e w'=>e=.returned (.bool (sameB a.data.toList b.data.toList))∧Below w.heap.size w w':=by
 go_enter Tryz.func148,Tryz.ntmps148
 go_wp2_with fail
 refine (reflower_txt _ _ ha).mono ?_
 rintro e w1 ⟨rfl,h1⟩;go_wp2_with fail
 refine (reflower_txt _ _ hb).mono ?_
 rintro e w2 ⟨rfl,h2⟩;go_wp2;go_ret;exact ⟨ret_bool (by rw [sameB]),h1.trans (h2.mono h1.size)⟩
theorem flatX_pos (d:Nat) (t:XT):1≤(flatX d t).length:=by obtain ⟨n,a,tx,k⟩:=t; rw [flatX]; simp
theorem notMem_snoc {c:UInt8} {s:ByteArray} {k:Nat} (hk:k < s.size) (h:c ∉ s.data.toList.take k) (hc:¬ s[k]=c):c ∉ s.data.toList.take (k+1):=by
 rw [take_snoc s k hk];simp only [List.mem_append,List.mem_singleton,not_or];exact ⟨h,fun e=>hc e.symm⟩
theorem split_at (s:ByteArray) (k:Nat) (hk:k < s.size):s.data.toList=s.data.toList.take k++s[k] :: s.data.toList.drop (k+1):=by
 rw [← drop_cons s k hk,List.take_append_drop]
set_option maxHeartbeats 400000 in
theorem has3_any (s:ByteArray) (c:UInt8) (w:World) (hs:s.size≤maxLen) :
  Calls Tryz.prog 88 #[.string s,.int .u8 c.toNat] w fun e w'=>e=.returned (.bool (hasL c s.data.toList))∧w'=w:=by
 unfold maxLen at hs
 go_enter Tryz.func88,Tryz.ntmps88
 go_wp2
 go_loop [5] (fun i=>∃ k:Nat,k≤s.size∧i=.int .i64 k∧Hid (c ∉ s.data.toList.take k)) (fun i=>s.size - (intOf i).toNat)
 case atStart=>exact ⟨0,Nat.zero_le _,rfl,show _ ∉ _ by simp⟩
 case round =>
  obtain ⟨k,hk,rfl,hno⟩:=hrel;by_cases hlt:k < s.size
  ·by_cases hc:s[k]=c
   ·have he:=u8_eq hc;have hv:Hid (hasL c s.data.toList=true):=show _=_ by rw [hasL,split_at s k hlt,hc]; simp
    clear hc hno;go_wp2;go_ret;exact ⟨ret_bool hv.out.symm,rfl⟩
   ·have he:=u8_ne hc;have hno2:Hid (c ∉ s.data.toList.take (k+1)):=notMem_snoc hlt hno.out hc;clear hc hno;go_wp2
    go_round
    case rel=>exact ⟨k+1,by omega,by go_num,hno2⟩
    case measure=>simp [intOf]; omega
  ·have hv:Hid (hasL c s.data.toList=false):=show _=_ by
    rw [hasL]
    have:=hno.out
    rw [take_all s k (by omega)] at this
    simpa using this
   clear hno;go_wp2;go_ret;exact ⟨ret_bool hv.out.symm,rfl⟩
set_option maxHeartbeats 400000 in
theorem cut3_any (s:ByteArray) (c:UInt8) (w:World) (hs:s.size≤maxLen) :
  Calls Tryz.prog 85 #[.string s,.int .u8 c.toNat] w fun e w'=>e=.returned (.tuple #[.string ⟨(cutL c s.data.toList).1.toArray⟩,.string ⟨(cutL c s.data.toList).2.1.toArray⟩,.bool (cutL c s.data.toList).2.2])∧∃ q,w'=w.drewN q:=by
 unfold maxLen at hs
 go_enter Tryz.func85,Tryz.ntmps85
 go_wp2
 go_loop [7] (fun i=>∃ k:Nat,k≤s.size∧i=.int .i64 k∧Hid (c ∉ s.data.toList.take k)) (fun i=>s.size - (intOf i).toNat)
 case atStart=>exact ⟨0,Nat.zero_le _,rfl,show _ ∉ _ by simp⟩
 case round =>
  obtain ⟨k,hk,rfl,hno⟩:=hrel;by_cases hlt:k < s.size
  ·by_cases hc:s[k]=c
   ·have he:=u8_eq hc
    have hv:Hid (cutL c s.data.toList=(s.data.toList.take k,s.data.toList.drop (k+1),true)):=show _=_ by
     conv=>lhs; rw [split_at s k hlt,hc]
     exact cutL_hit hno.out
    have e1:Hid ((s.extract 0 k).data.toList=s.data.toList.take k):=show _=_ by rw [ext_list]; simp
    have e2:Hid ((s.extract (k+1) s.size).data.toList=s.data.toList.drop (k+1)):=show _=_ by
     rw [ext_list,List.take_of_length_le (by rw [List.length_drop,len_data]; omega)]
    clear hc hno
    have hwr:IntKind.i64.wrap ((k:Int)+1)=((k+1:Nat):Int):=by
     simp [IntKind.wrap,IntKind.bits,IntKind.signed]; omega
    go_wp2
    go_quiet (fail)
    go_wp2;go_ret3
    exact ⟨ret_cut (by rw [hv.out,e1.out,e2.out]),nq,rfl⟩
   ·have he:=u8_ne hc;have hno2:Hid (c ∉ s.data.toList.take (k+1)):=notMem_snoc hlt hno.out hc;clear hc hno;go_wp2
    go_round
    case rel=>exact ⟨k+1,by omega,by go_num,hno2⟩
    case measure=>simp [intOf]; omega
  ·have hv:Hid (cutL c s.data.toList=(s.data.toList,[],false)):=show _=_ by
    have:=hno.out
    rw [take_all s k (by omega)] at this;exact cutL_miss this
   clear hno;go_wp2;go_ret3
   exact ⟨ret_cut hv.out,0,rfl⟩
theorem cut3_list (r:List UInt8) (c:UInt8) (w:World) (hs:r.length≤9223372036854775807) :
  Calls Tryz.prog 85 #[.string ⟨r.toArray⟩,.int .u8 c.toNat] w fun e w'=>e=.returned (.tuple #[.string ⟨(cutL c r).1.toArray⟩,.string ⟨(cutL c r).2.1.toArray⟩,.bool (cutL c r).2.2])∧∃ q,w'=w.drewN q :=
 cut3_any ⟨r.toArray⟩ c w (by unfold maxLen; simp [ByteArray.size]; omega)
def lenOf:Value → Nat
 | .string s=>s.size
 | _=>0
def boolOf:Value → Nat
 | .bool true=>1
 | _=>0
theorem splitL_last {c:UInt8} {l0 r:List UInt8} {ps:List (List UInt8)} (h:splitL c l0=ps++splitL c r) (hb:(cutL c r).2.2=false):splitL c l0=ps++[(cutL c r).1]:=by
 rw [h,splitL_cut c r,if_neg (by simp [hb])]
theorem cutL_dec {c:UInt8} {r:List UInt8} (hb:(cutL c r).2.2=true):(cutL c r).2.1.length < r.length:=by
 have h:=cutL_join c r hb
 have:=congrArg List.length h
 simp at this; omega
set_option maxHeartbeats 1000000 in
theorem split3_any (s:ByteArray) (c:UInt8) (w:World) (hs:s.size≤1048640) :
  Calls Tryz.prog 90 #[.string s,.int .u8 c.toNat] w fun e w'=>∃ v,e=.returned v∧Own w' w.heap.size 9 v (strs (splitL c s.data.toList))∧Below w.heap.size w w':=by
 obtain ⟨i0,hi,hz0,hz1,hz2⟩:=info_parts info9
 go_enter Tryz.func90,Tryz.ntmps90
 go_wp2;have hs0:s=⟨s.data.toList.toArray⟩:=by apply ByteArray.ext; simp
 have hl:=len_data s;generalize s.data.toList=l0 at hs0 hl ⊢;subst hs0
 go_loopw [0,5,6] (fun x v m wr=>∃ (r:List UInt8) (ps:List (List UInt8)) (b:Bool),x=.string ⟨r.toArray⟩∧m=.bool b∧Own wr w.heap.size 9 v (strs ps)∧Below w.heap.size w wr∧w.heap.size≤wr.heap.size∧ps.length+r.length≤l0.length+1∧r.length≤l0.length ∧
   Hid (if b=true then splitL c l0=ps++splitL c r∧ps.length+r.length≤l0.length else splitL c l0=ps)) (fun x _ m _=>lenOf x+boolOf m)
 case atStart=>exact ⟨l0,[],true,rfl,rfl,Own.nil _ _ _,Below.refl _ _,Nat.le_refl _,by simp,by omega,show _=_∧_ from ⟨rfl,by simp⟩⟩
 case round =>
  obtain ⟨r,ps,b,rfl,rfl,hown,hb,hB,hln,hrl,hsp⟩:=hrel
  cases b with
  | false =>
   go_wp2;go_ret;exact ⟨_,rfl,by have:=hsp.out; simp at this; rw [this]; exact hown,hb⟩
  | true =>
   have hsp2:=hsp.out;rw [if_pos rfl] at hsp2;have hsp3:Hid _:=hsp2;clear hsp hsp2;have hcl:=cutL_len c r;have hdec:=@cutL_dec c r;have hnx:=@splitL_next c l0 r ps hsp3.out.1;have hlast:=@splitL_last c l0 r ps hsp3.out.1;have hl2:=hsp3.out.2;rw [size_list] at hs;clear hsp3 hl;go_wp2_with fail
   refine (cut3_list r c _ (by omega)).mono ?_
   rintro e w' ⟨rfl,q,rfl⟩;generalize cutL c r=p at hcl hdec hnx hlast ⊢;obtain ⟨p1,p2,b⟩:=p;have HD:Hid _:=hdec; clear hdec
   have HN:Hid _:=hnx; clear hnx
   have HL:Hid _:=hlast; clear hlast
   have hown1:=hown.below (below_drewN wr q);have hb1:=hb.trans ((below_drewN wr q).mono hB);have hB1:w.heap.size≤(wr.drewN q).heap.size:=hB;clear hown hb hB;generalize wr.drewN q=w1 at hown1 hb1 hB1 ⊢;go_wp2_with (at_builtin; refine wp_app _ rfl (.tmp 16) (.tmp 18) 26 rfl w.heap.size 9 i0 (.string .empty) 16 Tryz.underlying26 hi hz0 hz1 hz2 rfl _ _ rfl (hown1.alloc _) ⟨_,0,none⟩ 1 1 [.string ⟨p1.toArray⟩] rfl rfl (by exact one_new _ _ _) (by intro u hu; simp at hu; subst hu; rfl) (by rw [strs_length]; unfold maxLen; omega) (by rw [strs_length]; omega) w (hb1.alloc (by omega) _) (by simp; omega) ?_; intro v3 w3 hown3 hb3 hB3)
   have e1:[Value.string ⟨p1.toArray⟩]=strs [p1]:=rfl;rw [e1,← strs_append] at hown3
   cases b with
   | true =>
    have hd:p2.length < r.length:=HD.out rfl;have hn:Hid (splitL c l0=ps++[p1]++splitL c p2):=HN.out rfl;clear HD HN HL;go_wp2;go_roundw
    case rel=>exact ⟨p2,ps++[p1],true,rfl,rfl,hown3,hb3,hB3,by simp; omega,by omega,show _=_∧_ from ⟨hn.out,by simp; omega⟩⟩
    case measure=>simp [lenOf,boolOf,size_list]; omega
   | false =>
    have hn:Hid (splitL c l0=ps++[p1]):=HL.out rfl;clear HD HN HL;go_wp2;go_roundw
    case rel=>exact ⟨p2,ps++[p1],false,rfl,rfl,hown3,hb3,hB3,by simp; omega,by omega,hn⟩
    case measure=>simp [lenOf,boolOf,size_list]; omega
theorem hasB_inK (keep:ByteArray) (b:UInt8):hasB b.toNat keep=inK keep.data.toList b.toNat:=by
 rw [hasB,inK]
 congr 1
 funext c
 rw [Bool.eq_iff_iff]; simp
 omega
theorem isB37:isB 37 16=false:=by decide +kernel
theorem one_hexN (w:World) (e:TypeId) (n:Nat) (h:n < 16) :
  ∀ (j:Nat) (u:Value),(Lib.byteCells [hexd n])[j]? = some u → (w.alloc (.cells #[.int .u8 ((((ByteArray.mk #[48,49,50,51,52,53,54,55,56,57,65,66,67,68,69,70])[n]'h).toNat:Nat):Int)] e)).cell? ((⟨w.heap.size,0,none⟩:Addr).add j)=some u:=by
 have:=hexi (n:Int) n (by omega) (by omega)
 simp only [Int.toNat_natCast] at this;rw [this];exact one_new w e _
end Go.Proofs.YtldkidljjbkmbaaGreatDoor
