/- Own texts, joined: contracts that the law's proof goes by. -/
import Derived.Test.YtflokiejcjjbiaaGreatProg
import Derived.WalkKit
import Derived.WalkSpells
import Derived.WalkLawsBesides
import Derived.Below
import Derived.Handy
import Derived.Deep.RegionWith
import Derived.Deep.RegionHeld3
set_option maxHeartbeats 16000000
set_option maxRecDepth 100000
set_option linter.unusedVariables false
set_option linter.unusedSimpArgs false
namespace Go.Proofs.YtflokiejcjjbiaaGreat
section
open Go.RowKit
theorem bc8 {W w1:World}(hb:Below W.heap.size W w1):(∀b o,b<W.heap.size→w1.cell? ⟨b,o,none⟩=W.cell? ⟨b,o,none⟩)∧(∀b o,b<W.heap.size→w1.frozen? ⟨b,o,none⟩=W.frozen? ⟨b,o,none⟩):=
 ⟨fun b o h=>hb.cell (p:=⟨b,o,none⟩) h,fun b o h=>hb.frozen (p:=⟨b,o,none⟩) h⟩
theorem bstep {w a b:World}(h:Below a.heap.size a b)(hw:w.heap.size≤a.heap.size)(g:Below w.heap.size w a):Below w.heap.size w b:=g.trans (h.mono hw)
def szV (s:ByteArray)(left:Int):Int:=if left -s.size<0 then -1 else left -s.size
theorem ret_int {a b:Int}(h:a=b):Ending.returned (.int .i64 a)=.returned (.int .i64 b):=by rw[h]
theorem rB8 {a b:Bool}(h:a=b):Ending.returned (.bool a)=.returned (.bool b):=by rw[h]
theorem wrap64_byte (c:UInt8):wrap64 (c.toNat:Int)=c.toNat:=by have:=c.toNat_lt;unfold wrap64;omega
def bn (b:Bool):Int:=if b then 1 else 0
end
section
open Go.RowKit
theorem eqV (k n k' n':Int)(s s':ByteArray)(w:World):(binOp .eql 36 (.agg #[.int .i64 k,.int .i64 n,.string s]) (.agg #[.int .i64 k',.int .i64 n',.string s'])).run Tryz.prog w=.ok (.bool (k==k' && (n==n' &&s.toList==s'.toList))) w:=by
 have u3:=Tryz.underlying3;have a3:=Tryz.isAgg3;have z3:=Tryz.sizeOf3;have u9:=Tryz.underlying9;have a9:=Tryz.isAgg9;have z9:=Tryz.sizeOf9;have hS:Tryz.prog.underlying 36=some (.struct (Tryz.prog.fieldsOf 36)):=by kernel_rfl
 have hp:Tryz.prog.stoodInHeld 36=false:=by kernel_rfl
 rw[run_eql_struct,show(10000:Nat)=9999+1 from rfl,run_equalIn_agg w 9999 36 _ _ hS hp];simp only[Program.fieldsOf,Tryz.underlying36];go_simp;by_cases h1:k=k'<;>by_cases h2:n=n'<;>by_cases h3:s.toList=s'.toList<;>simp[h1,h2,h3]
end
section
open Go.RowKit
theorem extract_list (s:ByteArray)(a b:Nat):(s.extract a b).data.toList=(s.data.toList.drop a).take (b -a):=by
 simp[ByteArray.data_extract,Array.toList_extract,List.extract]
end
section
open Go.RowKit
def inB (x a b:Int):Bool:=decide (a≤x∧x≤b)
theorem l01InN_any (x a b:Int)(w:World):Calls Tryz.prog 43 #[.int .i64 x,.int .i64 a,.int .i64 b] w fun e w'=>e=.returned (.bool (inB x a b))∧w'=w:=by
 by_cases h:a≤x
 ·go_enter Tryz.func43,Tryz.ntmps43;go_wp2;go_returns;exact⟨by simp[inB,h],rfl⟩
 ·have h':decide (a≤x)=false:=by simp;omega
  go_enter Tryz.func43,Tryz.ntmps43;go_wp2;go_returns;exact⟨rB8 (by simp[inB];omega),rfl⟩
end
section
open Go.RowKit
theorem isSmall_any (c:Int)(w:World):Calls Tryz.prog 78 #[.int .u8 c] w fun e w'=>e=.returned (.bool (inB c 97 122))∧w'=w:=by
 by_cases h:97≤c
 ·go_enter Tryz.func78,Tryz.ntmps78;go_wp2;go_returns;exact⟨by simp[inB,h],rfl⟩
 ·have h':decide (97≤c)=false:=by simp;omega
  go_enter Tryz.func78,Tryz.ntmps78;go_wp2;go_returns;exact⟨rB8 (by simp[inB];omega),rfl⟩
theorem isDigit_any (c:Int)(w:World):Calls Tryz.prog 79 #[.int .u8 c] w fun e w'=>e=.returned (.bool (inB c 48 57))∧w'=w:=by
 by_cases h:48≤c
 ·go_enter Tryz.func79,Tryz.ntmps79;go_wp2;go_returns;exact⟨by simp[inB,h],rfl⟩
 ·have h':decide (48≤c)=false:=by simp;omega
  go_enter Tryz.func79,Tryz.ntmps79;go_wp2;go_returns;exact⟨rB8 (by simp[inB];omega),rfl⟩
def chr (i:Nat)(c:Int):Bool:=inB c 97 122||(i !=0 &&inB c 48 57)
def NameP (s:ByteArray)(n:Nat):Prop:=∀i (h:i<s.size),i<n→chr i s[i].toNat=true
def nameB (s:ByteArray):Bool:=(List.range s.size).all (fun i=>if h:i<s.size then chr i s[i].toNat else true) &&inB s.size 1 10
theorem nameB_true (s:ByteArray)(h:NameP s s.size):nameB s=inB s.size 1 10:=by
 have:(List.range s.size).all (fun i=>if h:i<s.size then chr i s[i].toNat else true)=true:=by
  rw[List.all_eq_true];intro i hi;have hi':=List.mem_range.1 hi;rw[dif_pos hi'];exact h i hi' hi'
 rw[nameB,this,Bool.true_and]
theorem nameB_false (s:ByteArray)(k:Nat)(hk:k<s.size)(h:chr k s[k].toNat=false):nameB s=false:=by
 have:(List.range s.size).all (fun i=>if h:i<s.size then chr i s[i].toNat else true)=false:=by
  rw[List.all_eq_false];exact⟨k,List.mem_range.2 hk,by rw[dif_pos hk,h];simp⟩
 rw[nameB,this,Bool.false_and]
theorem nameB_big (s:ByteArray)(h:inB s.size 1 10=false):nameB s=false:=by rw[nameB,h,Bool.and_false]
theorem NameP_succ (s:ByteArray)(k:Nat)(hk:k<s.size)(h:NameP s k)(hc:chr k s[k].toNat=true):NameP s (k+1):=by
 intro i hi hl;by_cases e:i=k
 ·subst e;exact hc
 ·exact h i hi (by omega)
theorem specName_any (s:ByteArray)(w:World)(hs:s.size≤maxLen):Calls Tryz.prog 30 #[.string s] w fun e w'=>e=.returned (.bool (nameB s))∧w'=w:=by
 unfold maxLen at hs;go_enter Tryz.func30,Tryz.ntmps30;go_wp2_with fail
 go_loop [3] (fun i=> ∃k:Nat,k≤s.size∧i=.int .i64 k∧NameP s k) (fun i=>s.size - (intOf i).toNat)
 case atStart=>exact⟨0,Nat.zero_le _,rfl,fun i h hl=>by omega⟩
 case round=>
  obtain⟨k,hk,rfl,hp0⟩:=hrel;have hp:Hid (NameP s k):=hp0;clear hp0;by_cases hlt:k<s.size
  ·have e64:wrap64 (s[k].toNat:Int)=s[k].toNat:=wrap64_byte _;by_cases h1:inB (wrap64 s[k].toNat) 97 122=true
   ·have hc:Hid (chr k s[k].toNat=true):=by show chr k s[k].toNat=true;rw[e64]at h1;simp[chr,h1]
    clear e64;go_wp2_with(first|(go_at_call 43;refine(l01InN_any _ _ _ _).mono ?_;rintro e w' ⟨rfl,rfl⟩));exact⟨⟨k+1,by omega,by go_num,NameP_succ s k hlt hp.out hc.out⟩,by simp[intOf];omega⟩
   ·have h1':inB (wrap64 s[k].toNat) 97 122=false:=by simpa using h1
    clear h1;by_cases h0:k=0
    ·subst h0;have hc:Hid (nameB s=false):=by show nameB s=false;rw[e64]at h1';exact nameB_false s 0 hlt (by simp[chr,h1'])
     clear e64;go_wp2_with(first|(go_at_call 43;refine(l01InN_any _ _ _ _).mono ?_;rintro e w' ⟨rfl,rfl⟩));go_returns;exact⟨rB8 hc.out.symm,rfl⟩
    ·have hk0:((k:Int)==0)=false:=by simp;omega
     by_cases h2:inB (wrap64 s[k].toNat) 48 57=true
     ·have hc:Hid (chr k s[k].toNat=true):=by show chr k s[k].toNat=true;rw[e64]at h2;simp[chr,h2,h0]
      clear e64;go_wp2_with(first|(go_at_call 43;refine(l01InN_any _ _ _ _).mono ?_;rintro e w' ⟨rfl,rfl⟩));exact⟨⟨k+1,by omega,by go_num,NameP_succ s k hlt hp.out hc.out⟩,by simp[intOf];omega⟩
     ·have h2':inB (wrap64 s[k].toNat) 48 57=false:=by simpa using h2
      clear h2;have hc:Hid (nameB s=false):=by show nameB s=false;rw[e64]at h1' h2';exact nameB_false s k hlt (by simp[chr,h1',h2'])
      clear e64;go_wp2_with(first|(go_at_call 43;refine(l01InN_any _ _ _ _).mono ?_;rintro e w' ⟨rfl,rfl⟩));go_returns;exact⟨rB8 hc.out.symm,rfl⟩
  ·have hkk:k=s.size:=by omega
   have hfin:Hid (nameB s=inB s.size 1 10):=by show nameB s=inB s.size 1 10;have:=hp.out;rw[hkk]at this;exact nameB_true s this
   clear hkk;go_wp2_with(first|(go_at_call 43;refine(l01InN_any _ _ _ _).mono ?_;rintro e w' ⟨rfl,rfl⟩));go_returns;exact⟨rB8 hfin.out.symm,rfl⟩
theorem implName_any (s:ByteArray)(w:World)(hs:s.size≤maxLen):Calls Tryz.prog 58 #[.string s] w fun e w'=>e=.returned (.bool (nameB s))∧w'=w:=by
 unfold maxLen at hs;by_cases hz:s.size=0
 ·have hfin:Hid (nameB s=false):=nameB_big s (by simp[inB,hz]);have hnil:s.toList=[]:=by rw[ByteArray.toList_eq];exact List.eq_nil_of_length_eq_zero (by simpa using hz)
  clear hz;go_enter Tryz.func58,Tryz.ntmps58;go_wp2_with fail;go_returns;exact⟨rB8 hfin.out.symm,rfl⟩
 have hne:s.toList.isEmpty=false:=by
  rw[ByteArray.toList_eq];have:s.data.toList.length≠0:=by simpa using hz
  cases h:s.data.toList with
  |nil=>rw[h]at this;simp at this
  |cons a l=>rfl
 by_cases hb:10<(s.size:Int)
 ·have hfin:Hid (nameB s=false):=nameB_big s (by simp[inB];omega);go_enter Tryz.func58,Tryz.ntmps58;go_wp2_with fail;go_returns;exact⟨rB8 hfin.out.symm,rfl⟩
 have hpos:0<s.size:=by omega
 have hd:decide (10<(s.size:Int))=false:=by simp;omega
 by_cases h0:inB s[0].toNat 97 122=true
 ·have hc0:Hid (chr 0 s[0].toNat=true):=by show chr 0 s[0].toNat=true;simp[chr,h0]
  go_enter Tryz.func58,Tryz.ntmps58;go_wp2_with(first|(go_at_call 78;refine(isSmall_any _ _).mono ?_;rintro e w' ⟨rfl,rfl⟩)|(go_at_call 79;refine(isDigit_any _ _).mono ?_;rintro e w' ⟨rfl,rfl⟩))
  go_loop [3] (fun i=> ∃k:Nat,1≤k∧k≤s.size∧i=.int .i64 k∧NameP s k) (fun i=>s.size - (intOf i).toNat)
  case atStart=>exact⟨1,by omega,by omega,rfl,fun i h hl=>by have e:i=0:=(by omega);subst e;exact hc0.out⟩
  case round=>
   obtain⟨k,hk1,hk,rfl,hp0⟩:=hrel;have hp:Hid (NameP s k):=hp0;clear hp0;by_cases hlt:k<s.size
   ·by_cases h1:inB s[k].toNat 97 122=true
    ·have hc:Hid (chr k s[k].toNat=true):=by show chr k s[k].toNat=true;simp[chr,h1]
     go_wp2_with(first|(go_at_call 78;refine(isSmall_any _ _).mono ?_;rintro e w' ⟨rfl,rfl⟩)|(go_at_call 79;refine(isDigit_any _ _).mono ?_;rintro e w' ⟨rfl,rfl⟩));exact⟨⟨k+1,by omega,by omega,by go_num,NameP_succ s k hlt hp.out hc.out⟩,by simp[intOf];omega⟩
    ·have h1':inB s[k].toNat 97 122=false:=by simpa using h1
     clear h1;by_cases h2:inB s[k].toNat 48 57=true
     ·have hc:Hid (chr k s[k].toNat=true):=by show chr k s[k].toNat=true;have:k≠0:=(by omega);simp[chr,h2,this]
      go_wp2_with(first|(go_at_call 78;refine(isSmall_any _ _).mono ?_;rintro e w' ⟨rfl,rfl⟩)|(go_at_call 79;refine(isDigit_any _ _).mono ?_;rintro e w' ⟨rfl,rfl⟩));exact⟨⟨k+1,by omega,by omega,by go_num,NameP_succ s k hlt hp.out hc.out⟩,by simp[intOf];omega⟩
     ·have h2':inB s[k].toNat 48 57=false:=by simpa using h2
      clear h2;have hc:Hid (nameB s=false):=nameB_false s k hlt (by simp[chr,h1',h2']);go_wp2_with(first|(go_at_call 78;refine(isSmall_any _ _).mono ?_;rintro e w' ⟨rfl,rfl⟩)|(go_at_call 79;refine(isDigit_any _ _).mono ?_;rintro e w' ⟨rfl,rfl⟩));go_returns;exact⟨rB8 hc.out.symm,rfl⟩
   ·have hkk:k=s.size:=by omega
    have hfin:Hid (nameB s=true):=by show nameB s=true;have:=hp.out;rw[hkk]at this;rw[nameB_true s this];simp[inB];omega
    clear hkk;go_wp2_with(first|(go_at_call 78;refine(isSmall_any _ _).mono ?_;rintro e w' ⟨rfl,rfl⟩)|(go_at_call 79;refine(isDigit_any _ _).mono ?_;rintro e w' ⟨rfl,rfl⟩));go_returns;exact⟨rB8 hfin.out.symm,rfl⟩
 ·have h0':inB s[0].toNat 97 122=false:=by simpa using h0
  clear h0;have hfin:Hid (nameB s=false):=nameB_false s 0 hpos (by simp[chr,h0']);go_enter Tryz.func58,Tryz.ntmps58;go_wp2_with(first|(go_at_call 78;refine(isSmall_any _ _).mono ?_;rintro e w' ⟨rfl,rfl⟩)|(go_at_call 79;refine(isDigit_any _ _).mono ?_;rintro e w' ⟨rfl,rfl⟩));go_returns;exact⟨rB8 hfin.out.symm,rfl⟩
end
end Go.Proofs.YtflokiejcjjbiaaGreat
