/- Own texts, joined: contracts that the law's proof goes by. -/
import Derived.Test.YtflokiejcjjbiaaGreatGLFits1
import Derived.Handy
import Derived.RegionTactic
import Derived.Test.YtflokiejcjjbiaaGreatGLFits6
import Derived.Test.YtflokiejcjjbiaaGreatGLFits2
import Derived.Test.YtflokiejcjjbiaaGreatGLFits9
import Derived.Test.YtflokiejcjjbiaaGreatGLFits10
set_option maxHeartbeats 16000000
set_option maxRecDepth 100000
set_option linter.unusedVariables false
set_option linter.unusedSimpArgs false
namespace Go.Proofs.YtflokiejcjjbiaaGreat
section
open Go.RowKit
def addO (a b:Int):Option Int:=if(decide (a<wrap64 (a+b))==decide (0<b))=true then some (wrap64 (a+b))else none
def subO (a b:Int):Option Int:=if(decide (wrap64 (a -b)<a)==decide (0<b))=true then some (wrap64 (a -b))else none
def mulO (a b:Int):Option Int:=if b=0 then some 0 else if b= -1 then subO 0 a else if wrap64 ((wrap64 (a*b)).tdiv b)=a then some (wrap64 (a*b))else none
def divO (a b:Int):Option Int:=if b=0 then none else if b= -1 then subO 0 a else some (if(a.tmod b !=0 && !(decide (a<0)==decide (b<0)))=true then wrap64 (wrap64 (a.tdiv b) -1)else wrap64 (a.tdiv b))
def Tells (o:Option Int)(x:Int)(b:Bool):Prop:=o=if b=true then some x else none
theorem addInts_any (a b:Int)(w:World):Calls Tryz.prog 183 #[.int .i64 a,.int .i64 b] w fun e w'=> ∃x t,e=.returned (.tuple #[.int .i64 x,.bool t])∧Tells (addO a b) x t∧w'=w:=by
 go_enter Tryz.func183,Tryz.ntmps183;go_wp2;go_returns;exact⟨_,_,rfl,rfl,rfl⟩
theorem subInts_any (a b:Int)(w:World):Calls Tryz.prog 184 #[.int .i64 a,.int .i64 b] w fun e w'=> ∃x t,e=.returned (.tuple #[.int .i64 x,.bool t])∧Tells (subO a b) x t∧w'=w:=by
 go_enter Tryz.func184,Tryz.ntmps184;go_wp2;go_returns;exact⟨_,_,rfl,rfl,rfl⟩
theorem mulInts_any (a b:Int)(w:World):Calls Tryz.prog 185 #[.int .i64 a,.int .i64 b] w fun e w'=> ∃x t,e=.returned (.tuple #[.int .i64 x,.bool t])∧Tells (mulO a b) x t∧Below w.heap.size w w':=by
 by_cases h0:b=0
 ·subst h0;go_enter Tryz.func185,Tryz.ntmps185;go_wp2;go_returns;exact⟨_,_,rfl,rfl,Below.refl _ _⟩
 by_cases h1:b= -1
 ·subst h1;have hm:Hid (mulO a (-1)=subO 0 a):=by show _=_;rw[mulO,if_neg (by omega),if_pos rfl]
  go_enter Tryz.func185,Tryz.ntmps185;go_wp2_with fail;refine(subInts_any _ _ _).mono ?_;rintro e w1 ⟨x,t,rfl,ht,rfl⟩;go_wp2_with fail;go_returns;exact⟨_,_,rfl,by rw[hm.out];exact ht,Below.refl _ _⟩
 ·have e0:(b==0)=false:=by simp[h0]
  have e1:(b== -1)=false:=by simp[h1]
  have hm:Hid (Tells (mulO a b) (wrap64 (a*b)) (wrap64 ((wrap64 (a*b)).tdiv b)==a)):=by
   show _=_;rw[mulO,if_neg h0,if_neg h1];by_cases hh:wrap64 ((wrap64 (a*b)).tdiv b)=a<;>simp[hh]
  clear h1;go_enter Tryz.func185,Tryz.ntmps185;go_wp2
  go_region
  all_goals go_wp2
  all_goals go_returns
  all_goals exact⟨_,_,rfl,hm.out,(Below.refl _ _).drew⟩
theorem divInts_any (a b:Int)(w:World):Calls Tryz.prog 186 #[.int .i64 a,.int .i64 b] w fun e w'=> ∃x t,e=.returned (.tuple #[.int .i64 x,.bool t])∧Tells (divO a b) x t∧Below w.heap.size w w':=by
 by_cases h0:b=0
 ·subst h0;go_enter Tryz.func186,Tryz.ntmps186;go_wp2;go_returns;exact⟨_,_,rfl,rfl,Below.refl _ _⟩
 by_cases h1:b= -1
 ·subst h1;have hm:Hid (divO a (-1)=subO 0 a):=by show _=_;rw[divO,if_neg (by omega),if_pos rfl]
  go_enter Tryz.func186,Tryz.ntmps186;go_wp2_with fail;refine(subInts_any _ _ _).mono ?_;rintro e w1 ⟨x,t,rfl,ht,rfl⟩;go_wp2_with fail;go_returns;exact⟨_,_,rfl,by rw[hm.out];exact ht,Below.refl _ _⟩
 ·have e0:(b==0)=false:=by simp[h0]
  have e1:(b== -1)=false:=by simp[h1]
  by_cases hq:(a.tmod b !=0 && !(decide (a<0)==decide (b<0)))=true
  ·have hm:Hid (divO a b=some (wrap64 (wrap64 (a.tdiv b) -1))):=by show _=_;rw[divO,if_neg h0,if_neg h1,if_pos hq]
   clear h1;go_enter Tryz.func186,Tryz.ntmps186;go_wp2;all_goals first|(go_returns;exact⟨_,_,rfl,hm.out,Below.refl _ _⟩)|(exfalso;simp_all;done)
  ·have hm:Hid (divO a b=some (wrap64 (a.tdiv b))):=by show _=_;rw[divO,if_neg h0,if_neg h1,if_neg hq]
   clear h1;go_enter Tryz.func186,Tryz.ntmps186;go_wp2;all_goals first|(go_returns;exact⟨_,_,rfl,hm.out,Below.refl _ _⟩)|(exfalso;simp_all;done)
end
section
open Go.RowKit
def kO (o:Option Int):Int:=if o.isSome=true then 1 else 0
def nO (o:Option Int):Int:=o.getD 0
theorem retO_some {o:Option Int}{x:Int}(h:o=some x):Ending.returned (.agg #[.int .i64 1,.int .i64 x,.string ⟨#[]⟩])=.returned (.agg #[.int .i64 (kO o),.int .i64 (nO o),.string ⟨#[]⟩]):=by rw[h];rfl
theorem retO_none {o:Option Int}(h:o=none):Ending.returned (.agg #[.int .i64 0,.int .i64 0,.string ⟨#[]⟩])=.returned (.agg #[.int .i64 (kO o),.int .i64 (nO o),.string ⟨#[]⟩]):=by rw[h];rfl
theorem mulO_a0 (b:Int):mulO 0 b=some 0:=by
 unfold mulO;by_cases h0:b=0
 ·rw[if_pos h0]
 ·rw[if_neg h0];by_cases h1:b= -1
  ·rw[if_pos h1];decide+kernel
  ·rw[if_neg h1,Int.zero_mul,show wrap64 0=0 from by decide+kernel,Int.zero_tdiv,if_pos (by decide+kernel)]
theorem subO_neg (a:Int)(ha: -9223372036854775808≤a∧a≤9223372036854775807):subO 0 a=if a= -9223372036854775808 then none else some (-a):=by
 unfold subO;by_cases h:a= -9223372036854775808
 ·subst h;decide+kernel
 ·have e:wrap64 (0 -a)= -a:=by unfold wrap64;omega
  rw[e,if_neg h];by_cases h1:0<a
  ·rw[if_pos (by first|(simp;done)|(simp;omega))]
  ·rw[if_pos (by first|(simp;done)|(simp;omega))]
theorem mulO_m1 (a:Int)(ha: -9223372036854775808≤a∧a≤9223372036854775807):mulO a (-1)=if a= -9223372036854775808 then none else some (-a):=by
 rw[mulO,if_neg (by omega),if_pos rfl,subO_neg a ha]
theorem divO_m1 (a:Int)(ha: -9223372036854775808≤a∧a≤9223372036854775807):divO a (-1)=if a= -9223372036854775808 then none else some (-a):=by
 rw[divO,if_neg (by omega),if_pos rfl,subO_neg a ha]
theorem mulO_ml:mulO (-1) (-9223372036854775808)=none:=by decide+kernel
theorem l01Int_any (n:Int)(w:World):Calls Tryz.prog 98 #[.int .i64 n] w fun e w'=>e=.returned (.agg #[.int .i64 1,.int .i64 n,.string ⟨#[]⟩])∧Below w.heap.size w w':=by
 go_enter Tryz.func98,Tryz.ntmps98;go_wp2;go_returns;exact⟨rfl,by go_grown⟩
theorem l01Sum_any (a b:Int)(w:World):Calls Tryz.prog 166 #[.int .i64 a,.int .i64 b] w fun e w'=>e=.returned (.agg #[.int .i64 (kO (addO a b)),.int .i64 (nO (addO a b)),.string ⟨#[]⟩])∧Below w.heap.size w w':=by
 by_cases h:(decide (a<wrap64 (a+b))==decide (0<b))=true
 ·have hm:Hid (addO a b=some (wrap64 (a+b))):=if_pos h;go_enter Tryz.func166,Tryz.ntmps166;go_wp2;all_goals first|(go_returns;exact⟨retO_some hm.out,by go_grown⟩)|(exfalso;simp_all;done)
 ·have hm:Hid (addO a b=none):=if_neg h;go_enter Tryz.func166,Tryz.ntmps166;go_wp2;all_goals first|(go_returns;exact⟨retO_none hm.out,by go_grown⟩)|(exfalso;simp_all;done)
theorem l01Product_any (a b:Int)(w:World)(ha: -9223372036854775808≤a∧a≤9223372036854775807)(hb: -9223372036854775808≤b∧b≤9223372036854775807):Calls Tryz.prog 167 #[.int .i64 a,.int .i64 b] w fun e w'=>e=.returned (.agg #[.int .i64 (kO (mulO a b)),.int .i64 (nO (mulO a b)),.string ⟨#[]⟩])∧Below w.heap.size w w':=by
 by_cases ha0:a=0
 ·subst ha0;have hm:Hid (mulO 0 b=some 0):=mulO_a0 b;clear ha hb;go_enter Tryz.func167,Tryz.ntmps167;go_wp2;all_goals first|(go_returns;exact⟨retO_some hm.out,by go_grown⟩)|(exfalso;simp_all;done)
 by_cases hb0:b=0
 ·subst hb0;have hm:Hid (mulO a 0=some 0):=rfl;have ea:(a==0)=false:=by simp[ha0]
  clear ha hb ha0;go_enter Tryz.func167,Tryz.ntmps167;go_wp2;all_goals first|(go_returns;exact⟨retO_some hm.out,by go_grown⟩)|(exfalso;simp_all;done)
 have ea:(a==0)=false:=by simp[ha0]
 have eb:(b==0)=false:=by simp[hb0]
 by_cases hb1:b= -1
 ·subst hb1;have hm0:=mulO_m1 a ha;by_cases hl:a= -9223372036854775808
  ·subst hl;have hm:Hid (mulO (-9223372036854775808) (-1)=none):=by show _=_;decide+kernel
   clear hm0 ha hb;go_enter Tryz.func167,Tryz.ntmps167;go_wp2;all_goals first|(go_returns;exact⟨retO_none hm.out,by go_grown⟩)|(exfalso;simp_all;done)
  ·rw[if_neg hl]at hm0;have hm:Hid (mulO a (-1)=some (-a)):=hm0;clear hm0;have el:(a== -9223372036854775808)=false:=by simp[hl]
   have e1:wrap64 (-a)= -a:=by unfold wrap64;omega
   have e2:wrap64 a=a:=by unfold wrap64;omega
   by_cases ha1:a= -1
   ·subst ha1;clear ha hb e1 e2 el;go_enter Tryz.func167,Tryz.ntmps167;go_wp2;all_goals first|(go_returns;exact⟨retO_some hm.out,by go_grown⟩)|(exfalso;simp_all [wrap64];done)
   ·have ea1:(a== -1)=false:=by simp[ha1]
    clear ha hb ha1 hl ha0 hb0;go_enter Tryz.func167,Tryz.ntmps167;go_wp2;all_goals first|(go_returns;exact⟨retO_some hm.out,by go_grown⟩)|(exfalso;simp_all;done)
 have eb1:(b== -1)=false:=by simp[hb1]
 by_cases hl:a= -1∧b= -9223372036854775808
 ·obtain⟨rfl,rfl⟩:=hl;have hm:Hid (mulO (-1) (-9223372036854775808)=none):=mulO_ml;clear ha hb;go_enter Tryz.func167,Tryz.ntmps167;go_wp2;all_goals first|(go_returns;exact⟨retO_none hm.out,by go_grown⟩)|(exfalso;simp_all;done)
 ·by_cases ha1:a= -1
  ·subst ha1;have ebl:(b== -9223372036854775808)=false:=by
    have:¬b= -9223372036854775808:=fun h=>hl ⟨rfl,h⟩;simp[this]
   by_cases hq:wrap64 ((wrap64 (-b)).tdiv b)= -1
   ·have hm:Hid (mulO (-1) b=some (wrap64 (-b))):=by show _=_;rw[mulO,if_neg hb0,if_neg hb1,Int.neg_one_mul,if_pos hq]
    have eq:(wrap64 ((wrap64 (-b)).tdiv b) != -1)=false:=by simp[hq]
    clear ha hb hq hl ha0;go_enter Tryz.func167,Tryz.ntmps167;go_wp2;all_goals first|(go_returns;exact⟨retO_some hm.out,by go_grown⟩)|(exfalso;simp_all;done)
   ·have hm:Hid (mulO (-1) b=none):=by show _=_;rw[mulO,if_neg hb0,if_neg hb1,Int.neg_one_mul,if_neg hq]
    have eq:(wrap64 ((wrap64 (-b)).tdiv b) != -1)=true:=by simp[hq]
    clear ha hb hq hl ha0;go_enter Tryz.func167,Tryz.ntmps167;go_wp2;all_goals first|(go_returns;exact⟨retO_none hm.out,by go_grown⟩)|(exfalso;simp_all;done)
  have ea1:(a== -1)=false:=by simp[ha1]
  by_cases hq:wrap64 ((wrap64 (a*b)).tdiv b)=a
  ·have hm:Hid (mulO a b=some (wrap64 (a*b))):=by show _=_;rw[mulO,if_neg hb0,if_neg hb1,if_pos hq]
   have eq:(wrap64 ((wrap64 (a*b)).tdiv b) !=a)=false:=by simp[hq]
   have hl':Hid (¬ (a= -1∧b= -9223372036854775808)):=hl;clear ha hb hq hl;go_enter Tryz.func167,Tryz.ntmps167;go_wp2;all_goals first|(go_returns;exact⟨retO_some hm.out,by go_grown⟩)|(exfalso;have:=hl'.out;simp_all;done)
  ·have hm:Hid (mulO a b=none):=by show _=_;rw[mulO,if_neg hb0,if_neg hb1,if_neg hq]
   have eq:(wrap64 ((wrap64 (a*b)).tdiv b) !=a)=true:=by simp[hq]
   have hl':Hid (¬ (a= -1∧b= -9223372036854775808)):=hl;clear ha hb hq hl;go_enter Tryz.func167,Tryz.ntmps167;go_wp2;all_goals first|(go_returns;exact⟨retO_none hm.out,by go_grown⟩)|(exfalso;have:=hl'.out;simp_all;done)
theorem l01Quotient_any (a b:Int)(w:World)(ha: -9223372036854775808≤a∧a≤9223372036854775807):Calls Tryz.prog 168 #[.int .i64 a,.int .i64 b] w fun e w'=>e=.returned (.agg #[.int .i64 (kO (divO a b)),.int .i64 (nO (divO a b)),.string ⟨#[]⟩])∧Below w.heap.size w w':=by
 by_cases hb0:b=0
 ·subst hb0;have hm:Hid (divO a 0=none):=rfl;clear ha;go_enter Tryz.func168,Tryz.ntmps168;go_wp2;all_goals first|(go_returns;exact⟨retO_none hm.out,by go_grown⟩)|(exfalso;simp_all;done)
 have eb:(b==0)=false:=by simp[hb0]
 by_cases hb1:b= -1
 ·subst hb1;have hm0:=divO_m1 a ha;by_cases hl:a= -9223372036854775808
  ·subst hl;have hm:Hid (divO (-9223372036854775808) (-1)=none):=by show _=_;decide+kernel
   clear hm0 ha;go_enter Tryz.func168,Tryz.ntmps168;go_wp2;all_goals first|(go_returns;exact⟨retO_none hm.out,by go_grown⟩)|(exfalso;simp_all;done)
  ·rw[if_neg hl]at hm0;have hm:Hid (divO a (-1)=some (-a)):=hm0;have el:(a== -9223372036854775808)=false:=by simp[hl]
   have e1:wrap64 (-a)= -a:=by unfold wrap64;omega
   clear hm0 ha hl hb0;go_enter Tryz.func168,Tryz.ntmps168;go_wp2;all_goals first|(go_returns;exact⟨retO_some hm.out,by go_grown⟩)|(exfalso;simp_all;done)
 have eb1:(b== -1)=false:=by simp[hb1]
 by_cases hq:(a.tmod b !=0 && !(decide (a<0)==decide (b<0)))=true
 ·have hm:Hid (divO a b=some (wrap64 (wrap64 (a.tdiv b) -1))):=by show _=_;rw[divO,if_neg hb0,if_neg hb1,if_pos hq]
  clear ha;go_enter Tryz.func168,Tryz.ntmps168;go_wp2;all_goals first|(go_returns;exact⟨retO_some hm.out,by go_grown⟩)|(exfalso;simp_all;done)
 ·have hm:Hid (divO a b=some (wrap64 (a.tdiv b))):=by show _=_;rw[divO,if_neg hb0,if_neg hb1,if_neg hq]
  clear ha;go_enter Tryz.func168,Tryz.ntmps168;go_wp2;all_goals first|(go_returns;exact⟨retO_some hm.out,by go_grown⟩)|(exfalso;simp_all;done)
end
section
open Go.RowKit
attribute [local go_sem] ta_nullForm_nullForm ta_nullForm_intForm ta_nullForm_boolForm ta_nullForm_textForm ta_intForm_nullForm ta_intForm_intForm ta_intForm_boolForm ta_intForm_textForm ta_boolForm_nullForm ta_boolForm_intForm ta_boolForm_boolForm ta_boolForm_textForm ta_textForm_nullForm ta_textForm_intForm ta_textForm_boolForm ta_textForm_textForm ta_nil_nullForm ta_nil_intForm ta_nil_boolForm ta_nil_textForm
theorem formOf_not1 (k n:Int)(s:ByteArray)(w:World)(h:¬k=1):Calls Tryz.prog 136 #[(.agg #[.int .i64 k,.int .i64 n,.string s])] w fun e w'=> ∃f,e=.returned f∧(∀W:World,(Instr.typeAssert f 201 225 true).run Tryz.prog W=.ok (.tuple #[.agg #[.int .i64 0],.bool false]) W)∧w'=w.alloc (.cells #[.int .i64 k,.int .i64 n,.string s] 36):=by
 by_cases h0:k=0
 ·subst h0;refine(formOf_0 n s w).mono ?_;rintro e w1 ⟨rfl,rfl⟩;exact⟨_,rfl,fun W=>ta_nullForm_intForm W,rfl⟩
 by_cases h2:k=2
 ·subst h2;refine(formOf_2 n s w).mono ?_;rintro e w1 ⟨rfl,rfl⟩;exact⟨_,rfl,fun W=>ta_boolForm_intForm n W,rfl⟩
 by_cases h3:k=3
 ·subst h3;refine(formOf_3 n s w).mono ?_;rintro e w1 ⟨rfl,rfl⟩;exact⟨_,rfl,fun W=>ta_textForm_intForm s W,rfl⟩
 refine(formOf_x k n s w (by simp[h0]) (by simp[h]) (by simp[h2]) (by simp[h3])).mono ?_;rintro e w1 ⟨rfl,rfl⟩;exact⟨_,rfl,fun W=>ta_nil_intForm W,rfl⟩
theorem formOf_not3 (k n:Int)(s:ByteArray)(w:World)(h:¬k=3):Calls Tryz.prog 136 #[(.agg #[.int .i64 k,.int .i64 n,.string s])] w fun e w'=> ∃f,e=.returned f∧(∀W:World,(Instr.typeAssert f 201 227 true).run Tryz.prog W=.ok (.tuple #[.agg #[.string ⟨#[]⟩],.bool false]) W)∧w'=w.alloc (.cells #[.int .i64 k,.int .i64 n,.string s] 36):=by
 by_cases h0:k=0
 ·subst h0;refine(formOf_0 n s w).mono ?_;rintro e w1 ⟨rfl,rfl⟩;exact⟨_,rfl,fun W=>ta_nullForm_textForm W,rfl⟩
 by_cases h1:k=1
 ·subst h1;refine(formOf_1 n s w).mono ?_;rintro e w1 ⟨rfl,rfl⟩;exact⟨_,rfl,fun W=>ta_intForm_textForm n W,rfl⟩
 by_cases h2:k=2
 ·subst h2;refine(formOf_2 n s w).mono ?_;rintro e w1 ⟨rfl,rfl⟩;exact⟨_,rfl,fun W=>ta_boolForm_textForm n W,rfl⟩
 refine(formOf_x k n s w (by simp[h0]) (by simp[h1]) (by simp[h2]) (by simp[h])).mono ?_;rintro e w1 ⟨rfl,rfl⟩;exact⟨_,rfl,fun W=>ta_nil_textForm W,rfl⟩
theorem ints_add (op:ByteArray)(a b:Int)(s s':ByteArray)(w:World)(hop:op.toList=[43]):Calls Tryz.prog 155 #[.string op,(.agg #[.int .i64 1,.int .i64 a,.string s]),(.agg #[.int .i64 1,.int .i64 b,.string s'])] w fun e w'=>e=.returned (.agg #[.int .i64 (kO (addO a b)),.int .i64 (nO (addO a b)),.string ⟨#[]⟩])∧Below w.heap.size w w':=by
 go_enter Tryz.func155,Tryz.ntmps155;go_wp2_with(first|(go_at_call 136;refine(formOf_1 _ _ _).mono ?_;rintro e w1 ⟨rfl,rfl⟩));refine(addInts_any _ _ _).mono ?_;rintro e w1 ⟨x,t,rfl,ht,rfl⟩;cases t
 ·have ht':Hid (addO a b=none):=by show _=_;simpa [Tells]using ht
  clear ht;go_wp2_with fail;go_returns;exact⟨retO_none ht'.out,by go_grown⟩
 ·have ht':Hid (addO a b=some x):=by show _=_;simpa [Tells]using ht
  clear ht;go_wp2_with fail;go_returns;exact⟨retO_some ht'.out,by go_grown⟩
theorem ints_sub (op:ByteArray)(a b:Int)(s s':ByteArray)(w:World)(hop:op.toList=[45]):Calls Tryz.prog 155 #[.string op,(.agg #[.int .i64 1,.int .i64 a,.string s]),(.agg #[.int .i64 1,.int .i64 b,.string s'])] w fun e w'=>e=.returned (.agg #[.int .i64 (kO (subO a b)),.int .i64 (nO (subO a b)),.string ⟨#[]⟩])∧Below w.heap.size w w':=by
 go_enter Tryz.func155,Tryz.ntmps155;go_wp2_with(first|(go_at_call 136;refine(formOf_1 _ _ _).mono ?_;rintro e w1 ⟨rfl,rfl⟩));refine(subInts_any _ _ _).mono ?_;rintro e w1 ⟨x,t,rfl,ht,rfl⟩;cases t
 ·have ht':Hid (subO a b=none):=by show _=_;simpa [Tells]using ht
  clear ht;go_wp2_with fail;go_returns;exact⟨retO_none ht'.out,by go_grown⟩
 ·have ht':Hid (subO a b=some x):=by show _=_;simpa [Tells]using ht
  clear ht;go_wp2_with fail;go_returns;exact⟨retO_some ht'.out,by go_grown⟩
theorem ints_mul (op:ByteArray)(a b:Int)(s s':ByteArray)(w:World)(hop:op.toList=[42]):Calls Tryz.prog 155 #[.string op,(.agg #[.int .i64 1,.int .i64 a,.string s]),(.agg #[.int .i64 1,.int .i64 b,.string s'])] w fun e w'=>e=.returned (.agg #[.int .i64 (kO (mulO a b)),.int .i64 (nO (mulO a b)),.string ⟨#[]⟩])∧Below w.heap.size w w':=by
 go_enter Tryz.func155,Tryz.ntmps155;go_wp2_with(first|(go_at_call 136;refine(formOf_1 _ _ _).mono ?_;rintro e w1 ⟨rfl,rfl⟩));refine(mulInts_any _ _ _).mono ?_;rintro e w1 ⟨x,t,rfl,ht,hb1⟩;have hf1:=(bc8 hb1).2;have hz1:=hb1.size;(try simp at hz1);have hy1:w.heap.size+1+1<w1.heap.size:=(by omega);have hy1_0:w.heap.size<w1.heap.size:=(by omega);have hy1_1:w.heap.size+1<w1.heap.size:=(by omega);have q1_2_0:w1.cell? ⟨w.heap.size+1+1,0,none⟩=some (.int .i64 0):=cL8 hb1 (by go_simp);have q1_2_1:w1.cell? ⟨w.heap.size+1+1,1,none⟩=some (.int .i64 0):=cL8 hb1 (by go_simp);have q1_2_2:w1.cell? ⟨w.heap.size+1+1,2,none⟩=some (.string ⟨#[]⟩):=cL8 hb1 (by go_simp);cases t
 ·have ht':Hid (mulO a b=none):=by show _=_;simpa [Tells]using ht
  clear ht;go_wp2_with fail;refine bodyPost_ret (v:=(.agg #[.int .i64 0,.int .i64 0,.string ⟨#[]⟩])) (by simp[results,Tryz.results155,go_sem, *]) rfl ⟨?_,?_⟩
  ·exact retO_none ht'.out
  ·exact bela
 ·have ht':Hid (mulO a b=some x):=by show _=_;simpa [Tells]using ht
  clear ht;go_wp2_with fail;refine bodyPost_ret (v:=(.agg #[.int .i64 1,.int .i64 x,.string ⟨#[]⟩])) (by simp[results,Tryz.results155,go_sem, *]) rfl ⟨?_,?_⟩
  ·exact retO_some ht'.out
  ·exact bela
theorem ints_div (op:ByteArray)(a b:Int)(s s':ByteArray)(w:World)(hop:op.toList=[47]):Calls Tryz.prog 155 #[.string op,(.agg #[.int .i64 1,.int .i64 a,.string s]),(.agg #[.int .i64 1,.int .i64 b,.string s'])] w fun e w'=>e=.returned (.agg #[.int .i64 (kO (divO a b)),.int .i64 (nO (divO a b)),.string ⟨#[]⟩])∧Below w.heap.size w w':=by
 go_enter Tryz.func155,Tryz.ntmps155;go_wp2_with(first|(go_at_call 136;refine(formOf_1 _ _ _).mono ?_;rintro e w1 ⟨rfl,rfl⟩));refine(divInts_any _ _ _).mono ?_;rintro e w1 ⟨x,t,rfl,ht,hb1⟩;have hf1:=(bc8 hb1).2;have hz1:=hb1.size;(try simp at hz1);have hy1:w.heap.size+1+1<w1.heap.size:=(by omega);have hy1_0:w.heap.size<w1.heap.size:=(by omega);have hy1_1:w.heap.size+1<w1.heap.size:=(by omega);have q1_2_0:w1.cell? ⟨w.heap.size+1+1,0,none⟩=some (.int .i64 0):=cL8 hb1 (by go_simp);have q1_2_1:w1.cell? ⟨w.heap.size+1+1,1,none⟩=some (.int .i64 0):=cL8 hb1 (by go_simp);have q1_2_2:w1.cell? ⟨w.heap.size+1+1,2,none⟩=some (.string ⟨#[]⟩):=cL8 hb1 (by go_simp);cases t
 ·have ht':Hid (divO a b=none):=by show _=_;simpa [Tells]using ht
  clear ht;go_wp2_with fail;refine bodyPost_ret (v:=(.agg #[.int .i64 0,.int .i64 0,.string ⟨#[]⟩])) (by simp[results,Tryz.results155,go_sem, *]) rfl ⟨?_,?_⟩
  ·exact retO_none ht'.out
  ·exact bela
 ·have ht':Hid (divO a b=some x):=by show _=_;simpa [Tells]using ht
  clear ht;go_wp2_with fail;refine bodyPost_ret (v:=(.agg #[.int .i64 1,.int .i64 x,.string ⟨#[]⟩])) (by simp[results,Tryz.results155,go_sem, *]) rfl ⟨?_,?_⟩
  ·exact retO_some ht'.out
  ·exact bela
theorem ints_1x (op:ByteArray)(a k b:Int)(s s':ByteArray)(w:World)(hk:¬k=1):Calls Tryz.prog 155 #[.string op,(.agg #[.int .i64 1,.int .i64 a,.string s]),(.agg #[.int .i64 k,.int .i64 b,.string s'])] w fun e w'=>e=.returned (.agg #[.int .i64 0,.int .i64 0,.string ⟨#[]⟩])∧Below w.heap.size w w':=by
 go_enter Tryz.func155,Tryz.ntmps155;go_wp2_with fail;refine(formOf_1 _ _ _).mono ?_;rintro e w1 ⟨rfl,rfl⟩;go_wp2_with fail;refine(formOf_not1 _ _ _ _ hk).mono ?_;rintro e w1 ⟨f,rfl,hta,rfl⟩;go_wp2_with fail;go_returns;exact⟨rfl,by go_grown⟩
theorem ints_x1 (op:ByteArray)(k a b:Int)(s s':ByteArray)(w:World)(hk:¬k=1):Calls Tryz.prog 155 #[.string op,(.agg #[.int .i64 k,.int .i64 a,.string s]),(.agg #[.int .i64 1,.int .i64 b,.string s'])] w fun e w'=>e=.returned (.agg #[.int .i64 0,.int .i64 0,.string ⟨#[]⟩])∧Below w.heap.size w w':=by
 go_enter Tryz.func155,Tryz.ntmps155;go_wp2_with fail;refine(formOf_not1 _ _ _ _ hk).mono ?_;rintro e w1 ⟨f,rfl,hta,rfl⟩;go_wp2_with fail;refine(formOf_1 _ _ _).mono ?_;rintro e w1 ⟨rfl,rfl⟩;go_wp2_with fail;go_returns;exact⟨rfl,by go_grown⟩
theorem ints_xx (op:ByteArray)(k a k' b:Int)(s s':ByteArray)(w:World)(hk:¬k=1)(hk':¬k'=1):Calls Tryz.prog 155 #[.string op,(.agg #[.int .i64 k,.int .i64 a,.string s]),(.agg #[.int .i64 k',.int .i64 b,.string s'])] w fun e w'=>e=.returned (.agg #[.int .i64 0,.int .i64 0,.string ⟨#[]⟩])∧Below w.heap.size w w':=by
 go_enter Tryz.func155,Tryz.ntmps155;go_wp2_with fail;refine(formOf_not1 _ _ _ _ hk).mono ?_;rintro e w1 ⟨f,rfl,hta,rfl⟩;go_wp2_with fail;refine(formOf_not1 _ _ _ _ hk').mono ?_;rintro e w1 ⟨f',rfl,hta',rfl⟩;go_wp2_with fail;go_returns;exact⟨rfl,by go_grown⟩
theorem ints_no (op:ByteArray)(k a k' b:Int)(s s':ByteArray)(w:World)(h:¬ (k=1∧k'=1)):Calls Tryz.prog 155 #[.string op,(.agg #[.int .i64 k,.int .i64 a,.string s]),(.agg #[.int .i64 k',.int .i64 b,.string s'])] w fun e w'=>e=.returned (.agg #[.int .i64 0,.int .i64 0,.string ⟨#[]⟩])∧Below w.heap.size w w':=by
 by_cases h1:k=1
 ·subst h1;exact ints_1x op a k' b s s' w (fun e=>h ⟨rfl,e⟩)
 by_cases h2:k'=1
 ·subst h2;exact ints_x1 op k a b s s' w h1
 ·exact ints_xx op k a k' b s s' w h1 h2
end
section
open Go.RowKit
attribute [local go_sem] ta_nullForm_nullForm ta_nullForm_intForm ta_nullForm_boolForm ta_nullForm_textForm ta_intForm_nullForm ta_intForm_intForm ta_intForm_boolForm ta_intForm_textForm ta_boolForm_nullForm ta_boolForm_intForm ta_boolForm_boolForm ta_boolForm_textForm ta_textForm_nullForm ta_textForm_intForm ta_textForm_boolForm ta_textForm_textForm ta_nil_nullForm ta_nil_intForm ta_nil_boolForm ta_nil_textForm
theorem boolValue_true (w:World):Calls Tryz.prog 159 #[.bool true] w fun e w'=>e=.returned (.agg #[.int .i64 2,.int .i64 1,.string ⟨#[]⟩])∧Below w.heap.size w w':=by
 go_enter Tryz.func159,Tryz.ntmps159;go_wp2;go_returns;exact⟨rfl,by go_grown⟩
theorem boolValue_false (w:World):Calls Tryz.prog 159 #[.bool false] w fun e w'=>e=.returned (.agg #[.int .i64 2,.int .i64 0,.string ⟨#[]⟩])∧Below w.heap.size w w':=by
 go_enter Tryz.func159,Tryz.ntmps159;go_wp2;go_returns;exact⟨rfl,by go_grown⟩
theorem boolValue_any (b:Bool)(w:World):Calls Tryz.prog 159 #[.bool b] w fun e w'=>e=.returned (.agg #[.int .i64 2,.int .i64 (bn b),.string ⟨#[]⟩])∧Below w.heap.size w w':=by
 cases b
 ·exact boolValue_false w
 ·exact boolValue_true w
theorem l01Bool_true (w:World):Calls Tryz.prog 148 #[.bool true] w fun e w'=>e=.returned (.agg #[.int .i64 2,.int .i64 1,.string ⟨#[]⟩])∧Below w.heap.size w w':=by
 go_enter Tryz.func148,Tryz.ntmps148;go_wp2;go_returns;exact⟨rfl,by go_grown⟩
theorem l01Bool_false (w:World):Calls Tryz.prog 148 #[.bool false] w fun e w'=>e=.returned (.agg #[.int .i64 2,.int .i64 0,.string ⟨#[]⟩])∧Below w.heap.size w w':=by
 go_enter Tryz.func148,Tryz.ntmps148;go_wp2;go_returns;exact⟨rfl,by go_grown⟩
theorem l01Bool_any (b:Bool)(w:World):Calls Tryz.prog 148 #[.bool b] w fun e w'=>e=.returned (.agg #[.int .i64 2,.int .i64 (bn b),.string ⟨#[]⟩])∧Below w.heap.size w w':=by
 cases b
 ·exact l01Bool_false w
 ·exact l01Bool_true w
theorem order_no (op:ByteArray)(k a k' b:Int)(s s':ByteArray)(w:World)(h:¬ (k=k'∧¬k=0)):Calls Tryz.prog 156 #[.string op,(.agg #[.int .i64 k,.int .i64 a,.string s]),(.agg #[.int .i64 k',.int .i64 b,.string s'])] w fun e w'=>e=.returned (.agg #[.int .i64 0,.int .i64 0,.string ⟨#[]⟩])∧Below w.heap.size w w':=by
 by_cases hk:k=k'
 ·subst hk;have h0:k=0:=by
   rcases Int.lt_trichotomy k 0 with h'|h'|h'
   ·exact absurd ⟨rfl,by omega⟩ h
   ·exact h'
   ·exact absurd ⟨rfl,by omega⟩ h
  subst h0;clear h;go_enter Tryz.func156,Tryz.ntmps156;go_wp2;go_returns;exact⟨rfl,by go_grown⟩
 ·have hn:(k !=k')=true:=by simp[hk]
  clear h hk;go_enter Tryz.func156,Tryz.ntmps156;go_wp2;go_returns;exact⟨rfl,by go_grown⟩
theorem order_eq (op:ByteArray)(k a b:Int)(s s':ByteArray)(w:World)(hop:op.toList=[61])(h0:(k==0)=false):Calls Tryz.prog 156 #[.string op,(.agg #[.int .i64 k,.int .i64 a,.string s]),(.agg #[.int .i64 k,.int .i64 b,.string s'])] w fun e w'=>e=.returned (.agg #[.int .i64 2,.int .i64 (bn (cmpV k a s k b s'==0)),.string ⟨#[]⟩])∧Below w.heap.size w w':=by
 have hn:(k !=k)=false:=by simp
 go_enter Tryz.func156,Tryz.ntmps156;go_wp2_with(first|(go_at_call 117;refine(implCmp_any _ _ _ _ _ _ _).mono ?_;rintro e w1 ⟨rfl,hb1⟩;have hf1:=(bc8 hb1).2;have hz1:=hb1.size;(try simp at hz1);have hy1:w.heap.size+1+1<w1.heap.size:=(by omega);have hy1_0:w.heap.size<w1.heap.size:=(by omega);have hy1_1:w.heap.size+1<w1.heap.size:=(by omega);have q1_2_0:w1.cell? ⟨w.heap.size+1+1,0,none⟩=some (.int .i64 0):=cL8 hb1 (by go_simp);have q1_2_1:w1.cell? ⟨w.heap.size+1+1,1,none⟩=some (.int .i64 0):=cL8 hb1 (by go_simp);have q1_2_2:w1.cell? ⟨w.heap.size+1+1,2,none⟩=some (.string ⟨#[]⟩):=cL8 hb1 (by go_simp))|(go_at_call 159;refine(boolValue_any _ _).mono ?_;rintro e w2 ⟨rfl,hb2⟩;have hf2:=(bc8 hb2).2;have hz2:=hb2.size;(try simp at hz2);have hy2:w.heap.size+1+1<w2.heap.size:=(by omega);have hy2_0:w.heap.size<w2.heap.size:=(by omega);have hy2_1:w.heap.size+1<w2.heap.size:=(by omega);have q2_2_0:w2.cell? ⟨w.heap.size+1+1,0,none⟩=some (.int .i64 0):=cL8 hb2 (by go_simp);have q2_2_1:w2.cell? ⟨w.heap.size+1+1,1,none⟩=some (.int .i64 0):=cL8 hb2 (by go_simp);have q2_2_2:w2.cell? ⟨w.heap.size+1+1,2,none⟩=some (.string ⟨#[]⟩):=cL8 hb2 (by go_simp)));refine bodyPost_ret (v:=(.agg #[.int .i64 2,.int .i64 (bn (cmpV k a s k b s'==0)),.string ⟨#[]⟩])) (by simp[results,Tryz.results156,go_sem, *]) rfl ⟨?_,?_⟩
 ·rfl
 ·exact bela
theorem order_lt (op:ByteArray)(k a b:Int)(s s':ByteArray)(w:World)(hop:op.toList=[60])(h0:(k==0)=false):Calls Tryz.prog 156 #[.string op,(.agg #[.int .i64 k,.int .i64 a,.string s]),(.agg #[.int .i64 k,.int .i64 b,.string s'])] w fun e w'=>e=.returned (.agg #[.int .i64 2,.int .i64 (bn (decide (cmpV k a s k b s'<0))),.string ⟨#[]⟩])∧Below w.heap.size w w':=by
 have hn:(k !=k)=false:=by simp
 go_enter Tryz.func156,Tryz.ntmps156;go_wp2_with(first|(go_at_call 117;refine(implCmp_any _ _ _ _ _ _ _).mono ?_;rintro e w1 ⟨rfl,hb1⟩;have hf1:=(bc8 hb1).2;have hz1:=hb1.size;(try simp at hz1);have hy1:w.heap.size+1+1<w1.heap.size:=(by omega);have hy1_0:w.heap.size<w1.heap.size:=(by omega);have hy1_1:w.heap.size+1<w1.heap.size:=(by omega);have q1_2_0:w1.cell? ⟨w.heap.size+1+1,0,none⟩=some (.int .i64 0):=cL8 hb1 (by go_simp);have q1_2_1:w1.cell? ⟨w.heap.size+1+1,1,none⟩=some (.int .i64 0):=cL8 hb1 (by go_simp);have q1_2_2:w1.cell? ⟨w.heap.size+1+1,2,none⟩=some (.string ⟨#[]⟩):=cL8 hb1 (by go_simp))|(go_at_call 159;refine(boolValue_any _ _).mono ?_;rintro e w2 ⟨rfl,hb2⟩;have hf2:=(bc8 hb2).2;have hz2:=hb2.size;(try simp at hz2);have hy2:w.heap.size+1+1<w2.heap.size:=(by omega);have hy2_0:w.heap.size<w2.heap.size:=(by omega);have hy2_1:w.heap.size+1<w2.heap.size:=(by omega);have q2_2_0:w2.cell? ⟨w.heap.size+1+1,0,none⟩=some (.int .i64 0):=cL8 hb2 (by go_simp);have q2_2_1:w2.cell? ⟨w.heap.size+1+1,1,none⟩=some (.int .i64 0):=cL8 hb2 (by go_simp);have q2_2_2:w2.cell? ⟨w.heap.size+1+1,2,none⟩=some (.string ⟨#[]⟩):=cL8 hb2 (by go_simp)));refine bodyPost_ret (v:=(.agg #[.int .i64 2,.int .i64 (bn (decide (cmpV k a s k b s'<0))),.string ⟨#[]⟩])) (by simp[results,Tryz.results156,go_sem, *]) rfl ⟨?_,?_⟩
 ·rfl
 ·exact bela
theorem holds_33 (a b:Int)(s s':ByteArray)(m:Int)(w:World)(hs:s.size<4294967281)(hm:w.cell? ⟨0,0,none⟩=some (.int .i64 m)):Calls Tryz.prog 157 #[(.agg #[.int .i64 3,.int .i64 a,.string s]),(.agg #[.int .i64 3,.int .i64 b,.string s'])] w fun e w'=>e=.returned (.agg #[.int .i64 2,.int .i64 (bn (Lib.contains s.data.toList s'.data.toList)),.string ⟨#[]⟩])∧Below w.heap.size w w':=by
 have h0:0<w.heap.size:=bl8 w ⟨0,0,none⟩ hm;generalize hcc:Lib.contains s.data.toList s'.data.toList=cc;have Hcc:Hid (Lib.contains s.data.toList s'.data.toList=cc):=hcc;clear hcc;go_enter Tryz.func157,Tryz.ntmps157;go_wp2_with(first|(go_at_call 136;refine(formOf_3 _ _ _).mono ?_;rintro e w1 ⟨rfl,rfl⟩));refine cM8 (Tryz.strings_Contains _ _ m _ hs ?hmm) ?_
 case hmm=>go_simp
 rintro e w1 ⟨rfl,rfl⟩;rw[Hcc.out];go_wp2_with(first|(go_at_call 159;refine(boolValue_any _ _).mono ?_;rintro e w2 ⟨rfl,hb2⟩;have hf2:=(bc8 hb2).2;have hz2:=hb2.size;(try simp at hz2);have hy2:w.heap.size+1+1<w2.heap.size:=(by omega);have hy2_0:w.heap.size<w2.heap.size:=(by omega);have hy2_1:w.heap.size+1<w2.heap.size:=(by omega);have q2_2_0:w2.cell? ⟨w.heap.size+1+1,0,none⟩=some (.int .i64 0):=cL8 hb2 (by go_simp);have q2_2_1:w2.cell? ⟨w.heap.size+1+1,1,none⟩=some (.int .i64 0):=cL8 hb2 (by go_simp);have q2_2_2:w2.cell? ⟨w.heap.size+1+1,2,none⟩=some (.string ⟨#[]⟩):=cL8 hb2 (by go_simp)));refine bodyPost_ret (v:=(.agg #[.int .i64 2,.int .i64 (bn cc),.string ⟨#[]⟩])) (by simp[results,Tryz.results157,go_sem, *]) rfl ⟨?_,?_⟩
 ·rfl
 ·exact bela
theorem holds_3x (a k' b:Int)(s s':ByteArray)(w:World)(hk':¬k'=3):Calls Tryz.prog 157 #[(.agg #[.int .i64 3,.int .i64 a,.string s]),(.agg #[.int .i64 k',.int .i64 b,.string s'])] w fun e w'=>e=.returned (.agg #[.int .i64 0,.int .i64 0,.string ⟨#[]⟩])∧Below w.heap.size w w':=by
 go_enter Tryz.func157,Tryz.ntmps157;go_wp2_with fail;refine(formOf_3 _ _ _).mono ?_;rintro e w1 ⟨rfl,rfl⟩;go_wp2_with fail;refine(formOf_not3 _ _ _ _ hk').mono ?_;rintro e w1 ⟨fhk',rfl,htahk',rfl⟩;go_wp2_with fail;go_returns;exact⟨rfl,by go_grown⟩
theorem holds_x3 (k a b:Int)(s s':ByteArray)(w:World)(hk:¬k=3):Calls Tryz.prog 157 #[(.agg #[.int .i64 k,.int .i64 a,.string s]),(.agg #[.int .i64 3,.int .i64 b,.string s'])] w fun e w'=>e=.returned (.agg #[.int .i64 0,.int .i64 0,.string ⟨#[]⟩])∧Below w.heap.size w w':=by
 go_enter Tryz.func157,Tryz.ntmps157;go_wp2_with fail;refine(formOf_not3 _ _ _ _ hk).mono ?_;rintro e w1 ⟨fhk,rfl,htahk,rfl⟩;go_wp2_with fail;refine(formOf_3 _ _ _).mono ?_;rintro e w1 ⟨rfl,rfl⟩;go_wp2_with fail;go_returns;exact⟨rfl,by go_grown⟩
theorem holds_xx (k a k' b:Int)(s s':ByteArray)(w:World)(hk:¬k=3)(hk':¬k'=3):Calls Tryz.prog 157 #[(.agg #[.int .i64 k,.int .i64 a,.string s]),(.agg #[.int .i64 k',.int .i64 b,.string s'])] w fun e w'=>e=.returned (.agg #[.int .i64 0,.int .i64 0,.string ⟨#[]⟩])∧Below w.heap.size w w':=by
 go_enter Tryz.func157,Tryz.ntmps157;go_wp2_with fail;refine(formOf_not3 _ _ _ _ hk).mono ?_;rintro e w1 ⟨fhk,rfl,htahk,rfl⟩;go_wp2_with fail;refine(formOf_not3 _ _ _ _ hk').mono ?_;rintro e w1 ⟨fhk',rfl,htahk',rfl⟩;go_wp2_with fail;go_returns;exact⟨rfl,by go_grown⟩
theorem holds_no (k a k' b:Int)(s s':ByteArray)(w:World)(h:¬ (k=3∧k'=3)):Calls Tryz.prog 157 #[(.agg #[.int .i64 k,.int .i64 a,.string s]),(.agg #[.int .i64 k',.int .i64 b,.string s'])] w fun e w'=>e=.returned (.agg #[.int .i64 0,.int .i64 0,.string ⟨#[]⟩])∧Below w.heap.size w w':=by
 by_cases h1:k=3
 ·subst h1;exact holds_3x a k' b s s' w (fun e=>h ⟨rfl,e⟩)
 by_cases h2:k'=3
 ·subst h2;exact holds_x3 k a b s s' w h1
 ·exact holds_xx k a k' b s s' w h1 h2
end
end Go.Proofs.YtflokiejcjjbiaaGreat
