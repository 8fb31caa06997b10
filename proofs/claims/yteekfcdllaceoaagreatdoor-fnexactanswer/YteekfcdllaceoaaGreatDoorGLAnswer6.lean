/- Own texts, joined: contracts that the law's proof goes by. -/
import Derived.Test.YteekfcdllaceoaaGreatDoorGLAnswer1
import Derived.Handy
import Derived.RegionTactic
set_option maxHeartbeats 16000000
set_option maxRecDepth 100000
set_option linter.unusedVariables false
set_option linter.unusedSimpArgs false
namespace Go.Proofs.YteekfcdllaceoaaGreatDoor
section
open Go.RowKit
def O8 (a b:Int):Option Int:=if(decide (a<wrap64 (a+b))==decide (0<b))=true then some (wrap64 (a+b))else none
def M0 (a b:Int):Option Int:=if(decide (wrap64 (a -b)<a)==decide (0<b))=true then some (wrap64 (a -b))else none
def I1 (a b:Int):Option Int:=if b=0 then some 0 else if b= -1 then M0 0 a else if wrap64 ((wrap64 (a*b)).tdiv b)=a then some (wrap64 (a*b))else none
def J1 (a b:Int):Option Int:=if b=0 then none else if b= -1 then M0 0 a else some (if(a.tmod b !=0 && !(decide (a<0)==decide (b<0)))=true then wrap64 (wrap64 (a.tdiv b) -1)else wrap64 (a.tdiv b))
def n9 (o:Option Int)(x:Int)(b:Bool):Prop:=o=if b=true then some x else none
theorem B60 (a b:Int)(w:World):Calls Tryz.prog 205 #[.int .i64 a,.int .i64 b] w fun e w'=> ∃x t,e=.returned (.tuple #[.int .i64 x,.bool t])/\n9 (O8 a b) x t/\w'=w:=by
 go_enter Tryz.func205,Tryz.ntmps205;go_wp2;go_returns;exact⟨_,_,rfl,rfl,rfl⟩
theorem A7j (a b:Int)(w:World):Calls Tryz.prog 206 #[.int .i64 a,.int .i64 b] w fun e w'=> ∃x t,e=.returned (.tuple #[.int .i64 x,.bool t])/\n9 (M0 a b) x t/\w'=w:=by
 go_enter Tryz.func206,Tryz.ntmps206;go_wp2;go_returns;exact⟨_,_,rfl,rfl,rfl⟩
theorem B5N (a b:Int)(w:World):Calls Tryz.prog 207 #[.int .i64 a,.int .i64 b] w fun e w'=> ∃x t,e=.returned (.tuple #[.int .i64 x,.bool t])/\n9 (I1 a b) x t/\Below w.heap.size w w':=by
 by_cases h0:b=0
 ·subst h0;go_enter Tryz.func207,Tryz.ntmps207;go_wp2;go_returns;exact⟨_,_,rfl,rfl,Below.refl _ _⟩
 by_cases h1:b= -1
 ·subst h1;have hm:Hid (I1 a (-1)=M0 0 a):=by show _=_;rw[I1,if_neg (by omega),if_pos rfl]
  go_enter Tryz.func207,Tryz.ntmps207;go_wp2_with fail;refine(A7j _ _ _).mono ?_;rintro e w1 ⟨x,t,rfl,ht,rfl⟩;go_wp2_with fail;go_returns;exact⟨_,_,rfl,by rw[hm.out];exact ht,Below.refl _ _⟩
 ·have e0:(b==0)=false:=by simp[h0]
  have e1:(b== -1)=false:=by simp[h1]
  have hm:Hid (n9 (I1 a b) (wrap64 (a*b)) (wrap64 ((wrap64 (a*b)).tdiv b)==a)):=by
   show _=_;rw[I1,if_neg h0,if_neg h1];by_cases hh:wrap64 ((wrap64 (a*b)).tdiv b)=a<;>simp[hh]
  clear h1;go_enter Tryz.func207,Tryz.ntmps207;go_wp2
  go_region
  all_goals go_wp2
  all_goals go_returns
  all_goals exact⟨_,_,rfl,hm.out,(Below.refl _ _).drew⟩
theorem C12 (a b:Int)(w:World):Calls Tryz.prog 208 #[.int .i64 a,.int .i64 b] w fun e w'=> ∃x t,e=.returned (.tuple #[.int .i64 x,.bool t])/\n9 (J1 a b) x t/\Below w.heap.size w w':=by
 by_cases h0:b=0
 ·subst h0;go_enter Tryz.func208,Tryz.ntmps208;go_wp2;go_returns;exact⟨_,_,rfl,rfl,Below.refl _ _⟩
 by_cases h1:b= -1
 ·subst h1;have hm:Hid (J1 a (-1)=M0 0 a):=by show _=_;rw[J1,if_neg (by omega),if_pos rfl]
  go_enter Tryz.func208,Tryz.ntmps208;go_wp2_with fail;refine(A7j _ _ _).mono ?_;rintro e w1 ⟨x,t,rfl,ht,rfl⟩;go_wp2_with fail;go_returns;exact⟨_,_,rfl,by rw[hm.out];exact ht,Below.refl _ _⟩
 ·have e0:(b==0)=false:=by simp[h0]
  have e1:(b== -1)=false:=by simp[h1]
  by_cases hq:(a.tmod b !=0 && !(decide (a<0)==decide (b<0)))=true
  ·have hm:Hid (J1 a b=some (wrap64 (wrap64 (a.tdiv b) -1))):=by show _=_;rw[J1,if_neg h0,if_neg h1,if_pos hq]
   clear h1;go_enter Tryz.func208,Tryz.ntmps208;go_wp2;all_goals first|(go_returns;exact⟨_,_,rfl,hm.out,Below.refl _ _⟩)|(exfalso;simp_all;done)
  ·have hm:Hid (J1 a b=some (wrap64 (a.tdiv b))):=by show _=_;rw[J1,if_neg h0,if_neg h1,if_neg hq]
   clear h1;go_enter Tryz.func208,Tryz.ntmps208;go_wp2;all_goals first|(go_returns;exact⟨_,_,rfl,hm.out,Below.refl _ _⟩)|(exfalso;simp_all;done)
def kO (o:Option Int):Int:=if o.isSome=true then 1 else 0
def nO (o:Option Int):Int:=o.getD 0
theorem Y6 {o:Option Int}{x:Int}(h:o=some x):Ending.returned (.agg #[.int .i64 1,.int .i64 x,.string ⟨#[]⟩])=.returned (.agg #[.int .i64 (kO o),.int .i64 (nO o),.string ⟨#[]⟩]):=by rw[h];rfl
theorem p9 {o:Option Int}(h:o=none):Ending.returned (.agg #[.int .i64 0,.int .i64 0,.string ⟨#[]⟩])=.returned (.agg #[.int .i64 (kO o),.int .i64 (nO o),.string ⟨#[]⟩]):=by rw[h];rfl
theorem C2f (b:Int):I1 0 b=some 0:=by
 unfold I1;by_cases h0:b=0
 ·rw[if_pos h0]
 ·rw[if_neg h0];by_cases h1:b= -1
  ·rw[if_pos h1];decide+kernel
  ·rw[if_neg h1,Int.zero_mul,show wrap64 0=0 from by decide+kernel,Int.zero_tdiv,if_pos (by decide+kernel)]
theorem A7u (a:Int)(ha: -9223372036854775808<=a/\a<=9223372036854775807):M0 0 a=if a= -9223372036854775808 then none else some (-a):=by
 unfold M0;by_cases h:a= -9223372036854775808
 ·subst h;decide+kernel
 ·have e:wrap64 (0 -a)= -a:=by unfold wrap64;omega
  rw[e,if_neg h];by_cases h1:0<a
  ·rw[if_pos (by first|(simp;done)|(simp;omega))]
  ·rw[if_pos (by first|(simp;done)|(simp;omega))]
theorem B2l (a:Int)(ha: -9223372036854775808<=a/\a<=9223372036854775807):I1 a (-1)=if a= -9223372036854775808 then none else some (-a):=by
 rw[I1,if_neg (by omega),if_pos rfl,A7u a ha]
theorem B3F (a:Int)(ha: -9223372036854775808<=a/\a<=9223372036854775807):J1 a (-1)=if a= -9223372036854775808 then none else some (-a):=by
 rw[J1,if_neg (by omega),if_pos rfl,A7u a ha]
theorem B5P:I1 (-1) (-9223372036854775808)=none:=by decide+kernel
theorem A6j (n:Int)(w:World):Calls Tryz.prog 99 #[.int .i64 n] w fun e w'=>e=.returned (.agg #[.int .i64 1,.int .i64 n,.string ⟨#[]⟩])/\Below w.heap.size w w':=by
 go_enter Tryz.func99,Tryz.ntmps99;go_wp2;go_returns;exact⟨rfl,by go_grown⟩
theorem C0F (a b:Int)(w:World):Calls Tryz.prog 173 #[.int .i64 a,.int .i64 b] w fun e w'=>e=.returned (.agg #[.int .i64 (kO (O8 a b)),.int .i64 (nO (O8 a b)),.string ⟨#[]⟩])/\Below w.heap.size w w':=by
 by_cases h:(decide (a<wrap64 (a+b))==decide (0<b))=true
 ·have hm:Hid (O8 a b=some (wrap64 (a+b))):=if_pos h;go_enter Tryz.func173,Tryz.ntmps173;go_wp2;all_goals first|(go_returns;exact⟨Y6 hm.out,by go_grown⟩)|(exfalso;simp_all;done)
 ·have hm:Hid (O8 a b=none):=if_neg h;go_enter Tryz.func173,Tryz.ntmps173;go_wp2;all_goals first|(go_returns;exact⟨p9 hm.out,by go_grown⟩)|(exfalso;simp_all;done)
theorem B7O (a b:Int)(w:World)(ha: -9223372036854775808<=a/\a<=9223372036854775807)(hb: -9223372036854775808<=b/\b<=9223372036854775807):Calls Tryz.prog 174 #[.int .i64 a,.int .i64 b] w fun e w'=>e=.returned (.agg #[.int .i64 (kO (I1 a b)),.int .i64 (nO (I1 a b)),.string ⟨#[]⟩])/\Below w.heap.size w w':=by
 by_cases ha0:a=0
 ·subst ha0;have hm:Hid (I1 0 b=some 0):=C2f b;clear ha hb;go_enter Tryz.func174,Tryz.ntmps174;go_wp2;all_goals first|(go_returns;exact⟨Y6 hm.out,by go_grown⟩)|(exfalso;simp_all;done)
 by_cases hb0:b=0
 ·subst hb0;have hm:Hid (I1 a 0=some 0):=rfl;have ea:(a==0)=false:=by simp[ha0]
  clear ha hb ha0;go_enter Tryz.func174,Tryz.ntmps174;go_wp2;all_goals first|(go_returns;exact⟨Y6 hm.out,by go_grown⟩)|(exfalso;simp_all;done)
 have ea:(a==0)=false:=by simp[ha0]
 have eb:(b==0)=false:=by simp[hb0]
 by_cases hb1:b= -1
 ·subst hb1;have hm0:=B2l a ha;by_cases hl:a= -9223372036854775808
  ·subst hl;have hm:Hid (I1 (-9223372036854775808) (-1)=none):=by show _=_;decide+kernel
   clear hm0 ha hb;go_enter Tryz.func174,Tryz.ntmps174;go_wp2;all_goals first|(go_returns;exact⟨p9 hm.out,by go_grown⟩)|(exfalso;simp_all;done)
  ·rw[if_neg hl]at hm0;have hm:Hid (I1 a (-1)=some (-a)):=hm0;clear hm0;have el:(a== -9223372036854775808)=false:=by simp[hl]
   have e1:wrap64 (-a)= -a:=by unfold wrap64;omega
   have e2:wrap64 a=a:=by unfold wrap64;omega
   by_cases ha1:a= -1
   ·subst ha1;clear ha hb e1 e2 el;go_enter Tryz.func174,Tryz.ntmps174;go_wp2;all_goals first|(go_returns;exact⟨Y6 hm.out,by go_grown⟩)|(exfalso;simp_all [wrap64];done)
   ·have ea1:(a== -1)=false:=by simp[ha1]
    clear ha hb ha1 hl ha0 hb0;go_enter Tryz.func174,Tryz.ntmps174;go_wp2;all_goals first|(go_returns;exact⟨Y6 hm.out,by go_grown⟩)|(exfalso;simp_all;done)
 have eb1:(b== -1)=false:=by simp[hb1]
 by_cases hl:a= -1/\b= -9223372036854775808
 ·obtain⟨rfl,rfl⟩:=hl;have hm:Hid (I1 (-1) (-9223372036854775808)=none):=B5P;clear ha hb;go_enter Tryz.func174,Tryz.ntmps174;go_wp2;all_goals first|(go_returns;exact⟨p9 hm.out,by go_grown⟩)|(exfalso;simp_all;done)
 ·by_cases ha1:a= -1
  ·subst ha1;have ebl:(b== -9223372036854775808)=false:=by
    have:¬b= -9223372036854775808:=fun h=>hl ⟨rfl,h⟩;simp[this]
   by_cases hq:wrap64 ((wrap64 (-b)).tdiv b)= -1
   ·have hm:Hid (I1 (-1) b=some (wrap64 (-b))):=by show _=_;rw[I1,if_neg hb0,if_neg hb1,Int.neg_one_mul,if_pos hq]
    have eq:(wrap64 ((wrap64 (-b)).tdiv b) != -1)=false:=by simp[hq]
    clear ha hb hq hl ha0;go_enter Tryz.func174,Tryz.ntmps174;go_wp2;all_goals first|(go_returns;exact⟨Y6 hm.out,by go_grown⟩)|(exfalso;simp_all;done)
   ·have hm:Hid (I1 (-1) b=none):=by show _=_;rw[I1,if_neg hb0,if_neg hb1,Int.neg_one_mul,if_neg hq]
    have eq:(wrap64 ((wrap64 (-b)).tdiv b) != -1)=true:=by simp[hq]
    clear ha hb hq hl ha0;go_enter Tryz.func174,Tryz.ntmps174;go_wp2;all_goals first|(go_returns;exact⟨p9 hm.out,by go_grown⟩)|(exfalso;simp_all;done)
  have ea1:(a== -1)=false:=by simp[ha1]
  by_cases hq:wrap64 ((wrap64 (a*b)).tdiv b)=a
  ·have hm:Hid (I1 a b=some (wrap64 (a*b))):=by show _=_;rw[I1,if_neg hb0,if_neg hb1,if_pos hq]
   have eq:(wrap64 ((wrap64 (a*b)).tdiv b) !=a)=false:=by simp[hq]
   have hl':Hid (¬ (a= -1/\b= -9223372036854775808)):=hl;clear ha hb hq hl;go_enter Tryz.func174,Tryz.ntmps174;go_wp2;all_goals first|(go_returns;exact⟨Y6 hm.out,by go_grown⟩)|(exfalso;have:=hl'.out;simp_all;done)
  ·have hm:Hid (I1 a b=none):=by show _=_;rw[I1,if_neg hb0,if_neg hb1,if_neg hq]
   have eq:(wrap64 ((wrap64 (a*b)).tdiv b) !=a)=true:=by simp[hq]
   have hl':Hid (¬ (a= -1/\b= -9223372036854775808)):=hl;clear ha hb hq hl;go_enter Tryz.func174,Tryz.ntmps174;go_wp2;all_goals first|(go_returns;exact⟨p9 hm.out,by go_grown⟩)|(exfalso;have:=hl'.out;simp_all;done)
theorem B4D (a b:Int)(w:World)(ha: -9223372036854775808<=a/\a<=9223372036854775807):Calls Tryz.prog 175 #[.int .i64 a,.int .i64 b] w fun e w'=>e=.returned (.agg #[.int .i64 (kO (J1 a b)),.int .i64 (nO (J1 a b)),.string ⟨#[]⟩])/\Below w.heap.size w w':=by
 by_cases hb0:b=0
 ·subst hb0;have hm:Hid (J1 a 0=none):=rfl;clear ha;go_enter Tryz.func175,Tryz.ntmps175;go_wp2;all_goals first|(go_returns;exact⟨p9 hm.out,by go_grown⟩)|(exfalso;simp_all;done)
 have eb:(b==0)=false:=by simp[hb0]
 by_cases hb1:b= -1
 ·subst hb1;have hm0:=B3F a ha;by_cases hl:a= -9223372036854775808
  ·subst hl;have hm:Hid (J1 (-9223372036854775808) (-1)=none):=by show _=_;decide+kernel
   clear hm0 ha;go_enter Tryz.func175,Tryz.ntmps175;go_wp2;all_goals first|(go_returns;exact⟨p9 hm.out,by go_grown⟩)|(exfalso;simp_all;done)
  ·rw[if_neg hl]at hm0;have hm:Hid (J1 a (-1)=some (-a)):=hm0;have el:(a== -9223372036854775808)=false:=by simp[hl]
   have e1:wrap64 (-a)= -a:=by unfold wrap64;omega
   clear hm0 ha hl hb0;go_enter Tryz.func175,Tryz.ntmps175;go_wp2;all_goals first|(go_returns;exact⟨Y6 hm.out,by go_grown⟩)|(exfalso;simp_all;done)
 have eb1:(b== -1)=false:=by simp[hb1]
 by_cases hq:(a.tmod b !=0 && !(decide (a<0)==decide (b<0)))=true
 ·have hm:Hid (J1 a b=some (wrap64 (wrap64 (a.tdiv b) -1))):=by show _=_;rw[J1,if_neg hb0,if_neg hb1,if_pos hq]
  clear ha;go_enter Tryz.func175,Tryz.ntmps175;go_wp2;all_goals first|(go_returns;exact⟨Y6 hm.out,by go_grown⟩)|(exfalso;simp_all;done)
 ·have hm:Hid (J1 a b=some (wrap64 (a.tdiv b))):=by show _=_;rw[J1,if_neg hb0,if_neg hb1,if_neg hq]
  clear ha;go_enter Tryz.func175,Tryz.ntmps175;go_wp2;all_goals first|(go_returns;exact⟨Y6 hm.out,by go_grown⟩)|(exfalso;simp_all;done)
end
section
open Go.RowKit
attribute [local go_sem] A1s A1B A17 A1C A1m A1x A18 A1Q A2T A1K A2S A1W A12 A1e A1y A2V A1i A1Y A1z A1M
theorem A5U (k n:Int)(s:ByteArray)(w:World)(h:¬k=1):Calls Tryz.prog 162 #[(.agg #[.int .i64 k,.int .i64 n,.string s])] w fun e w'=> ∃f,e=.returned f/\(∀W:World,(Instr.typeAssert f 244 265 true).run Tryz.prog W=.ok (.tuple #[.agg #[.int .i64 0],.bool false]) W)/\w'=w.alloc (.cells #[.int .i64 k,.int .i64 n,.string s] 39):=by
 by_cases h0:k=0
 ·subst h0;refine(A4y n s w).mono ?_;rintro e w1 ⟨rfl,rfl⟩;exact⟨_,rfl,fun W=>A1B W,rfl⟩
 by_cases h2:k=2
 ·subst h2;refine(A3H n s w).mono ?_;rintro e w1 ⟨rfl,rfl⟩;exact⟨_,rfl,fun W=>A1K n W,rfl⟩
 by_cases h3:k=3
 ·subst h3;refine(A2H n s w).mono ?_;rintro e w1 ⟨rfl,rfl⟩;exact⟨_,rfl,fun W=>A1e s W,rfl⟩
 refine(A7h k n s w (by simp[h0]) (by simp[h]) (by simp[h2]) (by simp[h3])).mono ?_;rintro e w1 ⟨rfl,rfl⟩;exact⟨_,rfl,fun W=>A1Y W,rfl⟩
theorem A4Z (k n:Int)(s:ByteArray)(w:World)(h:¬k=3):Calls Tryz.prog 162 #[(.agg #[.int .i64 k,.int .i64 n,.string s])] w fun e w'=> ∃f,e=.returned f/\(∀W:World,(Instr.typeAssert f 244 267 true).run Tryz.prog W=.ok (.tuple #[.agg #[.string ⟨#[]⟩],.bool false]) W)/\w'=w.alloc (.cells #[.int .i64 k,.int .i64 n,.string s] 39):=by
 by_cases h0:k=0
 ·subst h0;refine(A4y n s w).mono ?_;rintro e w1 ⟨rfl,rfl⟩;exact⟨_,rfl,fun W=>A1C W,rfl⟩
 by_cases h1:k=1
 ·subst h1;refine(A0m n s w).mono ?_;rintro e w1 ⟨rfl,rfl⟩;exact⟨_,rfl,fun W=>A1Q n W,rfl⟩
 by_cases h2:k=2
 ·subst h2;refine(A3H n s w).mono ?_;rintro e w1 ⟨rfl,rfl⟩;exact⟨_,rfl,fun W=>A1W n W,rfl⟩
 refine(A7h k n s w (by simp[h0]) (by simp[h1]) (by simp[h2]) (by simp[h])).mono ?_;rintro e w1 ⟨rfl,rfl⟩;exact⟨_,rfl,fun W=>A1M W,rfl⟩
theorem B3W (op:ByteArray)(a b:Int)(s s':ByteArray)(w:World)(hop:op.toList=[43]):Calls Tryz.prog 180 #[.string op,(.agg #[.int .i64 1,.int .i64 a,.string s]),(.agg #[.int .i64 1,.int .i64 b,.string s'])] w fun e w'=>e=.returned (.agg #[.int .i64 (kO (O8 a b)),.int .i64 (nO (O8 a b)),.string ⟨#[]⟩])/\Below w.heap.size w w':=by
 go_enter Tryz.func180,Tryz.ntmps180;go_wp2_with(first|(go_at_call 162;refine(A0m _ _ _).mono ?_;rintro e w1 ⟨rfl,rfl⟩));refine(B60 _ _ _).mono ?_;rintro e w1 ⟨x,t,rfl,ht,rfl⟩;cases t
 ·have ht':Hid (O8 a b=none):=by show _=_;simpa [n9]using ht
  clear ht;go_wp2_with fail;go_returns;exact⟨p9 ht'.out,by go_grown⟩
 ·have ht':Hid (O8 a b=some x):=by show _=_;simpa [n9]using ht
  clear ht;go_wp2_with fail;go_returns;exact⟨Y6 ht'.out,by go_grown⟩
theorem C0u (op:ByteArray)(a b:Int)(s s':ByteArray)(w:World)(hop:op.toList=[45]):Calls Tryz.prog 180 #[.string op,(.agg #[.int .i64 1,.int .i64 a,.string s]),(.agg #[.int .i64 1,.int .i64 b,.string s'])] w fun e w'=>e=.returned (.agg #[.int .i64 (kO (M0 a b)),.int .i64 (nO (M0 a b)),.string ⟨#[]⟩])/\Below w.heap.size w w':=by
 go_enter Tryz.func180,Tryz.ntmps180;go_wp2_with(first|(go_at_call 162;refine(A0m _ _ _).mono ?_;rintro e w1 ⟨rfl,rfl⟩));refine(A7j _ _ _).mono ?_;rintro e w1 ⟨x,t,rfl,ht,rfl⟩;cases t
 ·have ht':Hid (M0 a b=none):=by show _=_;simpa [n9]using ht
  clear ht;go_wp2_with fail;go_returns;exact⟨p9 ht'.out,by go_grown⟩
 ·have ht':Hid (M0 a b=some x):=by show _=_;simpa [n9]using ht
  clear ht;go_wp2_with fail;go_returns;exact⟨Y6 ht'.out,by go_grown⟩
theorem B3A (op:ByteArray)(a b:Int)(s s':ByteArray)(w:World)(hop:op.toList=[42]):Calls Tryz.prog 180 #[.string op,(.agg #[.int .i64 1,.int .i64 a,.string s]),(.agg #[.int .i64 1,.int .i64 b,.string s'])] w fun e w'=>e=.returned (.agg #[.int .i64 (kO (I1 a b)),.int .i64 (nO (I1 a b)),.string ⟨#[]⟩])/\Below w.heap.size w w':=by
 go_enter Tryz.func180,Tryz.ntmps180;go_wp2_with(first|(go_at_call 162;refine(A0m _ _ _).mono ?_;rintro e w1 ⟨rfl,rfl⟩));refine(B5N _ _ _).mono ?_;rintro e w1 ⟨x,t,rfl,ht,hb1⟩;have hf1:=(bc8 hb1).2;have hz1:=hb1.size;(try simp at hz1);have hy1:w.heap.size+1+1<w1.heap.size:=(by omega);have L4:w.heap.size<w1.heap.size:=(by omega);have L5:w.heap.size+1<w1.heap.size:=(by omega);have L7:w1.cell? ⟨w.heap.size+1+1,0,none⟩=some (.int .i64 0):=cl8 hb1;have L8:w1.cell? ⟨w.heap.size+1+1,1,none⟩=some (.int .i64 0):=cl8 hb1;have L6:w1.cell? ⟨w.heap.size+1+1,2,none⟩=some (.string ⟨#[]⟩):=cl8 hb1;cases t
 ·have ht':Hid (I1 a b=none):=by show _=_;simpa [n9]using ht
  clear ht;go_wp2_with fail;refine bodyPost_ret (v:=(.agg #[.int .i64 0,.int .i64 0,.string ⟨#[]⟩])) (by simp[results,Tryz.results180,go_sem, *]) rfl ⟨?_,?_⟩
  ·exact p9 ht'.out
  ·exact C3
 ·have ht':Hid (I1 a b=some x):=by show _=_;simpa [n9]using ht
  clear ht;go_wp2_with fail;refine bodyPost_ret (v:=(.agg #[.int .i64 1,.int .i64 x,.string ⟨#[]⟩])) (by simp[results,Tryz.results180,go_sem, *]) rfl ⟨?_,?_⟩
  ·exact Y6 ht'.out
  ·exact C3
theorem B2z (op:ByteArray)(a b:Int)(s s':ByteArray)(w:World)(hop:op.toList=[47]):Calls Tryz.prog 180 #[.string op,(.agg #[.int .i64 1,.int .i64 a,.string s]),(.agg #[.int .i64 1,.int .i64 b,.string s'])] w fun e w'=>e=.returned (.agg #[.int .i64 (kO (J1 a b)),.int .i64 (nO (J1 a b)),.string ⟨#[]⟩])/\Below w.heap.size w w':=by
 go_enter Tryz.func180,Tryz.ntmps180;go_wp2_with(first|(go_at_call 162;refine(A0m _ _ _).mono ?_;rintro e w1 ⟨rfl,rfl⟩));refine(C12 _ _ _).mono ?_;rintro e w1 ⟨x,t,rfl,ht,hb1⟩;have hf1:=(bc8 hb1).2;have hz1:=hb1.size;(try simp at hz1);have hy1:w.heap.size+1+1<w1.heap.size:=(by omega);have L4:w.heap.size<w1.heap.size:=(by omega);have L5:w.heap.size+1<w1.heap.size:=(by omega);have L7:w1.cell? ⟨w.heap.size+1+1,0,none⟩=some (.int .i64 0):=cl8 hb1;have L8:w1.cell? ⟨w.heap.size+1+1,1,none⟩=some (.int .i64 0):=cl8 hb1;have L6:w1.cell? ⟨w.heap.size+1+1,2,none⟩=some (.string ⟨#[]⟩):=cl8 hb1;cases t
 ·have ht':Hid (J1 a b=none):=by show _=_;simpa [n9]using ht
  clear ht;go_wp2_with fail;refine bodyPost_ret (v:=(.agg #[.int .i64 0,.int .i64 0,.string ⟨#[]⟩])) (by simp[results,Tryz.results180,go_sem, *]) rfl ⟨?_,?_⟩
  ·exact p9 ht'.out
  ·exact C3
 ·have ht':Hid (J1 a b=some x):=by show _=_;simpa [n9]using ht
  clear ht;go_wp2_with fail;refine bodyPost_ret (v:=(.agg #[.int .i64 1,.int .i64 x,.string ⟨#[]⟩])) (by simp[results,Tryz.results180,go_sem, *]) rfl ⟨?_,?_⟩
  ·exact Y6 ht'.out
  ·exact C3
theorem C1f (op:ByteArray)(a k b:Int)(s s':ByteArray)(w:World)(hk:¬k=1):Calls Tryz.prog 180 #[.string op,(.agg #[.int .i64 1,.int .i64 a,.string s]),(.agg #[.int .i64 k,.int .i64 b,.string s'])] w fun e w'=>e=.returned (.agg #[.int .i64 0,.int .i64 0,.string ⟨#[]⟩])/\Below w.heap.size w w':=by
 go_enter Tryz.func180,Tryz.ntmps180;go_wp2_with fail;refine(A0m _ _ _).mono ?_;rintro e w1 ⟨rfl,rfl⟩;go_wp2_with fail;refine(A5U _ _ _ _ hk).mono ?_;rintro e w1 ⟨f,rfl,hta,rfl⟩;go_wp2_with fail;go_returns;exact⟨rfl,by go_grown⟩
theorem B9s (op:ByteArray)(k a b:Int)(s s':ByteArray)(w:World)(hk:¬k=1):Calls Tryz.prog 180 #[.string op,(.agg #[.int .i64 k,.int .i64 a,.string s]),(.agg #[.int .i64 1,.int .i64 b,.string s'])] w fun e w'=>e=.returned (.agg #[.int .i64 0,.int .i64 0,.string ⟨#[]⟩])/\Below w.heap.size w w':=by
 go_enter Tryz.func180,Tryz.ntmps180;go_wp2_with fail;refine(A5U _ _ _ _ hk).mono ?_;rintro e w1 ⟨f,rfl,hta,rfl⟩;go_wp2_with fail;refine(A0m _ _ _).mono ?_;rintro e w1 ⟨rfl,rfl⟩;go_wp2_with fail;go_returns;exact⟨rfl,by go_grown⟩
theorem C0Q (op:ByteArray)(k a k' b:Int)(s s':ByteArray)(w:World)(hk:¬k=1)(hk':¬k'=1):Calls Tryz.prog 180 #[.string op,(.agg #[.int .i64 k,.int .i64 a,.string s]),(.agg #[.int .i64 k',.int .i64 b,.string s'])] w fun e w'=>e=.returned (.agg #[.int .i64 0,.int .i64 0,.string ⟨#[]⟩])/\Below w.heap.size w w':=by
 go_enter Tryz.func180,Tryz.ntmps180;go_wp2_with fail;refine(A5U _ _ _ _ hk).mono ?_;rintro e w1 ⟨f,rfl,hta,rfl⟩;go_wp2_with fail;refine(A5U _ _ _ _ hk').mono ?_;rintro e w1 ⟨f',rfl,hta',rfl⟩;go_wp2_with fail;go_returns;exact⟨rfl,by go_grown⟩
theorem A4t (op:ByteArray)(k a k' b:Int)(s s':ByteArray)(w:World)(h:¬ (k=1/\k'=1)):Calls Tryz.prog 180 #[.string op,(.agg #[.int .i64 k,.int .i64 a,.string s]),(.agg #[.int .i64 k',.int .i64 b,.string s'])] w fun e w'=>e=.returned (.agg #[.int .i64 0,.int .i64 0,.string ⟨#[]⟩])/\Below w.heap.size w w':=by
 by_cases h1:k=1
 ·subst h1;exact C1f op a k' b s s' w (fun e=>h ⟨rfl,e⟩)
 by_cases h2:k'=1
 ·subst h2;exact B9s op k a b s s' w h1
 ·exact C0Q op k a k' b s s' w h1 h2
end
section
open Go.RowKit
attribute [local go_sem] A1s A1B A17 A1C A1m A1x A18 A1Q A2T A1K A2S A1W A12 A1e A1y A2V A1i A1Y A1z A1M
theorem N6 {w w1:World}{o1 o2:Obj}{x y z:Value}{t:TypeId}(hb:Below (((w.alloc o1).alloc o2).alloc (.cells #[x,y,z] t)).heap.size (((w.alloc o1).alloc o2).alloc (.cells #[x,y,z] t)) w1):(∀b o,b<(((w.alloc o1).alloc o2).alloc (.cells #[x,y,z] t)).heap.size->w1.frozen? ⟨b,o,none⟩=(((w.alloc o1).alloc o2).alloc (.cells #[x,y,z] t)).frozen? ⟨b,o,none⟩)/\w.heap.size+1+1+1<=w1.heap.size/\w.heap.size+1+1<w1.heap.size/\w.heap.size<w1.heap.size/\w.heap.size+1<w1.heap.size/\w1.cell? ⟨w.heap.size+1+1,0,none⟩=some x/\w1.cell? ⟨w.heap.size+1+1,1,none⟩=some y/\w1.cell? ⟨w.heap.size+1+1,2,none⟩=some z:=by
 have hz:=hb.size;simp at hz;exact⟨(bc8 hb).2,by omega,by omega,by omega,by omega,cl8 hb,cl8 hb,cl8 hb⟩
theorem B93 (w:World):Calls Tryz.prog 184 #[.bool true] w fun e w'=>e=.returned (.agg #[.int .i64 2,.int .i64 1,.string ⟨#[]⟩])/\Below w.heap.size w w':=by
 go_enter Tryz.func184,Tryz.ntmps184;go_wp2;go_returns;exact⟨rfl,by go_grown⟩
theorem B2P (w:World):Calls Tryz.prog 184 #[.bool false] w fun e w'=>e=.returned (.agg #[.int .i64 2,.int .i64 0,.string ⟨#[]⟩])/\Below w.heap.size w w':=by
 go_enter Tryz.func184,Tryz.ntmps184;go_wp2;go_returns;exact⟨rfl,by go_grown⟩
theorem A7b (b:Bool)(w:World):Calls Tryz.prog 184 #[.bool b] w fun e w'=>e=.returned (.agg #[.int .i64 2,.int .i64 (bn b),.string ⟨#[]⟩])/\Below w.heap.size w w':=by
 cases b
 ·exact B2P w
 ·exact B93 w
theorem A6m (w:World):Calls Tryz.prog 147 #[.bool true] w fun e w'=>e=.returned (.agg #[.int .i64 2,.int .i64 1,.string ⟨#[]⟩])/\Below w.heap.size w w':=by
 go_enter Tryz.func147,Tryz.ntmps147;go_wp2;go_returns;exact⟨rfl,by go_grown⟩
theorem A6B (w:World):Calls Tryz.prog 147 #[.bool false] w fun e w'=>e=.returned (.agg #[.int .i64 2,.int .i64 0,.string ⟨#[]⟩])/\Below w.heap.size w w':=by
 go_enter Tryz.func147,Tryz.ntmps147;go_wp2;go_returns;exact⟨rfl,by go_grown⟩
theorem A7e (b:Bool)(w:World):Calls Tryz.prog 147 #[.bool b] w fun e w'=>e=.returned (.agg #[.int .i64 2,.int .i64 (bn b),.string ⟨#[]⟩])/\Below w.heap.size w w':=by
 cases b
 ·exact A6B w
 ·exact A6m w
theorem B09 (op:ByteArray)(k a k' b:Int)(s s':ByteArray)(w:World)(h:¬ (k=k'/\¬k=0)):Calls Tryz.prog 181 #[.string op,(.agg #[.int .i64 k,.int .i64 a,.string s]),(.agg #[.int .i64 k',.int .i64 b,.string s'])] w fun e w'=>e=.returned (.agg #[.int .i64 0,.int .i64 0,.string ⟨#[]⟩])/\Below w.heap.size w w':=by
 by_cases hk:k=k'
 ·subst hk;have h0:k=0:=by
   rcases Int.lt_trichotomy k 0 with h'|h'|h'
   ·exact absurd ⟨rfl,by omega⟩ h
   ·exact h'
   ·exact absurd ⟨rfl,by omega⟩ h
  subst h0;clear h;go_enter Tryz.func181,Tryz.ntmps181;go_wp2;go_returns;exact⟨rfl,by go_grown⟩
 ·have hn:(k !=k')=true:=by simp[hk]
  clear h hk;go_enter Tryz.func181,Tryz.ntmps181;go_wp2;go_returns;exact⟨rfl,by go_grown⟩
theorem B8r (op:ByteArray)(k a b:Int)(s s':ByteArray)(w:World)(hop:op.toList=[61])(h0:(k==0)=false):Calls Tryz.prog 181 #[.string op,(.agg #[.int .i64 k,.int .i64 a,.string s]),(.agg #[.int .i64 k,.int .i64 b,.string s'])] w fun e w'=>e=.returned (.agg #[.int .i64 2,.int .i64 (bn (I5 k a s k b s'==0)),.string ⟨#[]⟩])/\Below w.heap.size w w':=by
 have hn:(k !=k)=false:=by simp
 go_enter Tryz.func181,Tryz.ntmps181;go_wp2_with(first|(go_at_call 143;refine(A7d _ _ _ _ _ _ _).mono ?_;rintro e w1 ⟨rfl,hb1⟩;obtain⟨hf1,hz1,hy1,L4,L5,L7,L8,L6⟩:=N6 hb1)|(go_at_call 184;refine(A7b _ _).mono ?_;rintro e w2 ⟨rfl,hb2⟩;have hf2:=(bc8 hb2).2;have hz2:=hb2.size;(try simp at hz2);have hy2:w.heap.size+1+1<w2.heap.size:=(by omega);have A1n:w.heap.size<w2.heap.size:=(by omega);have A2D:w.heap.size+1<w2.heap.size:=(by omega);have A2I:w2.cell? ⟨w.heap.size+1+1,0,none⟩=some (.int .i64 0):=cl8 hb2;have A2J:w2.cell? ⟨w.heap.size+1+1,1,none⟩=some (.int .i64 0):=cl8 hb2;have A2U:w2.cell? ⟨w.heap.size+1+1,2,none⟩=some (.string ⟨#[]⟩):=cl8 hb2));refine bodyPost_ret (v:=(.agg #[.int .i64 2,.int .i64 (bn (I5 k a s k b s'==0)),.string ⟨#[]⟩])) (by simp[results,Tryz.results181,go_sem, *]) rfl ⟨?_,?_⟩
 ·rfl
 ·exact C3
theorem B5Q (op:ByteArray)(k a b:Int)(s s':ByteArray)(w:World)(hop:op.toList=[60])(h0:(k==0)=false):Calls Tryz.prog 181 #[.string op,(.agg #[.int .i64 k,.int .i64 a,.string s]),(.agg #[.int .i64 k,.int .i64 b,.string s'])] w fun e w'=>e=.returned (.agg #[.int .i64 2,.int .i64 (bn (decide (I5 k a s k b s'<0))),.string ⟨#[]⟩])/\Below w.heap.size w w':=by
 have hn:(k !=k)=false:=by simp
 go_enter Tryz.func181,Tryz.ntmps181;go_wp2_with(first|(go_at_call 143;refine(A7d _ _ _ _ _ _ _).mono ?_;rintro e w1 ⟨rfl,hb1⟩;obtain⟨hf1,hz1,hy1,L4,L5,L7,L8,L6⟩:=N6 hb1)|(go_at_call 184;refine(A7b _ _).mono ?_;rintro e w2 ⟨rfl,hb2⟩;have hf2:=(bc8 hb2).2;have hz2:=hb2.size;(try simp at hz2);have hy2:w.heap.size+1+1<w2.heap.size:=(by omega);have A1n:w.heap.size<w2.heap.size:=(by omega);have A2D:w.heap.size+1<w2.heap.size:=(by omega);have A2I:w2.cell? ⟨w.heap.size+1+1,0,none⟩=some (.int .i64 0):=cl8 hb2;have A2J:w2.cell? ⟨w.heap.size+1+1,1,none⟩=some (.int .i64 0):=cl8 hb2;have A2U:w2.cell? ⟨w.heap.size+1+1,2,none⟩=some (.string ⟨#[]⟩):=cl8 hb2));refine bodyPost_ret (v:=(.agg #[.int .i64 2,.int .i64 (bn (decide (I5 k a s k b s'<0))),.string ⟨#[]⟩])) (by simp[results,Tryz.results181,go_sem, *]) rfl ⟨?_,?_⟩
 ·rfl
 ·exact C3
theorem B6H (a b:Int)(s s':ByteArray)(m:Int)(w:World)(hs:s.size<4294967281)(hm:w.cell? ⟨1,0,none⟩=some (.int .i64 m)):Calls Tryz.prog 182 #[(.agg #[.int .i64 3,.int .i64 a,.string s]),(.agg #[.int .i64 3,.int .i64 b,.string s'])] w fun e w'=>e=.returned (.agg #[.int .i64 2,.int .i64 (bn (Lib.contains s.data.toList s'.data.toList)),.string ⟨#[]⟩])/\Below w.heap.size w w':=by
 have h0:1<w.heap.size:=bl8 w ⟨1,0,none⟩ hm;generalize hcc:Lib.contains s.data.toList s'.data.toList=cc;have Hcc:Hid (Lib.contains s.data.toList s'.data.toList=cc):=hcc;clear hcc;go_enter Tryz.func182,Tryz.ntmps182;go_wp2_with(first|(go_at_call 162;refine(A2H _ _ _).mono ?_;rintro e w1 ⟨rfl,rfl⟩));refine cM8 (Tryz.strings_Contains _ _ m _ hs ?hmm) ?_
 case hmm=>exact((bc8 (show Below w.heap.size w _ from bex)).1 1 0 h0).trans hm
 rintro e w1 ⟨rfl,rfl⟩;rw[Hcc.out];go_wp2_with(first|(go_at_call 184;refine(A7b _ _).mono ?_;rintro e w2 ⟨rfl,hb2⟩;have hf2:=(bc8 hb2).2;have hz2:=hb2.size;(try simp at hz2);have hy2:w.heap.size+1+1<w2.heap.size:=(by omega);have A1n:w.heap.size<w2.heap.size:=(by omega);have A2D:w.heap.size+1<w2.heap.size:=(by omega);have A2I:w2.cell? ⟨w.heap.size+1+1,0,none⟩=some (.int .i64 0):=cl8 hb2;have A2J:w2.cell? ⟨w.heap.size+1+1,1,none⟩=some (.int .i64 0):=cl8 hb2;have A2U:w2.cell? ⟨w.heap.size+1+1,2,none⟩=some (.string ⟨#[]⟩):=cl8 hb2));refine bodyPost_ret (v:=(.agg #[.int .i64 2,.int .i64 (bn cc),.string ⟨#[]⟩])) (by simp[results,Tryz.results182,go_sem, *]) rfl ⟨?_,?_⟩
 ·rfl
 ·exact C3
theorem B66 (a k' b:Int)(s s':ByteArray)(w:World)(hk':¬k'=3):Calls Tryz.prog 182 #[(.agg #[.int .i64 3,.int .i64 a,.string s]),(.agg #[.int .i64 k',.int .i64 b,.string s'])] w fun e w'=>e=.returned (.agg #[.int .i64 0,.int .i64 0,.string ⟨#[]⟩])/\Below w.heap.size w w':=by
 go_enter Tryz.func182,Tryz.ntmps182;go_wp2_with fail;refine(A2H _ _ _).mono ?_;rintro e w1 ⟨rfl,rfl⟩;go_wp2_with fail;refine(A4Z _ _ _ _ hk').mono ?_;rintro e w1 ⟨fhk',rfl,htahk',rfl⟩;go_wp2_with fail;go_returns;exact⟨rfl,by go_grown⟩
theorem C4I (k a b:Int)(s s':ByteArray)(w:World)(hk:¬k=3):Calls Tryz.prog 182 #[(.agg #[.int .i64 k,.int .i64 a,.string s]),(.agg #[.int .i64 3,.int .i64 b,.string s'])] w fun e w'=>e=.returned (.agg #[.int .i64 0,.int .i64 0,.string ⟨#[]⟩])/\Below w.heap.size w w':=by
 go_enter Tryz.func182,Tryz.ntmps182;go_wp2_with fail;refine(A4Z _ _ _ _ hk).mono ?_;rintro e w1 ⟨fhk,rfl,htahk,rfl⟩;go_wp2_with fail;refine(A2H _ _ _).mono ?_;rintro e w1 ⟨rfl,rfl⟩;go_wp2_with fail;go_returns;exact⟨rfl,by go_grown⟩
theorem B5I (k a k' b:Int)(s s':ByteArray)(w:World)(hk:¬k=3)(hk':¬k'=3):Calls Tryz.prog 182 #[(.agg #[.int .i64 k,.int .i64 a,.string s]),(.agg #[.int .i64 k',.int .i64 b,.string s'])] w fun e w'=>e=.returned (.agg #[.int .i64 0,.int .i64 0,.string ⟨#[]⟩])/\Below w.heap.size w w':=by
 go_enter Tryz.func182,Tryz.ntmps182;go_wp2_with fail;refine(A4Z _ _ _ _ hk).mono ?_;rintro e w1 ⟨fhk,rfl,htahk,rfl⟩;go_wp2_with fail;refine(A4Z _ _ _ _ hk').mono ?_;rintro e w1 ⟨fhk',rfl,htahk',rfl⟩;go_wp2_with fail;go_returns;exact⟨rfl,by go_grown⟩
theorem B8d (k a k' b:Int)(s s':ByteArray)(w:World)(h:¬ (k=3/\k'=3)):Calls Tryz.prog 182 #[(.agg #[.int .i64 k,.int .i64 a,.string s]),(.agg #[.int .i64 k',.int .i64 b,.string s'])] w fun e w'=>e=.returned (.agg #[.int .i64 0,.int .i64 0,.string ⟨#[]⟩])/\Below w.heap.size w w':=by
 by_cases h1:k=3
 ·subst h1;exact B66 a k' b s s' w (fun e=>h ⟨rfl,e⟩)
 by_cases h2:k'=3
 ·subst h2;exact C4I k a b s s' w h1
 ·exact B5I k a k' b s s' w h1 h2
end
section
open Go.RowKit
def is2 (k n:Int)(s:ByteArray)(c:Int):Bool:=k==2 && (n==c &&s.toList==(⟨#[]⟩:ByteArray).toList)
theorem g5 (k n:Int)(s:ByteArray)(c:Int)(w:World):(binOp .eql 39 (.agg #[.int .i64 k,.int .i64 n,.string s]) (.agg #[.int .i64 2,.int .i64 c,.string ⟨#[]⟩])).run Tryz.prog w=.ok (.bool (is2 k n s c)) w:=eqV k n 2 c s ⟨#[]⟩ w
def chK (p0 q0 p1 q1:Bool):Int:=if(p0||q0)=true then 2 else if(p1 &&q1)=true then 2 else 0
def chN (st:Int)(p0 q0 p1 q1:Bool):Int:=if(p0||q0)=true then st else if(p1 &&q1)=true then 1 -st else 0
theorem A5D (p0 q0 p1 q1:Bool):p0=true\/p0=false/\q0=true\/p0=false/\q0=false/\p1=false\/p0=false/\q0=false/\p1=true/\q1=false\/p0=false/\q0=false/\p1=true/\q1=true:=by
 cases p0<;>cases q0<;>cases p1<;>cases q1<;>simp
theorem B8M (k n k' n':Int)(s s':ByteArray)(w:World):Calls Tryz.prog 183 #[(.agg #[.int .i64 k,.int .i64 n,.string s]),(.agg #[.int .i64 k',.int .i64 n',.string s']),.int .i64 0] w fun e w'=>e=.returned (.agg #[.int .i64 (chK (is2 k n s 0) (is2 k' n' s' 0) (is2 k n s 1) (is2 k' n' s' 1)),.int .i64 (chN 0 (is2 k n s 0) (is2 k' n' s' 0) (is2 k n s 1) (is2 k' n' s' 1)),.string ⟨#[]⟩])/\Below w.heap.size w w':=by
 have hp0:=g5 k n s 0;have hq0:=g5 k' n' s' 0;have hp1:=g5 k n s 1;have hq1:=g5 k' n' s' 1;generalize is2 k n s 0=p0 at*;generalize is2 k' n' s' 0=q0 at*;generalize is2 k n s 1=p1 at*;generalize is2 k' n' s' 1=q1 at*;rcases A5D p0 q0 p1 q1 with rfl|⟨rfl,rfl⟩|⟨rfl,rfl,rfl⟩|⟨rfl,rfl,rfl,rfl⟩|⟨rfl,rfl,rfl,rfl⟩<;>(go_enter Tryz.func183,Tryz.ntmps183;go_wp2;go_returns;exact⟨rfl,by go_grown⟩)
theorem B3e (k n k' n':Int)(s s':ByteArray)(w:World):Calls Tryz.prog 183 #[(.agg #[.int .i64 k,.int .i64 n,.string s]),(.agg #[.int .i64 k',.int .i64 n',.string s']),.int .i64 1] w fun e w'=>e=.returned (.agg #[.int .i64 (chK (is2 k n s 1) (is2 k' n' s' 1) (is2 k n s 0) (is2 k' n' s' 0)),.int .i64 (chN 1 (is2 k n s 1) (is2 k' n' s' 1) (is2 k n s 0) (is2 k' n' s' 0)),.string ⟨#[]⟩])/\Below w.heap.size w w':=by
 have hp0:=g5 k n s 1;have hq0:=g5 k' n' s' 1;have hp1:=g5 k n s 0;have hq1:=g5 k' n' s' 0;generalize is2 k n s 1=p0 at*;generalize is2 k' n' s' 1=q0 at*;generalize is2 k n s 0=p1 at*;generalize is2 k' n' s' 0=q1 at*;rcases A5D p0 q0 p1 q1 with rfl|⟨rfl,rfl⟩|⟨rfl,rfl,rfl⟩|⟨rfl,rfl,rfl,rfl⟩|⟨rfl,rfl,rfl,rfl⟩<;>(go_enter Tryz.func183,Tryz.ntmps183;go_wp2;go_returns;exact⟨rfl,by go_grown⟩)
theorem C1d (op:ByteArray)(k n k' n':Int)(s s':ByteArray)(w:World)(hop:op.toList=[97,110,100]):Calls Tryz.prog 146 #[.string op,(.agg #[.int .i64 k,.int .i64 n,.string s]),(.agg #[.int .i64 k',.int .i64 n',.string s'])] w fun e w'=>e=.returned (.agg #[.int .i64 (chK (is2 k n s 0) (is2 k' n' s' 0) (is2 k n s 1) (is2 k' n' s' 1)),.int .i64 (chN 0 (is2 k n s 0) (is2 k' n' s' 0) (is2 k n s 1) (is2 k' n' s' 1)),.string ⟨#[]⟩])/\Below w.heap.size w w':=by
 have hp0:=g5 k n s 0;have hq0:=g5 k' n' s' 0;have hp1:=g5 k n s 1;have hq1:=g5 k' n' s' 1;generalize is2 k n s 0=p0 at*;generalize is2 k' n' s' 0=q0 at*;generalize is2 k n s 1=p1 at*;generalize is2 k' n' s' 1=q1 at*;go_enter Tryz.func146,Tryz.ntmps146;go_wp2_with fail;refine(A6B _).mono ?_;rintro e w1 ⟨rfl,hb1⟩;have hf1:=(bc8 hb1).2;have hz1:=hb1.size;(try simp at hz1);have hy1:w.heap.size+1+1<w1.heap.size:=(by omega);have L4:w.heap.size<w1.heap.size:=(by omega);have L5:w.heap.size+1<w1.heap.size:=(by omega);have A1t:w1.cell? ⟨w.heap.size,0,none⟩=some (.int .i64 k):=cl8 hb1;have A2G:w1.cell? ⟨w.heap.size,1,none⟩=some (.int .i64 n):=cl8 hb1;have A1h:w1.cell? ⟨w.heap.size,2,none⟩=some (.string s):=cl8 hb1;have B6l:w1.cell? ⟨w.heap.size+1,0,none⟩=some (.int .i64 k'):=cl8 hb1;have B4Y:w1.cell? ⟨w.heap.size+1,1,none⟩=some (.int .i64 n'):=cl8 hb1;have B9d:w1.cell? ⟨w.heap.size+1,2,none⟩=some (.string s'):=cl8 hb1;have L7:w1.cell? ⟨w.heap.size+1+1,0,none⟩=some (.int .i64 0):=cl8 hb1;have L8:w1.cell? ⟨w.heap.size+1+1,1,none⟩=some (.int .i64 0):=cl8 hb1;have L6:w1.cell? ⟨w.heap.size+1+1,2,none⟩=some (.string ⟨#[]⟩):=cl8 hb1;go_wp2_with fail;refine(A6m _).mono ?_;rintro e w2 ⟨rfl,hb2⟩;have hf2:=(bc8 hb2).2;have hz2:=hb2.size;(try simp at hz2);have hy2:w.heap.size+1+1<w2.heap.size:=(by omega);have A1n:w.heap.size<w2.heap.size:=(by omega)
 have A2D:w.heap.size+1<w2.heap.size:=(by omega);have B48:w2.cell? ⟨w.heap.size,0,none⟩=some (.int .i64 k):=cl8 hb2;have B61:w2.cell? ⟨w.heap.size,1,none⟩=some (.int .i64 n):=cl8 hb2;have B3L:w2.cell? ⟨w.heap.size,2,none⟩=some (.string s):=cl8 hb2;have C2R:w2.cell? ⟨w.heap.size+1,0,none⟩=some (.int .i64 k'):=cl8 hb2;have B6f:w2.cell? ⟨w.heap.size+1,1,none⟩=some (.int .i64 n'):=cl8 hb2;have B9A:w2.cell? ⟨w.heap.size+1,2,none⟩=some (.string s'):=cl8 hb2;have A2I:w2.cell? ⟨w.heap.size+1+1,0,none⟩=some (.int .i64 0):=cl8 hb2;have A2J:w2.cell? ⟨w.heap.size+1+1,1,none⟩=some (.int .i64 0):=cl8 hb2;have A2U:w2.cell? ⟨w.heap.size+1+1,2,none⟩=some (.string ⟨#[]⟩):=cl8 hb2;rcases A5D p0 q0 p1 q1 with rfl|⟨rfl,rfl⟩|⟨rfl,rfl,rfl⟩|⟨rfl,rfl,rfl,rfl⟩|⟨rfl,rfl,rfl,rfl⟩<;>(
  go_wp2_with fail
  first
   |exact bodyPost_ret (v:=.agg #[.int .i64 2,.int .i64 0,.string ⟨#[]⟩]) (by simp[results,Tryz.results146,go_sem, *]) rfl ⟨rfl,C3⟩
   |exact bodyPost_ret (v:=.agg #[.int .i64 0,.int .i64 0,.string ⟨#[]⟩]) (by simp[results,Tryz.results146,go_sem, *]) rfl ⟨rfl,C3⟩
   |exact bodyPost_ret (v:=.agg #[.int .i64 2,.int .i64 1,.string ⟨#[]⟩]) (by simp[results,Tryz.results146,go_sem, *]) rfl ⟨rfl,C3⟩)
theorem C1P (op:ByteArray)(k n k' n':Int)(s s':ByteArray)(w:World)(hop:op.toList=[111,114]):Calls Tryz.prog 146 #[.string op,(.agg #[.int .i64 k,.int .i64 n,.string s]),(.agg #[.int .i64 k',.int .i64 n',.string s'])] w fun e w'=>e=.returned (.agg #[.int .i64 (chK (is2 k n s 1) (is2 k' n' s' 1) (is2 k n s 0) (is2 k' n' s' 0)),.int .i64 (chN 1 (is2 k n s 1) (is2 k' n' s' 1) (is2 k n s 0) (is2 k' n' s' 0)),.string ⟨#[]⟩])/\Below w.heap.size w w':=by
 have hp0:=g5 k n s 1;have hq0:=g5 k' n' s' 1;have hp1:=g5 k n s 0;have hq1:=g5 k' n' s' 0;generalize is2 k n s 1=p0 at*;generalize is2 k' n' s' 1=q0 at*;generalize is2 k n s 0=p1 at*;generalize is2 k' n' s' 0=q1 at*;go_enter Tryz.func146,Tryz.ntmps146;go_wp2_with fail;refine(A6m _).mono ?_;rintro e w1 ⟨rfl,hb1⟩;have hf1:=(bc8 hb1).2;have hz1:=hb1.size;(try simp at hz1);have hy1:w.heap.size+1+1<w1.heap.size:=(by omega);have L4:w.heap.size<w1.heap.size:=(by omega);have L5:w.heap.size+1<w1.heap.size:=(by omega);have A1t:w1.cell? ⟨w.heap.size,0,none⟩=some (.int .i64 k):=cl8 hb1;have A2G:w1.cell? ⟨w.heap.size,1,none⟩=some (.int .i64 n):=cl8 hb1;have A1h:w1.cell? ⟨w.heap.size,2,none⟩=some (.string s):=cl8 hb1;have B6l:w1.cell? ⟨w.heap.size+1,0,none⟩=some (.int .i64 k'):=cl8 hb1;have B4Y:w1.cell? ⟨w.heap.size+1,1,none⟩=some (.int .i64 n'):=cl8 hb1;have B9d:w1.cell? ⟨w.heap.size+1,2,none⟩=some (.string s'):=cl8 hb1;have L7:w1.cell? ⟨w.heap.size+1+1,0,none⟩=some (.int .i64 0):=cl8 hb1;have L8:w1.cell? ⟨w.heap.size+1+1,1,none⟩=some (.int .i64 0):=cl8 hb1;have L6:w1.cell? ⟨w.heap.size+1+1,2,none⟩=some (.string ⟨#[]⟩):=cl8 hb1;go_wp2_with fail;refine(A6B _).mono ?_;rintro e w2 ⟨rfl,hb2⟩;have hf2:=(bc8 hb2).2;have hz2:=hb2.size;(try simp at hz2);have hy2:w.heap.size+1+1<w2.heap.size:=(by omega);have A1n:w.heap.size<w2.heap.size:=(by omega)
 have A2D:w.heap.size+1<w2.heap.size:=(by omega);have B48:w2.cell? ⟨w.heap.size,0,none⟩=some (.int .i64 k):=cl8 hb2;have B61:w2.cell? ⟨w.heap.size,1,none⟩=some (.int .i64 n):=cl8 hb2;have B3L:w2.cell? ⟨w.heap.size,2,none⟩=some (.string s):=cl8 hb2;have C2R:w2.cell? ⟨w.heap.size+1,0,none⟩=some (.int .i64 k'):=cl8 hb2;have B6f:w2.cell? ⟨w.heap.size+1,1,none⟩=some (.int .i64 n'):=cl8 hb2;have B9A:w2.cell? ⟨w.heap.size+1,2,none⟩=some (.string s'):=cl8 hb2;have A2I:w2.cell? ⟨w.heap.size+1+1,0,none⟩=some (.int .i64 0):=cl8 hb2;have A2J:w2.cell? ⟨w.heap.size+1+1,1,none⟩=some (.int .i64 0):=cl8 hb2;have A2U:w2.cell? ⟨w.heap.size+1+1,2,none⟩=some (.string ⟨#[]⟩):=cl8 hb2;rcases A5D p0 q0 p1 q1 with rfl|⟨rfl,rfl⟩|⟨rfl,rfl,rfl⟩|⟨rfl,rfl,rfl,rfl⟩|⟨rfl,rfl,rfl,rfl⟩<;>(
  go_wp2_with fail
  first
   |exact bodyPost_ret (v:=.agg #[.int .i64 2,.int .i64 1,.string ⟨#[]⟩]) (by simp[results,Tryz.results146,go_sem, *]) rfl ⟨rfl,C3⟩
   |exact bodyPost_ret (v:=.agg #[.int .i64 0,.int .i64 0,.string ⟨#[]⟩]) (by simp[results,Tryz.results146,go_sem, *]) rfl ⟨rfl,C3⟩
   |exact bodyPost_ret (v:=.agg #[.int .i64 2,.int .i64 0,.string ⟨#[]⟩]) (by simp[results,Tryz.results146,go_sem, *]) rfl ⟨rfl,C3⟩)
theorem C1D (op:ByteArray)(a b:Int)(s s':ByteArray)(w:World)(hop:op.toList=[43]):Calls Tryz.prog 157 #[.string op,(.agg #[.int .i64 1,.int .i64 a,.string s]),(.agg #[.int .i64 1,.int .i64 b,.string s'])] w fun e w'=>e=.returned (.agg #[.int .i64 (kO (O8 a b)),.int .i64 (nO (O8 a b)),.string ⟨#[]⟩])/\Below w.heap.size w w':=by
 go_enter Tryz.func157,Tryz.ntmps157;go_wp2_with(first|(go_at_call 180;refine(B3W _ _ _ _ _ _ hop).mono ?_;rintro e w1 ⟨rfl,hb1⟩;obtain⟨hf1,hz1,hy1,L4,L5,L7,L8,L6⟩:=N6 hb1));refine bodyPost_ret (v:=(.agg #[.int .i64 (kO (O8 a b)),.int .i64 (nO (O8 a b)),.string ⟨#[]⟩])) (by simp[results,Tryz.results157,go_sem, *]) rfl ⟨?_,?_⟩
 ·rfl
 ·exact C3
theorem B3p (op:ByteArray)(k k':Int)(a b:Int)(s s':ByteArray)(w:World)(hop:op.toList=[43])(h0:¬ (k=1/\k'=1)):Calls Tryz.prog 157 #[.string op,(.agg #[.int .i64 k,.int .i64 a,.string s]),(.agg #[.int .i64 k',.int .i64 b,.string s'])] w fun e w'=>e=.returned (.agg #[.int .i64 0,.int .i64 0,.string ⟨#[]⟩])/\Below w.heap.size w w':=by
 have h:Hid (¬ (k=1/\k'=1)):=h0;clear h0;go_enter Tryz.func157,Tryz.ntmps157;go_wp2_with(first|(go_at_call 180;refine(A4t _ _ _ _ _ _ _ _ h.out).mono ?_;rintro e w1 ⟨rfl,hb1⟩;obtain⟨hf1,hz1,hy1,L4,L5,L7,L8,L6⟩:=N6 hb1));refine bodyPost_ret (v:=(.agg #[.int .i64 0,.int .i64 0,.string ⟨#[]⟩])) (by simp[results,Tryz.results157,go_sem, *]) rfl ⟨?_,?_⟩
 ·rfl
 ·exact C3
theorem C0m (op:ByteArray)(a b:Int)(s s':ByteArray)(w:World)(hop:op.toList=[45]):Calls Tryz.prog 157 #[.string op,(.agg #[.int .i64 1,.int .i64 a,.string s]),(.agg #[.int .i64 1,.int .i64 b,.string s'])] w fun e w'=>e=.returned (.agg #[.int .i64 (kO (M0 a b)),.int .i64 (nO (M0 a b)),.string ⟨#[]⟩])/\Below w.heap.size w w':=by
 go_enter Tryz.func157,Tryz.ntmps157;go_wp2_with(first|(go_at_call 180;refine(C0u _ _ _ _ _ _ hop).mono ?_;rintro e w1 ⟨rfl,hb1⟩;obtain⟨hf1,hz1,hy1,L4,L5,L7,L8,L6⟩:=N6 hb1));refine bodyPost_ret (v:=(.agg #[.int .i64 (kO (M0 a b)),.int .i64 (nO (M0 a b)),.string ⟨#[]⟩])) (by simp[results,Tryz.results157,go_sem, *]) rfl ⟨?_,?_⟩
 ·rfl
 ·exact C3
theorem B4Z (op:ByteArray)(k k':Int)(a b:Int)(s s':ByteArray)(w:World)(hop:op.toList=[45])(h0:¬ (k=1/\k'=1)):Calls Tryz.prog 157 #[.string op,(.agg #[.int .i64 k,.int .i64 a,.string s]),(.agg #[.int .i64 k',.int .i64 b,.string s'])] w fun e w'=>e=.returned (.agg #[.int .i64 0,.int .i64 0,.string ⟨#[]⟩])/\Below w.heap.size w w':=by
 have h:Hid (¬ (k=1/\k'=1)):=h0;clear h0;go_enter Tryz.func157,Tryz.ntmps157;go_wp2_with(first|(go_at_call 180;refine(A4t _ _ _ _ _ _ _ _ h.out).mono ?_;rintro e w1 ⟨rfl,hb1⟩;obtain⟨hf1,hz1,hy1,L4,L5,L7,L8,L6⟩:=N6 hb1));refine bodyPost_ret (v:=(.agg #[.int .i64 0,.int .i64 0,.string ⟨#[]⟩])) (by simp[results,Tryz.results157,go_sem, *]) rfl ⟨?_,?_⟩
 ·rfl
 ·exact C3
theorem C3U (op:ByteArray)(a b:Int)(s s':ByteArray)(w:World)(hop:op.toList=[42]):Calls Tryz.prog 157 #[.string op,(.agg #[.int .i64 1,.int .i64 a,.string s]),(.agg #[.int .i64 1,.int .i64 b,.string s'])] w fun e w'=>e=.returned (.agg #[.int .i64 (kO (I1 a b)),.int .i64 (nO (I1 a b)),.string ⟨#[]⟩])/\Below w.heap.size w w':=by
 go_enter Tryz.func157,Tryz.ntmps157;go_wp2_with(first|(go_at_call 180;refine(B3A _ _ _ _ _ _ hop).mono ?_;rintro e w1 ⟨rfl,hb1⟩;obtain⟨hf1,hz1,hy1,L4,L5,L7,L8,L6⟩:=N6 hb1));refine bodyPost_ret (v:=(.agg #[.int .i64 (kO (I1 a b)),.int .i64 (nO (I1 a b)),.string ⟨#[]⟩])) (by simp[results,Tryz.results157,go_sem, *]) rfl ⟨?_,?_⟩
 ·rfl
 ·exact C3
theorem B8s (op:ByteArray)(k k':Int)(a b:Int)(s s':ByteArray)(w:World)(hop:op.toList=[42])(h0:¬ (k=1/\k'=1)):Calls Tryz.prog 157 #[.string op,(.agg #[.int .i64 k,.int .i64 a,.string s]),(.agg #[.int .i64 k',.int .i64 b,.string s'])] w fun e w'=>e=.returned (.agg #[.int .i64 0,.int .i64 0,.string ⟨#[]⟩])/\Below w.heap.size w w':=by
 have h:Hid (¬ (k=1/\k'=1)):=h0;clear h0;go_enter Tryz.func157,Tryz.ntmps157;go_wp2_with(first|(go_at_call 180;refine(A4t _ _ _ _ _ _ _ _ h.out).mono ?_;rintro e w1 ⟨rfl,hb1⟩;obtain⟨hf1,hz1,hy1,L4,L5,L7,L8,L6⟩:=N6 hb1));refine bodyPost_ret (v:=(.agg #[.int .i64 0,.int .i64 0,.string ⟨#[]⟩])) (by simp[results,Tryz.results157,go_sem, *]) rfl ⟨?_,?_⟩
 ·rfl
 ·exact C3
theorem C3u (op:ByteArray)(a b:Int)(s s':ByteArray)(w:World)(hop:op.toList=[47]):Calls Tryz.prog 157 #[.string op,(.agg #[.int .i64 1,.int .i64 a,.string s]),(.agg #[.int .i64 1,.int .i64 b,.string s'])] w fun e w'=>e=.returned (.agg #[.int .i64 (kO (J1 a b)),.int .i64 (nO (J1 a b)),.string ⟨#[]⟩])/\Below w.heap.size w w':=by
 go_enter Tryz.func157,Tryz.ntmps157;go_wp2_with(first|(go_at_call 180;refine(B2z _ _ _ _ _ _ hop).mono ?_;rintro e w1 ⟨rfl,hb1⟩;obtain⟨hf1,hz1,hy1,L4,L5,L7,L8,L6⟩:=N6 hb1));refine bodyPost_ret (v:=(.agg #[.int .i64 (kO (J1 a b)),.int .i64 (nO (J1 a b)),.string ⟨#[]⟩])) (by simp[results,Tryz.results157,go_sem, *]) rfl ⟨?_,?_⟩
 ·rfl
 ·exact C3
theorem B7Q (op:ByteArray)(k k':Int)(a b:Int)(s s':ByteArray)(w:World)(hop:op.toList=[47])(h0:¬ (k=1/\k'=1)):Calls Tryz.prog 157 #[.string op,(.agg #[.int .i64 k,.int .i64 a,.string s]),(.agg #[.int .i64 k',.int .i64 b,.string s'])] w fun e w'=>e=.returned (.agg #[.int .i64 0,.int .i64 0,.string ⟨#[]⟩])/\Below w.heap.size w w':=by
 have h:Hid (¬ (k=1/\k'=1)):=h0;clear h0;go_enter Tryz.func157,Tryz.ntmps157;go_wp2_with(first|(go_at_call 180;refine(A4t _ _ _ _ _ _ _ _ h.out).mono ?_;rintro e w1 ⟨rfl,hb1⟩;obtain⟨hf1,hz1,hy1,L4,L5,L7,L8,L6⟩:=N6 hb1));refine bodyPost_ret (v:=(.agg #[.int .i64 0,.int .i64 0,.string ⟨#[]⟩])) (by simp[results,Tryz.results157,go_sem, *]) rfl ⟨?_,?_⟩
 ·rfl
 ·exact C3
theorem B69 (op:ByteArray)(k:Int)(a b:Int)(s s':ByteArray)(w:World)(hop:op.toList=[61])(h0:(k==0)=false):Calls Tryz.prog 157 #[.string op,(.agg #[.int .i64 k,.int .i64 a,.string s]),(.agg #[.int .i64 k,.int .i64 b,.string s'])] w fun e w'=>e=.returned (.agg #[.int .i64 2,.int .i64 (bn (I5 k a s k b s'==0)),.string ⟨#[]⟩])/\Below w.heap.size w w':=by
 go_enter Tryz.func157,Tryz.ntmps157;go_wp2_with(first|(go_at_call 181;refine(B8r _ _ _ _ _ _ _ hop h0).mono ?_;rintro e w1 ⟨rfl,hb1⟩;obtain⟨hf1,hz1,hy1,L4,L5,L7,L8,L6⟩:=N6 hb1));refine bodyPost_ret (v:=(.agg #[.int .i64 2,.int .i64 (bn (I5 k a s k b s'==0)),.string ⟨#[]⟩])) (by simp[results,Tryz.results157,go_sem, *]) rfl ⟨?_,?_⟩
 ·rfl
 ·exact C3
theorem B87 (op:ByteArray)(k k':Int)(a b:Int)(s s':ByteArray)(w:World)(hop:op.toList=[61])(h0:¬ (k=k'/\¬k=0)):Calls Tryz.prog 157 #[.string op,(.agg #[.int .i64 k,.int .i64 a,.string s]),(.agg #[.int .i64 k',.int .i64 b,.string s'])] w fun e w'=>e=.returned (.agg #[.int .i64 0,.int .i64 0,.string ⟨#[]⟩])/\Below w.heap.size w w':=by
 have h:Hid (¬ (k=k'/\¬k=0)):=h0;clear h0;go_enter Tryz.func157,Tryz.ntmps157;go_wp2_with(first|(go_at_call 181;refine(B09 _ _ _ _ _ _ _ _ h.out).mono ?_;rintro e w1 ⟨rfl,hb1⟩;obtain⟨hf1,hz1,hy1,L4,L5,L7,L8,L6⟩:=N6 hb1));refine bodyPost_ret (v:=(.agg #[.int .i64 0,.int .i64 0,.string ⟨#[]⟩])) (by simp[results,Tryz.results157,go_sem, *]) rfl ⟨?_,?_⟩
 ·rfl
 ·exact C3
theorem B9v (op:ByteArray)(k:Int)(a b:Int)(s s':ByteArray)(w:World)(hop:op.toList=[60])(h0:(k==0)=false):Calls Tryz.prog 157 #[.string op,(.agg #[.int .i64 k,.int .i64 a,.string s]),(.agg #[.int .i64 k,.int .i64 b,.string s'])] w fun e w'=>e=.returned (.agg #[.int .i64 2,.int .i64 (bn (decide (I5 k a s k b s'<0))),.string ⟨#[]⟩])/\Below w.heap.size w w':=by
 go_enter Tryz.func157,Tryz.ntmps157;go_wp2_with(first|(go_at_call 181;refine(B5Q _ _ _ _ _ _ _ hop h0).mono ?_;rintro e w1 ⟨rfl,hb1⟩;obtain⟨hf1,hz1,hy1,L4,L5,L7,L8,L6⟩:=N6 hb1));refine bodyPost_ret (v:=(.agg #[.int .i64 2,.int .i64 (bn (decide (I5 k a s k b s'<0))),.string ⟨#[]⟩])) (by simp[results,Tryz.results157,go_sem, *]) rfl ⟨?_,?_⟩
 ·rfl
 ·exact C3
theorem C3F (op:ByteArray)(k k':Int)(a b:Int)(s s':ByteArray)(w:World)(hop:op.toList=[60])(h0:¬ (k=k'/\¬k=0)):Calls Tryz.prog 157 #[.string op,(.agg #[.int .i64 k,.int .i64 a,.string s]),(.agg #[.int .i64 k',.int .i64 b,.string s'])] w fun e w'=>e=.returned (.agg #[.int .i64 0,.int .i64 0,.string ⟨#[]⟩])/\Below w.heap.size w w':=by
 have h:Hid (¬ (k=k'/\¬k=0)):=h0;clear h0;go_enter Tryz.func157,Tryz.ntmps157;go_wp2_with(first|(go_at_call 181;refine(B09 _ _ _ _ _ _ _ _ h.out).mono ?_;rintro e w1 ⟨rfl,hb1⟩;obtain⟨hf1,hz1,hy1,L4,L5,L7,L8,L6⟩:=N6 hb1));refine bodyPost_ret (v:=(.agg #[.int .i64 0,.int .i64 0,.string ⟨#[]⟩])) (by simp[results,Tryz.results157,go_sem, *]) rfl ⟨?_,?_⟩
 ·rfl
 ·exact C3
theorem C2c (op:ByteArray)(a b:Int)(s s':ByteArray)(cc:Bool)(hcc:Lib.contains s.data.toList s'.data.toList=cc)(m:Int)(w:World)(hs:s.size<4294967281)(hm:w.cell? ⟨1,0,none⟩=some (.int .i64 m))(hop:op.toList=[126]):Calls Tryz.prog 157 #[.string op,(.agg #[.int .i64 3,.int .i64 a,.string s]),(.agg #[.int .i64 3,.int .i64 b,.string s'])] w fun e w'=>e=.returned (.agg #[.int .i64 2,.int .i64 (bn cc),.string ⟨#[]⟩])/\Below w.heap.size w w':=by
 have h0:1<w.heap.size:=bl8 w ⟨1,0,none⟩ hm;have Hcc:Hid (Lib.contains s.data.toList s'.data.toList=cc):=hcc;clear hcc;go_enter Tryz.func157,Tryz.ntmps157;go_wp2_with fail;refine cM8 (B6H _ _ _ _ m _ hs ?hmm) ?_
 case hmm=>exact((bc8 (show Below w.heap.size w _ from bex)).1 1 0 h0).trans hm
 rw[Hcc.out];rintro e w1 ⟨rfl,hb1⟩;obtain⟨hf1,hz1,hy1,L4,L5,L7,L8,L6⟩:=N6 hb1;go_wp2_with fail;refine bodyPost_ret (v:=(.agg #[.int .i64 2,.int .i64 (bn cc),.string ⟨#[]⟩])) (by simp[results,Tryz.results157,go_sem, *]) rfl ⟨?_,?_⟩
 ·rfl
 ·exact C3
theorem B8D (op:ByteArray)(k k':Int)(a b:Int)(s s':ByteArray)(w:World)(hop:op.toList=[126])(h0:¬ (k=3/\k'=3)):Calls Tryz.prog 157 #[.string op,(.agg #[.int .i64 k,.int .i64 a,.string s]),(.agg #[.int .i64 k',.int .i64 b,.string s'])] w fun e w'=>e=.returned (.agg #[.int .i64 0,.int .i64 0,.string ⟨#[]⟩])/\Below w.heap.size w w':=by
 have h:Hid (¬ (k=3/\k'=3)):=h0;clear h0;go_enter Tryz.func157,Tryz.ntmps157;go_wp2_with(first|(go_at_call 182;refine(B8d _ _ _ _ _ _ _ h.out).mono ?_;rintro e w1 ⟨rfl,hb1⟩;obtain⟨hf1,hz1,hy1,L4,L5,L7,L8,L6⟩:=N6 hb1));refine bodyPost_ret (v:=(.agg #[.int .i64 0,.int .i64 0,.string ⟨#[]⟩])) (by simp[results,Tryz.results157,go_sem, *]) rfl ⟨?_,?_⟩
 ·rfl
 ·exact C3
theorem B3k (op:ByteArray)(k k':Int)(a b:Int)(s s':ByteArray)(p0 q0 p1 q1:Bool)(h1:is2 k a s 0=p0)(h2:is2 k' b s' 0=q0)(h3:is2 k a s 1=p1)(h4:is2 k' b s' 1=q1)(w:World)(hop:op.toList=[97,110,100]):Calls Tryz.prog 157 #[.string op,(.agg #[.int .i64 k,.int .i64 a,.string s]),(.agg #[.int .i64 k',.int .i64 b,.string s'])] w fun e w'=>e=.returned (.agg #[.int .i64 (chK p0 q0 p1 q1),.int .i64 (chN 0 p0 q0 p1 q1),.string ⟨#[]⟩])/\Below w.heap.size w w':=by
 have HC:Hid (∀w:World,Calls Tryz.prog 183 #[(.agg #[.int .i64 k,.int .i64 a,.string s]),(.agg #[.int .i64 k',.int .i64 b,.string s']),.int .i64 0] w fun e w'=>e=.returned (.agg #[.int .i64 (chK p0 q0 p1 q1),.int .i64 (chN 0 p0 q0 p1 q1),.string ⟨#[]⟩])/\Below w.heap.size w w'):=by
  subst h1 h2 h3 h4;exact fun w=>B8M _ _ _ _ _ _ w
 clear h1 h2 h3 h4;go_enter Tryz.func157,Tryz.ntmps157;go_wp2_with(first|(go_at_call 183;refine(HC.out _).mono ?_;rintro e w1 ⟨rfl,hb1⟩;obtain⟨hf1,hz1,hy1,L4,L5,L7,L8,L6⟩:=N6 hb1));refine bodyPost_ret (v:=(.agg #[.int .i64 (chK p0 q0 p1 q1),.int .i64 (chN 0 p0 q0 p1 q1),.string ⟨#[]⟩])) (by simp[results,Tryz.results157,go_sem, *]) rfl ⟨?_,?_⟩
 ·rfl
 ·exact C3
theorem B7U (op:ByteArray)(k k':Int)(a b:Int)(s s':ByteArray)(p0 q0 p1 q1:Bool)(h1:is2 k a s 1=p0)(h2:is2 k' b s' 1=q0)(h3:is2 k a s 0=p1)(h4:is2 k' b s' 0=q1)(w:World)(hop:op.toList=[111,114]):Calls Tryz.prog 157 #[.string op,(.agg #[.int .i64 k,.int .i64 a,.string s]),(.agg #[.int .i64 k',.int .i64 b,.string s'])] w fun e w'=>e=.returned (.agg #[.int .i64 (chK p0 q0 p1 q1),.int .i64 (chN 1 p0 q0 p1 q1),.string ⟨#[]⟩])/\Below w.heap.size w w':=by
 have HC:Hid (∀w:World,Calls Tryz.prog 183 #[(.agg #[.int .i64 k,.int .i64 a,.string s]),(.agg #[.int .i64 k',.int .i64 b,.string s']),.int .i64 1] w fun e w'=>e=.returned (.agg #[.int .i64 (chK p0 q0 p1 q1),.int .i64 (chN 1 p0 q0 p1 q1),.string ⟨#[]⟩])/\Below w.heap.size w w'):=by
  subst h1 h2 h3 h4;exact fun w=>B3e _ _ _ _ _ _ w
 clear h1 h2 h3 h4;go_enter Tryz.func157,Tryz.ntmps157;go_wp2_with(first|(go_at_call 183;refine(HC.out _).mono ?_;rintro e w1 ⟨rfl,hb1⟩;obtain⟨hf1,hz1,hy1,L4,L5,L7,L8,L6⟩:=N6 hb1));refine bodyPost_ret (v:=(.agg #[.int .i64 (chK p0 q0 p1 q1),.int .i64 (chN 1 p0 q0 p1 q1),.string ⟨#[]⟩])) (by simp[results,Tryz.results157,go_sem, *]) rfl ⟨?_,?_⟩
 ·rfl
 ·exact C3
theorem B9w (op:ByteArray)(k k':Int)(a b:Int)(s s':ByteArray)(w:World)(x0:(op.toList==[43])=false)(x1:(op.toList==[45])=false)(x2:(op.toList==[42])=false)(x3:(op.toList==[47])=false)(x4:(op.toList==[61])=false)(x5:(op.toList==[60])=false)(x6:(op.toList==[126])=false)(x7:(op.toList==[97,110,100])=false)(x8:(op.toList==[111,114])=false):Calls Tryz.prog 157 #[.string op,(.agg #[.int .i64 k,.int .i64 a,.string s]),(.agg #[.int .i64 k',.int .i64 b,.string s'])] w fun e w'=>e=.returned (.agg #[.int .i64 0,.int .i64 0,.string ⟨#[]⟩])/\Below w.heap.size w w':=by
 go_enter Tryz.func157,Tryz.ntmps157;go_wp2;go_returns;exact⟨rfl,by go_grown⟩
theorem B6O (a:Int)(ha: -9223372036854775808<=a/\a<=9223372036854775807):O8 a 0=some a:=by
 have e:wrap64 a=a:=by unfold wrap64;omega
 rw[O8,Int.add_zero,e,if_pos (by simp)]
theorem B9W (a:Int)(ha: -9223372036854775808<=a/\a<=9223372036854775807):M0 a 0=some a:=by
 have e:wrap64 a=a:=by unfold wrap64;omega
 rw[M0,Int.sub_zero,e,if_pos (by simp)]
theorem B6D (op:ByteArray)(a b:Int)(w:World)(ha: -9223372036854775808<=a/\a<=9223372036854775807)(hb: -9223372036854775808<=b/\b<=9223372036854775807)(hop:op.toList=[43]):Calls Tryz.prog 149 #[.string op,.int .i64 a,.int .i64 b] w fun e w'=>e=.returned (.agg #[.int .i64 (kO (O8 a b)),.int .i64 (nO (O8 a b)),.string ⟨#[]⟩])/\Below w.heap.size w w':=by
 by_cases hb0:b=0
 ·subst hb0;have hm:Hid (O8 a 0=some a):=B6O a ha;clear ha hb;go_enter Tryz.func149,Tryz.ntmps149;go_wp2_with(first|(go_at_call 99;refine(A6j _ _).mono ?_;rintro e w1 ⟨rfl,hb1⟩;have hf1:=(bc8 hb1).2;have hz1:=hb1.size;(try simp at hz1);have hy1:w.heap.size<w1.heap.size:=(by omega);have A1t:w1.cell? ⟨w.heap.size,0,none⟩=some (.int .i64 0):=cl8 hb1;have A2G:w1.cell? ⟨w.heap.size,1,none⟩=some (.int .i64 0):=cl8 hb1;have A1h:w1.cell? ⟨w.heap.size,2,none⟩=some (.string ⟨#[]⟩):=cl8 hb1));refine bodyPost_ret (v:=(.agg #[.int .i64 1,.int .i64 a,.string ⟨#[]⟩])) (by simp[results,Tryz.results149,go_sem, *]) rfl ⟨?_,?_⟩
  ·exact Y6 hm.out
  ·exact C3
 have eb:(b==0)=false:=by simp[hb0]
 clear ha hb;go_enter Tryz.func149,Tryz.ntmps149;go_wp2_with(first|(go_at_call 173;refine(C0F _ _ _).mono ?_;rintro e w1 ⟨rfl,hb1⟩;have hf1:=(bc8 hb1).2;have hz1:=hb1.size;(try simp at hz1);have hy1:w.heap.size<w1.heap.size:=(by omega);have A1t:w1.cell? ⟨w.heap.size,0,none⟩=some (.int .i64 0):=cl8 hb1;have A2G:w1.cell? ⟨w.heap.size,1,none⟩=some (.int .i64 0):=cl8 hb1;have A1h:w1.cell? ⟨w.heap.size,2,none⟩=some (.string ⟨#[]⟩):=cl8 hb1));refine bodyPost_ret (v:=(.agg #[.int .i64 (kO (O8 a b)),.int .i64 (nO (O8 a b)),.string ⟨#[]⟩])) (by simp[results,Tryz.results149,go_sem, *]) rfl ⟨?_,?_⟩
 ·rfl
 ·exact C3
theorem C3D (op:ByteArray)(a b:Int)(w:World)(ha: -9223372036854775808<=a/\a<=9223372036854775807)(hb: -9223372036854775808<=b/\b<=9223372036854775807)(hop:op.toList=[45]):Calls Tryz.prog 149 #[.string op,.int .i64 a,.int .i64 b] w fun e w'=>e=.returned (.agg #[.int .i64 (kO (M0 a b)),.int .i64 (nO (M0 a b)),.string ⟨#[]⟩])/\Below w.heap.size w w':=by
 by_cases hb0:b=0
 ·subst hb0;have hm:Hid (M0 a 0=some a):=B9W a ha;have ew:wrap64 a=a:=by unfold wrap64;omega
  clear ha hb;go_enter Tryz.func149,Tryz.ntmps149;go_wp2_with(first|(go_at_call 99;refine(A6j _ _).mono ?_;rintro e w1 ⟨rfl,hb1⟩;have hf1:=(bc8 hb1).2;have hz1:=hb1.size;(try simp at hz1);have hy1:w.heap.size<w1.heap.size:=(by omega);have A1t:w1.cell? ⟨w.heap.size,0,none⟩=some (.int .i64 0):=cl8 hb1;have A2G:w1.cell? ⟨w.heap.size,1,none⟩=some (.int .i64 0):=cl8 hb1;have A1h:w1.cell? ⟨w.heap.size,2,none⟩=some (.string ⟨#[]⟩):=cl8 hb1));refine bodyPost_ret (v:=(.agg #[.int .i64 1,.int .i64 a,.string ⟨#[]⟩])) (by simp[results,Tryz.results149,go_sem, *]) rfl ⟨?_,?_⟩
  ·exact Y6 hm.out
  ·exact C3
 have eb:(b !=0)=true:=by simp[hb0]
 clear ha hb;by_cases h:(decide (wrap64 (a -b)<a)==decide (0<b))=true
 ·have hm:Hid (M0 a b=some (wrap64 (a -b))):=if_pos h;go_enter Tryz.func149,Tryz.ntmps149;go_wp2_with(first|(go_at_call 99;refine(A6j _ _).mono ?_;rintro e w1 ⟨rfl,hb1⟩;have hf1:=(bc8 hb1).2;have hz1:=hb1.size;(try simp at hz1);have hy1:w.heap.size<w1.heap.size:=(by omega);have A1t:w1.cell? ⟨w.heap.size,0,none⟩=some (.int .i64 0):=cl8 hb1;have A2G:w1.cell? ⟨w.heap.size,1,none⟩=some (.int .i64 0):=cl8 hb1;have A1h:w1.cell? ⟨w.heap.size,2,none⟩=some (.string ⟨#[]⟩):=cl8 hb1));refine bodyPost_ret (v:=(.agg #[.int .i64 1,.int .i64 (wrap64 (a -b)),.string ⟨#[]⟩])) (by simp[results,Tryz.results149,go_sem, *]) rfl ⟨?_,?_⟩
  ·exact Y6 hm.out
  ·exact C3
 ·have hm:Hid (M0 a b=none):=if_neg h;have h':(decide (wrap64 (a -b)<a)==decide (0<b))=false:=by simpa using h
  clear h;go_enter Tryz.func149,Tryz.ntmps149;go_wp2;go_returns;exact⟨p9 hm.out,by go_grown⟩
theorem B2y (op:ByteArray)(a b:Int)(w:World)(ha: -9223372036854775808<=a/\a<=9223372036854775807)(hb: -9223372036854775808<=b/\b<=9223372036854775807)(hop:op.toList=[42]):Calls Tryz.prog 149 #[.string op,.int .i64 a,.int .i64 b] w fun e w'=>e=.returned (.agg #[.int .i64 (kO (I1 a b)),.int .i64 (nO (I1 a b)),.string ⟨#[]⟩])/\Below w.heap.size w w':=by
 go_enter Tryz.func149,Tryz.ntmps149;go_wp2_with(first|(go_at_call 174;refine(B7O _ _ _ ha hb).mono ?_;rintro e w1 ⟨rfl,hb1⟩;have hf1:=(bc8 hb1).2;have hz1:=hb1.size;(try simp at hz1);have hy1:w.heap.size<w1.heap.size:=(by omega);have A1t:w1.cell? ⟨w.heap.size,0,none⟩=some (.int .i64 0):=cl8 hb1;have A2G:w1.cell? ⟨w.heap.size,1,none⟩=some (.int .i64 0):=cl8 hb1;have A1h:w1.cell? ⟨w.heap.size,2,none⟩=some (.string ⟨#[]⟩):=cl8 hb1));refine bodyPost_ret (v:=(.agg #[.int .i64 (kO (I1 a b)),.int .i64 (nO (I1 a b)),.string ⟨#[]⟩])) (by simp[results,Tryz.results149,go_sem, *]) rfl ⟨?_,?_⟩
 ·rfl
 ·exact C3
theorem B8l (op:ByteArray)(a b:Int)(w:World)(ha: -9223372036854775808<=a/\a<=9223372036854775807)(hb: -9223372036854775808<=b/\b<=9223372036854775807)(hop:op.toList=[47]):Calls Tryz.prog 149 #[.string op,.int .i64 a,.int .i64 b] w fun e w'=>e=.returned (.agg #[.int .i64 (kO (J1 a b)),.int .i64 (nO (J1 a b)),.string ⟨#[]⟩])/\Below w.heap.size w w':=by
 go_enter Tryz.func149,Tryz.ntmps149;go_wp2_with(first|(go_at_call 175;refine(B4D _ _ _ ha).mono ?_;rintro e w1 ⟨rfl,hb1⟩;have hf1:=(bc8 hb1).2;have hz1:=hb1.size;(try simp at hz1);have hy1:w.heap.size<w1.heap.size:=(by omega);have A1t:w1.cell? ⟨w.heap.size,0,none⟩=some (.int .i64 0):=cl8 hb1;have A2G:w1.cell? ⟨w.heap.size,1,none⟩=some (.int .i64 0):=cl8 hb1;have A1h:w1.cell? ⟨w.heap.size,2,none⟩=some (.string ⟨#[]⟩):=cl8 hb1));refine bodyPost_ret (v:=(.agg #[.int .i64 (kO (J1 a b)),.int .i64 (nO (J1 a b)),.string ⟨#[]⟩])) (by simp[results,Tryz.results149,go_sem, *]) rfl ⟨?_,?_⟩
 ·rfl
 ·exact C3
theorem A8F (op:ByteArray)(a b:Int)(w:World)(h1:(op.toList==[43])=false)(h2:(op.toList==[45])=false)(h3:(op.toList==[42])=false)(h4:(op.toList==[47])=false):Calls Tryz.prog 149 #[.string op,.int .i64 a,.int .i64 b] w fun e w'=>e=.returned (.agg #[.int .i64 0,.int .i64 0,.string ⟨#[]⟩])/\Below w.heap.size w w':=by
 go_enter Tryz.func149,Tryz.ntmps149;go_wp2;go_returns;exact⟨rfl,by go_grown⟩
theorem C1I (op:ByteArray)(a b:Int)(s s':ByteArray)(w:World)(ha: -9223372036854775808<=a/\a<=9223372036854775807)(hb: -9223372036854775808<=b/\b<=9223372036854775807)(hop:op.toList=[43]):Calls Tryz.prog 122 #[.string op,(.agg #[.int .i64 1,.int .i64 a,.string s]),(.agg #[.int .i64 1,.int .i64 b,.string s'])] w fun e w'=>e=.returned (.agg #[.int .i64 (kO (O8 a b)),.int .i64 (nO (O8 a b)),.string ⟨#[]⟩])/\Below w.heap.size w w':=by
 go_enter Tryz.func122,Tryz.ntmps122;go_wp2_with(first|(go_at_call 149;refine(B6D _ _ _ _ ha hb hop).mono ?_;rintro e w1 ⟨rfl,hb1⟩;obtain⟨hf1,hz1,hy1,L4,L5,L7,L8,L6⟩:=N6 hb1));refine bodyPost_ret (v:=(.agg #[.int .i64 (kO (O8 a b)),.int .i64 (nO (O8 a b)),.string ⟨#[]⟩])) (by simp[results,Tryz.results122,go_sem, *]) rfl ⟨?_,?_⟩
 ·rfl
 ·exact C3
theorem C0d (op:ByteArray)(a b:Int)(s s':ByteArray)(w:World)(ha: -9223372036854775808<=a/\a<=9223372036854775807)(hb: -9223372036854775808<=b/\b<=9223372036854775807)(hop:op.toList=[45]):Calls Tryz.prog 122 #[.string op,(.agg #[.int .i64 1,.int .i64 a,.string s]),(.agg #[.int .i64 1,.int .i64 b,.string s'])] w fun e w'=>e=.returned (.agg #[.int .i64 (kO (M0 a b)),.int .i64 (nO (M0 a b)),.string ⟨#[]⟩])/\Below w.heap.size w w':=by
 go_enter Tryz.func122,Tryz.ntmps122;go_wp2_with(first|(go_at_call 149;refine(C3D _ _ _ _ ha hb hop).mono ?_;rintro e w1 ⟨rfl,hb1⟩;obtain⟨hf1,hz1,hy1,L4,L5,L7,L8,L6⟩:=N6 hb1));refine bodyPost_ret (v:=(.agg #[.int .i64 (kO (M0 a b)),.int .i64 (nO (M0 a b)),.string ⟨#[]⟩])) (by simp[results,Tryz.results122,go_sem, *]) rfl ⟨?_,?_⟩
 ·rfl
 ·exact C3
theorem B2V (op:ByteArray)(a b:Int)(s s':ByteArray)(w:World)(ha: -9223372036854775808<=a/\a<=9223372036854775807)(hb: -9223372036854775808<=b/\b<=9223372036854775807)(hop:op.toList=[42]):Calls Tryz.prog 122 #[.string op,(.agg #[.int .i64 1,.int .i64 a,.string s]),(.agg #[.int .i64 1,.int .i64 b,.string s'])] w fun e w'=>e=.returned (.agg #[.int .i64 (kO (I1 a b)),.int .i64 (nO (I1 a b)),.string ⟨#[]⟩])/\Below w.heap.size w w':=by
 go_enter Tryz.func122,Tryz.ntmps122;go_wp2_with(first|(go_at_call 149;refine(B2y _ _ _ _ ha hb hop).mono ?_;rintro e w1 ⟨rfl,hb1⟩;obtain⟨hf1,hz1,hy1,L4,L5,L7,L8,L6⟩:=N6 hb1));refine bodyPost_ret (v:=(.agg #[.int .i64 (kO (I1 a b)),.int .i64 (nO (I1 a b)),.string ⟨#[]⟩])) (by simp[results,Tryz.results122,go_sem, *]) rfl ⟨?_,?_⟩
 ·rfl
 ·exact C3
theorem C0y (op:ByteArray)(a b:Int)(s s':ByteArray)(w:World)(ha: -9223372036854775808<=a/\a<=9223372036854775807)(hb: -9223372036854775808<=b/\b<=9223372036854775807)(hop:op.toList=[47]):Calls Tryz.prog 122 #[.string op,(.agg #[.int .i64 1,.int .i64 a,.string s]),(.agg #[.int .i64 1,.int .i64 b,.string s'])] w fun e w'=>e=.returned (.agg #[.int .i64 (kO (J1 a b)),.int .i64 (nO (J1 a b)),.string ⟨#[]⟩])/\Below w.heap.size w w':=by
 go_enter Tryz.func122,Tryz.ntmps122;go_wp2_with(first|(go_at_call 149;refine(B8l _ _ _ _ ha hb hop).mono ?_;rintro e w1 ⟨rfl,hb1⟩;obtain⟨hf1,hz1,hy1,L4,L5,L7,L8,L6⟩:=N6 hb1));refine bodyPost_ret (v:=(.agg #[.int .i64 (kO (J1 a b)),.int .i64 (nO (J1 a b)),.string ⟨#[]⟩])) (by simp[results,Tryz.results122,go_sem, *]) rfl ⟨?_,?_⟩
 ·rfl
 ·exact C3
theorem B68 (op:ByteArray)(k k':Int)(a b:Int)(s s':ByteArray)(w:World)(x7:(op.toList==[97,110,100])=false)(x8:(op.toList==[111,114])=false)(hk:(k !=k')=true):Calls Tryz.prog 122 #[.string op,(.agg #[.int .i64 k,.int .i64 a,.string s]),(.agg #[.int .i64 k',.int .i64 b,.string s'])] w fun e w'=>e=.returned (.agg #[.int .i64 0,.int .i64 0,.string ⟨#[]⟩])/\Below w.heap.size w w':=by
 go_enter Tryz.func122,Tryz.ntmps122;go_wp2;go_returns;exact⟨rfl,by go_grown⟩
theorem C0B (op:ByteArray)(a b:Int)(s s':ByteArray)(w:World)(x7:(op.toList==[97,110,100])=false)(x8:(op.toList==[111,114])=false):Calls Tryz.prog 122 #[.string op,(.agg #[.int .i64 0,.int .i64 a,.string s]),(.agg #[.int .i64 0,.int .i64 b,.string s'])] w fun e w'=>e=.returned (.agg #[.int .i64 0,.int .i64 0,.string ⟨#[]⟩])/\Below w.heap.size w w':=by
 go_enter Tryz.func122,Tryz.ntmps122;go_wp2;go_returns;exact⟨rfl,by go_grown⟩
theorem B26 (op:ByteArray)(k:Int)(a b:Int)(s s':ByteArray)(w:World)(hop:op.toList=[61])(h0:(k==0)=false):Calls Tryz.prog 122 #[.string op,(.agg #[.int .i64 k,.int .i64 a,.string s]),(.agg #[.int .i64 k,.int .i64 b,.string s'])] w fun e w'=>e=.returned (.agg #[.int .i64 2,.int .i64 (bn (I5 k a s k b s'==0)),.string ⟨#[]⟩])/\Below w.heap.size w w':=by
 have hn:(k !=k)=false:=by simp
 go_enter Tryz.func122,Tryz.ntmps122;go_wp2_with(first|(go_at_call 97;refine(A5j _ _ _ _ _ _ _).mono ?_;rintro e w1 ⟨rfl,hb1⟩;obtain⟨hf1,hz1,hy1,L4,L5,L7,L8,L6⟩:=N6 hb1)|(go_at_call 147;refine(A7e _ _).mono ?_;rintro e w2 ⟨rfl,hb2⟩;have hf2:=(bc8 hb2).2;have hz2:=hb2.size;(try simp at hz2);have hy2:w.heap.size+1+1<w2.heap.size:=(by omega);have A1n:w.heap.size<w2.heap.size:=(by omega);have A2D:w.heap.size+1<w2.heap.size:=(by omega);have A2I:w2.cell? ⟨w.heap.size+1+1,0,none⟩=some (.int .i64 0):=cl8 hb2;have A2J:w2.cell? ⟨w.heap.size+1+1,1,none⟩=some (.int .i64 0):=cl8 hb2;have A2U:w2.cell? ⟨w.heap.size+1+1,2,none⟩=some (.string ⟨#[]⟩):=cl8 hb2));refine bodyPost_ret (v:=(.agg #[.int .i64 2,.int .i64 (bn (I5 k a s k b s'==0)),.string ⟨#[]⟩])) (by simp[results,Tryz.results122,go_sem, *]) rfl ⟨?_,?_⟩
 ·rfl
 ·exact C3
theorem B9F (op:ByteArray)(k:Int)(a b:Int)(s s':ByteArray)(w:World)(hop:op.toList=[60])(h0:(k==0)=false):Calls Tryz.prog 122 #[.string op,(.agg #[.int .i64 k,.int .i64 a,.string s]),(.agg #[.int .i64 k,.int .i64 b,.string s'])] w fun e w'=>e=.returned (.agg #[.int .i64 2,.int .i64 (bn (decide (I5 k a s k b s'<0))),.string ⟨#[]⟩])/\Below w.heap.size w w':=by
 have hn:(k !=k)=false:=by simp
 go_enter Tryz.func122,Tryz.ntmps122;go_wp2_with(first|(go_at_call 97;refine(A5j _ _ _ _ _ _ _).mono ?_;rintro e w1 ⟨rfl,hb1⟩;obtain⟨hf1,hz1,hy1,L4,L5,L7,L8,L6⟩:=N6 hb1)|(go_at_call 147;refine(A7e _ _).mono ?_;rintro e w2 ⟨rfl,hb2⟩;have hf2:=(bc8 hb2).2;have hz2:=hb2.size;(try simp at hz2);have hy2:w.heap.size+1+1<w2.heap.size:=(by omega);have A1n:w.heap.size<w2.heap.size:=(by omega);have A2D:w.heap.size+1<w2.heap.size:=(by omega);have A2I:w2.cell? ⟨w.heap.size+1+1,0,none⟩=some (.int .i64 0):=cl8 hb2;have A2J:w2.cell? ⟨w.heap.size+1+1,1,none⟩=some (.int .i64 0):=cl8 hb2;have A2U:w2.cell? ⟨w.heap.size+1+1,2,none⟩=some (.string ⟨#[]⟩):=cl8 hb2));refine bodyPost_ret (v:=(.agg #[.int .i64 2,.int .i64 (bn (decide (I5 k a s k b s'<0))),.string ⟨#[]⟩])) (by simp[results,Tryz.results122,go_sem, *]) rfl ⟨?_,?_⟩
 ·rfl
 ·exact C3
theorem B5d (op:ByteArray)(a b:Int)(s s':ByteArray)(cc:Bool)(hcc:Lib.contains s.data.toList s'.data.toList=cc)(w:World)(hs:s.size<=1048576)(hs':s'.size<=1048576)(hop:op.toList=[126]):Calls Tryz.prog 122 #[.string op,(.agg #[.int .i64 3,.int .i64 a,.string s]),(.agg #[.int .i64 3,.int .i64 b,.string s'])] w fun e w'=>e=.returned (.agg #[.int .i64 2,.int .i64 (bn cc),.string ⟨#[]⟩])/\Below w.heap.size w w':=by
 have HC:Hid (∀w:World,Calls Tryz.prog 148 #[.string s,.string s'] w fun e w'=>e=.returned (.bool cc)/\w'=w):=by
  subst hcc;exact fun w=>B3g s s' w hs hs'
 clear hcc;go_enter Tryz.func122,Tryz.ntmps122;go_wp2_with(first|(go_at_call 148;refine(HC.out _).mono ?_;rintro e w1 ⟨rfl,rfl⟩)|(go_at_call 147;refine(A7e _ _).mono ?_;rintro e w2 ⟨rfl,hb2⟩;have hf2:=(bc8 hb2).2;have hz2:=hb2.size;(try simp at hz2);have hy2:w.heap.size+1+1<w2.heap.size:=(by omega);have A1n:w.heap.size<w2.heap.size:=(by omega);have A2D:w.heap.size+1<w2.heap.size:=(by omega);have A2I:w2.cell? ⟨w.heap.size+1+1,0,none⟩=some (.int .i64 0):=cl8 hb2;have A2J:w2.cell? ⟨w.heap.size+1+1,1,none⟩=some (.int .i64 0):=cl8 hb2;have A2U:w2.cell? ⟨w.heap.size+1+1,2,none⟩=some (.string ⟨#[]⟩):=cl8 hb2));refine bodyPost_ret (v:=(.agg #[.int .i64 2,.int .i64 (bn cc),.string ⟨#[]⟩])) (by simp[results,Tryz.results122,go_sem, *]) rfl ⟨?_,?_⟩
 ·rfl
 ·exact C3
theorem C2U (op:ByteArray)(k k':Int)(a b:Int)(s s':ByteArray)(p0 q0 p1 q1:Bool)(h1:is2 k a s 0=p0)(h2:is2 k' b s' 0=q0)(h3:is2 k a s 1=p1)(h4:is2 k' b s' 1=q1)(w:World)(hop:op.toList=[97,110,100]):Calls Tryz.prog 122 #[.string op,(.agg #[.int .i64 k,.int .i64 a,.string s]),(.agg #[.int .i64 k',.int .i64 b,.string s'])] w fun e w'=>e=.returned (.agg #[.int .i64 (chK p0 q0 p1 q1),.int .i64 (chN 0 p0 q0 p1 q1),.string ⟨#[]⟩])/\Below w.heap.size w w':=by
 have HC:Hid (∀w:World,Calls Tryz.prog 146 #[.string op,(.agg #[.int .i64 k,.int .i64 a,.string s]),(.agg #[.int .i64 k',.int .i64 b,.string s'])] w fun e w'=>e=.returned (.agg #[.int .i64 (chK p0 q0 p1 q1),.int .i64 (chN 0 p0 q0 p1 q1),.string ⟨#[]⟩])/\Below w.heap.size w w'):=by
  subst h1 h2 h3 h4;exact fun w=>C1d op _ _ _ _ _ _ w hop
 clear h1 h2 h3 h4;go_enter Tryz.func122,Tryz.ntmps122;go_wp2_with(first|(go_at_call 146;refine(HC.out _).mono ?_;rintro e w1 ⟨rfl,hb1⟩;obtain⟨hf1,hz1,hy1,L4,L5,L7,L8,L6⟩:=N6 hb1));refine bodyPost_ret (v:=(.agg #[.int .i64 (chK p0 q0 p1 q1),.int .i64 (chN 0 p0 q0 p1 q1),.string ⟨#[]⟩])) (by simp[results,Tryz.results122,go_sem, *]) rfl ⟨?_,?_⟩
 ·rfl
 ·exact C3
theorem B6M (op:ByteArray)(k k':Int)(a b:Int)(s s':ByteArray)(p0 q0 p1 q1:Bool)(h1:is2 k a s 1=p0)(h2:is2 k' b s' 1=q0)(h3:is2 k a s 0=p1)(h4:is2 k' b s' 0=q1)(w:World)(hop:op.toList=[111,114]):Calls Tryz.prog 122 #[.string op,(.agg #[.int .i64 k,.int .i64 a,.string s]),(.agg #[.int .i64 k',.int .i64 b,.string s'])] w fun e w'=>e=.returned (.agg #[.int .i64 (chK p0 q0 p1 q1),.int .i64 (chN 1 p0 q0 p1 q1),.string ⟨#[]⟩])/\Below w.heap.size w w':=by
 have HC:Hid (∀w:World,Calls Tryz.prog 146 #[.string op,(.agg #[.int .i64 k,.int .i64 a,.string s]),(.agg #[.int .i64 k',.int .i64 b,.string s'])] w fun e w'=>e=.returned (.agg #[.int .i64 (chK p0 q0 p1 q1),.int .i64 (chN 1 p0 q0 p1 q1),.string ⟨#[]⟩])/\Below w.heap.size w w'):=by
  subst h1 h2 h3 h4;exact fun w=>C1P op _ _ _ _ _ _ w hop
 clear h1 h2 h3 h4;go_enter Tryz.func122,Tryz.ntmps122;go_wp2_with(first|(go_at_call 146;refine(HC.out _).mono ?_;rintro e w1 ⟨rfl,hb1⟩;obtain⟨hf1,hz1,hy1,L4,L5,L7,L8,L6⟩:=N6 hb1));refine bodyPost_ret (v:=(.agg #[.int .i64 (chK p0 q0 p1 q1),.int .i64 (chN 1 p0 q0 p1 q1),.string ⟨#[]⟩])) (by simp[results,Tryz.results122,go_sem, *]) rfl ⟨?_,?_⟩
 ·rfl
 ·exact C3
theorem C1V (op:ByteArray)(a b:Int)(s s':ByteArray)(w:World)(x0:(op.toList==[43])=false)(x1:(op.toList==[45])=false)(x2:(op.toList==[42])=false)(x3:(op.toList==[47])=false)(x4:(op.toList==[61])=false)(x5:(op.toList==[60])=false)(x7:(op.toList==[97,110,100])=false)(x8:(op.toList==[111,114])=false)(x6:(op.toList==[126])=false):Calls Tryz.prog 122 #[.string op,(.agg #[.int .i64 1,.int .i64 a,.string s]),(.agg #[.int .i64 1,.int .i64 b,.string s'])] w fun e w'=>e=.returned (.agg #[.int .i64 0,.int .i64 0,.string ⟨#[]⟩])/\Below w.heap.size w w':=by
 go_enter Tryz.func122,Tryz.ntmps122;go_wp2_with(first|(go_at_call 149;refine(A8F _ _ _ _ x0 x1 x2 x3).mono ?_;rintro e w1 ⟨rfl,hb1⟩;obtain⟨hf1,hz1,hy1,L4,L5,L7,L8,L6⟩:=N6 hb1));refine bodyPost_ret (v:=(.agg #[.int .i64 0,.int .i64 0,.string ⟨#[]⟩])) (by simp[results,Tryz.results122,go_sem, *]) rfl ⟨?_,?_⟩
 ·rfl
 ·exact C3
theorem B5J (op:ByteArray)(a b:Int)(s s':ByteArray)(w:World)(hop:op.toList=[126]):Calls Tryz.prog 122 #[.string op,(.agg #[.int .i64 1,.int .i64 a,.string s]),(.agg #[.int .i64 1,.int .i64 b,.string s'])] w fun e w'=>e=.returned (.agg #[.int .i64 0,.int .i64 0,.string ⟨#[]⟩])/\Below w.heap.size w w':=by
 go_enter Tryz.func122,Tryz.ntmps122;go_wp2_with(first|(go_at_call 149;refine(A8F _ _ _ _ (by rw[hop];rfl) (by rw[hop];rfl) (by rw[hop];rfl) (by rw[hop];rfl)).mono ?_;rintro e w1 ⟨rfl,hb1⟩;obtain⟨hf1,hz1,hy1,L4,L5,L7,L8,L6⟩:=N6 hb1));refine bodyPost_ret (v:=(.agg #[.int .i64 0,.int .i64 0,.string ⟨#[]⟩])) (by simp[results,Tryz.results122,go_sem, *]) rfl ⟨?_,?_⟩
 ·rfl
 ·exact C3
theorem A3L (op:ByteArray)(k:Int)(a b:Int)(s s':ByteArray)(w:World)(x4:(op.toList==[61])=false)(x5:(op.toList==[60])=false)(x7:(op.toList==[97,110,100])=false)(x8:(op.toList==[111,114])=false)(x6:(op.toList==[126])=false)(h0:(k==0)=false)(h1:(k==1)=false):Calls Tryz.prog 122 #[.string op,(.agg #[.int .i64 k,.int .i64 a,.string s]),(.agg #[.int .i64 k,.int .i64 b,.string s'])] w fun e w'=>e=.returned (.agg #[.int .i64 0,.int .i64 0,.string ⟨#[]⟩])/\Below w.heap.size w w':=by
 have hn:(k !=k)=false:=by simp
 go_enter Tryz.func122,Tryz.ntmps122;go_wp2;go_returns;exact⟨rfl,by go_grown⟩
theorem B7X (op:ByteArray)(k:Int)(a b:Int)(s s':ByteArray)(w:World)(hop:op.toList=[126])(h0:(k==0)=false)(h1:(k==1)=false)(h3:(k==3)=false):Calls Tryz.prog 122 #[.string op,(.agg #[.int .i64 k,.int .i64 a,.string s]),(.agg #[.int .i64 k,.int .i64 b,.string s'])] w fun e w'=>e=.returned (.agg #[.int .i64 0,.int .i64 0,.string ⟨#[]⟩])/\Below w.heap.size w w':=by
 have hn:(k !=k)=false:=by simp
 go_enter Tryz.func122,Tryz.ntmps122;go_wp2;go_returns;exact⟨rfl,by go_grown⟩
end
end Go.Proofs.YteekfcdllaceoaaGreatDoor
