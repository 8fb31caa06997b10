/- Own texts, joined: contracts that the law's proof goes by. -/
import Derived.Test.YtflokiejcjjbiaaGreatGLFits11
import Derived.Test.YtflokiejcjjbiaaGreatGLFits6
import Derived.Test.YtflokiejcjjbiaaGreatGLFits3
import Derived.Handy
import Derived.Test.YtflokiejcjjbiaaGreatGLFits7
set_option maxHeartbeats 16000000
set_option maxRecDepth 100000
set_option linter.unusedVariables false
set_option linter.unusedSimpArgs false
namespace Go.Proofs.YtflokiejcjjbiaaGreat
section
open Go.RowKit
abbrev InN (x:Int):Prop:= -9223372036854775808≤x∧x≤9223372036854775807
theorem bd_wrap (x:Int):InN (wrap64 x):=by unfold InN wrap64;omega
theorem bd_get {o:Option Int}(h:∀x,o=some x→InN x):InN (nO o):=by
 cases o with
 |none=>decide
 |some x=>exact h x rfl
theorem bd_add (a b:Int):InN (nO (addO a b)):=bd_get fun x h=>by unfold addO at h;split at h<;>cases h;exact bd_wrap _
theorem bd_sub (a b:Int):InN (nO (subO a b)):=bd_get fun x h=>by unfold subO at h;split at h<;>cases h;exact bd_wrap _
theorem bd_mul (a b:Int):InN (nO (mulO a b)):=bd_get fun x h=>by
 unfold mulO at h;split at h
 ·cases h;decide
 ·split at h
  ·unfold subO at h;split at h<;>cases h;exact bd_wrap _
  ·split at h<;>cases h;exact bd_wrap _
theorem bd_div (a b:Int):InN (nO (divO a b)):=bd_get fun x h=>by
 unfold divO at h;split at h
 ·cases h
 ·split at h
  ·unfold subO at h;split at h<;>cases h;exact bd_wrap _
  ·cases h;split<;>exact bd_wrap _
theorem bd_bn (b:Bool):InN (bn b):=by cases b<;>decide
theorem bd_ch0 (p q r s:Bool):InN (chN 0 p q r s):=by cases p<;>cases q<;>cases r<;>cases s<;>decide
theorem bd_ch1 (p q r s:Bool):InN (chN 1 p q r s):=by cases p<;>cases q<;>cases r<;>cases s<;>decide
theorem no_specB (op:ByteArray)(k a k' b:Int)(s s':ByteArray)(x7:(op.toList==[97,110,100])=false)(x8:(op.toList==[111,114])=false)(h:¬ (k=k'∧¬k=0))(w:World):Calls Tryz.prog 121 #[.string op,(.agg #[.int .i64 k,.int .i64 a,.string s]),(.agg #[.int .i64 k',.int .i64 b,.string s'])] w fun e w'=>e=.returned (.agg #[.int .i64 0,.int .i64 0,.string ⟨#[]⟩])∧Below w.heap.size w w':=by
 by_cases hk:k=k'
 ·subst hk;have h0:k=0:=by
   rcases Int.lt_trichotomy k 0 with h'|h'|h'
   ·exact absurd ⟨rfl,by omega⟩ h
   ·exact h'
   ·exact absurd ⟨rfl,by omega⟩ h
  subst h0;exact rS_null op a b s s' w x7 x8
 ·exact rS_ne op k k' a b s s' w x7 x8 (by simp[hk])
end
section
open Go.RowKit
attribute [local go_sem] ta_nullForm_nullForm ta_nullForm_intForm ta_nullForm_boolForm ta_nullForm_textForm ta_intForm_nullForm ta_intForm_intForm ta_intForm_boolForm ta_intForm_textForm ta_boolForm_nullForm ta_boolForm_intForm ta_boolForm_boolForm ta_boolForm_textForm ta_textForm_nullForm ta_textForm_intForm ta_textForm_boolForm ta_textForm_textForm ta_nil_nullForm ta_nil_intForm ta_nil_boolForm ta_nil_textForm
def notK (k n:Int):Int:=if k=2 then 2 else 0
def notN (k n:Int):Int:=if k=2∧n=0 then 1 else 0
def nulN (k:Int):Int:=if k=0 then 1 else 0
theorem ret_v {k k' n n':Int}(hk:k=k')(hn:n=n'):Ending.returned (.agg #[.int .i64 k,.int .i64 n,.string ⟨#[]⟩])=.returned (.agg #[.int .i64 k',.int .i64 n',.string ⟨#[]⟩]):=by rw[hk,hn]
theorem implNot_any (k n:Int)(s:ByteArray)(w:World):Calls Tryz.prog 133 #[(.agg #[.int .i64 k,.int .i64 n,.string s])] w fun e w'=>e=.returned (.agg #[.int .i64 (notK k n),.int .i64 (notN k n),.string ⟨#[]⟩])∧Below w.heap.size w w':=by
 go_enter Tryz.func133,Tryz.ntmps133;go_wp2;all_goals(go_returns;refine⟨ret_v ?_ ?_,by go_grown⟩)
 all_goals first|(simp_all [notK,notN];done)|(simp_all [notK,notN];omega)
theorem specNot_any (k n:Int)(s:ByteArray)(w:World):Calls Tryz.prog 122 #[(.agg #[.int .i64 k,.int .i64 n,.string s])] w fun e w'=>e=.returned (.agg #[.int .i64 (notK k n),.int .i64 (notN k n),.string ⟨#[]⟩])∧Below w.heap.size w w':=by
 go_enter Tryz.func122,Tryz.ntmps122;go_wp2;all_goals(go_returns;refine⟨ret_v ?_ ?_,by go_grown⟩)
 all_goals first|(simp_all [notK,notN];done)|(simp_all [notK,notN];omega)
theorem implNul_any (k n:Int)(s:ByteArray)(w:World):Calls Tryz.prog 135 #[(.agg #[.int .i64 k,.int .i64 n,.string s])] w fun e w'=>e=.returned (.agg #[.int .i64 2,.int .i64 (nulN k),.string ⟨#[]⟩])∧Below w.heap.size w w':=by
 go_enter Tryz.func135,Tryz.ntmps135;go_wp2;all_goals(go_returns;refine⟨ret_v ?_ ?_,by go_grown⟩)
 all_goals first|(simp_all [nulN];done)|(simp_all [nulN];omega)
theorem specNul_any (k n:Int)(s:ByteArray)(w:World):Calls Tryz.prog 123 #[(.agg #[.int .i64 k,.int .i64 n,.string s])] w fun e w'=>e=.returned (.agg #[.int .i64 2,.int .i64 (nulN k),.string ⟨#[]⟩])∧Below w.heap.size w w':=by
 go_enter Tryz.func123,Tryz.ntmps123;go_wp2;all_goals(go_returns;refine⟨ret_v ?_ ?_,by go_grown⟩)
 all_goals first|(simp_all [nulN];done)|(simp_all [nulN];omega)
end
section
open Go.RowKit
def zeroR:V3:=⟨0,0,⟨#[]⟩⟩
def goodR (r:V3):Prop:=InN r.n∧r.s.size≤1048576
def RB (m:Int)(p:ByteArray)(x y r:V3):Prop:=r.s=⟨#[]⟩∧
 (∀w:World,w.cell? ⟨0,0,none⟩=some (.int .i64 m)→Calls Tryz.prog 131 #[.string p,(.agg #[.int .i64 x.k,.int .i64 x.n,.string x.s]),(.agg #[.int .i64 y.k,.int .i64 y.n,.string y.s])] w fun e w'=>e=.returned (.agg #[.int .i64 r.k,.int .i64 r.n,.string r.s])∧Below w.heap.size w w')∧
 (∀w:World,Calls Tryz.prog 121 #[.string p,(.agg #[.int .i64 x.k,.int .i64 x.n,.string x.s]),(.agg #[.int .i64 y.k,.int .i64 y.n,.string y.s])] w fun e w'=>e=.returned (.agg #[.int .i64 r.k,.int .i64 r.n,.string r.s])∧Below w.heap.size w w')
def Res (m:Int):Nat→E7→List V3→V3→Prop
 |0,_,_,_=>False
 |f+1,e,vs,r=>
  (e.k=0∧0≤e.n∧r=vs.getD e.n.toNat zeroR)∨(e.k=1∧r=e.v)∨
  (e.k=2∧∃k0 k1 r0 r1,e.ks=[k0,k1]∧Res m f k0 vs r0∧Res m f k1 vs r1∧RB m e.p r0 r1 r)∨
  (e.k=3∧∃k0 r0,e.ks=[k0]∧Res m f k0 vs r0∧r=⟨notK r0.k r0.n,notN r0.k r0.n,⟨#[]⟩⟩)∨
  (e.k=4∧∃k0 r0,e.ks=[k0]∧Res m f k0 vs r0∧r=⟨2,nulN r0.k,⟨#[]⟩⟩)
theorem wf_inN {n:Int}(h:(Lit.int .i64 n).wf=true):InN n:=by
 have:=h;simp only[Lit.wf,Bool.and_eq_true,decide_eq_true_eq]at this;have e1:IntKind.i64.min= -9223372036854775808:=by decide
 have e2:IntKind.i64.max=9223372036854775807:=by decide
 unfold InN;omega
theorem kid_of {w:World}{d:Nat}{u:Value}{es:List E7}{F:List Nat}(h:KidsIs w (d+1) u es F){x:E7}(hx:x∈es):x.wf∧∃u' F',KidsIs w d u' x.ks F':=by
 obtain⟨a,c,G,rfl,_,_,hG,_,h⟩:=h;obtain⟨i,hi,rfl⟩:=List.mem_iff_getElem.1 hx;obtain⟨b,o,_,_,_,hL⟩:=h (by rintro rfl;simp at hi);obtain⟨hw,_,u',_,hK⟩:=hL i es[i] (G[i]'(by omega)) (by simp) (by simp);exact⟨hw,u',_,hK⟩
theorem KidsIs.succ {w:World}{d:Nat}{u:Value}{es:List E7}{F:List Nat}(h:KidsIs w d u es F):∃d',d=d'+1:=by
 cases d with
 |zero=>exact h.elim
 |succ d=>exact⟨d,rfl⟩
theorem two_of {l:List E7}(h:l.length=2):∃a b,l=[a,b]:=by
 match l,h with
 | [a,b],_=>exact⟨a,b,rfl⟩
theorem one_of {l:List E7}(h:l.length=1):∃a,l=[a]:=by
 match l,h with
 | [a],_=>exact⟨a,rfl⟩
end
end Go.Proofs.YtflokiejcjjbiaaGreat
