/- Own texts, joined: contracts that the law's proof goes by. -/
import Derived.Test.YtflokiejcjjbiaaGreatGLFits4
import Derived.Test.YtflokiejcjjbiaaGreatGLFits2
import Derived.Handy
import Derived.Laws.RangeAny
import Derived.Test.YtflokiejcjjbiaaGreatGLFits6
import Derived.Deep.RegionHeld3
set_option maxHeartbeats 16000000
set_option maxRecDepth 100000
set_option linter.unusedVariables false
set_option linter.unusedSimpArgs false
namespace Go.Proofs.YtflokiejcjjbiaaGreat
section
open Go.RowKit
def ops9:List ByteArray:=[⟨#[43]⟩,⟨#[45]⟩,⟨#[42]⟩,⟨#[47]⟩,⟨#[61]⟩,⟨#[60]⟩,⟨#[126]⟩,⟨#[97,110,100]⟩,⟨#[111,114]⟩]
def hasB (l:List ByteArray)(p:ByteArray):Bool:=l.any fun q=>q.toList==p.toList
def opB (p:ByteArray):Bool:=hasB ops9 p
theorem hasB_take {l:List ByteArray}{k:Nat}{q p:ByteArray}(h:l[k]?=some q):hasB (l.take (k+1)) p=(hasB (l.take k) p||q.toList==p.toList):=by
 obtain⟨hk,rfl⟩:=gE1 h;unfold hasB;rw[List.take_succ_eq_append_getElem hk,List.any_append];simp
theorem hasB_of_take {l:List ByteArray}{k:Nat}{p:ByteArray}(h:hasB (l.take k) p=true):hasB l p=true:=by
 unfold hasB at h⊢;obtain⟨q,hq,e⟩:=List.any_eq_true.1 h;exact List.any_eq_true.2 ⟨q,List.mem_of_mem_take hq,e⟩
theorem l03Has_any (b o c:Nat)(l:List ByteArray)(p:ByteArray)(w:World)(hl:l.length≤c)(hc:c≤1000)(hlt:b<w.heap.size)(h:∀i q,l[i]?=some q→w.cell? ⟨b,o+i,none⟩=some (.string q)):Calls Tryz.prog 120 #[.slice (some ⟨b,o,none⟩) l.length c,.string p] w fun e w'=>e=.returned (.bool (hasB l p))∧Below w.heap.size w w':=by
 go_enter Tryz.func120,Tryz.ntmps120;go_wp2;go_loopw [5] (fun i wr=> ∃k:Nat,k≤l.length∧i=.int .i64 k∧hasB (l.take k) p=false∧Below w.heap.size w wr) (fun i _=>l.length - (intOf i).toNat)
 case atStart=>exact⟨0,Nat.zero_le _,rfl,rfl,by go_grown⟩
 case round=>
  obtain⟨k,hk,rfl,hf,hb⟩:=hrel;by_cases hkt:k<l.length
  ·obtain⟨q,hq⟩:∃q,l[k]?=some q:=⟨l[k],by simp[hkt]⟩;have c0:wr.cell? ⟨b,o+k,none⟩=some (.string q):=(hb.cell (p:=⟨b,o+k,none⟩) hlt).trans (h k q hq);have H1:Hid (hasB (l.take (k+1)) p=(q.toList==p.toList)):=by show _=_;rw[hasB_take hq,hf,Bool.false_or]
   have HF:Hid (hasB (l.take k) p=false):=hf;clear h hq hf;by_cases he:(q.toList==p.toList)=true
   ·go_wp2;go_returns;refine⟨rB8 ?_,hb⟩;rw[hasB_of_take (H1.out.trans he)]
   ·have he':(q.toList==p.toList)=false:=by simpa using he
    go_wp2;exact⟨⟨k+1,hkt,by simp,H1.out.trans he',bex⟩,by simp[intOf];omega⟩
  ·have hkk:k=l.length:=by omega
   subst hkk;rw[List.take_length]at hf;have HF:Hid (hasB l p=false):=hf;clear hf h;go_wp2;go_returns;exact⟨rB8 HF.out.symm,hb⟩
theorem Tryz.next7 (w:World)(ty:TypeId)(k:Nat)(hk:k<7):(Instr.next (.pointer (some ⟨w.heap.size,0,none⟩)) true ty).run Tryz.prog (w.iter ⟨#[43,45,42,47,61,60,126]⟩ k)=.ok (.tuple #[.bool true,.int .i64 k,.int .i32 (([43,45,42,47,61,60,126]:List Int)[k]'hk)]) (w.iter ⟨#[43,45,42,47,61,60,126]⟩ (k+1)):=by
 rw[run_next_any w ⟨#[43,45,42,47,61,60,126]⟩ k ty hk]
 match k,hk with
 |0,_=>rfl
 |1,_=>rfl
 |2,_=>rfl
 |3,_=>rfl
 |4,_=>rfl
 |5,_=>rfl
 |6,_=>rfl
theorem enc7 (k:Nat)(hk:k<7):∃q,ops9[k]?=some q∧(Utf8.encode (([43,45,42,47,61,60,126]:List Int)[k]'hk)).toList=q.toList:=by
 match k,hk with
 |0,_=>exact⟨_,rfl,rfl⟩
 |1,_=>exact⟨_,rfl,rfl⟩
 |2,_=>exact⟨_,rfl,rfl⟩
 |3,_=>exact⟨_,rfl,rfl⟩
 |4,_=>exact⟨_,rfl,rfl⟩
 |5,_=>exact⟨_,rfl,rfl⟩
 |6,_=>exact⟨_,rfl,rfl⟩
theorem beq_flip (a b:List UInt8):(a==b)=(b==a):=by rw[Bool.eq_iff_iff,beq_iff_eq,beq_iff_eq];exact eq_comm
theorem opB_end {p:ByteArray}(h:hasB (ops9.take 7) p=false):opB p=(p.toList==[97,110,100]||p.toList==[111,114]):=by
 have e:opB p=(hasB (ops9.take 7) p||hasB (ops9.drop 7) p):=by unfold opB hasB;rw[←List.any_append,List.take_append_drop]
 rw[e,h,Bool.false_or];have e1:(⟨#[97,110,100]⟩:ByteArray).toList=[97,110,100]:=by first|(simp;done)|kernel_rfl
 have e2:(⟨#[111,114]⟩:ByteArray).toList=[111,114]:=by first|(simp;done)|kernel_rfl
 simp only[hasB,ops9,List.drop_succ_cons,List.drop_zero,List.any_cons,List.any_nil,Bool.or_false,e1,e2];rw[beq_flip [97,110,100],beq_flip [111,114]]
theorem opOk_any (p:ByteArray)(w:World):Calls Tryz.prog 170 #[.string p] w fun e w'=>e=.returned (.bool (opB p))∧Below w.heap.size w w':=by
 go_enter Tryz.func170,Tryz.ntmps170;go_wp2;go_loopw [] (fun w'=> ∃k:Nat,k≤7∧w'=w.iter ⟨#[43,45,42,47,61,60,126]⟩ k∧hasB (ops9.take k) p=false) (fun w'=>7 -w'.iterPos w.heap.size)
 case atStart=>exact⟨0,by omega,rfl,rfl⟩
 case round=>
  obtain⟨k,hk,rfl,hf⟩:=hrel;have hbel:∀j,Below w.heap.size w (w.iter ⟨#[43,45,42,47,61,60,126]⟩ j):=fun j=>(Below.refl _ _).alloc (Nat.le_refl _) _;have HF:Hid (hasB (ops9.take k) p=false):=hf;by_cases hp:k<7
  ·have hnx:∀ty,(Instr.next (.pointer (some ⟨w.heap.size,0,none⟩)) true ty).run Tryz.prog (w.iter ⟨#[43,45,42,47,61,60,126]⟩ k)=_:=fun ty=>Tryz.next7 w ty k hp;obtain⟨q,hq,he⟩:=enc7 k hp;have H1:Hid (hasB (ops9.take (k+1)) p=(p.toList==q.toList)):=by show _=_;rw[hasB_take hq,hf,Bool.false_or,beq_flip]
   generalize([43,45,42,47,61,60,126]:List Int)[k]'hp=z at hnx he;have HE:Hid ((Utf8.encode z).toList=q.toList):=he;clear hf hq he;go_wp2;all_goals rename_i h
   all_goals rw[HE.out]at h
   all_goals first
    |(go_returns;exact⟨rB8 (hasB_of_take (H1.out.trans h)).symm,hbel _⟩)
    |exact⟨⟨k+1,hp,rfl,H1.out.trans h⟩,by simp;omega⟩
  ·have hnx:∀ty,(Instr.next (.pointer (some ⟨w.heap.size,0,none⟩)) true ty).run Tryz.prog (w.iter ⟨#[43,45,42,47,61,60,126]⟩ k)=_:=fun ty=>run_next_end w ⟨#[43,45,42,47,61,60,126]⟩ k ty hp;obtain rfl:k=7:=by omega
   have HO:=opB_end hf;have HO:Hid (opB p=(p.toList==[97,110,100]||p.toList==[111,114])):=HO;clear hf;go_wp2;all_goals(go_returns;refine⟨rB8 ?_,hbel _⟩;first|(rw[HO.out];done)|(rw[HO.out];simp_all))
end
section
open Go.RowKit
attribute [local go_sem] ta_nullForm_nullForm ta_nullForm_intForm ta_nullForm_boolForm ta_nullForm_textForm ta_intForm_nullForm ta_intForm_intForm ta_intForm_boolForm ta_intForm_textForm ta_boolForm_nullForm ta_boolForm_intForm ta_boolForm_boolForm ta_boolForm_textForm ta_textForm_nullForm ta_textForm_intForm ta_textForm_boolForm ta_textForm_textForm ta_nil_nullForm ta_nil_intForm ta_nil_boolForm ta_nil_textForm
theorem implValueOk_0 (n:Int)(s:ByteArray)(w:World):Calls Tryz.prog 116 #[(.agg #[.int .i64 0,.int .i64 n,.string s])] w fun e w'=>e=.returned (.bool (okB 0 n s))∧Below w.heap.size w w':=by
 have hq:=eqV;go_enter Tryz.func116,Tryz.ntmps116;go_wp2_with(first|(go_at_call 136;refine(formOf_0 _ _ _).mono ?_;rintro e w1 ⟨rfl,rfl⟩))
 first|go_region_calls|fail
 all_goals(go_wp2;go_returns;refine⟨rB8 ?_,?_⟩)
 all_goals first|(go_grown;done)|((repeat (first|exact Below.refl _ _|refine Below.drew ?_|refine Below.alloc ?_ (by first|(simp;done)|(simp;omega)|omega) _|refine bstep (by assumption) (by first|(simp;done)|(simp;omega)|omega) ?_));done)|(clear hq;rw[okB_0];simp[beq0])
theorem implValueOk_1 (n:Int)(s:ByteArray)(w:World):Calls Tryz.prog 116 #[(.agg #[.int .i64 1,.int .i64 n,.string s])] w fun e w'=>e=.returned (.bool (okB 1 n s))∧Below w.heap.size w w':=by
 have hq:=eqV;go_enter Tryz.func116,Tryz.ntmps116;go_wp2_with(first|(go_at_call 136;refine(formOf_1 _ _ _).mono ?_;rintro e w1 ⟨rfl,rfl⟩))
 first|go_region_calls|fail
 all_goals(go_wp2;go_returns;refine⟨rB8 ?_,?_⟩)
 all_goals first|(go_grown;done)|((repeat (first|exact Below.refl _ _|refine Below.drew ?_|refine Below.alloc ?_ (by first|(simp;done)|(simp;omega)|omega) _|refine bstep (by assumption) (by first|(simp;done)|(simp;omega)|omega) ?_));done)|(clear hq;rw[okB_1];simp)
theorem implValueOk_2 (n:Int)(s:ByteArray)(w:World):Calls Tryz.prog 116 #[(.agg #[.int .i64 2,.int .i64 n,.string s])] w fun e w'=>e=.returned (.bool (okB 2 n s))∧Below w.heap.size w w':=by
 have hq:=eqV;by_cases hc:n=0∨n=1
 ·go_enter Tryz.func116,Tryz.ntmps116;go_wp2_with(first|(go_at_call 136;refine(formOf_2 _ _ _).mono ?_;rintro e w1 ⟨rfl,rfl⟩))
  first|go_region_held3 (fun w'=>w'.cell? ⟨w.heap.size,0,none⟩=some (.int .i64 2)∧w'.cell? ⟨w.heap.size,1,none⟩=some (.int .i64 n)∧w'.cell? ⟨w.heap.size,2,none⟩=some (.string s)) (refine⟨?_,?_,?_⟩<;>first|(go_simp;done)|(exact cL8 (by assumption) (by go_simp))) (first|(go_at_call 238;refine(inRange_2 _ _ hc).mono ?_;rintro e w1 ⟨rfl,hb1⟩;have hz1:=hb1.size;(try simp at hz1);have hy1:w.heap.size<w1.heap.size:=(by omega))|(go_at_call 143;refine(valueOf_2 _ _).mono ?_;rintro e w2 ⟨rfl,hb2⟩;have hz2:=hb2.size;(try simp at hz2);have hy2:w.heap.size<w2.heap.size:=(by omega)))|fail
  all_goals(go_wp2;go_returns;refine⟨rB8 ?_,?_⟩)
  all_goals first|(go_grown;done)|((repeat (first|exact Below.refl _ _|refine Below.drew ?_|refine Below.alloc ?_ (by first|(simp;done)|(simp;omega)|omega) _|refine bstep (by assumption) (by first|(simp;done)|(simp;omega)|omega) ?_));done)|(clear hq;rw[okB_2];rcases hc with rfl|rfl<;>simp)
 have hx0:(n==0)=false:=by simp;omega
 have hx1:(n==1)=false:=by simp;omega
 go_enter Tryz.func116,Tryz.ntmps116;go_wp2_with(first|(go_at_call 136;refine(formOf_2 _ _ _).mono ?_;rintro e w1 ⟨rfl,rfl⟩))
 first|go_region_with (first|(go_at_call 238;refine(inRange_2x _ _ hx0 hx1).mono ?_;rintro e w1 ⟨rfl,hb1⟩;have hz1:=hb1.size;(try simp at hz1);have hy1:w.heap.size<w1.heap.size:=(by omega)))|fail
 all_goals(go_wp2;go_returns;refine⟨rB8 ?_,?_⟩)
 all_goals first|(go_grown;done)|((repeat (first|exact Below.refl _ _|refine Below.drew ?_|refine Below.alloc ?_ (by first|(simp;done)|(simp;omega)|omega) _|refine bstep (by assumption) (by first|(simp;done)|(simp;omega)|omega) ?_));done)|(clear hq;rw[okB_2];simp[hx0,hx1])
theorem implValueOk_3 (n:Int)(s:ByteArray)(w:World)(hs:s.size≤maxLen):Calls Tryz.prog 116 #[(.agg #[.int .i64 3,.int .i64 n,.string s])] w fun e w'=>e=.returned (.bool (okB 3 n s))∧Below w.heap.size w w':=by
 have hq:=eqV;by_cases hc:(s.size:Int)≤100
 ·go_enter Tryz.func116,Tryz.ntmps116;go_wp2_with(first|(go_at_call 136;refine(formOf_3 _ _ _).mono ?_;rintro e w1 ⟨rfl,rfl⟩))
  first|go_region_held3 (fun w'=>w'.cell? ⟨w.heap.size,0,none⟩=some (.int .i64 3)∧w'.cell? ⟨w.heap.size,1,none⟩=some (.int .i64 n)∧w'.cell? ⟨w.heap.size,2,none⟩=some (.string s)) (refine⟨?_,?_,?_⟩<;>first|(go_simp;done)|(exact cL8 (by assumption) (by go_simp))) (first|(go_at_call 241;refine(inRange_3 _ _ hs hc).mono ?_;rintro e w1 ⟨rfl,hb1⟩;have hz1:=hb1.size;(try simp at hz1);have hy1:w.heap.size<w1.heap.size:=(by omega))|(go_at_call 143;refine(valueOf_3 _ _).mono ?_;rintro e w2 ⟨rfl,hb2⟩;have hz2:=hb2.size;(try simp at hz2);have hy2:w.heap.size<w2.heap.size:=(by omega)))|fail
  all_goals(go_wp2;go_returns;refine⟨rB8 ?_,?_⟩)
  all_goals first|(go_grown;done)|((repeat (first|exact Below.refl _ _|refine Below.drew ?_|refine Below.alloc ?_ (by first|(simp;done)|(simp;omega)|omega) _|refine bstep (by assumption) (by first|(simp;done)|(simp;omega)|omega) ?_));done)|(clear hq;rw[okB_3];have hc':s.size≤100:=(by omega);simp[beq0,hc'])
 ·go_enter Tryz.func116,Tryz.ntmps116;go_wp2_with(first|(go_at_call 136;refine(formOf_3 _ _ _).mono ?_;rintro e w1 ⟨rfl,rfl⟩))
  first|go_region_with (first|(go_at_call 241;refine(inRange_3x _ _ hs (by omega)).mono ?_;rintro e w1 ⟨rfl,hb1⟩;have hz1:=hb1.size;(try simp at hz1);have hy1:w.heap.size<w1.heap.size:=(by omega)))|fail
  all_goals(go_wp2;go_returns;refine⟨rB8 ?_,?_⟩)
  all_goals first|(go_grown;done)|((repeat (first|exact Below.refl _ _|refine Below.drew ?_|refine Below.alloc ?_ (by first|(simp;done)|(simp;omega)|omega) _|refine bstep (by assumption) (by first|(simp;done)|(simp;omega)|omega) ?_));done)|(clear hq;rw[okB_3];have hc':¬s.size≤100:=(by omega);simp[hc'])
theorem implValueOk_x (k:Int)(n:Int)(s:ByteArray)(w:World)(h0:(k==0)=false)(h1:(k==1)=false)(h2:(k==2)=false)(h3:(k==3)=false):Calls Tryz.prog 116 #[(.agg #[.int .i64 k,.int .i64 n,.string s])] w fun e w'=>e=.returned (.bool (okB k n s))∧Below w.heap.size w w':=by
 have hq:=eqV;go_enter Tryz.func116,Tryz.ntmps116;go_wp2_with(first|(go_at_call 136;refine(formOf_x _ _ _ _ h0 h1 h2 h3).mono ?_;rintro e w1 ⟨rfl,rfl⟩))
 first|go_region_calls|fail
 all_goals(go_wp2;go_returns;refine⟨rB8 ?_,?_⟩)
 all_goals first|(go_grown;done)|((repeat (first|exact Below.refl _ _|refine Below.drew ?_|refine Below.alloc ?_ (by first|(simp;done)|(simp;omega)|omega) _|refine bstep (by assumption) (by first|(simp;done)|(simp;omega)|omega) ?_));done)|(clear hq;rw[okB_x k n s (by simpa using h0) (by simpa using h1) (by simpa using h2) (by simpa using h3)])
theorem implValueOk_any (k n:Int)(s:ByteArray)(w:World)(hs:s.size≤maxLen):Calls Tryz.prog 116 #[(.agg #[.int .i64 k,.int .i64 n,.string s])] w fun e w'=>e=.returned (.bool (okB k n s))∧Below w.heap.size w w':=by
 by_cases h0:k=0
 ·subst h0;exact implValueOk_0 n s w
 by_cases h1:k=1
 ·subst h1;exact implValueOk_1 n s w
 by_cases h2:k=2
 ·subst h2;exact implValueOk_2 n s w
 by_cases h3:k=3
 ·subst h3;exact implValueOk_3 n s w hs
 exact implValueOk_x k n s w (by simp[h0]) (by simp[h1]) (by simp[h2]) (by simp[h3])
end
section
open Go.RowKit
def zeroV (v:V3):Bool:=v.k==0 && (v.n==0 &&v.s.toList==[])
def colB (n:Int):Bool:=decide (0≤n) &&decide (n<12)
def partsB (e:E7):Bool:=
 if e.k=0 then colB e.n &&zeroV e.v &&e.p.toList==[] &&e.ks.length==0
 else if e.k=1 then e.n==0 &&okB e.v.k e.v.n e.v.s &&e.p.toList==[] &&e.ks.length==0
 else if e.k=2 then e.n==0 &&zeroV e.v &&opB e.p &&e.ks.length==2
 else if e.k=3∨e.k=4 then e.n==0 &&zeroV e.v &&e.p.toList==[] &&e.ks.length==1
 else false
theorem colOk_any (n:Int)(w:World):Calls Tryz.prog 169 #[.int .i64 n] w fun e w'=>e=.returned (.bool (colB n))∧Below w.heap.size w w':=by
 by_cases h1:0≤n
 ·go_enter Tryz.func169,Tryz.ntmps169;go_wp2;go_returns;exact⟨rB8 (by simp[colB,h1]),by go_grown⟩
 ·go_enter Tryz.func169,Tryz.ntmps169;go_wp2;go_returns;exact⟨rB8 (by simp[colB];omega),by go_grown⟩
theorem mb0 (m:Nat):((m:Int)==0)=(m==0):=by rw[Bool.eq_iff_iff];simp
theorem mb1 (m:Nat):((m:Int)==1)=(m==1):=by rw[Bool.eq_iff_iff];simp;omega
theorem mb2 (m:Nat):((m:Int)==2)=(m==2):=by rw[Bool.eq_iff_iff];simp;omega
theorem partsB_0 {e:E7}(h:e.k=0):partsB e=(colB e.n &&zeroV e.v &&e.p.toList==[] &&e.ks.length==0):=by simp[partsB,h]
theorem partsB_1 {e:E7}(h:e.k=1):partsB e=(e.n==0 &&okB e.v.k e.v.n e.v.s &&e.p.toList==[] &&e.ks.length==0):=by simp[partsB,h]
theorem partsB_2 {e:E7}(h:e.k=2):partsB e=(e.n==0 &&zeroV e.v &&opB e.p &&e.ks.length==2):=by simp[partsB,h]
theorem partsB_3 {e:E7}(h:e.k=3):partsB e=(e.n==0 &&zeroV e.v &&e.p.toList==[] &&e.ks.length==1):=by simp[partsB,h]
theorem partsB_4 {e:E7}(h:e.k=4):partsB e=(e.n==0 &&zeroV e.v &&e.p.toList==[] &&e.ks.length==1):=by simp[partsB,h]
theorem partsB_x {e:E7}(h0:¬e.k=0)(h1:¬e.k=1)(h2:¬e.k=2)(h3:¬e.k=3)(h4:¬e.k=4):partsB e=false:=by simp[partsB,h0,h1,h2,h3,h4]
theorem partsOk_0 (e:E7)(a:Option Addr)(c:Nat)(w:World)(hs:e.v.s.size≤maxLen)(hc:e.ks.length≤maxLen)(h:e.k=0):Calls Tryz.prog 151 #[(.agg #[.int .i64 e.k,.int .i64 e.n,.int .i64 e.v.k,.int .i64 e.v.n,.string e.v.s,.string e.p,(.slice a e.ks.length c)])] w fun x w'=>x=.returned (.bool (partsB e))∧Below w.heap.size w w':=by
 rw[partsB_0 h];have hq:=eqV;unfold maxLen at hc;generalize e.ks.length=m at*;generalize e.k=k at*;generalize e.n=n at*;generalize e.v=v at*;generalize e.p=p at*;obtain⟨vk,vn,vs⟩:=v;dsimp only at*;subst h;go_enter Tryz.func151,Tryz.ntmps151;go_wp2_with fail;refine cM8 (colOk_any n _) ?_;rintro x w1 ⟨rfl,hb1⟩;have hz1:=hb1.size;simp at hz1;have q2:w1.cell? ⟨w.heap.size,2,none⟩=some (.int .i64 vk):=cL8 hb1 (by go_simp);have q3:w1.cell? ⟨w.heap.size,3,none⟩=some (.int .i64 vn):=cL8 hb1 (by go_simp);have q4:w1.cell? ⟨w.heap.size,4,none⟩=some (.string vs):=cL8 hb1 (by go_simp);have q5:w1.cell? ⟨w.heap.size,5,none⟩=some (.string p):=cL8 hb1 (by go_simp);have z0:w1.cell? ⟨w.heap.size+1,0,none⟩=some (.int .i64 0):=cL8 hb1 (by go_simp);have z1:w1.cell? ⟨w.heap.size+1,1,none⟩=some (.int .i64 0):=cL8 hb1 (by go_simp);have z2:w1.cell? ⟨w.heap.size+1,2,none⟩=some (.string ⟨#[]⟩):=cL8 hb1 (by go_simp);have bel:Below w.heap.size w w1:=bex;generalize hB:colB n=b1;have HB:Hid _:=hB;clear hb1 hB;go_wp2;all_goals(go_returns;exact⟨rB8 (by clear hq;(try have hB:=HB.out);simp_all [zeroV,mb0]),bex⟩)
theorem partsOk_1 (e:E7)(a:Option Addr)(c:Nat)(w:World)(hs:e.v.s.size≤maxLen)(hc:e.ks.length≤maxLen)(h:e.k=1):Calls Tryz.prog 151 #[(.agg #[.int .i64 e.k,.int .i64 e.n,.int .i64 e.v.k,.int .i64 e.v.n,.string e.v.s,.string e.p,(.slice a e.ks.length c)])] w fun x w'=>x=.returned (.bool (partsB e))∧Below w.heap.size w w':=by
 rw[partsB_1 h];have hq:=eqV;unfold maxLen at hc;generalize e.ks.length=m at*;generalize e.k=k at*;generalize e.n=n at*;generalize e.v=v at*;generalize e.p=p at*;obtain⟨vk,vn,vs⟩:=v;dsimp only at*;subst h;go_enter Tryz.func151,Tryz.ntmps151;go_wp2_with fail
 ·refine cM8 (implValueOk_any vk vn vs _ hs) ?_;rintro x w1 ⟨rfl,hb1⟩;have hz1:=hb1.size;simp at hz1;have q5:w1.cell? ⟨w.heap.size,5,none⟩=some (.string p):=cL8 hb1 (by go_simp);have bel:Below w.heap.size w w1:=bex;generalize hB:okB vk vn vs=b1;have HB:Hid _:=hB;clear hb1 hB;go_wp2;all_goals(go_returns;exact⟨rB8 (by clear hq;(try have hB:=HB.out);simp_all [mb0]),bex⟩)
 ·go_returns;exact⟨rB8 (by simp_all),bex⟩
theorem partsOk_2 (e:E7)(a:Option Addr)(c:Nat)(w:World)(hs:e.v.s.size≤maxLen)(hc:e.ks.length≤maxLen)(h:e.k=2):Calls Tryz.prog 151 #[(.agg #[.int .i64 e.k,.int .i64 e.n,.int .i64 e.v.k,.int .i64 e.v.n,.string e.v.s,.string e.p,(.slice a e.ks.length c)])] w fun x w'=>x=.returned (.bool (partsB e))∧Below w.heap.size w w':=by
 rw[partsB_2 h];have hq:=eqV;unfold maxLen at hc;generalize e.ks.length=m at*;generalize e.k=k at*;generalize e.n=n at*;generalize e.v=v at*;generalize e.p=p at*;obtain⟨vk,vn,vs⟩:=v;dsimp only at*;subst h;go_enter Tryz.func151,Tryz.ntmps151;go_wp2_with fail
 ·refine cM8 (opOk_any p _) ?_;rintro x w1 ⟨rfl,hb1⟩;have hz1:=hb1.size;simp at hz1;have bel:Below w.heap.size w w1:=bex;generalize hB:opB p=b1;have HB:Hid _:=hB;clear hb1 hB;go_wp2;all_goals(go_returns;exact⟨rB8 (by clear hq;(try have hB:=HB.out);simp_all [zeroV,mb2]),bex⟩)
 all_goals(go_returns;exact⟨rB8 (by clear hq;(try have hB:=HB.out);simp_all [zeroV]),bex⟩)
theorem partsOk_3 (e:E7)(a:Option Addr)(c:Nat)(w:World)(hs:e.v.s.size≤maxLen)(hc:e.ks.length≤maxLen)(h:e.k=3):Calls Tryz.prog 151 #[(.agg #[.int .i64 e.k,.int .i64 e.n,.int .i64 e.v.k,.int .i64 e.v.n,.string e.v.s,.string e.p,(.slice a e.ks.length c)])] w fun x w'=>x=.returned (.bool (partsB e))∧Below w.heap.size w w':=by
 rw[partsB_3 h];have hq:=eqV;unfold maxLen at hc;generalize e.ks.length=m at*;generalize e.k=k at*;generalize e.n=n at*;generalize e.v=v at*;generalize e.p=p at*;obtain⟨vk,vn,vs⟩:=v;dsimp only at*;subst h;go_enter Tryz.func151,Tryz.ntmps151;go_wp2;all_goals(go_returns;exact⟨rB8 (by clear hq;(try have hB:=HB.out);simp_all [zeroV,mb1]),bex⟩)
theorem partsOk_4 (e:E7)(a:Option Addr)(c:Nat)(w:World)(hs:e.v.s.size≤maxLen)(hc:e.ks.length≤maxLen)(h:e.k=4):Calls Tryz.prog 151 #[(.agg #[.int .i64 e.k,.int .i64 e.n,.int .i64 e.v.k,.int .i64 e.v.n,.string e.v.s,.string e.p,(.slice a e.ks.length c)])] w fun x w'=>x=.returned (.bool (partsB e))∧Below w.heap.size w w':=by
 rw[partsB_4 h];have hq:=eqV;unfold maxLen at hc;generalize e.ks.length=m at*;generalize e.k=k at*;generalize e.n=n at*;generalize e.v=v at*;generalize e.p=p at*;obtain⟨vk,vn,vs⟩:=v;dsimp only at*;subst h;go_enter Tryz.func151,Tryz.ntmps151;go_wp2;all_goals(go_returns;exact⟨rB8 (by clear hq;(try have hB:=HB.out);simp_all [zeroV,mb1]),bex⟩)
theorem partsOk_x (e:E7)(a:Option Addr)(c:Nat)(w:World)(hs:e.v.s.size≤maxLen)(hc:e.ks.length≤maxLen)(h0:¬e.k=0)(h1:¬e.k=1)(h2:¬e.k=2)(h3:¬e.k=3)(h4:¬e.k=4):Calls Tryz.prog 151 #[(.agg #[.int .i64 e.k,.int .i64 e.n,.int .i64 e.v.k,.int .i64 e.v.n,.string e.v.s,.string e.p,(.slice a e.ks.length c)])] w fun x w'=>x=.returned (.bool (partsB e))∧Below w.heap.size w w':=by
 rw[partsB_x h0 h1 h2 h3 h4];have hq:=eqV;unfold maxLen at hc;generalize e.ks.length=m at*;generalize e.k=k at*;generalize e.n=n at*;generalize e.v=v at*;generalize e.p=p at*;obtain⟨vk,vn,vs⟩:=v;dsimp only at*;go_enter Tryz.func151,Tryz.ntmps151;go_wp2;all_goals(go_returns;exact⟨rfl,bex⟩)
theorem partsOk_any (e:E7)(a:Option Addr)(c:Nat)(w:World)(hs:e.v.s.size≤maxLen)(hc:e.ks.length≤maxLen):Calls Tryz.prog 151 #[(.agg #[.int .i64 e.k,.int .i64 e.n,.int .i64 e.v.k,.int .i64 e.v.n,.string e.v.s,.string e.p,(.slice a e.ks.length c)])] w fun x w'=>x=.returned (.bool (partsB e))∧Below w.heap.size w w':=by
 by_cases h0:e.k=0
 ·exact partsOk_0 e a c w hs hc h0
 by_cases h1:e.k=1
 ·exact partsOk_1 e a c w hs hc h1
 by_cases h2:e.k=2
 ·exact partsOk_2 e a c w hs hc h2
 by_cases h3:e.k=3
 ·exact partsOk_3 e a c w hs hc h3
 by_cases h4:e.k=4
 ·exact partsOk_4 e a c w hs hc h4
 exact partsOk_x e a c w hs hc h0 h1 h2 h3 h4
end
end Go.Proofs.YtflokiejcjjbiaaGreat
