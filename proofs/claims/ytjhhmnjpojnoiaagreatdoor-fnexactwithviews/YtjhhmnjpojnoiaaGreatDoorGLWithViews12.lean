/- Own texts, joined: contracts that the law's proof goes by. -/
import Derived.Test.YtjhhmnjpojnoiaaGreatDoorParts
import Derived.Test.YtjhhmnjpojnoiaaGreatDoorGLWithViews1
import Derived.Test.YtjhhmnjpojnoiaaGreatDoorExpC
import Derived.Handy
import Derived.Test.YtjhhmnjpojnoiaaGreatDoorGLWithViews8
import Derived.Test.YtjhhmnjpojnoiaaGreatDoorGLWithViews2
import Derived.Test.YtjhhmnjpojnoiaaGreatDoorShelf
import Derived.Lib.IndexLaws
import Derived.Lib.IndexMore
import Derived.Test.YtjhhmnjpojnoiaaGreatDoorCpL
import Derived.Test.YtjhhmnjpojnoiaaGreatDoorGLWithViews3
set_option maxHeartbeats 16000000
set_option maxRecDepth 100000
set_option linter.unusedVariables false
set_option linter.unusedSimpArgs false
namespace Go.Proofs.YtjhhmnjpojnoiaaGreatDoor
section
section
open Go.RowKit
def okE:Nat→E7→Bool
 |0,_=>false
 |f+1,e=>partsB e &&e.ks.all (okE f)
theorem allE_step {es:List E7}{k:Nat}{x:E7}{q:E7→Bool}(h:es[k]?=some x):(es.drop k).all q=(q x && (es.drop (k+1)).all q):=by
 obtain⟨hk,rfl⟩:=gE1 h;rw[List.drop_eq_getElem_cons hk,List.all_cons]
def OkI (f:Nat):Prop:=∀ (e:E7) (u:Value) (F:List Nat) (d:Nat) (w:World),e.wf→KidsIs w d u e.ks F→
  Calls Tryz.prog 148 #[(.agg #[.int .i64 e.k,.int .i64 e.n,.int .i64 e.v.k,.int .i64 e.v.n,.string e.v.s,.string e.p,u]),.int .i64 (13 -f)] w fun x w'=>x=.returned (.bool (okE f e))∧Below w.heap.size w w'
theorem expOkAt_zero:OkI 0:=by
 intro e u F d w hw hk;obtain⟨a,c,rfl,_,_⟩:=hk.shape;simp only[okE];go_enter Tryz.func148,Tryz.ntmps148;go_wp2;go_returns;exact⟨rfl,bex⟩
theorem expOkAt_step {f:Nat}(hf:f<13)(hI:OkI f):OkI (f+1):=by
 intro e u F d w hw hk;obtain⟨d,rfl⟩:∃d',d=d'+1:=by cases d with|zero=>exact hk.elim|succ d=>exact⟨d,rfl⟩
 obtain⟨a,c,b,o,G,rfl,hl,hc,hG,_,ha⟩:=hk.pick;have hml:e.ks.length≤maxLen:=by omega
 have hsm:e.v.s.size≤maxLen:=hw.2.2.1.2.2;unfold maxLen at hc;obtain⟨t,ht⟩:∃t:Int,t=13 - ((f+1:Nat):Int):=⟨_,rfl⟩;rw[←ht];have ht0:0≤t:=by omega
 have ht1:t≤12:=by omega
 have HT:Hid (t+1=13 - (f:Int)):=by show _=_;omega
 have HO:Hid (okE (f+1) e=(partsB e &&e.ks.all (okE f))):=rfl;have hI2:∀ (e:E7) (u:Value) (F:List Nat) (d:Nat) (w:World),e.wf→KidsIs w d u e.ks F→ Calls Tryz.prog 148 #[(.agg #[.int .i64 e.k,.int .i64 e.n,.int .i64 e.v.k,.int .i64 e.v.n,.string e.v.s,.string e.p,u]),.int .i64 (t+1)] w fun x w'=>x=.returned (.bool (okE f e))∧Below w.heap.size w w':=by rw[HT.out];exact hI
 clear ht hf hI HT;go_enter Tryz.func148,Tryz.ntmps148;go_wp2_with fail;refine cM8 (partsOk_any e a c _ hsm hml) ?_;rintro x w1 ⟨rfl,hb1⟩;have hz1:=hb1.size;simp at hz1;have q6:w1.cell? ⟨w.heap.size,6,none⟩=some (.slice a e.ks.length c):=cL8 hb1 (by go_simp);have bel:Below w.heap.size w w1:=bex;cases hB:partsB e with
 |false=>
  have HB:Hid (okE (f+1) e=false):=by show _=_;rw[HO.out,hB];rfl
  clear hB;go_wp2;go_returns;exact⟨rB8 HB.out.symm,bel⟩
 |true=>
  have HB:Hid (okE (f+1) e=e.ks.all (okE f)):=by show _=_;rw[HO.out,hB];rfl
  clear hB HO hb1;go_wp2;go_loopw [17] (fun i wr=> ∃k:Nat,k≤e.ks.length∧i=.int .i64 k∧e.ks.all (okE f)=(e.ks.drop k).all (okE f)∧Below w.heap.size w wr) (fun i _=>e.ks.length - (intOf i).toNat)
  case atStart=>exact⟨0,Nat.zero_le _,rfl,by simp,bex⟩
  case round=>
   obtain⟨k,hkk,rfl,hal,hb⟩:=hrel;have hzb:=hb.size;by_cases hlt:k<e.ks.length
   ·obtain⟨rfl,hblt,_,hL⟩:=ha k hlt;obtain⟨x,g,u,hx,hg,hxw,⟨c0,c1,c2,c3,c4,c5⟩,c6,hK,hbr⟩:=hL.at hG hblt hb hlt;obtain⟨ax,cx,rfl,_,_⟩:=hK.shape;have HS:Hid (e.ks.all (okE f)=(okE f x && (e.ks.drop (k+1)).all (okE f))):=by show _=_;rw[hal,allE_step hx]
    clear ha hL hx hal;go_wp2_with fail;refine cM8 (hI2 x (.slice ax x.ks.length cx) g d _ hxw (hK.below ?hb)) ?_
    case hb=>exact bex
    rintro y w2 ⟨rfl,hb2⟩;have hz2:=hb2.size;simp at hz2;have bel2:Below w.heap.size w w2:=bex;cases hX:okE f x with
    |false=>
     have HX:Hid (okE (f+1) e=false):=by show _=_;rw[HB.out,HS.out,hX];rfl
     clear hX;go_wp2;go_returns;exact⟨rB8 HX.out.symm,bel2⟩
    |true=>
     have HX:Hid (e.ks.all (okE f)=(e.ks.drop (k+1)).all (okE f)):=by show _=_;rw[HS.out,hX];rfl
     clear hX;go_wp2;exact⟨⟨k+1,hlt,by simp,HX.out,bel2⟩,by simp[intOf];omega⟩
   ·go_wp2;go_returns;refine⟨rB8 ?_,hb⟩;rw[HB.out,hal,List.drop_eq_nil_of_le (by omega)];rfl
theorem expOkAt_any:∀f,f≤13→OkI f
 |0,_=>expOkAt_zero
 |f+1,h=>expOkAt_step (by omega) (expOkAt_any f (by omega))
theorem implExpOk_any (e:E7)(u:Value)(F:List Nat)(d:Nat)(w:World)(hw:e.wf)(hk:KidsIs w d u e.ks F):Calls Tryz.prog 138 #[(.agg #[.int .i64 e.k,.int .i64 e.n,.int .i64 e.v.k,.int .i64 e.v.n,.string e.v.s,.string e.p,u])] w fun x w'=>x=.returned (.bool (okE 13 e))∧Below w.heap.size w w':=by
 have hI:=expOkAt_any 13 (Nat.le_refl _);have hI2:∀ (e:E7) (u:Value) (F:List Nat) (d:Nat) (w:World),e.wf→KidsIs w d u e.ks F→ Calls Tryz.prog 148 #[(.agg #[.int .i64 e.k,.int .i64 e.n,.int .i64 e.v.k,.int .i64 e.v.n,.string e.v.s,.string e.p,u]),.int .i64 0] w fun x w'=>x=.returned (.bool (okE 13 e))∧Below w.heap.size w w':=hI;clear hI;obtain⟨a,c,rfl,_,_⟩:=hk.shape;go_enter Tryz.func138,Tryz.ntmps138;go_wp2_with fail;refine cM8 (hI2 e (.slice a e.ks.length c) F d _ hw (hk.below ?hb)) ?_
 case hb=>exact bex
 rintro y w2 ⟨rfl,hb2⟩;have hz2:=hb2.size;simp at hz2;go_wp2;go_returns;exact⟨rfl,bex⟩
end
section
open Go.RowKit
attribute [local go_sem] ta_nullForm_nullForm ta_nullForm_intForm ta_nullForm_boolForm ta_nullForm_textForm ta_intForm_nullForm ta_intForm_intForm ta_intForm_boolForm ta_intForm_textForm ta_boolForm_nullForm ta_boolForm_intForm ta_boolForm_boolForm ta_boolForm_textForm ta_textForm_nullForm ta_textForm_intForm ta_textForm_boolForm ta_textForm_textForm ta_nil_nullForm ta_nil_intForm ta_nil_boolForm ta_nil_textForm
end
section
open Go.RowKit
attribute [local go_sem] ta_nullForm_nullForm ta_nullForm_intForm ta_nullForm_boolForm ta_nullForm_textForm ta_intForm_nullForm ta_intForm_intForm ta_intForm_boolForm ta_intForm_textForm ta_boolForm_nullForm ta_boolForm_intForm ta_boolForm_boolForm ta_boolForm_textForm ta_textForm_nullForm ta_textForm_intForm ta_textForm_boolForm ta_textForm_textForm ta_nil_nullForm ta_nil_intForm ta_nil_boolForm ta_nil_textForm
end
section
open Go.RowKit
abbrev InN (x:Int):Prop:= -9223372036854775808≤x∧x≤9223372036854775807
end
section
open Go.RowKit
attribute [local go_sem] ta_nullForm_nullForm ta_nullForm_intForm ta_nullForm_boolForm ta_nullForm_textForm ta_intForm_nullForm ta_intForm_intForm ta_intForm_boolForm ta_intForm_textForm ta_boolForm_nullForm ta_boolForm_intForm ta_boolForm_boolForm ta_boolForm_textForm ta_textForm_nullForm ta_textForm_intForm ta_textForm_boolForm ta_textForm_textForm ta_nil_nullForm ta_nil_intForm ta_nil_boolForm ta_nil_textForm
end
section
open Go.RowKit
def goodR (r:V3):Prop:=InN r.n∧r.s.size≤1048576
theorem wf_inN {n:Int}(h:(Lit.int .i64 n).wf=true):InN n:=by
 have:=h;simp only[Lit.wf,Bool.and_eq_true,decide_eq_true_eq]at this;have e1:IntKind.i64.min= -9223372036854775808:=by decide
 have e2:IntKind.i64.max=9223372036854775807:=by decide
 unfold InN;omega
theorem kid_of {w:World}{d:Nat}{u:Value}{es:List E7}{F:List Nat}(h:KidsIs w (d+1) u es F){x:E7}(hx:x∈es):x.wf∧∃u' F',KidsIs w d u' x.ks F':=by
 obtain⟨a,c,G,rfl,_,_,hG,_,h⟩:=h;obtain⟨i,hi,rfl⟩:=List.mem_iff_getElem.1 hx;obtain⟨b,o,_,_,_,hL⟩:=h (by rintro rfl;simp at hi);obtain⟨hw,_,u',_,hK⟩:=hL i es[i] (G[i]'(by omega)) (by simp) (by simp);exact⟨hw,u',_,hK⟩
theorem KidsIs.succ {w:World}{d:Nat}{u:Value}{es:List E7}{F:List Nat}(h:KidsIs w d u es F):∃d',d=d'+1:=by
 cases d with
 |zero=>exact h.elim
 |succ d=>exact⟨d,rfl⟩
end
section
open Go.RowKit Go.Deep Go.ChangeShapes Go.WideShapes
theorem copyNodes_any (D:Nat)(P:E7→Prop)(hP:∀e,P e→∀k∈e.ks,P k)(e:E7)(u:Value)(F:List Nat)(w:World)(he:e.wf)(hPe:P e)(hk:KidsIs w (D+1) u e.ks F)(hd:(F.Nodup∧∀b∈F,Fr w b)∨cntE e≤8191)(hn:wtE e≤2097152):Calls Tryz.prog 149 #[(.agg #[.int .i64 e.k,.int .i64 e.n,.int .i64 e.v.k,.int .i64 e.v.n,.string e.v.s,.string e.p,u])] w fun x w'=>(∃v w0,x=.returned v∧w.heap.size<w0.heap.size∧CpOut w0 D P e w' v)∧Below w.heap.size w w':=by
 obtain⟨a,c,rfl,hl,hc⟩:=hk.shape;go_enter Tryz.func149,Tryz.ntmps149;go_wp2_with fail;have hb0:Below w.heap.size w (w.alloc (.cells #[.int .i64 e.k,.int .i64 e.n,.int .i64 e.v.k,.int .i64 e.v.n,.string e.v.s,.string e.p,.slice a e.ks.length c] 63)):=bex;have hd':(F.Nodup∧∀b∈F,Fr (w.alloc (.cells #[.int .i64 e.k,.int .i64 e.n,.int .i64 e.v.k,.int .i64 e.v.n,.string e.v.s,.string e.p,.slice a e.ks.length c] 63)) b)∨cntE e≤8191:=by
  rcases hd with h|h
  ·exact .inl ⟨h.1,fun b hb=>(h.2 b hb).keep (hb0.block b (hk.lt b hb))⟩
  ·exact .inr h
 refine cM8 (copyPlaces_any D P hP e (.slice a e.ks.length c) F _ (by simp) he hPe (hk.below hb0) hd' hn) ?_;rintro x w1 ⟨⟨v1,rfl,hO⟩,hb1⟩;have hz1:=hb1.size;simp only[World.size_alloc]at hz1;have HO:Hid (CpOut _ D P e w1 v1):=hO;obtain⟨ns,hang,hown,_⟩:=hO;obtain⟨av,cv,rfl⟩:∃av cv,v1=.slice av ns.length cv:=by
  rcases hown.2 with⟨h,h0⟩|⟨g,cap,cur,h,_⟩
  ·exact⟨none,0,by rw[h0];exact h⟩
  ·exact⟨_,cap,h⟩
 clear hown hd hd';go_wp2_with fail;go_returns;exact⟨⟨_,_,rfl,by simp,HO.out⟩,bex⟩
theorem RE.own {w w':World}{D:Nat}{hang:Nat→Nat×Nat}{P:E7→Prop}{ns:List Nd}{d j:Nat}{x:Nd}{u:Value}(hN:0<w.heap.size)(h:NQ w D hang P w' ns.length ns)(hx:ns[j]?=some x)(hd:DE d x.e.ks)(hu:w'.cell? ⟨x.b,x.o+6,none⟩=some u):∃F,KidsIs w' d u x.e.ks F∧Own w' w.heap.size F∧∀c∈F,Hangs hang c (x.b,x.o+6):=
 KidsU.kids h.dn hN (h.kids hx hd hu)
end
section
open Go.RowKit
theorem lt_of_blk {w:World}{b:Nat}{x:Obj}(h:w.heap[b]?=some x):b<w.heap.size:=by
 rcases Nat.lt_or_ge b w.heap.size with h1|h1
 ·exact h1
 ·rw[Array.getElem?_eq_none h1]at h;cases h
section
variable {m:Int} {D:Nat→Prop} {w:World} {e:E7} {f E K kb c:Nat} {u:Value} {t:TypeId} {fr:Nat×Nat} {cs:List Value}
end
end
section
open Go.RowKit Go.Deep
theorem nil_kids {w:World}{d:Nat}(a:Option Addr)(c:Nat)(hc:c≤maxLen):KidsIs w (d+1) (.slice a 0 c) [] []:=
 ⟨a,c,[],rfl,Nat.zero_le _,hc,rfl,fun _=>rfl,fun h=>absurd rfl h⟩
end
end
end Go.Proofs.YtjhhmnjpojnoiaaGreatDoor
