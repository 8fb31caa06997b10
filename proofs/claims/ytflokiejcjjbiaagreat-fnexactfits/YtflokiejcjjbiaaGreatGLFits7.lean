/- Own texts, joined: contracts that the law's proof goes by. -/
import Derived.Test.YtflokiejcjjbiaaGreatGLFits1
import Derived.Handy
import Derived.Test.YtflokiejcjjbiaaGreatGLFits4
import Derived.Test.YtflokiejcjjbiaaGreatGLFits2
import Derived.Test.YtflokiejcjjbiaaGreatGLFits3
import Derived.Deep.RegionHeld3
import Derived.Test.YtflokiejcjjbiaaGreatGLFits5
set_option maxHeartbeats 16000000
set_option maxRecDepth 100000
set_option linter.unusedVariables false
set_option linter.unusedSimpArgs false
namespace Go.Proofs.YtflokiejcjjbiaaGreat
section
open Go.RowKit
theorem eqValue_same (k n:Int)(s:ByteArray)(w:World):Calls Tryz.prog 41 #[(.agg #[.int .i64 k,.int .i64 n,.string s]),(.agg #[.int .i64 k,.int .i64 n,.string s])] w fun e w'=>e=.returned (.bool true)∧Below w.heap.size w w':=by
 go_enter Tryz.func41,Tryz.ntmps41;go_wp2;go_returns;exact⟨rfl,by go_grown⟩
end
section
open Go.RowKit
def SzS (d:Nat):Prop:=∀ (v:Value) (es:List E7) (F:List Nat) (left:Int) (w:World),KidsIs w d v es F→0≤left→left≤1048576→
  Calls Tryz.prog 14 #[v,.int .i64 left] w fun e w'=>(∃z:Int,e=.returned (.int .i64 z)∧ -1≤z∧z≤left∧(0≤z→z+(es.length+wtEs es)=left))∧Below w.heap.size w w'
theorem szExp_of {d:Nat}(hS:SzS d)(e:E7)(u:Value)(F:List Nat)(left:Int)(w:World)(hw:e.wf)(hk:KidsIs w d u e.ks F)(h0:0≤left)(h1:left≤1048576):Calls Tryz.prog 13 #[(.agg #[.int .i64 e.k,.int .i64 e.n,.int .i64 e.v.k,.int .i64 e.v.n,.string e.v.s,.string e.p,u]),.int .i64 left] w fun x w'=>(∃z:Int,x=.returned (.int .i64 z)∧ -1≤z∧z≤left∧(0≤z→z+wtE e=left))∧Below w.heap.size w w':=by
 obtain⟨_,_,⟨_,_,hs⟩,hp⟩:=hw;rw[wtE_eq];have hp':=hp;unfold maxLen at hp';obtain⟨a,c,rfl,_⟩:=hk.shape;go_enter Tryz.func13,Tryz.ntmps13;go_wp2_with fail;refine cM8 (szValue_any e.v.k e.v.n left e.v.s _ h0 h1 hs) ?_;rintro x w1 ⟨rfl,hb1⟩;have hz1:=hb1.size;simp only[World.size_alloc]at hz1;have c5:w1.cell? ⟨w.heap.size,5,none⟩=some (.string e.p):=cL8 hb1 (by go_simp);have c6:w1.cell? ⟨w.heap.size,6,none⟩=some (.slice a e.ks.length c):=cL8 hb1 (by go_simp);have hz:szV e.v.s left≤left:=by unfold szV;split<;>omega
 have hz0:0≤szV e.v.s left→szV e.v.s left+e.v.s.size=left:=by unfold szV;split<;>omega
 have hzm: -1≤szV e.v.s left:=by unfold szV;split<;>omega
 generalize szV e.v.s left=z1 at*;by_cases hn1:z1<0
 ·go_wp2_with fail;go_returns;exact⟨⟨-1,rfl,by omega,by omega,by omega⟩,bela⟩
 by_cases hn2:z1 -e.p.size<0
 ·go_wp2_with fail;go_returns;exact⟨⟨-1,rfl,by omega,by omega,by omega⟩,bela⟩
 go_wp2_with fail;refine cM8 (hS (.slice a e.ks.length c) e.ks F (z1 -e.p.size) _ (hk.below ?hb) (by omega) (by omega)) ?_
 case hb=>exact bela
 rintro x w2 ⟨⟨z2,rfl,l2,g2,s2⟩,hb2⟩;have hz2:=hb2.size;by_cases hn3:z2<0
 ·go_wp2_with fail;go_returns;exact⟨⟨-1,rfl,by omega,by omega,by omega⟩,bela⟩
 go_wp2_with fail;go_returns;exact⟨⟨z2,rfl,by omega,by omega,by omega⟩,bela⟩
theorem szExpS_step {d:Nat}(hS:SzS d):SzS (d+1):=by
 intro v es F left w hr h0 h1;obtain⟨a,c,b,o,G,rfl,hl,hc,hG,_,ha⟩:=hr.pick;unfold maxLen at hc;by_cases hbig:left -es.length<0
 ·go_enter Tryz.func14,Tryz.ntmps14;go_wp2;go_returns;exact⟨⟨-1,rfl,by omega,by omega,by omega⟩,by go_grown⟩
 go_enter Tryz.func14,Tryz.ntmps14;go_wp2;go_loopw [1,5] (fun l i wr=> ∃k:Nat,k≤es.length∧i=.int .i64 k∧l=.int .i64 (left -es.length -wtEs (es.take k))∧0≤left -es.length -wtEs (es.take k)∧Below w.heap.size w wr) (fun _ i _=>es.length - (intOf i).toNat)
 case atStart=>exact⟨0,Nat.zero_le _,rfl,by simp[wtEs],by simp[wtEs];omega,by go_grown⟩
 case round=>
  obtain⟨k,hk,rfl,rfl,hp,hb⟩:=hrel;by_cases hlt:k<es.length
  ·have hzb:=hb.size;obtain⟨rfl,hblt,_,hL⟩:=ha k hlt;obtain⟨x,g,u,hx,hg,hxw,⟨c0,c1,c2,c3,c4,c5⟩,c6,hK,hbr⟩:=hL.at hG hblt hb hlt;have hT:Hid (wtEs (es.take (k+1))=wtEs (es.take k)+wtE x):=wtEs_take hx;have hp1:left -es.length -wtEs (es.take k)≤1048576:=by omega
   clear ha hL hx;go_wp2_with(go_at_call 13;refine(szExp_of hS _ _ _ _ _ hxw hK hp hp1).mono ?_;rintro e w1 ⟨⟨z1,rfl,l1,g1,s1⟩,hb1⟩)
   ·go_returns;exact⟨⟨-1,rfl,by omega,by omega,by omega⟩,hb.trans (hb1.mono hb.size)⟩
   ·have h9:0≤z1:=by assumption
    have e1:=s1 h9;have hT:=hT.out;refine⟨⟨k+1,hlt,by simp,by congr 1;omega,by omega,hb.trans (hb1.mono hb.size)⟩,by simp[intOf];omega⟩
  ·go_wp2;go_returns;have hkk:k=es.length:=by omega
   subst hkk;refine⟨⟨_,rfl,by omega,by omega,fun _=>?_⟩,hb⟩;rw[List.take_length];omega
theorem szExpS_any:∀d,SzS d
 |0=>fun _ _ _ _ _ h=>h.elim
 |d+1=>szExpS_step (szExpS_any d)
theorem szExp_any {d:Nat}(e:E7)(u:Value)(F:List Nat)(left:Int)(w:World)(hw:e.wf)(hk:KidsIs w d u e.ks F)(h0:0≤left)(h1:left≤1048576):Calls Tryz.prog 13 #[(.agg #[.int .i64 e.k,.int .i64 e.n,.int .i64 e.v.k,.int .i64 e.v.n,.string e.v.s,.string e.p,u]),.int .i64 left] w fun x w'=>(∃z:Int,x=.returned (.int .i64 z)∧ -1≤z∧z≤left∧(0≤z→z+wtE e=left))∧Below w.heap.size w w':=
 szExp_of (szExpS_any d) e u F left w hw hk h0 h1
def EqS (d:Nat):Prop:=∀ (v u:Value) (es:List E7) (F F':List Nat) (w:World),KidsIs w d v es F→KidsIs w d u es F'→
  Calls Tryz.prog 26 #[v,u] w fun e w'=>e=.returned (.bool true)∧Below w.heap.size w w'
theorem eqExp_of {d:Nat}(hS:EqS d)(e:E7)(v u:Value)(F F':List Nat)(w:World)(hv:KidsIs w d v e.ks F)(hu:KidsIs w d u e.ks F'):Calls Tryz.prog 25 #[(.agg #[.int .i64 e.k,.int .i64 e.n,.int .i64 e.v.k,.int .i64 e.v.n,.string e.v.s,.string e.p,v]),(.agg #[.int .i64 e.k,.int .i64 e.n,.int .i64 e.v.k,.int .i64 e.v.n,.string e.v.s,.string e.p,u])] w fun x w'=>x=.returned (.bool true)∧Below w.heap.size w w':=by
 obtain⟨a,c,rfl,_⟩:=hv.shape;obtain⟨a',c',rfl,_⟩:=hu.shape;go_enter Tryz.func25,Tryz.ntmps25;go_wp2_with fail;refine cM8 (eqValue_same e.v.k e.v.n e.v.s _) ?_;rintro x w1 ⟨rfl,hb1⟩;have hz1:=hb1.size;simp only[World.size_alloc]at hz1;have c5:w1.cell? ⟨w.heap.size,5,none⟩=some (.string e.p):=cL8 hb1 (by go_simp);have c6:w1.cell? ⟨w.heap.size,6,none⟩=some (.slice a e.ks.length c):=cL8 hb1 (by go_simp);have d5:w1.cell? ⟨w.heap.size+1,5,none⟩=some (.string e.p):=cL8 hb1 (by go_simp);have d6:w1.cell? ⟨w.heap.size+1,6,none⟩=some (.slice a' e.ks.length c'):=cL8 hb1 (by go_simp);go_wp2_with fail;refine cM8 (hS (.slice a e.ks.length c) (.slice a' e.ks.length c') e.ks F F' _ (hv.below ?hb) (hu.below ?hb2)) ?_
 case hb=>exact bela
 case hb2=>exact bela
 rintro x w2 ⟨rfl,hb2⟩;have hz2:=hb2.size;go_wp2_with fail;go_returns;exact⟨rfl,bela⟩
theorem eqExpS_step {d:Nat}(hS:EqS d):EqS (d+1):=by
 intro v u es F F' w hr hu;obtain⟨a,c,b,o,G,rfl,hl,hc,hG,_,ha⟩:=hr.pick;obtain⟨a',c',b',o',G',rfl,hl',hc',hG',_,ha'⟩:=hu.pick;unfold maxLen at hc hc';clear hr hu;go_enter Tryz.func26,Tryz.ntmps26;go_wp2;go_loopw [5] (fun i wr=> ∃k:Nat,k≤es.length∧i=.int .i64 k∧Below w.heap.size w wr) (fun i _=>es.length - (intOf i).toNat)
 case atStart=>exact⟨0,Nat.zero_le _,rfl,by go_grown⟩
 case round=>
  obtain⟨k,hk,rfl,hb⟩:=hrel;by_cases hlt:k<es.length
  ·have hzb:=hb.size;obtain⟨rfl,hblt,_,hL⟩:=ha k hlt;obtain⟨rfl,hblt',_,hL'⟩:=ha' k hlt;obtain⟨x,g,v,hx,_,_,⟨c0,c1,c2,c3,c4,c5⟩,c6,hK,hbr⟩:=hL.at hG hblt hb hlt;obtain⟨x',g',u,hx',_,_,⟨d0,d1,d2,d3,d4,d5⟩,d6,hK',hbr'⟩:=hL'.at hG' hblt' hb hlt;obtain rfl:x=x':=by rw[hx]at hx';exact Option.some.inj hx'
   clear ha ha' hL hL' hx hx';go_wp2_with fail
   go_region_with (first|(go_at_call 25;refine(eqExp_of hS x v u _ _ _ (hK.below bela) (hK'.below bela)).mono ?_;rintro e w1 ⟨rfl,hb1⟩))
   all_goals(go_wp2;exact⟨⟨k+1,hlt,by simp,bela⟩,by simp[intOf];omega⟩)
  ·go_wp2;go_returns;exact⟨rfl,hb⟩
theorem eqExpS_any:∀d,EqS d
 |0=>fun _ _ _ _ _ _ h=>h.elim
 |d+1=>eqExpS_step (eqExpS_any d)
theorem eqExp_same {d d':Nat}(e:E7)(v u:Value)(F F':List Nat)(w:World)(hv:KidsIs w d v e.ks F)(hu:KidsIs w d' u e.ks F'):Calls Tryz.prog 25 #[(.agg #[.int .i64 e.k,.int .i64 e.n,.int .i64 e.v.k,.int .i64 e.v.n,.string e.v.s,.string e.p,v]),(.agg #[.int .i64 e.k,.int .i64 e.n,.int .i64 e.v.k,.int .i64 e.v.n,.string e.v.s,.string e.p,u])] w fun x w'=>x=.returned (.bool true)∧Below w.heap.size w w':=
 eqExp_of (eqExpS_any (max d d')) e v u F F' w (hv.up (Nat.le_max_left _ _)) (hu.up (Nat.le_max_right _ _))
end
section
open Go.RowKit
def okE:Nat→E7→Bool
 |0,_=>false
 |f+1,e=>partsB e &&e.ks.all (okE f)
theorem allE_step {es:List E7}{k:Nat}{x:E7}{q:E7→Bool}(h:es[k]?=some x):(es.drop k).all q=(q x && (es.drop (k+1)).all q):=by
 obtain⟨hk,rfl⟩:=gE1 h;rw[List.drop_eq_getElem_cons hk,List.all_cons]
def OkI (f:Nat):Prop:=∀ (e:E7) (u:Value) (F:List Nat) (d:Nat) (w:World),e.wf→KidsIs w d u e.ks F→
  Calls Tryz.prog 124 #[(.agg #[.int .i64 e.k,.int .i64 e.n,.int .i64 e.v.k,.int .i64 e.v.n,.string e.v.s,.string e.p,u]),.int .i64 (13 -f)] w fun x w'=>x=.returned (.bool (okE f e))∧Below w.heap.size w w'
theorem expOkAt_zero:OkI 0:=by
 intro e u F d w hw hk;obtain⟨a,c,rfl,_,_⟩:=hk.shape;simp only[okE];go_enter Tryz.func124,Tryz.ntmps124;go_wp2;go_returns;exact⟨rfl,bex⟩
theorem expOkAt_step {f:Nat}(hf:f<13)(hI:OkI f):OkI (f+1):=by
 intro e u F d w hw hk;obtain⟨d,rfl⟩:∃d',d=d'+1:=by cases d with|zero=>exact hk.elim|succ d=>exact⟨d,rfl⟩
 obtain⟨a,c,b,o,G,rfl,hl,hc,hG,_,ha⟩:=hk.pick;have hml:e.ks.length≤maxLen:=by omega
 have hsm:e.v.s.size≤maxLen:=hw.2.2.1.2.2;unfold maxLen at hc;obtain⟨t,ht⟩:∃t:Int,t=13 - ((f+1:Nat):Int):=⟨_,rfl⟩;rw[←ht];have ht0:0≤t:=by omega
 have ht1:t≤12:=by omega
 have HT:Hid (t+1=13 - (f:Int)):=by show _=_;omega
 have HO:Hid (okE (f+1) e=(partsB e &&e.ks.all (okE f))):=rfl;have hI2:∀ (e:E7) (u:Value) (F:List Nat) (d:Nat) (w:World),e.wf→KidsIs w d u e.ks F→ Calls Tryz.prog 124 #[(.agg #[.int .i64 e.k,.int .i64 e.n,.int .i64 e.v.k,.int .i64 e.v.n,.string e.v.s,.string e.p,u]),.int .i64 (t+1)] w fun x w'=>x=.returned (.bool (okE f e))∧Below w.heap.size w w':=by rw[HT.out];exact hI
 clear ht hf hI HT;go_enter Tryz.func124,Tryz.ntmps124;go_wp2_with fail;refine cM8 (partsOk_any e a c _ hsm hml) ?_;rintro x w1 ⟨rfl,hb1⟩;have hz1:=hb1.size;simp at hz1;have q6:w1.cell? ⟨w.heap.size,6,none⟩=some (.slice a e.ks.length c):=cL8 hb1 (by go_simp);have bel:Below w.heap.size w w1:=bex;cases hB:partsB e with
 |false=>
  have HB:Hid (okE (f+1) e=false):=by show _=_;rw[HO.out,hB];rfl
  clear hB;go_wp2;go_returns;exact⟨rB8 HB.out.symm,bel⟩
 |true=>
  have HB:Hid (okE (f+1) e=e.ks.all (okE f)):=by show _=_;rw[HO.out,hB];rfl
  clear hB HO hb1;go_wp2;go_loopw [17] (fun i wr=> ∃k:Nat,k≤e.ks.length∧i=.int .i64 k∧e.ks.all (okE f)=(e.ks.drop k).all (okE f)∧Below w.heap.size w wr) (fun i _=>e.ks.length - (intOf i).toNat)
  case atStart=>exact⟨0,Nat.zero_le _,rfl,by simp,bex⟩
  case round=>
   obtain⟨k,hkk,rfl,hal,hb⟩:=hrel;have hzb:=hb.size;by_cases hlt:k<e.ks.length
   ·obtain⟨rfl,hblt,_,hL⟩:=ha k hlt;obtain⟨x,g,u,hx,hg,hxw,⟨c0,c1,c2,c3,c4,c5⟩,c6,hK,hbr⟩:=hL.at hG hblt hb hlt;obtain⟨ax,cx,rfl,_,_⟩:=hK.shape;have HS:Hid (e.ks.all (okE f)=(okE f x && (e.ks.drop (k+1)).all (okE f))):=by show _=_;rw[hal,allE_step hx]
    clear ha hL hx hal;go_wp2_with fail;refine cM8 (hI2 x (.slice ax x.ks.length cx) g d _ hxw (hK.below ?hb)) ?_
    case hb=>exact bex
    rintro y w2 ⟨rfl,hb2⟩;have hz2:=hb2.size;simp at hz2;have bel2:Below w.heap.size w w2:=bex;cases hX:okE f x with
    |false=>
     have HX:Hid (okE (f+1) e=false):=by show _=_;rw[HB.out,HS.out,hX];rfl
     clear hX;go_wp2;go_returns;exact⟨rB8 HX.out.symm,bel2⟩
    |true=>
     have HX:Hid (e.ks.all (okE f)=(e.ks.drop (k+1)).all (okE f)):=by show _=_;rw[HS.out,hX];rfl
     clear hX;go_wp2;exact⟨⟨k+1,hlt,by simp,HX.out,bel2⟩,by simp[intOf];omega⟩
   ·go_wp2;go_returns;refine⟨rB8 ?_,hb⟩;rw[HB.out,hal,List.drop_eq_nil_of_le (by omega)];rfl
theorem expOkAt_any:∀f,f≤13→OkI f
 |0,_=>expOkAt_zero
 |f+1,h=>expOkAt_step (by omega) (expOkAt_any f (by omega))
theorem implExpOk_any (e:E7)(u:Value)(F:List Nat)(d:Nat)(w:World)(hw:e.wf)(hk:KidsIs w d u e.ks F):Calls Tryz.prog 105 #[(.agg #[.int .i64 e.k,.int .i64 e.n,.int .i64 e.v.k,.int .i64 e.v.n,.string e.v.s,.string e.p,u])] w fun x w'=>x=.returned (.bool (okE 13 e))∧Below w.heap.size w w':=by
 have hI:=expOkAt_any 13 (Nat.le_refl _);have hI2:∀ (e:E7) (u:Value) (F:List Nat) (d:Nat) (w:World),e.wf→KidsIs w d u e.ks F→ Calls Tryz.prog 124 #[(.agg #[.int .i64 e.k,.int .i64 e.n,.int .i64 e.v.k,.int .i64 e.v.n,.string e.v.s,.string e.p,u]),.int .i64 0] w fun x w'=>x=.returned (.bool (okE 13 e))∧Below w.heap.size w w':=hI;clear hI;obtain⟨a,c,rfl,_,_⟩:=hk.shape;go_enter Tryz.func105,Tryz.ntmps105;go_wp2_with fail;refine cM8 (hI2 e (.slice a e.ks.length c) F d _ hw (hk.below ?hb)) ?_
 case hb=>exact bex
 rintro y w2 ⟨rfl,hb2⟩;have hz2:=hb2.size;simp at hz2;go_wp2;go_returns;exact⟨rfl,bex⟩
end
section
open Go.RowKit
theorem szValueS_any (v:Value)(vs:List V3)(left:Int)(w:World)(hr:RowIs w v vs)(hw:VsWf vs)(h0:0≤left)(h1:left≤1048576):Calls Tryz.prog 94 #[v,.int .i64 left] w fun e w'=>(∃z:Int,e=.returned (.int .i64 z)∧ -1≤z∧z≤left∧(0≤z→z+wt vs=left))∧Below w.heap.size w w':=by
 obtain⟨a,c,b,o,rfl,hl,hc,ha⟩:=hr.pick;unfold maxLen at hc;by_cases hbig:left -vs.length<0
 ·go_enter Tryz.func94,Tryz.ntmps94;go_wp2;go_returns;exact⟨⟨-1,rfl,by omega,by omega,by omega⟩,by go_grown⟩
 go_enter Tryz.func94,Tryz.ntmps94;go_wp2;go_loopw [1,5] (fun l i wr=> ∃k:Nat,k≤vs.length∧i=.int .i64 k∧l=.int .i64 (left -vs.length -wts (vs.take k))∧0≤left -vs.length -wts (vs.take k)∧Below w.heap.size w wr) (fun _ i _=>vs.length - (intOf i).toNat)
 case atStart=>exact⟨0,Nat.zero_le _,rfl,by simp[wts],by simp[wts];omega,by go_grown⟩
 case round=>
  obtain⟨k,hk,rfl,rfl,hp,hb⟩:=hrel;by_cases hlt:k<vs.length
  ·have hzb:=hb.size;obtain⟨rfl,hblt,hL⟩:=ha k hlt;obtain⟨x,hx,c0,c1,c2,hbr⟩:=hL.at hblt hb hlt;have hxs:x.s.size≤maxLen:=(hw x (mg8 hx)).2.2;have hT:Hid (wts (vs.take (k+1))=wts (vs.take k)+x.s.size):=wts_take hx;clear ha hL hw;go_wp2_with(go_at_call 29;refine(szValue_any _ _ _ _ _ (by omega) (by omega) hxs).mono ?_;rintro e w1 ⟨rfl,hb1⟩)
   ·go_returns;exact⟨⟨-1,rfl,by omega,by omega,by omega⟩,hb.trans (hb1.mono hb.size)⟩
   ·have hs0:szV x.s (left -vs.length -wts (vs.take k))=left -vs.length -wts (vs.take (k+1))∧0≤left -vs.length -wts (vs.take (k+1)):=by
     have h9:0≤szV x.s (left -vs.length -wts (vs.take k)):=by assumption
     have hT:=hT.out;unfold szV at h9⊢;split at h9
     ·omega
     ·rw[if_neg (by omega)];omega
    refine⟨⟨k+1,hlt,by simp,by rw[hs0.1],hs0.2,hb.trans (hb1.mono hb.size)⟩,by simp[intOf];omega⟩
  ·go_wp2;go_returns;have hkk:k=vs.length:=by omega
   subst hkk;refine⟨⟨_,rfl,by omega,by omega,fun _=>?_⟩,hb⟩;rw[List.take_length];unfold wt;omega
theorem eqValueS_same (v u:Value)(vs:List V3)(w:World)(hr:RowIs w v vs)(hu:RowIs w u vs):Calls Tryz.prog 119 #[v,u] w fun e w'=>e=.returned (.bool true)∧Below w.heap.size w w':=by
 obtain⟨a,c,b,o,rfl,hl,hc,ha⟩:=hr.pick;obtain⟨a',c',b',o',rfl,hl',hc',ha'⟩:=hu.pick;unfold maxLen at hc hc';clear hr hu;go_enter Tryz.func119,Tryz.ntmps119;go_wp2;go_loopw [5] (fun i wr=> ∃k:Nat,k≤vs.length∧i=.int .i64 k∧Below w.heap.size w wr) (fun i _=>vs.length - (intOf i).toNat)
 case atStart=>exact⟨0,Nat.zero_le _,rfl,by go_grown⟩
 case round=>
  obtain⟨k,hk,rfl,hb⟩:=hrel;by_cases hlt:k<vs.length
  ·have hzb:=hb.size;obtain⟨rfl,hblt,hL⟩:=ha k hlt;obtain⟨rfl,hblt',hL'⟩:=ha' k hlt;obtain⟨x,hx,c0,c1,c2,hbr⟩:=hL.at hblt hb hlt;obtain⟨x',hx',c0',c1',c2',hbr'⟩:=hL'.at hblt' hb hlt;obtain rfl:x=x':=by rw[hx]at hx';exact Option.some.inj hx'
   clear ha ha' hL hL' hx hx';go_wp2_with fail;go_region_held3 (fun w'=>w'.cell? ⟨b,o+k*3,none⟩=some (.int .i64 x.k)∧w'.cell? ⟨b,o+k*3+1,none⟩=some (.int .i64 x.n)∧w'.cell? ⟨b,o+k*3+2,none⟩=some (.string x.s)∧w'.cell? ⟨b',o'+k*3,none⟩=some (.int .i64 x.k)∧w'.cell? ⟨b',o'+k*3+1,none⟩=some (.int .i64 x.n)∧w'.cell? ⟨b',o'+k*3+2,none⟩=some (.string x.s)) (refine⟨?_,?_,?_,?_,?_,?_⟩<;>first|(go_simp;done)|(exact cL8 (by assumption) (by go_simp))) (first|(go_at_call 41;refine(eqValue_same _ _ _ _).mono ?_;rintro e w1 ⟨rfl,hb1⟩));go_wp2
   go_roundw
   case rel=>exact⟨k+1,hlt,by simp,bela⟩
   case measure=>simp[intOf];omega
  ·go_wp2;go_returns;exact⟨rfl,hb⟩
end
end Go.Proofs.YtflokiejcjjbiaaGreat
