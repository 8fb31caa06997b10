/- Own text. The contracts of the helpers on expressions: how much one weighs, that one is the same as another one. -/
import Derived.Test.YtjhhmnjpojnoiaaGreatDoorGLWithViews5
import Derived.Test.YtjhhmnjpojnoiaaGreatDoorGLWithViews1
import Derived.Test.YtjhhmnjpojnoiaaGreatDoorGLWithViews2
import Derived.Test.YtjhhmnjpojnoiaaGreatDoorGLWithViews3
import Derived.Handy
import Derived.Deep.RegionHeld3
set_option maxHeartbeats 16000000
set_option maxRecDepth 100000
set_option linter.unusedVariables false
set_option linter.unusedSimpArgs false
namespace Go.Proofs.YtjhhmnjpojnoiaaGreatDoor
section
section
open Go.RowKit
def SzS (d:Nat):Prop:=∀ (v:Value) (es:List E7) (F:List Nat) (left:Int) (w:World),KidsIs w d v es F→0≤left→left≤1048576→
  Calls Tryz.prog 59 #[v,.int .i64 left] w fun e w'=>(∃z:Int,e=.returned (.int .i64 z)∧ -1≤z∧z≤left∧(0≤z→z+(es.length+wtEs es)=left))∧Below w.heap.size w w'
theorem szExp_of {d:Nat}(hS:SzS d)(e:E7)(u:Value)(F:List Nat)(left:Int)(w:World)(hw:e.wf)(hk:KidsIs w d u e.ks F)(h0:0≤left)(h1:left≤1048576):Calls Tryz.prog 58 #[(.agg #[.int .i64 e.k,.int .i64 e.n,.int .i64 e.v.k,.int .i64 e.v.n,.string e.v.s,.string e.p,u]),.int .i64 left] w fun x w'=>(∃z:Int,x=.returned (.int .i64 z)∧ -1≤z∧z≤left∧(0≤z→z+wtE e=left))∧Below w.heap.size w w':=by
 obtain⟨_,_,⟨_,_,hs⟩,hp⟩:=hw;rw[wtE_eq];have hp':=hp;unfold maxLen at hp';obtain⟨a,c,rfl,_⟩:=hk.shape;go_enter Tryz.func58,Tryz.ntmps58;go_wp2_with fail;refine cM8 (szValue_any e.v.k e.v.n left e.v.s _ h0 h1 hs) ?_;rintro x w1 ⟨rfl,hb1⟩;have hz1:=hb1.size;simp only[World.size_alloc]at hz1;have c5:w1.cell? ⟨w.heap.size,5,none⟩=some (.string e.p):=cL8 hb1 (by go_simp);have c6:w1.cell? ⟨w.heap.size,6,none⟩=some (.slice a e.ks.length c):=cL8 hb1 (by go_simp);have hz:szV e.v.s left≤left:=by unfold szV;split<;>omega
 have hz0:0≤szV e.v.s left→szV e.v.s left+e.v.s.size=left:=by unfold szV;split<;>omega
 have hzm: -1≤szV e.v.s left:=by unfold szV;split<;>omega
 generalize szV e.v.s left=z1 at*;by_cases hn1:z1<0
 ·go_wp2_with fail;go_returns;exact⟨⟨-1,rfl,by omega,by omega,by omega⟩,bela⟩
 by_cases hn2:z1 -e.p.size<0
 ·go_wp2_with fail;go_returns;exact⟨⟨-1,rfl,by omega,by omega,by omega⟩,bela⟩
 go_wp2_with fail;refine cM8 (hS (.slice a e.ks.length c) e.ks F (z1 -e.p.size) _ (hk.below ?hb) (by omega) (by omega)) ?_
 case hb=>exact bela
 rintro x w2 ⟨⟨z2,rfl,l2,g2,s2⟩,hb2⟩;have hz2:=hb2.size;by_cases hn3:z2<0
 ·go_wp2_with fail;go_returns;exact⟨⟨-1,rfl,by omega,by omega,by omega⟩,bela⟩
 go_wp2_with fail;go_returns;exact⟨⟨z2,rfl,by omega,by omega,by omega⟩,bela⟩
theorem szExpS_step {d:Nat}(hS:SzS d):SzS (d+1):=by
 intro v es F left w hr h0 h1;obtain⟨a,c,b,o,G,rfl,hl,hc,hG,_,ha⟩:=hr.pick;unfold maxLen at hc;by_cases hbig:left -es.length<0
 ·go_enter Tryz.func59,Tryz.ntmps59;go_wp2;go_returns;exact⟨⟨-1,rfl,by omega,by omega,by omega⟩,by go_grown⟩
 go_enter Tryz.func59,Tryz.ntmps59;go_wp2;go_loopw [1,5] (fun l i wr=> ∃k:Nat,k≤es.length∧i=.int .i64 k∧l=.int .i64 (left -es.length -wtEs (es.take k))∧0≤left -es.length -wtEs (es.take k)∧Below w.heap.size w wr) (fun _ i _=>es.length - (intOf i).toNat)
 case atStart=>exact⟨0,Nat.zero_le _,rfl,by simp[wtEs],by simp[wtEs];omega,by go_grown⟩
 case round=>
  obtain⟨k,hk,rfl,rfl,hp,hb⟩:=hrel;by_cases hlt:k<es.length
  ·have hzb:=hb.size;obtain⟨rfl,hblt,_,hL⟩:=ha k hlt;obtain⟨x,g,u,hx,hg,hxw,⟨c0,c1,c2,c3,c4,c5⟩,c6,hK,hbr⟩:=hL.at hG hblt hb hlt;have hT:Hid (wtEs (es.take (k+1))=wtEs (es.take k)+wtE x):=wtEs_take hx;have hp1:left -es.length -wtEs (es.take k)≤1048576:=by omega
   clear ha hL hx;go_wp2_with(go_at_call 58;refine(szExp_of hS _ _ _ _ _ hxw hK hp hp1).mono ?_;rintro e w1 ⟨⟨z1,rfl,l1,g1,s1⟩,hb1⟩)
   ·go_returns;exact⟨⟨-1,rfl,by omega,by omega,by omega⟩,hb.trans (hb1.mono hb.size)⟩
   ·have h9:0≤z1:=by assumption
    have e1:=s1 h9;have hT:=hT.out;refine⟨⟨k+1,hlt,by simp,by congr 1;omega,by omega,hb.trans (hb1.mono hb.size)⟩,by simp[intOf];omega⟩
  ·go_wp2;go_returns;have hkk:k=es.length:=by omega
   subst hkk;refine⟨⟨_,rfl,by omega,by omega,fun _=>?_⟩,hb⟩;rw[List.take_length];omega
theorem szExpS_any:∀d,SzS d
 |0=>fun _ _ _ _ _ h=>h.elim
 |d+1=>szExpS_step (szExpS_any d)
theorem szExp_any {d:Nat}(e:E7)(u:Value)(F:List Nat)(left:Int)(w:World)(hw:e.wf)(hk:KidsIs w d u e.ks F)(h0:0≤left)(h1:left≤1048576):Calls Tryz.prog 58 #[(.agg #[.int .i64 e.k,.int .i64 e.n,.int .i64 e.v.k,.int .i64 e.v.n,.string e.v.s,.string e.p,u]),.int .i64 left] w fun x w'=>(∃z:Int,x=.returned (.int .i64 z)∧ -1≤z∧z≤left∧(0≤z→z+wtE e=left))∧Below w.heap.size w w':=
 szExp_of (szExpS_any d) e u F left w hw hk h0 h1
def EqS (d:Nat):Prop:=∀ (v u:Value) (es:List E7) (F F':List Nat) (w:World),KidsIs w d v es F→KidsIs w d u es F'→
  Calls Tryz.prog 86 #[v,u] w fun e w'=>e=.returned (.bool true)∧Below w.heap.size w w'
theorem eqExp_of {d:Nat}(hS:EqS d)(e:E7)(v u:Value)(F F':List Nat)(w:World)(hv:KidsIs w d v e.ks F)(hu:KidsIs w d u e.ks F'):Calls Tryz.prog 85 #[(.agg #[.int .i64 e.k,.int .i64 e.n,.int .i64 e.v.k,.int .i64 e.v.n,.string e.v.s,.string e.p,v]),(.agg #[.int .i64 e.k,.int .i64 e.n,.int .i64 e.v.k,.int .i64 e.v.n,.string e.v.s,.string e.p,u])] w fun x w'=>x=.returned (.bool true)∧Below w.heap.size w w':=by
 obtain⟨a,c,rfl,_⟩:=hv.shape;obtain⟨a',c',rfl,_⟩:=hu.shape;go_enter Tryz.func85,Tryz.ntmps85;go_wp2_with fail;refine cM8 (eqValue_same e.v.k e.v.n e.v.s _) ?_;rintro x w1 ⟨rfl,hb1⟩;have hz1:=hb1.size;simp only[World.size_alloc]at hz1;have c5:w1.cell? ⟨w.heap.size,5,none⟩=some (.string e.p):=cL8 hb1 (by go_simp);have c6:w1.cell? ⟨w.heap.size,6,none⟩=some (.slice a e.ks.length c):=cL8 hb1 (by go_simp);have d5:w1.cell? ⟨w.heap.size+1,5,none⟩=some (.string e.p):=cL8 hb1 (by go_simp);have d6:w1.cell? ⟨w.heap.size+1,6,none⟩=some (.slice a' e.ks.length c'):=cL8 hb1 (by go_simp);go_wp2_with fail;refine cM8 (hS (.slice a e.ks.length c) (.slice a' e.ks.length c') e.ks F F' _ (hv.below ?hb) (hu.below ?hb2)) ?_
 case hb=>exact bela
 case hb2=>exact bela
 rintro x w2 ⟨rfl,hb2⟩;have hz2:=hb2.size;go_wp2_with fail;go_returns;exact⟨rfl,bela⟩
theorem eqExpS_step {d:Nat}(hS:EqS d):EqS (d+1):=by
 intro v u es F F' w hr hu;obtain⟨a,c,b,o,G,rfl,hl,hc,hG,_,ha⟩:=hr.pick;obtain⟨a',c',b',o',G',rfl,hl',hc',hG',_,ha'⟩:=hu.pick;unfold maxLen at hc hc';clear hr hu;go_enter Tryz.func86,Tryz.ntmps86;go_wp2;go_loopw [5] (fun i wr=> ∃k:Nat,k≤es.length∧i=.int .i64 k∧Below w.heap.size w wr) (fun i _=>es.length - (intOf i).toNat)
 case atStart=>exact⟨0,Nat.zero_le _,rfl,by go_grown⟩
 case round=>
  obtain⟨k,hk,rfl,hb⟩:=hrel;by_cases hlt:k<es.length
  ·have hzb:=hb.size;obtain⟨rfl,hblt,_,hL⟩:=ha k hlt;obtain⟨rfl,hblt',_,hL'⟩:=ha' k hlt;obtain⟨x,g,v,hx,_,_,⟨c0,c1,c2,c3,c4,c5⟩,c6,hK,hbr⟩:=hL.at hG hblt hb hlt;obtain⟨x',g',u,hx',_,_,⟨d0,d1,d2,d3,d4,d5⟩,d6,hK',hbr'⟩:=hL'.at hG' hblt' hb hlt;obtain rfl:x=x':=by rw[hx]at hx';exact Option.some.inj hx'
   clear ha ha' hL hL' hx hx';go_wp2_with fail
   go_region_with (first|(go_at_call 85;refine(eqExp_of hS x v u _ _ _ (hK.below bela) (hK'.below bela)).mono ?_;rintro e w1 ⟨rfl,hb1⟩))
   all_goals(go_wp2;exact⟨⟨k+1,hlt,by simp,bela⟩,by simp[intOf];omega⟩)
  ·go_wp2;go_returns;exact⟨rfl,hb⟩
theorem eqExpS_any:∀d,EqS d
 |0=>fun _ _ _ _ _ _ h=>h.elim
 |d+1=>eqExpS_step (eqExpS_any d)
theorem eqExp_same {d d':Nat}(e:E7)(v u:Value)(F F':List Nat)(w:World)(hv:KidsIs w d v e.ks F)(hu:KidsIs w d' u e.ks F'):Calls Tryz.prog 85 #[(.agg #[.int .i64 e.k,.int .i64 e.n,.int .i64 e.v.k,.int .i64 e.v.n,.string e.v.s,.string e.p,v]),(.agg #[.int .i64 e.k,.int .i64 e.n,.int .i64 e.v.k,.int .i64 e.v.n,.string e.v.s,.string e.p,u])] w fun x w'=>x=.returned (.bool true)∧Below w.heap.size w w':=
 eqExp_of (eqExpS_any (max d d')) e v u F F' w (hv.up (Nat.le_max_left _ _)) (hu.up (Nat.le_max_right _ _))
end
end
end Go.Proofs.YtjhhmnjpojnoiaaGreatDoor
