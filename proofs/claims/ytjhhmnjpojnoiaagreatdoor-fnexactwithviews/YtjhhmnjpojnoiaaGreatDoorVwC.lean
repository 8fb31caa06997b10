/- Own text. The contracts of the helpers on views: how much they weigh, that they are the same as others. -/
import Derived.Test.YtjhhmnjpojnoiaaGreatDoorGLWithViews7
import Derived.Test.YtjhhmnjpojnoiaaGreatDoorGLWithViews1
import Derived.Test.YtjhhmnjpojnoiaaGreatDoorGLWithViews4
import Derived.Test.YtjhhmnjpojnoiaaGreatDoorPlC
import Derived.Handy
import Derived.Deep.RegionHeld3
set_option maxHeartbeats 16000000
set_option maxRecDepth 100000
set_option linter.unusedVariables false
set_option linter.unusedSimpArgs false
namespace Go.Proofs.YtjhhmnjpojnoiaaGreatDoor
section
section
open Go.RowKit
theorem szView_any (D d:Nat)(x:V15)(ue us u v:Value)(g:List Nat)(left:Int)(w:World)(hx:x.wf)(hL:ListsP w D (PlansIs w D d) x.p ue us u g)(hr:RowsIs w v x.cs)(h0:0≤left)(h1:left≤1048576):Calls Tryz.prog 16 #[(.agg #[.string x.s,.int .i64 x.p.k,.string x.p.s,.int .i64 x.p.e.k,.int .i64 x.p.e.n,.int .i64 x.p.e.v.k,.int .i64 x.p.e.v.n,.string x.p.e.v.s,.string x.p.e.p,ue,us,.int .i64 x.p.n,u,.int .i64 x.W,v]),.int .i64 left] w fun e w'=>(∃z:Int,e=.returned (.int .i64 z)∧ -1≤z∧z≤left∧(0≤z→z+wtv x=left))∧Below w.heap.size w w':=by
 obtain⟨hs,hp,_,hcw⟩:=hx;unfold maxLen at hs;have hP:=fun(l:Int) (X:World) (hX:Below w.heap.size w X) (h0:0≤l) (h1:l≤1048576)=>szPlan_of (szPlanS_any D d) x.p ue us u g l X hp (hL.below hX) h0 h1;have hB:=fun(l:Int) (X:World) (hX:Below w.heap.size w X) (h0:0≤l) (h1:l≤1048576)=>szBag_any x.W v x.cs l X (hr.below hX) hcw h0 h1;have HW:Hid (wtv x=x.s.size+wtP x.p+wtb x.cs):=rfl;obtain⟨ar,lr,cr,rfl⟩:=hr.shape;obtain⟨ae,ce,ak,ck,a,c,rfl,rfl,rfl,_,_,_,_,_,_⟩:=hL.shape;clear hL hr hp hcw;by_cases hbig:left -x.s.size<0
 ·clear hP hB;go_enter Tryz.func16,Tryz.ntmps16;go_wp2_with fail;go_returns;exact⟨⟨-1,rfl,by omega,by omega,by omega⟩,bex⟩
 go_enter Tryz.func16,Tryz.ntmps16;go_wp2_with fail;refine cM8 (hP (left -x.s.size) _ bex (by omega) (by omega)) ?_;rintro e w1 ⟨⟨z1,rfl,l1,g1,s1⟩,hb1⟩;have hz1:=hb1.size;simp only[World.size_alloc]at hz1;have c13:w1.cell? ⟨w.heap.size,13,none⟩=some (.int .i64 x.W):=cL8 hb1 (by go_simp);have c14:w1.cell? ⟨w.heap.size,14,none⟩=some (.slice ar lr cr):=cL8 hb1 (by go_simp);have bel1:Below w.heap.size w w1:=bex;clear hb1 hP;by_cases hn1:z1<0
 ·go_wp2_with fail;go_returns;exact⟨⟨-1,rfl,by omega,by omega,by omega⟩,bel1⟩
 go_wp2_with fail;refine cM8 (hB z1 _ (by first|exact bel1|exact bex) (by omega) (by omega)) ?_;rintro e w2 ⟨⟨z2,rfl,l2,g2,s2⟩,hb2⟩;have bel2:Below w.heap.size w w2:=bel1.trans (hb2.mono bel1.size);by_cases hn2:z2<0
 ·go_wp2_with fail;go_returns;exact⟨⟨-1,rfl,by omega,by omega,by omega⟩,bel2⟩
 ·go_wp2_with fail;go_returns;exact⟨⟨z2,rfl,by omega,by omega,fun h=>by have:=s1 (by omega);have:=s2 h;have:=HW.out;omega⟩,bel2⟩
theorem szViewS_any (D d:Nat)(v:Value)(vs:List V15)(G:List (List Nat))(left:Int)(w:World)(hr:ViewsIs w D d v vs G)(h0:0≤left)(h1:left≤1048576):Calls Tryz.prog 5 #[v,.int .i64 left] w fun e w'=>(∃z:Int,e=.returned (.int .i64 z)∧ -1≤z∧z≤left∧(0≤z→z+wtV vs=left))∧Below w.heap.size w w':=by
 obtain⟨a,c,b,o,rfl,hl,hc,hG,ha⟩:=hr.pick;unfold maxLen at hc;clear hr;by_cases hbig:left -vs.length<0
 ·go_enter Tryz.func5,Tryz.ntmps5;go_wp2;go_returns;exact⟨⟨-1,rfl,by omega,by omega,by omega⟩,by go_grown⟩
 go_enter Tryz.func5,Tryz.ntmps5;go_wp2;go_loopw [1,5] (fun l i wr=> ∃k:Nat,k≤vs.length∧i=.int .i64 k∧l=.int .i64 (left -vs.length -wtvs (vs.take k))∧0≤left -vs.length -wtvs (vs.take k)∧Below w.heap.size w wr) (fun _ i _=>vs.length - (intOf i).toNat)
 case atStart=>exact⟨0,Nat.zero_le _,rfl,by simp[wtvs],by simp[wtvs];omega,by go_grown⟩
 case round=>
  obtain⟨k,hk,rfl,rfl,hp,hb⟩:=hrel;by_cases hlt:k<vs.length
  ·have hzb:=hb.size;obtain⟨rfl,hblt,hL⟩:=ha k hlt;obtain⟨x,g,ue,us,u,t,hx,hg,hxw,⟨c0,c1,c2,c3,c4,c5,c6,c7,c8,c9,c10,c11,c12,c13,c14⟩,hLx,hR,hbr⟩:=hL.at hG hblt hb hlt;have hT:Hid (wtvs (vs.take (k+1))=wtvs (vs.take k)+wtv x):=wtvs_take hx;have hp1:left -vs.length -wtvs (vs.take k)≤1048576:=by omega
   have hcall:=szView_any D d x ue us u t g _ wr hxw hLx hR hp hp1;obtain⟨ae,ce,ak,ck,aq,cq,rfl,rfl,rfl,_,_,_,_,_,_⟩:=hLx.shape;obtain⟨ar,lr,cr,rfl⟩:=hR.shape;clear ha hL hx hLx hR hg hxw;go_wp2_with fail;refine cM8 hcall ?_;rintro e w1 ⟨⟨z1,rfl,l1,g1,s1⟩,hb1⟩;have bel1:Below w.heap.size w w1:=hb.trans (hb1.mono hb.size);clear hcall;by_cases hn1:z1<0
   ·go_wp2_with fail;go_returns;exact⟨⟨-1,rfl,by omega,by omega,by omega⟩,bel1⟩
   ·go_wp2_with fail;have e1:=s1 (by omega);have hT:=hT.out;refine⟨⟨k+1,hlt,by simp,by congr 1;omega,by omega,bel1⟩,by simp[intOf];omega⟩
  ·go_wp2;go_returns;have hkk:k=vs.length:=by omega
   subst hkk;refine⟨⟨_,rfl,by omega,by omega,fun _=>?_⟩,hb⟩;rw[List.take_length];unfold wtV;omega
theorem eqView_same (D d:Nat)(x:V15)(ue us u v ue' us' u' v':Value)(g g':List Nat)(w:World)(hL:ListsP w D (PlansIs w D d) x.p ue us u g)(hr:RowsIs w v x.cs)(hL':ListsP w D (PlansIs w D d) x.p ue' us' u' g')(hr':RowsIs w v' x.cs):Calls Tryz.prog 29 #[(.agg #[.string x.s,.int .i64 x.p.k,.string x.p.s,.int .i64 x.p.e.k,.int .i64 x.p.e.n,.int .i64 x.p.e.v.k,.int .i64 x.p.e.v.n,.string x.p.e.v.s,.string x.p.e.p,ue,us,.int .i64 x.p.n,u,.int .i64 x.W,v]),(.agg #[.string x.s,.int .i64 x.p.k,.string x.p.s,.int .i64 x.p.e.k,.int .i64 x.p.e.n,.int .i64 x.p.e.v.k,.int .i64 x.p.e.v.n,.string x.p.e.v.s,.string x.p.e.p,ue',us',.int .i64 x.p.n,u',.int .i64 x.W,v'])] w fun e w'=>e=.returned (.bool true)∧Below w.heap.size w w':=by
 have hP:=fun(X:World) (hX:Below w.heap.size w X)=>eqPlan_of (eqPlanS_any D d) x.p ue us u ue' us' u' g g' X (hL.below hX) (hL'.below hX);have hB:=fun(X:World) (hX:Below w.heap.size w X)=>eqBag_same x.W v v' x.cs X (hr.below hX) (hr'.below hX);obtain⟨ar,lr,cr,rfl⟩:=hr.shape;obtain⟨ar',lr',cr',rfl⟩:=hr'.shape;obtain⟨ae,ce,ak,ck,a,c,rfl,rfl,rfl,_,_,_,_,_,_⟩:=hL.shape;obtain⟨ae',ce',ak',ck',a',c',rfl,rfl,rfl,_,_,_,_,_,_⟩:=hL'.shape;clear hL hL' hr hr';go_enter Tryz.func29,Tryz.ntmps29;go_wp2_with fail;refine cM8 (hP _ bex) ?_;rintro e w1 ⟨rfl,hb1⟩;have hz1:=hb1.size;simp only[World.size_alloc]at hz1;have c13:w1.cell? ⟨w.heap.size,13,none⟩=some (.int .i64 x.W):=cL8 hb1 (by go_simp);have c14:w1.cell? ⟨w.heap.size,14,none⟩=some (.slice ar lr cr):=cL8 hb1 (by go_simp);have d13:w1.cell? ⟨w.heap.size+1,13,none⟩=some (.int .i64 x.W):=cL8 hb1 (by go_simp);have d14:w1.cell? ⟨w.heap.size+1,14,none⟩=some (.slice ar' lr' cr'):=cL8 hb1 (by go_simp);have bel1:Below w.heap.size w w1:=bex;clear hb1 hP;go_wp2_with fail;refine cM8 (hB _ (by first|exact bel1|exact bex)) ?_;rintro e w2 ⟨rfl,hb2⟩;have bel2:Below w.heap.size w w2:=bel1.trans (hb2.mono bel1.size);go_wp2;go_returns;exact⟨rfl,bel2⟩
theorem eqViewS_same (D d:Nat)(v u:Value)(vs:List V15)(G G':List (List Nat))(w:World)(hr:ViewsIs w D d v vs G)(hu:ViewsIs w D d u vs G'):Calls Tryz.prog 11 #[v,u] w fun e w'=>e=.returned (.bool true)∧Below w.heap.size w w':=by
 obtain⟨a,c,b,o,rfl,hl,hc,hG,ha⟩:=hr.pick;obtain⟨a',c',b',o',rfl,hl',hc',hG',ha'⟩:=hu.pick;unfold maxLen at hc hc';clear hr hu;go_enter Tryz.func11,Tryz.ntmps11;go_wp2;go_loopw [5] (fun i wr=> ∃k:Nat,k≤vs.length∧i=.int .i64 k∧Below w.heap.size w wr) (fun i _=>vs.length - (intOf i).toNat)
 case atStart=>exact⟨0,Nat.zero_le _,rfl,by go_grown⟩
 case round=>
  obtain⟨k,hk,rfl,hb⟩:=hrel;by_cases hlt:k<vs.length
  ·have hzb:=hb.size;obtain⟨rfl,hblt,hL⟩:=ha k hlt;obtain⟨rfl,hblt',hL'⟩:=ha' k hlt;obtain⟨x,g,ue,us,u,t,hx,_,_,⟨c0,c1,c2,c3,c4,c5,c6,c7,c8,c9,c10,c11,c12,c13,c14⟩,hLx,hR,hbr⟩:=hL.at hG hblt hb hlt;obtain⟨x',g',ue',us',u',t',hx',_,_,⟨d0,d1,d2,d3,d4,d5,d6,d7,d8,d9,d10,d11,d12,d13,d14⟩,hLx',hR',hbr'⟩:=hL'.at hG' hblt' hb hlt;obtain rfl:x=x':=by rw[hx]at hx';exact Option.some.inj hx'
   have hcall:=fun(X:World) (hX:Below wr.heap.size wr X)=>eqView_same D d x ue us u t ue' us' u' t' g g' X (hLx.below hX) (hR.below hX) (hLx'.below hX) (hR'.below hX);clear ha ha' hL hL' hx hx' hLx hLx' hR hR';go_wp2_with fail
   go_region_with (first|(go_at_call 29;refine cM8 (hcall _ bex) ?_;rintro e w1 ⟨rfl,hb1⟩))
   all_goals(go_wp2;exact⟨⟨k+1,hlt,by simp,bex⟩,by simp[intOf];omega⟩)
  ·go_wp2;go_returns;exact⟨rfl,hb⟩
end
end
end Go.Proofs.YtjhhmnjpojnoiaaGreatDoor
