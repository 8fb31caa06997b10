/- Own text. The contracts of the helpers on plans: how much one weighs, that one is the same as another one. -/
import Derived.Test.YtjhhmnjpojnoiaaGreatDoorGLWithViews5
import Derived.Test.YtjhhmnjpojnoiaaGreatDoorGLWithViews1
import Derived.Test.YtjhhmnjpojnoiaaGreatDoorExpC
import Derived.Handy
import Derived.Deep.RegionHeld3
set_option maxHeartbeats 16000000
set_option maxRecDepth 100000
set_option linter.unusedVariables false
set_option linter.unusedSimpArgs false
namespace Go.Proofs.YtjhhmnjpojnoiaaGreatDoor
section
section
open Go.RowKit
def SzP (D d:Nat):Prop:=∀ (v:Value) (ps:List P12) (F:List Nat) (left:Int) (w:World),PlansIs w D d v ps F→0≤left→left≤1048576→
  Calls Tryz.prog 60 #[v,.int .i64 left] w fun e w'=>(∃z:Int,e=.returned (.int .i64 z)∧ -1≤z∧z≤left∧(0≤z→z+(ps.length+wtPs ps)=left))∧Below w.heap.size w w'
theorem szPlan_of {D d:Nat}(hS:SzP D d)(p:P12)(ue us u:Value)(g:List Nat)(left:Int)(w:World)(hw:p.wf)(hL:ListsP w D (PlansIs w D d) p ue us u g)(h0:0≤left)(h1:left≤1048576):Calls Tryz.prog 36 #[(.agg #[.int .i64 p.k,.string p.s,.int .i64 p.e.k,.int .i64 p.e.n,.int .i64 p.e.v.k,.int .i64 p.e.v.n,.string p.e.v.s,.string p.e.p,ue,us,.int .i64 p.n,u]),.int .i64 left] w fun x w'=>(∃z:Int,x=.returned (.int .i64 z)∧ -1≤z∧z≤left∧(0≤z→z+wtP p=left))∧Below w.heap.size w w':=by
 obtain⟨_,hs,hwe,_⟩:=hw;rw[wtP_eq];unfold maxLen at hs;obtain⟨ae,ce,ak,ck,a,c,rfl,rfl,rfl,_,_,_,_,_,_⟩:=hL.shape;obtain⟨Fe,Fs,h',rfl,ke,kes,kp⟩:=hL;by_cases hbig:left -p.s.size<0
 ·go_enter Tryz.func36,Tryz.ntmps36;go_wp2_with fail;go_returns;exact⟨⟨-1,rfl,by omega,by omega,by omega⟩,bex⟩
 go_enter Tryz.func36,Tryz.ntmps36;go_wp2_with fail;refine cM8 (szExp_any p.e (.slice ae p.e.ks.length ce) Fe (left -p.s.size) _ hwe (ke.below ?hb) (by omega) (by omega)) ?_
 case hb=>exact bex
 rintro x w1 ⟨⟨z1,rfl,l1,g1,s1⟩,hb1⟩;have hz1:=hb1.size;simp only[World.size_alloc]at hz1;have c91:w1.cell? ⟨w.heap.size,9,none⟩=some (.slice ak p.es.length ck):=cL8 hb1 (by go_simp);have c111:w1.cell? ⟨w.heap.size,11,none⟩=some (.slice a p.ks.length c):=cL8 hb1 (by go_simp);by_cases hn1:z1<0
 ·go_wp2_with fail;go_returns;exact⟨⟨-1,rfl,by omega,by omega,by omega⟩,bex⟩
 have e1:=s1 (by omega);go_wp2_with fail;refine cM8 (szExpS_any D (.slice ak p.es.length ck) p.es Fs z1 _ (kes.below ?hb) (by omega) (by omega)) ?_
 case hb=>exact bex
 rintro x w2 ⟨⟨z2,rfl,l2,g2,s2⟩,hb2⟩;have hz2:=hb2.size;have c112:w2.cell? ⟨w.heap.size,11,none⟩=some (.slice a p.ks.length c):=cL8 hb2 (by go_simp);by_cases hn2:z2<0
 ·go_wp2_with fail;go_returns;exact⟨⟨-1,rfl,by omega,by omega,by omega⟩,bex⟩
 have e2:=s2 (by omega);go_wp2_with fail;refine cM8 (hS (.slice a p.ks.length c) p.ks h' z2 _ (kp.below ?hb) (by omega) (by omega)) ?_
 case hb=>exact bex
 rintro x w3 ⟨⟨z3,rfl,l3,g3,s3⟩,hb3⟩;have hz3:=hb3.size;by_cases hn3:z3<0
 ·go_wp2_with fail;go_returns;exact⟨⟨-1,rfl,by omega,by omega,by omega⟩,bex⟩
 have e3:=s3 (by omega);go_wp2_with fail;go_returns;exact⟨⟨z3,rfl,by omega,by omega,by omega⟩,bex⟩
theorem szPlanS_step {D d:Nat}(hS:SzP D d):SzP D (d+1):=by
 intro v ps F left w hr h0 h1;obtain⟨a,c,b,o,G,rfl,hl,hc,hG,_,ha⟩:=hr.pick;unfold maxLen at hc;by_cases hbig:left -ps.length<0
 ·go_enter Tryz.func60,Tryz.ntmps60;go_wp2;go_returns;exact⟨⟨-1,rfl,by omega,by omega,by omega⟩,by go_grown⟩
 go_enter Tryz.func60,Tryz.ntmps60;go_wp2;go_loopw [1,5] (fun l i wr=> ∃k:Nat,k≤ps.length∧i=.int .i64 k∧l=.int .i64 (left -ps.length -wtPs (ps.take k))∧0≤left -ps.length -wtPs (ps.take k)∧Below w.heap.size w wr) (fun _ i _=>ps.length - (intOf i).toNat)
 case atStart=>exact⟨0,Nat.zero_le _,rfl,by simp[wtPs],by simp[wtPs];omega,by go_grown⟩
 case round=>
  obtain⟨k,hk,rfl,rfl,hp,hb⟩:=hrel;by_cases hlt:k<ps.length
  ·have hzb:=hb.size;obtain⟨rfl,hblt,_,hL⟩:=ha k hlt;obtain⟨x,g,ue,us,u,hx,hg,hxw,⟨c0,c1,c2,c3,c4,c5,c6,c7,c8,c9,c10,c11⟩,hLx,hbr⟩:=hL.at hG hblt hb hlt;have hT:Hid (wtPs (ps.take (k+1))=wtPs (ps.take k)+wtP x):=wtPs_take hx;have hp1:left -ps.length -wtPs (ps.take k)≤1048576:=by omega
   clear ha hL hx;go_wp2_with(go_at_call 36;refine(szPlan_of hS _ _ _ _ _ _ _ hxw hLx hp hp1).mono ?_;rintro e w1 ⟨⟨z1,rfl,l1,g1,s1⟩,hb1⟩)
   ·go_returns;exact⟨⟨-1,rfl,by omega,by omega,by omega⟩,hb.trans (hb1.mono hb.size)⟩
   ·have h9:0≤z1:=by assumption
    have e1:=s1 h9;have hT:=hT.out;refine⟨⟨k+1,hlt,by simp,by congr 1;omega,by omega,hb.trans (hb1.mono hb.size)⟩,by simp[intOf];omega⟩
  ·go_wp2;go_returns;have hkk:k=ps.length:=by omega
   subst hkk;refine⟨⟨_,rfl,by omega,by omega,fun _=>?_⟩,hb⟩;rw[List.take_length];omega
theorem szPlanS_any (D:Nat):∀d,SzP D d
 |0=>fun _ _ _ _ _ h=>h.elim
 |d+1=>szPlanS_step (szPlanS_any D d)
def EqP (D d:Nat):Prop:=∀ (v u:Value) (ps:List P12) (F F':List Nat) (w:World),PlansIs w D d v ps F→PlansIs w D d u ps F'→
  Calls Tryz.prog 87 #[v,u] w fun e w'=>e=.returned (.bool true)∧Below w.heap.size w w'
theorem eqPlan_of {D d:Nat}(hS:EqP D d)(p:P12)(ue us u ue' us' u':Value)(g g':List Nat)(w:World)(hL:ListsP w D (PlansIs w D d) p ue us u g)(hM:ListsP w D (PlansIs w D d) p ue' us' u' g'):Calls Tryz.prog 54 #[(.agg #[.int .i64 p.k,.string p.s,.int .i64 p.e.k,.int .i64 p.e.n,.int .i64 p.e.v.k,.int .i64 p.e.v.n,.string p.e.v.s,.string p.e.p,ue,us,.int .i64 p.n,u]),(.agg #[.int .i64 p.k,.string p.s,.int .i64 p.e.k,.int .i64 p.e.n,.int .i64 p.e.v.k,.int .i64 p.e.v.n,.string p.e.v.s,.string p.e.p,ue',us',.int .i64 p.n,u'])] w fun x w'=>x=.returned (.bool true)∧Below w.heap.size w w':=by
 obtain⟨ae,ce,ak,ck,a,c,rfl,rfl,rfl,_,_,_,_,_,_⟩:=hL.shape;obtain⟨ae',ce',ak',ck',a',c',rfl,rfl,rfl,_,_,_,_,_,_⟩:=hM.shape;obtain⟨Fe,Fs,h,rfl,ke,kes,kp⟩:=hL;obtain⟨Fe',Fs',h',rfl,ke',kes',kp'⟩:=hM;go_enter Tryz.func54,Tryz.ntmps54;go_wp2_with fail;refine cM8 (eqExp_same p.e (.slice ae p.e.ks.length ce) (.slice ae' p.e.ks.length ce') Fe Fe' _ (ke.below ?hb) (ke'.below ?hb2)) ?_
 case hb=>exact bex
 case hb2=>exact bex
 rintro x w1 ⟨rfl,hb1⟩;have hz1:=hb1.size;simp only[World.size_alloc]at hz1;have c91:w1.cell? ⟨w.heap.size,9,none⟩=some (.slice ak p.es.length ck):=cL8 hb1 (by go_simp);have c101:w1.cell? ⟨w.heap.size,10,none⟩=some (.int .i64 p.n):=cL8 hb1 (by go_simp);have c111:w1.cell? ⟨w.heap.size,11,none⟩=some (.slice a p.ks.length c):=cL8 hb1 (by go_simp);have d91:w1.cell? ⟨w.heap.size+1,9,none⟩=some (.slice ak' p.es.length ck'):=cL8 hb1 (by go_simp);have d101:w1.cell? ⟨w.heap.size+1,10,none⟩=some (.int .i64 p.n):=cL8 hb1 (by go_simp);have d111:w1.cell? ⟨w.heap.size+1,11,none⟩=some (.slice a' p.ks.length c'):=cL8 hb1 (by go_simp);go_wp2_with fail;refine cM8 (eqExpS_any D (.slice ak p.es.length ck) (.slice ak' p.es.length ck') p.es Fs Fs' _ (kes.below ?hb) (kes'.below ?hb2)) ?_
 case hb=>exact bex
 case hb2=>exact bex
 rintro x w2 ⟨rfl,hb2⟩;have hz2:=hb2.size;have c102:w2.cell? ⟨w.heap.size,10,none⟩=some (.int .i64 p.n):=cL8 hb2 (by go_simp);have c112:w2.cell? ⟨w.heap.size,11,none⟩=some (.slice a p.ks.length c):=cL8 hb2 (by go_simp);have d102:w2.cell? ⟨w.heap.size+1,10,none⟩=some (.int .i64 p.n):=cL8 hb2 (by go_simp);have d112:w2.cell? ⟨w.heap.size+1,11,none⟩=some (.slice a' p.ks.length c'):=cL8 hb2 (by go_simp);go_wp2_with fail;refine cM8 (hS (.slice a p.ks.length c) (.slice a' p.ks.length c') p.ks h h' _ (kp.below ?hb) (kp'.below ?hb2)) ?_
 case hb=>exact bex
 case hb2=>exact bex
 rintro x w3 ⟨rfl,hb3⟩;have hz3:=hb3.size;go_wp2_with fail;go_returns;exact⟨rfl,bex⟩
theorem eqPlanS_step {D d:Nat}(hS:EqP D d):EqP D (d+1):=by
 intro v u ps F F' w hr hu;obtain⟨a,c,b,o,G,rfl,hl,hc,hG,_,ha⟩:=hr.pick;obtain⟨a',c',b',o',G',rfl,hl',hc',hG',_,ha'⟩:=hu.pick;unfold maxLen at hc hc';clear hr hu;go_enter Tryz.func87,Tryz.ntmps87;go_wp2;go_loopw [5] (fun i wr=> ∃k:Nat,k≤ps.length∧i=.int .i64 k∧Below w.heap.size w wr) (fun i _=>ps.length - (intOf i).toNat)
 case atStart=>exact⟨0,Nat.zero_le _,rfl,by go_grown⟩
 case round=>
  obtain⟨k,hk,rfl,hb⟩:=hrel;by_cases hlt:k<ps.length
  ·have hzb:=hb.size;obtain⟨rfl,hblt,_,hL⟩:=ha k hlt;obtain⟨rfl,hblt',_,hL'⟩:=ha' k hlt;obtain⟨x,g,ue,us,u,hx,_,_,⟨c0,c1,c2,c3,c4,c5,c6,c7,c8,c9,c10,c11⟩,hLx,hbr⟩:=hL.at hG hblt hb hlt;obtain⟨x',g',ue',us',u',hx',_,_,⟨d0,d1,d2,d3,d4,d5,d6,d7,d8,d9,d10,d11⟩,hLx',hbr'⟩:=hL'.at hG' hblt' hb hlt;obtain rfl:x=x':=by rw[hx]at hx';exact Option.some.inj hx'
   clear ha ha' hL hL' hx hx';go_wp2_with fail
   go_region_with (first|(go_at_call 54;refine(eqPlan_of hS x ue us u ue' us' u' _ _ _ (hLx.below bex) (hLx'.below bex)).mono ?_;rintro e w1 ⟨rfl,hb1⟩))
   all_goals(go_wp2;exact⟨⟨k+1,hlt,by simp,bex⟩,by simp[intOf];omega⟩)
  ·go_wp2;go_returns;exact⟨rfl,hb⟩
theorem eqPlanS_any (D:Nat):∀d,EqP D d
 |0=>fun _ _ _ _ _ _ h=>h.elim
 |d+1=>eqPlanS_step (eqPlanS_any D d)
end
end
end Go.Proofs.YtjhhmnjpojnoiaaGreatDoor
