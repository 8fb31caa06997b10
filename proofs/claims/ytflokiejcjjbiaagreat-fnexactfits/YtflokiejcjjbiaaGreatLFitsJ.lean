/- For every argument, whatever memory it lies in, the statement's function on Fits returns true, and each argument reads afterwards as it read before; no condition. -/
import Derived.Test.YtflokiejcjjbiaaGreatGLFits52
import Derived.Test.YtflokiejcjjbiaaGreatGLFits2
import Derived.Test.YtflokiejcjjbiaaGreatGLFits44
import Derived.Test.YtflokiejcjjbiaaGreatGLFits47
import Derived.Test.YtflokiejcjjbiaaGreatGLFits14
import Derived.WalkKit
import Derived.WalkSpells
import Derived.WalkLawsBesides
import Derived.Handy
import Derived.Below
import Derived.Deep.RegionHeld3
import Derived.Deep.DeepCutAuto
import Derived.Test.YtflokiejcjjbiaaGreatGLFits4
import Derived.Lib.SmallJoins
import Derived.Test.YtflokiejcjjbiaaGreatRows
import Derived.ProofKit
import Derived.OpenShut
import Derived.ShutString
import Derived.ChangeOld
import Derived.HandedShaped
set_option maxHeartbeats 16000000
set_option maxRecDepth 100000
set_option linter.unusedVariables false
set_option linter.unusedSimpArgs false
namespace Go.Proofs.YtflokiejcjjbiaaGreat.fnExactFits
open Go.RowKit
theorem walk (v:Value)(rs:List R3)(hwr:RsWf rs)(p:P12)(ue us u:Value)(F:List Nat)(D d:Nat)(hw:p.wf)(m:Int)(w:World)(hq:RelsIs w v rs)(hr:ListsP w D (PlansIs w D d) p ue us u F)(hm:w.cell? ⟨0,0,none⟩=some (.int .i64 m)):Calls Tryz.prog 3 #[v,(.agg #[.int .i64 p.k,.string p.s,.int .i64 p.e.k,.int .i64 p.e.n,.int .i64 p.e.v.k,.int .i64 p.e.v.n,.string p.e.v.s,.string p.e.p,ue,us,.int .i64 p.n,u])] w fun x w'=>x=.returned (.bool true)∧Below w.heap.size w w':=by
 obtain⟨V,hV⟩:=vok_ex m;have h00:0<w.heap.size:=bl8 _ _ hm;obtain⟨a_e,a_E,a_s,a_S,a_k,a_K,rfl,rfl,rfl,_,_,_,_,_,_⟩:=hr.shape;obtain⟨a,l,c,rfl⟩:=hq.shape;obtain⟨tb,hT⟩:∃tb,Hid (fitsP V rs p=tb):=⟨_,rfl⟩;have hA0:=bxP_new w p (.slice a_e p.e.ks.length a_E) (.slice a_s p.es.length a_S) (.slice a_k p.ks.length a_K) 30;go_enter Tryz.func3,Tryz.ntmps3;go_wp2_with fail;refine cM8 (szRelS_any (.slice a l c) rs 1048576 _ (hq.below bex) hwr (by decide) (by decide)) ?_;rintro x w1 ⟨⟨z1,rfl,l1,g1,s1⟩,hb1⟩;have bel1:Below w.heap.size w w1:=bex;have hA1:=hA0.below hb1;clear hA0 hb1;by_cases hn1:z1<0
 ·go_wp2_with fail;go_returns;exact⟨rfl,bel1⟩
 have hnq:wtR rs≤1048576:=by have:=s1 (by omega);omega
 clear s1;obtain⟨ly,y0,y1,y2,y3,y4,y5,y6,y7,y8,y9,y10,y11⟩:=id hA1;go_wp2_with fail;refine cM8 (szPlan_of (szPlanS_any D d) p (.slice a_e p.e.ks.length a_E) (.slice a_s p.es.length a_S) (.slice a_k p.ks.length a_K) F z1 w1 hw (hr.below bel1) (by omega) (by omega)) ?_;rintro x w2 ⟨⟨z2,rfl,l2,g2,s2⟩,hb2⟩;have bel2:Below w.heap.size w w2:=bel1.trans (hb2.mono bel1.size);have hA2:=hA1.below hb2;clear hA1 hb2 ly y0 y1 y2 y3 y4 y5 y6 y7 y8 y9 y10 y11;by_cases hn2:z2<0
 ·go_wp2_with fail;go_returns;exact⟨rfl,bel2⟩
 have hne:wtP p≤1048576:=by have:=s2 (by omega);omega
 clear s2;obtain⟨ly,y0,y1,y2,y3,y4,y5,y6,y7,y8,y9,y10,y11⟩:=id hA2;go_wp2_with fail;go_region_held3 (fun w'=>w'.cell? ⟨w.heap.size,0,none⟩=some (.int .i64 p.k)∧w'.cell? ⟨w.heap.size,1,none⟩=some (.string p.s)∧w'.cell? ⟨w.heap.size,2,none⟩=some (.int .i64 p.e.k)∧w'.cell? ⟨w.heap.size,3,none⟩=some (.int .i64 p.e.n)∧w'.cell? ⟨w.heap.size,4,none⟩=some (.int .i64 p.e.v.k)∧w'.cell? ⟨w.heap.size,5,none⟩=some (.int .i64 p.e.v.n)∧w'.cell? ⟨w.heap.size,6,none⟩=some (.string p.e.v.s)∧w'.cell? ⟨w.heap.size,7,none⟩=some (.string p.e.p)∧w'.cell? ⟨w.heap.size,8,none⟩=some (.slice a_e p.e.ks.length a_E)∧w'.cell? ⟨w.heap.size,9,none⟩=some (.slice a_s p.es.length a_S)∧w'.cell? ⟨w.heap.size,10,none⟩=some (.int .i64 p.n)∧w'.cell? ⟨w.heap.size,11,none⟩=some (.slice a_k p.ks.length a_K)) (refine⟨?_,?_,?_,?_,?_,?_,?_,?_,?_,?_,?_,?_⟩<;>first|(with_reducible assumption)|(go_simp;done)|(exact cL8 (by assumption) (by go_simp))) (first|(go_at_call 7;refine cM8 (toRelS_F (.slice a l c) rs _ (hq.below bex) hnq) ?_;rintro x w3 ⟨⟨u3,F3,rfl,hU3,_⟩,hb3⟩;obtain⟨a3,l3,c3,rfl⟩:=hU3.is.shape;have hz3:=hb3.size;(try simp at hz3))|(go_at_call 8;refine cM8 (toPlan_of (toPlanS_any D d) p (.slice a_e p.e.ks.length a_E) (.slice a_s p.es.length a_S) (.slice a_k p.ks.length a_K) F _ (hr.below bex) hne) ?_;rintro x w4 ⟨⟨ue4,us4,u4,F4,rfl,hU4,_⟩,hb4⟩;obtain⟨e_e,e_E,e_s,e_S,e_k,e_K,rfl,rfl,rfl,_,_,_,_,_,_⟩:=hU4.shape;have hz4:=hb4.size;(try simp at hz4))|(go_at_call 6;refine cM8 (specFits_any hV rs p _ _ _ F4 D d _ F3 _ hw (hU4.below bex) hne (hU3.below bex) hwr) ?_;rw[hT.out];rintro x w5 ⟨rfl,hb5⟩;have hz5:=hb5.size;(try simp at hz5)))
 have bel25:Below w2.heap.size w2 w5:=bex;have bel5:Below w.heap.size w w5:=bel2.trans (bel25.mono bel2.size);have hA5:=hA2.below bel25;clear hA2 hU3 hU4 hb3 hb4 hb5 bel25 ly y0 y1 y2 y3 y4 y5 y6 y7 y8 y9 y10 y11;go_wp2_with fail;refine cM8 (toRelS_F (.slice a l c) rs _ (hq.below bex) hnq) ?_;rintro x w6 ⟨⟨u6,F6,rfl,hU6,_⟩,hb6⟩;obtain⟨a6,l6,c6,rfl⟩:=hU6.is.shape;have bel56:Below w5.heap.size w5 w6:=bex;have bel6:Below w.heap.size w w6:=bel5.trans (bel56.mono bel5.size);have hA6:=hA5.below bel56;clear hA5 hb6 bel56;obtain⟨ly,y0,y1,y2,y3,y4,y5,y6,y7,y8,y9,y10,y11⟩:=id hA6;go_wp2_with fail;refine cM8 (toPlan_of (toPlanS_any D d) p (.slice a_e p.e.ks.length a_E) (.slice a_s p.es.length a_S) (.slice a_k p.ks.length a_K) F _ (hr.below bex) hne) ?_;rintro x w7 ⟨⟨ue7,us7,u7,F7,rfl,hU7,hO7⟩,hb7⟩;obtain⟨x_e,x_E,x_s,x_S,x_k,x_K,rfl,rfl,rfl,_,_,_,_,_,_⟩:=hU7.shape;have bel67:Below w6.heap.size w6 w7:=bex;have bel7:Below w.heap.size w w7:=bel6.trans (bel67.mono bel6.size);have hA7:=hA6.below bel67;have hU67:=hU6.below bel67;have hXb:=bxP_new w7 p (.slice x_e p.e.ks.length x_E) (.slice x_s p.es.length x_S) (.slice x_k p.ks.length x_K) 42;have al7:Below w7.heap.size w7 (w7.alloc (.cells #[.int .i64 p.k,.string p.s,.int .i64 p.e.k,.int .i64 p.e.n,.int .i64 p.e.v.k,.int .i64 p.e.v.n,.string p.e.v.s,.string p.e.p,.slice x_e p.e.ks.length x_E,.slice x_s p.es.length x_S,.int .i64 p.n,.slice x_k p.ks.length x_K] 42)):=(Below.refl _ _).alloc (Nat.le_refl _) _;have bel8:=bel7.trans (al7.mono bel7.size)
 have hA8:=hA7.below al7;have hU68:=hU67.below al7;have hU78:=hU7.below al7;have hO78:=hO7.below hU7.lt al7;have hcall:=implFits_any hV rs p _ _ _ F7 D d _ _ F6 _ hw hU78 hO78 hne hU68 hwr (((bc8 bel8).1 0 0 h00).trans hm);rw[hT.out]at hcall;clear hA6 hb7 bel67 hU6 hA7 hU67 hU7 hO7 hO78 ly y0 y1 y2 y3 y4 y5 y6 y7 y8 y9 y10 y11;go_wp2_with fail;generalize w7.alloc (.cells #[.int .i64 p.k,.string p.s,.int .i64 p.e.k,.int .i64 p.e.n,.int .i64 p.e.v.k,.int .i64 p.e.v.n,.string p.e.v.s,.string p.e.p,.slice x_e p.e.ks.length x_E,.slice x_s p.es.length x_S,.int .i64 p.n,.slice x_k p.ks.length x_K] 42)=w8 at*;refine cM8 hcall ?_;rintro x w9 ⟨rfl,hb9⟩;have bel9:Below w.heap.size w w9:=bel8.trans (hb9.mono bel8.size);have hA9:=hA8.below hb9;have hXb9:=hXb.below hb9;have hU69:=hU68.below hb9;have hU79:=hU78.below hb9;have hnn:(tb !=tb)=false:=by simp
 clear hcall hb9 hA8 hXb hU68 hU78 al7 bel8;cases tb<;>(
  go_wp2_with fail;refine cM8 (toRelS_F (.slice a l c) rs _ (hq.below bex) hnq) ?_;rintro x w10 ⟨⟨u10,F10,rfl,hU10,_⟩,hb10⟩;have b910:Below w9.heap.size w9 w10:=bex;obtain⟨a10,l10,c10,rfl⟩:=hU10.is.shape;have bel10:Below w.heap.size w w10:=bel9.trans (b910.mono bel9.size);have hA10:=hA9.below b910;have hXb10:=hXb9.below b910;have hU610:=hU69.below b910;have hU710:=hU79.below b910;clear hb10 b910;go_wp2_with fail;refine cM8 (eqRelS_same (.slice a6 l6 c6) (.slice a10 l10 c10) rs _ (hU610.is.below bex) (hU10.is.below bex)) ?_;rintro x w11 ⟨rfl,hb11⟩;have b1011:Below w10.heap.size w10 w11:=bex;have bel11:Below w.heap.size w w11:=bel10.trans (b1011.mono bel10.size);have hA11:=hA10.below b1011;have hXb11:=hXb10.below b1011;have hU711:=hU710.below b1011;clear hb11 b1011 hA10 hXb10 hA9 hXb9 hU610 hU10 hU69 hU79;obtain⟨ly,y0,y1,y2,y3,y4,y5,y6,y7,y8,y9,y10,y11⟩:=id hA11;obtain⟨lx,x0,x1,x2,x3,x4,x5,x6,x7,x8,x9,x10,x11⟩:=id hXb11;go_wp2_with fail;go_region_held3 (fun w'=>w'.cell? ⟨w.heap.size,0,none⟩=some (.int .i64 p.k)∧w'.cell? ⟨w.heap.size,1,none⟩=some (.string p.s)∧w'.cell? ⟨w.heap.size,2,none⟩=some (.int .i64 p.e.k)∧w'.cell? ⟨w.heap.size,3,none⟩=some (.int .i64 p.e.n)∧w'.cell? ⟨w.heap.size,4,none⟩=some (.int .i64 p.e.v.k)∧w'.cell? ⟨w.heap.size,5,none⟩=some (.int .i64 p.e.v.n)∧w'.cell? ⟨w.heap.size,6,none⟩=some (.string p.e.v.s)∧w'.cell? ⟨w.heap.size,7,none⟩=some (.string p.e.p)∧w'.cell? ⟨w.heap.size,8,none⟩=some (.slice a_e p.e.ks.length a_E)∧w'.cell? ⟨w.heap.size,9,none⟩=some (.slice a_s p.es.length a_S)∧w'.cell? ⟨w.heap.size,10,none⟩=some (.int .i64 p.n)∧w'.cell? ⟨w.heap.size,11,none⟩=some (.slice a_k p.ks.length a_K)∧w'.cell? ⟨w7.heap.size,0,none⟩=some (.int .i64 p.k)∧w'.cell? ⟨w7.heap.size,1,none⟩=some (.string p.s)∧w'.cell? ⟨w7.heap.size,2,none⟩=some (.int .i64 p.e.k)∧w'.cell? ⟨w7.heap.size,3,none⟩=some (.int .i64 p.e.n)∧w'.cell? ⟨w7.heap.size,4,none⟩=some (.int .i64 p.e.v.k)∧w'.cell? ⟨w7.heap.size,5,none⟩=some (.int .i64 p.e.v.n)∧w'.cell? ⟨w7.heap.size,6,none⟩=some (.string p.e.v.s)∧w'.cell? ⟨w7.heap.size,7,none⟩=some (.string p.e.p)∧w'.cell? ⟨w7.heap.size,8,none⟩=some (.slice x_e p.e.ks.length x_E)∧w'.cell? ⟨w7.heap.size,9,none⟩=some (.slice x_s p.es.length x_S)∧w'.cell? ⟨w7.heap.size,10,none⟩=some (.int .i64 p.n)∧w'.cell? ⟨w7.heap.size,11,none⟩=some (.slice x_k p.ks.length x_K)) (refine⟨?_,?_,?_,?_,?_,?_,?_,?_,?_,?_,?_,?_,?_,?_,?_,?_,?_,?_,?_,?_,?_,?_,?_,?_⟩<;>first|(with_reducible assumption)|(go_simp;done)|(exact cL8 (by assumption) (by go_simp))) (first|(go_at_call 8;refine cM8 (toPlan_of (toPlanS_any D d) p (.slice a_e p.e.ks.length a_E) (.slice a_s p.es.length a_S) (.slice a_k p.ks.length a_K) F _ (hr.below bex) hne) ?_;rintro x w12 ⟨⟨ue12,us12,u12,F12,rfl,hU12,_⟩,hb12⟩;obtain⟨f_e,f_E,f_s,f_S,f_k,f_K,rfl,rfl,rfl,_,_,_,_,_,_⟩:=hU12.shape;have hz12:=hb12.size;(try simp at hz12))|(go_at_call 11;refine cM8 (eqPlan_of (eqPlanS_any D d) p _ _ _ _ _ _ _ _ _ (hU711.below bex) (hU12.below bex)) ?_;rintro x w13 ⟨rfl,hb13⟩;have hz13:=hb13.size;(try simp at hz13)))
  have b1113:Below w11.heap.size w11 w13:=bex;have bel13:Below w.heap.size w w13:=bel11.trans (b1113.mono bel11.size);clear hU12 hU711 hb12 hb13 b1113 hA11 hXb11 ly y0 y1 y2 y3 y4 y5 y6 y7 y8 y9 y10 y11 lx x0 x1 x2 x3 x4 x5 x6 x7 x8 x9 x10 x11;go_wp2_with fail;go_returns;exact⟨rfl,bel13⟩)
end Go.Proofs.YtflokiejcjjbiaaGreat.fnExactFits
namespace Go.Proofs.YtflokiejcjjbiaaGreat
section
open Go.RowKit Go.Deep Go.ChangeShapes Go.WideShapes Go.Joins
theorem cellsExp:Tryz.prog.cellsOf 27=7:=by kernel_rfl
theorem cellsVal:Tryz.prog.cellsOf 24=3:=by kernel_rfl
theorem cellsInt:Tryz.prog.cellsOf 3=1:=by kernel_rfl
theorem cellsStr:Tryz.prog.cellsOf 9=1:=by kernel_rfl
theorem cellsKids:Tryz.prog.cellsOf 25=1:=by kernel_rfl
section
variable {H:Type} {enc:TypeId×Value→H} {w:World} {spare:Nat→Bool} {held:Bool}
theorem open_exps {fuel:Nat}{v:Value}{x:DataW H×List MemPlace}(h:DataW.trod enc Tryz.prog w 0 spare held fuel 25 [v]=some x):∃es F,KidsIs w (fuel+1) v es F:=
 open_kids (P:=Tryz.prog) Tryz.underlying25 Tryz.underlying27 cellsExp rfl rfl rfl rfl rfl cellsInt cellsInt cellsVal cellsStr cellsKids Tryz.underlying3 Tryz.underlying3 Tryz.underlying24 Tryz.underlying9 rfl rfl rfl rfl cellsInt cellsInt cellsStr Tryz.underlying3 Tryz.underlying3 Tryz.underlying9 fuel fuel (Nat.le_refl _) h
end
end
section
open Go.RowKit Go.Deep Go.ChangeShapes Go.WideShapes Go.Joins
theorem cellsPlan:Tryz.prog.cellsOf 30=12:=by kernel_rfl
theorem cellsPlans:Tryz.prog.cellsOf 28=1:=by kernel_rfl
section
variable {H:Type} {enc:TypeId×Value→H} {w:World} {spare:Nat→Bool} {held:Bool}
theorem open_exp7 {fuel:Nat}{z0 z1 z2 z3 z4 z5 z6:Value}{x:DataW H×List MemPlace}(h:DataW.trod enc Tryz.prog w 0 spare held fuel 27 [z0,z1,z2,z3,z4,z5,z6]=some x):∃ (e:E7) (F:List Nat) (n:Nat),n≤fuel∧z0=.int .i64 e.k∧z1=.int .i64 e.n∧z2=.int .i64 e.v.k∧z3=.int .i64 e.v.n∧z4=.string e.v.s∧z5=.string e.p∧e.wf∧KidsIs w n z6 e.ks F:=by
 obtain⟨xs,k,hk,_,_,hxl,hfld⟩:=DataW.trod_struct Tryz.underlying27 h
 match xs,hxl with
 | [y0,y1,y2,y3,y4],_=>
  have a0:=hfld 0 _ rfl;have a1:=hfld 1 _ rfl;have a2:=hfld 2 _ rfl;have a3:=hfld 3 _ rfl;have a4:=hfld 4 _ rfl;simp[cellsInt,cellsVal,cellsStr,cellsKids]at a0 a1 a2 a3 a4;obtain⟨n0,q0,_,w0⟩:=DataW.trod_int Tryz.underlying3 a0;obtain⟨n1,q1,_,w1⟩:=DataW.trod_int Tryz.underlying3 a1;obtain⟨n3,q3,_,w3⟩:=DataW.trod_string Tryz.underlying9 a3;obtain⟨ys,k2,hk2,_,_,hyl,hfl2⟩:=DataW.trod_struct Tryz.underlying24 a2
  match ys,hyl with
  | [b0,b1,b2],_=>
   have r0:=hfl2 0 _ rfl;have r1:=hfl2 1 _ rfl;have r2:=hfl2 2 _ rfl;simp[cellsInt,cellsStr]at r0 r1 r2;obtain⟨m0,s0,_,x0⟩:=DataW.trod_int Tryz.underlying3 r0;obtain⟨m1,s1,_,x1⟩:=DataW.trod_int Tryz.underlying3 r1;obtain⟨m2,s2,_,x2⟩:=DataW.trod_string Tryz.underlying9 r2;simp at q0 q1 q3 s0 s1 s2;subst q0 q1 q3 s0 s1 s2;obtain⟨ks,F,hK⟩:=open_exps a4;exact⟨.mk n0 n1 ⟨m0,m1,m2⟩ n3 ks,F,k+1,by omega,rfl,rfl,rfl,rfl,rfl,rfl,⟨w0,w1,⟨x0,x1,x2⟩,w3⟩,hK⟩
theorem open_plan12 {fuel N:Nat}(hN:fuel≤N+1)(ih:∀ (f:Nat),f≤N→∀ {v:Value} {x:DataW H×List MemPlace},DataW.trod enc Tryz.prog w 0 spare held f 28 [v]=some x→∃ps F,PlansIs w (N+2) (N+1) v ps F){z0 z1 z2 z3 z4 z5 z6 z7 z8 z9 z10 z11:Value} {x:DataW H×List MemPlace} (h:DataW.trod enc Tryz.prog w 0 spare held fuel 30 [z0,z1,z2,z3,z4,z5,z6,z7,z8,z9,z10,z11]=some x):∃ (p:P12) (g:List Nat),z0=.int .i64 p.k∧z1=.string p.s∧z2=.int .i64 p.e.k∧z3=.int .i64 p.e.n∧z4=.int .i64 p.e.v.k∧z5=.int .i64 p.e.v.n∧z6=.string p.e.v.s∧z7=.string p.e.p∧z10=.int .i64 p.n∧p.wf∧ListsP w (N+2) (PlansIs w (N+2) (N+1)) p z8 z9 z11 g:=by
 obtain⟨xs,k,hk,_,_,hxl,hfld⟩:=DataW.trod_struct Tryz.underlying30 h
 match xs,hxl with
 | [y0,y1,y2,y3,y4,y5],_=>
  have a0:=hfld 0 _ rfl;have a1:=hfld 1 _ rfl;have a2:=hfld 2 _ rfl;have a3:=hfld 3 _ rfl;have a4:=hfld 4 _ rfl;have a5:=hfld 5 _ rfl;simp[cellsInt,cellsStr,cellsExp,cellsKids,cellsPlans]at a0 a1 a2 a3 a4 a5;obtain⟨n0,q0,_,w0⟩:=DataW.trod_int Tryz.underlying3 a0;obtain⟨n1,q1,_,w1⟩:=DataW.trod_string Tryz.underlying9 a1;obtain⟨n4,q4,_,w4⟩:=DataW.trod_int Tryz.underlying3 a4;simp at q0 q1 q4;obtain⟨e,Fe,m,hm,e0,e1,e2,e3,e4,e5,ew,ke⟩:=open_exp7 a2;obtain⟨es,Fs,ks⟩:=open_exps a3;obtain⟨ps,F,kp⟩:=ih k (by omega) a5;exact⟨.mk n0 n1 e es n4 ps,Fe++(Fs++F),q0,q1,e0,e1,e2,e3,e4,e5,q4,⟨w0,w1,ew,w4⟩,Fe,Fs,F,rfl,ke.up (by omega),ks.up (by omega),kp⟩
theorem open_plans:∀ (N fuel:Nat),fuel≤N→∀ {v:Value} {x:DataW H×List MemPlace},DataW.trod enc Tryz.prog w 0 spare held fuel 28 [v]=some x→∃ps F,PlansIs w (N+2) (N+1) v ps F:=by
 intro N;induction N with
 |zero=>
  intro fuel hf v x h;obtain rfl:fuel=0:=by omega
  simp[DataW.trod]at h
 |succ N ih=>
  intro fuel hf v x h;rcases DataW.trod_slice Tryz.underlying28 h with⟨h0,_⟩|⟨a,len,cap,elems,rest,n,hfn,hcs,rfl,hb,hl,hm,hlen,hel,hsp,hns⟩
  ·simp at h0;subst h0;exact⟨[],[],none,0,[],rfl,by simp,by simp,rfl,fun _=>rfl,fun h=>absurd rfl h⟩
  simp at hcs;subst hcs;have each:∀i,i<len→∃q:P12×List Nat×Value×Value×Value,q.1.wf∧(w.cell? (a.add (i*12))=some (.int .i64 q.1.k)∧w.cell? (a.add (i*12+1))=some (.string q.1.s)∧w.cell? (a.add (i*12+2))=some (.int .i64 q.1.e.k)∧w.cell? (a.add (i*12+3))=some (.int .i64 q.1.e.n)∧w.cell? (a.add (i*12+4))=some (.int .i64 q.1.e.v.k)∧w.cell? (a.add (i*12+5))=some (.int .i64 q.1.e.v.n)∧w.cell? (a.add (i*12+6))=some (.string q.1.e.v.s)∧w.cell? (a.add (i*12+7))=some (.string q.1.e.p)∧w.cell? (a.add (i*12+8))=some q.2.2.1∧w.cell? (a.add (i*12+9))=some q.2.2.2.1∧w.cell? (a.add (i*12+10))=some (.int .i64 q.1.n)∧w.cell? (a.add (i*12+11))=some q.2.2.2.2)∧ListsP w (N+2) (PlansIs w (N+2) (N+1)) q.1 q.2.2.1 q.2.2.2.1 q.2.2.2.2 q.2.1:=by
   intro i hi;have hi1:=hel i hi;have hie:elems[i]?=some elems[i]:=by simp[hlen,hi]
   rw[hie,Option.bind_eq_some_iff]at hi1;obtain⟨cs',h1,h2⟩:=hi1;rw[cellsPlan]at h1;obtain⟨_,hlen12,hcell⟩:=World.cells?_some h1
   match cs',hlen12 with
   | [z0,z1,z2,z3,z4,z5,z6,z7,z8,z9,z10,z11],_=>
    obtain⟨p,g,r0,r1,r2,r3,r4,r5,r6,r7,r10,hw,hL⟩:=open_plan12 (N:=N) (by omega) ih h2;have e0:=hcell 0 (by omega);have e1:=hcell 1 (by omega);have e2:=hcell 2 (by omega);have e3:=hcell 3 (by omega);have e4:=hcell 4 (by omega);have e5:=hcell 5 (by omega);have e6:=hcell 6 (by omega);have e7:=hcell 7 (by omega);have e8:=hcell 8 (by omega);have e9:=hcell 9 (by omega);have e10:=hcell 10 (by omega);have e11:=hcell 11 (by omega);rw[add_add]at e0 e1 e2 e3 e4 e5 e6 e7 e8 e9 e10 e11;subst r0 r1 r2 r3 r4 r5 r6 r7 r10;exact⟨⟨p,g,z8,z9,z11⟩,hw,⟨by simpa using e0,by simpa using e1,by simpa using e2,by simpa using e3,by simpa using e4,by simpa using e5,by simpa using e6,by simpa using e7,by simpa using e8,by simpa using e9,by simpa using e10,by simpa using e11⟩,hL⟩
  have:Inhabited (P12×List Nat×Value×Value×Value):=⟨⟨.nil,[],.nilFunc,.nilFunc,.nilFunc⟩⟩;obtain⟨q,hq⟩:=choose_lt each;refine⟨(List.range len).map fun i=>(q i).1,if len=0 then[]else a.block::((List.range len).map fun i=>(q i).2.1).flatten,some a,cap,(List.range len).map fun i=>(q i).2.1,by simp,by simpa using hl,hm,by simp,fun hne=>?_,fun hne=>?_⟩
  ·have:len=0:=by simpa using congrArg List.length hne
   simp[this]
  ·have hpos:0<len:=by
    rcases Nat.eq_zero_or_pos len with h0|h0
    ·subst h0;simp at hne
    ·exact h0
   have hs:a.spot=none:=by have:=World.cell?_spot (hq 0 hpos).2.1.1;simpa [Addr.add]using this
   obtain⟨b,o,sp⟩:=a;simp at hs;subst hs;refine⟨b,o,rfl,?_,by simp;omega,fun i x g hx hg=>?_⟩
   ·have:=bl8 _ _ (hq 0 hpos).2.1.1
    simpa [Addr.add]using this
   ·have hi:i<len:=by
     obtain⟨h1,_⟩:=gE1 hx
     simpa using h1
    have ex:x=(q i).1:=by simp[hi]at hx;exact hx.symm
    have eg:g=(q i).2.1:=by simp[hi]at hg;exact hg.symm
    subst ex eg;obtain⟨hw,⟨h0,h1,h2,h3,h4,h5,h6,h7,h8,h9,h10,h11⟩,Fe,Fs,k,hgg,ke,kes,kp⟩:=hq i hi;rw[add_plain]at h0 h1 h2 h3 h4 h5 h6 h7 h8 h9 h10 h11;exact⟨hw,_,_,_,⟨h0,by simpa [Nat.add_assoc]using h1,by simpa [Nat.add_assoc]using h2,by simpa [Nat.add_assoc]using h3,by simpa [Nat.add_assoc]using h4,by simpa [Nat.add_assoc]using h5,by simpa [Nat.add_assoc]using h6,by simpa [Nat.add_assoc]using h7,by simpa [Nat.add_assoc]using h8,by simpa [Nat.add_assoc]using h9,by simpa [Nat.add_assoc]using h10,by simpa [Nat.add_assoc]using h11⟩,Fe,Fs,k,hgg,ke.up (by omega),kes.up (by omega),kp.up (by omega) (Nat.le_refl _)⟩
theorem open_plan {r:Reach}{b0:Nat}{v:Value}{d:DataW H}{ps:List MemPlace}(hv:Value.okWide Tryz.prog w r b0 30 v)(h:DataW.Trod enc Tryz.prog w 0 spare held 30 v d ps):∃ (p:P12) (ue us u:Value) (F:List Nat) (D n:Nat),v=(.agg #[.int .i64 p.k,.string p.s,.int .i64 p.e.k,.int .i64 p.e.n,.int .i64 p.e.v.k,.int .i64 p.e.v.n,.string p.e.v.s,.string p.e.p,ue,us,.int .i64 p.n,u])∧p.wf∧ListsP w D (PlansIs w D n) p ue us u F:=by
 obtain⟨⟨cs⟩,rfl,hsz⟩:=okWide_struct Tryz.underlying30 hv;obtain⟨fuel,hf⟩:=h;have hs12:cs.length=12:=by have:=hsz.trans cellsPlan;simpa using this
 match cs,hs12 with
 | [z0,z1,z2,z3,z4,z5,z6,z7,z8,z9,z10,z11],_=>
  obtain⟨p,g,r0,r1,r2,r3,r4,r5,r6,r7,r10,hw,hL⟩:=open_plan12 (N:=fuel) (fuel:=fuel) (by omega) (fun f hf'=>open_plans fuel f hf') (by simpa [Value.cells]using hf);subst r0 r1 r2 r3 r4 r5 r6 r7 r10;exact⟨p,z8,z9,z11,g,_,_,rfl,hw,hL⟩
end
end
end Go.Proofs.YtflokiejcjjbiaaGreat
namespace Go.Proofs.YtflokiejcjjbiaaGreat.fnExactFits
open Go.ChangeShapes Go.WideShapes Go.ChangeAt Go.RowKit Go.Joins
open Go.ChangeMaps (open_string shut_string)
theorem own:ownKnob Tryz.prog.godebug=none:=by kernel_rfl
theorem laidOut:laidOutB Tryz.prog=true:=by kernel_rfl
theorem lifted (os:Os)(started:os.Started)(H:Type)(enc:TypeId×Value→H):ReturnsInHanded {} Tryz.checked os 3 .any (Rows.fnExactFitsSpec.pre6 enc Tryz.prog Tryz.f3 Rows.fnExactFitsRow.domain false) (Rows.fnExactFitsSpec.post enc Tryz.prog Tryz.f3 false true false false):=by
 refine returnsInHanded_of_change_shaped (C:=Tryz.checked) own started (by kernel_rfl) Tryz.func3 (ChangeSpec.witness6 (enc:=enc) (C:=Tryz.checked) false ⟨#[],#[.slice none 0 0,.agg #[.int .i64 0,.string ⟨#[]⟩,.int .i64 0,.int .i64 0,.int .i64 0,.int .i64 0,.string ⟨#[]⟩,.string ⟨#[]⟩,.slice none 0 0,.slice none 0 0,.int .i64 0,.slice none 0 0]],[]⟩ 8 (by kernel_rfl) (by kernel_rfl) (by kernel_rfl) (by kernel_rfl)) ?_;intro W base args ds gs before hval0 hW hcnd _ hsh _;have hval:∀ (j:Nat) t v,Tryz.f3.params[j]?=some t→args[j]?=some v→Value.okWide Tryz.prog W .any base t v:=hval0;have hW':=hW;obtain⟨p,q,hA0,hV,rfl,hfz,hnd⟩:=hW;have hA:DataW.TrodAll enc Tryz.prog W 0 (fun _=>true) true Tryz.f3.params.toList args.toList ds p:=hA0;rw[Tryz.params3]at hA hval;obtain⟨v0,vs0,d0,ds0,p0,q0,hargs,rfl,rfl,h0,r0⟩:=trodAll_cons hA;obtain⟨v1,vs1,d1,ds1,p1,q1,rfl,rfl,rfl,h1,r1⟩:=trodAll_cons r0;obtain⟨rfl,rfl,rfl⟩:=trodAll_nil r1;obtain rfl:args=#[v0,v1]:=by cases args;simp_all
 obtain⟨rfl,rfl⟩:=trodVars_none hV;have k0:=h0;have lt0:∀x∈p0,x.block<W.heap.size:=by obtain⟨m,hm⟩:=k0;exact DataW.trod_lt m _ _ _ hm
 obtain⟨al0,ll0,cl0,rfl⟩:=okWide_slice Tryz.underlying22 (hval 0 22 v0 rfl rfl);obtain⟨fu0,hfu0⟩:=h0;obtain⟨rs0,hr0,hw0⟩:=open_rels (w:=W) (v:=.slice al0 ll0 cl0) Tryz.underlying22 Tryz.underlying52 (by kernel_rfl) rfl rfl (by kernel_rfl) (by kernel_rfl) Tryz.underlying9 Tryz.underlying50 rfl rfl (by kernel_rfl) (by kernel_rfl) Tryz.underlying3 Tryz.underlying48 Tryz.underlying122 (by kernel_rfl) rfl rfl (by kernel_rfl) (by kernel_rfl) Tryz.underlying120 Tryz.underlying3 Tryz.underlying24 (by kernel_rfl) rfl rfl rfl (by kernel_rfl) (by kernel_rfl) (by kernel_rfl) Tryz.underlying3 Tryz.underlying3 Tryz.underlying9 (by simpa [Value.cells]using hfu0);have k1:=h1;have lt1:∀x∈p1,x.block<W.heap.size:=by obtain⟨m,hm⟩:=k1;exact DataW.trod_lt m _ _ _ hm
 obtain⟨p1',ue1,us1,u1,F1,D1,n1,rfl,hw1,hr1⟩:=open_plan (hval 1 30 v1 rfl rfl) h1;clear hA0 hval0;obtain⟨m,hm⟩:=Tryz.laysM144.s1_3 W hsh;refine(walk (.slice al0 ll0 cl0) rs0 hw0 p1' ue1 us1 u1 F1 D1 n1 hw1 m W hr0 hr1 hm).mono fun e W' ⟨he,bel⟩=>?_;subst he;exact⟨_,rfl,_,_,_,[],_,[],hW',trodAll_mk1 (shut_bool Tryz.underlying4 _),(trodAll_cons_mk (Below.trod laidOut (by kernel_rfl) (of_decide_eq_true (by kernel_rfl)) k0 bel lt0) (trodAll_cons_mk (Below.trod laidOut (by kernel_rfl) (of_decide_eq_true (by kernel_rfl)) k1 bel lt1) trodAll_mk0)),rfl,bel.frame _,fun h=>by cases h⟩
theorem over:Rows.fnExactFitsRow.holds Tryz.pinned (OpenSpec.ofChange Rows.fnExactFitsSpec):=
 OpenClaim.holds_of_wide 3 Tryz.f3 rfl rfl rfl rfl rfl rfl rfl ⟨rfl,rfl,rfl,rfl,rfl⟩ rfl rfl rfl rfl rfl (by kernel_rfl) Tryz.func3 (by kernel_rfl) (of_decide_eq_true (by kernel_rfl)) (by unfold Func.isWrapper;first|(rw[if_pos (by decide+kernel)];kernel_rfl)|(rw[if_neg (by decide+kernel)];exact⟨rfl,rfl⟩)) (fun os started H enc _=>lifted os started H enc)
end Go.Proofs.YtflokiejcjjbiaaGreat.fnExactFits
namespace Go.Proofs.YtflokiejcjjbiaaGreat
theorem fnExactFits_holds:Rows.FnExactFitsSaid:=fnExactFits.over
end Go.Proofs.YtflokiejcjjbiaaGreat
