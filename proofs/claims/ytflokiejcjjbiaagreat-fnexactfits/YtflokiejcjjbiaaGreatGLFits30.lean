/- Own texts, joined: contracts that the law's proof goes by. -/
import Derived.Test.YtflokiejcjjbiaaGreatGLFits29
import Derived.Test.YtflokiejcjjbiaaGreatGLFits50
import Derived.Test.YtflokiejcjjbiaaGreatGLFits2
import Derived.Handy
import Derived.Test.YtflokiejcjjbiaaGreatGLFits7
import Derived.Test.YtflokiejcjjbiaaGreatGLFits47
import Derived.Test.YtflokiejcjjbiaaGreatGLFits37
import Derived.Deep.RegionHeld3
set_option maxHeartbeats 16000000
set_option maxRecDepth 100000
set_option linter.unusedVariables false
set_option linter.unusedSimpArgs false
namespace Go.Proofs.YtflokiejcjjbiaaGreat
section
open Go.RowKit
def partsP (p:P12):Bool:=formP p && ((p.k !=2||(decide (1≤p.es.length) &&decide (p.es.length≤12))) && (p.k !=6||decide (p.es.length≤1)))
theorem parts_no {rs:List R3}{f:Nat}{p:P12}(h:partsP p=false):wP8 rs (f+1) p= -1:=by
 rw[wP8,if_neg];intro hc;simp only[Bool.and_eq_true,decide_eq_true_eq,List.all_eq_true]at hc;obtain⟨⟨h1,_⟩,h3,h4⟩:=hc;have:partsP p=true:=by
  unfold partsP;rw[h1,Bool.true_and];simp only[Bool.and_eq_true,Bool.or_eq_true,bne_iff_ne,decide_eq_true_eq];constructor
  ·by_cases hk:p.k=2
   ·right;simp[okTop,outW,hk]at h3 h4;exact⟨h3.1,by omega⟩
   ·exact .inl hk
  ·by_cases hk:p.k=6
   ·right;simp[okTop,hk]at h3;exact h3.1.2
   ·exact .inl hk
 rw[h]at this;cases this
theorem kid_no {rs:List R3}{f:Nat}{p q:P12}(hq:q∈p.ks)(h:wP8 rs f q<0):wP8 rs (f+1) p= -1:=by
 rw[wP8,if_neg];intro hc;simp only[Bool.and_eq_true,decide_eq_true_eq,List.all_eq_true]at hc;have:=hc.1.2 q hq;omega
theorem top_no {rs:List R3}{f:Nat}{p:P12}(h:okTop rs p (wP8 rs f (p.ks.getD 0 .nil)) (wP8 rs f (p.ks.getD 1 .nil))=false):wP8 rs (f+1) p= -1:=by
 rw[wP8,if_neg];intro hc;simp only[Bool.and_eq_true,decide_eq_true_eq,List.all_eq_true]at hc;rw[h]at hc;cases hc.2.1
theorem wide_no {rs:List R3}{f:Nat}{p:P12}(h:12<outW rs p (wP8 rs f (p.ks.getD 0 .nil)) (wP8 rs f (p.ks.getD 1 .nil))):wP8 rs (f+1) p= -1:=by
 rw[wP8,if_neg];intro hc;simp only[Bool.and_eq_true,decide_eq_true_eq,List.all_eq_true]at hc;have:=hc.2.2;omega
theorem width_yes {rs:List R3}{f:Nat}{p:P12}(h1:partsP p=true)(h2:∀q∈p.ks,0≤wP8 rs f q)(h3:okTop rs p (wP8 rs f (p.ks.getD 0 .nil)) (wP8 rs f (p.ks.getD 1 .nil))=true)(h4:outW rs p (wP8 rs f (p.ks.getD 0 .nil)) (wP8 rs f (p.ks.getD 1 .nil))≤12):wP8 rs (f+1) p=outW rs p (wP8 rs f (p.ks.getD 0 .nil)) (wP8 rs f (p.ks.getD 1 .nil)):=by
 rw[wP8,if_pos];simp only[partsP,Bool.and_eq_true]at h1;simp only[Bool.and_eq_true,decide_eq_true_eq,List.all_eq_true];exact⟨⟨h1.1,h2⟩,h3,h4⟩
theorem relOf_pos {rs:List R3}(hdb:okDb rs=true){s:ByteArray}{x:R3}(h:relOf rs s=some x):0≤x.W:=by
 have:=okDb_each hdb (relOf_mem h);simp only[okBag,Bool.and_eq_true,decide_eq_true_eq]at this;exact this.1.1.1
theorem parts_kids {p:P12}(h:partsP p=true):(p.ks.length:Int)=kidsK p.k:=by
 simp only[partsP,Bool.and_eq_true]at h;exact form_kids h.1
theorem parts_in {p:P12}(h:partsP p=true):p.k=0∨p.k=1∨p.k=2∨p.k=3∨p.k=4∨p.k=5∨p.k=6:=by
 have:=parts_kids h;exact kidsK_in (by omega)
def FormR (w:World)(rs:List R3)(p:P12)(W:Int)(us v:Value):Prop:=
 (p.k=0∧us=.slice none 0 0∧∃x u,relOf rs p.s=some x∧x.W=W∧(∃F,RowsF w u x.cs F)∧v=.iface 149 (.agg #[.int .i64 0,.int .i64 W,us,.string p.s,.int .i64 W,u]))∨
 (p.k=1∧∃ue F D,KidsIs w D ue p.e.ks F∧v=.iface 139 (.agg #[.int .i64 1,.int .i64 W,us,.int .i64 p.e.k,.int .i64 p.e.n,.int .i64 p.e.v.k,.int .i64 p.e.v.n,.string p.e.v.s,.string p.e.p,ue]))∨
 (p.k=2∧∃ue F D,KidsIs w D ue p.es F∧v=.iface 141 (.agg #[.int .i64 2,.int .i64 W,us,ue]))∨
 (p.k=3∧∃ue F D,KidsIs w D ue p.e.ks F∧v=.iface 142 (.agg #[.int .i64 3,.int .i64 W,us,.int .i64 p.e.k,.int .i64 p.e.n,.int .i64 p.e.v.k,.int .i64 p.e.v.n,.string p.e.v.s,.string p.e.p,ue]))∨
 (p.k=4∧v=.iface 144 (.agg #[.int .i64 4,.int .i64 W,us]))∨
 (p.k=5∧v=.iface 145 (.agg #[.int .i64 5,.int .i64 W,us]))∨
 (p.k=6∧∃ue F D,KidsIs w D ue p.es F∧v=.iface 147 (.agg #[.int .i64 6,.int .i64 W,us,.int .i64 p.n,ue]))
def UnderIs (D:Nat→Prop)(w:World)(us:Value)(vals:List Value):Prop:=∃a c,us=.slice a vals.length c∧c≤maxLen∧(0<vals.length→∃g,a=some ⟨g,0,none⟩∧D g∧∀k x,vals[k]?=some x→w.cell? ⟨g,k,none⟩=some x)
theorem UnderIs.keep {D D':Nat→Prop}{w w':World}{us:Value}{vals:List Value}(h:UnderIs D w us vals)(hD:∀b,D b→D' b)(hw:∀b,D b→w'.heap[b]?=w.heap[b]?):UnderIs D' w' us vals:=by
 obtain⟨a,c,rfl,hc,h⟩:=h;refine⟨a,c,rfl,hc,fun h0=>?_⟩;obtain⟨g,rfl,hg,hx⟩:=h h0;exact⟨g,rfl,hD g hg,fun k x hk=>(cb8 (hw g hg)).trans (hx k x hk)⟩
def RightIs (W0:World)(rs:List R3):Nat→(Nat→Prop)→World→Value→P12→Prop
 |0,_,_,_,_=>False
 |f+1,D,w,v,p=> ∃ (us:Value) (vals:List Value),FormR W0 rs p (wP8 rs (f+1) p) us v∧UnderIs D w us vals∧vals.length=p.ks.length∧∀ (k:Nat) (q:P12) (x:Value),p.ks[k]?=some q→vals[k]?=some x→RightIs W0 rs f D w x q
theorem RightIs.keep {W0:World}{rs:List R3}{D D':Nat→Prop}{w w':World}(hD:∀b,D b→D' b)(hw:∀b,D b→w'.heap[b]?=w.heap[b]?):∀ {f:Nat} {v:Value} {p:P12},RightIs W0 rs f D w v p→RightIs W0 rs f D' w' v p
 |0,_,_,h=>h.elim
 |f+1,v,p,⟨us,vals,h1,h2,h3,h4⟩=>⟨us,vals,h1,h2.keep hD hw,h3,fun k q x hq hx=>RightIs.keep hD hw (h4 k q x hq hx)⟩
end
section
open Go.RowKit Go.Deep Go.ChangeShapes Go.WideShapes
theorem copyNodes_any (D:Nat)(P:E7→Prop)(hP:∀e,P e→∀k∈e.ks,P k)(e:E7)(u:Value)(F:List Nat)(w:World)(he:e.wf)(hPe:P e)(hk:KidsIs w (D+1) u e.ks F)(hd:(F.Nodup∧∀b∈F,Fr w b)∨cntE e≤8191)(hn:wtE e≤2097152):Calls Tryz.prog 125 #[(.agg #[.int .i64 e.k,.int .i64 e.n,.int .i64 e.v.k,.int .i64 e.v.n,.string e.v.s,.string e.p,u])] w fun x w'=>(∃v w0,x=.returned v∧w.heap.size<w0.heap.size∧CpOut w0 D P e w' v)∧Below w.heap.size w w':=by
 obtain⟨a,c,rfl,hl,hc⟩:=hk.shape;go_enter Tryz.func125,Tryz.ntmps125;go_wp2_with fail;have hb0:Below w.heap.size w (w.alloc (.cells #[.int .i64 e.k,.int .i64 e.n,.int .i64 e.v.k,.int .i64 e.v.n,.string e.v.s,.string e.p,.slice a e.ks.length c] 39)):=bex;have hd':(F.Nodup∧∀b∈F,Fr (w.alloc (.cells #[.int .i64 e.k,.int .i64 e.n,.int .i64 e.v.k,.int .i64 e.v.n,.string e.v.s,.string e.p,.slice a e.ks.length c] 39)) b)∨cntE e≤8191:=by
  rcases hd with h|h
  ·exact .inl ⟨h.1,fun b hb=>(h.2 b hb).keep (hb0.block b (hk.lt b hb))⟩
  ·exact .inr h
 refine cM8 (copyPlaces_any D P hP e (.slice a e.ks.length c) F _ (by simp) he hPe (hk.below hb0) hd' hn) ?_;rintro x w1 ⟨⟨v1,rfl,hO⟩,hb1⟩;have hz1:=hb1.size;simp only[World.size_alloc]at hz1;have HO:Hid (CpOut _ D P e w1 v1):=hO;obtain⟨ns,hang,hown,_⟩:=hO;obtain⟨av,cv,rfl⟩:∃av cv,v1=.slice av ns.length cv:=by
  rcases hown.2 with⟨h,h0⟩|⟨g,cap,cur,h,_⟩
  ·exact⟨none,0,by rw[h0];exact h⟩
  ·exact⟨_,cap,h⟩
 clear hown hd hd';go_wp2_with fail;go_returns;exact⟨⟨_,_,rfl,by simp,HO.out⟩,bex⟩
theorem RE.own {w w':World}{D:Nat}{hang:Nat→Nat×Nat}{P:E7→Prop}{ns:List Nd}{d j:Nat}{x:Nd}{u:Value}(hN:0<w.heap.size)(h:NQ w D hang P w' ns.length ns)(hx:ns[j]?=some x)(hd:DE d x.e.ks)(hu:w'.cell? ⟨x.b,x.o+6,none⟩=some u):∃F,KidsIs w' d u x.e.ks F∧Own w' w.heap.size F∧∀c∈F,Hangs hang c (x.b,x.o+6):=
 KidsU.kids h.dn hN (h.kids hx hd hu)
end
section
open Go.RowKit Go.Deep
theorem nil_kids {w:World}{d:Nat}(a:Option Addr)(c:Nat)(hc:c≤maxLen):KidsIs w (d+1) (.slice a 0 c) [] []:=
 ⟨a,c,[],rfl,Nat.zero_le _,hc,rfl,fun _=>rfl,fun h=>absurd rfl h⟩
end
section
open Go.RowKit
theorem nbP0 (m:Nat):((m:Int)==0)=(m==0):=by rw[Bool.eq_iff_iff,beq_iff_eq,beq_iff_eq];omega
theorem nbP1 (m:Nat):((m:Int)==1)=(m==1):=by rw[Bool.eq_iff_iff,beq_iff_eq,beq_iff_eq];omega
theorem nbP2 (m:Nat):((m:Int)==2)=(m==2):=by rw[Bool.eq_iff_iff,beq_iff_eq,beq_iff_eq];omega
theorem nbL1 (m:Nat):((m:Int)≤1)=(m≤1):=by rw[eq_iff_iff];omega
theorem nbL2 (m:Nat):((m:Int)≤12)=(m≤12):=by rw[eq_iff_iff];omega
theorem nbL3 (m:Nat):((1:Int)≤m)=(1≤m):=by rw[eq_iff_iff];omega
theorem parts_0 (k:Int)(s:ByteArray)(e:E7)(n:Int)(a1 a2 a3:Option Addr)(le c1 ls c2 lk c3:Nat)(w:World)(bn:Bool)(hls:ls≤maxLen)(hlk:lk≤maxLen)(hS:∀w2,Below w.heap.size w w2→Calls Tryz.prog 80 #[(.agg #[.int .i64 e.k,.int .i64 e.n,.int .i64 e.v.k,.int .i64 e.v.n,.string e.v.s,.string e.p,(.slice a1 le c1)]),.agg #[.int .i64 0,.int .i64 0,.int .i64 0,.int .i64 0,.string ⟨#[]⟩,.string ⟨#[]⟩,.slice none 0 0]] w2 fun x w'=>x=.returned (.bool bn)∧Below w2.heap.size w2 w'):Calls Tryz.prog 60 #[.agg #[.int .i64 (0),.string s,.int .i64 e.k,.int .i64 e.n,.int .i64 e.v.k,.int .i64 e.v.n,.string e.v.s,.string e.p,.slice a1 le c1,.slice a2 ls c2,.int .i64 n,.slice a3 lk c3]] w fun x w'=>x=.returned (.bool (n==0 && (bn && (ls==0 &&lk==0))))∧Below w.heap.size w w':=by
 unfold maxLen at hls hlk;go_enter Tryz.func60,Tryz.ntmps60;go_wp2_with fail;try go_region_held3 (fun w'=>w'.cell? ⟨w.heap.size,9,none⟩=some (.slice a2 ls c2)∧w'.cell? ⟨w.heap.size,11,none⟩=some (.slice a3 lk c3)) (refine⟨?_,?_⟩<;>first|(go_simp;done)|assumption|(exact cL8 (by assumption) (by go_simp))) (fail)
 try go_wp2_with fail
 go_region_held3 (fun w'=>w'.cell? ⟨w.heap.size,1,none⟩=some (.string s)∧w'.cell? ⟨w.heap.size,10,none⟩=some (.int .i64 n)∧w'.cell? ⟨w.heap.size,2,none⟩=some (.int .i64 e.k)∧w'.cell? ⟨w.heap.size,3,none⟩=some (.int .i64 e.n)∧w'.cell? ⟨w.heap.size,4,none⟩=some (.int .i64 e.v.k)∧w'.cell? ⟨w.heap.size,5,none⟩=some (.int .i64 e.v.n)∧w'.cell? ⟨w.heap.size,6,none⟩=some (.string e.v.s)∧w'.cell? ⟨w.heap.size,7,none⟩=some (.string e.p)∧w'.cell? ⟨w.heap.size,8,none⟩=some (.slice a1 le c1)) (refine⟨?_,?_,?_,?_,?_,?_,?_,?_,?_⟩<;>first|(with_reducible assumption)|(go_simp;done)|(exact cL8 (by assumption) (by go_simp))) (first|(go_at_call 80;refine cM8 (hS _ bex) ?_;rintro z w4 ⟨rfl,hb4⟩;have hz4:=hb4.size;(try simp at hz4)));have q0:w4.cell? ⟨w.heap.size,0,none⟩=some (.int .i64 (0)):=cL8 hb4 (by go_simp);clear hS;go_wp2_with fail;all_goals(go_returns;exact⟨rB8 (by first|(simp_all [nbP0,nbP1,nbP2,nbL1,nbL2,nbL3];done)|(simp_all [nbP0,nbP1,nbP2,nbL1,nbL2,nbL3]<;>intros<;>omega)),bex⟩)
theorem parts_1 (k:Int)(s:ByteArray)(e:E7)(n:Int)(a1 a2 a3:Option Addr)(le c1 ls c2 lk c3:Nat)(w:World)(bn:Bool)(hls:ls≤maxLen)(hlk:lk≤maxLen)(hS:∀w2,Below w.heap.size w w2→Calls Tryz.prog 80 #[(.agg #[.int .i64 e.k,.int .i64 e.n,.int .i64 e.v.k,.int .i64 e.v.n,.string e.v.s,.string e.p,(.slice a1 le c1)]),.agg #[.int .i64 0,.int .i64 0,.int .i64 0,.int .i64 0,.string ⟨#[]⟩,.string ⟨#[]⟩,.slice none 0 0]] w2 fun x w'=>x=.returned (.bool bn)∧Below w2.heap.size w2 w'):Calls Tryz.prog 60 #[.agg #[.int .i64 (1),.string s,.int .i64 e.k,.int .i64 e.n,.int .i64 e.v.k,.int .i64 e.v.n,.string e.v.s,.string e.p,.slice a1 le c1,.slice a2 ls c2,.int .i64 n,.slice a3 lk c3]] w fun x w'=>x=.returned (.bool (s.toList==[] && (n==0 && (ls==0 &&lk==1))))∧Below w.heap.size w w':=by
 unfold maxLen at hls hlk;go_enter Tryz.func60,Tryz.ntmps60;go_wp2_with fail;try go_region_held3 (fun w'=>w'.cell? ⟨w.heap.size,9,none⟩=some (.slice a2 ls c2)∧w'.cell? ⟨w.heap.size,11,none⟩=some (.slice a3 lk c3)) (refine⟨?_,?_⟩<;>first|(go_simp;done)|assumption|(exact cL8 (by assumption) (by go_simp))) (fail)
 try go_wp2_with fail
 go_region_held3 (fun w'=>w'.cell? ⟨w.heap.size,1,none⟩=some (.string s)∧w'.cell? ⟨w.heap.size,10,none⟩=some (.int .i64 n)∧w'.cell? ⟨w.heap.size,2,none⟩=some (.int .i64 e.k)∧w'.cell? ⟨w.heap.size,3,none⟩=some (.int .i64 e.n)∧w'.cell? ⟨w.heap.size,4,none⟩=some (.int .i64 e.v.k)∧w'.cell? ⟨w.heap.size,5,none⟩=some (.int .i64 e.v.n)∧w'.cell? ⟨w.heap.size,6,none⟩=some (.string e.v.s)∧w'.cell? ⟨w.heap.size,7,none⟩=some (.string e.p)∧w'.cell? ⟨w.heap.size,8,none⟩=some (.slice a1 le c1)) (refine⟨?_,?_,?_,?_,?_,?_,?_,?_,?_⟩<;>first|(with_reducible assumption)|(go_simp;done)|(exact cL8 (by assumption) (by go_simp))) (first|(go_at_call 80;refine cM8 (hS _ bex) ?_;rintro z w4 ⟨rfl,hb4⟩;have hz4:=hb4.size;(try simp at hz4)));have q0:w4.cell? ⟨w.heap.size,0,none⟩=some (.int .i64 (1)):=cL8 hb4 (by go_simp);clear hS;go_wp2_with fail;all_goals(go_returns;exact⟨rB8 (by first|(simp_all [nbP0,nbP1,nbP2,nbL1,nbL2,nbL3];done)|(simp_all [nbP0,nbP1,nbP2,nbL1,nbL2,nbL3]<;>intros<;>omega)),bex⟩)
theorem parts_2 (k:Int)(s:ByteArray)(e:E7)(n:Int)(a1 a2 a3:Option Addr)(le c1 ls c2 lk c3:Nat)(w:World)(bn:Bool)(hls:ls≤maxLen)(hlk:lk≤maxLen)(hS:∀w2,Below w.heap.size w w2→Calls Tryz.prog 80 #[(.agg #[.int .i64 e.k,.int .i64 e.n,.int .i64 e.v.k,.int .i64 e.v.n,.string e.v.s,.string e.p,(.slice a1 le c1)]),.agg #[.int .i64 0,.int .i64 0,.int .i64 0,.int .i64 0,.string ⟨#[]⟩,.string ⟨#[]⟩,.slice none 0 0]] w2 fun x w'=>x=.returned (.bool bn)∧Below w2.heap.size w2 w'):Calls Tryz.prog 60 #[.agg #[.int .i64 (2),.string s,.int .i64 e.k,.int .i64 e.n,.int .i64 e.v.k,.int .i64 e.v.n,.string e.v.s,.string e.p,.slice a1 le c1,.slice a2 ls c2,.int .i64 n,.slice a3 lk c3]] w fun x w'=>x=.returned (.bool (s.toList==[] && (n==0 && (bn && (decide (1≤ls) && (decide (ls≤12) &&lk==1))))))∧Below w.heap.size w w':=by
 unfold maxLen at hls hlk;go_enter Tryz.func60,Tryz.ntmps60;go_wp2_with fail;try go_region_held3 (fun w'=>w'.cell? ⟨w.heap.size,9,none⟩=some (.slice a2 ls c2)∧w'.cell? ⟨w.heap.size,11,none⟩=some (.slice a3 lk c3)) (refine⟨?_,?_⟩<;>first|(go_simp;done)|assumption|(exact cL8 (by assumption) (by go_simp))) (fail)
 try go_wp2_with fail
 go_region_held3 (fun w'=>w'.cell? ⟨w.heap.size,1,none⟩=some (.string s)∧w'.cell? ⟨w.heap.size,10,none⟩=some (.int .i64 n)∧w'.cell? ⟨w.heap.size,2,none⟩=some (.int .i64 e.k)∧w'.cell? ⟨w.heap.size,3,none⟩=some (.int .i64 e.n)∧w'.cell? ⟨w.heap.size,4,none⟩=some (.int .i64 e.v.k)∧w'.cell? ⟨w.heap.size,5,none⟩=some (.int .i64 e.v.n)∧w'.cell? ⟨w.heap.size,6,none⟩=some (.string e.v.s)∧w'.cell? ⟨w.heap.size,7,none⟩=some (.string e.p)∧w'.cell? ⟨w.heap.size,8,none⟩=some (.slice a1 le c1)) (refine⟨?_,?_,?_,?_,?_,?_,?_,?_,?_⟩<;>first|(with_reducible assumption)|(go_simp;done)|(exact cL8 (by assumption) (by go_simp))) (first|(go_at_call 80;refine cM8 (hS _ bex) ?_;rintro z w4 ⟨rfl,hb4⟩;have hz4:=hb4.size;(try simp at hz4)));have q0:w4.cell? ⟨w.heap.size,0,none⟩=some (.int .i64 (2)):=cL8 hb4 (by go_simp);clear hS;go_wp2_with fail;all_goals(go_returns;exact⟨rB8 (by first|(simp_all [nbP0,nbP1,nbP2,nbL1,nbL2,nbL3];done)|(simp_all [nbP0,nbP1,nbP2,nbL1,nbL2,nbL3]<;>intros<;>omega)),bex⟩)
theorem parts_3 (k:Int)(s:ByteArray)(e:E7)(n:Int)(a1 a2 a3:Option Addr)(le c1 ls c2 lk c3:Nat)(w:World)(bn:Bool)(hls:ls≤maxLen)(hlk:lk≤maxLen)(hS:∀w2,Below w.heap.size w w2→Calls Tryz.prog 80 #[(.agg #[.int .i64 e.k,.int .i64 e.n,.int .i64 e.v.k,.int .i64 e.v.n,.string e.v.s,.string e.p,(.slice a1 le c1)]),.agg #[.int .i64 0,.int .i64 0,.int .i64 0,.int .i64 0,.string ⟨#[]⟩,.string ⟨#[]⟩,.slice none 0 0]] w2 fun x w'=>x=.returned (.bool bn)∧Below w2.heap.size w2 w'):Calls Tryz.prog 60 #[.agg #[.int .i64 (3),.string s,.int .i64 e.k,.int .i64 e.n,.int .i64 e.v.k,.int .i64 e.v.n,.string e.v.s,.string e.p,.slice a1 le c1,.slice a2 ls c2,.int .i64 n,.slice a3 lk c3]] w fun x w'=>x=.returned (.bool (s.toList==[] && (n==0 && (ls==0 &&lk==2))))∧Below w.heap.size w w':=by
 unfold maxLen at hls hlk;go_enter Tryz.func60,Tryz.ntmps60;go_wp2_with fail;try go_region_held3 (fun w'=>w'.cell? ⟨w.heap.size,9,none⟩=some (.slice a2 ls c2)∧w'.cell? ⟨w.heap.size,11,none⟩=some (.slice a3 lk c3)) (refine⟨?_,?_⟩<;>first|(go_simp;done)|assumption|(exact cL8 (by assumption) (by go_simp))) (fail)
 try go_wp2_with fail
 go_region_held3 (fun w'=>w'.cell? ⟨w.heap.size,1,none⟩=some (.string s)∧w'.cell? ⟨w.heap.size,10,none⟩=some (.int .i64 n)∧w'.cell? ⟨w.heap.size,2,none⟩=some (.int .i64 e.k)∧w'.cell? ⟨w.heap.size,3,none⟩=some (.int .i64 e.n)∧w'.cell? ⟨w.heap.size,4,none⟩=some (.int .i64 e.v.k)∧w'.cell? ⟨w.heap.size,5,none⟩=some (.int .i64 e.v.n)∧w'.cell? ⟨w.heap.size,6,none⟩=some (.string e.v.s)∧w'.cell? ⟨w.heap.size,7,none⟩=some (.string e.p)∧w'.cell? ⟨w.heap.size,8,none⟩=some (.slice a1 le c1)) (refine⟨?_,?_,?_,?_,?_,?_,?_,?_,?_⟩<;>first|(with_reducible assumption)|(go_simp;done)|(exact cL8 (by assumption) (by go_simp))) (first|(go_at_call 80;refine cM8 (hS _ bex) ?_;rintro z w4 ⟨rfl,hb4⟩;have hz4:=hb4.size;(try simp at hz4)));have q0:w4.cell? ⟨w.heap.size,0,none⟩=some (.int .i64 (3)):=cL8 hb4 (by go_simp);clear hS;go_wp2_with fail;all_goals(go_returns;exact⟨rB8 (by first|(simp_all [nbP0,nbP1,nbP2,nbL1,nbL2,nbL3];done)|(simp_all [nbP0,nbP1,nbP2,nbL1,nbL2,nbL3]<;>intros<;>omega)),bex⟩)
theorem parts_4 (k:Int)(s:ByteArray)(e:E7)(n:Int)(a1 a2 a3:Option Addr)(le c1 ls c2 lk c3:Nat)(w:World)(bn:Bool)(hls:ls≤maxLen)(hlk:lk≤maxLen)(hS:∀w2,Below w.heap.size w w2→Calls Tryz.prog 80 #[(.agg #[.int .i64 e.k,.int .i64 e.n,.int .i64 e.v.k,.int .i64 e.v.n,.string e.v.s,.string e.p,(.slice a1 le c1)]),.agg #[.int .i64 0,.int .i64 0,.int .i64 0,.int .i64 0,.string ⟨#[]⟩,.string ⟨#[]⟩,.slice none 0 0]] w2 fun x w'=>x=.returned (.bool bn)∧Below w2.heap.size w2 w'):Calls Tryz.prog 60 #[.agg #[.int .i64 (4),.string s,.int .i64 e.k,.int .i64 e.n,.int .i64 e.v.k,.int .i64 e.v.n,.string e.v.s,.string e.p,.slice a1 le c1,.slice a2 ls c2,.int .i64 n,.slice a3 lk c3]] w fun x w'=>x=.returned (.bool (s.toList==[] && (n==0 && (bn && (ls==0 &&lk==2)))))∧Below w.heap.size w w':=by
 unfold maxLen at hls hlk;go_enter Tryz.func60,Tryz.ntmps60;go_wp2_with fail;try go_region_held3 (fun w'=>w'.cell? ⟨w.heap.size,9,none⟩=some (.slice a2 ls c2)∧w'.cell? ⟨w.heap.size,11,none⟩=some (.slice a3 lk c3)) (refine⟨?_,?_⟩<;>first|(go_simp;done)|assumption|(exact cL8 (by assumption) (by go_simp))) (fail)
 try go_wp2_with fail
 go_region_held3 (fun w'=>w'.cell? ⟨w.heap.size,1,none⟩=some (.string s)∧w'.cell? ⟨w.heap.size,10,none⟩=some (.int .i64 n)∧w'.cell? ⟨w.heap.size,2,none⟩=some (.int .i64 e.k)∧w'.cell? ⟨w.heap.size,3,none⟩=some (.int .i64 e.n)∧w'.cell? ⟨w.heap.size,4,none⟩=some (.int .i64 e.v.k)∧w'.cell? ⟨w.heap.size,5,none⟩=some (.int .i64 e.v.n)∧w'.cell? ⟨w.heap.size,6,none⟩=some (.string e.v.s)∧w'.cell? ⟨w.heap.size,7,none⟩=some (.string e.p)∧w'.cell? ⟨w.heap.size,8,none⟩=some (.slice a1 le c1)) (refine⟨?_,?_,?_,?_,?_,?_,?_,?_,?_⟩<;>first|(with_reducible assumption)|(go_simp;done)|(exact cL8 (by assumption) (by go_simp))) (first|(go_at_call 80;refine cM8 (hS _ bex) ?_;rintro z w4 ⟨rfl,hb4⟩;have hz4:=hb4.size;(try simp at hz4)));have q0:w4.cell? ⟨w.heap.size,0,none⟩=some (.int .i64 (4)):=cL8 hb4 (by go_simp);clear hS;go_wp2_with fail;all_goals(go_returns;exact⟨rB8 (by first|(simp_all [nbP0,nbP1,nbP2,nbL1,nbL2,nbL3];done)|(simp_all [nbP0,nbP1,nbP2,nbL1,nbL2,nbL3]<;>intros<;>omega)),bex⟩)
theorem parts_5 (k:Int)(s:ByteArray)(e:E7)(n:Int)(a1 a2 a3:Option Addr)(le c1 ls c2 lk c3:Nat)(w:World)(bn:Bool)(hls:ls≤maxLen)(hlk:lk≤maxLen)(hS:∀w2,Below w.heap.size w w2→Calls Tryz.prog 80 #[(.agg #[.int .i64 e.k,.int .i64 e.n,.int .i64 e.v.k,.int .i64 e.v.n,.string e.v.s,.string e.p,(.slice a1 le c1)]),.agg #[.int .i64 0,.int .i64 0,.int .i64 0,.int .i64 0,.string ⟨#[]⟩,.string ⟨#[]⟩,.slice none 0 0]] w2 fun x w'=>x=.returned (.bool bn)∧Below w2.heap.size w2 w'):Calls Tryz.prog 60 #[.agg #[.int .i64 (5),.string s,.int .i64 e.k,.int .i64 e.n,.int .i64 e.v.k,.int .i64 e.v.n,.string e.v.s,.string e.p,.slice a1 le c1,.slice a2 ls c2,.int .i64 n,.slice a3 lk c3]] w fun x w'=>x=.returned (.bool (s.toList==[] && (n==0 && (bn && (ls==0 &&lk==1)))))∧Below w.heap.size w w':=by
 unfold maxLen at hls hlk;go_enter Tryz.func60,Tryz.ntmps60;go_wp2_with fail;try go_region_held3 (fun w'=>w'.cell? ⟨w.heap.size,9,none⟩=some (.slice a2 ls c2)∧w'.cell? ⟨w.heap.size,11,none⟩=some (.slice a3 lk c3)) (refine⟨?_,?_⟩<;>first|(go_simp;done)|assumption|(exact cL8 (by assumption) (by go_simp))) (fail)
 try go_wp2_with fail
 go_region_held3 (fun w'=>w'.cell? ⟨w.heap.size,1,none⟩=some (.string s)∧w'.cell? ⟨w.heap.size,10,none⟩=some (.int .i64 n)∧w'.cell? ⟨w.heap.size,2,none⟩=some (.int .i64 e.k)∧w'.cell? ⟨w.heap.size,3,none⟩=some (.int .i64 e.n)∧w'.cell? ⟨w.heap.size,4,none⟩=some (.int .i64 e.v.k)∧w'.cell? ⟨w.heap.size,5,none⟩=some (.int .i64 e.v.n)∧w'.cell? ⟨w.heap.size,6,none⟩=some (.string e.v.s)∧w'.cell? ⟨w.heap.size,7,none⟩=some (.string e.p)∧w'.cell? ⟨w.heap.size,8,none⟩=some (.slice a1 le c1)) (refine⟨?_,?_,?_,?_,?_,?_,?_,?_,?_⟩<;>first|(with_reducible assumption)|(go_simp;done)|(exact cL8 (by assumption) (by go_simp))) (first|(go_at_call 80;refine cM8 (hS _ bex) ?_;rintro z w4 ⟨rfl,hb4⟩;have hz4:=hb4.size;(try simp at hz4)));have q0:w4.cell? ⟨w.heap.size,0,none⟩=some (.int .i64 (5)):=cL8 hb4 (by go_simp);clear hS;go_wp2_with fail;all_goals(go_returns;exact⟨rB8 (by first|(simp_all [nbP0,nbP1,nbP2,nbL1,nbL2,nbL3];done)|(simp_all [nbP0,nbP1,nbP2,nbL1,nbL2,nbL3]<;>intros<;>omega)),bex⟩)
theorem parts_6 (k:Int)(s:ByteArray)(e:E7)(n:Int)(a1 a2 a3:Option Addr)(le c1 ls c2 lk c3:Nat)(w:World)(bn:Bool)(hls:ls≤maxLen)(hlk:lk≤maxLen)(hS:∀w2,Below w.heap.size w w2→Calls Tryz.prog 80 #[(.agg #[.int .i64 e.k,.int .i64 e.n,.int .i64 e.v.k,.int .i64 e.v.n,.string e.v.s,.string e.p,(.slice a1 le c1)]),.agg #[.int .i64 0,.int .i64 0,.int .i64 0,.int .i64 0,.string ⟨#[]⟩,.string ⟨#[]⟩,.slice none 0 0]] w2 fun x w'=>x=.returned (.bool bn)∧Below w2.heap.size w2 w'):Calls Tryz.prog 60 #[.agg #[.int .i64 (6),.string s,.int .i64 e.k,.int .i64 e.n,.int .i64 e.v.k,.int .i64 e.v.n,.string e.v.s,.string e.p,.slice a1 le c1,.slice a2 ls c2,.int .i64 n,.slice a3 lk c3]] w fun x w'=>x=.returned (.bool (s.toList==[] && (bn && (decide (ls≤1) &&lk==1))))∧Below w.heap.size w w':=by
 unfold maxLen at hls hlk;go_enter Tryz.func60,Tryz.ntmps60;go_wp2_with fail;try go_region_held3 (fun w'=>w'.cell? ⟨w.heap.size,9,none⟩=some (.slice a2 ls c2)∧w'.cell? ⟨w.heap.size,11,none⟩=some (.slice a3 lk c3)) (refine⟨?_,?_⟩<;>first|(go_simp;done)|assumption|(exact cL8 (by assumption) (by go_simp))) (fail)
 try go_wp2_with fail
 go_region_held3 (fun w'=>w'.cell? ⟨w.heap.size,1,none⟩=some (.string s)∧w'.cell? ⟨w.heap.size,10,none⟩=some (.int .i64 n)∧w'.cell? ⟨w.heap.size,2,none⟩=some (.int .i64 e.k)∧w'.cell? ⟨w.heap.size,3,none⟩=some (.int .i64 e.n)∧w'.cell? ⟨w.heap.size,4,none⟩=some (.int .i64 e.v.k)∧w'.cell? ⟨w.heap.size,5,none⟩=some (.int .i64 e.v.n)∧w'.cell? ⟨w.heap.size,6,none⟩=some (.string e.v.s)∧w'.cell? ⟨w.heap.size,7,none⟩=some (.string e.p)∧w'.cell? ⟨w.heap.size,8,none⟩=some (.slice a1 le c1)) (refine⟨?_,?_,?_,?_,?_,?_,?_,?_,?_⟩<;>first|(with_reducible assumption)|(go_simp;done)|(exact cL8 (by assumption) (by go_simp))) (first|(go_at_call 80;refine cM8 (hS _ bex) ?_;rintro z w4 ⟨rfl,hb4⟩;have hz4:=hb4.size;(try simp at hz4)));have q0:w4.cell? ⟨w.heap.size,0,none⟩=some (.int .i64 (6)):=cL8 hb4 (by go_simp);clear hS;go_wp2_with fail;all_goals(go_returns;exact⟨rB8 (by first|(simp_all [nbP0,nbP1,nbP2,nbL1,nbL2,nbL3];done)|(simp_all [nbP0,nbP1,nbP2,nbL1,nbL2,nbL3]<;>intros<;>omega)),bex⟩)
theorem parts_x (k:Int)(s:ByteArray)(e:E7)(n:Int)(a1 a2 a3:Option Addr)(le c1 ls c2 lk c3:Nat)(w:World)(bn:Bool)(hls:ls≤maxLen)(hlk:lk≤maxLen)(h0:¬k=0)(h1:¬k=1)(h2:¬k=2)(h3:¬k=3)(h4:¬k=4)(h5:¬k=5)(h6:¬k=6)(hS:∀w2,Below w.heap.size w w2→Calls Tryz.prog 80 #[(.agg #[.int .i64 e.k,.int .i64 e.n,.int .i64 e.v.k,.int .i64 e.v.n,.string e.v.s,.string e.p,(.slice a1 le c1)]),.agg #[.int .i64 0,.int .i64 0,.int .i64 0,.int .i64 0,.string ⟨#[]⟩,.string ⟨#[]⟩,.slice none 0 0]] w2 fun x w'=>x=.returned (.bool bn)∧Below w2.heap.size w2 w'):Calls Tryz.prog 60 #[.agg #[.int .i64 k,.string s,.int .i64 e.k,.int .i64 e.n,.int .i64 e.v.k,.int .i64 e.v.n,.string e.v.s,.string e.p,.slice a1 le c1,.slice a2 ls c2,.int .i64 n,.slice a3 lk c3]] w fun x w'=>x=.returned (.bool false)∧Below w.heap.size w w':=by
 unfold maxLen at hls hlk;go_enter Tryz.func60,Tryz.ntmps60;go_wp2_with fail;try go_region_held3 (fun w'=>w'.cell? ⟨w.heap.size,9,none⟩=some (.slice a2 ls c2)∧w'.cell? ⟨w.heap.size,11,none⟩=some (.slice a3 lk c3)) (refine⟨?_,?_⟩<;>first|(go_simp;done)|assumption|(exact cL8 (by assumption) (by go_simp))) (fail)
 try go_wp2_with fail
 go_region_held3 (fun w'=>w'.cell? ⟨w.heap.size,1,none⟩=some (.string s)∧w'.cell? ⟨w.heap.size,10,none⟩=some (.int .i64 n)∧w'.cell? ⟨w.heap.size,2,none⟩=some (.int .i64 e.k)∧w'.cell? ⟨w.heap.size,3,none⟩=some (.int .i64 e.n)∧w'.cell? ⟨w.heap.size,4,none⟩=some (.int .i64 e.v.k)∧w'.cell? ⟨w.heap.size,5,none⟩=some (.int .i64 e.v.n)∧w'.cell? ⟨w.heap.size,6,none⟩=some (.string e.v.s)∧w'.cell? ⟨w.heap.size,7,none⟩=some (.string e.p)∧w'.cell? ⟨w.heap.size,8,none⟩=some (.slice a1 le c1)) (refine⟨?_,?_,?_,?_,?_,?_,?_,?_,?_⟩<;>first|(with_reducible assumption)|(go_simp;done)|(exact cL8 (by assumption) (by go_simp))) (first|(go_at_call 80;refine cM8 (hS _ bex) ?_;rintro z w4 ⟨rfl,hb4⟩;have hz4:=hb4.size;(try simp at hz4)));have q0:w4.cell? ⟨w.heap.size,0,none⟩=some (.int .i64 k):=cL8 hb4 (by go_simp);clear hS;go_wp2_with fail;all_goals(go_returns;exact⟨rB8 (by first|(simp_all [nbP0,nbP1,nbP2,nbL1,nbL2,nbL3];done)|(simp_all [nbP0,nbP1,nbP2,nbL1,nbL2,nbL3]<;>intros<;>omega)),bex⟩)
theorem noneE_same (e:E7)(d:Nat):sameD (d+1) e (E7.mk 0 0 ⟨0,0,⟨#[]⟩⟩ ⟨#[]⟩ [])=noneE e:=by
 rw[sameD_eq];show(topB e (E7.mk 0 0 ⟨0,0,⟨#[]⟩⟩ ⟨#[]⟩ []) &&sameL d e.ks [])=noneE e;have:sameL d e.ks []=true:=by simp[sameL]
 rw[this,Bool.and_true];have e0:(⟨#[]⟩:ByteArray).toList=[]:=by rw[ByteArray.toList_eq]
 have e1:(E7.mk 0 0 ⟨0,0,⟨#[]⟩⟩ ⟨#[]⟩ []).ks=[]:=rfl;simp only[topB,noneE,zeroV,sameV,E7.mk_k,E7.mk_n,E7.mk_v,E7.mk_p,e0,e1,List.length_nil]
end
end Go.Proofs.YtflokiejcjjbiaaGreat
