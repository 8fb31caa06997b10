/- Own texts, joined: contracts that the law's proof goes by. -/
import Derived.Test.YtflokiejcjjbiaaGreatGLFits2
import Derived.Test.YtflokiejcjjbiaaGreatGLFits4
import Derived.Test.YtflokiejcjjbiaaGreatGLFits7
import Derived.Handy
import Derived.Deep.RegionHeld3
set_option maxHeartbeats 16000000
set_option maxRecDepth 100000
set_option linter.unusedVariables false
set_option linter.unusedSimpArgs false
namespace Go.Proofs.YtflokiejcjjbiaaGreat
section
open Go.RowKit Go.Deep Go.ChangeShapes Go.WideShapes
abbrev P12:Type:=DataW (Int×ByteArray×E7×List E7×Int)
namespace P12
def mk (k:Int)(s:ByteArray)(e:E7)(es:List E7)(n:Int)(ks:List P12):P12:=.agg (.held (k,s,e,es,n)::ks)
def k (p:P12):Int:=match p with| .agg (.held q::_)=>q.1|_=>0
def s (p:P12):ByteArray:=match p with| .agg (.held q::_)=>q.2.1|_=>⟨#[]⟩
def e (p:P12):E7:=match p with| .agg (.held q::_)=>q.2.2.1|_=> .nil
def es (p:P12):List E7:=match p with| .agg (.held q::_)=>q.2.2.2.1|_=>[]
def n (p:P12):Int:=match p with| .agg (.held q::_)=>q.2.2.2.2|_=>0
def ks (p:P12):List P12:=match p with| .agg (.held _::l)=>l|_=>[]
def wf (p:P12):Prop:=(Lit.int .i64 p.k).wf=true∧p.s.size≤maxLen∧p.e.wf∧(Lit.int .i64 p.n).wf=true
end P12
def wtP:DataW (Int×ByteArray×E7×List E7×Int)→Nat
 | .agg (.held q::l)=>q.2.1.size+wtE q.2.2.1+(q.2.2.2.1.length+wtEs q.2.2.2.1)+(l.length+(l.attach.map fun x=>have:=List.sizeOf_lt_of_mem x.2;wtP x.1).sum)
 |_=>0
def wtPs:List P12→Nat
 | []=>0
 |p::ps=>wtP p+wtPs ps
theorem wtPs_sum (l:List P12):(l.map wtP).sum=wtPs l:=by
 induction l with
 |nil=>rfl
 |cons e es ih=>rw[List.map_cons,List.sum_cons,wtPs,ih]
theorem wtE_nil:wtE (DataW.nil:E7)=0:=by rw[wtE.eq_def]
theorem wtP_eq (p:P12):wtP p=p.s.size+wtE p.e+(p.es.length+wtEs p.es)+(p.ks.length+wtPs p.ks):=by
 rw[wtP.eq_def];split
 ·rename_i q l
  have:(l.attach.map fun x=>wtP x.1)=l.map wtP:=by simp
  show q.2.1.size+wtE q.2.2.1+(q.2.2.2.1.length+wtEs q.2.2.2.1)+(l.length+(l.attach.map fun x=>wtP x.1).sum)=q.2.1.size+wtE q.2.2.1+(q.2.2.2.1.length+wtEs q.2.2.2.1)+(l.length+wtPs l);rw[this,wtPs_sum]
 ·rename_i h
  have hs:P12.s p=⟨#[]⟩:=by unfold P12.s;split;exact absurd rfl (h _ _);rfl
  have he:P12.e p=.nil:=by unfold P12.e;split;exact absurd rfl (h _ _);rfl
  have hes:P12.es p=[]:=by unfold P12.es;split;exact absurd rfl (h _ _);rfl
  have hk:P12.ks p=[]:=by unfold P12.ks;split;exact absurd rfl (h _ _);rfl
  rw[hs,he,hes,hk,wtE_nil];rfl
theorem wtPs_app (a b:List P12):wtPs (a++b)=wtPs a+wtPs b:=by
 induction a with
 |nil=>simp[wtPs]
 |cons x xs ih=>rw[List.cons_append,wtPs,wtPs,ih];omega
theorem wtPs_take {ps:List P12}{k:Nat}{p:P12}(h:ps[k]?=some p):wtPs (ps.take (k+1))=wtPs (ps.take k)+wtP p:=by
 obtain⟨hk,rfl⟩:=gE1 h;rw[List.take_succ_eq_append_getElem hk,wtPs_app];simp[wtPs]
theorem wtP_mem {ps:List P12}{p:P12}(h:p∈ps):wtP p≤wtPs ps:=by
 induction ps with
 |nil=>cases h
 |cons y ys ih=>
  rw[wtPs];rcases List.mem_cons.1 h with rfl|h
  ·omega
  ·have:=ih h;omega
def cellsP (w:World)(b q:Nat)(p:P12)(ue us u:Value):Prop:=
 w.cell? ⟨b,q,none⟩=some (.int .i64 p.k)∧w.cell? ⟨b,q+1,none⟩=some (.string p.s)∧w.cell? ⟨b,q+2,none⟩=some (.int .i64 p.e.k)∧w.cell? ⟨b,q+3,none⟩=some (.int .i64 p.e.n)∧w.cell? ⟨b,q+4,none⟩=some (.int .i64 p.e.v.k)∧w.cell? ⟨b,q+5,none⟩=some (.int .i64 p.e.v.n)∧w.cell? ⟨b,q+6,none⟩=some (.string p.e.v.s)∧w.cell? ⟨b,q+7,none⟩=some (.string p.e.p)∧w.cell? ⟨b,q+8,none⟩=some ue∧w.cell? ⟨b,q+9,none⟩=some us∧w.cell? ⟨b,q+10,none⟩=some (.int .i64 p.n)∧w.cell? ⟨b,q+11,none⟩=some u
theorem cellsP.keep {w w':World}{b q:Nat}{p:P12}{ue us u:Value}(h:cellsP w b q p ue us u)(hb:w'.heap[b]?=w.heap[b]?):cellsP w' b q p ue us u:=by
 obtain⟨h0,h1,h2,h3,h4,h5,h6,h7,h8,h9,h10,h11⟩:=h;exact⟨(cb8 hb).trans h0,(cb8 hb).trans h1,(cb8 hb).trans h2,(cb8 hb).trans h3,(cb8 hb).trans h4,(cb8 hb).trans h5,(cb8 hb).trans h6,(cb8 hb).trans h7,(cb8 hb).trans h8,(cb8 hb).trans h9,(cb8 hb).trans h10,(cb8 hb).trans h11⟩
def ListsP (w:World)(D:Nat)(R:Value→List P12→List Nat→Prop)(p:P12)(ue us u:Value)(g:List Nat):Prop:=
 ∃Fe Fs h,g=Fe++(Fs++h)∧KidsIs w D ue p.e.ks Fe∧KidsIs w D us p.es Fs∧R u p.ks h
def PlansIs (w:World)(D:Nat):Nat→Value→List P12→List Nat→Prop
 |0,_,_,_=>False
 |d+1,v,ps,F=> ∃ (a:Option Addr) (c:Nat) (G:List (List Nat)),v=.slice a ps.length c∧ps.length≤c∧c≤maxLen∧G.length=ps.length∧(ps=[]→F=[])∧
   (ps≠ []→∃b o,a=some ⟨b,o,none⟩∧b<w.heap.size∧F=b::G.flatten∧ ∀i p g,ps[i]?=some p→G[i]?=some g→p.wf∧∃ue us u,cellsP w b (o+i*12) p ue us u∧ListsP w D (PlansIs w D d) p ue us u g)
def PLies (w:World)(D d b o:Nat)(ps:List P12)(G:List (List Nat)):Prop:=
 ∀i p g,ps[i]?=some p→G[i]?=some g→p.wf∧∃ue us u,cellsP w b (o+i*12) p ue us u∧ListsP w D (PlansIs w D d) p ue us u g
theorem PlansIs.lt {w:World}{D:Nat}:∀ {d:Nat} {v:Value} {ps:List P12} {F:List Nat},PlansIs w D d v ps F→∀b∈F,b<w.heap.size
 |0,_,_,_,h=>h.elim
 |d+1,v,ps,F,h=>by
  obtain⟨a,c,G,rfl,_,_,hG,h0,h⟩:=h;by_cases hne:ps=[]
  ·rw[h0 hne];intro b hb;cases hb
  obtain⟨b,o,rfl,hlt,rfl,hL⟩:=h hne;intro x hx;rcases List.mem_cons.1 hx with rfl|hx
  ·exact hlt
  obtain⟨g,hg,hxg⟩:=List.mem_flatten.1 hx;obtain⟨i,hi,rfl⟩:=List.mem_iff_getElem.1 hg;have hi':i<ps.length:=by omega
  obtain⟨_,ue,us,u,_,Fe,Fs,h',hgg,ke,kes,kp⟩:=hL i ps[i] G[i] (by simp) (by simp);rw[hgg]at hxg;rcases List.mem_append.1 hxg with hx|hx
  ·exact ke.lt x hx
  rcases List.mem_append.1 hx with hx|hx
  ·exact kes.lt x hx
  ·exact kp.lt x hx
theorem PlansIs.keep {w w':World}{D:Nat}(hs:w.heap.size≤w'.heap.size):∀ {d:Nat} {v:Value} {ps:List P12} {F:List Nat},PlansIs w D d v ps F→(∀b∈F,w'.heap[b]?=w.heap[b]?)→PlansIs w' D d v ps F
 |0,_,_,_,h,_=>h.elim
 |d+1,v,ps,F,h,hF=>by
  obtain⟨a,c,G,rfl,hl,hc,hG,h0,h⟩:=h;refine⟨a,c,G,rfl,hl,hc,hG,h0,fun hne=>?_⟩;obtain⟨b,o,rfl,hlt,rfl,hL⟩:=h hne;refine⟨b,o,rfl,Nat.lt_of_lt_of_le hlt hs,rfl,fun i e g he hg=>?_⟩;obtain⟨hw,ue,us,u,hc,Fe,Fs,h',rfl,ke,kes,kp⟩:=hL i e g he hg;have hb:=hF b List.mem_cons_self;have hg':∀x∈Fe++(Fs++h'),w'.heap[x]?=w.heap[x]?:=fun x hx=>hF x (List.mem_cons_of_mem _ (List.mem_flatten.2 ⟨_,mg8 hg,hx⟩));exact⟨hw,ue,us,u,hc.keep hb,Fe,Fs,h',rfl,ke.keep hs fun x hx=>hg' x (List.mem_append_left _ hx),kes.keep hs fun x hx=>hg' x (List.mem_append_right _ (List.mem_append_left _ hx)),kp.keep hs fun x hx=>hg' x (List.mem_append_right _ (List.mem_append_right _ hx))⟩
theorem PlansIs.below {w w':World}{D d:Nat}{v:Value}{ps:List P12}{F:List Nat}(h:PlansIs w D d v ps F)(hb:Below w.heap.size w w'):PlansIs w' D d v ps F:=
 h.keep hb.size fun b hF=>hb.block b (h.lt b hF)
theorem PlansIs.up {w:World}{D D':Nat}(hD:D≤D'):∀ {d d':Nat} {v:Value} {ps:List P12} {F:List Nat},PlansIs w D d v ps F→d≤d'→PlansIs w D' d' v ps F
 |0,_,_,_,_,h,_=>h.elim
 |d+1,0,_,_,_,_,hd=>absurd hd (by omega)
 |d+1,d'+1,v,es,F,h,hd=>by
  obtain⟨a,c,G,rfl,hl,hc,hG,h0,h⟩:=h;refine⟨a,c,G,rfl,hl,hc,hG,h0,fun hne=>?_⟩;obtain⟨b,o,rfl,hlt,rfl,hL⟩:=h hne;refine⟨b,o,rfl,hlt,rfl,fun i e g he hg=>?_⟩;obtain⟨hw,ue,us,u,hc,Fe,Fs,h',hg',ke,kes,kp⟩:=hL i e g he hg;exact⟨hw,ue,us,u,hc,Fe,Fs,h',hg',ke.up hD,kes.up hD,kp.up hD (by omega)⟩
theorem PlansIs.pick {w:World}{D d:Nat}{v:Value}{ps:List P12}{F:List Nat}(h:PlansIs w D (d+1) v ps F):∃a c b o G,v=.slice a ps.length c∧ps.length≤c∧c≤maxLen∧G.length=ps.length∧(ps=[]→F=[])∧∀k,k<ps.length→a=some ⟨b,o,none⟩∧b<w.heap.size∧F=b::G.flatten∧PLies w D d b o ps G:=by
 obtain⟨a,c,G,rfl,hl,hc,hG,h0,h⟩:=h;by_cases hne:ps=[]
 ·exact⟨a,c,0,0,G,rfl,hl,hc,hG,h0,fun k hk=>by rw[hne]at hk;simp at hk⟩
 ·obtain⟨b,o,h⟩:=h hne;exact⟨a,c,b,o,G,rfl,hl,hc,hG,h0,fun _ _=>h⟩
theorem PlansIs.shape {w:World}{D d:Nat}{v:Value}{ps:List P12}{F:List Nat}(h:PlansIs w D d v ps F):∃a c,v=.slice a ps.length c∧ps.length≤c∧c≤maxLen:=by
 cases d with
 |zero=>exact h.elim
 |succ d=>
  obtain⟨a,c,G,rfl,hl,hc,_⟩:=h;exact⟨a,c,rfl,hl,hc⟩
theorem ListsP.below {w w':World}{D d:Nat}{p:P12}{ue us u:Value}{g:List Nat}(h:ListsP w D (PlansIs w D d) p ue us u g)(hb:Below w.heap.size w w'):ListsP w' D (PlansIs w' D d) p ue us u g:=by
 obtain⟨Fe,Fs,h',hg,ke,kes,kp⟩:=h;exact⟨Fe,Fs,h',hg,ke.below hb,kes.below hb,kp.below hb⟩
theorem ListsP.lt {w:World}{D d:Nat}{p:P12}{ue us u:Value}{g:List Nat}(h:ListsP w D (PlansIs w D d) p ue us u g):∀b∈g,b<w.heap.size:=by
 obtain⟨Fe,Fs,h',rfl,ke,kes,kp⟩:=h;intro x hx;rcases List.mem_append.1 hx with hx|hx
 ·exact ke.lt x hx
 rcases List.mem_append.1 hx with hx|hx
 ·exact kes.lt x hx
 ·exact kp.lt x hx
theorem ListsP.keep {w w':World}{D d:Nat}{p:P12}{ue us u:Value}{g:List Nat}(h:ListsP w D (PlansIs w D d) p ue us u g)(hs:w.heap.size≤w'.heap.size)(hF:∀b∈g,w'.heap[b]?=w.heap[b]?):ListsP w' D (PlansIs w' D d) p ue us u g:=by
 obtain⟨Fe,Fs,h',rfl,ke,kes,kp⟩:=h;exact⟨Fe,Fs,h',rfl,ke.keep hs fun x hx=>hF x (List.mem_append_left _ hx),kes.keep hs fun x hx=>hF x (List.mem_append_right _ (List.mem_append_left _ hx)),kp.keep hs fun x hx=>hF x (List.mem_append_right _ (List.mem_append_right _ hx))⟩
theorem ListsP.shape {w:World}{D d:Nat}{p:P12}{ue us u:Value}{g:List Nat}(h:ListsP w D (PlansIs w D d) p ue us u g):∃ae ce ak ck a c,ue=.slice ae p.e.ks.length ce∧us=.slice ak p.es.length ck∧u=.slice a p.ks.length c∧p.e.ks.length≤ce∧ce≤maxLen∧p.es.length≤ck∧ck≤maxLen∧p.ks.length≤c∧c≤maxLen:=by
 obtain⟨Fe,Fs,h',hg,ke,kes,kp⟩:=h;obtain⟨ae,ce,h1,h2,h3⟩:=ke.shape;obtain⟨ak,ck,h4,h5,h6⟩:=kes.shape;obtain⟨a,c,h7,h8,h9⟩:=kp.shape;exact⟨ae,ce,ak,ck,a,c,h1,h4,h7,h2,h3,h5,h6,h8,h9⟩
theorem PLies.at {w w':World}{D d b o:Nat}{ps:List P12}{G:List (List Nat)}(h:PLies w D d b o ps G)(hG:G.length=ps.length)(hlt:b<w.heap.size)(hb:Below w.heap.size w w'){k:Nat}(hk:k<ps.length):∃p g ue us u,ps[k]?=some p∧G[k]?=some g∧p.wf∧cellsP w' b (o+k*12) p ue us u∧ListsP w' D (PlansIs w' D d) p ue us u g∧b<w'.heap.size:=by
 have hk':k<G.length:=by omega
 obtain⟨hw,ue,us,u,hc,hL⟩:=h k ps[k] G[k] (by simp) (by simp);exact⟨ps[k],G[k],ue,us,u,by simp,by simp,hw,hc.keep (hb.block b hlt),hL.below hb,Nat.lt_of_lt_of_le hlt hb.size⟩
end
section
open Go.RowKit
def SzP (D d:Nat):Prop:=∀ (v:Value) (ps:List P12) (F:List Nat) (left:Int) (w:World),PlansIs w D d v ps F→0≤left→left≤1048576→
  Calls Tryz.prog 15 #[v,.int .i64 left] w fun e w'=>(∃z:Int,e=.returned (.int .i64 z)∧ -1≤z∧z≤left∧(0≤z→z+(ps.length+wtPs ps)=left))∧Below w.heap.size w w'
theorem szPlan_of {D d:Nat}(hS:SzP D d)(p:P12)(ue us u:Value)(g:List Nat)(left:Int)(w:World)(hw:p.wf)(hL:ListsP w D (PlansIs w D d) p ue us u g)(h0:0≤left)(h1:left≤1048576):Calls Tryz.prog 5 #[(.agg #[.int .i64 p.k,.string p.s,.int .i64 p.e.k,.int .i64 p.e.n,.int .i64 p.e.v.k,.int .i64 p.e.v.n,.string p.e.v.s,.string p.e.p,ue,us,.int .i64 p.n,u]),.int .i64 left] w fun x w'=>(∃z:Int,x=.returned (.int .i64 z)∧ -1≤z∧z≤left∧(0≤z→z+wtP p=left))∧Below w.heap.size w w':=by
 obtain⟨_,hs,hwe,_⟩:=hw;rw[wtP_eq];unfold maxLen at hs;obtain⟨ae,ce,ak,ck,a,c,rfl,rfl,rfl,_,_,_,_,_,_⟩:=hL.shape;obtain⟨Fe,Fs,h',rfl,ke,kes,kp⟩:=hL;by_cases hbig:left -p.s.size<0
 ·go_enter Tryz.func5,Tryz.ntmps5;go_wp2_with fail;go_returns;exact⟨⟨-1,rfl,by omega,by omega,by omega⟩,bex⟩
 go_enter Tryz.func5,Tryz.ntmps5;go_wp2_with fail;refine cM8 (szExp_any p.e (.slice ae p.e.ks.length ce) Fe (left -p.s.size) _ hwe (ke.below ?hb) (by omega) (by omega)) ?_
 case hb=>exact bex
 rintro x w1 ⟨⟨z1,rfl,l1,g1,s1⟩,hb1⟩;have hz1:=hb1.size;simp only[World.size_alloc]at hz1;have c91:w1.cell? ⟨w.heap.size,9,none⟩=some (.slice ak p.es.length ck):=cL8 hb1 (by go_simp);have c111:w1.cell? ⟨w.heap.size,11,none⟩=some (.slice a p.ks.length c):=cL8 hb1 (by go_simp);by_cases hn1:z1<0
 ·go_wp2_with fail;go_returns;exact⟨⟨-1,rfl,by omega,by omega,by omega⟩,bex⟩
 have e1:=s1 (by omega);go_wp2_with fail;refine cM8 (szExpS_any D (.slice ak p.es.length ck) p.es Fs z1 _ (kes.below ?hb) (by omega) (by omega)) ?_
 case hb=>exact bex
 rintro x w2 ⟨⟨z2,rfl,l2,g2,s2⟩,hb2⟩;have hz2:=hb2.size;have c112:w2.cell? ⟨w.heap.size,11,none⟩=some (.slice a p.ks.length c):=cL8 hb2 (by go_simp);by_cases hn2:z2<0
 ·go_wp2_with fail;go_returns;exact⟨⟨-1,rfl,by omega,by omega,by omega⟩,bex⟩
 have e2:=s2 (by omega);go_wp2_with fail;refine cM8 (hS (.slice a p.ks.length c) p.ks h' z2 _ (kp.below ?hb) (by omega) (by omega)) ?_
 case hb=>exact bex
 rintro x w3 ⟨⟨z3,rfl,l3,g3,s3⟩,hb3⟩;have hz3:=hb3.size;by_cases hn3:z3<0
 ·go_wp2_with fail;go_returns;exact⟨⟨-1,rfl,by omega,by omega,by omega⟩,bex⟩
 have e3:=s3 (by omega);go_wp2_with fail;go_returns;exact⟨⟨z3,rfl,by omega,by omega,by omega⟩,bex⟩
theorem szPlanS_step {D d:Nat}(hS:SzP D d):SzP D (d+1):=by
 intro v ps F left w hr h0 h1;obtain⟨a,c,b,o,G,rfl,hl,hc,hG,_,ha⟩:=hr.pick;unfold maxLen at hc;by_cases hbig:left -ps.length<0
 ·go_enter Tryz.func15,Tryz.ntmps15;go_wp2;go_returns;exact⟨⟨-1,rfl,by omega,by omega,by omega⟩,by go_grown⟩
 go_enter Tryz.func15,Tryz.ntmps15;go_wp2;go_loopw [1,5] (fun l i wr=> ∃k:Nat,k≤ps.length∧i=.int .i64 k∧l=.int .i64 (left -ps.length -wtPs (ps.take k))∧0≤left -ps.length -wtPs (ps.take k)∧Below w.heap.size w wr) (fun _ i _=>ps.length - (intOf i).toNat)
 case atStart=>exact⟨0,Nat.zero_le _,rfl,by simp[wtPs],by simp[wtPs];omega,by go_grown⟩
 case round=>
  obtain⟨k,hk,rfl,rfl,hp,hb⟩:=hrel;by_cases hlt:k<ps.length
  ·have hzb:=hb.size;obtain⟨rfl,hblt,_,hL⟩:=ha k hlt;obtain⟨x,g,ue,us,u,hx,hg,hxw,⟨c0,c1,c2,c3,c4,c5,c6,c7,c8,c9,c10,c11⟩,hLx,hbr⟩:=hL.at hG hblt hb hlt;have hT:Hid (wtPs (ps.take (k+1))=wtPs (ps.take k)+wtP x):=wtPs_take hx;have hp1:left -ps.length -wtPs (ps.take k)≤1048576:=by omega
   clear ha hL hx;go_wp2_with(go_at_call 5;refine(szPlan_of hS _ _ _ _ _ _ _ hxw hLx hp hp1).mono ?_;rintro e w1 ⟨⟨z1,rfl,l1,g1,s1⟩,hb1⟩)
   ·go_returns;exact⟨⟨-1,rfl,by omega,by omega,by omega⟩,hb.trans (hb1.mono hb.size)⟩
   ·have h9:0≤z1:=by assumption
    have e1:=s1 h9;have hT:=hT.out;refine⟨⟨k+1,hlt,by simp,by congr 1;omega,by omega,hb.trans (hb1.mono hb.size)⟩,by simp[intOf];omega⟩
  ·go_wp2;go_returns;have hkk:k=ps.length:=by omega
   subst hkk;refine⟨⟨_,rfl,by omega,by omega,fun _=>?_⟩,hb⟩;rw[List.take_length];omega
theorem szPlanS_any (D:Nat):∀d,SzP D d
 |0=>fun _ _ _ _ _ h=>h.elim
 |d+1=>szPlanS_step (szPlanS_any D d)
def EqP (D d:Nat):Prop:=∀ (v u:Value) (ps:List P12) (F F':List Nat) (w:World),PlansIs w D d v ps F→PlansIs w D d u ps F'→
  Calls Tryz.prog 27 #[v,u] w fun e w'=>e=.returned (.bool true)∧Below w.heap.size w w'
theorem eqPlan_of {D d:Nat}(hS:EqP D d)(p:P12)(ue us u ue' us' u':Value)(g g':List Nat)(w:World)(hL:ListsP w D (PlansIs w D d) p ue us u g)(hM:ListsP w D (PlansIs w D d) p ue' us' u' g'):Calls Tryz.prog 11 #[(.agg #[.int .i64 p.k,.string p.s,.int .i64 p.e.k,.int .i64 p.e.n,.int .i64 p.e.v.k,.int .i64 p.e.v.n,.string p.e.v.s,.string p.e.p,ue,us,.int .i64 p.n,u]),(.agg #[.int .i64 p.k,.string p.s,.int .i64 p.e.k,.int .i64 p.e.n,.int .i64 p.e.v.k,.int .i64 p.e.v.n,.string p.e.v.s,.string p.e.p,ue',us',.int .i64 p.n,u'])] w fun x w'=>x=.returned (.bool true)∧Below w.heap.size w w':=by
 obtain⟨ae,ce,ak,ck,a,c,rfl,rfl,rfl,_,_,_,_,_,_⟩:=hL.shape;obtain⟨ae',ce',ak',ck',a',c',rfl,rfl,rfl,_,_,_,_,_,_⟩:=hM.shape;obtain⟨Fe,Fs,h,rfl,ke,kes,kp⟩:=hL;obtain⟨Fe',Fs',h',rfl,ke',kes',kp'⟩:=hM;go_enter Tryz.func11,Tryz.ntmps11;go_wp2_with fail;refine cM8 (eqExp_same p.e (.slice ae p.e.ks.length ce) (.slice ae' p.e.ks.length ce') Fe Fe' _ (ke.below ?hb) (ke'.below ?hb2)) ?_
 case hb=>exact bex
 case hb2=>exact bex
 rintro x w1 ⟨rfl,hb1⟩;have hz1:=hb1.size;simp only[World.size_alloc]at hz1;have c91:w1.cell? ⟨w.heap.size,9,none⟩=some (.slice ak p.es.length ck):=cL8 hb1 (by go_simp);have c101:w1.cell? ⟨w.heap.size,10,none⟩=some (.int .i64 p.n):=cL8 hb1 (by go_simp);have c111:w1.cell? ⟨w.heap.size,11,none⟩=some (.slice a p.ks.length c):=cL8 hb1 (by go_simp);have d91:w1.cell? ⟨w.heap.size+1,9,none⟩=some (.slice ak' p.es.length ck'):=cL8 hb1 (by go_simp);have d101:w1.cell? ⟨w.heap.size+1,10,none⟩=some (.int .i64 p.n):=cL8 hb1 (by go_simp);have d111:w1.cell? ⟨w.heap.size+1,11,none⟩=some (.slice a' p.ks.length c'):=cL8 hb1 (by go_simp);go_wp2_with fail;refine cM8 (eqExpS_any D (.slice ak p.es.length ck) (.slice ak' p.es.length ck') p.es Fs Fs' _ (kes.below ?hb) (kes'.below ?hb2)) ?_
 case hb=>exact bex
 case hb2=>exact bex
 rintro x w2 ⟨rfl,hb2⟩;have hz2:=hb2.size;have c102:w2.cell? ⟨w.heap.size,10,none⟩=some (.int .i64 p.n):=cL8 hb2 (by go_simp);have c112:w2.cell? ⟨w.heap.size,11,none⟩=some (.slice a p.ks.length c):=cL8 hb2 (by go_simp);have d102:w2.cell? ⟨w.heap.size+1,10,none⟩=some (.int .i64 p.n):=cL8 hb2 (by go_simp);have d112:w2.cell? ⟨w.heap.size+1,11,none⟩=some (.slice a' p.ks.length c'):=cL8 hb2 (by go_simp);go_wp2_with fail;refine cM8 (hS (.slice a p.ks.length c) (.slice a' p.ks.length c') p.ks h h' _ (kp.below ?hb) (kp'.below ?hb2)) ?_
 case hb=>exact bex
 case hb2=>exact bex
 rintro x w3 ⟨rfl,hb3⟩;have hz3:=hb3.size;go_wp2_with fail;go_returns;exact⟨rfl,bex⟩
theorem eqPlanS_step {D d:Nat}(hS:EqP D d):EqP D (d+1):=by
 intro v u ps F F' w hr hu;obtain⟨a,c,b,o,G,rfl,hl,hc,hG,_,ha⟩:=hr.pick;obtain⟨a',c',b',o',G',rfl,hl',hc',hG',_,ha'⟩:=hu.pick;unfold maxLen at hc hc';clear hr hu;go_enter Tryz.func27,Tryz.ntmps27;go_wp2;go_loopw [5] (fun i wr=> ∃k:Nat,k≤ps.length∧i=.int .i64 k∧Below w.heap.size w wr) (fun i _=>ps.length - (intOf i).toNat)
 case atStart=>exact⟨0,Nat.zero_le _,rfl,by go_grown⟩
 case round=>
  obtain⟨k,hk,rfl,hb⟩:=hrel;by_cases hlt:k<ps.length
  ·have hzb:=hb.size;obtain⟨rfl,hblt,_,hL⟩:=ha k hlt;obtain⟨rfl,hblt',_,hL'⟩:=ha' k hlt;obtain⟨x,g,ue,us,u,hx,_,_,⟨c0,c1,c2,c3,c4,c5,c6,c7,c8,c9,c10,c11⟩,hLx,hbr⟩:=hL.at hG hblt hb hlt;obtain⟨x',g',ue',us',u',hx',_,_,⟨d0,d1,d2,d3,d4,d5,d6,d7,d8,d9,d10,d11⟩,hLx',hbr'⟩:=hL'.at hG' hblt' hb hlt;obtain rfl:x=x':=by rw[hx]at hx';exact Option.some.inj hx'
   clear ha ha' hL hL' hx hx';go_wp2_with fail
   go_region_with (first|(go_at_call 11;refine(eqPlan_of hS x ue us u ue' us' u' _ _ _ (hLx.below bex) (hLx'.below bex)).mono ?_;rintro e w1 ⟨rfl,hb1⟩))
   all_goals(go_wp2;exact⟨⟨k+1,hlt,by simp,bex⟩,by simp[intOf];omega⟩)
  ·go_wp2;go_returns;exact⟨rfl,hb⟩
theorem eqPlanS_any (D:Nat):∀d,EqP D d
 |0=>fun _ _ _ _ _ _ h=>h.elim
 |d+1=>eqPlanS_step (eqPlanS_any D d)
end
end Go.Proofs.YtflokiejcjjbiaaGreat
