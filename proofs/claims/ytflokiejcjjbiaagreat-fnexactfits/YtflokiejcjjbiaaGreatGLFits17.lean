/- Own texts, joined: contracts that the law's proof goes by. -/
import Derived.Test.YtflokiejcjjbiaaGreatGLFits2
import Derived.Test.YtflokiejcjjbiaaGreatGLFits16
import Derived.Handy
import Derived.Lib.SlicesCompact
import Derived.Test.YtflokiejcjjbiaaGreatGLFits15
set_option maxHeartbeats 16000000
set_option maxRecDepth 100000
set_option linter.unusedVariables false
set_option linter.unusedSimpArgs false
namespace Go.Proofs.YtflokiejcjjbiaaGreat
section
open Go.RowKit Go.Deep
def upB (hang:Nat→Nat×Nat):Nat→Nat→Nat
 |0,c=>c
 |n+1,c=>upB hang n (hang c).1
def Hangs (hang:Nat→Nat×Nat)(c:Nat)(p:Nat×Nat):Prop:=∃n,hang (upB hang n c)=p
def Down (hang:Nat→Nat×Nat):Prop:=(hang 0).1=0∧∀c,0<c→(hang c).1<c
theorem upB_add (hang:Nat→Nat×Nat):∀a b c,upB hang (a+b) c=upB hang b (upB hang a c)
 |0,b,c=>by rw[Nat.zero_add];rfl
 |a+1,b,c=>by rw[Nat.add_right_comm];exact upB_add hang a b (hang c).1
theorem upB_le {hang:Nat→Nat×Nat}(h:Down hang):∀n c,upB hang n c≤c
 |0,c=>Nat.le_refl _
 |n+1,c=>by
  have h1:upB hang (n+1) c≤(hang c).1:=upB_le h n (hang c).1;rcases Nat.eq_zero_or_pos c with rfl|hc
  ·rw[h.1]at h1;exact h1
  ·have:=h.2 c hc;omega
theorem upB_lt {hang:Nat→Nat×Nat}(h:Down hang)(n:Nat){c:Nat}(hc:0<c):upB hang (n+1) c<c:=by
 have h1:upB hang (n+1) c≤(hang c).1:=upB_le h n (hang c).1;have:=h.2 c hc;omega
theorem upB_of {hang:Nat→Nat×Nat}{n c:Nat}{p:Nat×Nat}(h:hang (upB hang n c)=p):upB hang (n+1) c=p.1:=by
 rw[upB_add hang n 1 c];show(hang (upB hang n c)).1=p.1;rw[h]
theorem hangs_lt {hang:Nat→Nat×Nat}(h:Down hang){c:Nat}{p:Nat×Nat}(hc:0<c)(hp:Hangs hang c p):p.1<c:=by
 obtain⟨n,hn⟩:=hp;rw[←upB_of hn];exact upB_lt h n hc
theorem hangs_aux {hang:Nat→Nat×Nat}(h:Down hang){c n m:Nat}{p p':Nat×Nat}(hp:hang (upB hang n c)=p)(hp':hang (upB hang m c)=p')(he:p.1=p'.1)(h0:0<p.1)(hnm:n<m):False:=by
 obtain⟨t,rfl⟩:∃t,m=n+1+t:=⟨m - (n+1),by omega⟩;have h1:=upB_of hp';rw[show n+1+t+1=n+1+(t+1)from by omega,upB_add,upB_of hp]at h1;have:=upB_lt h t h0;omega
theorem hangs_one {hang:Nat→Nat×Nat}(h:Down hang){c:Nat}{p p':Nat×Nat}(hp:Hangs hang c p)(hp':Hangs hang c p')(he:p.1=p'.1)(h0:0<p.1):p=p':=by
 obtain⟨n,hn⟩:=hp;obtain⟨m,hm⟩:=hp';rcases Nat.lt_trichotomy n m with hl|rfl|hl
 ·exact(hangs_aux h hn hm he h0 hl).elim
 ·exact hn.symm.trans hm
 ·exact(hangs_aux h hm hn he.symm (by omega) hl).elim
theorem hangs_up {hang:Nat→Nat×Nat}{c b q:Nat}(h:Hangs hang c (b,q)):Hangs hang c (hang b):=by
 obtain⟨n,hn⟩:=h;exact⟨n+1,by rw[upB_of hn]⟩
def KidsU (w:World)(N:Nat)(hang:Nat→Nat×Nat):Nat→Value→List E7→Nat×Nat→Prop
 |0,_,_,_=>False
 |d+1,v,es,p=> ∃ (a:Option Addr) (c:Nat),v=.slice a es.length c∧es.length≤c∧c≤maxLen∧
   (es≠ []→∃b,a=some ⟨b,0,none⟩∧b<w.heap.size∧N≤b∧(∀q,w.frozen? ⟨b,q,none⟩=false)∧hang b=p∧ ∀i e,es[i]?=some e→e.wf∧cellsE w b (0+i*7) e∧∃u,w.cell? ⟨b,0+i*7+6,none⟩=some u∧KidsU w N hang d u e.ks (b,i*7+6))
theorem KidsU.kids {w:World}{N:Nat}{hang:Nat→Nat×Nat}(hd:Down hang)(hN:0<N):∀ {d:Nat} {v:Value} {es:List E7} {p:Nat×Nat},KidsU w N hang d v es p→∃F,KidsIs w d v es F∧Own w N F∧∀c∈F,Hangs hang c p
 |0,_,_,_,h=>h.elim
 |d+1,v,es,p,h=>by
  obtain⟨a,c,rfl,hl,hc,h⟩:=h;by_cases hne:es=[]
  ·subst hne;exact⟨[],⟨a,c,[],rfl,hl,hc,rfl,fun _=>rfl,fun h=>absurd rfl h⟩,by simp[Own,OwnN],by simp⟩
  obtain⟨b,rfl,hlt,hNb,hfr,hp,hL⟩:=h hne;have each:∀i,i<es.length→∃g:List Nat,(∀e,es[i]?=some e→e.wf∧cellsE w b (0+i*7) e∧∃u,w.cell? ⟨b,0+i*7+6,none⟩=some u∧KidsIs w d u e.ks g)∧Own w N g∧∀c∈g,Hangs hang c (b,i*7+6):=by
   intro i hi;obtain⟨hw,hc,u,hu,hk⟩:=hL i es[i] (by simp);obtain⟨g,hg,ho,hh⟩:=KidsU.kids hd hN hk;refine⟨g,fun e he=>?_,ho,hh⟩;obtain rfl:es[i]=e:=by simpa [hi]using he
   exact⟨hw,hc,u,hu,hg⟩
  obtain⟨q,hq⟩:=choose_lt each;have hmem:∀c∈((List.range es.length).map q).flatten,∃i,i<es.length∧c∈q i:=by
   intro c hc;obtain⟨g,hg,hcg⟩:=List.mem_flatten.1 hc;obtain⟨i,hi,rfl⟩:=List.mem_map.1 hg;exact⟨i,List.mem_range.1 hi,hcg⟩
  have hbig:∀i,i<es.length→∀c∈q i,b<c:=fun i hi c hc=>hangs_lt (p:=(b,i*7+6)) hd (by have:=((hq i hi).2.1.2 c hc).1;omega) ((hq i hi).2.2 c hc);refine⟨b::((List.range es.length).map q).flatten,⟨some ⟨b,0,none⟩,c,(List.range es.length).map q,rfl,hl,hc,by simp,fun h=>absurd h hne,fun _=>⟨b,0,rfl,hlt,rfl,fun i e g he hg=>?_⟩⟩,⟨?_,fun c hc=>?_⟩,fun c hc=>?_⟩
  ·have hi:i<es.length:=(gE1 he).1;obtain rfl:q i=g:=by simpa [hi]using hg
   exact(hq i hi).1 e he
  ·refine List.nodup_cons.2 ⟨fun hb=>?_,?_⟩
   ·obtain⟨i,hi,hc⟩:=hmem b hb;have:=hbig i hi b hc;omega
   ·rw[List.Nodup,List.pairwise_flatten];constructor
    ·intro g hg;obtain⟨i,hi,rfl⟩:=List.mem_map.1 hg;exact(hq i (List.mem_range.1 hi)).2.1.1
    ·rw[List.pairwise_iff_getElem];intro i j hi hj hij x hx y hy;have hi':i<es.length:=by simpa using hi
     have hj':j<es.length:=by simpa using hj
     have hx:x∈q i:=by simpa using hx
     have hy:y∈q j:=by simpa using hy
     rintro rfl;have:=hangs_one hd ((hq i hi').2.2 x hx) ((hq j hj').2.2 x hy) rfl (by show 0<b;omega);injection this with _ h;omega
  ·rcases List.mem_cons.1 hc with rfl|hc
   ·exact⟨hNb,hfr⟩
   ·obtain⟨i,hi,hci⟩:=hmem c hc;exact(hq i hi).2.1.2 c hci
  ·rcases List.mem_cons.1 hc with rfl|hc
   ·exact⟨0,hp⟩
   ·obtain⟨i,hi,hci⟩:=hmem c hc;rw[←hp];exact hangs_up ((hq i hi).2.2 c hci)
def DE:Nat→List E7→Prop
 |0,_=>False
 |d+1,es=> ∀e∈es,DE d e.ks
theorem RE.de {w:World}:∀ {d:Nat} {v:Value} {es:List E7},RE w d v es→DE d es
 |0,_,_,h=>h.elim
 |d+1,v,es,h=>by
  obtain⟨a,c,rfl,hl,hc,h⟩:=h;intro e he;obtain⟨b,o,_,_,hL⟩:=h (by rintro rfl;cases he);obtain⟨i,hi,rfl⟩:=List.mem_iff_getElem.1 he;obtain⟨_,_,u,_,hk⟩:=hL i es[i] (by simp);exact hk.de
structure Nd where
 b:Nat
 o:Nat
 e:E7
def Done (w:World)(N:Nat)(hang:Nat→Nat×Nat)(ns:List Nd)(u:Value)(ks:List E7)(p:Nat×Nat):Prop:=
 ∃ (a:Option Addr) (c:Nat),u=.slice a ks.length c∧ks.length≤c∧c≤maxLen∧(ks≠ []→∃b,a=some ⟨b,0,none⟩∧N≤b∧b<w.heap.size∧hang b=p∧∀ (t:Nat) (e:E7),ks[t]?=some e→∃m:Nat,ns[m]?=some (Nd.mk b (t*7) e))
structure NQ (w:World)(D:Nat)(hang:Nat→Nat×Nat)(P:E7→Prop)(wr:World)(i:Nat)(ns:List Nd):Prop where
 at':∀ (j:Nat) (x:Nd),ns[j]?=some x→(x.e.wf∧P x.e∧w.heap.size≤x.b∧x.b<wr.heap.size∧(∀q,wr.frozen? ⟨x.b,q,none⟩=false)∧x.o %7=0)∧cellsE wr x.b x.o x.e∧∃u,wr.cell? ⟨x.b,x.o+6,none⟩=some u∧(i≤j→RE w (D+1) u x.e.ks)∧(j<i→Done wr w.heap.size hang ns u x.e.ks (x.b,x.o+6))
 dist:∀ (j k:Nat) (x y:Nd),ns[j]?=some x→ns[k]?=some y→x.b=y.b→x.o=y.o→j=k
 dn:Down hang
def news (ks:List E7)(g:Nat):List Nd:=ks.mapIdx fun t e=>⟨g,t*7,e⟩
theorem news_len (ks:List E7)(g:Nat):(news ks g).length=ks.length:=by simp[news]
theorem news_at {ks:List E7}{g t:Nat}{e:E7}(h:ks[t]?=some e):(news ks g)[t]?=some ⟨g,t*7,e⟩:=by simp[news,h]
theorem news_of {ks:List E7}{g t:Nat}{y:Nd}(h:(news ks g)[t]?=some y):∃e,ks[t]?=some e∧y=⟨g,t*7,e⟩:=by
 have ht:t<ks.length:=by have:=(gE1 h).1;rwa [news_len]at this
 refine⟨ks[t],by simp,?_⟩;rw[news_at (e:=ks[t]) (by simp)]at h;exact(Option.some.inj h).symm
theorem Done.mono {w w':World}{N:Nat}{hang hang':Nat→Nat×Nat}{ns ms:List Nd}{u:Value}{ks:List E7}{p:Nat×Nat}(h:Done w N hang ns u ks p)(hs:w.heap.size≤w'.heap.size)(hh:∀c,c<w.heap.size→hang' c=hang c):Done w' N hang' (ns++ms) u ks p:=by
 obtain⟨a,c,hu,hl,hc,h⟩:=h;refine⟨a,c,hu,hl,hc,fun hne=>?_⟩;obtain⟨b,ha,hN,hlt,hp,hm⟩:=h hne;refine⟨b,ha,hN,Nat.lt_of_lt_of_le hlt hs,(hh b hlt).trans hp,fun t e he=>?_⟩;obtain⟨m,hm⟩:=hm t e he;exact⟨m,by rw[List.getElem?_append_left (gE1 hm).1];exact hm⟩
theorem NQ.step {w wr w3:World}{D i g:Nat}{hang:Nat→Nat×Nat}{P:E7→Prop}{ns:List Nd}{x:Nd}{u v:Value}(h:NQ w D hang P wr i ns)(hx:ns[i]?=some x)(hP:∀e,P e→∀k∈e.ks,P k)(hu:wr.cell? ⟨x.b,x.o+6,none⟩=some u)(hs:wr.heap.size≤w3.heap.size) (hN:w.heap.size≤wr.heap.size)(hcell:∀ (j:Nat) (y:Nd),ns[j]?=some y→∀q,(y.b≠x.b∨q≠x.o+6)→w3.cell? ⟨y.b,q,none⟩=wr.cell? ⟨y.b,q,none⟩)(hfr:∀ (j:Nat) (y:Nd),ns[j]?=some y→∀q,w3.frozen? ⟨y.b,q,none⟩=wr.frozen? ⟨y.b,q,none⟩)(hv:w3.cell? ⟨x.b,x.o+6,none⟩=some v) (hg:wr.heap.size≤g)(hvs:∃a c,v=.slice a x.e.ks.length c∧x.e.ks.length≤c∧c≤maxLen∧(x.e.ks≠ []→a=some ⟨g,0,none⟩))(hgl:x.e.ks≠ []→g<w3.heap.size∧(∀q,w3.frozen? ⟨g,q,none⟩=false)∧∀b o n c,u=.slice (some ⟨b,o,none⟩) n c→b<w.heap.size→∀j,j<x.e.ks.length*7→w3.cell? ⟨g,j,none⟩=w.cell? ⟨b,o+j,none⟩):NQ w D (fun c=>if c=g then(x.b,x.o+6)else hang c) P w3 (i+1) (ns++news x.e.ks g):=by
 obtain⟨⟨xw,xP,xN,xl,xf,xo⟩,xc,u',xu,xre,_⟩:=h.at' i x hx;obtain rfl:u'=u:=by rw[hu]at xu;exact(Option.some.inj xu).symm
 have hre:=xre (Nat.le_refl _);have hil:i<ns.length:=(gE1 hx).1;have hh:∀c,c<wr.heap.size→(fun c=>if c=g then(x.b,x.o+6)else hang c) c=hang c:=fun c hc=>if_neg (by omega);refine⟨fun j y hy=>?_,fun j k y z hy hz hb ho=>?_,?_,fun c hc=>?_⟩
 ·by_cases hj:j<ns.length
  ·rw[List.getElem?_append_left hj]at hy;obtain⟨⟨yw,yP,yN,yl,yf,yo⟩,⟨e0,e1,e2,e3,e4,e5⟩,uy,hy6,yre,ydn⟩:=h.at' j y hy;have far:∀r,r<6→w3.cell? ⟨y.b,y.o+r,none⟩=wr.cell? ⟨y.b,y.o+r,none⟩:=fun r hr=>hcell j y hy _ (.inr (by omega));refine⟨⟨yw,yP,yN,Nat.lt_of_lt_of_le yl hs,fun q=>(hfr j y hy q).trans (yf q),yo⟩,⟨(far 0 (by omega)).trans e0,(far 1 (by omega)).trans e1,(far 2 (by omega)).trans e2,(far 3 (by omega)).trans e3,(far 4 (by omega)).trans e4,(far 5 (by omega)).trans e5⟩,?_⟩;by_cases hji:j=i
   ·subst hji;obtain rfl:y=x:=by rw[hx]at hy;exact(Option.some.inj hy).symm
    refine⟨v,hv,fun h=>by omega,fun _=>?_⟩;obtain⟨a,c,hve,hl,hc,ha⟩:=hvs;refine⟨a,c,hve,hl,hc,fun hne=>⟨g,ha hne,by omega,(hgl hne).1,if_pos rfl,fun t e he=>⟨ns.length+t,?_⟩⟩⟩;rw[List.getElem?_append_right (by omega),Nat.add_sub_cancel_left];exact news_at he
   ·have hne:y.b≠x.b∨y.o+6≠x.o+6:=by
     by_cases hb:y.b=x.b
     ·right;intro ho;exact hji (h.dist j i y x hy hx hb (by omega))
     ·exact .inl hb
    refine⟨uy,(hcell j y hy _ hne).trans hy6,fun h=>yre (by omega),fun h=>(ydn (by omega)).mono hs hh⟩
  ·rw[List.getElem?_append_right (by omega)]at hy;obtain⟨e,he,rfl⟩:=news_of hy;have hne:x.e.ks≠ []:=by intro h0;rw[h0]at he;simp at he
   obtain⟨hgl1,hgf,hgc⟩:=hgl hne;obtain⟨a,c,rfl,hl,hc,hr⟩:=hre;obtain⟨b,o,rfl,hlt,hL⟩:=hr hne;obtain⟨hw,⟨e0,e1,e2,e3,e4,e5⟩,ut,e6,hk⟩:=hL (j -ns.length) e he;have ht:j -ns.length<x.e.ks.length:=(gE1 he).1;have cell:∀r,r<7→w3.cell? ⟨g,(j -ns.length)*7+r,none⟩=w.cell? ⟨b,o+(j -ns.length)*7+r,none⟩:=fun r hr=>by
    rw[hgc b o _ _ rfl hlt _ (by omega),Nat.add_assoc]
   exact⟨⟨hw,hP x.e xP e (mg8 he),by show w.heap.size≤g;omega,hgl1,hgf,by show(j -ns.length)*7 %7=0;omega⟩,⟨(cell 0 (by omega)).trans e0,(cell 1 (by omega)).trans e1,(cell 2 (by omega)).trans e2,(cell 3 (by omega)).trans e3,(cell 4 (by omega)).trans e4,(cell 5 (by omega)).trans e5⟩,ut,(cell 6 (by omega)).trans e6,fun _=>hk.up (by omega),fun h=>by omega⟩
 ·have old:∀j y,j<ns.length→ns[j]?=some y→y.b<wr.heap.size:=fun j y _ hy=>(h.at' j y hy).1.2.2.2.1;by_cases hj:j<ns.length
  ·rw[List.getElem?_append_left hj]at hy;by_cases hk:k<ns.length
   ·rw[List.getElem?_append_left hk]at hz;exact h.dist j k y z hy hz hb ho
   ·rw[List.getElem?_append_right (by omega)]at hz;obtain⟨e,he,rfl⟩:=news_of hz;have:=old j y hj hy;dsimp only at hb;omega
  ·rw[List.getElem?_append_right (by omega)]at hy;obtain⟨e,he,rfl⟩:=news_of hy;by_cases hk:k<ns.length
   ·rw[List.getElem?_append_left hk]at hz;have:=old k z hk hz;dsimp only at hb;omega
   ·rw[List.getElem?_append_right (by omega)]at hz;obtain⟨e',he',rfl⟩:=news_of hz;dsimp only at ho;omega
 ·by_cases h0:0=g
  ·exact absurd h0 (by omega)
  ·show(if(0:Nat)=g then(x.b,x.o+6)else hang 0).1=0;rw[if_neg h0];exact h.dn.1
 ·show(if c=g then(x.b,x.o+6)else hang c).1<c;by_cases hcg:c=g
  ·rw[if_pos hcg];show x.b<c;omega
  ·rw[if_neg hcg];exact h.dn.2 c hc
theorem NQ.kids {w wr:World}{D:Nat}{hang:Nat→Nat×Nat}{P:E7→Prop}{ns:List Nd}(h:NQ w D hang P wr ns.length ns):∀ {d j:Nat} {x:Nd} {u:Value},ns[j]?=some x→DE d x.e.ks→wr.cell? ⟨x.b,x.o+6,none⟩=some u→KidsU wr w.heap.size hang d u x.e.ks (x.b,x.o+6)
 |0,_,_,_,_,hd,_=>hd.elim
 |d+1,j,x,u,hx,hd,hu=>by
  have hj:j<ns.length:=(gE1 hx).1;obtain⟨_,_,u',hu',_,hdn⟩:=h.at' j x hx;obtain rfl:u'=u:=by rw[hu]at hu';exact(Option.some.inj hu').symm
  obtain⟨a,c,he,hl,hc,hk⟩:=hdn hj;refine⟨a,c,he,hl,hc,fun hne=>?_⟩;obtain⟨b,ha,hN,hlt,hp,hm⟩:=hk hne;have h0:0<x.e.ks.length:=List.length_pos_iff.2 hne;obtain⟨m0,hm0⟩:=hm 0 x.e.ks[0] (by simp);refine⟨b,ha,hlt,hN,(h.at' m0 _ hm0).1.2.2.2.2.1,hp,fun i e he=>?_⟩;obtain⟨m,hm⟩:=hm i e he;obtain⟨⟨ew,_⟩,ec,ue,hue,_⟩:=h.at' m _ hm;rw[Nat.zero_add];exact⟨ew,ec,ue,hue,NQ.kids h hm (hd e (mg8 he)) hue⟩
def rem (i:Nat)(ns:List Nd):Nat:=((ns.drop i).map fun x=>1+wtE x.e).sum
theorem rem_pos {i:Nat}{ns:List Nd}{x:Nd}(h:ns[i]?=some x):rem i ns=1+wtE x.e+rem (i+1) ns:=by
 obtain⟨hi,rfl⟩:=gE1 h;unfold rem;rw[List.drop_eq_getElem_cons hi];simp only[List.map_cons,List.sum_cons]
theorem sum_news (ks:List E7)(g:Nat):((news ks g).map fun x=>1+wtE x.e).sum=ks.length+wtEs ks:=by
 have e:(news ks g).map (fun x=>1+wtE x.e)=ks.map (fun e=>1+wtE e):=by
  apply List.ext_getElem?;intro i;simp[news];cases ks[i]?<;>rfl
 rw[e,←wtEs_sum];clear e;induction ks with
 |nil=>rfl
 |cons x xs ih=>simp only[List.map_cons,List.sum_cons,List.length_cons]at ih⊢;omega
theorem rem_step {i:Nat}{ns:List Nd}{x:Nd}(g:Nat)(h:ns[i]?=some x):rem (i+1) (ns++news x.e.ks g)+1≤rem i ns:=by
 have hi:i<ns.length:=(gE1 h).1;rw[rem_pos h];have e:rem (i+1) (ns++news x.e.ks g)=rem (i+1) ns+(x.e.ks.length+wtEs x.e.ks):=by
  unfold rem;rw[List.drop_append_of_le_length (by omega),List.map_append,List.sum_append,sum_news]
 have:=wtE_eq x.e;omega
theorem rem_len (i:Nat)(ns:List Nd):ns.length -i≤rem i ns:=by
 unfold rem;rw[←List.length_drop];generalize ns.drop i=l;induction l with
 |nil=>simp
 |cons x xs ih=>simp only[List.map_cons,List.sum_cons,List.length_cons]at ih⊢;omega
end
section
open Go.RowKit Go.Deep
def addL:List Int→Int→List Int
 | [],x=>[x]
 |y::ys,x=>if y<x then y::addL ys x else if y=x then y::ys else x::y::ys
theorem addL_same:∀ {ns:List Int} {x:Int} {k:Nat},(∀i n,i<k→ns[i]?=some n→n<x)→ns[k]?=some x→addL ns x=ns
 | [],x,k,_,h=>by simp at h
 |y::ys,x,0,h0,h=>by
  simp at h;subst h;rw[addL,if_neg (by omega),if_pos rfl]
 |y::ys,x,k+1,h0,h=>by
  have h1:=h0 0 y (by omega) rfl;rw[addL,if_pos h1,addL_same (k:=k) (fun i n hi hn=>h0 (i+1) n (by omega) (by simpa using hn)) (by simpa using h)]
theorem addL_new:∀ {ns:List Int} {x:Int} {k:Nat},k≤ns.length→(∀i n,i<k→ns[i]?=some n→n<x)→(∀n,ns[k]?=some n→x<n)→addL ns x=ns.take k++ [x]++ns.drop k
 | [],x,k,hk,_,_=>by simp[addL]
 |y::ys,x,0,hk,h0,h=>by
  have h1:=h y rfl;rw[addL,if_neg (by omega),if_neg (by omega)];simp
 |y::ys,x,k+1,hk,h0,h=>by
  have h1:=h0 0 y (by omega) rfl;rw[addL,if_pos h1,addL_new (k:=k) (by simpa using hk) (fun i n hi hn=>h0 (i+1) n (by omega) (by simpa using hn)) (fun n hn=>h n (by simpa using hn))];simp
theorem mem_addL:∀ {ns:List Int} {x y:Int},y∈addL ns x↔y=x∨y∈ns
 | [],x,y=>by simp[addL]
 |z::zs,x,y=>by
  rw[addL];split
  ·rw[List.mem_cons,mem_addL,List.mem_cons];constructor
   ·rintro(h|h|h)
    ·exact .inr (.inl h)
    ·exact .inl h
    ·exact .inr (.inr h)
   ·rintro(h|h|h)
    ·exact .inr (.inl h)
    ·exact .inl h
    ·exact .inr (.inr h)
  ·split
   ·rename_i h
    subst h;simp
   ·simp
theorem asc_addL:∀ {ns:List Int} {x:Int},ns.Pairwise (· < ·)→(addL ns x).Pairwise (· < ·)
 | [],x,_=>by simp[addL]
 |z::zs,x,h=>by
  obtain⟨h1,h2⟩:=List.pairwise_cons.1 h;rw[addL];split
  ·rename_i hz
   refine List.pairwise_cons.2 ⟨fun y hy=>?_,asc_addL h2⟩;rcases mem_addL.1 hy with rfl|hy
   ·exact hz
   ·exact h1 y hy
  ·split
   ·exact h
   ·rename_i hz hn
    refine List.pairwise_cons.2 ⟨fun y hy=>?_,h⟩;rcases List.mem_cons.1 hy with rfl|hy
    ·omega
    ·have:=h1 y hy;omega
theorem addL_len (ns:List Int)(x:Int):(addL ns x).length≤ns.length+1:=by
 induction ns with
 |nil=>simp[addL]
 |cons y ys ih=>
  rw[addL];split
  ·simp;exact ih
  ·split<;>simp
def colsL:Nat→E7→List Int
 |0,_=>[]
 |d+1,e=>e.ks.foldl (fun acc k=>(colsL d k).foldl addL acc) (if e.k=0 then[e.n]else[])
theorem foldl_addL_mem:∀ (l:List Int) (acc:List Int) (x:Int),x∈l.foldl addL acc↔x∈acc∨x∈l
 | [],acc,x=>by simp
 |y::ys,acc,x=>by
  rw[List.foldl_cons,foldl_addL_mem ys (addL acc y) x,mem_addL,List.mem_cons];constructor
  ·rintro((h|h)|h)
   ·exact .inr (.inl h)
   ·exact .inl h
   ·exact .inr (.inr h)
  ·rintro(h|h|h)
   ·exact .inl (.inr h)
   ·exact .inl (.inl h)
   ·exact .inr h
theorem foldl_addL_asc:∀ (l:List Int) {acc:List Int},acc.Pairwise (· < ·)→(l.foldl addL acc).Pairwise (· < ·)
 | [],acc,h=>h
 |y::ys,acc,h=>foldl_addL_asc ys (asc_addL h)
theorem foldl_cols_mem (f:E7→List Int):∀ (ks:List E7) (acc:List Int) (x:Int),x∈ks.foldl (fun acc k=>(f k).foldl addL acc) acc↔x∈acc∨∃k∈ks,x∈f k
 | [],acc,x=>by simp
 |k::ks,acc,x=>by
  rw[List.foldl_cons,foldl_cols_mem f ks _ x,foldl_addL_mem];constructor
  ·rintro((h|h)|⟨q,hq,h⟩)
   ·exact .inl h
   ·exact .inr ⟨k,List.mem_cons_self,h⟩
   ·exact .inr ⟨q,List.mem_cons_of_mem _ hq,h⟩
  ·rintro(h|⟨q,hq,h⟩)
   ·exact .inl (.inl h)
   ·rcases List.mem_cons.1 hq with rfl|hq
    ·exact .inl (.inr h)
    ·exact .inr ⟨q,hq,h⟩
theorem foldl_cols_asc (f:E7→List Int):∀ (ks:List E7) {acc:List Int},acc.Pairwise (· < ·)→(ks.foldl (fun acc k=>(f k).foldl addL acc) acc).Pairwise (· < ·)
 | [],acc,h=>h
 |k::ks,acc,h=>foldl_cols_asc f ks (foldl_addL_asc (f k) h)
theorem mem_colsL {d:Nat}{e:E7}{x:Int}:x∈colsL (d+1) e↔(e.k=0∧x=e.n)∨∃k∈e.ks,x∈colsL d k:=by
 rw[colsL,foldl_cols_mem];constructor
 ·rintro(h|h)
  ·left;split at h
   ·rename_i h0;exact⟨h0,by simpa using h⟩
   ·cases h
  ·exact .inr h
 ·rintro(⟨h0,rfl⟩|h)
  ·left;rw[if_pos h0];simp
  ·exact .inr h
theorem asc_colsL:∀ (d:Nat) (e:E7),(colsL d e).Pairwise (· < ·)
 |0,e=>by simp[colsL]
 |d+1,e=>by
  rw[colsL];apply foldl_cols_asc;split<;>simp
theorem asc_unique:∀ {l m:List Int},l.Pairwise (· < ·)→m.Pairwise (· < ·)→(∀x,x∈l↔x∈m)→l=m
 | [],[],_,_,_=>rfl
 | [],b::bs,_,_,h=>by have:=(h b).2 List.mem_cons_self;cases this
 |a::r,[],_,_,h=>by have:=(h a).1 List.mem_cons_self;cases this
 |a::r,b::bs,hl,hm,h=>by
  obtain⟨ha,hl2⟩:=List.pairwise_cons.1 hl;obtain⟨hb,hm2⟩:=List.pairwise_cons.1 hm;have e1:a=b:=by
   rcases List.mem_cons.1 ((h a).1 List.mem_cons_self)with h1|h1
   ·exact h1
   ·rcases List.mem_cons.1 ((h b).2 List.mem_cons_self)with h2|h2
    ·exact h2.symm
    ·have:=hb a h1;have:=ha b h2;omega
  subst e1;refine congrArg (List.cons a) (asc_unique hl2 hm2 fun x=>?_);constructor
  ·intro hx;rcases List.mem_cons.1 ((h x).1 (List.mem_cons_of_mem _ hx))with rfl|h1
   ·have:=ha x hx;omega
   ·exact h1
  ·intro hx;rcases List.mem_cons.1 ((h x).2 (List.mem_cons_of_mem _ hx))with rfl|h1
   ·have:=hb x hx;omega
   ·exact h1
theorem compact_asc (zs:List Int)(hs:∀i j,i≤j→j<zs.length→zs.toArray[i]!≤zs.toArray[j]!):∀m,m≤zs.length→
  (Lib.compactUpTo zs.toArray m).Pairwise (· < ·)∧∀x,x∈Lib.compactUpTo zs.toArray m↔∃j,j<m∧zs.toArray[j]! =x
 |0,_=>by simp[Lib.compactUpTo]
 |m+1,hm=>by
  obtain⟨h1,h2⟩:=compact_asc zs hs m (by omega);rw[Lib.compactUpTo_succ];by_cases hk:Lib.keeps zs.toArray m=true
  ·rw[if_pos hk];refine⟨List.pairwise_append.2 ⟨h1,by simp,fun a ha b hb=>?_⟩,fun x=>?_⟩
   ·rcases List.mem_singleton.1 hb with rfl;obtain⟨j,hj,rfl⟩:=(h2 a).1 ha;have hk':=hk;simp only[Lib.keeps,decide_eq_true_eq]at hk';have l1:=hs j (m -1) (by omega) (by omega);have l2:=hs (m -1) m (by omega) (by omega);rcases hk' with h0|hne
    ·omega
    ·omega
   ·rw[List.mem_append,h2,List.mem_singleton];constructor
    ·rintro(⟨j,hj,h⟩|h)
     ·exact⟨j,by omega,h⟩
     ·exact⟨m,by omega,h.symm⟩
    ·rintro⟨j,hj,h⟩;by_cases hjm:j=m
     ·subst hjm;exact .inr h.symm
     ·exact .inl ⟨j,by omega,h⟩
  ·rw[if_neg hk,List.append_nil];refine⟨h1,fun x=>?_⟩;rw[h2];have hk':¬ (m=0∨zs.toArray[m]!≠zs.toArray[m -1]!):=by simpa [Lib.keeps]using hk
   have hm0:m≠0:=fun h=>hk' (.inl h);have hmm:zs.toArray[m]! =zs.toArray[m -1]!:=Classical.byContradiction fun h=>hk' (.inr h);constructor
   ·rintro⟨j,hj,h⟩;exact⟨j,by omega,h⟩
   ·rintro⟨j,hj,h⟩;by_cases hjm:j=m
    ·subst hjm;exact⟨j -1,by omega,by rw[←hmm];exact h⟩
    ·exact⟨j,by omega,h⟩
theorem sortC (zs ls:List Int)(hl:ls.Pairwise (· < ·))(h:∀x,x∈ls↔x∈zs):Lib.compact (zs.mergeSort fun x y=>decide (x≤y))=ls:=by
 have hp:(zs.mergeSort fun x y=>decide (x≤y)).Pairwise (fun x y=>decide (x≤y)=true):=List.pairwise_mergeSort (fun a b c h1 h2=>by simp at*;omega) (fun a b=>by simp;omega) zs;have hm:∀x,x∈(zs.mergeSort fun x y=>decide (x≤y))↔x∈zs:=fun x=>List.mem_mergeSort;generalize(zs.mergeSort fun x y=>decide (x≤y))=ms at*;have hs:∀i j,i≤j→j<ms.length→ms.toArray[i]!≤ms.toArray[j]!:=by
  intro i j hij hj;have hi:i<ms.length:=by omega
  rw[getElem!_pos ms.toArray i (by simpa using hi),getElem!_pos ms.toArray j (by simpa using hj)];by_cases e:i=j
  ·subst e;exact Int.le_refl _
  ·have:=List.pairwise_iff_getElem.1 hp i j hi hj (by omega)
   simpa using this
 obtain⟨h1,h2⟩:=compact_asc ms hs ms.length (Nat.le_refl _);refine asc_unique h1 hl fun x=>?_;show x∈Lib.compactUpTo ms.toArray ms.length↔_;rw[h2,h,←hm x];constructor
 ·rintro⟨j,hj,rfl⟩;rw[getElem!_pos ms.toArray j (by simpa using hj)];simp
 ·intro hx;obtain⟨j,hj,rfl⟩:=List.mem_iff_getElem.1 hx;exact⟨j,hj,by rw[getElem!_pos ms.toArray j (by simpa using hj)];simp⟩
def colN (ns:List Nd):List Int:=(ns.filter fun x=>x.e.k==0).map fun x=>x.e.n
theorem mem_colN {ns:List Nd}{x:Int}:x∈colN ns↔∃y∈ns,y.e.k=0∧y.e.n=x:=by
 unfold colN;rw[List.mem_map];constructor
 ·rintro⟨y,hy,rfl⟩;rw[List.mem_filter]at hy;exact⟨y,hy.1,by simpa using hy.2,rfl⟩
 ·rintro⟨y,hy,h0,rfl⟩;exact⟨y,List.mem_filter.2 ⟨hy,by simpa using h0⟩,rfl⟩
def ColIn (L:List Int)(e:E7):Prop:=∃d,DE d e.ks∧∀x,x∈colsL d e→x∈L
theorem colIn_kid {L:List Int}:∀e,ColIn L e→∀k∈e.ks,ColIn L k:=by
 rintro e ⟨d,hd,h⟩ k hk;cases d with
 |zero=>exact hd.elim
 |succ d=>exact⟨d,hd k hk,fun x hx=>h x (mem_colsL.2 (.inr ⟨k,hk,hx⟩))⟩
theorem NQ.cols {w wr:World}{D:Nat}{hang:Nat→Nat×Nat}{P:E7→Prop}{ns:List Nd}(h:NQ w D hang P wr ns.length ns):∀ {d j:Nat} {y:Nd} {x:Int},ns[j]?=some y→DE d y.e.ks→x∈colsL d y.e→x∈colN ns
 |0,_,_,_,_,hd,_=>hd.elim
 |d+1,j,y,x,hy,hd,hx=>by
  rcases mem_colsL.1 hx with⟨h0,rfl⟩|⟨k,hk,hxk⟩
  ·exact mem_colN.2 ⟨y,mg8 hy,h0,rfl⟩
  ·have hj:j<ns.length:=(gE1 hy).1;obtain⟨_,_,u,_,_,hdn⟩:=h.at' j y hy;obtain⟨a,c,_,_,_,hkk⟩:=hdn hj;obtain⟨b,_,_,_,_,hm⟩:=hkk (by intro h;rw[h]at hk;cases hk);obtain⟨t,ht,rfl⟩:=List.mem_iff_getElem.1 hk;obtain⟨m,hm⟩:=hm t y.e.ks[t] (by simp);exact NQ.cols h hm (hd _ hk) hxk
end
section
open Go.RowKit Go.Deep
def cntE:DataW (Int×Int×V3×ByteArray)→Nat
 | .agg (.held _::l)=>1+(l.attach.map fun x=>have:=List.sizeOf_lt_of_mem x.2;cntE x.1).sum
 |_=>1
def cntEs:List E7→Nat
 | []=>0
 |e::es=>cntE e+cntEs es
theorem cntEs_sum (l:List E7):(l.map cntE).sum=cntEs l:=by
 induction l with
 |nil=>rfl
 |cons e es ih=>rw[List.map_cons,List.sum_cons,cntEs,ih]
theorem cntE_eq (e:E7):cntE e=1+cntEs e.ks:=by
 rw[cntE.eq_def];split
 ·rename_i q l
  have:(l.attach.map fun x=>cntE x.1)=l.map cntE:=by simp
  show 1+(l.attach.map fun x=>cntE x.1).sum=1+cntEs l;rw[this,cntEs_sum]
 ·rename_i h
  have hk:E7.ks e=[]:=by unfold E7.ks;split;exact absurd rfl (h _ _);rfl
  rw[hk];rfl
def cntN (i:Nat)(ns:List Nd):Nat:=((ns.drop i).map fun x=>cntE x.e).sum
theorem cntN_pos {i:Nat}{ns:List Nd}{x:Nd}(h:ns[i]?=some x):cntN i ns=cntE x.e+cntN (i+1) ns:=by
 obtain⟨hi,rfl⟩:=gE1 h;unfold cntN;rw[List.drop_eq_getElem_cons hi];simp only[List.map_cons,List.sum_cons]
theorem cnt_news (ks:List E7)(g:Nat):((news ks g).map fun x=>cntE x.e).sum=cntEs ks:=by
 have e:(news ks g).map (fun x=>cntE x.e)=ks.map cntE:=by
  apply List.ext_getElem?;intro i;simp[news];cases ks[i]?<;>rfl
 rw[e,cntEs_sum]
theorem cntN_step {i:Nat}{ns:List Nd}{x:Nd}(g:Nat)(h:ns[i]?=some x):i+1+cntN (i+1) (ns++news x.e.ks g)=i+cntN i ns:=by
 have hi:i<ns.length:=(gE1 h).1;rw[cntN_pos h,cntE_eq];have e:cntN (i+1) (ns++news x.e.ks g)=cntN (i+1) ns+cntEs x.e.ks:=by
  unfold cntN;rw[List.drop_append_of_le_length (by omega),List.map_append,List.sum_append,cnt_news]
 omega
theorem cntN_len (i:Nat)(ns:List Nd):ns.length -i≤cntN i ns:=by
 unfold cntN;rw[←List.length_drop];generalize ns.drop i=l;induction l with
 |nil=>simp
 |cons x xs ih=>
  have:=cntE_eq x.e;simp only[List.map_cons,List.sum_cons,List.length_cons]at ih⊢;omega
structure KQ (w:World)(D:Nat)(F0:List Nat)(wr:World)(i:Nat)(ns:List Nd)(Fs:List (List Nat))(es:Array MapEntry):Prop where
 len:Fs.length=ns.length
 kid:∀ (j:Nat) (x:Nd) (F:List Nat),i≤j→ns[j]?=some x→Fs[j]?=some F→∃u,wr.cell? ⟨x.b,x.o+6,none⟩=some u∧KidsIs w (D+1) u x.e.ks F
 nd:(Fs.drop i).flatten.Nodup
 sub:∀F∈Fs.drop i,∀b∈F,b∈F0
 keys:∀e∈es.toList,∃ (a:Addr) (m:Int),e.key=.agg #[.pointer (some a),.int .i64 m]∧a.block∈F0∧∀F∈Fs.drop i,a.block∉F
 fr:∀x∈F0,Fr w x∧x<w.heap.size
def MQ (w:World)(D:Nat)(F0:List Nat)(wr:World)(i:Nat)(ns:List Nd)(es:Array MapEntry):Prop:=
 (es=#[]∧i+cntN i ns≤8191)∨∃Fs,KQ w D F0 wr i ns Fs es
theorem MQ.few {w:World}{D:Nat}{F0:List Nat}{wr:World}{i:Nat}{ns:List Nd}{es:Array MapEntry}(h:MQ w D F0 wr i ns es)(hl:8192≤ns.length):∃Fs,KQ w D F0 wr i ns Fs es:=by
 rcases h with⟨_,h⟩|h
 ·have:=cntN_len i ns;omega
 ·exact h
theorem KQ.here {w:World}{D:Nat}{F0:List Nat}{wr:World}{i:Nat}{ns:List Nd}{Fs:List (List Nat)}{es:Array MapEntry}{x:Nd}{b o n c:Nat}(h:KQ w D F0 wr i ns Fs es)(hx:ns[i]?=some x)(hu:wr.cell? ⟨x.b,x.o+6,none⟩=some (.slice (some ⟨b,o,none⟩) n c))(hne:x.e.ks≠ []):∃G,Fs.drop i=(b::G.flatten)::Fs.drop (i+1)∧G.length=x.e.ks.length∧ELies w D b o x.e.ks G:=by
 have hi:i<Fs.length:=by rw[h.len];exact(gE1 hx).1
 obtain⟨u,hu',hK⟩:=h.kid i x Fs[i] (Nat.le_refl _) hx (by simp);rw[hu]at hu';obtain rfl:=Option.some.inj hu';obtain⟨a,c',b',o',G,e,_,_,hG,_,ha⟩:=hK.pick;obtain⟨rfl,_,hF,hL⟩:=ha 0 (List.length_pos_iff.2 hne);injection e with e1;injection e1 with e1;injection e1 with e1 e2;subst e1 e2;exact⟨G,by rw[List.drop_eq_getElem_cons hi,hF],hG,hL⟩
theorem MQ.miss {w:World}{D:Nat}{F0:List Nat}{wr wX:World}{i:Nat}{ns:List Nd}{es:Array MapEntry}{x:Nd}{b o n c:Nat}(h:MQ w D F0 wr i ns es)(hx:ns[i]?=some x)(hu:wr.cell? ⟨x.b,x.o+6,none⟩=some (.slice (some ⟨b,o,none⟩) n c))(hne:x.e.ks≠ [])(hX:Below w.heap.size w wX):∀e∈es.toList,∃ (a:Addr) (m:Int),e.key=.agg #[.pointer (some a),.int .i64 m]∧(⟨b,o,none⟩:Addr)≠a∧Fr wX (⟨b,o,none⟩:Addr).block∧Fr wX a.block:=by
 rcases h with⟨rfl,_⟩|⟨Fs,h⟩
 ·intro e he;simp at he
 ·obtain⟨G,hd,_,_⟩:=h.here hx hu hne;intro e he;obtain⟨a,m,hk,ha,hF⟩:=h.keys e he;have hb0:b∈F0:=h.sub (b::G.flatten) (by rw[hd];exact List.mem_cons_self) b List.mem_cons_self;have fr:∀y∈F0,Fr wX y:=fun y hy=>(h.fr y hy).1.keep (hX.block y (h.fr y hy).2);refine⟨a,m,hk,?_,fr b hb0,fr _ ha⟩;rintro rfl;exact hF (b::G.flatten) (by rw[hd];exact List.mem_cons_self) List.mem_cons_self
theorem MQ.skip {w:World}{D:Nat}{F0:List Nat}{wr w3:World}{i:Nat}{ns:List Nd}{es:Array MapEntry}{x:Nd}(h:MQ w D F0 wr i ns es)(hx:ns[i]?=some x)(hcell:∀ (j:Nat) (y:Nd),ns[j]?=some y→j≠i→w3.cell? ⟨y.b,y.o+6,none⟩=wr.cell? ⟨y.b,y.o+6,none⟩):MQ w D F0 w3 (i+1) ns es:=by
 rcases h with⟨he,h⟩|⟨Fs,h⟩
 ·left;refine⟨he,?_⟩;have:=cntN_pos hx;have:=cntE_eq x.e;omega
 ·right;have hi:i<Fs.length:=by rw[h.len];exact(gE1 hx).1
  have hd:Fs.drop i=Fs[i]::Fs.drop (i+1):=List.drop_eq_getElem_cons hi;refine⟨Fs,h.len,fun j y F hj hy hF=>?_,?_,fun F hF=>h.sub F (by rw[hd];exact List.mem_cons_of_mem _ hF),fun e he=>?_,h.fr⟩
  ·obtain⟨u,hu,hK⟩:=h.kid j y F (by omega) hy hF;exact⟨u,(hcell j y hy (by omega)).trans hu,hK⟩
  ·have:=h.nd;rw[hd,List.flatten_cons,List.nodup_append]at this;exact this.2.1
  ·obtain⟨a,m,hk,ha,hF⟩:=h.keys e he;exact⟨a,m,hk,ha,fun F hF'=>hF F (by rw[hd];exact List.mem_cons_of_mem _ hF')⟩
theorem KQ.step {w:World}{D:Nat}{F0:List Nat}{wr w3:World}{i gg:Nat}{ns:List Nd}{Fs:List (List Nat)}{es es':Array MapEntry}{x:Nd}{b o n c:Nat}(h:KQ w D F0 wr i ns Fs es)(hx:ns[i]?=some x)(hu:wr.cell? ⟨x.b,x.o+6,none⟩=some (.slice (some ⟨b,o,none⟩) n c))(hne:x.e.ks≠ [])(hcell:∀ (j:Nat) (y:Nd),ns[j]?=some y→j≠i→w3.cell? ⟨y.b,y.o+6,none⟩=wr.cell? ⟨y.b,y.o+6,none⟩)(hgg:∀j,j<x.e.ks.length*7→w3.cell? ⟨gg,j,none⟩=w.cell? ⟨b,o+j,none⟩)(hes:∀e∈es'.toList,e∈es.toList∨∃m:Int,e.key=.agg #[.pointer (some ⟨b,o,none⟩),.int .i64 m]):∃Fs',KQ w D F0 w3 (i+1) (ns++news x.e.ks gg) Fs' es':=by
 obtain⟨G,hd,hG,hL⟩:=h.here hx hu hne;have hil:i<ns.length:=(gE1 hx).1;have hlen:=h.len;have hdr:(Fs++G).drop (i+1)=Fs.drop (i+1)++G:=List.drop_append_of_le_length (by omega);have hnd:=h.nd;rw[hd,List.flatten_cons,List.nodup_append]at hnd;obtain⟨n1,n2,n3⟩:=hnd;obtain⟨nb,nG⟩:=List.nodup_cons.1 n1;have mem:∀F∈G,∀y∈F,y∈b::G.flatten:=fun F hF y hy=>List.mem_cons_of_mem _ (List.mem_flatten.2 ⟨F,hF,hy⟩);refine⟨Fs++G,by rw[List.length_append,List.length_append,hlen,news_len,hG],fun j y F hj hy hF=>?_,?_,fun F hF=>?_,fun e he=>?_,h.fr⟩
 ·by_cases hjl:j<ns.length
  ·rw[List.getElem?_append_left hjl]at hy;rw[List.getElem?_append_left (by omega)]at hF;obtain⟨u,hu2,hK⟩:=h.kid j y F (by omega) hy hF;exact⟨u,(hcell j y hy (by omega)).trans hu2,hK⟩
  ·rw[List.getElem?_append_right (by omega)]at hy;rw[List.getElem?_append_right (by omega),hlen]at hF;obtain⟨e,he,rfl⟩:=news_of hy;have ht:j -ns.length<x.e.ks.length:=(gE1 he).1;obtain⟨_,_,u,hu2,hK⟩:=hL (j -ns.length) e F he hF;refine⟨u,?_,hK.up (by omega)⟩;rw[←hu2];show w3.cell? ⟨gg,(j -ns.length)*7+6,none⟩=_;rw[hgg _ (by omega),Nat.add_assoc]
 ·rw[hdr,List.flatten_append,List.nodup_append];refine⟨n2,nG,fun p hp q hq=>?_⟩;rintro rfl;exact n3 p (List.mem_cons_of_mem _ hq) p hp rfl
 ·rw[hdr]at hF;rcases List.mem_append.1 hF with hF|hF
  ·exact h.sub F (by rw[hd];exact List.mem_cons_of_mem _ hF)
  ·exact fun y hy=>h.sub (b::G.flatten) (by rw[hd];exact List.mem_cons_self) y (mem F hF y hy)
 ·rw[hdr];rcases hes e he with hold|⟨m,hk⟩
  ·obtain⟨a,m,hk,ha,hF⟩:=h.keys e hold;refine⟨a,m,hk,ha,fun F hF' hb=>?_⟩;rcases List.mem_append.1 hF' with hF'|hF'
   ·exact hF F (by rw[hd];exact List.mem_cons_of_mem _ hF') hb
   ·exact hF (b::G.flatten) (by rw[hd];exact List.mem_cons_self) (mem F hF' _ hb)
  ·refine⟨⟨b,o,none⟩,m,hk,h.sub (b::G.flatten) (by rw[hd];exact List.mem_cons_self) b List.mem_cons_self,fun F hF' hb=>?_⟩;rcases List.mem_append.1 hF' with hF'|hF'
   ·exact n3 b List.mem_cons_self b (List.mem_flatten.2 ⟨F,hF',hb⟩) rfl
   ·exact nb (List.mem_flatten.2 ⟨F,hF',hb⟩)
theorem MQ.step {w:World}{D:Nat}{F0:List Nat}{wr w3:World}{i gg:Nat}{ns:List Nd}{es:Array MapEntry}{x:Nd}{b o n c:Nat}(h:MQ w D F0 wr i ns es)(hx:ns[i]?=some x)(hu:wr.cell? ⟨x.b,x.o+6,none⟩=some (.slice (some ⟨b,o,none⟩) n c))(hne:x.e.ks≠ [])(hcell:∀ (j:Nat) (y:Nd),ns[j]?=some y→j≠i→w3.cell? ⟨y.b,y.o+6,none⟩=wr.cell? ⟨y.b,y.o+6,none⟩)(hgg:∀j,j<x.e.ks.length*7→w3.cell? ⟨gg,j,none⟩=w.cell? ⟨b,o+j,none⟩):MQ w D F0 w3 (i+1) (ns++news x.e.ks gg) es:=by
 rcases h with⟨he,h⟩|⟨Fs,h⟩
 ·left;exact⟨he,by have:=cntN_step gg hx;omega⟩
 ·right;exact h.step hx hu hne hcell hgg fun e he=> .inl he
theorem MQ.note {w:World}{D:Nat}{F0:List Nat}{wr w3:World}{i gg ck:Nat}{ns:List Nd}{es:Array MapEntry}{x:Nd}{b o n c:Nat}{m:Int}{v:Value}(h:MQ w D F0 wr i ns es)(hl:8192≤ns.length)(hx:ns[i]?=some x)(hu:wr.cell? ⟨x.b,x.o+6,none⟩=some (.slice (some ⟨b,o,none⟩) n c))(hne:x.e.ks≠ [])(hcell:∀ (j:Nat) (y:Nd),ns[j]?=some y→j≠i→w3.cell? ⟨y.b,y.o+6,none⟩=wr.cell? ⟨y.b,y.o+6,none⟩)(hgg:∀j,j<x.e.ks.length*7→w3.cell? ⟨gg,j,none⟩=w.cell? ⟨b,o+j,none⟩):MQ w D F0 w3 (i+1) (ns++news x.e.ks gg) (es.push ⟨.agg #[.pointer (some ⟨b,o,none⟩),.int .i64 m],v,ck⟩):=by
 obtain⟨Fs,h⟩:=h.few hl;right;refine h.step hx hu hne hcell hgg fun e he=>?_;rw[Array.toList_push]at he;rcases List.mem_append.1 he with he|he
 ·exact .inl he
 ·rcases List.mem_singleton.1 he with rfl;exact .inr ⟨m,rfl⟩
theorem mq_start {w:World}{D:Nat}{F:List Nat}{wr:World}{x:Nd}{u:Value}(h:(F.Nodup∧∀b∈F,Fr w b)∨cntE x.e≤8191)(hu:wr.cell? ⟨x.b,x.o+6,none⟩=some u)(hk:KidsIs w (D+1) u x.e.ks F):MQ w D F wr 0 [x] #[]:=by
 rcases h with⟨hn,hf⟩|h
 ·right;refine⟨[F],rfl,fun j y G _ hy hG=>?_,by simpa using hn,fun G hG=>by simp at hG;subst hG;exact fun b hb=>hb,fun e he=>by simp at he,fun b hb=>⟨hf b hb,hk.lt b hb⟩⟩;cases j with
  |zero=>simp at hy hG;subst hy hG;exact⟨u,hu,hk⟩
  |succ j=>simp at hy
 ·left;exact⟨rfl,by simpa [cntN]using h⟩
end
end Go.Proofs.YtflokiejcjjbiaaGreat
