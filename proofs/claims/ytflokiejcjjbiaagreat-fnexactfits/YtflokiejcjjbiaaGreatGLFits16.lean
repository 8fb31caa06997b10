/- Own texts, joined: contracts that the law's proof goes by. -/
import Derived.Test.YtflokiejcjjbiaaGreatGLFits2
import Derived.Test.YtflokiejcjjbiaaGreatGLFits15
import Derived.Laws.AppendOwnNone
import Derived.Maps.AppendAt
import Derived.Handy
import Derived.Deep.AppendLies
import Derived.Lib.SliceRun
set_option maxHeartbeats 16000000
set_option maxRecDepth 100000
set_option linter.unusedVariables false
set_option linter.unusedSimpArgs false
namespace Go.Proofs.YtflokiejcjjbiaaGreat
section
open Go.RowKit Go.Deep Go.ChangeShapes Go.WideShapes
def c7 (u:Value)(e:E7):List Value:=[.int .i64 e.k,.int .i64 e.n,.int .i64 e.v.k,.int .i64 e.v.n,.string e.v.s,.string e.p,u]
def ec (us:List Value)(es:List E7):List Value:=(us.zip es).flatMap fun p=>c7 p.1 p.2
theorem ec_push {us:List Value}{es:List E7}(h:us.length=es.length)(u:Value)(e:E7):ec (us++ [u]) (es++ [e])=ec us es++c7 u e:=by
 unfold ec;rw[List.zip_append h,List.flatMap_append];simp
theorem ec_at {us:List Value}{es:List E7}(h:us.length=es.length):∀ {i:Nat} {u:Value} {e:E7},us[i]?=some u→es[i]?=some e→∀j,j<7→(ec us es)[i*7+j]?=(c7 u e)[j]?:=by
 induction us generalizing es with
 |nil=>intro i u x hu;simp at hu
 |cons v us ih=>
  cases es with
  |nil=>simp at h
  |cons c es=>
   intro i u x hu hx j hj;have e:ec (v::us) (c::es)=c7 v c++ec us es:=by unfold ec;rw[List.zip_cons_cons,List.flatMap_cons]
   rw[e];have hl:(c7 v c).length=7:=rfl;cases i with
   |zero=>simp at hu hx;subst hu hx;rw[List.getElem?_append_left (by omega)];simp
   |succ i=>
    have:=ih (es:=es) (by simpa using h) (i:=i) (u:=u) (e:=x) (by simpa using hu) (by simpa using hx) j hj;rw[List.getElem?_append_right (by omega),show(i+1)*7+j - (c7 v c).length=i*7+j from by omega];exact this
structure ExpOwn (w:World)(N d:Nat)(v:Value)(es:List E7)(us:List Value)(G:List (List Nat)):Prop where
 own:w.ownsRow N 39 7 v es.length (ec us es)
 ul:us.length=es.length
 gl:G.length=es.length
 wf:∀e∈es,e.wf
 kid:∀ (i:Nat) (e:E7) (u:Value) (g:List Nat),es[i]?=some e→us[i]?=some u→G[i]?=some g→KidsIs w d u e.ks g
 free:Own w N G.flatten
 out:∀b,v.ownBlock=some b→b∉G.flatten
theorem ExpOwn.nil (w:World)(N d:Nat):ExpOwn w N d (.slice none 0 0) [] [] []:=
 ⟨⟨rfl,.inl ⟨rfl,rfl⟩⟩,rfl,rfl,by simp,fun i x u g hx=>by simp at hx,by simp[Own,OwnN],fun b _=>by simp⟩
theorem ownsE_lt {w:World}{N e n s:Nat}{v:Value}{xs:List Value}(h:w.ownsRow N e s v n xs):∀b,v.ownBlock=some b→N≤b∧b<w.heap.size:=by
 intro b hb;rcases h.2 with⟨rfl,_⟩|⟨g,cap,cur,rfl,hg,hc,_⟩
 ·simp[Value.ownBlock]at hb
 ·simp[Value.ownBlock]at hb;subst hb;refine⟨hg,?_⟩;rcases Nat.lt_or_ge g w.heap.size with h'|h'
  ·exact h'
  ·simp[Array.getElem?_eq_none h']at hc
theorem ownsE_keep {w w':World}{N e n s:Nat}{v:Value}{xs:List Value}(h:w.ownsRow N e s v n xs)(hb:∀b,v.ownBlock=some b→w'.heap[b]?=w.heap[b]?):w'.ownsRow N e s v n xs:=by
 refine⟨h.1,?_⟩;rcases h.2 with hn|⟨g,cap,cur,rfl,hg,hc,rest⟩
 ·exact .inl hn
 ·exact .inr ⟨g,cap,cur,rfl,hg,(hb g rfl).trans hc,rest⟩
theorem ExpOwn.empty (w:World)(d:Nat):ExpOwn (w.alloc (.cells #[] 39)) w.heap.size d (.slice (some ⟨w.heap.size,0,none⟩) 0 0) [] [] []:=
 ⟨⟨by simp[ec],.inr ⟨w.heap.size,0,#[],rfl,Nat.le_refl _,heap_alloc_new w _,Nat.le_refl _,by simp,by simp,by simp[ec]⟩⟩,rfl,rfl,by simp,fun i x u g hx=>by simp at hx,by simp[Own,OwnN],fun b _=>by simp⟩
theorem ExpOwn.empty' {w:World}{N:Nat}(hN:N=w.heap.size)(d:Nat):ExpOwn (w.alloc (.cells #[] 39)) N d (.slice (some ⟨N,0,none⟩) 0 0) [] [] []:=by subst hN;exact ExpOwn.empty w d
section
variable {w w':World} {N d:Nat} {v:Value} {es:List E7} {us:List Value} {G:List (List Nat)}
theorem ExpOwn.lt (h:ExpOwn w N d v es us G):∀b∈G.flatten,b<w.heap.size:=by
 intro b hb;obtain⟨g,hg,hbg⟩:=List.mem_flatten.1 hb;obtain⟨i,hi,rfl⟩:=List.mem_iff_getElem.1 hg;have h1:=h.gl;have h2:=h.ul;have hi1:i<es.length:=by omega
 have hi2:i<us.length:=by omega
 exact(h.kid i es[i] us[i] G[i] (by simp) (by simp) (by simp)).lt b hbg
theorem ExpOwn.keep (h:ExpOwn w N d v es us G)(hs:w.heap.size≤w'.heap.size)(hb:∀b,N≤b→b<w.heap.size→w'.heap[b]?=w.heap[b]?):ExpOwn w' N d v es us G:=by
 have hk:∀b∈G.flatten,w'.heap[b]?=w.heap[b]?:=fun b hbG=>hb b (h.free.2 b hbG).1 (h.lt b hbG);refine⟨ownsE_keep h.own fun b hv=>hb b (ownsE_lt h.own b hv).1 (ownsE_lt h.own b hv).2,h.ul,h.gl,h.wf,fun i x u g hx hu hg=>(h.kid i x u g hx hu hg).keep hs fun b hbg=>hk b (List.mem_flatten.2 ⟨g,mg8 hg,hbg⟩),h.free.keep hk,h.out⟩
theorem ExpOwn.below (h:ExpOwn w N d v es us G)(hb:Below w.heap.size w w'):ExpOwn w' N d v es us G:=h.keep hb.size fun b _ hlt=>hb.block b hlt
theorem ExpOwn.push {v' u:Value}{e:E7}{g:List Nat}(h:ExpOwn w N d v es us G)(hw:e.wf)(hK:KidsIs w d u e.ks g)(hO:Own w N g)(hd1:∀b∈G.flatten,b∉g)(hd2:∀b,v.ownBlock=some b→b∉g)(ho:w'.ownsRow N 39 7 v' (es.length+1) (ec us es++c7 u e)) (hg:w.grownBy w' v.ownBlock) (hat:∀b,v'.ownBlock=some b→v.ownBlock=some b∨w.heap.size≤b):ExpOwn w' N d v' (es++ [e]) (us++ [u]) (G++ [g]):=by
 have hG:=h.lt;have hm:∀b∈(G++ [g]).flatten,b∈G.flatten∨b∈g:=by intro b hb;simpa using hb
 have hlt:∀b∈(G++ [g]).flatten,b<w.heap.size:=fun b hb=>(hm b hb).elim (hG b) (hK.lt b);have hne:∀b∈(G++ [g]).flatten,some b≠v.ownBlock:=fun b hb e=>(hm b hb).elim (h.out b e.symm) (hd2 b e.symm);have hk:∀b∈(G++ [g]).flatten,w'.heap[b]?=w.heap[b]?:=fun b hb=>hg.block b (hlt b hb) (hne b hb);refine⟨?_,by simp[h.ul],by simp[h.gl],fun y hy=>?_,fun i y z q hy hz hq=>?_,?_,fun b hb=>?_⟩
 ·rw[ec_push h.ul];simpa using ho
 ·rcases List.mem_append.1 hy with hy|hy
  ·exact h.wf y hy
  ·rcases List.mem_singleton.1 hy with rfl;exact hw
 ·by_cases hi:i<es.length
  ·rw[List.getElem?_append_left hi]at hy;rw[List.getElem?_append_left (by rw[h.ul];exact hi)]at hz;rw[List.getElem?_append_left (by rw[h.gl];exact hi)]at hq;exact(h.kid i y z q hy hz hq).keep hg.size fun b hb=>hk b (by simp;exact .inl ⟨q,mg8 hq,hb⟩)
  ·have hl:i<(es++ [e]).length:=(gE1 hy).1;obtain rfl:i=es.length:=by simp at hl;omega
   rw[List.getElem?_append_right (Nat.le_refl _)]at hy;rw[List.getElem?_append_right (by rw[h.ul];exact Nat.le_refl _)]at hz;rw[List.getElem?_append_right (by rw[h.gl];exact Nat.le_refl _)]at hq;simp[h.ul,h.gl]at hy hz hq;subst hy hz hq;exact hK.keep hg.size fun b hb=>hk b (by simp;exact .inr hb)
 ·refine Own.keep (w:=w) ⟨?_,fun b hb=>(hm b hb).elim (h.free.2 b) (hO.2 b)⟩ hk;rw[List.flatten_append,List.nodup_append];refine⟨h.free.1,by simpa using hO.1,fun a ha b hb=>?_⟩;rintro rfl;exact hd1 a ha (by simpa using hb)
 ·intro hx;rcases hat b hb with e|e
  ·exact hne b hx e.symm
  ·have:=hlt b hx;omega
theorem ExpOwn.shape (h:ExpOwn w N d v es us G):∃a c,v=.slice a es.length c:=by
 rcases h.own.2 with⟨rfl,h0⟩|⟨g,cap,cur,hv,_⟩
 ·exact⟨none,0,by rw[h0]⟩
 ·exact⟨_,cap,hv⟩
theorem ExpOwn.kids (h:ExpOwn w N d v es us G):∃F,KidsIs w (d+1) v es F∧Own w N F:=by
 have hlt:=ownsE_lt h.own;by_cases hne:es=[]
 ·refine⟨[],?_,by simp[Own,OwnN]⟩;have hgl:=h.gl;subst hne;rcases h.own.2 with⟨rfl,_⟩|⟨g,cap,cur,rfl,_,_,hn,hm,_⟩
  ·exact⟨none,0,G,rfl,Nat.le_refl _,by simp,hgl,fun _=>rfl,fun x=>absurd rfl x⟩
  ·exact⟨_,cap,G,rfl,hn,hm,hgl,fun _=>rfl,fun x=>absurd rfl x⟩
 have hp:0<es.length:=List.length_pos_iff.2 hne;obtain⟨hl,ho⟩:=h.own;rcases ho with⟨_,h0⟩|⟨g,cap,cur,rfl,hg,hc,hn,hm,hs,ht⟩
 ·omega
 have hgo:g∉G.flatten:=h.out g rfl;refine⟨g::G.flatten,⟨_,cap,G,rfl,hn,hm,h.gl,fun x=>absurd x hne,fun _=>⟨g,0,rfl,(hlt g rfl).2,rfl,fun i x q hx hq=>?_⟩⟩,List.nodup_cons.2 ⟨hgo,h.free.1⟩,fun b hb=>?_⟩
 ·have hi:i<es.length:=(gE1 hx).1;have hiu:i<us.length:=by rw[h.ul];exact hi
  have hat:=ec_at h.ul (i:=i) (u:=us[i]) (e:=x) (by simp) hx;have get:∀j u,j<7→(c7 us[i] x)[j]?=some u→w.cell? ⟨g,i*7+j,none⟩=some u:=by
   intro j u hj hu;have hu:=(hat j hj).trans hu;simp only[World.cell?,hc];rw[←ht,List.getElem?_take,if_pos (by omega),Array.getElem?_toList]at hu
   simpa using hu
  rw[Nat.zero_add];exact⟨h.wf x (mg8 hx),⟨get 0 _ (by omega) rfl,get 1 _ (by omega) rfl,get 2 _ (by omega) rfl,get 3 _ (by omega) rfl,get 4 _ (by omega) rfl,get 5 _ (by omega) rfl⟩,us[i],get 6 _ (by omega) rfl,h.kid i x us[i] q hx (by simp) hq⟩
 ·rcases List.mem_cons.1 hb with rfl|hb
  ·exact⟨hg,fun o=>by simp[World.frozen?,hc]⟩
  ·exact h.free.2 b hb
end
end
section
open Go.RowKit Go.Deep Go.ChangeShapes Go.WideShapes
theorem ec_len {us:List Value}{es:List E7}(h:us.length=es.length):(ec us es).length=es.length*7:=by
 unfold ec;induction us generalizing es with
 |nil=>cases es with|nil=>rfl|cons=>simp at h
 |cons u us ih=>
  cases es with
  |nil=>simp at h
  |cons c es=>
   have:=ih (es:=es) (by simpa using h);rw[List.zip_cons_cons,List.flatMap_cons,List.length_append,this];simp[c7];omega
theorem ec_one {us:List Value}{es:List E7}(h:∀u∈us,u.oneCell'=true):∀u∈ec us es,u.oneCell'=true:=by
 intro u hu;unfold ec at hu;obtain⟨p,hp,hup⟩:=List.mem_flatMap.1 hu;have h1:=h p.1 (List.of_mem_zip hp).1;simp only[c7,List.mem_cons,List.not_mem_nil,or_false]at hup;rcases hup with rfl|rfl|rfl|rfl|rfl|rfl|rfl<;>first|rfl|exact h1
theorem KidsIs.flat {w:World}{d b o:Nat}{es:List E7}{G:List (List Nat)}(hG:G.length=es.length)(hL:ELies w d b o es G):∃us:List Value,us.length=es.length∧(∀ (i:Nat) (e:E7) (u:Value) (g:List Nat),es[i]?=some e→us[i]?=some u→G[i]?=some g→e.wf∧KidsIs w d u e.ks g)∧(∀u∈us,u.oneCell'=true)∧∀j u,(ec us es)[j]?=some u→w.cell? ((⟨b,o,none⟩:Addr).add j)=some u:=by
 have each:∀i,i<es.length→∃u:Value,∀ (e:E7) (g:List Nat),es[i]?=some e→G[i]?=some g→e.wf∧cellsE w b (o+i*7) e∧w.cell? ⟨b,o+i*7+6,none⟩=some u∧KidsIs w d u e.ks g:=by
  intro i hi;have hi':i<G.length:=by omega
  obtain⟨hw,hc,u,hu,hk⟩:=hL i es[i] G[i] (by simp) (by simp);refine⟨u,fun e g he hg=>?_⟩;obtain rfl:es[i]=e:=by simpa [hi]using he
  obtain rfl:G[i]=g:=by simpa [hi']using hg
  exact⟨hw,hc,hu,hk⟩
 have:Inhabited Value:=⟨.slice none 0 0⟩;obtain⟨q,hq⟩:=choose_lt each;have hul:((List.range es.length).map q).length=es.length:=by simp
 refine⟨(List.range es.length).map q,hul,fun i e u g he hu hg=>?_,fun u hu=>?_,fun j u hu=>?_⟩
 ·have hi:i<es.length:=(gE1 he).1;obtain rfl:q i=u:=by simpa [hi]using hu
  obtain⟨hw,_,_,hk⟩:=hq i hi e g he hg;exact⟨hw,hk⟩
 ·obtain⟨i,hi,rfl⟩:=List.mem_map.1 hu;have hi:=List.mem_range.1 hi;have hi':i<G.length:=by omega
  obtain⟨_,_,_,hk⟩:=hq i hi es[i] G[i] (by simp) (by simp);obtain⟨a,c,e,_⟩:=hk.shape;rw[e];rfl
 ·have hj:j<es.length*7:=by have:=(gE1 hu).1;rwa [ec_len hul]at this
  have hi:j/7<es.length:=by omega
  have hi':j/7<G.length:=by omega
  obtain⟨_,⟨c0,c1,c2,c3,c4,c5⟩,c6,_⟩:=hq (j/7) hi es[j/7] G[j/7] (by simp) (by simp);have hat:=ec_at hul (i:=j/7) (u:=q (j/7)) (e:=es[j/7]) (by simp[hi]) (by simp) (j %7) (by omega);rw[show j/7*7+j %7=j from by omega,hu]at hat;rw[add_plain];have hr:j %7=0∨j %7=1∨j %7=2∨j %7=3∨j %7=4∨j %7=5∨j %7=6:=by omega
  rcases hr with e|e|e|e|e|e|e<;>rw[e]at hat<;>simp only[c7,List.getElem?_cons_zero,List.getElem?_cons_succ,Option.some.injEq]at hat<;>subst hat
  ·rw[show o+j=o+j/7*7 from by omega];exact c0
  ·rw[show o+j=o+j/7*7+1 from by omega];exact c1
  ·rw[show o+j=o+j/7*7+2 from by omega];exact c2
  ·rw[show o+j=o+j/7*7+3 from by omega];exact c3
  ·rw[show o+j=o+j/7*7+4 from by omega];exact c4
  ·rw[show o+j=o+j/7*7+5 from by omega];exact c5
  ·rw[show o+j=o+j/7*7+6 from by omega];exact c6
theorem cloneE_nil (c:Nat)(w:World):Calls Tryz.prog 171 #[.slice none 0 c] w fun e w'=>e=.returned (.slice none 0 0)∧w'=w:=by
 have hnil:∀ (w:World) (a:Option Addr) (n c n' c':Nat),(binOp .eql 37 (.slice a n c) (.slice none n' c')).run Tryz.prog w=.ok (.bool a.isNone) w:=fun w a n c n' c'=>Lib.run_eql_slice_nil w _ _ a n c n' c' Tryz.underlying37;go_enter Tryz.func171,Tryz.ntmps171;go_wp2;go_returns
 first|done|exact⟨rfl,rfl⟩|rfl
end
section
open Go.RowKit Go.Deep
def RE (w:World):Nat→Value→List E7→Prop
 |0,_,_=>False
 |d+1,v,es=> ∃ (a:Option Addr) (c:Nat),v=.slice a es.length c∧es.length≤c∧c≤maxLen∧
   (es≠ []→∃b o,a=some ⟨b,o,none⟩∧b<w.heap.size∧ ∀i e,es[i]?=some e→e.wf∧cellsE w b (o+i*7) e∧∃u,w.cell? ⟨b,o+i*7+6,none⟩=some u∧RE w d u e.ks)
theorem KidsIs.re {w:World}:∀ {d:Nat} {v:Value} {es:List E7} {F:List Nat},KidsIs w d v es F→RE w d v es
 |0,_,_,_,h=>h.elim
 |d+1,v,es,F,h=>by
  obtain⟨a,c,G,rfl,hl,hc,hG,h0,h⟩:=h;refine⟨a,c,rfl,hl,hc,fun hne=>?_⟩;obtain⟨b,o,rfl,hlt,rfl,hL⟩:=h hne;refine⟨b,o,rfl,hlt,fun i e he=>?_⟩;have hi:i<G.length:=by have:=(gE1 he).1;omega
  obtain⟨hw,hc,u,hu,hk⟩:=hL i e G[i] he (by simp);exact⟨hw,hc,u,hu,hk.re⟩
theorem RE.below {w w':World}(hb:Below w.heap.size w w'):∀ {d:Nat} {v:Value} {es:List E7},RE w d v es→RE w' d v es
 |0,_,_,h=>h.elim
 |d+1,v,es,h=>by
  obtain⟨a,c,rfl,hl,hc,h⟩:=h;refine⟨a,c,rfl,hl,hc,fun hne=>?_⟩;obtain⟨b,o,rfl,hlt,hL⟩:=h hne;refine⟨b,o,rfl,Nat.lt_of_lt_of_le hlt hb.size,fun i e he=>?_⟩;obtain⟨hw,hc,u,hu,hk⟩:=hL i e he;exact⟨hw,hc.keep (hb.block b hlt),u,(cb8 (hb.block b hlt)).trans hu,RE.below hb hk⟩
theorem RE.up {w:World}:∀ {d d':Nat} {v:Value} {es:List E7},RE w d v es→d≤d'→RE w d' v es
 |0,_,_,_,h,_=>h.elim
 |d+1,0,_,_,_,hd=>absurd hd (by omega)
 |d+1,d'+1,v,es,h,hd=>by
  obtain⟨a,c,rfl,hl,hc,h⟩:=h;refine⟨a,c,rfl,hl,hc,fun hne=>?_⟩;obtain⟨b,o,rfl,hlt,hL⟩:=h hne;refine⟨b,o,rfl,hlt,fun i e he=>?_⟩;obtain⟨hw,hc,u,hu,hk⟩:=hL i e he;exact⟨hw,hc,u,hu,RE.up hk (by omega)⟩
theorem RE.shape {w:World}{d:Nat}{v:Value}{es:List E7}(h:RE w d v es):∃a c,v=.slice a es.length c∧es.length≤c∧c≤maxLen:=by
 cases d with
 |zero=>exact h.elim
 |succ d=>
  obtain⟨a,c,rfl,hl,hc,_⟩:=h;exact⟨a,c,rfl,hl,hc⟩
theorem RE.kids {w:World}:∀ {d:Nat} {v:Value} {es:List E7},RE w d v es→∃F,KidsIs w d v es F
 |0,_,_,h=>h.elim
 |d+1,v,es,h=>by
  obtain⟨a,c,rfl,hl,hc,h⟩:=h;by_cases hne:es=[]
  ·subst hne;exact⟨[],a,c,[],rfl,hl,hc,rfl,fun _=>rfl,fun h=>absurd rfl h⟩
  obtain⟨b,o,rfl,hlt,hL⟩:=h hne;have each:∀i,i<es.length→∃g:List Nat,∀e,es[i]?=some e→e.wf∧cellsE w b (o+i*7) e∧∃u,w.cell? ⟨b,o+i*7+6,none⟩=some u∧KidsIs w d u e.ks g:=by
   intro i hi;obtain⟨hw,hc,u,hu,hk⟩:=hL i es[i] (by simp);obtain⟨g,hg⟩:=RE.kids hk;refine⟨g,fun e he=>?_⟩;obtain rfl:es[i]=e:=by simpa [hi]using he
   exact⟨hw,hc,u,hu,hg⟩
  obtain⟨q,hq⟩:=choose_lt each;refine⟨b::((List.range es.length).map q).flatten,some ⟨b,o,none⟩,c,(List.range es.length).map q,rfl,hl,hc,by simp,fun h=>absurd h hne,fun _=>⟨b,o,rfl,hlt,rfl,fun i e g he hg=>?_⟩⟩;have hi:i<es.length:=(gE1 he).1;obtain rfl:q i=g:=by simpa [hi]using hg
  exact hq i hi e he
def ClOf (w:World)(N:Nat)(v u:Value)(n:Nat):Prop:=
 (n=0∧∃a c,u=.slice a 0 c∧c≤maxLen)∨∃b o c g cap,v=.slice (some ⟨b,o,none⟩) n c∧u=.slice (some ⟨g,0,none⟩) n cap∧N≤g∧g<w.heap.size∧n≤cap∧cap≤maxLen∧(∀q,w.frozen? ⟨g,q,none⟩=false)∧∀j,j<n*7→w.cell? ⟨g,j,none⟩=w.cell? ⟨b,o+j,none⟩
theorem ClOf.re {w:World}{N n:Nat}{v u:Value}(h:ClOf w N v u n):∀d ks,ks.length=n→RE w d v ks→RE w d u ks:=by
 intro d ks hn hr;cases d with
 |zero=>exact hr.elim
 |succ d=>
  obtain⟨a,c,rfl,hl,hc,hr⟩:=hr;rcases h with⟨h0,a',c',rfl,hc'⟩|⟨b,o,c',g,cap,hv,rfl,_,hg,hcap,hm,_,hcell⟩
  ·obtain rfl:ks=[]:=List.length_eq_zero_iff.1 (by omega);exact⟨a',c',rfl,Nat.zero_le _,hc',fun h=>absurd rfl h⟩
  ·refine⟨some ⟨g,0,none⟩,cap,by rw[hn],by omega,hm,fun hne=>⟨g,0,rfl,hg,fun i e he=>?_⟩⟩;obtain⟨b',o',ea,hlt,hL⟩:=hr hne;have hi:i<ks.length:=(gE1 he).1;injection hv with ha;rw[ea]at ha;injection ha with ha;injection ha with hb ho;subst hb ho;obtain⟨hw,⟨e0,e1,e2,e3,e4,e5⟩,x,e6,hk⟩:=hL i e he;have cell:∀r,r<7→w.cell? ⟨g,0+i*7+r,none⟩=w.cell? ⟨b',o'+i*7+r,none⟩:=by
    intro r hr;have:=hcell (i*7+r) (by omega);rw[Nat.zero_add,this,Nat.add_assoc]
   exact⟨hw,⟨(cell 0 (by omega)).trans e0,(cell 1 (by omega)).trans e1,(cell 2 (by omega)).trans e2,(cell 3 (by omega)).trans e3,(cell 4 (by omega)).trans e4,(cell 5 (by omega)).trans e5⟩,x,(cell 6 (by omega)).trans e6,hk⟩
end
section
open Go.RowKit Go.Deep Go.ChangeShapes Go.WideShapes
theorem cloneR_any (d:Nat)(v:Value)(es:List E7)(w:World)(h:RE w (d+1) v es)(hn:es.length≤2097152):Calls Tryz.prog 171 #[v] w fun e w'=>(∃u,e=.returned u∧ClOf w' w.heap.size v u es.length)∧Below w.heap.size w w':=by
 obtain⟨F,hr⟩:=h.kids;obtain⟨i0,hi,hz0,hz1,hz2⟩:=info_parts Tryz.infoExp;obtain⟨a,c,b,o,G,rfl,hl,hc,hG,_,ha⟩:=hr.pick;clear hr h;have hnil:∀ (w:World) (a:Option Addr) (n c n' c':Nat),(binOp .eql 37 (.slice a n c) (.slice none n' c')).run Tryz.prog w=.ok (.bool a.isNone) w:=fun w a n c n' c'=>Lib.run_eql_slice_nil w _ _ a n c n' c' Tryz.underlying37;have he:=(ExpOwn.empty w d).own;have hb0:Below w.heap.size w (w.alloc (.cells #[] 39)):=(Below.refl _ _).alloc (Nat.le_refl _) _;cases a with
 |none=>
  obtain rfl:es=[]:=by
   cases es with
   |nil=>rfl
   |cons x xs=>have:=(ha 0 (by simp)).1;cases this
  exact(cloneE_nil c w).mono fun e w' ⟨he,hw⟩=>⟨⟨.slice none 0 0,he,.inl ⟨rfl,none,0,rfl,Nat.zero_le _⟩⟩,hw▸Below.refl _ _⟩
 |some ad=>
  have hfl:∃us:List Value,us.length=es.length∧(∀u∈us,u.oneCell'=true)∧(∀j u,(ec us es)[j]?=some u→(w.alloc (.cells #[] 39)).cell? (ad.add j)=some u)∧(es≠ []→ad=⟨b,o,none⟩∧b<w.heap.size∧∀j u,(ec us es)[j]?=some u→w.cell? ⟨b,o+j,none⟩=some u):=by
   by_cases hne:es=[]
   ·subst hne;exact⟨[],rfl,by simp,fun j u hu=>by simp[ec]at hu,fun h=>absurd rfl h⟩
   ·obtain⟨hb,hlt,_,hL⟩:=ha 0 (List.length_pos_iff.2 hne);cases hb;obtain⟨us,h1,h2,h3,h4⟩:=KidsIs.flat hG hL;have h5:∀j u,(ec us es)[j]?=some u→w.cell? ⟨b,o+j,none⟩=some u:=fun j u hu=>by have:=h4 j u hu;rwa [add_plain]at this
    exact⟨us,h1,h3,fun j u hu=>by rw[add_plain];exact(cb8 (bA8 _ _ _ hlt)).trans (h5 j u hu),fun _=>⟨rfl,hlt,h5⟩⟩
  obtain⟨us,hul,hone,hcl,hold⟩:=hfl;go_enter Tryz.func171,Tryz.ntmps171;go_wp2_with(at_builtin;refine wpList_append_own _ rfl _ _ 37 rfl w.heap.size 39 i0 _ 7 88 Tryz.underlying37 hi hz0 hz1 hz2 rfl (by decide) _ _ _ rfl he ad es.length c (ec us es) rfl (ec_len hul) hcl (ec_one hone) ?c3 ?c4 ?c5 ?_)
  case c3=>unfold maxLen;simp;omega
  case c4=>simp;omega
  case c5=>simp
  intro v5 w5 hown5 hgr5 _;have hown6:w5.ownsRow w.heap.size 39 7 v5 es.length (ec us es):=by simpa [ec]using hown5
  have bel:Below w.heap.size w w5:=hb0.grown hgr5 (by simp) (fun k hk=>by simp[Value.ownBlock]at hk;omega);have hcl5:ClOf w5 w.heap.size (.slice (some ad) es.length c) v5 es.length:=by
   have hlt5:=ownsE_lt hown6;rcases hown6.2 with⟨rfl,h0⟩|⟨g,cap,cur,rfl,hg,hcc,hn',hm,hsz,ht⟩
   ·exact .inl ⟨h0,none,0,rfl,Nat.zero_le _⟩
   ·by_cases hne:es=[]
    ·left;subst hne;exact⟨rfl,_,cap,rfl,hm⟩
    ·right;obtain⟨rfl,hbl,hcell⟩:=hold hne;refine⟨b,o,c,g,cap,rfl,rfl,hg,(hlt5 g rfl).2,hn',hm,fun q=>by simp[World.frozen?,hcc],fun j hj=>?_⟩;have hj':j<(ec us es).length:=by rw[ec_len hul];exact hj
     obtain⟨x,h1⟩:∃x,(ec us es)[j]?=some x:=⟨(ec us es)[j],by simp[hj']⟩;rw[(cb8 (bel.block b hbl)).trans (hcell j _ h1)];simp only[World.cell?,hcc];rw[←ht,List.getElem?_take,if_pos hj,Array.getElem?_toList]at h1
     simpa using h1
  clear hown5 hgr5 hcl he hown6 hold ha;go_wp2;refine bodyPost_ret (v:=v5) (by simp[results,Tryz.results171,go_sem]) rfl ⟨⟨v5,rfl,hcl5⟩,bel⟩
end
end Go.Proofs.YtflokiejcjjbiaaGreat
