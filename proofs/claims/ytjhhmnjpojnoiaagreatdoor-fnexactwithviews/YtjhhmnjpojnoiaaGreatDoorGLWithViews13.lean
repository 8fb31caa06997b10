/- Own texts, joined: contracts that the law's proof goes by. -/
import Derived.Test.YtjhhmnjpojnoiaaGreatDoorGLWithViews1
import Derived.Test.YtjhhmnjpojnoiaaGreatDoorGLWithViews8
import Derived.Laws.AppendOwnNone
import Derived.Maps.AppendAt
import Derived.Handy
import Derived.Deep.AppendLies
import Derived.Lib.SliceRun
import Derived.Lib.SlicesCompact
import Derived.Test.YtjhhmnjpojnoiaaGreatDoorGLWithViews2
import Derived.Below
import Derived.LaidEql
import Derived.WideKeyRuns
import Derived.MapKept
import Derived.Carry
set_option maxHeartbeats 16000000
set_option maxRecDepth 100000
set_option linter.unusedVariables false
set_option linter.unusedSimpArgs false
namespace Go.Proofs.YtjhhmnjpojnoiaaGreatDoor
section
section
open Go.RowKit Go.Deep Go.ChangeShapes Go.WideShapes
def c7 (u:Value)(e:E7):List Value:=[.int .i64 e.k,.int .i64 e.n,.int .i64 e.v.k,.int .i64 e.v.n,.string e.v.s,.string e.p,u]
def ec (us:List Value)(es:List E7):List Value:=(us.zip es).flatMap fun p=>c7 p.1 p.2
theorem ec_push {us:List Value}{es:List E7}(h:us.length=es.length)(u:Value)(e:E7):ec (us++ [u]) (es++ [e])=ec us es++c7 u e:=by
 unfold ec;rw[List.zip_append h,List.flatMap_append];simp
theorem ec_at {us:List Value}{es:List E7}(h:us.length=es.length):∀ {i:Nat} {u:Value} {e:E7},us[i]?=some u→es[i]?=some e→∀j,j<7→(ec us es)[i*7+j]?=(c7 u e)[j]?:=by
 induction us generalizing es with
 |nil=>intro i u x hu;simp at hu
 |cons v us ih=>
  cases es with
  |nil=>simp at h
  |cons c es=>
   intro i u x hu hx j hj;have e:ec (v::us) (c::es)=c7 v c++ec us es:=by unfold ec;rw[List.zip_cons_cons,List.flatMap_cons]
   rw[e];have hl:(c7 v c).length=7:=rfl;cases i with
   |zero=>simp at hu hx;subst hu hx;rw[List.getElem?_append_left (by omega)];simp
   |succ i=>
    have:=ih (es:=es) (by simpa using h) (i:=i) (u:=u) (e:=x) (by simpa using hu) (by simpa using hx) j hj;rw[List.getElem?_append_right (by omega),show(i+1)*7+j - (c7 v c).length=i*7+j from by omega];exact this
structure ExpOwn (w:World)(N d:Nat)(v:Value)(es:List E7)(us:List Value)(G:List (List Nat)):Prop where
 own:w.ownsRow N 63 7 v es.length (ec us es)
 ul:us.length=es.length
 gl:G.length=es.length
 wf:∀e∈es,e.wf
 kid:∀ (i:Nat) (e:E7) (u:Value) (g:List Nat),es[i]?=some e→us[i]?=some u→G[i]?=some g→KidsIs w d u e.ks g
 free:Own w N G.flatten
 out:∀b,v.ownBlock=some b→b∉G.flatten
theorem ExpOwn.nil (w:World)(N d:Nat):ExpOwn w N d (.slice none 0 0) [] [] []:=
 ⟨⟨rfl,.inl ⟨rfl,rfl⟩⟩,rfl,rfl,by simp,fun i x u g hx=>by simp at hx,by simp[Own,OwnN],fun b _=>by simp⟩
theorem ownsE_lt {w:World}{N e n s:Nat}{v:Value}{xs:List Value}(h:w.ownsRow N e s v n xs):∀b,v.ownBlock=some b→N≤b∧b<w.heap.size:=by
 intro b hb;rcases h.2 with⟨rfl,_⟩|⟨g,cap,cur,rfl,hg,hc,_⟩
 ·simp[Value.ownBlock]at hb
 ·simp[Value.ownBlock]at hb;subst hb;refine⟨hg,?_⟩;rcases Nat.lt_or_ge g w.heap.size with h'|h'
  ·exact h'
  ·simp[Array.getElem?_eq_none h']at hc
theorem ownsE_keep {w w':World}{N e n s:Nat}{v:Value}{xs:List Value}(h:w.ownsRow N e s v n xs)(hb:∀b,v.ownBlock=some b→w'.heap[b]?=w.heap[b]?):w'.ownsRow N e s v n xs:=by
 refine⟨h.1,?_⟩;rcases h.2 with hn|⟨g,cap,cur,rfl,hg,hc,rest⟩
 ·exact .inl hn
 ·exact .inr ⟨g,cap,cur,rfl,hg,(hb g rfl).trans hc,rest⟩
theorem ExpOwn.empty (w:World)(d:Nat):ExpOwn (w.alloc (.cells #[] 63)) w.heap.size d (.slice (some ⟨w.heap.size,0,none⟩) 0 0) [] [] []:=
 ⟨⟨by simp[ec],.inr ⟨w.heap.size,0,#[],rfl,Nat.le_refl _,heap_alloc_new w _,Nat.le_refl _,by simp,by simp,by simp[ec]⟩⟩,rfl,rfl,by simp,fun i x u g hx=>by simp at hx,by simp[Own,OwnN],fun b _=>by simp⟩
theorem ExpOwn.empty' {w:World}{N:Nat}(hN:N=w.heap.size)(d:Nat):ExpOwn (w.alloc (.cells #[] 63)) N d (.slice (some ⟨N,0,none⟩) 0 0) [] [] []:=by subst hN;exact ExpOwn.empty w d
section
variable {w w':World} {N d:Nat} {v:Value} {es:List E7} {us:List Value} {G:List (List Nat)}
theorem ExpOwn.lt (h:ExpOwn w N d v es us G):∀b∈G.flatten,b<w.heap.size:=by
 intro b hb;obtain⟨g,hg,hbg⟩:=List.mem_flatten.1 hb;obtain⟨i,hi,rfl⟩:=List.mem_iff_getElem.1 hg;have h1:=h.gl;have h2:=h.ul;have hi1:i<es.length:=by omega
 have hi2:i<us.length:=by omega
 exact(h.kid i es[i] us[i] G[i] (by simp) (by simp) (by simp)).lt b hbg
theorem ExpOwn.keep (h:ExpOwn w N d v es us G)(hs:w.heap.size≤w'.heap.size)(hb:∀b,N≤b→b<w.heap.size→w'.heap[b]?=w.heap[b]?):ExpOwn w' N d v es us G:=by
 have hk:∀b∈G.flatten,w'.heap[b]?=w.heap[b]?:=fun b hbG=>hb b (h.free.2 b hbG).1 (h.lt b hbG);refine⟨ownsE_keep h.own fun b hv=>hb b (ownsE_lt h.own b hv).1 (ownsE_lt h.own b hv).2,h.ul,h.gl,h.wf,fun i x u g hx hu hg=>(h.kid i x u g hx hu hg).keep hs fun b hbg=>hk b (List.mem_flatten.2 ⟨g,mg8 hg,hbg⟩),h.free.keep hk,h.out⟩
theorem ExpOwn.below (h:ExpOwn w N d v es us G)(hb:Below w.heap.size w w'):ExpOwn w' N d v es us G:=h.keep hb.size fun b _ hlt=>hb.block b hlt
theorem ExpOwn.push {v' u:Value}{e:E7}{g:List Nat}(h:ExpOwn w N d v es us G)(hw:e.wf)(hK:KidsIs w d u e.ks g)(hO:Own w N g)(hd1:∀b∈G.flatten,b∉g)(hd2:∀b,v.ownBlock=some b→b∉g)(ho:w'.ownsRow N 63 7 v' (es.length+1) (ec us es++c7 u e)) (hg:w.grownBy w' v.ownBlock) (hat:∀b,v'.ownBlock=some b→v.ownBlock=some b∨w.heap.size≤b):ExpOwn w' N d v' (es++ [e]) (us++ [u]) (G++ [g]):=by
 have hG:=h.lt;have hm:∀b∈(G++ [g]).flatten,b∈G.flatten∨b∈g:=by intro b hb;simpa using hb
 have hlt:∀b∈(G++ [g]).flatten,b<w.heap.size:=fun b hb=>(hm b hb).elim (hG b) (hK.lt b);have hne:∀b∈(G++ [g]).flatten,some b≠v.ownBlock:=fun b hb e=>(hm b hb).elim (h.out b e.symm) (hd2 b e.symm);have hk:∀b∈(G++ [g]).flatten,w'.heap[b]?=w.heap[b]?:=fun b hb=>hg.block b (hlt b hb) (hne b hb);refine⟨?_,by simp[h.ul],by simp[h.gl],fun y hy=>?_,fun i y z q hy hz hq=>?_,?_,fun b hb=>?_⟩
 ·rw[ec_push h.ul];simpa using ho
 ·rcases List.mem_append.1 hy with hy|hy
  ·exact h.wf y hy
  ·rcases List.mem_singleton.1 hy with rfl;exact hw
 ·by_cases hi:i<es.length
  ·rw[List.getElem?_append_left hi]at hy;rw[List.getElem?_append_left (by rw[h.ul];exact hi)]at hz;rw[List.getElem?_append_left (by rw[h.gl];exact hi)]at hq;exact(h.kid i y z q hy hz hq).keep hg.size fun b hb=>hk b (by simp;exact .inl ⟨q,mg8 hq,hb⟩)
  ·have hl:i<(es++ [e]).length:=(gE1 hy).1;obtain rfl:i=es.length:=by simp at hl;omega
   rw[List.getElem?_append_right (Nat.le_refl _)]at hy;rw[List.getElem?_append_right (by rw[h.ul];exact Nat.le_refl _)]at hz;rw[List.getElem?_append_right (by rw[h.gl];exact Nat.le_refl _)]at hq;simp[h.ul,h.gl]at hy hz hq;subst hy hz hq;exact hK.keep hg.size fun b hb=>hk b (by simp;exact .inr hb)
 ·refine Own.keep (w:=w) ⟨?_,fun b hb=>(hm b hb).elim (h.free.2 b) (hO.2 b)⟩ hk;rw[List.flatten_append,List.nodup_append];refine⟨h.free.1,by simpa using hO.1,fun a ha b hb=>?_⟩;rintro rfl;exact hd1 a ha (by simpa using hb)
 ·intro hx;rcases hat b hb with e|e
  ·exact hne b hx e.symm
  ·have:=hlt b hx;omega
theorem ExpOwn.shape (h:ExpOwn w N d v es us G):∃a c,v=.slice a es.length c:=by
 rcases h.own.2 with⟨rfl,h0⟩|⟨g,cap,cur,hv,_⟩
 ·exact⟨none,0,by rw[h0]⟩
 ·exact⟨_,cap,hv⟩
theorem ExpOwn.kids (h:ExpOwn w N d v es us G):∃F,KidsIs w (d+1) v es F∧Own w N F:=by
 have hlt:=ownsE_lt h.own;by_cases hne:es=[]
 ·refine⟨[],?_,by simp[Own,OwnN]⟩;have hgl:=h.gl;subst hne;rcases h.own.2 with⟨rfl,_⟩|⟨g,cap,cur,rfl,_,_,hn,hm,_⟩
  ·exact⟨none,0,G,rfl,Nat.le_refl _,by simp,hgl,fun _=>rfl,fun x=>absurd rfl x⟩
  ·exact⟨_,cap,G,rfl,hn,hm,hgl,fun _=>rfl,fun x=>absurd rfl x⟩
 have hp:0<es.length:=List.length_pos_iff.2 hne;obtain⟨hl,ho⟩:=h.own;rcases ho with⟨_,h0⟩|⟨g,cap,cur,rfl,hg,hc,hn,hm,hs,ht⟩
 ·omega
 have hgo:g∉G.flatten:=h.out g rfl;refine⟨g::G.flatten,⟨_,cap,G,rfl,hn,hm,h.gl,fun x=>absurd x hne,fun _=>⟨g,0,rfl,(hlt g rfl).2,rfl,fun i x q hx hq=>?_⟩⟩,List.nodup_cons.2 ⟨hgo,h.free.1⟩,fun b hb=>?_⟩
 ·have hi:i<es.length:=(gE1 hx).1;have hiu:i<us.length:=by rw[h.ul];exact hi
  have hat:=ec_at h.ul (i:=i) (u:=us[i]) (e:=x) (by simp) hx;have get:∀j u,j<7→(c7 us[i] x)[j]?=some u→w.cell? ⟨g,i*7+j,none⟩=some u:=by
   intro j u hj hu;have hu:=(hat j hj).trans hu;simp only[World.cell?,hc];rw[←ht,List.getElem?_take,if_pos (by omega),Array.getElem?_toList]at hu
   simpa using hu
  rw[Nat.zero_add];exact⟨h.wf x (mg8 hx),⟨get 0 _ (by omega) rfl,get 1 _ (by omega) rfl,get 2 _ (by omega) rfl,get 3 _ (by omega) rfl,get 4 _ (by omega) rfl,get 5 _ (by omega) rfl⟩,us[i],get 6 _ (by omega) rfl,h.kid i x us[i] q hx (by simp) hq⟩
 ·rcases List.mem_cons.1 hb with rfl|hb
  ·exact⟨hg,fun o=>by simp[World.frozen?,hc]⟩
  ·exact h.free.2 b hb
end
end
section
open Go.RowKit Go.Deep Go.ChangeShapes Go.WideShapes
theorem ec_len {us:List Value}{es:List E7}(h:us.length=es.length):(ec us es).length=es.length*7:=by
 unfold ec;induction us generalizing es with
 |nil=>cases es with|nil=>rfl|cons=>simp at h
 |cons u us ih=>
  cases es with
  |nil=>simp at h
  |cons c es=>
   have:=ih (es:=es) (by simpa using h);rw[List.zip_cons_cons,List.flatMap_cons,List.length_append,this];simp[c7];omega
theorem ec_one {us:List Value}{es:List E7}(h:∀u∈us,u.oneCell'=true):∀u∈ec us es,u.oneCell'=true:=by
 intro u hu;unfold ec at hu;obtain⟨p,hp,hup⟩:=List.mem_flatMap.1 hu;have h1:=h p.1 (List.of_mem_zip hp).1;simp only[c7,List.mem_cons,List.not_mem_nil,or_false]at hup;rcases hup with rfl|rfl|rfl|rfl|rfl|rfl|rfl<;>first|rfl|exact h1
theorem KidsIs.flat {w:World}{d b o:Nat}{es:List E7}{G:List (List Nat)}(hG:G.length=es.length)(hL:ELies w d b o es G):∃us:List Value,us.length=es.length∧(∀ (i:Nat) (e:E7) (u:Value) (g:List Nat),es[i]?=some e→us[i]?=some u→G[i]?=some g→e.wf∧KidsIs w d u e.ks g)∧(∀u∈us,u.oneCell'=true)∧∀j u,(ec us es)[j]?=some u→w.cell? ((⟨b,o,none⟩:Addr).add j)=some u:=by
 have each:∀i,i<es.length→∃u:Value,∀ (e:E7) (g:List Nat),es[i]?=some e→G[i]?=some g→e.wf∧cellsE w b (o+i*7) e∧w.cell? ⟨b,o+i*7+6,none⟩=some u∧KidsIs w d u e.ks g:=by
  intro i hi;have hi':i<G.length:=by omega
  obtain⟨hw,hc,u,hu,hk⟩:=hL i es[i] G[i] (by simp) (by simp);refine⟨u,fun e g he hg=>?_⟩;obtain rfl:es[i]=e:=by simpa [hi]using he
  obtain rfl:G[i]=g:=by simpa [hi']using hg
  exact⟨hw,hc,hu,hk⟩
 have:Inhabited Value:=⟨.slice none 0 0⟩;obtain⟨q,hq⟩:=choose_lt each;have hul:((List.range es.length).map q).length=es.length:=by simp
 refine⟨(List.range es.length).map q,hul,fun i e u g he hu hg=>?_,fun u hu=>?_,fun j u hu=>?_⟩
 ·have hi:i<es.length:=(gE1 he).1;obtain rfl:q i=u:=by simpa [hi]using hu
  obtain⟨hw,_,_,hk⟩:=hq i hi e g he hg;exact⟨hw,hk⟩
 ·obtain⟨i,hi,rfl⟩:=List.mem_map.1 hu;have hi:=List.mem_range.1 hi;have hi':i<G.length:=by omega
  obtain⟨_,_,_,hk⟩:=hq i hi es[i] G[i] (by simp) (by simp);obtain⟨a,c,e,_⟩:=hk.shape;rw[e];rfl
 ·have hj:j<es.length*7:=by have:=(gE1 hu).1;rwa [ec_len hul]at this
  have hi:j/7<es.length:=by omega
  have hi':j/7<G.length:=by omega
  obtain⟨_,⟨c0,c1,c2,c3,c4,c5⟩,c6,_⟩:=hq (j/7) hi es[j/7] G[j/7] (by simp) (by simp);have hat:=ec_at hul (i:=j/7) (u:=q (j/7)) (e:=es[j/7]) (by simp[hi]) (by simp) (j %7) (by omega);rw[show j/7*7+j %7=j from by omega,hu]at hat;rw[add_plain];have hr:j %7=0∨j %7=1∨j %7=2∨j %7=3∨j %7=4∨j %7=5∨j %7=6:=by omega
  rcases hr with e|e|e|e|e|e|e<;>rw[e]at hat<;>simp only[c7,List.getElem?_cons_zero,List.getElem?_cons_succ,Option.some.injEq]at hat<;>subst hat
  ·rw[show o+j=o+j/7*7 from by omega];exact c0
  ·rw[show o+j=o+j/7*7+1 from by omega];exact c1
  ·rw[show o+j=o+j/7*7+2 from by omega];exact c2
  ·rw[show o+j=o+j/7*7+3 from by omega];exact c3
  ·rw[show o+j=o+j/7*7+4 from by omega];exact c4
  ·rw[show o+j=o+j/7*7+5 from by omega];exact c5
  ·rw[show o+j=o+j/7*7+6 from by omega];exact c6
theorem cloneE_nil (c:Nat)(w:World):Calls Tryz.prog 157 #[.slice none 0 c] w fun e w'=>e=.returned (.slice none 0 0)∧w'=w:=by
 have hnil:∀ (w:World) (a:Option Addr) (n c n' c':Nat),(binOp .eql 61 (.slice a n c) (.slice none n' c')).run Tryz.prog w=.ok (.bool a.isNone) w:=fun w a n c n' c'=>Lib.run_eql_slice_nil w _ _ a n c n' c' Tryz.underlying61;go_enter Tryz.func157,Tryz.ntmps157;go_wp2;go_returns
 first|done|exact⟨rfl,rfl⟩|rfl
end
section
open Go.RowKit Go.Deep
def RE (w:World):Nat→Value→List E7→Prop
 |0,_,_=>False
 |d+1,v,es=> ∃ (a:Option Addr) (c:Nat),v=.slice a es.length c∧es.length≤c∧c≤maxLen∧
   (es≠ []→∃b o,a=some ⟨b,o,none⟩∧b<w.heap.size∧ ∀i e,es[i]?=some e→e.wf∧cellsE w b (o+i*7) e∧∃u,w.cell? ⟨b,o+i*7+6,none⟩=some u∧RE w d u e.ks)
theorem KidsIs.re {w:World}:∀ {d:Nat} {v:Value} {es:List E7} {F:List Nat},KidsIs w d v es F→RE w d v es
 |0,_,_,_,h=>h.elim
 |d+1,v,es,F,h=>by
  obtain⟨a,c,G,rfl,hl,hc,hG,h0,h⟩:=h;refine⟨a,c,rfl,hl,hc,fun hne=>?_⟩;obtain⟨b,o,rfl,hlt,rfl,hL⟩:=h hne;refine⟨b,o,rfl,hlt,fun i e he=>?_⟩;have hi:i<G.length:=by have:=(gE1 he).1;omega
  obtain⟨hw,hc,u,hu,hk⟩:=hL i e G[i] he (by simp);exact⟨hw,hc,u,hu,hk.re⟩
theorem RE.below {w w':World}(hb:Below w.heap.size w w'):∀ {d:Nat} {v:Value} {es:List E7},RE w d v es→RE w' d v es
 |0,_,_,h=>h.elim
 |d+1,v,es,h=>by
  obtain⟨a,c,rfl,hl,hc,h⟩:=h;refine⟨a,c,rfl,hl,hc,fun hne=>?_⟩;obtain⟨b,o,rfl,hlt,hL⟩:=h hne;refine⟨b,o,rfl,Nat.lt_of_lt_of_le hlt hb.size,fun i e he=>?_⟩;obtain⟨hw,hc,u,hu,hk⟩:=hL i e he;exact⟨hw,hc.keep (hb.block b hlt),u,(cb8 (hb.block b hlt)).trans hu,RE.below hb hk⟩
theorem RE.up {w:World}:∀ {d d':Nat} {v:Value} {es:List E7},RE w d v es→d≤d'→RE w d' v es
 |0,_,_,_,h,_=>h.elim
 |d+1,0,_,_,_,hd=>absurd hd (by omega)
 |d+1,d'+1,v,es,h,hd=>by
  obtain⟨a,c,rfl,hl,hc,h⟩:=h;refine⟨a,c,rfl,hl,hc,fun hne=>?_⟩;obtain⟨b,o,rfl,hlt,hL⟩:=h hne;refine⟨b,o,rfl,hlt,fun i e he=>?_⟩;obtain⟨hw,hc,u,hu,hk⟩:=hL i e he;exact⟨hw,hc,u,hu,RE.up hk (by omega)⟩
theorem RE.shape {w:World}{d:Nat}{v:Value}{es:List E7}(h:RE w d v es):∃a c,v=.slice a es.length c∧es.length≤c∧c≤maxLen:=by
 cases d with
 |zero=>exact h.elim
 |succ d=>
  obtain⟨a,c,rfl,hl,hc,_⟩:=h;exact⟨a,c,rfl,hl,hc⟩
theorem RE.kids {w:World}:∀ {d:Nat} {v:Value} {es:List E7},RE w d v es→∃F,KidsIs w d v es F
 |0,_,_,h=>h.elim
 |d+1,v,es,h=>by
  obtain⟨a,c,rfl,hl,hc,h⟩:=h;by_cases hne:es=[]
  ·subst hne;exact⟨[],a,c,[],rfl,hl,hc,rfl,fun _=>rfl,fun h=>absurd rfl h⟩
  obtain⟨b,o,rfl,hlt,hL⟩:=h hne;have each:∀i,i<es.length→∃g:List Nat,∀e,es[i]?=some e→e.wf∧cellsE w b (o+i*7) e∧∃u,w.cell? ⟨b,o+i*7+6,none⟩=some u∧KidsIs w d u e.ks g:=by
   intro i hi;obtain⟨hw,hc,u,hu,hk⟩:=hL i es[i] (by simp);obtain⟨g,hg⟩:=RE.kids hk;refine⟨g,fun e he=>?_⟩;obtain rfl:es[i]=e:=by simpa [hi]using he
   exact⟨hw,hc,u,hu,hg⟩
  obtain⟨q,hq⟩:=choose_lt each;refine⟨b::((List.range es.length).map q).flatten,some ⟨b,o,none⟩,c,(List.range es.length).map q,rfl,hl,hc,by simp,fun h=>absurd h hne,fun _=>⟨b,o,rfl,hlt,rfl,fun i e g he hg=>?_⟩⟩;have hi:i<es.length:=(gE1 he).1;obtain rfl:q i=g:=by simpa [hi]using hg
  exact hq i hi e he
def ClOf (w:World)(N:Nat)(v u:Value)(n:Nat):Prop:=
 (n=0∧∃a c,u=.slice a 0 c∧c≤maxLen)∨∃b o c g cap,v=.slice (some ⟨b,o,none⟩) n c∧u=.slice (some ⟨g,0,none⟩) n cap∧N≤g∧g<w.heap.size∧n≤cap∧cap≤maxLen∧(∀q,w.frozen? ⟨g,q,none⟩=false)∧∀j,j<n*7→w.cell? ⟨g,j,none⟩=w.cell? ⟨b,o+j,none⟩
theorem ClOf.re {w:World}{N n:Nat}{v u:Value}(h:ClOf w N v u n):∀d ks,ks.length=n→RE w d v ks→RE w d u ks:=by
 intro d ks hn hr;cases d with
 |zero=>exact hr.elim
 |succ d=>
  obtain⟨a,c,rfl,hl,hc,hr⟩:=hr;rcases h with⟨h0,a',c',rfl,hc'⟩|⟨b,o,c',g,cap,hv,rfl,_,hg,hcap,hm,_,hcell⟩
  ·obtain rfl:ks=[]:=List.length_eq_zero_iff.1 (by omega);exact⟨a',c',rfl,Nat.zero_le _,hc',fun h=>absurd rfl h⟩
  ·refine⟨some ⟨g,0,none⟩,cap,by rw[hn],by omega,hm,fun hne=>⟨g,0,rfl,hg,fun i e he=>?_⟩⟩;obtain⟨b',o',ea,hlt,hL⟩:=hr hne;have hi:i<ks.length:=(gE1 he).1;injection hv with ha;rw[ea]at ha;injection ha with ha;injection ha with hb ho;subst hb ho;obtain⟨hw,⟨e0,e1,e2,e3,e4,e5⟩,x,e6,hk⟩:=hL i e he;have cell:∀r,r<7→w.cell? ⟨g,0+i*7+r,none⟩=w.cell? ⟨b',o'+i*7+r,none⟩:=by
    intro r hr;have:=hcell (i*7+r) (by omega);rw[Nat.zero_add,this,Nat.add_assoc]
   exact⟨hw,⟨(cell 0 (by omega)).trans e0,(cell 1 (by omega)).trans e1,(cell 2 (by omega)).trans e2,(cell 3 (by omega)).trans e3,(cell 4 (by omega)).trans e4,(cell 5 (by omega)).trans e5⟩,x,(cell 6 (by omega)).trans e6,hk⟩
end
section
open Go.RowKit Go.Deep
def upB (hang:Nat→Nat×Nat):Nat→Nat→Nat
 |0,c=>c
 |n+1,c=>upB hang n (hang c).1
def Hangs (hang:Nat→Nat×Nat)(c:Nat)(p:Nat×Nat):Prop:=∃n,hang (upB hang n c)=p
def Down (hang:Nat→Nat×Nat):Prop:=(hang 0).1=0∧∀c,0<c→(hang c).1<c
theorem upB_add (hang:Nat→Nat×Nat):∀a b c,upB hang (a+b) c=upB hang b (upB hang a c)
 |0,b,c=>by rw[Nat.zero_add];rfl
 |a+1,b,c=>by rw[Nat.add_right_comm];exact upB_add hang a b (hang c).1
theorem upB_le {hang:Nat→Nat×Nat}(h:Down hang):∀n c,upB hang n c≤c
 |0,c=>Nat.le_refl _
 |n+1,c=>by
  have h1:upB hang (n+1) c≤(hang c).1:=upB_le h n (hang c).1;rcases Nat.eq_zero_or_pos c with rfl|hc
  ·rw[h.1]at h1;exact h1
  ·have:=h.2 c hc;omega
theorem upB_lt {hang:Nat→Nat×Nat}(h:Down hang)(n:Nat){c:Nat}(hc:0<c):upB hang (n+1) c<c:=by
 have h1:upB hang (n+1) c≤(hang c).1:=upB_le h n (hang c).1;have:=h.2 c hc;omega
theorem upB_of {hang:Nat→Nat×Nat}{n c:Nat}{p:Nat×Nat}(h:hang (upB hang n c)=p):upB hang (n+1) c=p.1:=by
 rw[upB_add hang n 1 c];show(hang (upB hang n c)).1=p.1;rw[h]
theorem hangs_lt {hang:Nat→Nat×Nat}(h:Down hang){c:Nat}{p:Nat×Nat}(hc:0<c)(hp:Hangs hang c p):p.1<c:=by
 obtain⟨n,hn⟩:=hp;rw[←upB_of hn];exact upB_lt h n hc
theorem hangs_aux {hang:Nat→Nat×Nat}(h:Down hang){c n m:Nat}{p p':Nat×Nat}(hp:hang (upB hang n c)=p)(hp':hang (upB hang m c)=p')(he:p.1=p'.1)(h0:0<p.1)(hnm:n<m):False:=by
 obtain⟨t,rfl⟩:∃t,m=n+1+t:=⟨m - (n+1),by omega⟩;have h1:=upB_of hp';rw[show n+1+t+1=n+1+(t+1)from by omega,upB_add,upB_of hp]at h1;have:=upB_lt h t h0;omega
theorem hangs_one {hang:Nat→Nat×Nat}(h:Down hang){c:Nat}{p p':Nat×Nat}(hp:Hangs hang c p)(hp':Hangs hang c p')(he:p.1=p'.1)(h0:0<p.1):p=p':=by
 obtain⟨n,hn⟩:=hp;obtain⟨m,hm⟩:=hp';rcases Nat.lt_trichotomy n m with hl|rfl|hl
 ·exact(hangs_aux h hn hm he h0 hl).elim
 ·exact hn.symm.trans hm
 ·exact(hangs_aux h hm hn he.symm (by omega) hl).elim
theorem hangs_up {hang:Nat→Nat×Nat}{c b q:Nat}(h:Hangs hang c (b,q)):Hangs hang c (hang b):=by
 obtain⟨n,hn⟩:=h;exact⟨n+1,by rw[upB_of hn]⟩
def KidsU (w:World)(N:Nat)(hang:Nat→Nat×Nat):Nat→Value→List E7→Nat×Nat→Prop
 |0,_,_,_=>False
 |d+1,v,es,p=> ∃ (a:Option Addr) (c:Nat),v=.slice a es.length c∧es.length≤c∧c≤maxLen∧
   (es≠ []→∃b,a=some ⟨b,0,none⟩∧b<w.heap.size∧N≤b∧(∀q,w.frozen? ⟨b,q,none⟩=false)∧hang b=p∧ ∀i e,es[i]?=some e→e.wf∧cellsE w b (0+i*7) e∧∃u,w.cell? ⟨b,0+i*7+6,none⟩=some u∧KidsU w N hang d u e.ks (b,i*7+6))
theorem KidsU.kids {w:World}{N:Nat}{hang:Nat→Nat×Nat}(hd:Down hang)(hN:0<N):∀ {d:Nat} {v:Value} {es:List E7} {p:Nat×Nat},KidsU w N hang d v es p→∃F,KidsIs w d v es F∧Own w N F∧∀c∈F,Hangs hang c p
 |0,_,_,_,h=>h.elim
 |d+1,v,es,p,h=>by
  obtain⟨a,c,rfl,hl,hc,h⟩:=h;by_cases hne:es=[]
  ·subst hne;exact⟨[],⟨a,c,[],rfl,hl,hc,rfl,fun _=>rfl,fun h=>absurd rfl h⟩,by simp[Own,OwnN],by simp⟩
  obtain⟨b,rfl,hlt,hNb,hfr,hp,hL⟩:=h hne;have each:∀i,i<es.length→∃g:List Nat,(∀e,es[i]?=some e→e.wf∧cellsE w b (0+i*7) e∧∃u,w.cell? ⟨b,0+i*7+6,none⟩=some u∧KidsIs w d u e.ks g)∧Own w N g∧∀c∈g,Hangs hang c (b,i*7+6):=by
   intro i hi;obtain⟨hw,hc,u,hu,hk⟩:=hL i es[i] (by simp);obtain⟨g,hg,ho,hh⟩:=KidsU.kids hd hN hk;refine⟨g,fun e he=>?_,ho,hh⟩;obtain rfl:es[i]=e:=by simpa [hi]using he
   exact⟨hw,hc,u,hu,hg⟩
  obtain⟨q,hq⟩:=choose_lt each;have hmem:∀c∈((List.range es.length).map q).flatten,∃i,i<es.length∧c∈q i:=by
   intro c hc;obtain⟨g,hg,hcg⟩:=List.mem_flatten.1 hc;obtain⟨i,hi,rfl⟩:=List.mem_map.1 hg;exact⟨i,List.mem_range.1 hi,hcg⟩
  have hbig:∀i,i<es.length→∀c∈q i,b<c:=fun i hi c hc=>hangs_lt (p:=(b,i*7+6)) hd (by have:=((hq i hi).2.1.2 c hc).1;omega) ((hq i hi).2.2 c hc);refine⟨b::((List.range es.length).map q).flatten,⟨some ⟨b,0,none⟩,c,(List.range es.length).map q,rfl,hl,hc,by simp,fun h=>absurd h hne,fun _=>⟨b,0,rfl,hlt,rfl,fun i e g he hg=>?_⟩⟩,⟨?_,fun c hc=>?_⟩,fun c hc=>?_⟩
  ·have hi:i<es.length:=(gE1 he).1;obtain rfl:q i=g:=by simpa [hi]using hg
   exact(hq i hi).1 e he
  ·refine List.nodup_cons.2 ⟨fun hb=>?_,?_⟩
   ·obtain⟨i,hi,hc⟩:=hmem b hb;have:=hbig i hi b hc;omega
   ·rw[List.Nodup,List.pairwise_flatten];constructor
    ·intro g hg;obtain⟨i,hi,rfl⟩:=List.mem_map.1 hg;exact(hq i (List.mem_range.1 hi)).2.1.1
    ·rw[List.pairwise_iff_getElem];intro i j hi hj hij x hx y hy;have hi':i<es.length:=by simpa using hi
     have hj':j<es.length:=by simpa using hj
     have hx:x∈q i:=by simpa using hx
     have hy:y∈q j:=by simpa using hy
     rintro rfl;have:=hangs_one hd ((hq i hi').2.2 x hx) ((hq j hj').2.2 x hy) rfl (by show 0<b;omega);injection this with _ h;omega
  ·rcases List.mem_cons.1 hc with rfl|hc
   ·exact⟨hNb,hfr⟩
   ·obtain⟨i,hi,hci⟩:=hmem c hc;exact(hq i hi).2.1.2 c hci
  ·rcases List.mem_cons.1 hc with rfl|hc
   ·exact⟨0,hp⟩
   ·obtain⟨i,hi,hci⟩:=hmem c hc;rw[←hp];exact hangs_up ((hq i hi).2.2 c hci)
def DE:Nat→List E7→Prop
 |0,_=>False
 |d+1,es=> ∀e∈es,DE d e.ks
theorem RE.de {w:World}:∀ {d:Nat} {v:Value} {es:List E7},RE w d v es→DE d es
 |0,_,_,h=>h.elim
 |d+1,v,es,h=>by
  obtain⟨a,c,rfl,hl,hc,h⟩:=h;intro e he;obtain⟨b,o,_,_,hL⟩:=h (by rintro rfl;cases he);obtain⟨i,hi,rfl⟩:=List.mem_iff_getElem.1 he;obtain⟨_,_,u,_,hk⟩:=hL i es[i] (by simp);exact hk.de
structure Nd where
 b:Nat
 o:Nat
 e:E7
def Done (w:World)(N:Nat)(hang:Nat→Nat×Nat)(ns:List Nd)(u:Value)(ks:List E7)(p:Nat×Nat):Prop:=
 ∃ (a:Option Addr) (c:Nat),u=.slice a ks.length c∧ks.length≤c∧c≤maxLen∧(ks≠ []→∃b,a=some ⟨b,0,none⟩∧N≤b∧b<w.heap.size∧hang b=p∧∀ (t:Nat) (e:E7),ks[t]?=some e→∃m:Nat,ns[m]?=some (Nd.mk b (t*7) e))
structure NQ (w:World)(D:Nat)(hang:Nat→Nat×Nat)(P:E7→Prop)(wr:World)(i:Nat)(ns:List Nd):Prop where
 at':∀ (j:Nat) (x:Nd),ns[j]?=some x→(x.e.wf∧P x.e∧w.heap.size≤x.b∧x.b<wr.heap.size∧(∀q,wr.frozen? ⟨x.b,q,none⟩=false)∧x.o %7=0)∧cellsE wr x.b x.o x.e∧∃u,wr.cell? ⟨x.b,x.o+6,none⟩=some u∧(i≤j→RE w (D+1) u x.e.ks)∧(j<i→Done wr w.heap.size hang ns u x.e.ks (x.b,x.o+6))
 dist:∀ (j k:Nat) (x y:Nd),ns[j]?=some x→ns[k]?=some y→x.b=y.b→x.o=y.o→j=k
 dn:Down hang
def news (ks:List E7)(g:Nat):List Nd:=ks.mapIdx fun t e=>⟨g,t*7,e⟩
theorem news_len (ks:List E7)(g:Nat):(news ks g).length=ks.length:=by simp[news]
theorem news_at {ks:List E7}{g t:Nat}{e:E7}(h:ks[t]?=some e):(news ks g)[t]?=some ⟨g,t*7,e⟩:=by simp[news,h]
theorem news_of {ks:List E7}{g t:Nat}{y:Nd}(h:(news ks g)[t]?=some y):∃e,ks[t]?=some e∧y=⟨g,t*7,e⟩:=by
 have ht:t<ks.length:=by have:=(gE1 h).1;rwa [news_len]at this
 refine⟨ks[t],by simp,?_⟩;rw[news_at (e:=ks[t]) (by simp)]at h;exact(Option.some.inj h).symm
theorem Done.mono {w w':World}{N:Nat}{hang hang':Nat→Nat×Nat}{ns ms:List Nd}{u:Value}{ks:List E7}{p:Nat×Nat}(h:Done w N hang ns u ks p)(hs:w.heap.size≤w'.heap.size)(hh:∀c,c<w.heap.size→hang' c=hang c):Done w' N hang' (ns++ms) u ks p:=by
 obtain⟨a,c,hu,hl,hc,h⟩:=h;refine⟨a,c,hu,hl,hc,fun hne=>?_⟩;obtain⟨b,ha,hN,hlt,hp,hm⟩:=h hne;refine⟨b,ha,hN,Nat.lt_of_lt_of_le hlt hs,(hh b hlt).trans hp,fun t e he=>?_⟩;obtain⟨m,hm⟩:=hm t e he;exact⟨m,by rw[List.getElem?_append_left (gE1 hm).1];exact hm⟩
theorem NQ.step {w wr w3:World}{D i g:Nat}{hang:Nat→Nat×Nat}{P:E7→Prop}{ns:List Nd}{x:Nd}{u v:Value}(h:NQ w D hang P wr i ns)(hx:ns[i]?=some x)(hP:∀e,P e→∀k∈e.ks,P k)(hu:wr.cell? ⟨x.b,x.o+6,none⟩=some u)(hs:wr.heap.size≤w3.heap.size) (hN:w.heap.size≤wr.heap.size)(hcell:∀ (j:Nat) (y:Nd),ns[j]?=some y→∀q,(y.b≠x.b∨q≠x.o+6)→w3.cell? ⟨y.b,q,none⟩=wr.cell? ⟨y.b,q,none⟩)(hfr:∀ (j:Nat) (y:Nd),ns[j]?=some y→∀q,w3.frozen? ⟨y.b,q,none⟩=wr.frozen? ⟨y.b,q,none⟩)(hv:w3.cell? ⟨x.b,x.o+6,none⟩=some v) (hg:wr.heap.size≤g)(hvs:∃a c,v=.slice a x.e.ks.length c∧x.e.ks.length≤c∧c≤maxLen∧(x.e.ks≠ []→a=some ⟨g,0,none⟩))(hgl:x.e.ks≠ []→g<w3.heap.size∧(∀q,w3.frozen? ⟨g,q,none⟩=false)∧∀b o n c,u=.slice (some ⟨b,o,none⟩) n c→b<w.heap.size→∀j,j<x.e.ks.length*7→w3.cell? ⟨g,j,none⟩=w.cell? ⟨b,o+j,none⟩):NQ w D (fun c=>if c=g then(x.b,x.o+6)else hang c) P w3 (i+1) (ns++news x.e.ks g):=by
 obtain⟨⟨xw,xP,xN,xl,xf,xo⟩,xc,u',xu,xre,_⟩:=h.at' i x hx;obtain rfl:u'=u:=by rw[hu]at xu;exact(Option.some.inj xu).symm
 have hre:=xre (Nat.le_refl _);have hil:i<ns.length:=(gE1 hx).1;have hh:∀c,c<wr.heap.size→(fun c=>if c=g then(x.b,x.o+6)else hang c) c=hang c:=fun c hc=>if_neg (by omega);refine⟨fun j y hy=>?_,fun j k y z hy hz hb ho=>?_,?_,fun c hc=>?_⟩
 ·by_cases hj:j<ns.length
  ·rw[List.getElem?_append_left hj]at hy;obtain⟨⟨yw,yP,yN,yl,yf,yo⟩,⟨e0,e1,e2,e3,e4,e5⟩,uy,hy6,yre,ydn⟩:=h.at' j y hy;have far:∀r,r<6→w3.cell? ⟨y.b,y.o+r,none⟩=wr.cell? ⟨y.b,y.o+r,none⟩:=fun r hr=>hcell j y hy _ (.inr (by omega));refine⟨⟨yw,yP,yN,Nat.lt_of_lt_of_le yl hs,fun q=>(hfr j y hy q).trans (yf q),yo⟩,⟨(far 0 (by omega)).trans e0,(far 1 (by omega)).trans e1,(far 2 (by omega)).trans e2,(far 3 (by omega)).trans e3,(far 4 (by omega)).trans e4,(far 5 (by omega)).trans e5⟩,?_⟩;by_cases hji:j=i
   ·subst hji;obtain rfl:y=x:=by rw[hx]at hy;exact(Option.some.inj hy).symm
    refine⟨v,hv,fun h=>by omega,fun _=>?_⟩;obtain⟨a,c,hve,hl,hc,ha⟩:=hvs;refine⟨a,c,hve,hl,hc,fun hne=>⟨g,ha hne,by omega,(hgl hne).1,if_pos rfl,fun t e he=>⟨ns.length+t,?_⟩⟩⟩;rw[List.getElem?_append_right (by omega),Nat.add_sub_cancel_left];exact news_at he
   ·have hne:y.b≠x.b∨y.o+6≠x.o+6:=by
     by_cases hb:y.b=x.b
     ·right;intro ho;exact hji (h.dist j i y x hy hx hb (by omega))
     ·exact .inl hb
    refine⟨uy,(hcell j y hy _ hne).trans hy6,fun h=>yre (by omega),fun h=>(ydn (by omega)).mono hs hh⟩
  ·rw[List.getElem?_append_right (by omega)]at hy;obtain⟨e,he,rfl⟩:=news_of hy;have hne:x.e.ks≠ []:=by intro h0;rw[h0]at he;simp at he
   obtain⟨hgl1,hgf,hgc⟩:=hgl hne;obtain⟨a,c,rfl,hl,hc,hr⟩:=hre;obtain⟨b,o,rfl,hlt,hL⟩:=hr hne;obtain⟨hw,⟨e0,e1,e2,e3,e4,e5⟩,ut,e6,hk⟩:=hL (j -ns.length) e he;have ht:j -ns.length<x.e.ks.length:=(gE1 he).1;have cell:∀r,r<7→w3.cell? ⟨g,(j -ns.length)*7+r,none⟩=w.cell? ⟨b,o+(j -ns.length)*7+r,none⟩:=fun r hr=>by
    rw[hgc b o _ _ rfl hlt _ (by omega),Nat.add_assoc]
   exact⟨⟨hw,hP x.e xP e (mg8 he),by show w.heap.size≤g;omega,hgl1,hgf,by show(j -ns.length)*7 %7=0;omega⟩,⟨(cell 0 (by omega)).trans e0,(cell 1 (by omega)).trans e1,(cell 2 (by omega)).trans e2,(cell 3 (by omega)).trans e3,(cell 4 (by omega)).trans e4,(cell 5 (by omega)).trans e5⟩,ut,(cell 6 (by omega)).trans e6,fun _=>hk.up (by omega),fun h=>by omega⟩
 ·have old:∀j y,j<ns.length→ns[j]?=some y→y.b<wr.heap.size:=fun j y _ hy=>(h.at' j y hy).1.2.2.2.1;by_cases hj:j<ns.length
  ·rw[List.getElem?_append_left hj]at hy;by_cases hk:k<ns.length
   ·rw[List.getElem?_append_left hk]at hz;exact h.dist j k y z hy hz hb ho
   ·rw[List.getElem?_append_right (by omega)]at hz;obtain⟨e,he,rfl⟩:=news_of hz;have:=old j y hj hy;dsimp only at hb;omega
  ·rw[List.getElem?_append_right (by omega)]at hy;obtain⟨e,he,rfl⟩:=news_of hy;by_cases hk:k<ns.length
   ·rw[List.getElem?_append_left hk]at hz;have:=old k z hk hz;dsimp only at hb;omega
   ·rw[List.getElem?_append_right (by omega)]at hz;obtain⟨e',he',rfl⟩:=news_of hz;dsimp only at ho;omega
 ·by_cases h0:0=g
  ·exact absurd h0 (by omega)
  ·show(if(0:Nat)=g then(x.b,x.o+6)else hang 0).1=0;rw[if_neg h0];exact h.dn.1
 ·show(if c=g then(x.b,x.o+6)else hang c).1<c;by_cases hcg:c=g
  ·rw[if_pos hcg];show x.b<c;omega
  ·rw[if_neg hcg];exact h.dn.2 c hc
theorem NQ.kids {w wr:World}{D:Nat}{hang:Nat→Nat×Nat}{P:E7→Prop}{ns:List Nd}(h:NQ w D hang P wr ns.length ns):∀ {d j:Nat} {x:Nd} {u:Value},ns[j]?=some x→DE d x.e.ks→wr.cell? ⟨x.b,x.o+6,none⟩=some u→KidsU wr w.heap.size hang d u x.e.ks (x.b,x.o+6)
 |0,_,_,_,_,hd,_=>hd.elim
 |d+1,j,x,u,hx,hd,hu=>by
  have hj:j<ns.length:=(gE1 hx).1;obtain⟨_,_,u',hu',_,hdn⟩:=h.at' j x hx;obtain rfl:u'=u:=by rw[hu]at hu';exact(Option.some.inj hu').symm
  obtain⟨a,c,he,hl,hc,hk⟩:=hdn hj;refine⟨a,c,he,hl,hc,fun hne=>?_⟩;obtain⟨b,ha,hN,hlt,hp,hm⟩:=hk hne;have h0:0<x.e.ks.length:=List.length_pos_iff.2 hne;obtain⟨m0,hm0⟩:=hm 0 x.e.ks[0] (by simp);refine⟨b,ha,hlt,hN,(h.at' m0 _ hm0).1.2.2.2.2.1,hp,fun i e he=>?_⟩;obtain⟨m,hm⟩:=hm i e he;obtain⟨⟨ew,_⟩,ec,ue,hue,_⟩:=h.at' m _ hm;rw[Nat.zero_add];exact⟨ew,ec,ue,hue,NQ.kids h hm (hd e (mg8 he)) hue⟩
def rem (i:Nat)(ns:List Nd):Nat:=((ns.drop i).map fun x=>1+wtE x.e).sum
theorem rem_pos {i:Nat}{ns:List Nd}{x:Nd}(h:ns[i]?=some x):rem i ns=1+wtE x.e+rem (i+1) ns:=by
 obtain⟨hi,rfl⟩:=gE1 h;unfold rem;rw[List.drop_eq_getElem_cons hi];simp only[List.map_cons,List.sum_cons]
theorem sum_news (ks:List E7)(g:Nat):((news ks g).map fun x=>1+wtE x.e).sum=ks.length+wtEs ks:=by
 have e:(news ks g).map (fun x=>1+wtE x.e)=ks.map (fun e=>1+wtE e):=by
  apply List.ext_getElem?;intro i;simp[news];cases ks[i]?<;>rfl
 rw[e,←wtEs_sum];clear e;induction ks with
 |nil=>rfl
 |cons x xs ih=>simp only[List.map_cons,List.sum_cons,List.length_cons]at ih⊢;omega
theorem rem_step {i:Nat}{ns:List Nd}{x:Nd}(g:Nat)(h:ns[i]?=some x):rem (i+1) (ns++news x.e.ks g)+1≤rem i ns:=by
 have hi:i<ns.length:=(gE1 h).1;rw[rem_pos h];have e:rem (i+1) (ns++news x.e.ks g)=rem (i+1) ns+(x.e.ks.length+wtEs x.e.ks):=by
  unfold rem;rw[List.drop_append_of_le_length (by omega),List.map_append,List.sum_append,sum_news]
 have:=wtE_eq x.e;omega
theorem rem_len (i:Nat)(ns:List Nd):ns.length -i≤rem i ns:=by
 unfold rem;rw[←List.length_drop];generalize ns.drop i=l;induction l with
 |nil=>simp
 |cons x xs ih=>simp only[List.map_cons,List.sum_cons,List.length_cons]at ih⊢;omega
end
section
open Go.RowKit Go.Deep
def addL:List Int→Int→List Int
 | [],x=>[x]
 |y::ys,x=>if y<x then y::addL ys x else if y=x then y::ys else x::y::ys
theorem addL_same:∀ {ns:List Int} {x:Int} {k:Nat},(∀i n,i<k→ns[i]?=some n→n<x)→ns[k]?=some x→addL ns x=ns
 | [],x,k,_,h=>by simp at h
 |y::ys,x,0,h0,h=>by
  simp at h;subst h;rw[addL,if_neg (by omega),if_pos rfl]
 |y::ys,x,k+1,h0,h=>by
  have h1:=h0 0 y (by omega) rfl;rw[addL,if_pos h1,addL_same (k:=k) (fun i n hi hn=>h0 (i+1) n (by omega) (by simpa using hn)) (by simpa using h)]
theorem addL_new:∀ {ns:List Int} {x:Int} {k:Nat},k≤ns.length→(∀i n,i<k→ns[i]?=some n→n<x)→(∀n,ns[k]?=some n→x<n)→addL ns x=ns.take k++ [x]++ns.drop k
 | [],x,k,hk,_,_=>by simp[addL]
 |y::ys,x,0,hk,h0,h=>by
  have h1:=h y rfl;rw[addL,if_neg (by omega),if_neg (by omega)];simp
 |y::ys,x,k+1,hk,h0,h=>by
  have h1:=h0 0 y (by omega) rfl;rw[addL,if_pos h1,addL_new (k:=k) (by simpa using hk) (fun i n hi hn=>h0 (i+1) n (by omega) (by simpa using hn)) (fun n hn=>h n (by simpa using hn))];simp
theorem mem_addL:∀ {ns:List Int} {x y:Int},y∈addL ns x↔y=x∨y∈ns
 | [],x,y=>by simp[addL]
 |z::zs,x,y=>by
  rw[addL];split
  ·rw[List.mem_cons,mem_addL,List.mem_cons];constructor
   ·rintro(h|h|h)
    ·exact .inr (.inl h)
    ·exact .inl h
    ·exact .inr (.inr h)
   ·rintro(h|h|h)
    ·exact .inr (.inl h)
    ·exact .inl h
    ·exact .inr (.inr h)
  ·split
   ·rename_i h
    subst h;simp
   ·simp
theorem asc_addL:∀ {ns:List Int} {x:Int},ns.Pairwise (· < ·)→(addL ns x).Pairwise (· < ·)
 | [],x,_=>by simp[addL]
 |z::zs,x,h=>by
  obtain⟨h1,h2⟩:=List.pairwise_cons.1 h;rw[addL];split
  ·rename_i hz
   refine List.pairwise_cons.2 ⟨fun y hy=>?_,asc_addL h2⟩;rcases mem_addL.1 hy with rfl|hy
   ·exact hz
   ·exact h1 y hy
  ·split
   ·exact h
   ·rename_i hz hn
    refine List.pairwise_cons.2 ⟨fun y hy=>?_,h⟩;rcases List.mem_cons.1 hy with rfl|hy
    ·omega
    ·have:=h1 y hy;omega
theorem addL_len (ns:List Int)(x:Int):(addL ns x).length≤ns.length+1:=by
 induction ns with
 |nil=>simp[addL]
 |cons y ys ih=>
  rw[addL];split
  ·simp;exact ih
  ·split<;>simp
def colsL:Nat→E7→List Int
 |0,_=>[]
 |d+1,e=>e.ks.foldl (fun acc k=>(colsL d k).foldl addL acc) (if e.k=0 then[e.n]else[])
theorem foldl_addL_mem:∀ (l:List Int) (acc:List Int) (x:Int),x∈l.foldl addL acc↔x∈acc∨x∈l
 | [],acc,x=>by simp
 |y::ys,acc,x=>by
  rw[List.foldl_cons,foldl_addL_mem ys (addL acc y) x,mem_addL,List.mem_cons];constructor
  ·rintro((h|h)|h)
   ·exact .inr (.inl h)
   ·exact .inl h
   ·exact .inr (.inr h)
  ·rintro(h|h|h)
   ·exact .inl (.inr h)
   ·exact .inl (.inl h)
   ·exact .inr h
theorem foldl_addL_asc:∀ (l:List Int) {acc:List Int},acc.Pairwise (· < ·)→(l.foldl addL acc).Pairwise (· < ·)
 | [],acc,h=>h
 |y::ys,acc,h=>foldl_addL_asc ys (asc_addL h)
theorem foldl_cols_mem (f:E7→List Int):∀ (ks:List E7) (acc:List Int) (x:Int),x∈ks.foldl (fun acc k=>(f k).foldl addL acc) acc↔x∈acc∨∃k∈ks,x∈f k
 | [],acc,x=>by simp
 |k::ks,acc,x=>by
  rw[List.foldl_cons,foldl_cols_mem f ks _ x,foldl_addL_mem];constructor
  ·rintro((h|h)|⟨q,hq,h⟩)
   ·exact .inl h
   ·exact .inr ⟨k,List.mem_cons_self,h⟩
   ·exact .inr ⟨q,List.mem_cons_of_mem _ hq,h⟩
  ·rintro(h|⟨q,hq,h⟩)
   ·exact .inl (.inl h)
   ·rcases List.mem_cons.1 hq with rfl|hq
    ·exact .inl (.inr h)
    ·exact .inr ⟨q,hq,h⟩
theorem foldl_cols_asc (f:E7→List Int):∀ (ks:List E7) {acc:List Int},acc.Pairwise (· < ·)→(ks.foldl (fun acc k=>(f k).foldl addL acc) acc).Pairwise (· < ·)
 | [],acc,h=>h
 |k::ks,acc,h=>foldl_cols_asc f ks (foldl_addL_asc (f k) h)
theorem mem_colsL {d:Nat}{e:E7}{x:Int}:x∈colsL (d+1) e↔(e.k=0∧x=e.n)∨∃k∈e.ks,x∈colsL d k:=by
 rw[colsL,foldl_cols_mem];constructor
 ·rintro(h|h)
  ·left;split at h
   ·rename_i h0;exact⟨h0,by simpa using h⟩
   ·cases h
  ·exact .inr h
 ·rintro(⟨h0,rfl⟩|h)
  ·left;rw[if_pos h0];simp
  ·exact .inr h
theorem asc_colsL:∀ (d:Nat) (e:E7),(colsL d e).Pairwise (· < ·)
 |0,e=>by simp[colsL]
 |d+1,e=>by
  rw[colsL];apply foldl_cols_asc;split<;>simp
theorem asc_unique:∀ {l m:List Int},l.Pairwise (· < ·)→m.Pairwise (· < ·)→(∀x,x∈l↔x∈m)→l=m
 | [],[],_,_,_=>rfl
 | [],b::bs,_,_,h=>by have:=(h b).2 List.mem_cons_self;cases this
 |a::r,[],_,_,h=>by have:=(h a).1 List.mem_cons_self;cases this
 |a::r,b::bs,hl,hm,h=>by
  obtain⟨ha,hl2⟩:=List.pairwise_cons.1 hl;obtain⟨hb,hm2⟩:=List.pairwise_cons.1 hm;have e1:a=b:=by
   rcases List.mem_cons.1 ((h a).1 List.mem_cons_self)with h1|h1
   ·exact h1
   ·rcases List.mem_cons.1 ((h b).2 List.mem_cons_self)with h2|h2
    ·exact h2.symm
    ·have:=hb a h1;have:=ha b h2;omega
  subst e1;refine congrArg (List.cons a) (asc_unique hl2 hm2 fun x=>?_);constructor
  ·intro hx;rcases List.mem_cons.1 ((h x).1 (List.mem_cons_of_mem _ hx))with rfl|h1
   ·have:=ha x hx;omega
   ·exact h1
  ·intro hx;rcases List.mem_cons.1 ((h x).2 (List.mem_cons_of_mem _ hx))with rfl|h1
   ·have:=hb x hx;omega
   ·exact h1
theorem compact_asc (zs:List Int)(hs:∀i j,i≤j→j<zs.length→zs.toArray[i]!≤zs.toArray[j]!):∀m,m≤zs.length→
  (Lib.compactUpTo zs.toArray m).Pairwise (· < ·)∧∀x,x∈Lib.compactUpTo zs.toArray m↔∃j,j<m∧zs.toArray[j]! =x
 |0,_=>by simp[Lib.compactUpTo]
 |m+1,hm=>by
  obtain⟨h1,h2⟩:=compact_asc zs hs m (by omega);rw[Lib.compactUpTo_succ];by_cases hk:Lib.keeps zs.toArray m=true
  ·rw[if_pos hk];refine⟨List.pairwise_append.2 ⟨h1,by simp,fun a ha b hb=>?_⟩,fun x=>?_⟩
   ·rcases List.mem_singleton.1 hb with rfl;obtain⟨j,hj,rfl⟩:=(h2 a).1 ha;have hk':=hk;simp only[Lib.keeps,decide_eq_true_eq]at hk';have l1:=hs j (m -1) (by omega) (by omega);have l2:=hs (m -1) m (by omega) (by omega);rcases hk' with h0|hne
    ·omega
    ·omega
   ·rw[List.mem_append,h2,List.mem_singleton];constructor
    ·rintro(⟨j,hj,h⟩|h)
     ·exact⟨j,by omega,h⟩
     ·exact⟨m,by omega,h.symm⟩
    ·rintro⟨j,hj,h⟩;by_cases hjm:j=m
     ·subst hjm;exact .inr h.symm
     ·exact .inl ⟨j,by omega,h⟩
  ·rw[if_neg hk,List.append_nil];refine⟨h1,fun x=>?_⟩;rw[h2];have hk':¬ (m=0∨zs.toArray[m]!≠zs.toArray[m -1]!):=by simpa [Lib.keeps]using hk
   have hm0:m≠0:=fun h=>hk' (.inl h);have hmm:zs.toArray[m]! =zs.toArray[m -1]!:=Classical.byContradiction fun h=>hk' (.inr h);constructor
   ·rintro⟨j,hj,h⟩;exact⟨j,by omega,h⟩
   ·rintro⟨j,hj,h⟩;by_cases hjm:j=m
    ·subst hjm;exact⟨j -1,by omega,by rw[←hmm];exact h⟩
    ·exact⟨j,by omega,h⟩
theorem sortC (zs ls:List Int)(hl:ls.Pairwise (· < ·))(h:∀x,x∈ls↔x∈zs):Lib.compact (zs.mergeSort fun x y=>decide (x≤y))=ls:=by
 have hp:(zs.mergeSort fun x y=>decide (x≤y)).Pairwise (fun x y=>decide (x≤y)=true):=List.pairwise_mergeSort (fun a b c h1 h2=>by simp at*;omega) (fun a b=>by simp;omega) zs;have hm:∀x,x∈(zs.mergeSort fun x y=>decide (x≤y))↔x∈zs:=fun x=>List.mem_mergeSort;generalize(zs.mergeSort fun x y=>decide (x≤y))=ms at*;have hs:∀i j,i≤j→j<ms.length→ms.toArray[i]!≤ms.toArray[j]!:=by
  intro i j hij hj;have hi:i<ms.length:=by omega
  rw[getElem!_pos ms.toArray i (by simpa using hi),getElem!_pos ms.toArray j (by simpa using hj)];by_cases e:i=j
  ·subst e;exact Int.le_refl _
  ·have:=List.pairwise_iff_getElem.1 hp i j hi hj (by omega)
   simpa using this
 obtain⟨h1,h2⟩:=compact_asc ms hs ms.length (Nat.le_refl _);refine asc_unique h1 hl fun x=>?_;show x∈Lib.compactUpTo ms.toArray ms.length↔_;rw[h2,h,←hm x];constructor
 ·rintro⟨j,hj,rfl⟩;rw[getElem!_pos ms.toArray j (by simpa using hj)];simp
 ·intro hx;obtain⟨j,hj,rfl⟩:=List.mem_iff_getElem.1 hx;exact⟨j,hj,by rw[getElem!_pos ms.toArray j (by simpa using hj)];simp⟩
def colN (ns:List Nd):List Int:=(ns.filter fun x=>x.e.k==0).map fun x=>x.e.n
theorem mem_colN {ns:List Nd}{x:Int}:x∈colN ns↔∃y∈ns,y.e.k=0∧y.e.n=x:=by
 unfold colN;rw[List.mem_map];constructor
 ·rintro⟨y,hy,rfl⟩;rw[List.mem_filter]at hy;exact⟨y,hy.1,by simpa using hy.2,rfl⟩
 ·rintro⟨y,hy,h0,rfl⟩;exact⟨y,List.mem_filter.2 ⟨hy,by simpa using h0⟩,rfl⟩
def ColIn (L:List Int)(e:E7):Prop:=∃d,DE d e.ks∧∀x,x∈colsL d e→x∈L
theorem colIn_kid {L:List Int}:∀e,ColIn L e→∀k∈e.ks,ColIn L k:=by
 rintro e ⟨d,hd,h⟩ k hk;cases d with
 |zero=>exact hd.elim
 |succ d=>exact⟨d,hd k hk,fun x hx=>h x (mem_colsL.2 (.inr ⟨k,hk,hx⟩))⟩
theorem NQ.cols {w wr:World}{D:Nat}{hang:Nat→Nat×Nat}{P:E7→Prop}{ns:List Nd}(h:NQ w D hang P wr ns.length ns):∀ {d j:Nat} {y:Nd} {x:Int},ns[j]?=some y→DE d y.e.ks→x∈colsL d y.e→x∈colN ns
 |0,_,_,_,_,hd,_=>hd.elim
 |d+1,j,y,x,hy,hd,hx=>by
  rcases mem_colsL.1 hx with⟨h0,rfl⟩|⟨k,hk,hxk⟩
  ·exact mem_colN.2 ⟨y,mg8 hy,h0,rfl⟩
  ·have hj:j<ns.length:=(gE1 hy).1;obtain⟨_,_,u,_,_,hdn⟩:=h.at' j y hy;obtain⟨a,c,_,_,_,hkk⟩:=hdn hj;obtain⟨b,_,_,_,_,hm⟩:=hkk (by intro h;rw[h]at hk;cases hk);obtain⟨t,ht,rfl⟩:=List.mem_iff_getElem.1 hk;obtain⟨m,hm⟩:=hm t y.e.ks[t] (by simp);exact NQ.cols h hm (hd _ hk) hxk
end
section
open Go.RowKit Go.Deep
def Fr (w:World)(b:Nat):Prop:=(∃c t l,w.heap[b]?=some (.cells c t l))∧∀o,w.frozen? ⟨b,o,none⟩=false
theorem Fr.keep {w w':World}{b:Nat}(h:Fr w b)(e:w'.heap[b]?=w.heap[b]?):Fr w' b:=
 ⟨by rw[e];exact h.1,fun o=>by simp only[World.frozen?,e];exact h.2 o⟩
theorem sameAddr_no {P:Program}(w:World){a b:Addr}(hne:a≠b)(ha:Fr w a.block)(hb:Fr w b.block):(sameAddr a b).run P w=.ok false w:=by
 by_cases hbl:a.block=b.block
 ·simp[sameAddr,hbl,hne]
 ·obtain⟨⟨ca,ta,⟨la,la'⟩,ha⟩,fa⟩:=ha;obtain⟨⟨cb,tb,⟨lb,lb'⟩,hb⟩,fb⟩:=hb;have a0:=fa a.off;have a1:=fa ca.size;have b0:=fb b.off;have b1:=fb cb.size;simp only[World.frozen?,ha,hb]at a0 a1 b0 b1;simp[sameAddr,hbl,World.frozen?,ha,hb,noView,viewAt,World.shape?,mayBeOne,stringish,a0,a1,b0,b1]
theorem getD_of {α:Type}{l:List α}{j:Nat}{x:α}(h:l[j]?=some x)(z:α):l.getD j z=x:=by rw[List.getD_eq_getElem?_getD,h];rfl
theorem flat_getD:∀ (G:List (List Nat)),((List.range G.length).map fun j=>G.getD j []).flatten=G.flatten
 | []=>rfl
 |g::G=>by
  rw[List.length_cons,List.range_succ_eq_map,List.map_cons,List.flatten_cons,List.map_map,List.flatten_cons,←flat_getD G];rfl
theorem own_keep2 {w w':World}{N e n s:Nat}{v:Value}{xs:List Value}(h:w.ownsRow N e s v n xs)(hb:Below w.heap.size w w'):w'.ownsRow N e s v n xs:=by
 refine⟨h.1,?_⟩;rcases h.2 with hn|⟨g,cap,cur,rfl,hg,hc,rest⟩
 ·exact .inl hn
 ·have hlt:g<w.heap.size:=by
   rcases Nat.lt_or_ge g w.heap.size with h'|h'
   ·exact h'
   ·simp[Array.getElem?_eq_none h']at hc
  exact .inr ⟨g,cap,cur,rfl,hg,(hb.block g hlt).trans hc,rest⟩
theorem own_keep3 {w w':World}{N e n s:Nat}{v:Value}{xs:List Value}(h:w.ownsRow N e s v n xs)(hb:∀g c t l,v.ownBlock=some g→w.heap[g]?=some (.cells c t l)→w'.heap[g]?=w.heap[g]?):w'.ownsRow N e s v n xs:=by
 refine⟨h.1,?_⟩;rcases h.2 with hn|⟨g,cap,cur,rfl,hg,hc,rest⟩
 ·exact .inl hn
 ·exact .inr ⟨g,cap,cur,rfl,hg,(hb g _ _ _ rfl hc).trans hc,rest⟩
theorem own_shape {w:World}{N e n s:Nat}{v:Value}{xs:List Value}(h:w.ownsRow N e s v n xs)(hn:0<n):∃g cap,v=.slice (some ⟨g,0,none⟩) n cap∧n≤cap∧cap≤maxLen∧N≤g∧g<w.heap.size∧∃c t l,w.heap[g]?=some (.cells c t l):=by
 rcases h.2 with⟨_,h0⟩|⟨g,cap,cur,rfl,hg,hc,hn',hm,_⟩
 ·omega
 ·refine⟨g,cap,rfl,hn',hm,hg,?_,_,_,_,hc⟩;rcases Nat.lt_or_ge g w.heap.size with h'|h'
  ·exact h'
  ·simp[Array.getElem?_eq_none h']at hc
theorem upd_world {w wX:World}{B:Nat}{o o':Obj}(hb:wX.heap[B]?=some o)(hB:w.heap.size≤B)(hX:Below w.heap.size w wX):let wY:World:={wX with heap:=wX.heap.setIfInBounds B o'}
  wY.heap[B]?=some o'∧(∀b,b≠B→wY.heap[b]?=wX.heap[b]?)∧wY.heap.size=wX.heap.size∧Below w.heap.size w wY:=by
 obtain⟨h1,h2⟩:=MapKept.heap_set (w:=wX) (o':=o') hb;refine⟨h1,h2,by simp,hX.os,hX.tape,hX.output,by simpa using hX.size,fun k hk=>(h2 k (by omega)).trans (hX.block k hk)⟩
theorem dN8 (w:World):∀n,Below w.heap.size w (w.drewN n)
 |0=>Below.refl _ _
 |n+1=>(dN8 w n).drew
theorem heap_two (w:World)(X Y:Obj):((w.alloc X).alloc Y).heap[w.heap.size]?=some X∧((w.alloc X).alloc Y).heap[w.heap.size+1]?=some Y:=by
 constructor
 ·show((w.heap.push X).push Y)[w.heap.size]?=some X;simp[Array.getElem?_push]
 ·have:=heap_alloc_new (w.alloc X) Y
  rwa [World.size_alloc]at this
theorem cells_of {w:World}{a:Addr}{v:Value}(h:w.cell? a=some v):∃c t l,w.heap[a.block]?=some (.cells c t l):=by
 unfold World.cell? at h;split at h
 ·rename_i c t l hc
  exact⟨_,_,_,hc⟩
 ·cases h
end
section
open Go.RowKit Go.Deep
def cntE:DataW (Int×Int×V3×ByteArray)→Nat
 | .agg (.held _::l)=>1+(l.attach.map fun x=>have:=List.sizeOf_lt_of_mem x.2;cntE x.1).sum
 |_=>1
def cntEs:List E7→Nat
 | []=>0
 |e::es=>cntE e+cntEs es
theorem cntEs_sum (l:List E7):(l.map cntE).sum=cntEs l:=by
 induction l with
 |nil=>rfl
 |cons e es ih=>rw[List.map_cons,List.sum_cons,cntEs,ih]
theorem cntE_eq (e:E7):cntE e=1+cntEs e.ks:=by
 rw[cntE.eq_def];split
 ·rename_i q l
  have:(l.attach.map fun x=>cntE x.1)=l.map cntE:=by simp
  show 1+(l.attach.map fun x=>cntE x.1).sum=1+cntEs l;rw[this,cntEs_sum]
 ·rename_i h
  have hk:E7.ks e=[]:=by unfold E7.ks;split;exact absurd rfl (h _ _);rfl
  rw[hk];rfl
def cntN (i:Nat)(ns:List Nd):Nat:=((ns.drop i).map fun x=>cntE x.e).sum
theorem cntN_pos {i:Nat}{ns:List Nd}{x:Nd}(h:ns[i]?=some x):cntN i ns=cntE x.e+cntN (i+1) ns:=by
 obtain⟨hi,rfl⟩:=gE1 h;unfold cntN;rw[List.drop_eq_getElem_cons hi];simp only[List.map_cons,List.sum_cons]
theorem cnt_news (ks:List E7)(g:Nat):((news ks g).map fun x=>cntE x.e).sum=cntEs ks:=by
 have e:(news ks g).map (fun x=>cntE x.e)=ks.map cntE:=by
  apply List.ext_getElem?;intro i;simp[news];cases ks[i]?<;>rfl
 rw[e,cntEs_sum]
theorem cntN_step {i:Nat}{ns:List Nd}{x:Nd}(g:Nat)(h:ns[i]?=some x):i+1+cntN (i+1) (ns++news x.e.ks g)=i+cntN i ns:=by
 have hi:i<ns.length:=(gE1 h).1;rw[cntN_pos h,cntE_eq];have e:cntN (i+1) (ns++news x.e.ks g)=cntN (i+1) ns+cntEs x.e.ks:=by
  unfold cntN;rw[List.drop_append_of_le_length (by omega),List.map_append,List.sum_append,cnt_news]
 omega
theorem cntN_len (i:Nat)(ns:List Nd):ns.length -i≤cntN i ns:=by
 unfold cntN;rw[←List.length_drop];generalize ns.drop i=l;induction l with
 |nil=>simp
 |cons x xs ih=>
  have:=cntE_eq x.e;simp only[List.map_cons,List.sum_cons,List.length_cons]at ih⊢;omega
structure KQ (w:World)(D:Nat)(F0:List Nat)(wr:World)(i:Nat)(ns:List Nd)(Fs:List (List Nat))(es:Array MapEntry):Prop where
 len:Fs.length=ns.length
 kid:∀ (j:Nat) (x:Nd) (F:List Nat),i≤j→ns[j]?=some x→Fs[j]?=some F→∃u,wr.cell? ⟨x.b,x.o+6,none⟩=some u∧KidsIs w (D+1) u x.e.ks F
 nd:(Fs.drop i).flatten.Nodup
 sub:∀F∈Fs.drop i,∀b∈F,b∈F0
 keys:∀e∈es.toList,∃ (a:Addr) (m:Int),e.key=.agg #[.pointer (some a),.int .i64 m]∧a.block∈F0∧∀F∈Fs.drop i,a.block∉F
 fr:∀x∈F0,Fr w x∧x<w.heap.size
def MQ (w:World)(D:Nat)(F0:List Nat)(wr:World)(i:Nat)(ns:List Nd)(es:Array MapEntry):Prop:=
 (es=#[]∧i+cntN i ns≤8191)∨∃Fs,KQ w D F0 wr i ns Fs es
theorem MQ.few {w:World}{D:Nat}{F0:List Nat}{wr:World}{i:Nat}{ns:List Nd}{es:Array MapEntry}(h:MQ w D F0 wr i ns es)(hl:8192≤ns.length):∃Fs,KQ w D F0 wr i ns Fs es:=by
 rcases h with⟨_,h⟩|h
 ·have:=cntN_len i ns;omega
 ·exact h
theorem KQ.here {w:World}{D:Nat}{F0:List Nat}{wr:World}{i:Nat}{ns:List Nd}{Fs:List (List Nat)}{es:Array MapEntry}{x:Nd}{b o n c:Nat}(h:KQ w D F0 wr i ns Fs es)(hx:ns[i]?=some x)(hu:wr.cell? ⟨x.b,x.o+6,none⟩=some (.slice (some ⟨b,o,none⟩) n c))(hne:x.e.ks≠ []):∃G,Fs.drop i=(b::G.flatten)::Fs.drop (i+1)∧G.length=x.e.ks.length∧ELies w D b o x.e.ks G:=by
 have hi:i<Fs.length:=by rw[h.len];exact(gE1 hx).1
 obtain⟨u,hu',hK⟩:=h.kid i x Fs[i] (Nat.le_refl _) hx (by simp);rw[hu]at hu';obtain rfl:=Option.some.inj hu';obtain⟨a,c',b',o',G,e,_,_,hG,_,ha⟩:=hK.pick;obtain⟨rfl,_,hF,hL⟩:=ha 0 (List.length_pos_iff.2 hne);injection e with e1;injection e1 with e1;injection e1 with e1 e2;subst e1 e2;exact⟨G,by rw[List.drop_eq_getElem_cons hi,hF],hG,hL⟩
theorem MQ.miss {w:World}{D:Nat}{F0:List Nat}{wr wX:World}{i:Nat}{ns:List Nd}{es:Array MapEntry}{x:Nd}{b o n c:Nat}(h:MQ w D F0 wr i ns es)(hx:ns[i]?=some x)(hu:wr.cell? ⟨x.b,x.o+6,none⟩=some (.slice (some ⟨b,o,none⟩) n c))(hne:x.e.ks≠ [])(hX:Below w.heap.size w wX):∀e∈es.toList,∃ (a:Addr) (m:Int),e.key=.agg #[.pointer (some a),.int .i64 m]∧(⟨b,o,none⟩:Addr)≠a∧Fr wX (⟨b,o,none⟩:Addr).block∧Fr wX a.block:=by
 rcases h with⟨rfl,_⟩|⟨Fs,h⟩
 ·intro e he;simp at he
 ·obtain⟨G,hd,_,_⟩:=h.here hx hu hne;intro e he;obtain⟨a,m,hk,ha,hF⟩:=h.keys e he;have hb0:b∈F0:=h.sub (b::G.flatten) (by rw[hd];exact List.mem_cons_self) b List.mem_cons_self;have fr:∀y∈F0,Fr wX y:=fun y hy=>(h.fr y hy).1.keep (hX.block y (h.fr y hy).2);refine⟨a,m,hk,?_,fr b hb0,fr _ ha⟩;rintro rfl;exact hF (b::G.flatten) (by rw[hd];exact List.mem_cons_self) List.mem_cons_self
theorem MQ.skip {w:World}{D:Nat}{F0:List Nat}{wr w3:World}{i:Nat}{ns:List Nd}{es:Array MapEntry}{x:Nd}(h:MQ w D F0 wr i ns es)(hx:ns[i]?=some x)(hcell:∀ (j:Nat) (y:Nd),ns[j]?=some y→j≠i→w3.cell? ⟨y.b,y.o+6,none⟩=wr.cell? ⟨y.b,y.o+6,none⟩):MQ w D F0 w3 (i+1) ns es:=by
 rcases h with⟨he,h⟩|⟨Fs,h⟩
 ·left;refine⟨he,?_⟩;have:=cntN_pos hx;have:=cntE_eq x.e;omega
 ·right;have hi:i<Fs.length:=by rw[h.len];exact(gE1 hx).1
  have hd:Fs.drop i=Fs[i]::Fs.drop (i+1):=List.drop_eq_getElem_cons hi;refine⟨Fs,h.len,fun j y F hj hy hF=>?_,?_,fun F hF=>h.sub F (by rw[hd];exact List.mem_cons_of_mem _ hF),fun e he=>?_,h.fr⟩
  ·obtain⟨u,hu,hK⟩:=h.kid j y F (by omega) hy hF;exact⟨u,(hcell j y hy (by omega)).trans hu,hK⟩
  ·have:=h.nd;rw[hd,List.flatten_cons,List.nodup_append]at this;exact this.2.1
  ·obtain⟨a,m,hk,ha,hF⟩:=h.keys e he;exact⟨a,m,hk,ha,fun F hF'=>hF F (by rw[hd];exact List.mem_cons_of_mem _ hF')⟩
theorem KQ.step {w:World}{D:Nat}{F0:List Nat}{wr w3:World}{i gg:Nat}{ns:List Nd}{Fs:List (List Nat)}{es es':Array MapEntry}{x:Nd}{b o n c:Nat}(h:KQ w D F0 wr i ns Fs es)(hx:ns[i]?=some x)(hu:wr.cell? ⟨x.b,x.o+6,none⟩=some (.slice (some ⟨b,o,none⟩) n c))(hne:x.e.ks≠ [])(hcell:∀ (j:Nat) (y:Nd),ns[j]?=some y→j≠i→w3.cell? ⟨y.b,y.o+6,none⟩=wr.cell? ⟨y.b,y.o+6,none⟩)(hgg:∀j,j<x.e.ks.length*7→w3.cell? ⟨gg,j,none⟩=w.cell? ⟨b,o+j,none⟩)(hes:∀e∈es'.toList,e∈es.toList∨∃m:Int,e.key=.agg #[.pointer (some ⟨b,o,none⟩),.int .i64 m]):∃Fs',KQ w D F0 w3 (i+1) (ns++news x.e.ks gg) Fs' es':=by
 obtain⟨G,hd,hG,hL⟩:=h.here hx hu hne;have hil:i<ns.length:=(gE1 hx).1;have hlen:=h.len;have hdr:(Fs++G).drop (i+1)=Fs.drop (i+1)++G:=List.drop_append_of_le_length (by omega);have hnd:=h.nd;rw[hd,List.flatten_cons,List.nodup_append]at hnd;obtain⟨n1,n2,n3⟩:=hnd;obtain⟨nb,nG⟩:=List.nodup_cons.1 n1;have mem:∀F∈G,∀y∈F,y∈b::G.flatten:=fun F hF y hy=>List.mem_cons_of_mem _ (List.mem_flatten.2 ⟨F,hF,hy⟩);refine⟨Fs++G,by rw[List.length_append,List.length_append,hlen,news_len,hG],fun j y F hj hy hF=>?_,?_,fun F hF=>?_,fun e he=>?_,h.fr⟩
 ·by_cases hjl:j<ns.length
  ·rw[List.getElem?_append_left hjl]at hy;rw[List.getElem?_append_left (by omega)]at hF;obtain⟨u,hu2,hK⟩:=h.kid j y F (by omega) hy hF;exact⟨u,(hcell j y hy (by omega)).trans hu2,hK⟩
  ·rw[List.getElem?_append_right (by omega)]at hy;rw[List.getElem?_append_right (by omega),hlen]at hF;obtain⟨e,he,rfl⟩:=news_of hy;have ht:j -ns.length<x.e.ks.length:=(gE1 he).1;obtain⟨_,_,u,hu2,hK⟩:=hL (j -ns.length) e F he hF;refine⟨u,?_,hK.up (by omega)⟩;rw[←hu2];show w3.cell? ⟨gg,(j -ns.length)*7+6,none⟩=_;rw[hgg _ (by omega),Nat.add_assoc]
 ·rw[hdr,List.flatten_append,List.nodup_append];refine⟨n2,nG,fun p hp q hq=>?_⟩;rintro rfl;exact n3 p (List.mem_cons_of_mem _ hq) p hp rfl
 ·rw[hdr]at hF;rcases List.mem_append.1 hF with hF|hF
  ·exact h.sub F (by rw[hd];exact List.mem_cons_of_mem _ hF)
  ·exact fun y hy=>h.sub (b::G.flatten) (by rw[hd];exact List.mem_cons_self) y (mem F hF y hy)
 ·rw[hdr];rcases hes e he with hold|⟨m,hk⟩
  ·obtain⟨a,m,hk,ha,hF⟩:=h.keys e hold;refine⟨a,m,hk,ha,fun F hF' hb=>?_⟩;rcases List.mem_append.1 hF' with hF'|hF'
   ·exact hF F (by rw[hd];exact List.mem_cons_of_mem _ hF') hb
   ·exact hF (b::G.flatten) (by rw[hd];exact List.mem_cons_self) (mem F hF' _ hb)
  ·refine⟨⟨b,o,none⟩,m,hk,h.sub (b::G.flatten) (by rw[hd];exact List.mem_cons_self) b List.mem_cons_self,fun F hF' hb=>?_⟩;rcases List.mem_append.1 hF' with hF'|hF'
   ·exact n3 b List.mem_cons_self b (List.mem_flatten.2 ⟨F,hF',hb⟩) rfl
   ·exact nb (List.mem_flatten.2 ⟨F,hF',hb⟩)
theorem MQ.step {w:World}{D:Nat}{F0:List Nat}{wr w3:World}{i gg:Nat}{ns:List Nd}{es:Array MapEntry}{x:Nd}{b o n c:Nat}(h:MQ w D F0 wr i ns es)(hx:ns[i]?=some x)(hu:wr.cell? ⟨x.b,x.o+6,none⟩=some (.slice (some ⟨b,o,none⟩) n c))(hne:x.e.ks≠ [])(hcell:∀ (j:Nat) (y:Nd),ns[j]?=some y→j≠i→w3.cell? ⟨y.b,y.o+6,none⟩=wr.cell? ⟨y.b,y.o+6,none⟩)(hgg:∀j,j<x.e.ks.length*7→w3.cell? ⟨gg,j,none⟩=w.cell? ⟨b,o+j,none⟩):MQ w D F0 w3 (i+1) (ns++news x.e.ks gg) es:=by
 rcases h with⟨he,h⟩|⟨Fs,h⟩
 ·left;exact⟨he,by have:=cntN_step gg hx;omega⟩
 ·right;exact h.step hx hu hne hcell hgg fun e he=> .inl he
theorem MQ.note {w:World}{D:Nat}{F0:List Nat}{wr w3:World}{i gg ck:Nat}{ns:List Nd}{es:Array MapEntry}{x:Nd}{b o n c:Nat}{m:Int}{v:Value}(h:MQ w D F0 wr i ns es)(hl:8192≤ns.length)(hx:ns[i]?=some x)(hu:wr.cell? ⟨x.b,x.o+6,none⟩=some (.slice (some ⟨b,o,none⟩) n c))(hne:x.e.ks≠ [])(hcell:∀ (j:Nat) (y:Nd),ns[j]?=some y→j≠i→w3.cell? ⟨y.b,y.o+6,none⟩=wr.cell? ⟨y.b,y.o+6,none⟩)(hgg:∀j,j<x.e.ks.length*7→w3.cell? ⟨gg,j,none⟩=w.cell? ⟨b,o+j,none⟩):MQ w D F0 w3 (i+1) (ns++news x.e.ks gg) (es.push ⟨.agg #[.pointer (some ⟨b,o,none⟩),.int .i64 m],v,ck⟩):=by
 obtain⟨Fs,h⟩:=h.few hl;right;refine h.step hx hu hne hcell hgg fun e he=>?_;rw[Array.toList_push]at he;rcases List.mem_append.1 he with he|he
 ·exact .inl he
 ·rcases List.mem_singleton.1 he with rfl;exact .inr ⟨m,rfl⟩
theorem mq_start {w:World}{D:Nat}{F:List Nat}{wr:World}{x:Nd}{u:Value}(h:(F.Nodup∧∀b∈F,Fr w b)∨cntE x.e≤8191)(hu:wr.cell? ⟨x.b,x.o+6,none⟩=some u)(hk:KidsIs w (D+1) u x.e.ks F):MQ w D F wr 0 [x] #[]:=by
 rcases h with⟨hn,hf⟩|h
 ·right;refine⟨[F],rfl,fun j y G _ hy hG=>?_,by simpa using hn,fun G hG=>by simp at hG;subst hG;exact fun b hb=>hb,fun e he=>by simp at he,fun b hb=>⟨hf b hb,hk.lt b hb⟩⟩;cases j with
  |zero=>simp at hy hG;subst hy hG;exact⟨u,hu,hk⟩
  |succ j=>simp at hy
 ·left;exact⟨rfl,by simpa [cntN]using h⟩
end
section
open Go.RowKit
theorem ptr_noS (w:World){a b:Addr}(hne:a≠b)(ha:Fr w a.block)(hb:Fr w b.block)(d:Nat):(Op.equalIn (d+1) 210 (.pointer (some a)) (.pointer (some b))).run Tryz.prog w=.ok false w:=by
 have hp:Tryz.prog.underlying 210=some (.pointer 63):=by kernel_rfl
 obtain⟨j,hte,hsz⟩:∃j,Tryz.prog.info? 63=some j∧j.size=7:=by
  have:(Tryz.prog.info? 63).map (fun i=>i.size)=some 7:=by kernel_rfl
  obtain⟨j,h1,h2⟩:=Option.map_eq_some_iff.1 this;exact⟨j,h1,h2⟩
 have h7:j.size≠0:=by omega
 simp[Op.equalIn,run_underlying hp,sizeOf,typeInfo,hte,h7,sameAddr_no w hne ha hb]
theorem key_noS (w:World){a b:Addr}{m n':Int}(hne:a≠b)(ha:Fr w a.block)(hb:Fr w b.block):(Op.equal 259 (.agg #[.pointer (some a),.int .i64 m]) (.agg #[.pointer (some b),.int .i64 n'])).run Tryz.prog w=.ok false w:=by
 have hS:Tryz.prog.underlying 259=some (.struct (Tryz.prog.fieldsOf 259)):=by kernel_rfl
 have hp:Tryz.prog.stoodInHeld 259=false:=by kernel_rfl
 have u3:=Tryz.underlying210;have a3:=Tryz.isAgg210;have u4:=Tryz.underlying3;have a4:=Tryz.isAgg3;have z4:=Tryz.sizeOf3;have z3:=Tryz.sizeOf210;have hn:=ptr_noS w hne ha hb 9998;unfold Op.equal Op.maxDepth;rw[show(10000:Nat)=9999+1 from rfl,run_equalIn_agg w 9999 _ _ _ hS hp];simp only[Program.fieldsOf,Tryz.underlying259];go_simp
theorem find_noneS (w:World){p:Addr}{n:Int}:∀ (es:List MapEntry) (i:Nat),(∀e∈es,∃ (a:Addr) (m:Int),e.key=.agg #[.pointer (some a),.int .i64 m]∧p≠a∧Fr w p.block∧Fr w a.block)→
  (Instr.findAsking 259 (.agg #[.pointer (some p),.int .i64 n]) es i).run Tryz.prog w=.ok none w
 | [],i,_=>by simp[Instr.findAsking]
 |e::es,i,h=>by
  obtain⟨a,m,he,hne,hp,hF⟩:=h e List.mem_cons_self;have h1:=key_noS w (a:=p) (b:=a) (m:=n) (n':=m) hne hp hF;simp[Instr.findAsking,he,h1,find_noneS w es (i+1) fun e' he'=>h e' (List.mem_cons_of_mem _ he')]
theorem check_ptrS (w:World)(em:Bool)(n:Nat)(a:Addr):(Instr.checkKey em (n+1) 210 (.pointer (some a))).run Tryz.prog w=.ok () w:=by
 have hp:Tryz.prog.underlying 210=some (.pointer 63):=by kernel_rfl
 simp[Instr.checkKey,run_underlying hp]
theorem check_intS (w:World)(em:Bool)(k:Nat)(n:Int):(Instr.checkKey em (k+1) 3 (.int .i64 n)).run Tryz.prog w=.ok () w:=by
 simp[Instr.checkKey,run_underlying Tryz.underlying3]
theorem check_pairS (w:World)(em:Bool)(k:Nat)(p:Addr)(n:Int):(Instr.checkKey em (k+2) 259 (.agg #[.pointer (some p),.int .i64 n])).run Tryz.prog w=.ok () w:=by
 have hS:=Tryz.underlying259;have a3:=Tryz.isAgg210;have u4:=Tryz.underlying3;have a4:=Tryz.isAgg3;have z4:=Tryz.sizeOf3;have z3:=Tryz.sizeOf210;have hp1:(part 210 #[.pointer (some p),.int .i64 n] 0).run Tryz.prog w=.ok (.pointer (some p)) w:=by go_simp
 have hp2:(part 3 #[.pointer (some p),.int .i64 n] 1).run Tryz.prog w=.ok (.int .i64 n) w:=by go_simp
 unfold Instr.checkKey;simp[run_underlying hS,hp1,hp2,check_ptrS,check_intS,Result.andThen]
theorem check_keyS (w:World)(em:Bool)(p:Addr)(n:Int):(Instr.checkKey em 10000 259 (.agg #[.pointer (some p),.int .i64 n])).run Tryz.prog w=.ok () w:=check_pairS w em 9998 p n
theorem find_keyS (w:World){p:Addr}{n:Int}(es:List MapEntry)(h:∀e∈es,∃ (a:Addr) (m:Int),e.key=.agg #[.pointer (some a),.int .i64 m]∧p≠a∧Fr w p.block∧Fr w a.block):(Instr.findKey 259 (.agg #[.pointer (some p),.int .i64 n]) es).run Tryz.prog w=.ok none w:=by
 rw[run_findKey_eq w (by kernel_rfl)];exact find_noneS w es 0 h
theorem look_noS (w:World){B:Nat}{es:Array MapEntry}{ck:Nat}{p:Addr}{n:Int}(hb:w.heap[B]?=some (.map es ck))(h:∀e∈es.toList,∃ (a:Addr) (m:Int),e.key=.agg #[.pointer (some a),.int .i64 m]∧p≠a∧Fr w p.block∧Fr w a.block):Sem.run Tryz.prog (Instr.lookup 257 (.map (some B)) (.agg #[.pointer (some p),.int .i64 n]) true) w=.ok (.tuple #[.slice none 0 0,.bool false]) w:=by
 have hm:Tryz.prog.underlying 257=some (.map 259 61):=by kernel_rfl
 have hz:(zeroValue 61).run Tryz.prog w=.ok (.slice none 0 0) w:=by go_simp
 simp[Instr.lookup,run_underlying hm,MapKept.run_getObj_map hb,check_keyS,find_keyS w es.toList h,hz,Result.andThen]
theorem upd_noS (w:World){B:Nat}{es:Array MapEntry}{ck:Nat}{p:Addr}{n:Int}{v:Value}(hb:w.heap[B]?=some (.map es ck))(h:∀e∈es.toList,∃ (a:Addr) (m:Int),e.key=.agg #[.pointer (some a),.int .i64 m]∧p≠a∧Fr w p.block∧Fr w a.block):Sem.run Tryz.prog (Instr.mapUpdate 257 (.map (some B)) (.agg #[.pointer (some p),.int .i64 n]) v) w=.ok () {w with heap:=w.heap.setIfInBounds B (.map (es.push ⟨.agg #[.pointer (some p),.int .i64 n],v,ck⟩) (ck+1))}:=by
 have hm:Tryz.prog.underlying 257=some (.map 259 61):=by kernel_rfl
 simp[Instr.mapUpdate,run_underlying hm,MapKept.run_getObj_map hb,check_keyS,find_keyS w es.toList h,MapKept.run_setObj_map _ hb,Result.andThen]
end
section
open Go.RowKit Go.Deep Go.ChangeShapes Go.WideShapes
theorem cloneR_any (d:Nat)(v:Value)(es:List E7)(w:World)(h:RE w (d+1) v es)(hn:es.length≤2097152):Calls Tryz.prog 157 #[v] w fun e w'=>(∃u,e=.returned u∧ClOf w' w.heap.size v u es.length)∧Below w.heap.size w w':=by
 obtain⟨F,hr⟩:=h.kids;obtain⟨i0,hi,hz0,hz1,hz2⟩:=info_parts Tryz.infoExp;obtain⟨a,c,b,o,G,rfl,hl,hc,hG,_,ha⟩:=hr.pick;clear hr h;have hnil:∀ (w:World) (a:Option Addr) (n c n' c':Nat),(binOp .eql 61 (.slice a n c) (.slice none n' c')).run Tryz.prog w=.ok (.bool a.isNone) w:=fun w a n c n' c'=>Lib.run_eql_slice_nil w _ _ a n c n' c' Tryz.underlying61;have he:=(ExpOwn.empty w d).own;have hb0:Below w.heap.size w (w.alloc (.cells #[] 63)):=(Below.refl _ _).alloc (Nat.le_refl _) _;cases a with
 |none=>
  obtain rfl:es=[]:=by
   cases es with
   |nil=>rfl
   |cons x xs=>have:=(ha 0 (by simp)).1;cases this
  exact(cloneE_nil c w).mono fun e w' ⟨he,hw⟩=>⟨⟨.slice none 0 0,he,.inl ⟨rfl,none,0,rfl,Nat.zero_le _⟩⟩,hw▸Below.refl _ _⟩
 |some ad=>
  have hfl:∃us:List Value,us.length=es.length∧(∀u∈us,u.oneCell'=true)∧(∀j u,(ec us es)[j]?=some u→(w.alloc (.cells #[] 63)).cell? (ad.add j)=some u)∧(es≠ []→ad=⟨b,o,none⟩∧b<w.heap.size∧∀j u,(ec us es)[j]?=some u→w.cell? ⟨b,o+j,none⟩=some u):=by
   by_cases hne:es=[]
   ·subst hne;exact⟨[],rfl,by simp,fun j u hu=>by simp[ec]at hu,fun h=>absurd rfl h⟩
   ·obtain⟨hb,hlt,_,hL⟩:=ha 0 (List.length_pos_iff.2 hne);cases hb;obtain⟨us,h1,h2,h3,h4⟩:=KidsIs.flat hG hL;have h5:∀j u,(ec us es)[j]?=some u→w.cell? ⟨b,o+j,none⟩=some u:=fun j u hu=>by have:=h4 j u hu;rwa [add_plain]at this
    exact⟨us,h1,h3,fun j u hu=>by rw[add_plain];exact(cb8 (bA8 _ _ _ hlt)).trans (h5 j u hu),fun _=>⟨rfl,hlt,h5⟩⟩
  obtain⟨us,hul,hone,hcl,hold⟩:=hfl;go_enter Tryz.func157,Tryz.ntmps157;go_wp2_with(at_builtin;refine wpList_append_own _ rfl _ _ 61 rfl w.heap.size 63 i0 _ 7 88 Tryz.underlying61 hi hz0 hz1 hz2 rfl (by decide) _ _ _ rfl he ad es.length c (ec us es) rfl (ec_len hul) hcl (ec_one hone) ?c3 ?c4 ?c5 ?_)
  case c3=>unfold maxLen;simp;omega
  case c4=>simp;omega
  case c5=>simp
  intro v5 w5 hown5 hgr5 _;have hown6:w5.ownsRow w.heap.size 63 7 v5 es.length (ec us es):=by simpa [ec]using hown5
  have bel:Below w.heap.size w w5:=hb0.grown hgr5 (by simp) (fun k hk=>by simp[Value.ownBlock]at hk;omega);have hcl5:ClOf w5 w.heap.size (.slice (some ad) es.length c) v5 es.length:=by
   have hlt5:=ownsE_lt hown6;rcases hown6.2 with⟨rfl,h0⟩|⟨g,cap,cur,rfl,hg,hcc,hn',hm,hsz,ht⟩
   ·exact .inl ⟨h0,none,0,rfl,Nat.zero_le _⟩
   ·by_cases hne:es=[]
    ·left;subst hne;exact⟨rfl,_,cap,rfl,hm⟩
    ·right;obtain⟨rfl,hbl,hcell⟩:=hold hne;refine⟨b,o,c,g,cap,rfl,rfl,hg,(hlt5 g rfl).2,hn',hm,fun q=>by simp[World.frozen?,hcc],fun j hj=>?_⟩;have hj':j<(ec us es).length:=by rw[ec_len hul];exact hj
     obtain⟨x,h1⟩:∃x,(ec us es)[j]?=some x:=⟨(ec us es)[j],by simp[hj']⟩;rw[(cb8 (bel.block b hbl)).trans (hcell j _ h1)];simp only[World.cell?,hcc];rw[←ht,List.getElem?_take,if_pos hj,Array.getElem?_toList]at h1
     simpa using h1
  clear hown5 hgr5 hcl he hown6 hold ha;go_wp2;refine bodyPost_ret (v:=v5) (by simp[results,Tryz.results157,go_sem]) rfl ⟨⟨v5,rfl,hcl5⟩,bel⟩
end
section
open Go.RowKit
theorem KidsIs.cellsF {w:World}:∀ {d:Nat} {v:Value} {es:List E7} {F:List Nat},KidsIs w d v es F→∀b∈F,∃c t l,w.heap[b]?=some (.cells c t l)
 |0,_,_,_,h=>h.elim
 |d+1,v,es,F,h=>by
  obtain⟨a,c,G,rfl,_,_,hG,h0,h⟩:=h;by_cases hne:es=[]
  ·rw[h0 hne];intro b hb;cases hb
  obtain⟨b,o,rfl,hlt,rfl,hL⟩:=h hne;intro x hx;have hp:0<es.length:=List.length_pos_iff.2 hne;have hpG:0<G.length:=by omega
  rcases List.mem_cons.1 hx with rfl|hx
  ·obtain⟨_,⟨hc,_⟩,_⟩:=hL 0 es[0] G[0] (by simp) (by simp);exact cells_of hc
  obtain⟨g,hg,hxg⟩:=List.mem_flatten.1 hx;obtain⟨i,hi,rfl⟩:=List.mem_iff_getElem.1 hg;have hi':i<es.length:=by omega
  obtain⟨_,_,u,_,hk⟩:=hL i es[i] G[i] (by simp) (by simp);exact hk.cellsF x hxg
theorem KidsIs.frF {w:World}{d N:Nat}{v:Value}{es:List E7}{F:List Nat}(h:KidsIs w d v es F)(ho:Own w N F):∀b∈F,Fr w b:=fun b hb=>⟨h.cellsF b hb,(ho.2 b hb).2⟩
theorem Own.dst {w:World}{N d:Nat}{v:Value}{es:List E7}{F:List Nat}(ho:Own w N F)(h:KidsIs w d v es F):F.Nodup∧∀b∈F,Fr w b:=⟨ho.1,h.frF ho⟩
end
end
end Go.Proofs.YtjhhmnjpojnoiaaGreatDoor
