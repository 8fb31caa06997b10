/- Own texts, joined: contracts that the law's proof goes by. -/
import Derived.Test.YteekfcdllaceoaaGreatDoorGLAnswer1
import Derived.Handy
import Derived.Laws.AppendOwnNone
import Derived.Deep.AppendLies
import Derived.Deep.RegionHeld3
import Derived.Laws.OwnMore
import Derived.Deep.DrawnRows
import Derived.Test.YteekfcdllaceoaaGreatDoorGLAnswer2
import Derived.Shelf.SlSortCmp.WholeK
import Derived.Lib.QuietBelow
import Derived.RangeFuncNested
import Derived.RangeFuncBound
import Derived.RangeFuncCalls
import Derived.RangeFuncLeaves
import Derived.Shelf.Abstract
import Derived.WalkKit
import Derived.OwnWalkIn
import Derived.TacticsInMore
import Derived.LoopNIn
import Derived.LoopIn
import Derived.OrdersIn
import Derived.Maps.RangeWalk
import Derived.RangeFuncBox
set_option maxHeartbeats 16000000
set_option maxRecDepth 100000
set_option linter.unusedVariables false
set_option linter.unusedSimpArgs false
namespace Go.Proofs.YteekfcdllaceoaaGreatDoor
section
open Go.RowKit Go.Deep Go.ChangeShapes Go.WideShapes
def rc (vs:List V3):List Value:=(List.range (vs.length*3)).map (cf vs)
theorem A1r (vs:List V3):(rc vs).length=vs.length*3:=by simp[rc]
theorem A1w (vs:List V3):∀u∈rc vs,u.oneCell'=true:=by
 intro u hu;obtain⟨j,_,rfl⟩:=List.mem_map.1 hu;unfold cf;split
 ·rfl
 ·split<;>rfl
theorem A3I {w:World}{b o:Nat}{vs:List V3}(h:A0h w b o vs):∀j u,(rc vs)[j]?=some u->w.cell? ((⟨b,o,none⟩:Addr).add j)=some u:=by
 intro j u hu;have hj:j<vs.length*3:=by have:=(gE1 hu).1;rwa [A1r]at this
 have e:u=cf vs j:=by simp[rc,hj]at hu;exact hu.symm
 rw[add_plain,e];exact A15.1 h j hj
theorem A0S {w:World}{N n:Nat}{v:Value}{vs:List V3}{t:TypeId}(h:w.ownsRow N t 3 v n (rc vs)):∃g,D9 w v vs g/\D5 w N g:=by
 obtain⟨hl,h⟩:=h;rw[A1r]at hl;obtain rfl:n=vs.length:=by omega
 by_cases hne:vs=[]
 ·refine⟨[],?_,by simp[D5,N9]⟩;subst hne;rcases h with⟨rfl,_⟩|⟨g,cap,cur,rfl,_,_,hn,hm,_⟩
  ·exact⟨none,0,rfl,Nat.le_refl _,by simp,fun _=>rfl,fun _=>rfl,fun x=>absurd rfl x⟩
  ·exact⟨_,cap,rfl,hn,hm,(fun x=>by cases x),fun _=>rfl,fun x=>absurd rfl x⟩
 have hp:0<vs.length:=List.length_pos_iff.2 hne;rcases h with⟨_,h0⟩|⟨g,cap,cur,rfl,hg,hc,hn,hm,hs,ht⟩
 ·omega
 have hlt:g<w.heap.size:=by
  rcases Nat.lt_or_ge g w.heap.size with h'|h'
  ·exact h'
  ·simp[Array.getElem?_eq_none h']at hc
 refine⟨[g],⟨_,cap,rfl,hn,hm,(fun x=>by cases x),fun x=>absurd x hne,fun _=>⟨g,0,rfl,hlt,rfl,A15.2 fun j hj=>?_⟩⟩,by simp,by simpa using hg,fun b hb o=>?_⟩
 ·rw[Nat.zero_add];simp only[World.cell?,hc];have h1:(cur.toList.take (vs.length*3))[j]?=some (cf vs j):=by rw[ht];simp[rc,hj]
  rw[List.getElem?_take,if_pos hj,Array.getElem?_toList]at h1
  simpa using h1
 ·rcases List.mem_singleton.1 hb with rfl;simp[World.frozen?,hc]
theorem A52 (w:World)(t:TypeId)(n:Nat):(w.alloc (.cells #[] t)).ownsRow w.heap.size t n (.slice (some ⟨w.heap.size,0,none⟩) 0 0) 0 []:=
 ⟨by simp,.inr ⟨w.heap.size,0,#[],rfl,Nat.le_refl _,heap_alloc_new w _,Nat.le_refl _,by simp,by simp,by simp⟩⟩
theorem A1G {w:World}{N H:Nat}(hH:w.heap.size=H)(hN:N<=H)(t:TypeId)(n:Nat):(w.alloc (.cells #[] t)).ownsRow N t n (.slice (some ⟨H,0,none⟩) 0 0) 0 []:=by
 subst hH;exact⟨by simp,.inr ⟨w.heap.size,0,#[],rfl,hN,heap_alloc_new w _,Nat.le_refl _,by simp,by simp,by simp⟩⟩
theorem A3m (v:Value)(vs:List V3)(g0:List Nat)(w:World)(hr:D9 w v vs g0)(hn:vs.length<=1048576):Calls Tryz.prog 74 #[v] w fun e w'=>(∃u g,e=.returned u/\D9 w' u vs g/\D5 w' w.heap.size g)/\Below w.heap.size w w':=by
 obtain⟨i0,hi,hz0,hz1,hz2⟩:=info_parts Tryz.infoVal;obtain⟨a,c,rfl,hl,hc,hz,_,h⟩:=hr;have he:=A52 w 39 3;have hb0:Below w.heap.size w (w.alloc (.cells #[] 39)):=(Below.refl _ _).alloc lr8 _;cases a with
 |none=>
  obtain rfl:=hz rfl;obtain rfl:vs=[]:=List.length_eq_zero_iff.1 (by omega);go_enter Tryz.func74,Tryz.ntmps74;go_wp2;go_returns;obtain⟨g,hg⟩:=A0S (vs:=[]) he
  first|exact⟨⟨_,g,rfl,hg⟩,bex⟩|exact⟨⟨_,rfl,g,hg⟩,bex⟩
 |some ad=>
  have hcl:∀j u,(rc vs)[j]?=some u->(w.alloc (.cells #[] 39)).cell? (ad.add j)=some u:=by
   by_cases hne:vs=[]
   ·subst hne;intro j u hu;simp[rc]at hu
   ·obtain⟨b,o,hb,hlt,_,hL⟩:=h hne;cases hb;exact A3I (hL.below hb0 hlt)
  go_enter Tryz.func74,Tryz.ntmps74;go_wp2_with(at_builtin;refine wpList_append_own _ rfl _ _ 114 rfl w.heap.size 39 i0 _ 3 32 Tryz.underlying114 hi hz0 hz1 hz2 rfl (by decide) _ _ _ rfl he ad vs.length c (rc vs) rfl (A1r vs) hcl (A1w vs) ?c3 ?c4 ?c5 ?_)
  case c3=>unfold maxLen;omega
  case c4=>omega
  case c5=>simp
  intro v5 w5 D4 hgr5 _;obtain⟨g,hg⟩:=A0S (vs:=vs) (by simpa using D4);have bel:Below w.heap.size w w5:=hb0.grown hgr5 (by simp) (fun k hk=>by simp[Value.ownBlock]at hk;omega);clear D4 hgr5 hcl he;go_wp2;go_returns;exact⟨⟨_,g,rfl,hg⟩,bel⟩
def cc (us:List Value)(cs:List C2):List Value:=(us.zip cs).flatMap fun p=>[p.1,.int .i64 p.2.n]
theorem A2l {us:List Value}{cs:List C2}(h:us.length=cs.length):(cc us cs).length=cs.length*2:=by
 unfold cc;induction us generalizing cs with
 |nil=>cases cs with|nil=>rfl|cons=>simp at h
 |cons u us ih=>
  cases cs with
  |nil=>simp at h
  |cons c cs=>
   have:=ih (cs:=cs) (by simpa using h);rw[List.zip_cons_cons,List.flatMap_cons,List.length_append,this];simp;omega
theorem C1N {us:List Value}{cs:List C2}(h:us.length=cs.length)(u:Value)(x:C2):cc (us++ [u]) (cs++ [x])=cc us cs++ [u,.int .i64 x.n]:=by
 unfold cc;rw[List.zip_append h,List.flatMap_append];simp
theorem B00 {us:List Value}{cs:List C2}(h:us.length=cs.length):∀ {i:Nat} {u:Value} {x:C2},us[i]?=some u->cs[i]?=some x->(cc us cs)[i*2]?=some u/\(cc us cs)[i*2+1]?=some (.int .i64 x.n):=by
 induction us generalizing cs with
 |nil=>intro i u x hu;simp at hu
 |cons v us ih=>
  cases cs with
  |nil=>simp at h
  |cons c cs=>
   intro i u x hu hx;have e:cc (v::us) (c::cs)=v:: .int .i64 c.n::cc us cs:=by unfold cc;rw[List.zip_cons_cons,List.flatMap_cons];rfl
   rw[e];cases i with
   |zero=>simp at hu hx;subst hu hx;simp
   |succ i=>
    have:=ih (cs:=cs) (by simpa using h) (i:=i) (u:=u) (x:=x) (by simpa using hu) (by simpa using hx);rw[show(i+1)*2=i*2+1+1 from by omega]
    simpa using this
structure C4 (w:World)(N:Nat)(v:Value)(cs:List C2)(us:List Value)(G:List (List Nat)):Prop where
 own:w.ownsRow N 116 2 v cs.length (cc us cs)
 ul:us.length=cs.length
 gl:G.length=cs.length
 row:∀ (i:Nat) (x:C2) (u:Value) (g:List Nat),cs[i]?=some x->us[i]?=some u->G[i]?=some g->D9 w u x.r g
 free:D5 w N G.flatten
 out:∀b,v.ownBlock=some b->b∉G.flatten
theorem C4.nil (w:World)(N:Nat):C4 w N (.slice none 0 0) [] [] []:=
 ⟨⟨rfl,.inl ⟨rfl,rfl⟩⟩,rfl,rfl,fun i x u g hx=>by simp at hx,by simp[D5,N9],fun b _=>by simp⟩
theorem oL8 {w:World}{N e n s:Nat}{v:Value}{xs:List Value}(h:w.ownsRow N e s v n xs):∀b,v.ownBlock=some b->N<=b/\b<w.heap.size:=by
 intro b hb;rcases h.2 with⟨rfl,_⟩|⟨g,cap,cur,rfl,hg,hc,_⟩
 ·simp[Value.ownBlock]at hb
 ·simp[Value.ownBlock]at hb;subst hb;refine⟨hg,?_⟩;rcases Nat.lt_or_ge g w.heap.size with h'|h'
  ·exact h'
  ·simp[Array.getElem?_eq_none h']at hc
theorem oK8 {w w':World}{N e n s:Nat}{v:Value}{xs:List Value}(h:w.ownsRow N e s v n xs)(hb:∀b,v.ownBlock=some b->w'.heap[b]?=w.heap[b]?):w'.ownsRow N e s v n xs:=by
 refine⟨h.1,?_⟩;rcases h.2 with hn|⟨g,cap,cur,rfl,hg,hc,rest⟩
 ·exact .inl hn
 ·exact .inr ⟨g,cap,cur,rfl,hg,(hb g rfl).trans hc,rest⟩
theorem C4.lt {w:World}{N:Nat}{v:Value}{cs:List C2}{us:List Value}{G:List (List Nat)}(h:C4 w N v cs us G):∀b∈G.flatten,b<w.heap.size:=by
 intro b hb;obtain⟨g,hg,hbg⟩:=List.mem_flatten.1 hb;obtain⟨i,hi,rfl⟩:=List.mem_iff_getElem.1 hg;have h1:=h.gl;have h2:=h.ul;have hi1:i<cs.length:=by omega
 have hi2:i<us.length:=by omega
 exact(h.row i cs[i] us[i] G[i] (by simp) (by simp) (by simp)).lt b hbg
theorem C4.keep {w w':World}{N:Nat}{v:Value}{cs:List C2}{us:List Value}{G:List (List Nat)}(h:C4 w N v cs us G)(hs:w.heap.size<=w'.heap.size)(hb:∀b,N<=b->b<w.heap.size->w'.heap[b]?=w.heap[b]?):C4 w' N v cs us G:=by
 have hk:∀b∈G.flatten,w'.heap[b]?=w.heap[b]?:=fun b hbG=>hb b (h.free.2.1 b hbG) (h.lt b hbG);refine⟨oK8 h.own fun b hv=>hb b (oL8 h.own b hv).1 (oL8 h.own b hv).2,h.ul,h.gl,fun i x u g hx hu hg=>(h.row i x u g hx hu hg).keep hs fun b hbg=>hk b (List.mem_flatten.2 ⟨g,mg8 hg,hbg⟩),h.free.keep hk,h.out⟩
theorem C4.below {w w':World}{N:Nat}{v:Value}{cs:List C2}{us:List Value}{G:List (List Nat)}(h:C4 w N v cs us G)(hb:Below w.heap.size w w'):C4 w' N v cs us G:=h.keep hb.size fun b _ hlt=>hb.block b hlt
theorem C4.push {w w':World}{N:Nat}{v v' u:Value}{cs:List C2}{us:List Value}{G:List (List Nat)}{x:C2}{g:List Nat}(h:C4 w N v cs us G)(hR:D9 w u x.r g)(hO:D5 w N g)(hd1:∀b∈G.flatten,b∉g)(hd2:∀b,v.ownBlock=some b->b∉g)(ho:w'.ownsRow N 116 2 v' (cs.length+1) (cc us cs++ [u,.int .i64 x.n])) (hg:w.grownBy w' v.ownBlock) (hat:∀b,v'.ownBlock=some b->v.ownBlock=some b\/w.heap.size<=b):C4 w' N v' (cs++ [x]) (us++ [u]) (G++ [g]):=by
 have hG:=h.lt;have hm:∀b∈(G++ [g]).flatten,b∈G.flatten\/b∈g:=by intro b hb;simpa using hb
 have hlt:∀b∈(G++ [g]).flatten,b<w.heap.size:=fun b hb=>(hm b hb).elim (hG b) (hR.lt b);have hne:∀b∈(G++ [g]).flatten,some b≠v.ownBlock:=fun b hb e=>(hm b hb).elim (h.out b e.symm) (hd2 b e.symm);have hk:∀b∈(G++ [g]).flatten,w'.heap[b]?=w.heap[b]?:=fun b hb=>hg.block b (hlt b hb) (hne b hb);refine⟨?_,by simp[h.ul],by simp[h.gl],fun i y z q hy hz hq=>?_,?_,fun b hb=>?_⟩
 ·rw[C1N h.ul];simpa using ho
 ·by_cases hi:i<cs.length
  ·rw[List.getElem?_append_left hi]at hy;rw[List.getElem?_append_left (by rw[h.ul];exact hi)]at hz;rw[List.getElem?_append_left (by rw[h.gl];exact hi)]at hq;exact(h.row i y z q hy hz hq).keep hg.size fun b hb=>hk b (by simp;exact .inl ⟨q,mg8 hq,hb⟩)
  ·have hl:i<(cs++ [x]).length:=(gE1 hy).1;obtain rfl:i=cs.length:=by simp at hl;omega
   rw[List.getElem?_append_right lr8]at hy;rw[List.getElem?_append_right (by rw[h.ul];exact Nat.le_refl _)]at hz;rw[List.getElem?_append_right (by rw[h.gl];exact Nat.le_refl _)]at hq;simp[h.ul,h.gl]at hy hz hq;subst hy hz hq;exact hR.keep hg.size fun b hb=>hk b (by simp;exact .inr hb)
 ·refine D5.keep (w:=w) ⟨?_,fun b hb=>(hm b hb).elim (h.free.2.1 b) (hO.2.1 b),fun b hb=>(hm b hb).elim (h.free.2.2 b) (hO.2.2 b)⟩ hk;rw[List.flatten_append,List.nodup_append];refine⟨h.free.1,by simpa using hO.1,fun a ha b hb=>?_⟩;rintro rfl;exact hd1 a ha (by simpa using hb)
 ·intro hx;rcases hat b hb with e|e
  ·exact hne b hx e.symm
  ·have:=hlt b hx;omega
theorem C4.weak {w:World}{N M:Nat}{v:Value}{cs:List C2}{us:List Value}{G:List (List Nat)}(h:C4 w N v cs us G)(hM:M<=N):C4 w M v cs us G:=by
 refine⟨⟨h.own.1,?_⟩,h.ul,h.gl,h.row,⟨h.free.1,fun b hb=>Nat.le_trans hM (h.free.2.1 b hb),h.free.2.2⟩,h.out⟩;rcases h.own.2 with hn|⟨g,cap,cur,hv,hg,rest⟩
 ·exact .inl hn
 ·exact .inr ⟨g,cap,cur,hv,Nat.le_trans hM hg,rest⟩
theorem C4.shape {w:World}{N:Nat}{v:Value}{cs:List C2}{us:List Value}{G:List (List Nat)}(h:C4 w N v cs us G):∃a c,v=.slice a cs.length c:=by
 rcases h.own.2 with⟨rfl,h0⟩|⟨g,cap,cur,hv,_⟩
 ·exact⟨none,0,by rw[h0]⟩
 ·exact⟨_,cap,hv⟩
theorem C4.rowsF {w:World}{N:Nat}{v:Value}{cs:List C2}{us:List Value}{G:List (List Nat)}(h:C4 w N v cs us G):∃F,C6 w v cs F/\D5 w N F:=by
 have hlt:=oL8 h.own;have hGl:=h.lt;by_cases hne:cs=[]
 ·refine⟨[],?_,by simp[D5,N9]⟩;have hG:G=[]:=List.length_eq_zero_iff.1 (by rw[h.gl,hne];rfl);subst hne;rcases h.own.2 with⟨rfl,_⟩|⟨g,cap,cur,rfl,_,_,hn,hm,_⟩
  ·exact⟨none,0,G,rfl,Nat.le_refl _,by simp,fun _=>rfl,h.gl,fun _=>rfl,fun x=>absurd rfl x⟩
  ·exact⟨_,cap,G,rfl,hn,hm,(fun x=>by cases x),h.gl,fun _=>rfl,fun x=>absurd rfl x⟩
 have hp:0<cs.length:=List.length_pos_iff.2 hne;obtain⟨hl,ho⟩:=h.own;rcases ho with⟨_,h0⟩|⟨g,cap,cur,rfl,hg,hc,hn,hm,hs,ht⟩
 ·omega
 have hgo:g∉G.flatten:=h.out g rfl;refine⟨g::G.flatten,⟨_,cap,G,rfl,hn,hm,(fun x=>by cases x),h.gl,fun x=>absurd x hne,fun _=>⟨g,0,rfl,(hlt g rfl).2,rfl,fun i x q hx hq=>?_⟩⟩,List.nodup_cons.2 ⟨hgo,h.free.1⟩,fun b hb=>?_,fun b hb o=>?_⟩
 ·have hi:i<cs.length:=(gE1 hx).1;have hiu:i<us.length:=by rw[h.ul];exact hi
  obtain⟨e0,e1⟩:=B00 h.ul (i:=i) (u:=us[i]) (x:=x) (by simp) hx;have get:∀j u,j<cs.length*2->(cc us cs)[j]?=some u->w.cell? ⟨g,j,none⟩=some u:=by
   intro j u hj hu;simp only[World.cell?,hc];rw[<-ht,List.getElem?_take,if_pos hj,Array.getElem?_toList]at hu
   simpa using hu
  exact⟨us[i],by rw[Nat.zero_add];exact get _ _ (by omega) e0,h.row i x us[i] q hx (by simp) hq,by rw[Nat.zero_add];exact get _ _ (by omega) e1⟩
 ·rcases List.mem_cons.1 hb with rfl|hb
  ·exact hg
  ·exact h.free.2.1 b hb
 ·rcases List.mem_cons.1 hb with rfl|hb
  ·simp[World.frozen?,hc]
  ·exact h.free.2.2 b hb o
theorem B8j {us:List Value}{cs:List C2}(h:us.length=cs.length){k:Nat}{x:C2}(hk:cs[k]?=some x)(m:Int):cc us (cs.set k ⟨x.r,m⟩)=(cc us cs).set (k*2+1) (.int .i64 m):=by
 induction us generalizing cs k with
 |nil=>cases cs with|nil=>simp at hk|cons=>simp at h
 |cons v us ih=>
  cases cs with
  |nil=>simp at h
  |cons c cs=>
   have e:∀ (c:C2) (cs:List C2),cc (v::us) (c::cs)=v:: .int .i64 c.n::cc us cs:=by intro c cs;unfold cc;rw[List.zip_cons_cons,List.flatMap_cons];rfl
   cases k with
   |zero=>rw[List.set_cons_zero,e,e];rfl
   |succ k=>
    rw[List.set_cons_succ,e,e,ih (cs:=cs) (by simpa using h) (by simpa using hk)];rw[show(k+1)*2+1=(k*2+1)+1+1 from by omega];rfl
theorem C4.setN {w:World}{N g l cap:Nat}{cs:List C2}{us:List Value}{G:List (List Nat)}(h:C4 w N (.slice (some ⟨g,0,none⟩) l cap) cs us G){k:Nat}{x:C2}(hk:cs[k]?=some x)(m:Int):C4 (w.setCell ⟨g,k*2+1,none⟩ (.int .i64 m)) N (.slice (some ⟨g,0,none⟩) l cap) (cs.set k ⟨x.r,m⟩) us G:=by
 have hkl:k<cs.length:=(gE1 hk).1;have A2o:g∉G.flatten:=h.out g rfl;have hb:∀b∈G.flatten,(w.setCell ⟨g,k*2+1,none⟩ (.int .i64 m)).heap[b]?=w.heap[b]?:=fun b hb=>bS8 _ _ _ _ (by rintro rfl;exact A2o hb);refine⟨?_,by rw[List.length_set];exact h.ul,by rw[List.length_set];exact h.gl,fun i y u q hy hu hq=>?_,h.free.keep hb,h.out⟩
 ·obtain⟨hl,ho⟩:=h.own;rw[List.length_set,B8j h.ul hk];refine⟨by rw[List.length_set];exact hl,.inr ?_⟩;rcases ho with⟨h0,_⟩|⟨g',cap',cur,hv,hg,hc,hn,hm,hs,ht⟩
  ·cases h0
  cases hv;refine⟨g,cap,cur.setIfInBounds (k*2+1) (.int .i64 m),rfl,hg,?_,hn,hm,by simpa using hs,?_⟩
  ·simp[World.setCell,Array.getElem?_modify,hc]
  ·rw[<-ht,Array.toList_setIfInBounds,List.take_set]
 ·by_cases e:i=k
  ·subst e;rw[List.getElem?_set_self (by omega)]at hy;have hy:=Option.some.inj hy;subst hy;exact(h.row i x u q hk hu hq).keep (by simp) fun b hbq=>hb b (List.mem_flatten.2 ⟨q,mg8 hq,hbq⟩)
  ·rw[List.getElem?_set_ne (Ne.symm e)]at hy;exact(h.row i y u q hy hu hq).keep (by simp) fun b hbq=>hb b (List.mem_flatten.2 ⟨q,mg8 hq,hbq⟩)
def A1v (w:World)(size:Nat)(sv:Value)(m:Nat)(news:List Value):Prop:=news.length=m*size/\(sv=.slice none 0 0/\m=0\/∃ad c,sv=.slice (some ad) m c/\∀j u,news[j]?=some u->w.cell? (ad.add j)=some u)
theorem A0f {P:Program}(w:World){ops:Array Oper}{o:Oper}{a:Act}{K:Act->World->Prop}{Q:Exit->Act->World->Prop}{E:Prop}(hgd:o.guard=none)(s x:Operand)(t:TypeId)(ho:o.op=.call {callee:=.builtin .append,args:=#[s,x],argTypes:=#[t,t]})(base:Nat) (e:TypeId) (i:TypeInfo) (z:Value) (size bytes:Nat) (ht:P.underlying t=some (.slice e)) (hi:P.info? e=some i) (hz:i.zero=some z)(hsize:i.size=size) (hby:i.bytes=bytes) (hzs:z.cells.size=size) (hsz:0<size)(v:Value) (n:Nat) (xs:List Value) (hs:a.eval s=v) (D2:w.ownsRow base e size v n xs)(sv:Value) (m:Nat) (news:List Value) (hx:a.eval x=sv) (A06:A1v w size sv m news) (h1:∀u∈news,u.oneCell'=true)(h63:n+m<=maxLen) (hbytes:(n+m)*bytes<=140737488355328) (A1V:base<=w.heap.size)(h:∀v' w',w'.ownsRow base e size v' (n+m) (xs++news)->w.grownBy w' v.ownBlock->(v'.ownBlock=v.ownBlock\/v'.ownBlock=some w.heap.size)->K (a.put o.dst v') w'):if Region.wanted o (yielded ops a.tmps)=true then Oper.wp P o a w K Q else E:=by
 have hw:Region.wanted o (yielded ops a.tmps)=true:=by simp[Region.wanted,hgd]
 rw[if_pos hw];have key:∃v' w',(Builtin.append_ #[t,t] o.type #[v,sv]).run P w=.ok v' w'/\w'.ownsRow base e size v' (n+m) (xs++news)/\w.grownBy w' v.ownBlock/\(v'.ownBlock=v.ownBlock\/v'.ownBlock=some w.heap.size):=by
  obtain⟨hl,⟨rfl,rfl⟩|⟨ad,c,rfl,hc⟩⟩:=A06
  ·have hn:news=[]:=List.eq_nil_of_length_eq_zero (by simpa using hl);subst hn;exact⟨v,w,run_append_owned_none w base t o.type e i size ht hi v n xs D2,by simpa using D2,⟨rfl,rfl,rfl,Nat.le_refl _,fun _ _ _=>rfl⟩,.inl rfl⟩
  ·obtain⟨v',w',hr,h2,h3,_,h5⟩:=run_append_own_at (P:=P) w base t o.type e i z size bytes ht hi hz hsize hby hzs hsz v n xs D2 ad m c news hl hc h1 h63 hbytes A1V;exact⟨v',w',hr,h2,h3,h5⟩
 obtain⟨v',w',hr,h2,h3,h4⟩:=key;unfold Oper.wp execOp;simp only[ho,resolve,invoke,builtin,Sem.run_bind,Sem.run_pure,Result.andThen_ok,List.map_toArray,List.map_cons,List.map_nil,hs,hx,hr];exact h v' w' h2 h3 h4
theorem A7T {us vs:List Value}{cs ds:List C2}(h:us.length=cs.length):cc (us++vs) (cs++ds)=cc us cs++cc vs ds:=by
 unfold cc;rw[List.zip_append h,List.flatMap_append]
theorem B1c {us:List Value}{cs:List C2}(h:us.length=cs.length)(k:Nat)(hk:k<=cs.length):cc us cs=cc (us.take k) (cs.take k)++cc (us.drop k) (cs.drop k):=by
 rw[<-A7T (by simp[h]),List.take_append_drop,List.take_append_drop]
theorem A2h {us:List Value}{cs:List C2}(hu:∀u∈us,u.oneCell'=true):∀u∈cc us cs,u.oneCell'=true:=by
 intro u h;obtain⟨p,hp,hq⟩:=List.mem_flatMap.1 h;have:=(List.of_mem_zip hp).1;simp at hq;rcases hq with rfl|rfl
 ·exact hu _ this
 ·rfl
theorem C4.one {w:World}{N:Nat}{v:Value}{cs:List C2}{us:List Value}{G:List (List Nat)}(h:C4 w N v cs us G):∀u∈us,u.oneCell'=true:=by
 intro u hu;obtain⟨i,hi,rfl⟩:=List.mem_iff_getElem.1 hu;have h1:i<cs.length:=by rw[<-h.ul];exact hi
 have h2:i<G.length:=by rw[h.gl];exact h1
 obtain⟨a,c,e,_⟩:=h.row i cs[i] us[i] G[i] (by simp) (by simp) (by simp);rw[e];rfl
theorem C4.src1 {w w':World}{N:Nat}{av:Option Addr}{l cap:Nat}{cs:List C2}{us:List Value}{G:List (List Nat)}(h:C4 w N (.slice av l cap) cs us G)(hb:Below w.heap.size w w'){k:Nat}(hk:k<=cs.length):A1v w' 2 (.slice av k cap) k (cc (us.take k) (cs.take k)):=by
 refine⟨by rw[A2l (by simp[h.ul])];simp;omega,?_⟩;obtain⟨hl,ho⟩:=h.own;have hlt:=oL8 h.own;rcases ho with⟨e,h0⟩|⟨g,cap',cur,e,hg,hc,hn,hm,hs,ht⟩
 ·cases e;left;have:k=0:=by omega
  subst this;exact⟨rfl,rfl⟩
 cases e;refine .inr ⟨_,_,rfl,fun j u hu=>?_⟩;have hj:j<k*2:=by have:=(gE1 hu).1;rw[A2l (by simp[h.ul])]at this;simp at this;omega
 rw[add_plain,Nat.zero_add,hb.cell (p:=⟨g,_,none⟩) (hlt g rfl).2];have e2:=B1c h.ul k hk;have hu2:(cc us cs)[j]?=some u:=by rw[e2,List.getElem?_append_left (by exact(gE1 hu).1)];exact hu
 simp only[World.cell?,hc];rw[<-ht,List.getElem?_take,if_pos (by omega),Array.getElem?_toList]at hu2
 simpa using hu2
theorem C4.src2 {w w':World}{N:Nat}{av:Option Addr}{l cap:Nat}{cs:List C2}{us:List Value}{G:List (List Nat)}(h:C4 w N (.slice av l cap) cs us G)(hb:Below w.heap.size w w'){k:Nat}(hk:k<=cs.length):A1v w' 2 (.slice (if cap=k then av else av.map fun p=>p.add (k*2)) (cs.length -k) (cap -k)) (cs.length -k) (cc (us.drop k) (cs.drop k)):=by
 refine⟨by rw[A2l (by simp[h.ul])];simp,?_⟩;obtain⟨hl,ho⟩:=h.own;have hlt:=oL8 h.own;rcases ho with⟨e,h0⟩|⟨g,cap',cur,e,hg,hc,hn,hm,hs,ht⟩
 ·cases e;left;have:k=0:=by omega
  subst this;simp[h0]
 cases e;right;by_cases hck:cap=k
 ·have hz:cs.length -k=0:=by omega
  refine⟨_,_,by rw[if_pos hck],fun j u hu=>?_⟩;have:=(gE1 hu).1;rw[A2l (by simp[h.ul])]at this;simp at this;omega
 refine⟨_,_,by rw[if_neg hck];rfl,fun j u hu=>?_⟩;have hj:j<(cs.length -k)*2:=by have:=(gE1 hu).1;rw[A2l (by simp[h.ul])]at this;simpa using this
 dsimp only;rw[add_plain,add_plain,Nat.zero_add,hb.cell (p:=⟨g,_,none⟩) (hlt g rfl).2];have e2:=B1c h.ul k hk;have B6o:(cc (us.take k) (cs.take k)).length=k*2:=by rw[A2l (by simp[h.ul])];simp;omega
 have hu2:(cc us cs)[k*2+j]?=some u:=by rw[e2,List.getElem?_append_right (by omega),B6o,Nat.add_sub_cancel_left];exact hu
 simp only[World.cell?,hc];rw[<-ht,List.getElem?_take,if_pos (by omega),Array.getElem?_toList]at hu2
 simpa using hu2
theorem C4.cut {w w':World}{N:Nat}{v v':Value}{cs:List C2}{us:List Value}{G:List (List Nat)}(h:C4 w N v cs us G)(hN:N<=w.heap.size)(hb:Below w.heap.size w w'){k:Nat}(hk:k<cs.length){B:Nat}(hB:w.heap.size<=B)(ho:w'.ownsRow B 116 2 v' (k+(cs.length - (k+1))) (cc (us.take k) (cs.take k)++cc (us.drop (k+1)) (cs.drop (k+1)))):C4 w' N v' (cs.take k++cs.drop (k+1)) (us.take k++us.drop (k+1)) (G.take k++G.drop (k+1)):=by
 have P4:∀b∈(G.take k++G.drop (k+1)).flatten,b∈G.flatten:=by
  intro b hm;obtain⟨q,hq,hbq⟩:=List.mem_flatten.1 hm;refine List.mem_flatten.2 ⟨q,?_,hbq⟩;rcases List.mem_append.1 hq with h1|h1
  ·exact List.mem_of_mem_take h1
  ·exact List.mem_of_mem_drop h1
 have C2C:∀b∈(G.take k++G.drop (k+1)).flatten,w'.heap[b]?=w.heap[b]?:=fun b hm=>hb.block b (h.lt b (P4 b hm));have hul:=h.ul;have hgl:=h.gl;refine⟨?_,by simp[hul],by simp[hgl],fun i y u q hy hu hq=>?_,?_,fun b hv hm=>?_⟩
 ·rw[A7T (by simp[hul])];have:=oL8 ho;rw[show(cs.take k++cs.drop (k+1)).length=k+(cs.length - (k+1))from by simp;omega];refine⟨ho.1,?_⟩;rcases ho.2 with hn|⟨g,cap,cur,e,hg,rest⟩
  ·exact .inl hn
  ·exact .inr ⟨g,cap,cur,e,by omega,rest⟩
 ·have hi:∃j:Nat,cs[j]?=some y/\us[j]?=some u/\G[j]?=some q:=by
   by_cases hlt:i<k
   ·rw[List.getElem?_append_left (by simp;omega),List.getElem?_take,if_pos hlt]at hy hu hq;exact⟨i,hy,hu,hq⟩
   ·rw[List.getElem?_append_right (by simp;omega),List.getElem?_drop]at hy hu hq;simp only[List.length_take,hul,hgl,Nat.min_eq_left (Nat.le_of_lt hk)]at hy hu hq;exact⟨_,hy,hu,hq⟩
  obtain⟨j,h1,h2,h3⟩:=hi;exact(h.row j y u q h1 h2 h3).keep hb.size fun b hbq=>hb.block b (h.lt b (List.mem_flatten.2 ⟨q,mg8 h3,hbq⟩))
 ·refine D5.keep (w:=w) ⟨?_,fun b hm=>h.free.2.1 b (P4 b hm),fun b hm=>h.free.2.2 b (P4 b hm)⟩ C2C;have hnd:=h.free.1;obtain⟨q,hq⟩:∃q,G.drop k=q::G.drop (k+1):=⟨G[k]'(by omega),List.drop_eq_getElem_cons (by omega)⟩;have e:G=G.take k++q::G.drop (k+1):=by rw[<-hq,List.take_append_drop]
  rw[e,List.flatten_append,List.flatten_cons,List.nodup_append]at hnd;rw[List.flatten_append,List.nodup_append];obtain⟨n1,n2,n3⟩:=hnd;exact⟨n1,(List.nodup_append.1 n2).2.1,fun a ha b hb'=>n3 a ha b (List.mem_append.2 (.inr hb'))⟩
 ·have h1:=(oL8 ho b hv).1;have h2:=h.lt b (P4 b hm);omega
theorem C4.put {w w1 w':World}{N:Nat}{v v' u0:Value}{cs:List C2}{us:List Value}{G:List (List Nat)}{x:C2}{g0:List Nat}(h:C4 w N v cs us G)(hN:N<=w.heap.size)(hb:Below w.heap.size w w1)(hR:D9 w1 u0 x.r g0)(hO:D5 w1 w.heap.size g0)(hb1:∀b,b<w.heap.size\/b∈g0->w'.heap[b]?=w1.heap[b]?)(hz:w1.heap.size<=w'.heap.size){k:Nat}(hk:k<=cs.length){B:Nat}(hB:w.heap.size<=B)(hv0:∀b,v'.ownBlock=some b->b∉g0)(ho:w'.ownsRow B 116 2 v' (k+1+(cs.length -k)) (cc (us.take k) (cs.take k)++ [u0,.int .i64 x.n]++cc (us.drop k) (cs.drop k))):C4 w' N v' (cs.take k++x::cs.drop k) (us.take k++u0::us.drop k) (G.take k++g0::G.drop k):=by
 have hul:=h.ul;have hgl:=h.gl;have O9:∀b∈(G.take k++g0::G.drop k).flatten,b∈G.flatten\/b∈g0:=by
  intro b hm;obtain⟨q,hq,hbq⟩:=List.mem_flatten.1 hm;rcases List.mem_append.1 hq with h1|h1
  ·exact .inl (List.mem_flatten.2 ⟨q,List.mem_of_mem_take h1,hbq⟩)
  ·rcases List.mem_cons.1 h1 with rfl|h1
   ·exact .inr hbq
   ·exact .inl (List.mem_flatten.2 ⟨q,List.mem_of_mem_drop h1,hbq⟩)
 have hk1:∀b∈G.flatten,w'.heap[b]?=w.heap[b]?:=fun b hm=>(hb1 b (.inl (h.lt b hm))).trans (hb.block b (h.lt b hm));have hk0:∀b∈g0,w'.heap[b]?=w1.heap[b]?:=fun b hm=>hb1 b (.inr hm);refine⟨?_,by simp[hul],by simp[hgl],fun i y u q hy hu hq=>?_,⟨?_,fun b hm=>?_,fun b hm o=>?_⟩,fun b hv hm=>?_⟩
 ·rw[A7T (by simp[hul])];have e:cc (u0::us.drop k) (x::cs.drop k)=[u0,.int .i64 x.n]++cc (us.drop k) (cs.drop k):=by unfold cc;rw[List.zip_cons_cons,List.flatMap_cons]
  rw[e,<-List.append_assoc,show(cs.take k++x::cs.drop k).length=k+1+(cs.length -k)from by simp;omega];refine⟨ho.1,?_⟩;rcases ho.2 with hn|⟨g,cap,cur,e,hg,rest⟩
  ·exact .inl hn
  ·exact .inr ⟨g,cap,cur,e,by omega,rest⟩
 ·have old:∀j:Nat,cs[j]?=some y->us[j]?=some u->G[j]?=some q->D9 w' u y.r q:=fun j h1 h2 h3=>
   (h.row j y u q h1 h2 h3).keep (Nat.le_trans hb.size hz) fun b hbq=>hk1 b (List.mem_flatten.2 ⟨q,mg8 h3,hbq⟩)
  by_cases hlt:i<k
  ·rw[List.getElem?_append_left (by simp;omega),List.getElem?_take,if_pos hlt]at hy hu hq;exact old i hy hu hq
  ·rw[List.getElem?_append_right (by simp;omega)]at hy hu hq;simp only[List.length_take,hul,hgl,Nat.min_eq_left hk]at hy hu hq;cases hik:i -k with
   |zero=>
    rw[hik]at hy hu hq;simp at hy hu hq;subst hy hu hq;exact hR.keep hz hk0
   |succ j=>
    rw[hik,List.getElem?_cons_succ,List.getElem?_drop]at hy hu hq;exact old _ hy hu hq
 ·have hnd:=h.free.1;rw[<-List.take_append_drop k G,List.flatten_append,List.nodup_append]at hnd;obtain⟨n1,n2,n3⟩:=hnd;rw[List.flatten_append,List.flatten_cons,List.nodup_append,List.nodup_append];have far:∀b,b∈g0->b∈G.flatten->False:=fun b h1 h2=>by have:=hO.2.1 b h1;have:=h.lt b h2;omega
  refine⟨n1,⟨hO.1,n2,fun a ha b hb' e=>?_⟩,fun a ha b hb' e=>?_⟩
  ·subst e;obtain⟨q,hq,hbq⟩:=List.mem_flatten.1 hb';exact far a ha (List.mem_flatten.2 ⟨q,List.mem_of_mem_drop hq,hbq⟩)
  ·rcases List.mem_append.1 hb' with h1|h1
   ·subst e;obtain⟨q,hq,hbq⟩:=List.mem_flatten.1 ha;exact far a h1 (List.mem_flatten.2 ⟨q,List.mem_of_mem_take hq,hbq⟩)
   ·exact n3 a ha b h1 e
 ·rcases O9 b hm with h1|h1
  ·exact h.free.2.1 b h1
  ·have:=hO.2.1 b h1;omega
 ·rcases O9 b hm with h1|h1
  ·exact(fb8 (hk1 b h1)).trans (h.free.2.2 b h1 o)
  ·exact(fb8 (hk0 b h1)).trans (hO.2.2 b h1 o)
 ·rcases O9 b hm with h1|h1
  ·have h2:=(oL8 ho b hv).1;have h3:=h.lt b h1;omega
  ·exact hv0 b hv h1
theorem C4.keepO {w w':World}{N:Nat}{v:Value}{cs:List C2}{us:List Value}{G:List (List Nat)}(h:C4 w N v cs us G)(hs:w.heap.size<=w'.heap.size)(hv:∀b,v.ownBlock=some b->w'.heap[b]?=w.heap[b]?)(hg:∀b∈G.flatten,w'.heap[b]?=w.heap[b]?):C4 w' N v cs us G:=
 ⟨oK8 h.own hv,h.ul,h.gl,fun i x u g hx hu hgi=>(h.row i x u g hx hu hgi).keep hs fun b hb=>hg b (List.mem_flatten.2 ⟨g,mg8 hgi,hb⟩),h.free.keep hg,h.out⟩
theorem A7G {w:World}{N e n s:Nat}{v:Value}{xs:List Value}(h:w.ownsRow N e s v n xs):∃a c,v=.slice a n c:=by
 rcases h.2 with⟨rfl,rfl⟩|⟨g,cap,cur,rfl,_⟩
 ·exact⟨_,_,rfl⟩
 ·exact⟨_,_,rfl⟩
theorem A9x {G:List (List Nat)}{k b:Nat}(hm:b∈(G.take k++G.drop (k+1)).flatten):b∈G.flatten:=by
 obtain⟨q,hq,hbq⟩:=List.mem_flatten.1 hm;refine List.mem_flatten.2 ⟨q,?_,hbq⟩;rcases List.mem_append.1 hq with h1|h1
 ·exact List.mem_of_mem_take h1
 ·exact List.mem_of_mem_drop h1
theorem A4j {G:List (List Nat)}{g0:List Nat}{k b:Nat}(hm:b∈(G.take k++g0::G.drop k).flatten):b∈G.flatten\/b∈g0:=by
 obtain⟨q,hq,hbq⟩:=List.mem_flatten.1 hm;rcases List.mem_append.1 hq with h1|h1
 ·exact .inl (List.mem_flatten.2 ⟨q,List.mem_of_mem_take h1,hbq⟩)
 ·rcases List.mem_cons.1 h1 with rfl|h1
  ·exact .inr hbq
  ·exact .inl (List.mem_flatten.2 ⟨q,List.mem_of_mem_drop h1,hbq⟩)
theorem C4.src3 {w w':World}{N:Nat}{g l cap:Nat}{cs:List C2}{us:List Value}{G:List (List Nat)}(h:C4 w N (.slice (some ⟨g,0,none⟩) l cap) cs us G)(hb:Below w.heap.size w w'){k:Nat}(hk:k<=cs.length):A1v w' 2 (.slice (if cap=k then some ⟨g,0,none⟩else some ⟨g,k*2,none⟩) (cs.length -k) (cap -k)) (cs.length -k) (cc (us.drop k) (cs.drop k)):=by
 have:=h.src2 hb hk
 rwa [Option.map_some,add_plain,Nat.zero_add]at this
theorem D9.shapeX {w:World}{v:Value}{vs:List V3}{g:List Nat}(h:D9 w v vs g):∃a c,v=.slice a vs.length c:=by
 obtain⟨a,c,h,_⟩:=h;exact⟨a,c,h⟩
theorem D9.belowX {w w':World}{v:Value}{vs:List V3}{g:List Nat}(h:D9 w v vs g)(hb:Below w.heap.size w w'):D9 w' v vs g:=h.keep hb.size fun c hc=>hb.block c (h.lt c hc)
def A1U (w:World)(N:Nat)(wd:Int)(v:Value)(G:List (List Nat))(P:List C2)(e:Ending)(w':World):Prop:=
 ∃v' us' G',e=.returned (.agg #[.int .i64 wd,v'])/\C4 w' N v' P us' G'/\(∀b,b<w.heap.size->v'.ownBlock=some b->v.ownBlock=some b)/\(∀b,b<w.heap.size->b∈G'.flatten->b∈G.flatten)/\Below N w w'/\w.grownBy w' v.ownBlock
theorem A1U.of_below {w w':World}{N:Nat}{wd:Int}{v v':Value}{G G':List (List Nat)}{us':List Value}{P:List C2}(hB:C4 w' N v' P us' G')(h1:∀b,b<w.heap.size->v'.ownBlock=some b->v.ownBlock=some b)(h2:∀b,b<w.heap.size->b∈G'.flatten->b∈G.flatten)(hb:Below w.heap.size w w')(hN:N<=w.heap.size):A1U w N wd v G P (.returned (.agg #[.int .i64 wd,v'])) w':=
 ⟨v',us',G',rfl,hB,h1,h2,hb.mono hN,hb.os,hb.tape,hb.output,hb.size,fun k hk _=>hb.block k hk⟩
theorem B2w {w w1:World}(h:Below w.heap.size w w1)(g o:Nat)(u:Value):w.grownBy (w1.setCell ⟨g,o,none⟩ u) (some g):=
 ⟨h.os,h.tape,h.output,by simpa using h.size,fun k hk hne=>(bS8 _ _ _ _ (fun e=>hne (congrArg some e))).trans (h.block k hk)⟩
theorem B1h {w w1:World}{row:Option Nat}(h:w.grownBy w1 row){p:Addr}(hp:w.heap.size<=p.block)(u:Value):w.grownBy (w1.setCell p u) row:=
 ⟨h.os,h.tape,h.output,by simpa using h.size,fun k hk hne=>(bS8 _ _ _ _ (by omega)).trans (h.block k hk hne)⟩
end
section
open Go.RowKit Go.Deep Go.ChangeShapes Go.WideShapes
structure R3 where
 s:ByteArray
 W:Int
 cs:List C2
def R3.wf (x:R3):Prop:=x.s.size<=maxLen/\(Lit.int .i64 x.W).wf=true/\X7 x.cs
def W7 (rs:List R3):Prop:=∀y∈rs,y.wf
def A2R (w:World)(b o:Nat)(rs:List R3):Prop:=
 ∀i x,rs[i]?=some x->∃v,w.cell? ⟨b,o+i*3,none⟩=some (.string x.s)/\w.cell? ⟨b,o+i*3+1,none⟩=some (.int .i64 x.W)/\w.cell? ⟨b,o+i*3+2,none⟩=some v/\J7 w v x.cs
def W6 (w:World)(v:Value)(rs:List R3):Prop:=
 ∃a c,v=.slice a rs.length c/\rs.length<=c/\c<=maxLen/\(rs≠ []->∃b o,a=some ⟨b,o,none⟩/\b<w.heap.size/\A2R w b o rs)
theorem A2R.below {w w':World}{b o:Nat}{rs:List R3}(h:A2R w b o rs)(hb:Below w.heap.size w w')(hN:b<w.heap.size):A2R w' b o rs:=fun i x hx=>by
 obtain⟨v,h0,h1,h2,h3⟩:=h i x hx;exact⟨v,(hb.cell (p:=⟨b,o+i*3,none⟩) hN).trans h0,(hb.cell (p:=⟨b,o+i*3+1,none⟩) hN).trans h1,(hb.cell (p:=⟨b,o+i*3+2,none⟩) hN).trans h2,h3.below hb⟩
theorem W6.below {w w':World}{v:Value}{rs:List R3}(h:W6 w v rs)(hb:Below w.heap.size w w'):W6 w' v rs:=by
 obtain⟨a,c,rfl,hl,hc,h⟩:=h;refine⟨a,c,rfl,hl,hc,fun hne=>?_⟩;obtain⟨b,o,rfl,hlt,hL⟩:=h hne;exact⟨b,o,rfl,Nat.lt_of_lt_of_le hlt hb.size,hL.below hb hlt⟩
theorem W6.shape {w:World}{v:Value}{rs:List R3}(h:W6 w v rs):∃a l c,v=.slice a l c:=by
 obtain⟨a,c,h,_⟩:=h;exact⟨a,_,c,h⟩
theorem W6.pick {w:World}{v:Value}{rs:List R3}(h:W6 w v rs):∃a c b o,v=.slice a rs.length c/\rs.length<=c/\c<=maxLen/\∀k,k<rs.length->a=some ⟨b,o,none⟩/\b<w.heap.size/\A2R w b o rs:=by
 obtain⟨a,c,rfl,hl,hc,h⟩:=h;by_cases hne:rs=[]
 ·exact⟨a,c,0,0,rfl,hl,hc,fun k hk=>by rw[hne]at hk;simp at hk⟩
 ·obtain⟨b,o,h⟩:=h hne;exact⟨a,c,b,o,rfl,hl,hc,fun _ _=>h⟩
theorem A2R.at {w w':World}{b o:Nat}{rs:List R3}(h:A2R w b o rs)(hlt:b<w.heap.size)(hb:Below w.heap.size w w'){k:Nat}(hk:k<rs.length):∃x v,rs[k]?=some x/\w'.cell? ⟨b,o+k*3,none⟩=some (.string x.s)/\w'.cell? ⟨b,o+k*3+1,none⟩=some (.int .i64 x.W)/\w'.cell? ⟨b,o+k*3+2,none⟩=some v/\J7 w' v x.cs/\b<w'.heap.size:=by
 obtain⟨v,h0,h1,h2,h3⟩:=h.below hb hlt k rs[k] (by simp[hk]);exact⟨rs[k],v,by simp[hk],h0,h1,h2,h3,Nat.lt_of_lt_of_le hlt hb.size⟩
def wtr (x:R3):Nat:=x.s.size+wtb x.cs
def k7 (rs:List R3):Nat:=(rs.map wtr).sum
def wtR (rs:List R3):Nat:=rs.length+k7 rs
theorem B8n {rs:List R3}{k:Nat}{x:R3}(h:rs[k]?=some x):k7 (rs.take (k+1))=k7 (rs.take k)+wtr x:=by
 unfold k7;obtain⟨hk,rfl⟩:=gE1 h;rw[List.take_succ_eq_append_getElem hk,List.map_append,List.sum_append];simp only[List.map_cons,List.map_nil,List.sum_cons,List.sum_nil,Nat.add_zero]
theorem A9S {rs:List R3}{x:R3}(h:x∈rs):wtr x<=k7 rs:=by
 unfold k7;induction rs with
 |nil=>cases h
 |cons y ys ih=>
  simp only[List.map_cons,List.sum_cons];rcases List.mem_cons.1 h with rfl|h
  ·omega
  ·have:=ih h;omega
section
variable {H:Type} {enc:TypeId×Value->H} {P:Program} {w:World} {spare:Nat->Bool} {held:Bool}
theorem B3l {t r e e1:TypeId}{K0 K1 L0 L1 G0 G1 F0 F1 F2:Field}{fuel:Nat}{v:Value}{x:DataW H×List MemPlace}(hst:P.underlying t=some (.slice r))(hr:P.underlying r=some (.struct #[K0,K1]))(cr:P.cellsOf r=3)(k0:K0.offset=0) (k1:K1.offset=1) (kc0:P.cellsOf K0.type=1) (kc1:P.cellsOf K1.type=2) (ks:P.underlying K0.type=some .string) (kb:P.underlying K1.type=some (.struct #[L0,L1]))(l0:L0.offset=0) (l1:L1.offset=1) (lc0:P.cellsOf L0.type=1) (lc1:P.cellsOf L1.type=1) (li:P.underlying L0.type=some (.int .i64))(ht:P.underlying L1.type=some (.slice e)) (he:P.underlying e=some (.struct #[G0,G1]))(cg:P.cellsOf e=2) (p0:G0.offset=0) (p1:G1.offset=1) (g0:P.cellsOf G0.type=1) (g1:P.cellsOf G1.type=1) (ut:P.underlying G0.type=some (.slice e1)) (un:P.underlying G1.type=some (.int .i64))(he1:P.underlying e1=some (.struct #[F0,F1,F2]))(ce:P.cellsOf e1=3) (o0:F0.offset=0) (o1:F1.offset=1) (o2:F2.offset=2) (c0:P.cellsOf F0.type=1) (c1:P.cellsOf F1.type=1) (c2:P.cellsOf F2.type=1)(u0:P.underlying F0.type=some (.int .i64)) (u1:P.underlying F1.type=some (.int .i64)) (u2:P.underlying F2.type=some .string)(h:DataW.trod enc P w 0 spare held fuel t [v]=some x):∃rs,W6 w v rs/\W7 rs:=by
 rcases open_slice hst h with⟨h0,_⟩|⟨a,len,cap,m,n,D,Pl,hcs,hb,hl,hm,hmm,rfl,hx⟩
 ·simp at h0;subst h0;exact⟨[],⟨none,0,rfl,by simp,by simp,fun h=>absurd rfl h⟩,by simp[W7]⟩
 simp at hcs;subst hcs;have hlm:len<=m:=by rw[hmm];split<;>omega
 have i2:∀i,i<len->∃q:Value×R3,w.cell? (a.add (i*3))=some (.string q.2.s)/\w.cell? (a.add (i*3+1))=some (.int .i64 q.2.W)/\w.cell? (a.add (i*3+2))=some q.1/\J7 w q.1 q.2.cs/\q.2.wf:=by
  intro i hi;obtain⟨cs',h1,h2⟩:=hx i (by omega);rw[cr]at h1;obtain⟨_,D3,C5⟩:=World.cells?_some h1;obtain⟨xs,k,hk,hxy,_,hxl,hf⟩:=DataW.trod_struct hr h2
  match xs,hxl,cs',D3 with
  | [y0,y1],_,[v0,v1,v2],_=>
   have f0:=hf 0 K0 rfl;have f1:=hf 1 K1 rfl;simp[k0,k1,kc0,kc1]at f0 f1;obtain⟨ys,k',hk',hyy,_,hyl,hg⟩:=DataW.trod_struct kb f1
   match ys,hyl with
   | [z0,z1],_=>
    have q0:=hg 0 L0 rfl;have q1:=hg 1 L1 rfl;simp[l0,l1,lc0,lc1]at q0 q1;have e0:=C5 0 (by omega);have e1:=C5 1 (by omega);have e2:=C5 2 (by omega);rw[add_add]at e0 e1 e2;obtain⟨s0,r0,_,ws⟩:=DataW.trod_string ks f0;obtain⟨i0,r1,_,wi⟩:=DataW.trod_int li q0;simp at r0 r1;subst r0 r1;obtain⟨cs0,hr0,hw0⟩:=C0f ht he cg p0 p1 g0 g1 ut un he1 ce o0 o1 o2 c0 c1 c2 u0 u1 u2 q1;exact⟨(v2,⟨s0,i0,cs0⟩),by simpa using e0,by simpa using e1,by simpa using e2,hr0,ws,wi,hw0⟩
 have:Inhabited (Value×R3):=⟨⟨.nilFunc,⟨⟨#[]⟩,0,[]⟩⟩⟩;obtain⟨q,hq⟩:=choose_lt i2;refine⟨(List.range len).map fun i=>(q i).2,⟨some a,cap,by simp,by simpa using hl,hm,fun hne=>?_⟩,?_⟩
 ·have P3:0<len:=by
   rcases Nat.eq_zero_or_pos len with h0|h0
   ·subst h0;simp at hne
   ·exact h0
  have hs:a.spot=none:=by have:=World.cell?_spot (hq 0 P3).1;simpa [Addr.add]using this
  obtain⟨b,o,sp⟩:=a;simp at hs;subst hs;refine⟨b,o,rfl,?_,fun i x hx=>?_⟩
  ·have:=bl8 _ _ (hq 0 P3).1
   simpa [Addr.add]using this
  ·have hi:i<len:=by
    have:=gE1 hx;obtain⟨h1,_⟩:=this
    simpa using h1
   have ex:x=(q i).2:=by simp[hi]at hx;exact hx.symm
   subst ex;obtain⟨h0,h1,h2,h3,_⟩:=hq i hi;rw[add_plain]at h0 h1 h2;exact⟨_,h0,by simpa [Nat.add_assoc]using h1,by simpa [Nat.add_assoc]using h2,h3⟩
 ·intro y hy;obtain⟨i,hi,rfl⟩:=List.mem_map.1 hy;exact(hq i (List.mem_range.1 hi)).2.2.2.2
end
end
section
open Go.RowKit
theorem B5Y (s:ByteArray)(W:Int)(v:Value)(cs:List C2)(left:Int)(w:World)(hs:s.size<=maxLen)(hr:J7 w v cs)(hw:X7 cs)(h0:0<=left)(h1:left<=1048576):Calls Tryz.prog 17 #[.agg #[.string s,.int .i64 W,v],.int .i64 left] w fun e w'=>(∃z:Int,e=.returned (.int .i64 z)/\ -1<=z/\z<=left/\(0<=z->z+(s.size+wtb cs)=left))/\Below w.heap.size w w':=by
 unfold maxLen at hs;by_cases hbig:left -s.size<0
 ·go_enter Tryz.func17,Tryz.ntmps17;go_wp2_with fail;go_returns;exact⟨⟨-1,rfl,by omega,by omega,by omega⟩,C3⟩
 obtain⟨a,l,c,rfl⟩:=hr.shape;go_enter Tryz.func17,Tryz.ntmps17;go_wp2_with fail;refine cM8 (B3C W (.slice a l c) cs (left -s.size) _ (hr.below ?hb) hw (by omega) (by omega)) ?_
 case hb=>exact C3
 rintro e w1 ⟨⟨z1,rfl,l1,g1,s1⟩,hb1⟩;have hz1:=hb1.size;simp only[World.size_alloc]at hz1;by_cases hn1:z1<0
 ·go_wp2_with fail;go_returns;exact⟨⟨-1,rfl,by omega,by omega,by omega⟩,C3⟩
 ·go_wp2_with fail;go_returns;exact⟨⟨z1,rfl,by omega,by omega,fun h=>by have:=s1 h;omega⟩,C3⟩
theorem B96 (v:Value)(rs:List R3)(left:Int)(w:World)(hr:W6 w v rs)(hw:W7 rs)(h0:0<=left)(h1:left<=1048576):Calls Tryz.prog 4 #[v,.int .i64 left] w fun e w'=>(∃z:Int,e=.returned (.int .i64 z)/\ -1<=z/\z<=left/\(0<=z->z+wtR rs=left))/\Below w.heap.size w w':=by
 obtain⟨a,c,b,o,rfl,hl,hc,ha⟩:=hr.pick;unfold maxLen at hc;by_cases hbig:left -rs.length<0
 ·go_enter Tryz.func4,Tryz.ntmps4;go_wp2;go_returns;exact⟨⟨-1,rfl,by omega,by omega,by omega⟩,by go_grown⟩
 go_enter Tryz.func4,Tryz.ntmps4;go_wp2;go_loopw [1,5] (fun l i wr=> ∃k:Nat,k<=rs.length/\i=.int .i64 k/\l=.int .i64 (left -rs.length -k7 (rs.take k))/\0<=left -rs.length -k7 (rs.take k)/\Below w.heap.size w wr) (fun _ i _=>rs.length - (intOf i).toNat)
 case atStart=>exact⟨0,Nat.zero_le _,rfl,by simp[k7],by simp[k7];omega,by go_grown⟩
 case round=>
  obtain⟨k,hk,rfl,rfl,hp,hb⟩:=hrel;by_cases hlt:k<rs.length
  ·have hzb:=hb.size;obtain⟨rfl,hblt,hL⟩:=ha k hlt;obtain⟨x,u,hx,c0,c1,c2,hR,hbr⟩:=hL.at hblt hb hlt;obtain⟨hxs,_,hxw⟩:=hw x (mg8 hx);have hT:Hid (k7 (rs.take (k+1))=k7 (rs.take k)+wtr x):=B8n hx;have hp1:left -rs.length -k7 (rs.take k)<=1048576:=by omega
   clear ha hL hw hx;go_wp2_with(go_at_call 17;refine(B5Y _ _ _ _ _ _ hxs hR hxw hp hp1).mono ?_;rintro e w1 ⟨⟨z1,rfl,l1,g1,s1⟩,hb1⟩)
   ·go_returns;exact⟨⟨-1,rfl,by omega,by omega,by omega⟩,hb.trans (hb1.mono hb.size)⟩
   ·have h9:0<=z1:=by assumption
    have e1:=s1 h9;have hT:=hT.out;unfold wtr at hT;refine⟨⟨k+1,hlt,by simp,by congr 1;omega,by omega,hb.trans (hb1.mono hb.size)⟩,by simp[intOf];omega⟩
  ·go_wp2;go_returns;have hkk:k=rs.length:=by omega
   subst hkk;refine⟨⟨_,rfl,by omega,by omega,fun _=>?_⟩,hb⟩;rw[List.take_length];unfold wtR;omega
theorem B6L (s:ByteArray)(W:Int)(v u:Value)(cs:List C2)(w:World)(hr:J7 w v cs)(hu:J7 w u cs):Calls Tryz.prog 33 #[.agg #[.string s,.int .i64 W,v],.agg #[.string s,.int .i64 W,u]] w fun e w'=>e=.returned (.bool true)/\Below w.heap.size w w':=by
 obtain⟨a,l,c,rfl⟩:=hr.shape;obtain⟨a',l',c',rfl⟩:=hu.shape;go_enter Tryz.func33,Tryz.ntmps33;go_wp2_with fail;refine cM8 (A5R W _ _ cs _ (hr.below ?hb) (hu.below ?hc)) ?_
 case hb=>exact C3
 case hc=>exact C3
 rintro e w1 ⟨rfl,hb1⟩;have hz1:=hb1.size;simp only[World.size_alloc]at hz1;go_wp2;go_returns;exact⟨rfl,C3⟩
theorem B3B (v u:Value)(rs:List R3)(w:World)(hr:W6 w v rs)(hu:W6 w u rs):Calls Tryz.prog 11 #[v,u] w fun e w'=>e=.returned (.bool true)/\Below w.heap.size w w':=by
 obtain⟨a,c,b,o,rfl,hl,hc,ha⟩:=hr.pick;obtain⟨a',c',b',o',rfl,hl',hc',ha'⟩:=hu.pick;unfold maxLen at hc hc';clear hr hu;go_enter Tryz.func11,Tryz.ntmps11;go_wp2;go_loopw [5] (fun i wr=> ∃k:Nat,k<=rs.length/\i=.int .i64 k/\Below w.heap.size w wr) (fun i _=>rs.length - (intOf i).toNat)
 case atStart=>exact⟨0,Nat.zero_le _,rfl,by go_grown⟩
 case round=>
  obtain⟨k,hk,rfl,hb⟩:=hrel;by_cases hlt:k<rs.length
  ·have hzb:=hb.size;obtain⟨rfl,hblt,hL⟩:=ha k hlt;obtain⟨rfl,hblt',hL'⟩:=ha' k hlt;obtain⟨x,v,hx,c0,c1,c2,hR,hbr⟩:=hL.at hblt hb hlt;obtain⟨x',u,hx',c0',c1',c2',hR',A0k⟩:=hL'.at hblt' hb hlt;obtain rfl:x=x':=by rw[hx]at hx';exact Option.some.inj hx'
   clear ha ha' hL hL' hx hx';go_wp2_with fail;go_region_held3 (fun w'=>w'.cell? ⟨b,o+k*3,none⟩=some (.string x.s)/\w'.cell? ⟨b,o+k*3+1,none⟩=some (.int .i64 x.W)/\w'.cell? ⟨b,o+k*3+2,none⟩=some v/\w'.cell? ⟨b',o'+k*3,none⟩=some (.string x.s)/\w'.cell? ⟨b',o'+k*3+1,none⟩=some (.int .i64 x.W)/\w'.cell? ⟨b',o'+k*3+2,none⟩=some u) (refine⟨?_,?_,?_,?_,?_,?_⟩<;>first|(go_simp;done)|(exact cL8 (by assumption) (by go_simp))) (first|(go_at_call 33;refine(B6L x.s x.W v u x.cs _ (hR.below C3) (hR'.below C3)).mono ?_;rintro e w1 ⟨rfl,hb1⟩));go_wp2
   go_roundw
   case rel=>exact⟨k+1,hlt,by simp,C3⟩
   case measure=>simp[intOf];omega
  ·go_wp2;go_returns;exact⟨rfl,hb⟩
end
section
open Go.RowKit Go.Deep
theorem D9.cells {w:World}{v:Value}{vs:List V3}{g:List Nat}(h:D9 w v vs g):∃a c b o,v=.slice a vs.length c/\vs.length<=c/\c<=maxLen/\(a=none->c=0)/\X3 w b o (vs.length*3) (cf vs)/\(vs=[]->g=[])/\∀n,n<vs.length->a=some ⟨b,o,none⟩/\b<w.heap.size/\g=[b]:=by
 obtain⟨a,c,rfl,hl,hc,hz,h0,h⟩:=h;by_cases hne:vs=[]
 ·exact⟨a,c,0,0,rfl,hl,hc,hz,by subst hne;intro j hj;simp at hj,h0,fun k hk=>by rw[hne]at hk;simp at hk⟩
 ·obtain⟨b,o,rfl,hlt,hg,hL⟩:=h hne;exact⟨_,c,b,o,rfl,hl,hc,hz,A15.1 hL,h0,fun _ _=>⟨rfl,hlt,hg⟩⟩
theorem E3.shape' {w:World}{v:Value}{vs:List V3}(h:E3 w v vs):∃a c,v=.slice a vs.length c/\vs.length<=c/\c<=maxLen:=by
 obtain⟨a,c,h,h1,h2,_⟩:=h;exact⟨a,c,h,h1,h2⟩
theorem D9.mk {w w':World}{v:Value}{vs us:List V3}{g:List Nat}{a:Option Addr}{c b o:Nat}(hs:w.heap.size<=w'.heap.size)(hl:us.length=vs.length)(hv:v=.slice a vs.length c)(hlc:vs.length<=c)(hc:c<=maxLen)(hz:a=none->c=0)(h0:vs=[]->g=[])(ha:∀n,n<vs.length->a=some ⟨b,o,none⟩/\b<w.heap.size/\g=[b])(hC:X3 w' b o (us.length*3) (cf us)):D9 w' v us g:=by
 refine⟨a,c,by rw[hl];exact hv,by omega,hc,hz,fun e=>h0 (by have:=congrArg List.length e;rw[hl]at this;exact List.length_eq_zero_iff.1 this),fun hne=>?_⟩;have hp:0<vs.length:=by rw[<-hl];exact List.length_pos_iff.2 hne
 obtain⟨e,hlt,hg⟩:=ha 0 hp;exact⟨b,o,e,by omega,hg,A15.2 hC⟩
def CLF (w:World)(b o:Nat)(cs:List C2)(G:List (List Nat)):Prop:=
 ∀i x g,cs[i]?=some x->G[i]?=some g->∃u,w.cell? ⟨b,o+i*2,none⟩=some u/\D9 w u x.r g/\w.cell? ⟨b,o+i*2+1,none⟩=some (.int .i64 x.n)
theorem B0Q {b:Nat}{G:List (List Nat)}(h:(b::G.flatten).Nodup){i j:Nat}{g g':List Nat}(hi:G[i]?=some g)(hj:G[j]?=some g')(hne:i≠j):∀y∈g,y∉g':=by
 have h2:=(List.nodup_cons.1 h).2;rw[List.Nodup,List.pairwise_flatten]at h2;have h3:=List.pairwise_iff_getElem.1 h2.2;obtain⟨hi',rfl⟩:=gE1 hi;obtain⟨hj',rfl⟩:=gE1 hj;intro y hy hy';rcases Nat.lt_or_gt_of_ne hne with hlt|hlt
 ·exact h3 i j hi' hj' hlt y hy y hy' rfl
 ·exact h3 j i hj' hi' hlt y hy' y hy rfl
theorem A2Y {b:Nat}{G:List (List Nat)}(h:(b::G.flatten).Nodup){i:Nat}{g:List Nat}(hi:G[i]?=some g):b∉g:=fun hb=>
 (List.nodup_cons.1 h).1 (List.mem_flatten.2 ⟨g,mg8 hi,hb⟩)
theorem C6.pick {w:World}{v:Value}{cs:List C2}{F:List Nat}(h:C6 w v cs F):∃a c b o G,v=.slice a cs.length c/\cs.length<=c/\c<=maxLen/\(a=none->c=0)/\G.length=cs.length/\(cs=[]->F=[])/\CLF w b o cs G/\∀n,n<cs.length->a=some ⟨b,o,none⟩/\b<w.heap.size/\F=b::G.flatten:=by
 obtain⟨a,c,G,rfl,hl,hc,hz,hG,h0,h⟩:=h;by_cases hne:cs=[]
 ·exact⟨a,c,0,0,G,rfl,hl,hc,hz,hG,h0,fun i x g hx=>by rw[hne]at hx;simp at hx,fun k hk=>by rw[hne]at hk;simp at hk⟩
 ·obtain⟨b,o,rfl,hlt,hF,hL⟩:=h hne;exact⟨_,c,b,o,G,rfl,hl,hc,hz,hG,h0,hL,fun _ _=>⟨rfl,hlt,hF⟩⟩
end
section
open Go.RowKit Go.Deep
attribute [local go_sem↓] Go.wp_at_zero Go.wp_at_succ
theorem C0U (ad:Addr)(c:Nat)(vs:List V3)(n:Int)(w:World)(hl:vs.length<=c)(hc:c<=maxLen)(hn:vs.length<=1048576)(hne:vs≠ [])(hcl:∀j u,(rc vs)[j]?=some u->∀w',Below w.heap.size w w'->w'.cell? (ad.add j)=some u):Calls Tryz.prog 133 #[.agg #[.slice (some ad) vs.length c,.int .i64 n]] w fun e w'=>(∃u g,e=.returned (.agg #[u,.int .i64 n])/\D9 w' u vs g/\D5 w' w.heap.size g)/\Below w.heap.size w w':=by
 obtain⟨i0,hi,hz0,hz1,hz2⟩:=info_parts Tryz.infoVal;have hp:0<vs.length:=List.length_pos_iff.2 hne;have hml:0+vs.length<=maxLen:=by omega
 have hby:(0+vs.length)*32<=140737488355328:=by omega
 go_enter Tryz.func133,Tryz.ntmps133;go_wp2_with fail;go_region_held3 (fun w'=>w'.cell? ⟨w.heap.size,0,none⟩=some (.slice (some ad) vs.length c)/\w'.cell? ⟨w.heap.size,1,none⟩=some (.int .i64 n)) (first
   |go_keep
   |(go_split_ands
     refine⟨?_,?_⟩
     ·(rw[hgrow.cell_far _ (by simp;omega) (by simp[Value.ownBlock];try omega)];assumption)
     ·(rw[hgrow.cell_far _ (by simp;omega) (by simp[Value.ownBlock];try omega)];assumption)))
  ((refine step_append_lies _ (by rfl) _ _ _ (by rfl) (w.heap.size+1+1) 39 i0 _ 3 32 Tryz.underlying114 hi hz0 hz1 hz2 rfl (by omega) (.slice (some ⟨w.heap.size+1+1,0,none⟩) 0 0) 0 [] (by rfl) (A1G (by simp) lr8 39 3) ad vs.length c (rc vs) (by rfl) (A1r vs) (fun j u h=>hcl j u h _ bex) (A1w vs) hp hml hby (by simp) (w.heap.size+1+1+1) (by simp) ?_;intro g cap w1 hown1 hgrow hat hlt;have hsg:=hgrow.size;simp at hsg;have r0:w1.cell? ⟨w.heap.size+1,0,none⟩=some (.slice none 0 0):=(hgrow.cell_far _ (by simp;try omega) (by simp[Value.ownBlock];try omega)).trans (by go_simp);have r1:w1.cell? ⟨w.heap.size+1,1,none⟩=some (.int .i64 0):=(hgrow.cell_far _ (by simp;try omega) (by simp[Value.ownBlock];try omega)).trans (by go_simp);have rf:∀o,w1.frozen? ⟨w.heap.size+1,o,none⟩=false:=fun o=>(hgrow.frozen_far _ (by simp;try omega) (by simp[Value.ownBlock];try omega)).trans (by go_simp)))
 obtain⟨g',hR,hO⟩:=A0S (vs:=vs) (show w1.ownsRow (w.heap.size+1+1) 39 3 (.slice (some ⟨g,0,none⟩) (0+vs.length) cap) (0+vs.length) (rc vs)from hown1);have F8:Below w.heap.size w w1:=Below.grown bex hgrow (by simp;omega) (fun k hk=>by simp[Value.ownBlock]at hk;omega);have hb':∀b∈g',b≠w.heap.size+1:=fun b hb=>by have:=hO.2.1 b hb;omega
 clear hown1 hgrow hat hcl;go_wp2;refine bodyPost_ret (v:=.agg #[.slice (some ⟨g,0,none⟩) (0+vs.length) cap,.int .i64 n]) (by simp[results,Tryz.results133,go_sem, *]) rfl ⟨⟨_,g',rfl,hR.keep (by simp) fun b hb=>?_,⟨hO.1,fun b hb=>by have:=hO.2.1 b hb;omega,fun b hb o=>by simpa using hO.2.2 b hb o⟩⟩,?_⟩
 ·repeat rw[bS8 _ _ _ _ (hb' b hb)]
 ·exact bs8
theorem B8y (n:Int)(w:World):Calls Tryz.prog 133 #[.agg #[.slice none 0 0,.int .i64 n]] w fun e w'=>(∃u g,e=.returned (.agg #[u,.int .i64 n])/\D9 w' u [] g/\D5 w' w.heap.size g)/\Below w.heap.size w w':=by
 go_enter Tryz.func133,Tryz.ntmps133;go_wp2_with fail;go_region_held3 (fun w'=>w'.cell? ⟨w.heap.size,0,none⟩=some (.slice none 0 0)/\w'.cell? ⟨w.heap.size,1,none⟩=some (.int .i64 n)) (go_keep) (fail);go_wp2;refine bodyPost_ret (v:=.agg #[.slice (some ⟨w.heap.size+1+1,0,none⟩) 0 0,.int .i64 n]) (by simp[results,Tryz.results133,go_sem, *]) rfl ⟨⟨_,[],rfl,⟨_,0,rfl,Nat.le_refl _,by simp,fun _=>rfl,fun _=>rfl,fun x=>absurd rfl x⟩,by simp[D5,N9]⟩,?_⟩;exact bex
theorem B34 (ad:Addr)(c:Nat)(n:Int)(w:World)(hc:c<=maxLen):Calls Tryz.prog 133 #[.agg #[.slice (some ad) 0 c,.int .i64 n]] w fun e w'=>(∃u g,e=.returned (.agg #[u,.int .i64 n])/\D9 w' u [] g/\D5 w' w.heap.size g)/\Below w.heap.size w w':=by
 go_enter Tryz.func133,Tryz.ntmps133;go_wp2_with fail;go_region_held3 (fun w'=>w'.cell? ⟨w.heap.size,0,none⟩=some (.slice (some ad) 0 c)/\w'.cell? ⟨w.heap.size,1,none⟩=some (.int .i64 n)) (go_keep) (fail);go_wp2;refine bodyPost_ret (v:=.agg #[.slice (some ⟨w.heap.size+1+1,0,none⟩) 0 0,.int .i64 n]) (by simp[results,Tryz.results133,go_sem, *]) rfl ⟨⟨_,[],rfl,⟨_,0,rfl,Nat.le_refl _,by simp,fun _=>rfl,fun _=>rfl,fun x=>absurd rfl x⟩,by simp[D5,N9]⟩,?_⟩;exact bex
theorem A8c (v:Value)(vs:List V3)(g0:List Nat)(n:Int)(w:World)(hr:D9 w v vs g0)(hn:vs.length<=1048576):Calls Tryz.prog 133 #[.agg #[v,.int .i64 n]] w fun e w'=>(∃u g,e=.returned (.agg #[u,.int .i64 n])/\D9 w' u vs g/\D5 w' w.heap.size g)/\Below w.heap.size w w':=by
 obtain⟨a,c,rfl,hl,hc,hz,_,h⟩:=hr;by_cases hne:vs=[]
 ·subst hne;cases a with
  |none=>obtain rfl:=hz rfl;exact B8y n w
  |some ad=>exact B34 ad c n w hc
 ·obtain⟨b,o,rfl,hlt,_,hL⟩:=h hne;exact C0U ⟨b,o,none⟩ c vs n w hl hc hn hne fun j u hu w' hb=>A3I (hL.below hb hlt) j u hu
end
section
open Go.RowKit Go.Deep
attribute [local go_sem↓] Go.wp_at_zero Go.wp_at_succ
theorem D9.shape {w:World}{v:Value}{vs:List V3}{g:List Nat}(h:D9 w v vs g):∃a c,v=.slice a vs.length c:=by
 obtain⟨a,c,h,_⟩:=h;exact⟨a,c,h⟩
theorem CLF.at {w w':World}{b o:Nat}{cs:List C2}{G:List (List Nat)}(h:CLF w b o cs G)(hG:G.length=cs.length)(hlt:b<w.heap.size)(hb:Below w.heap.size w w'){k:Nat}(hk:k<cs.length):∃x u g,cs[k]?=some x/\G[k]?=some g/\w'.cell? ⟨b,o+k*2,none⟩=some u/\D9 w' u x.r g/\w'.cell? ⟨b,o+k*2+1,none⟩=some (.int .i64 x.n)/\b<w'.heap.size:=by
 have hk':k<G.length:=by omega
 obtain⟨u,h0,h1,h2⟩:=h k cs[k] G[k] (by simp) (by simp);exact⟨cs[k],u,G[k],by simp,by simp,(hb.cell (p:=⟨b,_,none⟩) hlt).trans h0,h1.keep hb.size (fun c hc=>hb.block c (h1.lt c hc)),(hb.cell (p:=⟨b,_,none⟩) hlt).trans h2,Nat.lt_of_lt_of_le hlt hb.size⟩
theorem D9.below {w w':World}{v:Value}{vs:List V3}{g:List Nat}(h:D9 w v vs g)(hb:Below w.heap.size w w'):D9 w' v vs g:=h.keep hb.size fun c hc=>hb.block c (h.lt c hc)
theorem V9 {α:Type}{l:List α}{k:Nat}{x:α}(h:l[k]?=some x):l.take (k+1)=l.take k++ [x]:=by
 obtain⟨hk,rfl⟩:=gE1 h;exact List.take_succ_eq_append_getElem hk
end
section
open Go.RowKit
theorem C6.nth {w w':World}{v:Value}{ds:List C2}{F:List Nat}{b:Nat}(h:C6 w v ds F)(hF:∀x∈F,x<b)(hb:Below b w w'){k:Nat}(hk:k<ds.length):∃bb oo c x a0 n0,v=.slice (some ⟨bb,oo,none⟩) ds.length c/\ds[k]?=some x/\w'.cell? ⟨bb,oo+k*2,none⟩=some (.slice a0 x.r.length n0)/\w'.cell? ⟨bb,oo+k*2+1,none⟩=some (.int .i64 x.n)/\bb<w'.heap.size/\A0L w' b (.slice a0 x.r.length n0) x.r:=by
 obtain⟨a,c,bb,oo,G,rfl,hl,hc,_,hG,_,hC,ha⟩:=h.pick;obtain⟨rfl,hlt,rfl⟩:=ha k hk;have hbb:bb<b:=hF bb (by simp);have hkG:k<G.length:=by omega
 obtain⟨u,h0,h1,h2⟩:=hC k ds[k] G[k] (by simp) (by simp);have hg:∀x∈G[k],x<b:=fun x hx=>hF x (by simp only[List.mem_cons,List.mem_flatten];exact .inr ⟨G[k],List.getElem_mem hkG,hx⟩);obtain⟨a0,n0,rfl⟩:=h1.shape;exact⟨bb,oo,c,ds[k],a0,n0,rfl,by simp,(cb8 (hb.block bb hbb)).trans h0,(cb8 (hb.block bb hbb)).trans h2,Nat.lt_of_lt_of_le hlt hb.size,G[k],h1.keep hb.size (fun x hx=>hb.block x (hg x hx)),hg⟩
def A2q (cs:List C2):Prop:=(∀c∈cs,-1000000000<=c.n/\c.n<=1000000000)/\cs.length<=4194304
theorem A2q.tot {cs ds:List C2}(h:A2q ds)(hs:∃t,ds=cs++t)(r:List V3): -4294967296000000000<=E4 cs r/\E4 cs r<=4294967296000000000:=by
 obtain⟨t,rfl⟩:=hs;have h1:=A5y (cs:=cs) (M:=1000000000) (fun c hc=>h.1 c (by simp[hc])) (by decide) r;have h2:=h.2;rw[List.length_append]at h2;have:(cs.length:Int)<=4194304:=by omega
 omega
theorem B0D (b n:Nat)(W X:Int)(cs ds:List C2)(v:Value)(F:List Nat)(w:World)(hT:m8 w b n W cs)(hr:C6 w v ds F)(hF:∀x∈F,x<b)(hg:∀x∈ds,gR8 W x.r)(hwt:wtb ds<=1048576)(hS:A2q (cs++ds))(hn:n<=1099511627776):Calls Tryz.prog 139 #[.map (some b),.agg #[.int .i64 X,v]] w fun e w'=>e=.returned (.tuple #[])/\m8 w' b (n+ds.length) W (cs++ds)/\Below b w w':=by
 have hlb:=hT.lt;have D3:ds.length<=1048576:=by unfold wtb at hwt;omega
 obtain⟨a,c,hv,hcl,hcm⟩:∃a c,v=.slice a ds.length c/\ds.length<=c/\c<=maxLen:=by
  obtain⟨a,c,G,e,h1,h2,_⟩:=hr;exact⟨a,c,e,h1,h2⟩
 unfold maxLen at hcm;subst hv;go_enter Tryz.func139,Tryz.ntmps139;go_wp2;go_loopw [9] (fun i wr=> ∃k:Nat,k<=ds.length/\i=.int .i64 k/\m8 wr b (n+k) W (cs++ds.take k)/\Below b w wr) (fun i _=>ds.length - (intOf i).toNat)
 case atStart=>
  refine⟨0,Nat.zero_le _,rfl,?_,?_⟩
  ·rw[List.take_zero,List.append_nil];exact hT.keep ((Below.refl _ _).alloc lr8 _)
  ·exact(Below.refl _ _).alloc (Nat.le_of_lt hlb) _
 case round=>
  obtain⟨k,hk,rfl,hTr,hb⟩:=hrel;by_cases hlt:k<ds.length
  ·obtain⟨bb,oo,c',x,a0,n0,e,hx,c0,c1,hbb,A0e⟩:=hr.nth hF hb hlt;obtain⟨rfl,_,rfl⟩:a=some ⟨bb,oo,none⟩/\ds.length=ds.length/\c=c':=by injection e with e1 e2 e3;exact⟨e1,e2,e3⟩
   have hxg:=hg x (mg8 hx);have hxl:x.r.length<=1048576:=by have:=A0R (mg8 hx);unfold wt at this;unfold wtb at hwt;omega
   have HT:Hid (ds.take (k+1)=ds.take k++ [x]):=V9 hx;have hlw:=hTr.lt;have hb0:Below wr.heap.size wr (wr.alloc (.cells #[.slice a0 x.r.length n0,.int .i64 x.n] 116)):=(Below.refl _ _).alloc lr8 _;have A9E:=hS.tot (cs:=cs++ds.take k++ [x]) ⟨ds.drop (k+1),by rw[List.append_assoc cs,<-HT.out,List.append_assoc,List.take_append_drop]⟩ x.r;rw[A0Z,if_pos (Y8 _)]at A9E;have Q7:=C3t b (n+k) W (cs++ds.take k) (.slice a0 x.r.length n0) x.r x.n _ (hTr.keep hb0) (A0e.below (hb0.mono (Nat.le_of_lt hlw))) hxg hxl (by omega) (by omega);rw[List.append_assoc]at Q7;clear hr hg hx e A0e hS hTr A9E;go_wp2_with(go_at_call 136;refine cM8 Q7 ?_;rintro q w2 ⟨rfl,hT2,hb2⟩);refine⟨⟨k+1,hlt,by simp,by rw[HT.out];exact hT2,hb.trans ((hb0.mono (Nat.le_of_lt hlw)).trans hb2)⟩,by simp[intOf];omega⟩
  ·obtain rfl:k=ds.length:=by omega
   rw[List.take_length]at hTr;clear hr hg hS;go_wp2
   go_end0
   exact⟨rfl,hTr,hb⟩
end
section
open Go.RowKit Go.Sort Go.Shelf Go.Lib
abbrev P2 (w0:World) (b:Nat):={p:Value×C2//A0L w0 b p.1 p.2.r/\p.2.r.length<=1048576}
def B7B (w0:World)(b:Nat):P2 w0 b:=⟨(.slice none 0 0,⟨[],0⟩),⟨[],⟨none,0,rfl,by simp,by simp,fun _=>rfl,fun _=>rfl,fun h=>absurd rfl h⟩,fun x hx=>(by cases hx)⟩,by simp⟩
def k8 {w0:World}{b:Nat}(x:P2 w0 b):List Value:=[x.1.1,.int .i64 x.1.2.n]
def cfT {w0:World}{b:Nat}(x y:P2 w0 b):Int:=cR8 x.1.2.r y.1.2.r
theorem B7D {w0:World}{b:Nat}(x:P2 w0 b):∀v∈k8 x,v.oneCell'=true:=by
 intro v hv;obtain⟨⟨u,c⟩,⟨g,⟨a,n,e,_⟩,_⟩,_⟩:=x;simp only[k8,List.mem_cons,List.not_mem_nil,or_false]at hv;rcases hv with rfl|rfl
 ·dsimp only at e;rw[e];rfl
 ·rfl
theorem B6i {a c:List V3}(h:¬cR8 a c<0):a=c\/cR8 c a<0:=by
 by_cases e:a=c
 ·exact .inl e
 ·exact .inr (A5O h e)
theorem ltT {w0:World}{b:Nat}(x y:P2 w0 b):ltOf cfT x y=true↔cR8 x.1.2.r y.1.2.r<0:=by unfold ltOf cfT;exact decide_eq_true_iff
theorem ltF {w0:World}{b:Nat}(x y:P2 w0 b):ltOf cfT x y=false↔¬cR8 x.1.2.r y.1.2.r<0:=by rw[<-ltT];simp
theorem C1a {w0:World}{b:Nat}:SWO (ltOf (cfT (w0:=w0) (b:=b))):=by
 refine⟨fun x=>?_,fun x y z h1 h2=>?_,fun x y z h1 h2=>?_⟩
 ·rw[ltF,Y8];omega
 ·rw[ltT]at*;exact A1F h1 h2
 ·rw[ltF]at*;intro h3;rcases B6i h1 with e|e
  ·rw[<-e]at h2;exact h2 h3
  ·exact h2 (A1F e h3)
theorem B38 (w:World)(blk k:Nat)(f:Array Value->Array Value)(h:k≠blk):(mapBlock w blk f).heap[k]?=w.heap[k]?:=by
 simp only[mapBlock,Array.getElem?_modify];rw[if_neg (fun e=>h e.symm)]
theorem B0y {α:Type}[Inhabited α](enc:α->List Value)(w:World)(blk off m:Nat)(dk:Array α)(os:Array Obj):(sortWorldK enc 2 w blk off m dk os).os=w.os/\(sortWorldK enc 2 w blk off m dk os).tape=w.tape/\(sortWorldK enc 2 w blk off m dk os).output=w.output/\w.heap.size<=(sortWorldK enc 2 w blk off m dk os).heap.size/\
  ∀k,k<w.heap.size->k≠blk->(sortWorldK enc 2 w blk off m dk os).heap[k]?=w.heap[k]?:=by
 refine⟨rfl,rfl,rfl,size_sortWorldK_c enc 2 w blk off m dk os,fun k hk hne=>?_⟩;unfold sortWorldK;rw[heap_grow_old _ _ (by rw[size_putRowK];exact hk)];exact B38 _ _ _ _ hne
theorem C3B {w w':World}(h:Onw w w'):∃q os',w'=grow (w.drewN q) os':=by
 obtain⟨⟨d,os⟩,e⟩:=regrown_of_below h.1;have hd:w'.drawn=d:=by rw[e];rfl
 refine⟨d -w.drawn,os,?_⟩;rw[e];have h2:=h.2;rw[hd]at h2;show grow {w with drawn:=d} os=grow {w with drawn:=w.drawn+(d -w.drawn)} os;rw[Nat.add_sub_cancel' h2]
theorem B6e (w0 w:World)(b blk cap:Nat)(hb:Below b w0 w)(hbb:b<=blk)(H7:blk<w.heap.size)(ds:List (P2 w0 b))(D3:ds.length<=4194304)(hH:∀ (i:Nat) (x:P2 w0 b),ds[i]?=some x->w.cell? ⟨blk,i*2,none⟩=some x.1.1/\w.cell? ⟨blk,i*2+1,none⟩=some (.int .i64 x.1.2.n)) (hF:∀o,w.frozen? ⟨blk,o,none⟩=false):Calls Tryz.prog 188 #[.slice (some ⟨blk,0,none⟩) ds.length cap,.func (.func 189) #[] #[]] w fun e w'=>e=.returned (.tuple #[])/\
   ∃ds':List (P2 w0 b),ds'.Perm ds/\(ds'.Pairwise fun x y=>¬cR8 y.1.2.r x.1.2.r<0)/\(∀ (i:Nat) (x:P2 w0 b),ds'[i]?=some x->w'.cell? ⟨blk,i*2,none⟩=some x.1.1/\w'.cell? ⟨blk,i*2+1,none⟩=some (.int .i64 x.1.2.n))/\
   w'.os=w.os/\w'.tape=w.tape/\w'.output=w.output/\w.heap.size<=w'.heap.size/\∀k,k<w.heap.size->k≠blk->w'.heap[k]?=w.heap[k]?:=by
 letI:Inhabited (P2 w0 b):=⟨B7B w0 b⟩
 have eg:∀args w,(callFunc 189 args).run Tryz.prog w=.ok (.enter 189 args) w:=enters_of Tryz.func189 (by kernel_rfl) rfl;have hcmp:CmpLays Tryz.prog 189 #[] (k8 (w0:=w0) (b:=b)) 2 cfT blk 0 ds.toArray.size w:=by
  intro m os dk _ x y;have hk:=B0y (k8 (w0:=w0) (b:=b)) w blk 0 m dk os;generalize sortWorldK k8 2 w blk 0 m dk os=W at hk⊢;have hbW:Below b w W:=⟨hk.1,hk.2.1,hk.2.2.1,hk.2.2.2.1,fun k hk1=>hk.2.2.2.2 k (by omega) (by omega)⟩;have hx:E3 W x.1.1 x.1.2.r:=by obtain⟨g,hg,_⟩:=x.2.1.below (hb.trans hbW);exact hg.is
  have hy:E3 W y.1.1 y.1.2.r:=by obtain⟨g,hg,_⟩:=y.2.1.below (hb.trans hbW);exact hg.is
  refine cM8 (B4J x.1.1 y.1.1 x.1.2.r y.1.2.r x.1.2.n y.1.2.n W hx hy) ?_;rintro e w' ⟨rfl,hO⟩;exact⟨rfl,C3B hO⟩
 have hH':HoldsK (k8 (w0:=w0) (b:=b)) 2 w blk 0 ds.toArray:=by
  intro j hj;rw[size_flatK]at hj;refine⟨?_,hF _⟩;rw[get_flatK _ _ _ _ hj];have hj2:j/2<ds.length:=by simp at hj;omega
  have hx:ds[j/2]?=some ds[j/2]:=by simp[hj2]
  obtain⟨h0,h1⟩:=hH (j/2) ds[j/2] hx;have he:ds.toArray[j/2]! =ds[j/2]:=by simp[hj2]
  rw[he];rcases Nat.mod_two_eq_zero_or_one j with e|e
  ·have:0+j=j/2*2:=by omega
   rw[this,h0,e];rfl
  ·have:0+j=j/2*2+1:=by omega
   rw[this,h1,e];rfl
 have A7m:=AnyQ.slices_SortFunc Tryz.laysSort 2 Tryz.isAgg116 Tryz.sizeOf116 (k8 (w0:=w0) (b:=b)) (fun _=>rfl) B7D cfT C1a 189 #[] blk 0 cap ds.toArray w eg hcmp hH' H7 (by simp;omega);change Calls Tryz.prog 188 _ _ _ at A7m;have hsz:ds.toArray.size=ds.length:=by simp
 rw[hsz]at A7m;refine cM8 A7m ?_;rintro e w' ⟨rfl,d',n,os,hp,hs,rfl⟩;have hk:=B0y (k8 (w0:=w0) (b:=b)) w blk 0 n d' os;have hds:d'.size=ds.length:=by rw[hp.1];simp
 have B0q:=holdsK_sortWorldK_c (k8 (w0:=w0) (b:=b)) 2 w blk 0 ds.toArray d' n os hH' H7 (by rw[hds];simp);refine⟨rfl,d'.toList,?_,?_,?_,hk.1,hk.2.1,hk.2.2.1,hk.2.2.2.1,hk.2.2.2.2⟩
 ·have h3:=hp.2.2;rw[Array.extract_eq_self_of_le (by omega),Array.extract_eq_self_of_le (by simp)]at h3
  simpa using h3
 ·rw[List.pairwise_iff_getElem];intro i j hi hj hij;have hi':i<d'.size:=by simpa using hi
  have hj':j<d'.size:=by simpa using hj
  have h4:=hs i j (Nat.zero_le _) hij (by omega);rw[getElem!_pos d' j hj',getElem!_pos d' i hi',ltF]at h4
  simpa using h4
 ·intro i x hx;obtain⟨hi,rfl⟩:=gE1 hx;have hi':i<d'.size:=by simpa using hi
  have c0:=B0q.cell hi' (show 0<2 by decide);have c1:=B0q.cell hi' (show 1<2 by decide);rw[getElem!_pos d' i hi']at c0 c1;constructor
  ·simpa [k8]using c0.1
  ·simpa [k8]using c1.1
end
section
open Go.RowKit
structure A01 (W:Int)(cs ds:List C2):Prop where
 asc:Asc ds
 good:∀c∈ds,c.n≠0/\gR8 W c.r
 tot:∀r,gR8 W r->E4 ds r=E4 cs r
theorem A7I:∀ {ds:List C2} {c:C2},(ds.Pairwise fun x y=>x.r≠y.r)->c∈ds->E4 ds c.r=c.n
 |d::ds,c,hp,hc=>by
  obtain⟨h1,h2⟩:=List.pairwise_cons.1 hp;rw[E4];rcases List.mem_cons.1 hc with rfl|h
  ·rw[if_pos (Y8 _),A3d fun x hx=>(h1 x hx).symm,Int.add_zero]
  ·rw[if_neg (fun e=>h1 c h ((K7 _ _).1 e)),A7I h2 h,Int.zero_add]
structure A0c {w:World}{b:Nat}(D:DT)(W:Int)(cs:List C2)(left:Lit->Bool)(ss:List (P2 w b)):Prop where
 mem:∀x∈ss,gR8 W x.1.2.r/\x.1.2.n=E4 cs x.1.2.r/\x.1.2.n≠0/\left (K8 x.1.2.r)=false
 apart:ss.Pairwise fun x y=>x.1.2.r≠y.1.2.r
 all:∀r,gR8 W r->E4 cs r≠0->left (K8 r)=true\/∃x∈ss,x.1.2.r=r
 has:∀kl,left kl=true->Maps.has D kl=true
theorem A0c.start {w:World}{b:Nat}{D:DT}{W:Int}{cs:List C2}(h:U4 w b D W cs):A0c (w:=w) (b:=b) D W cs (Maps.has D) []:=
 ⟨fun x hx=>(by cases hx),List.Pairwise.nil,fun r hr hn=>(by obtain⟨v,h1,_⟩:=h.yes r hr hn;exact .inl (Maps.has_true_of_atKey h1)),fun _ h=>h⟩
theorem A0c.next {w:World}{b:Nat}{D:DT}{W:Int}{cs:List C2}{left:Lit->Bool}{ss:List (P2 w b)}(hT:U4 w b D W cs)(hW:W<=1048576)(h:A0c D W cs left ss){kl:Lit}(hl:left kl=true){a:Option Addr}{l c:Nat}{m:Int}(hat:∀z,D.atKey kl z=.held (.slice a l c,m)):∃x:P2 w b,x.1.1=.slice a l c/\x.1.2.n=m/\A0c D W cs (fun z=>left z &&!z.sameKey kl) (ss++ [x]):=by
 obtain⟨r,hr,rfl⟩:=hT.only kl (h.has kl hl);have hn:E4 cs r≠0:=fun e=>by
  have:=hT.no r hr e;rw[h.has _ hl]at this;cases this
 obtain⟨v,h1,h2⟩:=hT.yes r hr hn;have e:=(h1 .nil).symm.trans (hat .nil);obtain⟨rfl,rfl⟩:v=.slice a l c/\E4 cs r=m:=by simpa using e
 have C1L:(K8 r).sameKey (K8 r)=true:=WideAt.sameKey_self (A7Y r);have D3:r.length<=1048576:=by
  have:=hr.1;simp only[T8,Bool.and_eq_true,decide_eq_true_eq]at this;omega
 refine⟨⟨(.slice a l c,⟨r,E4 cs r⟩),h2,D3⟩,rfl,rfl,⟨fun x hx=>?_,?_,fun q hq hnq=>?_,fun k hk=>?_⟩⟩
 ·rcases List.mem_append.1 hx with hx|hx
  ·obtain⟨g1,g2,g3,g4⟩:=h.mem x hx;exact⟨g1,g2,g3,by rw[g4];rfl⟩
  ·rcases List.mem_singleton.1 hx with rfl;exact⟨hr,rfl,hn,by simp[C1L]⟩
 ·rw[List.pairwise_append];refine⟨h.apart,List.pairwise_singleton _ _,fun x hx y hy=>?_⟩;rcases List.mem_singleton.1 hy with rfl;intro e;have:=(h.mem x hx).2.2.2;dsimp only at e;rw[e,hl]at this;cases this
 ·by_cases e:q=r
  ·subst e;exact .inr ⟨_,List.mem_append.2 (.inr (List.mem_singleton.2 rfl)),rfl⟩
  ·rcases h.all q hq hnq with h3|⟨x,hx,e2⟩
   ·refine .inl ?_;have:(K8 q).sameKey (K8 r)=false:=by
     cases hs:(K8 q).sameKey (K8 r)
     ·rfl
     ·exact absurd (A0n hq hr (WideAt.sameKey_eq hs)) e
    rw[h3,this];rfl
   ·exact .inr ⟨x,List.mem_append.2 (.inl hx),e2⟩
 ·rw[Bool.and_eq_true]at hk;exact h.has k hk.1
theorem A0c.done {w:World}{b:Nat}{D:DT}{W:Int}{cs:List C2}{left:Lit->Bool}{ss ss':List (P2 w b)}(h:A0c D W cs left ss)(hl:∀kl,left kl=false)(hp:ss'.Perm ss)(hs:ss'.Pairwise fun x y=>¬cR8 y.1.2.r x.1.2.r<0):A01 W cs (ss'.map fun x=>x.1.2):=by
 have hap:ss'.Pairwise fun x y=>x.1.2.r≠y.1.2.r:=(hp.pairwise_iff (fun{_ _} hne=>Ne.symm hne)).2 h.apart;have C4D:(ss'.map fun x=>x.1.2).Pairwise fun x y=>x.r≠y.r:=List.pairwise_map.2 hap;refine⟨?_,fun c hc=>?_,fun r hr=>?_⟩
 ·refine List.pairwise_map.2 ?_;rw[List.pairwise_iff_getElem]at hap hs⊢;exact fun i j hi hj hij=>A5O (hs i j hi hj hij) (fun e=>hap i j hi hj hij e.symm)
 ·obtain⟨x,hx,rfl⟩:=List.mem_map.1 hc;obtain⟨g1,g2,g3,_⟩:=h.mem x (hp.mem_iff.1 hx);exact⟨g3,g1⟩
 ·by_cases hn:E4 cs r=0
  ·rw[hn];refine A3d fun c hc e=>?_;obtain⟨x,hx,rfl⟩:=List.mem_map.1 hc;obtain⟨_,g2,g3,_⟩:=h.mem x (hp.mem_iff.1 hx);rw[e,hn]at g2;exact g3 g2
  ·rcases h.all r hr hn with h3|⟨x,hx,rfl⟩
   ·rw[hl]at h3;cases h3
   ·rw[A7I (c:=x.1.2) C4D (List.mem_map.2 ⟨x,hp.mem_iff.2 hx,rfl⟩)];exact(h.mem x hx).2.1
theorem C2N (cs:List C2)(row:List V3)(n:Int):(E5 cs row n).length<=cs.length+1:=by
 unfold E5;have hle:=B2L cs row;split
 ·split
  ·split
   ·simp
   ·simp;omega
  ·split
   ·simp;omega
   ·omega
 ·split
  ·simp;omega
  ·omega
theorem B9b {cs:List C2}{row:List V3}{n M m:Int}(h:∀c∈cs,-M<=c.n/\c.n<=M)(hn: -m<=n/\n<=m)(hM:0<=M)(hm:0<=m):∀c∈E5 cs row n,-(M+m)<=c.n/\c.n<=M+m:=by
 have hw:∀c∈cs,-(M+m)<=c.n/\c.n<=M+m:=fun c hc=>by have:=h c hc;omega
 have ins:∀c∈cs.take (ahead cs row)++(⟨row,n⟩:C2)::cs.drop (ahead cs row),-(M+m)<=c.n/\c.n<=M+m:=by
  intro c hc;rcases List.mem_append.1 hc with h1|h1
  ·exact hw c (List.mem_of_mem_take h1)
  ·rcases List.mem_cons.1 h1 with rfl|h1
   ·dsimp only;omega
   ·exact hw c (List.mem_of_mem_drop h1)
 unfold E5;split
 ·rename_i x hx
  have hxm:=h x (mg8 hx);split
  ·split
   ·intro c hc;rcases List.mem_or_eq_of_mem_set hc with h1|rfl
    ·exact hw c h1
    ·dsimp only;omega
   ·intro c hc;rcases List.mem_append.1 hc with h1|h1
    ·exact hw c (List.mem_of_mem_take h1)
    ·exact hw c (List.mem_of_mem_drop h1)
  ·split
   ·exact ins
   ·exact hw
 ·split
  ·exact ins
  ·exact hw
def N5 (cs ds:List C2)(n:Int):List C2:=ds.foldl (fun t x=>E5 t x.r (n*x.n)) cs
theorem A7z (cs ds:List C2)(x:C2)(n:Int):N5 cs (ds++ [x]) n=E5 (N5 cs ds n) x.r (n*x.n):=by simp[N5]
theorem A2k {n:Int}:∀ {ds cs:List C2},Asc cs->(∀c∈cs,c.n≠0)->
  Asc (N5 cs ds n)/\(∀c∈N5 cs ds n,c.n≠0)/\∀q,K6 (N5 cs ds n) q=K6 cs q+(ds.map fun x=>if cR8 x.r q=0 then n*x.n else 0).sum
 | [],cs,h,hz=>⟨h,hz,fun q=>by simp[N5]⟩
 |x::ds,cs,h,hz=>by
  obtain⟨h1,h2,h3⟩:=B4w x.r (n*x.n) h hz;obtain⟨k1,k2,k3⟩:=A2k (n:=n) (ds:=ds) h1 h2;refine⟨k1,k2,fun q=>?_⟩;show K6 (N5 (E5 cs x.r (n*x.n)) ds n) q=_;rw[k3 q,h3 q];simp only[List.map_cons,List.sum_cons];omega
theorem A8M {cs:List C2}{n M m:Int}(h:∀c∈cs,-M<=c.n/\c.n<=M)(hM:0<=M)(hm:0<=m):∀ {ds:List C2},(∀x∈ds,-m<=n*x.n/\n*x.n<=m)->(N5 cs ds n).length<=cs.length+ds.length/\∀c∈N5 cs ds n,-(M+ds.length*m)<=c.n/\c.n<=M+ds.length*m:=by
 intro ds;induction ds generalizing cs M with
 |nil=>intro _;exact⟨by simp[N5],fun c hc=>by have:=h c hc;simp;omega⟩
 |cons x ds ih=>
  intro hd;have hx:=hd x (List.mem_cons_self ..);obtain⟨h1,h2⟩:=ih (cs:=E5 cs x.r (n*x.n)) (M:=M+m) (B9b h hx hM hm) (by omega) (fun y hy=>hd y (List.mem_cons_of_mem _ hy));have hl:=C2N cs x.r (n*x.n);refine⟨by show(N5 (E5 cs x.r (n*x.n)) ds n).length<=_;simp;omega,fun c hc=>?_⟩;have hc2:=h2 c hc;have e:((x::ds).length:Int)*m=ds.length*m+m:=by simp[Int.add_mul]
  omega
theorem B05:∀ {W:Int} {p:Option C2} {cs:List C2},S6 W p cs=true->Asc cs/\(∀y,p=some y->∀c∈cs,cR8 y.r c.r<0)/\∀c∈cs,T8 c.r W=true/\okN c.n=true
 |W,p,[],_=>⟨List.Pairwise.nil,fun _ _ _ h=>(by cases h),fun _ h=>(by cases h)⟩
 |W,p,x::xs,h=>by
  simp only[S6,Bool.and_eq_true]at h;obtain⟨⟨⟨h1,h2⟩,h3⟩,h4⟩:=h;obtain⟨a1,a2,a3⟩:=B05 h4;refine⟨List.pairwise_cons.2 ⟨a2 x rfl,a1⟩,fun y hy c hc=>?_,fun c hc=>?_⟩
  ·subst hy;have h5:cR8 y.r x.r<0:=by simpa [A08]using h3
   rcases List.mem_cons.1 hc with rfl|hc
   ·exact h5
   ·exact A1F h5 (a2 x rfl c hc)
  ·rcases List.mem_cons.1 hc with rfl|hc
   ·exact⟨h1,h2⟩
   ·exact a3 c hc
theorem A41 {W:Int}{cs:List C2}(h:J2 W cs=true)(hw:X7 cs):0<=W/\W<=12/\cs.length<=400/\Asc cs/\∀c∈cs,gR8 W c.r/\c.n≠0/\ -1000000000<=c.n/\c.n<=1000000000:=by
 simp only[J2,Bool.and_eq_true,decide_eq_true_eq]at h;obtain⟨⟨⟨h1,h2⟩,h3⟩,h4⟩:=h;obtain⟨a1,_,a3⟩:=B05 h4;refine⟨h1,h2,h3,a1,fun c hc=>?_⟩;obtain⟨b1,b2⟩:=a3 c hc;simp only[okN,Bool.and_eq_true,decide_eq_true_eq]at b2;exact⟨⟨b1,(hw c hc).1⟩,b2.1.1,b2.1.2,b2.2⟩
theorem A68 {W:Int}{cs:List C2}{r:List V3}(h:∀c∈cs,gR8 W c.r)(hr:¬gR8 W r):K6 cs r=0:=A2W fun c hc e=>hr (e▸h c hc)
theorem A7R (ds:List C2)(q:List V3):(ds.map fun x=>if cR8 x.r q=0 then 1*x.n else 0).sum=E4 ds q:=by
 induction ds with
 |nil=>rfl
 |cons x xs ih=>rw[List.map_cons,List.sum_cons,ih,E4,Int.one_mul]
theorem B2W {W:Int}{cs ds xs:List C2}(hc:J2 W cs=true)(hd:J2 W ds=true)(wc:X7 cs)(wd:X7 ds)(h:A01 W (cs++ds) xs):xs=N5 cs ds 1:=by
 obtain⟨_,_,_,ac,gc⟩:=A41 hc wc;obtain⟨_,_,_,ad,gd⟩:=A41 hd wd;obtain⟨s1,s2,s3⟩:=A2k (n:=1) (ds:=ds) ac (fun c hc=>(gc c hc).2.1);refine A6S h.asc s1 (fun c hc=>(h.good c hc).1) s2 fun r=>?_;rw[s3,A7R];by_cases hr:gR8 W r
 ·rw[<-A2n r h.asc,h.tot r hr,A74,A2n r ac]
 ·rw[A68 (fun c hc=>(h.good c hc).2) hr,A68 (fun c hc=>(gc c hc).1) hr,A3d (r:=r) fun c hc e=>hr (e▸ (gd c hc).1)];rfl
theorem A6e {α:Type}{R S:α->α->Prop}(f:∀a b,R a b->S a b):∀ {l:List α},l.Pairwise R->l.Pairwise S
 | [],_=>List.Pairwise.nil
 |a::l,h=>by
  cases h with
  |cons h1 h2=>exact List.Pairwise.cons (fun b hb=>f a b (h1 b hb)) (A6e f h2)
theorem C4K {n:Int}(h: -9223372036854775808<=n/\n<=9223372036854775807):(Lit.int .i64 n).wf=true:=by
 have e1:IntKind.i64.min= -9223372036854775808:=rfl;have e2:IntKind.i64.max=9223372036854775807:=rfl;simp[Lit.wf,e1,e2];omega
end
section
open Go Go.RowKit
section
variable {P:Program}
def A1f (O:Nat->Prop)(A B:World):Prop:=A.heap.size<=B.heap.size/\∀k,k<A.heap.size->¬O k->B.heap[k]?=A.heap[k]?
structure X9 (X:Nat->Prop)(A B:World):Prop where
 os:B.os=A.os
 tape:B.tape=A.tape
 output:B.output=A.output
 size:A.heap.size<=B.heap.size
 block:∀k,k<A.heap.size->X k->B.heap[k]?=A.heap[k]?
theorem X9.putObj {X:Nat->Prop}{A:World}{l:Nat}(o:Obj)(h:¬X l):X9 X A (A.putObj l o):=
 ⟨rfl,rfl,rfl,by simp[World.putObj],fun k _ hk=>World.putObj_heap_other (fun e=>h (by rw[<-e];exact hk))⟩
theorem X9.of_below {X:Nat->Prop}{A B:World}(h:Below A.heap.size A B):X9 X A B:=⟨h.os,h.tape,h.output,h.size,fun k hk _=>h.block k hk⟩
theorem X9.trans {X:Nat->Prop}{A B C:World}(h:X9 X A B)(k:X9 X B C):X9 X A C:=
 ⟨k.os.trans h.os,k.tape.trans h.tape,k.output.trans h.output,Nat.le_trans h.size k.size,fun i hi hX=>(k.block i (Nat.lt_of_lt_of_le hi h.size) hX).trans (h.block i hi hX)⟩
theorem A1f.trans {O O':Nat->Prop}{A B C:World}(h:A1f O A B)(k:A1f O' B C)(hO:∀i,O' i->O i\/A.heap.size<=i):A1f O A C:=
 ⟨Nat.le_trans h.1 k.1,fun i hi hn=>(k.2 i (Nat.lt_of_lt_of_le hi h.1) (fun e=>by rcases hO i e with h1|h1;exact hn h1;omega)).trans (h.2 i hi hn)⟩
def A89 {α:Type}(P:Program)(gf:Nat)(recv:Value)(encs:α->Array Value)(Nm:Nat)(S:List α->Prop)(w:World):Prop:=
 ∀ (l:Nat) (J:List α->(Nat->Prop)->World->Prop) (W:World),Below w.heap.size w W-> (∀pre O A B,J pre O A->X9 (fun k=>k<W.heap.size\/O k) A B->J pre O B)-> (∀pre O x W1,J pre O W1->pre.length<Nm->YieldAt Fence.wide 0 P l (encs x) W1 fun e W'=>e=.returned (.bool true)/\∃O',J (pre++ [x]) O' W'/\A1f O W1 W'/\∀k,O' k->O k\/W1.heap.size<=k)-> ∀O,J [] O W->(∀k,O k->k<W.heap.size)-> CallsIn Fence.wide 0 P gf #[recv,.func (.yield l) #[] #[]] W fun e W'=>(∃v,e=.returned v)/\∃xs O',S xs/\J xs O' W'
def B6p {α:Type}(I:List α->(Nat->Prop)->World->Prop)(xs:List α)(O:Nat->Prop)(W:World):Exit->Act->World->Prop
 | .normal,_,W'=> ∃O',I xs O' W'/\A1f O W W'/\∀k,O' k->O k\/W.heap.size<=k
 |_,_,_=>False
theorem C2l {α:Type}{g:Operand}{ps:Array Tmp}{assign body:Code}{Q:Exit->Act->World->Prop}{a:Act}{w:World}{gf:Nat}{recv:Value}(hg:a.eval g=.func (.func gf) #[recv] #[]) (eg:∀args w,(callFunc gf args).run P w=.ok (.enter gf args) w){encs:α->Array Value} {Nm:Nat} {S:List α->Prop} (hseq:A89 P gf recv encs Nm S w) (hps:∀x,(encs x).size=ps.size)(I:List α->(Nat->Prop)->World->Prop) (hI:∀pre O A B,I pre O A->X9 (fun k=>k<w.heap.size\/O k) A B->I pre O B) (O₀:Nat->Prop) (hO₀:∀k,O₀ k->k<w.heap.size) (h0:I [] O₀ w)(Ax:α->(Nat->Prop)->Act->World->Prop) (hAx:∀x O a' A o,Ax x O a' A->Ax x O a' (A.putObj (w.heap.size+1) o))(hassign:∀ (l:Nat) (pre:List α) (O:Nat->Prop) (x:α) (W:World) (K:Act->World->Prop),I pre O W->w.heap.size+2<=W.heap.size->(∀a' W',A1f O W W'->I pre O W'->Ax x O a' W'->K a' W')->
   assign.wpIn (Fence.wide.inRound l) 0 P (Exit.then K (fun _ _ _=>False)) {tmps:=(ps.zip (encs x)).foldl (fun t (p,v)=>t.setIfInBounds p v) a.tmps,defers:=[]} W)
  (hbody:∀ (l:Nat) (pre:List α) (O:Nat->Prop) (x:α) (a':Act) (W:World),I pre O W->Ax x O a' W->w.heap.size+2<=W.heap.size->pre.length<Nm->body.wpIn (Fence.wide.inRound l) 0 P (B6p I (pre++ [x]) O W) a' W)
  (hdone:∀ (D:Nat) (xs:List α) (O:Nat->Prop) (W:World),w.heap.size<=D->(∀k,O k->k≠D)->S xs->I xs O W->W.heap[D]?=some (.deferred (some []))->Q .normal {a with defers:={target:=.collected D,args:=#[]}::a.defers} W):
  (Code.rangeFunc g ps assign body).wpIn Fence.wide 0 P Q a w:=by
 refine wpIn_rangeFunc fun fn hfn=>?_;obtain⟨L,hL⟩:∃L:LoopState->Loop,L=fun st=>{state:=st,pending:=none,fn,tmps:=a.tmps,params:=ps,assign,body,defers:=w.heap.size}:=⟨_,rfl⟩;obtain⟨W1,hW1⟩:∃W1,(w.alloc (.deferred (some []))).alloc (.loop (L .ready))=W1:=⟨_,rfl⟩;have hs1:W1.heap.size=w.heap.size+2:=by rw[<-hW1];simp
 have B98:W1.heap[w.heap.size+1]?=some (.loop (L .ready)):=by
  rw[<-hW1];have:=World.alloc_heap_new (w.alloc (.deferred (some []))) (.loop (L .ready))
  rwa [World.size_alloc]at this
 have B9r:W1.heap[w.heap.size]?=some (.deferred (some [])):=by
  rw[<-hW1];exact(bA8 _ _ _ (by simp)).trans (World.alloc_heap_new w _)
 have hb1:Below w.heap.size w W1:=by rw[<-hW1];exact((Below.refl _ w).alloc lr8 _).alloc (by simp) _
 have hI1:I [] O₀ W1:=hI _ _ _ _ h0 (X9.of_below hb1);refine⟨w.heap.size+1,[{target:=.collected w.heap.size,args:=#[]}],W1,{target:=.fn (.func gf) #[],args:=#[recv,.func (.yield (w.heap.size+1)) #[] #[]]},W1,gf,#[recv,.func (.yield (w.heap.size+1)) #[] #[]],W1,?_,?_,fun _ _=>trivial,?_,fun h=>(by cases h),?_⟩
 ·rw[<-hW1,hL];exact run_enterLoop_outer _ _ _ _ _
 ·simp only[resolve,hg];simp[go_sem]
 ·simp[invoke,go_sem,eg]
 refine(hseq (w.heap.size+1) (fun pre O W=> ∃O1,I pre O1 W/\W.heap[w.heap.size+1]?=some (.loop (L .ready))/\W.heap[w.heap.size]?=some (.deferred (some []))/\(∀k,O1 k->k<w.heap.size\/w.heap.size+2<=k)/\O=fun k=>O1 k\/k=w.heap.size+1) W1 hb1 ?_ ?_ _ ⟨O₀,hI1,B98,B9r,fun k hk=> .inl (hO₀ k hk),rfl⟩ ?_).mono ?_
 ·rintro pre O A B ⟨O1,hi,hl,hd,hO1,rfl⟩ hs;refine⟨O1,hI _ _ _ _ hi ⟨hs.os,hs.tape,hs.output,hs.size,fun k hk hX=>hs.block k hk ?_⟩,?_,?_,hO1,rfl⟩
  ·rcases hX with h|h
   ·exact .inl (by omega)
   ·exact .inr (.inl h)
  ·exact(hs.block _ (Array.getElem?_eq_some_iff.1 hl).1 (.inl (by omega))).trans hl
  ·exact(hs.block _ (Array.getElem?_eq_some_iff.1 hd).1 (.inl (by omega))).trans hd
 ·rintro pre O x W ⟨O1,hi,hl,hk,hO1,rfl⟩ hNm;have hlt:w.heap.size+1<W.heap.size:=(Array.getElem?_eq_some_iff.1 hl).1;have hno:¬ (w.heap.size+1<w.heap.size\/O1 (w.heap.size+1)):=fun h=>by
   rcases h with h|h
   ·omega
   ·have:=hO1 _ h;omega
  have hnd:¬O1 w.heap.size:=fun h=>by have:=hO1 _ h;omega
  have hy:=run_yield (P:=P) (args:=encs x) hl (by rw[hL];exact hps x);rw[hL]at hy;refine⟨fn,_,assign,body,hy,roundIn_of_wpIn hfn (hassign _ pre O1 x W _ hi (by omega) fun a2 W2 hk2 hi2 hx2=>?_)⟩;have hl2:W2.heap[w.heap.size+1]?=some (.loop (L .ready)):=(hk2.2 _ hlt (fun h=>hno (.inr h))).trans hl;have hd2:W2.heap[w.heap.size]?=some (.deferred (some [])):=(hk2.2 _ (by omega) hnd).trans hk;have A2p:w.heap.size+1<W2.heap.size:=(Array.getElem?_eq_some_iff.1 hl2).1;refine⟨_,run_beginRound hl2 (by rw[hL]),?_⟩;have hi3:I pre O1 (W2.putObj (w.heap.size+1) (.loop {L .ready with state:=.busy})):=hI _ _ _ _ hi2 (X9.putObj _ hno);have hx3:=hAx x O1 a2 W2 (.loop {L .ready with state:=.busy}) hx2;obtain⟨W3,hW3⟩:∃W3,W2.putObj (w.heap.size+1) (.loop {L .ready with state:=.busy})=W3:=⟨_,rfl⟩;rw[hW3]at hi3 hx3⊢;have hs3:W3.heap.size=W2.heap.size:=by rw[<-hW3];simp[World.putObj]
  have hl3:W3.heap[w.heap.size+1]?=some (.loop {L .ready with state:=.busy}):=by rw[<-hW3];exact World.putObj_heap_same A2p
  have ho3:∀k,k≠w.heap.size+1->W3.heap[k]?=W2.heap[k]?:=fun k hk=>by rw[<-hW3];exact World.putObj_heap_other hk
  have hd3:W3.heap[w.heap.size]?=some (.deferred (some [])):=(ho3 _ (by omega)).trans hd2;refine wpIn_mono (hbody _ pre O1 x a2 W3 hi3 hx3 (by omega) hNm) fun e a4 W4 hp=>?_;cases e with
  |normal=>
   obtain⟨O2,hi4,hk4,hO2⟩:=hp;have hl4:W4.heap[w.heap.size+1]?=some (.loop {L .ready with state:=.busy}):=(hk4.2 _ (by omega) (fun h=>hno (.inr h))).trans hl3;have hd4:W4.heap[w.heap.size]?=some (.deferred (some [])):=(hk4.2 _ (by omega) hnd).trans hd3;have A2u:w.heap.size+1<W4.heap.size:=(Array.getElem?_eq_some_iff.1 hl4).1;have A0O:=run_endRound (P:=P) none hl4;have e0:({({L .ready with state:=.busy}:Loop)with state:=if(none:Option Code).isNone then .ready else .done,pending:=none}:Loop)=L .ready:=by rw[hL];rfl
   rw[e0]at A0O;have A0l:∀k,O2 k->k<w.heap.size\/w.heap.size+2<=k:=fun k hk=>by
    rcases hO2 k hk with h|h
    ·exact hO1 k h
    ·omega
   refine⟨_,_,A0O,rfl,_,⟨O2,hI _ _ _ _ hi4 (X9.putObj _ ?_),World.putObj_heap_same A2u,(World.putObj_heap_other (by omega)).trans hd4,A0l,rfl⟩,⟨?_,fun k hk hn=>?_⟩,fun k hk=>?_⟩
   ·rintro(h|h)
    ·omega
    ·have:=A0l _ h;omega
   ·have:=hk2.1;have:=hk4.1;simp[World.putObj];omega
   ·have hkl:k≠w.heap.size+1:=fun e=>hn (.inr e);have hk1:¬O1 k:=fun h=>hn (.inl h);rw[World.putObj_heap_other hkl,hk4.2 k (by have:=hk2.1;omega) hk1,ho3 k hkl,hk2.2 k hk hk1]
   ·rcases hk with h|h
    ·rcases hO2 k h with h|h
     ·exact .inl (.inl h)
     ·exact .inr (by have:=hk2.1;omega)
    ·exact .inl (.inr h)
  |ret=>exact hp.elim
  |exit id=>exact hp.elim
  |goto t=>exact hp.elim
  |panic ch=>exact hp.elim
  |outgrown=>exact hp.elim
 ·rintro k (h|h)
  ·have:=hO₀ k h;omega
  ·omega
 ·rintro e W2 ⟨⟨v,rfl⟩,xs,O,hS,O1,hi,hl,hk,hO1,rfl⟩;have A0O:=run_endLoop (P:=P) hl (by rw[hL];simp);have hp:(L .ready).pending=none:=by rw[hL]
  rw[hp]at A0O;refine⟨none,_,A0O,?_⟩;exact hdone _ xs O1 _ lr8 (fun k h e=>by have:=hO1 k h;omega) hS (hI _ _ _ _ hi (X9.putObj _ (by rintro(h|h);omega;have:=hO1 _ h;omega))) ((World.putObj_heap_other (by omega)).trans hk)
theorem B3T {o:Oper}{a:Act}{K:Act->World->Prop}{Q:Exit->Act->World->Prop}{l:Nat}{r:Result Next}(h:o.upon P a K Q r):o.uponIn (Fence.wide.inRound l) 0 P a K Q r:=by
 unfold Oper.upon at h;split at h
 ·exact h
 ·exact h
 ·exact h
 ·exact⟨fun h=>(by cases h),CallsIn.inRound l (callsIn_wide.2 h)⟩
 ·refine⟨fun h=>(by cases h),fun c cs _=>?_⟩;obtain⟨v,w',r1,r2⟩:=h c cs;exact⟨v,w',r1,stepsIn_wide.2 r2⟩
 ·exact h
 ·exact h.elim
def A7g (ops:Array Oper):Bool:=ops.all fun o=>match o.op with| .defer _=>false|_=>true
theorem B59 {ops:Array Oper}(h:A7g ops=true){i:Nat}{o:Oper}(ho:ops[i]?=some o)(c:Call):o.op≠Op.defer c:=fun e=>by
 obtain⟨hi,rfl⟩:=Array.getElem?_eq_some_iff.1 ho;have:=(Array.all_eq_true.1 h) i hi;rw[e]at this;cases this
theorem A4c {md:Region.Mode}{ops:Array Oper}{Q:Exit->Act->World->Prop}{l:Nat}(hd:A7g ops=true)(hQ:¬LetsOut Q):∀ (fuel:Nat) (listed:Array Bool) (a:Act) (w:World),wpAny P md ops Q fuel listed a w->wpAnyIn (Fence.wide.inRound l) 0 P md ops Q fuel listed a w
 |0,_,_,_,h=>h
 |fuel+1,listed,a,w,h=>⟨h.1,fun i hi=>by
   have h2:=h.2 i hi;unfold wpOp at h2;unfold wpOpIn;cases ho:ops[i]? with
   |none=>
    simp only[ho]at h2⊢;exact A4c hd hQ fuel _ a w h2
   |some o=>
    simp only[ho]at h2⊢;split
    ·rename_i hw
     rw[if_pos hw]at h2;rcases h2 with h2|h2
     ·refine⟨fun _ _=>trivial,?_⟩;rw[Oper.semAt_plain _ _ _ (B59 hd ho)];exact B3T (Oper.wp_mono (fun a' w' h'=>A4c hd hQ fuel _ a' w' h') h2)
     ·exact absurd h2.2 hQ
    ·rename_i hw
     rw[if_neg hw]at h2;exact⟨fun _ _=>trivial,A4c hd hQ fuel _ _ w h2⟩⟩
theorem C3i {id:Nat}{ops:Array Oper}{Q:Exit->Act->World->Prop}{a:Act}{w:World}{l:Nat}(z:Nat)(S:World->Prop)(hd:A7g ops=true)(hQ:¬LetsOut Q)(hm:P.follows .mixedOrders=true)(hS:S w.drew)(h:S w.drew->Y1 P .any ops Q S z ops.size (Array.replicate ops.size false) a w.drew):(Code.region id ops true).wpIn (Fence.wide.inRound l) 0 P Q a w:=
 wpIn_region_any hm (A4c hd hQ _ _ _ _ (A7V _ _ _ _ (h hS)))
end
end
section
open Go.RowKit Go.Shelf
def m7 {w:World}{b:Nat}(ss:List (P2 w b)):List Value:=ss.flatMap k8
theorem C2L {w:World}{b:Nat}(ss:List (P2 w b))(x:P2 w b):m7 (ss++ [x])=m7 ss++ [x.1.1,.int .i64 x.1.2.n]:=by
 unfold m7;rw[List.flatMap_append];simp[k8]
theorem A6h {w:World}{b:Nat}:∀ {ss:List (P2 w b)} {i:Nat} {x:P2 w b},ss[i]?=some x->(m7 ss)[i*2]?=some x.1.1/\(m7 ss)[i*2+1]?=some (.int .i64 x.1.2.n)
 |y::ss,0,x,h=>by
  obtain rfl:y=x:=by simpa using h
  constructor<;>simp[m7,k8]
 |y::ss,i+1,x,h=>by
  have ih:=A6h (ss:=ss) (i:=i) (x:=x) (by simpa using h);have e:m7 (y::ss)=y.1.1:: .int .i64 y.1.2.n::m7 ss:=by unfold m7;rw[List.flatMap_cons];rfl
  rw[e,show(i+1)*2=i*2+1+1 by omega]
  simpa using ih
theorem B1M:(Tryz.prog.info? 116).map (fun i=>(i.zero,i.size,i.bytes))=some (some (.agg #[.slice none 0 0,.int .i64 0]),2,32):=by kernel_rfl
structure VT where
 a:Option Addr
 l:Nat
 c:Nat
 n:Int
theorem B5R {w:World}{N e n g cap:Nat}{xs:List Value}(h:w.ownsRow N e 2 (.slice (some ⟨g,0,none⟩) n cap) n xs):g<w.heap.size/\N<=g/\(∀i u,xs[i]?=some u->w.cell? ⟨g,i,none⟩=some u)/\∀o,w.frozen? ⟨g,o,none⟩=false:=by
 obtain⟨hl,h⟩:=h;rcases h with⟨h,_⟩|⟨g',cap',cur,e1,hN,hb,h1,h2,h3,h4⟩
 ·cases h
 ·obtain⟨rfl,rfl⟩:g=g'/\cap=cap':=by injection e1 with e2 _ e3;injection e2 with e4;injection e4 with e5;exact⟨e5,e3⟩
  refine⟨(Array.getElem?_eq_some_iff.1 hb).1,hN,fun i u hu=>?_,fun o=>by simp[World.frozen?,hb]⟩;rw[<-h4,List.getElem?_take]at hu;split at hu
  ·simp only[World.cell?,hb]
   simpa using hu
  ·cases hu
theorem C0w (b B n:Nat)(W:Int)(cs:List C2)(w:World)(hT:A1c w b B n W cs)(hB:B<=w.heap.size)(hn:n<=4194304)(hW:W<=1048576):A89 Tryz.prog 164 (.map (some b)) (fun x:P2 w B=>#[.agg #[x.1.1,.int .i64 x.1.2.n]]) 4194304 (fun xs=>A01 W cs (xs.map fun x=>x.1.2)) w:=by
 intro l J U hU hJ hY O hJ0 hO;have hlb:=hT.lt;obtain⟨D,hown0,hTD⟩:=hT;have D2:U.ownsMap Tryz.prog 9 Rc b n D:=hown0.kept (row:=none) ⟨hU.os,hU.tape,hU.output,hU.size,fun k hk _=>hU.block k hk⟩ (by simp);have hsz:=D2.size_le;obtain⟨i0,hi,hz0,hz1,hz2⟩:=info_parts B1M;have hbU:b<U.heap.size:=Nat.lt_of_lt_of_le hlb hU.size;refine callsIn_wide.2 ?_;go_enter Tryz.func164,Tryz.ntmps164;go_wp2_with(first
  |(at_len;refine wpList_len_own _ rfl _ 217 rfl 9 116 Tryz.underlying217 _ b n D rfl D2 ?_)
  |(at_make;refine wpList_make_own _ rfl _ _ 33 rfl U.heap.size 116 i0 _ 2 Tryz.underlying33 hi hz0 hz1 .i64 .i64 _ (Maps.size D) rfl rfl rfl (by rw[hz2];omega) (by unfold maxLen;omega) lr8 ?_;intro w1 hrow1 hg1)
  |(at_range;refine wpList_range_own _ rfl _ 217 rfl 9 116 (Maps.string_keyed Tryz.underlying9) Tryz.underlying217 _ b n D rfl (D2.kept hg1 (by simp)) ?_;intro w2 hrg2 hg2 hs2))
 have hs1:=hg1.size;have hb2:Below U.heap.size U w2:=((Below.refl _ U).grown hg1 lr8 (fun k e=>by cases e)).grown hg2 hs1 (fun k e=>by cases e);have A8n:=oK8 hrow1 (fun k hk=>hg2.block k (oL8 hrow1 k hk).2 (by simp));have B92:∀key kl,keyOf Tryz.prog 9 key=some kl->∃x:ByteArray,key=Value.string x:=fun key kl h=>by
  obtain⟨s,e,_⟩:=WideMaps.string_of_keyOf Tryz.underlying9 h;exact⟨s,e⟩
 have B3o:∀v y,Rc v=some y->∃p:VT,v=.agg #[.slice p.a p.l p.c,.int .i64 p.n]:=fun v y h=>by
  obtain⟨a,l,c,m,e,_⟩:=A5u h;exact⟨⟨a,l,c,m⟩,e⟩
 obtain⟨r,hr⟩:∃r,w1.heap.size=r:=⟨_,rfl⟩;rw[hr]at hrg2⊢;have hrU:U.heap.size<=r:=by omega
 clear hrow1 hg1 hg2 hs2 hs1 D2 hown0 hr hsz;go_loopw [4] (fun y wr=> ∃ (left:Lit->Bool) (cnt:Nat) (ss:List (P2 w B)) (g cap:Nat),y=.slice (some ⟨g,0,none⟩) ss.length cap/\wr.ranges Tryz.prog 9 Rc b r n D left cnt/\wr.ownsRow U.heap.size 116 2 (.slice (some ⟨g,0,none⟩) ss.length cap) ss.length (m7 ss)/\Below U.heap.size U wr/\A0c D W cs left ss/\ss.length+cnt<=n) (fun _ wr=>wr.rangeLeft b r)
 case atStart=>exact⟨_,_,[],_,_,rfl,hrg2,A8n,hb2,A0c.start hTD,by have:=hrg2.owns.size_le;simpa using this⟩
 case round=>
  obtain⟨left,cnt,ss,g,cap,rfl,hrg,J5,hb,hC,hcn⟩:=hrel;clear hrg2 A8n hb2;obtain⟨hgl,hgN,C5,hfrz⟩:=B5R J5;have hzb:=hb.size;have hgb:b≠g:=by omega
  have hgr:r≠g:=by
   rintro rfl;obtain⟨o,ho,hw⟩:=hrg.iter_walk;rcases J5.2 with⟨e,_⟩|⟨g',_,cur,e,_,hc,_⟩
   ·cases e
   ·injection e with e1;injection e1 with e2;injection e2 with e3;rw[<-e3,ho]at hc;cases hc;cases hw
  have hUs:=hb.size;go_wp2_with(first
   |(at_next;refine wpList_next_ranges _ rfl _ rfl 9 (Maps.string_keyed Tryz.underlying9) Rc (fun s:ByteArray=>Value.string s) (fun p:VT=>Value.agg #[.slice p.a p.l p.c,.int .i64 p.n]) B92 B3o b r n D left cnt rfl hrg (fun hc0 hl0=>?_) (fun kx p kl y w3 cnt3 A0o hlk hRv hat hrg3 j5 hg3 hs3 hen=>?_))
   |(at_builtin;refine wpList_append_own _ rfl _ _ 33 rfl U.heap.size 116 i0 _ 2 32 Tryz.underlying33 hi hz0 hz1 hz2 rfl (by decide) (.slice (some ⟨g,0,none⟩) ss.length cap) ss.length (m7 ss) rfl ?hown ⟨wr.heap.size+1,0,none⟩ 1 1 [.slice p.a p.l p.c,.int .i64 p.n] rfl rfl ?c1 ?c2 ?c3 ?c4 ?c5 ?_))
  case hown=>
   refine oK8 J5 fun k hk=>?_;have h1:=oL8 J5 k hk;rw[bA8 _ _ _ (by simp;omega),bA8 _ _ _ (by omega)];exact hg3.block k h1.2 (by simp only[Value.ownBlock,Option.some.injEq]at hk;subst hk;simp only[ne_eq,Option.some.injEq];exact fun e=>hgr e.symm)
  case c1=>
   intro j' u hu
   match j',hu with
   |0,hu=>simp at hu;subst hu;go_simp
   |1,hu=>simp at hu;subst hu;go_simp
  case c2=>intro u hu;simp at hu;rcases hu with rfl|rfl<;>rfl
  case c3=>unfold maxLen;omega
  case c4=>omega
  case c5=>simp;omega
  ·have hbw:Below B w wr:=(hU.mono hB).trans (hb.mono (Nat.le_trans hB hU.size));have B07:=B6e w wr B g cap hbw (by have:=hU.size;omega) hgl ss (by omega) (fun i x hx=>⟨C5 _ _ (A6h hx).1,C5 _ _ (A6h hx).2⟩) hfrz;refine cM8 B07 ?_;rintro e w5 ⟨rfl,xs,hp,hs,hxc,ho1,ho2,ho3,A0V,hbl5⟩;have k9:=hC.done hl0 hp hs;have hxl:Hid (xs.length=ss.length):=hp.length_eq;have hJ5:J [] O w5:=hJ _ _ _ _ hJ0 ⟨ho1.trans hb.os,ho2.trans hb.tape,ho3.trans hb.output,Nat.le_trans hUs A0V,fun k hk _=>(hbl5 k (by omega) (by omega)).trans (hb.block k hk)⟩;have hg5:g<w5.heap.size:=by omega
   have hOg:¬O g:=fun h=>by have:=hO g h;omega
   clear B07 hC J5 C5 hfrz hrg hp hs hbl5 ho1 ho2 ho3 hbw hc0 hl0;go_wp2_with fail;refine(wpIn_wide (n:=0)).1 ?_
   gi_loopw [26] (fun i wr=> ∃ (k:Nat) (O2:Nat->Prop),k<=ss.length/\i=.int .i64 k/\J (xs.take k) O2 wr/\wr.heap[g]?=w5.heap[g]?/\¬O2 g/\g<wr.heap.size) (fun i _=>ss.length - (intOf i).toNat)
   case atStart=>exact⟨0,O,Nat.zero_le _,rfl,hJ5,rfl,hOg,hg5⟩
   case round=>
    obtain⟨k,O2,hk,rfl,hJk,hgk,hO2,hgl2⟩:=hrel;by_cases hlt:k<ss.length
    ·have hkx:k<xs.length:=by rw[hxl.out];exact hlt
     obtain⟨x,hx⟩:∃x,xs[k]?=some x:=⟨xs[k],by simp⟩;have HT:Hid (xs.take (k+1)=xs.take k++ [x]):=V9 hx;obtain⟨c0,c1⟩:=hxc k x hx;replace c0:=(cb8 hgk).trans c0;replace c1:=(cb8 hgk).trans c1;obtain⟨⟨u,rr,nn⟩,hxB⟩:=x;obtain⟨ua,uc,hu⟩:∃a c,u=.slice a rr.length c:=by obtain⟨⟨_,⟨a,c,e,_⟩,_⟩,_⟩:=hxB;exact⟨a,c,e⟩
     dsimp only at c0 c1;subst hu;have hJ1:=hJ _ _ _ (wr.alloc (.cells #[.slice ua rr.length uc,.int .i64 nn] 116)) hJk (X9.of_below ((Below.refl _ _).alloc lr8 _));obtain⟨fn,tmps,assign,body,hy,hR⟩:=hY _ _ ⟨(.slice ua rr.length uc,⟨rr,nn⟩),hxB⟩ _ hJ1 (by rw[List.length_take];omega);dsimp only at hy;clear hJk hJ5 hJ0 hx hxc
     gi_wp2
     refine⟨rfl,hR.mono ?_⟩;rintro e W3 ⟨rfl,O3,hJ3,hkept,hO3⟩;have hs3:=hkept.1;simp only[World.size_alloc]at hs3;have hg3:W3.heap[g]?=w5.heap[g]?:=(hkept.2 g (by simp;omega) hO2).trans ((bA8 wr _ g hgl2).trans hgk);have B3i:¬O3 g:=fun h=>by
      rcases hO3 g h with h|h
      ·exact hO2 h
      ·simp at h;omega
     clear hkept hO3 hR hy hJ1
     gi_wp2
     go_roundw
     case rel=>exact⟨k+1,O3,hlt,by simp,by rw[HT.out];exact hJ3,hg3,B3i,by omega⟩
     case measure=>simp[intOf];omega
    ·obtain rfl:k=ss.length:=by omega
     rw[<-hxl.out,List.take_length]at hJk;clear hJ5 hJ0 hxc hY
     gi_wp2
     go_end0
     exact⟨⟨_,rfl⟩,xs,O2,k9,hJk⟩
  ·intro v4 w4 U3 hgrow4 _;obtain⟨x,hx1,hx2,hC3⟩:=A0c.next hTD hW hC hlk (a:=p.a) (l:=p.l) (c:=p.c) (m:=p.n) (fun z=>by rw[hat z];have e:=(A3n p.a p.l p.c p.n).symm.trans hRv;exact(congrArg Prod.fst (Option.some.inj e)).symm);obtain⟨g4,cap4,rfl⟩:=ownsRow_succ U3;have D3:(ss++ [x]).length=ss.length+1:=by simp
   have hfl:m7 ss++ [.slice p.a p.l p.c,.int .i64 p.n]=m7 (ss++ [x]):=by rw[C2L,hx1,hx2]
   rw[hfl]at U3;have B1d:=(((hrg3.alloc (.cells #[.slice p.a p.l p.c,.int .i64 p.n] 116)).alloc (.cells #[.slice p.a p.l p.c,.int .i64 p.n] 116)).kept hgrow4 (by simp[Value.ownBlock];exact hgb) (by simp[Value.ownBlock];exact hgr));have hb3:Below U.heap.size U w3:=hb.grown hg3 hzb (fun k e=>by simp at e;omega);have hb4:Below U.heap.size U w4:=((hb3.alloc (by omega) _).alloc (by simp;omega) _).grown hgrow4 (by simp;omega) (fun k e=>by simp[Value.ownBlock]at e;omega);have B8e:=hrg.left_eq;clear J5 C5 hfrz hC hrg hrg3 hg3 hb3 hgrow4 hat hRv A0o;go_wp2_with fail;refine⟨⟨_,cnt3,ss++ [x],g4,cap4,by rw[D3],B1d,by rw[D3];exact U3,hb4,hC3,by rw[D3];omega⟩,?_⟩;rw[B1d.left_eq,B8e];exact j5
end
section
open Go.RowKit Go.Shelf
attribute [local go_sem] Oper.semAt_some
def A19 {w2:World}{b:Nat}(w:World)(X:Int)(pre:List (P2 w2 b))(O:Nat->Prop)(A:World):Prop:=
 ∃ (y:Value) (us:List Value) (G:List (List Nat)),A.cell? ⟨w.heap.size+1,0,none⟩=some (.int .i64 X)/\A.cell? ⟨w.heap.size+1,1,none⟩=some y/\(∀q,A.frozen? ⟨w.heap.size+1,q,none⟩=false)/\A.cell? ⟨w.heap.size,0,none⟩=some (.int .i64 0)/\A.cell? ⟨w.heap.size,1,none⟩=some (.slice none 0 0)/\(∀q,A.frozen? ⟨w.heap.size,q,none⟩=false)/\ C4 A (w.heap.size+1+1) y (pre.map fun x=>x.1.2) us G/\Below w.heap.size w A/\w.heap.size+1+1<=A.heap.size/\(∀k,y.ownBlock=some k\/k∈G.flatten->O k)/\O (w.heap.size+1)/\∀k,O k->k=w.heap.size+1\/w.heap.size+1+1<=k/\k<A.heap.size
theorem B1C {A B:World}{N:Nat}{y:Value}{cs:List C2}{us:List Value}{G:List (List Nat)}(h:C4 A N y cs us G)(hs:A.heap.size<=B.heap.size)(hb:∀k,y.ownBlock=some k\/k∈G.flatten->B.heap[k]?=A.heap[k]?):C4 B N y cs us G:=by
 refine⟨oK8 h.own fun k hk=>hb k (.inl hk),h.ul,h.gl,fun i x u g hx hu hg=>(h.row i x u g hx hu hg).keep hs fun k hk=>hb k (.inr ?_),h.free.keep fun k hk=>hb k (.inr hk),h.out⟩;exact List.mem_flatten.2 ⟨g,mg8 hg,hk⟩
theorem A19.on {w2:World}{b:Nat}{w:World}{X:Int}{pre:List (P2 w2 b)}{O:Nat->Prop}{A B:World}(h:A19 w X pre O A)(hs:X9 (fun k=>k<w.heap.size+2\/O k) A B):A19 w X pre O B:=by
 obtain⟨y,us,G,p0,p1,pf,r0,r1,rf,hB,hb,hz,hO,hOb,hO2⟩:=h;have e1:B.heap[w.heap.size+1]?=A.heap[w.heap.size+1]?:=hs.block _ (by omega) (.inl (by omega));have e0:B.heap[w.heap.size]?=A.heap[w.heap.size]?:=hs.block _ (by omega) (.inl (by omega));refine⟨y,us,G,(cb8 e1).trans p0,(cb8 e1).trans p1,fun q=>(fb8 e1).trans (pf q),(cb8 e0).trans r0,(cb8 e0).trans r1,fun q=>(fb8 e0).trans (rf q),B1C hB hs.size fun k hk=>?_,⟨hs.os.trans hb.os,hs.tape.trans hb.tape,hs.output.trans hb.output,Nat.le_trans hb.size hs.size,fun k hk=>(hs.block k (by omega) (.inl (by omega))).trans (hb.block k hk)⟩,Nat.le_trans hz hs.size,hO,hOb,fun k hk=>?_⟩
 ·have h1:k<A.heap.size:=by
   rcases hk with hk|hk
   ·exact(oL8 hB.own k hk).2
   ·exact hB.lt k hk
  exact hs.block k h1 (.inr (hO k hk))
 ·have:=hO2 k hk;have:=hs.size;omega
theorem B7w {W2:World}{b:Nat}(w:World)(X:Int):A19 (w2:=W2) (b:=b) w X [] (fun k=>k=w.heap.size+1) ((w.alloc (.cells #[.int .i64 0,.slice none 0 0] 35)).alloc (.cells #[.int .i64 X,.slice none 0 0] 35)):=by
 refine⟨.slice none 0 0,[],[],by go_simp,by go_simp,fun q=>by go_simp,by go_simp,by go_simp,fun q=>by go_simp,C4.nil _ _,((Below.refl _ _).alloc lr8 _).alloc (by simp) _,by simp,fun k hk=>?_,rfl,fun k hk=> .inl hk⟩;rcases hk with hk|hk
 ·cases hk
 ·cases hk
theorem A8q (b B n:Nat)(W X:Int)(cs:List C2)(w:World)(hT:A1c w b B n W cs)(hB0:B<=w.heap.size)(hn:n<=4194304)(hW:W<=1048576):Calls Tryz.prog 137 #[.map (some b),.int .i64 X] w fun e w'=>(∃ds u us G,e=.returned (.agg #[.int .i64 X,u])/\A01 W cs ds/\C4 w' w.heap.size u ds us G)/\Below w.heap.size w w':=by
 have hlb:=hT.lt;refine(callsIn_wide (n:=0)).1 ?_;refine callsIn_of_wp_marks Tryz.func137 rfl trivial ?_ rfl;simp only[Tryz.ntmps137,List.size_toArray,List.length_cons,List.length_nil,Nat.reduceAdd,Nat.reduceSub,Array.replicate_succ,Array.replicate_zero,List.push_toArray,List.append_toArray,List.nil_append,List.cons_append]
 gi_wp2
 obtain⟨w2,hw2⟩:∃w2,(w.alloc (.cells #[.int .i64 0,.slice none 0 0] 35)).alloc (.cells #[.int .i64 X,.slice none 0 0] 35)=w2:=⟨_,rfl⟩;have hs2:w2.heap.size=w.heap.size+2:=by rw[<-hw2];simp
 have Q5:Below w.heap.size w w2:=by rw[<-hw2];exact((Below.refl _ _).alloc lr8 _).alloc (by simp) _
 have hI0:A19 (w2:=w2) (b:=B) w X [] (fun k=>k=w.heap.size+1) w2:=by
  have h:=B7w (W2:=w2) (b:=B) w X;rw[hw2]at h;exact h
 have hT2:=hT.keep hB0 Q5;rw[hw2];clear hw2 hT;refine C2l (gf:=164) (recv:=.map (some b)) rfl (enters_of Tryz.func164 (by kernel_rfl) rfl) (C0w b B n W cs w2 hT2 (by omega) hn hW) (fun _=>rfl) (A19 w X) (fun pre O A B h hs=>h.on (by rw[hs2]at hs;exact hs)) (fun k=>k=w.heap.size+1) (fun k hk=>by omega) hI0 (fun x O a' A=> ∃Bx,w.heap.size+2+2<=Bx/\Bx<A.heap.size/\¬O Bx/\A.cell? ⟨Bx,0,none⟩=some x.1.1/\A.cell? ⟨Bx,1,none⟩=some (.int .i64 x.1.2.n)/\a'={tmps:=#[.map (some b),.int .i64 X,undef,undef,.pointer (some ⟨w.heap.size,0,none⟩),.pointer (some ⟨w.heap.size+1,0,none⟩),.pointer (some ⟨Bx,0,none⟩),.int .i64 X,.agg #[.int .i64 X,.slice none 0 0],.map (some b),.func (.func 164) #[.map (some b)] #[],.agg #[x.1.1,.int .i64 x.1.2.n],undef,undef,undef,undef,undef,undef,undef,undef],defers:=[]}) ?hAx ?assign ?body ?done
 case hAx=>
  rintro x O a' A o ⟨Bx,h1,h2,h3,h4,h5,h6⟩;have hne:Bx≠w2.heap.size+1:=by omega
  exact⟨Bx,h1,by simpa [World.putObj]using h2,h3,(cb8 (World.putObj_heap_other hne)).trans h4,(cb8 (World.putObj_heap_other hne)).trans h5,h6⟩
 case assign=>
  rintro l pre O x A K hi hz hK;obtain⟨⟨u,rr,nn⟩,hxB⟩:=x;obtain⟨ua,uc,hu⟩:∃a c,u=.slice a rr.length c:=by obtain⟨⟨_,⟨a,c,e,_⟩,_⟩,_⟩:=hxB;exact⟨a,c,e⟩
  subst hu;have hOA:¬O A.heap.size:=fun h=>by obtain⟨_,_,_,_,_,_,_,_,_,_,_,_,_,_,hO2⟩:=hi;have:=hO2 _ h;omega
  have hkA:A1f O A (A.alloc (.cells #[.slice ua rr.length uc,.int .i64 nn] 116)):=⟨by simp,fun k hk _=>bA8 A _ k hk⟩;have hiA:A19 w X pre O (A.alloc (.cells #[.slice ua rr.length uc,.int .i64 nn] 116)):=hi.on (X9.of_below ((Below.refl _ _).alloc lr8 _));clear hi
  gi_wp2
  refine hK _ _ hkA hiA ⟨A.heap.size,by omega,by simp,hOA,by go_simp,by go_simp,rfl⟩
 case body=>
  rintro l pre O x a' wr hi ⟨Bx,hx1,hx2,hx3,hx4,hx5,rfl⟩ hz hNm;obtain⟨y,us,G,p0,p1,pf,r0,r1,rf,hB,hb,hzb,hO,hOb,hO2⟩:=hi;obtain⟨⟨u,x⟩,⟨g0,hR0,hg0⟩,hxn⟩:=x;dsimp only at hR0 hxn hx4 hx5;obtain⟨a0,n0,rfl⟩:=hR0.shape;have hbb:Below B w2 wr:=⟨hb.os.trans Q5.os.symm,hb.tape.trans Q5.tape.symm,hb.output.trans Q5.output.symm,by omega,fun k hk=>(hb.block k (by omega)).trans (Q5.block k (by omega)).symm⟩;have hR:D9 wr (.slice a0 x.r.length n0) x.r g0:=hR0.keep hbb.size fun k hk=>hbb.block k (hg0 k hk);have c0:=hx4;have c1:=hx5;have hvl:=oL8 hB.own;have hv2:y.ownBlock≠some (w.heap.size+1):=fun e=>by have:=(hvl _ e).1;omega
  have hvr:y.ownBlock≠some w.heap.size:=fun e=>by have:=(hvl _ e).1;omega
  have hvT:y.ownBlock≠some Bx:=fun e=>hx3 (hO Bx (.inl e));have hGl:=hB.lt;have hpl:(pre.map fun x=>x.1.2).length=pre.length:=by simp
  have HM:Hid ((pre++ [(⟨(.slice a0 x.r.length n0,x),⟨g0,hR0,hg0⟩,hxn⟩:P2 w2 B)]).map (fun x=>x.1.2)=(pre.map fun x=>x.1.2)++ [x]):=by simp[Hid]
  obtain⟨i0,hi,hz0,hz1,hz2⟩:=info_parts B1M;generalize hct:pre.map (fun x=>x.1.2)=ct at*;have hml:ct.length+1<=maxLen:=by unfold maxLen;omega
  have hby:(ct.length+1)*32<=140737488355328:=by omega
  have hUf:∀k,O k->k=w.heap.size+1\/w.heap.size+1+1<=k/\k<wr.heap.size:=hO2;clear hx4 hx5 hI0 hT2 hpl
  gi_wp2_with fail
  refine C3i 7 (fun w'=>w'.cell? ⟨w.heap.size+1,1,none⟩=some y/\w'.cell? ⟨Bx,0,none⟩=some (.slice a0 x.r.length n0)/\w'.cell? ⟨Bx,1,none⟩=some (.int .i64 x.n)) (by kernel_rfl) (fun h=>by obtain⟨_,_,h⟩:=h;exact h.elim) (by kernel_rfl) ?_ (fun hHeld=>?_)
  ·exact⟨p1,c0,c1⟩
  refine tkE 0 12 rfl rfl ?_;refine tkE 1 13 rfl rfl ?_;refine tkE 2 14 rfl rfl ?_;refine onE 3 rfl fun K hK=>?_;go_simp;go_at_call 133;refine cM8 (A8c (.slice a0 x.r.length n0) x.r g0 x.n _ (hR.below ?hbb) hxn) ?_
  case hbb=>exact(Below.refl _ wr).drew
  rintro e wv ⟨⟨u2,g2,rfl,hR2,hO2⟩,hb2⟩;obtain⟨a2,n2,rfl⟩:=hR2.shape;have Y9:=hb2.size;(try simp at Y9);have C0:Below wr.heap.size wr wv:=(Below.refl _ wr).drew.trans hb2;have hB2:=hB.below C0;have pf2:∀q,wv.frozen? ⟨w.heap.size+1,q,none⟩=false:=fun q=>((bc8 C0).2 _ q (by omega)).trans (pf q);have rf2:∀q,wv.frozen? ⟨w.heap.size,q,none⟩=false:=fun q=>((bc8 C0).2 _ q (by omega)).trans (rf q);have p02:=bt8 C0 p0;have p12:=bt8 C0 p1;have r02:=bt8 C0 r0;have r12:=bt8 C0 r1;have q0:wv.cell? ⟨Bx,0,none⟩=some (.slice a0 x.r.length n0):=bt8 C0 c0;have q1:wv.cell? ⟨Bx,1,none⟩=some (.int .i64 x.n):=bt8 C0 c1;try go_wp2_with fail
  refine hK.out _ _ ?_ (fun A0g=>?_)
  ·intro _;exact⟨p12,q0,q1⟩
  clear hK;replace A0g:=A0g (by decide);refine onE 4 rfl fun K hK=>?_;go_simp;refine hK.out _ _ ?_ (fun L2=>?_)
  ·intro _;exact⟨(cb8 ba8).trans p12,(cb8 ba8).trans q0,(cb8 ba8).trans q1⟩
  clear hK;replace L2:=L2 (by decide);refine onE 5 rfl fun K hK=>?_;refine step_append_lies _ (by rfl) _ _ _ (by rfl) (w.heap.size+1+1) 116 i0 _ 2 32 Tryz.underlying33 hi hz0 hz1 hz2 rfl (by omega) y ct.length (cc us ct) (by rfl) (hB2.own.alloc _) ⟨wv.heap.size,0,none⟩ 1 1 [.slice a2 x.r.length n2,.int .i64 x.n] (by rfl) (by rfl) (World.news_of_block (cs:=#[.slice a2 x.r.length n2,.int .i64 x.n]) (t:=116) (fr:=(0,0)) (heap_alloc_new wv _)) (by simp[Value.oneCell']) (by omega) hml hby (by simp;omega) (wv.heap.size+1) (by simp) ?_;intro gg cap w3 H5 hgrow hat j5;have hz3:=hgrow.size;simp at hz3;have far:∀b q,b<wv.heap.size->y.ownBlock≠some b->w3.cell? ⟨b,q,none⟩=wv.cell? ⟨b,q,none⟩:=fun b q hb hne=>(hgrow.cell_far _ (by simp;omega) (Ne.symm hne)).trans (cb8 (bA8 _ _ _ hb));have X0:∀b q,b<wv.heap.size->y.ownBlock≠some b->w3.frozen? ⟨b,q,none⟩=wv.frozen? ⟨b,q,none⟩:=fun b q hb hne=>(hgrow.frozen_far _ (by simp;omega) (Ne.symm hne)).trans (fb8 (bA8 _ _ _ hb));have pf3:∀q,w3.frozen? ⟨w.heap.size+1,q,none⟩=false:=fun q=>(X0 _ q (by omega) hv2).trans (pf2 q);have rf3:∀q,w3.frozen? ⟨w.heap.size,q,none⟩=false:=fun q=>(X0 _ q (by omega) hvr).trans (rf2 q);have p03:=(far (w.heap.size+1) 0 (by omega) hv2).trans p02;have p13:=(far (w.heap.size+1) 1 (by omega) hv2).trans p12;have r03:=(far (w.heap.size) 0 (by omega) hvr).trans r02;have r13:=(far (w.heap.size) 1 (by omega) hvr).trans r12;have hBp:=C4.push (hB2.below ((Below.refl _ _).alloc lr8 (.cells #[.slice a2 x.r.length n2,.int .i64 x.n] 116))) (hR2.below ((Below.refl _ _).alloc lr8 _)) ⟨hO2.1,fun b hb=>by have:=hO2.2.1 b hb;simp at this;omega,fun b hb q=>(fb8 (bA8 _ _ _ (hR2.lt b hb))).trans (hO2.2.2 b hb q)⟩ (fun b hb hb'=>by have:=hO2.2.1 b hb';have:=hGl b hb;simp at*;omega) (fun b hb hb'=>by have:=hO2.2.1 b hb';have:=(oL8 hB.own b hb).2;simp at*;omega) H5 hgrow (fun b hb=>by simp[Value.ownBlock]at hb;subst hb;rcases hat with h|h;exact .inl h;exact .inr (by simp;omega))
  have A5p:=far Bx 0 (by omega) hvT;have A64:=far Bx 1 (by omega) hvT;have D6:Below w.heap.size w w3:=Below.grown (hb.trans (C0.mono hb.size)|>.alloc (by omega) _) hgrow (by simp;omega) (fun b hb=>by have:=(oL8 hB.own b hb).1;omega);refine hK.out _ _ ?_ (fun N2=>?_)
  ·intro _;exact⟨p13,A5p.trans q0,A64.trans q1⟩
  clear hK;replace N2:=N2 (by decide);refine tkE 6 18 rfl rfl ?_;refine onE 7 rfl fun K hK=>?_;go_simp;refine hK.out _ _ ?_ (fun S9=>?_)
  ·exact fun h=>absurd rfl h
  clear hK S9;refine V6 (by kernel_rfl) ?_ _;have P0:(w3.setCell ⟨w.heap.size+1,1,none⟩ (.slice (some ⟨gg,0,none⟩) (ct.length+1) cap)).cell? ⟨w.heap.size+1,0,none⟩=some (.int .i64 X):=(cO8 _ _ _ _ (by simp)).trans p03;have P1:(w3.setCell ⟨w.heap.size+1,1,none⟩ (.slice (some ⟨gg,0,none⟩) (ct.length+1) cap)).cell? ⟨w.heap.size+1,1,none⟩=some (.slice (some ⟨gg,0,none⟩) (ct.length+1) cap):=cS8 _ _ _ p13;have PF:∀q,(w3.setCell ⟨w.heap.size+1,1,none⟩ (.slice (some ⟨gg,0,none⟩) (ct.length+1) cap)).frozen? ⟨w.heap.size+1,q,none⟩=false:=fun q=>by simpa using pf3 q
  have R0:(w3.setCell ⟨w.heap.size+1,1,none⟩ (.slice (some ⟨gg,0,none⟩) (ct.length+1) cap)).cell? ⟨w.heap.size,0,none⟩=some (.int .i64 0):=(cO8 _ _ _ _ (by simp)).trans r03;have R1:(w3.setCell ⟨w.heap.size+1,1,none⟩ (.slice (some ⟨gg,0,none⟩) (ct.length+1) cap)).cell? ⟨w.heap.size,1,none⟩=some (.slice none 0 0):=(cO8 _ _ _ _ (by simp)).trans r13;have RF:∀q,(w3.setCell ⟨w.heap.size+1,1,none⟩ (.slice (some ⟨gg,0,none⟩) (ct.length+1) cap)).frozen? ⟨w.heap.size,q,none⟩=false:=fun q=>by simpa using rf3 q
  have hBs:=hBp.keep (w':=w3.setCell ⟨w.heap.size+1,1,none⟩ (.slice (some ⟨gg,0,none⟩) (ct.length+1) cap)) (by simp) (fun b hb _=>bS8 _ _ _ _ (by simp;omega));have l7:Below w.heap.size w (w3.setCell ⟨w.heap.size+1,1,none⟩ (.slice (some ⟨gg,0,none⟩) (ct.length+1) cap)):=D6.setCell (by first|(simp;done)|(simp;omega)) _;have hzS:w.heap.size+1+1<=(w3.setCell ⟨w.heap.size+1,1,none⟩ (.slice (some ⟨gg,0,none⟩) (ct.length+1) cap)).heap.size:=by simp;omega
  have hgl:=oL8 hBs.own;have hfl:=hBs.lt;have hfr:=hBs.free.2.1;refine⟨fun k=>k=w.heap.size+1\/k=gg\/k∈(G++ [g2]).flatten,⟨_,_,_,P0,P1,PF,R0,R1,RF,by rw[HM.out];exact hBs,l7,hzS,fun k hk=>?_,.inl rfl,fun k hk=>?_⟩,⟨?_,fun k hk hn=>?_⟩,fun k hk=>?_⟩
  ·rcases hk with hk|hk
   ·simp only[Value.ownBlock,Option.some.injEq]at hk;exact .inr (.inl hk.symm)
   ·exact .inr (.inr hk)
  ·rcases hk with hk|hk|hk
   ·exact .inl hk
   ·exact .inr (hk▸hgl gg rfl)
   ·exact .inr ⟨hfr k hk,hfl k hk⟩
  ·have:=C0.size;simp;omega
  ·have h1:k≠w.heap.size+1:=fun e=>hn (e▸hOb);have h2:some k≠y.ownBlock:=fun e=>hn (hO k (.inl e.symm));rw[bS8 _ _ _ _ (by simpa using h1),hgrow.block k (by simp;omega) h2,bA8 _ _ _ (by omega),C0.block k hk]
  ·rcases hk with hk|hk|hk
   ·exact .inl (hk▸hOb)
   ·rcases hat with h|h
    ·exact .inl (hk▸hO gg (.inl h))
    ·exact .inr (by omega)
   ·rw[List.flatten_append,List.mem_append]at hk;rcases hk with hk|hk
    ·exact .inl (hO k (.inr hk))
    ·exact .inr (by have:=hO2.2.1 k (by simpa using hk);simpa using this)
 case done=>
  rintro D xs O A hD hDO k9 ⟨y,us,G,p0,p1,pf,r0,r1,rf,hB,hb,hzA,hO,hOb,hO2⟩ hK;obtain⟨ay,cy,rfl⟩:=hB.shape
  gi_wp2
  obtain⟨A2,hA2⟩:∃A2,(A.setCell ⟨w.heap.size,0,none⟩ (.int .i64 X)).setCell ⟨w.heap.size,1,none⟩ (.slice ay (xs.map fun x=>x.1.2).length cy)=A2:=⟨_,rfl⟩;have hs3:A2.heap.size=A.heap.size:=by rw[<-hA2];simp
  have B0F:∀k,k≠w.heap.size->A2.heap[k]?=A.heap[k]?:=fun k hk=>by
   rw[<-hA2,bS8 _ _ _ _ (by simpa using hk),bS8 _ _ _ _ (by simpa using hk)]
  have q0:A2.cell? ⟨w.heap.size,0,none⟩=some (.int .i64 X):=by rw[<-hA2];exact(cO8 _ _ _ _ (by simp)).trans (cS8 _ _ _ r0)
  have q1:A2.cell? ⟨w.heap.size,1,none⟩=some (.slice ay (xs.map fun x=>x.1.2).length cy):=by rw[<-hA2];exact cS8 _ _ _ ((cO8 _ _ _ _ (by simp)).trans r1)
  have hb2:Below w.heap.size w A2:=by rw[<-hA2];exact(hb.setCell (by simp) _).setCell (by simp) _
  have hK2:A2.heap[D]?=some (.deferred (some [])):=(B0F D (by omega)).trans hK;have D3:(xs.map fun x=>x.1.2).length=xs.length:=by simp
  rw[D3]at hA2 q1;rw[hA2];refine⟨by simp,.inl ⟨_,_,rfl,run_takeDeferred hK2,?_⟩⟩;have q0':(A2.putObj D (.deferred none)).cell? ⟨w.heap.size,0,none⟩=some (.int .i64 X):=(cb8 (World.putObj_heap_other (by omega))).trans q0;have q1':(A2.putObj D (.deferred none)).cell? ⟨w.heap.size,1,none⟩=some (.slice ay xs.length cy):=(cb8 (World.putObj_heap_other (by omega))).trans q1;have hB3:C4 (A2.putObj D (.deferred none)) (w.heap.size+1+1) (.slice ay (xs.map fun x=>x.1.2).length cy) (xs.map fun x=>x.1.2) us G:=B1C hB (by simp[World.putObj];omega) fun k hk=>by
   have h1:=hDO k (hO k hk);have h2:w.heap.size+1+1<=k:=by
    rcases hk with hk|hk
    ·exact(oL8 hB.own k hk).1
    ·exact hB.free.2.1 k hk
   rw[World.putObj_heap_other h1,B0F k (by omega)]
  have hb3:Below w.heap.size w (A2.putObj D (.deferred none)):=hb2.trans (belowK_b (w:=w2) (by omega) A2 D _ _ hD hK2 rfl rfl);rw[D3]at hB3;refine⟨.agg #[.int .i64 X,.slice ay xs.length cy],?_,⟨⟨_,_,us,G,rfl,k9,hB3.weak (by omega)⟩,hb3⟩⟩;clear hB hB3 k9 hI0 hT2;simp[results,Tryz.results137,go_sem,q0',q1']
theorem C1n (b n:Nat)(W X:Int)(cs:List C2)(w:World)(hT:m8 w b n W cs)(hn:n<=4194304)(hW:W<=1048576):Calls Tryz.prog 137 #[.map (some b),.int .i64 X] w fun e w'=>(∃ds u us G,e=.returned (.agg #[.int .i64 X,u])/\A01 W cs ds/\C4 w' w.heap.size u ds us G)/\Below w.heap.size w w':=
 A8q b b n W X cs w hT (Nat.le_of_lt hT.lt) hn hW
end
section
open Go.RowKit Go.Shelf
theorem B6R (cp:Nat)(hc1:2<=cp)(hc2:cp<=maxLen)(W:Int)(va vb:Value)(cs ds:List C2)(F F2:List Nat)(w:World)(B:Nat)(c0:w.cell? ⟨B,0,none⟩=some (.int .i64 W))(c1:w.cell? ⟨B,1,none⟩=some va)(c2:w.cell? ⟨B,2,none⟩=some (.int .i64 W))(c3:w.cell? ⟨B,3,none⟩=some vb)(hB:B<w.heap.size)(ha:C6 w va cs F) (hb:C6 w vb ds F2) (hn:wtb cs<=1048576) (hn2:wtb ds<=1048576) (hW:W<=12) (hgc:∀c∈cs,gR8 W c.r) (hgd:∀c∈ds,gR8 W c.r) (hS:A2q (cs++ds)):Calls Tryz.prog 110 #[.slice (some ⟨B,0,none⟩) 2 cp] w fun e w'=>(∃xs u us G,e=.returned (.agg #[.int .i64 W,u])/\A01 W (cs++ds) xs/\C4 w' w.heap.size u xs us G)/\Below w.heap.size w w':=by
 unfold maxLen at hc2;have hmm:= @run_makeMap Tryz.prog;have hSc:A2q ([]++cs):=by refine⟨fun c hc=>hS.1 c (by simp at hc;simp[hc]),?_⟩;have:=hS.2;simp at this⊢;omega
 obtain⟨aa,ca,rfl⟩:∃a c,va=.slice a cs.length c:=by obtain⟨a,c,_,e,_⟩:=ha;exact⟨a,c,e⟩
 obtain⟨ab,cb,rfl⟩:∃a c,vb=.slice a ds.length c:=by obtain⟨a,c,_,e,_⟩:=hb;exact⟨a,c,e⟩
 have D3:=hS.2;rw[List.length_append]at D3;have hFa:∀x∈F,x<w.heap.size+1:=fun x hx=>by have:=ha.lt x hx;omega
 have hFb:∀x∈F2,x<w.heap.size+1:=fun x hx=>by have:=hb.lt x hx;omega
 go_enter Tryz.func110,Tryz.ntmps110;go_wp2;go_loopw [9] (fun i wr=> ∃k:Nat,k<=2/\i=.int .i64 k/\m8 wr (w.heap.size+1) (if k=0 then 0 else if k=1 then cs.length else cs.length+ds.length) W (if k=0 then[]else if k=1 then cs else cs++ds)/\Below (w.heap.size+1) (w.alloc (.cells #[.int .i64 0,.slice none 0 0] 35)) wr) (fun i _=>2 - (intOf i).toNat)
 case atStart=>
  refine⟨0,by omega,rfl,⟨.map [],?_,U4.start _ _ _⟩,?_⟩
  ·have:=World.ownsMap_made (w.alloc (.cells #[.int .i64 0,.slice none 0 0] 35)) Tryz.prog 9 Rc
   simpa using this
  ·exact(Below.refl _ _).alloc (by simp) _
 case round=>
  obtain⟨k,hk,rfl,hT,hbr⟩:=hrel;have hzr:=hbr.size;simp only[World.size_alloc]at hzr;have hlt:=hT.lt;have hbw:Below w.heap.size w wr:=((Below.refl _ w).alloc lr8 _).trans (hbr.mono (by omega));have d0:=(hbw.cell (p:=⟨B,0,none⟩) hB).trans c0;have d1:=(hbw.cell (p:=⟨B,1,none⟩) hB).trans c1;have d2:=(hbw.cell (p:=⟨B,2,none⟩) hB).trans c2;have d3:=(hbw.cell (p:=⟨B,3,none⟩) hB).trans c3;have hBr:B<wr.heap.size:=by omega
  rcases(by omega:k=0\/k=1\/k=2)with rfl|rfl|rfl
  ·simp only[if_true]at hT;have hb0:Below wr.heap.size wr (wr.alloc (.cells #[.int .i64 W,.slice aa cs.length ca] 35)):=(Below.refl _ _).alloc lr8 _;have Q7:=B0D (w.heap.size+1) 0 W W [] cs (.slice aa cs.length ca) F _ (hT.keep hb0) ((ha.below hbw).below hb0) hFa hgc hn hSc (by omega);rw[List.nil_append,Nat.zero_add]at Q7;clear hT ha hb;go_wp2_with(go_at_call 139;refine cM8 Q7 ?_;rintro q w2 ⟨rfl,hT2,hb2⟩);refine⟨⟨1,by omega,by simp,by simpa using hT2,hbr.trans ((hb0.mono (Nat.le_of_lt hlt)).trans hb2)⟩,by simp[intOf]⟩
  ·simp only[if_true,Nat.one_ne_zero,if_false]at hT;have hb0:Below wr.heap.size wr (wr.alloc (.cells #[.int .i64 W,.slice ab ds.length cb] 35)):=(Below.refl _ _).alloc lr8 _;have Q7:=B0D (w.heap.size+1) cs.length W W cs ds (.slice ab ds.length cb) F2 _ (hT.keep hb0) ((hb.below hbw).below hb0) hFb hgd hn2 hS (by omega);clear hT ha hb;go_wp2_with(go_at_call 139;refine cM8 Q7 ?_;rintro q w2 ⟨rfl,hT2,hb2⟩);refine⟨⟨2,by omega,by simp,by simpa using hT2,hbr.trans ((hb0.mono (Nat.le_of_lt hlt)).trans hb2)⟩,by simp[intOf]⟩
  ·have hT':m8 wr (w.heap.size+1) (cs.length+ds.length) W (cs++ds):=by simpa using hT
   have Q7:=C1n (w.heap.size+1) (cs.length+ds.length) W W (cs++ds) wr hT' (by omega) (by omega);have r0:wr.cell? ⟨w.heap.size,0,none⟩=some (.int .i64 0):=(hbr.cell (p:=⟨w.heap.size,0,none⟩) (by simp)).trans (by go_simp);have r1:wr.cell? ⟨w.heap.size,1,none⟩=some (.slice none 0 0):=(hbr.cell (p:=⟨w.heap.size,1,none⟩) (by simp)).trans (by go_simp);have rf:∀q,wr.frozen? ⟨w.heap.size,q,none⟩=false:=fun q=>(fb8 (hbr.block w.heap.size (by simp))).trans (by go_simp);clear hT hT' ha hb;go_wp2_with fail;refine cM8 Q7 ?_;rintro q w2 ⟨⟨xs,u,us,G,rfl,k9,hO⟩,hb2⟩;obtain⟨au,cu,rfl⟩:=hO.shape;have hz2:=hb2.size;have s0:=(hb2.cell (p:=⟨w.heap.size,0,none⟩) (show w.heap.size<wr.heap.size by omega)).trans r0;have s1:=(hb2.cell (p:=⟨w.heap.size,1,none⟩) (show w.heap.size<wr.heap.size by omega)).trans r1;have sf:∀q,w2.frozen? ⟨w.heap.size,q,none⟩=false:=fun q=>(fb8 (hb2.block w.heap.size (by omega))).trans (rf q);have hb3:Below w.heap.size w w2:=hbw.trans (hb2.mono (by omega));clear r0 r1 rf hb2 Q7 d0 d1 d2 d3;go_wp2_with fail;refine bodyPost_ret (v:=.agg #[.int .i64 W,.slice au xs.length cu]) (by simp[results,Tryz.results110,go_sem, *]) rfl ⟨⟨xs,_,us,G,rfl,k9,(hO.keep (by simp) fun k hk _=>?_).weak (by omega)⟩,?_⟩
   ·repeat rw[bS8 _ _ _ _ (by simp;omega)]
   ·exact(hb3.setCell (by simp) _).setCell (by simp) _
end
section
open Go.RowKit Go.Deep Go.ChangeShapes Go.WideShapes
def RLF (w:World)(b o:Nat)(rs:List R3)(G:List (List Nat)):Prop:=
 ∀i x g,rs[i]?=some x->G[i]?=some g->∃u,w.cell? ⟨b,o+i*3,none⟩=some (.string x.s)/\w.cell? ⟨b,o+i*3+1,none⟩=some (.int .i64 x.W)/\w.cell? ⟨b,o+i*3+2,none⟩=some u/\C6 w u x.cs g
def H8 (w:World)(v:Value)(rs:List R3)(F:List Nat):Prop:=
 ∃ (a:Option Addr) (c:Nat) (G:List (List Nat)),v=.slice a rs.length c/\rs.length<=c/\c<=maxLen/\(a=none->c=0)/\G.length=rs.length/\(rs=[]->F=[])/\ (rs≠ []->∃b o,a=some ⟨b,o,none⟩/\b<w.heap.size/\F=b::G.flatten/\RLF w b o rs G)
theorem H8.is {w:World}{v:Value}{rs:List R3}{F:List Nat}(h:H8 w v rs F):W6 w v rs:=by
 obtain⟨a,c,G,rfl,hl,hc,_,hG,_,h⟩:=h;refine⟨a,c,rfl,hl,hc,fun hne=>?_⟩;obtain⟨b,o,rfl,hlt,_,hL⟩:=h hne;refine⟨b,o,rfl,hlt,fun i x hx=>?_⟩;have hi:i<rs.length:=(gE1 hx).1;have hi':i<G.length:=by omega
 obtain⟨u,h0,h1,h2,h3⟩:=hL i x G[i] hx (by simp);exact⟨u,h0,h1,h2,h3.is⟩
theorem H8.lt {w:World}{v:Value}{rs:List R3}{F:List Nat}(h:H8 w v rs F):∀b∈F,b<w.heap.size:=by
 obtain⟨a,c,G,rfl,hl,hc,_,hG,h0,h⟩:=h;intro x hx;by_cases hne:rs=[]
 ·rw[h0 hne]at hx;cases hx
 obtain⟨b,o,rfl,hlt,rfl,hL⟩:=h hne;rcases List.mem_cons.1 hx with rfl|hx
 ·exact hlt
 obtain⟨g,hg,hxg⟩:=List.mem_flatten.1 hx;obtain⟨i,hi,rfl⟩:=List.mem_iff_getElem.1 hg;have hi':i<rs.length:=by omega
 obtain⟨u,_,_,_,hk⟩:=hL i rs[i] G[i] (by simp) (by simp);exact hk.lt x hxg
theorem RLF.keep {w w':World}{b o:Nat}{rs:List R3}{G:List (List Nat)}(h:RLF w b o rs G)(hs:w.heap.size<=w'.heap.size)(hb:w'.heap[b]?=w.heap[b]?)(hF:∀x∈G.flatten,w'.heap[x]?=w.heap[x]?):RLF w' b o rs G:=fun i x g hx hg=>by
 obtain⟨u,a0,a1,a2,a3⟩:=h i x g hx hg;exact⟨u,(cb8 hb).trans a0,(cb8 hb).trans a1,(cb8 hb).trans a2,a3.keep hs fun y hy=>hF y (List.mem_flatten.2 ⟨g,mg8 hg,hy⟩)⟩
theorem H8.keep {w w':World}{v:Value}{rs:List R3}{F:List Nat}(h:H8 w v rs F)(hs:w.heap.size<=w'.heap.size)(hF:∀b∈F,w'.heap[b]?=w.heap[b]?):H8 w' v rs F:=by
 obtain⟨a,c,G,rfl,hl,hc,hz,hG,h0,h⟩:=h;refine⟨a,c,G,rfl,hl,hc,hz,hG,h0,fun hne=>?_⟩;obtain⟨b,o,rfl,hlt,rfl,hL⟩:=h hne;exact⟨b,o,rfl,Nat.lt_of_lt_of_le hlt hs,rfl,hL.keep hs (hF b List.mem_cons_self) fun x hx=>hF x (List.mem_cons_of_mem _ hx)⟩
theorem H8.below {w w':World}{v:Value}{rs:List R3}{F:List Nat}(h:H8 w v rs F)(hb:Below w.heap.size w w'):H8 w' v rs F:=h.keep hb.size fun b hF=>hb.block b (h.lt b hF)
theorem H8.chg {w w':World}{v:Value}{rs:List R3}{F G:List Nat}(h:H8 w v rs F)(hb:Chg G w w')(hd:∀b∈F,b∉G):H8 w' v rs F:=h.keep hb.size fun b hF=>hb.block b (h.lt b hF) (hd b hF)
theorem H8.pick {w:World}{v:Value}{rs:List R3}{F:List Nat}(h:H8 w v rs F):∃a c b o G,v=.slice a rs.length c/\rs.length<=c/\c<=maxLen/\(a=none->c=0)/\G.length=rs.length/\(rs=[]->F=[])/\RLF w b o rs G/\∀n,n<rs.length->a=some ⟨b,o,none⟩/\b<w.heap.size/\F=b::G.flatten:=by
 obtain⟨a,c,G,rfl,hl,hc,hz,hG,h0,h⟩:=h;by_cases hne:rs=[]
 ·exact⟨a,c,0,0,G,rfl,hl,hc,hz,hG,h0,fun i x g hx=>by rw[hne]at hx;simp at hx,fun k hk=>by rw[hne]at hk;simp at hk⟩
 ·obtain⟨b,o,rfl,hlt,hF,hL⟩:=h hne;exact⟨_,c,b,o,G,rfl,hl,hc,hz,hG,h0,hL,fun _ _=>⟨rfl,hlt,hF⟩⟩
theorem RLF.at {w w':World}{b o:Nat}{rs:List R3}{G:List (List Nat)}(h:RLF w b o rs G)(hG:G.length=rs.length)(hlt:b<w.heap.size)(hb:Below w.heap.size w w'){k:Nat}(hk:k<rs.length):∃x u g,rs[k]?=some x/\w'.cell? ⟨b,o+k*3,none⟩=some (.string x.s)/\w'.cell? ⟨b,o+k*3+1,none⟩=some (.int .i64 x.W)/\w'.cell? ⟨b,o+k*3+2,none⟩=some u/\C6 w' u x.cs g/\b<w'.heap.size:=by
 obtain⟨u,h0,h1,h2,h3⟩:=h k rs[k] (G[k]'(by omega)) (by simp[hk]) (by simp);have hbb:=hb.block b hlt;exact⟨rs[k],u,_,by simp[hk],(cb8 hbb).trans h0,(cb8 hbb).trans h1,(cb8 hbb).trans h2,h3.below hb,Nat.lt_of_lt_of_le hlt hb.size⟩
def rcs (us:List Value)(rs:List R3):List Value:=(us.zip rs).flatMap fun p=>[.string p.2.s,.int .i64 p.2.W,p.1]
theorem B5t {us:List Value}{rs:List R3}(h:us.length=rs.length)(u:Value)(x:R3):rcs (us++ [u]) (rs++ [x])=rcs us rs++ [.string x.s,.int .i64 x.W,u]:=by
 unfold rcs;rw[List.zip_append h,List.flatMap_append];simp
theorem C1X {us:List Value}{rs:List R3}(h:us.length=rs.length):∀ {i:Nat} {u:Value} {x:R3},us[i]?=some u->rs[i]?=some x->(rcs us rs)[i*3]?=some (.string x.s)/\(rcs us rs)[i*3+1]?=some (.int .i64 x.W)/\(rcs us rs)[i*3+2]?=some u:=by
 induction us generalizing rs with
 |nil=>intro i u x hu;simp at hu
 |cons v us ih=>
  cases rs with
  |nil=>simp at h
  |cons c rs=>
   intro i u x hu hx;have e:rcs (v::us) (c::rs)=.string c.s:: .int .i64 c.W::v::rcs us rs:=by unfold rcs;rw[List.zip_cons_cons,List.flatMap_cons];rfl
   rw[e];cases i with
   |zero=>simp at hu hx;subst hu hx;simp
   |succ i=>
    have:=ih (rs:=rs) (by simpa using h) (i:=i) (u:=u) (x:=x) (by simpa using hu) (by simpa using hx);rw[show(i+1)*3=i*3+1+1+1 from by omega]
    simpa using this
structure X6 (w:World)(N:Nat)(v:Value)(rs:List R3)(us:List Value)(G:List (List Nat)):Prop where
 own:w.ownsRow N 67 3 v rs.length (rcs us rs)
 ul:us.length=rs.length
 gl:G.length=rs.length
 row:∀ (i:Nat) (x:R3) (u:Value) (g:List Nat),rs[i]?=some x->us[i]?=some u->G[i]?=some g->C6 w u x.cs g
 free:D5 w N G.flatten
 out:∀b,v.ownBlock=some b->b∉G.flatten
section
variable {w w':World} {N:Nat} {v:Value} {rs:List R3} {us:List Value} {G:List (List Nat)}
theorem X6.empty' {w:World}{N:Nat}(hN:N=w.heap.size):X6 (w.alloc (.cells #[] 67)) N (.slice (some ⟨N,0,none⟩) 0 0) [] [] []:=by
 subst hN;exact⟨⟨by simp[rcs],.inr ⟨w.heap.size,0,#[],rfl,Nat.le_refl _,heap_alloc_new w _,Nat.le_refl _,by simp,by simp,by simp[rcs]⟩⟩,rfl,rfl,fun i x u g hx=>by simp at hx,by simp[D5,N9],fun b _=>by simp⟩
theorem X6.lt (h:X6 w N v rs us G):∀b∈G.flatten,b<w.heap.size:=by
 intro b hb;obtain⟨g,hg,hbg⟩:=List.mem_flatten.1 hb;obtain⟨i,hi,rfl⟩:=List.mem_iff_getElem.1 hg;have h1:=h.gl;have h2:=h.ul;have hi1:i<rs.length:=by omega
 have hi2:i<us.length:=by omega
 exact(h.row i rs[i] us[i] G[i] (by simp) (by simp) (by simp)).lt b hbg
theorem X6.keep (h:X6 w N v rs us G)(hs:w.heap.size<=w'.heap.size)(hb:∀b,N<=b->b<w.heap.size->w'.heap[b]?=w.heap[b]?):X6 w' N v rs us G:=by
 have hk:∀b∈G.flatten,w'.heap[b]?=w.heap[b]?:=fun b hbG=>hb b (h.free.2.1 b hbG) (h.lt b hbG);refine⟨oK8 h.own fun b hv=>hb b (oL8 h.own b hv).1 (oL8 h.own b hv).2,h.ul,h.gl,fun i x u g hx hu hg=>(h.row i x u g hx hu hg).keep hs fun b hbg=>hk b (List.mem_flatten.2 ⟨g,mg8 hg,hbg⟩),h.free.keep hk,h.out⟩
theorem X6.below (h:X6 w N v rs us G)(hb:Below w.heap.size w w'):X6 w' N v rs us G:=h.keep hb.size fun b _ hlt=>hb.block b hlt
theorem X6.push {v' u:Value}{x:R3}{g:List Nat}(h:X6 w N v rs us G)(hR:C6 w u x.cs g)(hO:D5 w N g)(hd1:∀b∈G.flatten,b∉g)(hd2:∀b,v.ownBlock=some b->b∉g)(ho:w'.ownsRow N 67 3 v' (rs.length+1) (rcs us rs++ [.string x.s,.int .i64 x.W,u])) (hg:w.grownBy w' v.ownBlock) (hat:∀b,v'.ownBlock=some b->v.ownBlock=some b\/w.heap.size<=b):X6 w' N v' (rs++ [x]) (us++ [u]) (G++ [g]):=by
 have hG:=h.lt;have hm:∀b∈(G++ [g]).flatten,b∈G.flatten\/b∈g:=by intro b hb;simpa using hb
 have hlt:∀b∈(G++ [g]).flatten,b<w.heap.size:=fun b hb=>(hm b hb).elim (hG b) (hR.lt b);have hne:∀b∈(G++ [g]).flatten,some b≠v.ownBlock:=fun b hb e=>(hm b hb).elim (h.out b e.symm) (hd2 b e.symm);have hk:∀b∈(G++ [g]).flatten,w'.heap[b]?=w.heap[b]?:=fun b hb=>hg.block b (hlt b hb) (hne b hb);refine⟨?_,by simp[h.ul],by simp[h.gl],fun i y z q hy hz hq=>?_,?_,fun b hb=>?_⟩
 ·rw[B5t h.ul];simpa using ho
 ·by_cases hi:i<rs.length
  ·rw[List.getElem?_append_left hi]at hy;rw[List.getElem?_append_left (by rw[h.ul];exact hi)]at hz;rw[List.getElem?_append_left (by rw[h.gl];exact hi)]at hq;exact(h.row i y z q hy hz hq).keep hg.size fun b hb=>hk b (by simp;exact .inl ⟨q,mg8 hq,hb⟩)
  ·have hl:i<(rs++ [x]).length:=(gE1 hy).1;obtain rfl:i=rs.length:=by simp at hl;omega
   rw[List.getElem?_append_right lr8]at hy;rw[List.getElem?_append_right (by rw[h.ul];exact Nat.le_refl _)]at hz;rw[List.getElem?_append_right (by rw[h.gl];exact Nat.le_refl _)]at hq;simp[h.ul,h.gl]at hy hz hq;subst hy hz hq;exact hR.keep hg.size fun b hb=>hk b (by simp;exact .inr hb)
 ·refine D5.keep (w:=w) ⟨?_,fun b hb=>(hm b hb).elim (h.free.2.1 b) (hO.2.1 b),fun b hb=>(hm b hb).elim (h.free.2.2 b) (hO.2.2 b)⟩ hk;rw[List.flatten_append,List.nodup_append];refine⟨h.free.1,by simpa using hO.1,fun a ha b hb=>?_⟩;rintro rfl;exact hd1 a ha (by simpa using hb)
 ·intro hx;rcases hat b hb with e|e
  ·exact hne b hx e.symm
  ·have:=hlt b hx;omega
theorem X6.shape (h:X6 w N v rs us G):∃a c,v=.slice a rs.length c:=by
 rcases h.own.2 with⟨rfl,h0⟩|⟨g,cap,cur,hv,_⟩
 ·exact⟨none,0,by rw[h0]⟩
 ·exact⟨_,cap,hv⟩
theorem X6.relsF (h:X6 w N v rs us G):∃F,H8 w v rs F/\D5 w N F:=by
 have hlt:=oL8 h.own;have hGl:=h.lt;by_cases hne:rs=[]
 ·refine⟨[],?_,by simp[D5,N9]⟩;have hgl:=h.gl;subst hne;rcases h.own.2 with⟨rfl,_⟩|⟨g,cap,cur,rfl,_,_,hn,hm,_⟩
  ·exact⟨none,0,G,rfl,Nat.le_refl _,by simp,fun _=>rfl,hgl,fun _=>rfl,fun x=>absurd rfl x⟩
  ·exact⟨_,cap,G,rfl,hn,hm,(fun x=>by cases x),hgl,fun _=>rfl,fun x=>absurd rfl x⟩
 have hp:0<rs.length:=List.length_pos_iff.2 hne;obtain⟨hl,ho⟩:=h.own;rcases ho with⟨_,h0⟩|⟨g,cap,cur,rfl,hg,hc,hn,hm,hs,ht⟩
 ·omega
 have hgo:g∉G.flatten:=h.out g rfl;refine⟨g::G.flatten,⟨_,cap,G,rfl,hn,hm,(fun x=>by cases x),h.gl,fun x=>absurd x hne,fun _=>⟨g,0,rfl,(hlt g rfl).2,rfl,fun i x q hx hq=>?_⟩⟩,List.nodup_cons.2 ⟨hgo,h.free.1⟩,fun b hb=>?_,fun b hb o=>?_⟩
 ·have hi:i<rs.length:=(gE1 hx).1;have hiu:i<us.length:=by rw[h.ul];exact hi
  obtain⟨e0,e1,e2⟩:=C1X h.ul (i:=i) (u:=us[i]) (x:=x) (by simp) hx;have get:∀j u,j<rs.length*3->(rcs us rs)[j]?=some u->w.cell? ⟨g,j,none⟩=some u:=by
   intro j u hj hu;simp only[World.cell?,hc];rw[<-ht,List.getElem?_take,if_pos hj,Array.getElem?_toList]at hu
   simpa using hu
  exact⟨us[i],by rw[Nat.zero_add];exact get _ _ (by omega) e0,by rw[Nat.zero_add];exact get _ _ (by omega) e1,by rw[Nat.zero_add];exact get _ _ (by omega) e2,h.row i x us[i] q hx (by simp) hq⟩
 ·rcases List.mem_cons.1 hb with rfl|hb
  ·exact hg
  ·exact h.free.2.1 b hb
 ·rcases List.mem_cons.1 hb with rfl|hb
  ·simp[World.frozen?,hc]
  ·exact h.free.2.2 b hb o
end
end
section
open Go.RowKit
structure B2 where
 W:Int
 cs:List C2
def bcs (us:List Value)(rs:List B2):List Value:=(us.zip rs).flatMap fun p=>[.int .i64 p.2.W,p.1]
theorem C1E {us:List Value}{rs:List B2}(h:us.length=rs.length)(u:Value)(x:B2):bcs (us++ [u]) (rs++ [x])=bcs us rs++ [.int .i64 x.W,u]:=by
 unfold bcs;rw[List.zip_append h,List.flatMap_append];simp
theorem A9k {us:List Value}{rs:List B2}(h:us.length=rs.length):∀ {i:Nat} {u:Value} {x:B2},us[i]?=some u->rs[i]?=some x->(bcs us rs)[i*2]?=some (.int .i64 x.W)/\(bcs us rs)[i*2+1]?=some u:=by
 induction us generalizing rs with
 |nil=>intro i u x hu;simp at hu
 |cons v us ih=>
  cases rs with
  |nil=>simp at h
  |cons c rs=>
   intro i u x hu hx;have e:bcs (v::us) (c::rs)=.int .i64 c.W::v::bcs us rs:=by unfold bcs;rw[List.zip_cons_cons,List.flatMap_cons];rfl
   rw[e];cases i with
   |zero=>simp at hu hx;subst hu hx;simp
   |succ i=>
    have:=ih (rs:=rs) (by simpa using h) (i:=i) (u:=u) (x:=x) (by simpa using hu) (by simpa using hx);rw[show(i+1)*2=i*2+1+1 from by omega]
    simpa using this
structure O6 (w:World)(N:Nat)(v:Value)(rs:List B2)(us:List Value)(G:List (List Nat)):Prop where
 own:w.ownsRow N 35 2 v rs.length (bcs us rs)
 ul:us.length=rs.length
 gl:G.length=rs.length
 row:∀ (i:Nat) (x:B2) (u:Value) (g:List Nat),rs[i]?=some x->us[i]?=some u->G[i]?=some g->C6 w u x.cs g
 free:D5 w N G.flatten
 out:∀b,v.ownBlock=some b->b∉G.flatten
section
variable {w w':World} {N:Nat} {v:Value} {rs:List B2} {us:List Value} {G:List (List Nat)}
theorem O6.empty' {w:World}{N:Nat}(hN:N=w.heap.size):O6 (w.alloc (.cells #[] 35)) N (.slice (some ⟨N,0,none⟩) 0 0) [] [] []:=by
 subst hN;exact⟨⟨by simp[bcs],.inr ⟨w.heap.size,0,#[],rfl,Nat.le_refl _,heap_alloc_new w _,Nat.le_refl _,by simp,by simp,by simp[bcs]⟩⟩,rfl,rfl,fun i x u g hx=>by simp at hx,by simp[D5,N9],fun b _=>by simp⟩
theorem O6.lt (h:O6 w N v rs us G):∀b∈G.flatten,b<w.heap.size:=by
 intro b hb;obtain⟨g,hg,hbg⟩:=List.mem_flatten.1 hb;obtain⟨i,hi,rfl⟩:=List.mem_iff_getElem.1 hg;have h1:=h.gl;have h2:=h.ul;have hi1:i<rs.length:=by omega
 have hi2:i<us.length:=by omega
 exact(h.row i rs[i] us[i] G[i] (by simp) (by simp) (by simp)).lt b hbg
theorem O6.keep (h:O6 w N v rs us G)(hs:w.heap.size<=w'.heap.size)(hb:∀b,N<=b->b<w.heap.size->w'.heap[b]?=w.heap[b]?):O6 w' N v rs us G:=by
 have hk:∀b∈G.flatten,w'.heap[b]?=w.heap[b]?:=fun b hbG=>hb b (h.free.2.1 b hbG) (h.lt b hbG);refine⟨oK8 h.own fun b hv=>hb b (oL8 h.own b hv).1 (oL8 h.own b hv).2,h.ul,h.gl,fun i x u g hx hu hg=>(h.row i x u g hx hu hg).keep hs fun b hbg=>hk b (List.mem_flatten.2 ⟨g,mg8 hg,hbg⟩),h.free.keep hk,h.out⟩
theorem O6.below (h:O6 w N v rs us G)(hb:Below w.heap.size w w'):O6 w' N v rs us G:=h.keep hb.size fun b _ hlt=>hb.block b hlt
theorem O6.push {v' u:Value}{x:B2}{g:List Nat}(h:O6 w N v rs us G)(hR:C6 w u x.cs g)(hO:D5 w N g)(hd1:∀b∈G.flatten,b∉g)(hd2:∀b,v.ownBlock=some b->b∉g)(ho:w'.ownsRow N 35 2 v' (rs.length+1) (bcs us rs++ [.int .i64 x.W,u])) (hg:w.grownBy w' v.ownBlock) (hat:∀b,v'.ownBlock=some b->v.ownBlock=some b\/w.heap.size<=b):O6 w' N v' (rs++ [x]) (us++ [u]) (G++ [g]):=by
 have hG:=h.lt;have hm:∀b∈(G++ [g]).flatten,b∈G.flatten\/b∈g:=by intro b hb;simpa using hb
 have hlt:∀b∈(G++ [g]).flatten,b<w.heap.size:=fun b hb=>(hm b hb).elim (hG b) (hR.lt b);have hne:∀b∈(G++ [g]).flatten,some b≠v.ownBlock:=fun b hb e=>(hm b hb).elim (h.out b e.symm) (hd2 b e.symm);have hk:∀b∈(G++ [g]).flatten,w'.heap[b]?=w.heap[b]?:=fun b hb=>hg.block b (hlt b hb) (hne b hb);refine⟨?_,by simp[h.ul],by simp[h.gl],fun i y z q hy hz hq=>?_,?_,fun b hb=>?_⟩
 ·rw[C1E h.ul];simpa using ho
 ·by_cases hi:i<rs.length
  ·rw[List.getElem?_append_left hi]at hy;rw[List.getElem?_append_left (by rw[h.ul];exact hi)]at hz;rw[List.getElem?_append_left (by rw[h.gl];exact hi)]at hq;exact(h.row i y z q hy hz hq).keep hg.size fun b hb=>hk b (by simp;exact .inl ⟨q,mg8 hq,hb⟩)
  ·have hl:i<(rs++ [x]).length:=(gE1 hy).1;obtain rfl:i=rs.length:=by simp at hl;omega
   rw[List.getElem?_append_right lr8]at hy;rw[List.getElem?_append_right (by rw[h.ul];exact Nat.le_refl _)]at hz;rw[List.getElem?_append_right (by rw[h.gl];exact Nat.le_refl _)]at hq;simp[h.ul,h.gl]at hy hz hq;subst hy hz hq;exact hR.keep hg.size fun b hb=>hk b (by simp;exact .inr hb)
 ·refine D5.keep (w:=w) ⟨?_,fun b hb=>(hm b hb).elim (h.free.2.1 b) (hO.2.1 b),fun b hb=>(hm b hb).elim (h.free.2.2 b) (hO.2.2 b)⟩ hk;rw[List.flatten_append,List.nodup_append];refine⟨h.free.1,by simpa using hO.1,fun a ha b hb=>?_⟩;rintro rfl;exact hd1 a ha (by simpa using hb)
 ·intro hx;rcases hat b hb with e|e
  ·exact hne b hx e.symm
  ·have:=hlt b hx;omega
theorem O6.shape (h:O6 w N v rs us G):∃a c,v=.slice a rs.length c:=by
 rcases h.own.2 with⟨rfl,h0⟩|⟨g,cap,cur,hv,_⟩
 ·exact⟨none,0,by rw[h0]⟩
 ·exact⟨_,cap,hv⟩
theorem O6.at (h:O6 w N v rs us G){i:Nat}{x:B2}(hx:rs[i]?=some x):∃gl cap u g,v=.slice (some ⟨gl,0,none⟩) rs.length cap/\gl<w.heap.size/\rs.length<=cap/\cap<=maxLen/\w.cell? ⟨gl,i*2,none⟩=some (.int .i64 x.W)/\w.cell? ⟨gl,i*2+1,none⟩=some u/\C6 w u x.cs g:=by
 have hi:i<rs.length:=(gE1 hx).1;have hlt:=oL8 h.own;obtain⟨hl,ho⟩:=h.own;rcases ho with⟨_,h0⟩|⟨g,cap,cur,rfl,hg,hc,hn,hm,hs,ht⟩
 ·omega
 have h1:=h.ul;have h2:=h.gl;have hiu:i<us.length:=by omega
 have hiG:i<G.length:=by omega
 obtain⟨e0,e1⟩:=A9k h.ul (i:=i) (u:=us[i]) (x:=x) (by simp) hx;have get:∀j u,j<rs.length*2->(bcs us rs)[j]?=some u->w.cell? ⟨g,j,none⟩=some u:=by
  intro j u hj hu;simp only[World.cell?,hc];rw[<-ht,List.getElem?_take,if_pos hj,Array.getElem?_toList]at hu
  simpa using hu
 exact⟨g,cap,us[i],G[i],rfl,(hlt g rfl).2,hn,hm,get _ _ (by omega) e0,get _ _ (by omega) e1,h.row i x us[i] G[i] hx (by simp) (by simp)⟩
end
end
section
open Go.RowKit Go.Deep
theorem Tryz.infoRel:(Tryz.prog.info? 67).map (fun i=>(i.zero,i.size,i.bytes))=some (some (.agg #[.string ⟨#[]⟩,.int .i64 0,.slice none 0 0]),3,48):=by kernel_rfl
def A1E (w:World)(B0:Nat)(rs:List R3)(k:Nat):Prop:=
 ∃f,w.rowIs B0 67 (rs.length*3) f/\∀i x,i<k->rs[i]?=some x->f (i*3)=.string x.s/\f (i*3+1)=.int .i64 x.W/\∃B g,B0<B/\f (i*3+2)=.slice (some ⟨B,0,none⟩) x.cs.length x.cs.length/\P5 w B x.cs g x.cs.length
theorem A1E.cells {w:World}{B:Nat}{rs:List R3}{k:Nat}(h:A1E w B rs k)(hk:k<rs.length):(∃u,w.cell? ⟨B,k*3,none⟩=some u)/\(∃u,w.cell? ⟨B,k*3+1,none⟩=some u)/\(∃u,w.cell? ⟨B,k*3+2,none⟩=some u)/\(∀i,w.frozen? ⟨B,i,none⟩=false)/\B<w.heap.size:=by
 obtain⟨f,h,_⟩:=h;exact⟨⟨_,h.cell (by omega)⟩,⟨_,h.cell (by omega)⟩,⟨_,h.cell (by omega)⟩,fun i=>h.frozen i,h.lt⟩
theorem A1E.below {w w':World}{B:Nat}{rs:List R3}{k:Nat}(h:A1E w B rs k)(hb:Below w.heap.size w w'):A1E w' B rs k:=by
 obtain⟨f,hf,he⟩:=h;refine⟨f,hf.of_block (hb.block _ hf.lt),fun i x hi hx=>?_⟩;obtain⟨h0,h1,B,g,hB,h2,hH⟩:=he i x hi hx;exact⟨h0,h1,B,g,hB,h2,hH.below lr8 hb⟩
theorem A1E.step {w:World}{B D:Nat}{rs:List R3}{g:Nat->Nat}{k:Nat}{x:R3}(h:A1E w B rs k)(hx:rs[k]?=some x)(hD:P5 w D x.cs g x.cs.length)(hB:B<D):A1E (((w.setCell ⟨B,k*3,none⟩ (.string x.s)).setCell ⟨B,k*3+1,none⟩ (.int .i64 x.W)).setCell ⟨B,k*3+2,none⟩ (.slice (some ⟨D,0,none⟩) x.cs.length x.cs.length)) B rs (k+1):=by
 obtain⟨f,hf,he⟩:=h;have H7:∀b,B<b->(((w.setCell ⟨B,k*3,none⟩ (.string x.s)).setCell ⟨B,k*3+1,none⟩ (.int .i64 x.W)).setCell ⟨B,k*3+2,none⟩ (.slice (some ⟨D,0,none⟩) x.cs.length x.cs.length)).heap[b]?=w.heap[b]?:=by
  intro b hb;repeat rw[bS8 _ _ _ _ (by show b≠B;omega)]
 refine⟨_,((hf.set _ _).set _ _).set _ _,fun i y hi hy=>?_⟩;by_cases e:i=k
 ·subst e;obtain rfl:y=x:=by rw[hx]at hy;exact(Option.some.inj hy).symm
  refine⟨by simp,by simp,D,g,hB,by simp,hD.keep lr8 fun b hb=>H7 b (by omega)⟩
 ·have n:∀p q:Nat,p<3->q<3->i*3+p≠k*3+q:=by intro p q hp hq;omega
  have n0:∀q:Nat,q<3->i*3≠k*3+q:=by intro q hq;omega
  have n1:∀p:Nat,p<3->i*3+p≠k*3:=by intro q hq;omega
  have n2:i*3≠k*3:=by omega
  obtain⟨h0,h1,D',g',hB',h2,hH⟩:=he i y (by omega) hy;refine⟨?_,?_,D',g',hB',?_,hH.keep lr8 fun b hb=>H7 b (by omega)⟩
  ·simp only[if_neg n2,if_neg (n0 1 (by omega)),if_neg (n0 2 (by omega))];exact h0
  ·simp only[if_neg (n1 1 (by omega)),if_neg (n 1 1 (by omega) (by omega)),if_neg (n 1 2 (by omega) (by omega))];exact h1
  ·simp only[if_neg (n1 2 (by omega)),if_neg (n 2 1 (by omega) (by omega)),if_neg (n 2 2 (by omega) (by omega))];exact h2
theorem A8D {cs:List C2}(h:wtb cs<=1048576):(∀x∈cs,x.r.length<=maxLen)/\cs.length<=maxLen:=
 ⟨fun x hx=>by have:=A0R hx;unfold wt at this;unfold wtb at h;unfold maxLen;omega,by unfold wtb at h;unfold maxLen;omega⟩
theorem B35 (s:ByteArray)(W:Int)(v:Value)(cs:List C2)(w:World)(hr:J7 w v cs)(hn:wtb cs<=1048576):Calls Tryz.prog 25 #[.agg #[.string s,.int .i64 W,v]] w fun e w'=>(∃B g,w.heap.size<=B/\e=.returned (.agg #[.string s,.int .i64 W,.slice (some ⟨B,0,none⟩) cs.length cs.length])/\P5 w' B cs g cs.length)/\Below w.heap.size w w':=by
 obtain⟨a,l,c,rfl⟩:=hr.shape;go_enter Tryz.func25,Tryz.ntmps25;go_wp2_with fail;refine cM8 (C2g W (.slice a l c) cs _ (hr.below ?hb) hn) ?_
 case hb=>exact C3
 rintro e w1 ⟨⟨B,g,hB,rfl,hH1⟩,hb1⟩;have hz1:=hb1.size;simp only[World.size_alloc]at hz1 hB;have hf1:=(bc8 hb1).2;have hy:w.heap.size+1+1<w1.heap.size:=by omega
 have hy1:w.heap.size+1<w1.heap.size:=by omega
 have hy0:w.heap.size<w1.heap.size:=by omega
 have p0:w1.cell? ⟨w.heap.size+1,0,none⟩=some (.string ⟨#[]⟩):=cl8 hb1;have p1:w1.cell? ⟨w.heap.size+1,1,none⟩=some (.int .i64 0):=cl8 hb1;have p2:w1.cell? ⟨w.heap.size+1,2,none⟩=some (.slice none 0 0):=cl8 hb1;have t0:w1.cell? ⟨w.heap.size+1+1,0,none⟩=some (.string s):=cl8 hb1;have t1:w1.cell? ⟨w.heap.size+1+1,1,none⟩=some (.int .i64 0):=cl8 hb1;have t2:w1.cell? ⟨w.heap.size+1+1,2,none⟩=some (.slice none 0 0):=cl8 hb1;go_wp2;refine bodyPost_ret (v:=.agg #[.string s,.int .i64 W,.slice (some ⟨B,0,none⟩) cs.length cs.length]) (by simp[results,Tryz.results25,go_sem, *]) rfl ⟨⟨B,g,by omega,by simp,?_⟩,?_⟩
 ·refine hH1.keep lr8 fun b hb=>?_;repeat rw[bS8 _ _ _ _ (by simp;try omega)]
 ·exact C3
end
end Go.Proofs.YteekfcdllaceoaaGreatDoor
