/- Own texts, joined: contracts that the law's proof goes by. -/
import Derived.Test.YtflokiejcjjbiaaGreatGLFits2
import Derived.Test.YtflokiejcjjbiaaGreatGLFits22
import Derived.Test.YtflokiejcjjbiaaGreatGLFits25
import Derived.Deep.AppendLies
import Derived.Laws.OwnMore
import Derived.Test.YtflokiejcjjbiaaGreatGLFits18
import Derived.Handy
import Derived.Deep.RegionHeld3
import Derived.Deep.QuietTactic
import Derived.BigQuiet
import Derived.Test.YtflokiejcjjbiaaGreatGLFits24
set_option maxHeartbeats 16000000
set_option maxRecDepth 100000
set_option linter.unusedVariables false
set_option linter.unusedSimpArgs false
namespace Go.Proofs.YtflokiejcjjbiaaGreat
section
open Go.RowKit
theorem putC_len (cs:List C2)(row:List V3)(n:Int):(putC cs row n).length≤cs.length+1:=by
 unfold putC;have hle:=ahead_le cs row;split
 ·split
  ·split
   ·simp
   ·simp;omega
  ·split
   ·simp;omega
   ·omega
 ·split
  ·simp;omega
  ·omega
theorem putC_bound {cs:List C2}{row:List V3}{n M m:Int}(h:∀c∈cs,-M≤c.n∧c.n≤M)(hn: -m≤n∧n≤m)(hM:0≤M)(hm:0≤m):∀c∈putC cs row n,-(M+m)≤c.n∧c.n≤M+m:=by
 have hw:∀c∈cs,-(M+m)≤c.n∧c.n≤M+m:=fun c hc=>by have:=h c hc;omega
 have ins:∀c∈cs.take (ahead cs row)++(⟨row,n⟩:C2)::cs.drop (ahead cs row),-(M+m)≤c.n∧c.n≤M+m:=by
  intro c hc;rcases List.mem_append.1 hc with h1|h1
  ·exact hw c (List.mem_of_mem_take h1)
  ·rcases List.mem_cons.1 h1 with rfl|h1
   ·dsimp only;omega
   ·exact hw c (List.mem_of_mem_drop h1)
 unfold putC;split
 ·rename_i x hx
  have hxm:=h x (mg8 hx);split
  ·split
   ·intro c hc;rcases List.mem_or_eq_of_mem_set hc with h1|rfl
    ·exact hw c h1
    ·dsimp only;omega
   ·intro c hc;rcases List.mem_append.1 hc with h1|h1
    ·exact hw c (List.mem_of_mem_take h1)
    ·exact hw c (List.mem_of_mem_drop h1)
  ·split
   ·exact ins
   ·exact hw
 ·split
  ·exact ins
  ·exact hw
def sumC (cs ds:List C2)(n:Int):List C2:=ds.foldl (fun t x=>putC t x.r (n*x.n)) cs
theorem sumC_snoc (cs ds:List C2)(x:C2)(n:Int):sumC cs (ds++ [x]) n=putC (sumC cs ds n) x.r (n*x.n):=by simp[sumC]
theorem sumC_all {n:Int}:∀ {ds cs:List C2},Asc cs→(∀c∈cs,c.n≠0)→
  Asc (sumC cs ds n)∧(∀c∈sumC cs ds n,c.n≠0)∧∀q,cntC (sumC cs ds n) q=cntC cs q+(ds.map fun x=>if cR8 x.r q=0 then n*x.n else 0).sum
 | [],cs,h,hz=>⟨h,hz,fun q=>by simp[sumC]⟩
 |x::ds,cs,h,hz=>by
  obtain⟨h1,h2,h3⟩:=put_all x.r (n*x.n) h hz;obtain⟨k1,k2,k3⟩:=sumC_all (n:=n) (ds:=ds) h1 h2;refine⟨k1,k2,fun q=>?_⟩;show cntC (sumC (putC cs x.r (n*x.n)) ds n) q=_;rw[k3 q,h3 q];simp only[List.map_cons,List.sum_cons];omega
theorem sumC_bound {cs:List C2}{n M m:Int}(h:∀c∈cs,-M≤c.n∧c.n≤M)(hM:0≤M)(hm:0≤m):∀ {ds:List C2},(∀x∈ds,-m≤n*x.n∧n*x.n≤m)→(sumC cs ds n).length≤cs.length+ds.length∧∀c∈sumC cs ds n,-(M+ds.length*m)≤c.n∧c.n≤M+ds.length*m:=by
 intro ds;induction ds generalizing cs M with
 |nil=>intro _;exact⟨by simp[sumC],fun c hc=>by have:=h c hc;simp;omega⟩
 |cons x ds ih=>
  intro hd;have hx:=hd x (List.mem_cons_self ..);obtain⟨h1,h2⟩:=ih (cs:=putC cs x.r (n*x.n)) (M:=M+m) (putC_bound h hx hM hm) (by omega) (fun y hy=>hd y (List.mem_cons_of_mem _ hy));have hl:=putC_len cs x.r (n*x.n);refine⟨by show(sumC (putC cs x.r (n*x.n)) ds n).length≤_;simp;omega,fun c hc=>?_⟩;have hc2:=h2 c hc;have e:((x::ds).length:Int)*m=ds.length*m+m:=by simp[Int.add_mul]
  omega
end
section
open Go.RowKit Go.Deep Go.ChangeShapes Go.WideShapes
def SrcIs (w:World)(size:Nat)(sv:Value)(m:Nat)(news:List Value):Prop:=news.length=m*size∧(sv=.slice none 0 0∧m=0∨∃ad c,sv=.slice (some ad) m c∧∀j u,news[j]?=some u→w.cell? (ad.add j)=some u)
theorem step_append_src {P:Program}(w:World){ops:Array Oper}{o:Oper}{a:Act}{K:Act→World→Prop}{Q:Exit→Act→World→Prop}{E:Prop}(hgd:o.guard=none)(s x:Operand)(t:TypeId)(ho:o.op=.call {callee:=.builtin .append,args:=#[s,x],argTypes:=#[t,t]})(base:Nat) (e:TypeId) (i:TypeInfo) (z:Value) (size bytes:Nat) (ht:P.underlying t=some (.slice e)) (hi:P.info? e=some i) (hz:i.zero=some z)(hsize:i.size=size) (hby:i.bytes=bytes) (hzs:z.cells.size=size) (hsz:0<size)(v:Value) (n:Nat) (xs:List Value) (hs:a.eval s=v) (hown:w.ownsRow base e size v n xs)(sv:Value) (m:Nat) (news:List Value) (hx:a.eval x=sv) (hsrc:SrcIs w size sv m news) (h1:∀u∈news,u.oneCell'=true)(h63:n+m≤maxLen) (hbytes:(n+m)*bytes≤140737488355328) (hbase:base≤w.heap.size)(h:∀v' w',w'.ownsRow base e size v' (n+m) (xs++news)→w.grownBy w' v.ownBlock→(v'.ownBlock=v.ownBlock∨v'.ownBlock=some w.heap.size)→K (a.put o.dst v') w'):if Region.wanted o (yielded ops a.tmps)=true then Oper.wp P o a w K Q else E:=by
 have hw:Region.wanted o (yielded ops a.tmps)=true:=by simp[Region.wanted,hgd]
 rw[if_pos hw];have key:∃v' w',(Builtin.append_ #[t,t] o.type #[v,sv]).run P w=.ok v' w'∧w'.ownsRow base e size v' (n+m) (xs++news)∧w.grownBy w' v.ownBlock∧(v'.ownBlock=v.ownBlock∨v'.ownBlock=some w.heap.size):=by
  obtain⟨hl,⟨rfl,rfl⟩|⟨ad,c,rfl,hc⟩⟩:=hsrc
  ·have hn:news=[]:=List.eq_nil_of_length_eq_zero (by simpa using hl);subst hn;exact⟨v,w,run_append_owned_none w base t o.type e i size ht hi v n xs hown,by simpa using hown,⟨rfl,rfl,rfl,Nat.le_refl _,fun _ _ _=>rfl⟩,.inl rfl⟩
  ·obtain⟨v',w',hr,h2,h3,_,h5⟩:=run_append_own_at (P:=P) w base t o.type e i z size bytes ht hi hz hsize hby hzs hsz v n xs hown ad m c news hl hc h1 h63 hbytes hbase;exact⟨v',w',hr,h2,h3,h5⟩
 obtain⟨v',w',hr,h2,h3,h4⟩:=key;unfold Oper.wp execOp;simp only[ho,resolve,invoke,builtin,Sem.run_bind,Sem.run_pure,Result.andThen_ok,List.map_toArray,List.map_cons,List.map_nil,hs,hx,hr];exact h v' w' h2 h3 h4
theorem cc_append {us vs:List Value}{cs ds:List C2}(h:us.length=cs.length):cc (us++vs) (cs++ds)=cc us cs++cc vs ds:=by
 unfold cc;rw[List.zip_append h,List.flatMap_append]
theorem cc_split {us:List Value}{cs:List C2}(h:us.length=cs.length)(k:Nat)(hk:k≤cs.length):cc us cs=cc (us.take k) (cs.take k)++cc (us.drop k) (cs.drop k):=by
 rw[←cc_append (by simp[h]),List.take_append_drop,List.take_append_drop]
theorem cc_one {us:List Value}{cs:List C2}(hu:∀u∈us,u.oneCell'=true):∀u∈cc us cs,u.oneCell'=true:=by
 intro u h;obtain⟨p,hp,hq⟩:=List.mem_flatMap.1 h;have:=(List.of_mem_zip hp).1;simp at hq;rcases hq with rfl|rfl
 ·exact hu _ this
 ·rfl
theorem BagOwn.one {w:World}{N:Nat}{v:Value}{cs:List C2}{us:List Value}{G:List (List Nat)}(h:BagOwn w N v cs us G):∀u∈us,u.oneCell'=true:=by
 intro u hu;obtain⟨i,hi,rfl⟩:=List.mem_iff_getElem.1 hu;have h1:i<cs.length:=by rw[←h.ul];exact hi
 have h2:i<G.length:=by rw[h.gl];exact h1
 obtain⟨a,c,e,_⟩:=h.row i cs[i] us[i] G[i] (by simp) (by simp) (by simp);rw[e];rfl
theorem BagOwn.src1 {w w':World}{N:Nat}{av:Option Addr}{l cap:Nat}{cs:List C2}{us:List Value}{G:List (List Nat)}(h:BagOwn w N (.slice av l cap) cs us G)(hb:Below w.heap.size w w'){k:Nat}(hk:k≤cs.length):SrcIs w' 2 (.slice av k cap) k (cc (us.take k) (cs.take k)):=by
 refine⟨by rw[cc_len (by simp[h.ul])];simp;omega,?_⟩;obtain⟨hl,ho⟩:=h.own;have hlt:=oL8 h.own;rcases ho with⟨e,h0⟩|⟨g,cap',cur,e,hg,hc,hn,hm,hs,ht⟩
 ·cases e;left;have:k=0:=by omega
  subst this;exact⟨rfl,rfl⟩
 cases e;refine .inr ⟨_,_,rfl,fun j u hu=>?_⟩;have hj:j<k*2:=by have:=(gE1 hu).1;rw[cc_len (by simp[h.ul])]at this;simp at this;omega
 rw[add_plain,Nat.zero_add,hb.cell (p:=⟨g,_,none⟩) (hlt g rfl).2];have e2:=cc_split h.ul k hk;have hu2:(cc us cs)[j]?=some u:=by rw[e2,List.getElem?_append_left (by exact(gE1 hu).1)];exact hu
 simp only[World.cell?,hc];rw[←ht,List.getElem?_take,if_pos (by omega),Array.getElem?_toList]at hu2
 simpa using hu2
theorem BagOwn.src2 {w w':World}{N:Nat}{av:Option Addr}{l cap:Nat}{cs:List C2}{us:List Value}{G:List (List Nat)}(h:BagOwn w N (.slice av l cap) cs us G)(hb:Below w.heap.size w w'){k:Nat}(hk:k≤cs.length):SrcIs w' 2 (.slice (if cap=k then av else av.map fun p=>p.add (k*2)) (cs.length -k) (cap -k)) (cs.length -k) (cc (us.drop k) (cs.drop k)):=by
 refine⟨by rw[cc_len (by simp[h.ul])];simp,?_⟩;obtain⟨hl,ho⟩:=h.own;have hlt:=oL8 h.own;rcases ho with⟨e,h0⟩|⟨g,cap',cur,e,hg,hc,hn,hm,hs,ht⟩
 ·cases e;left;have:k=0:=by omega
  subst this;simp[h0]
 cases e;right;by_cases hck:cap=k
 ·have hz:cs.length -k=0:=by omega
  refine⟨_,_,by rw[if_pos hck],fun j u hu=>?_⟩;have:=(gE1 hu).1;rw[cc_len (by simp[h.ul])]at this;simp at this;omega
 refine⟨_,_,by rw[if_neg hck];rfl,fun j u hu=>?_⟩;have hj:j<(cs.length -k)*2:=by have:=(gE1 hu).1;rw[cc_len (by simp[h.ul])]at this;simpa using this
 dsimp only;rw[add_plain,add_plain,Nat.zero_add,hb.cell (p:=⟨g,_,none⟩) (hlt g rfl).2];have e2:=cc_split h.ul k hk;have hlen1:(cc (us.take k) (cs.take k)).length=k*2:=by rw[cc_len (by simp[h.ul])];simp;omega
 have hu2:(cc us cs)[k*2+j]?=some u:=by rw[e2,List.getElem?_append_right (by omega),hlen1,Nat.add_sub_cancel_left];exact hu
 simp only[World.cell?,hc];rw[←ht,List.getElem?_take,if_pos (by omega),Array.getElem?_toList]at hu2
 simpa using hu2
theorem BagOwn.cut {w w':World}{N:Nat}{v v':Value}{cs:List C2}{us:List Value}{G:List (List Nat)}(h:BagOwn w N v cs us G)(hN:N≤w.heap.size)(hb:Below w.heap.size w w'){k:Nat}(hk:k<cs.length){B:Nat}(hB:w.heap.size≤B)(ho:w'.ownsRow B 96 2 v' (k+(cs.length - (k+1))) (cc (us.take k) (cs.take k)++cc (us.drop (k+1)) (cs.drop (k+1)))):BagOwn w' N v' (cs.take k++cs.drop (k+1)) (us.take k++us.drop (k+1)) (G.take k++G.drop (k+1)):=by
 have hsub:∀b∈(G.take k++G.drop (k+1)).flatten,b∈G.flatten:=by
  intro b hm;obtain⟨q,hq,hbq⟩:=List.mem_flatten.1 hm;refine List.mem_flatten.2 ⟨q,?_,hbq⟩;rcases List.mem_append.1 hq with h1|h1
  ·exact List.mem_of_mem_take h1
  ·exact List.mem_of_mem_drop h1
 have hkeep:∀b∈(G.take k++G.drop (k+1)).flatten,w'.heap[b]?=w.heap[b]?:=fun b hm=>hb.block b (h.lt b (hsub b hm));have hul:=h.ul;have hgl:=h.gl;refine⟨?_,by simp[hul],by simp[hgl],fun i y u q hy hu hq=>?_,?_,fun b hv hm=>?_⟩
 ·rw[cc_append (by simp[hul])];have:=oL8 ho;rw[show(cs.take k++cs.drop (k+1)).length=k+(cs.length - (k+1))from by simp;omega];refine⟨ho.1,?_⟩;rcases ho.2 with hn|⟨g,cap,cur,e,hg,rest⟩
  ·exact .inl hn
  ·exact .inr ⟨g,cap,cur,e,by omega,rest⟩
 ·have hi:∃j:Nat,cs[j]?=some y∧us[j]?=some u∧G[j]?=some q:=by
   by_cases hlt:i<k
   ·rw[List.getElem?_append_left (by simp;omega),List.getElem?_take,if_pos hlt]at hy hu hq;exact⟨i,hy,hu,hq⟩
   ·rw[List.getElem?_append_right (by simp;omega),List.getElem?_drop]at hy hu hq;simp only[List.length_take,hul,hgl,Nat.min_eq_left (Nat.le_of_lt hk)]at hy hu hq;exact⟨_,hy,hu,hq⟩
  obtain⟨j,h1,h2,h3⟩:=hi;exact(h.row j y u q h1 h2 h3).keep hb.size fun b hbq=>hb.block b (h.lt b (List.mem_flatten.2 ⟨q,mg8 h3,hbq⟩))
 ·refine OwnB.keep (w:=w) ⟨?_,fun b hm=>h.free.2.1 b (hsub b hm),fun b hm=>h.free.2.2 b (hsub b hm)⟩ hkeep;have hnd:=h.free.1;obtain⟨q,hq⟩:∃q,G.drop k=q::G.drop (k+1):=⟨G[k]'(by omega),List.drop_eq_getElem_cons (by omega)⟩;have e:G=G.take k++q::G.drop (k+1):=by rw[←hq,List.take_append_drop]
  rw[e,List.flatten_append,List.flatten_cons,List.nodup_append]at hnd;rw[List.flatten_append,List.nodup_append];obtain⟨n1,n2,n3⟩:=hnd;exact⟨n1,(List.nodup_append.1 n2).2.1,fun a ha b hb'=>n3 a ha b (List.mem_append.2 (.inr hb'))⟩
 ·have h1:=(oL8 ho b hv).1;have h2:=h.lt b (hsub b hm);omega
theorem BagOwn.put {w w1 w':World}{N:Nat}{v v' u0:Value}{cs:List C2}{us:List Value}{G:List (List Nat)}{x:C2}{g0:List Nat}(h:BagOwn w N v cs us G)(hN:N≤w.heap.size)(hb:Below w.heap.size w w1)(hR:RowF w1 u0 x.r g0)(hO:OwnB w1 w.heap.size g0)(hb1:∀b,b<w.heap.size∨b∈g0→w'.heap[b]?=w1.heap[b]?)(hz:w1.heap.size≤w'.heap.size){k:Nat}(hk:k≤cs.length){B:Nat}(hB:w.heap.size≤B)(hv0:∀b,v'.ownBlock=some b→b∉g0)(ho:w'.ownsRow B 96 2 v' (k+1+(cs.length -k)) (cc (us.take k) (cs.take k)++ [u0,.int .i64 x.n]++cc (us.drop k) (cs.drop k))):BagOwn w' N v' (cs.take k++x::cs.drop k) (us.take k++u0::us.drop k) (G.take k++g0::G.drop k):=by
 have hul:=h.ul;have hgl:=h.gl;have hmem:∀b∈(G.take k++g0::G.drop k).flatten,b∈G.flatten∨b∈g0:=by
  intro b hm;obtain⟨q,hq,hbq⟩:=List.mem_flatten.1 hm;rcases List.mem_append.1 hq with h1|h1
  ·exact .inl (List.mem_flatten.2 ⟨q,List.mem_of_mem_take h1,hbq⟩)
  ·rcases List.mem_cons.1 h1 with rfl|h1
   ·exact .inr hbq
   ·exact .inl (List.mem_flatten.2 ⟨q,List.mem_of_mem_drop h1,hbq⟩)
 have hk1:∀b∈G.flatten,w'.heap[b]?=w.heap[b]?:=fun b hm=>(hb1 b (.inl (h.lt b hm))).trans (hb.block b (h.lt b hm));have hk0:∀b∈g0,w'.heap[b]?=w1.heap[b]?:=fun b hm=>hb1 b (.inr hm);refine⟨?_,by simp[hul],by simp[hgl],fun i y u q hy hu hq=>?_,⟨?_,fun b hm=>?_,fun b hm o=>?_⟩,fun b hv hm=>?_⟩
 ·rw[cc_append (by simp[hul])];have e:cc (u0::us.drop k) (x::cs.drop k)=[u0,.int .i64 x.n]++cc (us.drop k) (cs.drop k):=by unfold cc;rw[List.zip_cons_cons,List.flatMap_cons]
  rw[e,←List.append_assoc,show(cs.take k++x::cs.drop k).length=k+1+(cs.length -k)from by simp;omega];refine⟨ho.1,?_⟩;rcases ho.2 with hn|⟨g,cap,cur,e,hg,rest⟩
  ·exact .inl hn
  ·exact .inr ⟨g,cap,cur,e,by omega,rest⟩
 ·have old:∀j:Nat,cs[j]?=some y→us[j]?=some u→G[j]?=some q→RowF w' u y.r q:=fun j h1 h2 h3=>
   (h.row j y u q h1 h2 h3).keep (Nat.le_trans hb.size hz) fun b hbq=>hk1 b (List.mem_flatten.2 ⟨q,mg8 h3,hbq⟩)
  by_cases hlt:i<k
  ·rw[List.getElem?_append_left (by simp;omega),List.getElem?_take,if_pos hlt]at hy hu hq;exact old i hy hu hq
  ·rw[List.getElem?_append_right (by simp;omega)]at hy hu hq;simp only[List.length_take,hul,hgl,Nat.min_eq_left hk]at hy hu hq;cases hik:i -k with
   |zero=>
    rw[hik]at hy hu hq;simp at hy hu hq;subst hy hu hq;exact hR.keep hz hk0
   |succ j=>
    rw[hik,List.getElem?_cons_succ,List.getElem?_drop]at hy hu hq;exact old _ hy hu hq
 ·have hnd:=h.free.1;rw[←List.take_append_drop k G,List.flatten_append,List.nodup_append]at hnd;obtain⟨n1,n2,n3⟩:=hnd;rw[List.flatten_append,List.flatten_cons,List.nodup_append,List.nodup_append];have far:∀b,b∈g0→b∈G.flatten→False:=fun b h1 h2=>by have:=hO.2.1 b h1;have:=h.lt b h2;omega
  refine⟨n1,⟨hO.1,n2,fun a ha b hb' e=>?_⟩,fun a ha b hb' e=>?_⟩
  ·subst e;obtain⟨q,hq,hbq⟩:=List.mem_flatten.1 hb';exact far a ha (List.mem_flatten.2 ⟨q,List.mem_of_mem_drop hq,hbq⟩)
  ·rcases List.mem_append.1 hb' with h1|h1
   ·subst e;obtain⟨q,hq,hbq⟩:=List.mem_flatten.1 ha;exact far a h1 (List.mem_flatten.2 ⟨q,List.mem_of_mem_take hq,hbq⟩)
   ·exact n3 a ha b h1 e
 ·rcases hmem b hm with h1|h1
  ·exact h.free.2.1 b h1
  ·have:=hO.2.1 b h1;omega
 ·rcases hmem b hm with h1|h1
  ·exact(fb8 (hk1 b h1)).trans (h.free.2.2 b h1 o)
  ·exact(fb8 (hk0 b h1)).trans (hO.2.2 b h1 o)
 ·rcases hmem b hm with h1|h1
  ·have h2:=(oL8 ho b hv).1;have h3:=h.lt b h1;omega
  ·exact hv0 b hv h1
theorem BagOwn.keepO {w w':World}{N:Nat}{v:Value}{cs:List C2}{us:List Value}{G:List (List Nat)}(h:BagOwn w N v cs us G)(hs:w.heap.size≤w'.heap.size)(hv:∀b,v.ownBlock=some b→w'.heap[b]?=w.heap[b]?)(hg:∀b∈G.flatten,w'.heap[b]?=w.heap[b]?):BagOwn w' N v cs us G:=
 ⟨oK8 h.own hv,h.ul,h.gl,fun i x u g hx hu hgi=>(h.row i x u g hx hu hgi).keep hs fun b hb=>hg b (List.mem_flatten.2 ⟨g,mg8 hgi,hb⟩),h.free.keep hg,h.out⟩
theorem own_shapeX {w:World}{N e n s:Nat}{v:Value}{xs:List Value}(h:w.ownsRow N e s v n xs):∃a c,v=.slice a n c:=by
 rcases h.2 with⟨rfl,rfl⟩|⟨g,cap,cur,rfl,_⟩
 ·exact⟨_,_,rfl⟩
 ·exact⟨_,_,rfl⟩
theorem cut_mem {G:List (List Nat)}{k b:Nat}(hm:b∈(G.take k++G.drop (k+1)).flatten):b∈G.flatten:=by
 obtain⟨q,hq,hbq⟩:=List.mem_flatten.1 hm;refine List.mem_flatten.2 ⟨q,?_,hbq⟩;rcases List.mem_append.1 hq with h1|h1
 ·exact List.mem_of_mem_take h1
 ·exact List.mem_of_mem_drop h1
theorem put_mem {G:List (List Nat)}{g0:List Nat}{k b:Nat}(hm:b∈(G.take k++g0::G.drop k).flatten):b∈G.flatten∨b∈g0:=by
 obtain⟨q,hq,hbq⟩:=List.mem_flatten.1 hm;rcases List.mem_append.1 hq with h1|h1
 ·exact .inl (List.mem_flatten.2 ⟨q,List.mem_of_mem_take h1,hbq⟩)
 ·rcases List.mem_cons.1 h1 with rfl|h1
  ·exact .inr hbq
  ·exact .inl (List.mem_flatten.2 ⟨q,List.mem_of_mem_drop h1,hbq⟩)
theorem BagOwn.src3 {w w':World}{N:Nat}{g l cap:Nat}{cs:List C2}{us:List Value}{G:List (List Nat)}(h:BagOwn w N (.slice (some ⟨g,0,none⟩) l cap) cs us G)(hb:Below w.heap.size w w'){k:Nat}(hk:k≤cs.length):SrcIs w' 2 (.slice (if cap=k then some ⟨g,0,none⟩else some ⟨g,k*2,none⟩) (cs.length -k) (cap -k)) (cs.length -k) (cc (us.drop k) (cs.drop k)):=by
 have:=h.src2 hb hk
 rwa [Option.map_some,add_plain,Nat.zero_add]at this
theorem BagOwn.src4 {w w':World}{N:Nat}{l cap:Nat}{cs:List C2}{us:List Value}{G:List (List Nat)}(h:BagOwn w N (.slice none l cap) cs us G)(hb:Below w.heap.size w w'){k:Nat}(hk:k≤cs.length):SrcIs w' 2 (.slice none (cs.length -k) (cap -k)) (cs.length -k) (cc (us.drop k) (cs.drop k)):=by
 have:=h.src2 hb hk
 rwa [Option.map_none,ite_self]at this
theorem RowF.shapeX {w:World}{v:Value}{vs:List V3}{g:List Nat}(h:RowF w v vs g):∃a c,v=.slice a vs.length c:=by
 obtain⟨a,c,h,_⟩:=h;exact⟨a,c,h⟩
theorem RowF.belowX {w w':World}{v:Value}{vs:List V3}{g:List Nat}(h:RowF w v vs g)(hb:Below w.heap.size w w'):RowF w' v vs g:=h.keep hb.size fun c hc=>hb.block c (h.lt c hc)
def PutOut (w:World)(N:Nat)(wd:Int)(v:Value)(G:List (List Nat))(P:List C2)(e:Ending)(w':World):Prop:=
 ∃v' us' G',e=.returned (.agg #[.int .i64 wd,v'])∧BagOwn w' N v' P us' G'∧(∀b,b<w.heap.size→v'.ownBlock=some b→v.ownBlock=some b)∧(∀b,b<w.heap.size→b∈G'.flatten→b∈G.flatten)∧Below N w w'∧w.grownBy w' v.ownBlock
theorem PutOut.of_below {w w':World}{N:Nat}{wd:Int}{v v':Value}{G G':List (List Nat)}{us':List Value}{P:List C2}(hB:BagOwn w' N v' P us' G')(h1:∀b,b<w.heap.size→v'.ownBlock=some b→v.ownBlock=some b)(h2:∀b,b<w.heap.size→b∈G'.flatten→b∈G.flatten)(hb:Below w.heap.size w w')(hN:N≤w.heap.size):PutOut w N wd v G P (.returned (.agg #[.int .i64 wd,v'])) w':=
 ⟨v',us',G',rfl,hB,h1,h2,hb.mono hN,hb.os,hb.tape,hb.output,hb.size,fun k hk _=>hb.block k hk⟩
theorem grown_set {w w1:World}(h:Below w.heap.size w w1)(g o:Nat)(u:Value):w.grownBy (w1.setCell ⟨g,o,none⟩ u) (some g):=
 ⟨h.os,h.tape,h.output,by simpa using h.size,fun k hk hne=>(bS8 _ _ _ _ (fun e=>hne (congrArg some e))).trans (h.block k hk)⟩
theorem grown_cell {w w1:World}{row:Option Nat}(h:w.grownBy w1 row){p:Addr}(hp:w.heap.size≤p.block)(u:Value):w.grownBy (w1.setCell p u) row:=
 ⟨h.os,h.tape,h.output,by simpa using h.size,fun k hk hne=>(bS8 _ _ _ _ (by omega)).trans (h.block k hk hne)⟩
end
section
open Go.RowKit Go.Deep Go.ChangeShapes Go.WideShapes
theorem BagOwn.cellsX {w:World}{N:Nat}{v:Value}{cs:List C2}{us:List Value}{G:List (List Nat)}(h:BagOwn w N v cs us G){i:Nat}{x:C2}(hx:cs[i]?=some x):∃g cap u gg,v=.slice (some ⟨g,0,none⟩) cs.length cap∧cs.length≤cap∧cap≤maxLen∧N≤g∧g<w.heap.size∧us[i]?=some u∧G[i]?=some gg∧w.cell? ⟨g,i*2,none⟩=some u∧w.cell? ⟨g,i*2+1,none⟩=some (.int .i64 x.n)∧RowF w u x.r gg∧∀q,w.frozen? ⟨g,q,none⟩=false:=by
 have hi:i<cs.length:=(gE1 hx).1;have hiu:i<us.length:=by rw[h.ul];exact hi
 have hig:i<G.length:=by rw[h.gl];exact hi
 have hlt:=oL8 h.own;obtain⟨hl,ho⟩:=h.own;rcases ho with⟨_,h0⟩|⟨g,cap,cur,rfl,hg,hc,hn,hm,hs,ht⟩
 ·omega
 obtain⟨e0,e1⟩:=cc_at h.ul (i:=i) (u:=us[i]) (x:=x) (by simp) hx;have get:∀j u,j<cs.length*2→(cc us cs)[j]?=some u→w.cell? ⟨g,j,none⟩=some u:=by
  intro j u hj hu;simp only[World.cell?,hc];rw[←ht,List.getElem?_take,if_pos hj,Array.getElem?_toList]at hu
  simpa using hu
 exact⟨g,cap,us[i],G[i],rfl,hn,hm,hg,(hlt g rfl).2,by simp,by simp,get _ _ (by omega) e0,get _ _ (by omega) e1,h.row i x us[i] G[i] hx (by simp) (by simp),fun q=>by simp[World.frozen?,hc]⟩
theorem l02Put_any (wd n:Int)(v rv:Value)(cs:List C2)(us:List Value)(G:List (List Nat))(row:List V3)(g0:List Nat)(N:Nat)(w:World)(hB:BagOwn w N v cs us G)(hr:RowF w rv row g0)(hA:Asc cs)(hN:N≤w.heap.size)(hl:cs.length≤2097152)(hrl:row.length≤1048576)(hn0: -1000000000000000000≤n)(hn1:n≤1000000000000000000)(hc:∀c∈cs,-4000000000000000000≤c.n∧c.n≤4000000000000000000)(P:List C2)(hP:Hid (putC cs row n=P)):Calls Tryz.prog 75 #[.agg #[.int .i64 wd,v],rv,.int .i64 n] w (PutOut w N wd v G P):=by
 obtain⟨av,cv,rfl⟩:=hB.shape;have hcv:cs.length≤cv∧cv≤9223372036854775807:=by
  rcases hB.own.2 with⟨e,h0⟩|⟨g,cap,cur,e,_,_,h1,h2,_⟩
  ·injection e with _ _ e3;omega
  ·injection e with _ _ e3;unfold maxLen at h2;omega
 have hr0:=hr;obtain⟨ar,cr,rfl,_,_,_⟩:=hr;go_enter Tryz.func75,Tryz.ntmps75;go_wp2_with fail;go_region_held3 (fun w'=>w'.cell? ⟨w.heap.size,1,none⟩=some (.slice av cs.length cv)) (go_simp) (fail);go_wp2_with fail;go_loopw [7,8] (fun l h wr=> ∃lo hi:Nat,l=.int .i64 lo∧h=.int .i64 hi∧lo≤ahead cs row∧ahead cs row≤hi∧hi≤cs.length∧Below w.heap.size w wr∧w.heap.size+1<wr.heap.size∧wr.cell? ⟨w.heap.size,0,none⟩=some (.int .i64 wd)∧wr.cell? ⟨w.heap.size,1,none⟩=some (.slice av cs.length cv)∧(∀q,wr.frozen? ⟨w.heap.size,q,none⟩=false)∧wr.cell? ⟨w.heap.size+1,0,none⟩=some (.int .i64 0)∧wr.cell? ⟨w.heap.size+1,1,none⟩=some (.slice none 0 0)∧(∀q,wr.frozen? ⟨w.heap.size+1,q,none⟩=false)) (fun l h _=>(intOf h).toNat - (intOf l).toNat)
 case atStart=>exact⟨0,cs.length,rfl,rfl,Nat.zero_le _,ahead_le _ _,Nat.le_refl _,bex,by simp,by go_simp,by go_simp,fun q=>by go_simp,by go_simp,by go_simp,fun q=>by go_simp⟩
 case round=>
  obtain⟨lo,hi,rfl,rfl,h1,h2,h3,hb,hz,b0,b1,bf,t0,t1,tf⟩:=hrel;have hzb:=hb.size;by_cases hlt:lo<hi
  ·obtain⟨mid,hmid⟩:∃m,m=(lo+hi)/2:=⟨_,rfl⟩;have hm1:lo≤mid:=by omega
   have hm2:mid<hi:=by omega
   have hq:(((lo:Int)+(hi:Int)).tdiv 2)=(mid:Int):=by
    rw[Int.tdiv_eq_ediv_of_nonneg (by omega)];omega
   obtain⟨x,hx⟩:∃x,cs[mid]?=some x:=⟨cs[mid]'(by omega),by simp⟩;obtain⟨g,cap,u,gg,hv,_,_,hgN,hgl,hu,hgg,c0,c1,hR,_⟩:=hB.cellsX hx;injection hv with e1 _ e3;subst e1 e3;have d0:=(hb.cell (p:=⟨g,_,none⟩) hgl).trans c0;have hgr:g<wr.heap.size:=by omega
   have hmI:(mid:Int)<cs.length:=by omega
   have hmI0:(0:Int)≤mid:=by omega
   have hiff:=ahead_lt (row:=row) hA hx;clear hx c0 c1 hmid;by_cases hcmp:cR8 x.r row<0
   ·have hd:decide (cR8 x.r row<0)=true:=by simpa using hcmp
    have hah:=hiff.2 hcmp;go_wp2_with fail;refine cM8 (specRow_any u (.slice ar row.length cr) x.r row wr (hR.is.below hb) (hr0.is.below hb)) ?_;rintro z w1 ⟨rfl,hb1⟩;have hz1:=hb1.size;have hbw1:Below w.heap.size w w1:=hb.trans (hb1.mono hb.size);have B0:=((bc8 hb1).1 _ _ (show w.heap.size<wr.heap.size by omega)).trans b0;have B1:=((bc8 hb1).1 _ _ (show w.heap.size<wr.heap.size by omega)).trans b1;have BF:∀q,w1.frozen? ⟨w.heap.size,q,none⟩=false:=fun q=>((bc8 hb1).2 _ q (show w.heap.size<wr.heap.size by omega)).trans (bf q);have T0:=((bc8 hb1).1 _ _ hz).trans t0;have T1:=((bc8 hb1).1 _ _ hz).trans t1;have TF:∀q,w1.frozen? ⟨w.heap.size+1,q,none⟩=false:=fun q=>((bc8 hb1).2 _ q hz).trans (tf q);clear hb1 b0 b1 bf t0 t1 tf;go_wp2;exact⟨⟨mid+1,hi,by simp,rfl,hah,h2,h3,hbw1,by omega,B0,B1,BF,T0,T1,TF⟩,by simp[intOf];omega⟩
   ·have hd:decide (cR8 x.r row<0)=false:=by simpa using hcmp
    have hah:ahead cs row≤mid:=by
     rcases Nat.lt_or_ge mid (ahead cs row)with h|h
     ·exact absurd (hiff.1 h) hcmp
     ·exact h
    go_wp2_with fail;refine cM8 (specRow_any u (.slice ar row.length cr) x.r row wr (hR.is.below hb) (hr0.is.below hb)) ?_;rintro z w1 ⟨rfl,hb1⟩;have hz1:=hb1.size;have hbw1:Below w.heap.size w w1:=hb.trans (hb1.mono hb.size);have B0:=((bc8 hb1).1 _ _ (show w.heap.size<wr.heap.size by omega)).trans b0;have B1:=((bc8 hb1).1 _ _ (show w.heap.size<wr.heap.size by omega)).trans b1;have BF:∀q,w1.frozen? ⟨w.heap.size,q,none⟩=false:=fun q=>((bc8 hb1).2 _ q (show w.heap.size<wr.heap.size by omega)).trans (bf q);have T0:=((bc8 hb1).1 _ _ hz).trans t0;have T1:=((bc8 hb1).1 _ _ hz).trans t1;have TF:∀q,w1.frozen? ⟨w.heap.size+1,q,none⟩=false:=fun q=>((bc8 hb1).2 _ q hz).trans (tf q);clear hb1 b0 b1 bf t0 t1 tf;go_wp2;exact⟨⟨lo,mid,rfl,rfl,h1,hah,by omega,hbw1,by omega,B0,B1,BF,T0,T1,TF⟩,by simp[intOf];omega⟩
  ·have hlo:lo=ahead cs row:=by omega
   cases hx:cs[lo]? with
   |none=>
    have hll:cs.length=lo:=by have:=List.getElem?_eq_none_iff.1 hx;omega
    have hPi:P=if n≠0 then cs.take lo++(⟨row,n⟩:C2)::cs.drop lo else cs:=by rw[←hP.out];unfold putC;rw[←hlo,hx]
    have hll2:decide ((lo:Int)<cs.length)=false:=by simp;omega
    by_cases hn:n≠0
    ·have hPn:Hid (P=cs.take lo++(⟨row,n⟩:C2)::cs.drop lo):=by rw[if_pos hn]at hPi;exact hPi
     have B0:=b0;have B1:=b1;have BF:=bf;have T0:=t0;have T1:=t1;have TF:=tf;have hbw1:=hb;have hB1:=hB.below hb;have hlc:lo≤cv:=by omega
     have hI1:(lo:Int)≤cs.length:=by omega
     have hI2:lo≤cs.length:=by omega
     have hnb:(n !=0)=true:=by simpa using hn
     have hGl:=hB.lt;have hsh:av=none∨∃g,av=some ⟨g,0,none⟩:=by
      rcases hB.own.2 with⟨e,_⟩|⟨g,cap,cur,e,_⟩
      ·injection e with e;exact .inl e
      ·injection e with e;exact .inr ⟨g,e⟩
     have hllH:Hid (cs.length=lo):=hll;have hnl:¬ (lo<cs.length):=by omega
     have hnl2:¬ ((lo:Int)<cs.length):=by omega
     clear hPi hlo hP hx b0 b1 bf t0 t1 tf hll;rcases hsh with rfl|⟨g,rfl⟩
     ·go_wp2_with fail;obtain⟨i0,fi,f0,f1,f2⟩:=info_parts Tryz.infoCnt;refine startE 18 (fun w'=>w'.cell? ⟨w.heap.size,1,none⟩=some (.slice none cs.length cv)) (by kernel_rfl) ?_ (fun hHeld=>?_)
      ·exact B1
      refine tkE 1 82 rfl rfl ?_;refine tkE 2 83 rfl rfl ?_;refine tkE 3 84 rfl rfl ?_;refine tkE 4 85 rfl rfl ?_;refine tkE 6 87 rfl rfl ?_;refine tkE 8 89 rfl rfl ?_;refine tkE 12 93 rfl rfl ?_;refine tkE 13 94 rfl rfl ?_;refine tkE 14 95 rfl rfl ?_;refine tkE 15 96 rfl rfl ?_;refine onE 0 rfl fun K hK=>?_;go_simp;refine hK.out _ _ ?_ (fun hHeld0=>?_)
      ·intro _;exact(cb8 (bA8 wr _ _ (by omega))).trans B1
      clear hK;replace hHeld0:=hHeld0 (by decide);refine onE 5 rfl fun K hK=>?_;refine step_append_src _ (by rfl) _ _ _ (by rfl) wr.heap.size 96 i0 _ 2 32 Tryz.underlying58 fi f0 f1 f2 rfl (by omega) (.slice (some ⟨wr.heap.size,0,none⟩) 0 0) 0 [] (by rfl) (own_none (w:=wr) rfl (Nat.le_refl _) _ 2) (.slice none lo cv) lo _ (by rfl) (hB1.src1 bex (by omega)) (cc_one fun u hu=>hB1.one u (List.mem_of_mem_take hu)) (by simp only[maxLen];omega) (by omega) (by simp) ?_;intro v5 w5 hown5 hgrow5 hat5;rw[List.nil_append,Nat.zero_add]at hown5;have hz5:=hgrow5.size;simp at hz5;have bel5:Below wr.heap.size wr w5:=Below.grown (show Below wr.heap.size wr _ from bex) hgrow5 (by simp) (fun b hb=>by simp[Value.ownBlock]at hb;omega);refine hK.out _ _ ?_ (fun hHeld5=>?_)
      ·intro _;exact((bc8 bel5).1 _ _ (by omega)).trans B1
      clear hK;replace hHeld5:=hHeld5 (by decide);refine onE 7 rfl fun K hK=>?_;go_simp;go_at_call 72;refine cM8 (l02CopyRow_any (.slice ar row.length cr) row g0 _ (hr0.belowX (hbw1.trans (bel5.mono hbw1.size))) hrl) ?_;rintro e w7 ⟨⟨u7,g7,rfl,hR7,hO7⟩,hb7⟩;obtain⟨a7,c7,rfl⟩:=hR7.shapeX;have hz7:=hb7.size;have bel7:Below wr.heap.size wr w7:=bel5.trans (hb7.mono bel5.size);have hown7:=oK8 hown5 (fun b hb=>hb7.block b (oL8 hown5 b hb).2);have hR7l:=hR7.lt;try go_wp2_with fail
      refine hK.out _ _ ?_ (fun hHeld7=>?_)
      ·intro _;exact((bc8 bel7).1 _ _ (by omega)).trans B1
      clear hK;replace hHeld7:=hHeld7 (by decide);refine tkE 9 90 rfl rfl ?_;refine onE 10 rfl fun K hK=>?_;go_simp;refine hK.out _ _ ?_ (fun hHeld10=>?_)
      ·intro _;exact(cb8 (bA8 w7 _ _ (by omega))).trans (((bc8 bel7).1 _ _ (by omega)).trans B1)
      clear hK;replace hHeld10:=hHeld10 (by decide);refine onE 11 rfl fun K hK=>?_;refine step_append_src _ (by rfl) _ _ _ (by rfl) wr.heap.size 96 i0 _ 2 32 Tryz.underlying58 fi f0 f1 f2 rfl (by omega) v5 lo _ (by rfl) (oK8 hown7 fun b hb=>bA8 w7 _ _ (oL8 hown7 b hb).2) (.slice (some ⟨w7.heap.size,0,none⟩) 1 1) 1 [.slice a7 row.length c7,.int .i64 n] (by rfl) ⟨by rfl,.inr ⟨_,_,rfl,World.news_of_block (cs:=#[.slice a7 row.length c7,.int .i64 n]) (t:=96) (fr:=(0,0)) (heap_alloc_new w7 _)⟩⟩ (by simp[Value.oneCell']) (by simp only[maxLen];omega) (by omega) (by simp;omega) ?_;intro v11 w11 hown11 hgrow11 hat11;have hz11:=hgrow11.size;simp at hz11;have bel11:Below wr.heap.size wr w11:=Below.grown (bel7.alloc (by omega) _) hgrow11 (by simp;omega) (fun b hb=>(oL8 hown7 b hb).1);refine hK.out _ _ ?_ (fun hHeld11=>?_)
      ·intro _;exact((bc8 bel11).1 _ _ (by omega)).trans B1
      clear hK;replace hHeld11:=hHeld11 (by decide);refine onE 16 rfl fun K hK=>?_;refine step_append_src _ (by rfl) _ _ _ (by rfl) wr.heap.size 96 i0 _ 2 32 Tryz.underlying58 fi f0 f1 f2 rfl (by omega) v11 (lo+1) _ (by rfl) hown11 _ (cs.length -lo) _ (by rfl) (by have hsr:=hB1.src4 (k:=lo) bel11 (by omega);exact hsr) (cc_one fun u hu=>hB1.one u (List.mem_of_mem_drop hu)) (by simp only[maxLen];omega) (by omega) (by omega) ?_;intro v16 w16 hown16 hgrow16 hat16;have hz16:=hgrow16.size;obtain⟨a16,c16,rfl⟩:=own_shapeX hown16;have bel16:Below wr.heap.size wr w16:=Below.grown bel11 hgrow16 (by omega) (fun b hb=>(oL8 hown11 b hb).1);have hv11:∀b,v11.ownBlock=some b→b∉g7:=by
       intro b hb hm;have h1:=hO7.2.1 b hm;have h2:=hR7l b hm;rcases hat11 with h|h
       ·have:=(oL8 hown5 b (h.symm.trans hb)).2;omega
       ·rw[h]at hb;have:=Option.some.inj hb;simp at this;omega
      have hv16:∀b,(Value.slice a16 (lo+1+(cs.length -lo)) c16).ownBlock=some b→b∉g7:=by
       intro b hb hm;have h2:=hR7l b hm;rcases hat16 with h|h
       ·exact hv11 b (h.symm.trans hb) hm
       ·rw[h]at hb;have:=Option.some.inj hb;omega
      have hk16:∀b,b<wr.heap.size∨b∈g7→w16.heap[b]?=w7.heap[b]?:=by
       intro b hb;rcases hb with hb|hb
       ·exact(bel16.block b hb).trans (bel7.block b hb).symm
       ·have h1:=hO7.2.1 b hb;have h2:=hR7l b hb;refine(hgrow16.block b (by omega) (fun e=>hv11 b e.symm hb)).trans ((hgrow11.block b (by simp;omega) (fun e=>?_)).trans (bA8 w7 _ _ h2));have:=(oL8 hown5 b e.symm).2;omega
      have hBc:=hB1.put (x:=⟨row,n⟩) (by omega) bel7 hR7 ⟨hO7.1,fun b hb=>Nat.le_trans bel5.size (hO7.2.1 b hb),hO7.2.2⟩ hk16 (by omega) (k:=lo) (by omega) (Nat.le_refl _) hv16 hown16;have B016:=((bc8 bel16).1 w.heap.size 0 (by omega)).trans B0;have B116:=((bc8 bel16).1 w.heap.size 1 (by omega)).trans B1;have BF16:∀q,w16.frozen? ⟨w.heap.size,q,none⟩=false:=fun q=>((bc8 bel16).2 w.heap.size q (by omega)).trans (BF q);have T016:=((bc8 bel16).1 (w.heap.size+1) 0 (by omega)).trans T0;have T116:=((bc8 bel16).1 (w.heap.size+1) 1 (by omega)).trans T1;have TF16:∀q,w16.frozen? ⟨w.heap.size+1,q,none⟩=false:=fun q=>((bc8 bel16).2 (w.heap.size+1) q (by omega)).trans (TF q);refine hK.out _ _ ?_ (fun hHeld16=>?_)
      ·intro _;exact B116
      clear hK;replace hHeld16:=hHeld16 (by decide);refine tkE 17 98 rfl rfl ?_;refine onE 18 rfl fun K hK=>?_;go_simp;refine hK.out _ _ ?_ (fun hHeld18=>?_)
      ·exact fun h=>absurd rfl h
      clear hK hHeld18;refine doneE (by kernel_rfl) ?_ _;have belw:Below w.heap.size w w16:=hbw1.trans (bel16.mono hbw1.size);clear hB hB1 hc hA hr0;go_wp2;all_goals
       refine bodyPost_ret (v:=.agg #[.int .i64 wd,.slice a16 (lo+1+(cs.length -lo)) c16]) (by simp[results,Tryz.results75,go_sem, *]) rfl (PutOut.of_below (us':=us.take lo++ .slice a7 row.length c7::us.drop lo) (G':=G.take lo++g7::G.drop lo) ?_ (fun b hb h=>?_) (fun b hb h=>?_) ?_ hN)
       ·rw[hPn.out];refine hBc.keepO (by simp) (fun b hvb=>?_) fun b hgb=>?_
        ·have:=(oL8 hown16 b hvb).1;exact(bS8 _ _ _ _ (by show b≠w.heap.size+1;omega)).trans ((bS8 _ _ _ _ (by show b≠w.heap.size+1;omega)).trans (bS8 _ _ _ _ (by show b≠w.heap.size;omega)))
        ·have:b<w.heap.size∨w.heap.size+1<b:=(put_mem hgb).elim (fun h=> .inl (hGl b h)) (fun h=> .inr (by have:=hO7.2.1 b h;omega));exact(bS8 _ _ _ _ (by show b≠w.heap.size+1;omega)).trans ((bS8 _ _ _ _ (by show b≠w.heap.size+1;omega)).trans (bS8 _ _ _ _ (by show b≠w.heap.size;omega)))
       ·have:=(oL8 hown16 b h).1;omega
       ·exact(put_mem h).elim id (fun h=>absurd (hO7.2.1 b h) (by omega))
       ·repeat (first|(with_reducible exact belw)|(with_reducible refine Below.setCell ?_ ?hh _;case hh=>(simp;try omega)))
     ·by_cases hcl:cv=lo
      ·have hcl2:=hcl.symm;clear hcl;subst hcl2;clear hcv;go_wp2_with fail;obtain⟨i0,fi,f0,f1,f2⟩:=info_parts Tryz.infoCnt;refine startE 18 (fun w'=>w'.cell? ⟨w.heap.size,1,none⟩=some (.slice (some ⟨g,0,none⟩) cs.length lo)) (by kernel_rfl) ?_ (fun hHeld=>?_)
       ·exact B1
       refine tkE 1 82 rfl rfl ?_;refine tkE 2 83 rfl rfl ?_;refine tkE 3 84 rfl rfl ?_;refine tkE 4 85 rfl rfl ?_;refine tkE 6 87 rfl rfl ?_;refine tkE 8 89 rfl rfl ?_;refine tkE 12 93 rfl rfl ?_;refine tkE 13 94 rfl rfl ?_;refine tkE 14 95 rfl rfl ?_;refine tkE 15 96 rfl rfl ?_;refine onE 0 rfl fun K hK=>?_;go_simp;refine hK.out _ _ ?_ (fun hHeld0=>?_)
       ·intro _;exact(cb8 (bA8 wr _ _ (by omega))).trans B1
       clear hK;replace hHeld0:=hHeld0 (by decide);refine onE 5 rfl fun K hK=>?_;refine step_append_src _ (by rfl) _ _ _ (by rfl) wr.heap.size 96 i0 _ 2 32 Tryz.underlying58 fi f0 f1 f2 rfl (by omega) (.slice (some ⟨wr.heap.size,0,none⟩) 0 0) 0 [] (by rfl) (own_none (w:=wr) rfl (Nat.le_refl _) _ 2) (.slice (some ⟨g,0,none⟩) lo lo) lo _ (by rfl) (hB1.src1 bex (by omega)) (cc_one fun u hu=>hB1.one u (List.mem_of_mem_take hu)) (by simp only[maxLen];omega) (by omega) (by simp) ?_;intro v5 w5 hown5 hgrow5 hat5;rw[List.nil_append,Nat.zero_add]at hown5;have hz5:=hgrow5.size;simp at hz5;have bel5:Below wr.heap.size wr w5:=Below.grown (show Below wr.heap.size wr _ from bex) hgrow5 (by simp) (fun b hb=>by simp[Value.ownBlock]at hb;omega);refine hK.out _ _ ?_ (fun hHeld5=>?_)
       ·intro _;exact((bc8 bel5).1 _ _ (by omega)).trans B1
       clear hK;replace hHeld5:=hHeld5 (by decide);refine onE 7 rfl fun K hK=>?_;go_simp;go_at_call 72;refine cM8 (l02CopyRow_any (.slice ar row.length cr) row g0 _ (hr0.belowX (hbw1.trans (bel5.mono hbw1.size))) hrl) ?_;rintro e w7 ⟨⟨u7,g7,rfl,hR7,hO7⟩,hb7⟩;obtain⟨a7,c7,rfl⟩:=hR7.shapeX;have hz7:=hb7.size;have bel7:Below wr.heap.size wr w7:=bel5.trans (hb7.mono bel5.size);have hown7:=oK8 hown5 (fun b hb=>hb7.block b (oL8 hown5 b hb).2);have hR7l:=hR7.lt;try go_wp2_with fail
       refine hK.out _ _ ?_ (fun hHeld7=>?_)
       ·intro _;exact((bc8 bel7).1 _ _ (by omega)).trans B1
       clear hK;replace hHeld7:=hHeld7 (by decide);refine tkE 9 90 rfl rfl ?_;refine onE 10 rfl fun K hK=>?_;go_simp;refine hK.out _ _ ?_ (fun hHeld10=>?_)
       ·intro _;exact(cb8 (bA8 w7 _ _ (by omega))).trans (((bc8 bel7).1 _ _ (by omega)).trans B1)
       clear hK;replace hHeld10:=hHeld10 (by decide);refine onE 11 rfl fun K hK=>?_;refine step_append_src _ (by rfl) _ _ _ (by rfl) wr.heap.size 96 i0 _ 2 32 Tryz.underlying58 fi f0 f1 f2 rfl (by omega) v5 lo _ (by rfl) (oK8 hown7 fun b hb=>bA8 w7 _ _ (oL8 hown7 b hb).2) (.slice (some ⟨w7.heap.size,0,none⟩) 1 1) 1 [.slice a7 row.length c7,.int .i64 n] (by rfl) ⟨by rfl,.inr ⟨_,_,rfl,World.news_of_block (cs:=#[.slice a7 row.length c7,.int .i64 n]) (t:=96) (fr:=(0,0)) (heap_alloc_new w7 _)⟩⟩ (by simp[Value.oneCell']) (by simp only[maxLen];omega) (by omega) (by simp;omega) ?_;intro v11 w11 hown11 hgrow11 hat11;have hz11:=hgrow11.size;simp at hz11;have bel11:Below wr.heap.size wr w11:=Below.grown (bel7.alloc (by omega) _) hgrow11 (by simp;omega) (fun b hb=>(oL8 hown7 b hb).1);refine hK.out _ _ ?_ (fun hHeld11=>?_)
       ·intro _;exact((bc8 bel11).1 _ _ (by omega)).trans B1
       clear hK;replace hHeld11:=hHeld11 (by decide);refine onE 16 rfl fun K hK=>?_;refine step_append_src _ (by rfl) _ _ _ (by rfl) wr.heap.size 96 i0 _ 2 32 Tryz.underlying58 fi f0 f1 f2 rfl (by omega) v11 (lo+1) _ (by rfl) hown11 _ (cs.length -lo) _ (by rfl) (by have hsr:=hB1.src3 (k:=lo) bel11 (by omega);rw[if_pos rfl,Nat.sub_self]at hsr;exact hsr) (cc_one fun u hu=>hB1.one u (List.mem_of_mem_drop hu)) (by simp only[maxLen];omega) (by omega) (by omega) ?_;intro v16 w16 hown16 hgrow16 hat16;have hz16:=hgrow16.size;obtain⟨a16,c16,rfl⟩:=own_shapeX hown16;have bel16:Below wr.heap.size wr w16:=Below.grown bel11 hgrow16 (by omega) (fun b hb=>(oL8 hown11 b hb).1);have hv11:∀b,v11.ownBlock=some b→b∉g7:=by
        intro b hb hm;have h1:=hO7.2.1 b hm;have h2:=hR7l b hm;rcases hat11 with h|h
        ·have:=(oL8 hown5 b (h.symm.trans hb)).2;omega
        ·rw[h]at hb;have:=Option.some.inj hb;simp at this;omega
       have hv16:∀b,(Value.slice a16 (lo+1+(cs.length -lo)) c16).ownBlock=some b→b∉g7:=by
        intro b hb hm;have h2:=hR7l b hm;rcases hat16 with h|h
        ·exact hv11 b (h.symm.trans hb) hm
        ·rw[h]at hb;have:=Option.some.inj hb;omega
       have hk16:∀b,b<wr.heap.size∨b∈g7→w16.heap[b]?=w7.heap[b]?:=by
        intro b hb;rcases hb with hb|hb
        ·exact(bel16.block b hb).trans (bel7.block b hb).symm
        ·have h1:=hO7.2.1 b hb;have h2:=hR7l b hb;refine(hgrow16.block b (by omega) (fun e=>hv11 b e.symm hb)).trans ((hgrow11.block b (by simp;omega) (fun e=>?_)).trans (bA8 w7 _ _ h2));have:=(oL8 hown5 b e.symm).2;omega
       have hBc:=hB1.put (x:=⟨row,n⟩) (by omega) bel7 hR7 ⟨hO7.1,fun b hb=>Nat.le_trans bel5.size (hO7.2.1 b hb),hO7.2.2⟩ hk16 (by omega) (k:=lo) (by omega) (Nat.le_refl _) hv16 hown16;have B016:=((bc8 bel16).1 w.heap.size 0 (by omega)).trans B0;have B116:=((bc8 bel16).1 w.heap.size 1 (by omega)).trans B1;have BF16:∀q,w16.frozen? ⟨w.heap.size,q,none⟩=false:=fun q=>((bc8 bel16).2 w.heap.size q (by omega)).trans (BF q);have T016:=((bc8 bel16).1 (w.heap.size+1) 0 (by omega)).trans T0;have T116:=((bc8 bel16).1 (w.heap.size+1) 1 (by omega)).trans T1;have TF16:∀q,w16.frozen? ⟨w.heap.size+1,q,none⟩=false:=fun q=>((bc8 bel16).2 (w.heap.size+1) q (by omega)).trans (TF q);refine hK.out _ _ ?_ (fun hHeld16=>?_)
       ·intro _;exact B116
       clear hK;replace hHeld16:=hHeld16 (by decide);refine tkE 17 98 rfl rfl ?_;refine onE 18 rfl fun K hK=>?_;go_simp;refine hK.out _ _ ?_ (fun hHeld18=>?_)
       ·exact fun h=>absurd rfl h
       clear hK hHeld18;refine doneE (by kernel_rfl) ?_ _;have belw:Below w.heap.size w w16:=hbw1.trans (bel16.mono hbw1.size);clear hB hB1 hc hA hr0;go_wp2;all_goals
        refine bodyPost_ret (v:=.agg #[.int .i64 wd,.slice a16 (lo+1+(cs.length -lo)) c16]) (by simp[results,Tryz.results75,go_sem, *]) rfl (PutOut.of_below (us':=us.take lo++ .slice a7 row.length c7::us.drop lo) (G':=G.take lo++g7::G.drop lo) ?_ (fun b hb h=>?_) (fun b hb h=>?_) ?_ hN)
        ·rw[hPn.out];refine hBc.keepO (by simp) (fun b hvb=>?_) fun b hgb=>?_
         ·have:=(oL8 hown16 b hvb).1;exact(bS8 _ _ _ _ (by show b≠w.heap.size+1;omega)).trans ((bS8 _ _ _ _ (by show b≠w.heap.size+1;omega)).trans (bS8 _ _ _ _ (by show b≠w.heap.size;omega)))
         ·have:b<w.heap.size∨w.heap.size+1<b:=(put_mem hgb).elim (fun h=> .inl (hGl b h)) (fun h=> .inr (by have:=hO7.2.1 b h;omega));exact(bS8 _ _ _ _ (by show b≠w.heap.size+1;omega)).trans ((bS8 _ _ _ _ (by show b≠w.heap.size+1;omega)).trans (bS8 _ _ _ _ (by show b≠w.heap.size;omega)))
        ·have:=(oL8 hown16 b h).1;omega
        ·exact(put_mem h).elim id (fun h=>absurd (hO7.2.1 b h) (by omega))
        ·repeat (first|(with_reducible exact belw)|(with_reducible refine Below.setCell ?_ ?hh _;case hh=>(simp;try omega)))
      ·go_wp2_with fail;obtain⟨i0,fi,f0,f1,f2⟩:=info_parts Tryz.infoCnt;refine startE 18 (fun w'=>w'.cell? ⟨w.heap.size,1,none⟩=some (.slice (some ⟨g,0,none⟩) cs.length cv)) (by kernel_rfl) ?_ (fun hHeld=>?_)
       ·exact B1
       refine tkE 1 82 rfl rfl ?_;refine tkE 2 83 rfl rfl ?_;refine tkE 3 84 rfl rfl ?_;refine tkE 4 85 rfl rfl ?_;refine tkE 6 87 rfl rfl ?_;refine tkE 8 89 rfl rfl ?_;refine tkE 12 93 rfl rfl ?_;refine tkE 13 94 rfl rfl ?_;refine tkE 14 95 rfl rfl ?_;refine tkE 15 96 rfl rfl ?_;refine onE 0 rfl fun K hK=>?_;go_simp;refine hK.out _ _ ?_ (fun hHeld0=>?_)
       ·intro _;exact(cb8 (bA8 wr _ _ (by omega))).trans B1
       clear hK;replace hHeld0:=hHeld0 (by decide);refine onE 5 rfl fun K hK=>?_;refine step_append_src _ (by rfl) _ _ _ (by rfl) wr.heap.size 96 i0 _ 2 32 Tryz.underlying58 fi f0 f1 f2 rfl (by omega) (.slice (some ⟨wr.heap.size,0,none⟩) 0 0) 0 [] (by rfl) (own_none (w:=wr) rfl (Nat.le_refl _) _ 2) (.slice (some ⟨g,0,none⟩) lo cv) lo _ (by rfl) (hB1.src1 bex (by omega)) (cc_one fun u hu=>hB1.one u (List.mem_of_mem_take hu)) (by simp only[maxLen];omega) (by omega) (by simp) ?_;intro v5 w5 hown5 hgrow5 hat5;rw[List.nil_append,Nat.zero_add]at hown5;have hz5:=hgrow5.size;simp at hz5;have bel5:Below wr.heap.size wr w5:=Below.grown (show Below wr.heap.size wr _ from bex) hgrow5 (by simp) (fun b hb=>by simp[Value.ownBlock]at hb;omega);refine hK.out _ _ ?_ (fun hHeld5=>?_)
       ·intro _;exact((bc8 bel5).1 _ _ (by omega)).trans B1
       clear hK;replace hHeld5:=hHeld5 (by decide);refine onE 7 rfl fun K hK=>?_;go_simp;go_at_call 72;refine cM8 (l02CopyRow_any (.slice ar row.length cr) row g0 _ (hr0.belowX (hbw1.trans (bel5.mono hbw1.size))) hrl) ?_;rintro e w7 ⟨⟨u7,g7,rfl,hR7,hO7⟩,hb7⟩;obtain⟨a7,c7,rfl⟩:=hR7.shapeX;have hz7:=hb7.size;have bel7:Below wr.heap.size wr w7:=bel5.trans (hb7.mono bel5.size);have hown7:=oK8 hown5 (fun b hb=>hb7.block b (oL8 hown5 b hb).2);have hR7l:=hR7.lt;try go_wp2_with fail
       refine hK.out _ _ ?_ (fun hHeld7=>?_)
       ·intro _;exact((bc8 bel7).1 _ _ (by omega)).trans B1
       clear hK;replace hHeld7:=hHeld7 (by decide);refine tkE 9 90 rfl rfl ?_;refine onE 10 rfl fun K hK=>?_;go_simp;refine hK.out _ _ ?_ (fun hHeld10=>?_)
       ·intro _;exact(cb8 (bA8 w7 _ _ (by omega))).trans (((bc8 bel7).1 _ _ (by omega)).trans B1)
       clear hK;replace hHeld10:=hHeld10 (by decide);refine onE 11 rfl fun K hK=>?_;refine step_append_src _ (by rfl) _ _ _ (by rfl) wr.heap.size 96 i0 _ 2 32 Tryz.underlying58 fi f0 f1 f2 rfl (by omega) v5 lo _ (by rfl) (oK8 hown7 fun b hb=>bA8 w7 _ _ (oL8 hown7 b hb).2) (.slice (some ⟨w7.heap.size,0,none⟩) 1 1) 1 [.slice a7 row.length c7,.int .i64 n] (by rfl) ⟨by rfl,.inr ⟨_,_,rfl,World.news_of_block (cs:=#[.slice a7 row.length c7,.int .i64 n]) (t:=96) (fr:=(0,0)) (heap_alloc_new w7 _)⟩⟩ (by simp[Value.oneCell']) (by simp only[maxLen];omega) (by omega) (by simp;omega) ?_;intro v11 w11 hown11 hgrow11 hat11;have hz11:=hgrow11.size;simp at hz11;have bel11:Below wr.heap.size wr w11:=Below.grown (bel7.alloc (by omega) _) hgrow11 (by simp;omega) (fun b hb=>(oL8 hown7 b hb).1);refine hK.out _ _ ?_ (fun hHeld11=>?_)
       ·intro _;exact((bc8 bel11).1 _ _ (by omega)).trans B1
       clear hK;replace hHeld11:=hHeld11 (by decide);refine onE 16 rfl fun K hK=>?_;refine step_append_src _ (by rfl) _ _ _ (by rfl) wr.heap.size 96 i0 _ 2 32 Tryz.underlying58 fi f0 f1 f2 rfl (by omega) v11 (lo+1) _ (by rfl) hown11 _ (cs.length -lo) _ (by rfl) (by have hsr:=hB1.src3 (k:=lo) bel11 (by omega);rw[if_neg hcl]at hsr;exact hsr) (cc_one fun u hu=>hB1.one u (List.mem_of_mem_drop hu)) (by simp only[maxLen];omega) (by omega) (by omega) ?_;intro v16 w16 hown16 hgrow16 hat16;have hz16:=hgrow16.size;obtain⟨a16,c16,rfl⟩:=own_shapeX hown16;have bel16:Below wr.heap.size wr w16:=Below.grown bel11 hgrow16 (by omega) (fun b hb=>(oL8 hown11 b hb).1);have hv11:∀b,v11.ownBlock=some b→b∉g7:=by
        intro b hb hm;have h1:=hO7.2.1 b hm;have h2:=hR7l b hm;rcases hat11 with h|h
        ·have:=(oL8 hown5 b (h.symm.trans hb)).2;omega
        ·rw[h]at hb;have:=Option.some.inj hb;simp at this;omega
       have hv16:∀b,(Value.slice a16 (lo+1+(cs.length -lo)) c16).ownBlock=some b→b∉g7:=by
        intro b hb hm;have h2:=hR7l b hm;rcases hat16 with h|h
        ·exact hv11 b (h.symm.trans hb) hm
        ·rw[h]at hb;have:=Option.some.inj hb;omega
       have hk16:∀b,b<wr.heap.size∨b∈g7→w16.heap[b]?=w7.heap[b]?:=by
        intro b hb;rcases hb with hb|hb
        ·exact(bel16.block b hb).trans (bel7.block b hb).symm
        ·have h1:=hO7.2.1 b hb;have h2:=hR7l b hb;refine(hgrow16.block b (by omega) (fun e=>hv11 b e.symm hb)).trans ((hgrow11.block b (by simp;omega) (fun e=>?_)).trans (bA8 w7 _ _ h2));have:=(oL8 hown5 b e.symm).2;omega
       have hBc:=hB1.put (x:=⟨row,n⟩) (by omega) bel7 hR7 ⟨hO7.1,fun b hb=>Nat.le_trans bel5.size (hO7.2.1 b hb),hO7.2.2⟩ hk16 (by omega) (k:=lo) (by omega) (Nat.le_refl _) hv16 hown16;have B016:=((bc8 bel16).1 w.heap.size 0 (by omega)).trans B0;have B116:=((bc8 bel16).1 w.heap.size 1 (by omega)).trans B1;have BF16:∀q,w16.frozen? ⟨w.heap.size,q,none⟩=false:=fun q=>((bc8 bel16).2 w.heap.size q (by omega)).trans (BF q);have T016:=((bc8 bel16).1 (w.heap.size+1) 0 (by omega)).trans T0;have T116:=((bc8 bel16).1 (w.heap.size+1) 1 (by omega)).trans T1;have TF16:∀q,w16.frozen? ⟨w.heap.size+1,q,none⟩=false:=fun q=>((bc8 bel16).2 (w.heap.size+1) q (by omega)).trans (TF q);refine hK.out _ _ ?_ (fun hHeld16=>?_)
       ·intro _;exact B116
       clear hK;replace hHeld16:=hHeld16 (by decide);refine tkE 17 98 rfl rfl ?_;refine onE 18 rfl fun K hK=>?_;go_simp;refine hK.out _ _ ?_ (fun hHeld18=>?_)
       ·exact fun h=>absurd rfl h
       clear hK hHeld18;refine doneE (by kernel_rfl) ?_ _;have belw:Below w.heap.size w w16:=hbw1.trans (bel16.mono hbw1.size);clear hB hB1 hc hA hr0;go_wp2;all_goals
        refine bodyPost_ret (v:=.agg #[.int .i64 wd,.slice a16 (lo+1+(cs.length -lo)) c16]) (by simp[results,Tryz.results75,go_sem, *]) rfl (PutOut.of_below (us':=us.take lo++ .slice a7 row.length c7::us.drop lo) (G':=G.take lo++g7::G.drop lo) ?_ (fun b hb h=>?_) (fun b hb h=>?_) ?_ hN)
        ·rw[hPn.out];refine hBc.keepO (by simp) (fun b hvb=>?_) fun b hgb=>?_
         ·have:=(oL8 hown16 b hvb).1;exact(bS8 _ _ _ _ (by show b≠w.heap.size+1;omega)).trans ((bS8 _ _ _ _ (by show b≠w.heap.size+1;omega)).trans (bS8 _ _ _ _ (by show b≠w.heap.size;omega)))
         ·have:b<w.heap.size∨w.heap.size+1<b:=(put_mem hgb).elim (fun h=> .inl (hGl b h)) (fun h=> .inr (by have:=hO7.2.1 b h;omega));exact(bS8 _ _ _ _ (by show b≠w.heap.size+1;omega)).trans ((bS8 _ _ _ _ (by show b≠w.heap.size+1;omega)).trans (bS8 _ _ _ _ (by show b≠w.heap.size;omega)))
        ·have:=(oL8 hown16 b h).1;omega
        ·exact(put_mem h).elim id (fun h=>absurd (hO7.2.1 b h) (by omega))
        ·repeat (first|(with_reducible exact belw)|(with_reducible refine Below.setCell ?_ ?hh _;case hh=>(simp;try omega)))
    ·have hPn:Hid (P=cs):=by rw[if_neg hn]at hPi;exact hPi
     have hn0':n=0:=by omega
     subst hn0';clear hPi hlo hP hx;go_wp2;refine bodyPost_ret (v:=.agg #[.int .i64 wd,.slice av cs.length cv]) (by simp[results,Tryz.results75,go_sem, *]) rfl (PutOut.of_below (us':=us) (G':=G) ?_ (fun _ _ h=>h) (fun _ _ h=>h) ?_ hN)
     ·rw[hPn.out];exact hB.below (by repeat (first|(with_reducible exact hb)|(with_reducible exact hbw1)|(with_reducible refine Below.setCell ?_ ?hh _;case hh=>(simp;try omega))))
     ·repeat (first|(with_reducible exact hb)|(with_reducible exact hbw1)|(with_reducible refine Below.setCell ?_ ?hh _;case hh=>(simp;try omega)))
   |some x=>
    obtain⟨g,cap,u,gg,hv,_,_,hgN,hgl,hu,hgg,c0,c1,hR,gf⟩:=hB.cellsX hx;injection hv with e1 _ e3;subst e1 e3;have hxl:lo<cs.length:=(gE1 hx).1;have hll2:decide ((lo:Int)<cs.length)=true:=by simp;omega
    have hxI:(lo:Int)<cs.length:=by omega
    have d0:=(hb.cell (p:=⟨g,_,none⟩) hgl).trans c0;have d1:=(hb.cell (p:=⟨g,_,none⟩) hgl).trans c1;have hgr:g<wr.heap.size:=by omega
    by_cases hcmp:cR8 x.r row=0
    ·have hPs:Hid (P=if n+x.n≠0 then cs.set lo ⟨x.r,n+x.n⟩else cs.take lo++cs.drop (lo+1)):=by show P=_;rw[←hP.out];unfold putC;rw[←hlo,hx];dsimp only;rw[if_pos hcmp]
     clear hlo hP;have hcb:(cR8 x.r row==0)=true:=by simpa using hcmp
     have hxn:=hc x (mg8 hx);go_wp2_with fail;refine cM8 (specRow_any u (.slice ar row.length cr) x.r row wr (hR.is.below hb) (hr0.is.below hb)) ?_;rintro z w1 ⟨rfl,hb1⟩;have hz1:=hb1.size;have hbw1:Below w.heap.size w w1:=hb.trans (hb1.mono hb.size);have B0:=((bc8 hb1).1 _ _ (show w.heap.size<wr.heap.size by omega)).trans b0;have B1:=((bc8 hb1).1 _ _ (show w.heap.size<wr.heap.size by omega)).trans b1;have BF:∀q,w1.frozen? ⟨w.heap.size,q,none⟩=false:=fun q=>((bc8 hb1).2 _ q (show w.heap.size<wr.heap.size by omega)).trans (bf q);have T0:=((bc8 hb1).1 _ _ hz).trans t0;have T1:=((bc8 hb1).1 _ _ hz).trans t1;have TF:∀q,w1.frozen? ⟨w.heap.size+1,q,none⟩=false:=fun q=>((bc8 hb1).2 _ q hz).trans (tf q);have D1:=((bc8 hb1).1 _ _ hgr).trans d1;have GF:∀q,w1.frozen? ⟨g,q,none⟩=false:=fun q=>((bc8 hb1).2 _ q hgr).trans (((bc8 hb).2 _ q hgl).trans (gf q));have hgr1:g<w1.heap.size:=by omega
     have hgb:g≠w.heap.size:=by omega
     have hgt:g≠w.heap.size+1:=by omega
     clear hb1 b0 b1 bf t0 t1 tf;by_cases hm:n+x.n≠0
     ·have hPn:Hid (P=cs.set lo ⟨x.r,n+x.n⟩):=by have h:=hPs.out;rw[if_pos hm]at h;exact h
      have hmb:(n+x.n !=0)=true:=by simpa using hm
      have hwr:wrap64 (n+x.n)=n+x.n:=by unfold wrap64;omega
      have hB1:=(hB.below hbw1).setN hx (n+x.n);have hGl:=hB.lt;clear hPs hx hB;go_wp2;refine bodyPost_ret (v:=.agg #[.int .i64 wd,.slice (some ⟨g,0,none⟩) cs.length cv]) (by simp[results,Tryz.results75,go_sem, *]) rfl ⟨_,us,G,rfl,?_,fun _ _ h=>h,fun _ _ h=>h,?_,?_⟩
      ·rw[hPn.out];refine hB1.keepO (by simp) (fun b hvb=>?_) fun b hgb=>?_
       ·cases hvb;exact(bS8 _ _ _ _ (by show g≠w.heap.size+1;omega)).trans (bS8 _ _ _ _ (by show g≠w.heap.size+1;omega))
       ·have:=hGl b hgb;exact(bS8 _ _ _ _ (by show b≠w.heap.size+1;omega)).trans (bS8 _ _ _ _ (by show b≠w.heap.size+1;omega))
      ·repeat (first|(with_reducible exact hbw1.mono hN)|(with_reducible refine Below.setCell ?_ ?hh _;case hh=>(simp;try omega)))
      ·exact grown_cell (grown_cell (grown_set hbw1 g _ _) (by simp) _) (by simp) _
     ·have hPn:Hid (P=cs.take lo++cs.drop (lo+1)):=by have h:=hPs.out;rw[if_neg hm]at h;exact h
      have hmb:(n+x.n !=0)=false:=by simpa using hm
      have hm0:n+x.n=0:=by omega
      have hwr:wrap64 (n+x.n)=n+x.n:=by unfold wrap64;omega
      have hlc:lo≤cv:=by omega
      have hwI:IntKind.i64.wrap ((lo:Int)+1)=(lo:Int)+1:=by rw[IntKind.wrap_i64];omega
      have hI0:(0:Int)≤(lo:Int)+1:=by omega
      have hI1:(lo:Int)+1≤cs.length:=by omega
      have hTn:((lo:Int)+1).toNat=lo+1:=by omega
      have hB1:=hB.below hbw1;have hGl:=hB.lt;clear hPs;go_wp2_with fail;obtain⟨i0,fi,f0,f1,f2⟩:=info_parts Tryz.infoCnt;refine startE 13 (fun w'=>w'.cell? ⟨w.heap.size,1,none⟩=some (.slice (some ⟨g,0,none⟩) cs.length cv)) (by kernel_rfl) ?_ (fun hHeld=>?_)
      ·exact B1
      refine tkE 1 66 rfl rfl ?_;refine tkE 2 67 rfl rfl ?_;refine tkE 3 68 rfl rfl ?_;refine tkE 4 69 rfl rfl ?_;refine tkE 6 71 rfl rfl ?_;refine tkE 7 72 rfl rfl ?_;refine tkE 8 73 rfl rfl ?_;refine tkE 9 74 rfl rfl ?_;refine tkE 10 75 rfl rfl ?_;refine onE 0 rfl fun K hK=>?_;go_simp;refine hK.out _ _ ?_ (fun hHeld0=>?_)
      ·intro _;exact(cb8 (bA8 w1 _ _ (by omega))).trans B1
      clear hK;replace hHeld0:=hHeld0 (by decide);refine onE 5 rfl fun K hK=>?_;refine step_append_src _ (by rfl) _ _ _ (by rfl) w1.heap.size 96 i0 _ 2 32 Tryz.underlying58 fi f0 f1 f2 rfl (by omega) (.slice (some ⟨w1.heap.size,0,none⟩) 0 0) 0 [] (by rfl) (own_none (w:=w1) rfl (Nat.le_refl _) _ 2) (.slice (some ⟨g,0,none⟩) lo cv) lo _ (by rfl) (hB1.src1 bex (by omega)) (cc_one fun u hu=>hB1.one u (List.mem_of_mem_take hu)) (by simp only[maxLen];omega) (by omega) (by simp) ?_;intro v5 w5 hown5 hgrow5 hat5;rw[List.nil_append,Nat.zero_add]at hown5;have hz5:=hgrow5.size;simp at hz5;have bel5:Below w1.heap.size w1 w5:=Below.grown (show Below w1.heap.size w1 _ from bex) hgrow5 (by simp) (fun b hb=>by simp[Value.ownBlock]at hb;omega);refine hK.out _ _ ?_ (fun hHeld5=>?_)
      ·intro _;exact((bc8 bel5).1 _ _ (by omega)).trans B1
      clear hK;replace hHeld5:=hHeld5 (by decide);refine onE 11 rfl fun K hK=>?_;refine step_append_src _ (by rfl) _ _ _ (by rfl) w1.heap.size 96 i0 _ 2 32 Tryz.underlying58 fi f0 f1 f2 rfl (by omega) v5 lo _ (by rfl) hown5 _ (cs.length - (lo+1)) _ (by rfl) (hB1.src3 bel5 (by omega)) (cc_one fun u hu=>hB1.one u (List.mem_of_mem_drop hu)) (by simp only[maxLen];omega) (by omega) (by omega) ?_;intro v11 w11 hown11 hgrow11 hat11;have hz11:=hgrow11.size;obtain⟨a11,c11,rfl⟩:=own_shapeX hown11;have bel11:Below w1.heap.size w1 w11:=Below.grown bel5 hgrow11 (by omega) (fun b hb=>(oL8 hown5 b hb).1);have hBc:=hB1.cut (by omega) bel11 hxl (Nat.le_refl _) hown11;have B011:=((bc8 bel11).1 w.heap.size 0 (by omega)).trans B0;have B111:=((bc8 bel11).1 w.heap.size 1 (by omega)).trans B1;have BF11:∀q,w11.frozen? ⟨w.heap.size,q,none⟩=false:=fun q=>((bc8 bel11).2 w.heap.size q (by omega)).trans (BF q);have T011:=((bc8 bel11).1 (w.heap.size+1) 0 (by omega)).trans T0;have T111:=((bc8 bel11).1 (w.heap.size+1) 1 (by omega)).trans T1;have TF11:∀q,w11.frozen? ⟨w.heap.size+1,q,none⟩=false:=fun q=>((bc8 bel11).2 (w.heap.size+1) q (by omega)).trans (TF q);refine hK.out _ _ ?_ (fun hHeld11=>?_)
      ·intro _;exact B111
      clear hK;replace hHeld11:=hHeld11 (by decide);refine tkE 12 77 rfl rfl ?_;refine onE 13 rfl fun K hK=>?_;go_simp;refine hK.out _ _ ?_ (fun hHeld13=>?_)
      ·exact fun h=>absurd rfl h
      clear hK hHeld13;refine doneE (by kernel_rfl) ?_ _;have belw:Below w.heap.size w w11:=hbw1.trans (bel11.mono hbw1.size);clear hB hB1 hc hA hr0;go_wp2;all_goals
       refine bodyPost_ret (v:=.agg #[.int .i64 wd,.slice a11 (lo+(cs.length - (lo+1))) c11]) (by simp[results,Tryz.results75,go_sem, *]) rfl (PutOut.of_below (us':=us.take lo++us.drop (lo+1)) (G':=G.take lo++G.drop (lo+1)) ?_ (fun b hb h=>?_) (fun b hb h=>?_) ?_ hN)
       ·rw[hPn.out];refine hBc.keepO (by simp) (fun b hvb=>?_) fun b hgb=>?_
        ·have:=(oL8 hown11 b hvb).1;exact(bS8 _ _ _ _ (by show b≠w.heap.size+1;omega)).trans ((bS8 _ _ _ _ (by show b≠w.heap.size+1;omega)).trans (bS8 _ _ _ _ (by show b≠w.heap.size;omega)))
        ·have:=hGl b (cut_mem hgb);exact(bS8 _ _ _ _ (by show b≠w.heap.size+1;omega)).trans ((bS8 _ _ _ _ (by show b≠w.heap.size+1;omega)).trans (bS8 _ _ _ _ (by show b≠w.heap.size;omega)))
       ·have:=(oL8 hown11 b h).1;omega
       ·exact cut_mem h
       ·repeat (first|(with_reducible exact belw)|(with_reducible refine Below.setCell ?_ ?hh _;case hh=>(simp;try omega)))
    ·have hPi:Hid (P=if n≠0 then cs.take lo++(⟨row,n⟩:C2)::cs.drop lo else cs):=by show P=_;rw[←hP.out];unfold putC;rw[←hlo,hx];dsimp only;rw[if_neg hcmp]
     clear hlo hP;have hcb:(cR8 x.r row==0)=false:=by simpa using hcmp
     by_cases hn:n≠0
     ·have hPn:Hid (P=cs.take lo++(⟨row,n⟩:C2)::cs.drop lo):=by have h:=hPi.out;rw[if_pos hn]at h;exact h
      have hlc:lo≤cv:=by omega
      have hI1:(lo:Int)≤cs.length:=by omega
      have hI2:lo≤cs.length:=by omega
      have hnb:(n !=0)=true:=by simpa using hn
      have hGl:=hB.lt;clear hPi hx;go_wp2_with fail;refine cM8 (specRow_any u (.slice ar row.length cr) x.r row wr (hR.is.below hb) (hr0.is.below hb)) ?_;rintro z w1 ⟨rfl,hb1⟩;have hz1:=hb1.size;have hbw1:Below w.heap.size w w1:=hb.trans (hb1.mono hb.size);have B0:=((bc8 hb1).1 _ _ (show w.heap.size<wr.heap.size by omega)).trans b0;have B1:=((bc8 hb1).1 _ _ (show w.heap.size<wr.heap.size by omega)).trans b1;have BF:∀q,w1.frozen? ⟨w.heap.size,q,none⟩=false:=fun q=>((bc8 hb1).2 _ q (show w.heap.size<wr.heap.size by omega)).trans (bf q);have T0:=((bc8 hb1).1 _ _ hz).trans t0;have T1:=((bc8 hb1).1 _ _ hz).trans t1;have TF:∀q,w1.frozen? ⟨w.heap.size+1,q,none⟩=false:=fun q=>((bc8 hb1).2 _ q hz).trans (tf q);have D1:=((bc8 hb1).1 _ _ hgr).trans d1;have GF:∀q,w1.frozen? ⟨g,q,none⟩=false:=fun q=>((bc8 hb1).2 _ q hgr).trans (((bc8 hb).2 _ q hgl).trans (gf q));have hgr1:g<w1.heap.size:=by omega
      have hgb:g≠w.heap.size:=by omega
      have hgt:g≠w.heap.size+1:=by omega
      clear hb1 b0 b1 bf t0 t1 tf;have hB1:=hB.below hbw1;go_wp2_with fail;obtain⟨i0,fi,f0,f1,f2⟩:=info_parts Tryz.infoCnt;refine startE 18 (fun w'=>w'.cell? ⟨w.heap.size,1,none⟩=some (.slice (some ⟨g,0,none⟩) cs.length cv)) (by kernel_rfl) ?_ (fun hHeld=>?_)
      ·exact B1
      refine tkE 1 82 rfl rfl ?_;refine tkE 2 83 rfl rfl ?_;refine tkE 3 84 rfl rfl ?_;refine tkE 4 85 rfl rfl ?_;refine tkE 6 87 rfl rfl ?_;refine tkE 8 89 rfl rfl ?_;refine tkE 12 93 rfl rfl ?_;refine tkE 13 94 rfl rfl ?_;refine tkE 14 95 rfl rfl ?_;refine tkE 15 96 rfl rfl ?_;refine onE 0 rfl fun K hK=>?_;go_simp;refine hK.out _ _ ?_ (fun hHeld0=>?_)
      ·intro _;exact(cb8 (bA8 w1 _ _ (by omega))).trans B1
      clear hK;replace hHeld0:=hHeld0 (by decide);refine onE 5 rfl fun K hK=>?_;refine step_append_src _ (by rfl) _ _ _ (by rfl) w1.heap.size 96 i0 _ 2 32 Tryz.underlying58 fi f0 f1 f2 rfl (by omega) (.slice (some ⟨w1.heap.size,0,none⟩) 0 0) 0 [] (by rfl) (own_none (w:=w1) rfl (Nat.le_refl _) _ 2) (.slice (some ⟨g,0,none⟩) lo cv) lo _ (by rfl) (hB1.src1 bex (by omega)) (cc_one fun u hu=>hB1.one u (List.mem_of_mem_take hu)) (by simp only[maxLen];omega) (by omega) (by simp) ?_;intro v5 w5 hown5 hgrow5 hat5;rw[List.nil_append,Nat.zero_add]at hown5;have hz5:=hgrow5.size;simp at hz5;have bel5:Below w1.heap.size w1 w5:=Below.grown (show Below w1.heap.size w1 _ from bex) hgrow5 (by simp) (fun b hb=>by simp[Value.ownBlock]at hb;omega);refine hK.out _ _ ?_ (fun hHeld5=>?_)
      ·intro _;exact((bc8 bel5).1 _ _ (by omega)).trans B1
      clear hK;replace hHeld5:=hHeld5 (by decide);refine onE 7 rfl fun K hK=>?_;go_simp;go_at_call 72;refine cM8 (l02CopyRow_any (.slice ar row.length cr) row g0 _ (hr0.belowX (hbw1.trans (bel5.mono hbw1.size))) hrl) ?_;rintro e w7 ⟨⟨u7,g7,rfl,hR7,hO7⟩,hb7⟩;obtain⟨a7,c7,rfl⟩:=hR7.shapeX;have hz7:=hb7.size;have bel7:Below w1.heap.size w1 w7:=bel5.trans (hb7.mono bel5.size);have hown7:=oK8 hown5 (fun b hb=>hb7.block b (oL8 hown5 b hb).2);have hR7l:=hR7.lt;try go_wp2_with fail
      refine hK.out _ _ ?_ (fun hHeld7=>?_)
      ·intro _;exact((bc8 bel7).1 _ _ (by omega)).trans B1
      clear hK;replace hHeld7:=hHeld7 (by decide);refine tkE 9 90 rfl rfl ?_;refine onE 10 rfl fun K hK=>?_;go_simp;refine hK.out _ _ ?_ (fun hHeld10=>?_)
      ·intro _;exact(cb8 (bA8 w7 _ _ (by omega))).trans (((bc8 bel7).1 _ _ (by omega)).trans B1)
      clear hK;replace hHeld10:=hHeld10 (by decide);refine onE 11 rfl fun K hK=>?_;refine step_append_src _ (by rfl) _ _ _ (by rfl) w1.heap.size 96 i0 _ 2 32 Tryz.underlying58 fi f0 f1 f2 rfl (by omega) v5 lo _ (by rfl) (oK8 hown7 fun b hb=>bA8 w7 _ _ (oL8 hown7 b hb).2) (.slice (some ⟨w7.heap.size,0,none⟩) 1 1) 1 [.slice a7 row.length c7,.int .i64 n] (by rfl) ⟨by rfl,.inr ⟨_,_,rfl,World.news_of_block (cs:=#[.slice a7 row.length c7,.int .i64 n]) (t:=96) (fr:=(0,0)) (heap_alloc_new w7 _)⟩⟩ (by simp[Value.oneCell']) (by simp only[maxLen];omega) (by omega) (by simp;omega) ?_;intro v11 w11 hown11 hgrow11 hat11;have hz11:=hgrow11.size;simp at hz11;have bel11:Below w1.heap.size w1 w11:=Below.grown (bel7.alloc (by omega) _) hgrow11 (by simp;omega) (fun b hb=>(oL8 hown7 b hb).1);refine hK.out _ _ ?_ (fun hHeld11=>?_)
      ·intro _;exact((bc8 bel11).1 _ _ (by omega)).trans B1
      clear hK;replace hHeld11:=hHeld11 (by decide);refine onE 16 rfl fun K hK=>?_;refine step_append_src _ (by rfl) _ _ _ (by rfl) w1.heap.size 96 i0 _ 2 32 Tryz.underlying58 fi f0 f1 f2 rfl (by omega) v11 (lo+1) _ (by rfl) hown11 _ (cs.length -lo) _ (by rfl) (by have hsr:=hB1.src3 (k:=lo) bel11 (by omega);rw[if_neg (by omega)]at hsr;exact hsr) (cc_one fun u hu=>hB1.one u (List.mem_of_mem_drop hu)) (by simp only[maxLen];omega) (by omega) (by omega) ?_;intro v16 w16 hown16 hgrow16 hat16;have hz16:=hgrow16.size;obtain⟨a16,c16,rfl⟩:=own_shapeX hown16;have bel16:Below w1.heap.size w1 w16:=Below.grown bel11 hgrow16 (by omega) (fun b hb=>(oL8 hown11 b hb).1);have hv11:∀b,v11.ownBlock=some b→b∉g7:=by
       intro b hb hm;have h1:=hO7.2.1 b hm;have h2:=hR7l b hm;rcases hat11 with h|h
       ·have:=(oL8 hown5 b (h.symm.trans hb)).2;omega
       ·rw[h]at hb;have:=Option.some.inj hb;simp at this;omega
      have hv16:∀b,(Value.slice a16 (lo+1+(cs.length -lo)) c16).ownBlock=some b→b∉g7:=by
       intro b hb hm;have h2:=hR7l b hm;rcases hat16 with h|h
       ·exact hv11 b (h.symm.trans hb) hm
       ·rw[h]at hb;have:=Option.some.inj hb;omega
      have hk16:∀b,b<w1.heap.size∨b∈g7→w16.heap[b]?=w7.heap[b]?:=by
       intro b hb;rcases hb with hb|hb
       ·exact(bel16.block b hb).trans (bel7.block b hb).symm
       ·have h1:=hO7.2.1 b hb;have h2:=hR7l b hb;refine(hgrow16.block b (by omega) (fun e=>hv11 b e.symm hb)).trans ((hgrow11.block b (by simp;omega) (fun e=>?_)).trans (bA8 w7 _ _ h2));have:=(oL8 hown5 b e.symm).2;omega
      have hBc:=hB1.put (x:=⟨row,n⟩) (by omega) bel7 hR7 ⟨hO7.1,fun b hb=>Nat.le_trans bel5.size (hO7.2.1 b hb),hO7.2.2⟩ hk16 (by omega) (k:=lo) (by omega) (Nat.le_refl _) hv16 hown16;have B016:=((bc8 bel16).1 w.heap.size 0 (by omega)).trans B0;have B116:=((bc8 bel16).1 w.heap.size 1 (by omega)).trans B1;have BF16:∀q,w16.frozen? ⟨w.heap.size,q,none⟩=false:=fun q=>((bc8 bel16).2 w.heap.size q (by omega)).trans (BF q);have T016:=((bc8 bel16).1 (w.heap.size+1) 0 (by omega)).trans T0;have T116:=((bc8 bel16).1 (w.heap.size+1) 1 (by omega)).trans T1;have TF16:∀q,w16.frozen? ⟨w.heap.size+1,q,none⟩=false:=fun q=>((bc8 bel16).2 (w.heap.size+1) q (by omega)).trans (TF q);refine hK.out _ _ ?_ (fun hHeld16=>?_)
      ·intro _;exact B116
      clear hK;replace hHeld16:=hHeld16 (by decide);refine tkE 17 98 rfl rfl ?_;refine onE 18 rfl fun K hK=>?_;go_simp;refine hK.out _ _ ?_ (fun hHeld18=>?_)
      ·exact fun h=>absurd rfl h
      clear hK hHeld18;refine doneE (by kernel_rfl) ?_ _;have belw:Below w.heap.size w w16:=hbw1.trans (bel16.mono hbw1.size);clear hB hB1 hc hA hr0;go_wp2;all_goals
       refine bodyPost_ret (v:=.agg #[.int .i64 wd,.slice a16 (lo+1+(cs.length -lo)) c16]) (by simp[results,Tryz.results75,go_sem, *]) rfl (PutOut.of_below (us':=us.take lo++ .slice a7 row.length c7::us.drop lo) (G':=G.take lo++g7::G.drop lo) ?_ (fun b hb h=>?_) (fun b hb h=>?_) ?_ hN)
       ·rw[hPn.out];refine hBc.keepO (by simp) (fun b hvb=>?_) fun b hgb=>?_
        ·have:=(oL8 hown16 b hvb).1;exact(bS8 _ _ _ _ (by show b≠w.heap.size+1;omega)).trans ((bS8 _ _ _ _ (by show b≠w.heap.size+1;omega)).trans (bS8 _ _ _ _ (by show b≠w.heap.size;omega)))
        ·have:b<w.heap.size∨w.heap.size+1<b:=(put_mem hgb).elim (fun h=> .inl (hGl b h)) (fun h=> .inr (by have:=hO7.2.1 b h;omega));exact(bS8 _ _ _ _ (by show b≠w.heap.size+1;omega)).trans ((bS8 _ _ _ _ (by show b≠w.heap.size+1;omega)).trans (bS8 _ _ _ _ (by show b≠w.heap.size;omega)))
       ·have:=(oL8 hown16 b h).1;omega
       ·exact(put_mem h).elim id (fun h=>absurd (hO7.2.1 b h) (by omega))
       ·repeat (first|(with_reducible exact belw)|(with_reducible refine Below.setCell ?_ ?hh _;case hh=>(simp;try omega)))
     ·have hPn:Hid (P=cs):=by have h:=hPi.out;rw[if_neg hn]at h;exact h
      have hn0':n=0:=by omega
      subst hn0';clear hPi hx;go_wp2_with fail;refine cM8 (specRow_any u (.slice ar row.length cr) x.r row wr (hR.is.below hb) (hr0.is.below hb)) ?_;rintro z w1 ⟨rfl,hb1⟩;have hz1:=hb1.size;have hbw1:Below w.heap.size w w1:=hb.trans (hb1.mono hb.size);have B0:=((bc8 hb1).1 _ _ (show w.heap.size<wr.heap.size by omega)).trans b0;have B1:=((bc8 hb1).1 _ _ (show w.heap.size<wr.heap.size by omega)).trans b1;have BF:∀q,w1.frozen? ⟨w.heap.size,q,none⟩=false:=fun q=>((bc8 hb1).2 _ q (show w.heap.size<wr.heap.size by omega)).trans (bf q);have T0:=((bc8 hb1).1 _ _ hz).trans t0;have T1:=((bc8 hb1).1 _ _ hz).trans t1;have TF:∀q,w1.frozen? ⟨w.heap.size+1,q,none⟩=false:=fun q=>((bc8 hb1).2 _ q hz).trans (tf q);have D1:=((bc8 hb1).1 _ _ hgr).trans d1;have GF:∀q,w1.frozen? ⟨g,q,none⟩=false:=fun q=>((bc8 hb1).2 _ q hgr).trans (((bc8 hb).2 _ q hgl).trans (gf q));have hgr1:g<w1.heap.size:=by omega
      have hgb:g≠w.heap.size:=by omega
      have hgt:g≠w.heap.size+1:=by omega
      clear hb1 b0 b1 bf t0 t1 tf;go_wp2;refine bodyPost_ret (v:=.agg #[.int .i64 wd,.slice (some ⟨g,0,none⟩) cs.length cv]) (by simp[results,Tryz.results75,go_sem, *]) rfl (PutOut.of_below (us':=us) (G':=G) ?_ (fun _ _ h=>h) (fun _ _ h=>h) ?_ hN)
      ·rw[hPn.out];exact hB.below (by repeat (first|(with_reducible exact hbw1)|(with_reducible refine Below.setCell ?_ ?hh _;case hh=>(simp;try omega))))
      ·repeat (first|(with_reducible exact hbw1)|(with_reducible refine Below.setCell ?_ ?hh _;case hh=>(simp;try omega)))
end
section
open Go.RowKit Go.Deep Go.ChangeShapes Go.WideShapes
theorem l02Sum_any (W Wb n:Int)(va vb:Value)(cs ds:List C2)(F F2:List Nat)(w:World)(ha:RowsF w va cs F)(hb:RowsF w vb ds F2)(hn:wtb cs≤1048576)(hn2:wtb ds≤1048576)(hA:Asc cs)(hz:∀c∈cs,c.n≠0)(hc:∀c∈cs,-1000000000000≤c.n∧c.n≤1000000000000) (hd:∀x∈ds,-1000000000000≤n*x.n∧n*x.n≤1000000000000) (P:List C2) (hP:Hid (sumC cs ds n=P)):Calls Tryz.prog 54 #[.agg #[.int .i64 W,va],.agg #[.int .i64 Wb,vb],.int .i64 n] w fun e w'=>(∃u us G,e=.returned (.agg #[.int .i64 W,u])∧BagOwn w' w.heap.size u P us G)∧Below w.heap.size w w':=by
 have ha':=ha;obtain⟨aa,ca,GA,rfl,_⟩:=ha';obtain⟨a,c,b,o,G0,rfl,hl,hcm,_,hG0,_,hC,hat⟩:=hb.pick;unfold maxLen at hcm;have hl1:cs.length≤1048576:=by unfold wtb at hn;omega
 have hl2:ds.length≤1048576:=by unfold wtb at hn2;omega
 go_enter Tryz.func54,Tryz.ntmps54;go_wp2_with fail;refine cM8 (l02Copy_any W _ cs F _ (ha.below ?hbb) hn) ?_
 case hbb=>exact bex
 rintro e w2 ⟨⟨u2,us2,G2,rfl,hB2⟩,hb2⟩;obtain⟨a2,c2,rfl⟩:=hB2.shape;have hz2:=hb2.size;simp at hz2;have hB2':BagOwn w2 (w.heap.size+1+1+1) (.slice a2 cs.length c2) cs us2 G2:=by simpa using hB2
 have bel2:Below w.heap.size w w2:=bex;have d0:w2.cell? ⟨w.heap.size+1,0,none⟩=some (.int .i64 Wb):=cL8 hb2 (by go_simp);have d1:w2.cell? ⟨w.heap.size+1,1,none⟩=some (.slice a ds.length c):=cL8 hb2 (by go_simp);have r0:w2.cell? ⟨w.heap.size+1+1,0,none⟩=some (.int .i64 0):=cL8 hb2 (by go_simp);have r1:w2.cell? ⟨w.heap.size+1+1,1,none⟩=some (.slice none 0 0):=cL8 hb2 (by go_simp);have rf:∀q,w2.frozen? ⟨w.heap.size+1+1,q,none⟩=false:=fun q=>((bc8 hb2).2 _ q (by simp)).trans (by go_simp);have hlt2:=hB2'.lt;have hol2:=oL8 hB2'.own;obtain⟨X,hX⟩:∃X,X=w2.heap.size:=⟨_,rfl⟩;clear hB2 hb2 hb ha;go_wp2_with fail;go_loopw [8] (fun i wr=> ∃ (k:Nat) (y:Value) (us:List Value) (G:List (List Nat)),k≤ds.length∧i=.int .i64 k∧wr.cell? ⟨w2.heap.size,0,none⟩=some (.int .i64 W)∧wr.cell? ⟨w2.heap.size,1,none⟩=some y∧(∀q,wr.frozen? ⟨w2.heap.size,q,none⟩=false)∧wr.cell? ⟨w.heap.size+1,0,none⟩=some (.int .i64 Wb)∧wr.cell? ⟨w.heap.size+1,1,none⟩=some (.slice a ds.length c)∧wr.cell? ⟨w.heap.size+1+1,0,none⟩=some (.int .i64 0)∧wr.cell? ⟨w.heap.size+1+1,1,none⟩=some (.slice none 0 0)∧(∀q,wr.frozen? ⟨w.heap.size+1+1,q,none⟩=false)∧BagOwn wr (w.heap.size+1+1+1) y (sumC cs (ds.take k) n) us G∧y.ownBlock≠some w2.heap.size∧w2.heap.size∉G.flatten∧Below w.heap.size w wr∧w2.heap.size<wr.heap.size) (fun i _=>ds.length - (intOf i).toNat)
 case atStart=>
  refine⟨0,.slice a2 cs.length c2,us2,G2,Nat.zero_le _,rfl,by go_simp,by go_simp,fun q=>by go_simp,(by go_simp;exact(cb8 (bA8 w2 _ _ (by omega))).trans d0),(by go_simp;exact(cb8 (bA8 w2 _ _ (by omega))).trans d1),(by go_simp;exact(cb8 (bA8 w2 _ _ (by omega))).trans r0),(by go_simp;exact(cb8 (bA8 w2 _ _ (by omega))).trans r1),fun q=>(by go_simp;exact(fb8 (bA8 w2 _ _ (by omega))).trans (rf q)),?_,fun e=>by have:=(hol2 _ e).2;omega,fun e=>by have:=hlt2 _ e;omega,bex,by simp⟩;rw[List.take_zero];exact hB2'.below bex
 case round=>
  obtain⟨k,y,us,G,hk,rfl,p0,p1,pf,d0,d1,r0,r1,rf,hB,hyX,hGX,hb,hzb⟩:=hrel;by_cases hlt:k<ds.length
  ·obtain⟨rfl,hblt,_⟩:=hat k hlt;obtain⟨x,u0,g0,hx,_,c0,hR,c1,hbr⟩:=hC.at hG0 hblt hb hlt;obtain⟨a0,n0,rfl⟩:=hR.shape;obtain⟨ay,cy,rfl⟩:=hB.shape;have hxd:=hd x (mg8 hx);have hxn:x.r.length≤1048576:=by have:=wt_mem (mg8 hx);unfold wt at this;unfold wtb at hn2;omega
   have hkI:(k:Int)<ds.length:=by omega
   have hwx:IntKind.i64.wrap (n*x.n)=n*x.n:=by rw[IntKind.wrap_i64];omega
   have hwx2:wrap64 (n*x.n)=n*x.n:=by unfold wrap64;omega
   have HT:Hid (sumC cs (ds.take (k+1)) n=putC (sumC cs (ds.take k) n) x.r (n*x.n)):=by show _=_;rw[take_snoc hx,sumC_snoc]
   obtain⟨hsl,hsb⟩:=sumC_bound (n:=n) (m:=1000000000000) (ds:=ds.take k) (fun c h=>hc c h) (by omega) (by omega) (fun y hy=>hd y (List.mem_of_mem_take hy));obtain⟨hsA,hsz,_⟩:=sumC_all (n:=n) (ds:=ds.take k) hA hz;have htl:(ds.take k).length≤1048576:=by simp;omega
   have hsb2:∀c∈sumC cs (ds.take k) n,-4000000000000000000≤c.n∧c.n≤4000000000000000000:=fun c h=>by have:=hsb c h;omega
   have hsl2:(sumC cs (ds.take k) n).length≤2097152:=by omega
   clear hsb hsl hsz htl;generalize sumC cs (ds.take k) n=ct at*;obtain⟨m,hm⟩:∃m,m=n*x.n:=⟨_,rfl⟩;clear hat hC hx hd hc;go_wp2_with fail;refine startE 16 (fun w'=>w'.cell? ⟨w2.heap.size,0,none⟩=some (.int .i64 W)∧w'.cell? ⟨w2.heap.size,1,none⟩=some (.slice ay ct.length cy)∧w'.cell? ⟨w.heap.size+1,1,none⟩=some (.slice (some ⟨b,o,none⟩) ds.length c)∧w'.cell? ⟨b,o+k*2,none⟩=some (.slice a0 x.r.length n0)∧w'.cell? ⟨b,o+k*2+1,none⟩=some (.int .i64 x.n)) (by kernel_rfl) ?_ (fun hHeld=>?_)
   ·exact⟨p0,p1,d1,c0,c1⟩
   refine tkE 0 18 rfl rfl ?_;refine tkE 1 19 rfl rfl ?_;refine tkE 2 20 rfl rfl ?_;refine tkE 3 21 rfl rfl ?_;refine tkE 4 22 rfl rfl ?_;refine tkE 5 23 rfl rfl ?_;refine tkE 6 24 rfl rfl ?_;refine tkE 7 25 rfl rfl ?_;refine tkE 8 26 rfl rfl ?_;refine tkE 9 27 rfl rfl ?_;refine tkE 10 28 rfl rfl ?_;refine tkE 11 29 rfl rfl ?_;refine tkE 12 30 rfl rfl ?_;refine tkE 13 31 rfl rfl ?_;refine tkE 14 32 rfl rfl ?_;refine onE 15 rfl fun K hK=>?_;go_simp;go_at_call 75;refine cM8 (l02Put_any W (n*x.n) (.slice ay ct.length cy) (.slice a0 x.r.length n0) ct us G x.r g0 (w.heap.size+1+1+1) _ (hB.below bex) (hR.below bex) hsA (by simp;omega) hsl2 hxn (by omega) (by omega) hsb2 _ rfl) ?_;rintro e w5 ⟨v5,us5,G5,rfl,hB5,hv5,hG5,hb5,hgr5⟩;obtain⟨a5,c5,rfl⟩:=hB5.shape;have hz5:=hb5.size;simp at hz5;have kX:w5.heap[w2.heap.size]?=wr.heap[w2.heap.size]?:=hgr5.block _ (by simp;omega) (fun e=>hyX e.symm);have kB:∀q,q<w.heap.size+1+1+1→w5.heap[q]?=wr.heap[q]?:=fun q hq=>hb5.block q hq;have p05:=(cb8 kX).trans p0;have p15:=(cb8 kX).trans p1;have pf5:∀q,w5.frozen? ⟨w2.heap.size,q,none⟩=false:=fun q=>(fb8 kX).trans (pf q);have d05:=(cb8 (kB (w.heap.size+1) (by omega))).trans d0;have d15:=(cb8 (kB (w.heap.size+1) (by omega))).trans d1;have r05:=(cb8 (kB (w.heap.size+1+1) (by omega))).trans r0;have r15:=(cb8 (kB (w.heap.size+1+1) (by omega))).trans r1;have rf5:∀q,w5.frozen? ⟨w.heap.size+1+1,q,none⟩=false:=fun q=>(fb8 (kB (w.heap.size+1+1) (by omega))).trans (rf q);have c05:=(cb8 (kB b (by omega))).trans c0
   have c15:=(cb8 (kB b (by omega))).trans c1;have hvX:(Value.slice a5 (putC ct x.r (n*x.n)).length c5).ownBlock≠some w2.heap.size:=fun e=>hyX (hv5 _ (by simp;omega) e);have hGX5:w2.heap.size∉G5.flatten:=fun e=>hGX (hG5 _ (by simp;omega) e);have bel5:Below w.heap.size w w5:=hb.trans ((show Below (w.heap.size+1+1+1) wr w5 from⟨hb5.os,hb5.tape,hb5.output,hb5.size,hb5.block⟩).mono (by omega))
   skip
   try go_wp2_with fail
   refine hK.out _ _ ?_ (fun hHeld15=>?_)
   ·intro _;exact⟨p05,p15,d15,c05,c15⟩
   clear hK;replace hHeld15:=hHeld15 (by decide);refine onE 16 rfl fun K hK=>?_;go_simp;refine hK.out _ _ ?_ (fun hHeld16=>?_)
   ·exact fun h=>absurd rfl h
   clear hK hHeld16;refine doneE (by kernel_rfl) ?_ _;have hBs:BagOwn ((w5.setCell ⟨w2.heap.size,0,none⟩ (.int .i64 W)).setCell ⟨w2.heap.size,1,none⟩ (.slice a5 (putC ct x.r (n*x.n)).length c5)) (w.heap.size+1+1+1) (.slice a5 (putC ct x.r (n*x.n)).length c5) (sumC cs (ds.take (k+1)) n) us5 G5:=by
    rw[HT.out];exact hB5.keepO (by simp) (fun b hb=>(bS8 _ _ _ _ (by rintro rfl;exact hvX hb)).trans (bS8 _ _ _ _ (by rintro rfl;exact hvX hb))) (fun b hb=>(bS8 _ _ _ _ (by rintro rfl;exact hGX5 hb)).trans (bS8 _ _ _ _ (by rintro rfl;exact hGX5 hb)))
   have P0:((w5.setCell ⟨w2.heap.size,0,none⟩ (.int .i64 W)).setCell ⟨w2.heap.size,1,none⟩ (.slice a5 (putC ct x.r (n*x.n)).length c5)).cell? ⟨w2.heap.size,0,none⟩=some (.int .i64 W):=(cO8 _ _ _ _ (by simp)).trans (cS8 _ _ _ p05);have P1:((w5.setCell ⟨w2.heap.size,0,none⟩ (.int .i64 W)).setCell ⟨w2.heap.size,1,none⟩ (.slice a5 (putC ct x.r (n*x.n)).length c5)).cell? ⟨w2.heap.size,1,none⟩=some (.slice a5 (putC ct x.r (n*x.n)).length c5):=cS8 _ _ _ ((cO8 _ _ _ _ (by simp)).trans p15);have PF:∀q,((w5.setCell ⟨w2.heap.size,0,none⟩ (.int .i64 W)).setCell ⟨w2.heap.size,1,none⟩ (.slice a5 (putC ct x.r (n*x.n)).length c5)).frozen? ⟨w2.heap.size,q,none⟩=false:=fun q=>by simpa using pf5 q
   have keep:∀b q,b<w2.heap.size→((w5.setCell ⟨w2.heap.size,0,none⟩ (.int .i64 W)).setCell ⟨w2.heap.size,1,none⟩ (.slice a5 (putC ct x.r (n*x.n)).length c5)).cell? ⟨b,q,none⟩=w5.cell? ⟨b,q,none⟩:=fun b q h=>(cO8 _ _ _ _ (by simp;try omega)).trans (cO8 _ _ _ _ (by simp;try omega));have D0:=(keep (w.heap.size+1) 0 (by omega)).trans d05;have D1:=(keep (w.heap.size+1) 1 (by omega)).trans d15;have R0:=(keep (w.heap.size+1+1) 0 (by omega)).trans r05;have R1:=(keep (w.heap.size+1+1) 1 (by omega)).trans r15;have RF:∀q,((w5.setCell ⟨w2.heap.size,0,none⟩ (.int .i64 W)).setCell ⟨w2.heap.size,1,none⟩ (.slice a5 (putC ct x.r (n*x.n)).length c5)).frozen? ⟨w.heap.size+1+1,q,none⟩=false:=fun q=>by simpa using rf5 q
   have belS:Below w.heap.size w ((w5.setCell ⟨w2.heap.size,0,none⟩ (.int .i64 W)).setCell ⟨w2.heap.size,1,none⟩ (.slice a5 (putC ct x.r (n*x.n)).length c5)):=(bel5.setCell (by simp;try omega) _).setCell (by simp;try omega) _;have hzS:w2.heap.size<((w5.setCell ⟨w2.heap.size,0,none⟩ (.int .i64 W)).setCell ⟨w2.heap.size,1,none⟩ (.slice a5 (putC ct x.r (n*x.n)).length c5)).heap.size:=by simp;omega
   clear hB hB5 hgr5 keep p05 p15 d05 d15 r05 r15 rf5 pf5 c05 c15 hsA hsb2 HT;go_wp2;exact⟨⟨k+1,_,_,_,hlt,by simp,P0,P1,PF,D0,D1,R0,R1,RF,hBs,hvX,hGX5,belS,hzS⟩,by simp[intOf];omega⟩
  ·obtain rfl:k=ds.length:=by omega
   rw[List.take_length,hP.out]at hB;obtain⟨ay,cy,rfl⟩:=hB.shape;clear hat hC hP;go_wp2;refine bodyPost_ret (v:=.agg #[.int .i64 W,.slice ay P.length cy]) (by simp[results,Tryz.results54,go_sem, *]) rfl ⟨⟨_,us,G,rfl,(hB.keep (by simp) fun b hb _=>?_).weak (by omega)⟩,?_⟩
   ·repeat rw[bS8 _ _ _ _ (by simp;omega)]
   ·repeat (first|(with_reducible exact hb)|(with_reducible refine Below.setCell ?_ ?hh _;case hh=>(simp;try omega)))
end
end Go.Proofs.YtflokiejcjjbiaaGreat
