/- Own texts, joined: contracts that the law's proof goes by. -/
import Derived.Test.YtjhhmnjpojnoiaaGreatDoorGLWithViews1
import Derived.Test.YtjhhmnjpojnoiaaGreatDoorGLWithViews3
import Derived.Handy
import Derived.Test.YtjhhmnjpojnoiaaGreatDoorGLWithViews5
import Derived.Deep.RegionHeld3
import Derived.Deep.DrawnRows
set_option maxHeartbeats 16000000
set_option maxRecDepth 100000
set_option linter.unusedVariables false
set_option linter.unusedSimpArgs false
namespace Go.Proofs.YtjhhmnjpojnoiaaGreatDoor
section
section
open Go.RowKit Go.Deep Go.ChangeShapes Go.WideShapes
structure R3 where
 s:ByteArray
 W:Int
 cs:List C2
def R3.wf (x:R3):Prop:=x.s.size≤maxLen∧(Lit.int .i64 x.W).wf=true∧CsWf x.cs
def RsWf (rs:List R3):Prop:=∀y∈rs,y.wf
def RLies (w:World)(b o:Nat)(rs:List R3):Prop:=
 ∀i x,rs[i]?=some x→∃v,w.cell? ⟨b,o+i*3,none⟩=some (.string x.s)∧w.cell? ⟨b,o+i*3+1,none⟩=some (.int .i64 x.W)∧w.cell? ⟨b,o+i*3+2,none⟩=some v∧RowsIs w v x.cs
def RelsIs (w:World)(v:Value)(rs:List R3):Prop:=
 ∃a c,v=.slice a rs.length c∧rs.length≤c∧c≤maxLen∧(rs≠ []→∃b o,a=some ⟨b,o,none⟩∧b<w.heap.size∧RLies w b o rs)
theorem RLies.below {w w':World}{b o:Nat}{rs:List R3}(h:RLies w b o rs)(hb:Below w.heap.size w w')(hN:b<w.heap.size):RLies w' b o rs:=fun i x hx=>by
 obtain⟨v,h0,h1,h2,h3⟩:=h i x hx;exact⟨v,(hb.cell (p:=⟨b,o+i*3,none⟩) hN).trans h0,(hb.cell (p:=⟨b,o+i*3+1,none⟩) hN).trans h1,(hb.cell (p:=⟨b,o+i*3+2,none⟩) hN).trans h2,h3.below hb⟩
theorem RelsIs.below {w w':World}{v:Value}{rs:List R3}(h:RelsIs w v rs)(hb:Below w.heap.size w w'):RelsIs w' v rs:=by
 obtain⟨a,c,rfl,hl,hc,h⟩:=h;refine⟨a,c,rfl,hl,hc,fun hne=>?_⟩;obtain⟨b,o,rfl,hlt,hL⟩:=h hne;exact⟨b,o,rfl,Nat.lt_of_lt_of_le hlt hb.size,hL.below hb hlt⟩
theorem RelsIs.shape {w:World}{v:Value}{rs:List R3}(h:RelsIs w v rs):∃a l c,v=.slice a l c:=by
 obtain⟨a,c,h,_⟩:=h;exact⟨a,_,c,h⟩
theorem RelsIs.pick {w:World}{v:Value}{rs:List R3}(h:RelsIs w v rs):∃a c b o,v=.slice a rs.length c∧rs.length≤c∧c≤maxLen∧∀k,k<rs.length→a=some ⟨b,o,none⟩∧b<w.heap.size∧RLies w b o rs:=by
 obtain⟨a,c,rfl,hl,hc,h⟩:=h;by_cases hne:rs=[]
 ·exact⟨a,c,0,0,rfl,hl,hc,fun k hk=>by rw[hne]at hk;simp at hk⟩
 ·obtain⟨b,o,h⟩:=h hne;exact⟨a,c,b,o,rfl,hl,hc,fun _ _=>h⟩
theorem RLies.at {w w':World}{b o:Nat}{rs:List R3}(h:RLies w b o rs)(hlt:b<w.heap.size)(hb:Below w.heap.size w w'){k:Nat}(hk:k<rs.length):∃x v,rs[k]?=some x∧w'.cell? ⟨b,o+k*3,none⟩=some (.string x.s)∧w'.cell? ⟨b,o+k*3+1,none⟩=some (.int .i64 x.W)∧w'.cell? ⟨b,o+k*3+2,none⟩=some v∧RowsIs w' v x.cs∧b<w'.heap.size:=by
 obtain⟨v,h0,h1,h2,h3⟩:=h.below hb hlt k rs[k] (by simp[hk]);exact⟨rs[k],v,by simp[hk],h0,h1,h2,h3,Nat.lt_of_lt_of_le hlt hb.size⟩
def wtr (x:R3):Nat:=x.s.size+wtb x.cs
def wtrs (rs:List R3):Nat:=(rs.map wtr).sum
def wtR (rs:List R3):Nat:=rs.length+wtrs rs
theorem wtrs_take {rs:List R3}{k:Nat}{x:R3}(h:rs[k]?=some x):wtrs (rs.take (k+1))=wtrs (rs.take k)+wtr x:=by
 unfold wtrs;obtain⟨hk,rfl⟩:=gE1 h;rw[List.take_succ_eq_append_getElem hk,List.map_append,List.sum_append];simp only[List.map_cons,List.map_nil,List.sum_cons,List.sum_nil,Nat.add_zero]
theorem wtr_mem {rs:List R3}{x:R3}(h:x∈rs):wtr x≤wtrs rs:=by
 unfold wtrs;induction rs with
 |nil=>cases h
 |cons y ys ih=>
  simp only[List.map_cons,List.sum_cons];rcases List.mem_cons.1 h with rfl|h
  ·omega
  ·have:=ih h;omega
section
variable {H:Type} {enc:TypeId×Value→H} {P:Program} {w:World} {spare:Nat→Bool} {held:Bool}
theorem open_rels {t r e e1:TypeId}{K0 K1 L0 L1 G0 G1 F0 F1 F2:Field}{fuel:Nat}{v:Value}{x:DataW H×List MemPlace}(hst:P.underlying t=some (.slice r))(hr:P.underlying r=some (.struct #[K0,K1]))(cr:P.cellsOf r=3)(k0:K0.offset=0) (k1:K1.offset=1) (kc0:P.cellsOf K0.type=1) (kc1:P.cellsOf K1.type=2) (ks:P.underlying K0.type=some .string) (kb:P.underlying K1.type=some (.struct #[L0,L1]))(l0:L0.offset=0) (l1:L1.offset=1) (lc0:P.cellsOf L0.type=1) (lc1:P.cellsOf L1.type=1) (li:P.underlying L0.type=some (.int .i64))(ht:P.underlying L1.type=some (.slice e)) (he:P.underlying e=some (.struct #[G0,G1]))(cg:P.cellsOf e=2) (p0:G0.offset=0) (p1:G1.offset=1) (g0:P.cellsOf G0.type=1) (g1:P.cellsOf G1.type=1) (ut:P.underlying G0.type=some (.slice e1)) (un:P.underlying G1.type=some (.int .i64))(he1:P.underlying e1=some (.struct #[F0,F1,F2]))(ce:P.cellsOf e1=3) (o0:F0.offset=0) (o1:F1.offset=1) (o2:F2.offset=2) (c0:P.cellsOf F0.type=1) (c1:P.cellsOf F1.type=1) (c2:P.cellsOf F2.type=1)(u0:P.underlying F0.type=some (.int .i64)) (u1:P.underlying F1.type=some (.int .i64)) (u2:P.underlying F2.type=some .string)(h:DataW.trod enc P w 0 spare held fuel t [v]=some x):∃rs,RelsIs w v rs∧RsWf rs:=by
 rcases open_slice hst h with⟨h0,_⟩|⟨a,len,cap,m,n,D,Pl,hcs,hb,hl,hm,hmm,rfl,hx⟩
 ·simp at h0;subst h0;exact⟨[],⟨none,0,rfl,by simp,by simp,fun h=>absurd rfl h⟩,by simp[RsWf]⟩
 simp at hcs;subst hcs;have hlm:len≤m:=by rw[hmm];split<;>omega
 have each:∀i,i<len→∃q:Value×R3,w.cell? (a.add (i*3))=some (.string q.2.s)∧w.cell? (a.add (i*3+1))=some (.int .i64 q.2.W)∧w.cell? (a.add (i*3+2))=some q.1∧RowsIs w q.1 q.2.cs∧q.2.wf:=by
  intro i hi;obtain⟨cs',h1,h2⟩:=hx i (by omega);rw[cr]at h1;obtain⟨_,hlen,hcell⟩:=World.cells?_some h1;obtain⟨xs,k,hk,hxy,_,hxl,hf⟩:=DataW.trod_struct hr h2
  match xs,hxl,cs',hlen with
  | [y0,y1],_,[v0,v1,v2],_=>
   have f0:=hf 0 K0 rfl;have f1:=hf 1 K1 rfl;simp[k0,k1,kc0,kc1]at f0 f1;obtain⟨ys,k',hk',hyy,_,hyl,hg⟩:=DataW.trod_struct kb f1
   match ys,hyl with
   | [z0,z1],_=>
    have q0:=hg 0 L0 rfl;have q1:=hg 1 L1 rfl;simp[l0,l1,lc0,lc1]at q0 q1;have e0:=hcell 0 (by omega);have e1:=hcell 1 (by omega);have e2:=hcell 2 (by omega);rw[add_add]at e0 e1 e2;obtain⟨s0,r0,_,ws⟩:=DataW.trod_string ks f0;obtain⟨i0,r1,_,wi⟩:=DataW.trod_int li q0;simp at r0 r1;subst r0 r1;obtain⟨cs0,hr0,hw0⟩:=open_rows ht he cg p0 p1 g0 g1 ut un he1 ce o0 o1 o2 c0 c1 c2 u0 u1 u2 q1;exact⟨(v2,⟨s0,i0,cs0⟩),by simpa using e0,by simpa using e1,by simpa using e2,hr0,ws,wi,hw0⟩
 have:Inhabited (Value×R3):=⟨⟨.nilFunc,⟨⟨#[]⟩,0,[]⟩⟩⟩;obtain⟨q,hq⟩:=choose_lt each;refine⟨(List.range len).map fun i=>(q i).2,⟨some a,cap,by simp,by simpa using hl,hm,fun hne=>?_⟩,?_⟩
 ·have hpos:0<len:=by
   rcases Nat.eq_zero_or_pos len with h0|h0
   ·subst h0;simp at hne
   ·exact h0
  have hs:a.spot=none:=by have:=World.cell?_spot (hq 0 hpos).1;simpa [Addr.add]using this
  obtain⟨b,o,sp⟩:=a;simp at hs;subst hs;refine⟨b,o,rfl,?_,fun i x hx=>?_⟩
  ·have:=bl8 _ _ (hq 0 hpos).1
   simpa [Addr.add]using this
  ·have hi:i<len:=by
    have:=gE1 hx;obtain⟨h1,_⟩:=this
    simpa using h1
   have ex:x=(q i).2:=by simp[hi]at hx;exact hx.symm
   subst ex;obtain⟨h0,h1,h2,h3,_⟩:=hq i hi;rw[add_plain]at h0 h1 h2;exact⟨_,h0,by simpa [Nat.add_assoc]using h1,by simpa [Nat.add_assoc]using h2,h3⟩
 ·intro y hy;obtain⟨i,hi,rfl⟩:=List.mem_map.1 hy;exact(hq i (List.mem_range.1 hi)).2.2.2.2
end
end
section
open Go.RowKit Go.Deep Go.ChangeShapes Go.WideShapes
def cc (us:List Value)(cs:List C2):List Value:=(us.zip cs).flatMap fun p=>[p.1,.int .i64 p.2.n]
theorem cc_len {us:List Value}{cs:List C2}(h:us.length=cs.length):(cc us cs).length=cs.length*2:=by
 unfold cc;induction us generalizing cs with
 |nil=>cases cs with|nil=>rfl|cons=>simp at h
 |cons u us ih=>
  cases cs with
  |nil=>simp at h
  |cons c cs=>
   have:=ih (cs:=cs) (by simpa using h);rw[List.zip_cons_cons,List.flatMap_cons,List.length_append,this];simp;omega
theorem cc_push {us:List Value}{cs:List C2}(h:us.length=cs.length)(u:Value)(x:C2):cc (us++ [u]) (cs++ [x])=cc us cs++ [u,.int .i64 x.n]:=by
 unfold cc;rw[List.zip_append h,List.flatMap_append];simp
theorem cc_at {us:List Value}{cs:List C2}(h:us.length=cs.length):∀ {i:Nat} {u:Value} {x:C2},us[i]?=some u→cs[i]?=some x→(cc us cs)[i*2]?=some u∧(cc us cs)[i*2+1]?=some (.int .i64 x.n):=by
 induction us generalizing cs with
 |nil=>intro i u x hu;simp at hu
 |cons v us ih=>
  cases cs with
  |nil=>simp at h
  |cons c cs=>
   intro i u x hu hx;have e:cc (v::us) (c::cs)=v:: .int .i64 c.n::cc us cs:=by unfold cc;rw[List.zip_cons_cons,List.flatMap_cons];rfl
   rw[e];cases i with
   |zero=>simp at hu hx;subst hu hx;simp
   |succ i=>
    have:=ih (cs:=cs) (by simpa using h) (i:=i) (u:=u) (x:=x) (by simpa using hu) (by simpa using hx);rw[show(i+1)*2=i*2+1+1 from by omega]
    simpa using this
structure BagOwn (w:World)(N:Nat)(v:Value)(cs:List C2)(us:List Value)(G:List (List Nat)):Prop where
 own:w.ownsRow N 91 2 v cs.length (cc us cs)
 ul:us.length=cs.length
 gl:G.length=cs.length
 row:∀ (i:Nat) (x:C2) (u:Value) (g:List Nat),cs[i]?=some x→us[i]?=some u→G[i]?=some g→RowF w u x.r g
 free:OwnB w N G.flatten
 out:∀b,v.ownBlock=some b→b∉G.flatten
theorem BagOwn.nil (w:World)(N:Nat):BagOwn w N (.slice none 0 0) [] [] []:=
 ⟨⟨rfl,.inl ⟨rfl,rfl⟩⟩,rfl,rfl,fun i x u g hx=>by simp at hx,by simp[OwnB,Free],fun b _=>by simp⟩
theorem oL8 {w:World}{N e n s:Nat}{v:Value}{xs:List Value}(h:w.ownsRow N e s v n xs):∀b,v.ownBlock=some b→N≤b∧b<w.heap.size:=by
 intro b hb;rcases h.2 with⟨rfl,_⟩|⟨g,cap,cur,rfl,hg,hc,_⟩
 ·simp[Value.ownBlock]at hb
 ·simp[Value.ownBlock]at hb;subst hb;refine⟨hg,?_⟩;rcases Nat.lt_or_ge g w.heap.size with h'|h'
  ·exact h'
  ·simp[Array.getElem?_eq_none h']at hc
theorem oK8 {w w':World}{N e n s:Nat}{v:Value}{xs:List Value}(h:w.ownsRow N e s v n xs)(hb:∀b,v.ownBlock=some b→w'.heap[b]?=w.heap[b]?):w'.ownsRow N e s v n xs:=by
 refine⟨h.1,?_⟩;rcases h.2 with hn|⟨g,cap,cur,rfl,hg,hc,rest⟩
 ·exact .inl hn
 ·exact .inr ⟨g,cap,cur,rfl,hg,(hb g rfl).trans hc,rest⟩
theorem BagOwn.lt {w:World}{N:Nat}{v:Value}{cs:List C2}{us:List Value}{G:List (List Nat)}(h:BagOwn w N v cs us G):∀b∈G.flatten,b<w.heap.size:=by
 intro b hb;obtain⟨g,hg,hbg⟩:=List.mem_flatten.1 hb;obtain⟨i,hi,rfl⟩:=List.mem_iff_getElem.1 hg;have h1:=h.gl;have h2:=h.ul;have hi1:i<cs.length:=by omega
 have hi2:i<us.length:=by omega
 exact(h.row i cs[i] us[i] G[i] (by simp) (by simp) (by simp)).lt b hbg
theorem BagOwn.keep {w w':World}{N:Nat}{v:Value}{cs:List C2}{us:List Value}{G:List (List Nat)}(h:BagOwn w N v cs us G)(hs:w.heap.size≤w'.heap.size)(hb:∀b,N≤b→b<w.heap.size→w'.heap[b]?=w.heap[b]?):BagOwn w' N v cs us G:=by
 have hk:∀b∈G.flatten,w'.heap[b]?=w.heap[b]?:=fun b hbG=>hb b (h.free.2.1 b hbG) (h.lt b hbG);refine⟨oK8 h.own fun b hv=>hb b (oL8 h.own b hv).1 (oL8 h.own b hv).2,h.ul,h.gl,fun i x u g hx hu hg=>(h.row i x u g hx hu hg).keep hs fun b hbg=>hk b (List.mem_flatten.2 ⟨g,mg8 hg,hbg⟩),h.free.keep hk,h.out⟩
theorem BagOwn.below {w w':World}{N:Nat}{v:Value}{cs:List C2}{us:List Value}{G:List (List Nat)}(h:BagOwn w N v cs us G)(hb:Below w.heap.size w w'):BagOwn w' N v cs us G:=h.keep hb.size fun b _ hlt=>hb.block b hlt
theorem BagOwn.push {w w':World}{N:Nat}{v v' u:Value}{cs:List C2}{us:List Value}{G:List (List Nat)}{x:C2}{g:List Nat}(h:BagOwn w N v cs us G)(hR:RowF w u x.r g)(hO:OwnB w N g)(hd1:∀b∈G.flatten,b∉g)(hd2:∀b,v.ownBlock=some b→b∉g)(ho:w'.ownsRow N 91 2 v' (cs.length+1) (cc us cs++ [u,.int .i64 x.n])) (hg:w.grownBy w' v.ownBlock) (hat:∀b,v'.ownBlock=some b→v.ownBlock=some b∨w.heap.size≤b):BagOwn w' N v' (cs++ [x]) (us++ [u]) (G++ [g]):=by
 have hG:=h.lt;have hm:∀b∈(G++ [g]).flatten,b∈G.flatten∨b∈g:=by intro b hb;simpa using hb
 have hlt:∀b∈(G++ [g]).flatten,b<w.heap.size:=fun b hb=>(hm b hb).elim (hG b) (hR.lt b);have hne:∀b∈(G++ [g]).flatten,some b≠v.ownBlock:=fun b hb e=>(hm b hb).elim (h.out b e.symm) (hd2 b e.symm);have hk:∀b∈(G++ [g]).flatten,w'.heap[b]?=w.heap[b]?:=fun b hb=>hg.block b (hlt b hb) (hne b hb);refine⟨?_,by simp[h.ul],by simp[h.gl],fun i y z q hy hz hq=>?_,?_,fun b hb=>?_⟩
 ·rw[cc_push h.ul];simpa using ho
 ·by_cases hi:i<cs.length
  ·rw[List.getElem?_append_left hi]at hy;rw[List.getElem?_append_left (by rw[h.ul];exact hi)]at hz;rw[List.getElem?_append_left (by rw[h.gl];exact hi)]at hq;exact(h.row i y z q hy hz hq).keep hg.size fun b hb=>hk b (by simp;exact .inl ⟨q,mg8 hq,hb⟩)
  ·have hl:i<(cs++ [x]).length:=(gE1 hy).1;obtain rfl:i=cs.length:=by simp at hl;omega
   rw[List.getElem?_append_right (Nat.le_refl _)]at hy;rw[List.getElem?_append_right (by rw[h.ul];exact Nat.le_refl _)]at hz;rw[List.getElem?_append_right (by rw[h.gl];exact Nat.le_refl _)]at hq;simp[h.ul,h.gl]at hy hz hq;subst hy hz hq;exact hR.keep hg.size fun b hb=>hk b (by simp;exact .inr hb)
 ·refine OwnB.keep (w:=w) ⟨?_,fun b hb=>(hm b hb).elim (h.free.2.1 b) (hO.2.1 b),fun b hb=>(hm b hb).elim (h.free.2.2 b) (hO.2.2 b)⟩ hk;rw[List.flatten_append,List.nodup_append];refine⟨h.free.1,by simpa using hO.1,fun a ha b hb=>?_⟩;rintro rfl;exact hd1 a ha (by simpa using hb)
 ·intro hx;rcases hat b hb with e|e
  ·exact hne b hx e.symm
  ·have:=hlt b hx;omega
theorem BagOwn.weak {w:World}{N M:Nat}{v:Value}{cs:List C2}{us:List Value}{G:List (List Nat)}(h:BagOwn w N v cs us G)(hM:M≤N):BagOwn w M v cs us G:=by
 refine⟨⟨h.own.1,?_⟩,h.ul,h.gl,h.row,⟨h.free.1,fun b hb=>Nat.le_trans hM (h.free.2.1 b hb),h.free.2.2⟩,h.out⟩;rcases h.own.2 with hn|⟨g,cap,cur,hv,hg,rest⟩
 ·exact .inl hn
 ·exact .inr ⟨g,cap,cur,hv,Nat.le_trans hM hg,rest⟩
theorem BagOwn.shape {w:World}{N:Nat}{v:Value}{cs:List C2}{us:List Value}{G:List (List Nat)}(h:BagOwn w N v cs us G):∃a c,v=.slice a cs.length c:=by
 rcases h.own.2 with⟨rfl,h0⟩|⟨g,cap,cur,hv,_⟩
 ·exact⟨none,0,by rw[h0]⟩
 ·exact⟨_,cap,hv⟩
theorem BagOwn.rowsF {w:World}{N:Nat}{v:Value}{cs:List C2}{us:List Value}{G:List (List Nat)}(h:BagOwn w N v cs us G):∃F,RowsF w v cs F∧OwnB w N F:=by
 have hlt:=oL8 h.own;have hGl:=h.lt;by_cases hne:cs=[]
 ·refine⟨[],?_,by simp[OwnB,Free]⟩;have hG:G=[]:=List.length_eq_zero_iff.1 (by rw[h.gl,hne];rfl);subst hne;rcases h.own.2 with⟨rfl,_⟩|⟨g,cap,cur,rfl,_,_,hn,hm,_⟩
  ·exact⟨none,0,G,rfl,Nat.le_refl _,by simp,fun _=>rfl,h.gl,fun _=>rfl,fun x=>absurd rfl x⟩
  ·exact⟨_,cap,G,rfl,hn,hm,(fun x=>by cases x),h.gl,fun _=>rfl,fun x=>absurd rfl x⟩
 have hp:0<cs.length:=List.length_pos_iff.2 hne;obtain⟨hl,ho⟩:=h.own;rcases ho with⟨_,h0⟩|⟨g,cap,cur,rfl,hg,hc,hn,hm,hs,ht⟩
 ·omega
 have hgo:g∉G.flatten:=h.out g rfl;refine⟨g::G.flatten,⟨_,cap,G,rfl,hn,hm,(fun x=>by cases x),h.gl,fun x=>absurd x hne,fun _=>⟨g,0,rfl,(hlt g rfl).2,rfl,fun i x q hx hq=>?_⟩⟩,List.nodup_cons.2 ⟨hgo,h.free.1⟩,fun b hb=>?_,fun b hb o=>?_⟩
 ·have hi:i<cs.length:=(gE1 hx).1;have hiu:i<us.length:=by rw[h.ul];exact hi
  obtain⟨e0,e1⟩:=cc_at h.ul (i:=i) (u:=us[i]) (x:=x) (by simp) hx;have get:∀j u,j<cs.length*2→(cc us cs)[j]?=some u→w.cell? ⟨g,j,none⟩=some u:=by
   intro j u hj hu;simp only[World.cell?,hc];rw[←ht,List.getElem?_take,if_pos hj,Array.getElem?_toList]at hu
   simpa using hu
  exact⟨us[i],by rw[Nat.zero_add];exact get _ _ (by omega) e0,h.row i x us[i] q hx (by simp) hq,by rw[Nat.zero_add];exact get _ _ (by omega) e1⟩
 ·rcases List.mem_cons.1 hb with rfl|hb
  ·exact hg
  ·exact h.free.2.1 b hb
 ·rcases List.mem_cons.1 hb with rfl|hb
  ·simp[World.frozen?,hc]
  ·exact h.free.2.2 b hb o
end
section
open Go.RowKit Go.Deep Go.ChangeShapes Go.WideShapes
def RLF (w:World)(b o:Nat)(rs:List R3)(G:List (List Nat)):Prop:=
 ∀i x g,rs[i]?=some x→G[i]?=some g→∃u,w.cell? ⟨b,o+i*3,none⟩=some (.string x.s)∧w.cell? ⟨b,o+i*3+1,none⟩=some (.int .i64 x.W)∧w.cell? ⟨b,o+i*3+2,none⟩=some u∧RowsF w u x.cs g
def RelsF (w:World)(v:Value)(rs:List R3)(F:List Nat):Prop:=
 ∃ (a:Option Addr) (c:Nat) (G:List (List Nat)),v=.slice a rs.length c∧rs.length≤c∧c≤maxLen∧(a=none→c=0)∧G.length=rs.length∧(rs=[]→F=[])∧ (rs≠ []→∃b o,a=some ⟨b,o,none⟩∧b<w.heap.size∧F=b::G.flatten∧RLF w b o rs G)
theorem RelsF.is {w:World}{v:Value}{rs:List R3}{F:List Nat}(h:RelsF w v rs F):RelsIs w v rs:=by
 obtain⟨a,c,G,rfl,hl,hc,_,hG,_,h⟩:=h;refine⟨a,c,rfl,hl,hc,fun hne=>?_⟩;obtain⟨b,o,rfl,hlt,_,hL⟩:=h hne;refine⟨b,o,rfl,hlt,fun i x hx=>?_⟩;have hi:i<rs.length:=(gE1 hx).1;have hi':i<G.length:=by omega
 obtain⟨u,h0,h1,h2,h3⟩:=hL i x G[i] hx (by simp);exact⟨u,h0,h1,h2,h3.is⟩
theorem RelsF.lt {w:World}{v:Value}{rs:List R3}{F:List Nat}(h:RelsF w v rs F):∀b∈F,b<w.heap.size:=by
 obtain⟨a,c,G,rfl,hl,hc,_,hG,h0,h⟩:=h;intro x hx;by_cases hne:rs=[]
 ·rw[h0 hne]at hx;cases hx
 obtain⟨b,o,rfl,hlt,rfl,hL⟩:=h hne;rcases List.mem_cons.1 hx with rfl|hx
 ·exact hlt
 obtain⟨g,hg,hxg⟩:=List.mem_flatten.1 hx;obtain⟨i,hi,rfl⟩:=List.mem_iff_getElem.1 hg;have hi':i<rs.length:=by omega
 obtain⟨u,_,_,_,hk⟩:=hL i rs[i] G[i] (by simp) (by simp);exact hk.lt x hxg
theorem RLF.keep {w w':World}{b o:Nat}{rs:List R3}{G:List (List Nat)}(h:RLF w b o rs G)(hs:w.heap.size≤w'.heap.size)(hb:w'.heap[b]?=w.heap[b]?)(hF:∀x∈G.flatten,w'.heap[x]?=w.heap[x]?):RLF w' b o rs G:=fun i x g hx hg=>by
 obtain⟨u,a0,a1,a2,a3⟩:=h i x g hx hg;exact⟨u,(cb8 hb).trans a0,(cb8 hb).trans a1,(cb8 hb).trans a2,a3.keep hs fun y hy=>hF y (List.mem_flatten.2 ⟨g,mg8 hg,hy⟩)⟩
theorem RelsF.keep {w w':World}{v:Value}{rs:List R3}{F:List Nat}(h:RelsF w v rs F)(hs:w.heap.size≤w'.heap.size)(hF:∀b∈F,w'.heap[b]?=w.heap[b]?):RelsF w' v rs F:=by
 obtain⟨a,c,G,rfl,hl,hc,hz,hG,h0,h⟩:=h;refine⟨a,c,G,rfl,hl,hc,hz,hG,h0,fun hne=>?_⟩;obtain⟨b,o,rfl,hlt,rfl,hL⟩:=h hne;exact⟨b,o,rfl,Nat.lt_of_lt_of_le hlt hs,rfl,hL.keep hs (hF b List.mem_cons_self) fun x hx=>hF x (List.mem_cons_of_mem _ hx)⟩
theorem RelsF.below {w w':World}{v:Value}{rs:List R3}{F:List Nat}(h:RelsF w v rs F)(hb:Below w.heap.size w w'):RelsF w' v rs F:=h.keep hb.size fun b hF=>hb.block b (h.lt b hF)
theorem RelsF.chg {w w':World}{v:Value}{rs:List R3}{F G:List Nat}(h:RelsF w v rs F)(hb:Chg G w w')(hd:∀b∈F,b∉G):RelsF w' v rs F:=h.keep hb.size fun b hF=>hb.block b (h.lt b hF) (hd b hF)
theorem RelsF.pick {w:World}{v:Value}{rs:List R3}{F:List Nat}(h:RelsF w v rs F):∃a c b o G,v=.slice a rs.length c∧rs.length≤c∧c≤maxLen∧(a=none→c=0)∧G.length=rs.length∧(rs=[]→F=[])∧RLF w b o rs G∧∀n,n<rs.length→a=some ⟨b,o,none⟩∧b<w.heap.size∧F=b::G.flatten:=by
 obtain⟨a,c,G,rfl,hl,hc,hz,hG,h0,h⟩:=h;by_cases hne:rs=[]
 ·exact⟨a,c,0,0,G,rfl,hl,hc,hz,hG,h0,fun i x g hx=>by rw[hne]at hx;simp at hx,fun k hk=>by rw[hne]at hk;simp at hk⟩
 ·obtain⟨b,o,rfl,hlt,hF,hL⟩:=h hne;exact⟨_,c,b,o,G,rfl,hl,hc,hz,hG,h0,hL,fun _ _=>⟨rfl,hlt,hF⟩⟩
theorem RLF.at {w w':World}{b o:Nat}{rs:List R3}{G:List (List Nat)}(h:RLF w b o rs G)(hG:G.length=rs.length)(hlt:b<w.heap.size)(hb:Below w.heap.size w w'){k:Nat}(hk:k<rs.length):∃x u g,rs[k]?=some x∧w'.cell? ⟨b,o+k*3,none⟩=some (.string x.s)∧w'.cell? ⟨b,o+k*3+1,none⟩=some (.int .i64 x.W)∧w'.cell? ⟨b,o+k*3+2,none⟩=some u∧RowsF w' u x.cs g∧b<w'.heap.size:=by
 obtain⟨u,h0,h1,h2,h3⟩:=h k rs[k] (G[k]'(by omega)) (by simp[hk]) (by simp);have hbb:=hb.block b hlt;exact⟨rs[k],u,_,by simp[hk],(cb8 hbb).trans h0,(cb8 hbb).trans h1,(cb8 hbb).trans h2,h3.below hb,Nat.lt_of_lt_of_le hlt hb.size⟩
def rcs (us:List Value)(rs:List R3):List Value:=(us.zip rs).flatMap fun p=>[.string p.2.s,.int .i64 p.2.W,p.1]
theorem rcs_push {us:List Value}{rs:List R3}(h:us.length=rs.length)(u:Value)(x:R3):rcs (us++ [u]) (rs++ [x])=rcs us rs++ [.string x.s,.int .i64 x.W,u]:=by
 unfold rcs;rw[List.zip_append h,List.flatMap_append];simp
theorem rcs_at {us:List Value}{rs:List R3}(h:us.length=rs.length):∀ {i:Nat} {u:Value} {x:R3},us[i]?=some u→rs[i]?=some x→(rcs us rs)[i*3]?=some (.string x.s)∧(rcs us rs)[i*3+1]?=some (.int .i64 x.W)∧(rcs us rs)[i*3+2]?=some u:=by
 induction us generalizing rs with
 |nil=>intro i u x hu;simp at hu
 |cons v us ih=>
  cases rs with
  |nil=>simp at h
  |cons c rs=>
   intro i u x hu hx;have e:rcs (v::us) (c::rs)=.string c.s:: .int .i64 c.W::v::rcs us rs:=by unfold rcs;rw[List.zip_cons_cons,List.flatMap_cons];rfl
   rw[e];cases i with
   |zero=>simp at hu hx;subst hu hx;simp
   |succ i=>
    have:=ih (rs:=rs) (by simpa using h) (i:=i) (u:=u) (x:=x) (by simpa using hu) (by simpa using hx);rw[show(i+1)*3=i*3+1+1+1 from by omega]
    simpa using this
structure RelOwn (w:World)(N:Nat)(v:Value)(rs:List R3)(us:List Value)(G:List (List Nat)):Prop where
 own:w.ownsRow N 59 3 v rs.length (rcs us rs)
 ul:us.length=rs.length
 gl:G.length=rs.length
 row:∀ (i:Nat) (x:R3) (u:Value) (g:List Nat),rs[i]?=some x→us[i]?=some u→G[i]?=some g→RowsF w u x.cs g
 free:OwnB w N G.flatten
 out:∀b,v.ownBlock=some b→b∉G.flatten
section
variable {w w':World} {N:Nat} {v:Value} {rs:List R3} {us:List Value} {G:List (List Nat)}
theorem RelOwn.empty' {w:World}{N:Nat}(hN:N=w.heap.size):RelOwn (w.alloc (.cells #[] 59)) N (.slice (some ⟨N,0,none⟩) 0 0) [] [] []:=by
 subst hN;exact⟨⟨by simp[rcs],.inr ⟨w.heap.size,0,#[],rfl,Nat.le_refl _,heap_alloc_new w _,Nat.le_refl _,by simp,by simp,by simp[rcs]⟩⟩,rfl,rfl,fun i x u g hx=>by simp at hx,by simp[OwnB,Free],fun b _=>by simp⟩
theorem RelOwn.lt (h:RelOwn w N v rs us G):∀b∈G.flatten,b<w.heap.size:=by
 intro b hb;obtain⟨g,hg,hbg⟩:=List.mem_flatten.1 hb;obtain⟨i,hi,rfl⟩:=List.mem_iff_getElem.1 hg;have h1:=h.gl;have h2:=h.ul;have hi1:i<rs.length:=by omega
 have hi2:i<us.length:=by omega
 exact(h.row i rs[i] us[i] G[i] (by simp) (by simp) (by simp)).lt b hbg
theorem RelOwn.keep (h:RelOwn w N v rs us G)(hs:w.heap.size≤w'.heap.size)(hb:∀b,N≤b→b<w.heap.size→w'.heap[b]?=w.heap[b]?):RelOwn w' N v rs us G:=by
 have hk:∀b∈G.flatten,w'.heap[b]?=w.heap[b]?:=fun b hbG=>hb b (h.free.2.1 b hbG) (h.lt b hbG);refine⟨oK8 h.own fun b hv=>hb b (oL8 h.own b hv).1 (oL8 h.own b hv).2,h.ul,h.gl,fun i x u g hx hu hg=>(h.row i x u g hx hu hg).keep hs fun b hbg=>hk b (List.mem_flatten.2 ⟨g,mg8 hg,hbg⟩),h.free.keep hk,h.out⟩
theorem RelOwn.below (h:RelOwn w N v rs us G)(hb:Below w.heap.size w w'):RelOwn w' N v rs us G:=h.keep hb.size fun b _ hlt=>hb.block b hlt
theorem RelOwn.push {v' u:Value}{x:R3}{g:List Nat}(h:RelOwn w N v rs us G)(hR:RowsF w u x.cs g)(hO:OwnB w N g)(hd1:∀b∈G.flatten,b∉g)(hd2:∀b,v.ownBlock=some b→b∉g)(ho:w'.ownsRow N 59 3 v' (rs.length+1) (rcs us rs++ [.string x.s,.int .i64 x.W,u])) (hg:w.grownBy w' v.ownBlock) (hat:∀b,v'.ownBlock=some b→v.ownBlock=some b∨w.heap.size≤b):RelOwn w' N v' (rs++ [x]) (us++ [u]) (G++ [g]):=by
 have hG:=h.lt;have hm:∀b∈(G++ [g]).flatten,b∈G.flatten∨b∈g:=by intro b hb;simpa using hb
 have hlt:∀b∈(G++ [g]).flatten,b<w.heap.size:=fun b hb=>(hm b hb).elim (hG b) (hR.lt b);have hne:∀b∈(G++ [g]).flatten,some b≠v.ownBlock:=fun b hb e=>(hm b hb).elim (h.out b e.symm) (hd2 b e.symm);have hk:∀b∈(G++ [g]).flatten,w'.heap[b]?=w.heap[b]?:=fun b hb=>hg.block b (hlt b hb) (hne b hb);refine⟨?_,by simp[h.ul],by simp[h.gl],fun i y z q hy hz hq=>?_,?_,fun b hb=>?_⟩
 ·rw[rcs_push h.ul];simpa using ho
 ·by_cases hi:i<rs.length
  ·rw[List.getElem?_append_left hi]at hy;rw[List.getElem?_append_left (by rw[h.ul];exact hi)]at hz;rw[List.getElem?_append_left (by rw[h.gl];exact hi)]at hq;exact(h.row i y z q hy hz hq).keep hg.size fun b hb=>hk b (by simp;exact .inl ⟨q,mg8 hq,hb⟩)
  ·have hl:i<(rs++ [x]).length:=(gE1 hy).1;obtain rfl:i=rs.length:=by simp at hl;omega
   rw[List.getElem?_append_right (Nat.le_refl _)]at hy;rw[List.getElem?_append_right (by rw[h.ul];exact Nat.le_refl _)]at hz;rw[List.getElem?_append_right (by rw[h.gl];exact Nat.le_refl _)]at hq;simp[h.ul,h.gl]at hy hz hq;subst hy hz hq;exact hR.keep hg.size fun b hb=>hk b (by simp;exact .inr hb)
 ·refine OwnB.keep (w:=w) ⟨?_,fun b hb=>(hm b hb).elim (h.free.2.1 b) (hO.2.1 b),fun b hb=>(hm b hb).elim (h.free.2.2 b) (hO.2.2 b)⟩ hk;rw[List.flatten_append,List.nodup_append];refine⟨h.free.1,by simpa using hO.1,fun a ha b hb=>?_⟩;rintro rfl;exact hd1 a ha (by simpa using hb)
 ·intro hx;rcases hat b hb with e|e
  ·exact hne b hx e.symm
  ·have:=hlt b hx;omega
theorem RelOwn.shape (h:RelOwn w N v rs us G):∃a c,v=.slice a rs.length c:=by
 rcases h.own.2 with⟨rfl,h0⟩|⟨g,cap,cur,hv,_⟩
 ·exact⟨none,0,by rw[h0]⟩
 ·exact⟨_,cap,hv⟩
theorem RelOwn.relsF (h:RelOwn w N v rs us G):∃F,RelsF w v rs F∧OwnB w N F:=by
 have hlt:=oL8 h.own;have hGl:=h.lt;by_cases hne:rs=[]
 ·refine⟨[],?_,by simp[OwnB,Free]⟩;have hgl:=h.gl;subst hne;rcases h.own.2 with⟨rfl,_⟩|⟨g,cap,cur,rfl,_,_,hn,hm,_⟩
  ·exact⟨none,0,G,rfl,Nat.le_refl _,by simp,fun _=>rfl,hgl,fun _=>rfl,fun x=>absurd rfl x⟩
  ·exact⟨_,cap,G,rfl,hn,hm,(fun x=>by cases x),hgl,fun _=>rfl,fun x=>absurd rfl x⟩
 have hp:0<rs.length:=List.length_pos_iff.2 hne;obtain⟨hl,ho⟩:=h.own;rcases ho with⟨_,h0⟩|⟨g,cap,cur,rfl,hg,hc,hn,hm,hs,ht⟩
 ·omega
 have hgo:g∉G.flatten:=h.out g rfl;refine⟨g::G.flatten,⟨_,cap,G,rfl,hn,hm,(fun x=>by cases x),h.gl,fun x=>absurd x hne,fun _=>⟨g,0,rfl,(hlt g rfl).2,rfl,fun i x q hx hq=>?_⟩⟩,List.nodup_cons.2 ⟨hgo,h.free.1⟩,fun b hb=>?_,fun b hb o=>?_⟩
 ·have hi:i<rs.length:=(gE1 hx).1;have hiu:i<us.length:=by rw[h.ul];exact hi
  obtain⟨e0,e1,e2⟩:=rcs_at h.ul (i:=i) (u:=us[i]) (x:=x) (by simp) hx;have get:∀j u,j<rs.length*3→(rcs us rs)[j]?=some u→w.cell? ⟨g,j,none⟩=some u:=by
   intro j u hj hu;simp only[World.cell?,hc];rw[←ht,List.getElem?_take,if_pos hj,Array.getElem?_toList]at hu
   simpa using hu
  exact⟨us[i],by rw[Nat.zero_add];exact get _ _ (by omega) e0,by rw[Nat.zero_add];exact get _ _ (by omega) e1,by rw[Nat.zero_add];exact get _ _ (by omega) e2,h.row i x us[i] q hx (by simp) hq⟩
 ·rcases List.mem_cons.1 hb with rfl|hb
  ·exact hg
  ·exact h.free.2.1 b hb
 ·rcases List.mem_cons.1 hb with rfl|hb
  ·simp[World.frozen?,hc]
  ·exact h.free.2.2 b hb o
end
end
section
open Go.RowKit
theorem szRel_any (s:ByteArray)(W:Int)(v:Value)(cs:List C2)(left:Int)(w:World)(hs:s.size≤maxLen)(hr:RowsIs w v cs)(hw:CsWf cs)(h0:0≤left)(h1:left≤1048576):Calls Tryz.prog 15 #[.agg #[.string s,.int .i64 W,v],.int .i64 left] w fun e w'=>(∃z:Int,e=.returned (.int .i64 z)∧ -1≤z∧z≤left∧(0≤z→z+(s.size+wtb cs)=left))∧Below w.heap.size w w':=by
 unfold maxLen at hs;by_cases hbig:left -s.size<0
 ·go_enter Tryz.func15,Tryz.ntmps15;go_wp2_with fail;go_returns;exact⟨⟨-1,rfl,by omega,by omega,by omega⟩,bela⟩
 obtain⟨a,l,c,rfl⟩:=hr.shape;go_enter Tryz.func15,Tryz.ntmps15;go_wp2_with fail;refine cM8 (szBag_any W (.slice a l c) cs (left -s.size) _ (hr.below ?hb) hw (by omega) (by omega)) ?_
 case hb=>exact bela
 rintro e w1 ⟨⟨z1,rfl,l1,g1,s1⟩,hb1⟩;have hz1:=hb1.size;simp only[World.size_alloc]at hz1;by_cases hn1:z1<0
 ·go_wp2_with fail;go_returns;exact⟨⟨-1,rfl,by omega,by omega,by omega⟩,bela⟩
 ·go_wp2_with fail;go_returns;exact⟨⟨z1,rfl,by omega,by omega,fun h=>by have:=s1 h;omega⟩,bela⟩
theorem szRelS_any (v:Value)(rs:List R3)(left:Int)(w:World)(hr:RelsIs w v rs)(hw:RsWf rs)(h0:0≤left)(h1:left≤1048576):Calls Tryz.prog 4 #[v,.int .i64 left] w fun e w'=>(∃z:Int,e=.returned (.int .i64 z)∧ -1≤z∧z≤left∧(0≤z→z+wtR rs=left))∧Below w.heap.size w w':=by
 obtain⟨a,c,b,o,rfl,hl,hc,ha⟩:=hr.pick;unfold maxLen at hc;by_cases hbig:left -rs.length<0
 ·go_enter Tryz.func4,Tryz.ntmps4;go_wp2;go_returns;exact⟨⟨-1,rfl,by omega,by omega,by omega⟩,by go_grown⟩
 go_enter Tryz.func4,Tryz.ntmps4;go_wp2;go_loopw [1,5] (fun l i wr=> ∃k:Nat,k≤rs.length∧i=.int .i64 k∧l=.int .i64 (left -rs.length -wtrs (rs.take k))∧0≤left -rs.length -wtrs (rs.take k)∧Below w.heap.size w wr) (fun _ i _=>rs.length - (intOf i).toNat)
 case atStart=>exact⟨0,Nat.zero_le _,rfl,by simp[wtrs],by simp[wtrs];omega,by go_grown⟩
 case round=>
  obtain⟨k,hk,rfl,rfl,hp,hb⟩:=hrel;by_cases hlt:k<rs.length
  ·have hzb:=hb.size;obtain⟨rfl,hblt,hL⟩:=ha k hlt;obtain⟨x,u,hx,c0,c1,c2,hR,hbr⟩:=hL.at hblt hb hlt;obtain⟨hxs,_,hxw⟩:=hw x (mg8 hx);have hT:Hid (wtrs (rs.take (k+1))=wtrs (rs.take k)+wtr x):=wtrs_take hx;have hp1:left -rs.length -wtrs (rs.take k)≤1048576:=by omega
   clear ha hL hw hx;go_wp2_with(go_at_call 15;refine(szRel_any _ _ _ _ _ _ hxs hR hxw hp hp1).mono ?_;rintro e w1 ⟨⟨z1,rfl,l1,g1,s1⟩,hb1⟩)
   ·go_returns;exact⟨⟨-1,rfl,by omega,by omega,by omega⟩,hb.trans (hb1.mono hb.size)⟩
   ·have h9:0≤z1:=by assumption
    have e1:=s1 h9;have hT:=hT.out;unfold wtr at hT;refine⟨⟨k+1,hlt,by simp,by congr 1;omega,by omega,hb.trans (hb1.mono hb.size)⟩,by simp[intOf];omega⟩
  ·go_wp2;go_returns;have hkk:k=rs.length:=by omega
   subst hkk;refine⟨⟨_,rfl,by omega,by omega,fun _=>?_⟩,hb⟩;rw[List.take_length];unfold wtR;omega
theorem eqRel_same (s:ByteArray)(W:Int)(v u:Value)(cs:List C2)(w:World)(hr:RowsIs w v cs)(hu:RowsIs w u cs):Calls Tryz.prog 28 #[.agg #[.string s,.int .i64 W,v],.agg #[.string s,.int .i64 W,u]] w fun e w'=>e=.returned (.bool true)∧Below w.heap.size w w':=by
 obtain⟨a,l,c,rfl⟩:=hr.shape;obtain⟨a',l',c',rfl⟩:=hu.shape;go_enter Tryz.func28,Tryz.ntmps28;go_wp2_with fail;refine cM8 (eqBag_same W _ _ cs _ (hr.below ?hb) (hu.below ?hc)) ?_
 case hb=>exact bela
 case hc=>exact bela
 rintro e w1 ⟨rfl,hb1⟩;have hz1:=hb1.size;simp only[World.size_alloc]at hz1;go_wp2;go_returns;exact⟨rfl,bela⟩
theorem eqRelS_same (v u:Value)(rs:List R3)(w:World)(hr:RelsIs w v rs)(hu:RelsIs w u rs):Calls Tryz.prog 10 #[v,u] w fun e w'=>e=.returned (.bool true)∧Below w.heap.size w w':=by
 obtain⟨a,c,b,o,rfl,hl,hc,ha⟩:=hr.pick;obtain⟨a',c',b',o',rfl,hl',hc',ha'⟩:=hu.pick;unfold maxLen at hc hc';clear hr hu;go_enter Tryz.func10,Tryz.ntmps10;go_wp2;go_loopw [5] (fun i wr=> ∃k:Nat,k≤rs.length∧i=.int .i64 k∧Below w.heap.size w wr) (fun i _=>rs.length - (intOf i).toNat)
 case atStart=>exact⟨0,Nat.zero_le _,rfl,by go_grown⟩
 case round=>
  obtain⟨k,hk,rfl,hb⟩:=hrel;by_cases hlt:k<rs.length
  ·have hzb:=hb.size;obtain⟨rfl,hblt,hL⟩:=ha k hlt;obtain⟨rfl,hblt',hL'⟩:=ha' k hlt;obtain⟨x,v,hx,c0,c1,c2,hR,hbr⟩:=hL.at hblt hb hlt;obtain⟨x',u,hx',c0',c1',c2',hR',hbr'⟩:=hL'.at hblt' hb hlt;obtain rfl:x=x':=by rw[hx]at hx';exact Option.some.inj hx'
   clear ha ha' hL hL' hx hx';go_wp2_with fail;go_region_held3 (fun w'=>w'.cell? ⟨b,o+k*3,none⟩=some (.string x.s)∧w'.cell? ⟨b,o+k*3+1,none⟩=some (.int .i64 x.W)∧w'.cell? ⟨b,o+k*3+2,none⟩=some v∧w'.cell? ⟨b',o'+k*3,none⟩=some (.string x.s)∧w'.cell? ⟨b',o'+k*3+1,none⟩=some (.int .i64 x.W)∧w'.cell? ⟨b',o'+k*3+2,none⟩=some u) (refine⟨?_,?_,?_,?_,?_,?_⟩<;>first|(go_simp;done)|(exact cL8 (by assumption) (by go_simp))) (first|(go_at_call 28;refine(eqRel_same x.s x.W v u x.cs _ (hR.below bela) (hR'.below bela)).mono ?_;rintro e w1 ⟨rfl,hb1⟩));go_wp2
   go_roundw
   case rel=>exact⟨k+1,hlt,by simp,bela⟩
   case measure=>simp[intOf];omega
  ·go_wp2;go_returns;exact⟨rfl,hb⟩
end
section
open Go.RowKit Go.Deep
attribute [local go_sem↓] Go.wp_at_zero Go.wp_at_succ
theorem copyCounted_some (ad:Addr)(c:Nat)(vs:List V3)(n:Int)(w:World)(hl:vs.length≤c)(hc:c≤maxLen)(hn:vs.length≤1048576)(hne:vs≠ [])(hcl:∀j u,(rc vs)[j]?=some u→∀w',Below w.heap.size w w'→w'.cell? (ad.add j)=some u):Calls Tryz.prog 49 #[.agg #[.slice (some ad) vs.length c,.int .i64 n]] w fun e w'=>(∃u g,e=.returned (.agg #[u,.int .i64 n])∧RowF w' u vs g∧OwnB w' w.heap.size g)∧Below w.heap.size w w':=by
 obtain⟨i0,hi,hz0,hz1,hz2⟩:=info_parts Tryz.infoVal;have hp:0<vs.length:=List.length_pos_iff.2 hne;have hml:0+vs.length≤maxLen:=by omega
 have hby:(0+vs.length)*32≤140737488355328:=by omega
 go_enter Tryz.func49,Tryz.ntmps49;go_wp2_with fail;go_region_held3 (fun w'=>w'.cell? ⟨w.heap.size,0,none⟩=some (.slice (some ad) vs.length c)∧w'.cell? ⟨w.heap.size,1,none⟩=some (.int .i64 n)) (first
   |go_keep
   |(go_split_ands
     refine⟨?_,?_⟩
     ·(rw[hgrow.cell_far _ (by simp;omega) (by simp[Value.ownBlock];try omega)];assumption)
     ·(rw[hgrow.cell_far _ (by simp;omega) (by simp[Value.ownBlock];try omega)];assumption)))
  ((refine step_append_lies _ (by rfl) _ _ _ (by rfl) (w.heap.size+1+1) 60 i0 _ 3 32 Tryz.underlying88 hi hz0 hz1 hz2 rfl (by omega) (.slice (some ⟨w.heap.size+1+1,0,none⟩) 0 0) 0 [] (by rfl) (own_none (by simp) (Nat.le_refl _) 60 3) ad vs.length c (rc vs) (by rfl) (rc_len vs) (fun j u h=>hcl j u h _ bex) (rc_one vs) hp hml hby (by simp) (w.heap.size+1+1+1) (by simp) ?_;intro g cap w1 hown1 hgrow hat hlt;have hsg:=hgrow.size;simp at hsg;have r0:w1.cell? ⟨w.heap.size+1,0,none⟩=some (.slice none 0 0):=(hgrow.cell_far _ (by simp;try omega) (by simp[Value.ownBlock];try omega)).trans (by go_simp);have r1:w1.cell? ⟨w.heap.size+1,1,none⟩=some (.int .i64 0):=(hgrow.cell_far _ (by simp;try omega) (by simp[Value.ownBlock];try omega)).trans (by go_simp);have rf:∀o,w1.frozen? ⟨w.heap.size+1,o,none⟩=false:=fun o=>(hgrow.frozen_far _ (by simp;try omega) (by simp[Value.ownBlock];try omega)).trans (by go_simp)))
 obtain⟨g',hR,hO⟩:=own_rowF (vs:=vs) (show w1.ownsRow (w.heap.size+1+1) 60 3 (.slice (some ⟨g,0,none⟩) (0+vs.length) cap) (0+vs.length) (rc vs)from hown1);have bel1:Below w.heap.size w w1:=Below.grown bex hgrow (by simp;omega) (fun k hk=>by simp[Value.ownBlock]at hk;omega);have hb':∀b∈g',b≠w.heap.size+1:=fun b hb=>by have:=hO.2.1 b hb;omega
 clear hown1 hgrow hat hcl;go_wp2;refine bodyPost_ret (v:=.agg #[.slice (some ⟨g,0,none⟩) (0+vs.length) cap,.int .i64 n]) (by simp[results,Tryz.results49,go_sem, *]) rfl ⟨⟨_,g',rfl,hR.keep (by simp) fun b hb=>?_,⟨hO.1,fun b hb=>by have:=hO.2.1 b hb;omega,fun b hb o=>by simpa using hO.2.2 b hb o⟩⟩,?_⟩
 ·repeat rw[bS8 _ _ _ _ (hb' b hb)]
 ·repeat (first|(with_reducible exact bel1)|(with_reducible refine Below.setCell ?_ ?hh _;case hh=>(simp;try omega)))
theorem copyCounted_none (n:Int)(w:World):Calls Tryz.prog 49 #[.agg #[.slice none 0 0,.int .i64 n]] w fun e w'=>(∃u g,e=.returned (.agg #[u,.int .i64 n])∧RowF w' u [] g∧OwnB w' w.heap.size g)∧Below w.heap.size w w':=by
 go_enter Tryz.func49,Tryz.ntmps49;go_wp2_with fail;go_region_held3 (fun w'=>w'.cell? ⟨w.heap.size,0,none⟩=some (.slice none 0 0)∧w'.cell? ⟨w.heap.size,1,none⟩=some (.int .i64 n)) (go_keep) (fail);go_wp2;refine bodyPost_ret (v:=.agg #[.slice (some ⟨w.heap.size+1+1,0,none⟩) 0 0,.int .i64 n]) (by simp[results,Tryz.results49,go_sem, *]) rfl ⟨⟨_,[],rfl,⟨_,0,rfl,Nat.le_refl _,by simp,fun _=>rfl,fun _=>rfl,fun x=>absurd rfl x⟩,by simp[OwnB,Free]⟩,?_⟩;exact bex
theorem copyCounted_zero (ad:Addr)(c:Nat)(n:Int)(w:World)(hc:c≤maxLen):Calls Tryz.prog 49 #[.agg #[.slice (some ad) 0 c,.int .i64 n]] w fun e w'=>(∃u g,e=.returned (.agg #[u,.int .i64 n])∧RowF w' u [] g∧OwnB w' w.heap.size g)∧Below w.heap.size w w':=by
 go_enter Tryz.func49,Tryz.ntmps49;go_wp2_with fail;go_region_held3 (fun w'=>w'.cell? ⟨w.heap.size,0,none⟩=some (.slice (some ad) 0 c)∧w'.cell? ⟨w.heap.size,1,none⟩=some (.int .i64 n)) (go_keep) (fail);go_wp2;refine bodyPost_ret (v:=.agg #[.slice (some ⟨w.heap.size+1+1,0,none⟩) 0 0,.int .i64 n]) (by simp[results,Tryz.results49,go_sem, *]) rfl ⟨⟨_,[],rfl,⟨_,0,rfl,Nat.le_refl _,by simp,fun _=>rfl,fun _=>rfl,fun x=>absurd rfl x⟩,by simp[OwnB,Free]⟩,?_⟩;exact bex
theorem copyCounted_any (v:Value)(vs:List V3)(g0:List Nat)(n:Int)(w:World)(hr:RowF w v vs g0)(hn:vs.length≤1048576):Calls Tryz.prog 49 #[.agg #[v,.int .i64 n]] w fun e w'=>(∃u g,e=.returned (.agg #[u,.int .i64 n])∧RowF w' u vs g∧OwnB w' w.heap.size g)∧Below w.heap.size w w':=by
 obtain⟨a,c,rfl,hl,hc,hz,_,h⟩:=hr;by_cases hne:vs=[]
 ·subst hne;cases a with
  |none=>obtain rfl:=hz rfl;exact copyCounted_none n w
  |some ad=>exact copyCounted_zero ad c n w hc
 ·obtain⟨b,o,rfl,hlt,_,hL⟩:=h hne;exact copyCounted_some ⟨b,o,none⟩ c vs n w hl hc hn hne fun j u hu w' hb=>rc_cells (hL.below hb hlt) j u hu
end
section
open Go.RowKit Go.Deep
theorem RowF.cells {w:World}{v:Value}{vs:List V3}{g:List Nat}(h:RowF w v vs g):∃a c b o,v=.slice a vs.length c∧vs.length≤c∧c≤maxLen∧(a=none→c=0)∧CellsAre w b o (vs.length*3) (cf vs)∧(vs=[]→g=[])∧∀n,n<vs.length→a=some ⟨b,o,none⟩∧b<w.heap.size∧g=[b]:=by
 obtain⟨a,c,rfl,hl,hc,hz,h0,h⟩:=h;by_cases hne:vs=[]
 ·exact⟨a,c,0,0,rfl,hl,hc,hz,by subst hne;intro j hj;simp at hj,h0,fun k hk=>by rw[hne]at hk;simp at hk⟩
 ·obtain⟨b,o,rfl,hlt,hg,hL⟩:=h hne;exact⟨_,c,b,o,rfl,hl,hc,hz,lies_cells.1 hL,h0,fun _ _=>⟨rfl,hlt,hg⟩⟩
theorem RowIs.shape' {w:World}{v:Value}{vs:List V3}(h:RowIs w v vs):∃a c,v=.slice a vs.length c∧vs.length≤c∧c≤maxLen:=by
 obtain⟨a,c,h,h1,h2,_⟩:=h;exact⟨a,c,h,h1,h2⟩
theorem RowF.mk {w w':World}{v:Value}{vs us:List V3}{g:List Nat}{a:Option Addr}{c b o:Nat}(hs:w.heap.size≤w'.heap.size)(hl:us.length=vs.length)(hv:v=.slice a vs.length c)(hlc:vs.length≤c)(hc:c≤maxLen)(hz:a=none→c=0)(h0:vs=[]→g=[])(ha:∀n,n<vs.length→a=some ⟨b,o,none⟩∧b<w.heap.size∧g=[b])(hC:CellsAre w' b o (us.length*3) (cf us)):RowF w' v us g:=by
 refine⟨a,c,by rw[hl];exact hv,by omega,hc,hz,fun e=>h0 (by have:=congrArg List.length e;rw[hl]at this;exact List.length_eq_zero_iff.1 this),fun hne=>?_⟩;have hp:0<vs.length:=by rw[←hl];exact List.length_pos_iff.2 hne
 obtain⟨e,hlt,hg⟩:=ha 0 hp;exact⟨b,o,e,by omega,hg,lies_cells.2 hC⟩
def CLF (w:World)(b o:Nat)(cs:List C2)(G:List (List Nat)):Prop:=
 ∀i x g,cs[i]?=some x→G[i]?=some g→∃u,w.cell? ⟨b,o+i*2,none⟩=some u∧RowF w u x.r g∧w.cell? ⟨b,o+i*2+1,none⟩=some (.int .i64 x.n)
theorem disj_of {b:Nat}{G:List (List Nat)}(h:(b::G.flatten).Nodup){i j:Nat}{g g':List Nat}(hi:G[i]?=some g)(hj:G[j]?=some g')(hne:i≠j):∀y∈g,y∉g':=by
 have h2:=(List.nodup_cons.1 h).2;rw[List.Nodup,List.pairwise_flatten]at h2;have h3:=List.pairwise_iff_getElem.1 h2.2;obtain⟨hi',rfl⟩:=gE1 hi;obtain⟨hj',rfl⟩:=gE1 hj;intro y hy hy';rcases Nat.lt_or_gt_of_ne hne with hlt|hlt
 ·exact h3 i j hi' hj' hlt y hy y hy' rfl
 ·exact h3 j i hj' hi' hlt y hy' y hy rfl
theorem head_out {b:Nat}{G:List (List Nat)}(h:(b::G.flatten).Nodup){i:Nat}{g:List Nat}(hi:G[i]?=some g):b∉g:=fun hb=>
 (List.nodup_cons.1 h).1 (List.mem_flatten.2 ⟨g,mg8 hi,hb⟩)
theorem RowsF.pick {w:World}{v:Value}{cs:List C2}{F:List Nat}(h:RowsF w v cs F):∃a c b o G,v=.slice a cs.length c∧cs.length≤c∧c≤maxLen∧(a=none→c=0)∧G.length=cs.length∧(cs=[]→F=[])∧CLF w b o cs G∧∀n,n<cs.length→a=some ⟨b,o,none⟩∧b<w.heap.size∧F=b::G.flatten:=by
 obtain⟨a,c,G,rfl,hl,hc,hz,hG,h0,h⟩:=h;by_cases hne:cs=[]
 ·exact⟨a,c,0,0,G,rfl,hl,hc,hz,hG,h0,fun i x g hx=>by rw[hne]at hx;simp at hx,fun k hk=>by rw[hne]at hk;simp at hk⟩
 ·obtain⟨b,o,rfl,hlt,hF,hL⟩:=h hne;exact⟨_,c,b,o,G,rfl,hl,hc,hz,hG,h0,hL,fun _ _=>⟨rfl,hlt,hF⟩⟩
end
section
open Go.RowKit Go.Deep
attribute [local go_sem↓] Go.wp_at_zero Go.wp_at_succ
theorem RowF.shape {w:World}{v:Value}{vs:List V3}{g:List Nat}(h:RowF w v vs g):∃a c,v=.slice a vs.length c:=by
 obtain⟨a,c,h,_⟩:=h;exact⟨a,c,h⟩
theorem CLF.at {w w':World}{b o:Nat}{cs:List C2}{G:List (List Nat)}(h:CLF w b o cs G)(hG:G.length=cs.length)(hlt:b<w.heap.size)(hb:Below w.heap.size w w'){k:Nat}(hk:k<cs.length):∃x u g,cs[k]?=some x∧G[k]?=some g∧w'.cell? ⟨b,o+k*2,none⟩=some u∧RowF w' u x.r g∧w'.cell? ⟨b,o+k*2+1,none⟩=some (.int .i64 x.n)∧b<w'.heap.size:=by
 have hk':k<G.length:=by omega
 obtain⟨u,h0,h1,h2⟩:=h k cs[k] G[k] (by simp) (by simp);exact⟨cs[k],u,G[k],by simp,by simp,(hb.cell (p:=⟨b,_,none⟩) hlt).trans h0,h1.keep hb.size (fun c hc=>hb.block c (h1.lt c hc)),(hb.cell (p:=⟨b,_,none⟩) hlt).trans h2,Nat.lt_of_lt_of_le hlt hb.size⟩
theorem RowF.below {w w':World}{v:Value}{vs:List V3}{g:List Nat}(h:RowF w v vs g)(hb:Below w.heap.size w w'):RowF w' v vs g:=h.keep hb.size fun c hc=>hb.block c (h.lt c hc)
theorem take_snoc {α:Type}{l:List α}{k:Nat}{x:α}(h:l[k]?=some x):l.take (k+1)=l.take k++ [x]:=by
 obtain⟨hk,rfl⟩:=gE1 h;exact List.take_succ_eq_append_getElem hk
end
end
end Go.Proofs.YtjhhmnjpojnoiaaGreatDoor
