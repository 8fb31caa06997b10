/- Own texts, joined: contracts that the law's proof goes by. -/
import Derived.Test.YtflokiejcjjbiaaGreatGLFits2
import Derived.Test.YtflokiejcjjbiaaGreatGLFits13
import Derived.Test.YtflokiejcjjbiaaGreatGLFits25
import Derived.Test.YtflokiejcjjbiaaGreatGLFits29
import Derived.Test.YtflokiejcjjbiaaGreatGLFits20
import Derived.Test.YtflokiejcjjbiaaGreatGLFits27
import Derived.Handy
import Derived.Deep.RegionHeld3
import Derived.Test.YtflokiejcjjbiaaGreatGLFits18
set_option maxHeartbeats 16000000
set_option maxRecDepth 100000
set_option linter.unusedVariables false
set_option linter.unusedSimpArgs false
namespace Go.Proofs.YtflokiejcjjbiaaGreat
section
open Go.RowKit Go.Deep Go.ChangeShapes Go.WideShapes
def RLF (w:World)(b o:Nat)(rs:List R3)(G:List (List Nat)):Prop:=
 ∀i x g,rs[i]?=some x→G[i]?=some g→∃u,w.cell? ⟨b,o+i*3,none⟩=some (.string x.s)∧w.cell? ⟨b,o+i*3+1,none⟩=some (.int .i64 x.W)∧w.cell? ⟨b,o+i*3+2,none⟩=some u∧RowsF w u x.cs g
def RelsF (w:World)(v:Value)(rs:List R3)(F:List Nat):Prop:=
 ∃ (a:Option Addr) (c:Nat) (G:List (List Nat)),v=.slice a rs.length c∧rs.length≤c∧c≤maxLen∧(a=none→c=0)∧G.length=rs.length∧(rs=[]→F=[])∧ (rs≠ []→∃b o,a=some ⟨b,o,none⟩∧b<w.heap.size∧F=b::G.flatten∧RLF w b o rs G)
theorem RelsF.is {w:World}{v:Value}{rs:List R3}{F:List Nat}(h:RelsF w v rs F):RelsIs w v rs:=by
 obtain⟨a,c,G,rfl,hl,hc,_,hG,_,h⟩:=h;refine⟨a,c,rfl,hl,hc,fun hne=>?_⟩;obtain⟨b,o,rfl,hlt,_,hL⟩:=h hne;refine⟨b,o,rfl,hlt,fun i x hx=>?_⟩;have hi:i<rs.length:=(gE1 hx).1;have hi':i<G.length:=by omega
 obtain⟨u,h0,h1,h2,h3⟩:=hL i x G[i] hx (by simp);exact⟨u,h0,h1,h2,h3.is⟩
theorem RelsF.lt {w:World}{v:Value}{rs:List R3}{F:List Nat}(h:RelsF w v rs F):∀b∈F,b<w.heap.size:=by
 obtain⟨a,c,G,rfl,hl,hc,_,hG,h0,h⟩:=h;intro x hx;by_cases hne:rs=[]
 ·rw[h0 hne]at hx;cases hx
 obtain⟨b,o,rfl,hlt,rfl,hL⟩:=h hne;rcases List.mem_cons.1 hx with rfl|hx
 ·exact hlt
 obtain⟨g,hg,hxg⟩:=List.mem_flatten.1 hx;obtain⟨i,hi,rfl⟩:=List.mem_iff_getElem.1 hg;have hi':i<rs.length:=by omega
 obtain⟨u,_,_,_,hk⟩:=hL i rs[i] G[i] (by simp) (by simp);exact hk.lt x hxg
theorem RLF.keep {w w':World}{b o:Nat}{rs:List R3}{G:List (List Nat)}(h:RLF w b o rs G)(hs:w.heap.size≤w'.heap.size)(hb:w'.heap[b]?=w.heap[b]?)(hF:∀x∈G.flatten,w'.heap[x]?=w.heap[x]?):RLF w' b o rs G:=fun i x g hx hg=>by
 obtain⟨u,a0,a1,a2,a3⟩:=h i x g hx hg;exact⟨u,(cb8 hb).trans a0,(cb8 hb).trans a1,(cb8 hb).trans a2,a3.keep hs fun y hy=>hF y (List.mem_flatten.2 ⟨g,mg8 hg,hy⟩)⟩
theorem RelsF.keep {w w':World}{v:Value}{rs:List R3}{F:List Nat}(h:RelsF w v rs F)(hs:w.heap.size≤w'.heap.size)(hF:∀b∈F,w'.heap[b]?=w.heap[b]?):RelsF w' v rs F:=by
 obtain⟨a,c,G,rfl,hl,hc,hz,hG,h0,h⟩:=h;refine⟨a,c,G,rfl,hl,hc,hz,hG,h0,fun hne=>?_⟩;obtain⟨b,o,rfl,hlt,rfl,hL⟩:=h hne;exact⟨b,o,rfl,Nat.lt_of_lt_of_le hlt hs,rfl,hL.keep hs (hF b List.mem_cons_self) fun x hx=>hF x (List.mem_cons_of_mem _ hx)⟩
theorem RelsF.below {w w':World}{v:Value}{rs:List R3}{F:List Nat}(h:RelsF w v rs F)(hb:Below w.heap.size w w'):RelsF w' v rs F:=h.keep hb.size fun b hF=>hb.block b (h.lt b hF)
theorem RelsF.pick {w:World}{v:Value}{rs:List R3}{F:List Nat}(h:RelsF w v rs F):∃a c b o G,v=.slice a rs.length c∧rs.length≤c∧c≤maxLen∧(a=none→c=0)∧G.length=rs.length∧(rs=[]→F=[])∧RLF w b o rs G∧∀n,n<rs.length→a=some ⟨b,o,none⟩∧b<w.heap.size∧F=b::G.flatten:=by
 obtain⟨a,c,G,rfl,hl,hc,hz,hG,h0,h⟩:=h;by_cases hne:rs=[]
 ·exact⟨a,c,0,0,G,rfl,hl,hc,hz,hG,h0,fun i x g hx=>by rw[hne]at hx;simp at hx,fun k hk=>by rw[hne]at hk;simp at hk⟩
 ·obtain⟨b,o,rfl,hlt,hF,hL⟩:=h hne;exact⟨_,c,b,o,G,rfl,hl,hc,hz,hG,h0,hL,fun _ _=>⟨rfl,hlt,hF⟩⟩
theorem RLF.at {w w':World}{b o:Nat}{rs:List R3}{G:List (List Nat)}(h:RLF w b o rs G)(hG:G.length=rs.length)(hlt:b<w.heap.size)(hb:Below w.heap.size w w'){k:Nat}(hk:k<rs.length):∃x u g,rs[k]?=some x∧w'.cell? ⟨b,o+k*3,none⟩=some (.string x.s)∧w'.cell? ⟨b,o+k*3+1,none⟩=some (.int .i64 x.W)∧w'.cell? ⟨b,o+k*3+2,none⟩=some u∧RowsF w' u x.cs g∧b<w'.heap.size:=by
 obtain⟨u,h0,h1,h2,h3⟩:=h k rs[k] (G[k]'(by omega)) (by simp[hk]) (by simp);have hbb:=hb.block b hlt;exact⟨rs[k],u,_,by simp[hk],(cb8 hbb).trans h0,(cb8 hbb).trans h1,(cb8 hbb).trans h2,h3.below hb,Nat.lt_of_lt_of_le hlt hb.size⟩
def rcs (us:List Value)(rs:List R3):List Value:=(us.zip rs).flatMap fun p=>[.string p.2.s,.int .i64 p.2.W,p.1]
theorem rcs_push {us:List Value}{rs:List R3}(h:us.length=rs.length)(u:Value)(x:R3):rcs (us++ [u]) (rs++ [x])=rcs us rs++ [.string x.s,.int .i64 x.W,u]:=by
 unfold rcs;rw[List.zip_append h,List.flatMap_append];simp
theorem rcs_at {us:List Value}{rs:List R3}(h:us.length=rs.length):∀ {i:Nat} {u:Value} {x:R3},us[i]?=some u→rs[i]?=some x→(rcs us rs)[i*3]?=some (.string x.s)∧(rcs us rs)[i*3+1]?=some (.int .i64 x.W)∧(rcs us rs)[i*3+2]?=some u:=by
 induction us generalizing rs with
 |nil=>intro i u x hu;simp at hu
 |cons v us ih=>
  cases rs with
  |nil=>simp at h
  |cons c rs=>
   intro i u x hu hx;have e:rcs (v::us) (c::rs)=.string c.s:: .int .i64 c.W::v::rcs us rs:=by unfold rcs;rw[List.zip_cons_cons,List.flatMap_cons];rfl
   rw[e];cases i with
   |zero=>simp at hu hx;subst hu hx;simp
   |succ i=>
    have:=ih (rs:=rs) (by simpa using h) (i:=i) (u:=u) (x:=x) (by simpa using hu) (by simpa using hx);rw[show(i+1)*3=i*3+1+1+1 from by omega]
    simpa using this
structure RelOwn (w:World)(N:Nat)(v:Value)(rs:List R3)(us:List Value)(G:List (List Nat)):Prop where
 own:w.ownsRow N 62 3 v rs.length (rcs us rs)
 ul:us.length=rs.length
 gl:G.length=rs.length
 row:∀ (i:Nat) (x:R3) (u:Value) (g:List Nat),rs[i]?=some x→us[i]?=some u→G[i]?=some g→RowsF w u x.cs g
 free:OwnB w N G.flatten
 out:∀b,v.ownBlock=some b→b∉G.flatten
section
variable {w w':World} {N:Nat} {v:Value} {rs:List R3} {us:List Value} {G:List (List Nat)}
theorem RelOwn.empty' {w:World}{N:Nat}(hN:N=w.heap.size):RelOwn (w.alloc (.cells #[] 62)) N (.slice (some ⟨N,0,none⟩) 0 0) [] [] []:=by
 subst hN;exact⟨⟨by simp[rcs],.inr ⟨w.heap.size,0,#[],rfl,Nat.le_refl _,heap_alloc_new w _,Nat.le_refl _,by simp,by simp,by simp[rcs]⟩⟩,rfl,rfl,fun i x u g hx=>by simp at hx,by simp[OwnB,Free],fun b _=>by simp⟩
theorem RelOwn.lt (h:RelOwn w N v rs us G):∀b∈G.flatten,b<w.heap.size:=by
 intro b hb;obtain⟨g,hg,hbg⟩:=List.mem_flatten.1 hb;obtain⟨i,hi,rfl⟩:=List.mem_iff_getElem.1 hg;have h1:=h.gl;have h2:=h.ul;have hi1:i<rs.length:=by omega
 have hi2:i<us.length:=by omega
 exact(h.row i rs[i] us[i] G[i] (by simp) (by simp) (by simp)).lt b hbg
theorem RelOwn.keep (h:RelOwn w N v rs us G)(hs:w.heap.size≤w'.heap.size)(hb:∀b,N≤b→b<w.heap.size→w'.heap[b]?=w.heap[b]?):RelOwn w' N v rs us G:=by
 have hk:∀b∈G.flatten,w'.heap[b]?=w.heap[b]?:=fun b hbG=>hb b (h.free.2.1 b hbG) (h.lt b hbG);refine⟨oK8 h.own fun b hv=>hb b (oL8 h.own b hv).1 (oL8 h.own b hv).2,h.ul,h.gl,fun i x u g hx hu hg=>(h.row i x u g hx hu hg).keep hs fun b hbg=>hk b (List.mem_flatten.2 ⟨g,mg8 hg,hbg⟩),h.free.keep hk,h.out⟩
theorem RelOwn.below (h:RelOwn w N v rs us G)(hb:Below w.heap.size w w'):RelOwn w' N v rs us G:=h.keep hb.size fun b _ hlt=>hb.block b hlt
theorem RelOwn.push {v' u:Value}{x:R3}{g:List Nat}(h:RelOwn w N v rs us G)(hR:RowsF w u x.cs g)(hO:OwnB w N g)(hd1:∀b∈G.flatten,b∉g)(hd2:∀b,v.ownBlock=some b→b∉g)(ho:w'.ownsRow N 62 3 v' (rs.length+1) (rcs us rs++ [.string x.s,.int .i64 x.W,u])) (hg:w.grownBy w' v.ownBlock) (hat:∀b,v'.ownBlock=some b→v.ownBlock=some b∨w.heap.size≤b):RelOwn w' N v' (rs++ [x]) (us++ [u]) (G++ [g]):=by
 have hG:=h.lt;have hm:∀b∈(G++ [g]).flatten,b∈G.flatten∨b∈g:=by intro b hb;simpa using hb
 have hlt:∀b∈(G++ [g]).flatten,b<w.heap.size:=fun b hb=>(hm b hb).elim (hG b) (hR.lt b);have hne:∀b∈(G++ [g]).flatten,some b≠v.ownBlock:=fun b hb e=>(hm b hb).elim (h.out b e.symm) (hd2 b e.symm);have hk:∀b∈(G++ [g]).flatten,w'.heap[b]?=w.heap[b]?:=fun b hb=>hg.block b (hlt b hb) (hne b hb);refine⟨?_,by simp[h.ul],by simp[h.gl],fun i y z q hy hz hq=>?_,?_,fun b hb=>?_⟩
 ·rw[rcs_push h.ul];simpa using ho
 ·by_cases hi:i<rs.length
  ·rw[List.getElem?_append_left hi]at hy;rw[List.getElem?_append_left (by rw[h.ul];exact hi)]at hz;rw[List.getElem?_append_left (by rw[h.gl];exact hi)]at hq;exact(h.row i y z q hy hz hq).keep hg.size fun b hb=>hk b (by simp;exact .inl ⟨q,mg8 hq,hb⟩)
  ·have hl:i<(rs++ [x]).length:=(gE1 hy).1;obtain rfl:i=rs.length:=by simp at hl;omega
   rw[List.getElem?_append_right (Nat.le_refl _)]at hy;rw[List.getElem?_append_right (by rw[h.ul];exact Nat.le_refl _)]at hz;rw[List.getElem?_append_right (by rw[h.gl];exact Nat.le_refl _)]at hq;simp[h.ul,h.gl]at hy hz hq;subst hy hz hq;exact hR.keep hg.size fun b hb=>hk b (by simp;exact .inr hb)
 ·refine OwnB.keep (w:=w) ⟨?_,fun b hb=>(hm b hb).elim (h.free.2.1 b) (hO.2.1 b),fun b hb=>(hm b hb).elim (h.free.2.2 b) (hO.2.2 b)⟩ hk;rw[List.flatten_append,List.nodup_append];refine⟨h.free.1,by simpa using hO.1,fun a ha b hb=>?_⟩;rintro rfl;exact hd1 a ha (by simpa using hb)
 ·intro hx;rcases hat b hb with e|e
  ·exact hne b hx e.symm
  ·have:=hlt b hx;omega
theorem RelOwn.shape (h:RelOwn w N v rs us G):∃a c,v=.slice a rs.length c:=by
 rcases h.own.2 with⟨rfl,h0⟩|⟨g,cap,cur,hv,_⟩
 ·exact⟨none,0,by rw[h0]⟩
 ·exact⟨_,cap,hv⟩
theorem RelOwn.relsF (h:RelOwn w N v rs us G):∃F,RelsF w v rs F∧OwnB w N F:=by
 have hlt:=oL8 h.own;have hGl:=h.lt;by_cases hne:rs=[]
 ·refine⟨[],?_,by simp[OwnB,Free]⟩;have hgl:=h.gl;subst hne;rcases h.own.2 with⟨rfl,_⟩|⟨g,cap,cur,rfl,_,_,hn,hm,_⟩
  ·exact⟨none,0,G,rfl,Nat.le_refl _,by simp,fun _=>rfl,hgl,fun _=>rfl,fun x=>absurd rfl x⟩
  ·exact⟨_,cap,G,rfl,hn,hm,(fun x=>by cases x),hgl,fun _=>rfl,fun x=>absurd rfl x⟩
 have hp:0<rs.length:=List.length_pos_iff.2 hne;obtain⟨hl,ho⟩:=h.own;rcases ho with⟨_,h0⟩|⟨g,cap,cur,rfl,hg,hc,hn,hm,hs,ht⟩
 ·omega
 have hgo:g∉G.flatten:=h.out g rfl;refine⟨g::G.flatten,⟨_,cap,G,rfl,hn,hm,(fun x=>by cases x),h.gl,fun x=>absurd x hne,fun _=>⟨g,0,rfl,(hlt g rfl).2,rfl,fun i x q hx hq=>?_⟩⟩,List.nodup_cons.2 ⟨hgo,h.free.1⟩,fun b hb=>?_,fun b hb o=>?_⟩
 ·have hi:i<rs.length:=(gE1 hx).1;have hiu:i<us.length:=by rw[h.ul];exact hi
  obtain⟨e0,e1,e2⟩:=rcs_at h.ul (i:=i) (u:=us[i]) (x:=x) (by simp) hx;have get:∀j u,j<rs.length*3→(rcs us rs)[j]?=some u→w.cell? ⟨g,j,none⟩=some u:=by
   intro j u hj hu;simp only[World.cell?,hc];rw[←ht,List.getElem?_take,if_pos hj,Array.getElem?_toList]at hu
   simpa using hu
  exact⟨us[i],by rw[Nat.zero_add];exact get _ _ (by omega) e0,by rw[Nat.zero_add];exact get _ _ (by omega) e1,by rw[Nat.zero_add];exact get _ _ (by omega) e2,h.row i x us[i] q hx (by simp) hq⟩
 ·rcases List.mem_cons.1 hb with rfl|hb
  ·exact hg
  ·exact h.free.2.1 b hb
 ·rcases List.mem_cons.1 hb with rfl|hb
  ·simp[World.frozen?,hc]
  ·exact h.free.2.2 b hb o
end
end
section
open Go.RowKit
theorem l04Rel_any (s:ByteArray)(v:Value)(rs:List R3)(F:List Nat)(w:World)(hr:RelsF w v rs F):Calls Tryz.prog 45 #[v,.string s] w fun e w'=>(∃ (W:Int) (u:Value),e=.returned (.tuple #[.agg #[.int .i64 W,u],.bool (relOf rs s).isSome])∧(∃a l c,u=.slice a l c)∧∀x,relOf rs s=some x→W=x.W∧∃g,RowsF w' u x.cs g)∧Below w.heap.size w w':=by
 obtain⟨a,c,b,o,G,rfl,hl,hc,_,hG,_,hC,ha⟩:=hr.pick;unfold maxLen at hc;clear hr;go_enter Tryz.func45,Tryz.ntmps45;go_wp2_with fail;go_loopw [6] (fun i wr=> ∃k:Nat,k≤rs.length∧i=.int .i64 k∧Below w.heap.size w wr∧w.heap.size<wr.heap.size∧wr.cell? ⟨w.heap.size,0,none⟩=some (.int .i64 0)∧wr.cell? ⟨w.heap.size,1,none⟩=some (.slice none 0 0)∧(∀q,wr.frozen? ⟨w.heap.size,q,none⟩=false)∧relOf rs s=relOf (rs.drop k) s) (fun i _=>rs.length - (intOf i).toNat)
 case atStart=>exact⟨0,Nat.zero_le _,rfl,bex,by simp,by go_simp,by go_simp,fun q=>by go_simp,by simp⟩
 case round=>
  obtain⟨k,hk,rfl,hb,hsz,r0,r1,rf,heq⟩:=hrel;have HE:Hid (relOf rs s=relOf (rs.drop k) s):=heq;clear heq;by_cases hlt:k<rs.length
  ·obtain⟨rfl,hblt,_⟩:=ha k hlt;have hkG:k<G.length:=by omega
   have hx:rs[k]?=some rs[k]:=by simp
   obtain⟨u,q0,q1,q2,hR0⟩:=hC k rs[k] G[k] hx (by simp);have c0:=(hb.cell (p:=⟨b,_,none⟩) hblt).trans q0;have c1:=(hb.cell (p:=⟨b,_,none⟩) hblt).trans q1;have c2:=(hb.cell (p:=⟨b,_,none⟩) hblt).trans q2;have hR:=hR0.below hb;have hgl:=hR0.lt;have hbr:b<wr.heap.size:=by omega
   generalize rs[k]=x at hx c0 c1 c2 hR;generalize G[k]=g at hR hgl;clear hR0 q0 q1 q2;have HS:Hid (relOf (rs.drop k) s=if(x.s.toList==s.toList)=true then some x else relOf (rs.drop (k+1)) s):=relOf_step hx;obtain⟨au,lu,cu,rfl⟩:=hR.is.shape;clear ha hC hx;cases hh:(x.s.toList==s.toList)with
   |true=>
    have HF:Hid (relOf rs s=some x):=by show _=_;rw[HE.out,HS.out,hh];rfl
    have hbW:b≠w.heap.size:=by omega
    go_wp2_with fail;refine bodyPost_ret (v:=.tuple #[.agg #[.int .i64 x.W,.slice au lu cu],.bool true]) (by simp[results,Tryz.results45,go_sem, *]) rfl ⟨⟨x.W,.slice au lu cu,by rw[HF.out];rfl,⟨_,_,_,rfl⟩,fun x' hx'=>?_⟩,?_⟩
    ·rw[HF.out]at hx';obtain rfl:x=x':=by simpa using hx'
     refine⟨rfl,g,hR.keep (by simp) fun q hq=>?_⟩;have:=hgl q hq
     iterate 2 rw[bS8 _ _ _ _ (by simp;omega)]
    ·repeat (first|(with_reducible exact hb)|(with_reducible refine Below.setCell ?_ ?hh _;case hh=>(simp;try omega)))
   |false=>
    have HF:Hid (relOf (rs.drop k) s=relOf (rs.drop (k+1)) s):=by show _=_;rw[HS.out,hh];rfl
    go_wp2_with fail;exact⟨⟨k+1,hlt,by simp,hb,hsz,r0,r1,rf,by rw[HE.out,HF.out]⟩,by simp[intOf];omega⟩
  ·obtain rfl:k=rs.length:=by omega
   have HT:Hid (relOf rs s=none):=by show _=_;rw[HE.out,List.drop_length];rfl
   clear ha hC;go_wp2_with fail;refine bodyPost_ret (v:=.tuple #[.agg #[.int .i64 0,.slice none 0 0],.bool false]) (by simp[results,Tryz.results45,go_sem, *]) rfl ⟨⟨0,.slice none 0 0,by rw[HT.out];rfl,⟨_,_,_,rfl⟩,fun x' hx'=>by rw[HT.out]at hx';cases hx'⟩,?_⟩;repeat (first|(with_reducible exact hb)|(with_reducible refine Below.setCell ?_ ?hh _;case hh=>(simp;try omega)))
end
section
open Go.RowKit Go.Deep
structure HalfRF (w:World)(B0:Nat)(rs:List R3)(k:Nat)(G:List (List Nat)):Prop where
 row:∃f,w.rowIs B0 62 (rs.length*3) f∧∀i x g,i<k→rs[i]?=some x→G[i]?=some g→f (i*3)=.string x.s∧f (i*3+1)=.int .i64 x.W∧RowsF w (f (i*3+2)) x.cs g
 gl:G.length=k
 kl:k≤rs.length
 own:OwnB w (B0+1) G.flatten
theorem HalfRF.cells {w:World}{B:Nat}{rs:List R3}{k:Nat}{G:List (List Nat)}(h:HalfRF w B rs k G)(hk:k<rs.length):(∃u,w.cell? ⟨B,k*3,none⟩=some u)∧(∃u,w.cell? ⟨B,k*3+1,none⟩=some u)∧(∃u,w.cell? ⟨B,k*3+2,none⟩=some u)∧(∀i,w.frozen? ⟨B,i,none⟩=false)∧B<w.heap.size:=by
 obtain⟨f,h,_⟩:=h.row;exact⟨⟨_,h.cell (by omega)⟩,⟨_,h.cell (by omega)⟩,⟨_,h.cell (by omega)⟩,fun i=>h.frozen i,h.lt⟩
theorem HalfRF.lt {w:World}{B:Nat}{rs:List R3}{k:Nat}{G:List (List Nat)}(h:HalfRF w B rs k G):∀b∈G.flatten,b<w.heap.size:=by
 intro b hb;obtain⟨g,hg,hbg⟩:=List.mem_flatten.1 hb;obtain⟨i,hi,rfl⟩:=List.mem_iff_getElem.1 hg;have h1:=h.gl;have h2:=h.kl;obtain⟨f,_,he⟩:=h.row;have hi':i<rs.length:=by omega
 exact(he i rs[i] G[i] (by omega) (by simp) (by simp)).2.2.lt b hbg
theorem HalfRF.below {w w':World}{B:Nat}{rs:List R3}{k:Nat}{G:List (List Nat)}(h:HalfRF w B rs k G)(hb:Below w.heap.size w w'):HalfRF w' B rs k G:=by
 have hlt:=h.lt;obtain⟨⟨f,hf,he⟩,gl,kl,own⟩:=h;refine⟨⟨f,hf.of_block (hb.block _ hf.lt),fun i x g hi hx hg=>?_⟩,gl,kl,own.below hlt hb⟩;obtain⟨h0,h1,h2⟩:=he i x g hi hx hg;exact⟨h0,h1,h2.below hb⟩
theorem HalfRF.step {w:World}{B:Nat}{rs:List R3}{k:Nat}{G:List (List Nat)}{x:R3}{u:Value}{g:List Nat}{M:Nat}(h:HalfRF w B rs k G)(hx:rs[k]?=some x)(hR:RowsF w u x.cs g)(hO:OwnB w M g)(hM:B<M)(hd:∀b∈G.flatten,b<M):HalfRF (((w.setCell ⟨B,k*3,none⟩ (.string x.s)).setCell ⟨B,k*3+1,none⟩ (.int .i64 x.W)).setCell ⟨B,k*3+2,none⟩ u) B rs (k+1) (G++ [g]):=by
 obtain⟨⟨f,hf,he⟩,gl,kl,own⟩:=h;have hblk:∀b,B<b→(((w.setCell ⟨B,k*3,none⟩ (.string x.s)).setCell ⟨B,k*3+1,none⟩ (.int .i64 x.W)).setCell ⟨B,k*3+2,none⟩ u).heap[b]?=w.heap[b]?:=by
  intro b hb;repeat rw[bS8 _ _ _ _ (by show b≠B;omega)]
 refine⟨⟨_,((hf.set _ _).set _ _).set _ _,fun i y g' hi hy hg'=>?_⟩,by simp[gl],(gE1 hx).1,?_⟩
 ·by_cases e:i=k
  ·subst e;obtain rfl:y=x:=by rw[hx]at hy;exact(Option.some.inj hy).symm
   obtain rfl:g'=g:=by rw[List.getElem?_append_right (by omega),gl]at hg';simp at hg';exact hg'.symm
   refine⟨by simp,by simp,?_⟩;simp only[if_true];exact hR.keep (by simp) fun b hb=>hblk b (by have:=hO.2.1 b hb;omega)
  ·have n:∀p q:Nat,p<3→q<3→i*3+p≠k*3+q:=by intro p q hp hq;omega
   have n0:∀q:Nat,q<3→i*3≠k*3+q:=by intro q hq;omega
   have n1:∀p:Nat,p<3→i*3+p≠k*3:=by intro q hq;omega
   have n2:i*3≠k*3:=by omega
   rw[List.getElem?_append_left (by omega)]at hg';obtain⟨h0,h1,h2⟩:=he i y g' (by omega) hy hg';refine⟨?_,?_,?_⟩
   ·simp only[if_neg n2,if_neg (n0 1 (by omega)),if_neg (n0 2 (by omega))];exact h0
   ·simp only[if_neg (n1 1 (by omega)),if_neg (n 1 1 (by omega) (by omega)),if_neg (n 1 2 (by omega) (by omega))];exact h1
   ·simp only[if_neg (n1 2 (by omega)),if_neg (n 2 1 (by omega) (by omega)),if_neg (n 2 2 (by omega) (by omega))];exact h2.keep (by simp) fun b hb=>hblk b (by have:=own.2.1 b (List.mem_flatten.2 ⟨g',mg8 hg',hb⟩);omega)
 ·have hm:∀b∈(G++ [g]).flatten,b∈G.flatten∨b∈g:=by intro b hb;simpa using hb
  have hgt:∀b∈(G++ [g]).flatten,B+1≤b:=fun b hb=>(hm b hb).elim (own.2.1 b) (fun h=>by have:=hO.2.1 b h;omega);refine OwnB.keep (w:=w) ⟨?_,hgt,fun b hb=>(hm b hb).elim (own.2.2 b) (hO.2.2 b)⟩ fun b hb=>hblk b (hgt b hb);rw[List.flatten_append,List.nodup_append];refine⟨own.1,by simpa using hO.1,fun a ha b hb=>?_⟩;rintro rfl;have h1:=hd a ha;have h2:=hO.2.1 a (by simpa using hb);omega
theorem HalfRF.relsF {w:World}{B:Nat}{rs:List R3}{G:List (List Nat)}(h:HalfRF w B rs rs.length G)(hn:wtR rs≤1048576):∃F,RelsF w (.slice (some ⟨B,0,none⟩) rs.length rs.length) rs F∧OwnB w B F:=by
 obtain⟨⟨f,hf,he⟩,gl,kl,own⟩:=h;have hm:rs.length≤maxLen:=by unfold wtR at hn;unfold maxLen;omega
 by_cases hne:rs=[]
 ·exact⟨[],⟨_,_,G,rfl,Nat.le_refl _,hm,(fun x=>by cases x),gl,fun _=>rfl,fun x=>absurd hne x⟩,by simp[OwnB,Free]⟩
 refine⟨B::G.flatten,⟨_,_,G,rfl,Nat.le_refl _,hm,(fun x=>by cases x),gl,fun x=>absurd x hne,fun _=>⟨B,0,rfl,hf.lt,rfl,fun i x g hx hg=>?_⟩⟩,List.nodup_cons.2 ⟨fun hb=>by have:=own.2.1 B hb;omega,own.1⟩,fun b hb=>?_,fun b hb o=>?_⟩
 ·have hi:i<rs.length:=(gE1 hx).1;obtain⟨e0,e1,e2⟩:=he i x g hi hx hg;exact⟨_,by rw[Nat.zero_add,hf.cell (by omega),e0],by rw[Nat.zero_add,hf.cell (by omega),e1],by rw[Nat.zero_add,hf.cell (by omega)],e2⟩
 ·rcases List.mem_cons.1 hb with rfl|hb
  ·exact Nat.le_refl _
  ·have:=own.2.1 b hb;omega
 ·rcases List.mem_cons.1 hb with rfl|hb
  ·exact hf.frozen o
  ·exact own.2.2 b hb o
theorem halfRF_made (w:World)(z:Array Value)(rs:List R3):HalfRF (w.alloc (.cells (madeCells z (rs.length*3)) 62)) w.heap.size rs 0 []:=
 ⟨⟨fun i=>(madeCells z (rs.length*3))[i]?.getD undef,⟨_,blk_alloc_new _ _,size_madeCells _ _,fun i hi=>by
  have:i<(madeCells z (rs.length*3)).size:=by rw[size_madeCells];exact hi
  simp[this]⟩,fun i x g hi=>by omega⟩,rfl,Nat.zero_le _,by simp[OwnB,Free]⟩
theorem toRel_F (s:ByteArray)(W:Int)(v:Value)(cs:List C2)(w:World)(hr:RowsIs w v cs)(hn:wtb cs≤1048576):Calls Tryz.prog 19 #[.agg #[.string s,.int .i64 W,v]] w fun e w'=>(∃a l c F,e=.returned (.agg #[.string s,.int .i64 W,.slice a l c])∧RowsF w' (.slice a l c) cs F∧OwnB w' w.heap.size F)∧Below w.heap.size w w':=
 (toRel_any s W v cs w hr hn).mono fun e w' ⟨⟨B,g,hB,he,h⟩,hb⟩=>by
  obtain⟨F,h1,h2⟩:=h.rowsF (wtb_rows hn).1 (wtb_rows hn).2;exact⟨⟨_,_,_,F,he,h1,h2.1,fun b hb=>Nat.le_trans hB (h2.2.1 b hb),h2.2.2⟩,hb⟩
theorem toRelS_F (v:Value)(rs:List R3)(w:World)(hr:RelsIs w v rs)(hn:wtR rs≤1048576):Calls Tryz.prog 7 #[v] w fun e w'=>(∃u F,e=.returned u∧RelsF w' u rs F∧OwnB w' w.heap.size F)∧Below w.heap.size w w':=by
 obtain⟨a,c,b,o,rfl,hl,hc,ha⟩:=hr.pick;unfold maxLen at hc;clear hr;have hn1:rs.length≤1048576:=by unfold wtR at hn;omega
 have hmk:=run_make_wide (P:=Tryz.prog) 34 62 _ 3 48 Tryz.underlying34 Tryz.infoRel rs.length (by omega) (by omega);go_enter Tryz.func7,Tryz.ntmps7;go_wp2;go_loopw [4] (fun i wr=> ∃ (k:Nat) (G:List (List Nat)),k≤rs.length∧i=.int .i64 k∧Below w.heap.size w wr∧HalfRF wr w.heap.size rs k G) (fun i _=>rs.length - (intOf i).toNat)
 case atStart=>exact⟨0,[],Nat.zero_le _,rfl,by go_grown,halfRF_made _ _ _⟩
 case round=>
  obtain⟨k,G,hk,rfl,hb,hH⟩:=hrel;clear hmk;by_cases hlt:k<rs.length
  ·have hzb:=hb.size;obtain⟨rfl,hblt,hL⟩:=ha k hlt;obtain⟨x,u,hx,c0,c1,c2,hR,hbr⟩:=hL.at hblt hb hlt;have HX:Hid (rs[k]?=some x):=hx;have hxn:wtb x.cs≤1048576:=by have:=wtr_mem (mg8 hx);unfold wtr at this;unfold wtR at hn;omega
   have hBr:=(hH.cells hlt).2.2.2.2;have hGl:=hH.lt;clear ha hL hx;go_wp2_with(go_at_call 19;refine(toRel_F _ _ _ _ _ hR hxn).mono ?_;rintro e w1 ⟨⟨a1,l1,d1,g,rfl,hRD,hOD⟩,hb1⟩;have hz1:=hb1.size;have hH1:=hH.below hb1;obtain⟨⟨y0,g0⟩,⟨y1,g1⟩,⟨y2,g2⟩,gf,gs⟩:=hH1.cells hlt);refine⟨⟨k+1,_,hlt,by simp,bela,hH1.step HX.out hRD hOD (by omega) hGl⟩,by simp[intOf];omega⟩
  ·go_wp2;go_returns;obtain rfl:k=rs.length:=by omega
   obtain⟨F,h1,h2⟩:=hH.relsF hn;exact⟨⟨_,F,rfl,h1,h2⟩,hb⟩
end
end Go.Proofs.YtflokiejcjjbiaaGreat
