/- Own texts, joined: contracts that the law's proof goes by. -/
import Derived.Test.YtflokiejcjjbiaaGreatGLFits2
import Derived.Test.YtflokiejcjjbiaaGreatGLFits44
import Derived.Test.YtflokiejcjjbiaaGreatGLFits47
import Derived.Handy
import Derived.Deep.RegionHeld3
import Derived.Test.YtflokiejcjjbiaaGreatGLFits19
import Derived.Test.YtflokiejcjjbiaaGreatGLFits38
import Derived.Test.YtflokiejcjjbiaaGreatGLFits35
import Derived.Test.YtflokiejcjjbiaaGreatGLFits31
import Derived.Test.YtflokiejcjjbiaaGreatGLFits27
import Derived.Maps.AppendAt
set_option maxHeartbeats 16000000
set_option maxRecDepth 100000
set_option linter.unusedVariables false
set_option linter.unusedSimpArgs false
namespace Go.Proofs.YtflokiejcjjbiaaGreat
section
open Go.RowKit
structure B2 where
 W:Int
 cs:List C2
def bcs (us:List Value)(rs:List B2):List Value:=(us.zip rs).flatMap fun p=>[.int .i64 p.2.W,p.1]
theorem bcs_push {us:List Value}{rs:List B2}(h:us.length=rs.length)(u:Value)(x:B2):bcs (us++ [u]) (rs++ [x])=bcs us rs++ [.int .i64 x.W,u]:=by
 unfold bcs;rw[List.zip_append h,List.flatMap_append];simp
theorem bcs_at {us:List Value}{rs:List B2}(h:us.length=rs.length):∀ {i:Nat} {u:Value} {x:B2},us[i]?=some u→rs[i]?=some x→(bcs us rs)[i*2]?=some (.int .i64 x.W)∧(bcs us rs)[i*2+1]?=some u:=by
 induction us generalizing rs with
 |nil=>intro i u x hu;simp at hu
 |cons v us ih=>
  cases rs with
  |nil=>simp at h
  |cons c rs=>
   intro i u x hu hx;have e:bcs (v::us) (c::rs)=.int .i64 c.W::v::bcs us rs:=by unfold bcs;rw[List.zip_cons_cons,List.flatMap_cons];rfl
   rw[e];cases i with
   |zero=>simp at hu hx;subst hu hx;simp
   |succ i=>
    have:=ih (rs:=rs) (by simpa using h) (i:=i) (u:=u) (x:=x) (by simpa using hu) (by simpa using hx);rw[show(i+1)*2=i*2+1+1 from by omega]
    simpa using this
structure BgsOwn (w:World)(N:Nat)(v:Value)(rs:List B2)(us:List Value)(G:List (List Nat)):Prop where
 own:w.ownsRow N 60 2 v rs.length (bcs us rs)
 ul:us.length=rs.length
 gl:G.length=rs.length
 row:∀ (i:Nat) (x:B2) (u:Value) (g:List Nat),rs[i]?=some x→us[i]?=some u→G[i]?=some g→RowsF w u x.cs g
 free:OwnB w N G.flatten
 out:∀b,v.ownBlock=some b→b∉G.flatten
section
variable {w w':World} {N:Nat} {v:Value} {rs:List B2} {us:List Value} {G:List (List Nat)}
theorem BgsOwn.empty' {w:World}{N:Nat}(hN:N=w.heap.size):BgsOwn (w.alloc (.cells #[] 60)) N (.slice (some ⟨N,0,none⟩) 0 0) [] [] []:=by
 subst hN;exact⟨⟨by simp[bcs],.inr ⟨w.heap.size,0,#[],rfl,Nat.le_refl _,heap_alloc_new w _,Nat.le_refl _,by simp,by simp,by simp[bcs]⟩⟩,rfl,rfl,fun i x u g hx=>by simp at hx,by simp[OwnB,Free],fun b _=>by simp⟩
theorem BgsOwn.lt (h:BgsOwn w N v rs us G):∀b∈G.flatten,b<w.heap.size:=by
 intro b hb;obtain⟨g,hg,hbg⟩:=List.mem_flatten.1 hb;obtain⟨i,hi,rfl⟩:=List.mem_iff_getElem.1 hg;have h1:=h.gl;have h2:=h.ul;have hi1:i<rs.length:=by omega
 have hi2:i<us.length:=by omega
 exact(h.row i rs[i] us[i] G[i] (by simp) (by simp) (by simp)).lt b hbg
theorem BgsOwn.keep (h:BgsOwn w N v rs us G)(hs:w.heap.size≤w'.heap.size)(hb:∀b,N≤b→b<w.heap.size→w'.heap[b]?=w.heap[b]?):BgsOwn w' N v rs us G:=by
 have hk:∀b∈G.flatten,w'.heap[b]?=w.heap[b]?:=fun b hbG=>hb b (h.free.2.1 b hbG) (h.lt b hbG);refine⟨oK8 h.own fun b hv=>hb b (oL8 h.own b hv).1 (oL8 h.own b hv).2,h.ul,h.gl,fun i x u g hx hu hg=>(h.row i x u g hx hu hg).keep hs fun b hbg=>hk b (List.mem_flatten.2 ⟨g,mg8 hg,hbg⟩),h.free.keep hk,h.out⟩
theorem BgsOwn.below (h:BgsOwn w N v rs us G)(hb:Below w.heap.size w w'):BgsOwn w' N v rs us G:=h.keep hb.size fun b _ hlt=>hb.block b hlt
theorem BgsOwn.push {v' u:Value}{x:B2}{g:List Nat}(h:BgsOwn w N v rs us G)(hR:RowsF w u x.cs g)(hO:OwnB w N g)(hd1:∀b∈G.flatten,b∉g)(hd2:∀b,v.ownBlock=some b→b∉g)(ho:w'.ownsRow N 60 2 v' (rs.length+1) (bcs us rs++ [.int .i64 x.W,u])) (hg:w.grownBy w' v.ownBlock) (hat:∀b,v'.ownBlock=some b→v.ownBlock=some b∨w.heap.size≤b):BgsOwn w' N v' (rs++ [x]) (us++ [u]) (G++ [g]):=by
 have hG:=h.lt;have hm:∀b∈(G++ [g]).flatten,b∈G.flatten∨b∈g:=by intro b hb;simpa using hb
 have hlt:∀b∈(G++ [g]).flatten,b<w.heap.size:=fun b hb=>(hm b hb).elim (hG b) (hR.lt b);have hne:∀b∈(G++ [g]).flatten,some b≠v.ownBlock:=fun b hb e=>(hm b hb).elim (h.out b e.symm) (hd2 b e.symm);have hk:∀b∈(G++ [g]).flatten,w'.heap[b]?=w.heap[b]?:=fun b hb=>hg.block b (hlt b hb) (hne b hb);refine⟨?_,by simp[h.ul],by simp[h.gl],fun i y z q hy hz hq=>?_,?_,fun b hb=>?_⟩
 ·rw[bcs_push h.ul];simpa using ho
 ·by_cases hi:i<rs.length
  ·rw[List.getElem?_append_left hi]at hy;rw[List.getElem?_append_left (by rw[h.ul];exact hi)]at hz;rw[List.getElem?_append_left (by rw[h.gl];exact hi)]at hq;exact(h.row i y z q hy hz hq).keep hg.size fun b hb=>hk b (by simp;exact .inl ⟨q,mg8 hq,hb⟩)
  ·have hl:i<(rs++ [x]).length:=(gE1 hy).1;obtain rfl:i=rs.length:=by simp at hl;omega
   rw[List.getElem?_append_right (Nat.le_refl _)]at hy;rw[List.getElem?_append_right (by rw[h.ul];exact Nat.le_refl _)]at hz;rw[List.getElem?_append_right (by rw[h.gl];exact Nat.le_refl _)]at hq;simp[h.ul,h.gl]at hy hz hq;subst hy hz hq;exact hR.keep hg.size fun b hb=>hk b (by simp;exact .inr hb)
 ·refine OwnB.keep (w:=w) ⟨?_,fun b hb=>(hm b hb).elim (h.free.2.1 b) (hO.2.1 b),fun b hb=>(hm b hb).elim (h.free.2.2 b) (hO.2.2 b)⟩ hk;rw[List.flatten_append,List.nodup_append];refine⟨h.free.1,by simpa using hO.1,fun a ha b hb=>?_⟩;rintro rfl;exact hd1 a ha (by simpa using hb)
 ·intro hx;rcases hat b hb with e|e
  ·exact hne b hx e.symm
  ·have:=hlt b hx;omega
theorem BgsOwn.shape (h:BgsOwn w N v rs us G):∃a c,v=.slice a rs.length c:=by
 rcases h.own.2 with⟨rfl,h0⟩|⟨g,cap,cur,hv,_⟩
 ·exact⟨none,0,by rw[h0]⟩
 ·exact⟨_,cap,hv⟩
theorem BgsOwn.at (h:BgsOwn w N v rs us G){i:Nat}{x:B2}(hx:rs[i]?=some x):∃gl cap u g,v=.slice (some ⟨gl,0,none⟩) rs.length cap∧gl<w.heap.size∧rs.length≤cap∧cap≤maxLen∧w.cell? ⟨gl,i*2,none⟩=some (.int .i64 x.W)∧w.cell? ⟨gl,i*2+1,none⟩=some u∧RowsF w u x.cs g:=by
 have hi:i<rs.length:=(gE1 hx).1;have hlt:=oL8 h.own;obtain⟨hl,ho⟩:=h.own;rcases ho with⟨_,h0⟩|⟨g,cap,cur,rfl,hg,hc,hn,hm,hs,ht⟩
 ·omega
 have h1:=h.ul;have h2:=h.gl;have hiu:i<us.length:=by omega
 have hiG:i<G.length:=by omega
 obtain⟨e0,e1⟩:=bcs_at h.ul (i:=i) (u:=us[i]) (x:=x) (by simp) hx;have get:∀j u,j<rs.length*2→(bcs us rs)[j]?=some u→w.cell? ⟨g,j,none⟩=some u:=by
  intro j u hj hu;simp only[World.cell?,hc];rw[←ht,List.getElem?_take,if_pos hj,Array.getElem?_toList]at hu
  simpa using hu
 exact⟨g,cap,us[i],G[i],rfl,(hlt g rfl).2,hn,hm,get _ _ (by omega) e0,get _ _ (by omega) e1,h.row i x us[i] G[i] hx (by simp) (by simp)⟩
end
end
section
open Go.RowKit
theorem nb0 (m:Nat):((0:Int)<(m:Int))↔¬m=0:=by omega
theorem nbI (m:Nat)(k:Int):((m:Int)==k)=decide ((m:Int)=k):=rfl
theorem l04Form_0 (k:Int)(s:ByteArray)(e:E7)(n:Int)(a1 a2 a3:Option Addr)(le c1 ls c2 lk c3:Nat)(w:World)(bn:Bool)(kk:Int)(hls:ls≤maxLen)(hlk:lk≤maxLen)(hN:∀w2,Calls Tryz.prog 66 #[(.agg #[.int .i64 e.k,.int .i64 e.n,.int .i64 e.v.k,.int .i64 e.v.n,.string e.v.s,.string e.p,(.slice a1 le c1)])] w2 fun x w'=>x=.returned (.bool bn)∧Below w2.heap.size w2 w')(hK:∀w2,Calls Tryz.prog 67 #[.int .i64 (0)] w2 fun x w'=>x=.returned (.int .i64 kk)∧Below w2.heap.size w2 w'):Calls Tryz.prog 44 #[.agg #[.int .i64 (0),.string s,.int .i64 e.k,.int .i64 e.n,.int .i64 e.v.k,.int .i64 e.v.n,.string e.v.s,.string e.p,.slice a1 le c1,.slice a2 ls c2,.int .i64 n,.slice a3 lk c3]] w fun x w'=>x=.returned (.bool ((((0):Int)==0||s.toList==[]) && ((((0):Int)==1||((0):Int)==3||bn) && ((((0):Int)==2||((0):Int)==6||ls==0) && ((((0):Int)==6||n==0) && ((lk:Int)==kk))))))∧Below w.heap.size w w':=by
  unfold maxLen at hls hlk;go_enter Tryz.func44,Tryz.ntmps44;go_wp2_with(first|(go_at_call 66;refine cM8 (hN _) ?_;rintro y w1 ⟨rfl,hb1⟩;have hz1:=hb1.size;simp at hz1;have q0:w1.cell? ⟨w.heap.size,0,none⟩=some (.int .i64 (0)):=cL8 hb1 (by go_simp);have q9:w1.cell? ⟨w.heap.size,9,none⟩=some (.slice a2 ls c2):=cL8 hb1 (by go_simp);have q10:w1.cell? ⟨w.heap.size,10,none⟩=some (.int .i64 n):=cL8 hb1 (by go_simp);have q11:w1.cell? ⟨w.heap.size,11,none⟩=some (.slice a3 lk c3):=cL8 hb1 (by go_simp);have bel1:Below w.heap.size w w1:=bex;clear hb1)|fail);all_goals(try(go_region_held3 (fun w'=>w'.cell? ⟨w.heap.size,0,none⟩=some (.int .i64 (0))∧w'.cell? ⟨w.heap.size,11,none⟩=some (.slice a3 lk c3)) (refine⟨?_,?_⟩<;>first|(go_simp;done)|assumption|(exact cL8 (by assumption) (by go_simp))) (first|(go_at_call 67;refine cM8 (hK _) ?_;rintro y w2 ⟨rfl,hb2⟩;have hz2:=hb2.size;(try simp at hz2)))))
  all_goals(try go_wp2_with fail)
  all_goals(go_returns;exact⟨rB8 (by clear hN hK;simp_all [nb0,nbI]),bex⟩)
theorem l04Form_1 (k:Int)(s:ByteArray)(e:E7)(n:Int)(a1 a2 a3:Option Addr)(le c1 ls c2 lk c3:Nat)(w:World)(bn:Bool)(kk:Int)(hls:ls≤maxLen)(hlk:lk≤maxLen)(hN:∀w2,Calls Tryz.prog 66 #[(.agg #[.int .i64 e.k,.int .i64 e.n,.int .i64 e.v.k,.int .i64 e.v.n,.string e.v.s,.string e.p,(.slice a1 le c1)])] w2 fun x w'=>x=.returned (.bool bn)∧Below w2.heap.size w2 w')(hK:∀w2,Calls Tryz.prog 67 #[.int .i64 (1)] w2 fun x w'=>x=.returned (.int .i64 kk)∧Below w2.heap.size w2 w'):Calls Tryz.prog 44 #[.agg #[.int .i64 (1),.string s,.int .i64 e.k,.int .i64 e.n,.int .i64 e.v.k,.int .i64 e.v.n,.string e.v.s,.string e.p,.slice a1 le c1,.slice a2 ls c2,.int .i64 n,.slice a3 lk c3]] w fun x w'=>x=.returned (.bool ((((1):Int)==0||s.toList==[]) && ((((1):Int)==1||((1):Int)==3||bn) && ((((1):Int)==2||((1):Int)==6||ls==0) && ((((1):Int)==6||n==0) && ((lk:Int)==kk))))))∧Below w.heap.size w w':=by
  unfold maxLen at hls hlk;go_enter Tryz.func44,Tryz.ntmps44;go_wp2_with(first|(go_at_call 66;refine cM8 (hN _) ?_;rintro y w1 ⟨rfl,hb1⟩;have hz1:=hb1.size;simp at hz1;have q0:w1.cell? ⟨w.heap.size,0,none⟩=some (.int .i64 (1)):=cL8 hb1 (by go_simp);have q9:w1.cell? ⟨w.heap.size,9,none⟩=some (.slice a2 ls c2):=cL8 hb1 (by go_simp);have q10:w1.cell? ⟨w.heap.size,10,none⟩=some (.int .i64 n):=cL8 hb1 (by go_simp);have q11:w1.cell? ⟨w.heap.size,11,none⟩=some (.slice a3 lk c3):=cL8 hb1 (by go_simp);have bel1:Below w.heap.size w w1:=bex;clear hb1)|fail);all_goals(try(go_region_held3 (fun w'=>w'.cell? ⟨w.heap.size,0,none⟩=some (.int .i64 (1))∧w'.cell? ⟨w.heap.size,11,none⟩=some (.slice a3 lk c3)) (refine⟨?_,?_⟩<;>first|(go_simp;done)|assumption|(exact cL8 (by assumption) (by go_simp))) (first|(go_at_call 67;refine cM8 (hK _) ?_;rintro y w2 ⟨rfl,hb2⟩;have hz2:=hb2.size;(try simp at hz2)))))
  all_goals(try go_wp2_with fail)
  all_goals(go_returns;exact⟨rB8 (by clear hN hK;simp_all [nb0,nbI]),bex⟩)
theorem l04Form_2 (k:Int)(s:ByteArray)(e:E7)(n:Int)(a1 a2 a3:Option Addr)(le c1 ls c2 lk c3:Nat)(w:World)(bn:Bool)(kk:Int)(hls:ls≤maxLen)(hlk:lk≤maxLen)(hN:∀w2,Calls Tryz.prog 66 #[(.agg #[.int .i64 e.k,.int .i64 e.n,.int .i64 e.v.k,.int .i64 e.v.n,.string e.v.s,.string e.p,(.slice a1 le c1)])] w2 fun x w'=>x=.returned (.bool bn)∧Below w2.heap.size w2 w')(hK:∀w2,Calls Tryz.prog 67 #[.int .i64 (2)] w2 fun x w'=>x=.returned (.int .i64 kk)∧Below w2.heap.size w2 w'):Calls Tryz.prog 44 #[.agg #[.int .i64 (2),.string s,.int .i64 e.k,.int .i64 e.n,.int .i64 e.v.k,.int .i64 e.v.n,.string e.v.s,.string e.p,.slice a1 le c1,.slice a2 ls c2,.int .i64 n,.slice a3 lk c3]] w fun x w'=>x=.returned (.bool ((((2):Int)==0||s.toList==[]) && ((((2):Int)==1||((2):Int)==3||bn) && ((((2):Int)==2||((2):Int)==6||ls==0) && ((((2):Int)==6||n==0) && ((lk:Int)==kk))))))∧Below w.heap.size w w':=by
  unfold maxLen at hls hlk;go_enter Tryz.func44,Tryz.ntmps44;go_wp2_with(first|(go_at_call 66;refine cM8 (hN _) ?_;rintro y w1 ⟨rfl,hb1⟩;have hz1:=hb1.size;simp at hz1;have q0:w1.cell? ⟨w.heap.size,0,none⟩=some (.int .i64 (2)):=cL8 hb1 (by go_simp);have q9:w1.cell? ⟨w.heap.size,9,none⟩=some (.slice a2 ls c2):=cL8 hb1 (by go_simp);have q10:w1.cell? ⟨w.heap.size,10,none⟩=some (.int .i64 n):=cL8 hb1 (by go_simp);have q11:w1.cell? ⟨w.heap.size,11,none⟩=some (.slice a3 lk c3):=cL8 hb1 (by go_simp);have bel1:Below w.heap.size w w1:=bex;clear hb1)|fail);all_goals(try(go_region_held3 (fun w'=>w'.cell? ⟨w.heap.size,0,none⟩=some (.int .i64 (2))∧w'.cell? ⟨w.heap.size,11,none⟩=some (.slice a3 lk c3)) (refine⟨?_,?_⟩<;>first|(go_simp;done)|assumption|(exact cL8 (by assumption) (by go_simp))) (first|(go_at_call 67;refine cM8 (hK _) ?_;rintro y w2 ⟨rfl,hb2⟩;have hz2:=hb2.size;(try simp at hz2)))))
  all_goals(try go_wp2_with fail)
  all_goals(go_returns;exact⟨rB8 (by clear hN hK;simp_all [nb0,nbI]),bex⟩)
theorem l04Form_3 (k:Int)(s:ByteArray)(e:E7)(n:Int)(a1 a2 a3:Option Addr)(le c1 ls c2 lk c3:Nat)(w:World)(bn:Bool)(kk:Int)(hls:ls≤maxLen)(hlk:lk≤maxLen)(hN:∀w2,Calls Tryz.prog 66 #[(.agg #[.int .i64 e.k,.int .i64 e.n,.int .i64 e.v.k,.int .i64 e.v.n,.string e.v.s,.string e.p,(.slice a1 le c1)])] w2 fun x w'=>x=.returned (.bool bn)∧Below w2.heap.size w2 w')(hK:∀w2,Calls Tryz.prog 67 #[.int .i64 (3)] w2 fun x w'=>x=.returned (.int .i64 kk)∧Below w2.heap.size w2 w'):Calls Tryz.prog 44 #[.agg #[.int .i64 (3),.string s,.int .i64 e.k,.int .i64 e.n,.int .i64 e.v.k,.int .i64 e.v.n,.string e.v.s,.string e.p,.slice a1 le c1,.slice a2 ls c2,.int .i64 n,.slice a3 lk c3]] w fun x w'=>x=.returned (.bool ((((3):Int)==0||s.toList==[]) && ((((3):Int)==1||((3):Int)==3||bn) && ((((3):Int)==2||((3):Int)==6||ls==0) && ((((3):Int)==6||n==0) && ((lk:Int)==kk))))))∧Below w.heap.size w w':=by
  unfold maxLen at hls hlk;go_enter Tryz.func44,Tryz.ntmps44;go_wp2_with(first|(go_at_call 66;refine cM8 (hN _) ?_;rintro y w1 ⟨rfl,hb1⟩;have hz1:=hb1.size;simp at hz1;have q0:w1.cell? ⟨w.heap.size,0,none⟩=some (.int .i64 (3)):=cL8 hb1 (by go_simp);have q9:w1.cell? ⟨w.heap.size,9,none⟩=some (.slice a2 ls c2):=cL8 hb1 (by go_simp);have q10:w1.cell? ⟨w.heap.size,10,none⟩=some (.int .i64 n):=cL8 hb1 (by go_simp);have q11:w1.cell? ⟨w.heap.size,11,none⟩=some (.slice a3 lk c3):=cL8 hb1 (by go_simp);have bel1:Below w.heap.size w w1:=bex;clear hb1)|fail);all_goals(try(go_region_held3 (fun w'=>w'.cell? ⟨w.heap.size,0,none⟩=some (.int .i64 (3))∧w'.cell? ⟨w.heap.size,11,none⟩=some (.slice a3 lk c3)) (refine⟨?_,?_⟩<;>first|(go_simp;done)|assumption|(exact cL8 (by assumption) (by go_simp))) (first|(go_at_call 67;refine cM8 (hK _) ?_;rintro y w2 ⟨rfl,hb2⟩;have hz2:=hb2.size;(try simp at hz2)))))
  all_goals(try go_wp2_with fail)
  all_goals(go_returns;exact⟨rB8 (by clear hN hK;simp_all [nb0,nbI]),bex⟩)
theorem l04Form_4 (k:Int)(s:ByteArray)(e:E7)(n:Int)(a1 a2 a3:Option Addr)(le c1 ls c2 lk c3:Nat)(w:World)(bn:Bool)(kk:Int)(hls:ls≤maxLen)(hlk:lk≤maxLen)(hN:∀w2,Calls Tryz.prog 66 #[(.agg #[.int .i64 e.k,.int .i64 e.n,.int .i64 e.v.k,.int .i64 e.v.n,.string e.v.s,.string e.p,(.slice a1 le c1)])] w2 fun x w'=>x=.returned (.bool bn)∧Below w2.heap.size w2 w')(hK:∀w2,Calls Tryz.prog 67 #[.int .i64 (4)] w2 fun x w'=>x=.returned (.int .i64 kk)∧Below w2.heap.size w2 w'):Calls Tryz.prog 44 #[.agg #[.int .i64 (4),.string s,.int .i64 e.k,.int .i64 e.n,.int .i64 e.v.k,.int .i64 e.v.n,.string e.v.s,.string e.p,.slice a1 le c1,.slice a2 ls c2,.int .i64 n,.slice a3 lk c3]] w fun x w'=>x=.returned (.bool ((((4):Int)==0||s.toList==[]) && ((((4):Int)==1||((4):Int)==3||bn) && ((((4):Int)==2||((4):Int)==6||ls==0) && ((((4):Int)==6||n==0) && ((lk:Int)==kk))))))∧Below w.heap.size w w':=by
  unfold maxLen at hls hlk;go_enter Tryz.func44,Tryz.ntmps44;go_wp2_with(first|(go_at_call 66;refine cM8 (hN _) ?_;rintro y w1 ⟨rfl,hb1⟩;have hz1:=hb1.size;simp at hz1;have q0:w1.cell? ⟨w.heap.size,0,none⟩=some (.int .i64 (4)):=cL8 hb1 (by go_simp);have q9:w1.cell? ⟨w.heap.size,9,none⟩=some (.slice a2 ls c2):=cL8 hb1 (by go_simp);have q10:w1.cell? ⟨w.heap.size,10,none⟩=some (.int .i64 n):=cL8 hb1 (by go_simp);have q11:w1.cell? ⟨w.heap.size,11,none⟩=some (.slice a3 lk c3):=cL8 hb1 (by go_simp);have bel1:Below w.heap.size w w1:=bex;clear hb1)|fail);all_goals(try(go_region_held3 (fun w'=>w'.cell? ⟨w.heap.size,0,none⟩=some (.int .i64 (4))∧w'.cell? ⟨w.heap.size,11,none⟩=some (.slice a3 lk c3)) (refine⟨?_,?_⟩<;>first|(go_simp;done)|assumption|(exact cL8 (by assumption) (by go_simp))) (first|(go_at_call 67;refine cM8 (hK _) ?_;rintro y w2 ⟨rfl,hb2⟩;have hz2:=hb2.size;(try simp at hz2)))))
  all_goals(try go_wp2_with fail)
  all_goals(go_returns;exact⟨rB8 (by clear hN hK;simp_all [nb0,nbI]),bex⟩)
theorem l04Form_5 (k:Int)(s:ByteArray)(e:E7)(n:Int)(a1 a2 a3:Option Addr)(le c1 ls c2 lk c3:Nat)(w:World)(bn:Bool)(kk:Int)(hls:ls≤maxLen)(hlk:lk≤maxLen)(hN:∀w2,Calls Tryz.prog 66 #[(.agg #[.int .i64 e.k,.int .i64 e.n,.int .i64 e.v.k,.int .i64 e.v.n,.string e.v.s,.string e.p,(.slice a1 le c1)])] w2 fun x w'=>x=.returned (.bool bn)∧Below w2.heap.size w2 w')(hK:∀w2,Calls Tryz.prog 67 #[.int .i64 (5)] w2 fun x w'=>x=.returned (.int .i64 kk)∧Below w2.heap.size w2 w'):Calls Tryz.prog 44 #[.agg #[.int .i64 (5),.string s,.int .i64 e.k,.int .i64 e.n,.int .i64 e.v.k,.int .i64 e.v.n,.string e.v.s,.string e.p,.slice a1 le c1,.slice a2 ls c2,.int .i64 n,.slice a3 lk c3]] w fun x w'=>x=.returned (.bool ((((5):Int)==0||s.toList==[]) && ((((5):Int)==1||((5):Int)==3||bn) && ((((5):Int)==2||((5):Int)==6||ls==0) && ((((5):Int)==6||n==0) && ((lk:Int)==kk))))))∧Below w.heap.size w w':=by
  unfold maxLen at hls hlk;go_enter Tryz.func44,Tryz.ntmps44;go_wp2_with(first|(go_at_call 66;refine cM8 (hN _) ?_;rintro y w1 ⟨rfl,hb1⟩;have hz1:=hb1.size;simp at hz1;have q0:w1.cell? ⟨w.heap.size,0,none⟩=some (.int .i64 (5)):=cL8 hb1 (by go_simp);have q9:w1.cell? ⟨w.heap.size,9,none⟩=some (.slice a2 ls c2):=cL8 hb1 (by go_simp);have q10:w1.cell? ⟨w.heap.size,10,none⟩=some (.int .i64 n):=cL8 hb1 (by go_simp);have q11:w1.cell? ⟨w.heap.size,11,none⟩=some (.slice a3 lk c3):=cL8 hb1 (by go_simp);have bel1:Below w.heap.size w w1:=bex;clear hb1)|fail);all_goals(try(go_region_held3 (fun w'=>w'.cell? ⟨w.heap.size,0,none⟩=some (.int .i64 (5))∧w'.cell? ⟨w.heap.size,11,none⟩=some (.slice a3 lk c3)) (refine⟨?_,?_⟩<;>first|(go_simp;done)|assumption|(exact cL8 (by assumption) (by go_simp))) (first|(go_at_call 67;refine cM8 (hK _) ?_;rintro y w2 ⟨rfl,hb2⟩;have hz2:=hb2.size;(try simp at hz2)))))
  all_goals(try go_wp2_with fail)
  all_goals(go_returns;exact⟨rB8 (by clear hN hK;simp_all [nb0,nbI]),bex⟩)
theorem l04Form_6 (k:Int)(s:ByteArray)(e:E7)(n:Int)(a1 a2 a3:Option Addr)(le c1 ls c2 lk c3:Nat)(w:World)(bn:Bool)(kk:Int)(hls:ls≤maxLen)(hlk:lk≤maxLen)(hN:∀w2,Calls Tryz.prog 66 #[(.agg #[.int .i64 e.k,.int .i64 e.n,.int .i64 e.v.k,.int .i64 e.v.n,.string e.v.s,.string e.p,(.slice a1 le c1)])] w2 fun x w'=>x=.returned (.bool bn)∧Below w2.heap.size w2 w')(hK:∀w2,Calls Tryz.prog 67 #[.int .i64 (6)] w2 fun x w'=>x=.returned (.int .i64 kk)∧Below w2.heap.size w2 w'):Calls Tryz.prog 44 #[.agg #[.int .i64 (6),.string s,.int .i64 e.k,.int .i64 e.n,.int .i64 e.v.k,.int .i64 e.v.n,.string e.v.s,.string e.p,.slice a1 le c1,.slice a2 ls c2,.int .i64 n,.slice a3 lk c3]] w fun x w'=>x=.returned (.bool ((((6):Int)==0||s.toList==[]) && ((((6):Int)==1||((6):Int)==3||bn) && ((((6):Int)==2||((6):Int)==6||ls==0) && ((((6):Int)==6||n==0) && ((lk:Int)==kk))))))∧Below w.heap.size w w':=by
  unfold maxLen at hls hlk;go_enter Tryz.func44,Tryz.ntmps44;go_wp2_with(first|(go_at_call 66;refine cM8 (hN _) ?_;rintro y w1 ⟨rfl,hb1⟩;have hz1:=hb1.size;simp at hz1;have q0:w1.cell? ⟨w.heap.size,0,none⟩=some (.int .i64 (6)):=cL8 hb1 (by go_simp);have q9:w1.cell? ⟨w.heap.size,9,none⟩=some (.slice a2 ls c2):=cL8 hb1 (by go_simp);have q10:w1.cell? ⟨w.heap.size,10,none⟩=some (.int .i64 n):=cL8 hb1 (by go_simp);have q11:w1.cell? ⟨w.heap.size,11,none⟩=some (.slice a3 lk c3):=cL8 hb1 (by go_simp);have bel1:Below w.heap.size w w1:=bex;clear hb1)|fail);all_goals(try(go_region_held3 (fun w'=>w'.cell? ⟨w.heap.size,0,none⟩=some (.int .i64 (6))∧w'.cell? ⟨w.heap.size,11,none⟩=some (.slice a3 lk c3)) (refine⟨?_,?_⟩<;>first|(go_simp;done)|assumption|(exact cL8 (by assumption) (by go_simp))) (first|(go_at_call 67;refine cM8 (hK _) ?_;rintro y w2 ⟨rfl,hb2⟩;have hz2:=hb2.size;(try simp at hz2)))))
  all_goals(try go_wp2_with fail)
  all_goals(go_returns;exact⟨rB8 (by clear hN hK;simp_all [nb0,nbI]),bex⟩)
theorem l04Form_x (k:Int)(s:ByteArray)(e:E7)(n:Int)(a1 a2 a3:Option Addr)(le c1 ls c2 lk c3:Nat)(w:World)(bn:Bool)(kk:Int)(hls:ls≤maxLen)(hlk:lk≤maxLen)(h0:(k==0)=false)(h1:(k==1)=false)(h2:(k==2)=false)(h3:(k==3)=false)(h6:(k==6)=false)(g0:(k !=0)=true)(g1:(k !=1)=true)(g2:(k !=2)=true)(g3:(k !=3)=true)(g6:(k !=6)=true)(hN:∀w2,Calls Tryz.prog 66 #[(.agg #[.int .i64 e.k,.int .i64 e.n,.int .i64 e.v.k,.int .i64 e.v.n,.string e.v.s,.string e.p,(.slice a1 le c1)])] w2 fun x w'=>x=.returned (.bool bn)∧Below w2.heap.size w2 w')(hK:∀w2,Calls Tryz.prog 67 #[.int .i64 k] w2 fun x w'=>x=.returned (.int .i64 kk)∧Below w2.heap.size w2 w'):Calls Tryz.prog 44 #[.agg #[.int .i64 k,.string s,.int .i64 e.k,.int .i64 e.n,.int .i64 e.v.k,.int .i64 e.v.n,.string e.v.s,.string e.p,.slice a1 le c1,.slice a2 ls c2,.int .i64 n,.slice a3 lk c3]] w fun x w'=>x=.returned (.bool (((k:Int)==0||s.toList==[]) && (((k:Int)==1||(k:Int)==3||bn) && (((k:Int)==2||(k:Int)==6||ls==0) && (((k:Int)==6||n==0) && ((lk:Int)==kk))))))∧Below w.heap.size w w':=by
  unfold maxLen at hls hlk;go_enter Tryz.func44,Tryz.ntmps44;go_wp2_with(first|(go_at_call 66;refine cM8 (hN _) ?_;rintro y w1 ⟨rfl,hb1⟩;have hz1:=hb1.size;simp at hz1;have q0:w1.cell? ⟨w.heap.size,0,none⟩=some (.int .i64 k):=cL8 hb1 (by go_simp);have q9:w1.cell? ⟨w.heap.size,9,none⟩=some (.slice a2 ls c2):=cL8 hb1 (by go_simp);have q10:w1.cell? ⟨w.heap.size,10,none⟩=some (.int .i64 n):=cL8 hb1 (by go_simp);have q11:w1.cell? ⟨w.heap.size,11,none⟩=some (.slice a3 lk c3):=cL8 hb1 (by go_simp);have bel1:Below w.heap.size w w1:=bex;clear hb1)|fail);all_goals(try(go_region_held3 (fun w'=>w'.cell? ⟨w.heap.size,0,none⟩=some (.int .i64 k)∧w'.cell? ⟨w.heap.size,11,none⟩=some (.slice a3 lk c3)) (refine⟨?_,?_⟩<;>first|(go_simp;done)|assumption|(exact cL8 (by assumption) (by go_simp))) (first|(go_at_call 67;refine cM8 (hK _) ?_;rintro y w2 ⟨rfl,hb2⟩;have hz2:=hb2.size;(try simp at hz2)))))
  all_goals(try go_wp2_with fail)
  all_goals(go_returns;exact⟨rB8 (by clear hN hK;simp_all [nb0,nbI]),bex⟩)
theorem l04Form_any (p:P12)(a1 a2 a3:Option Addr)(c1 c2 c3:Nat)(w:World)(hs:p.e.v.s.size≤maxLen)(he:p.e.ks.length≤maxLen)(hes:p.es.length≤maxLen)(hks:p.ks.length≤maxLen):Calls Tryz.prog 44 #[(.agg #[.int .i64 p.k,.string p.s,.int .i64 p.e.k,.int .i64 p.e.n,.int .i64 p.e.v.k,.int .i64 p.e.v.n,.string p.e.v.s,.string p.e.p,(.slice a1 p.e.ks.length c1),(.slice a2 p.es.length c2),.int .i64 p.n,(.slice a3 p.ks.length c3)])] w fun x w'=>x=.returned (.bool (formP p))∧Below w.heap.size w w':=by
 have hN:=fun w2=>l04None_any p.e a1 c1 w2 hs he;have hK:=fun w2=>l04Kids_any p.k w2;unfold formP;generalize noneE p.e=bn at*;generalize kidsK p.k=kk at*;generalize p.k=k at*;by_cases h0:k=0
 ·subst h0;exact l04Form_0 0 _ _ _ _ _ _ _ _ _ _ _ _ w bn kk hes hks hN hK
 by_cases h1:k=1
 ·subst h1;exact l04Form_1 0 _ _ _ _ _ _ _ _ _ _ _ _ w bn kk hes hks hN hK
 by_cases h2:k=2
 ·subst h2;exact l04Form_2 0 _ _ _ _ _ _ _ _ _ _ _ _ w bn kk hes hks hN hK
 by_cases h3:k=3
 ·subst h3;exact l04Form_3 0 _ _ _ _ _ _ _ _ _ _ _ _ w bn kk hes hks hN hK
 by_cases h4:k=4
 ·subst h4;exact l04Form_4 0 _ _ _ _ _ _ _ _ _ _ _ _ w bn kk hes hks hN hK
 by_cases h5:k=5
 ·subst h5;exact l04Form_5 0 _ _ _ _ _ _ _ _ _ _ _ _ w bn kk hes hks hN hK
 by_cases h6:k=6
 ·subst h6;exact l04Form_6 0 _ _ _ _ _ _ _ _ _ _ _ _ w bn kk hes hks hN hK
 exact l04Form_x k _ _ _ _ _ _ _ _ _ _ _ _ w bn kk hes hks (by simpa using h0) (by simpa using h1) (by simpa using h2) (by simpa using h3) (by simpa using h6) (by simpa using h0) (by simpa using h1) (by simpa using h2) (by simpa using h3) (by simpa using h6) hN hK
end
section
open Go.RowKit
theorem hidW {α:Type}(t:α):∃x,Hid (t=x):=⟨t,rfl⟩
theorem widthP_form {rs:List R3}{f:Nat}{p:P12}(h:formP p=true)(hk:∀q∈p.ks,0≤wP8 rs f q):wP8 rs (f+1) p=if(okTop rs p (wP8 rs f (p.ks.getD 0 .nil)) (wP8 rs f (p.ks.getD 1 .nil)) &&decide (outW rs p (wP8 rs f (p.ks.getD 0 .nil)) (wP8 rs f (p.ks.getD 1 .nil))≤12))=true then outW rs p (wP8 rs f (p.ks.getD 0 .nil)) (wP8 rs f (p.ks.getD 1 .nil))else -1:=by
 have:(p.ks.all fun q=>decide (0≤wP8 rs f q))=true:=by simpa using hk
 rw[wP8,h,this];rfl
theorem widthP_kid {rs:List R3}{f:Nat}{p q:P12}(h:q∈p.ks)(hq:wP8 rs f q<0):wP8 rs (f+1) p= -1:=by
 have:(p.ks.all fun q=>decide (0≤wP8 rs f q))=false:=by
  rw[List.all_eq_false];exact⟨q,h,by simp;omega⟩
 rw[wP8,this];simp
theorem widthP_bad {rs:List R3}{f:Nat}{p:P12}(h:formP p=false):wP8 rs (f+1) p= -1:=by
 rw[wP8,h];simp
section
variable {rs:List R3} {f:Nat} {p:P12} (h:formP p=true) (hk:∀q∈p.ks,0≤wP8 rs f q)
include h hk
theorem wv_0 (h0:p.k=0):wP8 rs (f+1) p=match relOf rs p.s with|none=> -1|some x=>if x.W≤12 then x.W else -1:=by
 rw[widthP_form h hk];simp only[okTop,outW,h0,if_true,relW];cases hr:relOf rs p.s<;>simp
theorem wv_1 {q:P12}(h0:p.k=1)(hq:p.ks=[q]):wP8 rs (f+1) p=if bE8 p.e (wP8 rs f q)=true then wP8 rs f q else -1:=by
 have:=wL8 rs f q;rw[widthP_form h hk,hq];simp[okTop,outW,h0,this]
theorem wv_2 {q:P12}(h0:p.k=2)(hq:p.ks=[q]):wP8 rs (f+1) p=if(decide (0<p.es.length) &&p.es.all (bE8 · (wP8 rs f q)) &&decide ((p.es.length:Int)≤12))=true then(p.es.length:Int)else -1:=by
 rw[widthP_form h hk,hq];simp[okTop,outW,h0]
theorem wv_3 {q r:P12}(h0:p.k=3)(hq:p.ks=[q,r]):wP8 rs (f+1) p=if(bE8 p.e (wP8 rs f q+wP8 rs f r) &&decide (wP8 rs f q+wP8 rs f r≤12))=true then wP8 rs f q+wP8 rs f r else -1:=by
 rw[widthP_form h hk,hq];simp[okTop,outW,h0]
theorem wv_4 {q r:P12}(h0:p.k=4)(hq:p.ks=[q,r]):wP8 rs (f+1) p=if wP8 rs f q=wP8 rs f r then wP8 rs f q else -1:=by
 have:=wL8 rs f q;rw[widthP_form h hk,hq];simp[okTop,outW,h0,this]
theorem wv_5 {q:P12}(h0:p.k=5)(hq:p.ks=[q]):wP8 rs (f+1) p=wP8 rs f q:=by
 have:=wL8 rs f q;rw[widthP_form h hk,hq];simp[okTop,outW,h0,this]
theorem wv_6 {q:P12}(h0:p.k=6)(hq:p.ks=[q]):wP8 rs (f+1) p=if((decide (0≤p.n) &&decide (p.n≤wP8 rs f q)) &&decide (p.es.length≤1) &&p.es.all (bE8 · (wP8 rs f q)) &&decide (p.n+1+(p.es.length:Int)≤12))=true then p.n+1+(p.es.length:Int)else -1:=by
 rw[widthP_form h hk,hq];simp[okTop,outW,h0]
end
def kwC (rs:List R3)(f:Nat)(ks:List P12)(k j:Nat):Int:=if j<k then wP8 rs f (ks.getD j .nil)else 0
def WdI (rs:List R3)(f:Nat):Prop:=∀ (p:P12) (ue us u:Value) (g:List Nat) (D d:Nat) (vd:Value) (Fd:List Nat) (w:World),p.wf→ListsP w D (PlansIs w D d) p ue us u g→wtP p≤1048576→RelsF w vd rs Fd→f≤9→
  Calls Tryz.prog 32 #[vd,(.agg #[.int .i64 p.k,.string p.s,.int .i64 p.e.k,.int .i64 p.e.n,.int .i64 p.e.v.k,.int .i64 p.e.v.n,.string p.e.v.s,.string p.e.p,ue,us,.int .i64 p.n,u]),.int .i64 ((f:Int) -1)] w fun x w'=>x=.returned (.int .i64 (wP8 rs f p))∧Below w.heap.size w w'
theorem wdI_zero (rs:List R3):WdI rs 0:=by
 intro p ue us u g D d vd Fd w hw hL hn hR hf;obtain⟨ae,ce,ak,ck,a,c,rfl,rfl,rfl,_,_,_,_,_,_⟩:=hL.shape;obtain⟨ad,ld,cd,rfl⟩:=hR.is.shape;rw[wP8];clear hL hR hw;go_enter Tryz.func32,Tryz.ntmps32;go_wp2;go_returns;exact⟨rfl,bex⟩
theorem wdI_step {rs:List R3}{f:Nat}(ih:WdI rs f):WdI rs (f+1):=by
 intro p ue us u g D d vd Fd w hw hL hn hR hf;have hwt:=wtP_eq p;obtain⟨a1,c1,a2,c2,a3,c3,rfl,rfl,rfl,s1,s2,s3,s4,s5,s6⟩:=hL.shape;obtain⟨ad,ld,cd,rfl⟩:=hR.is.shape;obtain⟨Fe,Fs,h,rfl,ke,kes,kp⟩:=hL;obtain⟨d,rfl⟩:∃d',d=d'+1:=by cases d with|zero=>exact kp.elim|succ d=>exact⟨d,rfl⟩
 obtain⟨a,c,b,o,G,e0,hl,hc,hG,_,ha⟩:=kp.pick;injection e0 with e1 e2 e3;subst e1 e3;unfold maxLen at hc;have hFo:=fun w2=>l04Form_any p a1 a2 a3 c1 c2 c3 w2 hw.2.2.1.2.2.1.2.2 (by omega) (by omega) (by unfold maxLen;omega);have hE:=fun(W:Int) (w2:World) (hb:Below w.heap.size w w2)=>l04Below_any p.e _ Fe D W w2 hw.2.2.1 (ke.below hb) (by omega);have hA:=fun(W:Int) (w2:World) (hb:Below w.heap.size w w2)=>l04All_any _ p.es Fs D W w2 (kes.below hb) (by omega);have hQ:=fun(w2:World) (hb:Below w.heap.size w w2)=>l04Rel_any p.s _ rs Fd w2 (hR.below hb);have hI:=fun(x:P12) (y1 y2 y3:Value) (gx:List Nat) (w2:World) (hw2:x.wf) (hL2:ListsP w2 D (PlansIs w2 D d) x y1 y2 y3 gx) (hn2:wtP x≤1048576) (hb:Below w.heap.size w w2)=>ih x y1 y2 y3 gx D d _ Fd w2 hw2 hL2 hn2 (hR.below hb) (by omega);obtain⟨dd,HD⟩:=hidW (((f+1:Nat):Int) -1);rw[HD.out];have hd0:0≤dd:=by have:=HD.out;omega
 have hd9:dd≤9:=by have:=HD.out;omega
 have hd1:dd -1=(f:Int) -1:=by have:=HD.out;omega
 rw[←hd1]at hI;have hB:=bxP_new w p (.slice a1 p.e.ks.length c1) (.slice a2 p.es.length c2) (.slice a3 p.ks.length c3) 42;obtain⟨n0,n1⟩:=wf64 hw.2.2.2;have hesl:p.es.length≤1048576:=by omega
 obtain⟨bo,HO⟩:∃b,Hid (formP p=b):=⟨_,rfl⟩;rw[HO.out]at hFo;clear hd1 ke kes hR ih HD s1 s2 s3 s4 s5 s6;obtain⟨r,HR⟩:=hidW (wP8 rs (f+1) p);rw[HR.out];clear hw;go_enter Tryz.func32,Tryz.ntmps32;go_wp2_with fail;refine cM8 (hFo _) ?_;rintro x w1 ⟨rfl,hb1⟩;have hB1:=hB.below hb1;have bel1:Below w.heap.size w w1:=bex;have hlw:w.heap.size<w1.heap.size:=hB1.1;clear hFo hb1 hB;cases bo with
 |false=>
  have HF:Hid (r= -1):=HR.out.symm.trans (widthP_bad HO.out);clear ha hI hE hA hQ;go_wp2;go_returns;exact⟨by rw[HF.out];rfl,bex⟩
 |true=>
  have HF0:Hid ((p.ks.length:Int)=kidsK p.k):=form_kids HO.out;have hk2:p.ks.length≤2:=by
   have:=HF0.out;unfold kidsK at this;split at this;omega;split at this;omega;split at this;omega;split at this;omega;split at this;omega;split at this;omega;split at this<;>omega
  go_wp2_with fail;go_loopw [8] (fun i wr=> ∃k:Nat,k≤p.ks.length∧i=.int .i64 k∧(∀q∈p.ks.take k,0≤wP8 rs f q)∧Below w1.heap.size w1 wr∧w1.heap.size<wr.heap.size∧wr.cell? ⟨w1.heap.size,0,none⟩=some (.int .i64 (kwC rs f p.ks k 0))∧wr.cell? ⟨w1.heap.size,1,none⟩=some (.int .i64 (kwC rs f p.ks k 1))∧∀q,wr.frozen? ⟨w1.heap.size,q,none⟩=false) (fun i _=>p.ks.length - (intOf i).toNat)
  case atStart=>exact⟨0,Nat.zero_le _,rfl,fun q hq=>by simp at hq,bex,by simp,by go_simp;rfl,by go_simp;rfl,fun q=>by go_simp⟩
  case round=>
   obtain⟨k,hk,rfl,hpos,hb',hsz,r0,r1,rf⟩:=hrel;have hBr:=hB1.below hb';have hb:Below w.heap.size w wr:=bel1.trans (hb'.mono bel1.size);have hzb:=hb.size;have hzb':=hb'.size;have HP:Hid (∀q∈p.ks.take k,0≤wP8 rs f q):=hpos;clear hpos;by_cases hlt:k<p.ks.length
   ·obtain⟨rfl,hblt,_,hL⟩:=ha k hlt;obtain⟨x,g,ue,us,u,hx,hg,hxw,⟨q0,q1,q2,q3,q4,q5,q6,q7,q8,q9,q10,q11⟩,hLx,hbr⟩:=hL.at hG hblt hb hlt;obtain⟨x_e,x_E,x_s,x_S,x_k,x_K,rfl,rfl,rfl,_,_,_,_,_,_⟩:=hLx.shape;have hxn:wtP x≤1048576:=by have:=wtP_mem (mg8 hx);omega
    have hV:=hI x _ _ _ g wr hxw hLx hxn hb;have HT:Hid (p.ks.take (k+1)=p.ks.take k++ [x]):=by
     obtain⟨hk',rfl⟩:=gE1 hx;exact List.take_succ_eq_append_getElem hk'
    have HG:Hid (p.ks.getD k .nil=x):=by show _=_;rw[List.getD_eq_getElem?_getD,hx];rfl
    have HM:Hid (x∈p.ks):=mg8 hx;obtain⟨vx,HV⟩:=hidW (wP8 rs f x);rw[HV.out]at hV;obtain⟨_,_,_,_,_,_,_,_,_,_,_,_,b11⟩:=hBr;have hki:(k:Int)<2:=by omega
    have hk2:k<2:=by omega
    clear ha hL hx hLx hg hI hE hA hQ hxw hxn;obtain⟨v0,HV0⟩:=hidW (kwC rs f p.ks k 0);obtain⟨v1,HV1⟩:=hidW (kwC rs f p.ks k 1);rw[HV0.out]at r0;rw[HV1.out]at r1;go_wp2_with fail;refine cM8 hV ?_;rintro y w2 ⟨rfl,hb2⟩;have bel2:Below w1.heap.size w1 w2:=hb'.trans (hb2.mono hb'.size);have r0':=((bc8 hb2).1 _ _ hsz).trans r0;have r1':=((bc8 hb2).1 _ _ hsz).trans r1;have rf':∀q,w2.frozen? ⟨w1.heap.size,q,none⟩=false:=fun q=>(fb8 (hb2.block _ hsz)).trans (rf q);have hsz2:w1.heap.size<w2.heap.size:=by have:=hb2.size;omega
    clear hV hb2 q0 q1 q2 q3 q4 q5 q6 q7 q8 q9 q10 q11 b11 r0 r1 rf;have hkk:k=0∨k=1:=by omega
    by_cases hneg:vx<0
    ·have HF:Hid (r= -1):=HR.out.symm.trans (widthP_kid HM.out (by rw[HV.out];exact hneg));rcases hkk with rfl|rfl
     all_goals(
      simp only[Nat.zero_mul,Nat.add_zero]at*;go_wp2;go_returns;refine⟨by rw[HF.out];rfl,?_⟩;exact bel1.trans ((show Below w1.heap.size w1 _ from bex).mono bel1.size))
    ·have hnn:0≤vx:=by omega
     have HN:Hid (∀q∈p.ks.take (k+1),0≤wP8 rs f q):=by
      show∀q∈_,_;rw[HT.out];intro q hq;rcases List.mem_append.1 hq with hq|hq
      ·exact HP.out q hq
      ·rw[List.mem_singleton.1 hq,HV.out];exact hnn
     rcases hkk with rfl|rfl
     ·have e0:kwC rs f p.ks (0+1) 0=vx:=by unfold kwC;rw[if_pos (by omega),HG.out,HV.out]
      have e1:kwC rs f p.ks (0+1) 1=v1:=by rw[←HV1.out];rfl
      have E0:Hid (kwC rs f p.ks (0+1) 0=vx):=e0;have E1:Hid (kwC rs f p.ks (0+1) 1=v1):=e1;clear e0 e1;go_wp2_with fail;refine⟨⟨0+1,hlt,by simp,HN.out,bex,by simpa using hsz2,?_,?_,fun q=>by go_simp⟩,by simp[intOf];omega⟩
      ·rw[E0.out];go_simp
      ·rw[E1.out];go_simp
     ·have e0:kwC rs f p.ks (1+1) 0=v0:=by rw[←HV0.out];rfl
      have e1:kwC rs f p.ks (1+1) 1=vx:=by unfold kwC;rw[if_pos (by omega),HG.out,HV.out]
      have E0:Hid (kwC rs f p.ks (1+1) 0=v0):=e0;have E1:Hid (kwC rs f p.ks (1+1) 1=vx):=e1;clear e0 e1;go_wp2_with fail;refine⟨⟨1+1,hlt,by simp,HN.out,bex,by simpa using hsz2,?_,?_,fun q=>by go_simp⟩,by simp[intOf];omega⟩
      ·rw[E0.out];go_simp
      ·rw[E1.out];go_simp
   ·obtain rfl:k=p.ks.length:=by omega
    have HP2:Hid (∀q∈p.ks,0≤wP8 rs f q):=by have:=HP.out;rw[List.take_length]at this;exact this
    have hkin:=kidsK_in (k:=p.k) (by have:=HF0.out;omega);clear ha hI;obtain⟨_,b0,b1,b2,b3,b4,b5,b6,b7,b8,b9,b10,b11⟩:=hBr;rcases hkin with h0|h0|h0|h0|h0|h0|h0
    ·--kind 0
     have HY:Hid (r=match relOf rs p.s with|none=> -1|some x=>if x.W≤12 then x.W else -1):=HR.out.symm.trans (wv_0 HO.out HP2.out h0);clear HR HF0 HP2 HP HO hE hA;have k0:(p.k==0)=true:=by rw[h0];rfl
     have k1:(p.k==1)=false:=by rw[h0];rfl
     have k2:(p.k==2)=false:=by rw[h0];rfl
     have k3:(p.k==3)=false:=by rw[h0];rfl
     have k4:(p.k==4)=false:=by rw[h0];rfl
     have k5:(p.k==5)=false:=by rw[h0];rfl
     have k6:(p.k==6)=false:=by rw[h0];rfl
     clear h0;cases hr:relOf rs p.s with
     |none=>
      have HX:Hid (r= -1):=by show _=_;rw[HY.out,hr]
      simp only[hr,Option.isSome_none]at hQ;clear HY hr;go_wp2_with fail;refine cM8 (hQ _ hb) ?_;rintro y w3 ⟨⟨W3,u3,rfl,⟨au,lu,cu,rfl⟩,hr3⟩,hb3⟩;have bel3:Below w.heap.size w w3:=hb.trans (hb3.mono hzb);have hz3:=bel3.size;clear hr3 hb3;go_wp2;go_returns;exact⟨by rw[HX.out];rfl,bex⟩
     |some x=>
      have HX:Hid (r=if x.W≤12 then x.W else -1):=by show _=_;rw[HY.out,hr]
      simp only[hr,Option.isSome_some]at hQ;clear HY hr;go_wp2_with fail;refine cM8 (hQ _ hb) ?_;rintro y w3 ⟨⟨W3,u3,rfl,⟨au,lu,cu,rfl⟩,hr3⟩,hb3⟩;have bel3:Below w.heap.size w w3:=hb.trans (hb3.mono hzb);have hz3:=bel3.size;obtain⟨e3,_⟩:=hr3 x rfl;subst e3;clear hr3 hb3;by_cases hx:x.W≤12
      ·have hx':¬12<x.W:=by omega
       have HX2:Hid (r=x.W):=by show _=_;rw[HX.out,if_pos hx]
       go_wp2;go_returns;exact⟨by rw[HX2.out];rfl,bex⟩
      ·have hx':12<x.W:=by omega
       have HX2:Hid (r= -1):=by show _=_;rw[HX.out,if_neg hx]
       go_wp2;go_returns;exact⟨by rw[HX2.out];rfl,bex⟩
    ·--kind 1
     have hf0:=HF0.out;rw[h0]at hf0;obtain⟨q,hq⟩:=one_kid hf0;have e0:kwC rs f p.ks p.ks.length 0=wP8 rs f q:=by rw[hq];rfl
     rw[e0]at r0;have HZ:=HR.out.symm.trans (wv_1 HO.out HP2.out h0 hq);have hv12:=wL8 rs f q;have hv0:0≤wP8 rs f q:=HP2.out q (by rw[hq];simp);clear hf0 e0;clear HR;generalize wP8 rs f q=v at*;have k0:(p.k==0)=false:=by rw[h0];rfl
     have k1:(p.k==1)=true:=by rw[h0];rfl
     have k2:(p.k==2)=false:=by rw[h0];rfl
     have k3:(p.k==3)=false:=by rw[h0];rfl
     have k4:(p.k==4)=false:=by rw[h0];rfl
     have k5:(p.k==5)=false:=by rw[h0];rfl
     have k6:(p.k==6)=false:=by rw[h0];rfl
     clear h0 HF0 HP2 HP HO hq hA hQ;have hE':=fun w2 hb=>hE v w2 hb;obtain⟨bb,HBB⟩:=hidW (bE8 p.e v);rw[HBB.out]at HZ;rw[HBB.out]at hE';have hv':¬12<v:=by omega
     clear hE;have HY:Hid (_):=HZ;clear HZ;go_wp2_with fail
     first|go_region_held3 (fun w'=>w'.cell? ⟨w.heap.size,2,none⟩=some (.int .i64 p.e.k)∧w'.cell? ⟨w.heap.size,3,none⟩=some (.int .i64 p.e.n)∧w'.cell? ⟨w.heap.size,4,none⟩=some (.int .i64 p.e.v.k)∧w'.cell? ⟨w.heap.size,5,none⟩=some (.int .i64 p.e.v.n)∧w'.cell? ⟨w.heap.size,6,none⟩=some (.string p.e.v.s)∧w'.cell? ⟨w.heap.size,7,none⟩=some (.string p.e.p)∧w'.cell? ⟨w.heap.size,8,none⟩=some (.slice a1 p.e.ks.length c1)∧w'.cell? ⟨w1.heap.size,0,none⟩=some (.int .i64 v)) (refine⟨?_,?_,?_,?_,?_,?_,?_,?_⟩<;>first|(with_reducible assumption)|(go_simp;done)|(exact cL8 (by assumption) (by go_simp))) (first|(go_at_call 46;refine cM8 (hE' _ bex) ?_;rintro y w3 ⟨rfl,hb3⟩;have hz3:=hb3.size;(try simp at hz3)))|fail
     cases bb<;>(go_wp2;go_returns;exact⟨by rw[HY.out];first|rfl|(rw[hm2];rfl)|(rw[hm1];rfl)|(rw[hm1,hm2];rfl),bex⟩)
    ·--kind 2
     have hf0:=HF0.out;rw[h0]at hf0;obtain⟨q,hq⟩:=one_kid hf0;have e0:kwC rs f p.ks p.ks.length 0=wP8 rs f q:=by rw[hq];rfl
     rw[e0]at r0;have HZ:=HR.out.symm.trans (wv_2 HO.out HP2.out h0 hq);have hv12:=wL8 rs f q;have hv0:0≤wP8 rs f q:=HP2.out q (by rw[hq];simp);clear hf0 e0;clear HR;generalize wP8 rs f q=v at*;have k0:(p.k==0)=false:=by rw[h0];rfl
     have k1:(p.k==1)=false:=by rw[h0];rfl
     have k2:(p.k==2)=true:=by rw[h0];rfl
     have k3:(p.k==3)=false:=by rw[h0];rfl
     have k4:(p.k==4)=false:=by rw[h0];rfl
     have k5:(p.k==5)=false:=by rw[h0];rfl
     have k6:(p.k==6)=false:=by rw[h0];rfl
     clear h0 HF0 HP2 HP HO hq hE hQ;have hA':=fun w2 hb=>hA v w2 hb;obtain⟨bb,HBB⟩:=hidW (p.es.all (bE8 · v));rw[HBB.out]at HZ;rw[HBB.out]at hA';clear hA;generalize p.es.length=m at*;by_cases hm0:0<m
     ·have hm1:decide (0<m)=true:=by simp;omega
      have hm0i:(0:Int)<(m:Int):=by omega
      rw[hm1,Bool.true_and]at HZ;have HY:Hid (_):=HZ;clear HZ;go_wp2_with fail
      first|go_region_held3 (fun w'=>w'.cell? ⟨w.heap.size,9,none⟩=some (.slice a2 m c2)∧w'.cell? ⟨w1.heap.size,0,none⟩=some (.int .i64 v)) (refine⟨?_,?_⟩<;>first|(with_reducible assumption)|(go_simp;done)|(exact cL8 (by assumption) (by go_simp))) (first|(go_at_call 47;refine cM8 (hA' _ bex) ?_;rintro y w3 ⟨rfl,hb3⟩;have hz3:=hb3.size;(try simp at hz3)))|fail
      by_cases hm12:(12:Int)<(m:Int)
      ·have hm2:decide ((m:Int)≤12)=false:=by simp;omega
       cases bb<;>(go_wp2;go_returns;exact⟨by rw[HY.out];first|rfl|(rw[hm2];rfl)|(rw[hm1];rfl)|(rw[hm1,hm2];rfl),bex⟩)
      ·have hm2:decide ((m:Int)≤12)=true:=by simp;omega
       cases bb<;>(go_wp2;go_returns;exact⟨by rw[HY.out];first|rfl|(rw[hm2];rfl)|(rw[hm1];rfl)|(rw[hm1,hm2];rfl),bex⟩)
     ·have hm1:decide (0<m)=false:=by simp;omega
      have hm0i:¬ (0:Int)<(m:Int):=by omega
      rw[hm1,Bool.false_and,Bool.false_and]at HZ;have HY:Hid (_):=HZ;clear HZ;go_wp2_with fail;refine wp_region_held_drew (S:=(fun w'=>w'.cell? ⟨w.heap.size,9,none⟩=some (.slice a2 m c2)∧w'.cell? ⟨w1.heap.size,0,none⟩=some (.int .i64 v))) (by kernel_rfl) ?_ (fun hHeld=>?_)
      ·refine⟨?_,?_⟩<;>first|(with_reducible assumption)|(go_simp;done)|(exact cL8 (by assumption) (by go_simp))
      refine tlY 0 72 rfl rfl ?_;refine tlY 1 73 rfl rfl ?_;refine tlY 2 74 rfl rfl ?_;refine tlY 3 75 rfl rfl ?_;refine tlY 4 76 rfl rfl ?_;refine tlY 5 77 rfl rfl ?_;refine tlY 6 78 rfl rfl ?_;refine tlY 7 79 rfl rfl ?_;refine tlN 8 80 rfl rfl ?_;refine tlN 9 81 rfl rfl ?_;refine tlN 10 82 rfl rfl ?_;refine tlN 11 83 rfl rfl ?_;refine tlN 12 84 rfl rfl ?_;refine tlN 13 85 rfl rfl ?_;refine tlY 14 86 rfl rfl ?_;refine tlY 15 9 rfl rfl ?_;refine tlY 16 10 rfl rfl ?_;refine wpAnyH_done (by kernel_rfl) ?_ _;go_wp2;go_returns;exact⟨by rw[HY.out];first|rfl|(rw[hm2];rfl)|(rw[hm1];rfl)|(rw[hm1,hm2];rfl),bex⟩
    ·--kind 3
     have hf0:=HF0.out;rw[h0]at hf0;obtain⟨q,r,hq⟩:=two_kids hf0;have e0:kwC rs f p.ks p.ks.length 0=wP8 rs f q:=by rw[hq];rfl
     have e1:kwC rs f p.ks p.ks.length 1=wP8 rs f r:=by rw[hq];rfl
     rw[e0]at r0;rw[e1]at r1;have HZ:=HR.out.symm.trans (wv_3 HO.out HP2.out h0 hq);have hv12:=wL8 rs f q;have hu12:=wL8 rs f r;have hv0:0≤wP8 rs f q:=HP2.out q (by rw[hq];simp);have hu0:0≤wP8 rs f r:=HP2.out r (by rw[hq];simp);clear hf0 e0 e1;clear HR;generalize wP8 rs f q=v at*;generalize wP8 rs f r=v2 at*;have k0:(p.k==0)=false:=by rw[h0];rfl
     have k1:(p.k==1)=false:=by rw[h0];rfl
     have k2:(p.k==2)=false:=by rw[h0];rfl
     have k3:(p.k==3)=true:=by rw[h0];rfl
     have k4:(p.k==4)=false:=by rw[h0];rfl
     have k5:(p.k==5)=false:=by rw[h0];rfl
     have k6:(p.k==6)=false:=by rw[h0];rfl
     clear h0 HF0 HP2 HP HO hq hA hQ;have hE':=fun w2 hb=>hE (v+v2) w2 hb;have hwr:IntKind.i64.wrap (v+v2)=v+v2:=by rw[IntKind.wrap_i64];omega
     obtain⟨bb,HBB⟩:=hidW (bE8 p.e (v+v2));rw[HBB.out]at HZ;rw[HBB.out]at hE';clear hE;have HY:Hid (_):=HZ;clear HZ;go_wp2_with fail
     first|go_region_held3 (fun w'=>w'.cell? ⟨w.heap.size,2,none⟩=some (.int .i64 p.e.k)∧w'.cell? ⟨w.heap.size,3,none⟩=some (.int .i64 p.e.n)∧w'.cell? ⟨w.heap.size,4,none⟩=some (.int .i64 p.e.v.k)∧w'.cell? ⟨w.heap.size,5,none⟩=some (.int .i64 p.e.v.n)∧w'.cell? ⟨w.heap.size,6,none⟩=some (.string p.e.v.s)∧w'.cell? ⟨w.heap.size,7,none⟩=some (.string p.e.p)∧w'.cell? ⟨w.heap.size,8,none⟩=some (.slice a1 p.e.ks.length c1)∧w'.cell? ⟨w1.heap.size,0,none⟩=some (.int .i64 v)∧w'.cell? ⟨w1.heap.size,1,none⟩=some (.int .i64 v2)) (refine⟨?_,?_,?_,?_,?_,?_,?_,?_,?_⟩<;>first|(with_reducible assumption)|(go_simp;done)|(exact cL8 (by assumption) (by go_simp))) (first|(go_at_call 46;refine cM8 (hE' _ bex) ?_;rintro y w3 ⟨rfl,hb3⟩;have hz3:=hb3.size;(try simp at hz3)))|fail
     by_cases hv':12<v+v2
     ·have hm2:decide (v+v2≤12)=false:=by simp;omega
      cases bb<;>(go_wp2;go_returns;exact⟨by rw[HY.out];first|rfl|(rw[hm2];rfl)|(rw[hm1];rfl)|(rw[hm1,hm2];rfl),bex⟩)
     ·have hm2:decide (v+v2≤12)=true:=by simp;omega
      cases bb<;>(go_wp2;go_returns;exact⟨by rw[HY.out];first|rfl|(rw[hm2];rfl)|(rw[hm1];rfl)|(rw[hm1,hm2];rfl),bex⟩)
    ·--kind 4
     have hf0:=HF0.out;rw[h0]at hf0;obtain⟨q,r,hq⟩:=two_kids hf0;have e0:kwC rs f p.ks p.ks.length 0=wP8 rs f q:=by rw[hq];rfl
     have e1:kwC rs f p.ks p.ks.length 1=wP8 rs f r:=by rw[hq];rfl
     rw[e0]at r0;rw[e1]at r1;have HZ:=HR.out.symm.trans (wv_4 HO.out HP2.out h0 hq);have hv12:=wL8 rs f q;have hu12:=wL8 rs f r;have hv0:0≤wP8 rs f q:=HP2.out q (by rw[hq];simp);have hu0:0≤wP8 rs f r:=HP2.out r (by rw[hq];simp);clear hf0 e0 e1;clear HR;generalize wP8 rs f q=v at*;generalize wP8 rs f r=v2 at*;have k0:(p.k==0)=false:=by rw[h0];rfl
     have k1:(p.k==1)=false:=by rw[h0];rfl
     have k2:(p.k==2)=false:=by rw[h0];rfl
     have k3:(p.k==3)=false:=by rw[h0];rfl
     have k4:(p.k==4)=true:=by rw[h0];rfl
     have k5:(p.k==5)=false:=by rw[h0];rfl
     have k6:(p.k==6)=false:=by rw[h0];rfl
     clear h0 HF0 HP2 HP HO hq hA hQ hE;have hv':¬12<v:=by omega
     by_cases hvv:v=v2
     ·rw[if_pos hvv]at HZ;have hvb:(v==v2)=true:=by simpa using hvv
      clear hvv;have HY:Hid (_):=HZ;clear HZ;go_wp2_with fail
      first|go_region_held3 (fun w'=>w'.cell? ⟨w1.heap.size,0,none⟩=some (.int .i64 v)∧w'.cell? ⟨w1.heap.size,1,none⟩=some (.int .i64 v2)) (refine⟨?_,?_⟩<;>first|(with_reducible assumption)|(go_simp;done)|(exact cL8 (by assumption) (by go_simp))) (first|fail)|fail
      go_wp2;go_returns;exact⟨by rw[HY.out];first|rfl|(rw[hm2];rfl)|(rw[hm1];rfl)|(rw[hm1,hm2];rfl),bex⟩
     ·rw[if_neg hvv]at HZ;have hvb:(v==v2)=false:=by simpa using hvv
      clear hvv;have HY:Hid (_):=HZ;clear HZ;go_wp2_with fail
      first|go_region_held3 (fun w'=>w'.cell? ⟨w1.heap.size,0,none⟩=some (.int .i64 v)∧w'.cell? ⟨w1.heap.size,1,none⟩=some (.int .i64 v2)) (refine⟨?_,?_⟩<;>first|(with_reducible assumption)|(go_simp;done)|(exact cL8 (by assumption) (by go_simp))) (first|fail)|fail
      go_wp2;go_returns;exact⟨by rw[HY.out];first|rfl|(rw[hm2];rfl)|(rw[hm1];rfl)|(rw[hm1,hm2];rfl),bex⟩
    ·--kind 5
     have hf0:=HF0.out;rw[h0]at hf0;obtain⟨q,hq⟩:=one_kid hf0;have e0:kwC rs f p.ks p.ks.length 0=wP8 rs f q:=by rw[hq];rfl
     rw[e0]at r0;have HZ:=HR.out.symm.trans (wv_5 HO.out HP2.out h0 hq);have hv12:=wL8 rs f q;have hv0:0≤wP8 rs f q:=HP2.out q (by rw[hq];simp);clear hf0 e0;clear HR;generalize wP8 rs f q=v at*;have k0:(p.k==0)=false:=by rw[h0];rfl
     have k1:(p.k==1)=false:=by rw[h0];rfl
     have k2:(p.k==2)=false:=by rw[h0];rfl
     have k3:(p.k==3)=false:=by rw[h0];rfl
     have k4:(p.k==4)=false:=by rw[h0];rfl
     have k5:(p.k==5)=true:=by rw[h0];rfl
     have k6:(p.k==6)=false:=by rw[h0];rfl
     clear h0 HF0 HP2 HP HO hq hA hQ hE;have hv':¬12<v:=by omega
     have HY:Hid (_):=HZ;clear HZ;go_wp2;go_returns;exact⟨by rw[HY.out];first|rfl|(rw[hm2];rfl)|(rw[hm1];rfl)|(rw[hm1,hm2];rfl),bex⟩
    ·--kind 6
     have hf0:=HF0.out;rw[h0]at hf0;obtain⟨q,hq⟩:=one_kid hf0;have e0:kwC rs f p.ks p.ks.length 0=wP8 rs f q:=by rw[hq];rfl
     rw[e0]at r0;have HZ:=HR.out.symm.trans (wv_6 HO.out HP2.out h0 hq);have hv12:=wL8 rs f q;have hv0:0≤wP8 rs f q:=HP2.out q (by rw[hq];simp);clear hf0 e0;clear HR;generalize wP8 rs f q=v at*;have k0:(p.k==0)=false:=by rw[h0];rfl
     have k1:(p.k==1)=false:=by rw[h0];rfl
     have k2:(p.k==2)=false:=by rw[h0];rfl
     have k3:(p.k==3)=false:=by rw[h0];rfl
     have k4:(p.k==4)=false:=by rw[h0];rfl
     have k5:(p.k==5)=false:=by rw[h0];rfl
     have k6:(p.k==6)=true:=by rw[h0];rfl
     clear h0 HF0 HP2 HP HO hq hE hQ;have hA':=fun w2 hb=>hA v w2 hb;obtain⟨bb,HBB⟩:=hidW (p.es.all (bE8 · v));rw[HBB.out]at HZ;rw[HBB.out]at hA';clear hA;generalize p.es.length=m at*;have hN:=fun w2 (hb:Below w.heap.size w w2)=>l01In_is p.n 0 v w2;obtain⟨bn,HBN⟩:=hidW (decide (0≤p.n) &&decide (p.n≤v));rw[HBN.out]at HZ;rw[HBN.out]at hN;generalize p.n=n at*;cases bn with
     |false=>
      simp only[Bool.false_and]at HZ;have HY:Hid (_):=HZ;clear HZ;go_wp2_with fail;refine wp_region_held_drew (S:=(fun w'=>w'.cell? ⟨w.heap.size,10,none⟩=some (.int .i64 n)∧w'.cell? ⟨w.heap.size,9,none⟩=some (.slice a2 m c2)∧w'.cell? ⟨w1.heap.size,0,none⟩=some (.int .i64 v))) (by kernel_rfl) ?_ (fun hHeld=>?_)
      ·refine⟨?_,?_,?_⟩<;>first|(with_reducible assumption)|(go_simp;done)|(exact cL8 (by assumption) (by go_simp))
      refine tlY 0 117 rfl rfl ?_;refine tlY 1 118 rfl rfl ?_;refine tlY 2 119 rfl rfl ?_;refine tlY 3 120 rfl rfl ?_;refine tlY 4 121 rfl rfl ?_;refine tlY 5 122 rfl rfl ?_;refine tlY 6 123 rfl rfl ?_;refine tlY 7 124 rfl rfl ?_;refine tlY 8 125 rfl rfl ?_;refine tlY 9 126 rfl rfl ?_;refine tlY 10 127 rfl rfl ?_;refine tlY 11 128 rfl rfl ?_;refine wpAnyH_ready (rs:=[12]) (by kernel_rfl) (by simp) ?_;refine AllReadyH.cons rfl (fun KK hKK=>?_) AllReadyH.nil;go_simp;go_at_call 43;refine cM8 (hN _ bex) ?_;rintro y w3 ⟨rfl,hb3⟩;have hz3:=hb3.size;(try simp at hz3);try go_wp2_with fail
      refine hKK.out _ _ ?_ (fun hHeld12=>?_)
      ·refine⟨?_,?_,?_⟩<;>first|(with_reducible assumption)|(go_simp;done)|(exact cL8 (by assumption) (by go_simp))
      clear hKK;refine tlY 13 130 rfl rfl ?_;refine tlN 14 131 rfl rfl ?_;refine tlN 15 132 rfl rfl ?_;refine tlN 16 133 rfl rfl ?_;refine tlN 17 134 rfl rfl ?_;refine tlY 18 135 rfl rfl ?_;refine tlY 19 136 rfl rfl ?_;refine tlN 20 137 rfl rfl ?_;refine tlN 21 138 rfl rfl ?_;refine tlN 22 139 rfl rfl ?_;refine tlN 23 140 rfl rfl ?_;refine tlN 24 141 rfl rfl ?_;refine tlN 25 142 rfl rfl ?_;refine tlY 26 143 rfl rfl ?_;refine tlY 27 9 rfl rfl ?_;refine tlY 28 10 rfl rfl ?_;refine wpAnyH_done (by kernel_rfl) ?_ _;go_wp2;go_returns;exact⟨by rw[HY.out];first|rfl|(rw[hm2];rfl)|(rw[hm1];rfl)|(rw[hm1,hm2];rfl),bex⟩
     |true=>
      have hbn:=HBN.out;rw[Bool.and_eq_true,decide_eq_true_eq,decide_eq_true_eq]at hbn;have hn0:0≤n:=hbn.1;have hn1:n≤12:=by omega
      rw[Bool.true_and]at HZ;clear hbn HBN;by_cases hm0:m≤1
      ·have hm0i:(m:Int)≤1:=by omega
       have hm1:decide (m≤1)=true:=by simp;omega
       rw[hm1,Bool.true_and]at HZ;have hw1:IntKind.i64.wrap (n+1)=n+1:=by rw[IntKind.wrap_i64];omega
       have hw2:IntKind.i64.wrap (n+1+(m:Int))=n+1+(m:Int):=by rw[IntKind.wrap_i64];omega
       have HY:Hid (_):=HZ;clear HZ;go_wp2_with fail
       first|go_region_held3 (fun w'=>w'.cell? ⟨w.heap.size,10,none⟩=some (.int .i64 n)∧w'.cell? ⟨w.heap.size,9,none⟩=some (.slice a2 m c2)∧w'.cell? ⟨w1.heap.size,0,none⟩=some (.int .i64 v)) (refine⟨?_,?_,?_⟩<;>first|(with_reducible assumption)|(go_simp;done)|(exact cL8 (by assumption) (by go_simp))) (first|(go_at_call 43;refine cM8 (hN _ bex) ?_;rintro y w3 ⟨rfl,hb3⟩;have hz3:=hb3.size;(try simp at hz3))|(go_at_call 47;refine cM8 (hA' _ bex) ?_;rintro y w3 ⟨rfl,hb3⟩;have hz3:=hb3.size;(try simp at hz3)))|fail
       by_cases hm12:12<n+1+(m:Int)
       ·have hm2:decide (n+1+(m:Int)≤12)=false:=by simp;omega
        cases bb<;>(go_wp2;go_returns;exact⟨by rw[HY.out];first|rfl|(rw[hm2];rfl)|(rw[hm1];rfl)|(rw[hm1,hm2];rfl),bex⟩)
       ·have hm2:decide (n+1+(m:Int)≤12)=true:=by simp;omega
        cases bb<;>(go_wp2;go_returns;exact⟨by rw[HY.out];first|rfl|(rw[hm2];rfl)|(rw[hm1];rfl)|(rw[hm1,hm2];rfl),bex⟩)
      ·have hm1:decide (m≤1)=false:=by simp;omega
       have hm0i:¬ (m:Int)≤1:=by omega
       have hdm:decide ((m:Int)≤1)=false:=by simp;omega
       rw[hm1,Bool.false_and,Bool.false_and]at HZ;have HY:Hid (_):=HZ;clear HZ;go_wp2_with fail;refine wp_region_held_drew (S:=(fun w'=>w'.cell? ⟨w.heap.size,10,none⟩=some (.int .i64 n)∧w'.cell? ⟨w.heap.size,9,none⟩=some (.slice a2 m c2)∧w'.cell? ⟨w1.heap.size,0,none⟩=some (.int .i64 v))) (by kernel_rfl) ?_ (fun hHeld=>?_)
       ·refine⟨?_,?_,?_⟩<;>first|(with_reducible assumption)|(go_simp;done)|(exact cL8 (by assumption) (by go_simp))
       refine tlY 0 117 rfl rfl ?_;refine tlY 1 118 rfl rfl ?_;refine tlY 2 119 rfl rfl ?_;refine tlY 3 120 rfl rfl ?_;refine tlY 4 121 rfl rfl ?_;refine tlY 5 122 rfl rfl ?_;refine tlY 6 123 rfl rfl ?_;refine tlY 7 124 rfl rfl ?_;refine tlY 8 125 rfl rfl ?_;refine tlY 9 126 rfl rfl ?_;refine tlY 10 127 rfl rfl ?_;refine tlY 11 128 rfl rfl ?_;refine wpAnyH_ready (rs:=[12]) (by kernel_rfl) (by simp) ?_;refine AllReadyH.cons rfl (fun KK hKK=>?_) AllReadyH.nil;go_simp;go_at_call 43;refine cM8 (hN _ bex) ?_;rintro y w3 ⟨rfl,hb3⟩;have hz3:=hb3.size;(try simp at hz3);try go_wp2_with fail
       refine hKK.out _ _ ?_ (fun hHeld12=>?_)
       ·refine⟨?_,?_,?_⟩<;>first|(with_reducible assumption)|(go_simp;done)|(exact cL8 (by assumption) (by go_simp))
       clear hKK;refine tlY 13 130 rfl rfl ?_;refine tlY 14 131 rfl rfl ?_;refine tlY 15 132 rfl rfl ?_;refine tlY 16 133 rfl rfl ?_;refine tlY 17 134 rfl rfl ?_;try simp only[hdm]
       refine tlY 18 135 rfl rfl ?_;refine tlY 19 136 rfl rfl ?_;refine tlN 20 137 rfl rfl ?_;refine tlN 21 138 rfl rfl ?_;refine tlN 22 139 rfl rfl ?_;refine tlN 23 140 rfl rfl ?_;refine tlN 24 141 rfl rfl ?_;refine tlN 25 142 rfl rfl ?_;refine tlY 26 143 rfl rfl ?_;refine tlY 27 9 rfl rfl ?_;refine tlY 28 10 rfl rfl ?_;refine wpAnyH_done (by kernel_rfl) ?_ _;go_wp2;go_returns;exact⟨by rw[HY.out];first|rfl|(rw[hm2];rfl)|(rw[hm1];rfl)|(rw[hm1,hm2];rfl),bex⟩
theorem wdI_any (rs:List R3):∀f,WdI rs f
 |0=>wdI_zero rs
 |f+1=>wdI_step (wdI_any rs f)
end
section
open Go.RowKit Go.Deep Go.ChangeShapes Go.WideShapes
theorem Tryz.infoBagX:(Tryz.prog.info? 60).map (fun i=>(i.zero,i.size,i.bytes))=some (some (.agg #[.int .i64 0,.slice none 0 0]),2,32):=by kernel_rfl
theorem okW_sizeX {x:V3}(h:okW x=true):x.s.size≤100:=by
 have nil0:x.s.toList=[]→x.s.size≤100:=fun e=>by
  have e2:x.s=⟨#[]⟩:=by rw[ByteArray.toList_eq]at e;exact ByteArray.ext (Array.toList_inj.1 e)
  rw[e2];decide
 unfold okW okB at h;split at h
 ·simp at h;exact nil0 h.2
 split at h
 ·simp at h;exact nil0 h
 split at h
 ·simp at h;exact nil0 h.2
 split at h
 ·simp at h;exact h.2
 ·cases h
theorem wts_okX:∀ {vs:List V3},(∀x∈vs,okW x=true)→wts vs≤100*vs.length
 | [],_=>Nat.le_refl _
 |x::vs,h=>by
  have h1:=okW_sizeX (h x (by simp));have h2:=wts_okX (vs:=vs) fun y hy=>h y (by simp[hy]);unfold wts at h2⊢;simp only[List.map_cons,List.sum_cons,List.length_cons];omega
theorem wtcs_okX:∀ {cs:List C2},(∀x∈cs,wt x.r≤1212)→wtcs cs≤1212*cs.length
 | [],_=>Nat.le_refl _
 |x::cs,h=>by
  have h1:=h x (by simp);have h2:=wtcs_okX (cs:=cs) fun y hy=>h y (by simp[hy]);unfold wtcs at h2⊢;simp only[List.map_cons,List.sum_cons,List.length_cons];omega
theorem Mean.wtb {W:Int}{cs:List C2}(h:Mean W cs):wtb cs≤1048576:=by
 obtain⟨h1,h2,h3,_⟩:=h.all;have:wtcs cs≤1212*cs.length:=wtcs_okX fun x hx=>by
  have hr:=h.row x hx;have h4:=wts_okX (vs:=x.r) fun y hy=>(hr.2 y hy).1;have h5:=hr.1;unfold wt;omega
 unfold Go.Proofs.YtflokiejcjjbiaaGreat.wtb;omega
def AnX (B R:Nat)(X:World):Prop:=(X.cell? ⟨B,0,none⟩=some (.int .i64 0)∧X.cell? ⟨B,1,none⟩=some (.slice none 0 0)∧∀q,X.frozen? ⟨B,q,none⟩=false)∧(X.cell? ⟨R,0,none⟩=some (.int .i64 0)∧X.cell? ⟨R,1,none⟩=some (.slice none 0 0)∧∀q,X.frozen? ⟨R,q,none⟩=false)
theorem ansCells {X w5:World}{B R:Nat}(h:AnX B R X)(hb:Below X.heap.size X w5):w5.cell? ⟨B,0,none⟩=some (.int .i64 0)∧w5.cell? ⟨B,1,none⟩=some (.slice none 0 0)∧(∀q,w5.frozen? ⟨B,q,none⟩=false)∧w5.cell? ⟨R,0,none⟩=some (.int .i64 0)∧w5.cell? ⟨R,1,none⟩=some (.slice none 0 0)∧∀q,w5.frozen? ⟨R,q,none⟩=false:=by
 obtain⟨⟨a0,a1,a2⟩,b0,b1,b2⟩:=h;have hB:B<X.heap.size:=bl8 _ _ a0;have hR:R<X.heap.size:=bl8 _ _ b0;exact⟨((bc8 hb).1 _ _ hB).trans a0,((bc8 hb).1 _ _ hB).trans a1,fun q=>((bc8 hb).2 _ q hB).trans (a2 q),((bc8 hb).1 _ _ hR).trans b0,((bc8 hb).1 _ _ hR).trans b1,fun q=>((bc8 hb).2 _ q hR).trans (b2 q)⟩
def bagOf (V:E7→List V3→V3)(rs:List R3)(f:Nat)(q:P12):B2:=⟨wP8 rs f q,(mP8 V rs f q).2⟩
def AnS (V:E7→List V3→V3)(rs:List R3)(f:Nat):Prop:=∀ (p:P12) (ue us u:Value) (g:List Nat) (D d:Nat) (vd:Value) (Fd:List Nat) (w:World),p.wf→ListsP w D (PlansIs w D d) p ue us u g→wtP p≤1048576→RelsF w vd rs Fd→PreP f p→0≤wP8 rs f p→(∀q∈p.ks,(mP8 V rs (f -1) q).1=true)→
  Calls Tryz.prog 34 #[vd,(.agg #[.int .i64 p.k,.string p.s,.int .i64 p.e.k,.int .i64 p.e.n,.int .i64 p.e.v.k,.int .i64 p.e.v.n,.string p.e.v.s,.string p.e.p,ue,us,.int .i64 p.n,u])] w fun x w'=>(∃u us G,x=.returned (.agg #[.int .i64 (wP8 rs f p),u])∧BagOwn w' w.heap.size u (mP8 V rs f p).2 us G)∧Below w.heap.size w w'
theorem mean_kids {V:E7→List V3→V3}{rs:List R3}{f:Nat}{q:P12}(h:(mP8 V rs f q).1=true):∀r∈q.ks,(mP8 V rs (f -1) r).1=true:=by
 cases f with
 |zero=>simp[mP8]at h
 |succ f=>
  unfold mP8 at h;simp only[Bool.and_eq_true,List.all_eq_true]at h;exact h.1
theorem anS_step {m:Int}{V:E7→List V3→V3}(hV:VOk m V){rs:List R3}(hdb:okDb rs=true)(hrw:RsWf rs){f:Nat}(ih:AnS V rs f):AnS V rs (f+1):=by
 intro p ue us u g D d vd Fd w hw hL hn hR hP hW hK;rw[Nat.add_sub_cancel]at hK;have hwt:=wtP_eq p;obtain⟨i0,hi,hz0,hz1,hz2'⟩:=info_parts Tryz.infoBagX;obtain⟨a1,c1,a2,c2,a3,c3,rfl,rfl,rfl,s1,s2,s3,s4,s5,s6⟩:=hL.shape;obtain⟨ad,ld,cd,rfl⟩:=hR.is.shape;obtain⟨Fe,Fs,h,rfl,ke,kes,kp⟩:=hL;obtain⟨d,rfl⟩:∃d',d=d'+1:=by cases d with|zero=>exact kp.elim|succ d=>exact⟨d,rfl⟩
 obtain⟨a,c,b,o,G0,e0,hl,hc,hG0,_,ha⟩:=kp.pick;injection e0 with e1 e2 e3;subst e1 e3;unfold maxLen at hc;have hkw:∀q∈p.ks,0≤wP8 rs f q:=(widthP_inv hW).2.1;have hI:=fun(x:P12) (y1 y2 y3:Value) (gx:List Nat) (w2:World) (hw2:x.wf) (hL2:ListsP w2 D (PlansIs w2 D d) x y1 y2 y3 gx) (hn2:wtP x≤1048576) (hb:Below w.heap.size w w2) (hx:x∈p.ks)=>ih x y1 y2 y3 gx D d _ Fd w2 hw2 hL2 hn2 (hR.below hb) (hP.2.2 x hx) (hkw x hx) (mean_kids (hK x hx));have hM:=fun(x:P12) (hx:x∈p.ks)=>mean_mean hV hdb hrw (hP.2.2 x hx) (hkw x hx) (hK x hx);have hk2:p.ks.length≤2:=by
  have:=form_kids (widthP_inv hW).1;unfold kidsK at this;split at this;omega;split at this;omega;split at this;omega;split at this;omega;split at this;omega;split at this;omega;split at this<;>omega
 have hB:=bxP_new w p (.slice a1 p.e.ks.length c1) (.slice a2 p.es.length c2) (.slice a3 p.ks.length c3) 42;have hm:(mP8 V rs (f+1) p).2=if p.k=0 then relC rs p.s else overC V p (mP8 V rs f (p.ks.getD 0 .nil)).2 (mP8 V rs f (p.ks.getD 1 .nil)).2:=by rw[mP8]
 obtain⟨RW,HRW⟩:=hidW (wP8 rs (f+1) p);obtain⟨RC,HRC⟩:=hidW (mP8 V rs (f+1) p).2;have HM:Hid (RC=if p.k=0 then relC rs p.s else overC V p (mP8 V rs f (p.ks.getD 0 .nil)).2 (mP8 V rs f (p.ks.getD 1 .nil)).2):=HRC.out.symm.trans hm;rw[HRW.out,HRC.out];clear ih hm s1 s2 s3 s4 s5 s6;go_enter Tryz.func34,Tryz.ntmps34;go_wp2_with fail;go_loopw [5,6] (fun y i wr=> ∃ (k:Nat) (us:List Value) (G:List (List Nat)),k≤p.ks.length∧i=.int .i64 k∧(∃ay cy,y=.slice ay k cy)∧BgsOwn wr (w.heap.size+1+1) y ((p.ks.take k).map (bagOf V rs f)) us G∧BxP wr w.heap.size p (.slice a1 p.e.ks.length c1) (.slice a2 p.es.length c2) (.slice a3 p.ks.length c3)∧wr.cell? ⟨w.heap.size+1,0,none⟩=some (.int .i64 0)∧wr.cell? ⟨w.heap.size+1,1,none⟩=some (.slice none 0 0)∧(∀q,wr.frozen? ⟨w.heap.size+1,q,none⟩=false)∧Below w.heap.size w wr∧w.heap.size+1<wr.heap.size) (fun _ i _=>p.ks.length - (intOf i).toNat)
 case atStart=>
  refine⟨0,[],[],Nat.zero_le _,rfl,⟨_,_,rfl⟩,BgsOwn.empty' (by simp),hB.below bex,by go_simp,by go_simp,fun q=>by go_simp,bex,by simp⟩
 case round=>
  obtain⟨k,us,G,hk,rfl,⟨ay,cy,rfl⟩,hO,hBr,r0,r1,rf,hb,hsz⟩:=hrel;have hzb:=hb.size;by_cases hlt:k<p.ks.length
  ·obtain⟨rfl,hblt,_,hL⟩:=ha k hlt;obtain⟨x,g,ue,us',u,hx,hg,hxw,⟨q0,q1,q2,q3,q4,q5,q6,q7,q8,q9,q10,q11⟩,hLx,hbr⟩:=hL.at hG0 hblt hb hlt;obtain⟨x_e,x_E,x_s,x_S,x_k,x_K,rfl,rfl,rfl,_,_,_,_,_,_⟩:=hLx.shape;have hxm:=mg8 hx;have hxn:wtP x≤1048576:=by have:=wtP_mem hxm;omega
   have hV1:=hI x _ _ _ g wr hxw hLx hxn hb hxm;have HT:Hid ((p.ks.take (k+1)).map (bagOf V rs f)=(p.ks.take k).map (bagOf V rs f)++ [⟨wP8 rs f x,(mP8 V rs f x).2⟩]):=by
    obtain⟨hk',rfl⟩:=gE1 hx;show _=_;rw[List.take_succ_eq_append_getElem hk',List.map_append];rfl
   obtain⟨_,_,_,_,_,_,_,_,_,_,_,_,b11⟩:=id hBr;have htl:((p.ks.take k).map (bagOf V rs f)).length=k:=by simp;omega
   have hkI:(k:Int)<p.ks.length:=by omega
   generalize(p.ks.take k).map (bagOf V rs f)=bs at*;obtain rfl:k=bs.length:=htl.symm;generalize wP8 rs f x=xW at*;generalize(mP8 V rs f x).2=xC at*;clear ha hL hx hg hI hM hxw hLx hxn hxm;go_wp2_with fail;refine cM8 hV1 ?_;rintro z w2 ⟨⟨u2,us2,G2,rfl,hB2⟩,hb2⟩;obtain⟨F2,hF2,hO2⟩:=hB2.rowsF;obtain⟨a4,c4,rfl⟩:=hB2.shape;have hz2:=hb2.size;have bel2:Below w.heap.size w w2:=hb.trans (hb2.mono hzb);have hOw:=hO.below hb2;have hol:=oL8 hO.own;have hGl:=hO.lt;have hO2':=hO2.2.1;have hBx2:=hBr.below hb2;have r02:=((bc8 hb2).1 _ 0 hsz).trans r0;have r12:=((bc8 hb2).1 _ 1 hsz).trans r1;have rf2:∀q,w2.frozen? ⟨w.heap.size+1,q,none⟩=false:=fun q=>((bc8 hb2).2 _ q hsz).trans (rf q);have hl2:=hF2.lt;clear hV1 hb2 hB2 hO hBr r0 r1 rf q0 q1 q2 q3 q4 q5 q6 q7 q8 q9 q10 q11 b11;go_wp2_with(at_builtin;refine wpList_append_own_at _ rfl _ _ 105 rfl (w.heap.size+1+1) 60 i0 _ 2 32 Tryz.underlying105 hi hz0 hz1 hz2' rfl (by decide) _ _ _ rfl (hOw.own.alloc _) ⟨w2.heap.size,0,none⟩ 1 1 [.int .i64 xW,.slice a4 xC.length c4] rfl rfl (World.news_of_block (cs:=#[.int .i64 xW,.slice a4 xC.length c4]) (t:=60) (fr:=(0,0)) (heap_alloc_new w2 _)) (by simp[Value.oneCell']) ?c3 ?c4 ?c5 ?_)
   case c3=>unfold maxLen;omega
   case c4=>omega
   case c5=>simp;omega
   intro v5 w5 hown5 hgr5 _ hat5;have hz5:=hgr5.size;simp at hz5;have al2:Below w2.heap.size w2 (w2.alloc (.cells #[.int .i64 xW,.slice a4 xC.length c4] 60)):=(Below.refl _ _).alloc (Nat.le_refl _) _;have hp:=BgsOwn.push (x:=⟨xW,xC⟩) (hOw.below al2) (hF2.below al2) ⟨hO2.1,fun b hb=>by have:=hO2' b hb;omega,fun b hb q=>(fb8 (bA8 _ _ _ (hl2 b hb))).trans (hO2.2.2 b hb q)⟩ (fun b hb hb'=>by have:=hO2' b hb';have:=hGl b hb;omega) (fun b hb hb'=>by have:=hO2' b hb';have:=(hol b hb).2;omega) hown5 hgr5 (fun b hb=>by
    rcases hat5 with e|e
    ·left;rw[←e];exact hb
    ·right;rw[e]at hb;cases hb;simp)
   have hs5:∃ao cap,v5=.slice ao (bs.length+1) cap:=by
    rcases hown5.2 with⟨_,h0⟩|⟨g,cap,cur,hv,_⟩
    ·exact absurd h0 (by omega)
    ·exact⟨_,cap,hv⟩
   obtain⟨ao,cap,rfl⟩:=hs5;have hne5:∀t,t<w.heap.size+1+1→(Value.slice ay bs.length cy).ownBlock≠some t:=fun t ht e=>by have:=(hol t e).1;omega
   have k5:∀t,t<w.heap.size+1+1→w5.heap[t]?=w2.heap[t]?:=fun t ht=>(hgr5.block t (by simp;omega) (fun e=>hne5 t ht e.symm)).trans (bA8 _ _ _ (by omega));have hBx5:BxP w5 w.heap.size p (.slice a1 p.e.ks.length c1) (.slice a2 p.es.length c2) (.slice (some ⟨b,o,none⟩) p.ks.length c3):=by
    obtain⟨hl,h0,h1,h2,h3,h4,h5,h6,h7,h8,h9,h10,h11⟩:=hBx2;have hk:=k5 w.heap.size (by omega);exact⟨by omega,(cb8 hk).trans h0,(cb8 hk).trans h1,(cb8 hk).trans h2,(cb8 hk).trans h3,(cb8 hk).trans h4,(cb8 hk).trans h5,(cb8 hk).trans h6,(cb8 hk).trans h7,(cb8 hk).trans h8,(cb8 hk).trans h9,(cb8 hk).trans h10,(cb8 hk).trans h11⟩
   have r05:=(cb8 (k5 (w.heap.size+1) (by omega))).trans r02;have r15:=(cb8 (k5 (w.heap.size+1) (by omega))).trans r12;have rf5:∀q,w5.frozen? ⟨w.heap.size+1,q,none⟩=false:=fun q=>(fb8 (k5 (w.heap.size+1) (by omega))).trans (rf2 q);have bel5:Below w.heap.size w w5:=Below.grown (bel2.alloc bel2.size _) hgr5 (by simp;omega) (fun t ht=>by have:=(hol t ht).1;omega);rw[←HT.out]at hp;have hsz5:w.heap.size+1<w5.heap.size:=by omega
   clear hown5 hgr5 hat5 hOw hF2 hO2 hBx2 k5 r02 r12 rf2 al2 HT;go_wp2_with fail;exact⟨⟨bs.length+1,_,_,hlt,by simp,⟨_,_,rfl⟩,hp,hBx5,r05,r15,rf5,bel5,hsz5⟩,by simp[intOf];omega⟩
  ·obtain rfl:k=p.ks.length:=by omega
   rw[List.take_length]at hO;clear ha hI;obtain⟨_,b0,b1,b2,b3,b4,b5,b6,b7,b8,b9,b10,b11⟩:=hBr;have hX0:=heap_alloc_new wr (.cells #[.int .i64 0,.slice none 0 0] 60);have belX:Below w.heap.size w (wr.alloc (.cells #[.int .i64 0,.slice none 0 0] 60)):=hb.alloc hzb _;have alX:Below wr.heap.size wr (wr.alloc (.cells #[.int .i64 0,.slice none 0 0] 60)):=(Below.refl _ _).alloc (Nat.le_refl _) _;have x0:(wr.alloc (.cells #[.int .i64 0,.slice none 0 0] 60)).cell? ⟨wr.heap.size,0,none⟩=some (.int .i64 0):=by go_simp
   have x1:(wr.alloc (.cells #[.int .i64 0,.slice none 0 0] 60)).cell? ⟨wr.heap.size,1,none⟩=some (.slice none 0 0):=by go_simp
   have xf:∀q,(wr.alloc (.cells #[.int .i64 0,.slice none 0 0] 60)).frozen? ⟨wr.heap.size,q,none⟩=false:=fun q=>by go_simp
   have hzx:(wr.alloc (.cells #[.int .i64 0,.slice none 0 0] 60)).heap.size=wr.heap.size+1:=by simp
   have HX:Hid (AnX wr.heap.size (w.heap.size+1) (wr.alloc (.cells #[.int .i64 0,.slice none 0 0] 60))):=⟨⟨x0,x1,xf⟩,(cb8 (bA8 wr _ _ (by omega))).trans r0,(cb8 (bA8 wr _ _ (by omega))).trans r1,fun q=>(fb8 (bA8 wr _ _ (by omega))).trans (rf q)⟩;rcases wk_in hW with h0|h0|h0|h0|h0|h0|h0
   ·have HM1:=HM.out;rw[if_pos h0]at HM1;obtain⟨hks,x,hx,eW⟩:=wk_0 hW h0;have HWW:Hid (x.W=RW):=eW.symm.trans HRW.out;unfold relC at HM1;rw[hx]at HM1;have HP:Hid (x.cs=RC):=HM1.symm;have hxm:=relOf_mem hx;have hpl:okPlain x.W x.cs=true:=by
     have h5:=hdb;simp only[okDb,Bool.and_eq_true]at h5;exact okRs_each h5.2 x hxm
    have hMx:=mean_of hpl (hrw x hxm).2.2;have hwx:=hMx.wtb;have b0x:(wr.alloc (.cells #[.int .i64 0,.slice none 0 0] 60)).cell? ⟨w.heap.size,0,none⟩=some (.int .i64 p.k):=(cb8 (bA8 wr _ _ (by omega))).trans b0;have b1x:(wr.alloc (.cells #[.int .i64 0,.slice none 0 0] 60)).cell? ⟨w.heap.size,1,none⟩=some (.string p.s):=(cb8 (bA8 wr _ _ (by omega))).trans b1;clear HM1 HM;have k0:(p.k==0)=true:=by rw[h0];rfl
    have k1:(p.k==1)=false:=by rw[h0];rfl
    have k2:(p.k==2)=false:=by rw[h0];rfl
    have k3:(p.k==3)=false:=by rw[h0];rfl
    have k4:(p.k==4)=false:=by rw[h0];rfl
    have k5:(p.k==5)=false:=by rw[h0];rfl
    have k6:(p.k==6)=false:=by rw[h0];rfl
    have hp0:((p.ks.length:Nat):Int)=0:=by rw[hks];rfl
    go_wp2_with fail;refine cM8 (l04Rel_any p.s _ rs Fd _ (hR.below belX)) ?_;rintro z w4 ⟨⟨W4,u4,rfl,⟨au,lu,cu,rfl⟩,hrel4⟩,hb4⟩;obtain⟨eW4,g4,hg4⟩:=hrel4 x hx;subst eW4;have hz4:=hb4.size;simp at hz4;have bel4:Below w.heap.size w w4:=belX.trans (hb4.mono (by simp;omega));have r04:=((bc8 hb4).1 (w.heap.size+1) 0 (by simp;omega)).trans ((cb8 (bA8 wr _ _ (by omega))).trans r0);have r14:=((bc8 hb4).1 (w.heap.size+1) 1 (by simp;omega)).trans ((cb8 (bA8 wr _ _ (by omega))).trans r1);have rf4:∀qq,w4.frozen? ⟨w.heap.size+1,qq,none⟩=false:=fun qq=>((bc8 hb4).2 _ qq (by simp;omega)).trans ((fb8 (bA8 wr _ _ (by omega))).trans (rf qq));clear hrel4 hb4;go_wp2_with fail;have hCp:=l02Copy_any x.W (.slice au lu cu) x.cs g4;refine cM8 (hCp _ (hg4.below bex) hwx) ?_;rw[HP.out];rintro z w5 ⟨⟨u5,us5,G5,rfl,hB5⟩,hb5⟩;obtain⟨a5,c5,rfl⟩:=hB5.shape;have hz5:=hb5.size;simp at hz5;have bel45:Below w4.heap.size w4 w5:=bex;have r05:=((bc8 bel45).1 (w.heap.size+1) 0 (by omega)).trans r04;have r15:=((bc8 bel45).1 (w.heap.size+1) 1 (by omega)).trans r14;have rf5:∀qq,w5.frozen? ⟨w.heap.size+1,qq,none⟩=false:=fun qq=>((bc8 bel45).2 _ qq (by omega)).trans (rf4 qq);have bel5:Below w.heap.size w w5:=bel4.trans (bel45.mono (by omega));(try simp only[World.size_alloc,World.size_drew]at hB5);clear r04 r14 rf4 hb5 bel45 hg4 hCp;go_wp2_with fail;refine bodyPost_ret (v:=.agg #[.int .i64 x.W,.slice a5 RC.length c5]) (by simp[results,Tryz.results34,go_sem, *]) rfl ⟨⟨_,us5,G5,by rw[HWW.out],(hB5.keep (by simp) fun b hb _=>?_).weak (by omega)⟩,?_⟩
    ·repeat rw[bS8 _ _ _ _ (by simp;omega)]
    ·repeat (first|(with_reducible exact bel5)|(with_reducible refine Below.setCell ?_ ?hh _;case hh=>(simp;try omega)))
   ·have HM1:=HM.out;rw[if_neg (by omega)]at HM1;obtain⟨q,hq,hwq,hbe,eW⟩:=wk_1 hW h0;rw[kid0 hq]at HM1;unfold overC at HM1;rw[if_pos h0]at HM1;have HP:Hid (_=RC):=HM1.symm;clear HM1 HM;have HWW:Hid (wP8 rs f q=RW):=eW.symm.trans HRW.out;have hoe:okE 13 p.e=true:=by unfold bE8 at hbe;rw[Bool.and_eq_true]at hbe;exact hbe.1
    have hopc:=hw.2.2.1;have hne7:wtE p.e≤1048576:=by omega
    rw[hq]at hO;have hq1:p.ks.length=1:=by rw[hq];rfl
    obtain⟨gl0,cap0,u0,F0,ev0,hgl0,_,_,l00,l01,hF0⟩:=hO.at (i:=0) (x:=bagOf V rs f q) rfl;injection ev0 with ev1 ev2 ev3;subst ev1 ev3;have hF0x:=hF0.below alX;change RowsF _ _ (mP8 V rs f q).2 _ at hF0 hF0x;obtain⟨au0,lu0,cu0,rfl⟩:=hF0.is.shape;have l00x:(wr.alloc (.cells #[.int .i64 0,.slice none 0 0] 60)).cell? ⟨gl0,0,none⟩=some (.int .i64 (wP8 rs f q)):=(cb8 (bA8 wr _ _ (by omega))).trans l00;have l01x:(wr.alloc (.cells #[.int .i64 0,.slice none 0 0] 60)).cell? ⟨gl0,1,none⟩=some (.slice au0 lu0 cu0):=(cb8 (bA8 wr _ _ (by omega))).trans l01;have hM0:=hM q (by rw[hq];simp);have hwb0:=hM0.wtb;have hal0:=hM0.all;have b2x:(wr.alloc (.cells #[.int .i64 0,.slice none 0 0] 60)).cell? ⟨w.heap.size,2,none⟩=some (.int .i64 p.e.k):=(cb8 (bA8 wr _ _ (by omega))).trans b2;have b3x:(wr.alloc (.cells #[.int .i64 0,.slice none 0 0] 60)).cell? ⟨w.heap.size,3,none⟩=some (.int .i64 p.e.n):=(cb8 (bA8 wr _ _ (by omega))).trans b3;have b4x:(wr.alloc (.cells #[.int .i64 0,.slice none 0 0] 60)).cell? ⟨w.heap.size,4,none⟩=some (.int .i64 p.e.v.k):=(cb8 (bA8 wr _ _ (by omega))).trans b4;have b5x:(wr.alloc (.cells #[.int .i64 0,.slice none 0 0] 60)).cell? ⟨w.heap.size,5,none⟩=some (.int .i64 p.e.v.n):=(cb8 (bA8 wr _ _ (by omega))).trans b5;have b6x:(wr.alloc (.cells #[.int .i64 0,.slice none 0 0] 60)).cell? ⟨w.heap.size,6,none⟩=some (.string p.e.v.s):=(cb8 (bA8 wr _ _ (by omega))).trans b6;have b7x:(wr.alloc (.cells #[.int .i64 0,.slice none 0 0] 60)).cell? ⟨w.heap.size,7,none⟩=some (.string p.e.p):=(cb8 (bA8 wr _ _ (by omega))).trans b7
    have b8x:(wr.alloc (.cells #[.int .i64 0,.slice none 0 0] 60)).cell? ⟨w.heap.size,8,none⟩=some (.slice a1 p.e.ks.length c1):=(cb8 (bA8 wr _ _ (by omega))).trans b8;have hlen:((p.ks.length:Nat):Int)=1:=by rw[hq1];rfl
    rw[hq1]at hk hlt;have k0:(p.k==0)=false:=by rw[h0];rfl
    have k1:(p.k==1)=true:=by rw[h0];rfl
    have k2:(p.k==2)=false:=by rw[h0];rfl
    have k3:(p.k==3)=false:=by rw[h0];rfl
    have k4:(p.k==4)=false:=by rw[h0];rfl
    have k5:(p.k==5)=false:=by rw[h0];rfl
    have k6:(p.k==6)=false:=by rw[h0];rfl
    have lw:w.heap.size<wr.heap.size:=by omega
    have nw:¬w.heap.size=wr.heap.size:=by omega
    have ng:¬gl0=wr.heap.size:=by omega
    go_wp2_with fail;go_region_held3 (fun w'=>w'.cell? ⟨gl0,0,none⟩=some (.int .i64 (wP8 rs f q))∧w'.cell? ⟨gl0,1,none⟩=some (.slice au0 lu0 cu0)∧w'.cell? ⟨w.heap.size,2,none⟩=some (.int .i64 p.e.k)∧w'.cell? ⟨w.heap.size,3,none⟩=some (.int .i64 p.e.n)∧w'.cell? ⟨w.heap.size,4,none⟩=some (.int .i64 p.e.v.k)∧w'.cell? ⟨w.heap.size,5,none⟩=some (.int .i64 p.e.v.n)∧w'.cell? ⟨w.heap.size,6,none⟩=some (.string p.e.v.s)∧w'.cell? ⟨w.heap.size,7,none⟩=some (.string p.e.p)∧w'.cell? ⟨w.heap.size,8,none⟩=some (.slice a1 p.e.ks.length c1)) (refine⟨?_,?_,?_,?_,?_,?_,?_,?_,?_⟩<;>first|(with_reducible assumption)|(go_simp;done)|(exact cL8 (by assumption) (by go_simp))) (first|(go_at_call 51;have hCon:=l04Filter_any hV (wP8 rs f q) (.slice au0 lu0 cu0) (mP8 V rs f q).2 F0 p.e (.slice a1 p.e.ks.length c1) Fe D;rw[HP.out]at hCon;refine cM8 (hCon _ (hF0x.below bex) hwb0 hopc hoe hne7 (ke.below bex) (fun c hc=>(hM0.row c hc).2)) ?_;rintro z w5 ⟨⟨u5,us5,G5,rfl,hB5⟩,hb5⟩;obtain⟨a5,c5,rfl⟩:=hB5.shape;have hz5:=hb5.size;(try simp at hz5);obtain⟨x05,x15,xf5,r05,r15,rf5⟩:=ansCells (w5:=w5) HX.out bex));have belV:Below (wr.alloc (.cells #[.int .i64 0,.slice none 0 0] 60)).heap.size (wr.alloc (.cells #[.int .i64 0,.slice none 0 0] 60)) w5:=bex;have bel5:Below w.heap.size w w5:=belX.trans (belV.mono (by simp;omega));(try simp only[World.size_alloc,World.size_drew]at hB5);clear hb5 belV;go_wp2_with fail;refine bodyPost_ret (v:=.agg #[.int .i64 (wP8 rs f q),.slice a5 RC.length c5]) (by simp[results,Tryz.results34,go_sem, *]) rfl ⟨⟨_,us5,G5,by rw[HWW.out],(hB5.keep (by simp) fun b hb _=>?_).weak (by omega)⟩,?_⟩
    ·repeat rw[bS8 _ _ _ _ (by simp;omega)]
    ·repeat (first|(with_reducible exact bel5)|(with_reducible refine Below.setCell ?_ ?hh _;case hh=>(simp;try omega)))
   ·have HM1:=HM.out;rw[if_neg (by omega)]at HM1;obtain⟨q,hq,hwq,hes0,hbe,eW⟩:=wk_2 hW h0;rw[kid0 hq]at HM1;unfold overC at HM1;rw[if_neg (by omega),if_pos h0]at HM1;have HP:Hid (_=RC):=HM1.symm;clear HM1 HM;have HWW:Hid ((p.es.length:Int)=RW):=eW.symm.trans HRW.out;have hes12:p.es.length≤12:=by have:=wL8 rs (f+1) p;omega
    have hoe:∀e∈p.es,okE 13 e=true:=fun e he=>by have:=hbe e he;unfold bE8 at this;rw[Bool.and_eq_true]at this;exact this.1
    have hne7:∀e∈p.es,wtE e≤1048576:=fun e he=>by have:=wtE_mem he;omega
    rw[hq]at hO;have hq1:p.ks.length=1:=by rw[hq];rfl
    obtain⟨gl0,cap0,u0,F0,ev0,hgl0,_,_,l00,l01,hF0⟩:=hO.at (i:=0) (x:=bagOf V rs f q) rfl;injection ev0 with ev1 ev2 ev3;subst ev1 ev3;have hF0x:=hF0.below alX;change RowsF _ _ (mP8 V rs f q).2 _ at hF0 hF0x;obtain⟨au0,lu0,cu0,rfl⟩:=hF0.is.shape;have l00x:(wr.alloc (.cells #[.int .i64 0,.slice none 0 0] 60)).cell? ⟨gl0,0,none⟩=some (.int .i64 (wP8 rs f q)):=(cb8 (bA8 wr _ _ (by omega))).trans l00;have l01x:(wr.alloc (.cells #[.int .i64 0,.slice none 0 0] 60)).cell? ⟨gl0,1,none⟩=some (.slice au0 lu0 cu0):=(cb8 (bA8 wr _ _ (by omega))).trans l01;have hM0:=hM q (by rw[hq];simp);have hwb0:=hM0.wtb;have hal0:=hM0.all;have b9x:(wr.alloc (.cells #[.int .i64 0,.slice none 0 0] 60)).cell? ⟨w.heap.size,9,none⟩=some (.slice a2 p.es.length c2):=(cb8 (bA8 wr _ _ (by omega))).trans b9;have hlen:((p.ks.length:Nat):Int)=1:=by rw[hq1];rfl
    rw[hq1]at hk hlt;have k0:(p.k==0)=false:=by rw[h0];rfl
    have k1:(p.k==1)=false:=by rw[h0];rfl
    have k2:(p.k==2)=true:=by rw[h0];rfl
    have k3:(p.k==3)=false:=by rw[h0];rfl
    have k4:(p.k==4)=false:=by rw[h0];rfl
    have k5:(p.k==5)=false:=by rw[h0];rfl
    have k6:(p.k==6)=false:=by rw[h0];rfl
    have lw:w.heap.size<wr.heap.size:=by omega
    have nw:¬w.heap.size=wr.heap.size:=by omega
    have ng:¬gl0=wr.heap.size:=by omega
    go_wp2_with fail;go_region_held3 (fun w'=>w'.cell? ⟨gl0,0,none⟩=some (.int .i64 (wP8 rs f q))∧w'.cell? ⟨gl0,1,none⟩=some (.slice au0 lu0 cu0)∧w'.cell? ⟨w.heap.size,9,none⟩=some (.slice a2 p.es.length c2)) (refine⟨?_,?_,?_⟩<;>first|(with_reducible assumption)|(go_simp;done)|(exact cL8 (by assumption) (by go_simp))) (first|(go_at_call 52;have hCon:=l04Project_any hV (wP8 rs f q) (.slice au0 lu0 cu0) (mP8 V rs f q).2 F0 (.slice a2 p.es.length c2) p.es Fs D;refine cM8 (hCon _ (hF0x.below bex) hwb0 hal0.2.2.1 hes12 (kes.below bex) hoe hne7 (fun c hc=>(hM0.row c hc).2) hal0.2.2.2 _ HP) ?_;rintro z w5 ⟨⟨u5,us5,G5,rfl,hB5⟩,hb5⟩;obtain⟨a5,c5,rfl⟩:=hB5.shape;have hz5:=hb5.size;(try simp at hz5);obtain⟨x05,x15,xf5,r05,r15,rf5⟩:=ansCells (w5:=w5) HX.out bex));have belV:Below (wr.alloc (.cells #[.int .i64 0,.slice none 0 0] 60)).heap.size (wr.alloc (.cells #[.int .i64 0,.slice none 0 0] 60)) w5:=bex;have bel5:Below w.heap.size w w5:=belX.trans (belV.mono (by simp;omega));(try simp only[World.size_alloc,World.size_drew]at hB5);clear hb5 belV;go_wp2_with fail;refine bodyPost_ret (v:=.agg #[.int .i64 (p.es.length:Int),.slice a5 RC.length c5]) (by simp[results,Tryz.results34,go_sem, *]) rfl ⟨⟨_,us5,G5,by rw[HWW.out],(hB5.keep (by simp) fun b hb _=>?_).weak (by omega)⟩,?_⟩
    ·repeat rw[bS8 _ _ _ _ (by simp;omega)]
    ·repeat (first|(with_reducible exact bel5)|(with_reducible refine Below.setCell ?_ ?hh _;case hh=>(simp;try omega)))
   ·have HM1:=HM.out;rw[if_neg (by omega)]at HM1;obtain⟨q,q',hq,hwq,hwq',hbe,eW⟩:=wk_3 hW h0;rw[(kid00 hq).1,(kid00 hq).2]at HM1;unfold overC at HM1;rw[if_neg (by omega),if_neg (by omega),if_pos h0]at HM1;have HP:Hid (_=RC):=HM1.symm;clear HM1 HM;have HWW:Hid (wP8 rs f q+wP8 rs f q'=RW):=eW.symm.trans HRW.out;have hoe:okE 13 p.e=true:=by unfold bE8 at hbe;rw[Bool.and_eq_true]at hbe;exact hbe.1
    have hopc:=hw.2.2.1;have hne7:wtE p.e≤1048576:=by omega
    rw[hq]at hO;have hq1:p.ks.length=2:=by rw[hq];rfl
    obtain⟨gl0,cap0,u0,F0,ev0,hgl0,_,_,l00,l01,hF0⟩:=hO.at (i:=0) (x:=bagOf V rs f q) rfl;injection ev0 with ev1 ev2 ev3;subst ev1 ev3;have hF0x:=hF0.below alX;change RowsF _ _ (mP8 V rs f q).2 _ at hF0 hF0x;obtain⟨au0,lu0,cu0,rfl⟩:=hF0.is.shape;have l00x:(wr.alloc (.cells #[.int .i64 0,.slice none 0 0] 60)).cell? ⟨gl0,0,none⟩=some (.int .i64 (wP8 rs f q)):=(cb8 (bA8 wr _ _ (by omega))).trans l00;have l01x:(wr.alloc (.cells #[.int .i64 0,.slice none 0 0] 60)).cell? ⟨gl0,1,none⟩=some (.slice au0 lu0 cu0):=(cb8 (bA8 wr _ _ (by omega))).trans l01;have hM0:=hM q (by rw[hq];simp);have hwb0:=hM0.wtb;have hal0:=hM0.all;obtain⟨gl1,cap1,u1,F1,ev1,hgl1,_,_,l10,l11,hF1⟩:=hO.at (i:=1) (x:=bagOf V rs f q') rfl;injection ev1 with ev1 ev2 ev3;cases ev1;have hF1x:=hF1.below alX;change RowsF _ _ (mP8 V rs f q').2 _ at hF1 hF1x;obtain⟨au1,lu1,cu1,rfl⟩:=hF1.is.shape;have l10x:(wr.alloc (.cells #[.int .i64 0,.slice none 0 0] 60)).cell? ⟨gl0,2,none⟩=some (.int .i64 (wP8 rs f q')):=(cb8 (bA8 wr _ _ (by omega))).trans l10;have l11x:(wr.alloc (.cells #[.int .i64 0,.slice none 0 0] 60)).cell? ⟨gl0,3,none⟩=some (.slice au1 lu1 cu1):=(cb8 (bA8 wr _ _ (by omega))).trans l11;have hM1:=hM q' (by rw[hq];simp);have hwb1:=hM1.wtb;have hal1:=hM1.all;have b2x:(wr.alloc (.cells #[.int .i64 0,.slice none 0 0] 60)).cell? ⟨w.heap.size,2,none⟩=some (.int .i64 p.e.k):=(cb8 (bA8 wr _ _ (by omega))).trans b2;have b3x:(wr.alloc (.cells #[.int .i64 0,.slice none 0 0] 60)).cell? ⟨w.heap.size,3,none⟩=some (.int .i64 p.e.n):=(cb8 (bA8 wr _ _ (by omega))).trans b3
    have b4x:(wr.alloc (.cells #[.int .i64 0,.slice none 0 0] 60)).cell? ⟨w.heap.size,4,none⟩=some (.int .i64 p.e.v.k):=(cb8 (bA8 wr _ _ (by omega))).trans b4;have b5x:(wr.alloc (.cells #[.int .i64 0,.slice none 0 0] 60)).cell? ⟨w.heap.size,5,none⟩=some (.int .i64 p.e.v.n):=(cb8 (bA8 wr _ _ (by omega))).trans b5;have b6x:(wr.alloc (.cells #[.int .i64 0,.slice none 0 0] 60)).cell? ⟨w.heap.size,6,none⟩=some (.string p.e.v.s):=(cb8 (bA8 wr _ _ (by omega))).trans b6;have b7x:(wr.alloc (.cells #[.int .i64 0,.slice none 0 0] 60)).cell? ⟨w.heap.size,7,none⟩=some (.string p.e.p):=(cb8 (bA8 wr _ _ (by omega))).trans b7;have b8x:(wr.alloc (.cells #[.int .i64 0,.slice none 0 0] 60)).cell? ⟨w.heap.size,8,none⟩=some (.slice a1 p.e.ks.length c1):=(cb8 (bA8 wr _ _ (by omega))).trans b8;have hlen:((p.ks.length:Nat):Int)=2:=by rw[hq1];rfl
    rw[hq1]at hk hlt;have k0:(p.k==0)=false:=by rw[h0];rfl
    have k1:(p.k==1)=false:=by rw[h0];rfl
    have k2:(p.k==2)=false:=by rw[h0];rfl
    have k3:(p.k==3)=true:=by rw[h0];rfl
    have k4:(p.k==4)=false:=by rw[h0];rfl
    have k5:(p.k==5)=false:=by rw[h0];rfl
    have k6:(p.k==6)=false:=by rw[h0];rfl
    have lw:w.heap.size<wr.heap.size:=by omega
    have nw:¬w.heap.size=wr.heap.size:=by omega
    have ng:¬gl0=wr.heap.size:=by omega
    go_wp2_with fail;go_region_held3 (fun w'=>w'.cell? ⟨gl0,0,none⟩=some (.int .i64 (wP8 rs f q))∧w'.cell? ⟨gl0,2,none⟩=some (.int .i64 (wP8 rs f q'))∧w'.cell? ⟨gl0,1,none⟩=some (.slice au0 lu0 cu0)∧w'.cell? ⟨gl0,3,none⟩=some (.slice au1 lu1 cu1)∧w'.cell? ⟨w.heap.size,2,none⟩=some (.int .i64 p.e.k)∧w'.cell? ⟨w.heap.size,3,none⟩=some (.int .i64 p.e.n)∧w'.cell? ⟨w.heap.size,4,none⟩=some (.int .i64 p.e.v.k)∧w'.cell? ⟨w.heap.size,5,none⟩=some (.int .i64 p.e.v.n)∧w'.cell? ⟨w.heap.size,6,none⟩=some (.string p.e.v.s)∧w'.cell? ⟨w.heap.size,7,none⟩=some (.string p.e.p)∧w'.cell? ⟨w.heap.size,8,none⟩=some (.slice a1 p.e.ks.length c1)) (refine⟨?_,?_,?_,?_,?_,?_,?_,?_,?_,?_,?_⟩<;>first|(with_reducible assumption)|(go_simp;done)|(exact cL8 (by assumption) (by go_simp))) (first|(go_at_call 53;have hCon:=l04Join_any hV (wP8 rs f q) (wP8 rs f q') (.slice au0 lu0 cu0) (.slice au1 lu1 cu1) (mP8 V rs f q).2 (mP8 V rs f q').2 F0 F1 p.e (.slice a1 p.e.ks.length c1) Fe D;refine cM8 (hCon _ (hF0x.below bex) (hF1x.below bex) hM0 hM1 hwb0 hwb1 hopc hoe hne7 (ke.below bex) _ HP) ?_;rintro z w5 ⟨⟨u5,us5,G5,rfl,hB5⟩,hb5⟩;obtain⟨a5,c5,rfl⟩:=hB5.shape;have hz5:=hb5.size;(try simp at hz5);obtain⟨x05,x15,xf5,r05,r15,rf5⟩:=ansCells (w5:=w5) HX.out bex));have belV:Below (wr.alloc (.cells #[.int .i64 0,.slice none 0 0] 60)).heap.size (wr.alloc (.cells #[.int .i64 0,.slice none 0 0] 60)) w5:=bex;have bel5:Below w.heap.size w w5:=belX.trans (belV.mono (by simp;omega));(try simp only[World.size_alloc,World.size_drew]at hB5)
    clear hb5 belV;go_wp2_with fail;refine bodyPost_ret (v:=.agg #[.int .i64 (wP8 rs f q+wP8 rs f q'),.slice a5 RC.length c5]) (by simp[results,Tryz.results34,go_sem, *]) rfl ⟨⟨_,us5,G5,by rw[HWW.out],(hB5.keep (by simp) fun b hb _=>?_).weak (by omega)⟩,?_⟩
    ·repeat rw[bS8 _ _ _ _ (by simp;omega)]
    ·repeat (first|(with_reducible exact bel5)|(with_reducible refine Below.setCell ?_ ?hh _;case hh=>(simp;try omega)))
   ·have HM1:=HM.out;rw[if_neg (by omega)]at HM1;obtain⟨q,q',hq,hwq,hww',eW⟩:=wk_4 hW h0;rw[(kid00 hq).1,(kid00 hq).2]at HM1;unfold overC at HM1;rw[if_neg (by omega),if_neg (by omega),if_neg (by omega),if_pos h0]at HM1;have HP:Hid (_=RC):=HM1.symm;clear HM1 HM;have HWW:Hid (wP8 rs f q=RW):=eW.symm.trans HRW.out;clear hww';rw[hq]at hO;have hq1:p.ks.length=2:=by rw[hq];rfl
    obtain⟨gl0,cap0,u0,F0,ev0,hgl0,_,_,l00,l01,hF0⟩:=hO.at (i:=0) (x:=bagOf V rs f q) rfl;injection ev0 with ev1 ev2 ev3;subst ev1 ev3;have hF0x:=hF0.below alX;change RowsF _ _ (mP8 V rs f q).2 _ at hF0 hF0x;obtain⟨au0,lu0,cu0,rfl⟩:=hF0.is.shape;have l00x:(wr.alloc (.cells #[.int .i64 0,.slice none 0 0] 60)).cell? ⟨gl0,0,none⟩=some (.int .i64 (wP8 rs f q)):=(cb8 (bA8 wr _ _ (by omega))).trans l00;have l01x:(wr.alloc (.cells #[.int .i64 0,.slice none 0 0] 60)).cell? ⟨gl0,1,none⟩=some (.slice au0 lu0 cu0):=(cb8 (bA8 wr _ _ (by omega))).trans l01;have hM0:=hM q (by rw[hq];simp);have hwb0:=hM0.wtb;have hal0:=hM0.all;obtain⟨gl1,cap1,u1,F1,ev1,hgl1,_,_,l10,l11,hF1⟩:=hO.at (i:=1) (x:=bagOf V rs f q') rfl;injection ev1 with ev1 ev2 ev3;cases ev1;have hF1x:=hF1.below alX;change RowsF _ _ (mP8 V rs f q').2 _ at hF1 hF1x;obtain⟨au1,lu1,cu1,rfl⟩:=hF1.is.shape;have l10x:(wr.alloc (.cells #[.int .i64 0,.slice none 0 0] 60)).cell? ⟨gl0,2,none⟩=some (.int .i64 (wP8 rs f q')):=(cb8 (bA8 wr _ _ (by omega))).trans l10;have l11x:(wr.alloc (.cells #[.int .i64 0,.slice none 0 0] 60)).cell? ⟨gl0,3,none⟩=some (.slice au1 lu1 cu1):=(cb8 (bA8 wr _ _ (by omega))).trans l11;have hM1:=hM q' (by rw[hq];simp);have hwb1:=hM1.wtb;have hal1:=hM1.all;have hlen:((p.ks.length:Nat):Int)=2:=by rw[hq1];rfl
    rw[hq1]at hk hlt;have k0:(p.k==0)=false:=by rw[h0];rfl
    have k1:(p.k==1)=false:=by rw[h0];rfl
    have k2:(p.k==2)=false:=by rw[h0];rfl
    have k3:(p.k==3)=false:=by rw[h0];rfl
    have k4:(p.k==4)=true:=by rw[h0];rfl
    have k5:(p.k==5)=false:=by rw[h0];rfl
    have k6:(p.k==6)=false:=by rw[h0];rfl
    have lw:w.heap.size<wr.heap.size:=by omega
    have nw:¬w.heap.size=wr.heap.size:=by omega
    have ng:¬gl0=wr.heap.size:=by omega
    go_wp2_with fail;go_region_held3 (fun w'=>w'.cell? ⟨gl0,0,none⟩=some (.int .i64 (wP8 rs f q))∧w'.cell? ⟨gl0,2,none⟩=some (.int .i64 (wP8 rs f q'))∧w'.cell? ⟨gl0,1,none⟩=some (.slice au0 lu0 cu0)∧w'.cell? ⟨gl0,3,none⟩=some (.slice au1 lu1 cu1)) (refine⟨?_,?_,?_,?_⟩<;>first|(with_reducible assumption)|(go_simp;done)|(exact cL8 (by assumption) (by go_simp))) (first|(go_at_call 54;have hCon:=l02Sum_any (wP8 rs f q) (wP8 rs f q') 1 (.slice au0 lu0 cu0) (.slice au1 lu1 cu1) (mP8 V rs f q).2 (mP8 V rs f q').2 F0 F1;refine cM8 (hCon _ (hF0x.below bex) (hF1x.below bex) hwb0 hwb1 hM0.asc hM0.nz (fun c hc=>by have:=hal0.2.2.2 c hc;omega) (fun c hc=>by have:=hal1.2.2.2 c hc;omega) _ HP) ?_;rintro z w5 ⟨⟨u5,us5,G5,rfl,hB5⟩,hb5⟩;obtain⟨a5,c5,rfl⟩:=hB5.shape;have hz5:=hb5.size;(try simp at hz5);obtain⟨x05,x15,xf5,r05,r15,rf5⟩:=ansCells (w5:=w5) HX.out bex));have belV:Below (wr.alloc (.cells #[.int .i64 0,.slice none 0 0] 60)).heap.size (wr.alloc (.cells #[.int .i64 0,.slice none 0 0] 60)) w5:=bex;have bel5:Below w.heap.size w w5:=belX.trans (belV.mono (by simp;omega));(try simp only[World.size_alloc,World.size_drew]at hB5);clear hb5 belV;go_wp2_with fail;refine bodyPost_ret (v:=.agg #[.int .i64 (wP8 rs f q),.slice a5 RC.length c5]) (by simp[results,Tryz.results34,go_sem, *]) rfl ⟨⟨_,us5,G5,by rw[HWW.out],(hB5.keep (by simp) fun b hb _=>?_).weak (by omega)⟩,?_⟩
    ·repeat rw[bS8 _ _ _ _ (by simp;omega)]
    ·repeat (first|(with_reducible exact bel5)|(with_reducible refine Below.setCell ?_ ?hh _;case hh=>(simp;try omega)))
   ·have HM1:=HM.out;rw[if_neg (by omega)]at HM1;obtain⟨q,hq,hwq,eW⟩:=wk_5 hW h0;rw[kid0 hq]at HM1;unfold overC at HM1;rw[if_neg (by omega),if_neg (by omega),if_neg (by omega),if_neg (by omega),if_pos h0]at HM1;have HP:Hid (_=RC):=HM1.symm;clear HM1 HM;have HWW:Hid (wP8 rs f q=RW):=eW.symm.trans HRW.out;rw[hq]at hO;have hq1:p.ks.length=1:=by rw[hq];rfl
    obtain⟨gl0,cap0,u0,F0,ev0,hgl0,_,_,l00,l01,hF0⟩:=hO.at (i:=0) (x:=bagOf V rs f q) rfl;injection ev0 with ev1 ev2 ev3;subst ev1 ev3;have hF0x:=hF0.below alX;change RowsF _ _ (mP8 V rs f q).2 _ at hF0 hF0x;obtain⟨au0,lu0,cu0,rfl⟩:=hF0.is.shape;have l00x:(wr.alloc (.cells #[.int .i64 0,.slice none 0 0] 60)).cell? ⟨gl0,0,none⟩=some (.int .i64 (wP8 rs f q)):=(cb8 (bA8 wr _ _ (by omega))).trans l00;have l01x:(wr.alloc (.cells #[.int .i64 0,.slice none 0 0] 60)).cell? ⟨gl0,1,none⟩=some (.slice au0 lu0 cu0):=(cb8 (bA8 wr _ _ (by omega))).trans l01;have hM0:=hM q (by rw[hq];simp);have hwb0:=hM0.wtb;have hal0:=hM0.all;have hlen:((p.ks.length:Nat):Int)=1:=by rw[hq1];rfl
    rw[hq1]at hk hlt;have k0:(p.k==0)=false:=by rw[h0];rfl
    have k1:(p.k==1)=false:=by rw[h0];rfl
    have k2:(p.k==2)=false:=by rw[h0];rfl
    have k3:(p.k==3)=false:=by rw[h0];rfl
    have k4:(p.k==4)=false:=by rw[h0];rfl
    have k5:(p.k==5)=true:=by rw[h0];rfl
    have k6:(p.k==6)=false:=by rw[h0];rfl
    go_wp2_with fail;have hCon:=l04Distinct_any (wP8 rs f q) (.slice au0 lu0 cu0) (mP8 V rs f q).2 F0;rw[HP.out]at hCon;refine cM8 (hCon _ (hF0x.below bex) hwb0 (fun c hc=>(hal0.2.2.2 c hc).1)) ?_;rintro z w5 ⟨⟨u5,us5,G5,rfl,hB5⟩,hb5⟩;obtain⟨a5,c5,rfl⟩:=hB5.shape;have hz5:=hb5.size;(try simp at hz5);obtain⟨x05,x15,xf5,r05,r15,rf5⟩:=ansCells (w5:=w5) HX.out bex;have belV:Below (wr.alloc (.cells #[.int .i64 0,.slice none 0 0] 60)).heap.size (wr.alloc (.cells #[.int .i64 0,.slice none 0 0] 60)) w5:=bex;have bel5:Below w.heap.size w w5:=belX.trans (belV.mono (by simp;omega));(try simp only[World.size_alloc,World.size_drew]at hB5);clear hb5 belV;go_wp2_with fail;refine bodyPost_ret (v:=.agg #[.int .i64 (wP8 rs f q),.slice a5 RC.length c5]) (by simp[results,Tryz.results34,go_sem, *]) rfl ⟨⟨_,us5,G5,by rw[HWW.out],(hB5.keep (by simp) fun b hb _=>?_).weak (by omega)⟩,?_⟩
    ·repeat rw[bS8 _ _ _ _ (by simp;omega)]
    ·repeat (first|(with_reducible exact bel5)|(with_reducible refine Below.setCell ?_ ?hh _;case hh=>(simp;try omega)))
   ·have HM1:=HM.out;rw[if_neg (by omega)]at HM1;obtain⟨q,hq,hwq,hn0,hn1,hes1,hbe,eW⟩:=wk_6 hW h0;rw[kid0 hq]at HM1;obtain⟨nn,hnn⟩:∃nn:Nat,p.n=nn:=⟨p.n.toNat,by omega⟩;rw[hnn]at b10 hn1 eW;unfold overC at HM1;rw[if_neg (by omega),if_neg (by omega),if_neg (by omega),if_neg (by omega),if_neg (by omega),hnn,Int.toNat_natCast]at HM1;have HP:Hid (_=RC):=HM1.symm;clear HM1 HM;have HWW:Hid ((nn:Int)+1+p.es.length=RW):=eW.symm.trans HRW.out;have hoe:∀e∈p.es,okE 13 e=true:=fun e he=>by have:=hbe e he;unfold bE8 at this;rw[Bool.and_eq_true]at this;exact this.1
    have hne7:∀e∈p.es,wtE e≤1048576:=fun e he=>by have:=wtE_mem he;omega
    rw[hq]at hO;have hq1:p.ks.length=1:=by rw[hq];rfl
    obtain⟨gl0,cap0,u0,F0,ev0,hgl0,_,_,l00,l01,hF0⟩:=hO.at (i:=0) (x:=bagOf V rs f q) rfl;injection ev0 with ev1 ev2 ev3;subst ev1 ev3;have hF0x:=hF0.below alX;change RowsF _ _ (mP8 V rs f q).2 _ at hF0 hF0x;obtain⟨au0,lu0,cu0,rfl⟩:=hF0.is.shape;have l00x:(wr.alloc (.cells #[.int .i64 0,.slice none 0 0] 60)).cell? ⟨gl0,0,none⟩=some (.int .i64 (wP8 rs f q)):=(cb8 (bA8 wr _ _ (by omega))).trans l00;have l01x:(wr.alloc (.cells #[.int .i64 0,.slice none 0 0] 60)).cell? ⟨gl0,1,none⟩=some (.slice au0 lu0 cu0):=(cb8 (bA8 wr _ _ (by omega))).trans l01;have hM0:=hM q (by rw[hq];simp);have hwb0:=hM0.wtb;have hal0:=hM0.all;have b10x:(wr.alloc (.cells #[.int .i64 0,.slice none 0 0] 60)).cell? ⟨w.heap.size,10,none⟩=some (.int .i64 nn):=(cb8 (bA8 wr _ _ (by omega))).trans b10;have b9x:(wr.alloc (.cells #[.int .i64 0,.slice none 0 0] 60)).cell? ⟨w.heap.size,9,none⟩=some (.slice a2 p.es.length c2):=(cb8 (bA8 wr _ _ (by omega))).trans b9;have hlen:((p.ks.length:Nat):Int)=1:=by rw[hq1];rfl
    rw[hq1]at hk hlt;have k0:(p.k==0)=false:=by rw[h0];rfl
    have k1:(p.k==1)=false:=by rw[h0];rfl
    have k2:(p.k==2)=false:=by rw[h0];rfl
    have k3:(p.k==3)=false:=by rw[h0];rfl
    have k4:(p.k==4)=false:=by rw[h0];rfl
    have k5:(p.k==5)=false:=by rw[h0];rfl
    have k6:(p.k==6)=true:=by rw[h0];rfl
    have lw:w.heap.size<wr.heap.size:=by omega
    have nw:¬w.heap.size=wr.heap.size:=by omega
    have ng:¬gl0=wr.heap.size:=by omega
    go_wp2_with fail;go_region_held3 (fun w'=>w'.cell? ⟨gl0,0,none⟩=some (.int .i64 (wP8 rs f q))∧w'.cell? ⟨gl0,1,none⟩=some (.slice au0 lu0 cu0)∧w'.cell? ⟨w.heap.size,10,none⟩=some (.int .i64 nn)∧w'.cell? ⟨w.heap.size,9,none⟩=some (.slice a2 p.es.length c2)) (refine⟨?_,?_,?_,?_⟩<;>first|(with_reducible assumption)|(go_simp;done)|(exact cL8 (by assumption) (by go_simp))) (first|(go_at_call 56;have hCon:=l04Group_any hV (wP8 rs f q) nn (.slice au0 lu0 cu0) (.slice a2 p.es.length c2) (mP8 V rs f q).2 F0 p.es Fs D;refine cM8 (hCon _ (hF0x.below bex) hM0 hwb0 hn1 hes1 (kes.below bex) hoe hne7 _ HP) ?_;rintro z w5 ⟨⟨u5,us5,G5,rfl,hB5⟩,hb5⟩;obtain⟨a5,c5,rfl⟩:=hB5.shape;have hz5:=hb5.size;(try simp at hz5);obtain⟨x05,x15,xf5,r05,r15,rf5⟩:=ansCells (w5:=w5) HX.out bex));have belV:Below (wr.alloc (.cells #[.int .i64 0,.slice none 0 0] 60)).heap.size (wr.alloc (.cells #[.int .i64 0,.slice none 0 0] 60)) w5:=bex;have bel5:Below w.heap.size w w5:=belX.trans (belV.mono (by simp;omega));(try simp only[World.size_alloc,World.size_drew]at hB5);clear hb5 belV;go_wp2_with fail;refine bodyPost_ret (v:=.agg #[.int .i64 ((nn:Int)+1+p.es.length),.slice a5 RC.length c5]) (by simp[results,Tryz.results34,go_sem, *]) rfl ⟨⟨_,us5,G5,by rw[HWW.out],(hB5.keep (by simp) fun b hb _=>?_).weak (by omega)⟩,?_⟩
    ·repeat rw[bS8 _ _ _ _ (by simp;omega)]
    ·repeat (first|(with_reducible exact bel5)|(with_reducible refine Below.setCell ?_ ?hh _;case hh=>(simp;try omega)))
theorem anS_any {m:Int}{V:E7→List V3→V3}(hV:VOk m V){rs:List R3}(hdb:okDb rs=true)(hrw:RsWf rs):∀f,AnS V rs f
 |0=>fun p ue us u g D d vd Fd w hw hL hn hR hP hW hK=>absurd hW (by rw[wP8];omega)
 |f+1=>anS_step hV hdb hrw (anS_any hV hdb hrw f)
end
end Go.Proofs.YtflokiejcjjbiaaGreat
