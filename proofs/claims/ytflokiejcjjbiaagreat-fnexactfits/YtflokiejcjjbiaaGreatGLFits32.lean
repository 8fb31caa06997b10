/- Own texts, joined: contracts that the law's proof goes by. -/
import Derived.Test.YtflokiejcjjbiaaGreatGLFits31
import Derived.Test.YtflokiejcjjbiaaGreatGLFits2
import Derived.Test.YtflokiejcjjbiaaGreatGLFits24
import Derived.Test.YtflokiejcjjbiaaGreatGLFits27
import Derived.Maps.AppendAt
import Derived.Test.YtflokiejcjjbiaaGreatGLFits34
import Derived.Test.YtflokiejcjjbiaaGreatGLFits29
import Derived.Deep.RegionHeld3
set_option maxHeartbeats 16000000
set_option maxRecDepth 100000
set_option linter.unusedVariables false
set_option linter.unusedSimpArgs false
namespace Go.Proofs.YtflokiejcjjbiaaGreat
section
open Go.RowKit Go.Deep Go.ChangeShapes Go.WideShapes
structure ShW (w:World)(N:Nat)(W:Int)(acc:List C2)(y:Value)(us:List Value)(G:List (List Nat))(wr:World):Prop where
 r0:wr.cell? ⟨w.heap.size+1+1,0,none⟩=some (.int .i64 0)
 r1:wr.cell? ⟨w.heap.size+1+1,1,none⟩=some (.slice none 0 0)
 rf:∀q,wr.frozen? ⟨w.heap.size+1+1,q,none⟩=false
 p0:wr.cell? ⟨w.heap.size+1+1+1,0,none⟩=some (.int .i64 W)
 p1:wr.cell? ⟨w.heap.size+1+1+1,1,none⟩=some y
 pf:∀q,wr.frozen? ⟨w.heap.size+1+1+1,q,none⟩=false
 own:BagOwn wr N y acc us G
 yb:∀b,y.ownBlock=some b→w.heap.size+1+1+1+1≤b
 gl:∀b∈G.flatten,b<w.heap.size
 bel:Below w.heap.size w wr
 big:w.heap.size+1+1+1<wr.heap.size
theorem ShW.below {w wr w':World}{N:Nat}{W:Int}{acc:List C2}{y:Value}{us:List Value}{G:List (List Nat)}(h:ShW w N W acc y us G wr)(hb:Below wr.heap.size wr w'):ShW w N W acc y us G w':=by
 have hz:=h.big;have hs:=hb.size;exact⟨((bc8 hb).1 _ _ (by omega)).trans h.r0,((bc8 hb).1 _ _ (by omega)).trans h.r1,fun q=>((bc8 hb).2 _ q (by omega)).trans (h.rf q),((bc8 hb).1 _ _ (by omega)).trans h.p0,((bc8 hb).1 _ _ (by omega)).trans h.p1,fun q=>((bc8 hb).2 _ q (by omega)).trans (h.pf q),h.own.below hb,h.yb,h.gl,h.bel.trans (hb.mono h.bel.size),by omega⟩
theorem ShW.push {w w3 w5:World}{N:Nat}{W:Int}{acc:List C2}{y v5 u:Value}{us:List Value}{G:List (List Nat)}{x:C2}{g:List Nat}{ob:Obj}(h:ShW w N W acc y us G w3)(hN:N≤w.heap.size)(hR:RowF w3 u x.r g)(hO:OwnB w3 N g)(hgw:∀b∈g,b<w.heap.size)(hd:∀b∈G.flatten,b∉g)(ho:w5.ownsRow N 96 2 v5 (acc.length+1) (cc us acc++ [u,.int .i64 x.n])) (hg:(w3.alloc ob).grownBy w5 y.ownBlock) (hat:v5.ownBlock=y.ownBlock∨v5.ownBlock=some (w3.alloc ob).heap.size):w5.cell? ⟨w.heap.size+1+1+1,1,none⟩=some y∧ShW w N W (acc++ [x]) v5 (us++ [u]) (G++ [g]) (w5.setCell ⟨w.heap.size+1+1+1,1,none⟩ v5):=by
 have hz:=h.big;have hs:=hg.size;simp only[World.size_alloc]at hs;have al:Below w3.heap.size w3 (w3.alloc ob):=(Below.refl _ _).alloc (Nat.le_refl _) _;have hlR:=hR.lt;have hB5:=BagOwn.push (x:=x) (h.own.below al) (hR.below al) ⟨hO.1,hO.2.1,fun b hb q=>(fb8 (bA8 _ _ _ (hlR b hb))).trans (hO.2.2 b hb q)⟩ hd (fun b hb hb'=>by have:=h.yb b hb;have:=hgw b hb';omega) ho hg (fun b hb=>by
  rcases hat with e|e
  ·left;rw[←e];exact hb
  ·right;rw[e]at hb;cases hb;exact Nat.le_refl _)
 have yb5:∀b,v5.ownBlock=some b→w.heap.size+1+1+1+1≤b:=fun b hb=>by
  rcases hat with e|e
  ·exact h.yb b (by rw[←e];exact hb)
  ·rw[e]at hb;cases hb;simp;omega
 have gl5:∀b∈(G++ [g]).flatten,b<w.heap.size:=fun b hb=>by
  have:b∈G.flatten∨b∈g:=by simpa using hb
  rcases this with hb|hb
  ·exact h.gl b hb
  ·exact hgw b hb
 have kB:∀t,t<w.heap.size+1+1+1+1→w5.heap[t]?=w3.heap[t]?:=fun t ht=>(hg.block t (by simp;omega) (fun e=>by have:=h.yb t e.symm;omega)).trans (bA8 _ _ _ (by omega));have kS:∀t,t<w.heap.size+1+1+1→(w5.setCell ⟨w.heap.size+1+1+1,1,none⟩ v5).heap[t]?=w3.heap[t]?:=fun t ht=>(bS8 _ _ _ _ (by simp;omega)).trans (kB t (by omega));have p0:=(cb8 (kB (w.heap.size+1+1+1) (by omega))).trans h.p0;have p1:=(cb8 (kB (w.heap.size+1+1+1) (by omega))).trans h.p1;have bel5:Below w.heap.size w w5:=Below.grown (h.bel.alloc h.bel.size ob) hg (by simp;omega) (fun t ht=>by have:=h.yb t ht;omega);refine⟨p1,?_⟩;exact⟨(cb8 (kS _ (by omega))).trans h.r0,(cb8 (kS _ (by omega))).trans h.r1,fun q=>(fb8 (kS _ (by omega))).trans (h.rf q),(cO8 _ _ _ _ (by simp)).trans p0,cS8 _ _ _ p1,fun q=>by have:=(fb8 (kB (w.heap.size+1+1+1) (by omega)) (o:=q)).trans (h.pf q);simpa using this,hB5.keepO (by simp) (fun t ht=>bS8 _ _ _ _ (by have:=yb5 t ht;simp;omega)) (fun t ht=>bS8 _ _ _ _ (by have:=gl5 t ht;simp;omega)),yb5,gl5,bel5.setCell (by simp;omega) _,by simp;omega⟩
theorem sub_take (G:List (List Nat))(k:Nat):∀b∈(G.take k).flatten,b∈G.flatten:=fun b hb=>by
 obtain⟨g,hg,hbg⟩:=List.mem_flatten.1 hb;exact List.mem_flatten.2 ⟨g,List.mem_of_mem_take hg,hbg⟩
theorem flat_take {G:List (List Nat)}(h:G.flatten.Nodup){k:Nat}{g:List Nat}(hg:G[k]?=some g):∀b∈(G.take k).flatten,b∉g:=by
 obtain⟨hk,rfl⟩:=gE1 hg;have e:G=G.take k++G[k]::G.drop (k+1):=by rw[←List.drop_eq_getElem_cons hk,List.take_append_drop]
 rw[e,List.flatten_append,List.flatten_cons]at h;intro b hb hb';exact(List.nodup_append.1 h).2.2 b hb b (List.mem_append_left _ hb') rfl
structure SrcOwn (w:World)(N:Nat)(v:Value)(cs:List C2)(us:List Value)(G:List (List Nat)):Prop where
 shape:∃a c,v=.slice a cs.length c
 free:OwnB w N G.flatten
 lt:∀b∈G.flatten,b<w.heap.size
 at':∀k,k<cs.length→∃x u g b o cap,cs[k]?=some x∧us[k]?=some u∧G[k]?=some g∧v=.slice (some ⟨b,o,none⟩) cs.length cap∧cs.length≤cap∧cap≤maxLen∧b<w.heap.size∧w.cell? ⟨b,o+k*2,none⟩=some u∧w.cell? ⟨b,o+k*2+1,none⟩=some (.int .i64 x.n)∧RowF w u x.r g∧OwnB w N g
theorem SrcOwn.below {w w':World}{N:Nat}{v:Value}{cs:List C2}{us:List Value}{G:List (List Nat)}(h:SrcOwn w N v cs us G)(hb:Below w.heap.size w w'):SrcOwn w' N v cs us G:=
 ⟨h.shape,⟨h.free.1,h.free.2.1,fun b hb' q=>((bc8 hb).2 b q (h.lt b hb')).trans (h.free.2.2 b hb' q)⟩,fun b hb'=>Nat.lt_of_lt_of_le (h.lt b hb') hb.size,fun k hk=>by
  obtain⟨x,u,g,b,o,cap,h1,h2,h3,h4,h5,h6,h7,h8,h9,h10,h11⟩:=h.at' k hk;exact⟨x,u,g,b,o,cap,h1,h2,h3,h4,h5,h6,Nat.lt_of_lt_of_le h7 hb.size,((bc8 hb).1 _ _ h7).trans h8,((bc8 hb).1 _ _ h7).trans h9,h10.below hb,h11.1,h11.2.1,fun y hy q=>((bc8 hb).2 y q (h10.lt y hy)).trans (h11.2.2 y hy q)⟩⟩
theorem RowsF.src {w:World}{N:Nat}{v:Value}{cs:List C2}{F:List Nat}(h:RowsF w v cs F)(hO:OwnB w N F):∃us G,SrcOwn w N v cs us G∧∀b∈G.flatten,b∈F:=by
 have hFl:=h.lt;obtain⟨a,c,b,o,G,rfl,hl,hc,_,hG,h0,hC,ha⟩:=h.pick;by_cases hne:cs=[]
 ·subst hne;have:G=[]:=List.length_eq_zero_iff.1 hG;subst this;exact⟨[],[],⟨⟨a,c,rfl⟩,by simp[OwnB,Free],fun b hb=>by simp at hb,fun k hk=>by simp at hk⟩,fun b hb=>by simp at hb⟩
 have hp:0<cs.length:=List.length_pos_iff.2 hne;obtain⟨ea,hblt,hF⟩:=ha 0 hp;have hsub:∀x∈G.flatten,x∈F:=fun x hx=>by rw[hF];exact List.mem_cons_of_mem _ hx
 have hnd:G.flatten.Nodup:=by have:=hO.1;rw[hF]at this;exact(List.nodup_cons.1 this).2
 refine⟨(List.range cs.length).map fun k=>(w.cell? ⟨b,o+k*2,none⟩).getD .nilIface,G,⟨⟨a,c,rfl⟩,⟨hnd,fun x hx=>hO.2.1 x (hsub x hx),fun x hx=>hO.2.2 x (hsub x hx)⟩,fun x hx=>hFl x (hsub x hx),fun k hk=>?_⟩,hsub⟩;obtain⟨x,u,g,hx,hg,c0,hR,c1,_⟩:=hC.at hG hblt (Below.refl _ _) hk;have hmem:∀y∈g,y∈F:=fun y hy=>hsub y (List.mem_flatten.2 ⟨g,mg8 hg,hy⟩);refine⟨x,u,g,b,o,c,hx,by simp[hk,c0],hg,by rw[ea],hl,hc,hblt,c0,c1,hR,?_,fun y hy=>hO.2.1 y (hmem y hy),fun y hy=>hO.2.2 y (hmem y hy)⟩;obtain⟨hk',rfl⟩:=gE1 hg;have e:G=G.take k++G[k]::G.drop (k+1):=by rw[←List.drop_eq_getElem_cons hk',List.take_append_drop]
 rw[e,List.flatten_append,List.flatten_cons]at hnd;exact(List.nodup_append.1 (List.nodup_append.1 hnd).2.1).1
theorem onceEach_any (wh W Wk:Int)(au:Option Addr)(lu cu:Nat)(v:Value)(cs:List C2)(us:List Value)(G:List (List Nat))(N:Nat)(w:World)(hB:SrcOwn w N v cs us G)(hN:N≤w.heap.size)(hn:cs.length≤1048576):Calls Tryz.prog 88 #[.agg #[.int .i64 wh,.int .i64 W,.slice au lu cu],.agg #[.int .i64 Wk,v]] w fun q w'=>(∃u us' G',q=.returned (.agg #[.int .i64 W,u])∧BagOwn w' N u (distC cs) us' G'∧(∀b,u.ownBlock=some b→w.heap.size≤b)∧∀b∈G'.flatten,b∈G.flatten)∧Below w.heap.size w w':=by
 obtain⟨i0,hi,hz0,hz1,hz2⟩:=info_parts Tryz.infoCnt;obtain⟨av,cv,rfl⟩:=hB.shape;have hnd:=hB.free.1;have hGl:=hB.lt;go_enter Tryz.func88,Tryz.ntmps88;go_wp2_with fail;go_loopw [15] (fun i wr=> ∃ (k:Nat) (y:Value),k≤cs.length∧i=.int .i64 k∧ShW w N W (distC (cs.take k)) y (us.take k) (G.take k) wr) (fun i _=>cs.length - (intOf i).toNat)
 case atStart=>exact⟨0,.slice none 0 0,Nat.zero_le _,rfl,⟨by go_simp,by go_simp,fun q=>by go_simp,by go_simp,by go_simp,fun q=>by go_simp,BagOwn.nil _ _,fun b hb=>by simp[Value.ownBlock]at hb,fun b hb=>by simp at hb,bex,by simp⟩⟩
 case round=>
  obtain⟨k,y,hk,rfl,hS⟩:=hrel;have hb:=hS.bel;have hzb:=hb.size;by_cases hlt:k<cs.length
  ·obtain⟨x,u,g,b,o,cap,hx,hu,hg,ev,hcl,hcm,hblt,c0,c1,hR,hO⟩:=hB.at' k hlt;injection ev with ev1 ev2 ev3;subst ev1 ev3;obtain⟨a0,n0,rfl⟩:=hR.shape;have hkI:(k:Int)<cs.length:=by omega
   have d0:=((bc8 hb).1 b (o+k*2) hblt).trans c0;have d1:=((bc8 hb).1 b (o+k*2+1) hblt).trans c1;have hRl:=hR.lt;have hRw:=hR.below hb;have hOw:OwnB wr N g:=⟨hO.1,hO.2.1,fun t ht q=>((bc8 hb).2 t q (hRl t ht)).trans (hO.2.2 t ht q)⟩;have hdis:=flat_take hnd hg;have HT:Hid (distC (cs.take (k+1))=distC (cs.take k)++ [⟨x.r,1⟩]):=by show _=_;rw[take_snoc hx];unfold distC;rw[List.map_append];rfl
   have HU:Hid (us.take (k+1)=us.take k++ [.slice a0 x.r.length n0]):=by
    obtain⟨hk',e⟩:=gE1 hu;show _=_;rw[List.take_succ_eq_append_getElem hk',e]
   have HG:Hid (G.take (k+1)=G.take k++ [g]):=by
    obtain⟨hk',e⟩:=gE1 hg;show _=_;rw[List.take_succ_eq_append_getElem hk',e]
   have hdl:(distC (cs.take k)).length≤1048576:=by unfold distC;rw[List.length_map];simp;omega
   obtain⟨ay,cy,rfl⟩:=hS.own.shape;have hbig:=hS.big;have p0:=hS.p0;have p1:=hS.p1;have pf:=hS.pf;have al1:Below wr.heap.size wr (wr.alloc (.cells #[.slice a0 x.r.length n0,.int .i64 x.n] 96)):=(Below.refl _ _).alloc (Nat.le_refl _) _;have hS1:=hS.below al1;have hR1:=hRw.below al1;have hO1:OwnB (wr.alloc (.cells #[.slice a0 x.r.length n0,.int .i64 x.n] 96)) N g:=⟨hO.1,hO.2.1,fun t ht q=>(fb8 (bA8 _ _ _ (hRw.lt t ht))).trans (hOw.2.2 t ht q)⟩;generalize distC (cs.take k)=ct at*;clear hR hO hRw hOw hx hu hg c0 c1;go_wp2_with(at_builtin;refine wpList_append_own_at _ rfl _ _ 58 rfl N 96 i0 _ 2 32 Tryz.underlying58 hi hz0 hz1 hz2 rfl (by decide) _ _ _ rfl (hS1.own.own.alloc _) ⟨wr.heap.size+1,0,none⟩ 1 1 [.slice a0 x.r.length n0,.int .i64 1] rfl rfl ?c2 (by simp[Value.oneCell']) ?c3 ?c4 ?c5 ?_)
   case c3=>unfold maxLen;omega
   case c4=>omega
   case c5=>first|omega|(simp;omega)
   intro v5 w5 hown5 hgr5 _ hat5;obtain⟨q1,hS5⟩:=hS1.push (x:=⟨x.r,1⟩) hN hR1 hO1 (fun t ht=>hRl t ht) hdis hown5 hgr5 (by simpa using hat5);have pf5:∀q,w5.frozen? ⟨w.heap.size+1+1+1,q,none⟩=false:=fun q=>by have:=hS5.pf q;simpa using this
   have q0:=hS5.p0;rw[←HT.out,←HU.out,←HG.out]at hS5;obtain⟨a5,c5,rfl⟩:∃a5 c5,v5=.slice a5 (ct.length+1) c5:=by
    rcases hown5.2 with⟨_,h0⟩|⟨g,cap,cur,hv,_⟩
    ·exact absurd h0 (by omega)
    ·exact⟨_,cap,hv⟩
   clear hown5 hgr5 hat5 hS1 hR1 hO1 al1 hdis p0 p1 pf;go_wp2_with fail;exact⟨⟨k+1,_,hlt,by simp,hS5⟩,by simp[intOf];omega⟩
  ·obtain rfl:k=cs.length:=by omega
   rw[List.take_length]at hS;obtain⟨z0,z1,z2,z3,z4,z5,hBo,z6,z7,hb',hzb'⟩:=hS;obtain⟨ay,cy,rfl⟩:=hBo.shape;go_wp2;refine bodyPost_ret (v:=.agg #[.int .i64 W,.slice ay (distC cs).length cy]) (by simp[results,Tryz.results88,go_sem, *]) rfl ⟨⟨_,_,_,rfl,hBo.keepO (by simp) (fun t ht=>?_) (fun t ht=>?_),fun b hb=>by have:=z6 b hb;omega,fun b hb=>sub_take _ _ b hb⟩,?_⟩
   ·have:=z6 t ht;repeat rw[bS8 _ _ _ _ (by simp;omega)]
   ·have:=z7 t ht;repeat rw[bS8 _ _ _ _ (by simp;omega)]
   ·repeat (first|(with_reducible exact hb')|(with_reducible refine Below.setCell ?_ ?hh _;case hh=>(simp;try omega)))
end
section
open Go.RowKit Go.Deep Go.ChangeShapes Go.WideShapes
theorem filtered_any {m:Int}{V:E7→List V3→V3}(hV:VOk m V)(wh W Wk:Int)(au:Option Addr)(lu cu:Nat)(e:E7)(ue:Value)(Fe:List Nat)(D:Nat)(v:Value)(cs:List C2)(us:List Value)(G:List (List Nat))(N:Nat)(w:World)(hB:SrcOwn w N v cs us G)(hN:N≤w.heap.size)(hn:cs.length≤1048576)(hm:w.cell? ⟨0,0,none⟩=some (.int .i64 m))(he:e.wf)(hok:okE 13 e=true)(hne:wtE e≤1048576)(hk0:KidsIs w D ue e.ks Fe)(hrow:∀c∈cs,RowV c.r):Calls Tryz.prog 84 #[.agg #[.int .i64 wh,.int .i64 W,.slice au lu cu,.int .i64 e.k,.int .i64 e.n,.int .i64 e.v.k,.int .i64 e.v.n,.string e.v.s,.string e.p,ue],.agg #[.int .i64 Wk,v]] w fun q w'=>(∃u us' G',q=.returned (.agg #[.int .i64 W,u])∧BagOwn w' N u (filtC V e cs) us' G'∧(∀b,u.ownBlock=some b→w.heap.size≤b)∧∀b∈G'.flatten,b∈G.flatten)∧Below w.heap.size w w':=by
 obtain⟨ae,ce,rfl,_,_⟩:=hk0.shape;have hGE:GoodE e:=⟨he,hok,hne,w,D,_,Fe,hk0⟩;obtain⟨i0,hi,hz0,hz1,hz2⟩:=info_parts Tryz.infoCnt;obtain⟨av,cv,rfl⟩:=hB.shape;have hnd:=hB.free.1;have hGl:=hB.lt;have h00:0<w.heap.size:=bl8 _ _ hm;have hO:∀X,Below w.heap.size w X→Calls Tryz.prog 108 #[(.agg #[.int .i64 e.k,.int .i64 e.n,.int .i64 e.v.k,.int .i64 e.v.n,.string e.v.s,.string e.p,(.slice ae e.ks.length ce)])] X fun x w'=>(∃fn cap,x=.returned (.func (.func fn) #[] cap)∧Ent fn∧∀ (Y:World) (v:Value) (vs:List V3),(∀b,X.heap.size≤b→b<w'.heap.size→Y.heap[b]?=w'.heap[b]?)→Y.cell? ⟨0,0,none⟩=some (.int .i64 m)→RowIs Y v vs→RowV vs→Calls Tryz.prog fn (#[v]++cap) Y fun q w'=>q=.returned (.agg #[.int .i64 (V e vs).k,.int .i64 (V e vs).n,.string (V e vs).s])∧Below Y.heap.size Y w')∧Below X.heap.size X w':=fun X hX=>by
  refine cM8 (rk_any m 13 e _ Fe D X he (hk0.below hX) hok hne) ?_;rintro x w' ⟨⟨cl,rfl,fn,cap,rfl,hE,hC⟩,hb⟩;exact⟨⟨fn,cap,rfl,hE,fun Y v vs hY h0 hv hvV=>hC Y v vs _ (fun b hb=>hY b hb.1 hb.2) h0 hv (hV.res e vs hGE hvV)⟩,hb⟩
 clear hk0 hne;go_enter Tryz.func84,Tryz.ntmps84;go_wp2_with fail;refine cM8 (hO _ ?hb) ?_
 case hb=>exact bex
 rintro q w2 ⟨⟨fn,cap,rfl,hEn,hC0⟩,hb2⟩;have hz2':=hb2.size;simp at hz2';have hC:∀ (Y:World) (v:Value) (vs:List V3),(∀b,w.heap.size+1+1+1+1≤b→b<w2.heap.size→Y.heap[b]?=w2.heap[b]?)→Y.cell? ⟨0,0,none⟩=some (.int .i64 m)→RowIs Y v vs→RowV vs→Calls Tryz.prog fn (#[v]++cap) Y fun q w'=>q=.returned (.agg #[.int .i64 (V e vs).k,.int .i64 (V e vs).n,.string (V e vs).s])∧Below Y.heap.size Y w':=fun Y v vs hY=>hC0 Y v vs (fun b h1 h2=>hY b (by simpa using h1) h2);have bel2:Below w.heap.size w w2:=bex;have hS2:ShW w N W [] (.slice none 0 0) [] [] w2:=⟨cL8 hb2 (by go_simp),cL8 hb2 (by go_simp),fun q=>((bc8 hb2).2 _ q (by simp;try omega)).trans (by go_simp),cL8 hb2 (by go_simp),cL8 hb2 (by go_simp),fun q=>((bc8 hb2).2 _ q (by simp;try omega)).trans (by go_simp),BagOwn.nil _ _,fun b hb=>by simp[Value.ownBlock]at hb,fun b hb=>by simp at hb,bel2,by omega⟩;have k1:w2.cell? ⟨w.heap.size+1,1,none⟩=some (.slice av cs.length cv):=cL8 hb2 (by go_simp);clear hO hC0 hb2;unfold Ent at hEn;go_wp2_with fail;go_loopw [19] (fun i wr=> ∃ (k:Nat) (y:Value) (us2:List Value) (G2:List (List Nat)),k≤cs.length∧i=.int .i64 k∧ShW w N W (filtC V e (cs.take k)) y us2 G2 wr∧(∀b∈G2.flatten,b∈(G.take k).flatten)∧(∀b,y.ownBlock=some b→w2.heap.size≤b)∧(∀b,w.heap.size+1+1+1+1≤b→b<w2.heap.size→wr.heap[b]?=w2.heap[b]?)∧w2.heap.size≤wr.heap.size) (fun i _=>cs.length - (intOf i).toNat)
 case atStart=>exact⟨0,.slice none 0 0,[],[],Nat.zero_le _,rfl,hS2,fun b hb=>by simp at hb,fun b hb=>by simp[Value.ownBlock]at hb,fun _ _ _=>rfl,Nat.le_refl _⟩
 case round=>
  obtain⟨k,y,us2,G2,hk,rfl,hS,hsub,hyb,hK,hzr⟩:=hrel;have hb:=hS.bel;have hzb:=hb.size;by_cases hlt:k<cs.length
  ·obtain⟨x,u,g,b,o,cap',hx,hu,hg,ev,hcl,hcm,hblt,c0,c1,hR,hO⟩:=hB.at' k hlt;injection ev with ev1 ev2 ev3;subst ev1 ev3;obtain⟨a0,n0,rfl⟩:=hR.shape;have hkI:(k:Int)<cs.length:=by omega
   have d0:=((bc8 hb).1 b (o+k*2) hblt).trans c0;have d1:=((bc8 hb).1 b (o+k*2+1) hblt).trans c1;have hRl:=hR.lt;have hRw:=hR.below hb;have hOw:OwnB wr N g:=⟨hO.1,hO.2.1,fun t ht q=>((bc8 hb).2 t q (hRl t ht)).trans (hO.2.2 t ht q)⟩;have hdis:∀b∈G2.flatten,b∉g:=fun b hb=>flat_take hnd hg b (hsub b hb);have HT:Hid (cs.take (k+1)=cs.take k++ [x]):=take_snoc hx;have hG1:∀b∈(G.take k).flatten,b∈(G.take (k+1)).flatten:=fun b hb=>by
    obtain⟨hk',e⟩:=gE1 hg;rw[List.take_succ_eq_append_getElem hk',List.flatten_append];exact List.mem_append_left _ hb
   have hG2:∀b∈g,b∈(G.take (k+1)).flatten:=fun b hb=>by
    obtain⟨hk',e⟩:=gE1 hg;rw[List.take_succ_eq_append_getElem hk',List.flatten_append,e];exact List.mem_append_right _ (by simpa using hb)
   have hdl:(filtC V e (cs.take k)).length≤1048576:=Nat.le_trans (List.length_filter_le _ _) (by simp;omega);have hml:(filtC V e (cs.take k)).length+1≤1048577:=by omega
   obtain⟨ay,cy,rfl⟩:=hS.own.shape;have hbig:=hS.big;have hxV:RowV x.r:=hrow x (mg8 hx);have hE:∀Y,Below wr.heap.size wr Y→Calls Tryz.prog fn (#[.slice a0 x.r.length n0]++cap) Y fun q w'=>q=.returned (.agg #[.int .i64 (V e x.r).k,.int .i64 (V e x.r).n,.string (V e x.r).s])∧Below Y.heap.size Y w':=fun Y hY=>hC Y _ x.r (fun b h1 h2=>(hY.block b (by omega)).trans (hK b h1 h2)) (((bc8 hY).1 0 0 (by omega)).trans (((bc8 hb).1 0 0 (by omega)).trans hm)) (hRw.below hY).is hxV;obtain⟨vv,HVV⟩:∃q,Hid (V e x.r=q):=⟨_,rfl⟩;rw[HVV.out]at hE;clear hR hO hx hu hg c0 c1 hC;go_wp2_with fail;try rw[hEn,Oper.upon_enter]
   try rw[Oper.upon_enter]
   refine cM8 (hE _ bex) ?_;rintro z w4 ⟨rfl,hb4⟩;have hz4:=hb4.size;simp at hz4;have e04:w4.cell? ⟨wr.heap.size,0,none⟩=some (.slice a0 x.r.length n0):=cL8 hb4 (by go_simp);have e14:w4.cell? ⟨wr.heap.size,1,none⟩=some (.int .i64 x.n):=cL8 hb4 (by go_simp);go_wp2_with fail;refine cM8 (implIsTv_any vv _) ?_;rintro z w5 ⟨rfl,hb5⟩;have hz5:=hb5.size;have e0:w5.cell? ⟨wr.heap.size,0,none⟩=some (.slice a0 x.r.length n0):=cL8 hb5 e04;have e1:w5.cell? ⟨wr.heap.size,1,none⟩=some (.int .i64 x.n):=cL8 hb5 e14;have bel5:Below wr.heap.size wr w5:=bex;have hzw5:=bel5.size;have hS5:=hS.below bel5;have hR5:=hRw.below bel5;have hO5:OwnB w5 N g:=⟨hOw.1,hOw.2.1,fun t ht q=>((bc8 bel5).2 t q (hRw.lt t ht)).trans (hOw.2.2 t ht q)⟩;have hK5:∀b,w.heap.size+1+1+1+1≤b→b<w2.heap.size→w5.heap[b]?=w2.heap[b]?:=fun b h1 h2=>(bel5.block b (by omega)).trans (hK b h1 h2);have hbig5:=hS5.big;have hbel5:=hS5.bel;have hzw6:wr.heap.size+1≤w5.heap.size:=by have:=hb4.size;simp at this;omega
   clear e04 e14 hb4 hb5 hE d0 d1 hS hRw hOw hK hb hEn bel5;cases hT:isTV vv with
   |false=>
    have HT2:Hid (filtC V e (cs.take (k+1))=filtC V e (cs.take k)):=by
     show _=_;rw[HT.out];unfold filtC;rw[List.filter_append];simp[HVV.out,hT]
    rw[←HT2.out]at hS5 hyb;go_wp2_with fail;exact⟨⟨k+1,_,_,_,hlt,by simp,hS5,fun b hb=>hG1 b (hsub b hb),hyb,hK5,by omega⟩,by simp[intOf];omega⟩
   |true=>
    have HT2:Hid (filtC V e (cs.take (k+1))=filtC V e (cs.take k)++ [x]):=by
     show _=_;rw[HT.out];unfold filtC;rw[List.filter_append];simp[HVV.out,hT]
    clear hT HT;generalize filtC V e (cs.take k)=ct at*;have p0:=hS5.p0;have p1:=hS5.p1;have pf:=hS5.pf;go_wp2_with(at_builtin;refine wpList_append_own_at _ rfl _ _ 58 rfl N 96 i0 _ 2 32 Tryz.underlying58 hi hz0 hz1 hz2 rfl (by decide) _ _ _ rfl (hS5.own.own.alloc _) ⟨w5.heap.size,0,none⟩ 1 1 [.slice a0 x.r.length n0,.int .i64 x.n] rfl rfl ?c2 (by simp[Value.oneCell']) ?c3 ?c4 ?c5 ?_)
    case c2=>exact World.news_of_block (cs:=#[.slice a0 x.r.length n0,.int .i64 x.n]) (t:=96) (fr:=(0,0)) (by have:=heap_alloc_new w5 (.cells #[.slice a0 x.r.length n0,.int .i64 x.n] 96);simpa using this)
    case c3=>unfold maxLen;omega
    case c4=>omega
    case c5=>first|omega|(simp;omega)
    intro v5 w6 hown5 hgr5 _ hat5;have hat6:v5.ownBlock=(Value.slice ay ct.length cy).ownBlock∨v5.ownBlock=some (w5.heap.size+1):=by simpa using hat5
    have hz6:=hgr5.size;simp at hz6;have hK6:∀b,w.heap.size+1+1+1+1≤b→b<w2.heap.size→(w6.setCell ⟨w.heap.size+1+1+1,1,none⟩ v5).heap[b]?=w2.heap[b]?:=fun b h1 h2=>(bS8 _ _ _ _ (by simp;omega)).trans ((hgr5.block b (by simp;omega) (fun e=>by have:=hyb b e.symm;omega)).trans ((bA8 _ _ _ (by omega)).trans (hK5 b h1 h2)));have hyb6:∀b,v5.ownBlock=some b→w2.heap.size≤b:=fun b hb=>by
     rcases hat6 with e|e
     ·exact hyb b (e.symm.trans hb)
     ·rw[e]at hb;cases hb;omega
    obtain⟨q1,hS6⟩:=hS5.push (x:=x) hN hR5 hO5 (fun t ht=>hRl t ht) hdis hown5 hgr5 (by simpa using hat5);have pf6:∀q,w6.frozen? ⟨w.heap.size+1+1+1,q,none⟩=false:=fun q=>by have:=hS6.pf q;simpa using this
    have q0:=hS6.p0;rw[←HT2.out]at hS6;obtain⟨a5,c5,rfl⟩:∃a5 c5,v5=.slice a5 (ct.length+1) c5:=by
     rcases hown5.2 with⟨_,h0⟩|⟨g,cap,cur,hv,_⟩
     ·exact absurd h0 (by omega)
     ·exact⟨_,cap,hv⟩
    clear hown5 hgr5 hat5 hat6 hS5 hR5 hO5 hdis p0 p1 pf hK5;go_wp2_with fail;refine⟨⟨k+1,_,_,_,hlt,by simp,hS6,fun b hb=>?_,hyb6,hK6,by simp;omega⟩,by simp[intOf];omega⟩;have:b∈G2.flatten∨b∈g:=by simpa using hb
    rcases this with hb|hb
    ·exact hG1 b (hsub b hb)
    ·exact hG2 b hb
  ·obtain rfl:k=cs.length:=by omega
   rw[List.take_length]at hS;obtain⟨z0,z1,z2,z3,z4,z5,hBo,z6,z7,hb',hzb'⟩:=hS;obtain⟨ay,cy,rfl⟩:=hBo.shape;go_wp2;refine bodyPost_ret (v:=.agg #[.int .i64 W,.slice ay (filtC V e cs).length cy]) (by simp[results,Tryz.results84,go_sem, *]) rfl ⟨⟨_,_,_,rfl,hBo.keepO (by simp) (fun t ht=>?_) (fun t ht=>?_),fun b hb=>by have:=z6 b hb;omega,fun b hb=>sub_take _ _ b (hsub b hb)⟩,?_⟩
   ·have:=z6 t ht;repeat rw[bS8 _ _ _ _ (by simp;omega)]
   ·have:=z7 t ht;repeat rw[bS8 _ _ _ _ (by simp;omega)]
   ·repeat (first|(with_reducible exact hb')|(with_reducible refine Below.setCell ?_ ?hh _;case hh=>(simp;try omega)))
end
end Go.Proofs.YtflokiejcjjbiaaGreat
