/- Own texts, joined: contracts that the law's proof goes by. -/
import Derived.Test.YteekfcdllaceoaaGreatDoorGLAnswer7
import Derived.Test.YteekfcdllaceoaaGreatDoorGLAnswer1
import Derived.Test.YteekfcdllaceoaaGreatDoorGLAnswer3
import Derived.Maps.AppendAt
import Derived.WideMake
import Derived.Carry
import Derived.Test.YteekfcdllaceoaaGreatDoorGLAnswer14
import Derived.Test.YteekfcdllaceoaaGreatDoorGLAnswer4
import Derived.Handy
import Derived.Deep.DrawnRows
import Derived.Deep.AppendLies
import Derived.Laws.OwnMore
import Derived.Deep.RegionHeld3
set_option maxHeartbeats 16000000
set_option maxRecDepth 100000
set_option linter.unusedVariables false
set_option linter.unusedSimpArgs false
namespace Go.Proofs.YteekfcdllaceoaaGreatDoor
section
open Go.RowKit Go.Deep Go.ChangeShapes Go.WideShapes
structure ShW (w:World)(N:Nat)(W:Int)(acc:List C2)(y:Value)(us:List Value)(G:List (List Nat))(wr:World):Prop where
 r0:wr.cell? ⟨w.heap.size+1+1,0,none⟩=some (.int .i64 0)
 r1:wr.cell? ⟨w.heap.size+1+1,1,none⟩=some (.slice none 0 0)
 rf:∀q,wr.frozen? ⟨w.heap.size+1+1,q,none⟩=false
 p0:wr.cell? ⟨w.heap.size+1+1+1,0,none⟩=some (.int .i64 W)
 p1:wr.cell? ⟨w.heap.size+1+1+1,1,none⟩=some y
 pf:∀q,wr.frozen? ⟨w.heap.size+1+1+1,q,none⟩=false
 own:C4 wr N y acc us G
 yb:∀b,y.ownBlock=some b->w.heap.size+1+1+1+1<=b
 gl:∀b∈G.flatten,b<w.heap.size
 bel:Below w.heap.size w wr
 big:w.heap.size+1+1+1<wr.heap.size
theorem ShW.below {w wr w':World}{N:Nat}{W:Int}{acc:List C2}{y:Value}{us:List Value}{G:List (List Nat)}(h:ShW w N W acc y us G wr)(hb:Below wr.heap.size wr w'):ShW w N W acc y us G w':=by
 have hz:=h.big;have hs:=hb.size;exact⟨bt8 hb h.r0,bt8 hb h.r1,fun q=>((bc8 hb).2 _ q (by omega)).trans (h.rf q),bt8 hb h.p0,bt8 hb h.p1,fun q=>((bc8 hb).2 _ q (by omega)).trans (h.pf q),h.own.below hb,h.yb,h.gl,h.bel.trans (hb.mono h.bel.size),by omega⟩
theorem ShW.push {w w3 w5:World}{N:Nat}{W:Int}{acc:List C2}{y v5 u:Value}{us:List Value}{G:List (List Nat)}{x:C2}{g:List Nat}{ob:Obj}(h:ShW w N W acc y us G w3)(hN:N<=w.heap.size)(hR:D9 w3 u x.r g)(hO:D5 w3 N g)(hgw:∀b∈g,b<w.heap.size)(hd:∀b∈G.flatten,b∉g)(ho:w5.ownsRow N 116 2 v5 (acc.length+1) (cc us acc++ [u,.int .i64 x.n])) (hg:(w3.alloc ob).grownBy w5 y.ownBlock) (hat:v5.ownBlock=y.ownBlock\/v5.ownBlock=some (w3.alloc ob).heap.size):w5.cell? ⟨w.heap.size+1+1+1,1,none⟩=some y/\ShW w N W (acc++ [x]) v5 (us++ [u]) (G++ [g]) (w5.setCell ⟨w.heap.size+1+1+1,1,none⟩ v5):=by
 have hz:=h.big;have hs:=hg.size;simp only[World.size_alloc]at hs;have al:Below w3.heap.size w3 (w3.alloc ob):=(Below.refl _ _).alloc lr8 _;have hlR:=hR.lt;have hB5:=C4.push (x:=x) (h.own.below al) (hR.below al) ⟨hO.1,hO.2.1,fun b hb q=>(fb8 (bA8 _ _ _ (hlR b hb))).trans (hO.2.2 b hb q)⟩ hd (fun b hb hb'=>by have:=h.yb b hb;have:=hgw b hb';omega) ho hg (fun b hb=>by
  rcases hat with e|e
  ·left;rw[<-e];exact hb
  ·right;rw[e]at hb;cases hb;exact Nat.le_refl _)
 have yb5:∀b,v5.ownBlock=some b->w.heap.size+1+1+1+1<=b:=fun b hb=>by
  rcases hat with e|e
  ·exact h.yb b (by rw[<-e];exact hb)
  ·rw[e]at hb;cases hb;simp;omega
 have gl5:∀b∈(G++ [g]).flatten,b<w.heap.size:=fun b hb=>by
  have:b∈G.flatten\/b∈g:=by simpa using hb
  rcases this with hb|hb
  ·exact h.gl b hb
  ·exact hgw b hb
 have kB:∀t,t<w.heap.size+1+1+1+1->w5.heap[t]?=w3.heap[t]?:=fun t ht=>(hg.block t (by simp;omega) (fun e=>by have:=h.yb t e.symm;omega)).trans ba8;have kS:∀t,t<w.heap.size+1+1+1->(w5.setCell ⟨w.heap.size+1+1+1,1,none⟩ v5).heap[t]?=w3.heap[t]?:=fun t ht=>(bS8 _ _ _ _ (by simp;omega)).trans (kB t (by omega));have p0:=(cb8 (kB (w.heap.size+1+1+1) (by omega))).trans h.p0;have p1:=(cb8 (kB (w.heap.size+1+1+1) (by omega))).trans h.p1;have D7:Below w.heap.size w w5:=Below.grown (h.bel.alloc h.bel.size ob) hg (by simp;omega) (fun t ht=>by have:=h.yb t ht;omega);refine⟨p1,?_⟩;exact⟨(cb8 (kS _ (by omega))).trans h.r0,(cb8 (kS _ (by omega))).trans h.r1,fun q=>(fb8 (kS _ (by omega))).trans (h.rf q),(cO8 _ _ _ _ (by simp)).trans p0,cS8 _ _ _ p1,fun q=>by have:=(fb8 (kB (w.heap.size+1+1+1) (by omega)) (o:=q)).trans (h.pf q);simpa using this,hB5.keepO (by simp) (fun t ht=>bS8 _ _ _ _ (by have:=yb5 t ht;simp;omega)) (fun t ht=>bS8 _ _ _ _ (by have:=gl5 t ht;simp;omega)),yb5,gl5,D7.setCell (by simp;omega) _,by simp;omega⟩
theorem B1A (G:List (List Nat))(k:Nat):∀b∈(G.take k).flatten,b∈G.flatten:=fun b hb=>by
 obtain⟨g,hg,hbg⟩:=List.mem_flatten.1 hb;exact List.mem_flatten.2 ⟨g,List.mem_of_mem_take hg,hbg⟩
theorem A8e {G:List (List Nat)}(h:G.flatten.Nodup){k:Nat}{g:List Nat}(hg:G[k]?=some g):∀b∈(G.take k).flatten,b∉g:=by
 obtain⟨hk,rfl⟩:=gE1 hg;have e:G=G.take k++G[k]::G.drop (k+1):=by rw[<-List.drop_eq_getElem_cons hk,List.take_append_drop]
 rw[e,List.flatten_append,List.flatten_cons]at h;intro b hb hb';exact(List.nodup_append.1 h).2.2 b hb b (List.mem_append_left _ hb') rfl
structure A2e (w:World)(N:Nat)(v:Value)(cs:List C2)(us:List Value)(G:List (List Nat)):Prop where
 shape:∃a c,v=.slice a cs.length c
 free:D5 w N G.flatten
 lt:∀b∈G.flatten,b<w.heap.size
 at':∀k,k<cs.length->∃x u g b o cap,cs[k]?=some x/\us[k]?=some u/\G[k]?=some g/\v=.slice (some ⟨b,o,none⟩) cs.length cap/\cs.length<=cap/\cap<=maxLen/\b<w.heap.size/\w.cell? ⟨b,o+k*2,none⟩=some u/\w.cell? ⟨b,o+k*2+1,none⟩=some (.int .i64 x.n)/\D9 w u x.r g/\D5 w N g
theorem A2e.below {w w':World}{N:Nat}{v:Value}{cs:List C2}{us:List Value}{G:List (List Nat)}(h:A2e w N v cs us G)(hb:Below w.heap.size w w'):A2e w' N v cs us G:=
 ⟨h.shape,⟨h.free.1,h.free.2.1,fun b hb' q=>((bc8 hb).2 b q (h.lt b hb')).trans (h.free.2.2 b hb' q)⟩,fun b hb'=>Nat.lt_of_lt_of_le (h.lt b hb') hb.size,fun k hk=>by
  obtain⟨x,u,g,b,o,cap,h1,h2,h3,h4,h5,h6,h7,h8,h9,h10,h11⟩:=h.at' k hk;exact⟨x,u,g,b,o,cap,h1,h2,h3,h4,h5,h6,Nat.lt_of_lt_of_le h7 hb.size,((bc8 hb).1 _ _ h7).trans h8,((bc8 hb).1 _ _ h7).trans h9,h10.below hb,h11.1,h11.2.1,fun y hy q=>((bc8 hb).2 y q (h10.lt y hy)).trans (h11.2.2 y hy q)⟩⟩
theorem C6.src {w:World}{N:Nat}{v:Value}{cs:List C2}{F:List Nat}(h:C6 w v cs F)(hO:D5 w N F):∃us G,A2e w N v cs us G/\∀b∈G.flatten,b∈F:=by
 have hFl:=h.lt;obtain⟨a,c,b,o,G,rfl,hl,hc,_,hG,h0,hC,ha⟩:=h.pick;by_cases hne:cs=[]
 ·subst hne;have:G=[]:=List.length_eq_zero_iff.1 hG;subst this;exact⟨[],[],⟨⟨a,c,rfl⟩,by simp[D5,N9],fun b hb=>by simp at hb,fun k hk=>by simp at hk⟩,fun b hb=>by simp at hb⟩
 have hp:0<cs.length:=List.length_pos_iff.2 hne;obtain⟨ea,hblt,hF⟩:=ha 0 hp;have P4:∀x∈G.flatten,x∈F:=fun x hx=>by rw[hF];exact List.mem_cons_of_mem _ hx
 have hnd:G.flatten.Nodup:=by have:=hO.1;rw[hF]at this;exact(List.nodup_cons.1 this).2
 refine⟨(List.range cs.length).map fun k=>(w.cell? ⟨b,o+k*2,none⟩).getD .nilIface,G,⟨⟨a,c,rfl⟩,⟨hnd,fun x hx=>hO.2.1 x (P4 x hx),fun x hx=>hO.2.2 x (P4 x hx)⟩,fun x hx=>hFl x (P4 x hx),fun k hk=>?_⟩,P4⟩;obtain⟨x,u,g,hx,hg,c0,hR,c1,_⟩:=hC.at hG hblt (Below.refl _ _) hk;have O9:∀y∈g,y∈F:=fun y hy=>P4 y (List.mem_flatten.2 ⟨g,mg8 hg,hy⟩);refine⟨x,u,g,b,o,c,hx,by simp[hk,c0],hg,by rw[ea],hl,hc,hblt,c0,c1,hR,?_,fun y hy=>hO.2.1 y (O9 y hy),fun y hy=>hO.2.2 y (O9 y hy)⟩;obtain⟨hk',rfl⟩:=gE1 hg;have e:G=G.take k++G[k]::G.drop (k+1):=by rw[<-List.drop_eq_getElem_cons hk',List.take_append_drop]
 rw[e,List.flatten_append,List.flatten_cons]at hnd;exact(List.nodup_append.1 (List.nodup_append.1 hnd).2.1).1
theorem B4A (wh W Wk:Int)(au:Option Addr)(lu cu:Nat)(v:Value)(cs:List C2)(us:List Value)(G:List (List Nat))(N:Nat)(w:World)(hB:A2e w N v cs us G)(hN:N<=w.heap.size)(hn:cs.length<=1048576):Calls Tryz.prog 111 #[.agg #[.int .i64 wh,.int .i64 W,.slice au lu cu],.agg #[.int .i64 Wk,v]] w fun q w'=>(∃u us' G',q=.returned (.agg #[.int .i64 W,u])/\C4 w' N u (R8 cs) us' G'/\(∀b,u.ownBlock=some b->w.heap.size<=b)/\∀b∈G'.flatten,b∈G.flatten)/\Below w.heap.size w w':=by
 obtain⟨i0,hi,hz0,hz1,hz2⟩:=info_parts Tryz.infoCnt;obtain⟨av,cv,rfl⟩:=hB.shape;have hnd:=hB.free.1;have hGl:=hB.lt;go_enter Tryz.func111,Tryz.ntmps111;go_wp2_with fail;go_loopw [15] (fun i wr=> ∃ (k:Nat) (y:Value),k<=cs.length/\i=.int .i64 k/\ShW w N W (R8 (cs.take k)) y (us.take k) (G.take k) wr) (fun i _=>cs.length - (intOf i).toNat)
 case atStart=>exact⟨0,.slice none 0 0,Nat.zero_le _,rfl,⟨by go_simp,by go_simp,fun q=>by go_simp,by go_simp,by go_simp,fun q=>by go_simp,C4.nil _ _,fun b hb=>by simp[Value.ownBlock]at hb,fun b hb=>by simp at hb,bex,by simp⟩⟩
 case round=>
  obtain⟨k,y,hk,rfl,hS⟩:=hrel;have hb:=hS.bel;have hzb:=hb.size;by_cases hlt:k<cs.length
  ·obtain⟨x,u,g,b,o,cap,hx,hu,hg,ev,hcl,hcm,hblt,c0,c1,hR,hO⟩:=hB.at' k hlt;injection ev with ev1 ev2 ev3;subst ev1 ev3;obtain⟨a0,n0,rfl⟩:=hR.shape;have hkI:(k:Int)<cs.length:=by omega
   have d0:=((bc8 hb).1 b (o+k*2) hblt).trans c0;have d1:=((bc8 hb).1 b (o+k*2+1) hblt).trans c1;have hRl:=hR.lt;have hRw:=hR.below hb;have hOw:D5 wr N g:=⟨hO.1,hO.2.1,fun t ht q=>((bc8 hb).2 t q (hRl t ht)).trans (hO.2.2 t ht q)⟩;have S3:=A8e hnd hg;have HT:Hid (R8 (cs.take (k+1))=R8 (cs.take k)++ [⟨x.r,1⟩]):=by show _=_;rw[V9 hx];unfold R8;rw[List.map_append];rfl
   have HU:Hid (us.take (k+1)=us.take k++ [.slice a0 x.r.length n0]):=by
    obtain⟨hk',e⟩:=gE1 hu;show _=_;rw[List.take_succ_eq_append_getElem hk',e]
   have HG:Hid (G.take (k+1)=G.take k++ [g]):=by
    obtain⟨hk',e⟩:=gE1 hg;show _=_;rw[List.take_succ_eq_append_getElem hk',e]
   have hdl:(R8 (cs.take k)).length<=1048576:=by unfold R8;rw[List.length_map];simp;omega
   obtain⟨ay,cy,rfl⟩:=hS.own.shape;have hbig:=hS.big;have p0:=hS.p0;have p1:=hS.p1;have pf:=hS.pf;have al1:Below wr.heap.size wr (wr.alloc (.cells #[.slice a0 x.r.length n0,.int .i64 x.n] 116)):=(Below.refl _ _).alloc lr8 _;have hS1:=hS.below al1;have hR1:=hRw.below al1;have hO1:D5 (wr.alloc (.cells #[.slice a0 x.r.length n0,.int .i64 x.n] 116)) N g:=⟨hO.1,hO.2.1,fun t ht q=>(fb8 (bA8 _ _ _ (hRw.lt t ht))).trans (hOw.2.2 t ht q)⟩;generalize R8 (cs.take k)=ct at*;clear hR hO hRw hOw hx hu hg c0 c1;go_wp2_with(at_builtin;refine wpList_append_own_at _ rfl _ _ 33 rfl N 116 i0 _ 2 32 Tryz.underlying33 hi hz0 hz1 hz2 rfl (by decide) _ _ _ rfl (hS1.own.own.alloc _) ⟨wr.heap.size+1,0,none⟩ 1 1 [.slice a0 x.r.length n0,.int .i64 1] rfl rfl ?c2 (by simp[Value.oneCell']) ?c3 ?c4 ?c5 ?_)
   case c3=>unfold maxLen;omega
   case c4=>omega
   case c5=>first|omega|(simp;omega)
   intro v5 w5 D4 hgr5 _ hat5;obtain⟨q1,hS5⟩:=hS1.push (x:=⟨x.r,1⟩) hN hR1 hO1 (fun t ht=>hRl t ht) S3 D4 hgr5 (by simpa using hat5);have pf5:∀q,w5.frozen? ⟨w.heap.size+1+1+1,q,none⟩=false:=fun q=>by have:=hS5.pf q;simpa using this
   have q0:=hS5.p0;rw[<-HT.out,<-HU.out,<-HG.out]at hS5;obtain⟨a5,c5,rfl⟩:∃a5 c5,v5=.slice a5 (ct.length+1) c5:=by
    rcases D4.2 with⟨_,h0⟩|⟨g,cap,cur,hv,_⟩
    ·exact absurd h0 (by omega)
    ·exact⟨_,cap,hv⟩
   clear D4 hgr5 hat5 hS1 hR1 hO1 al1 S3 p0 p1 pf;go_wp2_with fail;exact⟨⟨k+1,_,hlt,by simp,hS5⟩,by simp[intOf];omega⟩
  ·obtain rfl:k=cs.length:=by omega
   rw[List.take_length]at hS;obtain⟨z0,z1,z2,z3,z4,z5,hBo,z6,z7,hb',A6b⟩:=hS;obtain⟨ay,cy,rfl⟩:=hBo.shape;go_wp2;refine bodyPost_ret (v:=.agg #[.int .i64 W,.slice ay (R8 cs).length cy]) (by simp[results,Tryz.results111,go_sem, *]) rfl ⟨⟨_,_,_,rfl,hBo.keepO (by simp) (fun t ht=>?_) (fun t ht=>?_),fun b hb=>by have:=z6 b hb;omega,fun b hb=>B1A _ _ b hb⟩,?_⟩
   ·have:=z6 t ht;repeat rw[bS8 _ _ _ _ (by simp;omega)]
   ·have:=z7 t ht;repeat rw[bS8 _ _ _ _ (by simp;omega)]
   ·repeat (first|(with_reducible exact hb')|(with_reducible refine Below.setCell ?_ ?hh _;case hh=>(simp;try omega)))
end
section
theorem B4W {α:Type}(xs:Array α)(a b:α):(xs.push a).setIfInBounds xs.size b=xs.push b:=by
 apply Array.ext
 ·simp
 ·intro i h1 h2;simp at h1 h2;rcases Nat.lt_or_ge i xs.size with h|h
  ·rw[Array.getElem_setIfInBounds_ne (by simp;omega) (by omega)];simp[Array.getElem_push,h]
  ·obtain rfl:i=xs.size:=by omega
   simp
theorem A3g (w:World)(es:Array MapEntry)(c:Nat)(k:Int)(v:Value)(hf:Instr.findNow (.int .i64) (.int .i64 k) es.toList 0=some none):Sem.run Tryz.prog (Instr.mapUpdate 239 (.map (some w.heap.size)) (.int .i64 k) v) (w.alloc (.map es c))=.ok () (w.alloc (.map (es.push ⟨.int .i64 k,v,c⟩) (c+1))):=by
 have hk:Tryz.prog.underlying 3=some (.int .i64):=by kernel_rfl
 have hm:Tryz.prog.underlying 239=some (.map 3 213):=by kernel_rfl
 have hb:=heap_alloc_new w (.map es c);have hc:(Instr.checkKey false 10000 3 (.int .i64 k)).run Tryz.prog (w.alloc (.map es c))=.ok () (w.alloc (.map es c)):=MapKept.run_checkKey (k:=.int .i64 k) hk (by simp[MapKept.IsKey]) false 9999;simp[Instr.mapUpdate,run_underlying hm,MapKept.run_getObj_map hb,hc,MapKept.run_findKey hk hf,MapKept.run_setObj_map _ hb,Result.andThen];unfold World.alloc;dsimp only;rw[B4W]
theorem A3N (w:World)(es:Array MapEntry)(c:Nat)(k:Int)(i:Nat)(v:Value)(hf:Instr.findNow (.int .i64) (.int .i64 k) es.toList 0=some (some (i,v))):Sem.run Tryz.prog (Instr.lookup 239 (.map (some w.heap.size)) (.int .i64 k) false) (w.alloc (.map es c))=.ok v (w.alloc (.map es c)):=by
 have hk:Tryz.prog.underlying 3=some (.int .i64):=by kernel_rfl
 have hm:Tryz.prog.underlying 239=some (.map 3 213):=by kernel_rfl
 have hb:=heap_alloc_new w (.map es c);have hc:∀q,(Instr.checkKey q 10000 3 (.int .i64 k)).run Tryz.prog (w.alloc (.map es c))=.ok () (w.alloc (.map es c)):=fun q=>MapKept.run_checkKey (k:=.int .i64 k) hk (by simp[MapKept.IsKey]) q 9999;simp[Instr.lookup,run_underlying hm,MapKept.run_getObj_map hb,hc,MapKept.run_findKey hk hf,Result.andThen]
theorem B7N (w:World)(v0:Value):Sem.run Tryz.prog (Instr.mapUpdate 239 (.map (some w.heap.size)) (.int .i64 0) v0) (w.alloc (.map #[] 0))=.ok () (w.alloc (.map #[⟨.int .i64 0,v0,0⟩] 1)):=
 A3g w #[] 0 0 v0 rfl
theorem C0O (w:World)(v0 v1:Value):Sem.run Tryz.prog (Instr.mapUpdate 239 (.map (some w.heap.size)) (.int .i64 1) v1) (w.alloc (.map #[⟨.int .i64 0,v0,0⟩] 1))=.ok () (w.alloc (.map #[⟨.int .i64 0,v0,0⟩,⟨.int .i64 1,v1,1⟩] 2)):=
 A3g w #[⟨.int .i64 0,v0,0⟩] 1 1 v1 rfl
theorem B6C (w:World)(v0 v1 v2:Value):Sem.run Tryz.prog (Instr.mapUpdate 239 (.map (some w.heap.size)) (.int .i64 2) v2) (w.alloc (.map #[⟨.int .i64 0,v0,0⟩,⟨.int .i64 1,v1,1⟩] 2))=.ok () (w.alloc (.map #[⟨.int .i64 0,v0,0⟩,⟨.int .i64 1,v1,1⟩,⟨.int .i64 2,v2,2⟩] 3)):=
 A3g w #[⟨.int .i64 0,v0,0⟩,⟨.int .i64 1,v1,1⟩] 2 2 v2 rfl
theorem B7V (w:World)(v0 v1 v2 v3:Value):Sem.run Tryz.prog (Instr.mapUpdate 239 (.map (some w.heap.size)) (.int .i64 3) v3) (w.alloc (.map #[⟨.int .i64 0,v0,0⟩,⟨.int .i64 1,v1,1⟩,⟨.int .i64 2,v2,2⟩] 3))=.ok () (w.alloc (.map #[⟨.int .i64 0,v0,0⟩,⟨.int .i64 1,v1,1⟩,⟨.int .i64 2,v2,2⟩,⟨.int .i64 3,v3,3⟩] 4)):=
 A3g w #[⟨.int .i64 0,v0,0⟩,⟨.int .i64 1,v1,1⟩,⟨.int .i64 2,v2,2⟩] 3 3 v3 rfl
theorem B7o (w:World)(v0 v1 v2 v3 v4:Value):Sem.run Tryz.prog (Instr.mapUpdate 239 (.map (some w.heap.size)) (.int .i64 4) v4) (w.alloc (.map #[⟨.int .i64 0,v0,0⟩,⟨.int .i64 1,v1,1⟩,⟨.int .i64 2,v2,2⟩,⟨.int .i64 3,v3,3⟩] 4))=.ok () (w.alloc (.map #[⟨.int .i64 0,v0,0⟩,⟨.int .i64 1,v1,1⟩,⟨.int .i64 2,v2,2⟩,⟨.int .i64 3,v3,3⟩,⟨.int .i64 4,v4,4⟩] 5)):=
 A3g w #[⟨.int .i64 0,v0,0⟩,⟨.int .i64 1,v1,1⟩,⟨.int .i64 2,v2,2⟩,⟨.int .i64 3,v3,3⟩] 4 4 v4 rfl
theorem B2v (w:World)(v0 v1 v2 v3 v4:Value):Sem.run Tryz.prog (Instr.lookup 239 (.map (some w.heap.size)) (.int .i64 0) false) (w.alloc (.map #[⟨.int .i64 0,v0,0⟩,⟨.int .i64 1,v1,1⟩,⟨.int .i64 2,v2,2⟩,⟨.int .i64 3,v3,3⟩,⟨.int .i64 4,v4,4⟩] 5))=.ok v0 (w.alloc (.map #[⟨.int .i64 0,v0,0⟩,⟨.int .i64 1,v1,1⟩,⟨.int .i64 2,v2,2⟩,⟨.int .i64 3,v3,3⟩,⟨.int .i64 4,v4,4⟩] 5)):=
 A3N w #[⟨.int .i64 0,v0,0⟩,⟨.int .i64 1,v1,1⟩,⟨.int .i64 2,v2,2⟩,⟨.int .i64 3,v3,3⟩,⟨.int .i64 4,v4,4⟩] 5 0 0 v0 rfl
theorem C2m (w:World)(v0 v1 v2 v3 v4:Value):Sem.run Tryz.prog (Instr.lookup 239 (.map (some w.heap.size)) (.int .i64 1) false) (w.alloc (.map #[⟨.int .i64 0,v0,0⟩,⟨.int .i64 1,v1,1⟩,⟨.int .i64 2,v2,2⟩,⟨.int .i64 3,v3,3⟩,⟨.int .i64 4,v4,4⟩] 5))=.ok v1 (w.alloc (.map #[⟨.int .i64 0,v0,0⟩,⟨.int .i64 1,v1,1⟩,⟨.int .i64 2,v2,2⟩,⟨.int .i64 3,v3,3⟩,⟨.int .i64 4,v4,4⟩] 5)):=
 A3N w #[⟨.int .i64 0,v0,0⟩,⟨.int .i64 1,v1,1⟩,⟨.int .i64 2,v2,2⟩,⟨.int .i64 3,v3,3⟩,⟨.int .i64 4,v4,4⟩] 5 1 1 v1 rfl
theorem B36 (w:World)(v0 v1 v2 v3 v4:Value):Sem.run Tryz.prog (Instr.lookup 239 (.map (some w.heap.size)) (.int .i64 2) false) (w.alloc (.map #[⟨.int .i64 0,v0,0⟩,⟨.int .i64 1,v1,1⟩,⟨.int .i64 2,v2,2⟩,⟨.int .i64 3,v3,3⟩,⟨.int .i64 4,v4,4⟩] 5))=.ok v2 (w.alloc (.map #[⟨.int .i64 0,v0,0⟩,⟨.int .i64 1,v1,1⟩,⟨.int .i64 2,v2,2⟩,⟨.int .i64 3,v3,3⟩,⟨.int .i64 4,v4,4⟩] 5)):=
 A3N w #[⟨.int .i64 0,v0,0⟩,⟨.int .i64 1,v1,1⟩,⟨.int .i64 2,v2,2⟩,⟨.int .i64 3,v3,3⟩,⟨.int .i64 4,v4,4⟩] 5 2 2 v2 rfl
theorem B4K (w:World)(v0 v1 v2 v3 v4:Value):Sem.run Tryz.prog (Instr.lookup 239 (.map (some w.heap.size)) (.int .i64 3) false) (w.alloc (.map #[⟨.int .i64 0,v0,0⟩,⟨.int .i64 1,v1,1⟩,⟨.int .i64 2,v2,2⟩,⟨.int .i64 3,v3,3⟩,⟨.int .i64 4,v4,4⟩] 5))=.ok v3 (w.alloc (.map #[⟨.int .i64 0,v0,0⟩,⟨.int .i64 1,v1,1⟩,⟨.int .i64 2,v2,2⟩,⟨.int .i64 3,v3,3⟩,⟨.int .i64 4,v4,4⟩] 5)):=
 A3N w #[⟨.int .i64 0,v0,0⟩,⟨.int .i64 1,v1,1⟩,⟨.int .i64 2,v2,2⟩,⟨.int .i64 3,v3,3⟩,⟨.int .i64 4,v4,4⟩] 5 3 3 v3 rfl
theorem C28 (w:World)(v0 v1 v2 v3 v4:Value):Sem.run Tryz.prog (Instr.lookup 239 (.map (some w.heap.size)) (.int .i64 4) false) (w.alloc (.map #[⟨.int .i64 0,v0,0⟩,⟨.int .i64 1,v1,1⟩,⟨.int .i64 2,v2,2⟩,⟨.int .i64 3,v3,3⟩,⟨.int .i64 4,v4,4⟩] 5))=.ok v4 (w.alloc (.map #[⟨.int .i64 0,v0,0⟩,⟨.int .i64 1,v1,1⟩,⟨.int .i64 2,v2,2⟩,⟨.int .i64 3,v3,3⟩,⟨.int .i64 4,v4,4⟩] 5)):=
 A3N w #[⟨.int .i64 0,v0,0⟩,⟨.int .i64 1,v1,1⟩,⟨.int .i64 2,v2,2⟩,⟨.int .i64 3,v3,3⟩,⟨.int .i64 4,v4,4⟩] 5 4 4 v4 rfl
end
section
open Go.RowKit Go.Deep
attribute [local go_sem↓] Go.wp_at_zero Go.wp_at_succ
attribute [local go_sem] Go.run_makeMap_plain B7N C0O B6C B7V B7o B2v C2m B36 B4K C28
theorem Tryz.infoRk:(Tryz.prog.info? 213).map (fun i=>(i.zero,i.size,i.bytes))=some (some .nilFunc,1,8):=by kernel_rfl
theorem A25 {w w':World}{N e s n:Nat}{v:Value}{xs:List Value}(h:w.ownsRow N e s v n xs)(hb:Below w.heap.size w w'):w'.ownsRow N e s v n xs:=by
 refine⟨h.1,?_⟩;rcases h.2 with h0|⟨g,cap,cur,hv,hg,hc,h3⟩
 ·exact .inl h0
 ·exact .inr ⟨g,cap,cur,hv,hg,(hb.block g (A40 hc)).trans hc,h3⟩
theorem B9L {w w':World}{N e s n g c:Nat}{xs:List Value}(h:w.ownsRow N e s (.slice (some ⟨g,0,none⟩) n c) n xs)(hb:w'.heap[g]?=w.heap[g]?):w'.ownsRow N e s (.slice (some ⟨g,0,none⟩) n c) n xs:=by
 refine⟨h.1,?_⟩;rcases h.2 with h0|⟨g',cap,cur,hv,hg,hc,h3⟩
 ·exact .inl h0
 ·obtain rfl:g=g':=by injection hv with h1;injection h1 with h1;injection h1
  exact .inr ⟨g,cap,cur,hv,hg,hb.trans hc,h3⟩
def RkS (m:Int)(f:Nat):Prop:=∀ (e:E7) (u:Value) (F:List Nat) (d:Nat) (w:World),e.wf->C1 w d u e.ks F->okE f e=true->wtE e<=1048576->
  Calls Tryz.prog 134 #[(.agg #[.int .i64 e.k,.int .i64 e.n,.int .i64 e.v.k,.int .i64 e.v.n,.string e.v.s,.string e.p,u])] w fun x w'=>(∃c,x=.returned c/\Rk m (fun b=>w.heap.size<=b/\b<w'.heap.size) w' c f e)/\Below w.heap.size w w'
theorem B9j (m:Int):RkS m 0:=fun _ _ _ _ _ _ _ h _=>by cases h
theorem B9f {m:Int}{f:Nat}(hI:RkS m f):RkS m (f+1):=by
 intro e u F d w hw hk hok hwt;obtain⟨i0,hi,hz0,hz1,hz2⟩:=info_parts Tryz.infoRk;obtain⟨d,rfl⟩:=hk.succ;obtain⟨a,c,b,o,G,rfl,hl,hc,hG,_,ha⟩:=hk.pick;unfold maxLen at hc;simp only[okE,Bool.and_eq_true,List.all_eq_true]at hok;obtain⟨hp,hks⟩:=hok;have hn1:e.ks.length<=1048576:=by rw[j3]at hwt;omega
 have hkw:∀x∈e.ks,wtE x<=1048576:=fun x hx=>by have:=A0a hx;rw[j3]at hwt;omega
 clear hk;go_enter Tryz.func134,Tryz.ntmps134;go_wp2;go_loopw [11] (fun i wr=> ∃ (k gb cp:Nat) (fs:List Value) (D:Nat->Prop),k<=e.ks.length/\i=.int .i64 k/\wr.heap[w.heap.size]?=some (.cells #[.int .i64 e.k,.int .i64 e.n,.int .i64 e.v.k,.int .i64 e.v.n,.string e.v.s,.string e.p,.slice a e.ks.length c] 42)/\wr.cell? ⟨w.heap.size+1+1,0,none⟩=some (.slice (some ⟨gb,0,none⟩) k cp)/\(∀q,wr.frozen? ⟨w.heap.size+1+1,q,none⟩=false)/\wr.ownsRow (w.heap.size+1) 213 1 (.slice (some ⟨gb,0,none⟩) k cp) k fs/\gb≠w.heap.size+1+1/\(∀b,D b->w.heap.size+1+1+1<=b/\b<wr.heap.size/\b≠gb)/\(∀ (j:Nat) (x:E7) (y:Value),e.ks[j]?=some x->fs[j]?=some y->Rk m D wr y f x)/\Below w.heap.size w wr/\w.heap.size+1+1+1<=wr.heap.size) (fun i _=>e.ks.length - (intOf i).toNat)
 case atStart=>
  refine⟨0,w.heap.size+1,0,[],fun _=>False,Nat.zero_le _,rfl,?_,by go_simp,fun q=>by go_simp,?_,by omega,fun _ h=>h.elim,fun j x y _ h=>by simp at h,bex,by simp⟩
  ·rw[bA8 _ _ _ (by simp;omega),bA8 _ _ _ (by simp)];exact heap_alloc_new _ _
  ·have:=(World.ownsRow_lit (base:=w.heap.size+1) (e:=213) (size:=1) (w.alloc (.cells #[.int .i64 e.k,.int .i64 e.n,.int .i64 e.v.k,.int .i64 e.v.n,.string e.v.s,.string e.p,.slice a e.ks.length c] 42)) #[] 0 (by simp) (by decide) rfl);simp only[World.size_alloc]at this;exact this.alloc _
 case round=>
  obtain⟨k,gb,cp,fs,D,hkk,rfl,hE,p0,pf,hO,hgK,hD,hR,hb,hzb⟩:=hrel;by_cases hlt:k<e.ks.length
  ·obtain⟨rfl,hblt,_,hL⟩:=ha k hlt;obtain⟨x,g,u,hx,hg,hxw,⟨c0,c1,c2,c3,c4,c5⟩,c6,hKx,hbr⟩:=hL.at hG hblt hb hlt;obtain⟨ax,cx,rfl,_,_⟩:=hKx.shape;have hxo:=hks x (mg8 hx);have hxt:=hkw x (mg8 hx);have hgb:=hO.lt gb rfl;have hml:k+1<=maxLen:=by unfold maxLen;omega
   have hby:(k+1)*8<=140737488355328:=by omega
   have HX:Hid (e.ks[k]?=some x):=hx;clear ha hL hx hks hkw;go_wp2_with fail;refine Z4 5 (fun w'=>w'.cell? ⟨w.heap.size+1+1,0,none⟩=some (.slice (some ⟨gb,0,none⟩) k cp)/\w'.cell? ⟨wr.heap.size,0,none⟩=some (.int .i64 x.k)/\w'.cell? ⟨wr.heap.size,1,none⟩=some (.int .i64 x.n)/\w'.cell? ⟨wr.heap.size,2,none⟩=some (.int .i64 x.v.k)/\w'.cell? ⟨wr.heap.size,3,none⟩=some (.int .i64 x.v.n)/\w'.cell? ⟨wr.heap.size,4,none⟩=some (.string x.v.s)/\w'.cell? ⟨wr.heap.size,5,none⟩=some (.string x.p)/\w'.cell? ⟨wr.heap.size,6,none⟩=some (.slice ax x.ks.length cx)) (by kernel_rfl) ?_ (fun hHeld=>?_)
   ·exact⟨(cb8 ba8).trans p0,by go_simp,by go_simp,by go_simp,by go_simp,by go_simp,by go_simp,by go_simp⟩
   refine tkE 0 15 rfl rfl ?_;refine tkE 1 16 rfl rfl ?_;refine onE 2 rfl fun K hK=>?_;go_simp;go_at_call 134;refine cM8 (hI x (.slice ax x.ks.length cx) g d _ hxw (hKx.below ?hbb) hxo hxt) ?_
   case hbb=>exact bex
   rintro y w2 ⟨⟨cl,rfl,hC⟩,hb2⟩;obtain⟨fn,cap0,rfl,hEnt,_⟩:=id hC;have Y9:=hb2.size;simp at Y9;have C0:Below wr.heap.size wr w2:=bex;have pf2:∀q,w2.frozen? ⟨w.heap.size+1+1,q,none⟩=false:=fun q=>((bc8 C0).2 _ q (by omega)).trans (pf q);have p02:=bt8 C0 p0;have hE2:=(C0.block w.heap.size (by omega)).trans hE;have hO2:=A25 hO C0;have q0:w2.cell? ⟨wr.heap.size,0,none⟩=some (.int .i64 x.k):=cl8 hb2;have q1:w2.cell? ⟨wr.heap.size,1,none⟩=some (.int .i64 x.n):=cl8 hb2;have q2:w2.cell? ⟨wr.heap.size,2,none⟩=some (.int .i64 x.v.k):=cl8 hb2;have q3:w2.cell? ⟨wr.heap.size,3,none⟩=some (.int .i64 x.v.n):=cl8 hb2;have q4:w2.cell? ⟨wr.heap.size,4,none⟩=some (.string x.v.s):=cl8 hb2;have q5:w2.cell? ⟨wr.heap.size,5,none⟩=some (.string x.p):=cl8 hb2;have q6:w2.cell? ⟨wr.heap.size,6,none⟩=some (.slice ax x.ks.length cx):=cl8 hb2;try go_wp2_with fail
   refine hK.out _ _ ?_ (fun A54=>?_)
   ·intro _;exact⟨p02,q0,q1,q2,q3,q4,q5,q6⟩
   clear hK;replace A54:=A54 (by decide);refine onE 3 rfl fun K hK=>?_;go_simp;refine hK.out _ _ ?_ (fun A0g=>?_)
   ·intro _;exact⟨(cb8 ba8).trans p02,(cb8 ba8).trans q0,(cb8 ba8).trans q1,(cb8 ba8).trans q2,(cb8 ba8).trans q3,(cb8 ba8).trans q4,(cb8 ba8).trans q5,(cb8 ba8).trans q6⟩
   clear hK;replace A0g:=A0g (by decide);refine onE 4 rfl fun K hK=>?_;refine step_append_lies _ (by rfl) _ _ _ (by rfl) (w.heap.size+1) 213 i0 _ 1 8 Tryz.underlying215 hi hz0 hz1 hz2 rfl (by omega) (.slice (some ⟨gb,0,none⟩) k cp) k fs (by rfl) (hO2.alloc _) ⟨w2.heap.size,0,none⟩ 1 1 [.func (.func fn) #[] cap0] (by rfl) (by rfl) (World.news_of_block (cs:=#[.func (.func fn) #[] cap0]) (t:=213) (fr:=(0,0)) (heap_alloc_new w2 _)) (by simp[Value.oneCell']) (by omega) hml hby (by simp;omega) (w2.heap.size+1) (by simp) ?_;intro gg cap w3 H5 hgrow hat j5;have hz3:=hgrow.size;simp at hz3;have i1:∀b,b<w2.heap.size->b≠gb->w3.heap[b]?=w2.heap[b]?:=fun b hb hne=>(hgrow.block b (by simp;omega) (by simp[Value.ownBlock];exact fun h=>hne h)).trans (bA8 _ _ _ hb);have pf3:∀q,w3.frozen? ⟨w.heap.size+1+1,q,none⟩=false:=fun q=>(fb8 (i1 _ (by omega) (Ne.symm hgK))).trans (pf2 q);have p03:=(cb8 (o:=0) (i1 (w.heap.size+1+1) (by omega) (Ne.symm hgK))).trans p02;have hE3:=(i1 w.heap.size (by omega) (by omega)).trans hE2;have A1L:∀q,w3.cell? ⟨wr.heap.size,q,none⟩=w2.cell? ⟨wr.heap.size,q,none⟩:=fun q=>cb8 (i1 wr.heap.size (by omega) (by omega));have D6:Below w.heap.size w w3:=Below.grown bex hgrow (by simp;omega) (fun b hb=>by simp[Value.ownBlock]at hb;omega);refine hK.out _ _ ?_ (fun L2=>?_)
   ·intro _;exact⟨p03,(A1L _).trans q0,(A1L _).trans q1,(A1L _).trans q2,(A1L _).trans q3,(A1L _).trans q4,(A1L _).trans q5,(A1L _).trans q6⟩
   clear hK;replace L2:=L2 (by decide);refine onE 5 rfl fun K hK=>?_;go_simp;refine hK.out _ _ ?_ (fun N2=>?_)
   ·exact fun h=>absurd rfl h
   clear hK N2;refine V6 (by kernel_rfl) ?_ _;have hgg:gg=gb\/gg=w2.heap.size+1:=by
    rcases hat with h|h
    ·exact .inl (by simpa [Value.ownBlock]using h.symm)
    ·exact .inr h
   have hfl:fs.length=k:=by have:=hO.1;omega
   generalize hcl:(Value.func (Fn.func fn) #[] cap0)=cl at*;have same:∀b,b≠w.heap.size+1+1->(w3.setCell ⟨w.heap.size+1+1,0,none⟩ (.slice (some ⟨gg,0,none⟩) (k+1) cap)).heap[b]?=w3.heap[b]?:=fun b hb=>bS8 _ _ _ _ (by simpa using hb);have E1:=(same w.heap.size (by omega)).trans hE3;have P1:(w3.setCell ⟨w.heap.size+1+1,0,none⟩ (.slice (some ⟨gg,0,none⟩) (k+1) cap)).cell? ⟨w.heap.size+1+1,0,none⟩=some (.slice (some ⟨gg,0,none⟩) (k+1) cap):=cS8 _ _ _ p03;have PF:∀q,(w3.setCell ⟨w.heap.size+1+1,0,none⟩ (.slice (some ⟨gg,0,none⟩) (k+1) cap)).frozen? ⟨w.heap.size+1+1,q,none⟩=false:=fun q=>by simpa using pf3 q
   have O1:=B9L H5 (same gg (by omega));have D1:∀b,(D b\/(wr.heap.size+1<=b/\b<w2.heap.size))->w.heap.size+1+1+1<=b/\b<(w3.setCell ⟨w.heap.size+1+1,0,none⟩ (.slice (some ⟨gg,0,none⟩) (k+1) cap)).heap.size/\b≠gg:=by
    intro b hb;rw[World.size_setCell];rcases hb with hb|hb
    ·have:=hD b hb;omega
    ·omega
   have R1:∀ (j:Nat) (x:E7) (y:Value),e.ks[j]?=some x->(fs++ [cl])[j]?=some y->Rk m (fun b=>D b\/(wr.heap.size+1<=b/\b<w2.heap.size)) (w3.setCell ⟨w.heap.size+1+1,0,none⟩ (.slice (some ⟨gg,0,none⟩) (k+1) cap)) y f x:=by
    intro j x' y hx' hy;rcases Nat.lt_or_ge j k with hj|hj
    ·rw[List.getElem?_append_left (by omega)]at hy;refine(hR j x' y hx' hy).keep (fun b hb=> .inl hb) fun b hb=>?_;have:=hD b hb;exact((same b (by omega)).trans (i1 b (by omega) (by omega))).trans (C0.block b (by omega))
    ·rw[List.getElem?_append_right (by omega)]at hy;have hjk:j=k:=by
      have:j -fs.length=0:=by
       rcases Nat.eq_zero_or_pos (j -fs.length)with h|h
       ·exact h
       ·rw[List.getElem?_eq_none (by simp;omega)]at hy;cases hy
      omega
     subst hjk;rw[hfl,Nat.sub_self]at hy;simp at hy;subst hy;obtain rfl:x=x':=Option.some.inj (HX.out.symm.trans hx');refine hC.keep (fun b hb=> .inr ?_) fun b hb=>?_
     ·simp at hb;omega
     ·simp at hb;exact(same b (by omega)).trans (i1 b (by omega) (by omega))
   have B1:Below w.heap.size w (w3.setCell ⟨w.heap.size+1+1,0,none⟩ (.slice (some ⟨gg,0,none⟩) (k+1) cap)):=D6.setCell (by simp;omega) _;have Z1:w.heap.size+1+1+1<=(w3.setCell ⟨w.heap.size+1+1,0,none⟩ (.slice (some ⟨gg,0,none⟩) (k+1) cap)).heap.size:=by rw[World.size_setCell];omega
   clear H5 hgrow hat A1L i1 hC hb2 hR hO hO2 p03 pf3 hHeld A54 A0g L2 q0 q1 q2 q3 q4 q5 q6 same hcl;go_wp2;exact⟨⟨k+1,gg,cap,_,_,hlt,by simp,E1,P1,PF,O1,by omega,D1,R1,B1,Z1⟩,by simp[intOf];omega⟩
  ·obtain rfl:k=e.ks.length:=by omega
   have e0:wr.cell? ⟨w.heap.size,0,none⟩=some (.int .i64 e.k):=by simp[World.cell?,hE]
   have hgl:=hO.lt gb rfl;have hfl:=hO.1;have hcp:cp<=maxLen:=by
    rcases hO.2 with⟨h,_⟩|⟨g,cap,cur,h,_,_,_,h4,_⟩
    ·cases h
    ·injection h with h1 h2 h3;omega
   have KR:A2r m (fun b=>w.heap.size<=b/\b<wr.heap.size) wr (w.heap.size+1+1) gb cp f e.ks fs:=⟨hcp,fun b hb=>hb.2,⟨by omega,by omega⟩,fun _=>⟨by omega,hgl.2⟩,p0,by omega,fun i x y hx hy=>⟨(hO.cellAt i (by have:=(gE1 hx).1;omega)).trans hy,(hR i x y hx hy).keep (fun b hb=>by have:=hD b hb;omega) (fun _ _=>rfl)⟩⟩;have hDE:w.heap.size<=w.heap.size/\w.heap.size<wr.heap.size:=by omega
   clear ha hks hkw hR hO hD hI;by_cases h0:e.k=0
   ·have RK:=B5p (m:=m) (D:=fun b=>w.heap.size<=b/\b<wr.heap.size) (w:=wr) (f:=f) hE hDE h0;rw[h0]at e0;clear KR hE hp h0;go_wp2;go_returns;exact⟨⟨_,rfl,RK.keep (fun b hb=>by simp;omega) (fun b hb=>bA8 _ _ _ hb.2)⟩,bex⟩
   by_cases h1:e.k=1
   ·have RK:=B22 (m:=m) (D:=fun b=>w.heap.size<=b/\b<wr.heap.size) (w:=wr) (f:=f) hE hDE h1;rw[h1]at e0;clear KR hE hp h0 h1;go_wp2;go_returns;exact⟨⟨_,rfl,RK.keep (fun b hb=>by simp;omega) (fun b hb=>bA8 _ _ _ hb.2)⟩,bex⟩
   by_cases h2:e.k=2
   ·have RK:=C0s (m:=m) (D:=fun b=>w.heap.size<=b/\b<wr.heap.size) (w:=wr) (f:=f) hE hDE KR h2;rw[h2]at e0;clear KR hE hp h0 h1 h2;go_wp2;go_returns;exact⟨⟨_,rfl,RK.keep (fun b hb=>by simp;omega) (fun b hb=>bA8 _ _ _ hb.2)⟩,bex⟩
   by_cases h3:e.k=3
   ·have RK:=C06 (m:=m) (D:=fun b=>w.heap.size<=b/\b<wr.heap.size) (w:=wr) (f:=f) KR h3;rw[h3]at e0;clear KR hE hp h0 h1 h2 h3;go_wp2;go_returns;exact⟨⟨_,rfl,RK.keep (fun b hb=>by simp;omega) (fun b hb=>bA8 _ _ _ hb.2)⟩,bex⟩
   by_cases h4:e.k=4
   ·have RK:=B8a (m:=m) (D:=fun b=>w.heap.size<=b/\b<wr.heap.size) (w:=wr) (f:=f) KR h4;rw[h4]at e0;clear KR hE hp h0 h1 h2 h3 h4;go_wp2;go_returns;exact⟨⟨_,rfl,RK.keep (fun b hb=>by simp;omega) (fun b hb=>bA8 _ _ _ hb.2)⟩,bex⟩
   rw[A5B h0 h1 h2 h3 h4]at hp;cases hp
theorem A3i (m:Int):∀f,RkS m f
 |0=>B9j m
 |f+1=>B9f (A3i m f)
end
section
open Go.RowKit Go.Deep Go.ChangeShapes Go.WideShapes
theorem B8o {m:Int}{V:E7->List V3->V3}(hV:VOk m V)(wh W Wk:Int)(au:Option Addr)(lu cu:Nat)(e:E7)(ue:Value)(Fe:List Nat)(D:Nat)(v:Value)(cs:List C2)(us:List Value)(G:List (List Nat))(N:Nat)(w:World)(hB:A2e w N v cs us G)(hN:N<=w.heap.size)(hn:cs.length<=1048576)(hm:w.cell? ⟨1,0,none⟩=some (.int .i64 m))(he:e.wf)(hok:okE 13 e=true)(hne:wtE e<=1048576)(hk0:C1 w D ue e.ks Fe)(J5:∀c∈cs,N8 c.r):Calls Tryz.prog 107 #[.agg #[.int .i64 wh,.int .i64 W,.slice au lu cu,.int .i64 e.k,.int .i64 e.n,.int .i64 e.v.k,.int .i64 e.v.n,.string e.v.s,.string e.p,ue],.agg #[.int .i64 Wk,v]] w fun q w'=>(∃u us' G',q=.returned (.agg #[.int .i64 W,u])/\C4 w' N u (M9 V e cs) us' G'/\(∀b,u.ownBlock=some b->w.heap.size<=b)/\∀b∈G'.flatten,b∈G.flatten)/\Below w.heap.size w w':=by
 obtain⟨ae,ce,rfl,_,_⟩:=hk0.shape;have hGE:o3 e:=⟨he,hok,hne,w,D,_,Fe,hk0⟩;obtain⟨i0,hi,hz0,hz1,hz2⟩:=info_parts Tryz.infoCnt;obtain⟨av,cv,rfl⟩:=hB.shape;have hnd:=hB.free.1;have hGl:=hB.lt;have h00:1<w.heap.size:=bl8 _ _ hm;have hO:∀X,Below w.heap.size w X->Calls Tryz.prog 134 #[(.agg #[.int .i64 e.k,.int .i64 e.n,.int .i64 e.v.k,.int .i64 e.v.n,.string e.v.s,.string e.p,(.slice ae e.ks.length ce)])] X fun x w'=>(∃fn cap,x=.returned (.func (.func fn) #[] cap)/\Ent fn/\∀ (Y:World) (v:Value) (vs:List V3),(∀b,X.heap.size<=b->b<w'.heap.size->Y.heap[b]?=w'.heap[b]?)->Y.cell? ⟨1,0,none⟩=some (.int .i64 m)->E3 Y v vs->N8 vs->Calls Tryz.prog fn (#[v]++cap) Y fun q w'=>q=.returned (.agg #[.int .i64 (V e vs).k,.int .i64 (V e vs).n,.string (V e vs).s])/\Below Y.heap.size Y w')/\Below X.heap.size X w':=fun X hX=>by
  refine cM8 (A3i m 13 e _ Fe D X he (hk0.below hX) hok hne) ?_;rintro x w' ⟨⟨cl,rfl,fn,cap,rfl,hE,hC⟩,hb⟩;exact⟨⟨fn,cap,rfl,hE,fun Y v vs hY h0 hv hvV=>hC Y v vs _ (fun b hb=>hY b hb.1 hb.2) h0 hv (hV.res e vs hGE hvV)⟩,hb⟩
 clear hk0 hne;go_enter Tryz.func107,Tryz.ntmps107;go_wp2_with fail;refine cM8 (hO _ ?hb) ?_
 case hb=>exact bex
 rintro q w2 ⟨⟨fn,cap,rfl,hEn,hC0⟩,hb2⟩;have M6:=hb2.size;simp at M6;have hC:∀ (Y:World) (v:Value) (vs:List V3),(∀b,w.heap.size+1+1+1+1<=b->b<w2.heap.size->Y.heap[b]?=w2.heap[b]?)->Y.cell? ⟨1,0,none⟩=some (.int .i64 m)->E3 Y v vs->N8 vs->Calls Tryz.prog fn (#[v]++cap) Y fun q w'=>q=.returned (.agg #[.int .i64 (V e vs).k,.int .i64 (V e vs).n,.string (V e vs).s])/\Below Y.heap.size Y w':=fun Y v vs hY=>hC0 Y v vs (fun b h1 h2=>hY b (by simpa using h1) h2);have C0:Below w.heap.size w w2:=bex;have hS2:ShW w N W [] (.slice none 0 0) [] [] w2:=⟨cl8 hb2,cl8 hb2,fun q=>((bc8 hb2).2 _ q (by simp;try omega)).trans (by go_simp),cl8 hb2,cl8 hb2,fun q=>((bc8 hb2).2 _ q (by simp;try omega)).trans (by go_simp),C4.nil _ _,fun b hb=>by simp[Value.ownBlock]at hb,fun b hb=>by simp at hb,C0,by omega⟩;have k1:w2.cell? ⟨w.heap.size+1,1,none⟩=some (.slice av cs.length cv):=cl8 hb2;clear hO hC0 hb2;unfold Ent at hEn;go_wp2_with fail;go_loopw [19] (fun i wr=> ∃ (k:Nat) (y:Value) (us2:List Value) (G2:List (List Nat)),k<=cs.length/\i=.int .i64 k/\ShW w N W (M9 V e (cs.take k)) y us2 G2 wr/\(∀b∈G2.flatten,b∈(G.take k).flatten)/\(∀b,y.ownBlock=some b->w2.heap.size<=b)/\(∀b,w.heap.size+1+1+1+1<=b->b<w2.heap.size->wr.heap[b]?=w2.heap[b]?)/\w2.heap.size<=wr.heap.size) (fun i _=>cs.length - (intOf i).toNat)
 case atStart=>exact⟨0,.slice none 0 0,[],[],Nat.zero_le _,rfl,hS2,fun b hb=>by simp at hb,fun b hb=>by simp[Value.ownBlock]at hb,fun _ _ _=>rfl,Nat.le_refl _⟩
 case round=>
  obtain⟨k,y,us2,G2,hk,rfl,hS,P4,hyb,hK,hzr⟩:=hrel;have hb:=hS.bel;have hzb:=hb.size;by_cases hlt:k<cs.length
  ·obtain⟨x,u,g,b,o,cap',hx,hu,hg,ev,hcl,hcm,hblt,c0,c1,hR,hO⟩:=hB.at' k hlt;injection ev with ev1 ev2 ev3;subst ev1 ev3;obtain⟨a0,n0,rfl⟩:=hR.shape;have hkI:(k:Int)<cs.length:=by omega
   have d0:=((bc8 hb).1 b (o+k*2) hblt).trans c0;have d1:=((bc8 hb).1 b (o+k*2+1) hblt).trans c1;have hRl:=hR.lt;have hRw:=hR.below hb;have hOw:D5 wr N g:=⟨hO.1,hO.2.1,fun t ht q=>((bc8 hb).2 t q (hRl t ht)).trans (hO.2.2 t ht q)⟩;have S3:∀b∈G2.flatten,b∉g:=fun b hb=>A8e hnd hg b (P4 b hb);have HT:Hid (cs.take (k+1)=cs.take k++ [x]):=V9 hx;have hG1:∀b∈(G.take k).flatten,b∈(G.take (k+1)).flatten:=fun b hb=>by
    obtain⟨hk',e⟩:=gE1 hg;rw[List.take_succ_eq_append_getElem hk',List.flatten_append];exact List.mem_append_left _ hb
   have hG2:∀b∈g,b∈(G.take (k+1)).flatten:=fun b hb=>by
    obtain⟨hk',e⟩:=gE1 hg;rw[List.take_succ_eq_append_getElem hk',List.flatten_append,e];exact List.mem_append_right _ (by simpa using hb)
   have hdl:(M9 V e (cs.take k)).length<=1048576:=Nat.le_trans (List.length_filter_le _ _) (by simp;omega);have hml:(M9 V e (cs.take k)).length+1<=1048577:=by omega
   obtain⟨ay,cy,rfl⟩:=hS.own.shape;have hbig:=hS.big;have hxV:N8 x.r:=J5 x (mg8 hx);have hE:∀Y,Below wr.heap.size wr Y->Calls Tryz.prog fn (#[.slice a0 x.r.length n0]++cap) Y fun q w'=>q=.returned (.agg #[.int .i64 (V e x.r).k,.int .i64 (V e x.r).n,.string (V e x.r).s])/\Below Y.heap.size Y w':=fun Y hY=>hC Y _ x.r (fun b h1 h2=>(hY.block b (by omega)).trans (hK b h1 h2)) (bt8 hY (bt8 hb hm)) (hRw.below hY).is hxV;obtain⟨vv,HVV⟩:∃q,Hid (V e x.r=q):=⟨_,rfl⟩;rw[HVV.out]at hE;clear hR hO hx hu hg c0 c1 hC;go_wp2_with fail;try rw[hEn,Oper.upon_enter]
   try rw[Oper.upon_enter]
   refine cM8 (hE _ bex) ?_;rintro z w4 ⟨rfl,hb4⟩;have hz4:=hb4.size;simp at hz4;have e04:w4.cell? ⟨wr.heap.size,0,none⟩=some (.slice a0 x.r.length n0):=cl8 hb4;have e14:w4.cell? ⟨wr.heap.size,1,none⟩=some (.int .i64 x.n):=cl8 hb4;go_wp2_with fail;refine cM8 (A8Z vv _) ?_;rintro z w5 ⟨rfl,hb5⟩;have hz5:=hb5.size;have e0:w5.cell? ⟨wr.heap.size,0,none⟩=some (.slice a0 x.r.length n0):=cL8 hb5 e04;have e1:w5.cell? ⟨wr.heap.size,1,none⟩=some (.int .i64 x.n):=cL8 hb5 e14;have D7:Below wr.heap.size wr w5:=bex;have A9d:=D7.size;have hS5:=hS.below D7;have hR5:=hRw.below D7;have hO5:D5 w5 N g:=⟨hOw.1,hOw.2.1,fun t ht q=>((bc8 D7).2 t q (hRw.lt t ht)).trans (hOw.2.2 t ht q)⟩;have hK5:∀b,w.heap.size+1+1+1+1<=b->b<w2.heap.size->w5.heap[b]?=w2.heap[b]?:=fun b h1 h2=>(D7.block b (by omega)).trans (hK b h1 h2);have C1l:=hS5.big;have A7B:=hS5.bel;have C4W:wr.heap.size+1<=w5.heap.size:=by have:=hb4.size;simp at this;omega
   clear e04 e14 hb4 hb5 hE d0 d1 hS hRw hOw hK hb hEn D7;cases hT:Y5 vv with
   |false=>
    have HT2:Hid (M9 V e (cs.take (k+1))=M9 V e (cs.take k)):=by
     show _=_;rw[HT.out];unfold M9;rw[List.filter_append];simp[HVV.out,hT]
    rw[<-HT2.out]at hS5 hyb;go_wp2_with fail;exact⟨⟨k+1,_,_,_,hlt,by simp,hS5,fun b hb=>hG1 b (P4 b hb),hyb,hK5,by omega⟩,by simp[intOf];omega⟩
   |true=>
    have HT2:Hid (M9 V e (cs.take (k+1))=M9 V e (cs.take k)++ [x]):=by
     show _=_;rw[HT.out];unfold M9;rw[List.filter_append];simp[HVV.out,hT]
    clear hT HT;generalize M9 V e (cs.take k)=ct at*;have p0:=hS5.p0;have p1:=hS5.p1;have pf:=hS5.pf;go_wp2_with(at_builtin;refine wpList_append_own_at _ rfl _ _ 33 rfl N 116 i0 _ 2 32 Tryz.underlying33 hi hz0 hz1 hz2 rfl (by decide) _ _ _ rfl (hS5.own.own.alloc _) ⟨w5.heap.size,0,none⟩ 1 1 [.slice a0 x.r.length n0,.int .i64 x.n] rfl rfl ?c2 (by simp[Value.oneCell']) ?c3 ?c4 ?c5 ?_)
    case c2=>exact World.news_of_block (cs:=#[.slice a0 x.r.length n0,.int .i64 x.n]) (t:=116) (fr:=(0,0)) (by have:=heap_alloc_new w5 (.cells #[.slice a0 x.r.length n0,.int .i64 x.n] 116);simpa using this)
    case c3=>unfold maxLen;omega
    case c4=>omega
    case c5=>first|omega|(simp;omega)
    intro v5 w6 D4 hgr5 _ hat5;have B1S:v5.ownBlock=(Value.slice ay ct.length cy).ownBlock\/v5.ownBlock=some (w5.heap.size+1):=by simpa using hat5
    have hz6:=hgr5.size;simp at hz6;have hK6:∀b,w.heap.size+1+1+1+1<=b->b<w2.heap.size->(w6.setCell ⟨w.heap.size+1+1+1,1,none⟩ v5).heap[b]?=w2.heap[b]?:=fun b h1 h2=>(bS8 _ _ _ _ (by simp;omega)).trans ((hgr5.block b (by simp;omega) (fun e=>by have:=hyb b e.symm;omega)).trans ((ba8).trans (hK5 b h1 h2)));have C36:∀b,v5.ownBlock=some b->w2.heap.size<=b:=fun b hb=>by
     rcases B1S with e|e
     ·exact hyb b (e.symm.trans hb)
     ·rw[e]at hb;cases hb;omega
    obtain⟨q1,hS6⟩:=hS5.push (x:=x) hN hR5 hO5 (fun t ht=>hRl t ht) S3 D4 hgr5 (by simpa using hat5);have pf6:∀q,w6.frozen? ⟨w.heap.size+1+1+1,q,none⟩=false:=fun q=>by have:=hS6.pf q;simpa using this
    have q0:=hS6.p0;rw[<-HT2.out]at hS6;obtain⟨a5,c5,rfl⟩:∃a5 c5,v5=.slice a5 (ct.length+1) c5:=by
     rcases D4.2 with⟨_,h0⟩|⟨g,cap,cur,hv,_⟩
     ·exact absurd h0 (by omega)
     ·exact⟨_,cap,hv⟩
    clear D4 hgr5 hat5 B1S hS5 hR5 hO5 S3 p0 p1 pf hK5;go_wp2_with fail;refine⟨⟨k+1,_,_,_,hlt,by simp,hS6,fun b hb=>?_,C36,hK6,by simp;omega⟩,by simp[intOf];omega⟩;have:b∈G2.flatten\/b∈g:=by simpa using hb
    rcases this with hb|hb
    ·exact hG1 b (P4 b hb)
    ·exact hG2 b hb
  ·obtain rfl:k=cs.length:=by omega
   rw[List.take_length]at hS;obtain⟨z0,z1,z2,z3,z4,z5,hBo,z6,z7,hb',A6b⟩:=hS;obtain⟨ay,cy,rfl⟩:=hBo.shape;go_wp2;refine bodyPost_ret (v:=.agg #[.int .i64 W,.slice ay (M9 V e cs).length cy]) (by simp[results,Tryz.results107,go_sem, *]) rfl ⟨⟨_,_,_,rfl,hBo.keepO (by simp) (fun t ht=>?_) (fun t ht=>?_),fun b hb=>by have:=z6 b hb;omega,fun b hb=>B1A _ _ b (P4 b hb)⟩,?_⟩
   ·have:=z6 t ht;repeat rw[bS8 _ _ _ _ (by simp;omega)]
   ·have:=z7 t ht;repeat rw[bS8 _ _ _ _ (by simp;omega)]
   ·repeat (first|(with_reducible exact hb')|(with_reducible refine Below.setCell ?_ ?hh _;case hh=>(simp;try omega)))
theorem A8Y (V:E7->List V3->V3)(e:E7)(a:List C2)(x:C2):N4 V e (a++ [x])=A0X V e (N4 V e a) x:=by unfold N4;rw[List.foldl_append];rfl
theorem C0X {V:E7->List V3->V3}{e:E7}{fn:Nat}{cap:Array Value}(rv:Value)(cs:List C2)(F:List Nat)(w:World)(hr:C6 w rv cs F)(hn:cs.length<=1048576)(hEn:Ent fn)(hCl:∀ (Y:World) (v:Value) (vs:List V3),Below w.heap.size w Y->E3 Y v vs->N8 vs->Calls Tryz.prog fn (#[v]++cap) Y fun q w'=>q=.returned (.agg #[.int .i64 (V e vs).k,.int .i64 (V e vs).n,.string (V e vs).s])/\Below Y.heap.size Y w')(J5:∀c∈cs,N8 c.r):Calls Tryz.prog 168 #[.func (.func fn) #[] cap,rv] w fun q w'=>q=.returned (.agg #[.int .i64 (i7 (N4 V e cs)).k,.int .i64 (i7 (N4 V e cs)).n,.string ⟨#[]⟩])/\Below w.heap.size w w':=by
 obtain⟨a,c,b,o,G0,rfl,hl,hc,_,hG0,_,hC,ha⟩:=hr.pick;unfold maxLen at hc;clear hr;unfold Ent at hEn;go_enter Tryz.func168,Tryz.ntmps168;go_wp2_with fail;go_loopw [12] (fun i wr=> ∃ (k:Nat),k<=cs.length/\i=.int .i64 k/\wr.cell? ⟨w.heap.size,0,none⟩=some (.int .i64 0)/\wr.cell? ⟨w.heap.size,1,none⟩=some (.int .i64 0)/\wr.cell? ⟨w.heap.size,2,none⟩=some (.string ⟨#[]⟩)/\(∀q,wr.frozen? ⟨w.heap.size,q,none⟩=false)/\wr.cell? ⟨w.heap.size+1,0,none⟩=some (.int .i64 (i7 (N4 V e (cs.take k))).k)/\wr.cell? ⟨w.heap.size+1,1,none⟩=some (.int .i64 (i7 (N4 V e (cs.take k))).n)/\wr.cell? ⟨w.heap.size+1,2,none⟩=some (.string ⟨#[]⟩)/\(∀q,wr.frozen? ⟨w.heap.size+1,q,none⟩=false)/\Below w.heap.size w wr/\w.heap.size+1+1<=wr.heap.size) (fun i _=>cs.length - (intOf i).toNat)
 case atStart=>exact⟨0,Nat.zero_le _,rfl,by go_simp,by go_simp,by go_simp,fun q=>by go_simp,by go_simp;rfl,by go_simp;rfl,by go_simp,fun q=>by go_simp,bex,by simp⟩
 case round=>
  obtain⟨k,hk,rfl,r0,r1,r2,rf,p0,p1,p2,pf,hb,hzb⟩:=hrel;by_cases hlt:k<cs.length
  ·obtain⟨rfl,hblt,_⟩:=ha k hlt;obtain⟨x,u0,g0,hx,_,c0,hR,c1,hbr⟩:=hC.at hG0 hblt hb hlt;obtain⟨a0,n0,rfl⟩:=hR.shape;have HT:Hid (cs.take (k+1)=cs.take k++ [x]):=V9 hx;have hkI:(k:Int)<cs.length:=by omega
   have hxV:N8 x.r:=J5 x (mg8 hx);have hE:∀Y,Below wr.heap.size wr Y->Calls Tryz.prog fn (#[.slice a0 x.r.length n0]++cap) Y fun q w'=>q=.returned (.agg #[.int .i64 (V e x.r).k,.int .i64 (V e x.r).n,.string (V e x.r).s])/\Below Y.heap.size Y w':=fun Y hY=>hCl Y _ x.r (hb.trans (hY.mono hb.size)) (hR.below hY).is hxV;obtain⟨vv,HVV⟩:∃q,Hid (V e x.r=q):=⟨_,rfl⟩;rw[HVV.out]at hE;obtain⟨s,HS⟩:∃q,Hid (N4 V e (cs.take k)=q):=⟨_,rfl⟩;rw[HS.out]at p0 p1;clear ha hC hx hCl;go_wp2_with fail;try rw[hEn,Oper.upon_enter]
   try rw[Oper.upon_enter]
   refine cM8 (hE _ bex) ?_;rintro z w4 ⟨rfl,hb4⟩;have hz4:=hb4.size;simp at hz4;have e14:w4.cell? ⟨wr.heap.size,1,none⟩=some (.int .i64 x.n):=cl8 hb4;have I3:Below wr.heap.size wr w4:=bex;have hb1:Below w.heap.size w w4:=hb.trans (I3.mono hb.size);have p04:=bt8 I3 p0;have p14:=bt8 I3 p1;have p24:=bt8 I3 p2;have pf4:∀q,w4.frozen? ⟨w.heap.size+1,q,none⟩=false:=fun q=>((bc8 I3).2 _ q (by omega)).trans (pf q);have r04:=bt8 I3 r0;have r14:=bt8 I3 r1;have r24:=bt8 I3 r2;have rf4:∀q,w4.frozen? ⟨w.heap.size,q,none⟩=false:=fun q=>((bc8 I3).2 _ q (by omega)).trans (rf q);have C4Q:w.heap.size+1+1<=w4.heap.size:=by omega
   have A2u:w.heap.size+1<w4.heap.size:=by omega
   have B0a:w.heap.size<w4.heap.size:=by omega
   have C4b:wr.heap.size<w4.heap.size:=by omega
   clear hb4 hE I3 hb hR c0 c1 p0 p1 p2 pf r0 r1 r2 rf hEn;by_cases h1:vv.k=1
   ·have HT2:Hid (N4 V e (cs.take (k+1))=some (wrap64 (s.getD 0+wrap64 (vv.n*x.n)))):=by
     show _=_;rw[HT.out,A8Y,HS.out];unfold A0X;rw[HVV.out,if_pos h1]
    have hsn:(i7 s).n=s.getD 0:=by cases s<;>rfl
    rw[hsn]at p14;go_wp2_with fail;exact⟨⟨k+1,hlt,by simp,by go_simp,by go_simp,by go_simp,fun q=>by go_simp,by rw[HT2.out];go_simp;rfl,by rw[HT2.out];go_simp;rfl,by go_simp,fun q=>by go_simp,bex,by simp;omega⟩,by simp[intOf];omega⟩
   ·have HT2:Hid (N4 V e (cs.take (k+1))=s):=by
     show _=_;rw[HT.out,A8Y,HS.out];unfold A0X;rw[HVV.out,if_neg h1]
    go_wp2_with fail;exact⟨⟨k+1,hlt,by simp,by go_simp,by go_simp,by go_simp,fun q=>by go_simp,by rw[HT2.out];go_simp,by rw[HT2.out];go_simp,by go_simp,fun q=>by go_simp,bex,by simp;omega⟩,by simp[intOf];omega⟩
  ·obtain rfl:k=cs.length:=by omega
   rw[List.take_length]at p0 p1;go_wp2;refine bodyPost_ret (v:=.agg #[.int .i64 (i7 (N4 V e cs)).k,.int .i64 (i7 (N4 V e cs)).n,.string ⟨#[]⟩]) (by simp[results,Tryz.results168,go_sem, *]) rfl ⟨rfl,?_⟩;exact bex
end
end Go.Proofs.YteekfcdllaceoaaGreatDoor
