/- Own texts, joined: contracts that the law's proof goes by. -/
import Derived.Test.YtjhhmnjpojnoiaaGreatDoorGLWithViews2
import Derived.Test.YtjhhmnjpojnoiaaGreatDoorGLWithViews1
import Derived.Handy
import Derived.Laws.AppendOwnNone
import Derived.Deep.AppendLies
import Derived.Deep.RegionHeld3
import Derived.Lib.SmallJoins
import Derived.Test.YtjhhmnjpojnoiaaGreatDoorGLWithViews3
import Derived.Laws.RangeAny
set_option maxHeartbeats 16000000
set_option maxRecDepth 100000
set_option linter.unusedVariables false
set_option linter.unusedSimpArgs false
namespace Go.Proofs.YtjhhmnjpojnoiaaGreatDoor
section
section
open Go.RowKit Go.Deep
theorem cb8 {w w':World}{b o:Nat}(h:w'.heap[b]?=w.heap[b]?):w'.cell? ⟨b,o,none⟩=w.cell? ⟨b,o,none⟩:=by
 simp only[World.cell?,h]
theorem fb8 {w w':World}{b o:Nat}(h:w'.heap[b]?=w.heap[b]?):w'.frozen? ⟨b,o,none⟩=w.frozen? ⟨b,o,none⟩:=by
 simp only[World.frozen?,h]
def OwnN (w:World)(N:Nat)(F:List Nat):Prop:=F.Nodup∧∀b∈F,N≤b∧∀o,w.frozen? ⟨b,o,none⟩=false
theorem OwnN.keep {w w':World}{N:Nat}{F:List Nat}(h:OwnN w N F)(hF:∀b∈F,w'.heap[b]?=w.heap[b]?):OwnN w' N F:=
 ⟨h.1,fun b hb=>⟨(h.2 b hb).1,fun o=>(fb8 (hF b hb)).trans ((h.2 b hb).2 o)⟩⟩
theorem OwnN.below {w w':World}{N:Nat}{F:List Nat}(h:OwnN w N F)(hl:∀b∈F,b<w.heap.size)(hb:Below w.heap.size w w'):OwnN w' N F:=h.keep fun b hF=>hb.block b (hl b hF)
theorem OwnN.app {w:World}{N M:Nat}{F G:List Nat}(h:OwnN w N F)(k:OwnN w M G)(hM:∀b∈F,b<M)(hNM:N≤M):OwnN w N (F++G):=by
 refine⟨List.nodup_append.2 ⟨h.1,k.1,fun a ha b hb=>?_⟩,fun b hb=>?_⟩
 ·rintro rfl;have:=hM a ha;have:=(k.2 a hb).1;omega
 ·rcases List.mem_append.1 hb with hb|hb
  ·exact h.2 b hb
  ·exact⟨Nat.le_trans hNM (k.2 b hb).1,(k.2 b hb).2⟩
theorem OwnN.weak {w:World}{N M:Nat}{F:List Nat}(h:OwnN w N F)(hM:M≤N):OwnN w M F:=⟨h.1,fun b hb=>⟨Nat.le_trans hM (h.2 b hb).1,(h.2 b hb).2⟩⟩
end
section
open Go.RowKit Go.Deep
def Free (w:World)(F:List Nat):Prop:=∀b∈F,∀o,w.frozen? ⟨b,o,none⟩=false
def OwnB (w:World)(N:Nat)(F:List Nat):Prop:=F.Nodup∧(∀b∈F,N≤b)∧Free w F
structure Chg (F:List Nat)(w w':World):Prop where
 os:w'.os=w.os
 tape:w'.tape=w.tape
 output:w'.output=w.output
 size:w.heap.size≤w'.heap.size
 block:∀k,k<w.heap.size→k∉F→w'.heap[k]?=w.heap[k]?
 free:Free w F→Free w' F
theorem Chg.of_below {w w':World}{F:List Nat}(h:Below w.heap.size w w')(hF:∀b∈F,b<w.heap.size):Chg F w w':=
 ⟨h.os,h.tape,h.output,h.size,fun k hk _=>h.block k hk,fun f b hb o=>(fb8 (h.block b (hF b hb))).trans (f b hb o)⟩
theorem Chg.refl (F:List Nat)(w:World):Chg F w w:=⟨rfl,rfl,rfl,Nat.le_refl _,fun _ _ _=>rfl,id⟩
theorem Chg.trans {a b c:World}{F:List Nat}(h:Chg F a b)(k:Chg F b c):Chg F a c:=
 ⟨k.os.trans h.os,k.tape.trans h.tape,k.output.trans h.output,Nat.le_trans h.size k.size,fun i hi hF=>(k.block i (Nat.lt_of_lt_of_le hi h.size) hF).trans (h.block i hi hF),fun f=>k.free (h.free f)⟩
theorem Chg.setCell {w w':World}{F:List Nat}(h:Chg F w w'){p:Addr}(hp:p.block∈F)(u:Value):Chg F w (w'.setCell p u):=
 ⟨h.os,h.tape,h.output,by simpa using h.size,fun k hk hF=>(bS8 _ _ _ _ (by rintro rfl;exact hF hp)).trans (h.block k hk hF),fun f b hb o=>by rw[World.frozen?_setCell];exact h.free f b hb o⟩
theorem Chg.wide {w w':World}{F G:List Nat}(h:Chg F w w')(hs:∀b∈F,b∈G)(hG:∀b∈G,b∉F→b<w.heap.size):Chg G w w':=
 ⟨h.os,h.tape,h.output,h.size,fun k hk hF=>h.block k hk fun hx=>hF (hs k hx),fun f b hb o=>by
  by_cases hx:b∈F
  ·exact h.free (fun c hc=>f c (hs c hc)) b hx o
  ·exact(fb8 (h.block b (hG b hb hx) hx)).trans (f b hb o)⟩
theorem Chg.below {w w':World}{F:List Nat}{N:Nat}(h:Chg F w w')(hF:∀b∈F,N≤b)(hN:N≤w.heap.size):Below N w w':=
 ⟨h.os,h.tape,h.output,h.size,fun k hk=>h.block k (by omega) fun hx=>by have:=hF k hx;omega⟩
theorem OwnB.keep {w w':World}{N:Nat}{F:List Nat}(h:OwnB w N F)(hF:∀b∈F,w'.heap[b]?=w.heap[b]?):OwnB w' N F:=
 ⟨h.1,h.2.1,fun b hb o=>(fb8 (hF b hb)).trans (h.2.2 b hb o)⟩
def CellsAre (w:World)(b o n:Nat)(f:Nat→Value):Prop:=∀j,j<n→w.cell? ⟨b,o+j,none⟩=some (f j)
theorem CellsAre.set {w:World}{b o n j0:Nat}{f:Nat→Value}(h:CellsAre w b o n f)(hj:j0<n)(u:Value):CellsAre (w.setCell ⟨b,o+j0,none⟩ u) b o n (fun j=>if j=j0 then u else f j):=by
 intro j hjn;show _=some (if j=j0 then u else f j);by_cases e:j=j0
 ·subst e;rw[if_pos rfl];exact cS8 _ _ _ (h j hjn)
 ·rw[if_neg e,cO8 _ _ _ _ (by intro x;have:=congrArg Addr.off x;simp at this;omega)];exact h j hjn
theorem CellsAre.put {w:World}{b o n j0 q:Nat}{f:Nat→Value}(h:CellsAre w b o n f)(hj:j0<n)(hq:q=o+j0)(u:Value):CellsAre (w.setCell ⟨b,q,none⟩ u) b o n (fun j=>if j=j0 then u else f j):=by subst hq;exact h.set hj u
theorem CellsAre.keep {w w':World}{b o n:Nat}{f:Nat→Value}(h:CellsAre w b o n f)(hb:w'.heap[b]?=w.heap[b]?):CellsAre w' b o n f:=fun j hj=>(cb8 hb).trans (h j hj)
theorem CellsAre.congr {w:World}{b o n:Nat}{f g:Nat→Value}(h:CellsAre w b o n f)(e:∀j,j<n→f j=g j):CellsAre w b o n g:=fun j hj=>(h j hj).trans (congrArg some (e j hj))
theorem lies_cells {w:World}{b o:Nat}{vs:List V3}:Lies w b o vs↔CellsAre w b o (vs.length*3) (cf vs):=by
 constructor
 ·intro h j hj;have hi:j/3<vs.length:=by omega
  obtain⟨h0,h1,h2⟩:=h (j/3) vs[j/3] (by simp);obtain⟨e0,e1,e2⟩:=cf_at (vs:=vs) (k:=j/3) (x:=vs[j/3]) (by simp);have hj3:j=j/3*3∨j=j/3*3+1∨j=j/3*3+2:=by omega
  rcases hj3 with e|e|e
  ·rw[e,e0];exact h0
  ·rw[e,e1,←Nat.add_assoc];exact h1
  ·rw[e,e2,←Nat.add_assoc];exact h2
 ·intro h i x hx;have hi:i<vs.length:=(gE1 hx).1;obtain⟨e0,e1,e2⟩:=cf_at hx;refine⟨?_,?_,?_⟩
  ·rw[h (i*3) (by omega),e0]
  ·rw[Nat.add_assoc,h (i*3+1) (by omega),e1]
  ·rw[Nat.add_assoc,h (i*3+2) (by omega),e2]
def RowF (w:World)(v:Value)(vs:List V3)(g:List Nat):Prop:=
 ∃ (a:Option Addr) (c:Nat),v=.slice a vs.length c∧vs.length≤c∧c≤maxLen∧(a=none→c=0)∧(vs=[]→g=[])∧(vs≠ []→∃b o,a=some ⟨b,o,none⟩∧b<w.heap.size∧g=[b]∧Lies w b o vs)
theorem RowF.is {w:World}{v:Value}{vs:List V3}{g:List Nat}(h:RowF w v vs g):RowIs w v vs:=by
 obtain⟨a,c,rfl,hl,hc,_,_,h⟩:=h;refine⟨a,c,rfl,hl,hc,fun hne=>?_⟩;obtain⟨b,o,rfl,hlt,_,hL⟩:=h hne;exact⟨b,o,rfl,hlt,hL⟩
theorem RowF.lt {w:World}{v:Value}{vs:List V3}{g:List Nat}(h:RowF w v vs g):∀b∈g,b<w.heap.size:=by
 obtain⟨a,c,rfl,hl,hc,_,h0,h⟩:=h;intro b hb;by_cases hne:vs=[]
 ·rw[h0 hne]at hb;cases hb
 ·obtain⟨b',o,rfl,hlt,rfl,hL⟩:=h hne;rcases List.mem_singleton.1 hb with rfl;exact hlt
theorem RowF.keep {w w':World}{v:Value}{vs:List V3}{g:List Nat}(h:RowF w v vs g)(hs:w.heap.size≤w'.heap.size)(hg:∀b∈g,w'.heap[b]?=w.heap[b]?):RowF w' v vs g:=by
 obtain⟨a,c,rfl,hl,hc,hz,h0,h⟩:=h;refine⟨a,c,rfl,hl,hc,hz,h0,fun hne=>?_⟩;obtain⟨b,o,rfl,hlt,rfl,hL⟩:=h hne;exact⟨b,o,rfl,Nat.lt_of_lt_of_le hlt hs,rfl,lies_cells.2 ((lies_cells.1 hL).keep (hg b (by simp)))⟩
def RowsF (w:World)(v:Value)(cs:List C2)(F:List Nat):Prop:=
 ∃ (a:Option Addr) (c:Nat) (G:List (List Nat)),v=.slice a cs.length c∧cs.length≤c∧c≤maxLen∧(a=none→c=0)∧G.length=cs.length∧(cs=[]→F=[])∧ (cs≠ []→∃b o,a=some ⟨b,o,none⟩∧b<w.heap.size∧F=b::G.flatten∧∀i x g,cs[i]?=some x→G[i]?=some g→∃u,w.cell? ⟨b,o+i*2,none⟩=some u∧RowF w u x.r g∧w.cell? ⟨b,o+i*2+1,none⟩=some (.int .i64 x.n))
theorem RowsF.is {w:World}{v:Value}{cs:List C2}{F:List Nat}(h:RowsF w v cs F):RowsIs w v cs:=by
 obtain⟨a,c,G,rfl,hl,hc,_,hG,_,h⟩:=h;refine⟨a,c,rfl,hl,hc,fun hne=>?_⟩;obtain⟨b,o,rfl,hlt,_,hL⟩:=h hne;refine⟨b,o,rfl,hlt,fun i x hx=>?_⟩;have hi:i<cs.length:=(gE1 hx).1;have hi':i<G.length:=by omega
 obtain⟨u,h0,h1,h2⟩:=hL i x G[i] hx (by simp);exact⟨u,h0,h1.is,h2⟩
theorem RowsF.lt {w:World}{v:Value}{cs:List C2}{F:List Nat}(h:RowsF w v cs F):∀b∈F,b<w.heap.size:=by
 obtain⟨a,c,G,rfl,hl,hc,_,hG,h0,h⟩:=h;intro x hx;by_cases hne:cs=[]
 ·rw[h0 hne]at hx;cases hx
 obtain⟨b,o,rfl,hlt,rfl,hL⟩:=h hne;rcases List.mem_cons.1 hx with rfl|hx
 ·exact hlt
 obtain⟨g,hg,hxg⟩:=List.mem_flatten.1 hx;obtain⟨i,hi,rfl⟩:=List.mem_iff_getElem.1 hg;have hi':i<cs.length:=by omega
 obtain⟨u,_,hk,_⟩:=hL i cs[i] G[i] (by simp) (by simp);exact hk.lt x hxg
theorem RowsF.keep {w w':World}{v:Value}{cs:List C2}{F:List Nat}(h:RowsF w v cs F)(hs:w.heap.size≤w'.heap.size)(hF:∀b∈F,w'.heap[b]?=w.heap[b]?):RowsF w' v cs F:=by
 obtain⟨a,c,G,rfl,hl,hc,hz,hG,h0,h⟩:=h;refine⟨a,c,G,rfl,hl,hc,hz,hG,h0,fun hne=>?_⟩;obtain⟨b,o,rfl,hlt,rfl,hL⟩:=h hne;refine⟨b,o,rfl,Nat.lt_of_lt_of_le hlt hs,rfl,fun i x g hx hg=>?_⟩;obtain⟨u,a0,a1,a2⟩:=hL i x g hx hg;have hb:=hF b List.mem_cons_self;exact⟨u,(cb8 hb).trans a0,a1.keep hs (fun y hy=>hF y (List.mem_cons_of_mem _ (List.mem_flatten.2 ⟨g,mg8 hg,hy⟩))),(cb8 hb).trans a2⟩
theorem RowsF.below {w w':World}{v:Value}{cs:List C2}{F:List Nat}(h:RowsF w v cs F)(hb:Below w.heap.size w w'):RowsF w' v cs F:=h.keep hb.size fun b hF=>hb.block b (h.lt b hF)
theorem RowsF.chg {w w':World}{v:Value}{cs:List C2}{F G:List Nat}(h:RowsF w v cs F)(hb:Chg G w w')(hd:∀b∈F,b∉G):RowsF w' v cs F:=h.keep hb.size fun b hF=>hb.block b (h.lt b hF) (hd b hF)
theorem OwnB.below {w w':World}{N:Nat}{F:List Nat}(h:OwnB w N F)(hl:∀b∈F,b<w.heap.size)(hb:Below w.heap.size w w'):OwnB w' N F:=h.keep fun b hF=>hb.block b (hl b hF)
end
section
open Go.RowKit Go.Deep Go.ChangeShapes Go.WideShapes
def rc (vs:List V3):List Value:=(List.range (vs.length*3)).map (cf vs)
theorem rc_len (vs:List V3):(rc vs).length=vs.length*3:=by simp[rc]
theorem rc_one (vs:List V3):∀u∈rc vs,u.oneCell'=true:=by
 intro u hu;obtain⟨j,_,rfl⟩:=List.mem_map.1 hu;unfold cf;split
 ·rfl
 ·split<;>rfl
theorem rc_cells {w:World}{b o:Nat}{vs:List V3}(h:Lies w b o vs):∀j u,(rc vs)[j]?=some u→w.cell? ((⟨b,o,none⟩:Addr).add j)=some u:=by
 intro j u hu;have hj:j<vs.length*3:=by have:=(gE1 hu).1;rwa [rc_len]at this
 have e:u=cf vs j:=by simp[rc,hj]at hu;exact hu.symm
 rw[add_plain,e];exact lies_cells.1 h j hj
theorem own_rowF {w:World}{N n:Nat}{v:Value}{vs:List V3}{t:TypeId}(h:w.ownsRow N t 3 v n (rc vs)):∃g,RowF w v vs g∧OwnB w N g:=by
 obtain⟨hl,h⟩:=h;rw[rc_len]at hl;obtain rfl:n=vs.length:=by omega
 by_cases hne:vs=[]
 ·refine⟨[],?_,by simp[OwnB,Free]⟩;subst hne;rcases h with⟨rfl,_⟩|⟨g,cap,cur,rfl,_,_,hn,hm,_⟩
  ·exact⟨none,0,rfl,Nat.le_refl _,by simp,fun _=>rfl,fun _=>rfl,fun x=>absurd rfl x⟩
  ·exact⟨_,cap,rfl,hn,hm,(fun x=>by cases x),fun _=>rfl,fun x=>absurd rfl x⟩
 have hp:0<vs.length:=List.length_pos_iff.2 hne;rcases h with⟨_,h0⟩|⟨g,cap,cur,rfl,hg,hc,hn,hm,hs,ht⟩
 ·omega
 have hlt:g<w.heap.size:=by
  rcases Nat.lt_or_ge g w.heap.size with h'|h'
  ·exact h'
  ·simp[Array.getElem?_eq_none h']at hc
 refine⟨[g],⟨_,cap,rfl,hn,hm,(fun x=>by cases x),fun x=>absurd x hne,fun _=>⟨g,0,rfl,hlt,rfl,lies_cells.2 fun j hj=>?_⟩⟩,by simp,by simpa using hg,fun b hb o=>?_⟩
 ·rw[Nat.zero_add];simp only[World.cell?,hc];have h1:(cur.toList.take (vs.length*3))[j]?=some (cf vs j):=by rw[ht];simp[rc,hj]
  rw[List.getElem?_take,if_pos hj,Array.getElem?_toList]at h1
  simpa using h1
 ·rcases List.mem_singleton.1 hb with rfl;simp[World.frozen?,hc]
theorem own_empty (w:World)(t:TypeId)(n:Nat):(w.alloc (.cells #[] t)).ownsRow w.heap.size t n (.slice (some ⟨w.heap.size,0,none⟩) 0 0) 0 []:=
 ⟨by simp,.inr ⟨w.heap.size,0,#[],rfl,Nat.le_refl _,heap_alloc_new w _,Nat.le_refl _,by simp,by simp,by simp⟩⟩
theorem own_none {w:World}{N H:Nat}(hH:w.heap.size=H)(hN:N≤H)(t:TypeId)(n:Nat):(w.alloc (.cells #[] t)).ownsRow N t n (.slice (some ⟨H,0,none⟩) 0 0) 0 []:=by
 subst hH;exact⟨by simp,.inr ⟨w.heap.size,0,#[],rfl,hN,heap_alloc_new w _,Nat.le_refl _,by simp,by simp,by simp⟩⟩
theorem l02CopyRow_any (v:Value)(vs:List V3)(g0:List Nat)(w:World)(hr:RowF w v vs g0)(hn:vs.length≤1048576):Calls Tryz.prog 41 #[v] w fun e w'=>(∃u g,e=.returned u∧RowF w' u vs g∧OwnB w' w.heap.size g)∧Below w.heap.size w w':=by
 obtain⟨i0,hi,hz0,hz1,hz2⟩:=info_parts Tryz.infoVal;obtain⟨a,c,rfl,hl,hc,hz,_,h⟩:=hr;have he:=own_empty w 60 3;have hb0:Below w.heap.size w (w.alloc (.cells #[] 60)):=(Below.refl _ _).alloc (Nat.le_refl _) _;cases a with
 |none=>
  obtain rfl:=hz rfl;obtain rfl:vs=[]:=List.length_eq_zero_iff.1 (by omega);go_enter Tryz.func41,Tryz.ntmps41;go_wp2;go_returns;obtain⟨g,hg⟩:=own_rowF (vs:=[]) he
  first|exact⟨⟨_,g,rfl,hg⟩,bex⟩|exact⟨⟨_,rfl,g,hg⟩,bex⟩
 |some ad=>
  have hcl:∀j u,(rc vs)[j]?=some u→(w.alloc (.cells #[] 60)).cell? (ad.add j)=some u:=by
   by_cases hne:vs=[]
   ·subst hne;intro j u hu;simp[rc]at hu
   ·obtain⟨b,o,hb,hlt,_,hL⟩:=h hne;cases hb;exact rc_cells (hL.below hb0 hlt)
  go_enter Tryz.func41,Tryz.ntmps41;go_wp2_with(at_builtin;refine wpList_append_own _ rfl _ _ 88 rfl w.heap.size 60 i0 _ 3 32 Tryz.underlying88 hi hz0 hz1 hz2 rfl (by decide) _ _ _ rfl he ad vs.length c (rc vs) rfl (rc_len vs) hcl (rc_one vs) ?c3 ?c4 ?c5 ?_)
  case c3=>unfold maxLen;omega
  case c4=>omega
  case c5=>simp
  intro v5 w5 hown5 hgr5 _;obtain⟨g,hg⟩:=own_rowF (vs:=vs) (by simpa using hown5);have bel:Below w.heap.size w w5:=hb0.grown hgr5 (by simp) (fun k hk=>by simp[Value.ownBlock]at hk;omega);clear hown5 hgr5 hcl he;go_wp2;go_returns;exact⟨⟨_,g,rfl,hg⟩,bel⟩
end
section
open Go.RowKit Go.Deep
abbrev Own (w:World) (N:Nat) (F:List Nat):Prop:=OwnN w N F
theorem Own.keep {w w':World}{N:Nat}{F:List Nat}(h:Own w N F)(hF:∀b∈F,w'.heap[b]?=w.heap[b]?):Own w' N F:=
 ⟨h.1,fun b hb=>⟨(h.2 b hb).1,fun o=>(fb8 (hF b hb)).trans ((h.2 b hb).2 o)⟩⟩
theorem Own.below {w w':World}{N:Nat}{F:List Nat}(h:Own w N F)(hl:∀b∈F,b<w.heap.size)(hb:Below w.heap.size w w'):Own w' N F:=h.keep fun b hF=>hb.block b (hl b hF)
theorem Own.app {w:World}{N M:Nat}{F G:List Nat}(h:Own w N F)(k:Own w M G)(hM:∀b∈F,b<M)(hNM:N≤M):Own w N (F++G):=by
 refine⟨List.nodup_append.2 ⟨h.1,k.1,fun a ha b hb=>?_⟩,fun b hb=>?_⟩
 ·rintro rfl;have:=hM a ha;have:=(k.2 a hb).1;omega
 ·rcases List.mem_append.1 hb with hb|hb
  ·exact h.2 b hb
  ·exact⟨Nat.le_trans hNM (k.2 b hb).1,(k.2 b hb).2⟩
theorem Own.weak {w:World}{N M:Nat}{F:List Nat}(h:Own w N F)(hM:M≤N):Own w M F:=⟨h.1,fun b hb=>⟨Nat.le_trans hM (h.2 b hb).1,(h.2 b hb).2⟩⟩
end
section
open Go.RowKit Go.Deep Go.ChangeShapes Go.WideShapes
abbrev E7:Type:=DataW (Int×Int×V3×ByteArray)
namespace E7
def mk (k n:Int)(v:V3)(p:ByteArray)(ks:List E7):E7:=.agg (.held (k,n,v,p)::ks)
def k (e:E7):Int:=match e with| .agg (.held q::_)=>q.1|_=>0
def n (e:E7):Int:=match e with| .agg (.held q::_)=>q.2.1|_=>0
def v (e:E7):V3:=match e with| .agg (.held q::_)=>q.2.2.1|_=>⟨0,0,⟨#[]⟩⟩
def p (e:E7):ByteArray:=match e with| .agg (.held q::_)=>q.2.2.2|_=>⟨#[]⟩
def ks (e:E7):List E7:=match e with| .agg (.held _::l)=>l|_=>[]
theorem mk_k (k n:Int)(v:V3)(p:ByteArray)(ks:List E7):(E7.mk k n v p ks).k=k:=rfl
theorem mk_n (k n:Int)(v:V3)(p:ByteArray)(ks:List E7):(E7.mk k n v p ks).n=n:=rfl
theorem mk_v (k n:Int)(v:V3)(p:ByteArray)(ks:List E7):(E7.mk k n v p ks).v=v:=rfl
theorem mk_p (k n:Int)(v:V3)(p:ByteArray)(ks:List E7):(E7.mk k n v p ks).p=p:=rfl
def wf (e:E7):Prop:=(Lit.int .i64 e.k).wf=true∧(Lit.int .i64 e.n).wf=true∧e.v.wf∧e.p.size≤maxLen
end E7
def wtE:DataW (Int×Int×V3×ByteArray)→Nat
 | .agg (.held q::l)=>q.2.2.1.s.size+q.2.2.2.size+(l.length+(l.attach.map fun x=>have:=List.sizeOf_lt_of_mem x.2;wtE x.1).sum)
 |_=>0
def wtEs:List E7→Nat
 | []=>0
 |e::es=>wtE e+wtEs es
theorem wtEs_sum (l:List E7):(l.map wtE).sum=wtEs l:=by
 induction l with
 |nil=>rfl
 |cons e es ih=>rw[List.map_cons,List.sum_cons,wtEs,ih]
theorem wtE_eq (e:E7):wtE e=e.v.s.size+e.p.size+(e.ks.length+wtEs e.ks):=by
 rw[wtE.eq_def];split
 ·rename_i q l
  have:(l.attach.map fun x=>wtE x.1)=l.map wtE:=by simp
  show q.2.2.1.s.size+q.2.2.2.size+(l.length+(l.attach.map fun x=>wtE x.1).sum)=q.2.2.1.s.size+q.2.2.2.size+(l.length+wtEs l);rw[this,wtEs_sum]
 ·rename_i h
  have hv:E7.v e=⟨0,0,⟨#[]⟩⟩:=by unfold E7.v;split;exact absurd rfl (h _ _);rfl
  have hp:E7.p e=⟨#[]⟩:=by unfold E7.p;split;exact absurd rfl (h _ _);rfl
  have hk:E7.ks e=[]:=by unfold E7.ks;split;exact absurd rfl (h _ _);rfl
  rw[hv,hp,hk];rfl
theorem wtEs_app (a b:List E7):wtEs (a++b)=wtEs a+wtEs b:=by
 induction a with
 |nil=>simp[wtEs]
 |cons x xs ih=>rw[List.cons_append,wtEs,wtEs,ih];omega
theorem wtEs_take {es:List E7}{k:Nat}{e:E7}(h:es[k]?=some e):wtEs (es.take (k+1))=wtEs (es.take k)+wtE e:=by
 obtain⟨hk,rfl⟩:=gE1 h;rw[List.take_succ_eq_append_getElem hk,wtEs_app];simp[wtEs]
theorem wtE_mem {es:List E7}{e:E7}(h:e∈es):wtE e≤wtEs es:=by
 induction es with
 |nil=>cases h
 |cons y ys ih=>
  rw[wtEs];rcases List.mem_cons.1 h with rfl|h
  ·omega
  ·have:=ih h;omega
def cellsE (w:World)(b q:Nat)(e:E7):Prop:=
 w.cell? ⟨b,q,none⟩=some (.int .i64 e.k)∧w.cell? ⟨b,q+1,none⟩=some (.int .i64 e.n)∧w.cell? ⟨b,q+2,none⟩=some (.int .i64 e.v.k)∧w.cell? ⟨b,q+3,none⟩=some (.int .i64 e.v.n)∧w.cell? ⟨b,q+4,none⟩=some (.string e.v.s)∧w.cell? ⟨b,q+5,none⟩=some (.string e.p)
def KidsIs (w:World):Nat→Value→List E7→List Nat→Prop
 |0,_,_,_=>False
 |d+1,v,es,F=> ∃ (a:Option Addr) (c:Nat) (G:List (List Nat)),v=.slice a es.length c∧es.length≤c∧c≤maxLen∧G.length=es.length∧(es=[]→F=[])∧
   (es≠ []→∃b o,a=some ⟨b,o,none⟩∧b<w.heap.size∧F=b::G.flatten∧ ∀i e g,es[i]?=some e→G[i]?=some g→e.wf∧cellsE w b (o+i*7) e∧∃u,w.cell? ⟨b,o+i*7+6,none⟩=some u∧KidsIs w d u e.ks g)
def ELies (w:World)(d b o:Nat)(es:List E7)(G:List (List Nat)):Prop:=
 ∀i e g,es[i]?=some e→G[i]?=some g→e.wf∧cellsE w b (o+i*7) e∧∃u,w.cell? ⟨b,o+i*7+6,none⟩=some u∧KidsIs w d u e.ks g
theorem cellsE.keep {w w':World}{b q:Nat}{e:E7}(h:cellsE w b q e)(hb:w'.heap[b]?=w.heap[b]?):cellsE w' b q e:=by
 obtain⟨h0,h1,h2,h3,h4,h5⟩:=h;exact⟨(cb8 hb).trans h0,(cb8 hb).trans h1,(cb8 hb).trans h2,(cb8 hb).trans h3,(cb8 hb).trans h4,(cb8 hb).trans h5⟩
theorem KidsIs.lt {w:World}:∀ {d:Nat} {v:Value} {es:List E7} {F:List Nat},KidsIs w d v es F→∀b∈F,b<w.heap.size
 |0,_,_,_,h=>h.elim
 |d+1,v,es,F,h=>by
  obtain⟨a,c,G,rfl,_,_,hG,h0,h⟩:=h;by_cases hne:es=[]
  ·rw[h0 hne];intro b hb;cases hb
  obtain⟨b,o,rfl,hlt,rfl,hL⟩:=h hne;intro x hx;rcases List.mem_cons.1 hx with rfl|hx
  ·exact hlt
  obtain⟨g,hg,hxg⟩:=List.mem_flatten.1 hx;obtain⟨i,hi,rfl⟩:=List.mem_iff_getElem.1 hg;have hi':i<es.length:=by omega
  obtain⟨_,_,u,_,hk⟩:=hL i es[i] G[i] (by simp) (by simp);exact hk.lt x hxg
theorem KidsIs.keep {w w':World}(hs:w.heap.size≤w'.heap.size):∀ {d:Nat} {v:Value} {es:List E7} {F:List Nat},KidsIs w d v es F→(∀b∈F,w'.heap[b]?=w.heap[b]?)→KidsIs w' d v es F
 |0,_,_,_,h,_=>h.elim
 |d+1,v,es,F,h,hF=>by
  obtain⟨a,c,G,rfl,hl,hc,hG,h0,h⟩:=h;refine⟨a,c,G,rfl,hl,hc,hG,h0,fun hne=>?_⟩;obtain⟨b,o,rfl,hlt,rfl,hL⟩:=h hne;refine⟨b,o,rfl,Nat.lt_of_lt_of_le hlt hs,rfl,fun i e g he hg=>?_⟩;obtain⟨hw,hc,u,hu,hk⟩:=hL i e g he hg;have hb:=hF b List.mem_cons_self;exact⟨hw,hc.keep hb,u,(cb8 hb).trans hu,hk.keep hs fun x hx=>hF x (List.mem_cons_of_mem _ (List.mem_flatten.2 ⟨g,mg8 hg,hx⟩))⟩
theorem KidsIs.below {w w':World}{d:Nat}{v:Value}{es:List E7}{F:List Nat}(h:KidsIs w d v es F)(hb:Below w.heap.size w w'):KidsIs w' d v es F:=
 h.keep hb.size fun b hF=>hb.block b (h.lt b hF)
theorem KidsIs.up {w:World}:∀ {d d':Nat} {v:Value} {es:List E7} {F:List Nat},KidsIs w d v es F→d≤d'→KidsIs w d' v es F
 |0,_,_,_,_,h,_=>h.elim
 |d+1,0,_,_,_,_,hd=>absurd hd (by omega)
 |d+1,d'+1,v,es,F,h,hd=>by
  obtain⟨a,c,G,rfl,hl,hc,hG,h0,h⟩:=h;refine⟨a,c,G,rfl,hl,hc,hG,h0,fun hne=>?_⟩;obtain⟨b,o,rfl,hlt,rfl,hL⟩:=h hne;refine⟨b,o,rfl,hlt,rfl,fun i e g he hg=>?_⟩;obtain⟨hw,hc,u,hu,hk⟩:=hL i e g he hg;exact⟨hw,hc,u,hu,hk.up (by omega)⟩
theorem KidsIs.pick {w:World}{d:Nat}{v:Value}{es:List E7}{F:List Nat}(h:KidsIs w (d+1) v es F):∃a c b o G,v=.slice a es.length c∧es.length≤c∧c≤maxLen∧G.length=es.length∧(es=[]→F=[])∧∀k,k<es.length→a=some ⟨b,o,none⟩∧b<w.heap.size∧F=b::G.flatten∧ELies w d b o es G:=by
 obtain⟨a,c,G,rfl,hl,hc,hG,h0,h⟩:=h;by_cases hne:es=[]
 ·exact⟨a,c,0,0,G,rfl,hl,hc,hG,h0,fun k hk=>by rw[hne]at hk;simp at hk⟩
 ·obtain⟨b,o,h⟩:=h hne;exact⟨a,c,b,o,G,rfl,hl,hc,hG,h0,fun _ _=>h⟩
theorem KidsIs.shape {w:World}{d:Nat}{v:Value}{es:List E7}{F:List Nat}(h:KidsIs w d v es F):∃a c,v=.slice a es.length c∧es.length≤c∧c≤maxLen:=by
 cases d with
 |zero=>exact h.elim
 |succ d=>
  obtain⟨a,c,G,rfl,hl,hc,_⟩:=h;exact⟨a,c,rfl,hl,hc⟩
theorem ELies.at {w w':World}{d b o:Nat}{es:List E7}{G:List (List Nat)}(h:ELies w d b o es G)(hG:G.length=es.length)(hlt:b<w.heap.size)(hb:Below w.heap.size w w'){k:Nat}(hk:k<es.length):∃e g u,es[k]?=some e∧G[k]?=some g∧e.wf∧cellsE w' b (o+k*7) e∧w'.cell? ⟨b,o+k*7+6,none⟩=some u∧KidsIs w' d u e.ks g∧b<w'.heap.size:=by
 have hk':k<G.length:=by omega
 obtain⟨hw,hc,u,hu,hK⟩:=h k es[k] G[k] (by simp) (by simp);exact⟨es[k],G[k],u,by simp,by simp,hw,hc.keep (hb.block b hlt),(hb.cell (p:=⟨b,_,none⟩) hlt).trans hu,hK.below hb,Nat.lt_of_lt_of_le hlt hb.size⟩
section
variable {H:Type} {enc:TypeId×Value→H} {P:Program} {w:World} {spare:Nat→Bool} {held:Bool}
theorem open_kids {t e:TypeId}{G0 G1 G2 G3 G4 F0 F1 F2:Field}(ht:P.underlying t=some (.slice e))(he:P.underlying e=some (.struct #[G0,G1,G2,G3,G4]))(cg:P.cellsOf e=7) (p0:G0.offset=0) (p1:G1.offset=1) (p2:G2.offset=2) (p3:G3.offset=5) (p4:G4.offset=6) (g0:P.cellsOf G0.type=1) (g1:P.cellsOf G1.type=1) (g2:P.cellsOf G2.type=3) (g3:P.cellsOf G3.type=1) (g4:P.cellsOf G4.type=1)(v0:P.underlying G0.type=some (.int .i64)) (v1:P.underlying G1.type=some (.int .i64)) (v2:P.underlying G2.type=some (.struct #[F0,F1,F2])) (v3:P.underlying G3.type=some .string) (v4:G4.type=t)(o0:F0.offset=0) (o1:F1.offset=1) (o2:F2.offset=2) (c0:P.cellsOf F0.type=1) (c1:P.cellsOf F1.type=1) (c2:P.cellsOf F2.type=1)(u0:P.underlying F0.type=some (.int .i64)) (u1:P.underlying F1.type=some (.int .i64)) (u2:P.underlying F2.type=some .string):∀ (N fuel:Nat),fuel≤N→∀ {v:Value} {x:DataW H×List MemPlace},DataW.trod enc P w 0 spare held fuel t [v]=some x→∃es F,KidsIs w (N+1) v es F:=by
 intro N;induction N with
 |zero=>
  intro fuel hf v x h;obtain rfl:fuel=0:=by omega
  simp[DataW.trod]at h
 |succ N ih=>
  intro fuel hf v x h;rcases DataW.trod_slice ht h with⟨h0,_⟩|⟨a,len,cap,elems,rest,n,hfn,hcs,rfl,hb,hl,hm,hlen,hel,hsp,hns⟩
  ·simp at h0;subst h0;exact⟨[],[],none,0,[],rfl,by simp,by simp,rfl,fun _=>rfl,fun h=>absurd rfl h⟩
  simp at hcs;subst hcs;have each:∀i,i<len→∃q:E7×List Nat,q.1.wf∧(w.cell? (a.add (i*7))=some (.int .i64 q.1.k)∧w.cell? (a.add (i*7+1))=some (.int .i64 q.1.n)∧w.cell? (a.add (i*7+2))=some (.int .i64 q.1.v.k)∧w.cell? (a.add (i*7+3))=some (.int .i64 q.1.v.n)∧w.cell? (a.add (i*7+4))=some (.string q.1.v.s)∧w.cell? (a.add (i*7+5))=some (.string q.1.p))∧∃u,w.cell? (a.add (i*7+6))=some u∧KidsIs w (N+1) u q.1.ks q.2:=by
   intro i hi;have hi1:=hel i hi;have hie:elems[i]?=some elems[i]:=by simp[hlen,hi]
   rw[hie,Option.bind_eq_some_iff]at hi1;obtain⟨cs',h1,h2⟩:=hi1;rw[cg]at h1;obtain⟨_,hlen7,hcell⟩:=World.cells?_some h1;obtain⟨xs,k,hk,hxy,_,hxl,hfld⟩:=DataW.trod_struct he h2
   match xs,hxl,cs',hlen7 with
   | [y0,y1,y2,y3,y4],_,[z0,z1,z2,z3,z4,z5,z6],_=>
    have a0:=hfld 0 G0 rfl;have a1:=hfld 1 G1 rfl;have a2:=hfld 2 G2 rfl;have a3:=hfld 3 G3 rfl;have a4:=hfld 4 G4 rfl;simp[p0,p1,p2,p3,p4,g0,g1,g2,g3,g4]at a0 a1 a2 a3 a4;have e0:=hcell 0 (by omega);have e1:=hcell 1 (by omega);have e2:=hcell 2 (by omega);have e3:=hcell 3 (by omega);have e4:=hcell 4 (by omega);have e5:=hcell 5 (by omega);have e6:=hcell 6 (by omega);rw[add_add]at e0 e1 e2 e3 e4 e5 e6;obtain⟨n0,q0,_,w0⟩:=DataW.trod_int v0 a0;obtain⟨n1,q1,_,w1⟩:=DataW.trod_int v1 a1;obtain⟨n3,q3,_,w3⟩:=DataW.trod_string v3 a3;obtain⟨ys,k2,hk2,_,_,hyl,hfl2⟩:=DataW.trod_struct v2 a2
    match ys,hyl with
    | [b0,b1,b2],_=>
     have r0:=hfl2 0 F0 rfl;have r1:=hfl2 1 F1 rfl;have r2:=hfl2 2 F2 rfl;simp[o0,o1,o2,c0,c1,c2]at r0 r1 r2;obtain⟨m0,s0,_,x0⟩:=DataW.trod_int u0 r0;obtain⟨m1,s1,_,x1⟩:=DataW.trod_int u1 r1;obtain⟨m2,s2,_,x2⟩:=DataW.trod_string u2 r2;simp at q0 q1 q3 s0 s1 s2;subst q0 q1 q3 s0 s1 s2;rw[v4]at a4;obtain⟨ks,F,hK⟩:=ih k (by omega) a4;exact⟨⟨.mk n0 n1 ⟨m0,m1,m2⟩ n3 ks,F⟩,⟨w0,w1,⟨x0,x1,x2⟩,w3⟩,⟨by simpa [E7.mk_k,E7.mk_n,E7.mk_v,E7.mk_p]using e0,by simpa [E7.mk_k,E7.mk_n,E7.mk_v,E7.mk_p]using e1,by simpa [E7.mk_k,E7.mk_n,E7.mk_v,E7.mk_p]using e2,by simpa [E7.mk_k,E7.mk_n,E7.mk_v,E7.mk_p]using e3,by simpa [E7.mk_k,E7.mk_n,E7.mk_v,E7.mk_p]using e4,by simpa [E7.mk_k,E7.mk_n,E7.mk_v,E7.mk_p]using e5⟩,z6,by simpa using e6,hK⟩
  have:Inhabited (E7×List Nat):=⟨⟨E7.mk 0 0 ⟨0,0,⟨#[]⟩⟩ ⟨#[]⟩ [],[]⟩⟩;obtain⟨q,hq⟩:=choose_lt each;refine⟨(List.range len).map fun i=>(q i).1,if len=0 then[]else a.block::((List.range len).map fun i=>(q i).2).flatten,some a,cap,(List.range len).map fun i=>(q i).2,by simp,by simpa using hl,hm,by simp,fun hne=>?_,fun hne=>?_⟩
  ·have:len=0:=by simpa using congrArg List.length hne
   simp[this]
  ·have hpos:0<len:=by
    rcases Nat.eq_zero_or_pos len with h0|h0
    ·subst h0;simp at hne
    ·exact h0
   have hs:a.spot=none:=by have:=World.cell?_spot (hq 0 hpos).2.1.1;simpa [Addr.add]using this
   obtain⟨b,o,sp⟩:=a;simp at hs;subst hs;refine⟨b,o,rfl,?_,by simp;omega,fun i x g hx hg=>?_⟩
   ·have:=bl8 _ _ (hq 0 hpos).2.1.1
    simpa [Addr.add]using this
   ·have hi:i<len:=by
     obtain⟨h1,_⟩:=gE1 hx
     simpa using h1
    have ex:x=(q i).1:=by simp[hi]at hx;exact hx.symm
    have eg:g=(q i).2:=by simp[hi]at hg;exact hg.symm
    subst ex eg;obtain⟨hw,⟨h0,h1,h2,h3,h4,h5⟩,u,h6,hK⟩:=hq i hi;rw[add_plain]at h0 h1 h2 h3 h4 h5 h6;exact⟨hw,⟨h0,by simpa [Nat.add_assoc]using h1,by simpa [Nat.add_assoc]using h2,by simpa [Nat.add_assoc]using h3,by simpa [Nat.add_assoc]using h4,by simpa [Nat.add_assoc]using h5⟩,u,by simpa [Nat.add_assoc]using h6,hK⟩
end
end
section
open Go.RowKit Go.Deep Go.ChangeShapes Go.WideShapes
abbrev P12:Type:=DataW (Int×ByteArray×E7×List E7×Int)
namespace P12
def mk (k:Int)(s:ByteArray)(e:E7)(es:List E7)(n:Int)(ks:List P12):P12:=.agg (.held (k,s,e,es,n)::ks)
def k (p:P12):Int:=match p with| .agg (.held q::_)=>q.1|_=>0
def s (p:P12):ByteArray:=match p with| .agg (.held q::_)=>q.2.1|_=>⟨#[]⟩
def e (p:P12):E7:=match p with| .agg (.held q::_)=>q.2.2.1|_=> .nil
def es (p:P12):List E7:=match p with| .agg (.held q::_)=>q.2.2.2.1|_=>[]
def n (p:P12):Int:=match p with| .agg (.held q::_)=>q.2.2.2.2|_=>0
def ks (p:P12):List P12:=match p with| .agg (.held _::l)=>l|_=>[]
def wf (p:P12):Prop:=(Lit.int .i64 p.k).wf=true∧p.s.size≤maxLen∧p.e.wf∧(Lit.int .i64 p.n).wf=true
end P12
def wtP:DataW (Int×ByteArray×E7×List E7×Int)→Nat
 | .agg (.held q::l)=>q.2.1.size+wtE q.2.2.1+(q.2.2.2.1.length+wtEs q.2.2.2.1)+(l.length+(l.attach.map fun x=>have:=List.sizeOf_lt_of_mem x.2;wtP x.1).sum)
 |_=>0
def wtPs:List P12→Nat
 | []=>0
 |p::ps=>wtP p+wtPs ps
theorem wtPs_sum (l:List P12):(l.map wtP).sum=wtPs l:=by
 induction l with
 |nil=>rfl
 |cons e es ih=>rw[List.map_cons,List.sum_cons,wtPs,ih]
theorem wtE_nil:wtE (DataW.nil:E7)=0:=by rw[wtE.eq_def]
theorem wtP_eq (p:P12):wtP p=p.s.size+wtE p.e+(p.es.length+wtEs p.es)+(p.ks.length+wtPs p.ks):=by
 rw[wtP.eq_def];split
 ·rename_i q l
  have:(l.attach.map fun x=>wtP x.1)=l.map wtP:=by simp
  show q.2.1.size+wtE q.2.2.1+(q.2.2.2.1.length+wtEs q.2.2.2.1)+(l.length+(l.attach.map fun x=>wtP x.1).sum)=q.2.1.size+wtE q.2.2.1+(q.2.2.2.1.length+wtEs q.2.2.2.1)+(l.length+wtPs l);rw[this,wtPs_sum]
 ·rename_i h
  have hs:P12.s p=⟨#[]⟩:=by unfold P12.s;split;exact absurd rfl (h _ _);rfl
  have he:P12.e p=.nil:=by unfold P12.e;split;exact absurd rfl (h _ _);rfl
  have hes:P12.es p=[]:=by unfold P12.es;split;exact absurd rfl (h _ _);rfl
  have hk:P12.ks p=[]:=by unfold P12.ks;split;exact absurd rfl (h _ _);rfl
  rw[hs,he,hes,hk,wtE_nil];rfl
theorem wtPs_app (a b:List P12):wtPs (a++b)=wtPs a+wtPs b:=by
 induction a with
 |nil=>simp[wtPs]
 |cons x xs ih=>rw[List.cons_append,wtPs,wtPs,ih];omega
theorem wtPs_take {ps:List P12}{k:Nat}{p:P12}(h:ps[k]?=some p):wtPs (ps.take (k+1))=wtPs (ps.take k)+wtP p:=by
 obtain⟨hk,rfl⟩:=gE1 h;rw[List.take_succ_eq_append_getElem hk,wtPs_app];simp[wtPs]
theorem wtP_mem {ps:List P12}{p:P12}(h:p∈ps):wtP p≤wtPs ps:=by
 induction ps with
 |nil=>cases h
 |cons y ys ih=>
  rw[wtPs];rcases List.mem_cons.1 h with rfl|h
  ·omega
  ·have:=ih h;omega
def cellsP (w:World)(b q:Nat)(p:P12)(ue us u:Value):Prop:=
 w.cell? ⟨b,q,none⟩=some (.int .i64 p.k)∧w.cell? ⟨b,q+1,none⟩=some (.string p.s)∧w.cell? ⟨b,q+2,none⟩=some (.int .i64 p.e.k)∧w.cell? ⟨b,q+3,none⟩=some (.int .i64 p.e.n)∧w.cell? ⟨b,q+4,none⟩=some (.int .i64 p.e.v.k)∧w.cell? ⟨b,q+5,none⟩=some (.int .i64 p.e.v.n)∧w.cell? ⟨b,q+6,none⟩=some (.string p.e.v.s)∧w.cell? ⟨b,q+7,none⟩=some (.string p.e.p)∧w.cell? ⟨b,q+8,none⟩=some ue∧w.cell? ⟨b,q+9,none⟩=some us∧w.cell? ⟨b,q+10,none⟩=some (.int .i64 p.n)∧w.cell? ⟨b,q+11,none⟩=some u
theorem cellsP.keep {w w':World}{b q:Nat}{p:P12}{ue us u:Value}(h:cellsP w b q p ue us u)(hb:w'.heap[b]?=w.heap[b]?):cellsP w' b q p ue us u:=by
 obtain⟨h0,h1,h2,h3,h4,h5,h6,h7,h8,h9,h10,h11⟩:=h;exact⟨(cb8 hb).trans h0,(cb8 hb).trans h1,(cb8 hb).trans h2,(cb8 hb).trans h3,(cb8 hb).trans h4,(cb8 hb).trans h5,(cb8 hb).trans h6,(cb8 hb).trans h7,(cb8 hb).trans h8,(cb8 hb).trans h9,(cb8 hb).trans h10,(cb8 hb).trans h11⟩
def ListsP (w:World)(D:Nat)(R:Value→List P12→List Nat→Prop)(p:P12)(ue us u:Value)(g:List Nat):Prop:=
 ∃Fe Fs h,g=Fe++(Fs++h)∧KidsIs w D ue p.e.ks Fe∧KidsIs w D us p.es Fs∧R u p.ks h
def PlansIs (w:World)(D:Nat):Nat→Value→List P12→List Nat→Prop
 |0,_,_,_=>False
 |d+1,v,ps,F=> ∃ (a:Option Addr) (c:Nat) (G:List (List Nat)),v=.slice a ps.length c∧ps.length≤c∧c≤maxLen∧G.length=ps.length∧(ps=[]→F=[])∧
   (ps≠ []→∃b o,a=some ⟨b,o,none⟩∧b<w.heap.size∧F=b::G.flatten∧ ∀i p g,ps[i]?=some p→G[i]?=some g→p.wf∧∃ue us u,cellsP w b (o+i*12) p ue us u∧ListsP w D (PlansIs w D d) p ue us u g)
def PLies (w:World)(D d b o:Nat)(ps:List P12)(G:List (List Nat)):Prop:=
 ∀i p g,ps[i]?=some p→G[i]?=some g→p.wf∧∃ue us u,cellsP w b (o+i*12) p ue us u∧ListsP w D (PlansIs w D d) p ue us u g
theorem PlansIs.lt {w:World}{D:Nat}:∀ {d:Nat} {v:Value} {ps:List P12} {F:List Nat},PlansIs w D d v ps F→∀b∈F,b<w.heap.size
 |0,_,_,_,h=>h.elim
 |d+1,v,ps,F,h=>by
  obtain⟨a,c,G,rfl,_,_,hG,h0,h⟩:=h;by_cases hne:ps=[]
  ·rw[h0 hne];intro b hb;cases hb
  obtain⟨b,o,rfl,hlt,rfl,hL⟩:=h hne;intro x hx;rcases List.mem_cons.1 hx with rfl|hx
  ·exact hlt
  obtain⟨g,hg,hxg⟩:=List.mem_flatten.1 hx;obtain⟨i,hi,rfl⟩:=List.mem_iff_getElem.1 hg;have hi':i<ps.length:=by omega
  obtain⟨_,ue,us,u,_,Fe,Fs,h',hgg,ke,kes,kp⟩:=hL i ps[i] G[i] (by simp) (by simp);rw[hgg]at hxg;rcases List.mem_append.1 hxg with hx|hx
  ·exact ke.lt x hx
  rcases List.mem_append.1 hx with hx|hx
  ·exact kes.lt x hx
  ·exact kp.lt x hx
theorem PlansIs.keep {w w':World}{D:Nat}(hs:w.heap.size≤w'.heap.size):∀ {d:Nat} {v:Value} {ps:List P12} {F:List Nat},PlansIs w D d v ps F→(∀b∈F,w'.heap[b]?=w.heap[b]?)→PlansIs w' D d v ps F
 |0,_,_,_,h,_=>h.elim
 |d+1,v,ps,F,h,hF=>by
  obtain⟨a,c,G,rfl,hl,hc,hG,h0,h⟩:=h;refine⟨a,c,G,rfl,hl,hc,hG,h0,fun hne=>?_⟩;obtain⟨b,o,rfl,hlt,rfl,hL⟩:=h hne;refine⟨b,o,rfl,Nat.lt_of_lt_of_le hlt hs,rfl,fun i e g he hg=>?_⟩;obtain⟨hw,ue,us,u,hc,Fe,Fs,h',rfl,ke,kes,kp⟩:=hL i e g he hg;have hb:=hF b List.mem_cons_self;have hg':∀x∈Fe++(Fs++h'),w'.heap[x]?=w.heap[x]?:=fun x hx=>hF x (List.mem_cons_of_mem _ (List.mem_flatten.2 ⟨_,mg8 hg,hx⟩));exact⟨hw,ue,us,u,hc.keep hb,Fe,Fs,h',rfl,ke.keep hs fun x hx=>hg' x (List.mem_append_left _ hx),kes.keep hs fun x hx=>hg' x (List.mem_append_right _ (List.mem_append_left _ hx)),kp.keep hs fun x hx=>hg' x (List.mem_append_right _ (List.mem_append_right _ hx))⟩
theorem PlansIs.below {w w':World}{D d:Nat}{v:Value}{ps:List P12}{F:List Nat}(h:PlansIs w D d v ps F)(hb:Below w.heap.size w w'):PlansIs w' D d v ps F:=
 h.keep hb.size fun b hF=>hb.block b (h.lt b hF)
theorem PlansIs.up {w:World}{D D':Nat}(hD:D≤D'):∀ {d d':Nat} {v:Value} {ps:List P12} {F:List Nat},PlansIs w D d v ps F→d≤d'→PlansIs w D' d' v ps F
 |0,_,_,_,_,h,_=>h.elim
 |d+1,0,_,_,_,_,hd=>absurd hd (by omega)
 |d+1,d'+1,v,es,F,h,hd=>by
  obtain⟨a,c,G,rfl,hl,hc,hG,h0,h⟩:=h;refine⟨a,c,G,rfl,hl,hc,hG,h0,fun hne=>?_⟩;obtain⟨b,o,rfl,hlt,rfl,hL⟩:=h hne;refine⟨b,o,rfl,hlt,rfl,fun i e g he hg=>?_⟩;obtain⟨hw,ue,us,u,hc,Fe,Fs,h',hg',ke,kes,kp⟩:=hL i e g he hg;exact⟨hw,ue,us,u,hc,Fe,Fs,h',hg',ke.up hD,kes.up hD,kp.up hD (by omega)⟩
theorem PlansIs.pick {w:World}{D d:Nat}{v:Value}{ps:List P12}{F:List Nat}(h:PlansIs w D (d+1) v ps F):∃a c b o G,v=.slice a ps.length c∧ps.length≤c∧c≤maxLen∧G.length=ps.length∧(ps=[]→F=[])∧∀k,k<ps.length→a=some ⟨b,o,none⟩∧b<w.heap.size∧F=b::G.flatten∧PLies w D d b o ps G:=by
 obtain⟨a,c,G,rfl,hl,hc,hG,h0,h⟩:=h;by_cases hne:ps=[]
 ·exact⟨a,c,0,0,G,rfl,hl,hc,hG,h0,fun k hk=>by rw[hne]at hk;simp at hk⟩
 ·obtain⟨b,o,h⟩:=h hne;exact⟨a,c,b,o,G,rfl,hl,hc,hG,h0,fun _ _=>h⟩
theorem PlansIs.shape {w:World}{D d:Nat}{v:Value}{ps:List P12}{F:List Nat}(h:PlansIs w D d v ps F):∃a c,v=.slice a ps.length c∧ps.length≤c∧c≤maxLen:=by
 cases d with
 |zero=>exact h.elim
 |succ d=>
  obtain⟨a,c,G,rfl,hl,hc,_⟩:=h;exact⟨a,c,rfl,hl,hc⟩
theorem ListsP.below {w w':World}{D d:Nat}{p:P12}{ue us u:Value}{g:List Nat}(h:ListsP w D (PlansIs w D d) p ue us u g)(hb:Below w.heap.size w w'):ListsP w' D (PlansIs w' D d) p ue us u g:=by
 obtain⟨Fe,Fs,h',hg,ke,kes,kp⟩:=h;exact⟨Fe,Fs,h',hg,ke.below hb,kes.below hb,kp.below hb⟩
theorem ListsP.lt {w:World}{D d:Nat}{p:P12}{ue us u:Value}{g:List Nat}(h:ListsP w D (PlansIs w D d) p ue us u g):∀b∈g,b<w.heap.size:=by
 obtain⟨Fe,Fs,h',rfl,ke,kes,kp⟩:=h;intro x hx;rcases List.mem_append.1 hx with hx|hx
 ·exact ke.lt x hx
 rcases List.mem_append.1 hx with hx|hx
 ·exact kes.lt x hx
 ·exact kp.lt x hx
theorem ListsP.keep {w w':World}{D d:Nat}{p:P12}{ue us u:Value}{g:List Nat}(h:ListsP w D (PlansIs w D d) p ue us u g)(hs:w.heap.size≤w'.heap.size)(hF:∀b∈g,w'.heap[b]?=w.heap[b]?):ListsP w' D (PlansIs w' D d) p ue us u g:=by
 obtain⟨Fe,Fs,h',rfl,ke,kes,kp⟩:=h;exact⟨Fe,Fs,h',rfl,ke.keep hs fun x hx=>hF x (List.mem_append_left _ hx),kes.keep hs fun x hx=>hF x (List.mem_append_right _ (List.mem_append_left _ hx)),kp.keep hs fun x hx=>hF x (List.mem_append_right _ (List.mem_append_right _ hx))⟩
theorem ListsP.shape {w:World}{D d:Nat}{p:P12}{ue us u:Value}{g:List Nat}(h:ListsP w D (PlansIs w D d) p ue us u g):∃ae ce ak ck a c,ue=.slice ae p.e.ks.length ce∧us=.slice ak p.es.length ck∧u=.slice a p.ks.length c∧p.e.ks.length≤ce∧ce≤maxLen∧p.es.length≤ck∧ck≤maxLen∧p.ks.length≤c∧c≤maxLen:=by
 obtain⟨Fe,Fs,h',hg,ke,kes,kp⟩:=h;obtain⟨ae,ce,h1,h2,h3⟩:=ke.shape;obtain⟨ak,ck,h4,h5,h6⟩:=kes.shape;obtain⟨a,c,h7,h8,h9⟩:=kp.shape;exact⟨ae,ce,ak,ck,a,c,h1,h4,h7,h2,h3,h5,h6,h8,h9⟩
theorem PLies.at {w w':World}{D d b o:Nat}{ps:List P12}{G:List (List Nat)}(h:PLies w D d b o ps G)(hG:G.length=ps.length)(hlt:b<w.heap.size)(hb:Below w.heap.size w w'){k:Nat}(hk:k<ps.length):∃p g ue us u,ps[k]?=some p∧G[k]?=some g∧p.wf∧cellsP w' b (o+k*12) p ue us u∧ListsP w' D (PlansIs w' D d) p ue us u g∧b<w'.heap.size:=by
 have hk':k<G.length:=by omega
 obtain⟨hw,ue,us,u,hc,hL⟩:=h k ps[k] G[k] (by simp) (by simp);exact⟨ps[k],G[k],ue,us,u,by simp,by simp,hw,hc.keep (hb.block b hlt),hL.below hb,Nat.lt_of_lt_of_le hlt hb.size⟩
end
section
open Go.RowKit Go.Deep Go.ChangeShapes Go.WideShapes Go.Joins
theorem cellsExp:Tryz.prog.cellsOf 47=7:=by kernel_rfl
theorem cellsVal:Tryz.prog.cellsOf 44=3:=by kernel_rfl
theorem cellsInt:Tryz.prog.cellsOf 3=1:=by kernel_rfl
theorem cellsStr:Tryz.prog.cellsOf 9=1:=by kernel_rfl
theorem cellsKids:Tryz.prog.cellsOf 45=1:=by kernel_rfl
section
variable {H:Type} {enc:TypeId×Value→H} {w:World} {spare:Nat→Bool} {held:Bool}
theorem open_exps {fuel:Nat}{v:Value}{x:DataW H×List MemPlace}(h:DataW.trod enc Tryz.prog w 0 spare held fuel 45 [v]=some x):∃es F,KidsIs w (fuel+1) v es F:=
 open_kids (P:=Tryz.prog) Tryz.underlying45 Tryz.underlying47 cellsExp rfl rfl rfl rfl rfl cellsInt cellsInt cellsVal cellsStr cellsKids Tryz.underlying3 Tryz.underlying3 Tryz.underlying44 Tryz.underlying9 rfl rfl rfl rfl cellsInt cellsInt cellsStr Tryz.underlying3 Tryz.underlying3 Tryz.underlying9 fuel fuel (Nat.le_refl _) h
end
end
section
open Go.RowKit Go.Deep Go.ChangeShapes Go.WideShapes Go.Joins
theorem cellsPlan:Tryz.prog.cellsOf 50=12:=by kernel_rfl
theorem cellsPlans:Tryz.prog.cellsOf 48=1:=by kernel_rfl
section
variable {H:Type} {enc:TypeId×Value→H} {w:World} {spare:Nat→Bool} {held:Bool}
theorem open_exp7 {fuel:Nat}{z0 z1 z2 z3 z4 z5 z6:Value}{x:DataW H×List MemPlace}(h:DataW.trod enc Tryz.prog w 0 spare held fuel 47 [z0,z1,z2,z3,z4,z5,z6]=some x):∃ (e:E7) (F:List Nat) (n:Nat),n≤fuel∧z0=.int .i64 e.k∧z1=.int .i64 e.n∧z2=.int .i64 e.v.k∧z3=.int .i64 e.v.n∧z4=.string e.v.s∧z5=.string e.p∧e.wf∧KidsIs w n z6 e.ks F:=by
 obtain⟨xs,k,hk,_,_,hxl,hfld⟩:=DataW.trod_struct Tryz.underlying47 h
 match xs,hxl with
 | [y0,y1,y2,y3,y4],_=>
  have a0:=hfld 0 _ rfl;have a1:=hfld 1 _ rfl;have a2:=hfld 2 _ rfl;have a3:=hfld 3 _ rfl;have a4:=hfld 4 _ rfl;simp[cellsInt,cellsVal,cellsStr,cellsKids]at a0 a1 a2 a3 a4;obtain⟨n0,q0,_,w0⟩:=DataW.trod_int Tryz.underlying3 a0;obtain⟨n1,q1,_,w1⟩:=DataW.trod_int Tryz.underlying3 a1;obtain⟨n3,q3,_,w3⟩:=DataW.trod_string Tryz.underlying9 a3;obtain⟨ys,k2,hk2,_,_,hyl,hfl2⟩:=DataW.trod_struct Tryz.underlying44 a2
  match ys,hyl with
  | [b0,b1,b2],_=>
   have r0:=hfl2 0 _ rfl;have r1:=hfl2 1 _ rfl;have r2:=hfl2 2 _ rfl;simp[cellsInt,cellsStr]at r0 r1 r2;obtain⟨m0,s0,_,x0⟩:=DataW.trod_int Tryz.underlying3 r0;obtain⟨m1,s1,_,x1⟩:=DataW.trod_int Tryz.underlying3 r1;obtain⟨m2,s2,_,x2⟩:=DataW.trod_string Tryz.underlying9 r2;simp at q0 q1 q3 s0 s1 s2;subst q0 q1 q3 s0 s1 s2;obtain⟨ks,F,hK⟩:=open_exps a4;exact⟨.mk n0 n1 ⟨m0,m1,m2⟩ n3 ks,F,k+1,by omega,rfl,rfl,rfl,rfl,rfl,rfl,⟨w0,w1,⟨x0,x1,x2⟩,w3⟩,hK⟩
theorem open_plan12 {fuel N:Nat}(hN:fuel≤N+1)(ih:∀ (f:Nat),f≤N→∀ {v:Value} {x:DataW H×List MemPlace},DataW.trod enc Tryz.prog w 0 spare held f 48 [v]=some x→∃ps F,PlansIs w (N+2) (N+1) v ps F){z0 z1 z2 z3 z4 z5 z6 z7 z8 z9 z10 z11:Value} {x:DataW H×List MemPlace} (h:DataW.trod enc Tryz.prog w 0 spare held fuel 50 [z0,z1,z2,z3,z4,z5,z6,z7,z8,z9,z10,z11]=some x):∃ (p:P12) (g:List Nat),z0=.int .i64 p.k∧z1=.string p.s∧z2=.int .i64 p.e.k∧z3=.int .i64 p.e.n∧z4=.int .i64 p.e.v.k∧z5=.int .i64 p.e.v.n∧z6=.string p.e.v.s∧z7=.string p.e.p∧z10=.int .i64 p.n∧p.wf∧ListsP w (N+2) (PlansIs w (N+2) (N+1)) p z8 z9 z11 g:=by
 obtain⟨xs,k,hk,_,_,hxl,hfld⟩:=DataW.trod_struct Tryz.underlying50 h
 match xs,hxl with
 | [y0,y1,y2,y3,y4,y5],_=>
  have a0:=hfld 0 _ rfl;have a1:=hfld 1 _ rfl;have a2:=hfld 2 _ rfl;have a3:=hfld 3 _ rfl;have a4:=hfld 4 _ rfl;have a5:=hfld 5 _ rfl;simp[cellsInt,cellsStr,cellsExp,cellsKids,cellsPlans]at a0 a1 a2 a3 a4 a5;obtain⟨n0,q0,_,w0⟩:=DataW.trod_int Tryz.underlying3 a0;obtain⟨n1,q1,_,w1⟩:=DataW.trod_string Tryz.underlying9 a1;obtain⟨n4,q4,_,w4⟩:=DataW.trod_int Tryz.underlying3 a4;simp at q0 q1 q4;obtain⟨e,Fe,m,hm,e0,e1,e2,e3,e4,e5,ew,ke⟩:=open_exp7 a2;obtain⟨es,Fs,ks⟩:=open_exps a3;obtain⟨ps,F,kp⟩:=ih k (by omega) a5;exact⟨.mk n0 n1 e es n4 ps,Fe++(Fs++F),q0,q1,e0,e1,e2,e3,e4,e5,q4,⟨w0,w1,ew,w4⟩,Fe,Fs,F,rfl,ke.up (by omega),ks.up (by omega),kp⟩
theorem open_plans:∀ (N fuel:Nat),fuel≤N→∀ {v:Value} {x:DataW H×List MemPlace},DataW.trod enc Tryz.prog w 0 spare held fuel 48 [v]=some x→∃ps F,PlansIs w (N+2) (N+1) v ps F:=by
 intro N;induction N with
 |zero=>
  intro fuel hf v x h;obtain rfl:fuel=0:=by omega
  simp[DataW.trod]at h
 |succ N ih=>
  intro fuel hf v x h;rcases DataW.trod_slice Tryz.underlying48 h with⟨h0,_⟩|⟨a,len,cap,elems,rest,n,hfn,hcs,rfl,hb,hl,hm,hlen,hel,hsp,hns⟩
  ·simp at h0;subst h0;exact⟨[],[],none,0,[],rfl,by simp,by simp,rfl,fun _=>rfl,fun h=>absurd rfl h⟩
  simp at hcs;subst hcs;have each:∀i,i<len→∃q:P12×List Nat×Value×Value×Value,q.1.wf∧(w.cell? (a.add (i*12))=some (.int .i64 q.1.k)∧w.cell? (a.add (i*12+1))=some (.string q.1.s)∧w.cell? (a.add (i*12+2))=some (.int .i64 q.1.e.k)∧w.cell? (a.add (i*12+3))=some (.int .i64 q.1.e.n)∧w.cell? (a.add (i*12+4))=some (.int .i64 q.1.e.v.k)∧w.cell? (a.add (i*12+5))=some (.int .i64 q.1.e.v.n)∧w.cell? (a.add (i*12+6))=some (.string q.1.e.v.s)∧w.cell? (a.add (i*12+7))=some (.string q.1.e.p)∧w.cell? (a.add (i*12+8))=some q.2.2.1∧w.cell? (a.add (i*12+9))=some q.2.2.2.1∧w.cell? (a.add (i*12+10))=some (.int .i64 q.1.n)∧w.cell? (a.add (i*12+11))=some q.2.2.2.2)∧ListsP w (N+2) (PlansIs w (N+2) (N+1)) q.1 q.2.2.1 q.2.2.2.1 q.2.2.2.2 q.2.1:=by
   intro i hi;have hi1:=hel i hi;have hie:elems[i]?=some elems[i]:=by simp[hlen,hi]
   rw[hie,Option.bind_eq_some_iff]at hi1;obtain⟨cs',h1,h2⟩:=hi1;rw[cellsPlan]at h1;obtain⟨_,hlen12,hcell⟩:=World.cells?_some h1
   match cs',hlen12 with
   | [z0,z1,z2,z3,z4,z5,z6,z7,z8,z9,z10,z11],_=>
    obtain⟨p,g,r0,r1,r2,r3,r4,r5,r6,r7,r10,hw,hL⟩:=open_plan12 (N:=N) (by omega) ih h2;have e0:=hcell 0 (by omega);have e1:=hcell 1 (by omega);have e2:=hcell 2 (by omega);have e3:=hcell 3 (by omega);have e4:=hcell 4 (by omega);have e5:=hcell 5 (by omega);have e6:=hcell 6 (by omega);have e7:=hcell 7 (by omega);have e8:=hcell 8 (by omega);have e9:=hcell 9 (by omega);have e10:=hcell 10 (by omega);have e11:=hcell 11 (by omega);rw[add_add]at e0 e1 e2 e3 e4 e5 e6 e7 e8 e9 e10 e11;subst r0 r1 r2 r3 r4 r5 r6 r7 r10;exact⟨⟨p,g,z8,z9,z11⟩,hw,⟨by simpa using e0,by simpa using e1,by simpa using e2,by simpa using e3,by simpa using e4,by simpa using e5,by simpa using e6,by simpa using e7,by simpa using e8,by simpa using e9,by simpa using e10,by simpa using e11⟩,hL⟩
  have:Inhabited (P12×List Nat×Value×Value×Value):=⟨⟨.nil,[],.nilFunc,.nilFunc,.nilFunc⟩⟩;obtain⟨q,hq⟩:=choose_lt each;refine⟨(List.range len).map fun i=>(q i).1,if len=0 then[]else a.block::((List.range len).map fun i=>(q i).2.1).flatten,some a,cap,(List.range len).map fun i=>(q i).2.1,by simp,by simpa using hl,hm,by simp,fun hne=>?_,fun hne=>?_⟩
  ·have:len=0:=by simpa using congrArg List.length hne
   simp[this]
  ·have hpos:0<len:=by
    rcases Nat.eq_zero_or_pos len with h0|h0
    ·subst h0;simp at hne
    ·exact h0
   have hs:a.spot=none:=by have:=World.cell?_spot (hq 0 hpos).2.1.1;simpa [Addr.add]using this
   obtain⟨b,o,sp⟩:=a;simp at hs;subst hs;refine⟨b,o,rfl,?_,by simp;omega,fun i x g hx hg=>?_⟩
   ·have:=bl8 _ _ (hq 0 hpos).2.1.1
    simpa [Addr.add]using this
   ·have hi:i<len:=by
     obtain⟨h1,_⟩:=gE1 hx
     simpa using h1
    have ex:x=(q i).1:=by simp[hi]at hx;exact hx.symm
    have eg:g=(q i).2.1:=by simp[hi]at hg;exact hg.symm
    subst ex eg;obtain⟨hw,⟨h0,h1,h2,h3,h4,h5,h6,h7,h8,h9,h10,h11⟩,Fe,Fs,k,hgg,ke,kes,kp⟩:=hq i hi;rw[add_plain]at h0 h1 h2 h3 h4 h5 h6 h7 h8 h9 h10 h11;exact⟨hw,_,_,_,⟨h0,by simpa [Nat.add_assoc]using h1,by simpa [Nat.add_assoc]using h2,by simpa [Nat.add_assoc]using h3,by simpa [Nat.add_assoc]using h4,by simpa [Nat.add_assoc]using h5,by simpa [Nat.add_assoc]using h6,by simpa [Nat.add_assoc]using h7,by simpa [Nat.add_assoc]using h8,by simpa [Nat.add_assoc]using h9,by simpa [Nat.add_assoc]using h10,by simpa [Nat.add_assoc]using h11⟩,Fe,Fs,k,hgg,ke.up (by omega),kes.up (by omega),kp.up (by omega) (Nat.le_refl _)⟩
end
end
section
open Go.RowKit Go.Deep
theorem HalfB.rowsF {w:World}{B:Nat}{cs:List C2}{g:Nat→Nat}(h:HalfB w B cs g cs.length)(hl:∀x∈cs,x.r.length≤maxLen)(hm:cs.length≤maxLen):∃F,RowsF w (.slice (some ⟨B,0,none⟩) cs.length cs.length) cs F∧OwnB w B F:=by
 obtain⟨f,hf,he⟩:=h.own;by_cases hne:cs=[]
 ·exact⟨[],⟨_,_,[],rfl,Nat.le_refl _,hm,(fun x=>by cases x),by rw[hne];rfl,fun _=>rfl,fun x=>absurd hne x⟩,by simp[OwnB,Free]⟩
 let G:List (List Nat):=(List.range cs.length).map fun i=>if(cs.getD i ⟨[],0⟩).r=[]then[]else[g i]
 have hGl:G.length=cs.length:=by simp[G]
 have hGi:∀i q,G[i]?=some q→i<cs.length∧q=if(cs.getD i ⟨[],0⟩).r=[]then[]else[g i]:=by
  intro i q hq;have hi:i<cs.length:=by have:=(gE1 hq).1;omega
  refine⟨hi,?_⟩;simp[G,hi]at hq;rw[←hq];simp[hi]
 have hmem:∀b∈G.flatten,∃i,i<cs.length∧b=g i:=by
  intro b hb;obtain⟨q,hq,hbq⟩:=List.mem_flatten.1 hb;obtain⟨i,hi,rfl⟩:=List.mem_iff_getElem.1 hq;obtain⟨hi',e⟩:=hGi i G[i] (by simp);rw[e]at hbq;split at hbq
  ·cases hbq
  ·exact⟨i,hi',List.mem_singleton.1 hbq⟩
 refine⟨B::G.flatten,⟨_,_,G,rfl,Nat.le_refl _,hm,(fun x=>by cases x),hGl,fun x=>absurd x hne,fun _=>⟨B,0,rfl,hf.lt,rfl,fun i x q hx hq=>?_⟩⟩,?_,fun b hb=>?_,fun b hb o=>?_⟩
 ·obtain⟨hi,eq⟩:=hGi i q hq;obtain⟨e0,e1⟩:=he i x hi hx;have ex:cs.getD i ⟨[],0⟩=x:=by simp[List.getD,hx]
  rw[ex]at eq;have hrow:=h.row i x hi hx;refine⟨.slice (some ⟨g i,0,none⟩) x.r.length x.r.length,by rw[Nat.zero_add,hf.cell (by omega),e0],⟨_,_,rfl,Nat.le_refl _,hl x (mg8 hx),(fun x=>by cases x),fun e=>by rw[eq,if_pos e],fun hn=>⟨g i,0,rfl,hrow.lt,by rw[eq,if_neg hn],?_⟩⟩,by rw[Nat.zero_add,hf.cell (by omega),e1]⟩;refine lies_cells.2 fun j hj=>?_;rw[Nat.zero_add];exact hrow.cell hj
 ·refine List.nodup_cons.2 ⟨fun hb=>?_,?_⟩
  ·obtain⟨i,hi,e⟩:=hmem B hb;have:=h.above i hi;omega
  ·rw[List.Nodup,List.pairwise_flatten];constructor
   ·intro q hq;obtain⟨i,hi,rfl⟩:=List.mem_iff_getElem.1 hq;obtain⟨hi',e⟩:=hGi i G[i] (by simp);rw[e];split<;>simp
   ·rw[List.pairwise_iff_getElem];intro i j hi hj hij x hx y hy;obtain⟨hi',ei⟩:=hGi i G[i] (by simp);obtain⟨hj',ej⟩:=hGi j G[j] (by simp);rw[ei]at hx;rw[ej]at hy;split at hx
    ·cases hx
    ·split at hy
     ·cases hy
     ·have:=h.up i j hij hj';have e1:=List.mem_singleton.1 hx;have e2:=List.mem_singleton.1 hy;omega
 ·rcases List.mem_cons.1 hb with rfl|hb
  ·exact Nat.le_refl _
  ·obtain⟨i,hi,rfl⟩:=hmem b hb;exact Nat.le_of_lt (h.above i hi)
 ·rcases List.mem_cons.1 hb with rfl|hb
  ·exact hf.frozen o
  ·obtain⟨i,hi,rfl⟩:=hmem b hb;exact(h.row i cs[i] hi (by simp)).frozen o
theorem toBag_F (W:Int)(v:Value)(cs:List C2)(w:World)(hr:RowsIs w v cs)(hn:wtb cs≤1048576):Calls Tryz.prog 42 #[.agg #[.int .i64 W,v]] w fun e w'=>(∃u F,e=.returned (.agg #[.int .i64 W,u])∧RowsF w' u cs F∧OwnB w' w.heap.size F)∧Below w.heap.size w w':=
 (toBag_any W v cs w hr hn).mono fun e w' ⟨⟨B,g,hB,he,h⟩,hb⟩=>by
  obtain⟨F,h1,h2⟩:=h.rowsF (fun x hx=>by have:=wt_mem hx;unfold wt at this;unfold wtb at hn;unfold maxLen;omega) (by unfold wtb at hn;unfold maxLen;omega);exact⟨⟨_,F,he,h1,h2.1,fun b hb=>Nat.le_trans hB (h2.2.1 b hb),h2.2.2⟩,hb⟩
end
section
open Go.RowKit
def ops9:List ByteArray:=[⟨#[43]⟩,⟨#[45]⟩,⟨#[42]⟩,⟨#[47]⟩,⟨#[61]⟩,⟨#[60]⟩,⟨#[126]⟩,⟨#[97,110,100]⟩,⟨#[111,114]⟩]
def hasB (l:List ByteArray)(p:ByteArray):Bool:=l.any fun q=>q.toList==p.toList
def opB (p:ByteArray):Bool:=hasB ops9 p
theorem hasB_take {l:List ByteArray}{k:Nat}{q p:ByteArray}(h:l[k]?=some q):hasB (l.take (k+1)) p=(hasB (l.take k) p||q.toList==p.toList):=by
 obtain⟨hk,rfl⟩:=gE1 h;unfold hasB;rw[List.take_succ_eq_append_getElem hk,List.any_append];simp
theorem hasB_of_take {l:List ByteArray}{k:Nat}{p:ByteArray}(h:hasB (l.take k) p=true):hasB l p=true:=by
 unfold hasB at h⊢;obtain⟨q,hq,e⟩:=List.any_eq_true.1 h;exact List.any_eq_true.2 ⟨q,List.mem_of_mem_take hq,e⟩
theorem l03Has_any (b o c:Nat)(l:List ByteArray)(p:ByteArray)(w:World)(hl:l.length≤c)(hc:c≤1000)(hlt:b<w.heap.size)(h:∀i q,l[i]?=some q→w.cell? ⟨b,o+i,none⟩=some (.string q)):Calls Tryz.prog 143 #[.slice (some ⟨b,o,none⟩) l.length c,.string p] w fun e w'=>e=.returned (.bool (hasB l p))∧Below w.heap.size w w':=by
 go_enter Tryz.func143,Tryz.ntmps143;go_wp2;go_loopw [5] (fun i wr=> ∃k:Nat,k≤l.length∧i=.int .i64 k∧hasB (l.take k) p=false∧Below w.heap.size w wr) (fun i _=>l.length - (intOf i).toNat)
 case atStart=>exact⟨0,Nat.zero_le _,rfl,rfl,by go_grown⟩
 case round=>
  obtain⟨k,hk,rfl,hf,hb⟩:=hrel;by_cases hkt:k<l.length
  ·obtain⟨q,hq⟩:∃q,l[k]?=some q:=⟨l[k],by simp[hkt]⟩;have c0:wr.cell? ⟨b,o+k,none⟩=some (.string q):=(hb.cell (p:=⟨b,o+k,none⟩) hlt).trans (h k q hq);have H1:Hid (hasB (l.take (k+1)) p=(q.toList==p.toList)):=by show _=_;rw[hasB_take hq,hf,Bool.false_or]
   have HF:Hid (hasB (l.take k) p=false):=hf;clear h hq hf;by_cases he:(q.toList==p.toList)=true
   ·go_wp2;go_returns;refine⟨rB8 ?_,hb⟩;rw[hasB_of_take (H1.out.trans he)]
   ·have he':(q.toList==p.toList)=false:=by simpa using he
    go_wp2;exact⟨⟨k+1,hkt,by simp,H1.out.trans he',bex⟩,by simp[intOf];omega⟩
  ·have hkk:k=l.length:=by omega
   subst hkk;rw[List.take_length]at hf;have HF:Hid (hasB l p=false):=hf;clear hf h;go_wp2;go_returns;exact⟨rB8 HF.out.symm,hb⟩
theorem Tryz.next7 (w:World)(ty:TypeId)(k:Nat)(hk:k<7):(Instr.next (.pointer (some ⟨w.heap.size,0,none⟩)) true ty).run Tryz.prog (w.iter ⟨#[43,45,42,47,61,60,126]⟩ k)=.ok (.tuple #[.bool true,.int .i64 k,.int .i32 (([43,45,42,47,61,60,126]:List Int)[k]'hk)]) (w.iter ⟨#[43,45,42,47,61,60,126]⟩ (k+1)):=by
 rw[run_next_any w ⟨#[43,45,42,47,61,60,126]⟩ k ty hk]
 match k,hk with
 |0,_=>rfl
 |1,_=>rfl
 |2,_=>rfl
 |3,_=>rfl
 |4,_=>rfl
 |5,_=>rfl
 |6,_=>rfl
theorem enc7 (k:Nat)(hk:k<7):∃q,ops9[k]?=some q∧(Utf8.encode (([43,45,42,47,61,60,126]:List Int)[k]'hk)).toList=q.toList:=by
 match k,hk with
 |0,_=>exact⟨_,rfl,rfl⟩
 |1,_=>exact⟨_,rfl,rfl⟩
 |2,_=>exact⟨_,rfl,rfl⟩
 |3,_=>exact⟨_,rfl,rfl⟩
 |4,_=>exact⟨_,rfl,rfl⟩
 |5,_=>exact⟨_,rfl,rfl⟩
 |6,_=>exact⟨_,rfl,rfl⟩
theorem beq_flip (a b:List UInt8):(a==b)=(b==a):=by rw[Bool.eq_iff_iff,beq_iff_eq,beq_iff_eq];exact eq_comm
theorem opB_end {p:ByteArray}(h:hasB (ops9.take 7) p=false):opB p=(p.toList==[97,110,100]||p.toList==[111,114]):=by
 have e:opB p=(hasB (ops9.take 7) p||hasB (ops9.drop 7) p):=by unfold opB hasB;rw[←List.any_append,List.take_append_drop]
 rw[e,h,Bool.false_or];have e1:(⟨#[97,110,100]⟩:ByteArray).toList=[97,110,100]:=by first|(simp;done)|kernel_rfl
 have e2:(⟨#[111,114]⟩:ByteArray).toList=[111,114]:=by first|(simp;done)|kernel_rfl
 simp only[hasB,ops9,List.drop_succ_cons,List.drop_zero,List.any_cons,List.any_nil,Bool.or_false,e1,e2];rw[beq_flip [97,110,100],beq_flip [111,114]]
theorem opOk_any (p:ByteArray)(w:World):Calls Tryz.prog 156 #[.string p] w fun e w'=>e=.returned (.bool (opB p))∧Below w.heap.size w w':=by
 go_enter Tryz.func156,Tryz.ntmps156;go_wp2;go_loopw [] (fun w'=> ∃k:Nat,k≤7∧w'=w.iter ⟨#[43,45,42,47,61,60,126]⟩ k∧hasB (ops9.take k) p=false) (fun w'=>7 -w'.iterPos w.heap.size)
 case atStart=>exact⟨0,by omega,rfl,rfl⟩
 case round=>
  obtain⟨k,hk,rfl,hf⟩:=hrel;have hbel:∀j,Below w.heap.size w (w.iter ⟨#[43,45,42,47,61,60,126]⟩ j):=fun j=>(Below.refl _ _).alloc (Nat.le_refl _) _;have HF:Hid (hasB (ops9.take k) p=false):=hf;by_cases hp:k<7
  ·have hnx:∀ty,(Instr.next (.pointer (some ⟨w.heap.size,0,none⟩)) true ty).run Tryz.prog (w.iter ⟨#[43,45,42,47,61,60,126]⟩ k)=_:=fun ty=>Tryz.next7 w ty k hp;obtain⟨q,hq,he⟩:=enc7 k hp;have H1:Hid (hasB (ops9.take (k+1)) p=(p.toList==q.toList)):=by show _=_;rw[hasB_take hq,hf,Bool.false_or,beq_flip]
   generalize([43,45,42,47,61,60,126]:List Int)[k]'hp=z at hnx he;have HE:Hid ((Utf8.encode z).toList=q.toList):=he;clear hf hq he;go_wp2;all_goals rename_i h
   all_goals rw[HE.out]at h
   all_goals first
    |(go_returns;exact⟨rB8 (hasB_of_take (H1.out.trans h)).symm,hbel _⟩)
    |exact⟨⟨k+1,hp,rfl,H1.out.trans h⟩,by simp;omega⟩
  ·have hnx:∀ty,(Instr.next (.pointer (some ⟨w.heap.size,0,none⟩)) true ty).run Tryz.prog (w.iter ⟨#[43,45,42,47,61,60,126]⟩ k)=_:=fun ty=>run_next_end w ⟨#[43,45,42,47,61,60,126]⟩ k ty hp;obtain rfl:k=7:=by omega
   have HO:=opB_end hf;have HO:Hid (opB p=(p.toList==[97,110,100]||p.toList==[111,114])):=HO;clear hf;go_wp2;all_goals(go_returns;refine⟨rB8 ?_,hbel _⟩;first|(rw[HO.out];done)|(rw[HO.out];simp_all))
end
end
end Go.Proofs.YtjhhmnjpojnoiaaGreatDoor
