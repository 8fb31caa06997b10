/- Own texts, joined: contracts that the law's proof goes by. -/
import Derived.Test.YtflokiejcjjbiaaGreatGLFits13
import Derived.Test.YtflokiejcjjbiaaGreatGLFits2
import Derived.Handy
import Derived.Deep.RegionHeld3
import Derived.Test.YtflokiejcjjbiaaGreatGLFits4
set_option maxHeartbeats 16000000
set_option maxRecDepth 100000
set_option linter.unusedVariables false
set_option linter.unusedSimpArgs false
namespace Go.Proofs.YtflokiejcjjbiaaGreat
section
open Go.RowKit
theorem szRel_any (s:ByteArray)(W:Int)(v:Value)(cs:List C2)(left:Int)(w:World)(hs:s.size≤maxLen)(hr:RowsIs w v cs)(hw:CsWf cs)(h0:0≤left)(h1:left≤1048576):Calls Tryz.prog 12 #[.agg #[.string s,.int .i64 W,v],.int .i64 left] w fun e w'=>(∃z:Int,e=.returned (.int .i64 z)∧ -1≤z∧z≤left∧(0≤z→z+(s.size+wtb cs)=left))∧Below w.heap.size w w':=by
 unfold maxLen at hs;by_cases hbig:left -s.size<0
 ·go_enter Tryz.func12,Tryz.ntmps12;go_wp2_with fail;go_returns;exact⟨⟨-1,rfl,by omega,by omega,by omega⟩,bela⟩
 obtain⟨a,l,c,rfl⟩:=hr.shape;go_enter Tryz.func12,Tryz.ntmps12;go_wp2_with fail;refine cM8 (szBag_any W (.slice a l c) cs (left -s.size) _ (hr.below ?hb) hw (by omega) (by omega)) ?_
 case hb=>exact bela
 rintro e w1 ⟨⟨z1,rfl,l1,g1,s1⟩,hb1⟩;have hz1:=hb1.size;simp only[World.size_alloc]at hz1;by_cases hn1:z1<0
 ·go_wp2_with fail;go_returns;exact⟨⟨-1,rfl,by omega,by omega,by omega⟩,bela⟩
 ·go_wp2_with fail;go_returns;exact⟨⟨z1,rfl,by omega,by omega,fun h=>by have:=s1 h;omega⟩,bela⟩
theorem szRelS_any (v:Value)(rs:List R3)(left:Int)(w:World)(hr:RelsIs w v rs)(hw:RsWf rs)(h0:0≤left)(h1:left≤1048576):Calls Tryz.prog 4 #[v,.int .i64 left] w fun e w'=>(∃z:Int,e=.returned (.int .i64 z)∧ -1≤z∧z≤left∧(0≤z→z+wtR rs=left))∧Below w.heap.size w w':=by
 obtain⟨a,c,b,o,rfl,hl,hc,ha⟩:=hr.pick;unfold maxLen at hc;by_cases hbig:left -rs.length<0
 ·go_enter Tryz.func4,Tryz.ntmps4;go_wp2;go_returns;exact⟨⟨-1,rfl,by omega,by omega,by omega⟩,by go_grown⟩
 go_enter Tryz.func4,Tryz.ntmps4;go_wp2;go_loopw [1,5] (fun l i wr=> ∃k:Nat,k≤rs.length∧i=.int .i64 k∧l=.int .i64 (left -rs.length -wtrs (rs.take k))∧0≤left -rs.length -wtrs (rs.take k)∧Below w.heap.size w wr) (fun _ i _=>rs.length - (intOf i).toNat)
 case atStart=>exact⟨0,Nat.zero_le _,rfl,by simp[wtrs],by simp[wtrs];omega,by go_grown⟩
 case round=>
  obtain⟨k,hk,rfl,rfl,hp,hb⟩:=hrel;by_cases hlt:k<rs.length
  ·have hzb:=hb.size;obtain⟨rfl,hblt,hL⟩:=ha k hlt;obtain⟨x,u,hx,c0,c1,c2,hR,hbr⟩:=hL.at hblt hb hlt;obtain⟨hxs,_,hxw⟩:=hw x (mg8 hx);have hT:Hid (wtrs (rs.take (k+1))=wtrs (rs.take k)+wtr x):=wtrs_take hx;have hp1:left -rs.length -wtrs (rs.take k)≤1048576:=by omega
   clear ha hL hw hx;go_wp2_with(go_at_call 12;refine(szRel_any _ _ _ _ _ _ hxs hR hxw hp hp1).mono ?_;rintro e w1 ⟨⟨z1,rfl,l1,g1,s1⟩,hb1⟩)
   ·go_returns;exact⟨⟨-1,rfl,by omega,by omega,by omega⟩,hb.trans (hb1.mono hb.size)⟩
   ·have h9:0≤z1:=by assumption
    have e1:=s1 h9;have hT:=hT.out;unfold wtr at hT;refine⟨⟨k+1,hlt,by simp,by congr 1;omega,by omega,hb.trans (hb1.mono hb.size)⟩,by simp[intOf];omega⟩
  ·go_wp2;go_returns;have hkk:k=rs.length:=by omega
   subst hkk;refine⟨⟨_,rfl,by omega,by omega,fun _=>?_⟩,hb⟩;rw[List.take_length];unfold wtR;omega
theorem eqRel_same (s:ByteArray)(W:Int)(v u:Value)(cs:List C2)(w:World)(hr:RowsIs w v cs)(hu:RowsIs w u cs):Calls Tryz.prog 24 #[.agg #[.string s,.int .i64 W,v],.agg #[.string s,.int .i64 W,u]] w fun e w'=>e=.returned (.bool true)∧Below w.heap.size w w':=by
 obtain⟨a,l,c,rfl⟩:=hr.shape;obtain⟨a',l',c',rfl⟩:=hu.shape;go_enter Tryz.func24,Tryz.ntmps24;go_wp2_with fail;refine cM8 (eqBag_same W _ _ cs _ (hr.below ?hb) (hu.below ?hc)) ?_
 case hb=>exact bela
 case hc=>exact bela
 rintro e w1 ⟨rfl,hb1⟩;have hz1:=hb1.size;simp only[World.size_alloc]at hz1;go_wp2;go_returns;exact⟨rfl,bela⟩
theorem eqRelS_same (v u:Value)(rs:List R3)(w:World)(hr:RelsIs w v rs)(hu:RelsIs w u rs):Calls Tryz.prog 10 #[v,u] w fun e w'=>e=.returned (.bool true)∧Below w.heap.size w w':=by
 obtain⟨a,c,b,o,rfl,hl,hc,ha⟩:=hr.pick;obtain⟨a',c',b',o',rfl,hl',hc',ha'⟩:=hu.pick;unfold maxLen at hc hc';clear hr hu;go_enter Tryz.func10,Tryz.ntmps10;go_wp2;go_loopw [5] (fun i wr=> ∃k:Nat,k≤rs.length∧i=.int .i64 k∧Below w.heap.size w wr) (fun i _=>rs.length - (intOf i).toNat)
 case atStart=>exact⟨0,Nat.zero_le _,rfl,by go_grown⟩
 case round=>
  obtain⟨k,hk,rfl,hb⟩:=hrel;by_cases hlt:k<rs.length
  ·have hzb:=hb.size;obtain⟨rfl,hblt,hL⟩:=ha k hlt;obtain⟨rfl,hblt',hL'⟩:=ha' k hlt;obtain⟨x,v,hx,c0,c1,c2,hR,hbr⟩:=hL.at hblt hb hlt;obtain⟨x',u,hx',c0',c1',c2',hR',hbr'⟩:=hL'.at hblt' hb hlt;obtain rfl:x=x':=by rw[hx]at hx';exact Option.some.inj hx'
   clear ha ha' hL hL' hx hx';go_wp2_with fail;go_region_held3 (fun w'=>w'.cell? ⟨b,o+k*3,none⟩=some (.string x.s)∧w'.cell? ⟨b,o+k*3+1,none⟩=some (.int .i64 x.W)∧w'.cell? ⟨b,o+k*3+2,none⟩=some v∧w'.cell? ⟨b',o'+k*3,none⟩=some (.string x.s)∧w'.cell? ⟨b',o'+k*3+1,none⟩=some (.int .i64 x.W)∧w'.cell? ⟨b',o'+k*3+2,none⟩=some u) (refine⟨?_,?_,?_,?_,?_,?_⟩<;>first|(go_simp;done)|(exact cL8 (by assumption) (by go_simp))) (first|(go_at_call 24;refine(eqRel_same x.s x.W v u x.cs _ (hR.below bela) (hR'.below bela)).mono ?_;rintro e w1 ⟨rfl,hb1⟩));go_wp2
   go_roundw
   case rel=>exact⟨k+1,hlt,by simp,bela⟩
   case measure=>simp[intOf];omega
  ·go_wp2;go_returns;exact⟨rfl,hb⟩
end
section
open Go.RowKit Go.Deep
def Free (w:World)(F:List Nat):Prop:=∀b∈F,∀o,w.frozen? ⟨b,o,none⟩=false
def OwnB (w:World)(N:Nat)(F:List Nat):Prop:=F.Nodup∧(∀b∈F,N≤b)∧Free w F
structure Chg (F:List Nat)(w w':World):Prop where
 os:w'.os=w.os
 tape:w'.tape=w.tape
 output:w'.output=w.output
 size:w.heap.size≤w'.heap.size
 block:∀k,k<w.heap.size→k∉F→w'.heap[k]?=w.heap[k]?
 free:Free w F→Free w' F
theorem Chg.of_below {w w':World}{F:List Nat}(h:Below w.heap.size w w')(hF:∀b∈F,b<w.heap.size):Chg F w w':=
 ⟨h.os,h.tape,h.output,h.size,fun k hk _=>h.block k hk,fun f b hb o=>(fb8 (h.block b (hF b hb))).trans (f b hb o)⟩
theorem Chg.refl (F:List Nat)(w:World):Chg F w w:=⟨rfl,rfl,rfl,Nat.le_refl _,fun _ _ _=>rfl,id⟩
theorem Chg.trans {a b c:World}{F:List Nat}(h:Chg F a b)(k:Chg F b c):Chg F a c:=
 ⟨k.os.trans h.os,k.tape.trans h.tape,k.output.trans h.output,Nat.le_trans h.size k.size,fun i hi hF=>(k.block i (Nat.lt_of_lt_of_le hi h.size) hF).trans (h.block i hi hF),fun f=>k.free (h.free f)⟩
theorem Chg.setCell {w w':World}{F:List Nat}(h:Chg F w w'){p:Addr}(hp:p.block∈F)(u:Value):Chg F w (w'.setCell p u):=
 ⟨h.os,h.tape,h.output,by simpa using h.size,fun k hk hF=>(bS8 _ _ _ _ (by rintro rfl;exact hF hp)).trans (h.block k hk hF),fun f b hb o=>by rw[World.frozen?_setCell];exact h.free f b hb o⟩
theorem Chg.wide {w w':World}{F G:List Nat}(h:Chg F w w')(hs:∀b∈F,b∈G)(hG:∀b∈G,b∉F→b<w.heap.size):Chg G w w':=
 ⟨h.os,h.tape,h.output,h.size,fun k hk hF=>h.block k hk fun hx=>hF (hs k hx),fun f b hb o=>by
  by_cases hx:b∈F
  ·exact h.free (fun c hc=>f c (hs c hc)) b hx o
  ·exact(fb8 (h.block b (hG b hb hx) hx)).trans (f b hb o)⟩
theorem Chg.below {w w':World}{F:List Nat}{N:Nat}(h:Chg F w w')(hF:∀b∈F,N≤b)(hN:N≤w.heap.size):Below N w w':=
 ⟨h.os,h.tape,h.output,h.size,fun k hk=>h.block k (by omega) fun hx=>by have:=hF k hx;omega⟩
theorem OwnB.keep {w w':World}{N:Nat}{F:List Nat}(h:OwnB w N F)(hF:∀b∈F,w'.heap[b]?=w.heap[b]?):OwnB w' N F:=
 ⟨h.1,h.2.1,fun b hb o=>(fb8 (hF b hb)).trans (h.2.2 b hb o)⟩
def CellsAre (w:World)(b o n:Nat)(f:Nat→Value):Prop:=∀j,j<n→w.cell? ⟨b,o+j,none⟩=some (f j)
theorem CellsAre.set {w:World}{b o n j0:Nat}{f:Nat→Value}(h:CellsAre w b o n f)(hj:j0<n)(u:Value):CellsAre (w.setCell ⟨b,o+j0,none⟩ u) b o n (fun j=>if j=j0 then u else f j):=by
 intro j hjn;show _=some (if j=j0 then u else f j);by_cases e:j=j0
 ·subst e;rw[if_pos rfl];exact cS8 _ _ _ (h j hjn)
 ·rw[if_neg e,cO8 _ _ _ _ (by intro x;have:=congrArg Addr.off x;simp at this;omega)];exact h j hjn
theorem CellsAre.put {w:World}{b o n j0 q:Nat}{f:Nat→Value}(h:CellsAre w b o n f)(hj:j0<n)(hq:q=o+j0)(u:Value):CellsAre (w.setCell ⟨b,q,none⟩ u) b o n (fun j=>if j=j0 then u else f j):=by subst hq;exact h.set hj u
theorem CellsAre.keep {w w':World}{b o n:Nat}{f:Nat→Value}(h:CellsAre w b o n f)(hb:w'.heap[b]?=w.heap[b]?):CellsAre w' b o n f:=fun j hj=>(cb8 hb).trans (h j hj)
theorem CellsAre.congr {w:World}{b o n:Nat}{f g:Nat→Value}(h:CellsAre w b o n f)(e:∀j,j<n→f j=g j):CellsAre w b o n g:=fun j hj=>(h j hj).trans (congrArg some (e j hj))
theorem lies_cells {w:World}{b o:Nat}{vs:List V3}:Lies w b o vs↔CellsAre w b o (vs.length*3) (cf vs):=by
 constructor
 ·intro h j hj;have hi:j/3<vs.length:=by omega
  obtain⟨h0,h1,h2⟩:=h (j/3) vs[j/3] (by simp);obtain⟨e0,e1,e2⟩:=cf_at (vs:=vs) (k:=j/3) (x:=vs[j/3]) (by simp);have hj3:j=j/3*3∨j=j/3*3+1∨j=j/3*3+2:=by omega
  rcases hj3 with e|e|e
  ·rw[e,e0];exact h0
  ·rw[e,e1,←Nat.add_assoc];exact h1
  ·rw[e,e2,←Nat.add_assoc];exact h2
 ·intro h i x hx;have hi:i<vs.length:=(gE1 hx).1;obtain⟨e0,e1,e2⟩:=cf_at hx;refine⟨?_,?_,?_⟩
  ·rw[h (i*3) (by omega),e0]
  ·rw[Nat.add_assoc,h (i*3+1) (by omega),e1]
  ·rw[Nat.add_assoc,h (i*3+2) (by omega),e2]
def RowF (w:World)(v:Value)(vs:List V3)(g:List Nat):Prop:=
 ∃ (a:Option Addr) (c:Nat),v=.slice a vs.length c∧vs.length≤c∧c≤maxLen∧(a=none→c=0)∧(vs=[]→g=[])∧(vs≠ []→∃b o,a=some ⟨b,o,none⟩∧b<w.heap.size∧g=[b]∧Lies w b o vs)
theorem RowF.is {w:World}{v:Value}{vs:List V3}{g:List Nat}(h:RowF w v vs g):RowIs w v vs:=by
 obtain⟨a,c,rfl,hl,hc,_,_,h⟩:=h;refine⟨a,c,rfl,hl,hc,fun hne=>?_⟩;obtain⟨b,o,rfl,hlt,_,hL⟩:=h hne;exact⟨b,o,rfl,hlt,hL⟩
theorem RowF.lt {w:World}{v:Value}{vs:List V3}{g:List Nat}(h:RowF w v vs g):∀b∈g,b<w.heap.size:=by
 obtain⟨a,c,rfl,hl,hc,_,h0,h⟩:=h;intro b hb;by_cases hne:vs=[]
 ·rw[h0 hne]at hb;cases hb
 ·obtain⟨b',o,rfl,hlt,rfl,hL⟩:=h hne;rcases List.mem_singleton.1 hb with rfl;exact hlt
theorem RowF.keep {w w':World}{v:Value}{vs:List V3}{g:List Nat}(h:RowF w v vs g)(hs:w.heap.size≤w'.heap.size)(hg:∀b∈g,w'.heap[b]?=w.heap[b]?):RowF w' v vs g:=by
 obtain⟨a,c,rfl,hl,hc,hz,h0,h⟩:=h;refine⟨a,c,rfl,hl,hc,hz,h0,fun hne=>?_⟩;obtain⟨b,o,rfl,hlt,rfl,hL⟩:=h hne;exact⟨b,o,rfl,Nat.lt_of_lt_of_le hlt hs,rfl,lies_cells.2 ((lies_cells.1 hL).keep (hg b (by simp)))⟩
def RowsF (w:World)(v:Value)(cs:List C2)(F:List Nat):Prop:=
 ∃ (a:Option Addr) (c:Nat) (G:List (List Nat)),v=.slice a cs.length c∧cs.length≤c∧c≤maxLen∧(a=none→c=0)∧G.length=cs.length∧(cs=[]→F=[])∧ (cs≠ []→∃b o,a=some ⟨b,o,none⟩∧b<w.heap.size∧F=b::G.flatten∧∀i x g,cs[i]?=some x→G[i]?=some g→∃u,w.cell? ⟨b,o+i*2,none⟩=some u∧RowF w u x.r g∧w.cell? ⟨b,o+i*2+1,none⟩=some (.int .i64 x.n))
theorem RowsF.is {w:World}{v:Value}{cs:List C2}{F:List Nat}(h:RowsF w v cs F):RowsIs w v cs:=by
 obtain⟨a,c,G,rfl,hl,hc,_,hG,_,h⟩:=h;refine⟨a,c,rfl,hl,hc,fun hne=>?_⟩;obtain⟨b,o,rfl,hlt,_,hL⟩:=h hne;refine⟨b,o,rfl,hlt,fun i x hx=>?_⟩;have hi:i<cs.length:=(gE1 hx).1;have hi':i<G.length:=by omega
 obtain⟨u,h0,h1,h2⟩:=hL i x G[i] hx (by simp);exact⟨u,h0,h1.is,h2⟩
theorem RowsF.lt {w:World}{v:Value}{cs:List C2}{F:List Nat}(h:RowsF w v cs F):∀b∈F,b<w.heap.size:=by
 obtain⟨a,c,G,rfl,hl,hc,_,hG,h0,h⟩:=h;intro x hx;by_cases hne:cs=[]
 ·rw[h0 hne]at hx;cases hx
 obtain⟨b,o,rfl,hlt,rfl,hL⟩:=h hne;rcases List.mem_cons.1 hx with rfl|hx
 ·exact hlt
 obtain⟨g,hg,hxg⟩:=List.mem_flatten.1 hx;obtain⟨i,hi,rfl⟩:=List.mem_iff_getElem.1 hg;have hi':i<cs.length:=by omega
 obtain⟨u,_,hk,_⟩:=hL i cs[i] G[i] (by simp) (by simp);exact hk.lt x hxg
theorem RowsF.keep {w w':World}{v:Value}{cs:List C2}{F:List Nat}(h:RowsF w v cs F)(hs:w.heap.size≤w'.heap.size)(hF:∀b∈F,w'.heap[b]?=w.heap[b]?):RowsF w' v cs F:=by
 obtain⟨a,c,G,rfl,hl,hc,hz,hG,h0,h⟩:=h;refine⟨a,c,G,rfl,hl,hc,hz,hG,h0,fun hne=>?_⟩;obtain⟨b,o,rfl,hlt,rfl,hL⟩:=h hne;refine⟨b,o,rfl,Nat.lt_of_lt_of_le hlt hs,rfl,fun i x g hx hg=>?_⟩;obtain⟨u,a0,a1,a2⟩:=hL i x g hx hg;have hb:=hF b List.mem_cons_self;exact⟨u,(cb8 hb).trans a0,a1.keep hs (fun y hy=>hF y (List.mem_cons_of_mem _ (List.mem_flatten.2 ⟨g,mg8 hg,hy⟩))),(cb8 hb).trans a2⟩
theorem RowsF.below {w w':World}{v:Value}{cs:List C2}{F:List Nat}(h:RowsF w v cs F)(hb:Below w.heap.size w w'):RowsF w' v cs F:=h.keep hb.size fun b hF=>hb.block b (h.lt b hF)
theorem OwnB.below {w w':World}{N:Nat}{F:List Nat}(h:OwnB w N F)(hl:∀b∈F,b<w.heap.size)(hb:Below w.heap.size w w'):OwnB w' N F:=h.keep fun b hF=>hb.block b (hl b hF)
end
section
open Go.RowKit Go.Deep
theorem Tryz.infoCnt:(Tryz.prog.info? 96).map (fun i=>(i.zero,i.size,i.bytes))=some (some (.agg #[.slice none 0 0,.int .i64 0]),2,32):=by kernel_rfl
structure HalfB (w:World)(B0:Nat)(cs:List C2)(g:Nat→Nat)(k:Nat):Prop where
 own:∃f,w.rowIs B0 96 (cs.length*2) f∧∀i x,i<k→cs[i]?=some x→f (i*2)=.slice (some ⟨g i,0,none⟩) x.r.length x.r.length∧f (i*2+1)=.int .i64 x.n
 row:∀i x,i<k→cs[i]?=some x→w.rowIs (g i) 36 (x.r.length*3) (cf x.r)
 above:∀i,i<k→B0<g i
 up:∀i j,i<j→j<k→g i<g j
theorem HalfB.cells {w:World}{B:Nat}{cs:List C2}{g:Nat→Nat}{k:Nat}(h:HalfB w B cs g k)(hk:k<cs.length):(∃u,w.cell? ⟨B,k*2,none⟩=some u)∧(∃u,w.cell? ⟨B,k*2+1,none⟩=some u)∧(∀i,w.frozen? ⟨B,i,none⟩=false)∧B<w.heap.size:=by
 obtain⟨f,h,_⟩:=h.own;exact⟨⟨_,h.cell (by omega)⟩,⟨_,h.cell (by omega)⟩,fun i=>h.frozen i,h.lt⟩
theorem HalfB.lt {w:World}{B:Nat}{cs:List C2}{g:Nat→Nat}{k:Nat}(h:HalfB w B cs g k)(hk:k≤cs.length){i:Nat}(hi:i<k):g i<w.heap.size:=(h.row i cs[i] hi (by simp)).lt
theorem HalfB.below {w w':World}{B:Nat}{cs:List C2}{g:Nat→Nat}{k:Nat}(h:HalfB w B cs g k)(hk:k≤cs.length)(hb:Below w.heap.size w w'):HalfB w' B cs g k:=by
 obtain⟨⟨f,hf,he⟩,h1,h2,h3⟩:=h;exact⟨⟨f,hf.of_block (hb.block _ hf.lt),he⟩,fun i x hi hx=>(h1 i x hi hx).of_block (hb.block _ (h1 i x hi hx).lt),h2,h3⟩
theorem HalfB.keep {w w':World}{B:Nat}{cs:List C2}{g:Nat→Nat}{k:Nat}(h:HalfB w B cs g k)(hk:k≤cs.length)(e:∀b,B≤b→w'.heap[b]?=w.heap[b]?):HalfB w' B cs g k:=by
 obtain⟨⟨f,hf,he⟩,h1,h2,h3⟩:=h;exact⟨⟨f,hf.of_block (e _ (Nat.le_refl _)),he⟩,fun i x hi hx=>(h1 i x hi hx).of_block (e _ (Nat.le_of_lt (h2 i hi))),h2,h3⟩
theorem HalfB.step {w:World}{B D:Nat}{cs:List C2}{g:Nat→Nat}{k:Nat}{x:C2}(h:HalfB w B cs g k)(hx:cs[k]?=some x)(hD:w.rowIs D 36 (x.r.length*3) (cf x.r))(hB:B<D)(hup:∀i,i<k→g i<D):HalfB ((w.setCell ⟨B,k*2,none⟩ (.slice (some ⟨D,0,none⟩) x.r.length x.r.length)).setCell ⟨B,k*2+1,none⟩ (.int .i64 x.n)) B cs (fun i=>if i=k then D else g i) (k+1):=by
 obtain⟨⟨f,hf,he⟩,h1,h2,h3⟩:=h;refine⟨⟨_,(hf.set _ _).set _ _,fun i y hi hy=>?_⟩,fun i y hi hy=>?_,fun i hi=>?_,fun i j hij hj=>?_⟩
 ·by_cases e:i=k
  ·subst e;obtain rfl:y=x:=by rw[hx]at hy;exact(Option.some.inj hy).symm
   simp
  ·have e1:i*2≠k*2:=by omega
   have e2:i*2≠k*2+1:=by omega
   have e3:i*2+1≠k*2:=by omega
   have e4:i*2+1≠k*2+1:=by omega
   simp only[if_neg e1,if_neg e2,if_neg e3,if_neg e4,if_neg e];exact he i y (by omega) hy
 ·by_cases e:i=k
  ·subst e;obtain rfl:y=x:=by rw[hx]at hy;exact(Option.some.inj hy).symm
   simp only[if_true];exact(hD.setOther (by show D≠B;omega) _).setOther (by show D≠B;omega) _
  ·simp only[if_neg e];have:=h2 i (by omega);exact((h1 i y (by omega) hy).setOther (by show g i≠B;omega) _).setOther (by show g i≠B;omega) _
 ·by_cases e:i=k
  ·simp only[if_pos e];exact hB
  ·simp only[if_neg e];exact h2 i (by omega)
 ·by_cases e:j=k
  ·have e':i≠k:=by omega
   simp only[if_pos e,if_neg e'];exact hup i (by omega)
  ·have e':i≠k:=by omega
   simp only[if_neg e,if_neg e'];exact h3 i j hij (by omega)
theorem HalfB.rows {w:World}{B:Nat}{cs:List C2}{g:Nat→Nat}(h:HalfB w B cs g cs.length)(hl:∀x∈cs,x.r.length≤maxLen)(hm:cs.length≤maxLen):RowsIs w (.slice (some ⟨B,0,none⟩) cs.length cs.length) cs:=by
 obtain⟨f,hf,he⟩:=h.own;refine⟨_,_,rfl,Nat.le_refl _,hm,fun _=>⟨B,0,rfl,hf.lt,fun i x hx=>?_⟩⟩;have hi:i<cs.length:=(gE1 hx).1;obtain⟨e0,e1⟩:=he i x hi hx;refine⟨_,by rw[Nat.zero_add,hf.cell (by omega),e0],rowIs_row (h.row i x hi hx) (Nat.le_refl _) (hl x (mg8 hx)),by rw[Nat.zero_add,hf.cell (by omega),e1]⟩
theorem halfB_made (w:World)(z:Array Value)(cs:List C2)(g:Nat→Nat):HalfB (w.alloc (.cells (madeCells z (cs.length*2)) 96)) w.heap.size cs g 0:=
 ⟨⟨fun i=>(madeCells z (cs.length*2))[i]?.getD undef,⟨_,blk_alloc_new _ _,size_madeCells _ _,fun i hi=>by
  have:i<(madeCells z (cs.length*2)).size:=by rw[size_madeCells];exact hi
  simp[this]⟩,fun i x hi=>by omega⟩,fun i x hi=>by omega,fun i hi=>by omega,fun i j _ hj=>by omega⟩
theorem toCounted_any (v:Value)(r:List V3)(n:Int)(w:World)(hr:RowIs w v r)(hn:r.length≤1048576):Calls Tryz.prog 77 #[.agg #[v,.int .i64 n]] w fun e w'=>(∃B,w.heap.size≤B∧e=.returned (.agg #[.slice (some ⟨B,0,none⟩) r.length r.length,.int .i64 n])∧w'.rowIs B 36 (r.length*3) (cf r))∧Below w.heap.size w w':=by
 have hb0:∀o p q,Below w.heap.size w (((w.alloc o).alloc p).alloc q):=fun o p q=>(((Below.refl _ _).alloc (Nat.le_refl _) o).alloc (by simp) p).alloc (by simp;omega) q;go_enter Tryz.func77,Tryz.ntmps77;go_wp2_with fail;refine(toValueS_any v r _ (hr.below (hb0 _ _ _)) hn).mono ?_;rintro e w1 ⟨rfl,hR1,hb1⟩;have hz1:=hb1.size;simp only[World.size_alloc]at hz1 hR1;have hf1:=(bc8 hb1).2;have hy:w.heap.size+1+1<w1.heap.size:=by omega
 have hy1:w.heap.size+1<w1.heap.size:=by omega
 have hy0:w.heap.size<w1.heap.size:=by omega
 have q0:w1.cell? ⟨w.heap.size,1,none⟩=some (.int .i64 n):=cL8 hb1 (by go_simp);have p0:w1.cell? ⟨w.heap.size+1,0,none⟩=some (.slice none 0 0):=cL8 hb1 (by go_simp);have p1:w1.cell? ⟨w.heap.size+1,1,none⟩=some (.int .i64 0):=cL8 hb1 (by go_simp);have t0:w1.cell? ⟨w.heap.size+1+1,0,none⟩=some (.slice none 0 0):=cL8 hb1 (by go_simp);have t1:w1.cell? ⟨w.heap.size+1+1,1,none⟩=some (.int .i64 0):=cL8 hb1 (by go_simp);go_wp2;refine bodyPost_ret (v:=.agg #[.slice (some ⟨w.heap.size+1+1+1,0,none⟩) r.length r.length,.int .i64 n]) (by simp[results,Tryz.results77,go_sem, *]) rfl ⟨⟨w.heap.size+1+1+1,by omega,rfl,?_⟩,?_⟩
 ·refine hR1.of_block ?_;repeat rw[bS8 _ _ _ _ (by simp;try omega)]
 ·exact bela
theorem toCountedS_any (v:Value)(cs:List C2)(w:World)(hr:RowsIs w v cs)(hn:wtb cs≤1048576):Calls Tryz.prog 57 #[v] w fun e w'=>(∃g,e=.returned (.slice (some ⟨w.heap.size,0,none⟩) cs.length cs.length)∧HalfB w' w.heap.size cs g cs.length)∧Below w.heap.size w w':=by
 obtain⟨a,c,b,o,rfl,hl,hc,ha⟩:=hr.pick;unfold maxLen at hc;clear hr;have hn1:cs.length≤1048576:=by unfold wtb at hn;omega
 have hmk:=run_make_wide (P:=Tryz.prog) 58 96 _ 2 32 Tryz.underlying58 Tryz.infoCnt cs.length (by omega) (by omega);go_enter Tryz.func57,Tryz.ntmps57;go_wp2;go_loopw [4] (fun i wr=> ∃ (k:Nat) (g:Nat→Nat),k≤cs.length∧i=.int .i64 k∧Below w.heap.size w wr∧HalfB wr w.heap.size cs g k) (fun i _=>cs.length - (intOf i).toNat)
 case atStart=>exact⟨0,fun _=>0,Nat.zero_le _,rfl,by go_grown,halfB_made _ _ _ _⟩
 case round=>
  obtain⟨k,g,hk,rfl,hb,hH⟩:=hrel;clear hmk;by_cases hlt:k<cs.length
  ·have hzb:=hb.size;obtain⟨rfl,hblt,hL⟩:=ha k hlt;obtain⟨x,u,hx,c0,hR,c1,hbr⟩:=hL.at hblt hb hlt;have HX:Hid (cs[k]?=some x):=hx;have hxn:x.r.length≤1048576:=by have:=wt_mem (mg8 hx);unfold wt at this;unfold wtb at hn;omega
   have hBr:=(hH.cells hlt).2.2.2;clear ha hL hx;go_wp2_with(go_at_call 77;refine(toCounted_any _ _ _ _ hR hxn).mono ?_;rintro e w1 ⟨⟨D,hD,rfl,hRD⟩,hb1⟩;have hz1:=hb1.size;have hH1:=hH.below hk hb1;obtain⟨⟨y0,g0⟩,⟨y1,g1⟩,gf,gs⟩:=hH1.cells hlt);refine⟨⟨k+1,_,hlt,by simp,bela,hH1.step HX.out hRD (by omega) (fun i hi=>Nat.lt_of_lt_of_le (hH.lt hk hi) hD)⟩,by simp[intOf];omega⟩
  ·go_wp2;go_returns;obtain rfl:k=cs.length:=by omega
   exact⟨⟨g,rfl,hH⟩,hb⟩
theorem toBag_any (W:Int)(v:Value)(cs:List C2)(w:World)(hr:RowsIs w v cs)(hn:wtb cs≤1048576):Calls Tryz.prog 35 #[.agg #[.int .i64 W,v]] w fun e w'=>(∃B g,w.heap.size≤B∧e=.returned (.agg #[.int .i64 W,.slice (some ⟨B,0,none⟩) cs.length cs.length])∧HalfB w' B cs g cs.length)∧Below w.heap.size w w':=by
 go_enter Tryz.func35,Tryz.ntmps35;go_wp2_with fail;refine cM8 (toCountedS_any v cs _ (hr.below ?hb) hn) ?_
 case hb=>exact bela
 rintro e w1 ⟨⟨g,rfl,hH1⟩,hb1⟩;have hz1:=hb1.size;simp only[World.size_alloc]at hz1 hH1;have hf1:=(bc8 hb1).2;have hy:w.heap.size+1+1<w1.heap.size:=by omega
 have hy1:w.heap.size+1<w1.heap.size:=by omega
 have hy0:w.heap.size<w1.heap.size:=by omega
 have p0:w1.cell? ⟨w.heap.size+1,0,none⟩=some (.int .i64 0):=cL8 hb1 (by go_simp);have p1:w1.cell? ⟨w.heap.size+1,1,none⟩=some (.slice none 0 0):=cL8 hb1 (by go_simp);have t0:w1.cell? ⟨w.heap.size+1+1,0,none⟩=some (.int .i64 W):=cL8 hb1 (by go_simp);have t1:w1.cell? ⟨w.heap.size+1+1,1,none⟩=some (.slice none 0 0):=cL8 hb1 (by go_simp);go_wp2;refine bodyPost_ret (v:=.agg #[.int .i64 W,.slice (some ⟨w.heap.size+1+1+1,0,none⟩) cs.length cs.length]) (by simp[results,Tryz.results35,go_sem, *]) rfl ⟨⟨w.heap.size+1+1+1,g,by omega,by simp,?_⟩,?_⟩
 ·refine hH1.keep (Nat.le_refl _) fun b hb=>?_;repeat rw[bS8 _ _ _ _ (by simp;try omega)]
 ·exact bela
end
section
open Go.RowKit Go.Deep
theorem Tryz.infoRel:(Tryz.prog.info? 62).map (fun i=>(i.zero,i.size,i.bytes))=some (some (.agg #[.string ⟨#[]⟩,.int .i64 0,.slice none 0 0]),3,48):=by kernel_rfl
def HalfR (w:World)(B0:Nat)(rs:List R3)(k:Nat):Prop:=
 ∃f,w.rowIs B0 62 (rs.length*3) f∧∀i x,i<k→rs[i]?=some x→f (i*3)=.string x.s∧f (i*3+1)=.int .i64 x.W∧∃B g,B0<B∧f (i*3+2)=.slice (some ⟨B,0,none⟩) x.cs.length x.cs.length∧HalfB w B x.cs g x.cs.length
theorem HalfR.cells {w:World}{B:Nat}{rs:List R3}{k:Nat}(h:HalfR w B rs k)(hk:k<rs.length):(∃u,w.cell? ⟨B,k*3,none⟩=some u)∧(∃u,w.cell? ⟨B,k*3+1,none⟩=some u)∧(∃u,w.cell? ⟨B,k*3+2,none⟩=some u)∧(∀i,w.frozen? ⟨B,i,none⟩=false)∧B<w.heap.size:=by
 obtain⟨f,h,_⟩:=h;exact⟨⟨_,h.cell (by omega)⟩,⟨_,h.cell (by omega)⟩,⟨_,h.cell (by omega)⟩,fun i=>h.frozen i,h.lt⟩
theorem HalfR.below {w w':World}{B:Nat}{rs:List R3}{k:Nat}(h:HalfR w B rs k)(hb:Below w.heap.size w w'):HalfR w' B rs k:=by
 obtain⟨f,hf,he⟩:=h;refine⟨f,hf.of_block (hb.block _ hf.lt),fun i x hi hx=>?_⟩;obtain⟨h0,h1,B,g,hB,h2,hH⟩:=he i x hi hx;exact⟨h0,h1,B,g,hB,h2,hH.below (Nat.le_refl _) hb⟩
theorem HalfR.step {w:World}{B D:Nat}{rs:List R3}{g:Nat→Nat}{k:Nat}{x:R3}(h:HalfR w B rs k)(hx:rs[k]?=some x)(hD:HalfB w D x.cs g x.cs.length)(hB:B<D):HalfR (((w.setCell ⟨B,k*3,none⟩ (.string x.s)).setCell ⟨B,k*3+1,none⟩ (.int .i64 x.W)).setCell ⟨B,k*3+2,none⟩ (.slice (some ⟨D,0,none⟩) x.cs.length x.cs.length)) B rs (k+1):=by
 obtain⟨f,hf,he⟩:=h;have hblk:∀b,B<b→(((w.setCell ⟨B,k*3,none⟩ (.string x.s)).setCell ⟨B,k*3+1,none⟩ (.int .i64 x.W)).setCell ⟨B,k*3+2,none⟩ (.slice (some ⟨D,0,none⟩) x.cs.length x.cs.length)).heap[b]?=w.heap[b]?:=by
  intro b hb;repeat rw[bS8 _ _ _ _ (by show b≠B;omega)]
 refine⟨_,((hf.set _ _).set _ _).set _ _,fun i y hi hy=>?_⟩;by_cases e:i=k
 ·subst e;obtain rfl:y=x:=by rw[hx]at hy;exact(Option.some.inj hy).symm
  refine⟨by simp,by simp,D,g,hB,by simp,hD.keep (Nat.le_refl _) fun b hb=>hblk b (by omega)⟩
 ·have n:∀p q:Nat,p<3→q<3→i*3+p≠k*3+q:=by intro p q hp hq;omega
  have n0:∀q:Nat,q<3→i*3≠k*3+q:=by intro q hq;omega
  have n1:∀p:Nat,p<3→i*3+p≠k*3:=by intro q hq;omega
  have n2:i*3≠k*3:=by omega
  obtain⟨h0,h1,D',g',hB',h2,hH⟩:=he i y (by omega) hy;refine⟨?_,?_,D',g',hB',?_,hH.keep (Nat.le_refl _) fun b hb=>hblk b (by omega)⟩
  ·simp only[if_neg n2,if_neg (n0 1 (by omega)),if_neg (n0 2 (by omega))];exact h0
  ·simp only[if_neg (n1 1 (by omega)),if_neg (n 1 1 (by omega) (by omega)),if_neg (n 1 2 (by omega) (by omega))];exact h1
  ·simp only[if_neg (n1 2 (by omega)),if_neg (n 2 1 (by omega) (by omega)),if_neg (n 2 2 (by omega) (by omega))];exact h2
theorem wtb_rows {cs:List C2}(h:wtb cs≤1048576):(∀x∈cs,x.r.length≤maxLen)∧cs.length≤maxLen:=
 ⟨fun x hx=>by have:=wt_mem hx;unfold wt at this;unfold wtb at h;unfold maxLen;omega,by unfold wtb at h;unfold maxLen;omega⟩
theorem toRel_any (s:ByteArray)(W:Int)(v:Value)(cs:List C2)(w:World)(hr:RowsIs w v cs)(hn:wtb cs≤1048576):Calls Tryz.prog 19 #[.agg #[.string s,.int .i64 W,v]] w fun e w'=>(∃B g,w.heap.size≤B∧e=.returned (.agg #[.string s,.int .i64 W,.slice (some ⟨B,0,none⟩) cs.length cs.length])∧HalfB w' B cs g cs.length)∧Below w.heap.size w w':=by
 obtain⟨a,l,c,rfl⟩:=hr.shape;go_enter Tryz.func19,Tryz.ntmps19;go_wp2_with fail;refine cM8 (toBag_any W (.slice a l c) cs _ (hr.below ?hb) hn) ?_
 case hb=>exact bela
 rintro e w1 ⟨⟨B,g,hB,rfl,hH1⟩,hb1⟩;have hz1:=hb1.size;simp only[World.size_alloc]at hz1 hB;have hf1:=(bc8 hb1).2;have hy:w.heap.size+1+1<w1.heap.size:=by omega
 have hy1:w.heap.size+1<w1.heap.size:=by omega
 have hy0:w.heap.size<w1.heap.size:=by omega
 have p0:w1.cell? ⟨w.heap.size+1,0,none⟩=some (.string ⟨#[]⟩):=cL8 hb1 (by go_simp);have p1:w1.cell? ⟨w.heap.size+1,1,none⟩=some (.int .i64 0):=cL8 hb1 (by go_simp);have p2:w1.cell? ⟨w.heap.size+1,2,none⟩=some (.slice none 0 0):=cL8 hb1 (by go_simp);have t0:w1.cell? ⟨w.heap.size+1+1,0,none⟩=some (.string s):=cL8 hb1 (by go_simp);have t1:w1.cell? ⟨w.heap.size+1+1,1,none⟩=some (.int .i64 0):=cL8 hb1 (by go_simp);have t2:w1.cell? ⟨w.heap.size+1+1,2,none⟩=some (.slice none 0 0):=cL8 hb1 (by go_simp);go_wp2;refine bodyPost_ret (v:=.agg #[.string s,.int .i64 W,.slice (some ⟨B,0,none⟩) cs.length cs.length]) (by simp[results,Tryz.results19,go_sem, *]) rfl ⟨⟨B,g,by omega,by simp,?_⟩,?_⟩
 ·refine hH1.keep (Nat.le_refl _) fun b hb=>?_;repeat rw[bS8 _ _ _ _ (by simp;try omega)]
 ·exact bela
end
section
open Go.RowKit Go.Deep
theorem HalfB.rowsF {w:World}{B:Nat}{cs:List C2}{g:Nat→Nat}(h:HalfB w B cs g cs.length)(hl:∀x∈cs,x.r.length≤maxLen)(hm:cs.length≤maxLen):∃F,RowsF w (.slice (some ⟨B,0,none⟩) cs.length cs.length) cs F∧OwnB w B F:=by
 obtain⟨f,hf,he⟩:=h.own;by_cases hne:cs=[]
 ·exact⟨[],⟨_,_,[],rfl,Nat.le_refl _,hm,(fun x=>by cases x),by rw[hne];rfl,fun _=>rfl,fun x=>absurd hne x⟩,by simp[OwnB,Free]⟩
 let G:List (List Nat):=(List.range cs.length).map fun i=>if(cs.getD i ⟨[],0⟩).r=[]then[]else[g i]
 have hGl:G.length=cs.length:=by simp[G]
 have hGi:∀i q,G[i]?=some q→i<cs.length∧q=if(cs.getD i ⟨[],0⟩).r=[]then[]else[g i]:=by
  intro i q hq;have hi:i<cs.length:=by have:=(gE1 hq).1;omega
  refine⟨hi,?_⟩;simp[G,hi]at hq;rw[←hq];simp[hi]
 have hmem:∀b∈G.flatten,∃i,i<cs.length∧b=g i:=by
  intro b hb;obtain⟨q,hq,hbq⟩:=List.mem_flatten.1 hb;obtain⟨i,hi,rfl⟩:=List.mem_iff_getElem.1 hq;obtain⟨hi',e⟩:=hGi i G[i] (by simp);rw[e]at hbq;split at hbq
  ·cases hbq
  ·exact⟨i,hi',List.mem_singleton.1 hbq⟩
 refine⟨B::G.flatten,⟨_,_,G,rfl,Nat.le_refl _,hm,(fun x=>by cases x),hGl,fun x=>absurd x hne,fun _=>⟨B,0,rfl,hf.lt,rfl,fun i x q hx hq=>?_⟩⟩,?_,fun b hb=>?_,fun b hb o=>?_⟩
 ·obtain⟨hi,eq⟩:=hGi i q hq;obtain⟨e0,e1⟩:=he i x hi hx;have ex:cs.getD i ⟨[],0⟩=x:=by simp[List.getD,hx]
  rw[ex]at eq;have hrow:=h.row i x hi hx;refine⟨.slice (some ⟨g i,0,none⟩) x.r.length x.r.length,by rw[Nat.zero_add,hf.cell (by omega),e0],⟨_,_,rfl,Nat.le_refl _,hl x (mg8 hx),(fun x=>by cases x),fun e=>by rw[eq,if_pos e],fun hn=>⟨g i,0,rfl,hrow.lt,by rw[eq,if_neg hn],?_⟩⟩,by rw[Nat.zero_add,hf.cell (by omega),e1]⟩;refine lies_cells.2 fun j hj=>?_;rw[Nat.zero_add];exact hrow.cell hj
 ·refine List.nodup_cons.2 ⟨fun hb=>?_,?_⟩
  ·obtain⟨i,hi,e⟩:=hmem B hb;have:=h.above i hi;omega
  ·rw[List.Nodup,List.pairwise_flatten];constructor
   ·intro q hq;obtain⟨i,hi,rfl⟩:=List.mem_iff_getElem.1 hq;obtain⟨hi',e⟩:=hGi i G[i] (by simp);rw[e];split<;>simp
   ·rw[List.pairwise_iff_getElem];intro i j hi hj hij x hx y hy;obtain⟨hi',ei⟩:=hGi i G[i] (by simp);obtain⟨hj',ej⟩:=hGi j G[j] (by simp);rw[ei]at hx;rw[ej]at hy;split at hx
    ·cases hx
    ·split at hy
     ·cases hy
     ·have:=h.up i j hij hj';have e1:=List.mem_singleton.1 hx;have e2:=List.mem_singleton.1 hy;omega
 ·rcases List.mem_cons.1 hb with rfl|hb
  ·exact Nat.le_refl _
  ·obtain⟨i,hi,rfl⟩:=hmem b hb;exact Nat.le_of_lt (h.above i hi)
 ·rcases List.mem_cons.1 hb with rfl|hb
  ·exact hf.frozen o
  ·obtain⟨i,hi,rfl⟩:=hmem b hb;exact(h.row i cs[i] hi (by simp)).frozen o
end
end Go.Proofs.YtflokiejcjjbiaaGreat
