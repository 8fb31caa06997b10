/- Own texts, joined: contracts that the law's proof goes by. -/
import Derived.Test.YtjhhmnjpojnoiaaGreatDoorGLWithViews1
import Derived.Handy
import Derived.Test.YtjhhmnjpojnoiaaGreatDoorGLWithViews2
import Derived.Deep.RegionHeld3
set_option maxHeartbeats 16000000
set_option maxRecDepth 100000
set_option linter.unusedVariables false
set_option linter.unusedSimpArgs false
namespace Go.Proofs.YtjhhmnjpojnoiaaGreatDoor
section
section
open Go.RowKit
theorem eqValue_same (k n:Int)(s:ByteArray)(w:World):Calls Tryz.prog 106 #[(.agg #[.int .i64 k,.int .i64 n,.string s]),(.agg #[.int .i64 k,.int .i64 n,.string s])] w fun e w'=>e=.returned (.bool true)∧Below w.heap.size w w':=by
 go_enter Tryz.func106,Tryz.ntmps106;go_wp2;go_returns;exact⟨rfl,by go_grown⟩
end
section
open Go.RowKit
theorem szValueS_any (v:Value)(vs:List V3)(left:Int)(w:World)(hr:RowIs w v vs)(hw:VsWf vs)(h0:0≤left)(h1:left≤1048576):Calls Tryz.prog 107 #[v,.int .i64 left] w fun e w'=>(∃z:Int,e=.returned (.int .i64 z)∧ -1≤z∧z≤left∧(0≤z→z+wt vs=left))∧Below w.heap.size w w':=by
 obtain⟨a,c,b,o,rfl,hl,hc,ha⟩:=hr.pick;unfold maxLen at hc;by_cases hbig:left -vs.length<0
 ·go_enter Tryz.func107,Tryz.ntmps107;go_wp2;go_returns;exact⟨⟨-1,rfl,by omega,by omega,by omega⟩,by go_grown⟩
 go_enter Tryz.func107,Tryz.ntmps107;go_wp2;go_loopw [1,5] (fun l i wr=> ∃k:Nat,k≤vs.length∧i=.int .i64 k∧l=.int .i64 (left -vs.length -wts (vs.take k))∧0≤left -vs.length -wts (vs.take k)∧Below w.heap.size w wr) (fun _ i _=>vs.length - (intOf i).toNat)
 case atStart=>exact⟨0,Nat.zero_le _,rfl,by simp[wts],by simp[wts];omega,by go_grown⟩
 case round=>
  obtain⟨k,hk,rfl,rfl,hp,hb⟩:=hrel;by_cases hlt:k<vs.length
  ·have hzb:=hb.size;obtain⟨rfl,hblt,hL⟩:=ha k hlt;obtain⟨x,hx,c0,c1,c2,hbr⟩:=hL.at hblt hb hlt;have hxs:x.s.size≤maxLen:=(hw x (mg8 hx)).2.2;have hT:Hid (wts (vs.take (k+1))=wts (vs.take k)+x.s.size):=wts_take hx;clear ha hL hw;go_wp2_with(go_at_call 89;refine(szValue_any _ _ _ _ _ (by omega) (by omega) hxs).mono ?_;rintro e w1 ⟨rfl,hb1⟩)
   ·go_returns;exact⟨⟨-1,rfl,by omega,by omega,by omega⟩,hb.trans (hb1.mono hb.size)⟩
   ·have hs0:szV x.s (left -vs.length -wts (vs.take k))=left -vs.length -wts (vs.take (k+1))∧0≤left -vs.length -wts (vs.take (k+1)):=by
     have h9:0≤szV x.s (left -vs.length -wts (vs.take k)):=by assumption
     have hT:=hT.out;unfold szV at h9⊢;split at h9
     ·omega
     ·rw[if_neg (by omega)];omega
    refine⟨⟨k+1,hlt,by simp,by rw[hs0.1],hs0.2,hb.trans (hb1.mono hb.size)⟩,by simp[intOf];omega⟩
  ·go_wp2;go_returns;have hkk:k=vs.length:=by omega
   subst hkk;refine⟨⟨_,rfl,by omega,by omega,fun _=>?_⟩,hb⟩;rw[List.take_length];unfold wt;omega
theorem eqValueS_same (v u:Value)(vs:List V3)(w:World)(hr:RowIs w v vs)(hu:RowIs w u vs):Calls Tryz.prog 126 #[v,u] w fun e w'=>e=.returned (.bool true)∧Below w.heap.size w w':=by
 obtain⟨a,c,b,o,rfl,hl,hc,ha⟩:=hr.pick;obtain⟨a',c',b',o',rfl,hl',hc',ha'⟩:=hu.pick;unfold maxLen at hc hc';clear hr hu;go_enter Tryz.func126,Tryz.ntmps126;go_wp2;go_loopw [5] (fun i wr=> ∃k:Nat,k≤vs.length∧i=.int .i64 k∧Below w.heap.size w wr) (fun i _=>vs.length - (intOf i).toNat)
 case atStart=>exact⟨0,Nat.zero_le _,rfl,by go_grown⟩
 case round=>
  obtain⟨k,hk,rfl,hb⟩:=hrel;by_cases hlt:k<vs.length
  ·have hzb:=hb.size;obtain⟨rfl,hblt,hL⟩:=ha k hlt;obtain⟨rfl,hblt',hL'⟩:=ha' k hlt;obtain⟨x,hx,c0,c1,c2,hbr⟩:=hL.at hblt hb hlt;obtain⟨x',hx',c0',c1',c2',hbr'⟩:=hL'.at hblt' hb hlt;obtain rfl:x=x':=by rw[hx]at hx';exact Option.some.inj hx'
   clear ha ha' hL hL' hx hx';go_wp2_with fail;go_region_held3 (fun w'=>w'.cell? ⟨b,o+k*3,none⟩=some (.int .i64 x.k)∧w'.cell? ⟨b,o+k*3+1,none⟩=some (.int .i64 x.n)∧w'.cell? ⟨b,o+k*3+2,none⟩=some (.string x.s)∧w'.cell? ⟨b',o'+k*3,none⟩=some (.int .i64 x.k)∧w'.cell? ⟨b',o'+k*3+1,none⟩=some (.int .i64 x.n)∧w'.cell? ⟨b',o'+k*3+2,none⟩=some (.string x.s)) (refine⟨?_,?_,?_,?_,?_,?_⟩<;>first|(go_simp;done)|(exact cL8 (by assumption) (by go_simp))) (first|(go_at_call 106;refine(eqValue_same _ _ _ _).mono ?_;rintro e w1 ⟨rfl,hb1⟩));go_wp2
   go_roundw
   case rel=>exact⟨k+1,hlt,by simp,bela⟩
   case measure=>simp[intOf];omega
  ·go_wp2;go_returns;exact⟨rfl,hb⟩
end
section
open Go.RowKit
theorem RowsIs.pick {w:World}{v:Value}{cs:List C2}(h:RowsIs w v cs):∃a c b o,v=.slice a cs.length c∧cs.length≤c∧c≤maxLen∧∀k,k<cs.length→a=some ⟨b,o,none⟩∧b<w.heap.size∧CLies w b o cs:=by
 obtain⟨a,c,rfl,hl,hc,h⟩:=h;by_cases hne:cs=[]
 ·exact⟨a,c,0,0,rfl,hl,hc,fun k hk=>by rw[hne]at hk;simp at hk⟩
 ·obtain⟨b,o,h⟩:=h hne;exact⟨a,c,b,o,rfl,hl,hc,fun _ _=>h⟩
theorem RowIs.shape {w:World}{v:Value}{vs:List V3}(h:RowIs w v vs):∃a l c,v=.slice a l c:=by
 obtain⟨a,c,h,_⟩:=h;exact⟨a,_,c,h⟩
theorem RowsIs.shape {w:World}{v:Value}{cs:List C2}(h:RowsIs w v cs):∃a l c,v=.slice a l c:=by
 obtain⟨a,c,h,_⟩:=h;exact⟨a,_,c,h⟩
theorem CLies.at {w w':World}{b o:Nat}{cs:List C2}(h:CLies w b o cs)(hlt:b<w.heap.size)(hb:Below w.heap.size w w'){k:Nat}(hk:k<cs.length):∃x v,cs[k]?=some x∧w'.cell? ⟨b,o+k*2,none⟩=some v∧RowIs w' v x.r∧w'.cell? ⟨b,o+k*2+1,none⟩=some (.int .i64 x.n)∧b<w'.heap.size:=by
 obtain⟨v,h0,h1,h2⟩:=h.below hb hlt k cs[k] (by simp[hk]);exact⟨cs[k],v,by simp[hk],h0,h1,h2,Nat.lt_of_lt_of_le hlt hb.size⟩
def wtcs (cs:List C2):Nat:=(cs.map fun x=>wt x.r).sum
def wtb (cs:List C2):Nat:=cs.length+wtcs cs
theorem wtcs_take {cs:List C2}{k:Nat}{x:C2}(h:cs[k]?=some x):wtcs (cs.take (k+1))=wtcs (cs.take k)+wt x.r:=by
 unfold wtcs;obtain⟨hk,rfl⟩:=gE1 h;rw[List.take_succ_eq_append_getElem hk,List.map_append,List.sum_append];simp only[List.map_cons,List.map_nil,List.sum_cons,List.sum_nil,Nat.add_zero]
theorem wt_mem {cs:List C2}{x:C2}(h:x∈cs):wt x.r≤wtcs cs:=by
 unfold wtcs;induction cs with
 |nil=>cases h
 |cons y ys ih=>
  simp only[List.map_cons,List.sum_cons];rcases List.mem_cons.1 h with rfl|h
  ·omega
  ·have:=ih h;omega
theorem szCounted_any (v:Value)(r:List V3)(n left:Int)(w:World)(hr:RowIs w v r)(hw:VsWf r)(h0:0≤left)(h1:left≤1048576):Calls Tryz.prog 88 #[.agg #[v,.int .i64 n],.int .i64 left] w fun e w'=>(∃z:Int,e=.returned (.int .i64 z)∧ -1≤z∧z≤left∧(0≤z→z+wt r=left))∧Below w.heap.size w w':=by
 have hb0:∀o,Below w.heap.size w (w.alloc o):=fun o=>(Below.refl _ _).alloc (Nat.le_refl _) o;obtain⟨a,c,hv,_⟩:=hr.pick;go_enter Tryz.func88,Tryz.ntmps88;go_wp2_with fail;refine(szValueS_any v r left _ (hr.below (hb0 _)) hw h0 h1).mono ?_;rintro e w1 ⟨⟨z1,rfl,l1,g1,s1⟩,hb1⟩;have hz1:=hb1.size;simp only[World.size_alloc]at hz1;by_cases hn1:z1<0
 ·go_wp2_with fail;go_returns;exact⟨⟨-1,rfl,by omega,by omega,by omega⟩,bela⟩
 ·go_wp2_with fail;go_returns;exact⟨⟨z1,rfl,by omega,by omega,s1⟩,bela⟩
theorem szCountedS_any (v:Value)(cs:List C2)(left:Int)(w:World)(hr:RowsIs w v cs)(hw:CsWf cs)(h0:0≤left)(h1:left≤1048576):Calls Tryz.prog 57 #[v,.int .i64 left] w fun e w'=>(∃z:Int,e=.returned (.int .i64 z)∧ -1≤z∧z≤left∧(0≤z→z+wtb cs=left))∧Below w.heap.size w w':=by
 obtain⟨a,c,b,o,rfl,hl,hc,ha⟩:=hr.pick;unfold maxLen at hc;by_cases hbig:left -cs.length<0
 ·go_enter Tryz.func57,Tryz.ntmps57;go_wp2;go_returns;exact⟨⟨-1,rfl,by omega,by omega,by omega⟩,by go_grown⟩
 go_enter Tryz.func57,Tryz.ntmps57;go_wp2;go_loopw [1,5] (fun l i wr=> ∃k:Nat,k≤cs.length∧i=.int .i64 k∧l=.int .i64 (left -cs.length -wtcs (cs.take k))∧0≤left -cs.length -wtcs (cs.take k)∧Below w.heap.size w wr) (fun _ i _=>cs.length - (intOf i).toNat)
 case atStart=>exact⟨0,Nat.zero_le _,rfl,by simp[wtcs],by simp[wtcs];omega,by go_grown⟩
 case round=>
  obtain⟨k,hk,rfl,rfl,hp,hb⟩:=hrel;by_cases hlt:k<cs.length
  ·have hzb:=hb.size;obtain⟨rfl,hblt,hL⟩:=ha k hlt;obtain⟨x,u,hx,c0,hR,c1,hbr⟩:=hL.at hblt hb hlt;have hxw:VsWf x.r:=(hw x (mg8 hx)).1;have hT:Hid (wtcs (cs.take (k+1))=wtcs (cs.take k)+wt x.r):=wtcs_take hx;have hp1:left -cs.length -wtcs (cs.take k)≤1048576:=by omega
   clear ha hL hw hx;go_wp2_with(go_at_call 88;refine(szCounted_any _ _ _ _ _ hR hxw hp hp1).mono ?_;rintro e w1 ⟨⟨z1,rfl,l1,g1,s1⟩,hb1⟩)
   ·go_returns;exact⟨⟨-1,rfl,by omega,by omega,by omega⟩,hb.trans (hb1.mono hb.size)⟩
   ·have h9:0≤z1:=by assumption
    have e1:=s1 h9;have hT:=hT.out;refine⟨⟨k+1,hlt,by simp,by congr 1;omega,by omega,hb.trans (hb1.mono hb.size)⟩,by simp[intOf];omega⟩
  ·go_wp2;go_returns;have hkk:k=cs.length:=by omega
   subst hkk;refine⟨⟨_,rfl,by omega,by omega,fun _=>?_⟩,hb⟩;rw[List.take_length];unfold wtb;omega
theorem szBag_any (W:Int)(v:Value)(cs:List C2)(left:Int)(w:World)(hr:RowsIs w v cs)(hw:CsWf cs)(h0:0≤left)(h1:left≤1048576):Calls Tryz.prog 35 #[.agg #[.int .i64 W,v],.int .i64 left] w fun e w'=>(∃z:Int,e=.returned (.int .i64 z)∧ -1≤z∧z≤left∧(0≤z→z+wtb cs=left))∧Below w.heap.size w w':=by
 have hb0:∀o,Below w.heap.size w (w.alloc o):=fun o=>(Below.refl _ _).alloc (Nat.le_refl _) o;go_enter Tryz.func35,Tryz.ntmps35;go_wp2_with fail;refine(szCountedS_any v cs left _ (hr.below (hb0 _)) hw h0 h1).mono ?_;rintro e w1 ⟨⟨z1,rfl,l1,g1,s1⟩,hb1⟩;have hz1:=hb1.size;simp only[World.size_alloc]at hz1;by_cases hn1:z1<0
 ·go_wp2_with fail;go_returns;exact⟨⟨-1,rfl,by omega,by omega,by omega⟩,bela⟩
 ·go_wp2_with fail;go_returns;exact⟨⟨z1,rfl,by omega,by omega,s1⟩,bela⟩
theorem eqCounted_same (v u:Value)(r:List V3)(n:Int)(w:World)(hr:RowIs w v r)(hu:RowIs w u r):Calls Tryz.prog 105 #[.agg #[v,.int .i64 n],.agg #[u,.int .i64 n]] w fun e w'=>e=.returned (.bool true)∧Below w.heap.size w w':=by
 have hb0:∀o p,Below w.heap.size w ((w.alloc o).alloc p):=fun o p=>((Below.refl _ _).alloc (Nat.le_refl _) o).alloc (by simp) p;go_enter Tryz.func105,Tryz.ntmps105;go_wp2_with fail;refine(eqValueS_same v u r _ (hr.below (hb0 _ _)) (hu.below (hb0 _ _))).mono ?_;rintro e w1 ⟨rfl,hb1⟩;have hz1:=hb1.size;simp only[World.size_alloc]at hz1;have q0:w1.cell? ⟨w.heap.size,1,none⟩=some (.int .i64 n):=cL8 hb1 (by go_simp);have q1:w1.cell? ⟨w.heap.size+1,1,none⟩=some (.int .i64 n):=cL8 hb1 (by go_simp);go_wp2;go_returns;exact⟨rfl,bela⟩
theorem eqCountedS_same (v u:Value)(cs:List C2)(w:World)(hr:RowsIs w v cs)(hu:RowsIs w u cs):Calls Tryz.prog 84 #[v,u] w fun e w'=>e=.returned (.bool true)∧Below w.heap.size w w':=by
 obtain⟨a,c,b,o,rfl,hl,hc,ha⟩:=hr.pick;obtain⟨a',c',b',o',rfl,hl',hc',ha'⟩:=hu.pick;unfold maxLen at hc hc';clear hr hu;go_enter Tryz.func84,Tryz.ntmps84;go_wp2;go_loopw [5] (fun i wr=> ∃k:Nat,k≤cs.length∧i=.int .i64 k∧Below w.heap.size w wr) (fun i _=>cs.length - (intOf i).toNat)
 case atStart=>exact⟨0,Nat.zero_le _,rfl,by go_grown⟩
 case round=>
  obtain⟨k,hk,rfl,hb⟩:=hrel;by_cases hlt:k<cs.length
  ·have hzb:=hb.size;obtain⟨rfl,hblt,hL⟩:=ha k hlt;obtain⟨rfl,hblt',hL'⟩:=ha' k hlt;obtain⟨x,v,hx,c0,hR,c1,hbr⟩:=hL.at hblt hb hlt;obtain⟨x',u,hx',c0',hR',c1',hbr'⟩:=hL'.at hblt' hb hlt;obtain rfl:x=x':=by rw[hx]at hx';exact Option.some.inj hx'
   clear ha ha' hL hL' hx hx';go_wp2_with fail;go_region_held3 (fun w'=>w'.cell? ⟨b,o+k*2,none⟩=some v∧w'.cell? ⟨b,o+k*2+1,none⟩=some (.int .i64 x.n)∧w'.cell? ⟨b',o'+k*2,none⟩=some u∧w'.cell? ⟨b',o'+k*2+1,none⟩=some (.int .i64 x.n)) (refine⟨?_,?_,?_,?_⟩<;>first|(go_simp;done)|(exact cL8 (by assumption) (by go_simp))) (first|(go_at_call 105;refine(eqCounted_same v u x.r x.n _ (hR.below bela) (hR'.below bela)).mono ?_;rintro e w1 ⟨rfl,hb1⟩));go_wp2
   go_roundw
   case rel=>exact⟨k+1,hlt,by simp,bela⟩
   case measure=>simp[intOf];omega
  ·go_wp2;go_returns;exact⟨rfl,hb⟩
theorem eqBag_same (W:Int)(v u:Value)(cs:List C2)(w:World)(hr:RowsIs w v cs)(hu:RowsIs w u cs):Calls Tryz.prog 53 #[.agg #[.int .i64 W,v],.agg #[.int .i64 W,u]] w fun e w'=>e=.returned (.bool true)∧Below w.heap.size w w':=by
 have hb0:∀o p,Below w.heap.size w ((w.alloc o).alloc p):=fun o p=>((Below.refl _ _).alloc (Nat.le_refl _) o).alloc (by simp) p;go_enter Tryz.func53,Tryz.ntmps53;go_wp2_with fail;refine(eqCountedS_same v u cs _ (hr.below (hb0 _ _)) (hu.below (hb0 _ _))).mono ?_;rintro e w1 ⟨rfl,hb1⟩;have hz1:=hb1.size;simp only[World.size_alloc]at hz1;go_wp2;go_returns;exact⟨rfl,bela⟩
end
section
open Go.RowKit Go.Deep
theorem Tryz.infoCnt:(Tryz.prog.info? 91).map (fun i=>(i.zero,i.size,i.bytes))=some (some (.agg #[.slice none 0 0,.int .i64 0]),2,32):=by kernel_rfl
structure HalfB (w:World)(B0:Nat)(cs:List C2)(g:Nat→Nat)(k:Nat):Prop where
 own:∃f,w.rowIs B0 91 (cs.length*2) f∧∀i x,i<k→cs[i]?=some x→f (i*2)=.slice (some ⟨g i,0,none⟩) x.r.length x.r.length∧f (i*2+1)=.int .i64 x.n
 row:∀i x,i<k→cs[i]?=some x→w.rowIs (g i) 60 (x.r.length*3) (cf x.r)
 above:∀i,i<k→B0<g i
 up:∀i j,i<j→j<k→g i<g j
theorem HalfB.cells {w:World}{B:Nat}{cs:List C2}{g:Nat→Nat}{k:Nat}(h:HalfB w B cs g k)(hk:k<cs.length):(∃u,w.cell? ⟨B,k*2,none⟩=some u)∧(∃u,w.cell? ⟨B,k*2+1,none⟩=some u)∧(∀i,w.frozen? ⟨B,i,none⟩=false)∧B<w.heap.size:=by
 obtain⟨f,h,_⟩:=h.own;exact⟨⟨_,h.cell (by omega)⟩,⟨_,h.cell (by omega)⟩,fun i=>h.frozen i,h.lt⟩
theorem HalfB.lt {w:World}{B:Nat}{cs:List C2}{g:Nat→Nat}{k:Nat}(h:HalfB w B cs g k)(hk:k≤cs.length){i:Nat}(hi:i<k):g i<w.heap.size:=(h.row i cs[i] hi (by simp)).lt
theorem HalfB.below {w w':World}{B:Nat}{cs:List C2}{g:Nat→Nat}{k:Nat}(h:HalfB w B cs g k)(hk:k≤cs.length)(hb:Below w.heap.size w w'):HalfB w' B cs g k:=by
 obtain⟨⟨f,hf,he⟩,h1,h2,h3⟩:=h;exact⟨⟨f,hf.of_block (hb.block _ hf.lt),he⟩,fun i x hi hx=>(h1 i x hi hx).of_block (hb.block _ (h1 i x hi hx).lt),h2,h3⟩
theorem HalfB.keep {w w':World}{B:Nat}{cs:List C2}{g:Nat→Nat}{k:Nat}(h:HalfB w B cs g k)(hk:k≤cs.length)(e:∀b,B≤b→w'.heap[b]?=w.heap[b]?):HalfB w' B cs g k:=by
 obtain⟨⟨f,hf,he⟩,h1,h2,h3⟩:=h;exact⟨⟨f,hf.of_block (e _ (Nat.le_refl _)),he⟩,fun i x hi hx=>(h1 i x hi hx).of_block (e _ (Nat.le_of_lt (h2 i hi))),h2,h3⟩
theorem HalfB.step {w:World}{B D:Nat}{cs:List C2}{g:Nat→Nat}{k:Nat}{x:C2}(h:HalfB w B cs g k)(hx:cs[k]?=some x)(hD:w.rowIs D 60 (x.r.length*3) (cf x.r))(hB:B<D)(hup:∀i,i<k→g i<D):HalfB ((w.setCell ⟨B,k*2,none⟩ (.slice (some ⟨D,0,none⟩) x.r.length x.r.length)).setCell ⟨B,k*2+1,none⟩ (.int .i64 x.n)) B cs (fun i=>if i=k then D else g i) (k+1):=by
 obtain⟨⟨f,hf,he⟩,h1,h2,h3⟩:=h;refine⟨⟨_,(hf.set _ _).set _ _,fun i y hi hy=>?_⟩,fun i y hi hy=>?_,fun i hi=>?_,fun i j hij hj=>?_⟩
 ·by_cases e:i=k
  ·subst e;obtain rfl:y=x:=by rw[hx]at hy;exact(Option.some.inj hy).symm
   simp
  ·have e1:i*2≠k*2:=by omega
   have e2:i*2≠k*2+1:=by omega
   have e3:i*2+1≠k*2:=by omega
   have e4:i*2+1≠k*2+1:=by omega
   simp only[if_neg e1,if_neg e2,if_neg e3,if_neg e4,if_neg e];exact he i y (by omega) hy
 ·by_cases e:i=k
  ·subst e;obtain rfl:y=x:=by rw[hx]at hy;exact(Option.some.inj hy).symm
   simp only[if_true];exact(hD.setOther (by show D≠B;omega) _).setOther (by show D≠B;omega) _
  ·simp only[if_neg e];have:=h2 i (by omega);exact((h1 i y (by omega) hy).setOther (by show g i≠B;omega) _).setOther (by show g i≠B;omega) _
 ·by_cases e:i=k
  ·simp only[if_pos e];exact hB
  ·simp only[if_neg e];exact h2 i (by omega)
 ·by_cases e:j=k
  ·have e':i≠k:=by omega
   simp only[if_pos e,if_neg e'];exact hup i (by omega)
  ·have e':i≠k:=by omega
   simp only[if_neg e,if_neg e'];exact h3 i j hij (by omega)
theorem halfB_made (w:World)(z:Array Value)(cs:List C2)(g:Nat→Nat):HalfB (w.alloc (.cells (madeCells z (cs.length*2)) 91)) w.heap.size cs g 0:=
 ⟨⟨fun i=>(madeCells z (cs.length*2))[i]?.getD undef,⟨_,blk_alloc_new _ _,size_madeCells _ _,fun i hi=>by
  have:i<(madeCells z (cs.length*2)).size:=by rw[size_madeCells];exact hi
  simp[this]⟩,fun i x hi=>by omega⟩,fun i x hi=>by omega,fun i hi=>by omega,fun i j _ hj=>by omega⟩
theorem toCounted_any (v:Value)(r:List V3)(n:Int)(w:World)(hr:RowIs w v r)(hn:r.length≤1048576):Calls Tryz.prog 94 #[.agg #[v,.int .i64 n]] w fun e w'=>(∃B,w.heap.size≤B∧e=.returned (.agg #[.slice (some ⟨B,0,none⟩) r.length r.length,.int .i64 n])∧w'.rowIs B 60 (r.length*3) (cf r))∧Below w.heap.size w w':=by
 have hb0:∀o p q,Below w.heap.size w (((w.alloc o).alloc p).alloc q):=fun o p q=>(((Below.refl _ _).alloc (Nat.le_refl _) o).alloc (by simp) p).alloc (by simp;omega) q;go_enter Tryz.func94,Tryz.ntmps94;go_wp2_with fail;refine(toValueS_any v r _ (hr.below (hb0 _ _ _)) hn).mono ?_;rintro e w1 ⟨rfl,hR1,hb1⟩;have hz1:=hb1.size;simp only[World.size_alloc]at hz1 hR1;have hf1:=(bc8 hb1).2;have hy:w.heap.size+1+1<w1.heap.size:=by omega
 have hy1:w.heap.size+1<w1.heap.size:=by omega
 have hy0:w.heap.size<w1.heap.size:=by omega
 have q0:w1.cell? ⟨w.heap.size,1,none⟩=some (.int .i64 n):=cL8 hb1 (by go_simp);have p0:w1.cell? ⟨w.heap.size+1,0,none⟩=some (.slice none 0 0):=cL8 hb1 (by go_simp);have p1:w1.cell? ⟨w.heap.size+1,1,none⟩=some (.int .i64 0):=cL8 hb1 (by go_simp);have t0:w1.cell? ⟨w.heap.size+1+1,0,none⟩=some (.slice none 0 0):=cL8 hb1 (by go_simp);have t1:w1.cell? ⟨w.heap.size+1+1,1,none⟩=some (.int .i64 0):=cL8 hb1 (by go_simp);go_wp2;refine bodyPost_ret (v:=.agg #[.slice (some ⟨w.heap.size+1+1+1,0,none⟩) r.length r.length,.int .i64 n]) (by simp[results,Tryz.results94,go_sem, *]) rfl ⟨⟨w.heap.size+1+1+1,by omega,rfl,?_⟩,?_⟩
 ·refine hR1.of_block ?_;repeat rw[bS8 _ _ _ _ (by simp;try omega)]
 ·exact bela
theorem toCountedS_any (v:Value)(cs:List C2)(w:World)(hr:RowsIs w v cs)(hn:wtb cs≤1048576):Calls Tryz.prog 64 #[v] w fun e w'=>(∃g,e=.returned (.slice (some ⟨w.heap.size,0,none⟩) cs.length cs.length)∧HalfB w' w.heap.size cs g cs.length)∧Below w.heap.size w w':=by
 obtain⟨a,c,b,o,rfl,hl,hc,ha⟩:=hr.pick;unfold maxLen at hc;clear hr;have hn1:cs.length≤1048576:=by unfold wtb at hn;omega
 have hmk:=run_make_wide (P:=Tryz.prog) 55 91 _ 2 32 Tryz.underlying55 Tryz.infoCnt cs.length (by omega) (by omega);go_enter Tryz.func64,Tryz.ntmps64;go_wp2;go_loopw [4] (fun i wr=> ∃ (k:Nat) (g:Nat→Nat),k≤cs.length∧i=.int .i64 k∧Below w.heap.size w wr∧HalfB wr w.heap.size cs g k) (fun i _=>cs.length - (intOf i).toNat)
 case atStart=>exact⟨0,fun _=>0,Nat.zero_le _,rfl,by go_grown,halfB_made _ _ _ _⟩
 case round=>
  obtain⟨k,g,hk,rfl,hb,hH⟩:=hrel;clear hmk;by_cases hlt:k<cs.length
  ·have hzb:=hb.size;obtain⟨rfl,hblt,hL⟩:=ha k hlt;obtain⟨x,u,hx,c0,hR,c1,hbr⟩:=hL.at hblt hb hlt;have HX:Hid (cs[k]?=some x):=hx;have hxn:x.r.length≤1048576:=by have:=wt_mem (mg8 hx);unfold wt at this;unfold wtb at hn;omega
   have hBr:=(hH.cells hlt).2.2.2;clear ha hL hx;go_wp2_with(go_at_call 94;refine(toCounted_any _ _ _ _ hR hxn).mono ?_;rintro e w1 ⟨⟨D,hD,rfl,hRD⟩,hb1⟩;have hz1:=hb1.size;have hH1:=hH.below hk hb1;obtain⟨⟨y0,g0⟩,⟨y1,g1⟩,gf,gs⟩:=hH1.cells hlt);refine⟨⟨k+1,_,hlt,by simp,bela,hH1.step HX.out hRD (by omega) (fun i hi=>Nat.lt_of_lt_of_le (hH.lt hk hi) hD)⟩,by simp[intOf];omega⟩
  ·go_wp2;go_returns;obtain rfl:k=cs.length:=by omega
   exact⟨⟨g,rfl,hH⟩,hb⟩
theorem toBag_any (W:Int)(v:Value)(cs:List C2)(w:World)(hr:RowsIs w v cs)(hn:wtb cs≤1048576):Calls Tryz.prog 42 #[.agg #[.int .i64 W,v]] w fun e w'=>(∃B g,w.heap.size≤B∧e=.returned (.agg #[.int .i64 W,.slice (some ⟨B,0,none⟩) cs.length cs.length])∧HalfB w' B cs g cs.length)∧Below w.heap.size w w':=by
 go_enter Tryz.func42,Tryz.ntmps42;go_wp2_with fail;refine cM8 (toCountedS_any v cs _ (hr.below ?hb) hn) ?_
 case hb=>exact bela
 rintro e w1 ⟨⟨g,rfl,hH1⟩,hb1⟩;have hz1:=hb1.size;simp only[World.size_alloc]at hz1 hH1;have hf1:=(bc8 hb1).2;have hy:w.heap.size+1+1<w1.heap.size:=by omega
 have hy1:w.heap.size+1<w1.heap.size:=by omega
 have hy0:w.heap.size<w1.heap.size:=by omega
 have p0:w1.cell? ⟨w.heap.size+1,0,none⟩=some (.int .i64 0):=cL8 hb1 (by go_simp);have p1:w1.cell? ⟨w.heap.size+1,1,none⟩=some (.slice none 0 0):=cL8 hb1 (by go_simp);have t0:w1.cell? ⟨w.heap.size+1+1,0,none⟩=some (.int .i64 W):=cL8 hb1 (by go_simp);have t1:w1.cell? ⟨w.heap.size+1+1,1,none⟩=some (.slice none 0 0):=cL8 hb1 (by go_simp);go_wp2;refine bodyPost_ret (v:=.agg #[.int .i64 W,.slice (some ⟨w.heap.size+1+1+1,0,none⟩) cs.length cs.length]) (by simp[results,Tryz.results42,go_sem, *]) rfl ⟨⟨w.heap.size+1+1+1,g,by omega,by simp,?_⟩,?_⟩
 ·refine hH1.keep (Nat.le_refl _) fun b hb=>?_;repeat rw[bS8 _ _ _ _ (by simp;try omega)]
 ·exact bela
end
end
end Go.Proofs.YtjhhmnjpojnoiaaGreatDoor
