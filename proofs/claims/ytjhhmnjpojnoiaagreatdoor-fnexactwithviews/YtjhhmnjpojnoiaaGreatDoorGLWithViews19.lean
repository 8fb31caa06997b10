/- Own texts, joined: contracts that the law's proof goes by. -/
import Derived.Test.YtjhhmnjpojnoiaaGreatDoorGLWithViews1
import Derived.Test.YtjhhmnjpojnoiaaGreatDoorGLWithViews17
import Derived.Handy
import Derived.Deep.RegionHeld3
import Derived.Test.YtjhhmnjpojnoiaaGreatDoorGLWithViews14
import Derived.Test.YtjhhmnjpojnoiaaGreatDoorGLWithViews13
import Derived.Test.YtjhhmnjpojnoiaaGreatDoorShelf
import Derived.Maps.AppendAt
import Derived.Test.YtjhhmnjpojnoiaaGreatDoorGLWithViews12
import Derived.Test.YtjhhmnjpojnoiaaGreatDoorGLWithViews16
set_option maxHeartbeats 16000000
set_option maxRecDepth 100000
set_option linter.unusedVariables false
set_option linter.unusedSimpArgs false
namespace Go.Proofs.YtjhhmnjpojnoiaaGreatDoor
section
section
open Go.RowKit Go.Deep
theorem mt_size (u:Nat)(h:u≤999999999):(mt (u:Int)).size≤maxLen:=by
 have h1:=dg_len u;unfold mt;rw[Int.toNat_natCast];have h2:(strOfNums (dg u)).size=(dg u).length:=by simp[strOfNums,ByteArray.size]
 rw[ByteArray.size_append,h2];have h3:(⟨#[109]⟩:ByteArray).size=1:=rfl;rw[h3];unfold maxLen;omega
def MkS (d:Nat):Prop:=∀ (k:Nat) (v:Value) (es:List E7) (F:List Nat) (w:World),KidsIs w d v es F→F.Nodup→FreeE w F→0<k→k+6*nK d es≤999999900→
  Calls Tryz.prog 32 #[v,.int .i64 k] w fun e w'=>e=.returned (.int .i64 ((k+6*nK d es:Nat):Int))∧KidsIs w' d v (mK d k es) F∧ChgE F w w'
theorem markExpS_any:∀d,MkS d
 |0=>fun k v es F w hr=>hr.elim
 |d+1=>by
  have ih:=markExpS_any d;intro k v es F w hr hnd hf h0 h1;have hlt0:=hr.lt;obtain⟨a,c,b,o,G,rfl,hl,hc,hG,hF0,ha⟩:=hr.pick;have hcm:=hc;unfold maxLen at hc;have hoff:=offE_le d k es;have hpos:=fun i=>offE_pos d k es i h0;have hend:=offE_end d k es;clear hr;go_enter Tryz.func32,Tryz.ntmps32;go_wp2;go_loopw [1,5] (fun kk i wr=> ∃n:Nat,n≤es.length∧i=.int .i64 n∧kk=.int .i64 ((offE d k es n:Nat):Int)∧(∀j,j<es.length→ELies wr d b o (mKi d k n es) G)∧ChgE F w wr) (fun _ i _=>es.length - (intOf i).toNat)
  case atStart=>exact⟨0,Nat.zero_le _,rfl,by rw[offE_zero],fun j hj=>by rw[mKi_zero];exact(ha j hj).2.2.2,ChgE.refl _ _⟩
  case round=>
   obtain⟨n,hn,rfl,rfl,hH0,hch⟩:=hrel;by_cases hlt:n<es.length
   ·have hH:=hH0 n hlt;obtain⟨rfl,hblt,rfl,_⟩:=ha n hlt;have hzb:=hch.size;have hbr:b<wr.heap.size:=by omega
    have hlt':n<G.length:=by omega
    obtain⟨x,hx⟩:∃x,es[n]?=some x:=⟨es[n],by simp[hlt]⟩;obtain⟨g,hg⟩:∃g,G[n]?=some g:=⟨G[n],by simp[hlt']⟩;obtain⟨hw,⟨c0,c1,c2,c3,c4,c5⟩,u,c6,hK⟩:=hH n _ g (mKi_at hx) hg;rw[if_neg (by omega)]at hw c0 c1 c2 c3 c4 c5 hK;have hgF:∀y∈g,y∈G.flatten:=fun y hy=>List.mem_flatten.2 ⟨g,mg8 hg,hy⟩;have hfr:=hch.free hf;have hfr0:∀i,wr.frozen? ⟨b,i,none⟩=false:=hfr b (by simp);have hgb:b∉g:=headE hnd hg;have hgn:g.Nodup:=by
     have h2:=(List.nodup_cons.1 hnd).2;rw[List.Nodup,List.pairwise_flatten]at h2;exact h2.1 g (mg8 hg)
    have hs:=offE_succ (d:=d) (k:=k) hx;have ho1:=hoff n;have ho2:=hoff (n+1);have HS:Hid (offE d k es (n+1)=offE d k es n+6+6*nK d x.ks):=hs;have hko:=hpos n;have hkn:=fun w3=>ELies.mark (w3:=w3) hH hG hnd hx hg c6;obtain⟨au,cu,rfl,_,_⟩:=hK.shape;have hKlt:=hK.lt;have hgfr:FreeE wr g:=fun y hy=>hfr y (List.mem_cons_of_mem _ (hgF y hy));generalize offE d k es n=t at*;have ht:t+6+6*nK d x.ks≤999999900:=by omega
    have htI:(t:Int)≤999999894:=by omega
    have htP:(0:Int)<(t:Int):=by omega
    have e4:((t+4:Nat):Int)=(t:Int)+1+1+1+1:=by omega
    have e5:((t+5:Nat):Int)=(t:Int)+1+1+1+1+1:=by omega
    have e6:((t+6:Nat):Int)=(t:Int)+1+1+1+1+1+1:=by omega
    have hM4:=fun w=>markText_any (t+4) w (by omega) (by omega);have hM5:=fun w=>markText_any (t+5) w (by omega) (by omega);have hI:=fun w hk hf=>ih (t+6) (.slice au x.ks.length cu) x.ks g w hk hgn hf (by omega) (by omega);have s4:=mt_size (t+4) (by omega);have s5:=mt_size (t+5) (by omega);rw[e4]at hM4 s4;rw[e5]at hM5 s5;rw[e6]at hI;have hwf:=mE_wf d t x (by omega) s4 s5;clear e4 e5 e6 s4 s5 hs ho1 ho2 hoff hpos hend ih hH hH0 ha hf hw;go_wp2_with fail;refine cM8 (hM4 _) ?_;rintro e wA ⟨rfl,hbA⟩;have hzA:=hbA.size;simp only[World.size_setCell]at hzA;have A0:wA.cell? ⟨b,o+n*7,none⟩=some (.int .i64 (t:Int)):=cL8 hbA (by go_simp);have A1:wA.cell? ⟨b,o+n*7+1,none⟩=some (.int .i64 ((t:Int)+1)):=cL8 hbA (by go_simp);have A2:wA.cell? ⟨b,o+n*7+2,none⟩=some (.int .i64 ((t:Int)+1+1)):=cL8 hbA (by go_simp);have A3:wA.cell? ⟨b,o+n*7+3,none⟩=some (.int .i64 ((t:Int)+1+1+1)):=cL8 hbA (by go_simp);have A4:wA.cell? ⟨b,o+n*7+4,none⟩=some (.string x.v.s):=cL8 hbA (by go_simp);have A5:wA.cell? ⟨b,o+n*7+5,none⟩=some (.string x.p):=cL8 hbA (by go_simp);have A6:wA.cell? ⟨b,o+n*7+6,none⟩=some (.slice au x.ks.length cu):=cL8 hbA (by go_simp);have Af:∀i,wA.frozen? ⟨b,i,none⟩=false:=fun i=>((bc8 hbA).2 b i (by simpa using hbr)).trans (by simpa using hfr0 i);have Ac:∀q,(∀p,p<6→q≠o+n*7+p)→wA.cell? ⟨b,q,none⟩=wr.cell? ⟨b,q,none⟩:=by
     intro q hq;refine((bc8 hbA).1 b q (by simpa using hbr)).trans ?_;have q0:=hq 0 (by omega);have q1:=hq 1 (by omega);have q2:=hq 2 (by omega);have q3:=hq 3 (by omega);rw[far_set (by omega),far_set (by omega),far_set (by omega),far_set (by omega)]
    have Ab:∀y,y<wr.heap.size→y≠b→wA.heap[y]?=wr.heap[y]?:=by
     intro y hy hyb;refine(hbA.block y (by simpa using hy)).trans ?_;repeat rw[bS8 _ _ _ _ (by simpa using hyb)]
    have hchA:ChgE (b::G.flatten) wr wA:=((((((ChgE.refl _ wr).setCell (p:=⟨b,_,none⟩) (by simp) _).setCell (p:=⟨b,_,none⟩) (by simp) _).setCell (p:=⟨b,_,none⟩) (by simp) _).setCell (p:=⟨b,_,none⟩) (by simp) _)).trans (ChgE.of_below hbA (fun y hy=>by have:=hlt0 y hy;simp;omega));have hbrA:b<wA.heap.size:=by omega
    clear hbA hM4 c0 c1 c2 c3 c4 c5;go_wp2_with fail;refine cM8 (hM5 _) ?_;rintro e wB ⟨rfl,hbB⟩;have hzB:=hbB.size;simp only[World.size_setCell]at hzB;have B0:wB.cell? ⟨b,o+n*7,none⟩=some (.int .i64 (t:Int)):=cL8 hbB (by go_simp);have B1:wB.cell? ⟨b,o+n*7+1,none⟩=some (.int .i64 ((t:Int)+1)):=cL8 hbB (by go_simp);have B2:wB.cell? ⟨b,o+n*7+2,none⟩=some (.int .i64 ((t:Int)+1+1)):=cL8 hbB (by go_simp);have B3:wB.cell? ⟨b,o+n*7+3,none⟩=some (.int .i64 ((t:Int)+1+1+1)):=cL8 hbB (by go_simp);have B4:wB.cell? ⟨b,o+n*7+4,none⟩=some (.string (mt ((t:Int)+1+1+1+1))):=cL8 hbB (by go_simp);have B5:wB.cell? ⟨b,o+n*7+5,none⟩=some (.string x.p):=cL8 hbB (by go_simp);have B6:wB.cell? ⟨b,o+n*7+6,none⟩=some (.slice au x.ks.length cu):=cL8 hbB (by go_simp);have Bf:∀i,wB.frozen? ⟨b,i,none⟩=false:=fun i=>((bc8 hbB).2 b i (by simpa using hbrA)).trans (by simpa using Af i);have Bc:∀q,(∀p,p<6→q≠o+n*7+p)→wB.cell? ⟨b,q,none⟩=wr.cell? ⟨b,q,none⟩:=by
     intro q hq;refine((bc8 hbB).1 b q (by simpa using hbrA)).trans ?_;have q4:=hq 4 (by omega);rw[far_set (by omega)];exact Ac q hq
    have Bb:∀y,y<wr.heap.size→y≠b→wB.heap[y]?=wr.heap[y]?:=by
     intro y hy hyb;refine(hbB.block y (by simp;omega)).trans ?_;rw[bS8 _ _ _ _ (by simpa using hyb)];exact Ab y hy hyb
    have hchB:ChgE (b::G.flatten) wr wB:=(hchA.setCell (p:=⟨b,_,none⟩) (by simp) _).trans (ChgE.of_below hbB (fun y hy=>by have:=hlt0 y hy;simp;omega));have hbrB:b<wB.heap.size:=by omega
    clear hbB hM5 A0 A1 A2 A3 A4 A5 A6 Af Ac Ab hchA;have hkC:KidsIs (wB.setCell ⟨b,o+n*7+5,none⟩ (.string (mt ((t:Int)+1+1+1+1+1)))) d (.slice au x.ks.length cu) x.ks g:=hK.keep (by simp;omega) fun y hy=>by
     have hyb:y≠b:=by rintro rfl;exact hgb hy
     rw[bS8 _ _ _ _ (by simpa using hyb)];exact Bb y (hKlt y hy) hyb
    have hfC:FreeE (wB.setCell ⟨b,o+n*7+5,none⟩ (.string (mt ((t:Int)+1+1+1+1+1)))) g:=fun y hy o'=>by
     have hyb:y≠b:=by rintro rfl;exact hgb hy
     rw[World.frozen?_setCell];exact(fb8 (Bb y (hKlt y hy) hyb)).trans (hgfr y hy o')
    have hchC:ChgE (b::G.flatten) wr (wB.setCell ⟨b,o+n*7+5,none⟩ (.string (mt ((t:Int)+1+1+1+1+1)))):=hchB.setCell (p:=⟨b,_,none⟩) (by simp) _;go_wp2_with fail;refine cM8 (hI _ hkC hfC) ?_;rintro e w3 ⟨rfl,hK3,hc3⟩;have hz3:=hc3.size;simp only[World.size_setCell]at hz3;have hbb:w3.heap[b]?=(wB.setCell ⟨b,o+n*7+5,none⟩ (.string (mt ((t:Int)+1+1+1+1+1)))).heap[b]?:=hc3.block b (by simpa using hbrB) hgb;have D:∀q,w3.cell? ⟨b,q,none⟩=(wB.setCell ⟨b,o+n*7+5,none⟩ (.string (mt ((t:Int)+1+1+1+1+1)))).cell? ⟨b,q,none⟩:=fun q=>cb8 hbb;have hnew:=hkn w3 (by omega) (fun y hy hyg=>by
      have hyb:y≠b:=by rintro rfl;exact(List.nodup_cons.1 hnd).1 hy
      have hylt:y<wr.heap.size:=by have:=hlt0 y (List.mem_cons_of_mem _ hy);omega
      rw[hc3.block y (by simp;omega) hyg,bS8 _ _ _ _ (by simpa using hyb)];exact Bb y hylt hyb)
     (fun q hq=>by
      have q5:=hq 5 (by omega);rw[D q,far_set (by omega)];exact Bc q hq)
     ⟨by rw[D,far_set (by omega)];exact B0,by rw[D,far_set (by omega)];exact B1,by rw[D,far_set (by omega)];exact B2,by rw[D,far_set (by omega)];exact B3,by rw[D,far_set (by omega)];exact B4,by rw[D];exact cS8 _ _ _ B5⟩ hwf hK3
    have hch3:ChgE (b::G.flatten) w w3:=hch.trans (hchC.trans (hc3.wide (fun y hy=>List.mem_cons_of_mem _ (hgF y hy)) fun y hy _=>by have:=hlt0 y hy;simp;omega));clear hkn hI hc3 hK3 hch hfr hfr0 hgfr hK B0 B1 B2 B3 B4 B5 B6 Bf Bc Bb hchB hchC hkC hfC D hbb c6;go_wp2_with fail;exact⟨⟨n+1,hlt,by simp,by rw[HS.out];congr 1,fun _ _=>hnew,hch3⟩,by simp[intOf];omega⟩
   ·go_wp2;go_returns;obtain rfl:n=es.length:=by omega
    refine⟨by rw[hend];rfl,⟨a,c,G,by rw[mK_len],by rw[mK_len];exact hl,hcm,by rw[mK_len];exact hG,fun e=>hF0 (by have:=congrArg List.length e;rw[mK_len]at this;exact List.length_eq_zero_iff.1 this),fun hne=>?_⟩,hch⟩;have hp:0<es.length:=by have:=List.length_pos_iff.2 hne;rwa [mK_len]at this
    obtain⟨e,hlt,hF,_⟩:=ha 0 hp;have hH:=hH0 0 hp;rw[mKi_all]at hH;exact⟨b,o,e,by have:=hch.size;omega,hF,hH⟩
end
section
open Go.RowKit Go.Deep
def IntsF (w:World)(v:Value)(ns:List Int)(g:List Nat):Prop:=
 ∃ (a:Option Addr) (c:Nat),v=.slice a ns.length c∧ns.length≤c∧c≤maxLen∧(ns=[]→g=[])∧(ns≠ []→∃b o,a=some ⟨b,o,none⟩∧b<w.heap.size∧g=[b]∧∀i n,ns[i]?=some n→w.cell? ⟨b,o+i,none⟩=some (.int .i64 n))
theorem IntsF.lt {w:World}{v:Value}{ns:List Int}{g:List Nat}(h:IntsF w v ns g):∀b∈g,b<w.heap.size:=by
 obtain⟨a,c,_,_,_,h0,h⟩:=h;by_cases hne:ns=[]
 ·rw[h0 hne];intro b hb;cases hb
 ·obtain⟨b,o,_,hlt,rfl,_⟩:=h hne;intro x hx;rcases List.mem_singleton.1 hx with rfl;exact hlt
theorem IntsF.keep {w w':World}{v:Value}{ns:List Int}{g:List Nat}(h:IntsF w v ns g)(hs:w.heap.size≤w'.heap.size)(hg:∀b∈g,w'.heap[b]?=w.heap[b]?):IntsF w' v ns g:=by
 obtain⟨a,c,e,hl,hc,h0,h⟩:=h;refine⟨a,c,e,hl,hc,h0,fun hne=>?_⟩;obtain⟨b,o,ea,hlt,rfl,hC⟩:=h hne;exact⟨b,o,ea,by omega,rfl,fun i n hn=>(cb8 (hg b (by simp))).trans (hC i n hn)⟩
theorem IntsF.below {w w':World}{v:Value}{ns:List Int}{g:List Nat}(h:IntsF w v ns g)(hb:Below w.heap.size w w'):IntsF w' v ns g:=h.keep hb.size fun b hg=>hb.block b (h.lt b hg)
theorem IntsF.pick {w:World}{v:Value}{ns:List Int}{g:List Nat}(h:IntsF w v ns g):∃a c b o,v=.slice a ns.length c∧ns.length≤c∧c≤maxLen∧(ns=[]→g=[])∧∀k,k<ns.length→a=some ⟨b,o,none⟩∧b<w.heap.size∧g=[b]∧∀i n,ns[i]?=some n→w.cell? ⟨b,o+i,none⟩=some (.int .i64 n):=by
 obtain⟨a,c,rfl,hl,hc,h0,h⟩:=h;by_cases hne:ns=[]
 ·exact⟨a,c,0,0,rfl,hl,hc,h0,fun k hk=>by rw[hne]at hk;simp at hk⟩
 ·obtain⟨b,o,h⟩:=h hne;exact⟨a,c,b,o,rfl,hl,hc,h0,fun _ _=>h⟩
end
section
open Go.RowKit Go.Deep Go.ChangeShapes Go.WideShapes
theorem putRow_blk {α:Type}[Inhabited α](enc:α→Value)(w:World)(blk off:Nat)(d:Array α){k:Nat}(h:k≠blk):(Sort.putRow enc w blk off d).heap[k]?=w.heap[k]?:=by
 unfold Sort.putRow Sort.mapBlock;simp[Array.getElem?_modify,Ne.symm h]
theorem colN_take {ns:List Nd}{k:Nat}{x:Nd}(h:ns[k]?=some x):colN (ns.take (k+1))=if x.e.k=0 then colN (ns.take k)++ [x.e.n]else colN (ns.take k):=by
 unfold colN;rw[take_snocC h,List.filter_append,List.map_append];by_cases h0:x.e.k=0
 ·rw[if_pos h0];simp[h0]
 ·rw[if_neg h0];simp[h0]
theorem colN_len (ns:List Nd):(colN ns).length≤ns.length:=by
 unfold colN;rw[List.length_map];exact List.length_filter_le _ _
theorem own_holds {w:World}{N:Nat}{zs:List Int}{t:TypeId}{yb yc:Nat}(h:w.ownsRow N t 1 (.slice (some ⟨yb,0,none⟩) zs.length yc) zs.length (ints zs)):Sort.Holds (Value.int .i64) w yb 0 zs.toArray∧zs.length≤yc∧yc≤maxLen∧N≤yb∧yb<w.heap.size∧∀o,w.frozen? ⟨yb,o,none⟩=false:=by
 have hlt:=ownsE_lt h;obtain⟨hl,ho⟩:=h;rcases ho with⟨h0,_⟩|⟨g,cap,cur,hv,hg,hc,hn',hm,hs,ht⟩
 ·cases h0
 injection hv with e1 _ e3;injection e1 with e1;injection e1 with e1;subst e1 e3;refine⟨fun j hj=>?_,hn',hm,hg,(hlt yb rfl).2,fun o=>by simp[World.frozen?,hc]⟩;have hj':j<zs.length:=by simpa using hj
 refine⟨?_,by simp[World.frozen?,hc]⟩;have hu:(ints zs)[j]?=some (.int .i64 zs[j]):=by simp[ints]
 rw[getElem!_pos zs.toArray j hj];simp only[World.cell?,hc];rw[←ht,List.getElem?_take,if_pos (by omega),Array.getElem?_toList]at hu
 simpa using hu
theorem sorted_ints {w w2 w3:World}{N yb yc n q:Nat}{zs L:List Int}{os:Array Obj}(hH:Sort.Holds (Value.int .i64) w yb 0 zs.toArray)(hc:zs.length≤yc)(hm:yc≤maxLen)(hN:N≤yb)(hlt:yb<w.heap.size)(hf:∀o,w.frozen? ⟨yb,o,none⟩=false)(h2:w2=Sort.grow (Sort.putRow (Value.int .i64) (Sort.ahead w n) yb 0 (zs.mergeSort fun x y=>decide (x≤y)).toArray) os)(h3:w3=Sort.putRow (Value.int .i64) (Sort.ahead w2 q) yb 0 (Lib.compact (zs.mergeSort fun x y=>decide (x≤y))++List.replicate (zs.length - (Lib.compact (zs.mergeSort fun x y=>decide (x≤y))).length) 0).toArray)(hL:Lib.compact (zs.mergeSort fun x y=>decide (x≤y))=L):(∃g,IntsF w3 (.slice (some ⟨yb,0,none⟩) L.length yc) L g∧Own w3 N g)∧Below N w w3:=by
 rw[hL]at h3;have hLl:L.length≤zs.length:=by
  rw[←hL];have:=Lib.compact_length_le (zs.mergeSort fun x y=>decide (x≤y))
  rwa [List.length_mergeSort]at this
 have hms:(zs.mergeSort fun x y=>decide (x≤y)).length=zs.length:=List.length_mergeSort _;generalize(zs.mergeSort fun x y=>decide (x≤y))=ms at*;have hz2:w.heap.size≤w2.heap.size:=by rw[h2];simp
 have hz3:w3.heap.size=w2.heap.size:=by rw[h3];simp
 have hH2:Sort.Holds (Value.int .i64) w2 yb 0 ms.toArray:=by
  rw[h2];exact Sort.holds_grow _ _ _ _ _ _ (by simpa using hlt) (Sort.holds_putRow _ _ _ _ zs.toArray ms.toArray (Sort.holds_ahead _ _ _ _ _ _ hH) (by simpa using hms))
 have hd:(L++List.replicate (zs.length -L.length) (0:Int)).toArray.size=ms.toArray.size:=by simp;omega
 have hcell:∀j,j<L.length→∀x,L[j]?=some x→w3.cell? ⟨yb,0+j,none⟩=some (.int .i64 x):=by
  intro j hj x hx;rw[h3,Sort.cell?_putRow (Value.int .i64) _ yb 0 ms.toArray _ (Sort.holds_ahead _ _ _ _ _ _ hH2) hd j (by simp;omega)];have hj2:j<(L++List.replicate (zs.length -L.length) (0:Int)).toArray.size:=by simp;omega
  rw[getElem!_pos _ j hj2];have hx2:L[j]=x:=by simpa [hj]using hx
  simp[List.getElem_append_left hj,hx2]
 have hf3:∀o,w3.frozen? ⟨yb,o,none⟩=false:=by
  intro o;rw[h3,Sort.frozen?_putRow,Sort.frozen?_ahead,h2,Sort.frozen?_grow _ _ _ (by simpa using hlt),Sort.frozen?_putRow,Sort.frozen?_ahead];exact hf o
 have hbel:Below N w w3:=by
  refine⟨by rw[h3,h2];rfl,by rw[h3,h2];rfl,by rw[h3,h2];rfl,by omega,fun k hk=>?_⟩;rw[h3,putRow_blk _ _ _ _ _ (by omega),Sort.heap_ahead,h2,Sort.heap_grow_old _ _ (by simp;omega),putRow_blk _ _ _ _ _ (by omega),Sort.heap_ahead]
 refine⟨?_,hbel⟩;by_cases hne:L=[]
 ·subst hne;exact⟨[],⟨_,yc,rfl,Nat.zero_le _,hm,fun _=>rfl,fun h=>absurd rfl h⟩,by simp[Own,OwnN]⟩
 ·exact⟨[yb],⟨_,yc,rfl,by omega,hm,fun h=>absurd h hne,fun _=>⟨yb,0,rfl,by omega,rfl,fun i x hx=>hcell i (gE1 hx).1 x hx⟩⟩,by simp,fun b hb=>by rcases List.mem_singleton.1 hb with rfl;exact⟨hN,hf3⟩⟩
end
section
open Go.RowKit Go.Deep Go.ChangeShapes Go.WideShapes
theorem implCols_any (D:Nat)(e:E7)(u:Value)(F:List Nat)(w:World)(he:e.wf)(hk:KidsIs w (D+1) u e.ks F)(hd:F.Nodup∧∀b∈F,Fr w b)(hn:wtE e≤1048576):Calls Tryz.prog 139 #[(.agg #[.int .i64 e.k,.int .i64 e.n,.int .i64 e.v.k,.int .i64 e.v.n,.string e.v.s,.string e.p,u])] w fun x w'=>(∃v g,x=.returned v∧IntsF w' v (colsL (D+1) e) g∧Own w' w.heap.size g)∧Below w.heap.size w w':=by
 obtain⟨i0,hi,hz0,hz1',hz2'⟩:=info_parts Tryz.infoInt;obtain⟨a,c,rfl,hl,hc⟩:=hk.shape;have hde:=hk.re.de;obtain⟨L,hL⟩:∃L,Hid (colsL (D+1) e=L):=⟨_,rfl⟩;rw[hL.out];go_enter Tryz.func139,Tryz.ntmps139;go_wp2_with fail;have hb0:Below w.heap.size w ((w.alloc (.cells #[.int .i64 e.k,.int .i64 e.n,.int .i64 e.v.k,.int .i64 e.v.n,.string e.v.s,.string e.p,.slice a e.ks.length c] 63)).alloc (.cells #[] 3)):=bex;refine cM8 (copyNodes_any D (ColIn (colsL (D+1) e)) colIn_kid e (.slice a e.ks.length c) F _ he ⟨D+1,hde,fun x h=>h⟩ (hk.below hb0) (.inl ⟨hd.1,fun b hb=>(hd.2 b hb).keep (hb0.block b (hk.lt b hb))⟩) (by omega)) ?_;rintro x w1 ⟨⟨v1,w0,rfl,hw0,ns,hang,hown,h0,hQ,hdis,hlen⟩,hb1⟩;have hz1:=hb1.size;simp only[World.size_alloc]at hz1 hw0;have hQat:=hQ.at';have hmem:∀x,x∈L↔x∈colN ns:=by
  intro x;rw[←hL.out];constructor
  ·exact fun hx=>hQ.cols h0 hde hx
  ·intro hx;obtain⟨y,hy,hy0,rfl⟩:=mem_colN.1 hx;obtain⟨j,hj,rfl⟩:=List.mem_iff_getElem.1 hy;obtain⟨⟨_,⟨d',hd',hin⟩,_⟩,_⟩:=hQ.at' j ns[j] (by simp);cases d' with
   |zero=>exact hd'.elim
   |succ d'=>exact hin _ (mem_colsL.2 (.inl ⟨hy0,rfl⟩))
 have hasc:L.Pairwise (· < ·):=by rw[←hL.out];exact asc_colsL _ _
 have HS:Hid (Lib.compact ((colN ns).mergeSort fun x y=>decide (x≤y))=L):=sortC (colN ns) L hasc hmem;obtain⟨g,cap,rfl,_,hn0,hcap,hcm,hgl,hgN,_⟩:=pts_read hown h0;have hptr:∀k x,ns[k]?=some x→w1.cell? ⟨g,k,none⟩=some (.pointer (some ⟨x.b,x.o,none⟩)):=by
  intro k x hx;obtain⟨g',cap',hv',_,_,_,_,_,_,hp⟩:=pts_read hown hx;injection hv' with e1;injection e1 with e1;injection e1 with e1;subst e1;exact hp
 have hy0:w1.ownsRow (w.heap.size+1) 3 1 (.slice (some ⟨w.heap.size+1,0,none⟩) 0 0) 0 []:=by
  refine ownsE_keep (w:=(w.alloc (.cells #[.int .i64 e.k,.int .i64 e.n,.int .i64 e.v.k,.int .i64 e.v.n,.string e.v.s,.string e.p,.slice a e.ks.length c] 63)).alloc (.cells #[] 3)) (ints_none (by simp) (Nat.le_refl _)) fun b hb=>?_;simp[Value.ownBlock]at hb;subst hb;exact hb1.block _ (by simp)
 have bel1:Below w.heap.size w w1:=bex;have hzw:w.heap.size+1+1≤w1.heap.size:=by omega
 unfold maxLen at hcm;clear hb1 hQ hown h0 hdis hk hmem hasc hd hb0;go_wp2;go_loopw [3,10] (fun y i wr=> ∃ (k yb yc:Nat),k≤ns.length∧i=.int .i64 k∧y=.slice (some ⟨yb,0,none⟩) (colN (ns.take k)).length yc∧wr.ownsRow (w.heap.size+1) 3 1 (.slice (some ⟨yb,0,none⟩) (colN (ns.take k)).length yc) (colN (ns.take k)).length (ints (colN (ns.take k)))∧(yb=w.heap.size+1∨w1.heap.size≤yb)∧(∀b,b<w1.heap.size→b≠w.heap.size+1→wr.heap[b]?=w1.heap[b]?)∧w1.heap.size≤wr.heap.size∧Below w.heap.size w wr) (fun _ i _=>ns.length - (intOf i).toNat)
 case atStart=>exact⟨0,w.heap.size+1,0,Nat.zero_le _,rfl,by simp[colN],by simpa [colN,ints]using hy0,.inl rfl,fun b _ _=>rfl,Nat.le_refl _,bel1⟩
 case round=>
  obtain⟨k,yb,yc,hkl,rfl,rfl,hO,hyb,hblk,hzr,hb⟩:=hrel;by_cases hlt:k<ns.length
  ·obtain⟨x,hx⟩:∃x,ns[k]?=some x:=⟨ns[k],by simp[hlt]⟩;obtain⟨⟨_,_,xN,xl,_,_⟩,⟨c0,c1,_,_,_,_⟩,_⟩:=hQat k x hx;have p1:=(cb8 (o:=k) (hblk g hgl (by omega))).trans (hptr k x hx);have d0:=(cb8 (o:=x.o) (hblk x.b xl (by omega))).trans c0;have d1:=(cb8 (o:=x.o+1) (hblk x.b xl (by omega))).trans c1;have HT:=colN_take hx;have hcl:=colN_len (ns.take k);have hcl2:(ns.take k).length≤k:=by simp;omega
   have hol:=ownsE_lt hO;by_cases h0:x.e.k=0
   ·rw[if_pos h0]at HT;have HT:Hid (colN (ns.take (k+1))=colN (ns.take k)++ [x.e.n]):=HT;rw[h0]at d0;have HB:Hid (∀b,b<w1.heap.size→b≠w.heap.size+1→wr.heap[b]?=w1.heap[b]?):=hblk;generalize colN (ns.take k)=zs at*;have hO3:(wr.alloc (.cells #[.int .i64 x.e.n] 3)).ownsRow (w.heap.size+1) 3 1 (.slice (some ⟨yb,0,none⟩) zs.length yc) zs.length (ints zs):=ownsE_keep hO fun b hb=>bA8 _ _ _ (hol b hb).2;have hnew:∀j' u,[Value.int .i64 x.e.n][j']?=some u→(wr.alloc (.cells #[.int .i64 x.e.n] 3)).cell? ((⟨wr.heap.size,0,none⟩:Addr).add j')=some u:=by
     intro j' u hu
     match j',hu with
     |0,hu=>simp at hu;subst hu;go_simp
    have hybl:yb<wr.heap.size:=(hol yb rfl).2;clear hO hblk hptr hQat hx c0 c1 h0;go_wp2_with(at_builtin;refine wpList_append_own_at _ rfl _ _ 147 rfl (w.heap.size+1) 3 i0 _ 1 8 Tryz.underlying147 hi hz0 hz1' hz2' rfl (by decide) (.slice (some ⟨yb,0,none⟩) zs.length yc) zs.length (ints zs) rfl hO3 ⟨wr.heap.size,0,none⟩ 1 1 [.int .i64 x.e.n] rfl rfl hnew (by simp[Value.oneCell']) ?c3 ?c4 ?c5 ?_)
    case c3=>unfold maxLen;omega
    case c4=>omega
    case c5=>simp;omega
    intro v5 w5 hown5 hgr5 _ hat5;have hsz5:=hgr5.size;simp at hsz5;have hown6:w5.ownsRow (w.heap.size+1) 3 1 v5 (zs++ [x.e.n]).length (ints (zs++ [x.e.n])):=by
     rw[List.length_append]
     simpa [ints]using hown5
    obtain⟨b5,c5,hv5⟩:∃b5 c5,v5=.slice (some ⟨b5,0,none⟩) (zs++ [x.e.n]).length c5:=by
     rcases hown6.2 with⟨_,h⟩|⟨b5,c5,_,hv,_⟩
     ·simp at h
     ·exact⟨b5,c5,hv⟩
    subst hv5;have hyb5:b5=w.heap.size+1∨w1.heap.size≤b5:=by
     rcases hat5 with h|h
     ·simp[Value.ownBlock]at h;rw[h];exact hyb
     ·simp[Value.ownBlock]at h;omega
    have hblk5:∀b,b<w1.heap.size→b≠w.heap.size+1→w5.heap[b]?=w1.heap[b]?:=by
     intro b hb hbg;rw[←HB.out b hb hbg,hgr5.block b (by simp;omega) (by simp[Value.ownBlock];omega)];exact bA8 _ _ _ (by omega)
    have hbw5:Below w.heap.size w w5:=(hb.alloc (by omega) _).grown hgr5 (by simp;omega) (fun q hq=>by simp[Value.ownBlock]at hq;omega);rw[←HT.out]at hown6;have HL5:Hid ((zs++ [x.e.n]).length=(colN (ns.take (k+1))).length):=by show _=_;rw[HT.out]
    clear hown5 hgr5 hat5 hO3 hnew hol;go_wp2;exact⟨⟨k+1,b5,c5,hlt,by simp,by first|(rw[←HL5.out];done)|(rw[←HL5.out];simp),hown6,hyb5,hblk5,by omega,hbw5⟩,by simp[intOf];omega⟩
   ·rw[if_neg h0]at HT;have HT:Hid (colN (ns.take (k+1))=colN (ns.take k)):=HT;have hkb:(x.e.k==0)=false:=by simpa using h0
    have hkd:decide (x.e.k=0)=false:=by simpa using h0
    have HB:Hid (∀b,b<w1.heap.size→b≠w.heap.size+1→wr.heap[b]?=w1.heap[b]?):=hblk;clear hblk hptr hQat hx c0 c1 h0;go_wp2;exact⟨⟨k+1,yb,yc,hlt,by simp,by rw[HT.out],by rw[HT.out];exact hO,hyb,HB.out,hzr,hb⟩,by simp[intOf];omega⟩
  ·obtain rfl:k=ns.length:=by omega
   rw[List.take_length]at hO;simp only[List.take_length];obtain⟨hH,hc1,hc2,hN',hyl,hfz⟩:=own_holds hO;have hcl:=colN_len ns;have hS3:=fun w2 w3 n q os=>sorted_ints (w2:=w2) (w3:=w3) (n:=n) (q:=q) (os:=os) (L:=L) hH hc1 hc2 hN' hyl hfz;have hms:((colN ns).mergeSort fun x y=>decide (x≤y)).length=(colN ns).length:=List.length_mergeSort _;have hCM:=fun w2=>Tryz.slices_Compact_int yb 0 yc ((colN ns).mergeSort fun x y=>decide (x≤y)) w2;have hHM:∀n os,Sort.Holds (Value.int .i64) (Sort.grow (Sort.putRow (Value.int .i64) (Sort.ahead wr n) yb 0 ((colN ns).mergeSort fun x y=>decide (x≤y)).toArray) os) yb 0 ((colN ns).mergeSort fun x y=>decide (x≤y)).toArray:=fun n os=> Sort.holds_grow _ _ _ _ _ _ (by simpa using hyl) (Sort.holds_putRow _ _ _ _ (colN ns).toArray _ (Sort.holds_ahead _ _ _ _ _ _ hH) (by simp));clear hblk hptr hQat hO;go_wp2_with fail;refine cM8 (Tryz.slices_Sort_int yb 0 yc (colN ns) wr hH hyl (by omega)) ?_;rintro q w2 ⟨rfl,n2,os2,h2⟩;have hH2:=hHM n2 os2;rw[←h2]at hH2;have hC2:=hCM w2 hH2 (by rw[hms];omega) (by rw[hms];exact hc1);rw[hms]at hC2;have HS3:=hS3 w2;have H2:Hid (w2=Sort.grow (Sort.putRow (Value.int .i64) (Sort.ahead wr n2) yb 0 ((colN ns).mergeSort fun x y=>decide (x≤y)).toArray) os2):=h2;have hl2:(Lib.compact ((colN ns).mergeSort fun x y=>decide (x≤y))).length=L.length:=by rw[HS.out]
   clear hCM hHM hS3 hH hH2 h2;go_wp2_with fail;refine cM8 hC2 ?_;rintro q w3 ⟨rfl,q3,h3⟩;obtain⟨⟨gg,hI3,hO3⟩,hb3⟩:=HS3 w3 n2 q3 os2 H2.out h3 HS.out;rw[hl2];have hbE:Below w.heap.size w w3:=hb.trans (hb3.mono (by omega));clear hC2 HS3 h3;go_wp2;refine bodyPost_ret (v:=.slice (some ⟨yb,0,none⟩) L.length yc) (by simp[results,Tryz.results139,go_sem]) rfl ⟨⟨_,gg,rfl,hI3,⟨hO3.1,fun b hb'=>⟨by have:=(hO3.2 b hb').1;omega,(hO3.2 b hb').2⟩⟩⟩,hbE⟩
end
section
open Go.RowKit
theorem belowE_all {e:E7}{W:Int}{w:World}{D:Nat}{u:Value}{F:List Nat}(hk:KidsIs w D u e.ks F)(h:okE 13 e=true):bE8 e W=(colsL D e).all fun x=>decide (x<W):=by
 rw[bE8,h,Bool.true_and,Bool.eq_iff_iff,colsBelow_iff W 13 e w D u F hk h,List.all_eq_true];simp
theorem allI_step {l:List Int}{k:Nat}{x:Int}{q:Int→Bool}(h:l[k]?=some x):(l.drop k).all q=(q x && (l.drop (k+1)).all q):=by
 obtain⟨hk,rfl⟩:=gE1 h;rw[List.drop_eq_getElem_cons hk,List.all_cons]
theorem flat_each {G:List (List Nat)}(h:G.flatten.Nodup){k:Nat}{g:List Nat}(hg:G[k]?=some g):g.Nodup∧∀b∈g,b∈G.flatten:=by
 obtain⟨hk,rfl⟩:=gE1 hg;refine⟨?_,fun b hb=>List.mem_flatten.2 ⟨G[k],List.getElem_mem hk,hb⟩⟩;have e:G=G.take k++G[k]::G.drop (k+1):=by rw[←List.drop_eq_getElem_cons hk,List.take_append_drop]
 rw[e,List.flatten_append,List.flatten_cons]at h;exact(List.nodup_append.1 (List.nodup_append.1 h).2.1).1
theorem expsOver_any (v:Value)(es:List E7)(F:List Nat)(D:Nat)(W:Int)(w:World)(hk:KidsIs w D v es F)(hd:F.Nodup∧∀b∈F,Fr w b)(hn:wtEs es≤1048576):Calls Tryz.prog 120 #[.int .i64 W,v] w fun x w'=>x=.returned (.bool (es.all (bE8 · W)))∧Below w.heap.size w w':=by
 obtain⟨D,rfl⟩:=hk.succ;obtain⟨a,c,b,o,G,rfl,hl,hc,hG,_,ha⟩:=hk.pick;unfold maxLen at hc;clear hk;go_enter Tryz.func120,Tryz.ntmps120;go_wp2_with fail;go_loopw [11] (fun i wr=> ∃k:Nat,k≤es.length∧i=.int .i64 k∧es.all (bE8 · W)=(es.drop k).all (bE8 · W)∧Below w.heap.size w wr) (fun i _=>es.length - (intOf i).toNat)
 case atStart=>exact⟨0,Nat.zero_le _,rfl,by simp,bex⟩
 case round=>
  obtain⟨k,hk,rfl,heq,hb⟩:=hrel;have HE:Hid (es.all (bE8 · W)=(es.drop k).all (bE8 · W)):=heq;have hzb:=hb.size;clear heq;by_cases hlt:k<es.length
  ·obtain⟨rfl,hblt,hF,hL⟩:=ha k hlt;obtain⟨x,g,u,hx,hg,hxw,⟨c0,c1,c2,c3,c4,c5⟩,c6,hK,hbr⟩:=hL.at hG hblt hb hlt;obtain⟨ax,cx,rfl,_,_⟩:=hK.shape;obtain⟨D',rfl⟩:=hK.succ;have HS:Hid ((es.drop k).all (bE8 · W)=(bE8 x W && (es.drop (k+1)).all (bE8 · W))):=allB_step hx;have hxn:wtE x≤1048576:=by have:=wtE_mem (mg8 hx);omega
   have hkI:(k:Int)<es.length:=by omega
   have hdg:g.Nodup∧∀t∈g,Fr wr t:=by
    rw[hF]at hd;have h1:=flat_each (List.nodup_cons.1 hd.1).2 hg;refine⟨h1.1,fun t ht=>?_⟩;have h2:=hd.2 t (List.mem_cons_of_mem _ (h1.2 t ht));obtain⟨cc,tt,ll,h3⟩:=h2.1;exact h2.keep (hb.block t (lt_of_blk h3))
   have hO:=fun w2 (hb:Below wr.heap.size wr w2)=>implExpOk_any x _ g (D'+1) w2 hxw (hK.below hb);have hC:=fun w2 (hb:Below wr.heap.size wr w2)=>implCols_any D' x _ g w2 hxw (hK.below hb) ⟨hdg.1,fun t ht=>by
    have h2:=hdg.2 t ht;obtain⟨cc,tt,ll,h3⟩:=h2.1;exact h2.keep (hb.block t (lt_of_blk h3))⟩ hxn
   obtain⟨bo,HO⟩:∃b,Hid (okE 13 x=b):=⟨_,rfl⟩;rw[HO.out]at hO;clear ha hL hx hg hxw hdg hF hd;go_wp2_with fail;refine cM8 (hO _ bex) ?_;rintro y w1 ⟨rfl,hb1⟩;have bel1:Below wr.heap.size wr w1:=bex;have d0:w1.cell? ⟨wr.heap.size,0,none⟩=some (.int .i64 x.k):=cL8 hb1 (by go_simp);have d1:w1.cell? ⟨wr.heap.size,1,none⟩=some (.int .i64 x.n):=cL8 hb1 (by go_simp);have d2:w1.cell? ⟨wr.heap.size,2,none⟩=some (.int .i64 x.v.k):=cL8 hb1 (by go_simp);have d3:w1.cell? ⟨wr.heap.size,3,none⟩=some (.int .i64 x.v.n):=cL8 hb1 (by go_simp);have d4:w1.cell? ⟨wr.heap.size,4,none⟩=some (.string x.v.s):=cL8 hb1 (by go_simp);have d5:w1.cell? ⟨wr.heap.size,5,none⟩=some (.string x.p):=cL8 hb1 (by go_simp);have d6:w1.cell? ⟨wr.heap.size,6,none⟩=some (.slice ax x.ks.length cx):=cL8 hb1 (by go_simp);have belE:=hb.trans (bel1.mono hzb);clear hO hb1 c0 c1 c2 c3 c4 c5 c6;cases bo with
   |false=>
    have HF:Hid (es.all (bE8 · W)=false):=by show _=_;rw[HE.out,HS.out,belowE_no HO.out,Bool.false_and]
    clear hK hC;go_wp2;go_returns;exact⟨by rw[HF.out];rfl,belE⟩
   |true=>
    have HB:Hid (bE8 x W=(colsL (D'+1) x).all fun z=>decide (z<W)):=belowE_all hK HO.out;clear hK;have hlen:(colsL (D'+1) x).length≤1+wtE x:=colsL_len (D'+1) x;obtain⟨L,HL⟩:∃L,Hid (colsL (D'+1) x=L):=⟨_,rfl⟩;rw[HL.out]at hC hlen;go_wp2_with fail;refine cM8 (hC _ bel1) ?_;rintro y w2 ⟨⟨vi,gi,rfl,hI,_⟩,hb2⟩;have bel2:Below w.heap.size w w2:=belE.trans (hb2.mono belE.size);obtain⟨ay,cy,by',oy,rfl,hyl,hyc,_,hyc2⟩:=hI.pick;unfold maxLen at hyc;clear hC hb2 bel1 belE hb hI d0 d1 d2 d3 d4 d5 d6;go_wp2_with fail;go_loopw [21] (fun i wi=> ∃j:Nat,j≤L.length∧i=.int .i64 j∧(L.all fun z=>decide (z<W))=((L.drop j).all fun z=>decide (z<W))∧Below w2.heap.size w2 wi) (fun i _=>L.length - (intOf i).toNat)
    case atStart=>exact⟨0,Nat.zero_le _,rfl,by simp,Below.refl _ _⟩
    case round=>
     obtain⟨j,hj,rfl,hje,hbi⟩:=hrel;have HJ:Hid ((L.all fun z=>decide (z<W))=((L.drop j).all fun z=>decide (z<W))):=hje;have belI:=bel2.trans (hbi.mono bel2.size);clear hje;by_cases hjl:j<L.length
     ·obtain⟨rfl,hyb,_,hcell⟩:=hyc2 j hjl;obtain⟨z,hz⟩:∃z,L[j]?=some z:=⟨L[j],by simp⟩;have cz:=((bc8 hbi).1 _ _ hyb).trans (hcell j z hz);have HZ:Hid (((L.drop j).all fun z=>decide (z<W))=(decide (z<W) && ((L.drop (j+1)).all fun z=>decide (z<W)))):=allI_step hz;have hjI:(j:Int)<L.length:=by omega
      clear hyc2 hcell hz;by_cases hzW:z<W
      ·have hzW':¬z≥W:=by omega
       have HF:Hid ((L.all fun z=>decide (z<W))=((L.drop (j+1)).all fun z=>decide (z<W))):=by show _=_;rw[HJ.out,HZ.out,decide_eq_true hzW,Bool.true_and]
       go_wp2_with fail;exact⟨⟨j+1,hjl,by simp,HF.out,hbi⟩,by simp[intOf];omega⟩
      ·have hzW':z≥W:=by omega
       have HF:Hid (es.all (bE8 · W)=false):=by show _=_;rw[HE.out,HS.out,HB.out,HL.out,HJ.out,HZ.out,decide_eq_false hzW,Bool.false_and,Bool.false_and]
       go_wp2;go_returns;exact⟨by rw[HF.out];rfl,belI⟩
     ·obtain rfl:j=L.length:=by omega
      have HF:Hid (es.all (bE8 · W)=(es.drop (k+1)).all (bE8 · W)):=by show _=_;rw[HE.out,HS.out,HB.out,HL.out,HJ.out,List.drop_length,List.all_nil,Bool.true_and]
      clear hyc2;go_wp2_with fail;exact⟨⟨k+1,hlt,by simp,HF.out,belI⟩,by simp[intOf];omega⟩
  ·obtain rfl:k=es.length:=by omega
   have HF:Hid (es.all (bE8 · W)=true):=by show _=_;rw[HE.out,List.drop_length];rfl
   clear ha;go_wp2;go_returns;exact⟨by rw[HF.out];rfl,hb⟩
end
end
end Go.Proofs.YtjhhmnjpojnoiaaGreatDoor
