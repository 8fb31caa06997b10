/- Own text. The contract of impl.copyPlaces at expressions: a copy of an expression, and the list of what stands in it. -/
import Derived.Test.YtjhhmnjpojnoiaaGreatDoorGLWithViews13
import Derived.Test.YtjhhmnjpojnoiaaGreatDoorGLWithViews1
import Derived.Handy
import Derived.WideMake
import Derived.Maps.AppendAt
import Derived.Deep.RegionHeld3
set_option maxHeartbeats 16000000
set_option maxRecDepth 100000
set_option linter.unusedVariables false
set_option linter.unusedSimpArgs false
namespace Go.Proofs.YtjhhmnjpojnoiaaGreatDoor
section
section
open Go.RowKit Go.Deep Go.ChangeShapes Go.WideShapes
theorem Tryz.infoPtE:(Tryz.prog.info? 210).map (fun i=>(i.zero,i.size,i.bytes))=some (some (.pointer none),1,8):=by kernel_rfl
def pts (ns:List Nd):List Value:=ns.map fun x=> .pointer (some ⟨x.b,x.o,none⟩)
theorem pts_len (ns:List Nd):(pts ns).length=ns.length:=by simp[pts]
theorem pts_push (ns:List Nd)(x:Nd):pts (ns++ [x])=pts ns++ [.pointer (some ⟨x.b,x.o,none⟩)]:=by simp[pts]
theorem pts_read {w:World}{N n:Nat}{v:Value}{ns:List Nd}{t:TypeId}(h:w.ownsRow N t 1 v n (pts ns)){i:Nat}{x:Nd}(hx:ns[i]?=some x):∃g cap,v=.slice (some ⟨g,0,none⟩) n cap∧n=ns.length∧i<n∧n≤cap∧cap≤maxLen∧g<w.heap.size∧N≤g∧w.cell? ⟨g,i,none⟩=some (.pointer (some ⟨x.b,x.o,none⟩)):=by
 obtain⟨hl,ho⟩:=h;rw[pts_len]at hl;have hi:i<ns.length:=(gE1 hx).1;have e0:(pts ns)[i]?=some (.pointer (some ⟨x.b,x.o,none⟩)):=by simp[pts,hx]
 rcases ho with⟨_,h0⟩|⟨g,cap,cur,rfl,hg,hc,hn,hmx,hs,ht⟩
 ·omega
 have hlt:g<w.heap.size:=by
  rcases Nat.lt_or_ge g w.heap.size with h'|h'
  ·exact h'
  ·simp[Array.getElem?_eq_none h']at hc
 refine⟨g,cap,rfl,by omega,by omega,hn,hmx,hlt,hg,?_⟩;simp only[World.cell?,hc];rw[←ht,List.getElem?_take,if_pos (by omega),Array.getElem?_toList]at e0
 simpa using e0
theorem news_take {ks:List E7}{g k:Nat}{e:E7}(h:ks[k]?=some e):(news ks g).take (k+1)=(news ks g).take k++ [⟨g,k*7,e⟩]:=by
 have h1:=news_at (g:=g) h;obtain⟨hk,h2⟩:=gE1 h1;rw[List.take_succ_eq_append_getElem hk,h2]
theorem nq_start {w:World}{D:Nat}{P:E7→Prop}{e:E7}{u:Value}{wr:World}(hN:0<w.heap.size)(he:e.wf)(hP:P e)(hb:w.heap.size<wr.heap.size)(hf:∀q,wr.frozen? ⟨w.heap.size,q,none⟩=false)(hc:cellsE wr w.heap.size 0 e)(hu:wr.cell? ⟨w.heap.size,6,none⟩=some u)(hr:RE w (D+1) u e.ks):NQ w D (fun _=>(0,0)) P wr 0 [⟨w.heap.size,0,e⟩]:=by
 refine⟨fun j x hx=>?_,fun j k x y hx hy _ _=>?_,rfl,fun c hc=>hc⟩
 ·cases j with
  |zero=>
   simp at hx;subst hx;exact⟨⟨he,hP,Nat.le_refl _,hb,hf,rfl⟩,hc,u,hu,fun _=>hr,fun h=>absurd h (by omega)⟩
  |succ j=>simp at hx
 ·have h1:=(gE1 hx).1;have h2:=(gE1 hy).1;simp at h1 h2;omega
theorem clOf_parts {w wr w1:World}{u v:Value}{ks:List E7}(hcl:ClOf w1 wr.heap.size u v ks.length)(hb:Below w.heap.size w w1):∃gg av cv,v=.slice av ks.length cv∧wr.heap.size≤gg∧ks.length≤cv∧cv≤maxLen∧(ks≠ []→av=some ⟨gg,0,none⟩)∧
   (ks≠ []→gg<w1.heap.size∧(∀q,w1.frozen? ⟨gg,q,none⟩=false)∧∀b o n c,u=.slice (some ⟨b,o,none⟩) n c→b<w.heap.size→∀j,j<ks.length*7→w1.cell? ⟨gg,j,none⟩=w.cell? ⟨b,o+j,none⟩):=by
 rcases hcl with⟨h0,a,c,rfl,hc⟩|⟨b,o,c,g,cap,rfl,rfl,hg,hgl,hcap,hm,hf,hcell⟩
 ·have hne:¬ks≠ []:=fun h=>h (List.length_eq_zero_iff.1 h0);exact⟨wr.heap.size,a,c,by rw[h0],Nat.le_refl _,by omega,hc,fun h=>absurd h hne,fun h=>absurd h hne⟩
 ·refine⟨g,_,cap,rfl,hg,hcap,hm,fun _=>rfl,fun _=>⟨hgl,hf,fun b' o' n' c' hu hb' j hj=>?_⟩⟩;injection hu with ha;injection ha with ha;injection ha with h1 h2;subst h1 h2;rw[hcell j hj];exact(bc8 hb).1 _ _ hb'
theorem NQ.round2 {w wr w1 w3:World}{D i g gg BM:Nat}{hang:Nat→Nat×Nat}{P:E7→Prop}{ns:List Nd}{x:Nd}{u:Value}{av:Option Addr}{cv:Nat}(h:NQ w D hang P wr i ns)(hx:ns[i]?=some x)(hP:∀e,P e→∀k∈e.ks,P k)(hu:wr.cell? ⟨x.b,x.o+6,none⟩=some u)(hN:w.heap.size≤wr.heap.size)(hb1:Below wr.heap.size wr w1) (hdis:∀ (j:Nat) (y:Nd),ns[j]?=some y→y.b≠g) (hdisB:∀ (j:Nat) (y:Nd),ns[j]?=some y→y.b≠BM) (hBM:BM<wr.heap.size) (hg:g<wr.heap.size) (hs3:w1.heap.size≤w3.heap.size)(h3:∀b,b<w1.heap.size→b≠g→b≠BM→w3.heap[b]?=(w1.setCell ⟨x.b,x.o+6,none⟩ (.slice av x.e.ks.length cv)).heap[b]?)(hgg:wr.heap.size≤gg) (hc1:x.e.ks.length≤cv) (hc2:cv≤maxLen) (hav:x.e.ks≠ []→av=some ⟨gg,0,none⟩)(hgl:x.e.ks≠ []→gg<w1.heap.size∧(∀q,w1.frozen? ⟨gg,q,none⟩=false)∧∀b o n c,u=.slice (some ⟨b,o,none⟩) n c→b<w.heap.size→∀j,j<x.e.ks.length*7→w1.cell? ⟨gg,j,none⟩=w.cell? ⟨b,o+j,none⟩):NQ w D (fun c=>if c=gg then(x.b,x.o+6)else hang c) P w3 (i+1) (ns++news x.e.ks gg)∧(∀ (j:Nat) (y:Nd),ns[j]?=some y→j≠i→w3.cell? ⟨y.b,y.o+6,none⟩=wr.cell? ⟨y.b,y.o+6,none⟩)∧
   (x.e.ks≠ []→∀b o n c,u=.slice (some ⟨b,o,none⟩) n c→b<w.heap.size→∀j,j<x.e.ks.length*7→w3.cell? ⟨gg,j,none⟩=w.cell? ⟨b,o+j,none⟩):=by
 have hz1:=hb1.size;have hlt:∀ (j:Nat) (y:Nd),ns[j]?=some y→y.b<wr.heap.size:=fun j y hy=>(h.at' j y hy).1.2.2.2.1;have hxl:=hlt i x hx;have far:∀ (j:Nat) (y:Nd),ns[j]?=some y→∀q,(y.b≠x.b∨q≠x.o+6)→w3.cell? ⟨y.b,q,none⟩=wr.cell? ⟨y.b,q,none⟩:=by
  intro j y hy q hne;have hy1:=hlt j y hy;rw[cb8 (h3 y.b (by omega) (hdis j y hy) (hdisB j y hy)),cO8 _ _ _ _ (by
   intro e;have e1:=congrArg Addr.block e;have e2:=congrArg Addr.off e;rcases hne with h|h
   ·exact h e1.symm
   ·exact h e2.symm)]
  exact(bc8 hb1).1 _ _ hy1
 have hgb:x.e.ks≠ []→w3.heap[gg]?=w1.heap[gg]?:=fun hne=>by
  rw[h3 gg (hgl hne).1 (by omega) (by omega)];exact bS8 _ _ _ _ (by show gg≠x.b;omega)
 refine⟨h.step hx hP hu (by omega) hN far (fun j y hy q=>?_) ?_ hgg ⟨av,cv,rfl,hc1,hc2,hav⟩ fun hne=>?_,fun j y hy hji=>far j y hy _ ?_,fun hne b o n c hu hb j hj=>(cb8 (hgb hne)).trans ((hgl hne).2.2 b o n c hu hb j hj)⟩
 ·have hy1:=hlt j y hy;rw[fb8 (h3 y.b (by omega) (hdis j y hy) (hdisB j y hy)),World.frozen?_setCell];exact(bc8 hb1).2 _ _ hy1
 ·rw[cb8 (h3 x.b (by omega) (hdis i x hx) (hdisB i x hx))];exact cS8 _ _ _ (((bc8 hb1).1 _ _ hxl).trans hu)
 ·obtain⟨hl,hf,hc⟩:=hgl hne;exact⟨by omega,fun q=>(fb8 (hgb hne)).trans (hf q),fun b o n c hu hb j hj=>(cb8 (hgb hne)).trans (hc b o n c hu hb j hj)⟩
 ·by_cases hb:y.b=x.b
  ·right;intro ho;exact hji (h.dist j i y x hy hx hb (by omega))
  ·exact .inl hb
theorem kidsPtr_any (b q:Nat)(u:Value)(w:World)(hl:b<w.heap.size)(h:w.cell? ⟨b,q+6,none⟩=some u):Calls Tryz.prog 136 #[.pointer (some ⟨b,q,none⟩)] w fun x w'=>x=.returned (.pointer (some ⟨b,q+6,none⟩))∧w'=w:=by
 go_enter Tryz.func136,Tryz.ntmps136;go_wp2;go_returns;exact⟨rfl,rfl⟩
def CpOut (w:World)(D:Nat)(P:E7→Prop)(e:E7)(w':World)(v:Value):Prop:=
 ∃ (ns:List Nd) (hang:Nat→Nat×Nat),w'.ownsRow w.heap.size 210 1 v ns.length (pts ns)∧ns[0]?=some ⟨w.heap.size,0,e⟩∧NQ w D hang P w' ns.length ns∧(∀ (j:Nat) (y:Nd),ns[j]?=some y→v.ownBlock≠some y.b)∧ns.length≤2097153
theorem heap_three (w:World)(X Y Z:Obj):(((w.alloc X).alloc Y).alloc Z).heap[w.heap.size+1]?=some Y∧(((w.alloc X).alloc Y).alloc Z).heap[w.heap.size+1+1]?=some Z:=by
 constructor
 ·have:=(heap_two (w.alloc X) Y Z).1
  rwa [World.size_alloc]at this
 ·have:=(heap_two (w.alloc X) Y Z).2
  rwa [World.size_alloc]at this
attribute [local go_sem] Go.run_makeMap_plain
theorem copyPlaces_any (D:Nat)(P:E7→Prop)(hP:∀e,P e→∀k∈e.ks,P k)(e:E7)(u:Value)(F:List Nat)(w:World)(hN:0<w.heap.size)(he:e.wf)(hPe:P e)(hk:KidsIs w (D+1) u e.ks F)(hd:(F.Nodup∧∀b∈F,Fr w b)∨cntE e≤8191)(hn:wtE e≤2097152):Calls Tryz.prog 153 #[(.agg #[.int .i64 e.k,.int .i64 e.n,.int .i64 e.v.k,.int .i64 e.v.n,.string e.v.s,.string e.p,u]),.func (.func 136) #[] #[],.int .i64 8192] w fun x w'=>(∃v,x=.returned v∧CpOut w D P e w' v)∧Below w.heap.size w w':=by
 obtain⟨i0,hi,hz0,hz1,hz2⟩:=info_parts Tryz.infoPtE;obtain⟨a,c,rfl,hl,hc⟩:=hk.shape;have hre:=hk.re;go_enter Tryz.func153,Tryz.ntmps153;go_wp2;go_loopw [7,9] (fun y i wr=> ∃ (i':Nat) (ns:List Nd) (hang:Nat→Nat×Nat) (es:Array MapEntry) (ck:Nat),i=.int .i64 i'∧i'≤ns.length∧wr.ownsRow w.heap.size 210 1 y ns.length (pts ns)∧ns[0]?=some ⟨w.heap.size,0,e⟩∧NQ w D hang P wr i' ns∧(∀ (j:Nat) (z:Nd),ns[j]?=some z→y.ownBlock≠some z.b)∧(∀ (j:Nat) (z:Nd),ns[j]?=some z→z.b≠w.heap.size+1+1)∧wr.heap[w.heap.size+1+1]?=some (.map es ck)∧MQ w D F wr i' ns es∧Below w.heap.size w wr∧i'+rem i' ns≤1+wtE e) (fun _ i _=>1+wtE e - (intOf i).toNat)
 case atStart=>
  refine⟨0,[⟨w.heap.size,0,e⟩],fun _=>(0,0),#[],0,rfl,Nat.zero_le _,?_,rfl,nq_start hN he hPe (by simp;omega) (fun q=>by go_simp) ⟨by go_simp,by go_simp,by go_simp,by go_simp,by go_simp,by go_simp⟩ (u:=.slice a e.ks.length c) (by go_simp) hre,?_,?_,?_,mq_start (u:=.slice a e.ks.length c) hd (by show World.cell? _ ⟨w.heap.size,0+6,none⟩=_;go_simp) hk,bex,by simp[rem]⟩
  ·refine⟨by simp[pts],.inr ⟨w.heap.size+1,1,#[.pointer (some ⟨w.heap.size,0,none⟩)],rfl,by omega,?_,Nat.le_refl _,by unfold maxLen;omega,by first|rfl|simp,by first|rfl|simp[pts]⟩⟩;exact(heap_three w _ _ _).1
  ·intro j z hz;have h1:=(gE1 hz).1;simp at h1;subst h1;simp at hz;subst hz;simp[Value.ownBlock]
  ·intro j z hz;have h1:=(gE1 hz).1;simp at h1;subst h1;simp at hz;subst hz;show w.heap.size≠w.heap.size+1+1;omega
  ·exact(heap_three w _ _ _).2
 case round=>
  obtain⟨i,ns,hang,es,ck,rfl,hile,hown,h00,hQ,hdis,hdisB,hmap,hMQ,hb,hrem⟩:=hrel;have hzb:=hb.size;have hlen:ns.length≤2097153:=by have:=rem_len i ns;omega
  by_cases hlt:i<ns.length
  ·obtain⟨x,hx⟩:∃x,ns[i]?=some x:=⟨ns[i],by simp[hlt]⟩;obtain⟨g,cap,rfl,_,_,hcap,hcm,hgl0,hgN,hp⟩:=pts_read hown hx;obtain⟨⟨xw,xP,xN,xl,xf,xo⟩,xc,uu,xu,xre,_⟩:=hQ.at' i x hx;have xre:=xre (Nat.le_refl _);obtain⟨au,cu,rfl,hul,huc⟩:=xre.shape;have hxr:=rem_pos hx;have hks:x.e.ks.length≤2097152:=by have:=wtE_eq x.e;omega
   have hxg:x.b≠g:=fun h=>hdis i x hx (by rw[h];rfl);have hxB:x.b≠w.heap.size+1+1:=hdisB i x hx;have hBz:w.heap.size+1+1<wr.heap.size:=(Array.getElem?_eq_some_iff.1 hmap).1;have hgB:g≠w.heap.size+1+1:=by
    obtain⟨g',cap',e',_,_,_,_,c',t',l',hc'⟩:=own_shape hown (by omega);injection e' with e1;injection e1 with e1;injection e1 with e1;intro h;rw[←e1,h,hmap]at hc';cases hc'
   have HX:Hid (ns[i]?=some x):=hx;have HR:=fun g=>rem_step g hx;unfold maxLen at hcm huc;by_cases hne0:x.e.ks=[]
   ·have h0:((x.e.ks.length:Int)==0)=true:=by rw[hne0];rfl
    have far:∀ (j:Nat) (y:Nd),ns[j]?=some y→∀q,(y.b≠x.b∨q≠x.o+6)→(wr.setCell ⟨x.b,x.o+6,none⟩ (.slice none 0 0)).cell? ⟨y.b,q,none⟩=wr.cell? ⟨y.b,q,none⟩:=by
     intro j y hy q hne;exact cO8 _ _ _ _ (by
      intro e;have e1:=congrArg Addr.block e;have e2:=congrArg Addr.off e;rcases hne with h|h
      ·exact h e1.symm
      ·exact h e2.symm)
    have hQ3:=hQ.step (w3:=wr.setCell ⟨x.b,x.o+6,none⟩ (.slice none 0 0)) (g:=wr.heap.size) (v:=.slice none 0 0) hx hP xu (by simp) hzb far (fun j y hy q=>World.frozen?_setCell _ _ _ _) (cS8 _ _ _ xu) (Nat.le_refl _) ⟨none,0,by rw[hne0];rfl,by rw[hne0];simp,by simp,fun h=>absurd hne0 h⟩ (fun h=>absurd hne0 h);have hM3:MQ w D F (wr.setCell ⟨x.b,x.o+6,none⟩ (.slice none 0 0)) (i+1) ns es:=hMQ.skip hx fun j y hy hji=>far j y hy _ (by
     by_cases hb:y.b=x.b
     ·right;intro ho;exact hji (hQ.dist j i y x hy hx hb (by omega))
     ·exact .inl hb)
    have hnil:ns++news x.e.ks wr.heap.size=ns:=by rw[hne0];simp[news]
    rw[hnil]at hQ3;have hrem3:=HR wr.heap.size;rw[hnil]at hrem3;have hown3:(wr.setCell ⟨x.b,x.o+6,none⟩ (.slice none 0 0)).ownsRow w.heap.size 210 1 (.slice (some ⟨g,0,none⟩) ns.length cap) ns.length (pts ns):=ownsE_keep hown fun b hb=>by simp[Value.ownBlock]at hb;subst hb;exact bS8 _ _ _ _ (Ne.symm hxg)
    have hmap3:(wr.setCell ⟨x.b,x.o+6,none⟩ (.slice none 0 0)).heap[w.heap.size+1+1]?=some (.map es ck):=(bS8 _ _ _ _ (Ne.symm hxB)).trans hmap;have hbw3:Below w.heap.size w (wr.setCell ⟨x.b,x.o+6,none⟩ (.slice none 0 0)):=hb.setCell xN _;clear hre HX HR far hQ hMQ hnil;go_wp2_with(first|(go_at_call 136;refine(kidsPtr_any x.b x.o (.slice au x.e.ks.length cu) _ xl xu).mono ?_;rintro z w' ⟨rfl,hww⟩;(obtain rfl:wr=w':=hww.symm))|fail);exact⟨⟨i+1,ns,_,es,ck,by simp,hlt,hown3,h00,hQ3,hdis,hdisB,hmap3,hM3,hbw3,by omega⟩,by simp[intOf];omega⟩
   ·have hne:x.e.ks≠ []:=hne0;obtain⟨b,o,rfl,hbw⟩:∃b o,au=some ⟨b,o,none⟩∧b<w.heap.size:=by
     obtain⟨a',c',e',_,_,h⟩:=xre;obtain⟨b,o,rfl,hb,_⟩:=h hne;injection e' with e1;exact⟨b,o,e1,hb⟩
    have h0:((x.e.ks.length:Int)==0)=false:=by
     have:=List.length_pos_iff.2 hne;simp;omega
    have hpos:(0:Int)<x.e.ks.length:=by have:=List.length_pos_iff.2 hne;omega
    have hposN:0<x.e.ks.length:=List.length_pos_iff.2 hne;have hcuI:(cu:Int)≤9223372036854775807:=by omega
    clear hre hx hne0;go_wp2_with(first|(go_at_call 136;refine(kidsPtr_any x.b x.o (.slice (some ⟨b,o,none⟩) x.e.ks.length cu) _ xl xu).mono ?_;rintro z w' ⟨rfl,hww⟩;(obtain rfl:wr=w':=hww.symm))|fail);go_region_held3 (fun w'=>w'.cell? ⟨x.b,x.o+6,none⟩=some (.slice (some ⟨b,o,none⟩) x.e.ks.length cu)) (go_simp) (fail);have hX:Below w.heap.size w (World.drew (World.alloc wr (.cells #[.pointer (some ⟨b,o,none⟩),.int .i64 x.e.ks.length] 259))):=bex;have hbX:Below wr.heap.size wr (World.drew (World.alloc wr (.cells #[.pointer (some ⟨b,o,none⟩),.int .i64 x.e.ks.length] 259))):=bex;have x0:(World.drew (World.alloc wr (.cells #[.pointer (some ⟨b,o,none⟩),.int .i64 x.e.ks.length] 259))).cell? ⟨wr.heap.size,0,none⟩=some (.pointer (some ⟨b,o,none⟩)):=by go_simp
    have x1:(World.drew (World.alloc wr (.cells #[.pointer (some ⟨b,o,none⟩),.int .i64 x.e.ks.length] 259))).cell? ⟨wr.heap.size,1,none⟩=some (.int .i64 x.e.ks.length):=by go_simp
    have xz:(World.drew (World.alloc wr (.cells #[.pointer (some ⟨b,o,none⟩),.int .i64 x.e.ks.length] 259))).heap.size=wr.heap.size+1:=by simp
    have xuX:(World.drew (World.alloc wr (.cells #[.pointer (some ⟨b,o,none⟩),.int .i64 x.e.ks.length] 259))).cell? ⟨x.b,x.o+6,none⟩=some (.slice (some ⟨b,o,none⟩) x.e.ks.length cu):=(hbX.cell (p:=⟨x.b,_,none⟩) xl).trans xu;generalize(World.drew (World.alloc wr (.cells #[.pointer (some ⟨b,o,none⟩),.int .i64 x.e.ks.length] 259)))=wX at*;have hmX:wX.heap[w.heap.size+1+1]?=some (.map es ck):=(hbX.block _ hBz).trans hmap;have hlook:=look_noS wX (p:=⟨b,o,none⟩) (n:=x.e.ks.length) hmX (hMQ.miss HX.out xu hne hX);have hxX:x.b<wX.heap.size:=by omega
    have pX:=((bc8 hbX).1 _ _ hgl0).trans hp;have gX:g<wX.heap.size:=by omega
    have HQ:Hid (NQ w D hang P wr i ns):=hQ;clear hQ hp;go_wp2_with fail;refine cM8 (cloneR_any D (.slice (some ⟨b,o,none⟩) x.e.ks.length cu) x.e.ks wX (RE.below hX xre) hks) ?_;rintro ex w1 ⟨⟨v1,rfl,hcl⟩,hb1⟩;have hz1':=hb1.size;have hbw1:Below w.heap.size w w1:=hX.trans (hb1.mono hX.size);obtain⟨gg,av,cv,rfl,hgg,hcv1,hcv2,hav,hgl⟩:=clOf_parts hcl hbw1;obtain rfl:=hav hne;have hggl:=(hgl hne).1;have xu1:w1.cell? ⟨x.b,x.o+6,none⟩=some (.slice (some ⟨b,o,none⟩) x.e.ks.length cu):=((bc8 hb1).1 _ _ hxX).trans xuX;have xf1:∀q,w1.frozen? ⟨x.b,q,none⟩=false:=fun q=>((bc8 hb1).2 _ q hxX).trans (((bc8 hbX).2 _ q xl).trans (xf q));have xl1:x.b<w1.heap.size:=by omega
    have hm1:w1.heap[w.heap.size+1+1]?=some (.map es ck):=(hb1.block _ (by omega)).trans hmX;have y0:=((bc8 hb1).1 _ _ (show wr.heap.size<wX.heap.size by omega)).trans x0;have y1:=((bc8 hb1).1 _ _ (show wr.heap.size<wX.heap.size by omega)).trans x1;have hmis:=hMQ.miss HX.out xu hne (hbw1.setCell (p:=⟨x.b,x.o+6,none⟩) xN (.slice (some ⟨gg,0,none⟩) x.e.ks.length cv));have hxr3:x.b≠wr.heap.size:=by omega
    have hB4:=hbw1.setCell (p:=⟨x.b,x.o+6,none⟩) xN (.slice (some ⟨gg,0,none⟩) x.e.ks.length cv);clear hcl hlook pX x0 x1 xuX hav;by_cases hbig:8192≤ns.length
    ·have hbb:decide ((8192:Int)≤(ns.length:Int))=true:=by simp;omega
     have HM:Hid (∀w3:World,(∀ (j:Nat) (y:Nd),ns[j]?=some y→j≠i→w3.cell? ⟨y.b,y.o+6,none⟩=wr.cell? ⟨y.b,y.o+6,none⟩)→(∀j,j<x.e.ks.length*7→w3.cell? ⟨gg,j,none⟩=w.cell? ⟨b,o+j,none⟩)→MQ w D F w3 (i+1) (ns++news x.e.ks gg) (es.push ⟨.agg #[.pointer (some ⟨b,o,none⟩),.int .i64 x.e.ks.length],.slice (some ⟨gg,0,none⟩) x.e.ks.length cv,ck⟩)):=fun w3 h1 h2=>hMQ.note hbig HX.out xu hne h1 h2;go_wp2_with fail;obtain⟨wa,hwa⟩:∃z,z=(w1.setCell ⟨x.b,x.o+6,none⟩ (.slice (some ⟨gg,0,none⟩) x.e.ks.length cv)):=⟨_,rfl⟩;rw[←hwa]at hmis hB4⊢;have s0:wa.cell? ⟨wr.heap.size,0,none⟩=some (.pointer (some ⟨b,o,none⟩)):=by rw[hwa,cb8 (bS8 _ _ _ _ (Ne.symm hxr3))];exact y0
     have s1:wa.cell? ⟨wr.heap.size,1,none⟩=some (.int .i64 x.e.ks.length):=by rw[hwa,cb8 (bS8 _ _ _ _ (Ne.symm hxr3))];exact y1
     have s2:wa.cell? ⟨x.b,x.o+6,none⟩=some (.slice (some ⟨gg,0,none⟩) x.e.ks.length cv):=by rw[hwa];exact cS8 _ _ _ xu1
     have A1:∀b',b'<w1.heap.size→wa.heap[b']?=(w1.setCell ⟨x.b,x.o+6,none⟩ (.slice (some ⟨gg,0,none⟩) x.e.ks.length cv)).heap[b']?:=by rw[hwa];intro _ _;rfl
     have A2:wa.heap.size=w1.heap.size:=by rw[hwa];simp
     have m2:wa.drew.heap[w.heap.size+1+1]?=some (.map es ck):=(A1 _ (by omega)).trans ((bS8 _ _ _ _ (Ne.symm hxB)).trans hm1);have hupd:=upd_noS wa.drew (p:=⟨b,o,none⟩) (n:=x.e.ks.length) (v:=.slice (some ⟨gg,0,none⟩) x.e.ks.length cv) m2 (hMQ.miss HX.out xu hne hB4.drew);obtain⟨B3,u1,B2,B4⟩:=upd_world (o':=.map (es.push ⟨.agg #[.pointer (some ⟨b,o,none⟩),.int .i64 x.e.ks.length],.slice (some ⟨gg,0,none⟩) x.e.ks.length cv,ck⟩) (ck+1)) m2 (by omega) hB4.drew;generalize({wa.drew with heap:=wa.drew.heap.setIfInBounds (w.heap.size+1+1) (.map (es.push ⟨.agg #[.pointer (some ⟨b,o,none⟩),.int .i64 x.e.ks.length],.slice (some ⟨gg,0,none⟩) x.e.ks.length cv,ck⟩) (ck+1))}:World)=w2 at hupd B3 u1 B2 B4;have hwax:x.b<wa.drew.heap.size:=by show x.b<wa.heap.size;omega
     have hwar:wr.heap.size<wa.drew.heap.size:=by show wr.heap.size<wa.heap.size;omega
     clear hwa hmis;refine wp_region_held_drew (S:=(fun w'=>w'.cell? ⟨wr.heap.size,0,none⟩=some (.pointer (some ⟨b,o,none⟩))∧w'.cell? ⟨wr.heap.size,1,none⟩=some (.int .i64 x.e.ks.length)∧w'.cell? ⟨x.b,x.o+6,none⟩=some (.slice (some ⟨gg,0,none⟩) x.e.ks.length cv))) (by kernel_rfl) ?_ (fun hHeld=>?_)
     ·exact⟨s0,s1,s2⟩
     refine tkX (i:=0) (d:=65) (v:=?_) rfl rfl ?_ ?_;rotate_left
     ·intro w' hSw;obtain⟨s0,s1,s2⟩:=hSw;go_simp;try exact rfl
     refine tkX (i:=1) (d:=66) (v:=?_) rfl rfl ?_ ?_;rotate_left
     ·intro w' hSw;obtain⟨s0,s1,s2⟩:=hSw;go_simp;try exact rfl
     refine tkX (i:=2) (d:=67) (v:=?_) rfl rfl ?_ ?_;rotate_left
     ·intro w' hSw;obtain⟨s0,s1,s2⟩:=hSw;go_simp;try exact rfl
     refine tkX (i:=3) (d:=68) (v:=?_) rfl rfl ?_ ?_;rotate_left
     ·intro w' hSw;obtain⟨s0,s1,s2⟩:=hSw;go_simp;try exact rfl
     refine tkX (i:=4) (d:=69) (v:=?_) rfl rfl ?_ ?_;rotate_left
     ·intro w' hSw;obtain⟨s0,s1,s2⟩:=hSw;go_simp;try exact rfl
     refine wpAnyH_ready (rs:=[5]) (by kernel_rfl) (by simp) ?_;refine AllReadyH.cons rfl (fun KK hKK=>?_) AllReadyH.nil;go_simp;refine hKK.out _ _ ⟨(cb8 (u1 _ (by omega))).trans s0,(cb8 (u1 _ (by omega))).trans s1,(cb8 (u1 _ (by omega))).trans s2⟩ (fun hHeld5=>?_);clear hKK hHeld5;refine wpAnyH_done (by kernel_rfl) ?_ _;have B1:∀b',b'<w1.heap.size→b'≠w.heap.size+1+1→w2.heap[b']?=(w1.setCell ⟨x.b,x.o+6,none⟩ (.slice (some ⟨gg,0,none⟩) x.e.ks.length cv)).heap[b']?:=fun b' h1 h2=>(u1 b' h2).trans (A1 b' h1);have B2':w2.heap.size=w1.heap.size:=B2.trans A2;have xc2:w2.cell? ⟨x.b,x.o+6,none⟩=some (.slice (some ⟨gg,0,none⟩) x.e.ks.length cv):=(cb8 (u1 _ (by omega))).trans s2;have hxw2:x.b<w2.heap.size:=by omega
     clear hHeld hupd s0 s1 s2 u1 m2 hB4 hMQ hm1 hwax hwar A1 B2;have B2:=B2';clear B2';obtain⟨es2,hes2⟩:∃z,z=es.push ⟨.agg #[.pointer (some ⟨b,o,none⟩),.int .i64 x.e.ks.length],.slice (some ⟨gg,0,none⟩) x.e.ks.length cv,ck⟩:=⟨_,rfl⟩;obtain⟨ck2,hck2⟩:∃z,z=ck+1:=⟨_,rfl⟩;rw[←hes2,←hck2]at B3;rw[←hes2]at HM;clear hes2 hck2;go_wp2_with fail;obtain⟨wo,hwo⟩:∃z,z=wr:=⟨_,rfl⟩;subst hwo;have hown2:w2.ownsRow w.heap.size 210 1 (.slice (some ⟨g,0,none⟩) ns.length cap) ns.length (pts ns):=ownsE_keep hown fun b hb=>by
      simp[Value.ownBlock]at hb;subst hb;rw[B1 g (by omega) (by omega),bS8 _ _ _ _ (Ne.symm hxg),hb1.block _ (by omega)];exact hbX.block _ hgl0
     clear hown;go_loopw [7,74] (fun y' k' wr'=> ∃ (k:Nat),k≤x.e.ks.length∧k'=.int .i64 k∧wr'.ownsRow w.heap.size 210 1 y' (ns.length+k) (pts (ns++(news x.e.ks gg).take k))∧(∀b,b<w2.heap.size→b≠g→wr'.heap[b]?=w2.heap[b]?)∧w2.heap.size≤wr'.heap.size∧(∀q,y'.ownBlock=some q→q=g∨w2.heap.size≤q)∧Below w.heap.size w wr') (fun _ k' _=>x.e.ks.length - (intOf k').toNat)
     case atStart=>
      refine⟨0,Nat.zero_le _,rfl,?_,fun b _ _=>rfl,Nat.le_refl _,fun q hq=>by simp[Value.ownBlock]at hq;exact .inl hq.symm,B4⟩;rw[List.take_zero,List.append_nil];exact hown2
     case round=>
      obtain⟨k,hkl,rfl,hown2,hblk,hz2',hob,hbw2⟩:=hrel;have xc:wr.cell? ⟨x.b,x.o+6,none⟩=some (.slice (some ⟨gg,0,none⟩) x.e.ks.length cv):=by
       rw[cb8 (hblk x.b (by omega) hxg),cb8 (B1 x.b (by omega) hxB)];exact cS8 _ _ _ xu1
      have hxr2:x.b<wr.heap.size:=by omega
      by_cases hk2:k<x.e.ks.length
      ·obtain⟨ek,hek⟩:∃ek,x.e.ks[k]?=some ek:=⟨x.e.ks[k],by simp[hk2]⟩;have HT:=news_take (g:=gg) hek;have hol:=ownsE_lt hown2;have HB:Hid (∀b,b<w2.heap.size→b≠g→wr.heap[b]?=w2.heap[b]?):=hblk;have hown3:(wr.alloc (.cells #[.pointer (some ⟨gg,k*7,none⟩)] 210)).ownsRow w.heap.size 210 1 u7 (ns.length+k) (pts (ns++(news x.e.ks gg).take k)):=ownsE_keep hown2 fun b hb=>bA8 _ _ _ (hol b hb).2;have hnew:∀j' u,[Value.pointer (some ⟨gg,k*7,none⟩)][j']?=some u→(wr.alloc (.cells #[.pointer (some ⟨gg,k*7,none⟩)] 210)).cell? ((⟨wr.heap.size,0,none⟩:Addr).add j')=some u:=by
        intro j' u hu
        match j',hu with
        |0,hu=>simp at hu;subst hu;go_simp
       have hkm:ns.length+k≤5000000:=by omega
       clear hown2 hblk hgl;go_wp2_with(at_builtin;refine wpList_append_own_at _ rfl _ _ 241 rfl w.heap.size 210 i0 _ 1 8 Tryz.underlying241 hi hz0 hz1 hz2 rfl (by decide) u7 (ns.length+k) (pts (ns++(news x.e.ks gg).take k)) rfl hown3 ⟨wr.heap.size,0,none⟩ 1 1 [.pointer (some ⟨gg,k*7,none⟩)] rfl rfl hnew (by simp[Value.oneCell']) ?c3 ?c4 ?c5 ?_)
       case c3=>unfold maxLen;omega
       case c4=>omega
       case c5=>have:=hbw2.size;simp;omega
       intro v5 w5 hown5 hgr5 _ hat5;have hsz5:=hgr5.size;simp at hsz5;have hown6:w5.ownsRow w.heap.size 210 1 v5 (ns.length+(k+1)) (pts (ns++(news x.e.ks gg).take (k+1))):=by
        rw[HT,←List.append_assoc,pts_push];exact hown5
       have hob5:∀q,v5.ownBlock=some q→q=g∨w2.heap.size≤q:=by
        intro q hq;rcases hat5 with e|e
        ·rw[e]at hq;exact hob q hq
        ·rw[e]at hq;cases hq;right;omega
       have hblk5:∀b,b<w2.heap.size→b≠g→w5.heap[b]?=w2.heap[b]?:=by
        intro b hb hbg;rw[←HB.out b hb hbg,hgr5.block b (by simp;omega) (fun e=>by rcases hob b e.symm with h|h;exact hbg h;omega)];exact bA8 _ _ _ (by omega)
       have hbw5:Below w.heap.size w w5:=(hbw2.alloc hbw2.size _).grown hgr5 (by have:=hbw2.size;simp;omega) (fun q hq=>(hol q hq).1);clear hown5 hgr5 hat5 hown3 hnew hol hob hbw2;go_wp2;exact⟨⟨k+1,hk2,by simp,hown6,hblk5,by omega,hob5,hbw5⟩,by simp[intOf];omega⟩
      ·obtain rfl:k=x.e.ks.length:=by omega
       have h3:∀b,b<w1.heap.size→b≠g→b≠w.heap.size+1+1→wr.heap[b]?=(w1.setCell ⟨x.b,x.o+6,none⟩ (.slice (some ⟨gg,0,none⟩) x.e.ks.length cv)).heap[b]?:=fun b h1 h2 h3=>(hblk b (by omega) h2).trans (B1 b h1 h3);obtain⟨hQ3,hC3,hG3⟩:=HQ.out.round2 HX.out hP xu hzb (hbX.trans (hb1.mono hbX.size)) (fun j y hy=>fun h=>hdis j y hy (by rw[h];rfl)) hdisB (by omega) hgl0 (by omega) h3 (by omega) hcv1 hcv2 (fun _=>rfl) hgl;have hM3:=HM.out wr hC3 (hG3 hne b o _ _ rfl hbw);have hrem3:=HR gg;have hmap3:wr.heap[w.heap.size+1+1]?=some (.map es2 ck2):=(hblk _ (by omega) (by omega)).trans B3;have hown6:wr.ownsRow w.heap.size 210 1 u7 (ns++news x.e.ks gg).length (pts (ns++news x.e.ks gg)):=by
        rw[←news_len x.e.ks gg,List.take_length]at hown2;rw[List.length_append];exact hown2
       have hggl:=(hgl hne).1;have hnew:∀ (j:Nat) (z:Nd),(ns++news x.e.ks gg)[j]?=some z→ns[j]?=some z∨z.b=gg:=by
        intro j z hz;by_cases hj:j<ns.length
        ·rw[List.getElem?_append_left hj]at hz;exact .inl hz
        ·rw[List.getElem?_append_right (by omega)]at hz;obtain⟨ez,hez,rfl⟩:=news_of hz;exact .inr rfl
       have hdis3:∀ (j:Nat) (z:Nd),(ns++news x.e.ks gg)[j]?=some z→u7.ownBlock≠some z.b:=by
        intro j z hz hq;have hq:=hob _ hq;rcases hnew j z hz with h|h
        ·have h1:=(HQ.out.at' j z h).1.2.2.2.1;rcases hq with h'|h'
         ·exact hdis j z h (by rw[h'];rfl)
         ·omega
        ·omega
       have hdisB3:∀ (j:Nat) (z:Nd),(ns++news x.e.ks gg)[j]?=some z→z.b≠w.heap.size+1+1:=by
        intro j z hz;rcases hnew j z hz with h|h
        ·exact hdisB j z h
        ·omega
       have h003:(ns++news x.e.ks gg)[0]?=some ⟨w.heap.size,0,e⟩:=by
        rw[List.getElem?_append_left (by omega)];exact h00
       have hlt3:i+1≤(ns++news x.e.ks gg).length:=by rw[List.length_append];omega
       clear HQ HX HR HM hown2 hdis h00 hblk hgl hnew hC3 hG3 h3;go_wp2;exact⟨⟨i+1,_,_,es2,ck2,by simp,hlt3,hown6,h003,hQ3,hdis3,hdisB3,hmap3,hM3,hbw2,by omega⟩,by simp[intOf];omega⟩
    ·have hbb:decide ((8192:Int)≤(ns.length:Int))=false:=by simp;omega
     have HM:Hid (∀w3:World,(∀ (j:Nat) (y:Nd),ns[j]?=some y→j≠i→w3.cell? ⟨y.b,y.o+6,none⟩=wr.cell? ⟨y.b,y.o+6,none⟩)→(∀j,j<x.e.ks.length*7→w3.cell? ⟨gg,j,none⟩=w.cell? ⟨b,o+j,none⟩)→MQ w D F w3 (i+1) (ns++news x.e.ks gg) es):=fun w3 h1 h2=>hMQ.step HX.out xu hne h1 h2;have B2:(w1.setCell ⟨x.b,x.o+6,none⟩ (.slice (some ⟨gg,0,none⟩) x.e.ks.length cv)).heap.size=w1.heap.size:=by simp
     have B3:(w1.setCell ⟨x.b,x.o+6,none⟩ (.slice (some ⟨gg,0,none⟩) x.e.ks.length cv)).heap[w.heap.size+1+1]?=some (.map es ck):=(bS8 _ _ _ _ (Ne.symm hxB)).trans hm1;have B4:=hB4;clear hmis hB4 hMQ hm1;go_wp2_with fail;obtain⟨w2,hw2⟩:∃z,z=(w1.setCell ⟨x.b,x.o+6,none⟩ (.slice (some ⟨gg,0,none⟩) x.e.ks.length cv)):=⟨_,rfl⟩;have B1':∀b',b'<w1.heap.size→b'≠w.heap.size+1+1→w2.heap[b']?=(w1.setCell ⟨x.b,x.o+6,none⟩ (.slice (some ⟨gg,0,none⟩) x.e.ks.length cv)).heap[b']?:=by rw[hw2];intro _ _ _;rfl
     rw[←hw2]at B2 B3 B4⊢;clear hw2;have B1:=B1';clear B1';obtain⟨es2,ck2,B3'⟩:∃es2 ck2,Hid (es2=es∧ck2=ck):=⟨es,ck,rfl,rfl⟩;obtain⟨rfl,rfl⟩:=B3'.out;obtain⟨wo,hwo⟩:∃z,z=wr:=⟨_,rfl⟩;subst hwo;have hown2:w2.ownsRow w.heap.size 210 1 (.slice (some ⟨g,0,none⟩) ns.length cap) ns.length (pts ns):=ownsE_keep hown fun b hb=>by
      simp[Value.ownBlock]at hb;subst hb;rw[B1 g (by omega) (by omega),bS8 _ _ _ _ (Ne.symm hxg),hb1.block _ (by omega)];exact hbX.block _ hgl0
     clear hown;go_loopw [7,74] (fun y' k' wr'=> ∃ (k:Nat),k≤x.e.ks.length∧k'=.int .i64 k∧wr'.ownsRow w.heap.size 210 1 y' (ns.length+k) (pts (ns++(news x.e.ks gg).take k))∧(∀b,b<w2.heap.size→b≠g→wr'.heap[b]?=w2.heap[b]?)∧w2.heap.size≤wr'.heap.size∧(∀q,y'.ownBlock=some q→q=g∨w2.heap.size≤q)∧Below w.heap.size w wr') (fun _ k' _=>x.e.ks.length - (intOf k').toNat)
     case atStart=>
      refine⟨0,Nat.zero_le _,rfl,?_,fun b _ _=>rfl,Nat.le_refl _,fun q hq=>by simp[Value.ownBlock]at hq;exact .inl hq.symm,B4⟩;rw[List.take_zero,List.append_nil];exact hown2
     case round=>
      obtain⟨k,hkl,rfl,hown2,hblk,hz2',hob,hbw2⟩:=hrel;have xc:wr.cell? ⟨x.b,x.o+6,none⟩=some (.slice (some ⟨gg,0,none⟩) x.e.ks.length cv):=by
       rw[cb8 (hblk x.b (by omega) hxg),cb8 (B1 x.b (by omega) hxB)];exact cS8 _ _ _ xu1
      have hxr2:x.b<wr.heap.size:=by omega
      by_cases hk2:k<x.e.ks.length
      ·obtain⟨ek,hek⟩:∃ek,x.e.ks[k]?=some ek:=⟨x.e.ks[k],by simp[hk2]⟩;have HT:=news_take (g:=gg) hek;have hol:=ownsE_lt hown2;have HB:Hid (∀b,b<w2.heap.size→b≠g→wr.heap[b]?=w2.heap[b]?):=hblk;have hown3:(wr.alloc (.cells #[.pointer (some ⟨gg,k*7,none⟩)] 210)).ownsRow w.heap.size 210 1 u7 (ns.length+k) (pts (ns++(news x.e.ks gg).take k)):=ownsE_keep hown2 fun b hb=>bA8 _ _ _ (hol b hb).2;have hnew:∀j' u,[Value.pointer (some ⟨gg,k*7,none⟩)][j']?=some u→(wr.alloc (.cells #[.pointer (some ⟨gg,k*7,none⟩)] 210)).cell? ((⟨wr.heap.size,0,none⟩:Addr).add j')=some u:=by
        intro j' u hu
        match j',hu with
        |0,hu=>simp at hu;subst hu;go_simp
       have hkm:ns.length+k≤5000000:=by omega
       clear hown2 hblk hgl;go_wp2_with(at_builtin;refine wpList_append_own_at _ rfl _ _ 241 rfl w.heap.size 210 i0 _ 1 8 Tryz.underlying241 hi hz0 hz1 hz2 rfl (by decide) u7 (ns.length+k) (pts (ns++(news x.e.ks gg).take k)) rfl hown3 ⟨wr.heap.size,0,none⟩ 1 1 [.pointer (some ⟨gg,k*7,none⟩)] rfl rfl hnew (by simp[Value.oneCell']) ?c3 ?c4 ?c5 ?_)
       case c3=>unfold maxLen;omega
       case c4=>omega
       case c5=>have:=hbw2.size;simp;omega
       intro v5 w5 hown5 hgr5 _ hat5;have hsz5:=hgr5.size;simp at hsz5;have hown6:w5.ownsRow w.heap.size 210 1 v5 (ns.length+(k+1)) (pts (ns++(news x.e.ks gg).take (k+1))):=by
        rw[HT,←List.append_assoc,pts_push];exact hown5
       have hob5:∀q,v5.ownBlock=some q→q=g∨w2.heap.size≤q:=by
        intro q hq;rcases hat5 with e|e
        ·rw[e]at hq;exact hob q hq
        ·rw[e]at hq;cases hq;right;omega
       have hblk5:∀b,b<w2.heap.size→b≠g→w5.heap[b]?=w2.heap[b]?:=by
        intro b hb hbg;rw[←HB.out b hb hbg,hgr5.block b (by simp;omega) (fun e=>by rcases hob b e.symm with h|h;exact hbg h;omega)];exact bA8 _ _ _ (by omega)
       have hbw5:Below w.heap.size w w5:=(hbw2.alloc hbw2.size _).grown hgr5 (by have:=hbw2.size;simp;omega) (fun q hq=>(hol q hq).1);clear hown5 hgr5 hat5 hown3 hnew hol hob hbw2;go_wp2;exact⟨⟨k+1,hk2,by simp,hown6,hblk5,by omega,hob5,hbw5⟩,by simp[intOf];omega⟩
      ·obtain rfl:k=x.e.ks.length:=by omega
       have h3:∀b,b<w1.heap.size→b≠g→b≠w.heap.size+1+1→wr.heap[b]?=(w1.setCell ⟨x.b,x.o+6,none⟩ (.slice (some ⟨gg,0,none⟩) x.e.ks.length cv)).heap[b]?:=fun b h1 h2 h3=>(hblk b (by omega) h2).trans (B1 b h1 h3);obtain⟨hQ3,hC3,hG3⟩:=HQ.out.round2 HX.out hP xu hzb (hbX.trans (hb1.mono hbX.size)) (fun j y hy=>fun h=>hdis j y hy (by rw[h];rfl)) hdisB (by omega) hgl0 (by omega) h3 (by omega) hcv1 hcv2 (fun _=>rfl) hgl;have hM3:=HM.out wr hC3 (hG3 hne b o _ _ rfl hbw);have hrem3:=HR gg;have hmap3:wr.heap[w.heap.size+1+1]?=some (.map es2 ck2):=(hblk _ (by omega) (by omega)).trans B3;have hown6:wr.ownsRow w.heap.size 210 1 u7 (ns++news x.e.ks gg).length (pts (ns++news x.e.ks gg)):=by
        rw[←news_len x.e.ks gg,List.take_length]at hown2;rw[List.length_append];exact hown2
       have hggl:=(hgl hne).1;have hnew:∀ (j:Nat) (z:Nd),(ns++news x.e.ks gg)[j]?=some z→ns[j]?=some z∨z.b=gg:=by
        intro j z hz;by_cases hj:j<ns.length
        ·rw[List.getElem?_append_left hj]at hz;exact .inl hz
        ·rw[List.getElem?_append_right (by omega)]at hz;obtain⟨ez,hez,rfl⟩:=news_of hz;exact .inr rfl
       have hdis3:∀ (j:Nat) (z:Nd),(ns++news x.e.ks gg)[j]?=some z→u7.ownBlock≠some z.b:=by
        intro j z hz hq;have hq:=hob _ hq;rcases hnew j z hz with h|h
        ·have h1:=(HQ.out.at' j z h).1.2.2.2.1;rcases hq with h'|h'
         ·exact hdis j z h (by rw[h'];rfl)
         ·omega
        ·omega
       have hdisB3:∀ (j:Nat) (z:Nd),(ns++news x.e.ks gg)[j]?=some z→z.b≠w.heap.size+1+1:=by
        intro j z hz;rcases hnew j z hz with h|h
        ·exact hdisB j z h
        ·omega
       have h003:(ns++news x.e.ks gg)[0]?=some ⟨w.heap.size,0,e⟩:=by
        rw[List.getElem?_append_left (by omega)];exact h00
       have hlt3:i+1≤(ns++news x.e.ks gg).length:=by rw[List.length_append];omega
       clear HQ HX HR HM hown2 hdis h00 hblk hgl hnew hC3 hG3 h3;go_wp2;exact⟨⟨i+1,_,_,es2,ck2,by simp,hlt3,hown6,h003,hQ3,hdis3,hdisB3,hmap3,hM3,hbw2,by omega⟩,by simp[intOf];omega⟩
  ·obtain rfl:i=ns.length:=by omega
   obtain⟨g,cap,rfl,_,_,hcap,hcm,hgl0,hgN,hp⟩:=pts_read hown h00;unfold maxLen at hcm;clear hp;go_wp2;refine bodyPost_ret (v:=.slice (some ⟨g,0,none⟩) ns.length cap) (by simp[results,Tryz.results153,go_sem]) rfl ⟨⟨_,rfl,ns,hang,hown,h00,hQ,hdis,hlen⟩,hb⟩
end
end
end Go.Proofs.YtjhhmnjpojnoiaaGreatDoor
