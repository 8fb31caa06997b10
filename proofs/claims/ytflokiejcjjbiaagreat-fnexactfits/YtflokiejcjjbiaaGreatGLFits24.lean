/- Own texts, joined: contracts that the law's proof goes by. -/
import Derived.Test.YtflokiejcjjbiaaGreatGLFits2
import Derived.Test.YtflokiejcjjbiaaGreatGLFits18
import Derived.Test.YtflokiejcjjbiaaGreatGLFits13
import Derived.Handy
import Derived.Deep.RegionHeld3
import Derived.Test.YtflokiejcjjbiaaGreatGLFits25
import Derived.Deep.DrawnRows
import Derived.Test.YtflokiejcjjbiaaGreatGLFits41
set_option maxHeartbeats 16000000
set_option maxRecDepth 100000
set_option linter.unusedVariables false
set_option linter.unusedSimpArgs false
namespace Go.Proofs.YtflokiejcjjbiaaGreat
section
open Go.RowKit Go.Deep
theorem RowF.cells {w:World}{v:Value}{vs:List V3}{g:List Nat}(h:RowF w v vs g):∃a c b o,v=.slice a vs.length c∧vs.length≤c∧c≤maxLen∧(a=none→c=0)∧CellsAre w b o (vs.length*3) (cf vs)∧(vs=[]→g=[])∧∀n,n<vs.length→a=some ⟨b,o,none⟩∧b<w.heap.size∧g=[b]:=by
 obtain⟨a,c,rfl,hl,hc,hz,h0,h⟩:=h;by_cases hne:vs=[]
 ·exact⟨a,c,0,0,rfl,hl,hc,hz,by subst hne;intro j hj;simp at hj,h0,fun k hk=>by rw[hne]at hk;simp at hk⟩
 ·obtain⟨b,o,rfl,hlt,hg,hL⟩:=h hne;exact⟨_,c,b,o,rfl,hl,hc,hz,lies_cells.1 hL,h0,fun _ _=>⟨rfl,hlt,hg⟩⟩
theorem RowF.mk {w w':World}{v:Value}{vs us:List V3}{g:List Nat}{a:Option Addr}{c b o:Nat}(hs:w.heap.size≤w'.heap.size)(hl:us.length=vs.length)(hv:v=.slice a vs.length c)(hlc:vs.length≤c)(hc:c≤maxLen)(hz:a=none→c=0)(h0:vs=[]→g=[])(ha:∀n,n<vs.length→a=some ⟨b,o,none⟩∧b<w.heap.size∧g=[b])(hC:CellsAre w' b o (us.length*3) (cf us)):RowF w' v us g:=by
 refine⟨a,c,by rw[hl];exact hv,by omega,hc,hz,fun e=>h0 (by have:=congrArg List.length e;rw[hl]at this;exact List.length_eq_zero_iff.1 this),fun hne=>?_⟩;have hp:0<vs.length:=by rw[←hl];exact List.length_pos_iff.2 hne
 obtain⟨e,hlt,hg⟩:=ha 0 hp;exact⟨b,o,e,by omega,hg,lies_cells.2 hC⟩
def CLF (w:World)(b o:Nat)(cs:List C2)(G:List (List Nat)):Prop:=
 ∀i x g,cs[i]?=some x→G[i]?=some g→∃u,w.cell? ⟨b,o+i*2,none⟩=some u∧RowF w u x.r g∧w.cell? ⟨b,o+i*2+1,none⟩=some (.int .i64 x.n)
theorem disj_of {b:Nat}{G:List (List Nat)}(h:(b::G.flatten).Nodup){i j:Nat}{g g':List Nat}(hi:G[i]?=some g)(hj:G[j]?=some g')(hne:i≠j):∀y∈g,y∉g':=by
 have h2:=(List.nodup_cons.1 h).2;rw[List.Nodup,List.pairwise_flatten]at h2;have h3:=List.pairwise_iff_getElem.1 h2.2;obtain⟨hi',rfl⟩:=gE1 hi;obtain⟨hj',rfl⟩:=gE1 hj;intro y hy hy';rcases Nat.lt_or_gt_of_ne hne with hlt|hlt
 ·exact h3 i j hi' hj' hlt y hy y hy' rfl
 ·exact h3 j i hj' hi' hlt y hy' y hy rfl
theorem head_out {b:Nat}{G:List (List Nat)}(h:(b::G.flatten).Nodup){i:Nat}{g:List Nat}(hi:G[i]?=some g):b∉g:=fun hb=>
 (List.nodup_cons.1 h).1 (List.mem_flatten.2 ⟨g,mg8 hi,hb⟩)
theorem RowsF.pick {w:World}{v:Value}{cs:List C2}{F:List Nat}(h:RowsF w v cs F):∃a c b o G,v=.slice a cs.length c∧cs.length≤c∧c≤maxLen∧(a=none→c=0)∧G.length=cs.length∧(cs=[]→F=[])∧CLF w b o cs G∧∀n,n<cs.length→a=some ⟨b,o,none⟩∧b<w.heap.size∧F=b::G.flatten:=by
 obtain⟨a,c,G,rfl,hl,hc,hz,hG,h0,h⟩:=h;by_cases hne:cs=[]
 ·exact⟨a,c,0,0,G,rfl,hl,hc,hz,hG,h0,fun i x g hx=>by rw[hne]at hx;simp at hx,fun k hk=>by rw[hne]at hk;simp at hk⟩
 ·obtain⟨b,o,rfl,hlt,hF,hL⟩:=h hne;exact⟨_,c,b,o,G,rfl,hl,hc,hz,hG,h0,hL,fun _ _=>⟨rfl,hlt,hF⟩⟩
end
section
open Go.RowKit Go.Deep
attribute [local go_sem↓] Go.wp_at_zero Go.wp_at_succ
theorem RowF.shape {w:World}{v:Value}{vs:List V3}{g:List Nat}(h:RowF w v vs g):∃a c,v=.slice a vs.length c:=by
 obtain⟨a,c,h,_⟩:=h;exact⟨a,c,h⟩
theorem CLF.at {w w':World}{b o:Nat}{cs:List C2}{G:List (List Nat)}(h:CLF w b o cs G)(hG:G.length=cs.length)(hlt:b<w.heap.size)(hb:Below w.heap.size w w'){k:Nat}(hk:k<cs.length):∃x u g,cs[k]?=some x∧G[k]?=some g∧w'.cell? ⟨b,o+k*2,none⟩=some u∧RowF w' u x.r g∧w'.cell? ⟨b,o+k*2+1,none⟩=some (.int .i64 x.n)∧b<w'.heap.size:=by
 have hk':k<G.length:=by omega
 obtain⟨u,h0,h1,h2⟩:=h k cs[k] G[k] (by simp) (by simp);exact⟨cs[k],u,G[k],by simp,by simp,(hb.cell (p:=⟨b,_,none⟩) hlt).trans h0,h1.keep hb.size (fun c hc=>hb.block c (h1.lt c hc)),(hb.cell (p:=⟨b,_,none⟩) hlt).trans h2,Nat.lt_of_lt_of_le hlt hb.size⟩
theorem RowF.below {w w':World}{v:Value}{vs:List V3}{g:List Nat}(h:RowF w v vs g)(hb:Below w.heap.size w w'):RowF w' v vs g:=h.keep hb.size fun c hc=>hb.block c (h.lt c hc)
theorem take_snoc {α:Type}{l:List α}{k:Nat}{x:α}(h:l[k]?=some x):l.take (k+1)=l.take k++ [x]:=by
 obtain⟨hk,rfl⟩:=gE1 h;exact List.take_succ_eq_append_getElem hk
end
section
open Go.RowKit Go.Deep
def mV (k:Nat)(vs:List V3):List V3:=vs.mapIdx fun j _=>⟨((k+3*j:Nat):Int),((k+3*j+1:Nat):Int),mt ((k+3*j+2:Nat):Int)⟩
end
section
open Go.RowKit Go.Deep
def offC (k:Nat)(cs:List C2)(i:Nat):Nat:=k+((cs.take i).map fun x=>3*x.r.length+1).sum
def mCi (k n:Nat)(cs:List C2):List C2:=cs.mapIdx fun i x=>if i<n then⟨mV (offC k cs i) x.r,((offC k cs i+3*x.r.length:Nat):Int)⟩else x
theorem mCi_len (k n:Nat)(cs:List C2):(mCi k n cs).length=cs.length:=by simp[mCi]
theorem mCi_at {k n i:Nat}{cs:List C2}{x:C2}(h:cs[i]?=some x):(mCi k n cs)[i]?=some (if i<n then⟨mV (offC k cs i) x.r,((offC k cs i+3*x.r.length:Nat):Int)⟩else x):=by
 simp[mCi,h]
theorem CLF.step {w w2:World}{b o k n:Nat}{cs:List C2}{G:List (List Nat)}{x:C2}{g:List Nat}{u:Value}(h:CLF w b o (mCi k n cs) G)(hG:G.length=cs.length)(hnd:(b::G.flatten).Nodup)(hb:b<w.heap.size)(hx:cs[n]?=some x)(hg:G[n]?=some g)(hu:w.cell? ⟨b,o+n*2,none⟩=some u) (hR:RowF w2 u (mV (offC k cs n) x.r) g) (hc:Chg g w w2):CLF (w2.setCell ⟨b,o+n*2+1,none⟩ (.int .i64 ((offC k cs n+3*x.r.length:Nat):Int))) b o (mCi k (n+1) cs) G:=by
 have hbb:w2.heap[b]?=w.heap[b]?:=hc.block b hb (head_out hnd hg);intro i y g' hy hg';have hi:i<cs.length:=by have:=(gE1 hy).1;rwa [mCi_len]at this
 obtain⟨z,hz⟩:∃z,cs[i]?=some z:=⟨cs[i],by simp[hi]⟩;rw[mCi_at hz]at hy;have hy:=(Option.some.inj hy).symm;obtain⟨u',a0,a1,a2⟩:=h i _ g' (mCi_at hz) hg';have hgb:b∉g':=head_out hnd hg';by_cases e:i=n
 ·subst e;obtain rfl:z=x:=by rw[hx]at hz;exact(Option.some.inj hz).symm
  obtain rfl:g'=g:=by rw[hg]at hg';exact(Option.some.inj hg').symm
  obtain rfl:u'=u:=by rw[hu]at a0;exact(Option.some.inj a0).symm
  rw[if_pos (by omega)]at hy;subst hy;refine⟨u',?_,hR.keep (by simp) (fun c hc=>bS8 _ _ _ _ (by rintro rfl;exact hgb hc)),?_⟩
  ·rw[cO8 _ _ _ _ (by intro q;have:=congrArg Addr.off q;simp at this)];exact(cb8 hbb).trans hu
  ·exact cS8 _ _ _ ((cb8 hbb).trans a2)
 ·have ey:y=if i<n then⟨mV (offC k cs i) z.r,((offC k cs i+3*z.r.length:Nat):Int)⟩else z:=by
   rw[hy];by_cases hin:i<n
   ·rw[if_pos hin,if_pos (by omega)]
   ·rw[if_neg hin,if_neg (by omega)]
  rw[←ey]at a1 a2;have hd:=disj_of hnd hg' hg e;have k1:RowF w2 u' y.r g':=a1.keep hc.size fun c hcg=>hc.block c (a1.lt c hcg) (hd c hcg);refine⟨u',?_,k1.keep (by simp) (fun c hc=>bS8 _ _ _ _ (by rintro rfl;exact hgb hc)),?_⟩
  ·rw[cO8 _ _ _ _ (by intro q;have:=congrArg Addr.off q;simp at this;omega)];exact(cb8 hbb).trans a0
  ·rw[cO8 _ _ _ _ (by intro q;have:=congrArg Addr.off q;simp at this;omega)];exact(cb8 hbb).trans a2
end
section
open Go.RowKit Go.Deep Go.ChangeShapes Go.WideShapes
theorem l02Copy_any (W:Int)(v:Value)(cs:List C2)(F:List Nat)(w:World)(hr:RowsF w v cs F)(hn:wtb cs≤1048576):Calls Tryz.prog 50 #[.agg #[.int .i64 W,v]] w fun e w'=>(∃u us G,e=.returned (.agg #[.int .i64 W,u])∧BagOwn w' w.heap.size u cs us G)∧Below w.heap.size w w':=by
 obtain⟨i0,hi,hz0,hz1,hz2⟩:=info_parts Tryz.infoCnt;obtain⟨a,c,b,o,G0,rfl,hl,hc,_,hG0,_,hC,ha⟩:=hr.pick;unfold maxLen at hc;clear hr;have hn1:cs.length≤1048576:=by unfold wtb at hn;omega
 go_enter Tryz.func50,Tryz.ntmps50;go_wp2;go_loopw [4] (fun i wr=> ∃ (k:Nat) (y:Value) (us:List Value) (G:List (List Nat)),k≤cs.length∧i=.int .i64 k∧wr.cell? ⟨w.heap.size,0,none⟩=some (.int .i64 W)∧wr.cell? ⟨w.heap.size,1,none⟩=some (.slice a cs.length c)∧wr.cell? ⟨w.heap.size+1+1,0,none⟩=some (.int .i64 W)∧wr.cell? ⟨w.heap.size+1+1,1,none⟩=some y∧(∀q,wr.frozen? ⟨w.heap.size+1+1,q,none⟩=false)∧wr.cell? ⟨w.heap.size+1,0,none⟩=some (.int .i64 0)∧wr.cell? ⟨w.heap.size+1,1,none⟩=some (.slice none 0 0)∧(∀q,wr.frozen? ⟨w.heap.size+1,q,none⟩=false)∧BagOwn wr (w.heap.size+1+1+1) y (cs.take k) us G∧Below w.heap.size w wr∧w.heap.size+1+1+1≤wr.heap.size) (fun i _=>cs.length - (intOf i).toNat)
 case atStart=>
  refine⟨0,.slice none 0 0,[],[],Nat.zero_le _,rfl,by go_simp,by go_simp,by go_simp,by go_simp,fun q=>by go_simp,by go_simp,by go_simp,fun q=>by go_simp,BagOwn.nil _ _,bex,by simp⟩
 case round=>
  obtain⟨k,y,us,G,hk,rfl,b0,b1,p0,p1,pf,r0,r1,rf,hB,hb,hzb⟩:=hrel;by_cases hlt:k<cs.length
  ·obtain⟨rfl,hblt,_⟩:=ha k hlt;obtain⟨x,u0,g0,hx,_,c0,hR,c1,hbr⟩:=hC.at hG0 hblt hb hlt;obtain⟨a0,n0,rfl⟩:=hR.shape;have HX:Hid (cs[k]?=some x):=hx;have hxn:x.r.length≤1048576:=by have:=wt_mem (mg8 hx);unfold wt at this;unfold wtb at hn;omega
   have htk:(cs.take k).length=k:=by simp;omega
   have hvl:=oL8 hB.own;have hv2:y.ownBlock≠some (w.heap.size+1+1):=fun e=>by have:=(hvl _ e).1;omega
   have hvr:y.ownBlock≠some (w.heap.size+1):=fun e=>by have:=(hvl _ e).1;omega
   have hvT:∀b,b≤w.heap.size→y.ownBlock≠some b:=fun b hb e=>by have:=(hvl _ e).1;omega
   have hkI:(k:Int)<cs.length:=by omega
   have hGl:=hB.lt;have HT:Hid (cs.take (k+1)=cs.take k++ [x]):=take_snoc hx;generalize cs.take k=ct at*;have hml:ct.length+1≤maxLen:=by unfold maxLen;omega
   have hby:(ct.length+1)*32≤140737488355328:=by omega
   clear ha hC hx htk hvl;go_wp2_with fail;refine startE 19 (fun w'=>w'.cell? ⟨w.heap.size+1+1,1,none⟩=some y∧w'.cell? ⟨w.heap.size,1,none⟩=some (.slice (some ⟨b,o,none⟩) cs.length c)∧w'.cell? ⟨b,o+k*2,none⟩=some (.slice a0 x.r.length n0)∧w'.cell? ⟨b,o+k*2+1,none⟩=some (.int .i64 x.n)) (by kernel_rfl) ?_ (fun hHeld=>?_)
   ·exact⟨p1,b1,c0,c1⟩
   refine tkE 0 15 rfl rfl ?_;refine tkE 1 16 rfl rfl ?_;refine tkE 2 17 rfl rfl ?_;refine tkE 3 18 rfl rfl ?_;refine tkE 4 19 rfl rfl ?_;refine tkE 5 20 rfl rfl ?_;refine tkE 6 21 rfl rfl ?_;refine tkE 7 22 rfl rfl ?_;refine tkE 9 24 rfl rfl ?_;refine tkE 10 25 rfl rfl ?_;refine tkE 11 26 rfl rfl ?_;refine tkE 12 27 rfl rfl ?_;refine tkE 13 28 rfl rfl ?_;refine tkE 14 29 rfl rfl ?_;refine onE 8 rfl fun K hK=>?_;go_simp;go_at_call 72;refine cM8 (l02CopyRow_any (.slice a0 x.r.length n0) x.r g0 _ (hR.below ?hbb) hxn) ?_
   case hbb=>exact bex
   rintro e w2 ⟨⟨u2,g2,rfl,hR2,hO2⟩,hb2⟩;obtain⟨a2,n2,rfl⟩:=hR2.shape;have hzw2:=hb2.size;rw[show wr.drew.heap.size=wr.heap.size from rfl]at hzw2;have bel2:Below wr.heap.size wr w2:=bex;have hB2:=hB.below bel2;have pf2:∀q,w2.frozen? ⟨w.heap.size+1+1,q,none⟩=false:=fun q=>((bc8 bel2).2 _ q (by omega)).trans (pf q);have rf2:∀q,w2.frozen? ⟨w.heap.size+1,q,none⟩=false:=fun q=>((bc8 bel2).2 _ q (by omega)).trans (rf q);have p02:=((bc8 bel2).1 (w.heap.size+1+1) 0 (by omega)).trans p0;have p12:=((bc8 bel2).1 (w.heap.size+1+1) 1 (by omega)).trans p1;have r02:=((bc8 bel2).1 (w.heap.size+1) 0 (by omega)).trans r0;have r12:=((bc8 bel2).1 (w.heap.size+1) 1 (by omega)).trans r1;have b02:=((bc8 bel2).1 w.heap.size 0 (by omega)).trans b0;have b12:=((bc8 bel2).1 w.heap.size 1 (by omega)).trans b1;have c02:=((bc8 bel2).1 b (o+k*2) (by omega)).trans c0;have c12:=((bc8 bel2).1 b (o+k*2+1) (by omega)).trans c1;try go_wp2_with fail
   refine hK.out _ _ ?_ (fun hHeld8=>?_)
   ·intro _;exact⟨p12,b12,c02,c12⟩
   clear hK;replace hHeld8:=hHeld8 (by decide);refine tkE 15 30 rfl rfl ?_;refine onE 16 rfl fun K hK=>?_;go_simp;refine hK.out _ _ ?_ (fun hHeld16=>?_)
   ·intro _;exact⟨(cb8 (bA8 w2 _ _ (by omega))).trans p12,(cb8 (bA8 w2 _ _ (by omega))).trans b12,(cb8 (bA8 w2 _ _ (by omega))).trans c02,(cb8 (bA8 w2 _ _ (by omega))).trans c12⟩
   clear hK;replace hHeld16:=hHeld16 (by decide);refine onE 17 rfl fun K hK=>?_;refine step_append_lies _ (by rfl) _ _ _ (by rfl) (w.heap.size+1+1+1) 96 i0 _ 2 32 Tryz.underlying58 hi hz0 hz1 hz2 rfl (by omega) y ct.length (cc us ct) (by rfl) (hB2.own.alloc _) ⟨w2.heap.size,0,none⟩ 1 1 [.slice a2 x.r.length n2,.int .i64 x.n] (by rfl) (by rfl) (World.news_of_block (cs:=#[.slice a2 x.r.length n2,.int .i64 x.n]) (t:=96) (fr:=(0,0)) (heap_alloc_new w2 _)) (by simp[Value.oneCell']) (by omega) hml hby (by simp;omega) (w2.heap.size+1) (by simp) ?_;intro gg cap w3 hown3 hgrow hat hlt3;have hz3:=hgrow.size;simp at hz3;have far:∀b q,b<w2.heap.size→y.ownBlock≠some b→w3.cell? ⟨b,q,none⟩=w2.cell? ⟨b,q,none⟩:=fun b q hb hne=>(hgrow.cell_far _ (by simp;omega) (Ne.symm hne)).trans (cb8 (bA8 _ _ _ hb));have farf:∀b q,b<w2.heap.size→y.ownBlock≠some b→w3.frozen? ⟨b,q,none⟩=w2.frozen? ⟨b,q,none⟩:=fun b q hb hne=>(hgrow.frozen_far _ (by simp;omega) (Ne.symm hne)).trans (fb8 (bA8 _ _ _ hb));have pf3:∀q,w3.frozen? ⟨w.heap.size+1+1,q,none⟩=false:=fun q=>(farf _ q (by omega) hv2).trans (pf2 q);have rf3:∀q,w3.frozen? ⟨w.heap.size+1,q,none⟩=false:=fun q=>(farf _ q (by omega) hvr).trans (rf2 q);have p03:=(far (w.heap.size+1+1) 0 (by omega) hv2).trans p02;have p13:=(far (w.heap.size+1+1) 1 (by omega) hv2).trans p12;have r03:=(far (w.heap.size+1) 0 (by omega) hvr).trans r02;have r13:=(far (w.heap.size+1) 1 (by omega) hvr).trans r12;have hBp:=BagOwn.push (hB2.below ((Below.refl _ _).alloc (Nat.le_refl _) (.cells #[.slice a2 x.r.length n2,.int .i64 x.n] 96))) (hR2.below ((Below.refl _ _).alloc (Nat.le_refl _) _)) ⟨hO2.1,fun b hb=>by have:=hO2.2.1 b hb;have:wr.drew.heap.size=wr.heap.size:=rfl;omega,fun b hb q=>(fb8 (bA8 _ _ _ (hR2.lt b hb))).trans (hO2.2.2 b hb q)⟩ (fun b hb hb'=>by have:=hO2.2.1 b hb';have:=hGl b hb;simp at*;omega) (fun b hb hb'=>by have:=hO2.2.1 b hb';have:=(oL8 hB.own b hb).2;simp at*;omega) hown3 hgrow (fun b hb=>by simp[Value.ownBlock]at hb;subst hb;rcases hat with h|h;exact .inl h;exact .inr (by simp;omega))
   have bel3:Below w.heap.size w w3:=Below.grown bex hgrow (by simp;omega) (fun b hb=>by have:=(oL8 hB.own b hb).1;omega);have b03:=(far w.heap.size 0 (by omega) (hvT _ (Nat.le_refl _))).trans b02;have b13:=(far w.heap.size 1 (by omega) (hvT _ (Nat.le_refl _))).trans b12;have c03:=(far b (o+k*2) (by omega) (hvT _ (by omega))).trans c02;have c13:=(far b (o+k*2+1) (by omega) (hvT _ (by omega))).trans c12;refine hK.out _ _ ?_ (fun hHeld17=>?_)
   ·intro _;exact⟨p13,b13,c03,c13⟩
   clear hK;replace hHeld17:=hHeld17 (by decide);refine tkE 18 33 rfl rfl ?_;refine onE 19 rfl fun K hK=>?_;go_simp;refine hK.out _ _ ?_ (fun hHeld19=>?_)
   ·exact fun h=>absurd rfl h
   clear hK hHeld19;refine doneE (by kernel_rfl) ?_ _;have Q0:(w3.setCell ⟨w.heap.size+1+1,1,none⟩ (.slice (some ⟨gg,0,none⟩) (ct.length+1) cap)).cell? ⟨w.heap.size,0,none⟩=some (.int .i64 W):=(cO8 _ _ _ _ (by simp;try omega)).trans b03;have Q1:(w3.setCell ⟨w.heap.size+1+1,1,none⟩ (.slice (some ⟨gg,0,none⟩) (ct.length+1) cap)).cell? ⟨w.heap.size,1,none⟩=some (.slice (some ⟨b,o,none⟩) cs.length c):=(cO8 _ _ _ _ (by simp;try omega)).trans b13;have P0:(w3.setCell ⟨w.heap.size+1+1,1,none⟩ (.slice (some ⟨gg,0,none⟩) (ct.length+1) cap)).cell? ⟨w.heap.size+1+1,0,none⟩=some (.int .i64 W):=(cO8 _ _ _ _ (by simp)).trans p03;have P1:(w3.setCell ⟨w.heap.size+1+1,1,none⟩ (.slice (some ⟨gg,0,none⟩) (ct.length+1) cap)).cell? ⟨w.heap.size+1+1,1,none⟩=some (.slice (some ⟨gg,0,none⟩) (ct.length+1) cap):=cS8 _ _ _ p13;have PF:∀q,(w3.setCell ⟨w.heap.size+1+1,1,none⟩ (.slice (some ⟨gg,0,none⟩) (ct.length+1) cap)).frozen? ⟨w.heap.size+1+1,q,none⟩=false:=fun q=>by simpa using pf3 q
   have R0:(w3.setCell ⟨w.heap.size+1+1,1,none⟩ (.slice (some ⟨gg,0,none⟩) (ct.length+1) cap)).cell? ⟨w.heap.size+1,0,none⟩=some (.int .i64 0):=(cO8 _ _ _ _ (by simp)).trans r03;have R1:(w3.setCell ⟨w.heap.size+1+1,1,none⟩ (.slice (some ⟨gg,0,none⟩) (ct.length+1) cap)).cell? ⟨w.heap.size+1,1,none⟩=some (.slice none 0 0):=(cO8 _ _ _ _ (by simp)).trans r13;have RF:∀q,(w3.setCell ⟨w.heap.size+1+1,1,none⟩ (.slice (some ⟨gg,0,none⟩) (ct.length+1) cap)).frozen? ⟨w.heap.size+1,q,none⟩=false:=fun q=>by simpa using rf3 q
   have hBs:=hBp.keep (w':=w3.setCell ⟨w.heap.size+1+1,1,none⟩ (.slice (some ⟨gg,0,none⟩) (ct.length+1) cap)) (by simp) (fun b hb _=>bS8 _ _ _ _ (by simp;omega));rw[←HT.out]at hBs;have belS:Below w.heap.size w (w3.setCell ⟨w.heap.size+1+1,1,none⟩ (.slice (some ⟨gg,0,none⟩) (ct.length+1) cap)):=bel3.setCell (by simp;omega) _;have hzS:w.heap.size+1+1+1≤(w3.setCell ⟨w.heap.size+1+1,1,none⟩ (.slice (some ⟨gg,0,none⟩) (ct.length+1) cap)).heap.size:=by simp;omega
   clear hown3 hgrow hat far farf hBp hB2 hR2 hO2 hb2 hB p03 p13 pf3 r03 r13 rf3;go_wp2;exact⟨⟨k+1,_,_,_,hlt,by simp,Q0,Q1,P0,P1,PF,R0,R1,RF,hBs,belS,hzS⟩,by simp[intOf];omega⟩
  ·obtain rfl:k=cs.length:=by omega
   rw[List.take_length]at hB;obtain⟨ay,cy,rfl⟩:=hB.shape;clear ha hC;go_wp2;refine bodyPost_ret (v:=.agg #[.int .i64 W,.slice ay cs.length cy]) (by simp[results,Tryz.results50,go_sem, *]) rfl ⟨⟨_,us,G,rfl,(hB.keep (by simp) fun b hb _=>?_).weak (by omega)⟩,?_⟩
   ·repeat rw[bS8 _ _ _ _ (by simp;omega)]
   ·repeat (first|(with_reducible exact hb)|(with_reducible refine Below.setCell ?_ ?hh _;case hh=>(simp;try omega)))
end
end Go.Proofs.YtflokiejcjjbiaaGreat
