/- Own texts, joined: contracts that the law's proof goes by. -/
import Derived.Test.YtflokiejcjjbiaaGreatGLFits26
import Derived.Test.YtflokiejcjjbiaaGreatGLFits2
import Derived.Handy
import Derived.Test.YtflokiejcjjbiaaGreatGLFits19
set_option maxHeartbeats 16000000
set_option maxRecDepth 100000
set_option linter.unusedVariables false
set_option linter.unusedSimpArgs false
namespace Go.Proofs.YtflokiejcjjbiaaGreat
section
open Go.RowKit Go.Shelf
attribute [local go_sem] Oper.semAt_some
def BagI {w2:World}{b:Nat}(w:World)(X:Int)(pre:List (RowT w2 b))(O:Nat→Prop)(A:World):Prop:=
 ∃ (y:Value) (us:List Value) (G:List (List Nat)),A.cell? ⟨w.heap.size+1,0,none⟩=some (.int .i64 X)∧A.cell? ⟨w.heap.size+1,1,none⟩=some y∧(∀q,A.frozen? ⟨w.heap.size+1,q,none⟩=false)∧A.cell? ⟨w.heap.size,0,none⟩=some (.int .i64 0)∧A.cell? ⟨w.heap.size,1,none⟩=some (.slice none 0 0)∧(∀q,A.frozen? ⟨w.heap.size,q,none⟩=false)∧ BagOwn A (w.heap.size+1+1) y (pre.map fun x=>x.1.2) us G∧Below w.heap.size w A∧w.heap.size+1+1≤A.heap.size∧(∀k,y.ownBlock=some k∨k∈G.flatten→O k)∧O (w.heap.size+1)∧∀k,O k→k=w.heap.size+1∨w.heap.size+1+1≤k∧k<A.heap.size
theorem bagOwn_on {A B:World}{N:Nat}{y:Value}{cs:List C2}{us:List Value}{G:List (List Nat)}(h:BagOwn A N y cs us G)(hs:A.heap.size≤B.heap.size)(hb:∀k,y.ownBlock=some k∨k∈G.flatten→B.heap[k]?=A.heap[k]?):BagOwn B N y cs us G:=by
 refine⟨oK8 h.own fun k hk=>hb k (.inl hk),h.ul,h.gl,fun i x u g hx hu hg=>(h.row i x u g hx hu hg).keep hs fun k hk=>hb k (.inr ?_),h.free.keep fun k hk=>hb k (.inr hk),h.out⟩;exact List.mem_flatten.2 ⟨g,mg8 hg,hk⟩
theorem BagI.on {w2:World}{b:Nat}{w:World}{X:Int}{pre:List (RowT w2 b)}{O:Nat→Prop}{A B:World}(h:BagI w X pre O A)(hs:SameOn (fun k=>k<w.heap.size+2∨O k) A B):BagI w X pre O B:=by
 obtain⟨y,us,G,p0,p1,pf,r0,r1,rf,hB,hb,hz,hO,hOb,hO2⟩:=h;have e1:B.heap[w.heap.size+1]?=A.heap[w.heap.size+1]?:=hs.block _ (by omega) (.inl (by omega));have e0:B.heap[w.heap.size]?=A.heap[w.heap.size]?:=hs.block _ (by omega) (.inl (by omega));refine⟨y,us,G,(cb8 e1).trans p0,(cb8 e1).trans p1,fun q=>(fb8 e1).trans (pf q),(cb8 e0).trans r0,(cb8 e0).trans r1,fun q=>(fb8 e0).trans (rf q),bagOwn_on hB hs.size fun k hk=>?_,⟨hs.os.trans hb.os,hs.tape.trans hb.tape,hs.output.trans hb.output,Nat.le_trans hb.size hs.size,fun k hk=>(hs.block k (by omega) (.inl (by omega))).trans (hb.block k hk)⟩,Nat.le_trans hz hs.size,hO,hOb,fun k hk=>?_⟩
 ·have h1:k<A.heap.size:=by
   rcases hk with hk|hk
   ·exact(oL8 hB.own k hk).2
   ·exact hB.lt k hk
  exact hs.block k h1 (.inr (hO k hk))
 ·have:=hO2 k hk;have:=hs.size;omega
theorem bagI_start {W2:World}{b:Nat}(w:World)(X:Int):BagI (w2:=W2) (b:=b) w X [] (fun k=>k=w.heap.size+1) ((w.alloc (.cells #[.int .i64 0,.slice none 0 0] 60)).alloc (.cells #[.int .i64 X,.slice none 0 0] 60)):=by
 refine⟨.slice none 0 0,[],[],by go_simp,by go_simp,fun q=>by go_simp,by go_simp,by go_simp,fun q=>by go_simp,BagOwn.nil _ _,((Below.refl _ _).alloc (Nat.le_refl _) _).alloc (by simp) _,by simp,fun k hk=>?_,rfl,fun k hk=> .inl hk⟩;rcases hk with hk|hk
 ·cases hk
 ·cases hk
theorem bag_at (b B n:Nat)(W X:Int)(cs:List C2)(w:World)(hT:TalAt w b B n W cs)(hB0:B≤w.heap.size)(hn:n≤4194304)(hW:W≤1048576):Calls Tryz.prog 111 #[.map (some b),.int .i64 X] w fun e w'=>(∃ds u us G,e=.returned (.agg #[.int .i64 X,u])∧OrderedOf W cs ds∧BagOwn w' w.heap.size u ds us G)∧Below w.heap.size w w':=by
 have hlb:=hT.lt;refine(callsIn_wide (n:=0)).1 ?_;refine callsIn_of_wp_marks Tryz.func111 rfl trivial ?_ rfl;simp only[Tryz.ntmps111,List.size_toArray,List.length_cons,List.length_nil,Nat.reduceAdd,Nat.reduceSub,Array.replicate_succ,Array.replicate_zero,List.push_toArray,List.append_toArray,List.nil_append,List.cons_append]
 gi_wp2
 obtain⟨w2,hw2⟩:∃w2,(w.alloc (.cells #[.int .i64 0,.slice none 0 0] 60)).alloc (.cells #[.int .i64 X,.slice none 0 0] 60)=w2:=⟨_,rfl⟩;have hs2:w2.heap.size=w.heap.size+2:=by rw[←hw2];simp
 have hbw2:Below w.heap.size w w2:=by rw[←hw2];exact((Below.refl _ _).alloc (Nat.le_refl _) _).alloc (by simp) _
 have hI0:BagI (w2:=w2) (b:=B) w X [] (fun k=>k=w.heap.size+1) w2:=by
  have h:=bagI_start (W2:=w2) (b:=B) w X;rw[hw2]at h;exact h
 have hT2:=hT.keep hB0 hbw2;rw[hw2];clear hw2 hT;refine rangeBound (gf:=138) (recv:=.map (some b)) rfl (enters_of Tryz.func138 (by kernel_rfl) rfl) (asc_seq b B n W cs w2 hT2 (by omega) hn hW) (fun _=>rfl) (BagI w X) (fun pre O A B h hs=>h.on (by rw[hs2]at hs;exact hs)) (fun k=>k=w.heap.size+1) (fun k hk=>by omega) hI0 (fun x O a' A=> ∃Bx,w.heap.size+2+2≤Bx∧Bx<A.heap.size∧¬O Bx∧A.cell? ⟨Bx,0,none⟩=some x.1.1∧A.cell? ⟨Bx,1,none⟩=some (.int .i64 x.1.2.n)∧a'={tmps:=#[.map (some b),.int .i64 X,undef,undef,.pointer (some ⟨w.heap.size,0,none⟩),.pointer (some ⟨w.heap.size+1,0,none⟩),.pointer (some ⟨Bx,0,none⟩),.int .i64 X,.agg #[.int .i64 X,.slice none 0 0],.map (some b),.func (.func 138) #[.map (some b)] #[],.agg #[x.1.1,.int .i64 x.1.2.n],undef,undef,undef,undef,undef,undef,undef,undef],defers:=[]}) ?hAx ?assign ?body ?done
 case hAx=>
  rintro x O a' A o ⟨Bx,h1,h2,h3,h4,h5,h6⟩;have hne:Bx≠w2.heap.size+1:=by omega
  exact⟨Bx,h1,by simpa [World.putObj]using h2,h3,(cb8 (World.putObj_heap_other hne)).trans h4,(cb8 (World.putObj_heap_other hne)).trans h5,h6⟩
 case assign=>
  rintro l pre O x A K hi hz hK;obtain⟨⟨u,rr,nn⟩,hxB⟩:=x;obtain⟨ua,uc,hu⟩:∃a c,u=.slice a rr.length c:=by obtain⟨⟨_,⟨a,c,e,_⟩,_⟩,_⟩:=hxB;exact⟨a,c,e⟩
  subst hu;have hOA:¬O A.heap.size:=fun h=>by obtain⟨_,_,_,_,_,_,_,_,_,_,_,_,_,_,hO2⟩:=hi;have:=hO2 _ h;omega
  have hkA:KeptBut O A (A.alloc (.cells #[.slice ua rr.length uc,.int .i64 nn] 96)):=⟨by simp,fun k hk _=>bA8 A _ k hk⟩;have hiA:BagI w X pre O (A.alloc (.cells #[.slice ua rr.length uc,.int .i64 nn] 96)):=hi.on (SameOn.of_below ((Below.refl _ _).alloc (Nat.le_refl _) _));clear hi
  gi_wp2
  refine hK _ _ hkA hiA ⟨A.heap.size,by omega,by simp,hOA,by go_simp,by go_simp,rfl⟩
 case body=>
  rintro l pre O x a' wr hi ⟨Bx,hx1,hx2,hx3,hx4,hx5,rfl⟩ hz hNm;obtain⟨y,us,G,p0,p1,pf,r0,r1,rf,hB,hb,hzb,hO,hOb,hO2⟩:=hi;obtain⟨⟨u,x⟩,⟨g0,hR0,hg0⟩,hxn⟩:=x;dsimp only at hR0 hxn hx4 hx5;obtain⟨a0,n0,rfl⟩:=hR0.shape;have hbb:Below B w2 wr:=⟨hb.os.trans hbw2.os.symm,hb.tape.trans hbw2.tape.symm,hb.output.trans hbw2.output.symm,by omega,fun k hk=>(hb.block k (by omega)).trans (hbw2.block k (by omega)).symm⟩;have hR:RowF wr (.slice a0 x.r.length n0) x.r g0:=hR0.keep hbb.size fun k hk=>hbb.block k (hg0 k hk);have c0:=hx4;have c1:=hx5;have hvl:=oL8 hB.own;have hv2:y.ownBlock≠some (w.heap.size+1):=fun e=>by have:=(hvl _ e).1;omega
  have hvr:y.ownBlock≠some w.heap.size:=fun e=>by have:=(hvl _ e).1;omega
  have hvT:y.ownBlock≠some Bx:=fun e=>hx3 (hO Bx (.inl e));have hGl:=hB.lt;have hpl:(pre.map fun x=>x.1.2).length=pre.length:=by simp
  have HM:Hid ((pre++ [(⟨(.slice a0 x.r.length n0,x),⟨g0,hR0,hg0⟩,hxn⟩:RowT w2 B)]).map (fun x=>x.1.2)=(pre.map fun x=>x.1.2)++ [x]):=by simp[Hid]
  obtain⟨i0,hi,hz0,hz1,hz2⟩:=info_parts infoCntT;generalize hct:pre.map (fun x=>x.1.2)=ct at*;have hml:ct.length+1≤maxLen:=by unfold maxLen;omega
  have hby:(ct.length+1)*32≤140737488355328:=by omega
  have hUf:∀k,O k→k=w.heap.size+1∨w.heap.size+1+1≤k∧k<wr.heap.size:=hO2;clear hx4 hx5 hI0 hT2 hpl
  gi_wp2_with fail
  refine startR 7 (fun w'=>w'.cell? ⟨w.heap.size+1,1,none⟩=some y∧w'.cell? ⟨Bx,0,none⟩=some (.slice a0 x.r.length n0)∧w'.cell? ⟨Bx,1,none⟩=some (.int .i64 x.n)) (by kernel_rfl) (fun h=>by obtain⟨_,_,h⟩:=h;exact h.elim) (by kernel_rfl) ?_ (fun hHeld=>?_)
  ·exact⟨p1,c0,c1⟩
  refine tkE 0 12 rfl rfl ?_;refine tkE 1 13 rfl rfl ?_;refine tkE 2 14 rfl rfl ?_;refine onE 3 rfl fun K hK=>?_;go_simp;go_at_call 107;refine cM8 (copyCounted_any (.slice a0 x.r.length n0) x.r g0 x.n _ (hR.below ?hbb) hxn) ?_
  case hbb=>exact(Below.refl _ wr).drew
  rintro e wv ⟨⟨u2,g2,rfl,hR2,hO2⟩,hb2⟩;obtain⟨a2,n2,rfl⟩:=hR2.shape;have hzw2:=hb2.size;(try simp at hzw2);have bel2:Below wr.heap.size wr wv:=(Below.refl _ wr).drew.trans hb2;have hB2:=hB.below bel2;have pf2:∀q,wv.frozen? ⟨w.heap.size+1,q,none⟩=false:=fun q=>((bc8 bel2).2 _ q (by omega)).trans (pf q);have rf2:∀q,wv.frozen? ⟨w.heap.size,q,none⟩=false:=fun q=>((bc8 bel2).2 _ q (by omega)).trans (rf q);have p02:=((bc8 bel2).1 (w.heap.size+1) 0 (by omega)).trans p0;have p12:=((bc8 bel2).1 (w.heap.size+1) 1 (by omega)).trans p1;have r02:=((bc8 bel2).1 (w.heap.size) 0 (by omega)).trans r0;have r12:=((bc8 bel2).1 (w.heap.size) 1 (by omega)).trans r1;have q0:wv.cell? ⟨Bx,0,none⟩=some (.slice a0 x.r.length n0):=((bc8 bel2).1 Bx 0 (by omega)).trans c0;have q1:wv.cell? ⟨Bx,1,none⟩=some (.int .i64 x.n):=((bc8 bel2).1 Bx 1 (by omega)).trans c1;try go_wp2_with fail
  refine hK.out _ _ ?_ (fun hHeld3=>?_)
  ·intro _;exact⟨p12,q0,q1⟩
  clear hK;replace hHeld3:=hHeld3 (by decide);refine onE 4 rfl fun K hK=>?_;go_simp;refine hK.out _ _ ?_ (fun hHeld4=>?_)
  ·intro _;exact⟨(cb8 (bA8 wv _ _ (by omega))).trans p12,(cb8 (bA8 wv _ _ (by omega))).trans q0,(cb8 (bA8 wv _ _ (by omega))).trans q1⟩
  clear hK;replace hHeld4:=hHeld4 (by decide);refine onE 5 rfl fun K hK=>?_;refine step_append_lies _ (by rfl) _ _ _ (by rfl) (w.heap.size+1+1) 96 i0 _ 2 32 Tryz.underlying58 hi hz0 hz1 hz2 rfl (by omega) y ct.length (cc us ct) (by rfl) (hB2.own.alloc _) ⟨wv.heap.size,0,none⟩ 1 1 [.slice a2 x.r.length n2,.int .i64 x.n] (by rfl) (by rfl) (World.news_of_block (cs:=#[.slice a2 x.r.length n2,.int .i64 x.n]) (t:=96) (fr:=(0,0)) (heap_alloc_new wv _)) (by simp[Value.oneCell']) (by omega) hml hby (by simp;omega) (wv.heap.size+1) (by simp) ?_;intro gg cap w3 hown3 hgrow hat hlt3;have hz3:=hgrow.size;simp at hz3;have far:∀b q,b<wv.heap.size→y.ownBlock≠some b→w3.cell? ⟨b,q,none⟩=wv.cell? ⟨b,q,none⟩:=fun b q hb hne=>(hgrow.cell_far _ (by simp;omega) (Ne.symm hne)).trans (cb8 (bA8 _ _ _ hb));have farf:∀b q,b<wv.heap.size→y.ownBlock≠some b→w3.frozen? ⟨b,q,none⟩=wv.frozen? ⟨b,q,none⟩:=fun b q hb hne=>(hgrow.frozen_far _ (by simp;omega) (Ne.symm hne)).trans (fb8 (bA8 _ _ _ hb));have pf3:∀q,w3.frozen? ⟨w.heap.size+1,q,none⟩=false:=fun q=>(farf _ q (by omega) hv2).trans (pf2 q);have rf3:∀q,w3.frozen? ⟨w.heap.size,q,none⟩=false:=fun q=>(farf _ q (by omega) hvr).trans (rf2 q);have p03:=(far (w.heap.size+1) 0 (by omega) hv2).trans p02;have p13:=(far (w.heap.size+1) 1 (by omega) hv2).trans p12;have r03:=(far (w.heap.size) 0 (by omega) hvr).trans r02;have r13:=(far (w.heap.size) 1 (by omega) hvr).trans r12;have hBp:=BagOwn.push (hB2.below ((Below.refl _ _).alloc (Nat.le_refl _) (.cells #[.slice a2 x.r.length n2,.int .i64 x.n] 96))) (hR2.below ((Below.refl _ _).alloc (Nat.le_refl _) _)) ⟨hO2.1,fun b hb=>by have:=hO2.2.1 b hb;simp at this;omega,fun b hb q=>(fb8 (bA8 _ _ _ (hR2.lt b hb))).trans (hO2.2.2 b hb q)⟩ (fun b hb hb'=>by have:=hO2.2.1 b hb';have:=hGl b hb;simp at*;omega) (fun b hb hb'=>by have:=hO2.2.1 b hb';have:=(oL8 hB.own b hb).2;simp at*;omega) hown3 hgrow (fun b hb=>by simp[Value.ownBlock]at hb;subst hb;rcases hat with h|h;exact .inl h;exact .inr (by simp;omega))
  have far1:=far Bx 0 (by omega) hvT;have far2:=far Bx 1 (by omega) hvT;have bel3:Below w.heap.size w w3:=Below.grown (hb.trans (bel2.mono hb.size)|>.alloc (by omega) _) hgrow (by simp;omega) (fun b hb=>by have:=(oL8 hB.own b hb).1;omega);refine hK.out _ _ ?_ (fun hHeld5=>?_)
  ·intro _;exact⟨p13,far1.trans q0,far2.trans q1⟩
  clear hK;replace hHeld5:=hHeld5 (by decide);refine tkE 6 18 rfl rfl ?_;refine onE 7 rfl fun K hK=>?_;go_simp;refine hK.out _ _ ?_ (fun hHeld7=>?_)
  ·exact fun h=>absurd rfl h
  clear hK hHeld7;refine doneE (by kernel_rfl) ?_ _;have P0:(w3.setCell ⟨w.heap.size+1,1,none⟩ (.slice (some ⟨gg,0,none⟩) (ct.length+1) cap)).cell? ⟨w.heap.size+1,0,none⟩=some (.int .i64 X):=(cO8 _ _ _ _ (by simp)).trans p03;have P1:(w3.setCell ⟨w.heap.size+1,1,none⟩ (.slice (some ⟨gg,0,none⟩) (ct.length+1) cap)).cell? ⟨w.heap.size+1,1,none⟩=some (.slice (some ⟨gg,0,none⟩) (ct.length+1) cap):=cS8 _ _ _ p13;have PF:∀q,(w3.setCell ⟨w.heap.size+1,1,none⟩ (.slice (some ⟨gg,0,none⟩) (ct.length+1) cap)).frozen? ⟨w.heap.size+1,q,none⟩=false:=fun q=>by simpa using pf3 q
  have R0:(w3.setCell ⟨w.heap.size+1,1,none⟩ (.slice (some ⟨gg,0,none⟩) (ct.length+1) cap)).cell? ⟨w.heap.size,0,none⟩=some (.int .i64 0):=(cO8 _ _ _ _ (by simp)).trans r03;have R1:(w3.setCell ⟨w.heap.size+1,1,none⟩ (.slice (some ⟨gg,0,none⟩) (ct.length+1) cap)).cell? ⟨w.heap.size,1,none⟩=some (.slice none 0 0):=(cO8 _ _ _ _ (by simp)).trans r13;have RF:∀q,(w3.setCell ⟨w.heap.size+1,1,none⟩ (.slice (some ⟨gg,0,none⟩) (ct.length+1) cap)).frozen? ⟨w.heap.size,q,none⟩=false:=fun q=>by simpa using rf3 q
  have hBs:=hBp.keep (w':=w3.setCell ⟨w.heap.size+1,1,none⟩ (.slice (some ⟨gg,0,none⟩) (ct.length+1) cap)) (by simp) (fun b hb _=>bS8 _ _ _ _ (by simp;omega));have belS:Below w.heap.size w (w3.setCell ⟨w.heap.size+1,1,none⟩ (.slice (some ⟨gg,0,none⟩) (ct.length+1) cap)):=bel3.setCell (by first|(simp;done)|(simp;omega)) _;have hzS:w.heap.size+1+1≤(w3.setCell ⟨w.heap.size+1,1,none⟩ (.slice (some ⟨gg,0,none⟩) (ct.length+1) cap)).heap.size:=by simp;omega
  have hgl:=oL8 hBs.own;have hfl:=hBs.lt;have hfr:=hBs.free.2.1;refine⟨fun k=>k=w.heap.size+1∨k=gg∨k∈(G++ [g2]).flatten,⟨_,_,_,P0,P1,PF,R0,R1,RF,by rw[HM.out];exact hBs,belS,hzS,fun k hk=>?_,.inl rfl,fun k hk=>?_⟩,⟨?_,fun k hk hn=>?_⟩,fun k hk=>?_⟩
  ·rcases hk with hk|hk
   ·simp only[Value.ownBlock,Option.some.injEq]at hk;exact .inr (.inl hk.symm)
   ·exact .inr (.inr hk)
  ·rcases hk with hk|hk|hk
   ·exact .inl hk
   ·exact .inr (hk▸hgl gg rfl)
   ·exact .inr ⟨hfr k hk,hfl k hk⟩
  ·have:=bel2.size;simp;omega
  ·have h1:k≠w.heap.size+1:=fun e=>hn (e▸hOb);have h2:some k≠y.ownBlock:=fun e=>hn (hO k (.inl e.symm));rw[bS8 _ _ _ _ (by simpa using h1),hgrow.block k (by simp;omega) h2,bA8 _ _ _ (by omega),bel2.block k hk]
  ·rcases hk with hk|hk|hk
   ·exact .inl (hk▸hOb)
   ·rcases hat with h|h
    ·exact .inl (hk▸hO gg (.inl h))
    ·exact .inr (by omega)
   ·rw[List.flatten_append,List.mem_append]at hk;rcases hk with hk|hk
    ·exact .inl (hO k (.inr hk))
    ·exact .inr (by have:=hO2.2.1 k (by simpa using hk);simpa using this)
 case done=>
  rintro D xs O A hD hDO hord ⟨y,us,G,p0,p1,pf,r0,r1,rf,hB,hb,hzA,hO,hOb,hO2⟩ hK;obtain⟨ay,cy,rfl⟩:=hB.shape
  gi_wp2
  obtain⟨A2,hA2⟩:∃A2,(A.setCell ⟨w.heap.size,0,none⟩ (.int .i64 X)).setCell ⟨w.heap.size,1,none⟩ (.slice ay (xs.map fun x=>x.1.2).length cy)=A2:=⟨_,rfl⟩;have hs3:A2.heap.size=A.heap.size:=by rw[←hA2];simp
  have hfar:∀k,k≠w.heap.size→A2.heap[k]?=A.heap[k]?:=fun k hk=>by
   rw[←hA2,bS8 _ _ _ _ (by simpa using hk),bS8 _ _ _ _ (by simpa using hk)]
  have q0:A2.cell? ⟨w.heap.size,0,none⟩=some (.int .i64 X):=by rw[←hA2];exact(cO8 _ _ _ _ (by simp)).trans (cS8 _ _ _ r0)
  have q1:A2.cell? ⟨w.heap.size,1,none⟩=some (.slice ay (xs.map fun x=>x.1.2).length cy):=by rw[←hA2];exact cS8 _ _ _ ((cO8 _ _ _ _ (by simp)).trans r1)
  have hb2:Below w.heap.size w A2:=by rw[←hA2];exact(hb.setCell (by simp) _).setCell (by simp) _
  have hK2:A2.heap[D]?=some (.deferred (some [])):=(hfar D (by omega)).trans hK;have hlen:(xs.map fun x=>x.1.2).length=xs.length:=by simp
  rw[hlen]at hA2 q1;rw[hA2];refine⟨by simp,.inl ⟨_,_,rfl,run_takeDeferred hK2,?_⟩⟩;have q0':(A2.putObj D (.deferred none)).cell? ⟨w.heap.size,0,none⟩=some (.int .i64 X):=(cb8 (World.putObj_heap_other (by omega))).trans q0;have q1':(A2.putObj D (.deferred none)).cell? ⟨w.heap.size,1,none⟩=some (.slice ay xs.length cy):=(cb8 (World.putObj_heap_other (by omega))).trans q1;have hB3:BagOwn (A2.putObj D (.deferred none)) (w.heap.size+1+1) (.slice ay (xs.map fun x=>x.1.2).length cy) (xs.map fun x=>x.1.2) us G:=bagOwn_on hB (by simp[World.putObj];omega) fun k hk=>by
   have h1:=hDO k (hO k hk);have h2:w.heap.size+1+1≤k:=by
    rcases hk with hk|hk
    ·exact(oL8 hB.own k hk).1
    ·exact hB.free.2.1 k hk
   rw[World.putObj_heap_other h1,hfar k (by omega)]
  have hb3:Below w.heap.size w (A2.putObj D (.deferred none)):=hb2.trans (belowK_b (w:=w2) (by omega) A2 D _ _ hD hK2 rfl rfl);rw[hlen]at hB3;refine⟨.agg #[.int .i64 X,.slice ay xs.length cy],?_,⟨⟨_,_,us,G,rfl,hord,hB3.weak (by omega)⟩,hb3⟩⟩;clear hB hB3 hord hI0 hT2;simp[results,Tryz.results111,go_sem,q0',q1']
theorem bag_any (b n:Nat)(W X:Int)(cs:List C2)(w:World)(hT:TalIs w b n W cs)(hn:n≤4194304)(hW:W≤1048576):Calls Tryz.prog 111 #[.map (some b),.int .i64 X] w fun e w'=>(∃ds u us G,e=.returned (.agg #[.int .i64 X,u])∧OrderedOf W cs ds∧BagOwn w' w.heap.size u ds us G)∧Below w.heap.size w w':=
 bag_at b b n W X cs w hT (Nat.le_of_lt hT.lt) hn hW
end
section
open Go.RowKit Go.Shelf
theorem together_anyC (cp:Nat)(hc1:2≤cp)(hc2:cp≤maxLen)(W:Int)(va vb:Value)(cs ds:List C2)(F F2:List Nat)(w:World)(B:Nat)(c0:w.cell? ⟨B,0,none⟩=some (.int .i64 W))(c1:w.cell? ⟨B,1,none⟩=some va)(c2:w.cell? ⟨B,2,none⟩=some (.int .i64 W))(c3:w.cell? ⟨B,3,none⟩=some vb)(hB:B<w.heap.size)(ha:RowsF w va cs F) (hb:RowsF w vb ds F2) (hn:wtb cs≤1048576) (hn2:wtb ds≤1048576) (hW:W≤12) (hgc:∀c∈cs,gR8 W c.r) (hgd:∀c∈ds,gR8 W c.r) (hS:SmallC (cs++ds)):Calls Tryz.prog 87 #[.slice (some ⟨B,0,none⟩) 2 cp] w fun e w'=>(∃xs u us G,e=.returned (.agg #[.int .i64 W,u])∧OrderedOf W (cs++ds) xs∧BagOwn w' w.heap.size u xs us G)∧Below w.heap.size w w':=by
 unfold maxLen at hc2;have hmm:= @run_makeMap Tryz.prog;have hSc:SmallC ([]++cs):=by refine⟨fun c hc=>hS.1 c (by simp at hc;simp[hc]),?_⟩;have:=hS.2;simp at this⊢;omega
 obtain⟨aa,ca,rfl⟩:∃a c,va=.slice a cs.length c:=by obtain⟨a,c,_,e,_⟩:=ha;exact⟨a,c,e⟩
 obtain⟨ab,cb,rfl⟩:∃a c,vb=.slice a ds.length c:=by obtain⟨a,c,_,e,_⟩:=hb;exact⟨a,c,e⟩
 have hlen:=hS.2;rw[List.length_append]at hlen;have hFa:∀x∈F,x<w.heap.size+1:=fun x hx=>by have:=ha.lt x hx;omega
 have hFb:∀x∈F2,x<w.heap.size+1:=fun x hx=>by have:=hb.lt x hx;omega
 go_enter Tryz.func87,Tryz.ntmps87;go_wp2;go_loopw [9] (fun i wr=> ∃k:Nat,k≤2∧i=.int .i64 k∧TalIs wr (w.heap.size+1) (if k=0 then 0 else if k=1 then cs.length else cs.length+ds.length) W (if k=0 then[]else if k=1 then cs else cs++ds)∧Below (w.heap.size+1) (w.alloc (.cells #[.int .i64 0,.slice none 0 0] 60)) wr) (fun i _=>2 - (intOf i).toNat)
 case atStart=>
  refine⟨0,by omega,rfl,⟨.map [],?_,TallyOf.start _ _ _⟩,?_⟩
  ·have:=World.ownsMap_made (w.alloc (.cells #[.int .i64 0,.slice none 0 0] 60)) Tryz.prog 9 Rc
   simpa using this
  ·exact(Below.refl _ _).alloc (by simp) _
 case round=>
  obtain⟨k,hk,rfl,hT,hbr⟩:=hrel;have hzr:=hbr.size;simp only[World.size_alloc]at hzr;have hlt:=hT.lt;have hbw:Below w.heap.size w wr:=((Below.refl _ w).alloc (Nat.le_refl _) _).trans (hbr.mono (by omega));have d0:=(hbw.cell (p:=⟨B,0,none⟩) hB).trans c0;have d1:=(hbw.cell (p:=⟨B,1,none⟩) hB).trans c1;have d2:=(hbw.cell (p:=⟨B,2,none⟩) hB).trans c2;have d3:=(hbw.cell (p:=⟨B,3,none⟩) hB).trans c3;have hBr:B<wr.heap.size:=by omega
  rcases(by omega:k=0∨k=1∨k=2)with rfl|rfl|rfl
  ·simp only[if_true]at hT;have hb0:Below wr.heap.size wr (wr.alloc (.cells #[.int .i64 W,.slice aa cs.length ca] 60)):=(Below.refl _ _).alloc (Nat.le_refl _) _;have hcall:=addAll_any (w.heap.size+1) 0 W W [] cs (.slice aa cs.length ca) F _ (hT.keep hb0) ((ha.below hbw).below hb0) hFa hgc hn hSc (by omega);rw[List.nil_append,Nat.zero_add]at hcall;clear hT ha hb;go_wp2_with(go_at_call 113;refine cM8 hcall ?_;rintro q w2 ⟨rfl,hT2,hb2⟩);refine⟨⟨1,by omega,by simp,by simpa using hT2,hbr.trans ((hb0.mono (Nat.le_of_lt hlt)).trans hb2)⟩,by simp[intOf]⟩
  ·simp only[if_true,Nat.one_ne_zero,if_false]at hT;have hb0:Below wr.heap.size wr (wr.alloc (.cells #[.int .i64 W,.slice ab ds.length cb] 60)):=(Below.refl _ _).alloc (Nat.le_refl _) _;have hcall:=addAll_any (w.heap.size+1) cs.length W W cs ds (.slice ab ds.length cb) F2 _ (hT.keep hb0) ((hb.below hbw).below hb0) hFb hgd hn2 hS (by omega);clear hT ha hb;go_wp2_with(go_at_call 113;refine cM8 hcall ?_;rintro q w2 ⟨rfl,hT2,hb2⟩);refine⟨⟨2,by omega,by simp,by simpa using hT2,hbr.trans ((hb0.mono (Nat.le_of_lt hlt)).trans hb2)⟩,by simp[intOf]⟩
  ·have hT':TalIs wr (w.heap.size+1) (cs.length+ds.length) W (cs++ds):=by simpa using hT
   have hcall:=bag_any (w.heap.size+1) (cs.length+ds.length) W W (cs++ds) wr hT' (by omega) (by omega);have r0:wr.cell? ⟨w.heap.size,0,none⟩=some (.int .i64 0):=(hbr.cell (p:=⟨w.heap.size,0,none⟩) (by simp)).trans (by go_simp);have r1:wr.cell? ⟨w.heap.size,1,none⟩=some (.slice none 0 0):=(hbr.cell (p:=⟨w.heap.size,1,none⟩) (by simp)).trans (by go_simp);have rf:∀q,wr.frozen? ⟨w.heap.size,q,none⟩=false:=fun q=>(fb8 (hbr.block w.heap.size (by simp))).trans (by go_simp);clear hT hT' ha hb;go_wp2_with fail;refine cM8 hcall ?_;rintro q w2 ⟨⟨xs,u,us,G,rfl,hord,hO⟩,hb2⟩;obtain⟨au,cu,rfl⟩:=hO.shape;have hz2:=hb2.size;have s0:=(hb2.cell (p:=⟨w.heap.size,0,none⟩) (show w.heap.size<wr.heap.size by omega)).trans r0;have s1:=(hb2.cell (p:=⟨w.heap.size,1,none⟩) (show w.heap.size<wr.heap.size by omega)).trans r1;have sf:∀q,w2.frozen? ⟨w.heap.size,q,none⟩=false:=fun q=>(fb8 (hb2.block w.heap.size (by omega))).trans (rf q);have hb3:Below w.heap.size w w2:=hbw.trans (hb2.mono (by omega));clear r0 r1 rf hb2 hcall d0 d1 d2 d3;go_wp2_with fail;refine bodyPost_ret (v:=.agg #[.int .i64 W,.slice au xs.length cu]) (by simp[results,Tryz.results87,go_sem, *]) rfl ⟨⟨xs,_,us,G,rfl,hord,(hO.keep (by simp) fun k hk _=>?_).weak (by omega)⟩,?_⟩
   ·repeat rw[bS8 _ _ _ _ (by simp;omega)]
   ·exact(hb3.setCell (by simp) _).setCell (by simp) _
end
end Go.Proofs.YtflokiejcjjbiaaGreat
