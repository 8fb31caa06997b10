/- Own texts, joined: contracts that the law's proof goes by. -/
import Derived.Test.YteekfcdllaceoaaGreatDoorGLAnswer3
import Derived.Test.YteekfcdllaceoaaGreatDoorGLAnswer1
import Derived.Test.YteekfcdllaceoaaGreatDoorPutX
import Derived.Test.YteekfcdllaceoaaGreatDoorGLAnswer7
import Derived.Handy
import Derived.Deep.RegionHeld3
set_option maxHeartbeats 16000000
set_option maxRecDepth 100000
set_option linter.unusedVariables false
set_option linter.unusedSimpArgs false
namespace Go.Proofs.YteekfcdllaceoaaGreatDoor
section
open Go.RowKit Go.Deep Go.ChangeShapes Go.WideShapes
theorem B0N (W:Int)(v:Value)(cs:List C2)(F:List Nat)(w:World)(hr:C6 w v cs F)(hn:wtb cs<=1048576):Calls Tryz.prog 50 #[.agg #[.int .i64 W,v]] w fun e w'=>(∃u us G,e=.returned (.agg #[.int .i64 W,u])/\C4 w' w.heap.size u cs us G)/\Below w.heap.size w w':=by
 obtain⟨i0,hi,hz0,hz1,hz2⟩:=info_parts Tryz.infoCnt;obtain⟨a,c,b,o,G0,rfl,hl,hc,_,hG0,_,hC,ha⟩:=hr.pick;unfold maxLen at hc;clear hr;have hn1:cs.length<=1048576:=by unfold wtb at hn;omega
 go_enter Tryz.func50,Tryz.ntmps50;go_wp2;go_loopw [4] (fun i wr=> ∃ (k:Nat) (y:Value) (us:List Value) (G:List (List Nat)),k<=cs.length/\i=.int .i64 k/\wr.cell? ⟨w.heap.size,0,none⟩=some (.int .i64 W)/\wr.cell? ⟨w.heap.size,1,none⟩=some (.slice a cs.length c)/\wr.cell? ⟨w.heap.size+1+1,0,none⟩=some (.int .i64 W)/\wr.cell? ⟨w.heap.size+1+1,1,none⟩=some y/\(∀q,wr.frozen? ⟨w.heap.size+1+1,q,none⟩=false)/\wr.cell? ⟨w.heap.size+1,0,none⟩=some (.int .i64 0)/\wr.cell? ⟨w.heap.size+1,1,none⟩=some (.slice none 0 0)/\(∀q,wr.frozen? ⟨w.heap.size+1,q,none⟩=false)/\C4 wr (w.heap.size+1+1+1) y (cs.take k) us G/\Below w.heap.size w wr/\w.heap.size+1+1+1<=wr.heap.size) (fun i _=>cs.length - (intOf i).toNat)
 case atStart=>
  refine⟨0,.slice none 0 0,[],[],Nat.zero_le _,rfl,by go_simp,by go_simp,by go_simp,by go_simp,fun q=>by go_simp,by go_simp,by go_simp,fun q=>by go_simp,C4.nil _ _,bex,by simp⟩
 case round=>
  obtain⟨k,y,us,G,hk,rfl,b0,b1,p0,p1,pf,r0,r1,rf,hB,hb,hzb⟩:=hrel;by_cases hlt:k<cs.length
  ·obtain⟨rfl,hblt,_⟩:=ha k hlt;obtain⟨x,u0,g0,hx,_,c0,hR,c1,hbr⟩:=hC.at hG0 hblt hb hlt;obtain⟨a0,n0,rfl⟩:=hR.shape;have HX:Hid (cs[k]?=some x):=hx;have hxn:x.r.length<=1048576:=by have:=A0R (mg8 hx);unfold wt at this;unfold wtb at hn;omega
   have htk:(cs.take k).length=k:=by simp;omega
   have hvl:=oL8 hB.own;have hv2:y.ownBlock≠some (w.heap.size+1+1):=fun e=>by have:=(hvl _ e).1;omega
   have hvr:y.ownBlock≠some (w.heap.size+1):=fun e=>by have:=(hvl _ e).1;omega
   have hvT:∀b,b<=w.heap.size->y.ownBlock≠some b:=fun b hb e=>by have:=(hvl _ e).1;omega
   have hkI:(k:Int)<cs.length:=by omega
   have hGl:=hB.lt;have HT:Hid (cs.take (k+1)=cs.take k++ [x]):=V9 hx;generalize cs.take k=ct at*;have hml:ct.length+1<=maxLen:=by unfold maxLen;omega
   have hby:(ct.length+1)*32<=140737488355328:=by omega
   clear ha hC hx htk hvl;go_wp2_with fail;refine Z4 19 (fun w'=>w'.cell? ⟨w.heap.size+1+1,1,none⟩=some y/\w'.cell? ⟨w.heap.size,1,none⟩=some (.slice (some ⟨b,o,none⟩) cs.length c)/\w'.cell? ⟨b,o+k*2,none⟩=some (.slice a0 x.r.length n0)/\w'.cell? ⟨b,o+k*2+1,none⟩=some (.int .i64 x.n)) (by kernel_rfl) ?_ (fun hHeld=>?_)
   ·exact⟨p1,b1,c0,c1⟩
   refine tkE 0 15 rfl rfl ?_;refine tkE 1 16 rfl rfl ?_;refine tkE 2 17 rfl rfl ?_;refine tkE 3 18 rfl rfl ?_;refine tkE 4 19 rfl rfl ?_;refine tkE 5 20 rfl rfl ?_;refine tkE 6 21 rfl rfl ?_;refine tkE 7 22 rfl rfl ?_;refine tkE 9 24 rfl rfl ?_;refine tkE 10 25 rfl rfl ?_;refine tkE 11 26 rfl rfl ?_;refine tkE 12 27 rfl rfl ?_;refine tkE 13 28 rfl rfl ?_;refine tkE 14 29 rfl rfl ?_;refine onE 8 rfl fun K hK=>?_;go_simp;go_at_call 74;refine cM8 (A3m (.slice a0 x.r.length n0) x.r g0 _ (hR.below ?hbb) hxn) ?_
   case hbb=>exact bex
   rintro e w2 ⟨⟨u2,g2,rfl,hR2,hO2⟩,hb2⟩;obtain⟨a2,n2,rfl⟩:=hR2.shape;have Y9:=hb2.size;rw[show wr.drew.heap.size=wr.heap.size from rfl]at Y9;have C0:Below wr.heap.size wr w2:=bex;have hB2:=hB.below C0;have pf2:∀q,w2.frozen? ⟨w.heap.size+1+1,q,none⟩=false:=fun q=>((bc8 C0).2 _ q (by omega)).trans (pf q);have rf2:∀q,w2.frozen? ⟨w.heap.size+1,q,none⟩=false:=fun q=>((bc8 C0).2 _ q (by omega)).trans (rf q);have p02:=bt8 C0 p0;have p12:=bt8 C0 p1;have r02:=bt8 C0 r0;have r12:=bt8 C0 r1;have b02:=bt8 C0 b0;have b12:=bt8 C0 b1;have c02:=((bc8 C0).1 b (o+k*2) (by omega)).trans c0;have c12:=((bc8 C0).1 b (o+k*2+1) (by omega)).trans c1;try go_wp2_with fail
   refine hK.out _ _ ?_ (fun U7=>?_)
   ·intro _;exact⟨p12,b12,c02,c12⟩
   clear hK;replace U7:=U7 (by decide);refine tkE 15 30 rfl rfl ?_;refine onE 16 rfl fun K hK=>?_;go_simp;refine hK.out _ _ ?_ (fun i8=>?_)
   ·intro _;exact⟨(cb8 ba8).trans p12,(cb8 ba8).trans b12,(cb8 ba8).trans c02,(cb8 ba8).trans c12⟩
   clear hK;replace i8:=i8 (by decide);refine onE 17 rfl fun K hK=>?_;refine step_append_lies _ (by rfl) _ _ _ (by rfl) (w.heap.size+1+1+1) 116 i0 _ 2 32 Tryz.underlying33 hi hz0 hz1 hz2 rfl (by omega) y ct.length (cc us ct) (by rfl) (hB2.own.alloc _) ⟨w2.heap.size,0,none⟩ 1 1 [.slice a2 x.r.length n2,.int .i64 x.n] (by rfl) (by rfl) (World.news_of_block (cs:=#[.slice a2 x.r.length n2,.int .i64 x.n]) (t:=116) (fr:=(0,0)) (heap_alloc_new w2 _)) (by simp[Value.oneCell']) (by omega) hml hby (by simp;omega) (w2.heap.size+1) (by simp) ?_;intro gg cap w3 H5 hgrow hat j5;have hz3:=hgrow.size;simp at hz3;have far:∀b q,b<w2.heap.size->y.ownBlock≠some b->w3.cell? ⟨b,q,none⟩=w2.cell? ⟨b,q,none⟩:=fun b q hb hne=>(hgrow.cell_far _ (by simp;omega) (Ne.symm hne)).trans (cb8 (bA8 _ _ _ hb));have X0:∀b q,b<w2.heap.size->y.ownBlock≠some b->w3.frozen? ⟨b,q,none⟩=w2.frozen? ⟨b,q,none⟩:=fun b q hb hne=>(hgrow.frozen_far _ (by simp;omega) (Ne.symm hne)).trans (fb8 (bA8 _ _ _ hb));have pf3:∀q,w3.frozen? ⟨w.heap.size+1+1,q,none⟩=false:=fun q=>(X0 _ q (by omega) hv2).trans (pf2 q);have rf3:∀q,w3.frozen? ⟨w.heap.size+1,q,none⟩=false:=fun q=>(X0 _ q (by omega) hvr).trans (rf2 q);have p03:=(far (w.heap.size+1+1) 0 (by omega) hv2).trans p02;have p13:=(far (w.heap.size+1+1) 1 (by omega) hv2).trans p12;have r03:=(far (w.heap.size+1) 0 (by omega) hvr).trans r02;have r13:=(far (w.heap.size+1) 1 (by omega) hvr).trans r12;have hBp:=C4.push (hB2.below ((Below.refl _ _).alloc lr8 (.cells #[.slice a2 x.r.length n2,.int .i64 x.n] 116))) (hR2.below ((Below.refl _ _).alloc lr8 _)) ⟨hO2.1,fun b hb=>by have:=hO2.2.1 b hb;have:wr.drew.heap.size=wr.heap.size:=rfl;omega,fun b hb q=>(fb8 (bA8 _ _ _ (hR2.lt b hb))).trans (hO2.2.2 b hb q)⟩ (fun b hb hb'=>by have:=hO2.2.1 b hb';have:=hGl b hb;simp at*;omega) (fun b hb hb'=>by have:=hO2.2.1 b hb';have:=(oL8 hB.own b hb).2;simp at*;omega) H5 hgrow (fun b hb=>by simp[Value.ownBlock]at hb;subst hb;rcases hat with h|h;exact .inl h;exact .inr (by simp;omega))
   have D6:Below w.heap.size w w3:=Below.grown bex hgrow (by simp;omega) (fun b hb=>by have:=(oL8 hB.own b hb).1;omega);have b03:=(far w.heap.size 0 (by omega) (hvT _ lr8)).trans b02;have b13:=(far w.heap.size 1 (by omega) (hvT _ lr8)).trans b12;have c03:=(far b (o+k*2) (by omega) (hvT _ (by omega))).trans c02;have c13:=(far b (o+k*2+1) (by omega) (hvT _ (by omega))).trans c12;refine hK.out _ _ ?_ (fun A3A=>?_)
   ·intro _;exact⟨p13,b13,c03,c13⟩
   clear hK;replace A3A:=A3A (by decide);refine tkE 18 33 rfl rfl ?_;refine onE 19 rfl fun K hK=>?_;go_simp;refine hK.out _ _ ?_ (fun hHeld19=>?_)
   ·exact fun h=>absurd rfl h
   clear hK hHeld19;refine V6 (by kernel_rfl) ?_ _;have Q0:(w3.setCell ⟨w.heap.size+1+1,1,none⟩ (.slice (some ⟨gg,0,none⟩) (ct.length+1) cap)).cell? ⟨w.heap.size,0,none⟩=some (.int .i64 W):=(cO8 _ _ _ _ (by simp;try omega)).trans b03;have Q1:(w3.setCell ⟨w.heap.size+1+1,1,none⟩ (.slice (some ⟨gg,0,none⟩) (ct.length+1) cap)).cell? ⟨w.heap.size,1,none⟩=some (.slice (some ⟨b,o,none⟩) cs.length c):=(cO8 _ _ _ _ (by simp;try omega)).trans b13;have P0:(w3.setCell ⟨w.heap.size+1+1,1,none⟩ (.slice (some ⟨gg,0,none⟩) (ct.length+1) cap)).cell? ⟨w.heap.size+1+1,0,none⟩=some (.int .i64 W):=(cO8 _ _ _ _ (by simp)).trans p03;have P1:(w3.setCell ⟨w.heap.size+1+1,1,none⟩ (.slice (some ⟨gg,0,none⟩) (ct.length+1) cap)).cell? ⟨w.heap.size+1+1,1,none⟩=some (.slice (some ⟨gg,0,none⟩) (ct.length+1) cap):=cS8 _ _ _ p13;have PF:∀q,(w3.setCell ⟨w.heap.size+1+1,1,none⟩ (.slice (some ⟨gg,0,none⟩) (ct.length+1) cap)).frozen? ⟨w.heap.size+1+1,q,none⟩=false:=fun q=>by simpa using pf3 q
   have R0:(w3.setCell ⟨w.heap.size+1+1,1,none⟩ (.slice (some ⟨gg,0,none⟩) (ct.length+1) cap)).cell? ⟨w.heap.size+1,0,none⟩=some (.int .i64 0):=(cO8 _ _ _ _ (by simp)).trans r03;have R1:(w3.setCell ⟨w.heap.size+1+1,1,none⟩ (.slice (some ⟨gg,0,none⟩) (ct.length+1) cap)).cell? ⟨w.heap.size+1,1,none⟩=some (.slice none 0 0):=(cO8 _ _ _ _ (by simp)).trans r13;have RF:∀q,(w3.setCell ⟨w.heap.size+1+1,1,none⟩ (.slice (some ⟨gg,0,none⟩) (ct.length+1) cap)).frozen? ⟨w.heap.size+1,q,none⟩=false:=fun q=>by simpa using rf3 q
   have hBs:=hBp.keep (w':=w3.setCell ⟨w.heap.size+1+1,1,none⟩ (.slice (some ⟨gg,0,none⟩) (ct.length+1) cap)) (by simp) (fun b hb _=>bS8 _ _ _ _ (by simp;omega));rw[<-HT.out]at hBs;have l7:Below w.heap.size w (w3.setCell ⟨w.heap.size+1+1,1,none⟩ (.slice (some ⟨gg,0,none⟩) (ct.length+1) cap)):=D6.setCell (by simp;omega) _;have hzS:w.heap.size+1+1+1<=(w3.setCell ⟨w.heap.size+1+1,1,none⟩ (.slice (some ⟨gg,0,none⟩) (ct.length+1) cap)).heap.size:=by simp;omega
   clear H5 hgrow hat far X0 hBp hB2 hR2 hO2 hb2 hB p03 p13 pf3 r03 r13 rf3;go_wp2;exact⟨⟨k+1,_,_,_,hlt,by simp,Q0,Q1,P0,P1,PF,R0,R1,RF,hBs,l7,hzS⟩,by simp[intOf];omega⟩
  ·obtain rfl:k=cs.length:=by omega
   rw[List.take_length]at hB;obtain⟨ay,cy,rfl⟩:=hB.shape;clear ha hC;go_wp2;refine bodyPost_ret (v:=.agg #[.int .i64 W,.slice ay cs.length cy]) (by simp[results,Tryz.results50,go_sem, *]) rfl ⟨⟨_,us,G,rfl,(hB.keep (by simp) fun b hb _=>?_).weak (by omega)⟩,?_⟩
   ·repeat rw[bS8 _ _ _ _ (by simp;omega)]
   ·exact bs8
theorem C3q (W Wb n:Int)(va vb:Value)(cs ds:List C2)(F F2:List Nat)(w:World)(ha:C6 w va cs F)(hb:C6 w vb ds F2)(hn:wtb cs<=1048576)(hn2:wtb ds<=1048576)(hA:Asc cs)(hz:∀c∈cs,c.n≠0)(hc:∀c∈cs,-1000000000000<=c.n/\c.n<=1000000000000) (hd:∀x∈ds,-1000000000000<=n*x.n/\n*x.n<=1000000000000) (P:List C2) (hP:Hid (N5 cs ds n=P)):Calls Tryz.prog 54 #[.agg #[.int .i64 W,va],.agg #[.int .i64 Wb,vb],.int .i64 n] w fun e w'=>(∃u us G,e=.returned (.agg #[.int .i64 W,u])/\C4 w' w.heap.size u P us G)/\Below w.heap.size w w':=by
 have ha':=ha;obtain⟨aa,ca,GA,rfl,_⟩:=ha';obtain⟨a,c,b,o,G0,rfl,hl,hcm,_,hG0,_,hC,hat⟩:=hb.pick;unfold maxLen at hcm;have hl1:cs.length<=1048576:=by unfold wtb at hn;omega
 have hl2:ds.length<=1048576:=by unfold wtb at hn2;omega
 go_enter Tryz.func54,Tryz.ntmps54;go_wp2_with fail;refine cM8 (B0N W _ cs F _ (ha.below ?hbb) hn) ?_
 case hbb=>exact bex
 rintro e w2 ⟨⟨u2,us2,G2,rfl,hB2⟩,hb2⟩;obtain⟨a2,c2,rfl⟩:=hB2.shape;have hz2:=hb2.size;simp at hz2;have A6Q:C4 w2 (w.heap.size+1+1+1) (.slice a2 cs.length c2) cs us2 G2:=by simpa using hB2
 have C0:Below w.heap.size w w2:=bex;have d0:w2.cell? ⟨w.heap.size+1,0,none⟩=some (.int .i64 Wb):=cl8 hb2;have d1:w2.cell? ⟨w.heap.size+1,1,none⟩=some (.slice a ds.length c):=cl8 hb2;have r0:w2.cell? ⟨w.heap.size+1+1,0,none⟩=some (.int .i64 0):=cl8 hb2;have r1:w2.cell? ⟨w.heap.size+1+1,1,none⟩=some (.slice none 0 0):=cl8 hb2;have rf:∀q,w2.frozen? ⟨w.heap.size+1+1,q,none⟩=false:=fun q=>((bc8 hb2).2 _ q (by simp)).trans (by go_simp);have A2p:=A6Q.lt;have A3r:=oL8 A6Q.own;obtain⟨X,hX⟩:∃X,X=w2.heap.size:=⟨_,rfl⟩;clear hB2 hb2 hb ha;go_wp2_with fail;go_loopw [8] (fun i wr=> ∃ (k:Nat) (y:Value) (us:List Value) (G:List (List Nat)),k<=ds.length/\i=.int .i64 k/\wr.cell? ⟨w2.heap.size,0,none⟩=some (.int .i64 W)/\wr.cell? ⟨w2.heap.size,1,none⟩=some y/\(∀q,wr.frozen? ⟨w2.heap.size,q,none⟩=false)/\wr.cell? ⟨w.heap.size+1,0,none⟩=some (.int .i64 Wb)/\wr.cell? ⟨w.heap.size+1,1,none⟩=some (.slice a ds.length c)/\wr.cell? ⟨w.heap.size+1+1,0,none⟩=some (.int .i64 0)/\wr.cell? ⟨w.heap.size+1+1,1,none⟩=some (.slice none 0 0)/\(∀q,wr.frozen? ⟨w.heap.size+1+1,q,none⟩=false)/\C4 wr (w.heap.size+1+1+1) y (N5 cs (ds.take k) n) us G/\y.ownBlock≠some w2.heap.size/\w2.heap.size∉G.flatten/\Below w.heap.size w wr/\w2.heap.size<wr.heap.size) (fun i _=>ds.length - (intOf i).toNat)
 case atStart=>
  refine⟨0,.slice a2 cs.length c2,us2,G2,Nat.zero_le _,rfl,by go_simp,by go_simp,fun q=>by go_simp,(by go_simp;exact(cb8 ba8).trans d0),(by go_simp;exact(cb8 ba8).trans d1),(by go_simp;exact(cb8 ba8).trans r0),(by go_simp;exact(cb8 ba8).trans r1),fun q=>(by go_simp;exact(fb8 ba8).trans (rf q)),?_,fun e=>by have:=(A3r _ e).2;omega,fun e=>by have:=A2p _ e;omega,bex,by simp⟩;rw[List.take_zero];exact A6Q.below bex
 case round=>
  obtain⟨k,y,us,G,hk,rfl,p0,p1,pf,d0,d1,r0,r1,rf,hB,hyX,hGX,hb,hzb⟩:=hrel;by_cases hlt:k<ds.length
  ·obtain⟨rfl,hblt,_⟩:=hat k hlt;obtain⟨x,u0,g0,hx,_,c0,hR,c1,hbr⟩:=hC.at hG0 hblt hb hlt;obtain⟨a0,n0,rfl⟩:=hR.shape;obtain⟨ay,cy,rfl⟩:=hB.shape;have hxd:=hd x (mg8 hx);have hxn:x.r.length<=1048576:=by have:=A0R (mg8 hx);unfold wt at this;unfold wtb at hn2;omega
   have hkI:(k:Int)<ds.length:=by omega
   have hwx:IntKind.i64.wrap (n*x.n)=n*x.n:=by rw[IntKind.wrap_i64];omega
   have C5E:wrap64 (n*x.n)=n*x.n:=by unfold wrap64;omega
   have HT:Hid (N5 cs (ds.take (k+1)) n=E5 (N5 cs (ds.take k) n) x.r (n*x.n)):=by show _=_;rw[V9 hx,A7z]
   obtain⟨hsl,hsb⟩:=A8M (n:=n) (m:=1000000000000) (ds:=ds.take k) (fun c h=>hc c h) (by omega) (by omega) (fun y hy=>hd y (List.mem_of_mem_take hy));obtain⟨hsA,hsz,_⟩:=A2k (n:=n) (ds:=ds.take k) hA hz;have htl:(ds.take k).length<=1048576:=by simp;omega
   have B2K:∀c∈N5 cs (ds.take k) n,-4000000000000000000<=c.n/\c.n<=4000000000000000000:=fun c h=>by have:=hsb c h;omega
   have C0J:(N5 cs (ds.take k) n).length<=2097152:=by omega
   clear hsb hsl hsz htl;generalize N5 cs (ds.take k) n=ct at*;obtain⟨m,hm⟩:∃m,m=n*x.n:=⟨_,rfl⟩;clear hat hC hx hd hc;go_wp2_with fail;refine Z4 16 (fun w'=>w'.cell? ⟨w2.heap.size,0,none⟩=some (.int .i64 W)/\w'.cell? ⟨w2.heap.size,1,none⟩=some (.slice ay ct.length cy)/\w'.cell? ⟨w.heap.size+1,1,none⟩=some (.slice (some ⟨b,o,none⟩) ds.length c)/\w'.cell? ⟨b,o+k*2,none⟩=some (.slice a0 x.r.length n0)/\w'.cell? ⟨b,o+k*2+1,none⟩=some (.int .i64 x.n)) (by kernel_rfl) ?_ (fun hHeld=>?_)
   ·exact⟨p0,p1,d1,c0,c1⟩
   refine tkE 0 18 rfl rfl ?_;refine tkE 1 19 rfl rfl ?_;refine tkE 2 20 rfl rfl ?_;refine tkE 3 21 rfl rfl ?_;refine tkE 4 22 rfl rfl ?_;refine tkE 5 23 rfl rfl ?_;refine tkE 6 24 rfl rfl ?_;refine tkE 7 25 rfl rfl ?_;refine tkE 8 26 rfl rfl ?_;refine tkE 9 27 rfl rfl ?_;refine tkE 10 28 rfl rfl ?_;refine tkE 11 29 rfl rfl ?_;refine tkE 12 30 rfl rfl ?_;refine tkE 13 31 rfl rfl ?_;refine tkE 14 32 rfl rfl ?_;refine onE 15 rfl fun K hK=>?_;go_simp;go_at_call 77;refine cM8 (A3X W (n*x.n) (.slice ay ct.length cy) (.slice a0 x.r.length n0) ct us G x.r g0 (w.heap.size+1+1+1) _ (hB.below bex) (hR.below bex) hsA (by simp;omega) C0J hxn (by omega) (by omega) B2K _ rfl) ?_;rintro e w5 ⟨v5,us5,G5,rfl,hB5,hv5,hG5,hb5,hgr5⟩;obtain⟨a5,c5,rfl⟩:=hB5.shape;have hz5:=hb5.size;simp at hz5;have kX:w5.heap[w2.heap.size]?=wr.heap[w2.heap.size]?:=hgr5.block _ (by simp;omega) (fun e=>hyX e.symm);have kB:∀q,q<w.heap.size+1+1+1->w5.heap[q]?=wr.heap[q]?:=fun q hq=>hb5.block q hq;have p05:=(cb8 kX).trans p0;have p15:=(cb8 kX).trans p1;have pf5:∀q,w5.frozen? ⟨w2.heap.size,q,none⟩=false:=fun q=>(fb8 kX).trans (pf q);have d05:=(cb8 (kB (w.heap.size+1) (by omega))).trans d0;have d15:=(cb8 (kB (w.heap.size+1) (by omega))).trans d1;have r05:=(cb8 (kB (w.heap.size+1+1) (by omega))).trans r0;have r15:=(cb8 (kB (w.heap.size+1+1) (by omega))).trans r1;have rf5:∀q,w5.frozen? ⟨w.heap.size+1+1,q,none⟩=false:=fun q=>(fb8 (kB (w.heap.size+1+1) (by omega))).trans (rf q);have c05:=(cb8 (kB b (by omega))).trans c0
   have c15:=(cb8 (kB b (by omega))).trans c1;have hvX:(Value.slice a5 (E5 ct x.r (n*x.n)).length c5).ownBlock≠some w2.heap.size:=fun e=>hyX (hv5 _ (by simp;omega) e);have A6I:w2.heap.size∉G5.flatten:=fun e=>hGX (hG5 _ (by simp;omega) e);have D7:Below w.heap.size w w5:=hb.trans ((show Below (w.heap.size+1+1+1) wr w5 from⟨hb5.os,hb5.tape,hb5.output,hb5.size,hb5.block⟩).mono (by omega))
   skip
   try go_wp2_with fail
   refine hK.out _ _ ?_ (fun A3T=>?_)
   ·intro _;exact⟨p05,p15,d15,c05,c15⟩
   clear hK;replace A3T:=A3T (by decide);refine onE 16 rfl fun K hK=>?_;go_simp;refine hK.out _ _ ?_ (fun i8=>?_)
   ·exact fun h=>absurd rfl h
   clear hK i8;refine V6 (by kernel_rfl) ?_ _;have hBs:C4 ((w5.setCell ⟨w2.heap.size,0,none⟩ (.int .i64 W)).setCell ⟨w2.heap.size,1,none⟩ (.slice a5 (E5 ct x.r (n*x.n)).length c5)) (w.heap.size+1+1+1) (.slice a5 (E5 ct x.r (n*x.n)).length c5) (N5 cs (ds.take (k+1)) n) us5 G5:=by
    rw[HT.out];exact hB5.keepO (by simp) (fun b hb=>(bS8 _ _ _ _ (by rintro rfl;exact hvX hb)).trans (bS8 _ _ _ _ (by rintro rfl;exact hvX hb))) (fun b hb=>(bS8 _ _ _ _ (by rintro rfl;exact A6I hb)).trans (bS8 _ _ _ _ (by rintro rfl;exact A6I hb)))
   have P0:((w5.setCell ⟨w2.heap.size,0,none⟩ (.int .i64 W)).setCell ⟨w2.heap.size,1,none⟩ (.slice a5 (E5 ct x.r (n*x.n)).length c5)).cell? ⟨w2.heap.size,0,none⟩=some (.int .i64 W):=(cO8 _ _ _ _ (by simp)).trans (cS8 _ _ _ p05);have P1:((w5.setCell ⟨w2.heap.size,0,none⟩ (.int .i64 W)).setCell ⟨w2.heap.size,1,none⟩ (.slice a5 (E5 ct x.r (n*x.n)).length c5)).cell? ⟨w2.heap.size,1,none⟩=some (.slice a5 (E5 ct x.r (n*x.n)).length c5):=cS8 _ _ _ ((cO8 _ _ _ _ (by simp)).trans p15);have PF:∀q,((w5.setCell ⟨w2.heap.size,0,none⟩ (.int .i64 W)).setCell ⟨w2.heap.size,1,none⟩ (.slice a5 (E5 ct x.r (n*x.n)).length c5)).frozen? ⟨w2.heap.size,q,none⟩=false:=fun q=>by simpa using pf5 q
   have keep:∀b q,b<w2.heap.size->((w5.setCell ⟨w2.heap.size,0,none⟩ (.int .i64 W)).setCell ⟨w2.heap.size,1,none⟩ (.slice a5 (E5 ct x.r (n*x.n)).length c5)).cell? ⟨b,q,none⟩=w5.cell? ⟨b,q,none⟩:=fun b q h=>(cO8 _ _ _ _ (by simp;try omega)).trans (cO8 _ _ _ _ (by simp;try omega));have D0:=(keep (w.heap.size+1) 0 (by omega)).trans d05;have D1:=(keep (w.heap.size+1) 1 (by omega)).trans d15;have R0:=(keep (w.heap.size+1+1) 0 (by omega)).trans r05;have R1:=(keep (w.heap.size+1+1) 1 (by omega)).trans r15;have RF:∀q,((w5.setCell ⟨w2.heap.size,0,none⟩ (.int .i64 W)).setCell ⟨w2.heap.size,1,none⟩ (.slice a5 (E5 ct x.r (n*x.n)).length c5)).frozen? ⟨w.heap.size+1+1,q,none⟩=false:=fun q=>by simpa using rf5 q
   have l7:Below w.heap.size w ((w5.setCell ⟨w2.heap.size,0,none⟩ (.int .i64 W)).setCell ⟨w2.heap.size,1,none⟩ (.slice a5 (E5 ct x.r (n*x.n)).length c5)):=(D7.setCell (by simp;try omega) _).setCell (by simp;try omega) _;have hzS:w2.heap.size<((w5.setCell ⟨w2.heap.size,0,none⟩ (.int .i64 W)).setCell ⟨w2.heap.size,1,none⟩ (.slice a5 (E5 ct x.r (n*x.n)).length c5)).heap.size:=by simp;omega
   clear hB hB5 hgr5 keep p05 p15 d05 d15 r05 r15 rf5 pf5 c05 c15 hsA B2K HT;go_wp2;exact⟨⟨k+1,_,_,_,hlt,by simp,P0,P1,PF,D0,D1,R0,R1,RF,hBs,hvX,A6I,l7,hzS⟩,by simp[intOf];omega⟩
  ·obtain rfl:k=ds.length:=by omega
   rw[List.take_length,hP.out]at hB;obtain⟨ay,cy,rfl⟩:=hB.shape;clear hat hC hP;go_wp2;refine bodyPost_ret (v:=.agg #[.int .i64 W,.slice ay P.length cy]) (by simp[results,Tryz.results54,go_sem, *]) rfl ⟨⟨_,us,G,rfl,(hB.keep (by simp) fun b hb _=>?_).weak (by omega)⟩,?_⟩
   ·repeat rw[bS8 _ _ _ _ (by simp;omega)]
   ·exact bs8
end
section
open Go.RowKit
theorem nb0 (m:Nat):((0:Int)<(m:Int))↔¬m=0:=by omega
theorem nbI (m:Nat)(k:Int):((m:Int)==k)=decide ((m:Int)=k):=rfl
theorem B6z (k:Int)(s:ByteArray)(e:E7)(n:Int)(a1 a2 a3:Option Addr)(le c1 ls c2 lk c3:Nat)(w:World)(bn:Bool)(kk:Int)(hls:ls<=maxLen)(hlk:lk<=maxLen)(hN:∀w2,Calls Tryz.prog 92 #[(.agg #[.int .i64 e.k,.int .i64 e.n,.int .i64 e.v.k,.int .i64 e.v.n,.string e.v.s,.string e.p,(.slice a1 le c1)])] w2 fun x w'=>x=.returned (.bool bn)/\Below w2.heap.size w2 w')(hK:∀w2,Calls Tryz.prog 93 #[.int .i64 (0)] w2 fun x w'=>x=.returned (.int .i64 kk)/\Below w2.heap.size w2 w'):Calls Tryz.prog 68 #[.agg #[.int .i64 (0),.string s,.int .i64 e.k,.int .i64 e.n,.int .i64 e.v.k,.int .i64 e.v.n,.string e.v.s,.string e.p,.slice a1 le c1,.slice a2 ls c2,.int .i64 n,.slice a3 lk c3]] w fun x w'=>x=.returned (.bool ((((0):Int)==0||s.toList==[]) && ((((0):Int)==1||((0):Int)==3||bn) && ((((0):Int)==2||((0):Int)==6||ls==0) && ((((0):Int)==6||n==0) && ((lk:Int)==kk))))))/\Below w.heap.size w w':=by
  unfold maxLen at hls hlk;go_enter Tryz.func68,Tryz.ntmps68;go_wp2_with(first|(go_at_call 92;refine cM8 (hN _) ?_;rintro y w1 ⟨rfl,hb1⟩;have hz1:=hb1.size;simp at hz1;have q0:w1.cell? ⟨w.heap.size,0,none⟩=some (.int .i64 (0)):=cl8 hb1;have q9:w1.cell? ⟨w.heap.size,9,none⟩=some (.slice a2 ls c2):=cl8 hb1;have q10:w1.cell? ⟨w.heap.size,10,none⟩=some (.int .i64 n):=cl8 hb1;have q11:w1.cell? ⟨w.heap.size,11,none⟩=some (.slice a3 lk c3):=cl8 hb1;have F8:Below w.heap.size w w1:=bex;clear hb1)|fail);all_goals(try(go_region_held3 (fun w'=>w'.cell? ⟨w.heap.size,0,none⟩=some (.int .i64 (0))/\w'.cell? ⟨w.heap.size,11,none⟩=some (.slice a3 lk c3)) (refine⟨?_,?_⟩<;>first|(go_simp;done)|assumption|(exact cL8 (by assumption) (by go_simp))) (first|(go_at_call 93;refine cM8 (hK _) ?_;rintro y w2 ⟨rfl,hb2⟩;have hz2:=hb2.size;(try simp at hz2)))))
  all_goals(try go_wp2_with fail)
  all_goals(go_returns;exact⟨rB8 (by clear hN hK;simp_all [nb0,nbI]),bex⟩)
theorem B5B (k:Int)(s:ByteArray)(e:E7)(n:Int)(a1 a2 a3:Option Addr)(le c1 ls c2 lk c3:Nat)(w:World)(bn:Bool)(kk:Int)(hls:ls<=maxLen)(hlk:lk<=maxLen)(hN:∀w2,Calls Tryz.prog 92 #[(.agg #[.int .i64 e.k,.int .i64 e.n,.int .i64 e.v.k,.int .i64 e.v.n,.string e.v.s,.string e.p,(.slice a1 le c1)])] w2 fun x w'=>x=.returned (.bool bn)/\Below w2.heap.size w2 w')(hK:∀w2,Calls Tryz.prog 93 #[.int .i64 (1)] w2 fun x w'=>x=.returned (.int .i64 kk)/\Below w2.heap.size w2 w'):Calls Tryz.prog 68 #[.agg #[.int .i64 (1),.string s,.int .i64 e.k,.int .i64 e.n,.int .i64 e.v.k,.int .i64 e.v.n,.string e.v.s,.string e.p,.slice a1 le c1,.slice a2 ls c2,.int .i64 n,.slice a3 lk c3]] w fun x w'=>x=.returned (.bool ((((1):Int)==0||s.toList==[]) && ((((1):Int)==1||((1):Int)==3||bn) && ((((1):Int)==2||((1):Int)==6||ls==0) && ((((1):Int)==6||n==0) && ((lk:Int)==kk))))))/\Below w.heap.size w w':=by
  unfold maxLen at hls hlk;go_enter Tryz.func68,Tryz.ntmps68;go_wp2_with(first|(go_at_call 92;refine cM8 (hN _) ?_;rintro y w1 ⟨rfl,hb1⟩;have hz1:=hb1.size;simp at hz1;have q0:w1.cell? ⟨w.heap.size,0,none⟩=some (.int .i64 (1)):=cl8 hb1;have q9:w1.cell? ⟨w.heap.size,9,none⟩=some (.slice a2 ls c2):=cl8 hb1;have q10:w1.cell? ⟨w.heap.size,10,none⟩=some (.int .i64 n):=cl8 hb1;have q11:w1.cell? ⟨w.heap.size,11,none⟩=some (.slice a3 lk c3):=cl8 hb1;have F8:Below w.heap.size w w1:=bex;clear hb1)|fail);all_goals(try(go_region_held3 (fun w'=>w'.cell? ⟨w.heap.size,0,none⟩=some (.int .i64 (1))/\w'.cell? ⟨w.heap.size,11,none⟩=some (.slice a3 lk c3)) (refine⟨?_,?_⟩<;>first|(go_simp;done)|assumption|(exact cL8 (by assumption) (by go_simp))) (first|(go_at_call 93;refine cM8 (hK _) ?_;rintro y w2 ⟨rfl,hb2⟩;have hz2:=hb2.size;(try simp at hz2)))))
  all_goals(try go_wp2_with fail)
  all_goals(go_returns;exact⟨rB8 (by clear hN hK;simp_all [nb0,nbI]),bex⟩)
theorem C0b (k:Int)(s:ByteArray)(e:E7)(n:Int)(a1 a2 a3:Option Addr)(le c1 ls c2 lk c3:Nat)(w:World)(bn:Bool)(kk:Int)(hls:ls<=maxLen)(hlk:lk<=maxLen)(hN:∀w2,Calls Tryz.prog 92 #[(.agg #[.int .i64 e.k,.int .i64 e.n,.int .i64 e.v.k,.int .i64 e.v.n,.string e.v.s,.string e.p,(.slice a1 le c1)])] w2 fun x w'=>x=.returned (.bool bn)/\Below w2.heap.size w2 w')(hK:∀w2,Calls Tryz.prog 93 #[.int .i64 (2)] w2 fun x w'=>x=.returned (.int .i64 kk)/\Below w2.heap.size w2 w'):Calls Tryz.prog 68 #[.agg #[.int .i64 (2),.string s,.int .i64 e.k,.int .i64 e.n,.int .i64 e.v.k,.int .i64 e.v.n,.string e.v.s,.string e.p,.slice a1 le c1,.slice a2 ls c2,.int .i64 n,.slice a3 lk c3]] w fun x w'=>x=.returned (.bool ((((2):Int)==0||s.toList==[]) && ((((2):Int)==1||((2):Int)==3||bn) && ((((2):Int)==2||((2):Int)==6||ls==0) && ((((2):Int)==6||n==0) && ((lk:Int)==kk))))))/\Below w.heap.size w w':=by
  unfold maxLen at hls hlk;go_enter Tryz.func68,Tryz.ntmps68;go_wp2_with(first|(go_at_call 92;refine cM8 (hN _) ?_;rintro y w1 ⟨rfl,hb1⟩;have hz1:=hb1.size;simp at hz1;have q0:w1.cell? ⟨w.heap.size,0,none⟩=some (.int .i64 (2)):=cl8 hb1;have q9:w1.cell? ⟨w.heap.size,9,none⟩=some (.slice a2 ls c2):=cl8 hb1;have q10:w1.cell? ⟨w.heap.size,10,none⟩=some (.int .i64 n):=cl8 hb1;have q11:w1.cell? ⟨w.heap.size,11,none⟩=some (.slice a3 lk c3):=cl8 hb1;have F8:Below w.heap.size w w1:=bex;clear hb1)|fail);all_goals(try(go_region_held3 (fun w'=>w'.cell? ⟨w.heap.size,0,none⟩=some (.int .i64 (2))/\w'.cell? ⟨w.heap.size,11,none⟩=some (.slice a3 lk c3)) (refine⟨?_,?_⟩<;>first|(go_simp;done)|assumption|(exact cL8 (by assumption) (by go_simp))) (first|(go_at_call 93;refine cM8 (hK _) ?_;rintro y w2 ⟨rfl,hb2⟩;have hz2:=hb2.size;(try simp at hz2)))))
  all_goals(try go_wp2_with fail)
  all_goals(go_returns;exact⟨rB8 (by clear hN hK;simp_all [nb0,nbI]),bex⟩)
theorem C3b (k:Int)(s:ByteArray)(e:E7)(n:Int)(a1 a2 a3:Option Addr)(le c1 ls c2 lk c3:Nat)(w:World)(bn:Bool)(kk:Int)(hls:ls<=maxLen)(hlk:lk<=maxLen)(hN:∀w2,Calls Tryz.prog 92 #[(.agg #[.int .i64 e.k,.int .i64 e.n,.int .i64 e.v.k,.int .i64 e.v.n,.string e.v.s,.string e.p,(.slice a1 le c1)])] w2 fun x w'=>x=.returned (.bool bn)/\Below w2.heap.size w2 w')(hK:∀w2,Calls Tryz.prog 93 #[.int .i64 (3)] w2 fun x w'=>x=.returned (.int .i64 kk)/\Below w2.heap.size w2 w'):Calls Tryz.prog 68 #[.agg #[.int .i64 (3),.string s,.int .i64 e.k,.int .i64 e.n,.int .i64 e.v.k,.int .i64 e.v.n,.string e.v.s,.string e.p,.slice a1 le c1,.slice a2 ls c2,.int .i64 n,.slice a3 lk c3]] w fun x w'=>x=.returned (.bool ((((3):Int)==0||s.toList==[]) && ((((3):Int)==1||((3):Int)==3||bn) && ((((3):Int)==2||((3):Int)==6||ls==0) && ((((3):Int)==6||n==0) && ((lk:Int)==kk))))))/\Below w.heap.size w w':=by
  unfold maxLen at hls hlk;go_enter Tryz.func68,Tryz.ntmps68;go_wp2_with(first|(go_at_call 92;refine cM8 (hN _) ?_;rintro y w1 ⟨rfl,hb1⟩;have hz1:=hb1.size;simp at hz1;have q0:w1.cell? ⟨w.heap.size,0,none⟩=some (.int .i64 (3)):=cl8 hb1;have q9:w1.cell? ⟨w.heap.size,9,none⟩=some (.slice a2 ls c2):=cl8 hb1;have q10:w1.cell? ⟨w.heap.size,10,none⟩=some (.int .i64 n):=cl8 hb1;have q11:w1.cell? ⟨w.heap.size,11,none⟩=some (.slice a3 lk c3):=cl8 hb1;have F8:Below w.heap.size w w1:=bex;clear hb1)|fail);all_goals(try(go_region_held3 (fun w'=>w'.cell? ⟨w.heap.size,0,none⟩=some (.int .i64 (3))/\w'.cell? ⟨w.heap.size,11,none⟩=some (.slice a3 lk c3)) (refine⟨?_,?_⟩<;>first|(go_simp;done)|assumption|(exact cL8 (by assumption) (by go_simp))) (first|(go_at_call 93;refine cM8 (hK _) ?_;rintro y w2 ⟨rfl,hb2⟩;have hz2:=hb2.size;(try simp at hz2)))))
  all_goals(try go_wp2_with fail)
  all_goals(go_returns;exact⟨rB8 (by clear hN hK;simp_all [nb0,nbI]),bex⟩)
theorem C0V (k:Int)(s:ByteArray)(e:E7)(n:Int)(a1 a2 a3:Option Addr)(le c1 ls c2 lk c3:Nat)(w:World)(bn:Bool)(kk:Int)(hls:ls<=maxLen)(hlk:lk<=maxLen)(hN:∀w2,Calls Tryz.prog 92 #[(.agg #[.int .i64 e.k,.int .i64 e.n,.int .i64 e.v.k,.int .i64 e.v.n,.string e.v.s,.string e.p,(.slice a1 le c1)])] w2 fun x w'=>x=.returned (.bool bn)/\Below w2.heap.size w2 w')(hK:∀w2,Calls Tryz.prog 93 #[.int .i64 (4)] w2 fun x w'=>x=.returned (.int .i64 kk)/\Below w2.heap.size w2 w'):Calls Tryz.prog 68 #[.agg #[.int .i64 (4),.string s,.int .i64 e.k,.int .i64 e.n,.int .i64 e.v.k,.int .i64 e.v.n,.string e.v.s,.string e.p,.slice a1 le c1,.slice a2 ls c2,.int .i64 n,.slice a3 lk c3]] w fun x w'=>x=.returned (.bool ((((4):Int)==0||s.toList==[]) && ((((4):Int)==1||((4):Int)==3||bn) && ((((4):Int)==2||((4):Int)==6||ls==0) && ((((4):Int)==6||n==0) && ((lk:Int)==kk))))))/\Below w.heap.size w w':=by
  unfold maxLen at hls hlk;go_enter Tryz.func68,Tryz.ntmps68;go_wp2_with(first|(go_at_call 92;refine cM8 (hN _) ?_;rintro y w1 ⟨rfl,hb1⟩;have hz1:=hb1.size;simp at hz1;have q0:w1.cell? ⟨w.heap.size,0,none⟩=some (.int .i64 (4)):=cl8 hb1;have q9:w1.cell? ⟨w.heap.size,9,none⟩=some (.slice a2 ls c2):=cl8 hb1;have q10:w1.cell? ⟨w.heap.size,10,none⟩=some (.int .i64 n):=cl8 hb1;have q11:w1.cell? ⟨w.heap.size,11,none⟩=some (.slice a3 lk c3):=cl8 hb1;have F8:Below w.heap.size w w1:=bex;clear hb1)|fail);all_goals(try(go_region_held3 (fun w'=>w'.cell? ⟨w.heap.size,0,none⟩=some (.int .i64 (4))/\w'.cell? ⟨w.heap.size,11,none⟩=some (.slice a3 lk c3)) (refine⟨?_,?_⟩<;>first|(go_simp;done)|assumption|(exact cL8 (by assumption) (by go_simp))) (first|(go_at_call 93;refine cM8 (hK _) ?_;rintro y w2 ⟨rfl,hb2⟩;have hz2:=hb2.size;(try simp at hz2)))))
  all_goals(try go_wp2_with fail)
  all_goals(go_returns;exact⟨rB8 (by clear hN hK;simp_all [nb0,nbI]),bex⟩)
theorem B8W (k:Int)(s:ByteArray)(e:E7)(n:Int)(a1 a2 a3:Option Addr)(le c1 ls c2 lk c3:Nat)(w:World)(bn:Bool)(kk:Int)(hls:ls<=maxLen)(hlk:lk<=maxLen)(hN:∀w2,Calls Tryz.prog 92 #[(.agg #[.int .i64 e.k,.int .i64 e.n,.int .i64 e.v.k,.int .i64 e.v.n,.string e.v.s,.string e.p,(.slice a1 le c1)])] w2 fun x w'=>x=.returned (.bool bn)/\Below w2.heap.size w2 w')(hK:∀w2,Calls Tryz.prog 93 #[.int .i64 (5)] w2 fun x w'=>x=.returned (.int .i64 kk)/\Below w2.heap.size w2 w'):Calls Tryz.prog 68 #[.agg #[.int .i64 (5),.string s,.int .i64 e.k,.int .i64 e.n,.int .i64 e.v.k,.int .i64 e.v.n,.string e.v.s,.string e.p,.slice a1 le c1,.slice a2 ls c2,.int .i64 n,.slice a3 lk c3]] w fun x w'=>x=.returned (.bool ((((5):Int)==0||s.toList==[]) && ((((5):Int)==1||((5):Int)==3||bn) && ((((5):Int)==2||((5):Int)==6||ls==0) && ((((5):Int)==6||n==0) && ((lk:Int)==kk))))))/\Below w.heap.size w w':=by
  unfold maxLen at hls hlk;go_enter Tryz.func68,Tryz.ntmps68;go_wp2_with(first|(go_at_call 92;refine cM8 (hN _) ?_;rintro y w1 ⟨rfl,hb1⟩;have hz1:=hb1.size;simp at hz1;have q0:w1.cell? ⟨w.heap.size,0,none⟩=some (.int .i64 (5)):=cl8 hb1;have q9:w1.cell? ⟨w.heap.size,9,none⟩=some (.slice a2 ls c2):=cl8 hb1;have q10:w1.cell? ⟨w.heap.size,10,none⟩=some (.int .i64 n):=cl8 hb1;have q11:w1.cell? ⟨w.heap.size,11,none⟩=some (.slice a3 lk c3):=cl8 hb1;have F8:Below w.heap.size w w1:=bex;clear hb1)|fail);all_goals(try(go_region_held3 (fun w'=>w'.cell? ⟨w.heap.size,0,none⟩=some (.int .i64 (5))/\w'.cell? ⟨w.heap.size,11,none⟩=some (.slice a3 lk c3)) (refine⟨?_,?_⟩<;>first|(go_simp;done)|assumption|(exact cL8 (by assumption) (by go_simp))) (first|(go_at_call 93;refine cM8 (hK _) ?_;rintro y w2 ⟨rfl,hb2⟩;have hz2:=hb2.size;(try simp at hz2)))))
  all_goals(try go_wp2_with fail)
  all_goals(go_returns;exact⟨rB8 (by clear hN hK;simp_all [nb0,nbI]),bex⟩)
theorem C0r (k:Int)(s:ByteArray)(e:E7)(n:Int)(a1 a2 a3:Option Addr)(le c1 ls c2 lk c3:Nat)(w:World)(bn:Bool)(kk:Int)(hls:ls<=maxLen)(hlk:lk<=maxLen)(hN:∀w2,Calls Tryz.prog 92 #[(.agg #[.int .i64 e.k,.int .i64 e.n,.int .i64 e.v.k,.int .i64 e.v.n,.string e.v.s,.string e.p,(.slice a1 le c1)])] w2 fun x w'=>x=.returned (.bool bn)/\Below w2.heap.size w2 w')(hK:∀w2,Calls Tryz.prog 93 #[.int .i64 (6)] w2 fun x w'=>x=.returned (.int .i64 kk)/\Below w2.heap.size w2 w'):Calls Tryz.prog 68 #[.agg #[.int .i64 (6),.string s,.int .i64 e.k,.int .i64 e.n,.int .i64 e.v.k,.int .i64 e.v.n,.string e.v.s,.string e.p,.slice a1 le c1,.slice a2 ls c2,.int .i64 n,.slice a3 lk c3]] w fun x w'=>x=.returned (.bool ((((6):Int)==0||s.toList==[]) && ((((6):Int)==1||((6):Int)==3||bn) && ((((6):Int)==2||((6):Int)==6||ls==0) && ((((6):Int)==6||n==0) && ((lk:Int)==kk))))))/\Below w.heap.size w w':=by
  unfold maxLen at hls hlk;go_enter Tryz.func68,Tryz.ntmps68;go_wp2_with(first|(go_at_call 92;refine cM8 (hN _) ?_;rintro y w1 ⟨rfl,hb1⟩;have hz1:=hb1.size;simp at hz1;have q0:w1.cell? ⟨w.heap.size,0,none⟩=some (.int .i64 (6)):=cl8 hb1;have q9:w1.cell? ⟨w.heap.size,9,none⟩=some (.slice a2 ls c2):=cl8 hb1;have q10:w1.cell? ⟨w.heap.size,10,none⟩=some (.int .i64 n):=cl8 hb1;have q11:w1.cell? ⟨w.heap.size,11,none⟩=some (.slice a3 lk c3):=cl8 hb1;have F8:Below w.heap.size w w1:=bex;clear hb1)|fail);all_goals(try(go_region_held3 (fun w'=>w'.cell? ⟨w.heap.size,0,none⟩=some (.int .i64 (6))/\w'.cell? ⟨w.heap.size,11,none⟩=some (.slice a3 lk c3)) (refine⟨?_,?_⟩<;>first|(go_simp;done)|assumption|(exact cL8 (by assumption) (by go_simp))) (first|(go_at_call 93;refine cM8 (hK _) ?_;rintro y w2 ⟨rfl,hb2⟩;have hz2:=hb2.size;(try simp at hz2)))))
  all_goals(try go_wp2_with fail)
  all_goals(go_returns;exact⟨rB8 (by clear hN hK;simp_all [nb0,nbI]),bex⟩)
theorem B95 (k:Int)(s:ByteArray)(e:E7)(n:Int)(a1 a2 a3:Option Addr)(le c1 ls c2 lk c3:Nat)(w:World)(bn:Bool)(kk:Int)(hls:ls<=maxLen)(hlk:lk<=maxLen)(h0:(k==0)=false)(h1:(k==1)=false)(h2:(k==2)=false)(h3:(k==3)=false)(h6:(k==6)=false)(g0:(k !=0)=true)(g1:(k !=1)=true)(g2:(k !=2)=true)(g3:(k !=3)=true)(g6:(k !=6)=true)(hN:∀w2,Calls Tryz.prog 92 #[(.agg #[.int .i64 e.k,.int .i64 e.n,.int .i64 e.v.k,.int .i64 e.v.n,.string e.v.s,.string e.p,(.slice a1 le c1)])] w2 fun x w'=>x=.returned (.bool bn)/\Below w2.heap.size w2 w')(hK:∀w2,Calls Tryz.prog 93 #[.int .i64 k] w2 fun x w'=>x=.returned (.int .i64 kk)/\Below w2.heap.size w2 w'):Calls Tryz.prog 68 #[.agg #[.int .i64 k,.string s,.int .i64 e.k,.int .i64 e.n,.int .i64 e.v.k,.int .i64 e.v.n,.string e.v.s,.string e.p,.slice a1 le c1,.slice a2 ls c2,.int .i64 n,.slice a3 lk c3]] w fun x w'=>x=.returned (.bool (((k:Int)==0||s.toList==[]) && (((k:Int)==1||(k:Int)==3||bn) && (((k:Int)==2||(k:Int)==6||ls==0) && (((k:Int)==6||n==0) && ((lk:Int)==kk))))))/\Below w.heap.size w w':=by
  unfold maxLen at hls hlk;go_enter Tryz.func68,Tryz.ntmps68;go_wp2_with(first|(go_at_call 92;refine cM8 (hN _) ?_;rintro y w1 ⟨rfl,hb1⟩;have hz1:=hb1.size;simp at hz1;have q0:w1.cell? ⟨w.heap.size,0,none⟩=some (.int .i64 k):=cl8 hb1;have q9:w1.cell? ⟨w.heap.size,9,none⟩=some (.slice a2 ls c2):=cl8 hb1;have q10:w1.cell? ⟨w.heap.size,10,none⟩=some (.int .i64 n):=cl8 hb1;have q11:w1.cell? ⟨w.heap.size,11,none⟩=some (.slice a3 lk c3):=cl8 hb1;have F8:Below w.heap.size w w1:=bex;clear hb1)|fail);all_goals(try(go_region_held3 (fun w'=>w'.cell? ⟨w.heap.size,0,none⟩=some (.int .i64 k)/\w'.cell? ⟨w.heap.size,11,none⟩=some (.slice a3 lk c3)) (refine⟨?_,?_⟩<;>first|(go_simp;done)|assumption|(exact cL8 (by assumption) (by go_simp))) (first|(go_at_call 93;refine cM8 (hK _) ?_;rintro y w2 ⟨rfl,hb2⟩;have hz2:=hb2.size;(try simp at hz2)))))
  all_goals(try go_wp2_with fail)
  all_goals(go_returns;exact⟨rB8 (by clear hN hK;simp_all [nb0,nbI]),bex⟩)
theorem B56 (p:P12)(a1 a2 a3:Option Addr)(c1 c2 c3:Nat)(w:World)(hs:p.e.v.s.size<=maxLen)(he:p.e.ks.length<=maxLen)(hes:p.es.length<=maxLen)(hks:p.ks.length<=maxLen):Calls Tryz.prog 68 #[(.agg #[.int .i64 p.k,.string p.s,.int .i64 p.e.k,.int .i64 p.e.n,.int .i64 p.e.v.k,.int .i64 p.e.v.n,.string p.e.v.s,.string p.e.p,(.slice a1 p.e.ks.length c1),(.slice a2 p.es.length c2),.int .i64 p.n,(.slice a3 p.ks.length c3)])] w fun x w'=>x=.returned (.bool (X1 p))/\Below w.heap.size w w':=by
 have hN:=fun w2=>C2T p.e a1 c1 w2 hs he;have hK:=fun w2=>B8g p.k w2;unfold X1;generalize S8 p.e=bn at*;generalize O7 p.k=kk at*;generalize p.k=k at*;by_cases h0:k=0
 ·subst h0;exact B6z 0 _ _ _ _ _ _ _ _ _ _ _ _ w bn kk hes hks hN hK
 by_cases h1:k=1
 ·subst h1;exact B5B 0 _ _ _ _ _ _ _ _ _ _ _ _ w bn kk hes hks hN hK
 by_cases h2:k=2
 ·subst h2;exact C0b 0 _ _ _ _ _ _ _ _ _ _ _ _ w bn kk hes hks hN hK
 by_cases h3:k=3
 ·subst h3;exact C3b 0 _ _ _ _ _ _ _ _ _ _ _ _ w bn kk hes hks hN hK
 by_cases h4:k=4
 ·subst h4;exact C0V 0 _ _ _ _ _ _ _ _ _ _ _ _ w bn kk hes hks hN hK
 by_cases h5:k=5
 ·subst h5;exact B8W 0 _ _ _ _ _ _ _ _ _ _ _ _ w bn kk hes hks hN hK
 by_cases h6:k=6
 ·subst h6;exact C0r 0 _ _ _ _ _ _ _ _ _ _ _ _ w bn kk hes hks hN hK
 exact B95 k _ _ _ _ _ _ _ _ _ _ _ _ w bn kk hes hks (by simpa using h0) (by simpa using h1) (by simpa using h2) (by simpa using h3) (by simpa using h6) (by simpa using h0) (by simpa using h1) (by simpa using h2) (by simpa using h3) (by simpa using h6) hN hK
theorem B4q (v:Value)(rs:List R3)(w:World)(hw:W7 rs)(hr:W6 w v rs):Calls Tryz.prog 22 #[v] w fun e w'=>e=.returned (.bool (G9 rs))/\Below w.heap.size w w':=by
 obtain⟨a,c,b,o,rfl,hl,hc,ha⟩:=hr.pick;unfold maxLen at hc;clear hr;go_enter Tryz.func22,Tryz.ntmps22;go_wp2;go_loopw [3] (fun i wr=> ∃ (k:Nat) (q:Int),k<=rs.length/\q=k/\i=.int .i64 q/\Below w.heap.size w wr/\T7 none rs=T7 (Q4 rs k) (rs.drop k)) (fun i _=>rs.length - (intOf i).toNat)
 case atStart=>exact⟨0,0,Nat.zero_le _,rfl,rfl,by go_grown,by simp[Q4]⟩
 case round=>
  obtain⟨k,q,hk,hq,rfl,hb,heq⟩:=hrel;have HE:Hid (T7 none rs=T7 (Q4 rs k) (rs.drop k)):=heq;have hzb:=hb.size;clear heq;by_cases hlt:k<rs.length
  ·obtain⟨rfl,hblt,hL⟩:=ha k hlt;obtain⟨x,u,hx,c0,c1,c2,hR,hbr⟩:=hL.at hblt hb hlt;obtain⟨ur,lr,cr,rfl⟩:=hR.shape;obtain⟨hxs,_,hxw⟩:=hw x (mg8 hx);have HS:Hid (T7 (Q4 rs k) (rs.drop k)=(O0 x.s &&S5 x.W x.cs &&A1a (Q4 rs k) x &&T7 (Q4 rs (k+1)) (rs.drop (k+1)))):=A8f hx;by_cases hnm:O0 x.s=true;rotate_left
   ·have hf:O0 x.s=false:=by simpa using hnm
    clear ha hw hL hx;subst hq;go_wp2_with fail;refine wp_region_held_drew (S:=(fun w'=>w'.cell? ⟨b,o+k*3,none⟩=some (.string x.s)/\w'.cell? ⟨b,o+k*3+1,none⟩=some (.int .i64 x.W)/\w'.cell? ⟨b,o+k*3+2,none⟩=some (.slice ur lr cr))) (by kernel_rfl) ?_ (fun hHeld=>?_)
    ·refine⟨?_,?_,?_⟩<;>first|(go_simp;done)|(exact cL8 (by assumption) (by go_simp))
    refine tlY 0 10 rfl rfl ?_;refine tlY 1 11 rfl rfl ?_;refine tlY 2 12 rfl rfl ?_;refine tlY 3 13 rfl rfl ?_;refine tlY 4 14 rfl rfl ?_;refine rdH 5 rfl fun K hK=>?_;go_simp;go_at_call 46;refine(A5Q x.s _ hxs).mono ?_;rintro e w1 ⟨rfl,rfl⟩;try go_wp2_with fail
    refine hK.out _ _ ?_ (fun N2=>?_)
    ·refine⟨?_,?_,?_⟩<;>first|(go_simp;done)|(exact cL8 (by assumption) (by go_simp))
    clear hK;refine tlY 6 16 rfl rfl ?_;refine tlY 7 17 rfl rfl ?_;refine tlN 8 18 rfl rfl ?_;refine tlN 9 19 rfl rfl ?_;refine tlN 10 20 rfl rfl ?_;refine tlN 11 21 rfl rfl ?_;refine tlN 12 22 rfl rfl ?_;refine rdH 13 rfl fun K hK=>?_;go_simp;refine hK.out _ _ ?_ (fun Y2=>?_)
    ·refine⟨?_,?_,?_⟩<;>first|(go_simp;done)|(exact cL8 (by assumption) (by go_simp))
    clear hK;refine tlN 14 24 rfl rfl ?_;refine tlY 15 25 rfl rfl ?_;refine tlY 16 26 rfl rfl ?_;refine tlN 17 27 rfl rfl ?_;refine tlN 18 28 rfl rfl ?_;refine tlN 19 29 rfl rfl ?_;refine tlN 20 30 rfl rfl ?_;refine tlN 21 31 rfl rfl ?_;refine tlN 22 32 rfl rfl ?_;refine tlN 23 33 rfl rfl ?_;refine tlN 24 34 rfl rfl ?_;refine tlN 25 35 rfl rfl ?_;refine tlN 26 36 rfl rfl ?_;refine tlN 27 37 rfl rfl ?_;refine tlN 28 38 rfl rfl ?_;refine tlN 29 39 rfl rfl ?_;refine tlN 30 40 rfl rfl ?_;refine tlN 31 41 rfl rfl ?_;refine tlN 32 42 rfl rfl ?_;refine tlY 33 43 rfl rfl ?_;refine wpAnyH_done (by kernel_rfl) ?_ _;go_wp2;go_returns;refine⟨rB8 ?_,C3⟩;unfold G9;rw[HE.out,HS.out,hf];simp
   by_cases hpl:S5 x.W x.cs=true;rotate_left
   ·have hf:S5 x.W x.cs=false:=by simpa using hpl
    clear ha hw hL hx;subst hq;go_wp2_with fail;refine wp_region_held_drew (S:=(fun w'=>w'.cell? ⟨b,o+k*3,none⟩=some (.string x.s)/\w'.cell? ⟨b,o+k*3+1,none⟩=some (.int .i64 x.W)/\w'.cell? ⟨b,o+k*3+2,none⟩=some (.slice ur lr cr))) (by kernel_rfl) ?_ (fun hHeld=>?_)
    ·refine⟨?_,?_,?_⟩<;>first|(go_simp;done)|(exact cL8 (by assumption) (by go_simp))
    refine tlY 0 10 rfl rfl ?_;refine tlY 1 11 rfl rfl ?_;refine tlY 2 12 rfl rfl ?_;refine tlY 3 13 rfl rfl ?_;refine tlY 4 14 rfl rfl ?_;refine rdH 5 rfl fun K hK=>?_;go_simp;go_at_call 46;refine(A5Q x.s _ hxs).mono ?_;rintro e w1 ⟨rfl,rfl⟩;try go_wp2_with fail
    refine hK.out _ _ ?_ (fun N2=>?_)
    ·refine⟨?_,?_,?_⟩<;>first|(go_simp;done)|(exact cL8 (by assumption) (by go_simp))
    clear hK;refine tlY 6 16 rfl rfl ?_;refine tlY 7 17 rfl rfl ?_;refine tlY 8 18 rfl rfl ?_;refine tlY 9 19 rfl rfl ?_;refine tlY 10 20 rfl rfl ?_;refine tlY 11 21 rfl rfl ?_;refine tlY 12 22 rfl rfl ?_;refine rdH 13 rfl fun K hK=>?_;go_simp;go_at_call 47;refine cM8 (A5l x.W (.slice ur lr cr) x.cs _ hxw (hR.below C3)) ?_;rintro e w2 ⟨rfl,hb2⟩;have hz2:=hb2.size;(try simp at hz2);try go_wp2_with fail
    refine hK.out _ _ ?_ (fun Y2=>?_)
    ·refine⟨?_,?_,?_⟩<;>first|(go_simp;done)|(exact cL8 (by assumption) (by go_simp))
    clear hK;refine tlY 14 24 rfl rfl ?_;refine tlY 15 25 rfl rfl ?_;refine tlY 16 26 rfl rfl ?_;refine tlN 17 27 rfl rfl ?_;refine tlN 18 28 rfl rfl ?_;refine tlN 19 29 rfl rfl ?_;refine tlN 20 30 rfl rfl ?_;refine tlN 21 31 rfl rfl ?_;refine tlN 22 32 rfl rfl ?_;refine tlN 23 33 rfl rfl ?_;refine tlN 24 34 rfl rfl ?_;refine tlN 25 35 rfl rfl ?_;refine tlN 26 36 rfl rfl ?_;refine tlN 27 37 rfl rfl ?_;refine tlN 28 38 rfl rfl ?_;refine tlN 29 39 rfl rfl ?_;refine tlN 30 40 rfl rfl ?_;refine tlN 31 41 rfl rfl ?_;refine tlN 32 42 rfl rfl ?_;refine tlY 33 43 rfl rfl ?_;refine wpAnyH_done (by kernel_rfl) ?_ _;go_wp2;go_returns;refine⟨rB8 ?_,C3⟩;unfold G9;rw[HE.out,HS.out,hf];simp
   rcases Nat.eq_zero_or_pos k with hk0|hk0
   ·subst hk0;obtain rfl:q=0:=by simpa using hq
    rw[Nat.zero_mul,Nat.add_zero]at c0 c1 c2;clear ha hw hL hx hq;go_wp2_with fail;refine wp_region_held_drew (S:=(fun w'=>w'.cell? ⟨b,o,none⟩=some (.string x.s)/\w'.cell? ⟨b,o+1,none⟩=some (.int .i64 x.W)/\w'.cell? ⟨b,o+2,none⟩=some (.slice ur lr cr))) (by kernel_rfl) ?_ (fun hHeld=>?_)
    ·refine⟨?_,?_,?_⟩<;>first|(go_simp;done)|(exact cL8 (by assumption) (by go_simp))
    refine tlY 0 10 rfl rfl ?_;refine tlY 1 11 rfl rfl ?_;refine tlY 2 12 rfl rfl ?_;refine tlY 3 13 rfl rfl ?_;refine tlY 4 14 rfl rfl ?_;refine rdH 5 rfl fun K hK=>?_;go_simp;go_at_call 46;refine(A5Q x.s _ hxs).mono ?_;rintro e w1 ⟨rfl,rfl⟩;try go_wp2_with fail
    refine hK.out _ _ ?_ (fun N2=>?_)
    ·refine⟨?_,?_,?_⟩<;>first|(go_simp;done)|(exact cL8 (by assumption) (by go_simp))
    clear hK;refine tlY 6 16 rfl rfl ?_;refine tlY 7 17 rfl rfl ?_;refine tlY 8 18 rfl rfl ?_;refine tlY 9 19 rfl rfl ?_;refine tlY 10 20 rfl rfl ?_;refine tlY 11 21 rfl rfl ?_;refine tlY 12 22 rfl rfl ?_;refine rdH 13 rfl fun K hK=>?_;go_simp;go_at_call 47;refine cM8 (A5l x.W (.slice ur lr cr) x.cs _ hxw (hR.below C3)) ?_;rintro e w2 ⟨rfl,hb2⟩;have hz2:=hb2.size;(try simp at hz2);try go_wp2_with fail
    refine hK.out _ _ ?_ (fun Y2=>?_)
    ·refine⟨?_,?_,?_⟩<;>first|(go_simp;done)|(exact cL8 (by assumption) (by go_simp))
    clear hK;refine tlY 14 24 rfl rfl ?_;refine tlY 15 25 rfl rfl ?_;refine tlY 16 26 rfl rfl ?_;refine tlY 17 27 rfl rfl ?_;refine tlY 18 28 rfl rfl ?_;refine tlY 19 29 rfl rfl ?_;refine tlN 20 30 rfl rfl ?_;refine tlN 21 31 rfl rfl ?_;refine tlN 22 32 rfl rfl ?_;refine tlN 23 33 rfl rfl ?_;refine tlN 24 34 rfl rfl ?_;refine tlN 25 35 rfl rfl ?_;refine tlN 26 36 rfl rfl ?_;refine tlN 27 37 rfl rfl ?_;refine tlN 28 38 rfl rfl ?_;refine tlN 29 39 rfl rfl ?_;refine tlN 30 40 rfl rfl ?_;refine tlN 31 41 rfl rfl ?_;refine tlY 32 42 rfl rfl ?_;refine tlY 33 43 rfl rfl ?_;refine wpAnyH_done (by kernel_rfl) ?_ _;go_wp2
    go_roundw
    case rel=>
     refine⟨1,1,hlt,rfl,by simp,C3,?_⟩;rw[HE.out,HS.out,hnm,hpl,B0P];simp[A1a]
    case measure=>simp[intOf];omega
   ·obtain⟨j,rfl⟩:∃j,k=j+1:=⟨k -1,by omega⟩;obtain rfl:q=(j:Int)+1:=by omega
    obtain⟨y,t,hy,d0,d1,d2',hT,_⟩:=hL.at hblt hb (show j<rs.length by omega);have HP:Hid (Q4 rs (j+1)=some y):=B0v hy;have HQ:Hid (A1a (Q4 rs (j+1)) x=Op.bytesLess y.s.toList x.s.toList):=by rw[HP.out];rfl
    have hw1:IntKind.i64.wrap (j:Int)=j:=by rw[IntKind.wrap_i64];omega
    have hw2:IntKind.i64.wrap ((j:Int)+1 -1)=j:=by rw[IntKind.wrap_i64];omega
    have hi0:(0:Int)<=j:=by omega
    have hi1:(j:Int)<rs.length:=by omega
    have hi2:(0:Int)<(j:Int)+1:=by omega
    clear ha hw hL hx hy hq d1 d2' hT;go_wp2_with fail;refine wp_region_held_drew (S:=(fun w'=>w'.cell? ⟨b,o+(j+1)*3,none⟩=some (.string x.s)/\w'.cell? ⟨b,o+(j+1)*3+1,none⟩=some (.int .i64 x.W)/\w'.cell? ⟨b,o+(j+1)*3+2,none⟩=some (.slice ur lr cr)/\w'.cell? ⟨b,o+j*3,none⟩=some (.string y.s))) (by kernel_rfl) ?_ (fun hHeld=>?_)
    ·refine⟨?_,?_,?_,?_⟩<;>first|(go_simp;done)|(exact cL8 (by assumption) (by go_simp))
    refine tlY 0 10 rfl rfl ?_;refine tlY 1 11 rfl rfl ?_;refine tlY 2 12 rfl rfl ?_;refine tlY 3 13 rfl rfl ?_;refine tlY 4 14 rfl rfl ?_;refine rdH 5 rfl fun K hK=>?_;go_simp;go_at_call 46;refine(A5Q x.s _ hxs).mono ?_;rintro e w1 ⟨rfl,rfl⟩;try go_wp2_with fail
    refine hK.out _ _ ?_ (fun N2=>?_)
    ·refine⟨?_,?_,?_,?_⟩<;>first|(go_simp;done)|(exact cL8 (by assumption) (by go_simp))
    clear hK;refine tlY 6 16 rfl rfl ?_;refine tlY 7 17 rfl rfl ?_;refine tlY 8 18 rfl rfl ?_;refine tlY 9 19 rfl rfl ?_;refine tlY 10 20 rfl rfl ?_;refine tlY 11 21 rfl rfl ?_;refine tlY 12 22 rfl rfl ?_;refine rdH 13 rfl fun K hK=>?_;go_simp;go_at_call 47;refine cM8 (A5l x.W (.slice ur lr cr) x.cs _ hxw (hR.below C3)) ?_;rintro e w2 ⟨rfl,hb2⟩;have hz2:=hb2.size;(try simp at hz2);try go_wp2_with fail
    refine hK.out _ _ ?_ (fun Y2=>?_)
    ·refine⟨?_,?_,?_,?_⟩<;>first|(go_simp;done)|(exact cL8 (by assumption) (by go_simp))
    clear hK;refine tlY 14 24 rfl rfl ?_;refine tlY 15 25 rfl rfl ?_;refine tlY 16 26 rfl rfl ?_;refine tlY 17 27 rfl rfl ?_;refine tlY 18 28 rfl rfl ?_;refine tlY 19 29 rfl rfl ?_;refine tlY 20 30 rfl rfl ?_;refine tlY 21 31 rfl rfl ?_;refine tlY 22 32 rfl rfl ?_;refine tlY 23 33 rfl rfl ?_;refine tlY 24 34 rfl rfl ?_;refine tlY 25 35 rfl rfl ?_;refine tlY 26 36 rfl rfl ?_;refine tlY 27 37 rfl rfl ?_;refine tlY 28 38 rfl rfl ?_;refine tlY 29 39 rfl rfl ?_;refine tlY 30 40 rfl rfl ?_;refine tlY 31 41 rfl rfl ?_;refine tlY 32 42 rfl rfl ?_;refine tlY 33 43 rfl rfl ?_;refine wpAnyH_done (by kernel_rfl) ?_ _;go_wp2
    ·have hcf:Op.bytesLess y.s.toList x.s.toList=false:=by
      have h9:Op.bytesLess x.s.toList y.s.toList=true\/(x.s.toList==y.s.toList)=true:=by assumption
      rcases h9 with h9|h9
      ·exact A9L h9
      ·rw[beq_iff_eq]at h9;rw[h9];exact B0g _
     go_returns;refine⟨rB8 ?_,C3⟩;unfold G9;rw[HE.out,HS.out,HQ.out,hcf];simp
    ·have hcmp:Op.bytesLess y.s.toList x.s.toList=true:=by
      have h9:Op.bytesLess x.s.toList y.s.toList=false/\(x.s.toList==y.s.toList)=false:=by assumption
      exact B1Z h9.1 (by simpa using h9.2)
     refine⟨⟨j+1+1,(j:Int)+1+1,hlt,by omega,rfl,C3,?_⟩,by simp[intOf];omega⟩;rw[HE.out,HS.out,HQ.out,hnm,hpl,hcmp];simp
  ·have HN:Hid (T7 none rs=true):=by rw[HE.out,List.drop_eq_nil_of_le (by omega)];rfl
   clear ha hw;go_wp2;go_returns;refine⟨rB8 ?_,hb⟩;unfold G9;rw[HN.out,Bool.and_true]
   first|rfl|(rw[Bool.eq_iff_iff];simp;omega)|(simp;omega)
theorem B0V (s:ByteArray)(v:Value)(rs:List R3)(F:List Nat)(w:World)(hr:H8 w v rs F):Calls Tryz.prog 49 #[v,.string s] w fun e w'=>(∃ (W:Int) (u:Value),e=.returned (.tuple #[.agg #[.int .i64 W,u],.bool (I9 rs s).isSome])/\(∃a l c,u=.slice a l c)/\∀x,I9 rs s=some x->W=x.W/\∃g,C6 w' u x.cs g)/\Below w.heap.size w w':=by
 obtain⟨a,c,b,o,G,rfl,hl,hc,_,hG,_,hC,ha⟩:=hr.pick;unfold maxLen at hc;clear hr;go_enter Tryz.func49,Tryz.ntmps49;go_wp2_with fail;go_loopw [6] (fun i wr=> ∃k:Nat,k<=rs.length/\i=.int .i64 k/\Below w.heap.size w wr/\w.heap.size<wr.heap.size/\wr.cell? ⟨w.heap.size,0,none⟩=some (.int .i64 0)/\wr.cell? ⟨w.heap.size,1,none⟩=some (.slice none 0 0)/\(∀q,wr.frozen? ⟨w.heap.size,q,none⟩=false)/\I9 rs s=I9 (rs.drop k) s) (fun i _=>rs.length - (intOf i).toNat)
 case atStart=>exact⟨0,Nat.zero_le _,rfl,bex,by simp,by go_simp,by go_simp,fun q=>by go_simp,by simp⟩
 case round=>
  obtain⟨k,hk,rfl,hb,hsz,r0,r1,rf,heq⟩:=hrel;have HE:Hid (I9 rs s=I9 (rs.drop k) s):=heq;clear heq;by_cases hlt:k<rs.length
  ·obtain⟨rfl,hblt,_⟩:=ha k hlt;have hkG:k<G.length:=by omega
   have hx:rs[k]?=some rs[k]:=by simp
   obtain⟨u,q0,q1,q2,hR0⟩:=hC k rs[k] G[k] hx (by simp);have c0:=(hb.cell (p:=⟨b,_,none⟩) hblt).trans q0;have c1:=(hb.cell (p:=⟨b,_,none⟩) hblt).trans q1;have c2:=(hb.cell (p:=⟨b,_,none⟩) hblt).trans q2;have hR:=hR0.below hb;have hgl:=hR0.lt;have hbr:b<wr.heap.size:=by omega
   generalize rs[k]=x at hx c0 c1 c2 hR;generalize G[k]=g at hR hgl;clear hR0 q0 q1 q2;have HS:Hid (I9 (rs.drop k) s=if(x.s.toList==s.toList)=true then some x else I9 (rs.drop (k+1)) s):=B1W hx;obtain⟨au,lu,cu,rfl⟩:=hR.is.shape;clear ha hC hx;cases hh:(x.s.toList==s.toList)with
   |true=>
    have HF:Hid (I9 rs s=some x):=by show _=_;rw[HE.out,HS.out,hh];rfl
    have hbW:b≠w.heap.size:=by omega
    go_wp2_with fail;refine bodyPost_ret (v:=.tuple #[.agg #[.int .i64 x.W,.slice au lu cu],.bool true]) (by simp[results,Tryz.results49,go_sem, *]) rfl ⟨⟨x.W,.slice au lu cu,by rw[HF.out];rfl,⟨_,_,_,rfl⟩,fun x' hx'=>?_⟩,?_⟩
    ·rw[HF.out]at hx';obtain rfl:x=x':=by simpa using hx'
     refine⟨rfl,g,hR.keep (by simp) fun q hq=>?_⟩;have:=hgl q hq
     iterate 2 rw[bS8 _ _ _ _ (by simp;omega)]
    ·exact bs8
   |false=>
    have HF:Hid (I9 (rs.drop k) s=I9 (rs.drop (k+1)) s):=by show _=_;rw[HS.out,hh];rfl
    go_wp2_with fail;exact⟨⟨k+1,hlt,by simp,hb,hsz,r0,r1,rf,by rw[HE.out,HF.out]⟩,by simp[intOf];omega⟩
  ·obtain rfl:k=rs.length:=by omega
   have HT:Hid (I9 rs s=none):=by show _=_;rw[HE.out,List.drop_length];rfl
   clear ha hC;go_wp2_with fail;refine bodyPost_ret (v:=.tuple #[.agg #[.int .i64 0,.slice none 0 0],.bool false]) (by simp[results,Tryz.results49,go_sem, *]) rfl ⟨⟨0,.slice none 0 0,by rw[HT.out];rfl,⟨_,_,_,rfl⟩,fun x' hx'=>by rw[HT.out]at hx';cases hx'⟩,?_⟩;exact bs8
end
section
open Go.RowKit
theorem U9 {α:Type}(t:α):∃x,Hid (t=x):=⟨t,rfl⟩
theorem A1q {rs:List R3}{f:Nat}{p:P12}(h:X1 p=true)(hk:∀q∈p.ks,0<=wP8 rs f q):wP8 rs (f+1) p=if(I2 rs p (wP8 rs f (p.ks.getD 0 .nil)) (wP8 rs f (p.ks.getD 1 .nil)) &&decide (G8 rs p (wP8 rs f (p.ks.getD 0 .nil)) (wP8 rs f (p.ks.getD 1 .nil))<=12))=true then G8 rs p (wP8 rs f (p.ks.getD 0 .nil)) (wP8 rs f (p.ks.getD 1 .nil))else -1:=by
 have:(p.ks.all fun q=>decide (0<=wP8 rs f q))=true:=by simpa using hk
 rw[wP8,h,this];rfl
theorem C2O {rs:List R3}{f:Nat}{p q:P12}(h:q∈p.ks)(hq:wP8 rs f q<0):wP8 rs (f+1) p= -1:=by
 have:(p.ks.all fun q=>decide (0<=wP8 rs f q))=false:=by
  rw[List.all_eq_false];exact⟨q,h,by simp;omega⟩
 rw[wP8,this];simp
theorem C4A {rs:List R3}{f:Nat}{p:P12}(h:X1 p=false):wP8 rs (f+1) p= -1:=by
 rw[wP8,h];simp
section
variable {rs:List R3} {f:Nat} {p:P12} (h:X1 p=true) (hk:∀q∈p.ks,0<=wP8 rs f q)
include h hk
theorem B9h (h0:p.k=0):wP8 rs (f+1) p=match I9 rs p.s with|none=> -1|some x=>if x.W<=12 then x.W else -1:=by
 rw[A1q h hk];simp only[I2,G8,h0,if_true,A3P];cases hr:I9 rs p.s<;>simp
theorem C0H {q:P12}(h0:p.k=1)(hq:p.ks=[q]):wP8 rs (f+1) p=if bE8 p.e (wP8 rs f q)=true then wP8 rs f q else -1:=by
 have:=wL8 rs f q;rw[A1q h hk,hq];simp[I2,G8,h0,this]
theorem B9J {q:P12}(h0:p.k=2)(hq:p.ks=[q]):wP8 rs (f+1) p=if(decide (0<p.es.length) &&p.es.all (bE8 · (wP8 rs f q)) &&decide ((p.es.length:Int)<=12))=true then(p.es.length:Int)else -1:=by
 rw[A1q h hk,hq];simp[I2,G8,h0]
theorem B8Y {q r:P12}(h0:p.k=3)(hq:p.ks=[q,r]):wP8 rs (f+1) p=if(bE8 p.e (wP8 rs f q+wP8 rs f r) &&decide (wP8 rs f q+wP8 rs f r<=12))=true then wP8 rs f q+wP8 rs f r else -1:=by
 rw[A1q h hk,hq];simp[I2,G8,h0]
theorem B6T {q r:P12}(h0:p.k=4)(hq:p.ks=[q,r]):wP8 rs (f+1) p=if wP8 rs f q=wP8 rs f r then wP8 rs f q else -1:=by
 have:=wL8 rs f q;rw[A1q h hk,hq];simp[I2,G8,h0,this]
theorem C3Z {q:P12}(h0:p.k=5)(hq:p.ks=[q]):wP8 rs (f+1) p=wP8 rs f q:=by
 have:=wL8 rs f q;rw[A1q h hk,hq];simp[I2,G8,h0,this]
theorem B63 {q:P12}(h0:p.k=6)(hq:p.ks=[q]):wP8 rs (f+1) p=if((decide (0<=p.n) &&decide (p.n<=wP8 rs f q)) &&decide (p.es.length<=1) &&p.es.all (bE8 · (wP8 rs f q)) &&decide (p.n+1+(p.es.length:Int)<=12))=true then p.n+1+(p.es.length:Int)else -1:=by
 rw[A1q h hk,hq];simp[I2,G8,h0]
end
def kwC (rs:List R3)(f:Nat)(ks:List P12)(k j:Nat):Int:=if j<k then wP8 rs f (ks.getD j .nil)else 0
def WdI (rs:List R3)(f:Nat):Prop:=∀ (p:P12) (ue us u:Value) (g:List Nat) (D d:Nat) (vd:Value) (Fd:List Nat) (w:World),p.wf->H3 w D (E2 w D d) p ue us u g->wtP p<=1048576->H8 w vd rs Fd->f<=9->
  Calls Tryz.prog 45 #[vd,(.agg #[.int .i64 p.k,.string p.s,.int .i64 p.e.k,.int .i64 p.e.n,.int .i64 p.e.v.k,.int .i64 p.e.v.n,.string p.e.v.s,.string p.e.p,ue,us,.int .i64 p.n,u]),.int .i64 ((f:Int) -1)] w fun x w'=>x=.returned (.int .i64 (wP8 rs f p))/\Below w.heap.size w w'
theorem B3f (rs:List R3):WdI rs 0:=by
 intro p ue us u g D d vd Fd w hw hL hn hR hf;obtain⟨ae,ce,ak,ck,a,c,rfl,rfl,rfl,_,_,_,_,_,_⟩:=hL.shape;obtain⟨ad,ld,cd,rfl⟩:=hR.is.shape;rw[wP8];clear hL hR hw;go_enter Tryz.func45,Tryz.ntmps45;go_wp2;go_returns;exact⟨rfl,bex⟩
theorem B7l {rs:List R3}{f:Nat}(ih:WdI rs f):WdI rs (f+1):=by
 intro p ue us u g D d vd Fd w hw hL hn hR hf;have hwt:=f9 p;obtain⟨a1,c1,a2,c2,a3,c3,rfl,rfl,rfl,s1,s2,s3,s4,s5,s6⟩:=hL.shape;obtain⟨ad,ld,cd,rfl⟩:=hR.is.shape;obtain⟨Fe,Fs,h,rfl,ke,kes,kp⟩:=hL;obtain⟨d,rfl⟩:∃d',d=d'+1:=by cases d with|zero=>exact kp.elim|succ d=>exact⟨d,rfl⟩
 obtain⟨a,c,b,o,G,e0,hl,hc,hG,_,ha⟩:=kp.pick;injection e0 with e1 e2 e3;subst e1 e3;unfold maxLen at hc;have hFo:=fun w2=>B56 p a1 a2 a3 c1 c2 c3 w2 hw.2.2.1.2.2.1.2.2 (by omega) (by omega) (by unfold maxLen;omega);have hE:=fun(W:Int) (w2:World) (hb:Below w.heap.size w w2)=>A8K p.e _ Fe D W w2 hw.2.2.1 (ke.below hb) (by omega);have hA:=fun(W:Int) (w2:World) (hb:Below w.heap.size w w2)=>C1Q _ p.es Fs D W w2 (kes.below hb) (by omega);have hQ:=fun(w2:World) (hb:Below w.heap.size w w2)=>B0V p.s _ rs Fd w2 (hR.below hb);have hI:=fun(x:P12) (y1 y2 y3:Value) (gx:List Nat) (w2:World) (hw2:x.wf) (hL2:H3 w2 D (E2 w2 D d) x y1 y2 y3 gx) (hn2:wtP x<=1048576) (hb:Below w.heap.size w w2)=>ih x y1 y2 y3 gx D d _ Fd w2 hw2 hL2 hn2 (hR.below hb) (by omega);obtain⟨dd,HD⟩:=U9 (((f+1:Nat):Int) -1);rw[HD.out];have hd0:0<=dd:=by have:=HD.out;omega
 have hd9:dd<=9:=by have:=HD.out;omega
 have hd1:dd -1=(f:Int) -1:=by have:=HD.out;omega
 rw[<-hd1]at hI;have hB:=X2 w p (.slice a1 p.e.ks.length c1) (.slice a2 p.es.length c2) (.slice a3 p.ks.length c3) 45;obtain⟨n0,n1⟩:=A7l hw.2.2.2;have C4w:p.es.length<=1048576:=by omega
 obtain⟨bo,HO⟩:∃b,Hid (X1 p=b):=⟨_,rfl⟩;rw[HO.out]at hFo;clear hd1 ke kes hR ih HD s1 s2 s3 s4 s5 s6;obtain⟨r,HR⟩:=U9 (wP8 rs (f+1) p);rw[HR.out];clear hw;go_enter Tryz.func45,Tryz.ntmps45;go_wp2_with fail;refine cM8 (hFo _) ?_;rintro x w1 ⟨rfl,hb1⟩;have hB1:=hB.below hb1;have F8:Below w.heap.size w w1:=bex;have hlw:w.heap.size<w1.heap.size:=hB1.1;clear hFo hb1 hB;cases bo with
 |false=>
  have HF:Hid (r= -1):=HR.out.symm.trans (C4A HO.out);clear ha hI hE hA hQ;go_wp2;go_returns;exact⟨by rw[HF.out];rfl,bex⟩
 |true=>
  have HF0:Hid ((p.ks.length:Int)=O7 p.k):=p7 HO.out;have hk2:p.ks.length<=2:=by
   have:=HF0.out;unfold O7 at this;split at this;omega;split at this;omega;split at this;omega;split at this;omega;split at this;omega;split at this;omega;split at this<;>omega
  go_wp2_with fail;go_loopw [8] (fun i wr=> ∃k:Nat,k<=p.ks.length/\i=.int .i64 k/\(∀q∈p.ks.take k,0<=wP8 rs f q)/\Below w1.heap.size w1 wr/\w1.heap.size<wr.heap.size/\wr.cell? ⟨w1.heap.size,0,none⟩=some (.int .i64 (kwC rs f p.ks k 0))/\wr.cell? ⟨w1.heap.size,1,none⟩=some (.int .i64 (kwC rs f p.ks k 1))/\∀q,wr.frozen? ⟨w1.heap.size,q,none⟩=false) (fun i _=>p.ks.length - (intOf i).toNat)
  case atStart=>exact⟨0,Nat.zero_le _,rfl,fun q hq=>by simp at hq,bex,by simp,by go_simp;rfl,by go_simp;rfl,fun q=>by go_simp⟩
  case round=>
   obtain⟨k,hk,rfl,P3,hb',hsz,r0,r1,rf⟩:=hrel;have hBr:=hB1.below hb';have hb:Below w.heap.size w wr:=F8.trans (hb'.mono F8.size);have hzb:=hb.size;have A6b:=hb'.size;have HP:Hid (∀q∈p.ks.take k,0<=wP8 rs f q):=P3;clear P3;by_cases hlt:k<p.ks.length
   ·obtain⟨rfl,hblt,_,hL⟩:=ha k hlt;obtain⟨x,g,ue,us,u,hx,hg,hxw,⟨q0,q1,q2,q3,q4,q5,q6,q7,q8,q9,q10,q11⟩,hLx,hbr⟩:=hL.at hG hblt hb hlt;obtain⟨x_e,x_E,x_s,x_S,x_k,x_K,rfl,rfl,rfl,_,_,_,_,_,_⟩:=hLx.shape;have hxn:wtP x<=1048576:=by have:=A2X (mg8 hx);omega
    have hV:=hI x _ _ _ g wr hxw hLx hxn hb;have HT:Hid (p.ks.take (k+1)=p.ks.take k++ [x]):=by
     obtain⟨hk',rfl⟩:=gE1 hx;exact List.take_succ_eq_append_getElem hk'
    have HG:Hid (p.ks.getD k .nil=x):=by show _=_;rw[List.getD_eq_getElem?_getD,hx];rfl
    have HM:Hid (x∈p.ks):=mg8 hx;obtain⟨vx,HV⟩:=U9 (wP8 rs f x);rw[HV.out]at hV;obtain⟨_,_,_,_,_,_,_,_,_,_,_,_,b11⟩:=hBr;have hki:(k:Int)<2:=by omega
    have hk2:k<2:=by omega
    clear ha hL hx hLx hg hI hE hA hQ hxw hxn;obtain⟨v0,HV0⟩:=U9 (kwC rs f p.ks k 0);obtain⟨v1,HV1⟩:=U9 (kwC rs f p.ks k 1);rw[HV0.out]at r0;rw[HV1.out]at r1;go_wp2_with fail;refine cM8 hV ?_;rintro y w2 ⟨rfl,hb2⟩;have C0:Below w1.heap.size w1 w2:=hb'.trans (hb2.mono hb'.size);have r0':=((bc8 hb2).1 _ _ hsz).trans r0;have r1':=((bc8 hb2).1 _ _ hsz).trans r1;have rf':∀q,w2.frozen? ⟨w1.heap.size,q,none⟩=false:=fun q=>(fb8 (hb2.block _ hsz)).trans (rf q);have B2J:w1.heap.size<w2.heap.size:=by have:=hb2.size;omega
    clear hV hb2 q0 q1 q2 q3 q4 q5 q6 q7 q8 q9 q10 q11 b11 r0 r1 rf;have hkk:k=0\/k=1:=by omega
    by_cases hneg:vx<0
    ·have HF:Hid (r= -1):=HR.out.symm.trans (C2O HM.out (by rw[HV.out];exact hneg));rcases hkk with rfl|rfl
     all_goals(
      simp only[Nat.zero_mul,Nat.add_zero]at*;go_wp2;go_returns;refine⟨by rw[HF.out];rfl,?_⟩;exact F8.trans ((show Below w1.heap.size w1 _ from bex).mono F8.size))
    ·have hnn:0<=vx:=by omega
     have HN:Hid (∀q∈p.ks.take (k+1),0<=wP8 rs f q):=by
      show∀q∈_,_;rw[HT.out];intro q hq;rcases List.mem_append.1 hq with hq|hq
      ·exact HP.out q hq
      ·rw[List.mem_singleton.1 hq,HV.out];exact hnn
     rcases hkk with rfl|rfl
     ·have e0:kwC rs f p.ks (0+1) 0=vx:=by unfold kwC;rw[if_pos (by omega),HG.out,HV.out]
      have e1:kwC rs f p.ks (0+1) 1=v1:=by rw[<-HV1.out];rfl
      have E0:Hid (kwC rs f p.ks (0+1) 0=vx):=e0;have E1:Hid (kwC rs f p.ks (0+1) 1=v1):=e1;clear e0 e1;go_wp2_with fail;refine⟨⟨0+1,hlt,by simp,HN.out,bex,by simpa using B2J,?_,?_,fun q=>by go_simp⟩,by simp[intOf];omega⟩
      ·rw[E0.out];go_simp
      ·rw[E1.out];go_simp
     ·have e0:kwC rs f p.ks (1+1) 0=v0:=by rw[<-HV0.out];rfl
      have e1:kwC rs f p.ks (1+1) 1=vx:=by unfold kwC;rw[if_pos (by omega),HG.out,HV.out]
      have E0:Hid (kwC rs f p.ks (1+1) 0=v0):=e0;have E1:Hid (kwC rs f p.ks (1+1) 1=vx):=e1;clear e0 e1;go_wp2_with fail;refine⟨⟨1+1,hlt,by simp,HN.out,bex,by simpa using B2J,?_,?_,fun q=>by go_simp⟩,by simp[intOf];omega⟩
      ·rw[E0.out];go_simp
      ·rw[E1.out];go_simp
   ·obtain rfl:k=p.ks.length:=by omega
    have HP2:Hid (∀q∈p.ks,0<=wP8 rs f q):=by have:=HP.out;rw[List.take_length]at this;exact this
    have C2B:=A7Q (k:=p.k) (by have:=HF0.out;omega);clear ha hI;obtain⟨_,b0,b1,b2,b3,b4,b5,b6,b7,b8,b9,b10,b11⟩:=hBr;rcases C2B with h0|h0|h0|h0|h0|h0|h0
    ·--kind 0
     have HY:Hid (r=match I9 rs p.s with|none=> -1|some x=>if x.W<=12 then x.W else -1):=HR.out.symm.trans (B9h HO.out HP2.out h0);clear HR HF0 HP2 HP HO hE hA;have k0:(p.k==0)=true:=by rw[h0];rfl
     have k1:(p.k==1)=false:=by rw[h0];rfl
     have k2:(p.k==2)=false:=by rw[h0];rfl
     have k3:(p.k==3)=false:=by rw[h0];rfl
     have k4:(p.k==4)=false:=by rw[h0];rfl
     have k5:(p.k==5)=false:=by rw[h0];rfl
     have k6:(p.k==6)=false:=by rw[h0];rfl
     clear h0;cases hr:I9 rs p.s with
     |none=>
      have HX:Hid (r= -1):=by show _=_;rw[HY.out,hr]
      simp only[hr,Option.isSome_none]at hQ;clear HY hr;go_wp2_with fail;refine cM8 (hQ _ hb) ?_;rintro y w3 ⟨⟨W3,u3,rfl,⟨au,lu,cu,rfl⟩,hr3⟩,hb3⟩;have D6:Below w.heap.size w w3:=hb.trans (hb3.mono hzb);have hz3:=D6.size;clear hr3 hb3;go_wp2;go_returns;exact⟨by rw[HX.out];rfl,bex⟩
     |some x=>
      have HX:Hid (r=if x.W<=12 then x.W else -1):=by show _=_;rw[HY.out,hr]
      simp only[hr,Option.isSome_some]at hQ;clear HY hr;go_wp2_with fail;refine cM8 (hQ _ hb) ?_;rintro y w3 ⟨⟨W3,u3,rfl,⟨au,lu,cu,rfl⟩,hr3⟩,hb3⟩;have D6:Below w.heap.size w w3:=hb.trans (hb3.mono hzb);have hz3:=D6.size;obtain⟨e3,_⟩:=hr3 x rfl;subst e3;clear hr3 hb3;by_cases hx:x.W<=12
      ·have hx':¬12<x.W:=by omega
       have HX2:Hid (r=x.W):=by show _=_;rw[HX.out,if_pos hx]
       go_wp2;go_returns;exact⟨by rw[HX2.out];rfl,bex⟩
      ·have hx':12<x.W:=by omega
       have HX2:Hid (r= -1):=by show _=_;rw[HX.out,if_neg hx]
       go_wp2;go_returns;exact⟨by rw[HX2.out];rfl,bex⟩
    ·--kind 1
     have hf0:=HF0.out;rw[h0]at hf0;obtain⟨q,hq⟩:=j8 hf0;have e0:kwC rs f p.ks p.ks.length 0=wP8 rs f q:=by rw[hq];rfl
     rw[e0]at r0;have HZ:=HR.out.symm.trans (C0H HO.out HP2.out h0 hq);have A3U:=wL8 rs f q;have hv0:0<=wP8 rs f q:=HP2.out q (by rw[hq];simp);clear hf0 e0;clear HR;generalize wP8 rs f q=v at*;have k0:(p.k==0)=false:=by rw[h0];rfl
     have k1:(p.k==1)=true:=by rw[h0];rfl
     have k2:(p.k==2)=false:=by rw[h0];rfl
     have k3:(p.k==3)=false:=by rw[h0];rfl
     have k4:(p.k==4)=false:=by rw[h0];rfl
     have k5:(p.k==5)=false:=by rw[h0];rfl
     have k6:(p.k==6)=false:=by rw[h0];rfl
     clear h0 HF0 HP2 HP HO hq hA hQ;have hE':=fun w2 hb=>hE v w2 hb;obtain⟨bb,HBB⟩:=U9 (bE8 p.e v);rw[HBB.out]at HZ;rw[HBB.out]at hE';have hv':¬12<v:=by omega
     clear hE;have HY:Hid (_):=HZ;clear HZ;go_wp2_with fail
     first|go_region_held3 (fun w'=>w'.cell? ⟨w.heap.size,2,none⟩=some (.int .i64 p.e.k)/\w'.cell? ⟨w.heap.size,3,none⟩=some (.int .i64 p.e.n)/\w'.cell? ⟨w.heap.size,4,none⟩=some (.int .i64 p.e.v.k)/\w'.cell? ⟨w.heap.size,5,none⟩=some (.int .i64 p.e.v.n)/\w'.cell? ⟨w.heap.size,6,none⟩=some (.string p.e.v.s)/\w'.cell? ⟨w.heap.size,7,none⟩=some (.string p.e.p)/\w'.cell? ⟨w.heap.size,8,none⟩=some (.slice a1 p.e.ks.length c1)/\w'.cell? ⟨w1.heap.size,0,none⟩=some (.int .i64 v)) (refine⟨?_,?_,?_,?_,?_,?_,?_,?_⟩<;>exact kp8) (first|(go_at_call 69;refine cM8 (hE' _ bex) ?_;rintro y w3 ⟨rfl,hb3⟩;have hz3:=hb3.size;(try simp at hz3)))|fail
     cases bb<;>(go_wp2;go_returns;exact⟨by rw[HY.out];first|rfl|(rw[hm2];rfl)|(rw[hm1];rfl)|(rw[hm1,hm2];rfl),bex⟩)
    ·--kind 2
     have hf0:=HF0.out;rw[h0]at hf0;obtain⟨q,hq⟩:=j8 hf0;have e0:kwC rs f p.ks p.ks.length 0=wP8 rs f q:=by rw[hq];rfl
     rw[e0]at r0;have HZ:=HR.out.symm.trans (B9J HO.out HP2.out h0 hq);have A3U:=wL8 rs f q;have hv0:0<=wP8 rs f q:=HP2.out q (by rw[hq];simp);clear hf0 e0;clear HR;generalize wP8 rs f q=v at*;have k0:(p.k==0)=false:=by rw[h0];rfl
     have k1:(p.k==1)=false:=by rw[h0];rfl
     have k2:(p.k==2)=true:=by rw[h0];rfl
     have k3:(p.k==3)=false:=by rw[h0];rfl
     have k4:(p.k==4)=false:=by rw[h0];rfl
     have k5:(p.k==5)=false:=by rw[h0];rfl
     have k6:(p.k==6)=false:=by rw[h0];rfl
     clear h0 HF0 HP2 HP HO hq hE hQ;have hA':=fun w2 hb=>hA v w2 hb;obtain⟨bb,HBB⟩:=U9 (p.es.all (bE8 · v));rw[HBB.out]at HZ;rw[HBB.out]at hA';clear hA;generalize p.es.length=m at*;by_cases hm0:0<m
     ·have hm1:decide (0<m)=true:=by simp;omega
      have A7k:(0:Int)<(m:Int):=by omega
      rw[hm1,Bool.true_and]at HZ;have HY:Hid (_):=HZ;clear HZ;go_wp2_with fail
      first|go_region_held3 (fun w'=>w'.cell? ⟨w.heap.size,9,none⟩=some (.slice a2 m c2)/\w'.cell? ⟨w1.heap.size,0,none⟩=some (.int .i64 v)) (refine⟨?_,?_⟩<;>exact kp8) (first|(go_at_call 70;refine cM8 (hA' _ bex) ?_;rintro y w3 ⟨rfl,hb3⟩;have hz3:=hb3.size;(try simp at hz3)))|fail
      by_cases hm12:(12:Int)<(m:Int)
      ·have hm2:decide ((m:Int)<=12)=false:=by simp;omega
       cases bb<;>(go_wp2;go_returns;exact⟨by rw[HY.out];first|rfl|(rw[hm2];rfl)|(rw[hm1];rfl)|(rw[hm1,hm2];rfl),bex⟩)
      ·have hm2:decide ((m:Int)<=12)=true:=by simp;omega
       cases bb<;>(go_wp2;go_returns;exact⟨by rw[HY.out];first|rfl|(rw[hm2];rfl)|(rw[hm1];rfl)|(rw[hm1,hm2];rfl),bex⟩)
     ·have hm1:decide (0<m)=false:=by simp;omega
      have A7k:¬ (0:Int)<(m:Int):=by omega
      rw[hm1,Bool.false_and,Bool.false_and]at HZ;have HY:Hid (_):=HZ;clear HZ;go_wp2_with fail;refine wp_region_held_drew (S:=(fun w'=>w'.cell? ⟨w.heap.size,9,none⟩=some (.slice a2 m c2)/\w'.cell? ⟨w1.heap.size,0,none⟩=some (.int .i64 v))) (by kernel_rfl) ?_ (fun hHeld=>?_)
      ·refine⟨?_,?_⟩<;>exact kp8
      refine tlY 0 72 rfl rfl ?_;refine tlY 1 73 rfl rfl ?_;refine tlY 2 74 rfl rfl ?_;refine tlY 3 75 rfl rfl ?_;refine tlY 4 76 rfl rfl ?_;refine tlY 5 77 rfl rfl ?_;refine tlY 6 78 rfl rfl ?_;refine tlY 7 79 rfl rfl ?_;refine tlN 8 80 rfl rfl ?_;refine tlN 9 81 rfl rfl ?_;refine tlN 10 82 rfl rfl ?_;refine tlN 11 83 rfl rfl ?_;refine tlN 12 84 rfl rfl ?_;refine tlN 13 85 rfl rfl ?_;refine tlY 14 86 rfl rfl ?_;refine tlY 15 9 rfl rfl ?_;refine tlY 16 10 rfl rfl ?_;refine wpAnyH_done (by kernel_rfl) ?_ _;go_wp2;go_returns;exact⟨by rw[HY.out];first|rfl|(rw[hm2];rfl)|(rw[hm1];rfl)|(rw[hm1,hm2];rfl),bex⟩
    ·--kind 3
     have hf0:=HF0.out;rw[h0]at hf0;obtain⟨q,r,hq⟩:=A1b hf0;have e0:kwC rs f p.ks p.ks.length 0=wP8 rs f q:=by rw[hq];rfl
     have e1:kwC rs f p.ks p.ks.length 1=wP8 rs f r:=by rw[hq];rfl
     rw[e0]at r0;rw[e1]at r1;have HZ:=HR.out.symm.trans (B8Y HO.out HP2.out h0 hq);have A3U:=wL8 rs f q;have B5a:=wL8 rs f r;have hv0:0<=wP8 rs f q:=HP2.out q (by rw[hq];simp);have hu0:0<=wP8 rs f r:=HP2.out r (by rw[hq];simp);clear hf0 e0 e1;clear HR;generalize wP8 rs f q=v at*;generalize wP8 rs f r=v2 at*;have k0:(p.k==0)=false:=by rw[h0];rfl
     have k1:(p.k==1)=false:=by rw[h0];rfl
     have k2:(p.k==2)=false:=by rw[h0];rfl
     have k3:(p.k==3)=true:=by rw[h0];rfl
     have k4:(p.k==4)=false:=by rw[h0];rfl
     have k5:(p.k==5)=false:=by rw[h0];rfl
     have k6:(p.k==6)=false:=by rw[h0];rfl
     clear h0 HF0 HP2 HP HO hq hA hQ;have hE':=fun w2 hb=>hE (v+v2) w2 hb;have hwr:IntKind.i64.wrap (v+v2)=v+v2:=by rw[IntKind.wrap_i64];omega
     obtain⟨bb,HBB⟩:=U9 (bE8 p.e (v+v2));rw[HBB.out]at HZ;rw[HBB.out]at hE';clear hE;have HY:Hid (_):=HZ;clear HZ;go_wp2_with fail
     first|go_region_held3 (fun w'=>w'.cell? ⟨w.heap.size,2,none⟩=some (.int .i64 p.e.k)/\w'.cell? ⟨w.heap.size,3,none⟩=some (.int .i64 p.e.n)/\w'.cell? ⟨w.heap.size,4,none⟩=some (.int .i64 p.e.v.k)/\w'.cell? ⟨w.heap.size,5,none⟩=some (.int .i64 p.e.v.n)/\w'.cell? ⟨w.heap.size,6,none⟩=some (.string p.e.v.s)/\w'.cell? ⟨w.heap.size,7,none⟩=some (.string p.e.p)/\w'.cell? ⟨w.heap.size,8,none⟩=some (.slice a1 p.e.ks.length c1)/\w'.cell? ⟨w1.heap.size,0,none⟩=some (.int .i64 v)/\w'.cell? ⟨w1.heap.size,1,none⟩=some (.int .i64 v2)) (refine⟨?_,?_,?_,?_,?_,?_,?_,?_,?_⟩<;>exact kp8) (first|(go_at_call 69;refine cM8 (hE' _ bex) ?_;rintro y w3 ⟨rfl,hb3⟩;have hz3:=hb3.size;(try simp at hz3)))|fail
     by_cases hv':12<v+v2
     ·have hm2:decide (v+v2<=12)=false:=by simp;omega
      cases bb<;>(go_wp2;go_returns;exact⟨by rw[HY.out];first|rfl|(rw[hm2];rfl)|(rw[hm1];rfl)|(rw[hm1,hm2];rfl),bex⟩)
     ·have hm2:decide (v+v2<=12)=true:=by simp;omega
      cases bb<;>(go_wp2;go_returns;exact⟨by rw[HY.out];first|rfl|(rw[hm2];rfl)|(rw[hm1];rfl)|(rw[hm1,hm2];rfl),bex⟩)
    ·--kind 4
     have hf0:=HF0.out;rw[h0]at hf0;obtain⟨q,r,hq⟩:=A1b hf0;have e0:kwC rs f p.ks p.ks.length 0=wP8 rs f q:=by rw[hq];rfl
     have e1:kwC rs f p.ks p.ks.length 1=wP8 rs f r:=by rw[hq];rfl
     rw[e0]at r0;rw[e1]at r1;have HZ:=HR.out.symm.trans (B6T HO.out HP2.out h0 hq);have A3U:=wL8 rs f q;have B5a:=wL8 rs f r;have hv0:0<=wP8 rs f q:=HP2.out q (by rw[hq];simp);have hu0:0<=wP8 rs f r:=HP2.out r (by rw[hq];simp);clear hf0 e0 e1;clear HR;generalize wP8 rs f q=v at*;generalize wP8 rs f r=v2 at*;have k0:(p.k==0)=false:=by rw[h0];rfl
     have k1:(p.k==1)=false:=by rw[h0];rfl
     have k2:(p.k==2)=false:=by rw[h0];rfl
     have k3:(p.k==3)=false:=by rw[h0];rfl
     have k4:(p.k==4)=true:=by rw[h0];rfl
     have k5:(p.k==5)=false:=by rw[h0];rfl
     have k6:(p.k==6)=false:=by rw[h0];rfl
     clear h0 HF0 HP2 HP HO hq hA hQ hE;have hv':¬12<v:=by omega
     by_cases hvv:v=v2
     ·rw[if_pos hvv]at HZ;have hvb:(v==v2)=true:=by simpa using hvv
      clear hvv;have HY:Hid (_):=HZ;clear HZ;go_wp2_with fail
      first|go_region_held3 (fun w'=>w'.cell? ⟨w1.heap.size,0,none⟩=some (.int .i64 v)/\w'.cell? ⟨w1.heap.size,1,none⟩=some (.int .i64 v2)) (refine⟨?_,?_⟩<;>exact kp8) (first|fail)|fail
      go_wp2;go_returns;exact⟨by rw[HY.out];first|rfl|(rw[hm2];rfl)|(rw[hm1];rfl)|(rw[hm1,hm2];rfl),bex⟩
     ·rw[if_neg hvv]at HZ;have hvb:(v==v2)=false:=by simpa using hvv
      clear hvv;have HY:Hid (_):=HZ;clear HZ;go_wp2_with fail
      first|go_region_held3 (fun w'=>w'.cell? ⟨w1.heap.size,0,none⟩=some (.int .i64 v)/\w'.cell? ⟨w1.heap.size,1,none⟩=some (.int .i64 v2)) (refine⟨?_,?_⟩<;>exact kp8) (first|fail)|fail
      go_wp2;go_returns;exact⟨by rw[HY.out];first|rfl|(rw[hm2];rfl)|(rw[hm1];rfl)|(rw[hm1,hm2];rfl),bex⟩
    ·--kind 5
     have hf0:=HF0.out;rw[h0]at hf0;obtain⟨q,hq⟩:=j8 hf0;have e0:kwC rs f p.ks p.ks.length 0=wP8 rs f q:=by rw[hq];rfl
     rw[e0]at r0;have HZ:=HR.out.symm.trans (C3Z HO.out HP2.out h0 hq);have A3U:=wL8 rs f q;have hv0:0<=wP8 rs f q:=HP2.out q (by rw[hq];simp);clear hf0 e0;clear HR;generalize wP8 rs f q=v at*;have k0:(p.k==0)=false:=by rw[h0];rfl
     have k1:(p.k==1)=false:=by rw[h0];rfl
     have k2:(p.k==2)=false:=by rw[h0];rfl
     have k3:(p.k==3)=false:=by rw[h0];rfl
     have k4:(p.k==4)=false:=by rw[h0];rfl
     have k5:(p.k==5)=true:=by rw[h0];rfl
     have k6:(p.k==6)=false:=by rw[h0];rfl
     clear h0 HF0 HP2 HP HO hq hA hQ hE;have hv':¬12<v:=by omega
     have HY:Hid (_):=HZ;clear HZ;go_wp2;go_returns;exact⟨by rw[HY.out];first|rfl|(rw[hm2];rfl)|(rw[hm1];rfl)|(rw[hm1,hm2];rfl),bex⟩
    ·--kind 6
     have hf0:=HF0.out;rw[h0]at hf0;obtain⟨q,hq⟩:=j8 hf0;have e0:kwC rs f p.ks p.ks.length 0=wP8 rs f q:=by rw[hq];rfl
     rw[e0]at r0;have HZ:=HR.out.symm.trans (B63 HO.out HP2.out h0 hq);have A3U:=wL8 rs f q;have hv0:0<=wP8 rs f q:=HP2.out q (by rw[hq];simp);clear hf0 e0;clear HR;generalize wP8 rs f q=v at*;have k0:(p.k==0)=false:=by rw[h0];rfl
     have k1:(p.k==1)=false:=by rw[h0];rfl
     have k2:(p.k==2)=false:=by rw[h0];rfl
     have k3:(p.k==3)=false:=by rw[h0];rfl
     have k4:(p.k==4)=false:=by rw[h0];rfl
     have k5:(p.k==5)=false:=by rw[h0];rfl
     have k6:(p.k==6)=true:=by rw[h0];rfl
     clear h0 HF0 HP2 HP HO hq hE hQ;have hA':=fun w2 hb=>hA v w2 hb;obtain⟨bb,HBB⟩:=U9 (p.es.all (bE8 · v));rw[HBB.out]at HZ;rw[HBB.out]at hA';clear hA;generalize p.es.length=m at*;have hN:=fun w2 (hb:Below w.heap.size w w2)=>A7M p.n 0 v w2;obtain⟨bn,HBN⟩:=U9 (decide (0<=p.n) &&decide (p.n<=v));rw[HBN.out]at HZ;rw[HBN.out]at hN;generalize p.n=n at*;cases bn with
     |false=>
      simp only[Bool.false_and]at HZ;have HY:Hid (_):=HZ;clear HZ;go_wp2_with fail;refine wp_region_held_drew (S:=(fun w'=>w'.cell? ⟨w.heap.size,10,none⟩=some (.int .i64 n)/\w'.cell? ⟨w.heap.size,9,none⟩=some (.slice a2 m c2)/\w'.cell? ⟨w1.heap.size,0,none⟩=some (.int .i64 v))) (by kernel_rfl) ?_ (fun hHeld=>?_)
      ·refine⟨?_,?_,?_⟩<;>exact kp8
      refine tlY 0 117 rfl rfl ?_;refine tlY 1 118 rfl rfl ?_;refine tlY 2 119 rfl rfl ?_;refine tlY 3 120 rfl rfl ?_;refine tlY 4 121 rfl rfl ?_;refine tlY 5 122 rfl rfl ?_;refine tlY 6 123 rfl rfl ?_;refine tlY 7 124 rfl rfl ?_;refine tlY 8 125 rfl rfl ?_;refine tlY 9 126 rfl rfl ?_;refine tlY 10 127 rfl rfl ?_;refine tlY 11 128 rfl rfl ?_;refine wpAnyH_ready (rs:=[12]) (by kernel_rfl) (by simp) ?_;refine AllReadyH.cons rfl (fun KK hKK=>?_) AllReadyH.nil;go_simp;go_at_call 71;refine cM8 (hN _ bex) ?_;rintro y w3 ⟨rfl,hb3⟩;have hz3:=hb3.size;(try simp at hz3);try go_wp2_with fail
      refine hKK.out _ _ ?_ (fun A5A=>?_)
      ·refine⟨?_,?_,?_⟩<;>exact kp8
      clear hKK;refine tlY 13 130 rfl rfl ?_;refine tlN 14 131 rfl rfl ?_;refine tlN 15 132 rfl rfl ?_;refine tlN 16 133 rfl rfl ?_;refine tlN 17 134 rfl rfl ?_;refine tlY 18 135 rfl rfl ?_;refine tlY 19 136 rfl rfl ?_;refine tlN 20 137 rfl rfl ?_;refine tlN 21 138 rfl rfl ?_;refine tlN 22 139 rfl rfl ?_;refine tlN 23 140 rfl rfl ?_;refine tlN 24 141 rfl rfl ?_;refine tlN 25 142 rfl rfl ?_;refine tlY 26 143 rfl rfl ?_;refine tlY 27 9 rfl rfl ?_;refine tlY 28 10 rfl rfl ?_;refine wpAnyH_done (by kernel_rfl) ?_ _;go_wp2;go_returns;exact⟨by rw[HY.out];first|rfl|(rw[hm2];rfl)|(rw[hm1];rfl)|(rw[hm1,hm2];rfl),bex⟩
     |true=>
      have hbn:=HBN.out;rw[Bool.and_eq_true,decide_eq_true_eq,decide_eq_true_eq]at hbn;have hn0:0<=n:=hbn.1;have hn1:n<=12:=by omega
      rw[Bool.true_and]at HZ;clear hbn HBN;by_cases hm0:m<=1
      ·have A7k:(m:Int)<=1:=by omega
       have hm1:decide (m<=1)=true:=by simp;omega
       rw[hm1,Bool.true_and]at HZ;have hw1:IntKind.i64.wrap (n+1)=n+1:=by rw[IntKind.wrap_i64];omega
       have hw2:IntKind.i64.wrap (n+1+(m:Int))=n+1+(m:Int):=by rw[IntKind.wrap_i64];omega
       have HY:Hid (_):=HZ;clear HZ;go_wp2_with fail
       first|go_region_held3 (fun w'=>w'.cell? ⟨w.heap.size,10,none⟩=some (.int .i64 n)/\w'.cell? ⟨w.heap.size,9,none⟩=some (.slice a2 m c2)/\w'.cell? ⟨w1.heap.size,0,none⟩=some (.int .i64 v)) (refine⟨?_,?_,?_⟩<;>exact kp8) (first|(go_at_call 71;refine cM8 (hN _ bex) ?_;rintro y w3 ⟨rfl,hb3⟩;have hz3:=hb3.size;(try simp at hz3))|(go_at_call 70;refine cM8 (hA' _ bex) ?_;rintro y w3 ⟨rfl,hb3⟩;have hz3:=hb3.size;(try simp at hz3)))|fail
       by_cases hm12:12<n+1+(m:Int)
       ·have hm2:decide (n+1+(m:Int)<=12)=false:=by simp;omega
        cases bb<;>(go_wp2;go_returns;exact⟨by rw[HY.out];first|rfl|(rw[hm2];rfl)|(rw[hm1];rfl)|(rw[hm1,hm2];rfl),bex⟩)
       ·have hm2:decide (n+1+(m:Int)<=12)=true:=by simp;omega
        cases bb<;>(go_wp2;go_returns;exact⟨by rw[HY.out];first|rfl|(rw[hm2];rfl)|(rw[hm1];rfl)|(rw[hm1,hm2];rfl),bex⟩)
      ·have hm1:decide (m<=1)=false:=by simp;omega
       have A7k:¬ (m:Int)<=1:=by omega
       have hdm:decide ((m:Int)<=1)=false:=by simp;omega
       rw[hm1,Bool.false_and,Bool.false_and]at HZ;have HY:Hid (_):=HZ;clear HZ;go_wp2_with fail;refine wp_region_held_drew (S:=(fun w'=>w'.cell? ⟨w.heap.size,10,none⟩=some (.int .i64 n)/\w'.cell? ⟨w.heap.size,9,none⟩=some (.slice a2 m c2)/\w'.cell? ⟨w1.heap.size,0,none⟩=some (.int .i64 v))) (by kernel_rfl) ?_ (fun hHeld=>?_)
       ·refine⟨?_,?_,?_⟩<;>exact kp8
       refine tlY 0 117 rfl rfl ?_;refine tlY 1 118 rfl rfl ?_;refine tlY 2 119 rfl rfl ?_;refine tlY 3 120 rfl rfl ?_;refine tlY 4 121 rfl rfl ?_;refine tlY 5 122 rfl rfl ?_;refine tlY 6 123 rfl rfl ?_;refine tlY 7 124 rfl rfl ?_;refine tlY 8 125 rfl rfl ?_;refine tlY 9 126 rfl rfl ?_;refine tlY 10 127 rfl rfl ?_;refine tlY 11 128 rfl rfl ?_;refine wpAnyH_ready (rs:=[12]) (by kernel_rfl) (by simp) ?_;refine AllReadyH.cons rfl (fun KK hKK=>?_) AllReadyH.nil;go_simp;go_at_call 71;refine cM8 (hN _ bex) ?_;rintro y w3 ⟨rfl,hb3⟩;have hz3:=hb3.size;(try simp at hz3);try go_wp2_with fail
       refine hKK.out _ _ ?_ (fun A5A=>?_)
       ·refine⟨?_,?_,?_⟩<;>exact kp8
       clear hKK;refine tlY 13 130 rfl rfl ?_;refine tlY 14 131 rfl rfl ?_;refine tlY 15 132 rfl rfl ?_;refine tlY 16 133 rfl rfl ?_;refine tlY 17 134 rfl rfl ?_;try simp only[hdm]
       refine tlY 18 135 rfl rfl ?_;refine tlY 19 136 rfl rfl ?_;refine tlN 20 137 rfl rfl ?_;refine tlN 21 138 rfl rfl ?_;refine tlN 22 139 rfl rfl ?_;refine tlN 23 140 rfl rfl ?_;refine tlN 24 141 rfl rfl ?_;refine tlN 25 142 rfl rfl ?_;refine tlY 26 143 rfl rfl ?_;refine tlY 27 9 rfl rfl ?_;refine tlY 28 10 rfl rfl ?_;refine wpAnyH_done (by kernel_rfl) ?_ _;go_wp2;go_returns;exact⟨by rw[HY.out];first|rfl|(rw[hm2];rfl)|(rw[hm1];rfl)|(rw[hm1,hm2];rfl),bex⟩
theorem B1Q (rs:List R3):∀f,WdI rs f
 |0=>B3f rs
 |f+1=>B7l (B1Q rs f)
end
end Go.Proofs.YteekfcdllaceoaaGreatDoor
