/- Own texts, joined: contracts that the law's proof goes by. -/
import Derived.Test.YteekfcdllaceoaaGreatDoorGLAnswer3
import Derived.Test.YteekfcdllaceoaaGreatDoorGLAnswer1
import Derived.Test.YteekfcdllaceoaaGreatDoorGLAnswer7
import Derived.Test.YteekfcdllaceoaaGreatDoorGLAnswer8
import Derived.Test.YteekfcdllaceoaaGreatDoorGLAnswer9
import Derived.Deep.RegionHeld3
import Derived.Test.YteekfcdllaceoaaGreatDoorGLAnswer11
import Derived.Maps.AppendAt
import Derived.Test.YteekfcdllaceoaaGreatDoorBagOkS
set_option maxHeartbeats 16000000
set_option maxRecDepth 100000
set_option linter.unusedVariables false
set_option linter.unusedSimpArgs false
namespace Go.Proofs.YteekfcdllaceoaaGreatDoor
section
open Go.RowKit Go.Deep Go.ChangeShapes Go.WideShapes
theorem B9y {m:Int}{V:E7->List V3->V3}(hV:VOk m V)(W:Int)(v:Value)(cs:List C2)(F:List Nat)(e:E7)(ue:Value)(Fe:List Nat)(D:Nat)(w:World)(hr:C6 w v cs F)(hn:wtb cs<=1048576)(he:e.wf)(hok:okE 13 e=true)(hne:wtE e<=1048576)(hk0:C1 w D ue e.ks Fe)(J5:∀c∈cs,N8 c.r):Calls Tryz.prog 51 #[.agg #[.int .i64 W,v],(.agg #[.int .i64 e.k,.int .i64 e.n,.int .i64 e.v.k,.int .i64 e.v.n,.string e.v.s,.string e.p,ue])] w fun q w'=>(∃u us G,q=.returned (.agg #[.int .i64 W,u])/\C4 w' w.heap.size u (M9 V e cs) us G)/\Below w.heap.size w w':=by
 obtain⟨ae,ce,rfl,_,_⟩:=hk0.shape;have hGE:o3 e:=⟨he,hok,hne,w,D,_,Fe,hk0⟩;obtain⟨i0,hi,hz0,hz1,hz2⟩:=info_parts Tryz.infoCnt;obtain⟨a,c,b,o,G0,rfl,hl,hc,_,hG0,_,hC,ha⟩:=hr.pick;unfold maxLen at hc;clear hr;have hn1:cs.length<=1048576:=by unfold wtb at hn;omega
 go_enter Tryz.func51,Tryz.ntmps51;go_wp2;go_loopw [6] (fun i wr=> ∃ (k:Nat) (y:Value) (us:List Value) (G:List (List Nat)),k<=cs.length/\i=.int .i64 k/\p5 wr (w.heap.size+1) e (.slice ae e.ks.length ce)/\wr.cell? ⟨w.heap.size,0,none⟩=some (.int .i64 W)/\wr.cell? ⟨w.heap.size,1,none⟩=some (.slice a cs.length c)/\wr.cell? ⟨w.heap.size+1+1+1,0,none⟩=some (.int .i64 W)/\wr.cell? ⟨w.heap.size+1+1+1,1,none⟩=some y/\(∀q,wr.frozen? ⟨w.heap.size+1+1+1,q,none⟩=false)/\wr.cell? ⟨w.heap.size+1+1,0,none⟩=some (.int .i64 0)/\wr.cell? ⟨w.heap.size+1+1,1,none⟩=some (.slice none 0 0)/\(∀q,wr.frozen? ⟨w.heap.size+1+1,q,none⟩=false)/\C4 wr (w.heap.size+1+1+1+1) y (M9 V e (cs.take k)) us G/\Below w.heap.size w wr/\w.heap.size+1+1+1+1<=wr.heap.size) (fun i _=>cs.length - (intOf i).toNat)
 case atStart=>
  refine⟨0,.slice none 0 0,[],[],Nat.zero_le _,rfl,⟨by simp,by go_simp,by go_simp,by go_simp,by go_simp,by go_simp,by go_simp,by go_simp⟩,by go_simp,by go_simp,by go_simp,by go_simp,fun q=>by go_simp,by go_simp,by go_simp,fun q=>by go_simp,C4.nil _ _,bex,by simp⟩
 case round=>
  obtain⟨k,y,us,G,hk,rfl,hbx,b0,b1,p0,p1,pf,r0,r1,rf,hB,hb,hzb⟩:=hrel;by_cases hlt:k<cs.length
  ·obtain⟨rfl,hblt,_⟩:=ha k hlt;obtain⟨x,u0,g0,hx,_,c0,hR,c1,hbr⟩:=hC.at hG0 hblt hb hlt;obtain⟨a0,n0,rfl⟩:=hR.shape;have HX:Hid (cs[k]?=some x):=hx;have hxn:x.r.length<=1048576:=by have:=A0R (mg8 hx);unfold wt at this;unfold wtb at hn;omega
   have htk:(M9 V e (cs.take k)).length<=k:=Nat.le_trans (List.length_filter_le _ _) (by simp;omega);have hvl:=oL8 hB.own;have hv2:y.ownBlock≠some (w.heap.size+1+1+1):=fun e=>by have:=(hvl _ e).1;omega
   have hvr:y.ownBlock≠some (w.heap.size+1+1):=fun e=>by have:=(hvl _ e).1;omega
   have hvT:∀b,b<=w.heap.size+1->y.ownBlock≠some b:=fun b hb e=>by have:=(hvl _ e).1;omega
   have hkI:(k:Int)<cs.length:=by omega
   have hGl:=hB.lt;have HT:Hid (cs.take (k+1)=cs.take k++ [x]):=V9 hx;have hxV:N8 x.r:=J5 x (mg8 hx);have hml:(M9 V e (cs.take k)).length+1<=maxLen:=by unfold maxLen;omega
   have hby:((M9 V e (cs.take k)).length+1)*32<=140737488355328:=by omega
   have hEv:=fun(w2:World) (hb2:Below w.heap.size w w2)=>A4X (w:=w2) (v:=.slice a0 x.r.length n0) he (hk0.below hb2) (vs:=x.r) (m:=m) (r:=V e x.r);clear ha hC hx htk hvl;obtain⟨_,x0,x1,x2,x3,x4,x5,x6⟩:=id hbx;obtain⟨vv,HVV⟩:∃q,Hid (V e x.r=q):=⟨_,rfl⟩;have A0j:=hV.res e x.r hGE hxV;rw[HVV.out]at hEv A0j;go_wp2_with fail;go_region_held3 (fun w'=>w'.cell? ⟨w.heap.size+1,0,none⟩=some (.int .i64 e.k)/\w'.cell? ⟨w.heap.size+1,1,none⟩=some (.int .i64 e.n)/\w'.cell? ⟨w.heap.size+1,2,none⟩=some (.int .i64 e.v.k)/\w'.cell? ⟨w.heap.size+1,3,none⟩=some (.int .i64 e.v.n)/\w'.cell? ⟨w.heap.size+1,4,none⟩=some (.string e.v.s)/\w'.cell? ⟨w.heap.size+1,5,none⟩=some (.string e.p)/\w'.cell? ⟨w.heap.size+1,6,none⟩=some (.slice ae e.ks.length ce)/\w'.cell? ⟨w.heap.size,1,none⟩=some (.slice (some ⟨b,o,none⟩) cs.length c)/\w'.cell? ⟨b,o+k*2,none⟩=some (.slice a0 x.r.length n0)) (refine⟨?_,?_,?_,?_,?_,?_,?_,?_,?_⟩<;>exact kp8) (first|(go_at_call 76;refine cM8 (hEv _ bex (hR.below bex).is hok A0j) ?_;rintro z w4 ⟨rfl,hb4⟩;have hz4:=hb4.size;(try simp at hz4))|(go_at_call 75;refine cM8 (B1k vv _) ?_;rintro z w5 ⟨rfl,hb5⟩;have hz5:=hb5.size));have D7:Below wr.heap.size wr w5:=bex;have A9d:=D7.size;have C2P:Below w.heap.size w w5:=hb.trans (D7.mono hb.size);have A9U:=hbx.below D7;have hB5:=hB.below D7;have hR5:=hR.below D7;have b05:=bt8 D7 b0;have b15:=bt8 D7 b1
   have p05:=bt8 D7 p0;have p15:=bt8 D7 p1;have pf5:∀q,w5.frozen? ⟨w.heap.size+1+1+1,q,none⟩=false:=fun q=>((bc8 D7).2 _ q (by omega)).trans (pf q);have r05:=bt8 D7 r0;have r15:=bt8 D7 r1;have rf5:∀q,w5.frozen? ⟨w.heap.size+1+1,q,none⟩=false:=fun q=>((bc8 D7).2 _ q (by omega)).trans (rf q);have c05:=((bc8 D7).1 b (o+k*2) (by omega)).trans c0;have c15:=((bc8 D7).1 b (o+k*2+1) (by omega)).trans c1;have B5u:w.heap.size+1+1+1+1<=w5.heap.size:=by omega
   have C4Y:b<w5.heap.size:=by omega
   clear x0 x1 x2 x3 x4 x5 x6 hbx hB hR b0 b1 p0 p1 pf r0 r1 rf c0 c1 hb4 hb5 hEv A0j D7 hz4 hz5 hb hzb hbr;cases hT:Y5 vv with
   |false=>
    have HT2:Hid (M9 V e (cs.take (k+1))=M9 V e (cs.take k)):=by
     show _=_;rw[HT.out];unfold M9;rw[List.filter_append];simp[HVV.out,hT]
    rw[<-HT2.out]at hB5;go_wp2_with fail;exact⟨⟨k+1,_,_,_,hlt,by simp,A9U,b05,b15,p05,p15,pf5,r05,r15,rf5,hB5,C2P,B5u⟩,by simp[intOf];omega⟩
   |true=>
    have HT2:Hid (M9 V e (cs.take (k+1))=M9 V e (cs.take k)++ [x]):=by
     show _=_;rw[HT.out];unfold M9;rw[List.filter_append];simp[HVV.out,hT]
    clear hT HT;generalize M9 V e (cs.take k)=ct at*;go_wp2_with fail;refine Z4 19 (fun w'=>w'.cell? ⟨w.heap.size+1+1+1,1,none⟩=some y/\w'.cell? ⟨w.heap.size,1,none⟩=some (.slice (some ⟨b,o,none⟩) cs.length c)/\w'.cell? ⟨b,o+k*2,none⟩=some (.slice a0 x.r.length n0)/\w'.cell? ⟨b,o+k*2+1,none⟩=some (.int .i64 x.n)) (by kernel_rfl) ?_ (fun hHeld=>?_)
    ·exact⟨p15,b15,c05,c15⟩
    refine tkE 0 26 rfl rfl ?_;refine tkE 1 27 rfl rfl ?_;refine tkE 2 28 rfl rfl ?_;refine tkE 3 29 rfl rfl ?_;refine tkE 4 30 rfl rfl ?_;refine tkE 5 31 rfl rfl ?_;refine tkE 6 32 rfl rfl ?_;refine tkE 7 33 rfl rfl ?_;refine tkE 9 35 rfl rfl ?_;refine tkE 10 36 rfl rfl ?_;refine tkE 11 37 rfl rfl ?_;refine tkE 12 38 rfl rfl ?_;refine tkE 13 39 rfl rfl ?_;refine tkE 14 40 rfl rfl ?_;refine onE 8 rfl fun K hK=>?_;go_simp;go_at_call 74;refine cM8 (A3m (.slice a0 x.r.length n0) x.r g0 _ (hR5.below ?hbb) hxn) ?_
    case hbb=>exact bex
    rintro e w2 ⟨⟨u2,g2,rfl,hR2,hO2⟩,hb2⟩;obtain⟨a2,n2,rfl⟩:=hR2.shape;have Y9:=hb2.size;rw[show w5.drew.heap.size=w5.heap.size from rfl]at Y9;have C0:Below w5.heap.size w5 w2:=bex;have hB2:=hB5.below C0;have pf2:∀q,w2.frozen? ⟨w.heap.size+1+1+1,q,none⟩=false:=fun q=>((bc8 C0).2 _ q (by omega)).trans (pf5 q);have rf2:∀q,w2.frozen? ⟨w.heap.size+1+1,q,none⟩=false:=fun q=>((bc8 C0).2 _ q (by omega)).trans (rf5 q);have p02:=bt8 C0 p05;have p12:=bt8 C0 p15;have r02:=bt8 C0 r05;have r12:=bt8 C0 r15;have b02:=bt8 C0 b05;have b12:=bt8 C0 b15;have c02:=((bc8 C0).1 b (o+k*2) (by omega)).trans c05;have c12:=((bc8 C0).1 b (o+k*2+1) (by omega)).trans c15;try go_wp2_with fail
    refine hK.out _ _ ?_ (fun U7=>?_)
    ·intro _;exact⟨p12,b12,c02,c12⟩
    clear hK;replace U7:=U7 (by decide);refine tkE 15 41 rfl rfl ?_;refine onE 16 rfl fun K hK=>?_;go_simp;refine hK.out _ _ ?_ (fun i8=>?_)
    ·intro _;exact⟨(cb8 ba8).trans p12,(cb8 ba8).trans b12,(cb8 ba8).trans c02,(cb8 ba8).trans c12⟩
    clear hK;replace i8:=i8 (by decide);refine onE 17 rfl fun K hK=>?_;refine step_append_lies _ (by rfl) _ _ _ (by rfl) (w.heap.size+1+1+1+1) 116 i0 _ 2 32 Tryz.underlying33 hi hz0 hz1 hz2 rfl (by omega) y ct.length (cc us ct) (by rfl) (hB2.own.alloc _) ⟨w2.heap.size,0,none⟩ 1 1 [.slice a2 x.r.length n2,.int .i64 x.n] (by rfl) (by rfl) (World.news_of_block (cs:=#[.slice a2 x.r.length n2,.int .i64 x.n]) (t:=116) (fr:=(0,0)) (heap_alloc_new w2 _)) (by simp[Value.oneCell']) (by omega) hml hby (by simp;omega) (w2.heap.size+1) (by simp) ?_;intro gg cap w3 H5 hgrow hat j5;have hz3:=hgrow.size;simp at hz3;have far:∀b q,b<w2.heap.size->y.ownBlock≠some b->w3.cell? ⟨b,q,none⟩=w2.cell? ⟨b,q,none⟩:=fun b q hb hne=>(hgrow.cell_far _ (by simp;omega) (Ne.symm hne)).trans (cb8 (bA8 _ _ _ hb));have X0:∀b q,b<w2.heap.size->y.ownBlock≠some b->w3.frozen? ⟨b,q,none⟩=w2.frozen? ⟨b,q,none⟩:=fun b q hb hne=>(hgrow.frozen_far _ (by simp;omega) (Ne.symm hne)).trans (fb8 (bA8 _ _ _ hb));have pf3:∀q,w3.frozen? ⟨w.heap.size+1+1+1,q,none⟩=false:=fun q=>(X0 _ q (by omega) hv2).trans (pf2 q);have rf3:∀q,w3.frozen? ⟨w.heap.size+1+1,q,none⟩=false:=fun q=>(X0 _ q (by omega) hvr).trans (rf2 q);have p03:=(far (w.heap.size+1+1+1) 0 (by omega) hv2).trans p02;have p13:=(far (w.heap.size+1+1+1) 1 (by omega) hv2).trans p12;have r03:=(far (w.heap.size+1+1) 0 (by omega) hvr).trans r02;have r13:=(far (w.heap.size+1+1) 1 (by omega) hvr).trans r12;have hBp:=C4.push (hB2.below ((Below.refl _ _).alloc lr8 (.cells #[.slice a2 x.r.length n2,.int .i64 x.n] 116))) (hR2.below ((Below.refl _ _).alloc lr8 _)) ⟨hO2.1,fun b hb=>by have:=hO2.2.1 b hb;have:w5.drew.heap.size=w5.heap.size:=rfl;omega,fun b hb q=>(fb8 (bA8 _ _ _ (hR2.lt b hb))).trans (hO2.2.2 b hb q)⟩ (fun b hb hb'=>by have:=hO2.2.1 b hb';have:=hGl b hb;simp at*;omega) (fun b hb hb'=>by have:=hO2.2.1 b hb';have:=(oL8 hB5.own b hb).2;simp at*;omega) H5 hgrow (fun b hb=>by simp[Value.ownBlock]at hb;subst hb;rcases hat with h|h;exact .inl h;exact .inr (by simp;omega))
    have D6:Below w.heap.size w w3:=Below.grown bex hgrow (by simp;omega) (fun b hb=>by have:=(oL8 hB5.own b hb).1;omega);have b03:=(far w.heap.size 0 (by omega) (hvT _ (by omega))).trans b02;have b13:=(far w.heap.size 1 (by omega) (hvT _ (by omega))).trans b12;have c03:=(far b (o+k*2) (by omega) (hvT _ (by omega))).trans c02;have c13:=(far b (o+k*2+1) (by omega) (hvT _ (by omega))).trans c12;refine hK.out _ _ ?_ (fun A3A=>?_)
    ·intro _;exact⟨p13,b13,c03,c13⟩
    clear hK;replace A3A:=A3A (by decide);refine tkE 18 44 rfl rfl ?_;refine onE 19 rfl fun K hK=>?_;go_simp;refine hK.out _ _ ?_ (fun hHeld19=>?_)
    ·exact fun h=>absurd rfl h
    clear hK hHeld19;refine V6 (by kernel_rfl) ?_ _;have Q0:(w3.setCell ⟨w.heap.size+1+1+1,1,none⟩ (.slice (some ⟨gg,0,none⟩) (ct.length+1) cap)).cell? ⟨w.heap.size,0,none⟩=some (.int .i64 W):=(cO8 _ _ _ _ (by simp;try omega)).trans b03;have Q1:(w3.setCell ⟨w.heap.size+1+1+1,1,none⟩ (.slice (some ⟨gg,0,none⟩) (ct.length+1) cap)).cell? ⟨w.heap.size,1,none⟩=some (.slice (some ⟨b,o,none⟩) cs.length c):=(cO8 _ _ _ _ (by simp;try omega)).trans b13;have P0:(w3.setCell ⟨w.heap.size+1+1+1,1,none⟩ (.slice (some ⟨gg,0,none⟩) (ct.length+1) cap)).cell? ⟨w.heap.size+1+1+1,0,none⟩=some (.int .i64 W):=(cO8 _ _ _ _ (by simp)).trans p03;have P1:(w3.setCell ⟨w.heap.size+1+1+1,1,none⟩ (.slice (some ⟨gg,0,none⟩) (ct.length+1) cap)).cell? ⟨w.heap.size+1+1+1,1,none⟩=some (.slice (some ⟨gg,0,none⟩) (ct.length+1) cap):=cS8 _ _ _ p13;have PF:∀q,(w3.setCell ⟨w.heap.size+1+1+1,1,none⟩ (.slice (some ⟨gg,0,none⟩) (ct.length+1) cap)).frozen? ⟨w.heap.size+1+1+1,q,none⟩=false:=fun q=>by simpa using pf3 q
    have R0:(w3.setCell ⟨w.heap.size+1+1+1,1,none⟩ (.slice (some ⟨gg,0,none⟩) (ct.length+1) cap)).cell? ⟨w.heap.size+1+1,0,none⟩=some (.int .i64 0):=(cO8 _ _ _ _ (by simp)).trans r03;have R1:(w3.setCell ⟨w.heap.size+1+1+1,1,none⟩ (.slice (some ⟨gg,0,none⟩) (ct.length+1) cap)).cell? ⟨w.heap.size+1+1,1,none⟩=some (.slice none 0 0):=(cO8 _ _ _ _ (by simp)).trans r13;have RF:∀q,(w3.setCell ⟨w.heap.size+1+1+1,1,none⟩ (.slice (some ⟨gg,0,none⟩) (ct.length+1) cap)).frozen? ⟨w.heap.size+1+1,q,none⟩=false:=fun q=>by simpa using rf3 q
    have hBs:=hBp.keep (w':=w3.setCell ⟨w.heap.size+1+1+1,1,none⟩ (.slice (some ⟨gg,0,none⟩) (ct.length+1) cap)) (by simp) (fun b hb _=>bS8 _ _ _ _ (by simp;omega));rw[<-HT2.out]at hBs;have l7:Below w.heap.size w (w3.setCell ⟨w.heap.size+1+1+1,1,none⟩ (.slice (some ⟨gg,0,none⟩) (ct.length+1) cap)):=D6.setCell (by simp;omega) _;have hzS:w.heap.size+1+1+1+1<=(w3.setCell ⟨w.heap.size+1+1+1,1,none⟩ (.slice (some ⟨gg,0,none⟩) (ct.length+1) cap)).heap.size:=by simp;omega
    have hX3:p5 (w3.setCell ⟨w.heap.size+1+1+1,1,none⟩ (.slice (some ⟨gg,0,none⟩) (ct.length+1) cap)) (w.heap.size+1) e (.slice ae e.ks.length ce):=A9U.keep (by simp;omega) ((bS8 _ _ _ _ (by simp)).trans ((hgrow.block (w.heap.size+1) (by simp;omega) (fun h=>hvT _ lr8 h.symm)).trans ((ba8).trans (C0.block _ (by omega)))));clear H5 hgrow hat far X0 hBp hB2 hR2 hO2 hb2 hB5 p03 p13 pf3 r03 r13 rf3;go_wp2;exact⟨⟨k+1,_,_,_,hlt,by simp,hX3,Q0,Q1,P0,P1,PF,R0,R1,RF,hBs,l7,hzS⟩,by simp[intOf];omega⟩
  ·obtain rfl:k=cs.length:=by omega
   rw[List.take_length]at hB;obtain⟨ay,cy,rfl⟩:=hB.shape;clear ha hC;go_wp2;refine bodyPost_ret (v:=.agg #[.int .i64 W,.slice ay (M9 V e cs).length cy]) (by simp[results,Tryz.results51,go_sem, *]) rfl ⟨⟨_,us,G,rfl,(hB.keep (by simp) fun b hb _=>?_).weak (by omega)⟩,?_⟩
   ·repeat rw[bS8 _ _ _ _ (by simp;omega)]
   ·exact bs8
theorem Tryz.infoBagX:(Tryz.prog.info? 35).map (fun i=>(i.zero,i.size,i.bytes))=some (some (.agg #[.int .i64 0,.slice none 0 0]),2,32):=by kernel_rfl
theorem B3a {x:V3}(h:okW x=true):x.s.size<=100:=by
 have A6E:x.s.toList=[]->x.s.size<=100:=fun e=>by
  have e2:x.s=⟨#[]⟩:=by rw[ByteArray.toList_eq]at e;exact ByteArray.ext (Array.toList_inj.1 e)
  rw[e2];decide
 unfold okW okB at h;split at h
 ·simp at h;exact A6E h.2
 split at h
 ·simp at h;exact A6E h
 split at h
 ·simp at h;exact A6E h.2
 split at h
 ·simp at h;exact h.2
 ·cases h
theorem A8H:∀ {vs:List V3},(∀x∈vs,okW x=true)->wts vs<=100*vs.length
 | [],_=>Nat.le_refl _
 |x::vs,h=>by
  have h1:=B3a (h x (by simp));have h2:=A8H (vs:=vs) fun y hy=>h y (by simp[hy]);unfold wts at h2⊢;simp only[List.map_cons,List.sum_cons,List.length_cons];omega
theorem A8I:∀ {cs:List C2},(∀x∈cs,wt x.r<=1212)->W8 cs<=1212*cs.length
 | [],_=>Nat.le_refl _
 |x::cs,h=>by
  have h1:=h x (by simp);have h2:=A8I (cs:=cs) fun y hy=>h y (by simp[hy]);unfold W8 at h2⊢;simp only[List.map_cons,List.sum_cons,List.length_cons];omega
theorem K2.wtb {W:Int}{cs:List C2}(h:K2 W cs):wtb cs<=1048576:=by
 obtain⟨h1,h2,h3,_⟩:=h.all;have:W8 cs<=1212*cs.length:=A8I fun x hx=>by
  have hr:=h.row x hx;have h4:=A8H (vs:=x.r) fun y hy=>(hr.2 y hy).1;have h5:=hr.1;unfold wt;omega
 unfold Go.Proofs.YteekfcdllaceoaaGreatDoor.wtb;omega
def AnX (B R:Nat)(X:World):Prop:=(X.cell? ⟨B,0,none⟩=some (.int .i64 0)/\X.cell? ⟨B,1,none⟩=some (.slice none 0 0)/\∀q,X.frozen? ⟨B,q,none⟩=false)/\(X.cell? ⟨R,0,none⟩=some (.int .i64 0)/\X.cell? ⟨R,1,none⟩=some (.slice none 0 0)/\∀q,X.frozen? ⟨R,q,none⟩=false)
theorem A2m {X w5:World}{B R:Nat}(h:AnX B R X)(hb:Below X.heap.size X w5):w5.cell? ⟨B,0,none⟩=some (.int .i64 0)/\w5.cell? ⟨B,1,none⟩=some (.slice none 0 0)/\(∀q,w5.frozen? ⟨B,q,none⟩=false)/\w5.cell? ⟨R,0,none⟩=some (.int .i64 0)/\w5.cell? ⟨R,1,none⟩=some (.slice none 0 0)/\∀q,w5.frozen? ⟨R,q,none⟩=false:=by
 obtain⟨⟨a0,a1,a2⟩,b0,b1,b2⟩:=h;have hB:B<X.heap.size:=bl8 _ _ a0;have hR:R<X.heap.size:=bl8 _ _ b0;exact⟨((bc8 hb).1 _ _ hB).trans a0,((bc8 hb).1 _ _ hB).trans a1,fun q=>((bc8 hb).2 _ q hB).trans (a2 q),((bc8 hb).1 _ _ hR).trans b0,((bc8 hb).1 _ _ hR).trans b1,fun q=>((bc8 hb).2 _ q hR).trans (b2 q)⟩
def N7 (V:E7->List V3->V3)(rs:List R3)(f:Nat)(q:P12):B2:=⟨wP8 rs f q,(mP8 V rs f q).2⟩
def AnS (V:E7->List V3->V3)(rs:List R3)(f:Nat):Prop:=∀ (p:P12) (ue us u:Value) (g:List Nat) (D d:Nat) (vd:Value) (Fd:List Nat) (w:World),p.wf->H3 w D (E2 w D d) p ue us u g->wtP p<=1048576->H8 w vd rs Fd->A0P f p->0<=wP8 rs f p->(∀q∈p.ks,(mP8 V rs (f -1) q).1=true)->
  Calls Tryz.prog 24 #[vd,(.agg #[.int .i64 p.k,.string p.s,.int .i64 p.e.k,.int .i64 p.e.n,.int .i64 p.e.v.k,.int .i64 p.e.v.n,.string p.e.v.s,.string p.e.p,ue,us,.int .i64 p.n,u])] w fun x w'=>(∃u us G,x=.returned (.agg #[.int .i64 (wP8 rs f p),u])/\C4 w' w.heap.size u (mP8 V rs f p).2 us G)/\Below w.heap.size w w'
theorem A9j {V:E7->List V3->V3}{rs:List R3}{f:Nat}{q:P12}(h:(mP8 V rs f q).1=true):∀r∈q.ks,(mP8 V rs (f -1) r).1=true:=by
 cases f with
 |zero=>simp[mP8]at h
 |succ f=>
  unfold mP8 at h;simp only[Bool.and_eq_true,List.all_eq_true]at h;exact h.1
theorem B29 {m:Int}{V:E7->List V3->V3}(hV:VOk m V){rs:List R3}(hdb:G9 rs=true)(hrw:W7 rs){f:Nat}(ih:AnS V rs f):AnS V rs (f+1):=by
 intro p ue us u g D d vd Fd w hw hL hn hR hP hW hK;rw[Nat.add_sub_cancel]at hK;have hwt:=f9 p;obtain⟨i0,hi,hz0,hz1,M6⟩:=info_parts Tryz.infoBagX;obtain⟨a1,c1,a2,c2,a3,c3,rfl,rfl,rfl,s1,s2,s3,s4,s5,s6⟩:=hL.shape;obtain⟨ad,ld,cd,rfl⟩:=hR.is.shape;obtain⟨Fe,Fs,h,rfl,ke,kes,kp⟩:=hL;obtain⟨d,rfl⟩:∃d',d=d'+1:=by cases d with|zero=>exact kp.elim|succ d=>exact⟨d,rfl⟩
 obtain⟨a,c,b,o,G0,e0,hl,hc,hG0,_,ha⟩:=kp.pick;injection e0 with e1 e2 e3;subst e1 e3;unfold maxLen at hc;have hkw:∀q∈p.ks,0<=wP8 rs f q:=(l5 hW).2.1;have hI:=fun(x:P12) (y1 y2 y3:Value) (gx:List Nat) (w2:World) (hw2:x.wf) (hL2:H3 w2 D (E2 w2 D d) x y1 y2 y3 gx) (hn2:wtP x<=1048576) (hb:Below w.heap.size w w2) (hx:x∈p.ks)=>ih x y1 y2 y3 gx D d _ Fd w2 hw2 hL2 hn2 (hR.below hb) (hP.2.2 x hx) (hkw x hx) (A9j (hK x hx));have hM:=fun(x:P12) (hx:x∈p.ks)=>A6M hV hdb hrw (hP.2.2 x hx) (hkw x hx) (hK x hx);have hk2:p.ks.length<=2:=by
  have:=p7 (l5 hW).1;unfold O7 at this;split at this;omega;split at this;omega;split at this;omega;split at this;omega;split at this;omega;split at this;omega;split at this<;>omega
 have hB:=X2 w p (.slice a1 p.e.ks.length c1) (.slice a2 p.es.length c2) (.slice a3 p.ks.length c3) 45;have hm:(mP8 V rs (f+1) p).2=if p.k=0 then A0t rs p.s else P6 V p (mP8 V rs f (p.ks.getD 0 .nil)).2 (mP8 V rs f (p.ks.getD 1 .nil)).2:=by rw[mP8]
 obtain⟨RW,HRW⟩:=U9 (wP8 rs (f+1) p);obtain⟨RC,HRC⟩:=U9 (mP8 V rs (f+1) p).2;have HM:Hid (RC=if p.k=0 then A0t rs p.s else P6 V p (mP8 V rs f (p.ks.getD 0 .nil)).2 (mP8 V rs f (p.ks.getD 1 .nil)).2):=HRC.out.symm.trans hm;rw[HRW.out,HRC.out];clear ih hm s1 s2 s3 s4 s5 s6;go_enter Tryz.func24,Tryz.ntmps24;go_wp2_with fail;go_loopw [5,6] (fun y i wr=> ∃ (k:Nat) (us:List Value) (G:List (List Nat)),k<=p.ks.length/\i=.int .i64 k/\(∃ay cy,y=.slice ay k cy)/\O6 wr (w.heap.size+1+1) y ((p.ks.take k).map (N7 V rs f)) us G/\BxP wr w.heap.size p (.slice a1 p.e.ks.length c1) (.slice a2 p.es.length c2) (.slice a3 p.ks.length c3)/\wr.cell? ⟨w.heap.size+1,0,none⟩=some (.int .i64 0)/\wr.cell? ⟨w.heap.size+1,1,none⟩=some (.slice none 0 0)/\(∀q,wr.frozen? ⟨w.heap.size+1,q,none⟩=false)/\Below w.heap.size w wr/\w.heap.size+1<wr.heap.size) (fun _ i _=>p.ks.length - (intOf i).toNat)
 case atStart=>
  refine⟨0,[],[],Nat.zero_le _,rfl,⟨_,_,rfl⟩,O6.empty' (by simp),hB.below bex,by go_simp,by go_simp,fun q=>by go_simp,bex,by simp⟩
 case round=>
  obtain⟨k,us,G,hk,rfl,⟨ay,cy,rfl⟩,hO,hBr,r0,r1,rf,hb,hsz⟩:=hrel;have hzb:=hb.size;by_cases hlt:k<p.ks.length
  ·obtain⟨rfl,hblt,_,hL⟩:=ha k hlt;obtain⟨x,g,ue,us',u,hx,hg,hxw,⟨q0,q1,q2,q3,q4,q5,q6,q7,q8,q9,q10,q11⟩,hLx,hbr⟩:=hL.at hG0 hblt hb hlt;obtain⟨x_e,x_E,x_s,x_S,x_k,x_K,rfl,rfl,rfl,_,_,_,_,_,_⟩:=hLx.shape;have hxm:=mg8 hx;have hxn:wtP x<=1048576:=by have:=A2X hxm;omega
   have hV1:=hI x _ _ _ g wr hxw hLx hxn hb hxm;have HT:Hid ((p.ks.take (k+1)).map (N7 V rs f)=(p.ks.take k).map (N7 V rs f)++ [⟨wP8 rs f x,(mP8 V rs f x).2⟩]):=by
    obtain⟨hk',rfl⟩:=gE1 hx;show _=_;rw[List.take_succ_eq_append_getElem hk',List.map_append];rfl
   obtain⟨_,_,_,_,_,_,_,_,_,_,_,_,b11⟩:=id hBr;have htl:((p.ks.take k).map (N7 V rs f)).length=k:=by simp;omega
   have hkI:(k:Int)<p.ks.length:=by omega
   generalize(p.ks.take k).map (N7 V rs f)=bs at*;obtain rfl:k=bs.length:=htl.symm;generalize wP8 rs f x=xW at*;generalize(mP8 V rs f x).2=xC at*;clear ha hL hx hg hI hM hxw hLx hxn hxm;go_wp2_with fail;refine cM8 hV1 ?_;rintro z w2 ⟨⟨u2,us2,G2,rfl,hB2⟩,hb2⟩;obtain⟨F2,hF2,hO2⟩:=hB2.rowsF;obtain⟨a4,c4,rfl⟩:=hB2.shape;have hz2:=hb2.size;have C0:Below w.heap.size w w2:=hb.trans (hb2.mono hzb);have hOw:=hO.below hb2;have hol:=oL8 hO.own;have hGl:=hO.lt;have A0l:=hO2.2.1;have B0H:=hBr.below hb2;have r02:=((bc8 hb2).1 _ 0 hsz).trans r0;have r12:=((bc8 hb2).1 _ 1 hsz).trans r1;have rf2:∀q,w2.frozen? ⟨w.heap.size+1,q,none⟩=false:=fun q=>((bc8 hb2).2 _ q hsz).trans (rf q);have hl2:=hF2.lt;clear hV1 hb2 hB2 hO hBr r0 r1 rf q0 q1 q2 q3 q4 q5 q6 q7 q8 q9 q10 q11 b11;go_wp2_with(at_builtin;refine wpList_append_own_at _ rfl _ _ 92 rfl (w.heap.size+1+1) 35 i0 _ 2 32 Tryz.underlying92 hi hz0 hz1 M6 rfl (by decide) _ _ _ rfl (hOw.own.alloc _) ⟨w2.heap.size,0,none⟩ 1 1 [.int .i64 xW,.slice a4 xC.length c4] rfl rfl (World.news_of_block (cs:=#[.int .i64 xW,.slice a4 xC.length c4]) (t:=35) (fr:=(0,0)) (heap_alloc_new w2 _)) (by simp[Value.oneCell']) ?c3 ?c4 ?c5 ?_)
   case c3=>unfold maxLen;omega
   case c4=>omega
   case c5=>simp;omega
   intro v5 w5 D4 hgr5 _ hat5;have hz5:=hgr5.size;simp at hz5;have al2:Below w2.heap.size w2 (w2.alloc (.cells #[.int .i64 xW,.slice a4 xC.length c4] 35)):=(Below.refl _ _).alloc lr8 _;have hp:=O6.push (x:=⟨xW,xC⟩) (hOw.below al2) (hF2.below al2) ⟨hO2.1,fun b hb=>by have:=A0l b hb;omega,fun b hb q=>(fb8 (bA8 _ _ _ (hl2 b hb))).trans (hO2.2.2 b hb q)⟩ (fun b hb hb'=>by have:=A0l b hb';have:=hGl b hb;omega) (fun b hb hb'=>by have:=A0l b hb';have:=(hol b hb).2;omega) D4 hgr5 (fun b hb=>by
    rcases hat5 with e|e
    ·left;rw[<-e];exact hb
    ·right;rw[e]at hb;cases hb;simp)
   have hs5:∃ao cap,v5=.slice ao (bs.length+1) cap:=by
    rcases D4.2 with⟨_,h0⟩|⟨g,cap,cur,hv,_⟩
    ·exact absurd h0 (by omega)
    ·exact⟨_,cap,hv⟩
   obtain⟨ao,cap,rfl⟩:=hs5;have A7i:∀t,t<w.heap.size+1+1->(Value.slice ay bs.length cy).ownBlock≠some t:=fun t ht e=>by have:=(hol t e).1;omega
   have k5:∀t,t<w.heap.size+1+1->w5.heap[t]?=w2.heap[t]?:=fun t ht=>(hgr5.block t (by simp;omega) (fun e=>A7i t ht e.symm)).trans ba8;have B49:BxP w5 w.heap.size p (.slice a1 p.e.ks.length c1) (.slice a2 p.es.length c2) (.slice (some ⟨b,o,none⟩) p.ks.length c3):=by
    obtain⟨hl,h0,h1,h2,h3,h4,h5,h6,h7,h8,h9,h10,h11⟩:=B0H;have hk:=k5 w.heap.size (by omega);exact⟨by omega,(cb8 hk).trans h0,(cb8 hk).trans h1,(cb8 hk).trans h2,(cb8 hk).trans h3,(cb8 hk).trans h4,(cb8 hk).trans h5,(cb8 hk).trans h6,(cb8 hk).trans h7,(cb8 hk).trans h8,(cb8 hk).trans h9,(cb8 hk).trans h10,(cb8 hk).trans h11⟩
   have r05:=(cb8 (k5 (w.heap.size+1) (by omega))).trans r02;have r15:=(cb8 (k5 (w.heap.size+1) (by omega))).trans r12;have rf5:∀q,w5.frozen? ⟨w.heap.size+1,q,none⟩=false:=fun q=>(fb8 (k5 (w.heap.size+1) (by omega))).trans (rf2 q);have D7:Below w.heap.size w w5:=Below.grown (C0.alloc C0.size _) hgr5 (by simp;omega) (fun t ht=>by have:=(hol t ht).1;omega);rw[<-HT.out]at hp;have A0V:w.heap.size+1<w5.heap.size:=by omega
   clear D4 hgr5 hat5 hOw hF2 hO2 B0H k5 r02 r12 rf2 al2 HT;go_wp2_with fail;exact⟨⟨bs.length+1,_,_,hlt,by simp,⟨_,_,rfl⟩,hp,B49,r05,r15,rf5,D7,A0V⟩,by simp[intOf];omega⟩
  ·obtain rfl:k=p.ks.length:=by omega
   rw[List.take_length]at hO;clear ha hI;obtain⟨_,b0,b1,b2,b3,b4,b5,b6,b7,b8,b9,b10,b11⟩:=hBr;have hX0:=heap_alloc_new wr (.cells #[.int .i64 0,.slice none 0 0] 35);have A1N:Below w.heap.size w (wr.alloc (.cells #[.int .i64 0,.slice none 0 0] 35)):=hb.alloc hzb _;have alX:Below wr.heap.size wr (wr.alloc (.cells #[.int .i64 0,.slice none 0 0] 35)):=(Below.refl _ _).alloc lr8 _;have x0:(wr.alloc (.cells #[.int .i64 0,.slice none 0 0] 35)).cell? ⟨wr.heap.size,0,none⟩=some (.int .i64 0):=by go_simp
   have x1:(wr.alloc (.cells #[.int .i64 0,.slice none 0 0] 35)).cell? ⟨wr.heap.size,1,none⟩=some (.slice none 0 0):=by go_simp
   have xf:∀q,(wr.alloc (.cells #[.int .i64 0,.slice none 0 0] 35)).frozen? ⟨wr.heap.size,q,none⟩=false:=fun q=>by go_simp
   have hzx:(wr.alloc (.cells #[.int .i64 0,.slice none 0 0] 35)).heap.size=wr.heap.size+1:=by simp
   have HX:Hid (AnX wr.heap.size (w.heap.size+1) (wr.alloc (.cells #[.int .i64 0,.slice none 0 0] 35))):=⟨⟨x0,x1,xf⟩,(cb8 ba8).trans r0,(cb8 ba8).trans r1,fun q=>(fb8 ba8).trans (rf q)⟩;rcases B06 hW with h0|h0|h0|h0|h0|h0|h0
   ·have HM1:=HM.out;rw[if_pos h0]at HM1;obtain⟨hks,x,hx,eW⟩:=A9s hW h0;have HWW:Hid (x.W=RW):=eW.symm.trans HRW.out;unfold A0t at HM1;rw[hx]at HM1;have HP:Hid (x.cs=RC):=HM1.symm;have hxm:=A4m hx;have hpl:S5 x.W x.cs=true:=by
     have h5:=hdb;simp only[G9,Bool.and_eq_true]at h5;exact A3z h5.2 x hxm
    have hMx:=A5r hpl (hrw x hxm).2.2;have hwx:=hMx.wtb;have b0x:(wr.alloc (.cells #[.int .i64 0,.slice none 0 0] 35)).cell? ⟨w.heap.size,0,none⟩=some (.int .i64 p.k):=(cb8 ba8).trans b0;have b1x:(wr.alloc (.cells #[.int .i64 0,.slice none 0 0] 35)).cell? ⟨w.heap.size,1,none⟩=some (.string p.s):=(cb8 ba8).trans b1;clear HM1 HM;have k0:(p.k==0)=true:=by rw[h0];rfl
    have k1:(p.k==1)=false:=by rw[h0];rfl
    have k2:(p.k==2)=false:=by rw[h0];rfl
    have k3:(p.k==3)=false:=by rw[h0];rfl
    have k4:(p.k==4)=false:=by rw[h0];rfl
    have k5:(p.k==5)=false:=by rw[h0];rfl
    have k6:(p.k==6)=false:=by rw[h0];rfl
    have hp0:((p.ks.length:Nat):Int)=0:=by rw[hks];rfl
    go_wp2_with fail;refine cM8 (B0V p.s _ rs Fd _ (hR.below A1N)) ?_;rintro z w4 ⟨⟨W4,u4,rfl,⟨au,lu,cu,rfl⟩,hrel4⟩,hb4⟩;obtain⟨eW4,g4,hg4⟩:=hrel4 x hx;subst eW4;have hz4:=hb4.size;simp at hz4;have I3:Below w.heap.size w w4:=A1N.trans (hb4.mono (by simp;omega));have r04:=((bc8 hb4).1 (w.heap.size+1) 0 (by simp;omega)).trans ((cb8 ba8).trans r0);have r14:=((bc8 hb4).1 (w.heap.size+1) 1 (by simp;omega)).trans ((cb8 ba8).trans r1);have rf4:∀qq,w4.frozen? ⟨w.heap.size+1,qq,none⟩=false:=fun qq=>((bc8 hb4).2 _ qq (by simp;omega)).trans ((fb8 ba8).trans (rf qq));clear hrel4 hb4;go_wp2_with fail;have hCp:=B0N x.W (.slice au lu cu) x.cs g4;refine cM8 (hCp _ (hg4.below bex) hwx) ?_;rw[HP.out];rintro z w5 ⟨⟨u5,us5,G5,rfl,hB5⟩,hb5⟩;obtain⟨a5,c5,rfl⟩:=hB5.shape;have hz5:=hb5.size;simp at hz5;have A3a:Below w4.heap.size w4 w5:=bex;have r05:=bt8 A3a r04;have r15:=bt8 A3a r14;have rf5:∀qq,w5.frozen? ⟨w.heap.size+1,qq,none⟩=false:=fun qq=>((bc8 A3a).2 _ qq (by omega)).trans (rf4 qq);have D7:Below w.heap.size w w5:=I3.trans (A3a.mono (by omega));(try simp only[World.size_alloc,World.size_drew]at hB5);clear r04 r14 rf4 hb5 A3a hg4 hCp;go_wp2_with fail;refine bodyPost_ret (v:=.agg #[.int .i64 x.W,.slice a5 RC.length c5]) (by simp[results,Tryz.results24,go_sem, *]) rfl ⟨⟨_,us5,G5,by rw[HWW.out],(hB5.keep (by simp) fun b hb _=>?_).weak (by omega)⟩,?_⟩
    ·repeat rw[bS8 _ _ _ _ (by simp;omega)]
    ·exact bs8
   ·have HM1:=HM.out;rw[if_neg (by omega)]at HM1;obtain⟨q,hq,hwq,hbe,eW⟩:=A5q hW h0;rw[V7 hq]at HM1;unfold P6 at HM1;rw[if_pos h0]at HM1;have HP:Hid (_=RC):=HM1.symm;clear HM1 HM;have HWW:Hid (wP8 rs f q=RW):=eW.symm.trans HRW.out;have hoe:okE 13 p.e=true:=by unfold bE8 at hbe;rw[Bool.and_eq_true]at hbe;exact hbe.1
    have A7A:=hw.2.2.1;have A16:wtE p.e<=1048576:=by omega
    rw[hq]at hO;have hq1:p.ks.length=1:=by rw[hq];rfl
    obtain⟨gl0,cap0,u0,F0,ev0,hgl0,_,_,l00,l01,hF0⟩:=hO.at (i:=0) (x:=N7 V rs f q) rfl;injection ev0 with ev1 ev2 ev3;subst ev1 ev3;have Z3:=hF0.below alX;change C6 _ _ (mP8 V rs f q).2 _ at hF0 Z3;obtain⟨au0,lu0,cu0,rfl⟩:=hF0.is.shape;have A3S:(wr.alloc (.cells #[.int .i64 0,.slice none 0 0] 35)).cell? ⟨gl0,0,none⟩=some (.int .i64 (wP8 rs f q)):=(cb8 ba8).trans l00;have A3q:(wr.alloc (.cells #[.int .i64 0,.slice none 0 0] 35)).cell? ⟨gl0,1,none⟩=some (.slice au0 lu0 cu0):=(cb8 ba8).trans l01;have hM0:=hM q (by rw[hq];simp);have A0M:=hM0.wtb;have A05:=hM0.all;have b2x:(wr.alloc (.cells #[.int .i64 0,.slice none 0 0] 35)).cell? ⟨w.heap.size,2,none⟩=some (.int .i64 p.e.k):=(cb8 ba8).trans b2;have b3x:(wr.alloc (.cells #[.int .i64 0,.slice none 0 0] 35)).cell? ⟨w.heap.size,3,none⟩=some (.int .i64 p.e.n):=(cb8 ba8).trans b3;have b4x:(wr.alloc (.cells #[.int .i64 0,.slice none 0 0] 35)).cell? ⟨w.heap.size,4,none⟩=some (.int .i64 p.e.v.k):=(cb8 ba8).trans b4;have b5x:(wr.alloc (.cells #[.int .i64 0,.slice none 0 0] 35)).cell? ⟨w.heap.size,5,none⟩=some (.int .i64 p.e.v.n):=(cb8 ba8).trans b5;have b6x:(wr.alloc (.cells #[.int .i64 0,.slice none 0 0] 35)).cell? ⟨w.heap.size,6,none⟩=some (.string p.e.v.s):=(cb8 ba8).trans b6;have b7x:(wr.alloc (.cells #[.int .i64 0,.slice none 0 0] 35)).cell? ⟨w.heap.size,7,none⟩=some (.string p.e.p):=(cb8 ba8).trans b7
    have b8x:(wr.alloc (.cells #[.int .i64 0,.slice none 0 0] 35)).cell? ⟨w.heap.size,8,none⟩=some (.slice a1 p.e.ks.length c1):=(cb8 ba8).trans b8;have D3:((p.ks.length:Nat):Int)=1:=by rw[hq1];rfl
    rw[hq1]at hk hlt;have k0:(p.k==0)=false:=by rw[h0];rfl
    have k1:(p.k==1)=true:=by rw[h0];rfl
    have k2:(p.k==2)=false:=by rw[h0];rfl
    have k3:(p.k==3)=false:=by rw[h0];rfl
    have k4:(p.k==4)=false:=by rw[h0];rfl
    have k5:(p.k==5)=false:=by rw[h0];rfl
    have k6:(p.k==6)=false:=by rw[h0];rfl
    have lw:w.heap.size<wr.heap.size:=by omega
    have nw:¬w.heap.size=wr.heap.size:=by omega
    have ng:¬gl0=wr.heap.size:=by omega
    go_wp2_with fail;go_region_held3 (fun w'=>w'.cell? ⟨gl0,0,none⟩=some (.int .i64 (wP8 rs f q))/\w'.cell? ⟨gl0,1,none⟩=some (.slice au0 lu0 cu0)/\w'.cell? ⟨w.heap.size,2,none⟩=some (.int .i64 p.e.k)/\w'.cell? ⟨w.heap.size,3,none⟩=some (.int .i64 p.e.n)/\w'.cell? ⟨w.heap.size,4,none⟩=some (.int .i64 p.e.v.k)/\w'.cell? ⟨w.heap.size,5,none⟩=some (.int .i64 p.e.v.n)/\w'.cell? ⟨w.heap.size,6,none⟩=some (.string p.e.v.s)/\w'.cell? ⟨w.heap.size,7,none⟩=some (.string p.e.p)/\w'.cell? ⟨w.heap.size,8,none⟩=some (.slice a1 p.e.ks.length c1)) (refine⟨?_,?_,?_,?_,?_,?_,?_,?_,?_⟩<;>exact kp8) (first|(go_at_call 51;have f8:=B9y hV (wP8 rs f q) (.slice au0 lu0 cu0) (mP8 V rs f q).2 F0 p.e (.slice a1 p.e.ks.length c1) Fe D;rw[HP.out]at f8;refine cM8 (f8 _ (Z3.below bex) A0M A7A hoe A16 (ke.below bex) (fun c hc=>(hM0.row c hc).2)) ?_;rintro z w5 ⟨⟨u5,us5,G5,rfl,hB5⟩,hb5⟩;obtain⟨a5,c5,rfl⟩:=hB5.shape;have hz5:=hb5.size;(try simp at hz5);obtain⟨x05,x15,xf5,r05,r15,rf5⟩:=A2m (w5:=w5) HX.out bex));have I4:Below (wr.alloc (.cells #[.int .i64 0,.slice none 0 0] 35)).heap.size (wr.alloc (.cells #[.int .i64 0,.slice none 0 0] 35)) w5:=bex;have D7:Below w.heap.size w w5:=A1N.trans (I4.mono (by simp;omega));(try simp only[World.size_alloc,World.size_drew]at hB5);clear hb5 I4;go_wp2_with fail;refine bodyPost_ret (v:=.agg #[.int .i64 (wP8 rs f q),.slice a5 RC.length c5]) (by simp[results,Tryz.results24,go_sem, *]) rfl ⟨⟨_,us5,G5,by rw[HWW.out],(hB5.keep (by simp) fun b hb _=>?_).weak (by omega)⟩,?_⟩
    ·repeat rw[bS8 _ _ _ _ (by simp;omega)]
    ·exact bs8
   ·have HM1:=HM.out;rw[if_neg (by omega)]at HM1;obtain⟨q,hq,hwq,hes0,hbe,eW⟩:=A6p hW h0;rw[V7 hq]at HM1;unfold P6 at HM1;rw[if_neg (by omega),if_pos h0]at HM1;have HP:Hid (_=RC):=HM1.symm;clear HM1 HM;have HWW:Hid ((p.es.length:Int)=RW):=eW.symm.trans HRW.out;have B3w:p.es.length<=12:=by have:=wL8 rs (f+1) p;omega
    have hoe:∀e∈p.es,okE 13 e=true:=fun e he=>by have:=hbe e he;unfold bE8 at this;rw[Bool.and_eq_true]at this;exact this.1
    have A16:∀e∈p.es,wtE e<=1048576:=fun e he=>by have:=A0a he;omega
    rw[hq]at hO;have hq1:p.ks.length=1:=by rw[hq];rfl
    obtain⟨gl0,cap0,u0,F0,ev0,hgl0,_,_,l00,l01,hF0⟩:=hO.at (i:=0) (x:=N7 V rs f q) rfl;injection ev0 with ev1 ev2 ev3;subst ev1 ev3;have Z3:=hF0.below alX;change C6 _ _ (mP8 V rs f q).2 _ at hF0 Z3;obtain⟨au0,lu0,cu0,rfl⟩:=hF0.is.shape;have A3S:(wr.alloc (.cells #[.int .i64 0,.slice none 0 0] 35)).cell? ⟨gl0,0,none⟩=some (.int .i64 (wP8 rs f q)):=(cb8 ba8).trans l00;have A3q:(wr.alloc (.cells #[.int .i64 0,.slice none 0 0] 35)).cell? ⟨gl0,1,none⟩=some (.slice au0 lu0 cu0):=(cb8 ba8).trans l01;have hM0:=hM q (by rw[hq];simp);have A0M:=hM0.wtb;have A05:=hM0.all;have b9x:(wr.alloc (.cells #[.int .i64 0,.slice none 0 0] 35)).cell? ⟨w.heap.size,9,none⟩=some (.slice a2 p.es.length c2):=(cb8 ba8).trans b9;have D3:((p.ks.length:Nat):Int)=1:=by rw[hq1];rfl
    rw[hq1]at hk hlt;have k0:(p.k==0)=false:=by rw[h0];rfl
    have k1:(p.k==1)=false:=by rw[h0];rfl
    have k2:(p.k==2)=true:=by rw[h0];rfl
    have k3:(p.k==3)=false:=by rw[h0];rfl
    have k4:(p.k==4)=false:=by rw[h0];rfl
    have k5:(p.k==5)=false:=by rw[h0];rfl
    have k6:(p.k==6)=false:=by rw[h0];rfl
    have lw:w.heap.size<wr.heap.size:=by omega
    have nw:¬w.heap.size=wr.heap.size:=by omega
    have ng:¬gl0=wr.heap.size:=by omega
    go_wp2_with fail;go_region_held3 (fun w'=>w'.cell? ⟨gl0,0,none⟩=some (.int .i64 (wP8 rs f q))/\w'.cell? ⟨gl0,1,none⟩=some (.slice au0 lu0 cu0)/\w'.cell? ⟨w.heap.size,9,none⟩=some (.slice a2 p.es.length c2)) (refine⟨?_,?_,?_⟩<;>exact kp8) (first|(go_at_call 52;have f8:=B2p hV (wP8 rs f q) (.slice au0 lu0 cu0) (mP8 V rs f q).2 F0 (.slice a2 p.es.length c2) p.es Fs D;refine cM8 (f8 _ (Z3.below bex) A0M A05.2.2.1 B3w (kes.below bex) hoe A16 (fun c hc=>(hM0.row c hc).2) A05.2.2.2 _ HP) ?_;rintro z w5 ⟨⟨u5,us5,G5,rfl,hB5⟩,hb5⟩;obtain⟨a5,c5,rfl⟩:=hB5.shape;have hz5:=hb5.size;(try simp at hz5);obtain⟨x05,x15,xf5,r05,r15,rf5⟩:=A2m (w5:=w5) HX.out bex));have I4:Below (wr.alloc (.cells #[.int .i64 0,.slice none 0 0] 35)).heap.size (wr.alloc (.cells #[.int .i64 0,.slice none 0 0] 35)) w5:=bex;have D7:Below w.heap.size w w5:=A1N.trans (I4.mono (by simp;omega));(try simp only[World.size_alloc,World.size_drew]at hB5);clear hb5 I4;go_wp2_with fail;refine bodyPost_ret (v:=.agg #[.int .i64 (p.es.length:Int),.slice a5 RC.length c5]) (by simp[results,Tryz.results24,go_sem, *]) rfl ⟨⟨_,us5,G5,by rw[HWW.out],(hB5.keep (by simp) fun b hb _=>?_).weak (by omega)⟩,?_⟩
    ·repeat rw[bS8 _ _ _ _ (by simp;omega)]
    ·exact bs8
   ·have HM1:=HM.out;rw[if_neg (by omega)]at HM1;obtain⟨q,q',hq,hwq,hwq',hbe,eW⟩:=A50 hW h0;rw[(Y0 hq).1,(Y0 hq).2]at HM1;unfold P6 at HM1;rw[if_neg (by omega),if_neg (by omega),if_pos h0]at HM1;have HP:Hid (_=RC):=HM1.symm;clear HM1 HM;have HWW:Hid (wP8 rs f q+wP8 rs f q'=RW):=eW.symm.trans HRW.out;have hoe:okE 13 p.e=true:=by unfold bE8 at hbe;rw[Bool.and_eq_true]at hbe;exact hbe.1
    have A7A:=hw.2.2.1;have A16:wtE p.e<=1048576:=by omega
    rw[hq]at hO;have hq1:p.ks.length=2:=by rw[hq];rfl
    obtain⟨gl0,cap0,u0,F0,ev0,hgl0,_,_,l00,l01,hF0⟩:=hO.at (i:=0) (x:=N7 V rs f q) rfl;injection ev0 with ev1 ev2 ev3;subst ev1 ev3;have Z3:=hF0.below alX;change C6 _ _ (mP8 V rs f q).2 _ at hF0 Z3;obtain⟨au0,lu0,cu0,rfl⟩:=hF0.is.shape;have A3S:(wr.alloc (.cells #[.int .i64 0,.slice none 0 0] 35)).cell? ⟨gl0,0,none⟩=some (.int .i64 (wP8 rs f q)):=(cb8 ba8).trans l00;have A3q:(wr.alloc (.cells #[.int .i64 0,.slice none 0 0] 35)).cell? ⟨gl0,1,none⟩=some (.slice au0 lu0 cu0):=(cb8 ba8).trans l01;have hM0:=hM q (by rw[hq];simp);have A0M:=hM0.wtb;have A05:=hM0.all;obtain⟨gl1,cap1,u1,F1,ev1,hgl1,_,_,l10,l11,hF1⟩:=hO.at (i:=1) (x:=N7 V rs f q') rfl;injection ev1 with ev1 ev2 ev3;cases ev1;have A29:=hF1.below alX;change C6 _ _ (mP8 V rs f q').2 _ at hF1 A29;obtain⟨au1,lu1,cu1,rfl⟩:=hF1.is.shape;have B7T:(wr.alloc (.cells #[.int .i64 0,.slice none 0 0] 35)).cell? ⟨gl0,2,none⟩=some (.int .i64 (wP8 rs f q')):=(cb8 ba8).trans l10;have B4P:(wr.alloc (.cells #[.int .i64 0,.slice none 0 0] 35)).cell? ⟨gl0,3,none⟩=some (.slice au1 lu1 cu1):=(cb8 ba8).trans l11;have hM1:=hM q' (by rw[hq];simp);have A6K:=hM1.wtb;have A9z:=hM1.all;have b2x:(wr.alloc (.cells #[.int .i64 0,.slice none 0 0] 35)).cell? ⟨w.heap.size,2,none⟩=some (.int .i64 p.e.k):=(cb8 ba8).trans b2;have b3x:(wr.alloc (.cells #[.int .i64 0,.slice none 0 0] 35)).cell? ⟨w.heap.size,3,none⟩=some (.int .i64 p.e.n):=(cb8 ba8).trans b3
    have b4x:(wr.alloc (.cells #[.int .i64 0,.slice none 0 0] 35)).cell? ⟨w.heap.size,4,none⟩=some (.int .i64 p.e.v.k):=(cb8 ba8).trans b4;have b5x:(wr.alloc (.cells #[.int .i64 0,.slice none 0 0] 35)).cell? ⟨w.heap.size,5,none⟩=some (.int .i64 p.e.v.n):=(cb8 ba8).trans b5;have b6x:(wr.alloc (.cells #[.int .i64 0,.slice none 0 0] 35)).cell? ⟨w.heap.size,6,none⟩=some (.string p.e.v.s):=(cb8 ba8).trans b6;have b7x:(wr.alloc (.cells #[.int .i64 0,.slice none 0 0] 35)).cell? ⟨w.heap.size,7,none⟩=some (.string p.e.p):=(cb8 ba8).trans b7;have b8x:(wr.alloc (.cells #[.int .i64 0,.slice none 0 0] 35)).cell? ⟨w.heap.size,8,none⟩=some (.slice a1 p.e.ks.length c1):=(cb8 ba8).trans b8;have D3:((p.ks.length:Nat):Int)=2:=by rw[hq1];rfl
    rw[hq1]at hk hlt;have k0:(p.k==0)=false:=by rw[h0];rfl
    have k1:(p.k==1)=false:=by rw[h0];rfl
    have k2:(p.k==2)=false:=by rw[h0];rfl
    have k3:(p.k==3)=true:=by rw[h0];rfl
    have k4:(p.k==4)=false:=by rw[h0];rfl
    have k5:(p.k==5)=false:=by rw[h0];rfl
    have k6:(p.k==6)=false:=by rw[h0];rfl
    have lw:w.heap.size<wr.heap.size:=by omega
    have nw:¬w.heap.size=wr.heap.size:=by omega
    have ng:¬gl0=wr.heap.size:=by omega
    go_wp2_with fail;go_region_held3 (fun w'=>w'.cell? ⟨gl0,0,none⟩=some (.int .i64 (wP8 rs f q))/\w'.cell? ⟨gl0,2,none⟩=some (.int .i64 (wP8 rs f q'))/\w'.cell? ⟨gl0,1,none⟩=some (.slice au0 lu0 cu0)/\w'.cell? ⟨gl0,3,none⟩=some (.slice au1 lu1 cu1)/\w'.cell? ⟨w.heap.size,2,none⟩=some (.int .i64 p.e.k)/\w'.cell? ⟨w.heap.size,3,none⟩=some (.int .i64 p.e.n)/\w'.cell? ⟨w.heap.size,4,none⟩=some (.int .i64 p.e.v.k)/\w'.cell? ⟨w.heap.size,5,none⟩=some (.int .i64 p.e.v.n)/\w'.cell? ⟨w.heap.size,6,none⟩=some (.string p.e.v.s)/\w'.cell? ⟨w.heap.size,7,none⟩=some (.string p.e.p)/\w'.cell? ⟨w.heap.size,8,none⟩=some (.slice a1 p.e.ks.length c1)) (refine⟨?_,?_,?_,?_,?_,?_,?_,?_,?_,?_,?_⟩<;>exact kp8) (first|(go_at_call 53;have f8:=B9Q hV (wP8 rs f q) (wP8 rs f q') (.slice au0 lu0 cu0) (.slice au1 lu1 cu1) (mP8 V rs f q).2 (mP8 V rs f q').2 F0 F1 p.e (.slice a1 p.e.ks.length c1) Fe D;refine cM8 (f8 _ (Z3.below bex) (A29.below bex) hM0 hM1 A0M A6K A7A hoe A16 (ke.below bex) _ HP) ?_;rintro z w5 ⟨⟨u5,us5,G5,rfl,hB5⟩,hb5⟩;obtain⟨a5,c5,rfl⟩:=hB5.shape;have hz5:=hb5.size;(try simp at hz5);obtain⟨x05,x15,xf5,r05,r15,rf5⟩:=A2m (w5:=w5) HX.out bex));have I4:Below (wr.alloc (.cells #[.int .i64 0,.slice none 0 0] 35)).heap.size (wr.alloc (.cells #[.int .i64 0,.slice none 0 0] 35)) w5:=bex;have D7:Below w.heap.size w w5:=A1N.trans (I4.mono (by simp;omega));(try simp only[World.size_alloc,World.size_drew]at hB5)
    clear hb5 I4;go_wp2_with fail;refine bodyPost_ret (v:=.agg #[.int .i64 (wP8 rs f q+wP8 rs f q'),.slice a5 RC.length c5]) (by simp[results,Tryz.results24,go_sem, *]) rfl ⟨⟨_,us5,G5,by rw[HWW.out],(hB5.keep (by simp) fun b hb _=>?_).weak (by omega)⟩,?_⟩
    ·repeat rw[bS8 _ _ _ _ (by simp;omega)]
    ·exact bs8
   ·have HM1:=HM.out;rw[if_neg (by omega)]at HM1;obtain⟨q,q',hq,hwq,hww',eW⟩:=A6c hW h0;rw[(Y0 hq).1,(Y0 hq).2]at HM1;unfold P6 at HM1;rw[if_neg (by omega),if_neg (by omega),if_neg (by omega),if_pos h0]at HM1;have HP:Hid (_=RC):=HM1.symm;clear HM1 HM;have HWW:Hid (wP8 rs f q=RW):=eW.symm.trans HRW.out;clear hww';rw[hq]at hO;have hq1:p.ks.length=2:=by rw[hq];rfl
    obtain⟨gl0,cap0,u0,F0,ev0,hgl0,_,_,l00,l01,hF0⟩:=hO.at (i:=0) (x:=N7 V rs f q) rfl;injection ev0 with ev1 ev2 ev3;subst ev1 ev3;have Z3:=hF0.below alX;change C6 _ _ (mP8 V rs f q).2 _ at hF0 Z3;obtain⟨au0,lu0,cu0,rfl⟩:=hF0.is.shape;have A3S:(wr.alloc (.cells #[.int .i64 0,.slice none 0 0] 35)).cell? ⟨gl0,0,none⟩=some (.int .i64 (wP8 rs f q)):=(cb8 ba8).trans l00;have A3q:(wr.alloc (.cells #[.int .i64 0,.slice none 0 0] 35)).cell? ⟨gl0,1,none⟩=some (.slice au0 lu0 cu0):=(cb8 ba8).trans l01;have hM0:=hM q (by rw[hq];simp);have A0M:=hM0.wtb;have A05:=hM0.all;obtain⟨gl1,cap1,u1,F1,ev1,hgl1,_,_,l10,l11,hF1⟩:=hO.at (i:=1) (x:=N7 V rs f q') rfl;injection ev1 with ev1 ev2 ev3;cases ev1;have A29:=hF1.below alX;change C6 _ _ (mP8 V rs f q').2 _ at hF1 A29;obtain⟨au1,lu1,cu1,rfl⟩:=hF1.is.shape;have B7T:(wr.alloc (.cells #[.int .i64 0,.slice none 0 0] 35)).cell? ⟨gl0,2,none⟩=some (.int .i64 (wP8 rs f q')):=(cb8 ba8).trans l10;have B4P:(wr.alloc (.cells #[.int .i64 0,.slice none 0 0] 35)).cell? ⟨gl0,3,none⟩=some (.slice au1 lu1 cu1):=(cb8 ba8).trans l11;have hM1:=hM q' (by rw[hq];simp);have A6K:=hM1.wtb;have A9z:=hM1.all;have D3:((p.ks.length:Nat):Int)=2:=by rw[hq1];rfl
    rw[hq1]at hk hlt;have k0:(p.k==0)=false:=by rw[h0];rfl
    have k1:(p.k==1)=false:=by rw[h0];rfl
    have k2:(p.k==2)=false:=by rw[h0];rfl
    have k3:(p.k==3)=false:=by rw[h0];rfl
    have k4:(p.k==4)=true:=by rw[h0];rfl
    have k5:(p.k==5)=false:=by rw[h0];rfl
    have k6:(p.k==6)=false:=by rw[h0];rfl
    have lw:w.heap.size<wr.heap.size:=by omega
    have nw:¬w.heap.size=wr.heap.size:=by omega
    have ng:¬gl0=wr.heap.size:=by omega
    go_wp2_with fail;go_region_held3 (fun w'=>w'.cell? ⟨gl0,0,none⟩=some (.int .i64 (wP8 rs f q))/\w'.cell? ⟨gl0,2,none⟩=some (.int .i64 (wP8 rs f q'))/\w'.cell? ⟨gl0,1,none⟩=some (.slice au0 lu0 cu0)/\w'.cell? ⟨gl0,3,none⟩=some (.slice au1 lu1 cu1)) (refine⟨?_,?_,?_,?_⟩<;>exact kp8) (first|(go_at_call 54;have f8:=C3q (wP8 rs f q) (wP8 rs f q') 1 (.slice au0 lu0 cu0) (.slice au1 lu1 cu1) (mP8 V rs f q).2 (mP8 V rs f q').2 F0 F1;refine cM8 (f8 _ (Z3.below bex) (A29.below bex) A0M A6K hM0.asc hM0.nz (fun c hc=>by have:=A05.2.2.2 c hc;omega) (fun c hc=>by have:=A9z.2.2.2 c hc;omega) _ HP) ?_;rintro z w5 ⟨⟨u5,us5,G5,rfl,hB5⟩,hb5⟩;obtain⟨a5,c5,rfl⟩:=hB5.shape;have hz5:=hb5.size;(try simp at hz5);obtain⟨x05,x15,xf5,r05,r15,rf5⟩:=A2m (w5:=w5) HX.out bex));have I4:Below (wr.alloc (.cells #[.int .i64 0,.slice none 0 0] 35)).heap.size (wr.alloc (.cells #[.int .i64 0,.slice none 0 0] 35)) w5:=bex;have D7:Below w.heap.size w w5:=A1N.trans (I4.mono (by simp;omega));(try simp only[World.size_alloc,World.size_drew]at hB5);clear hb5 I4;go_wp2_with fail;refine bodyPost_ret (v:=.agg #[.int .i64 (wP8 rs f q),.slice a5 RC.length c5]) (by simp[results,Tryz.results24,go_sem, *]) rfl ⟨⟨_,us5,G5,by rw[HWW.out],(hB5.keep (by simp) fun b hb _=>?_).weak (by omega)⟩,?_⟩
    ·repeat rw[bS8 _ _ _ _ (by simp;omega)]
    ·exact bs8
   ·have HM1:=HM.out;rw[if_neg (by omega)]at HM1;obtain⟨q,hq,hwq,eW⟩:=A6X hW h0;rw[V7 hq]at HM1;unfold P6 at HM1;rw[if_neg (by omega),if_neg (by omega),if_neg (by omega),if_neg (by omega),if_pos h0]at HM1;have HP:Hid (_=RC):=HM1.symm;clear HM1 HM;have HWW:Hid (wP8 rs f q=RW):=eW.symm.trans HRW.out;rw[hq]at hO;have hq1:p.ks.length=1:=by rw[hq];rfl
    obtain⟨gl0,cap0,u0,F0,ev0,hgl0,_,_,l00,l01,hF0⟩:=hO.at (i:=0) (x:=N7 V rs f q) rfl;injection ev0 with ev1 ev2 ev3;subst ev1 ev3;have Z3:=hF0.below alX;change C6 _ _ (mP8 V rs f q).2 _ at hF0 Z3;obtain⟨au0,lu0,cu0,rfl⟩:=hF0.is.shape;have A3S:(wr.alloc (.cells #[.int .i64 0,.slice none 0 0] 35)).cell? ⟨gl0,0,none⟩=some (.int .i64 (wP8 rs f q)):=(cb8 ba8).trans l00;have A3q:(wr.alloc (.cells #[.int .i64 0,.slice none 0 0] 35)).cell? ⟨gl0,1,none⟩=some (.slice au0 lu0 cu0):=(cb8 ba8).trans l01;have hM0:=hM q (by rw[hq];simp);have A0M:=hM0.wtb;have A05:=hM0.all;have D3:((p.ks.length:Nat):Int)=1:=by rw[hq1];rfl
    rw[hq1]at hk hlt;have k0:(p.k==0)=false:=by rw[h0];rfl
    have k1:(p.k==1)=false:=by rw[h0];rfl
    have k2:(p.k==2)=false:=by rw[h0];rfl
    have k3:(p.k==3)=false:=by rw[h0];rfl
    have k4:(p.k==4)=false:=by rw[h0];rfl
    have k5:(p.k==5)=true:=by rw[h0];rfl
    have k6:(p.k==6)=false:=by rw[h0];rfl
    go_wp2_with fail;have f8:=B82 (wP8 rs f q) (.slice au0 lu0 cu0) (mP8 V rs f q).2 F0;rw[HP.out]at f8;refine cM8 (f8 _ (Z3.below bex) A0M (fun c hc=>(A05.2.2.2 c hc).1)) ?_;rintro z w5 ⟨⟨u5,us5,G5,rfl,hB5⟩,hb5⟩;obtain⟨a5,c5,rfl⟩:=hB5.shape;have hz5:=hb5.size;(try simp at hz5);obtain⟨x05,x15,xf5,r05,r15,rf5⟩:=A2m (w5:=w5) HX.out bex;have I4:Below (wr.alloc (.cells #[.int .i64 0,.slice none 0 0] 35)).heap.size (wr.alloc (.cells #[.int .i64 0,.slice none 0 0] 35)) w5:=bex;have D7:Below w.heap.size w w5:=A1N.trans (I4.mono (by simp;omega));(try simp only[World.size_alloc,World.size_drew]at hB5);clear hb5 I4;go_wp2_with fail;refine bodyPost_ret (v:=.agg #[.int .i64 (wP8 rs f q),.slice a5 RC.length c5]) (by simp[results,Tryz.results24,go_sem, *]) rfl ⟨⟨_,us5,G5,by rw[HWW.out],(hB5.keep (by simp) fun b hb _=>?_).weak (by omega)⟩,?_⟩
    ·repeat rw[bS8 _ _ _ _ (by simp;omega)]
    ·exact bs8
   ·have HM1:=HM.out;rw[if_neg (by omega)]at HM1;obtain⟨q,hq,hwq,hn0,hn1,hes1,hbe,eW⟩:=A5c hW h0;rw[V7 hq]at HM1;obtain⟨nn,hnn⟩:∃nn:Nat,p.n=nn:=⟨p.n.toNat,by omega⟩;rw[hnn]at b10 hn1 eW;unfold P6 at HM1;rw[if_neg (by omega),if_neg (by omega),if_neg (by omega),if_neg (by omega),if_neg (by omega),hnn,Int.toNat_natCast]at HM1;have HP:Hid (_=RC):=HM1.symm;clear HM1 HM;have HWW:Hid ((nn:Int)+1+p.es.length=RW):=eW.symm.trans HRW.out;have hoe:∀e∈p.es,okE 13 e=true:=fun e he=>by have:=hbe e he;unfold bE8 at this;rw[Bool.and_eq_true]at this;exact this.1
    have A16:∀e∈p.es,wtE e<=1048576:=fun e he=>by have:=A0a he;omega
    rw[hq]at hO;have hq1:p.ks.length=1:=by rw[hq];rfl
    obtain⟨gl0,cap0,u0,F0,ev0,hgl0,_,_,l00,l01,hF0⟩:=hO.at (i:=0) (x:=N7 V rs f q) rfl;injection ev0 with ev1 ev2 ev3;subst ev1 ev3;have Z3:=hF0.below alX;change C6 _ _ (mP8 V rs f q).2 _ at hF0 Z3;obtain⟨au0,lu0,cu0,rfl⟩:=hF0.is.shape;have A3S:(wr.alloc (.cells #[.int .i64 0,.slice none 0 0] 35)).cell? ⟨gl0,0,none⟩=some (.int .i64 (wP8 rs f q)):=(cb8 ba8).trans l00;have A3q:(wr.alloc (.cells #[.int .i64 0,.slice none 0 0] 35)).cell? ⟨gl0,1,none⟩=some (.slice au0 lu0 cu0):=(cb8 ba8).trans l01;have hM0:=hM q (by rw[hq];simp);have A0M:=hM0.wtb;have A05:=hM0.all;have C4l:(wr.alloc (.cells #[.int .i64 0,.slice none 0 0] 35)).cell? ⟨w.heap.size,10,none⟩=some (.int .i64 nn):=(cb8 ba8).trans b10;have b9x:(wr.alloc (.cells #[.int .i64 0,.slice none 0 0] 35)).cell? ⟨w.heap.size,9,none⟩=some (.slice a2 p.es.length c2):=(cb8 ba8).trans b9;have D3:((p.ks.length:Nat):Int)=1:=by rw[hq1];rfl
    rw[hq1]at hk hlt;have k0:(p.k==0)=false:=by rw[h0];rfl
    have k1:(p.k==1)=false:=by rw[h0];rfl
    have k2:(p.k==2)=false:=by rw[h0];rfl
    have k3:(p.k==3)=false:=by rw[h0];rfl
    have k4:(p.k==4)=false:=by rw[h0];rfl
    have k5:(p.k==5)=false:=by rw[h0];rfl
    have k6:(p.k==6)=true:=by rw[h0];rfl
    have lw:w.heap.size<wr.heap.size:=by omega
    have nw:¬w.heap.size=wr.heap.size:=by omega
    have ng:¬gl0=wr.heap.size:=by omega
    go_wp2_with fail;go_region_held3 (fun w'=>w'.cell? ⟨gl0,0,none⟩=some (.int .i64 (wP8 rs f q))/\w'.cell? ⟨gl0,1,none⟩=some (.slice au0 lu0 cu0)/\w'.cell? ⟨w.heap.size,10,none⟩=some (.int .i64 nn)/\w'.cell? ⟨w.heap.size,9,none⟩=some (.slice a2 p.es.length c2)) (refine⟨?_,?_,?_,?_⟩<;>exact kp8) (first|(go_at_call 56;have f8:=B7g hV (wP8 rs f q) nn (.slice au0 lu0 cu0) (.slice a2 p.es.length c2) (mP8 V rs f q).2 F0 p.es Fs D;refine cM8 (f8 _ (Z3.below bex) hM0 A0M hn1 hes1 (kes.below bex) hoe A16 _ HP) ?_;rintro z w5 ⟨⟨u5,us5,G5,rfl,hB5⟩,hb5⟩;obtain⟨a5,c5,rfl⟩:=hB5.shape;have hz5:=hb5.size;(try simp at hz5);obtain⟨x05,x15,xf5,r05,r15,rf5⟩:=A2m (w5:=w5) HX.out bex));have I4:Below (wr.alloc (.cells #[.int .i64 0,.slice none 0 0] 35)).heap.size (wr.alloc (.cells #[.int .i64 0,.slice none 0 0] 35)) w5:=bex;have D7:Below w.heap.size w w5:=A1N.trans (I4.mono (by simp;omega));(try simp only[World.size_alloc,World.size_drew]at hB5);clear hb5 I4;go_wp2_with fail;refine bodyPost_ret (v:=.agg #[.int .i64 ((nn:Int)+1+p.es.length),.slice a5 RC.length c5]) (by simp[results,Tryz.results24,go_sem, *]) rfl ⟨⟨_,us5,G5,by rw[HWW.out],(hB5.keep (by simp) fun b hb _=>?_).weak (by omega)⟩,?_⟩
    ·repeat rw[bS8 _ _ _ _ (by simp;omega)]
    ·exact bs8
theorem A6u {m:Int}{V:E7->List V3->V3}(hV:VOk m V){rs:List R3}(hdb:G9 rs=true)(hrw:W7 rs):∀f,AnS V rs f
 |0=>fun p ue us u g D d vd Fd w hw hL hn hR hP hW hK=>absurd hW (by rw[wP8];omega)
 |f+1=>B29 hV hdb hrw (A6u hV hdb hrw f)
def FtS (V:E7->List V3->V3)(rs:List R3)(f:Nat):Prop:=∀ (p:P12) (ue us u:Value) (g:List Nat) (D d:Nat) (vd:Value) (Fd:List Nat) (w:World),p.wf->H3 w D (E2 w D d) p ue us u g->wtP p<=1048576->H8 w vd rs Fd->A0P f p->0<=wP8 rs f p->
  Calls Tryz.prog 23 #[vd,(.agg #[.int .i64 p.k,.string p.s,.int .i64 p.e.k,.int .i64 p.e.n,.int .i64 p.e.v.k,.int .i64 p.e.v.n,.string p.e.v.s,.string p.e.p,ue,us,.int .i64 p.n,u])] w fun x w'=>x=.returned (.bool (mP8 V rs f p).1)/\Below w.heap.size w w'
theorem B5O (V:E7->List V3->V3)(rs:List R3)(f:Nat)(p:P12):(mP8 V rs (f+1) p).1=(p.ks.all (fun q=>(mP8 V rs f q).1) &&J2 (wP8 rs (f+1) p) (mP8 V rs (f+1) p).2):=by rw[mP8]
theorem B5E {m:Int}{V:E7->List V3->V3}(hV:VOk m V){rs:List R3}(hdb:G9 rs=true)(hrw:W7 rs){f:Nat}(ih:FtS V rs f):FtS V rs (f+1):=by
 intro p ue us u g D d vd Fd w hw hL hn hR hP hW;have hwt:=f9 p;have hL0:=hL;obtain⟨a1,c1,a2,c2,a3,c3,rfl,rfl,rfl,s1,s2,s3,s4,s5,s6⟩:=hL.shape;obtain⟨ad,ld,cd,rfl⟩:=hR.is.shape;obtain⟨Fe,Fs,h,rfl,ke,kes,kp⟩:=hL;obtain⟨d,rfl⟩:∃d',d=d'+1:=by cases d with|zero=>exact kp.elim|succ d=>exact⟨d,rfl⟩
 obtain⟨a,c,b,o,G0,e0,hl,hc,hG0,_,ha⟩:=kp.pick;injection e0 with e1 e2 e3;subst e1 e3;unfold maxLen at hc;have hkw:∀q∈p.ks,0<=wP8 rs f q:=(l5 hW).2.1;have hI:=fun(x:P12) (y1 y2 y3:Value) (gx:List Nat) (w2:World) (hw2:x.wf) (hL2:H3 w2 D (E2 w2 D d) x y1 y2 y3 gx) (hn2:wtP x<=1048576) (hb:Below w.heap.size w w2) (hx:x∈p.ks)=>ih x y1 y2 y3 gx D d _ Fd w2 hw2 hL2 hn2 (hR.below hb) (hP.2.2 x hx) (hkw x hx);have hA:=fun(w2:World) (hb:Below w.heap.size w w2) (hK:∀q∈p.ks,(mP8 V rs f q).1=true)=>A6u hV hdb hrw (f+1) p _ _ _ _ D (d+1) _ Fd w2 hw (hL0.below hb) hn (hR.below hb) hP hW (by rw[Nat.add_sub_cancel];exact hK);have A62:=fun(hK:∀q∈p.ks,(mP8 V rs f q).1=true)=>A4I hV hdb hrw (f+1) p hP hW (by rw[Nat.add_sub_cancel];exact hK);obtain⟨r,HR⟩:=U9 (mP8 V rs (f+1) p).1;have HE:Hid (r=(p.ks.all (fun q=>(mP8 V rs f q).1) &&J2 (wP8 rs (f+1) p) (mP8 V rs (f+1) p).2)):=HR.out.symm.trans (B5O V rs f p);rw[HR.out];have hB:=X2 w p (.slice a1 p.e.ks.length c1) (.slice a2 p.es.length c2) (.slice a3 p.ks.length c3) 45;have hWl: -9223372036854775808<=wP8 rs (f+1) p/\wP8 rs (f+1) p<=12:=⟨by omega,wL8 _ _ _⟩;clear ih s1 s2 s3 s4 s5 s6 hL0;go_enter Tryz.func23,Tryz.ntmps23;go_wp2_with fail;go_loopw [5] (fun i wr=> ∃k:Nat,k<=p.ks.length/\i=.int .i64 k/\(p.ks.take k).all (fun q=>(mP8 V rs f q).1)=true/\BxP wr w.heap.size p (.slice a1 p.e.ks.length c1) (.slice a2 p.es.length c2) (.slice a3 p.ks.length c3)/\Below w.heap.size w wr) (fun i _=>p.ks.length - (intOf i).toNat)
 case atStart=>exact⟨0,Nat.zero_le _,rfl,by simp,hB.below bex,bex⟩
 case round=>
  obtain⟨k,hk,rfl,M1,hBr,hb⟩:=hrel;have A7X:Hid ((p.ks.take k).all (fun q=>(mP8 V rs f q).1)=true):=M1;have hzb:=hb.size;clear M1;by_cases hlt:k<p.ks.length
  ·obtain⟨rfl,hblt,_,hL⟩:=ha k hlt;obtain⟨x,g,ue,us',u,hx,hg,hxw,⟨q0,q1,q2,q3,q4,q5,q6,q7,q8,q9,q10,q11⟩,hLx,hbr⟩:=hL.at hG0 hblt hb hlt;obtain⟨x_e,x_E,x_s,x_S,x_k,x_K,rfl,rfl,rfl,_,_,_,_,_,_⟩:=hLx.shape;have hxm:=mg8 hx;have hxn:wtP x<=1048576:=by have:=A2X hxm;omega
   have hV1:=hI x _ _ _ g wr hxw hLx hxn hb hxm;obtain⟨_,_,_,_,_,_,_,_,_,_,_,_,b11⟩:=id hBr;obtain⟨bo,HBO⟩:=U9 (mP8 V rs f x).1;rw[HBO.out]at hV1;have HT:Hid (p.ks.take (k+1)=p.ks.take k++ [x]):=by
    obtain⟨hk',rfl⟩:=gE1 hx;exact List.take_succ_eq_append_getElem hk'
   have B6s:Hid (x∈p.ks):=hxm;clear ha hL hx hg hI hA A62 hxw hLx hxn hxm;go_wp2_with fail;refine cM8 hV1 ?_;rintro z w2 ⟨rfl,hb2⟩;have C0:Below w.heap.size w w2:=hb.trans (hb2.mono hzb);have A4V:=hBr.below hb2;clear hV1 hb2 q0 q1 q2 q3 q4 q5 q6 q7 q8 q9 q10 q11 b11 hBr;cases bo with
   |false=>
    have HF:Hid (r=false):=by
     show _=_;rw[HE.out,Bool.and_eq_false_iff];left;rw[List.all_eq_false];exact⟨x,B6s.out,by rw[HBO.out];decide⟩
    go_wp2;go_returns;exact⟨by rw[HF.out];rfl,C0⟩
   |true=>
    have HN:Hid ((p.ks.take (k+1)).all (fun q=>(mP8 V rs f q).1)=true):=by
     show _=_;rw[HT.out,List.all_append,A7X.out];simp[HBO.out]
    go_wp2_with fail;exact⟨⟨k+1,hlt,by simp,HN.out,A4V,C0⟩,by simp[intOf];omega⟩
  ·obtain rfl:k=p.ks.length:=by omega
   have M1:=A7X.out;rw[List.take_length]at M1;have hK:∀q∈p.ks,(mP8 V rs f q).1=true:=fun q hq=>List.all_eq_true.1 M1 q hq;have HF:Hid (r=J2 (wP8 rs (f+1) p) (mP8 V rs (f+1) p).2):=by show _=_;rw[HE.out,M1,Bool.true_and]
   have hAn:=fun w2 hb2=>hA w2 hb2 hK;have hwf:=(A62 hK).wf;generalize wP8 rs (f+1) p=RW at*;generalize(mP8 V rs (f+1) p).2=RC at*;obtain⟨_,b0,b1,b2,b3,b4,b5,b6,b7,b8,b9,b10,b11⟩:=hBr;clear ha hI hA A62 A7X M1 hK;go_wp2_with fail;refine cM8 (hAn _ hb) ?_;rintro z w2 ⟨⟨u2,us2,G2,rfl,hB2⟩,hb2⟩;obtain⟨F2,hF2,_⟩:=hB2.rowsF;obtain⟨a5,c5,rfl⟩:=hB2.shape;have C0:Below w.heap.size w w2:=hb.trans (hb2.mono hzb);clear hAn hb2 hB2 b0 b1 b2 b3 b4 b5 b6 b7 b8 b9 b10 b11;go_wp2_with fail;refine cM8 (B0X RW (.slice a5 RC.length c5) RC w2 hwf hF2.is) ?_;rintro z w3 ⟨rfl,hb3⟩;have D6:Below w.heap.size w w3:=C0.trans (hb3.mono C0.size);go_wp2;go_returns;exact⟨by rw[HF.out];rfl,D6⟩
theorem B0b {m:Int}{V:E7->List V3->V3}(hV:VOk m V){rs:List R3}(hdb:G9 rs=true)(hrw:W7 rs):∀f,FtS V rs f
 |0=>fun p ue us u g D d vd Fd w hw hL hn hR hP hW=>absurd hW (by rw[wP8];omega)
 |f+1=>B5E hV hdb hrw (B0b hV hdb hrw f)
theorem B58 (rs:List R3)(p:P12)(ue us u:Value)(g:List Nat)(D d:Nat)(vd:Value)(Fd:List Nat)(w:World)(hw:p.wf)(hL:H3 w D (E2 w D d) p ue us u g)(hn:wtP p<=1048576)(hR:H8 w vd rs Fd):Calls Tryz.prog 21 #[vd,(.agg #[.int .i64 p.k,.string p.s,.int .i64 p.e.k,.int .i64 p.e.n,.int .i64 p.e.v.k,.int .i64 p.e.v.n,.string p.e.v.s,.string p.e.p,ue,us,.int .i64 p.n,u])] w fun x w'=>x=.returned (.int .i64 (wP8 rs 9 p))/\Below w.heap.size w w':=by
 obtain⟨a1,c1,a2,c2,a3,c3,rfl,rfl,rfl,_,_,_,_,_,_⟩:=hL.shape;obtain⟨ad,ld,cd,rfl⟩:=hR.is.shape;have hI:∀w2,Below w.heap.size w w2->Calls Tryz.prog 45 #[.slice ad ld cd,(.agg #[.int .i64 p.k,.string p.s,.int .i64 p.e.k,.int .i64 p.e.n,.int .i64 p.e.v.k,.int .i64 p.e.v.n,.string p.e.v.s,.string p.e.p,(.slice a1 p.e.ks.length c1),(.slice a2 p.es.length c2),.int .i64 p.n,(.slice a3 p.ks.length c3)]),.int .i64 8] w2 fun x w'=>x=.returned (.int .i64 (wP8 rs 9 p))/\Below w2.heap.size w2 w':=fun w2 hb=>B1Q rs 9 p _ _ _ g D d _ Fd w2 hw (hL.below hb) hn (hR.below hb) lr8;clear hL hR;go_enter Tryz.func21,Tryz.ntmps21;go_wp2_with fail;refine cM8 (hI _ bex) ?_;rintro z w2 ⟨rfl,hb2⟩;have hz2:=hb2.size;(try simp at hz2);go_wp2;go_returns;exact⟨rfl,bex⟩
def J4 (rs:List R3)(p:P12):Int:=if G9 rs=true/\0<=wP8 rs 9 p then wP8 rs 9 p else 0
def M3 (V:E7->List V3->V3)(rs:List R3)(p:P12):List C2:=if G9 rs=true/\0<=wP8 rs 9 p/\(mP8 V rs 9 p).1=true then(mP8 V rs 9 p).2 else[]
theorem A4a {V:E7->List V3->V3}{rs:List R3}{p:P12}(h:¬ (G9 rs=true/\0<=wP8 rs 9 p)):J4 rs p=0/\M3 V rs p=[]:=by
 unfold J4 M3;exact⟨if_neg h,if_neg fun k=>h ⟨k.1,k.2.1⟩⟩
theorem B1l {V:E7->List V3->V3}{rs:List R3}{p:P12}(h:G9 rs=true)(h0:0<=wP8 rs 9 p)(hm:(mP8 V rs 9 p).1=false):J4 rs p=wP8 rs 9 p/\M3 V rs p=[]:=by
 unfold J4 M3;exact⟨if_pos ⟨h,h0⟩,if_neg fun k=>by rw[hm]at k;exact absurd k.2.2 (by simp)⟩
theorem A8g {V:E7->List V3->V3}{rs:List R3}{p:P12}(h:G9 rs=true)(h0:0<=wP8 rs 9 p)(hm:(mP8 V rs 9 p).1=true):J4 rs p=wP8 rs 9 p/\M3 V rs p=(mP8 V rs 9 p).2:=by
 unfold J4 M3;exact⟨if_pos ⟨h,h0⟩,if_pos ⟨h,h0,hm⟩⟩
theorem A2z (w:World):C6 w (.slice none 0 0) [] []:=⟨none,0,[],rfl,by simp,by simp,fun _=>rfl,rfl,fun _=>rfl,fun h=>absurd rfl h⟩
theorem B3R {m:Int}{V:E7->List V3->V3}(hV:VOk m V)(rs:List R3)(p:P12)(ue us u:Value)(g:List Nat)(D d:Nat)(vd:Value)(Fd:List Nat)(w:World)(hw:p.wf)(hL:H3 w D (E2 w D d) p ue us u g)(hn:wtP p<=1048576)(hR:H8 w vd rs Fd)(hrw:W7 rs):Calls Tryz.prog 6 #[vd,(.agg #[.int .i64 p.k,.string p.s,.int .i64 p.e.k,.int .i64 p.e.n,.int .i64 p.e.v.k,.int .i64 p.e.v.n,.string p.e.v.s,.string p.e.p,ue,us,.int .i64 p.n,u])] w fun x w'=>(∃v F,x=.returned (.agg #[.int .i64 (J4 rs p),v])/\C6 w' v (M3 V rs p) F/\D5 w' w.heap.size F)/\Below w.heap.size w w':=by
 have hP:A0P 9 p:=A4l 9 p w D d ue us u g hw hL hn;obtain⟨a1,c1,a2,c2,a3,c3,rfl,rfl,rfl,_,_,_,_,_,_⟩:=hL.shape;obtain⟨ad,ld,cd,rfl⟩:=hR.is.shape;have hDb:=fun(w2:World) (hb:Below w.heap.size w w2)=>B4q (.slice ad ld cd) rs w2 hrw (hR.is.below hb);have hWd:=fun(w2:World) (hb:Below w.heap.size w w2)=>B58 rs p _ _ _ g D d (.slice ad ld cd) Fd w2 hw (hL.below hb) hn (hR.below hb);have HFt:Hid (∀ (hdb:G9 rs=true) (hW:0<=wP8 rs 9 p) (w2:World) (hb:Below w.heap.size w w2),_):=fun hdb hW w2 hb=>B0b hV hdb hrw 9 p _ _ _ g D d (.slice ad ld cd) Fd w2 hw (hL.below hb) hn (hR.below hb) hP hW;have HAn:Hid (∀ (hdb:G9 rs=true) (hW:0<=wP8 rs 9 p) (hK:(mP8 V rs 9 p).1=true) (w2:World) (hb:Below w.heap.size w w2),_):=fun hdb hW hK w2 hb=>A6u hV hdb hrw 9 p _ _ _ g D d (.slice ad ld cd) Fd w2 hw (hL.below hb) hn (hR.below hb) hP hW (A9j hK);have hB:=(X2 w p (.slice a1 p.e.ks.length c1) (.slice a2 p.es.length c2) (.slice a3 p.ks.length c3) 45).below ((Below.refl _ _).alloc lr8 (.cells #[.int .i64 0,.slice none 0 0] 35));obtain⟨bo,HBO⟩:=U9 (G9 rs);rw[HBO.out]at hDb;obtain⟨W,HW⟩:=U9 (wP8 rs 9 p);rw[HW.out]at hWd;clear hL hR hP;go_enter Tryz.func6,Tryz.ntmps6;go_wp2_with fail;refine cM8 (hWd _ bex) ?_;rintro z w1 ⟨rfl,hb1⟩;have hz1:=hb1.size;(try simp at hz1);have hB1:=hB.below hb1;have F8:Below w.heap.size w w1:=bex;have r0:w1.cell? ⟨w.heap.size+1,0,none⟩=some (.int .i64 0):=cl8 hb1;have r1:w1.cell? ⟨w.heap.size+1,1,none⟩=some (.slice none 0 0):=cl8 hb1
 have rf:∀q,w1.frozen? ⟨w.heap.size+1,q,none⟩=false:=fun q=>((bc8 hb1).2 _ q (by simp)).trans (by go_simp);clear hWd hb1 hB;go_wp2_with fail;refine cM8 (hDb _ F8) ?_;rintro z w2 ⟨rfl,hb2⟩;have hz2:=hb2.size;have hB2:=hB1.below hb2;have C0:Below w.heap.size w w2:=F8.trans (hb2.mono F8.size);replace r0:=bt8 hb2 r0;replace r1:=bt8 hb2 r1;replace rf:∀q,w2.frozen? ⟨w.heap.size+1,q,none⟩=false:=fun q=>((bc8 hb2).2 _ q (by omega)).trans (rf q);clear hDb hb2 hB1;cases bo with
 |false=>
  have HN:=A4a (V:=V) (rs:=rs) (p:=p) (fun h=>by rw[HBO.out]at h;exact absurd h.1 (by simp));have HN1:Hid (J4 rs p=0/\M3 V rs p=[]):=HN;clear HFt HAn HN hB2;go_wp2;refine bodyPost_ret (v:=.agg #[.int .i64 0,.slice none 0 0]) (by simp[results,Tryz.results6,go_sem, *]) rfl ⟨⟨.slice none 0 0,[],by rw[HN1.out.1],by rw[HN1.out.2];exact A2z _,by simp[D5,N9]⟩,?_⟩;exact bs8
 |true=>
  by_cases h0:W<0
  ·have HN1:Hid (J4 rs p=0/\M3 V rs p=[]):=A4a (fun h=>by have:=h.2;rw[HW.out]at this;omega);clear HFt HAn hB2;go_wp2;refine bodyPost_ret (v:=.agg #[.int .i64 0,.slice none 0 0]) (by simp[results,Tryz.results6,go_sem, *]) rfl ⟨⟨.slice none 0 0,[],by rw[HN1.out.1],by rw[HN1.out.2];exact A2z _,by simp[D5,N9]⟩,?_⟩;exact bs8
  ·have h0':0<=wP8 rs 9 p:=by rw[HW.out];omega
   have hF2:=HFt.out HBO.out h0';have HH0:Hid (0<=wP8 rs 9 p):=h0';obtain⟨mo,HM⟩:=U9 (mP8 V rs 9 p).1;rw[HM.out]at hF2;obtain⟨_,b0,b1,b2,b3,b4,b5,b6,b7,b8,b9,b10,b11⟩:=id hB2;clear HFt h0';go_wp2_with fail;refine cM8 (hF2 _ C0) ?_;rintro z w3 ⟨rfl,hb3⟩;have hz3:=hb3.size;have hB3:=hB2.below hb3;have D6:Below w.heap.size w w3:=C0.trans (hb3.mono C0.size);replace r0:=bt8 hb3 r0;replace r1:=bt8 hb3 r1;replace rf:∀q,w3.frozen? ⟨w.heap.size+1,q,none⟩=false:=fun q=>((bc8 hb3).2 _ q (by omega)).trans (rf q);clear hF2 hb3 hB2 b0 b1 b2 b3 b4 b5 b6 b7 b8 b9 b10 b11;cases mo with
   |false=>
    have HN1:Hid (J4 rs p=W/\M3 V rs p=[]):=by rw[<-HW.out];exact B1l HBO.out HH0.out HM.out
    clear HAn hB3;go_wp2;refine bodyPost_ret (v:=.agg #[.int .i64 W,.slice none 0 0]) (by simp[results,Tryz.results6,go_sem, *]) rfl ⟨⟨.slice none 0 0,[],by rw[HN1.out.1],by rw[HN1.out.2];exact A2z _,by simp[D5,N9]⟩,?_⟩;exact bs8
   |true=>
    have HN1:Hid (J4 rs p=W/\M3 V rs p=(mP8 V rs 9 p).2):=by rw[<-HW.out];exact A8g HBO.out HH0.out HM.out
    have hA2:=HAn.out HBO.out HH0.out HM.out;rw[HW.out]at hA2;obtain⟨_,b0,b1,b2,b3,b4,b5,b6,b7,b8,b9,b10,b11⟩:=hB3;clear HAn;generalize(mP8 V rs 9 p).2=RC at*;go_wp2_with fail;refine cM8 (hA2 _ D6) ?_;rintro z w4 ⟨⟨u4,us4,G4,rfl,hB4⟩,hb4⟩;obtain⟨F4,hF4,hO4⟩:=hB4.rowsF;obtain⟨a5,c5,rfl⟩:=hB4.shape;have hz4:=hb4.size;have I3:Below w.heap.size w w4:=D6.trans (hb4.mono D6.size);replace r0:=bt8 hb4 r0;replace r1:=bt8 hb4 r1;replace rf:∀q,w4.frozen? ⟨w.heap.size+1,q,none⟩=false:=fun q=>((bc8 hb4).2 _ q (by omega)).trans (rf q);have A2o:∀b∈F4,b≠w.heap.size+1:=fun b hb=>by have:=hF4.lt b hb;have:=hO4.2.1 b hb;omega
    clear hA2 hb4 hB4 b0 b1 b2 b3 b4 b5 b6 b7 b8 b9 b10 b11;go_wp2;refine bodyPost_ret (v:=.agg #[.int .i64 W,.slice a5 RC.length c5]) (by simp[results,Tryz.results6,go_sem, *]) rfl ⟨⟨.slice a5 RC.length c5,F4,by rw[HN1.out.1],?_,?_⟩,?_⟩
    ·rw[HN1.out.2];refine hF4.keep (by simp) fun b hb=>?_;have:=A2o b hb;repeat rw[bS8 _ _ _ _ (by simp;try omega)]
    ·refine D5.keep (w:=w4) ⟨hO4.1,fun b hb=>by have:=hO4.2.1 b hb;omega,hO4.2.2⟩ fun b hb=>?_;have:=A2o b hb;repeat rw[bS8 _ _ _ _ (by simp;try omega)]
    ·exact bs8
end
end Go.Proofs.YteekfcdllaceoaaGreatDoor
