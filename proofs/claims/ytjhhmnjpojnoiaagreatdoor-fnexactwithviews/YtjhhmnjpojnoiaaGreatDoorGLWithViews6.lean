/- Own texts, joined: contracts that the law's proof goes by. -/
import Derived.Test.YtjhhmnjpojnoiaaGreatDoorGLWithViews4
import Derived.Test.YtjhhmnjpojnoiaaGreatDoorGLWithViews1
import Derived.Test.YtjhhmnjpojnoiaaGreatDoorToR
import Derived.Handy
import Derived.Deep.DrawnRows
import Derived.Deep.AppendLies
import Derived.Test.YtjhhmnjpojnoiaaGreatDoorGLWithViews2
import Derived.Laws.OwnMore
import Derived.Test.YtjhhmnjpojnoiaaGreatDoorGLWithViews3
import Derived.Deep.RegionHeld3
import Derived.Deep.QuietTactic
import Derived.BigQuiet
set_option maxHeartbeats 16000000
set_option maxRecDepth 100000
set_option linter.unusedVariables false
set_option linter.unusedSimpArgs false
namespace Go.Proofs.YtjhhmnjpojnoiaaGreatDoor
section
section
open Go.RowKit Go.Deep Go.ChangeShapes Go.WideShapes
theorem l02Copy_any (W:Int)(v:Value)(cs:List C2)(F:List Nat)(w:World)(hr:RowsF w v cs F)(hn:wtb cs≤1048576):Calls Tryz.prog 19 #[.agg #[.int .i64 W,v]] w fun e w'=>(∃u us G,e=.returned (.agg #[.int .i64 W,u])∧BagOwn w' w.heap.size u cs us G)∧Below w.heap.size w w':=by
 obtain⟨i0,hi,hz0,hz1,hz2⟩:=info_parts Tryz.infoCnt;obtain⟨a,c,b,o,G0,rfl,hl,hc,_,hG0,_,hC,ha⟩:=hr.pick;unfold maxLen at hc;clear hr;have hn1:cs.length≤1048576:=by unfold wtb at hn;omega
 go_enter Tryz.func19,Tryz.ntmps19;go_wp2;go_loopw [4] (fun i wr=> ∃ (k:Nat) (y:Value) (us:List Value) (G:List (List Nat)),k≤cs.length∧i=.int .i64 k∧wr.cell? ⟨w.heap.size,0,none⟩=some (.int .i64 W)∧wr.cell? ⟨w.heap.size,1,none⟩=some (.slice a cs.length c)∧wr.cell? ⟨w.heap.size+1+1,0,none⟩=some (.int .i64 W)∧wr.cell? ⟨w.heap.size+1+1,1,none⟩=some y∧(∀q,wr.frozen? ⟨w.heap.size+1+1,q,none⟩=false)∧wr.cell? ⟨w.heap.size+1,0,none⟩=some (.int .i64 0)∧wr.cell? ⟨w.heap.size+1,1,none⟩=some (.slice none 0 0)∧(∀q,wr.frozen? ⟨w.heap.size+1,q,none⟩=false)∧BagOwn wr (w.heap.size+1+1+1) y (cs.take k) us G∧Below w.heap.size w wr∧w.heap.size+1+1+1≤wr.heap.size) (fun i _=>cs.length - (intOf i).toNat)
 case atStart=>
  refine⟨0,.slice none 0 0,[],[],Nat.zero_le _,rfl,by go_simp,by go_simp,by go_simp,by go_simp,fun q=>by go_simp,by go_simp,by go_simp,fun q=>by go_simp,BagOwn.nil _ _,bex,by simp⟩
 case round=>
  obtain⟨k,y,us,G,hk,rfl,b0,b1,p0,p1,pf,r0,r1,rf,hB,hb,hzb⟩:=hrel;by_cases hlt:k<cs.length
  ·obtain⟨rfl,hblt,_⟩:=ha k hlt;obtain⟨x,u0,g0,hx,_,c0,hR,c1,hbr⟩:=hC.at hG0 hblt hb hlt;obtain⟨a0,n0,rfl⟩:=hR.shape;have HX:Hid (cs[k]?=some x):=hx;have hxn:x.r.length≤1048576:=by have:=wt_mem (mg8 hx);unfold wt at this;unfold wtb at hn;omega
   have htk:(cs.take k).length=k:=by simp;omega
   have hvl:=oL8 hB.own;have hv2:y.ownBlock≠some (w.heap.size+1+1):=fun e=>by have:=(hvl _ e).1;omega
   have hvr:y.ownBlock≠some (w.heap.size+1):=fun e=>by have:=(hvl _ e).1;omega
   have hvT:∀b,b≤w.heap.size→y.ownBlock≠some b:=fun b hb e=>by have:=(hvl _ e).1;omega
   have hkI:(k:Int)<cs.length:=by omega
   have hGl:=hB.lt;have HT:Hid (cs.take (k+1)=cs.take k++ [x]):=take_snoc hx;generalize cs.take k=ct at*;have hml:ct.length+1≤maxLen:=by unfold maxLen;omega
   have hby:(ct.length+1)*32≤140737488355328:=by omega
   clear ha hC hx htk hvl;go_wp2_with fail;refine startE 19 (fun w'=>w'.cell? ⟨w.heap.size+1+1,1,none⟩=some y∧w'.cell? ⟨w.heap.size,1,none⟩=some (.slice (some ⟨b,o,none⟩) cs.length c)∧w'.cell? ⟨b,o+k*2,none⟩=some (.slice a0 x.r.length n0)∧w'.cell? ⟨b,o+k*2+1,none⟩=some (.int .i64 x.n)) (by kernel_rfl) ?_ (fun hHeld=>?_)
   ·exact⟨p1,b1,c0,c1⟩
   refine tkE 0 15 rfl rfl ?_;refine tkE 1 16 rfl rfl ?_;refine tkE 2 17 rfl rfl ?_;refine tkE 3 18 rfl rfl ?_;refine tkE 4 19 rfl rfl ?_;refine tkE 5 20 rfl rfl ?_;refine tkE 6 21 rfl rfl ?_;refine tkE 7 22 rfl rfl ?_;refine tkE 9 24 rfl rfl ?_;refine tkE 10 25 rfl rfl ?_;refine tkE 11 26 rfl rfl ?_;refine tkE 12 27 rfl rfl ?_;refine tkE 13 28 rfl rfl ?_;refine tkE 14 29 rfl rfl ?_;refine onE 8 rfl fun K hK=>?_;go_simp;go_at_call 41;refine cM8 (l02CopyRow_any (.slice a0 x.r.length n0) x.r g0 _ (hR.below ?hbb) hxn) ?_
   case hbb=>exact bex
   rintro e w2 ⟨⟨u2,g2,rfl,hR2,hO2⟩,hb2⟩;obtain⟨a2,n2,rfl⟩:=hR2.shape;have hzw2:=hb2.size;rw[show wr.drew.heap.size=wr.heap.size from rfl]at hzw2;have bel2:Below wr.heap.size wr w2:=bex;have hB2:=hB.below bel2;have pf2:∀q,w2.frozen? ⟨w.heap.size+1+1,q,none⟩=false:=fun q=>((bc8 bel2).2 _ q (by omega)).trans (pf q);have rf2:∀q,w2.frozen? ⟨w.heap.size+1,q,none⟩=false:=fun q=>((bc8 bel2).2 _ q (by omega)).trans (rf q);have p02:=((bc8 bel2).1 (w.heap.size+1+1) 0 (by omega)).trans p0;have p12:=((bc8 bel2).1 (w.heap.size+1+1) 1 (by omega)).trans p1;have r02:=((bc8 bel2).1 (w.heap.size+1) 0 (by omega)).trans r0;have r12:=((bc8 bel2).1 (w.heap.size+1) 1 (by omega)).trans r1;have b02:=((bc8 bel2).1 w.heap.size 0 (by omega)).trans b0;have b12:=((bc8 bel2).1 w.heap.size 1 (by omega)).trans b1;have c02:=((bc8 bel2).1 b (o+k*2) (by omega)).trans c0;have c12:=((bc8 bel2).1 b (o+k*2+1) (by omega)).trans c1;try go_wp2_with fail
   refine hK.out _ _ ?_ (fun hHeld8=>?_)
   ·intro _;exact⟨p12,b12,c02,c12⟩
   clear hK;replace hHeld8:=hHeld8 (by decide);refine tkE 15 30 rfl rfl ?_;refine onE 16 rfl fun K hK=>?_;go_simp;refine hK.out _ _ ?_ (fun hHeld16=>?_)
   ·intro _;exact⟨(cb8 (bA8 w2 _ _ (by omega))).trans p12,(cb8 (bA8 w2 _ _ (by omega))).trans b12,(cb8 (bA8 w2 _ _ (by omega))).trans c02,(cb8 (bA8 w2 _ _ (by omega))).trans c12⟩
   clear hK;replace hHeld16:=hHeld16 (by decide);refine onE 17 rfl fun K hK=>?_;refine step_append_lies _ (by rfl) _ _ _ (by rfl) (w.heap.size+1+1+1) 91 i0 _ 2 32 Tryz.underlying55 hi hz0 hz1 hz2 rfl (by omega) y ct.length (cc us ct) (by rfl) (hB2.own.alloc _) ⟨w2.heap.size,0,none⟩ 1 1 [.slice a2 x.r.length n2,.int .i64 x.n] (by rfl) (by rfl) (World.news_of_block (cs:=#[.slice a2 x.r.length n2,.int .i64 x.n]) (t:=91) (fr:=(0,0)) (heap_alloc_new w2 _)) (by simp[Value.oneCell']) (by omega) hml hby (by simp;omega) (w2.heap.size+1) (by simp) ?_;intro gg cap w3 hown3 hgrow hat hlt3;have hz3:=hgrow.size;simp at hz3;have far:∀b q,b<w2.heap.size→y.ownBlock≠some b→w3.cell? ⟨b,q,none⟩=w2.cell? ⟨b,q,none⟩:=fun b q hb hne=>(hgrow.cell_far _ (by simp;omega) (Ne.symm hne)).trans (cb8 (bA8 _ _ _ hb));have farf:∀b q,b<w2.heap.size→y.ownBlock≠some b→w3.frozen? ⟨b,q,none⟩=w2.frozen? ⟨b,q,none⟩:=fun b q hb hne=>(hgrow.frozen_far _ (by simp;omega) (Ne.symm hne)).trans (fb8 (bA8 _ _ _ hb));have pf3:∀q,w3.frozen? ⟨w.heap.size+1+1,q,none⟩=false:=fun q=>(farf _ q (by omega) hv2).trans (pf2 q);have rf3:∀q,w3.frozen? ⟨w.heap.size+1,q,none⟩=false:=fun q=>(farf _ q (by omega) hvr).trans (rf2 q);have p03:=(far (w.heap.size+1+1) 0 (by omega) hv2).trans p02;have p13:=(far (w.heap.size+1+1) 1 (by omega) hv2).trans p12;have r03:=(far (w.heap.size+1) 0 (by omega) hvr).trans r02;have r13:=(far (w.heap.size+1) 1 (by omega) hvr).trans r12;have hBp:=BagOwn.push (hB2.below ((Below.refl _ _).alloc (Nat.le_refl _) (.cells #[.slice a2 x.r.length n2,.int .i64 x.n] 91))) (hR2.below ((Below.refl _ _).alloc (Nat.le_refl _) _)) ⟨hO2.1,fun b hb=>by have:=hO2.2.1 b hb;have:wr.drew.heap.size=wr.heap.size:=rfl;omega,fun b hb q=>(fb8 (bA8 _ _ _ (hR2.lt b hb))).trans (hO2.2.2 b hb q)⟩ (fun b hb hb'=>by have:=hO2.2.1 b hb';have:=hGl b hb;simp at*;omega) (fun b hb hb'=>by have:=hO2.2.1 b hb';have:=(oL8 hB.own b hb).2;simp at*;omega) hown3 hgrow (fun b hb=>by simp[Value.ownBlock]at hb;subst hb;rcases hat with h|h;exact .inl h;exact .inr (by simp;omega))
   have bel3:Below w.heap.size w w3:=Below.grown bex hgrow (by simp;omega) (fun b hb=>by have:=(oL8 hB.own b hb).1;omega);have b03:=(far w.heap.size 0 (by omega) (hvT _ (Nat.le_refl _))).trans b02;have b13:=(far w.heap.size 1 (by omega) (hvT _ (Nat.le_refl _))).trans b12;have c03:=(far b (o+k*2) (by omega) (hvT _ (by omega))).trans c02;have c13:=(far b (o+k*2+1) (by omega) (hvT _ (by omega))).trans c12;refine hK.out _ _ ?_ (fun hHeld17=>?_)
   ·intro _;exact⟨p13,b13,c03,c13⟩
   clear hK;replace hHeld17:=hHeld17 (by decide);refine tkE 18 33 rfl rfl ?_;refine onE 19 rfl fun K hK=>?_;go_simp;refine hK.out _ _ ?_ (fun hHeld19=>?_)
   ·exact fun h=>absurd rfl h
   clear hK hHeld19;refine doneE (by kernel_rfl) ?_ _;have Q0:(w3.setCell ⟨w.heap.size+1+1,1,none⟩ (.slice (some ⟨gg,0,none⟩) (ct.length+1) cap)).cell? ⟨w.heap.size,0,none⟩=some (.int .i64 W):=(cO8 _ _ _ _ (by simp;try omega)).trans b03;have Q1:(w3.setCell ⟨w.heap.size+1+1,1,none⟩ (.slice (some ⟨gg,0,none⟩) (ct.length+1) cap)).cell? ⟨w.heap.size,1,none⟩=some (.slice (some ⟨b,o,none⟩) cs.length c):=(cO8 _ _ _ _ (by simp;try omega)).trans b13;have P0:(w3.setCell ⟨w.heap.size+1+1,1,none⟩ (.slice (some ⟨gg,0,none⟩) (ct.length+1) cap)).cell? ⟨w.heap.size+1+1,0,none⟩=some (.int .i64 W):=(cO8 _ _ _ _ (by simp)).trans p03;have P1:(w3.setCell ⟨w.heap.size+1+1,1,none⟩ (.slice (some ⟨gg,0,none⟩) (ct.length+1) cap)).cell? ⟨w.heap.size+1+1,1,none⟩=some (.slice (some ⟨gg,0,none⟩) (ct.length+1) cap):=cS8 _ _ _ p13;have PF:∀q,(w3.setCell ⟨w.heap.size+1+1,1,none⟩ (.slice (some ⟨gg,0,none⟩) (ct.length+1) cap)).frozen? ⟨w.heap.size+1+1,q,none⟩=false:=fun q=>by simpa using pf3 q
   have R0:(w3.setCell ⟨w.heap.size+1+1,1,none⟩ (.slice (some ⟨gg,0,none⟩) (ct.length+1) cap)).cell? ⟨w.heap.size+1,0,none⟩=some (.int .i64 0):=(cO8 _ _ _ _ (by simp)).trans r03;have R1:(w3.setCell ⟨w.heap.size+1+1,1,none⟩ (.slice (some ⟨gg,0,none⟩) (ct.length+1) cap)).cell? ⟨w.heap.size+1,1,none⟩=some (.slice none 0 0):=(cO8 _ _ _ _ (by simp)).trans r13;have RF:∀q,(w3.setCell ⟨w.heap.size+1+1,1,none⟩ (.slice (some ⟨gg,0,none⟩) (ct.length+1) cap)).frozen? ⟨w.heap.size+1,q,none⟩=false:=fun q=>by simpa using rf3 q
   have hBs:=hBp.keep (w':=w3.setCell ⟨w.heap.size+1+1,1,none⟩ (.slice (some ⟨gg,0,none⟩) (ct.length+1) cap)) (by simp) (fun b hb _=>bS8 _ _ _ _ (by simp;omega));rw[←HT.out]at hBs;have belS:Below w.heap.size w (w3.setCell ⟨w.heap.size+1+1,1,none⟩ (.slice (some ⟨gg,0,none⟩) (ct.length+1) cap)):=bel3.setCell (by simp;omega) _;have hzS:w.heap.size+1+1+1≤(w3.setCell ⟨w.heap.size+1+1,1,none⟩ (.slice (some ⟨gg,0,none⟩) (ct.length+1) cap)).heap.size:=by simp;omega
   clear hown3 hgrow hat far farf hBp hB2 hR2 hO2 hb2 hB p03 p13 pf3 r03 r13 rf3;go_wp2;exact⟨⟨k+1,_,_,_,hlt,by simp,Q0,Q1,P0,P1,PF,R0,R1,RF,hBs,belS,hzS⟩,by simp[intOf];omega⟩
  ·obtain rfl:k=cs.length:=by omega
   rw[List.take_length]at hB;obtain⟨ay,cy,rfl⟩:=hB.shape;clear ha hC;go_wp2;refine bodyPost_ret (v:=.agg #[.int .i64 W,.slice ay cs.length cy]) (by simp[results,Tryz.results19,go_sem, *]) rfl ⟨⟨_,us,G,rfl,(hB.keep (by simp) fun b hb _=>?_).weak (by omega)⟩,?_⟩
   ·repeat rw[bS8 _ _ _ _ (by simp;omega)]
   ·repeat (first|(with_reducible exact hb)|(with_reducible refine Below.setCell ?_ ?hh _;case hh=>(simp;try omega)))
end
section
open Go.RowKit Go.Deep
attribute [local go_sem↓] Go.wp_at_zero Go.wp_at_succ
theorem l05Copy_any (v:Value)(rs:List R3)(F:List Nat)(w:World)(hr:RelsF w v rs F)(hn:wtR rs≤1048576):Calls Tryz.prog 17 #[v] w fun e w'=>(∃u us G g c,e=.returned u∧u=.slice (some ⟨g,0,none⟩) rs.length c∧RelOwn w' w.heap.size u rs us G)∧Below w.heap.size w w':=by
 obtain⟨i0,hi,hz0,hz1,hz2⟩:=info_parts Tryz.infoRel;obtain⟨a,c,b,o,G0,rfl,hl,hc,_,hG0,_,hC,ha⟩:=hr.pick;unfold maxLen at hc;clear hr;have hn1:rs.length≤1048576:=by unfold wtR at hn;omega
 go_enter Tryz.func17,Tryz.ntmps17;go_wp2;go_loopw [3,4] (fun y i wr=> ∃ (k:Nat) (us:List Value) (G:List (List Nat)),k≤rs.length∧i=.int .i64 k∧RelOwn wr w.heap.size y (rs.take k) us G∧(∃g c,y=.slice (some ⟨g,0,none⟩) (rs.take k).length c)∧Below w.heap.size w wr) (fun _ i _=>rs.length - (intOf i).toNat)
 case atStart=>
  refine⟨0,[],[],Nat.zero_le _,rfl,?_,⟨_,_,rfl⟩,bex⟩;exact RelOwn.empty' (by simp)
 case round=>
  obtain⟨k,us,G,hk,rfl,hB,hY,hb⟩:=hrel;have hzb:=hb.size;by_cases hlt:k<rs.length
  ·obtain⟨rfl,hblt,_⟩:=ha k hlt;obtain⟨x,u,g,hx,c0,c1,c2,hR,hbr⟩:=hC.at hG0 hblt hb hlt;obtain⟨au,lu,cu,rfl⟩:=hR.is.shape;have hxm:=mg8 hx;have hxn:wtb x.cs≤1048576:=by have:=wtr_mem hxm;unfold wtr at this;unfold wtR at hn;omega
   have hvl:=oL8 hB.own;have hvb:u3.ownBlock≠some b:=fun e=>by have:=(hvl _ e).1;omega
   have hvT:u3.ownBlock≠some wr.heap.size:=fun e=>by have:=(hvl _ e).2;omega
   have hGl:=hB.lt;have htk:(rs.take k).length=k:=by simp;omega
   have HT:Hid (rs.take (k+1)=rs.take k++ [x]):=take_snoc hx;clear hY;generalize rs.take k=ct at*;have hml:ct.length+1≤maxLen:=by unfold maxLen;omega
   have hby:(ct.length+1)*48≤140737488355328:=by omega
   clear ha hC hx htk hvl;go_wp2_with fail;refine startE 15 (fun w'=>w'.cell? ⟨b,o+k*3,none⟩=some (.string x.s)∧w'.cell? ⟨b,o+k*3+1,none⟩=some (.int .i64 x.W)∧w'.cell? ⟨b,o+k*3+2,none⟩=some (.slice au lu cu)) (by kernel_rfl) ?_ (fun hHeld=>?_)
   ·exact⟨c0,c1,c2⟩
   refine tkE 0 12 rfl rfl ?_;refine tkE 1 13 rfl rfl ?_;refine tkE 2 14 rfl rfl ?_;refine tkE 3 15 rfl rfl ?_;refine tkE 4 16 rfl rfl ?_;refine tkE 5 17 rfl rfl ?_;refine tkE 6 18 rfl rfl ?_;refine tkE 7 19 rfl rfl ?_;refine tkE 8 20 rfl rfl ?_;refine tkE 9 21 rfl rfl ?_;refine tkE 10 22 rfl rfl ?_;refine onE 11 rfl fun K hK=>?_;go_simp;go_at_call 19;refine cM8 (l02Copy_any x.W (.slice au lu cu) x.cs g _ (hR.below ?hbb) hxn) ?_
   case hbb=>exact bex
   rintro e w2 ⟨⟨u2,us2,G2,rfl,hBo2⟩,hb2⟩;obtain⟨g2,hR2,hO2⟩:=hBo2.rowsF;clear hBo2;obtain⟨a2,l2,n2,rfl⟩:=hR2.is.shape;have hzw2:=hb2.size;(try simp at hzw2);(try simp at hO2);have bel2:Below wr.heap.size wr w2:=bex;have hB2:=hB.below bel2;have d0:=((bc8 bel2).1 b _ hbr).trans c0;have d1:=((bc8 bel2).1 b _ hbr).trans c1;have d2:=((bc8 bel2).1 b _ hbr).trans c2;try go_wp2_with fail
   refine hK.out _ _ ?_ (fun hHeld11=>?_)
   ·intro _;exact⟨d0,d1,d2⟩
   clear hK;replace hHeld11:=hHeld11 (by decide);refine tkE 12 24 rfl rfl ?_;refine onE 13 rfl fun K hK=>?_;go_simp;refine hK.out _ _ ?_ (fun hHeld13=>?_)
   ·intro _;exact⟨(cb8 (bA8 w2 _ _ (by omega))).trans d0,(cb8 (bA8 w2 _ _ (by omega))).trans d1,(cb8 (bA8 w2 _ _ (by omega))).trans d2⟩
   clear hK;replace hHeld13:=hHeld13 (by decide);refine onE 14 rfl fun K hK=>?_;refine step_append_lies _ (by rfl) _ _ _ (by rfl) w.heap.size 59 i0 _ 3 48 Tryz.underlying26 hi hz0 hz1 hz2 rfl (by omega) u3 ct.length (rcs us ct) (by rfl) (hB2.own.alloc _) ⟨w2.heap.size,0,none⟩ 1 1 [.string x.s,.int .i64 x.W,.slice a2 l2 n2] (by rfl) (by rfl) (World.news_of_block (cs:=#[.string x.s,.int .i64 x.W,.slice a2 l2 n2]) (t:=59) (fr:=(0,0)) (heap_alloc_new w2 _)) (by simp[Value.oneCell']) (by omega) hml hby (by simp;omega) (w2.heap.size+1) (by simp) ?_;intro gg cap w3 hown3 hgrow hat hlt3;have hz3:=hgrow.size;simp at hz3;have far:∀b q,b<w2.heap.size→u3.ownBlock≠some b→w3.cell? ⟨b,q,none⟩=w2.cell? ⟨b,q,none⟩:=fun b q hb hne=>(hgrow.cell_far _ (by simp;omega) (Ne.symm hne)).trans (cb8 (bA8 _ _ _ hb));have f0:=(far b _ (by omega) hvb).trans d0;have f1:=(far b _ (by omega) hvb).trans d1;have f2:=(far b _ (by omega) hvb).trans d2;have hBp:=RelOwn.push (x:=x) (hB2.below ((Below.refl _ _).alloc (Nat.le_refl _) (.cells #[.string x.s,.int .i64 x.W,.slice a2 l2 n2] 59))) (hR2.below ((Below.refl _ _).alloc (Nat.le_refl _) _)) ⟨hO2.1,fun b hb=>by have:=hO2.2.1 b hb;omega,fun b hb q=>(fb8 (bA8 _ _ _ (hR2.lt b hb))).trans (hO2.2.2 b hb q)⟩ (fun b hb hb'=>by have:=hO2.2.1 b hb';have:=hGl b hb;omega) (fun b hb hb'=>by have:=hO2.2.1 b hb';have:=(oL8 hB.own b hb).2;omega) hown3 hgrow (fun b hb=>by simp[Value.ownBlock]at hb;subst hb;rcases hat with h|h;exact .inl h;exact .inr (by simp;omega));have bel3:Below w.heap.size w w3:=Below.grown bex hgrow (by simp;omega) (fun b hb=>by have:=(oL8 hB.own b hb).1;omega)
   refine hK.out _ _ ?_ (fun hHeld14=>?_)
   ·intro _;exact⟨f0,f1,f2⟩
   clear hK;replace hHeld14:=hHeld14 (by decide);refine onE 15 rfl fun K hK=>?_;go_simp;refine hK.out _ _ ?_ (fun hHeld15=>?_)
   ·exact fun h=>absurd rfl h
   clear hK hHeld15;refine doneE (by kernel_rfl) ?_ _;rw[←HT.out]at hBp;clear hown3 hgrow hat far hB2 hR2 hO2 hb2 hB hHeld hHeld11 hHeld13 hHeld14 f0 f1 f2 d0 d1 d2;go_wp2;exact⟨⟨k+1,_,_,hlt,by simp,hBp,⟨gg,cap,by rw[HT.out];simp⟩,bel3⟩,by simp[intOf];omega⟩
  ·obtain rfl:k=rs.length:=by omega
   rw[List.take_length]at hB hY;obtain⟨gy,cy,eY⟩:=hY;go_wp2;go_returns;exact⟨⟨_,us,G,gy,cy,rfl,eY,hB⟩,hb⟩
end
section
open Go.RowKit
theorem bl_irrefl:∀ (x:List UInt8),Op.bytesLess x x=false
 | []=>rfl
 |a::l=>by
  have ih:=bl_irrefl l;simp[Op.bytesLess,ih]
theorem bl_trans:∀ {x y z:List UInt8},Op.bytesLess x y=true→Op.bytesLess y z=true→Op.bytesLess x z=true
 | [],[],_,h,_=>by simp[Op.bytesLess]at h
 | [],_::_,[],_,h=>by simp[Op.bytesLess]at h
 | [],_::_,_::_,_,_=>by simp[Op.bytesLess]
 |_::_,[],_,h,_=>by simp[Op.bytesLess]at h
 |_::_,_::_,[],_,h=>by simp[Op.bytesLess]at h
 |a::l,b::m,c::n,h,k=>by
  have ih:= @bl_trans l m n;simp only[Op.bytesLess,Bool.or_eq_true,Bool.and_eq_true,decide_eq_true_eq,beq_iff_eq]at h k⊢;rcases h with h|⟨rfl,h⟩
  ·rcases k with k|⟨rfl,k⟩
   ·exact Or.inl (UInt8.lt_trans h k)
   ·exact Or.inl h
  ·rcases k with k|⟨rfl,k⟩
   ·exact Or.inl k
   ·exact Or.inr ⟨rfl,ih h k⟩
theorem cmpI_0 (x y:Int):cmpI x y=0↔x=y:=by unfold cmpI;split<;>(try split)<;>omega
theorem cmpI_n (x y:Int):cmpI x y<0↔x<y:=by unfold cmpI;split<;>(try split)<;>omega
theorem cmpS_0 (s t:ByteArray):cmpS s t=0↔s.toList=t.toList:=by
 unfold cmpS;by_cases h:s.toList=t.toList
 ·rw[h,bl_irrefl];simp
 ·simp[h];split<;>simp
theorem cmpS_le (s t:ByteArray):cmpS s t≤0↔(Op.bytesLess s.toList t.toList=true∨s.toList=t.toList):=by
 unfold cmpS;by_cases h:Op.bytesLess s.toList t.toList=true
 ·simp[h]
 ·by_cases e:s.toList=t.toList
  ·rw[e,bl_irrefl];simp
  ·simp[h,e]
theorem cmpV_0 (k n:Int)(s:ByteArray)(k' n':Int)(s':ByteArray):(cmpV k n s k' n' s'==0)=(k==k' && (n==n' &&s.toList==s'.toList)):=by
 have a:=cmpI_0 k k';have b:=cmpI_0 n n';have c:=cmpS_0 s s';have:(cmpV k n s k' n' s'=0)↔(k=k'∧n=n'∧s.toList=s'.toList):=by
  unfold cmpV orI;rw[←a,←b,←c];by_cases h:cmpI k k'=0
  ·by_cases g:cmpI n n'=0
   ·simp[h,g]
   ·simp[h,g]
  ·simp[h]
 rw[Bool.eq_iff_iff];simp[this]
theorem cmpV_le (k n:Int)(s:ByteArray)(k' n':Int)(s':ByteArray):cmpV k n s k' n' s'≤0↔(k<k'∨(k=k'∧(n<n'∨(n=n'∧cmpS s s'≤0)))):=by
 have a:=cmpI_0 k k';have b:=cmpI_0 n n';have a':=cmpI_n k k';have b':=cmpI_n n n';unfold cmpV orI;by_cases h:cmpI k k'=0
 ·by_cases g:cmpI n n'=0
  ·simp only[h,g,if_true];omega
  ·simp only[h,g,if_true,if_false];omega
 ·simp only[h,if_false];omega
theorem cmpV_trans {k n:Int}{s:ByteArray}{k' n':Int}{s':ByteArray}{k2 n2:Int}{s2:ByteArray}(h:cmpV k n s k' n' s'≤0)(g:cmpV k' n' s' k2 n2 s2≤0):cmpV k n s k2 n2 s2≤0:=by
 have st:cmpS s s'≤0→cmpS s' s2≤0→cmpS s s2≤0:=by
  rw[cmpS_le,cmpS_le,cmpS_le];rintro(h|h) (g|g)
  ·exact Or.inl (bl_trans h g)
  ·exact Or.inl (g▸h)
  ·exact Or.inl (h▸g)
  ·exact Or.inr (h.trans g)
 rw[cmpV_le]at*;rcases h with h|⟨rfl,h⟩
 ·rcases g with g|⟨rfl,g⟩
  ·exact Or.inl (by omega)
  ·exact Or.inl h
 ·rcases g with g|⟨rfl,g⟩
  ·exact Or.inl g
  ·refine Or.inr ⟨rfl,?_⟩;rcases h with h|⟨rfl,h⟩
   ·rcases g with g|⟨rfl,g⟩
    ·exact Or.inl (by omega)
    ·exact Or.inl h
   ·rcases g with g|⟨rfl,g⟩
    ·exact Or.inl g
    ·exact Or.inr ⟨rfl,st h g⟩
end
section
open Go.RowKit
theorem blQ_irrefl:∀ (x:List UInt8),Op.bytesLess x x=false
 | []=>by simp[Op.bytesLess]
 |a::x=>by
  have e:¬a<a:=by simp
  simp[Op.bytesLess,e,blQ_irrefl x]
theorem blQ_total:∀ {x y:List UInt8},Op.bytesLess x y=false→x≠y→Op.bytesLess y x=true
 | [],[],_,h=>absurd rfl h
 | [],b::y,h,_=>by simp[Op.bytesLess]at h
 |a::x,[],_,_=>by simp[Op.bytesLess]
 |a::x,b::y,h,hn=>by
  simp only[Op.bytesLess]at h⊢;rcases Nat.lt_trichotomy a.toNat b.toNat with h1|h1|h1
  ·have e:a<b:=by simp[UInt8.lt_iff_toNat_lt];omega
   simp[e]at h
  ·obtain rfl:a=b:=UInt8.toNat_inj.1 h1;have e:¬a<a:=by simp
   simp[e]at h⊢;exact blQ_total h (by rintro rfl;exact hn rfl)
  ·have e:b<a:=by simp[UInt8.lt_iff_toNat_lt];omega
   simp[e]
theorem blQ_asymm:∀ {x y:List UInt8},Op.bytesLess x y=true→Op.bytesLess y x=false
 | [],[],h=>by simp[Op.bytesLess]at h
 | [],b::y,_=>by simp[Op.bytesLess]
 |a::x,[],h=>by simp[Op.bytesLess]at h
 |a::x,b::y,h=>by
  simp only[Op.bytesLess]at h⊢;rcases Nat.lt_trichotomy a.toNat b.toNat with h1|h1|h1
  ·have e:¬b<a:=by simp[UInt8.lt_iff_toNat_lt];omega
   have e':¬b=a:=by rintro rfl;omega
   simp[e,e']
  ·obtain rfl:a=b:=UInt8.toNat_inj.1 h1;have e:¬a<a:=by simp
   simp[e]at h⊢;exact blQ_asymm h
  ·have e:¬a<b:=by simp[UInt8.lt_iff_toNat_lt];omega
   have e':¬a=b:=by rintro rfl;omega
   simp[e,e']at h
theorem cmpI_flip (x y:Int):cmpI y x= -cmpI x y:=by
 unfold cmpI;rcases Int.lt_trichotomy x y with h|h|h
 ·rw[if_neg (by omega),if_pos h,if_pos h];rfl
 ·rw[if_neg (by omega),if_neg (by omega),if_neg (by omega),if_neg (by omega)];rfl
 ·rw[if_pos h,if_neg (by omega),if_pos h]
theorem cmpS_flip (s t:ByteArray):cmpS t s= -cmpS s t:=by
 unfold cmpS;by_cases h:Op.bytesLess s.toList t.toList=true
 ·have h':=blQ_asymm h;have hne:¬t.toList=s.toList:=fun e=>by rw[e,blQ_irrefl]at h;cases h
  rw[if_neg (by rw[h'];simp),if_neg hne,if_pos h];rfl
 ·by_cases he:s.toList=t.toList
  ·rw[if_neg (by rw[he,blQ_irrefl];simp),if_pos he.symm,if_neg h,if_pos he];rfl
  ·rw[if_pos (blQ_total (by simpa using h) he),if_neg h,if_neg he]
theorem cmpV_flip (k n:Int)(s:ByteArray)(k' n':Int)(s':ByteArray):cmpV k' n' s' k n s= -cmpV k n s k' n' s':=by
 unfold cmpV;rw[cmpI_flip k k',cmpI_flip n n',cmpS_flip s s'];unfold orI;by_cases h:cmpI k k'=0
 ·rw[if_pos (by omega),if_pos h];by_cases h2:cmpI n n'=0
  ·rw[if_pos (by omega),if_pos h2]
  ·rw[if_neg (by omega),if_neg h2]
 ·rw[if_neg (by omega),if_neg h]
end
section
open Go.RowKit
theorem ba_ext {s t:ByteArray}(h:s.toList=t.toList):s=t:=by
 rw[ByteArray.toList_eq,ByteArray.toList_eq]at h;cases s;cases t;simp at h;rw[h]
theorem cmpW_0 (x y:V3):cmpW x y=0↔x=y:=by
 have h:=cmpV_0 x.k x.n x.s y.k y.n y.s;rw[Bool.eq_iff_iff]at h;simp only[beq_iff_eq,Bool.and_eq_true]at h;unfold cmpW;rw[h];constructor
 ·rintro⟨h1,h2,h3⟩;obtain⟨k,n,s⟩:=x;obtain⟨k',n',s'⟩:=y;have:=ba_ext h3;simp at h1 h2 this;rw[h1,h2,this]
 ·rintro rfl;exact⟨rfl,rfl,rfl⟩
theorem cmpW_flip (x y:V3):cmpW y x= -cmpW x y:=cmpV_flip _ _ _ _ _ _
theorem cmpW_trans {x y z:V3}(h:cmpW x y≤0)(g:cmpW y z≤0):cmpW x z≤0:=cmpV_trans h g
theorem cmpRow_flip:∀ (a b:List V3),cR8 b a= -cR8 a b
 | [],[]=>rfl
 | [],_::_=>rfl
 |_::_,[]=>rfl
 |x::xs,y::ys=>by
  have h:=cmpW_flip x y;simp only[cR8];rw[h,cmpRow_flip xs ys];by_cases h0:cmpW x y=0
  ·rw[if_pos (by omega),if_pos h0]
  ·rw[if_neg (by omega),if_neg h0]
theorem cmpRow_0:∀ (a b:List V3),cR8 a b=0↔a=b
 | [],[]=>by simp[cR8]
 | [],_::_=>by simp[cR8]
 |_::_,[]=>by simp[cR8]
 |x::xs,y::ys=>by
  simp only[cR8];by_cases h0:cmpW x y=0
  ·rw[if_pos h0,cmpRow_0 xs ys,(cmpW_0 x y).1 h0];simp
  ·rw[if_neg h0];constructor
   ·intro h;exact absurd h h0
   ·intro h;injection h with h1 _;exact absurd ((cmpW_0 x y).2 h1) h0
theorem cmpRow_trans:∀ {a b c:List V3},cR8 a b<0→cR8 b c<0→cR8 a c<0
 | [],[],_,h,_=>by simp[cR8]at h
 | [],_::_,[],_,h=>by simp[cR8]at h
 | [],_::_,_::_,_,_=>by simp[cR8]
 |_::_,[],_,h,_=>by simp[cR8]at h
 |_::_,_::_,[],_,h=>by simp[cR8]at h
 |x::xs,y::ys,z::zs,h,k=>by
  have ih:= @cmpRow_trans xs ys zs;simp only[cR8]at h k⊢;by_cases h0:cmpW x y=0
  ·rw[if_pos h0]at h;obtain rfl:=(cmpW_0 x y).1 h0;by_cases k0:cmpW x z=0
   ·rw[if_pos k0]at k⊢;exact ih h k
   ·rw[if_neg k0]at k⊢;exact k
  ·rw[if_neg h0]at h;by_cases k0:cmpW y z=0
   ·obtain rfl:=(cmpW_0 y z).1 k0;rw[if_neg h0];exact h
   ·rw[if_neg k0]at k;have h1:=cmpW_trans (x:=x) (y:=y) (z:=z) (by omega) (by omega);have h2:cmpW x z≠0:=by
     intro e;obtain rfl:=(cmpW_0 x z).1 e;have:=cmpW_flip x y;omega
    rw[if_neg h2];omega
theorem cmpRow_irr (a:List V3):cR8 a a=0:=(cmpRow_0 a a).2 rfl
def Asc (cs:List C2):Prop:=cs.Pairwise fun x y=>cR8 x.r y.r<0
def ahead (cs:List C2)(row:List V3):Nat:=(cs.takeWhile fun c=>decide (cR8 c.r row<0)).length
theorem gt_of {a b:List V3}(h:¬cR8 a b<0)(hne:a≠b):cR8 b a<0:=by
 have:=cmpRow_flip a b;have h0:cR8 a b≠0:=fun e=>hne ((cmpRow_0 a b).1 e);omega
end
section
open Go.RowKit Go.Deep Go.ChangeShapes Go.WideShapes
def SrcIs (w:World)(size:Nat)(sv:Value)(m:Nat)(news:List Value):Prop:=news.length=m*size∧(sv=.slice none 0 0∧m=0∨∃ad c,sv=.slice (some ad) m c∧∀j u,news[j]?=some u→w.cell? (ad.add j)=some u)
theorem step_append_src {P:Program}(w:World){ops:Array Oper}{o:Oper}{a:Act}{K:Act→World→Prop}{Q:Exit→Act→World→Prop}{E:Prop}(hgd:o.guard=none)(s x:Operand)(t:TypeId)(ho:o.op=.call {callee:=.builtin .append,args:=#[s,x],argTypes:=#[t,t]})(base:Nat) (e:TypeId) (i:TypeInfo) (z:Value) (size bytes:Nat) (ht:P.underlying t=some (.slice e)) (hi:P.info? e=some i) (hz:i.zero=some z)(hsize:i.size=size) (hby:i.bytes=bytes) (hzs:z.cells.size=size) (hsz:0<size)(v:Value) (n:Nat) (xs:List Value) (hs:a.eval s=v) (hown:w.ownsRow base e size v n xs)(sv:Value) (m:Nat) (news:List Value) (hx:a.eval x=sv) (hsrc:SrcIs w size sv m news) (h1:∀u∈news,u.oneCell'=true)(h63:n+m≤maxLen) (hbytes:(n+m)*bytes≤140737488355328) (hbase:base≤w.heap.size)(h:∀v' w',w'.ownsRow base e size v' (n+m) (xs++news)→w.grownBy w' v.ownBlock→(v'.ownBlock=v.ownBlock∨v'.ownBlock=some w.heap.size)→K (a.put o.dst v') w'):if Region.wanted o (yielded ops a.tmps)=true then Oper.wp P o a w K Q else E:=by
 have hw:Region.wanted o (yielded ops a.tmps)=true:=by simp[Region.wanted,hgd]
 rw[if_pos hw];have key:∃v' w',(Builtin.append_ #[t,t] o.type #[v,sv]).run P w=.ok v' w'∧w'.ownsRow base e size v' (n+m) (xs++news)∧w.grownBy w' v.ownBlock∧(v'.ownBlock=v.ownBlock∨v'.ownBlock=some w.heap.size):=by
  obtain⟨hl,⟨rfl,rfl⟩|⟨ad,c,rfl,hc⟩⟩:=hsrc
  ·have hn:news=[]:=List.eq_nil_of_length_eq_zero (by simpa using hl);subst hn;exact⟨v,w,run_append_owned_none w base t o.type e i size ht hi v n xs hown,by simpa using hown,⟨rfl,rfl,rfl,Nat.le_refl _,fun _ _ _=>rfl⟩,.inl rfl⟩
  ·obtain⟨v',w',hr,h2,h3,_,h5⟩:=run_append_own_at (P:=P) w base t o.type e i z size bytes ht hi hz hsize hby hzs hsz v n xs hown ad m c news hl hc h1 h63 hbytes hbase;exact⟨v',w',hr,h2,h3,h5⟩
 obtain⟨v',w',hr,h2,h3,h4⟩:=key;unfold Oper.wp execOp;simp only[ho,resolve,invoke,builtin,Sem.run_bind,Sem.run_pure,Result.andThen_ok,List.map_toArray,List.map_cons,List.map_nil,hs,hx,hr];exact h v' w' h2 h3 h4
theorem cc_append {us vs:List Value}{cs ds:List C2}(h:us.length=cs.length):cc (us++vs) (cs++ds)=cc us cs++cc vs ds:=by
 unfold cc;rw[List.zip_append h,List.flatMap_append]
theorem cc_split {us:List Value}{cs:List C2}(h:us.length=cs.length)(k:Nat)(hk:k≤cs.length):cc us cs=cc (us.take k) (cs.take k)++cc (us.drop k) (cs.drop k):=by
 rw[←cc_append (by simp[h]),List.take_append_drop,List.take_append_drop]
theorem BagOwn.one {w:World}{N:Nat}{v:Value}{cs:List C2}{us:List Value}{G:List (List Nat)}(h:BagOwn w N v cs us G):∀u∈us,u.oneCell'=true:=by
 intro u hu;obtain⟨i,hi,rfl⟩:=List.mem_iff_getElem.1 hu;have h1:i<cs.length:=by rw[←h.ul];exact hi
 have h2:i<G.length:=by rw[h.gl];exact h1
 obtain⟨a,c,e,_⟩:=h.row i cs[i] us[i] G[i] (by simp) (by simp) (by simp);rw[e];rfl
theorem BagOwn.src1 {w w':World}{N:Nat}{av:Option Addr}{l cap:Nat}{cs:List C2}{us:List Value}{G:List (List Nat)}(h:BagOwn w N (.slice av l cap) cs us G)(hb:Below w.heap.size w w'){k:Nat}(hk:k≤cs.length):SrcIs w' 2 (.slice av k cap) k (cc (us.take k) (cs.take k)):=by
 refine⟨by rw[cc_len (by simp[h.ul])];simp;omega,?_⟩;obtain⟨hl,ho⟩:=h.own;have hlt:=oL8 h.own;rcases ho with⟨e,h0⟩|⟨g,cap',cur,e,hg,hc,hn,hm,hs,ht⟩
 ·cases e;left;have:k=0:=by omega
  subst this;exact⟨rfl,rfl⟩
 cases e;refine .inr ⟨_,_,rfl,fun j u hu=>?_⟩;have hj:j<k*2:=by have:=(gE1 hu).1;rw[cc_len (by simp[h.ul])]at this;simp at this;omega
 rw[add_plain,Nat.zero_add,hb.cell (p:=⟨g,_,none⟩) (hlt g rfl).2];have e2:=cc_split h.ul k hk;have hu2:(cc us cs)[j]?=some u:=by rw[e2,List.getElem?_append_left (by exact(gE1 hu).1)];exact hu
 simp only[World.cell?,hc];rw[←ht,List.getElem?_take,if_pos (by omega),Array.getElem?_toList]at hu2
 simpa using hu2
theorem BagOwn.src2 {w w':World}{N:Nat}{av:Option Addr}{l cap:Nat}{cs:List C2}{us:List Value}{G:List (List Nat)}(h:BagOwn w N (.slice av l cap) cs us G)(hb:Below w.heap.size w w'){k:Nat}(hk:k≤cs.length):SrcIs w' 2 (.slice (if cap=k then av else av.map fun p=>p.add (k*2)) (cs.length -k) (cap -k)) (cs.length -k) (cc (us.drop k) (cs.drop k)):=by
 refine⟨by rw[cc_len (by simp[h.ul])];simp,?_⟩;obtain⟨hl,ho⟩:=h.own;have hlt:=oL8 h.own;rcases ho with⟨e,h0⟩|⟨g,cap',cur,e,hg,hc,hn,hm,hs,ht⟩
 ·cases e;left;have:k=0:=by omega
  subst this;simp[h0]
 cases e;right;by_cases hck:cap=k
 ·have hz:cs.length -k=0:=by omega
  refine⟨_,_,by rw[if_pos hck],fun j u hu=>?_⟩;have:=(gE1 hu).1;rw[cc_len (by simp[h.ul])]at this;simp at this;omega
 refine⟨_,_,by rw[if_neg hck];rfl,fun j u hu=>?_⟩;have hj:j<(cs.length -k)*2:=by have:=(gE1 hu).1;rw[cc_len (by simp[h.ul])]at this;simpa using this
 dsimp only;rw[add_plain,add_plain,Nat.zero_add,hb.cell (p:=⟨g,_,none⟩) (hlt g rfl).2];have e2:=cc_split h.ul k hk;have hlen1:(cc (us.take k) (cs.take k)).length=k*2:=by rw[cc_len (by simp[h.ul])];simp;omega
 have hu2:(cc us cs)[k*2+j]?=some u:=by rw[e2,List.getElem?_append_right (by omega),hlen1,Nat.add_sub_cancel_left];exact hu
 simp only[World.cell?,hc];rw[←ht,List.getElem?_take,if_pos (by omega),Array.getElem?_toList]at hu2
 simpa using hu2
theorem BagOwn.put {w w1 w':World}{N:Nat}{v v' u0:Value}{cs:List C2}{us:List Value}{G:List (List Nat)}{x:C2}{g0:List Nat}(h:BagOwn w N v cs us G)(hN:N≤w.heap.size)(hb:Below w.heap.size w w1)(hR:RowF w1 u0 x.r g0)(hO:OwnB w1 w.heap.size g0)(hb1:∀b,b<w.heap.size∨b∈g0→w'.heap[b]?=w1.heap[b]?)(hz:w1.heap.size≤w'.heap.size){k:Nat}(hk:k≤cs.length){B:Nat}(hB:w.heap.size≤B)(hv0:∀b,v'.ownBlock=some b→b∉g0)(ho:w'.ownsRow B 91 2 v' (k+1+(cs.length -k)) (cc (us.take k) (cs.take k)++ [u0,.int .i64 x.n]++cc (us.drop k) (cs.drop k))):BagOwn w' N v' (cs.take k++x::cs.drop k) (us.take k++u0::us.drop k) (G.take k++g0::G.drop k):=by
 have hul:=h.ul;have hgl:=h.gl;have hmem:∀b∈(G.take k++g0::G.drop k).flatten,b∈G.flatten∨b∈g0:=by
  intro b hm;obtain⟨q,hq,hbq⟩:=List.mem_flatten.1 hm;rcases List.mem_append.1 hq with h1|h1
  ·exact .inl (List.mem_flatten.2 ⟨q,List.mem_of_mem_take h1,hbq⟩)
  ·rcases List.mem_cons.1 h1 with rfl|h1
   ·exact .inr hbq
   ·exact .inl (List.mem_flatten.2 ⟨q,List.mem_of_mem_drop h1,hbq⟩)
 have hk1:∀b∈G.flatten,w'.heap[b]?=w.heap[b]?:=fun b hm=>(hb1 b (.inl (h.lt b hm))).trans (hb.block b (h.lt b hm));have hk0:∀b∈g0,w'.heap[b]?=w1.heap[b]?:=fun b hm=>hb1 b (.inr hm);refine⟨?_,by simp[hul],by simp[hgl],fun i y u q hy hu hq=>?_,⟨?_,fun b hm=>?_,fun b hm o=>?_⟩,fun b hv hm=>?_⟩
 ·rw[cc_append (by simp[hul])];have e:cc (u0::us.drop k) (x::cs.drop k)=[u0,.int .i64 x.n]++cc (us.drop k) (cs.drop k):=by unfold cc;rw[List.zip_cons_cons,List.flatMap_cons]
  rw[e,←List.append_assoc,show(cs.take k++x::cs.drop k).length=k+1+(cs.length -k)from by simp;omega];refine⟨ho.1,?_⟩;rcases ho.2 with hn|⟨g,cap,cur,e,hg,rest⟩
  ·exact .inl hn
  ·exact .inr ⟨g,cap,cur,e,by omega,rest⟩
 ·have old:∀j:Nat,cs[j]?=some y→us[j]?=some u→G[j]?=some q→RowF w' u y.r q:=fun j h1 h2 h3=>
   (h.row j y u q h1 h2 h3).keep (Nat.le_trans hb.size hz) fun b hbq=>hk1 b (List.mem_flatten.2 ⟨q,mg8 h3,hbq⟩)
  by_cases hlt:i<k
  ·rw[List.getElem?_append_left (by simp;omega),List.getElem?_take,if_pos hlt]at hy hu hq;exact old i hy hu hq
  ·rw[List.getElem?_append_right (by simp;omega)]at hy hu hq;simp only[List.length_take,hul,hgl,Nat.min_eq_left hk]at hy hu hq;cases hik:i -k with
   |zero=>
    rw[hik]at hy hu hq;simp at hy hu hq;subst hy hu hq;exact hR.keep hz hk0
   |succ j=>
    rw[hik,List.getElem?_cons_succ,List.getElem?_drop]at hy hu hq;exact old _ hy hu hq
 ·have hnd:=h.free.1;rw[←List.take_append_drop k G,List.flatten_append,List.nodup_append]at hnd;obtain⟨n1,n2,n3⟩:=hnd;rw[List.flatten_append,List.flatten_cons,List.nodup_append,List.nodup_append];have far:∀b,b∈g0→b∈G.flatten→False:=fun b h1 h2=>by have:=hO.2.1 b h1;have:=h.lt b h2;omega
  refine⟨n1,⟨hO.1,n2,fun a ha b hb' e=>?_⟩,fun a ha b hb' e=>?_⟩
  ·subst e;obtain⟨q,hq,hbq⟩:=List.mem_flatten.1 hb';exact far a ha (List.mem_flatten.2 ⟨q,List.mem_of_mem_drop hq,hbq⟩)
  ·rcases List.mem_append.1 hb' with h1|h1
   ·subst e;obtain⟨q,hq,hbq⟩:=List.mem_flatten.1 ha;exact far a h1 (List.mem_flatten.2 ⟨q,List.mem_of_mem_take hq,hbq⟩)
   ·exact n3 a ha b h1 e
 ·rcases hmem b hm with h1|h1
  ·exact h.free.2.1 b h1
  ·have:=hO.2.1 b h1;omega
 ·rcases hmem b hm with h1|h1
  ·exact(fb8 (hk1 b h1)).trans (h.free.2.2 b h1 o)
  ·exact(fb8 (hk0 b h1)).trans (hO.2.2 b h1 o)
 ·rcases hmem b hm with h1|h1
  ·have h2:=(oL8 ho b hv).1;have h3:=h.lt b h1;omega
  ·exact hv0 b hv h1
theorem BagOwn.src3 {w w':World}{N:Nat}{g l cap:Nat}{cs:List C2}{us:List Value}{G:List (List Nat)}(h:BagOwn w N (.slice (some ⟨g,0,none⟩) l cap) cs us G)(hb:Below w.heap.size w w'){k:Nat}(hk:k≤cs.length):SrcIs w' 2 (.slice (if cap=k then some ⟨g,0,none⟩else some ⟨g,k*2,none⟩) (cs.length -k) (cap -k)) (cs.length -k) (cc (us.drop k) (cs.drop k)):=by
 have:=h.src2 hb hk
 rwa [Option.map_some,add_plain,Nat.zero_add]at this
def PutOut (w:World)(N:Nat)(wd:Int)(v:Value)(G:List (List Nat))(P:List C2)(e:Ending)(w':World):Prop:=
 ∃v' us' G',e=.returned (.agg #[.int .i64 wd,v'])∧BagOwn w' N v' P us' G'∧(∀b,b<w.heap.size→v'.ownBlock=some b→v.ownBlock=some b)∧(∀b,b<w.heap.size→b∈G'.flatten→b∈G.flatten)∧Below N w w'∧w.grownBy w' v.ownBlock
theorem PutOut.of_below {w w':World}{N:Nat}{wd:Int}{v v':Value}{G G':List (List Nat)}{us':List Value}{P:List C2}(hB:BagOwn w' N v' P us' G')(h1:∀b,b<w.heap.size→v'.ownBlock=some b→v.ownBlock=some b)(h2:∀b,b<w.heap.size→b∈G'.flatten→b∈G.flatten)(hb:Below w.heap.size w w')(hN:N≤w.heap.size):PutOut w N wd v G P (.returned (.agg #[.int .i64 wd,v'])) w':=
 ⟨v',us',G',rfl,hB,h1,h2,hb.mono hN,hb.os,hb.tape,hb.output,hb.size,fun k hk _=>hb.block k hk⟩
end
section
open Go.RowKit Go.Deep Go.ChangeShapes Go.WideShapes
theorem rcs_len {us:List Value}{rs:List R3}(h:us.length=rs.length):(rcs us rs).length=rs.length*3:=by
 unfold rcs;induction us generalizing rs with
 |nil=>cases rs with|nil=>rfl|cons=>simp at h
 |cons u us ih=>
  cases rs with
  |nil=>simp at h
  |cons c rs=>
   have:=ih (rs:=rs) (by simpa using h);rw[List.zip_cons_cons,List.flatMap_cons,List.length_append,this];simp;omega
theorem rcs_append {us vs:List Value}{cs ds:List R3}(h:us.length=cs.length):rcs (us++vs) (cs++ds)=rcs us cs++rcs vs ds:=by
 unfold rcs;rw[List.zip_append h,List.flatMap_append]
theorem rcs_split {us:List Value}{cs:List R3}(h:us.length=cs.length)(k:Nat)(hk:k≤cs.length):rcs us cs=rcs (us.take k) (cs.take k)++rcs (us.drop k) (cs.drop k):=by
 rw[←rcs_append (by simp[h]),List.take_append_drop,List.take_append_drop]
theorem rcs_one {us:List Value}{cs:List R3}(hu:∀u∈us,u.oneCell'=true):∀u∈rcs us cs,u.oneCell'=true:=by
 intro u h;obtain⟨p,hp,hq⟩:=List.mem_flatMap.1 h;have:=(List.of_mem_zip hp).1;simp at hq;rcases hq with rfl|rfl|rfl
 ·rfl
 ·rfl
 ·exact hu _ this
theorem RelOwn.one {w:World}{N:Nat}{v:Value}{cs:List R3}{us:List Value}{G:List (List Nat)}(h:RelOwn w N v cs us G):∀u∈us,u.oneCell'=true:=by
 intro u hu;obtain⟨i,hi,rfl⟩:=List.mem_iff_getElem.1 hu;have h1:i<cs.length:=by rw[←h.ul];exact hi
 have h2:i<G.length:=by rw[h.gl];exact h1
 obtain⟨a,l,c,e⟩:=(h.row i cs[i] us[i] G[i] (by simp) (by simp) (by simp)).is.shape;rw[e];rfl
theorem RelOwn.src1 {w w':World}{N:Nat}{av:Option Addr}{l cap:Nat}{cs:List R3}{us:List Value}{G:List (List Nat)}(h:RelOwn w N (.slice av l cap) cs us G)(hb:Below w.heap.size w w'){k:Nat}(hk:k≤cs.length):SrcIs w' 3 (.slice av k cap) k (rcs (us.take k) (cs.take k)):=by
 refine⟨by rw[rcs_len (by simp[h.ul])];simp;omega,?_⟩;obtain⟨hl,ho⟩:=h.own;have hlt:=oL8 h.own;rcases ho with⟨e,h0⟩|⟨g,cap',cur,e,hg,hc,hn,hm,hs,ht⟩
 ·cases e;left;have:k=0:=by omega
  subst this;exact⟨rfl,rfl⟩
 cases e;refine .inr ⟨_,_,rfl,fun j u hu=>?_⟩;have hj:j<k*3:=by have:=(gE1 hu).1;rw[rcs_len (by simp[h.ul])]at this;simp at this;omega
 rw[add_plain,Nat.zero_add,hb.cell (p:=⟨g,_,none⟩) (hlt g rfl).2];have e2:=rcs_split h.ul k hk;have hu2:(rcs us cs)[j]?=some u:=by rw[e2,List.getElem?_append_left (by exact(gE1 hu).1)];exact hu
 simp only[World.cell?,hc];rw[←ht,List.getElem?_take,if_pos (by omega),Array.getElem?_toList]at hu2
 simpa using hu2
theorem RelOwn.src2 {w w':World}{N:Nat}{av:Option Addr}{l cap:Nat}{cs:List R3}{us:List Value}{G:List (List Nat)}(h:RelOwn w N (.slice av l cap) cs us G)(hb:Below w.heap.size w w'){k:Nat}(hk:k≤cs.length):SrcIs w' 3 (.slice (if cap=k then av else av.map fun p=>p.add (k*3)) (cs.length -k) (cap -k)) (cs.length -k) (rcs (us.drop k) (cs.drop k)):=by
 refine⟨by rw[rcs_len (by simp[h.ul])];simp,?_⟩;obtain⟨hl,ho⟩:=h.own;have hlt:=oL8 h.own;rcases ho with⟨e,h0⟩|⟨g,cap',cur,e,hg,hc,hn,hm,hs,ht⟩
 ·cases e;left;have:k=0:=by omega
  subst this;simp[h0]
 cases e;right;by_cases hck:cap=k
 ·have hz:cs.length -k=0:=by omega
  refine⟨_,_,by rw[if_pos hck],fun j u hu=>?_⟩;have:=(gE1 hu).1;rw[rcs_len (by simp[h.ul])]at this;simp at this;omega
 refine⟨_,_,by rw[if_neg hck];rfl,fun j u hu=>?_⟩;have hj:j<(cs.length -k)*3:=by have:=(gE1 hu).1;rw[rcs_len (by simp[h.ul])]at this;simpa using this
 dsimp only;rw[add_plain,add_plain,Nat.zero_add,hb.cell (p:=⟨g,_,none⟩) (hlt g rfl).2];have e2:=rcs_split h.ul k hk;have hlen1:(rcs (us.take k) (cs.take k)).length=k*3:=by rw[rcs_len (by simp[h.ul])];simp;omega
 have hu2:(rcs us cs)[k*3+j]?=some u:=by rw[e2,List.getElem?_append_right (by omega),hlen1,Nat.add_sub_cancel_left];exact hu
 simp only[World.cell?,hc];rw[←ht,List.getElem?_take,if_pos (by omega),Array.getElem?_toList]at hu2
 simpa using hu2
theorem RelOwn.put {w w1 w':World}{N:Nat}{v v' u0:Value}{cs:List R3}{us:List Value}{G:List (List Nat)}{x:R3}{g0:List Nat}(h:RelOwn w N v cs us G)(hN:N≤w.heap.size)(hb:Below w.heap.size w w1)(hR:RowsF w1 u0 x.cs g0)(hO:OwnB w1 w.heap.size g0)(hb1:∀b,b<w.heap.size∨b∈g0→w'.heap[b]?=w1.heap[b]?)(hz:w1.heap.size≤w'.heap.size){k:Nat}(hk:k≤cs.length){B:Nat}(hB:w.heap.size≤B)(hv0:∀b,v'.ownBlock=some b→b∉g0)(ho:w'.ownsRow B 59 3 v' (k+1+(cs.length -k)) (rcs (us.take k) (cs.take k)++ [.string x.s,.int .i64 x.W,u0]++rcs (us.drop k) (cs.drop k))):RelOwn w' N v' (cs.take k++x::cs.drop k) (us.take k++u0::us.drop k) (G.take k++g0::G.drop k):=by
 have hul:=h.ul;have hgl:=h.gl;have hmem:∀b∈(G.take k++g0::G.drop k).flatten,b∈G.flatten∨b∈g0:=by
  intro b hm;obtain⟨q,hq,hbq⟩:=List.mem_flatten.1 hm;rcases List.mem_append.1 hq with h1|h1
  ·exact .inl (List.mem_flatten.2 ⟨q,List.mem_of_mem_take h1,hbq⟩)
  ·rcases List.mem_cons.1 h1 with rfl|h1
   ·exact .inr hbq
   ·exact .inl (List.mem_flatten.2 ⟨q,List.mem_of_mem_drop h1,hbq⟩)
 have hk1:∀b∈G.flatten,w'.heap[b]?=w.heap[b]?:=fun b hm=>(hb1 b (.inl (h.lt b hm))).trans (hb.block b (h.lt b hm));have hk0:∀b∈g0,w'.heap[b]?=w1.heap[b]?:=fun b hm=>hb1 b (.inr hm);refine⟨?_,by simp[hul],by simp[hgl],fun i y u q hy hu hq=>?_,⟨?_,fun b hm=>?_,fun b hm o=>?_⟩,fun b hv hm=>?_⟩
 ·rw[rcs_append (by simp[hul])];have e:rcs (u0::us.drop k) (x::cs.drop k)=[.string x.s,.int .i64 x.W,u0]++rcs (us.drop k) (cs.drop k):=by unfold rcs;rw[List.zip_cons_cons,List.flatMap_cons]
  rw[e,←List.append_assoc,show(cs.take k++x::cs.drop k).length=k+1+(cs.length -k)from by simp;omega];refine⟨ho.1,?_⟩;rcases ho.2 with hn|⟨g,cap,cur,e,hg,rest⟩
  ·exact .inl hn
  ·exact .inr ⟨g,cap,cur,e,by omega,rest⟩
 ·have old:∀j:Nat,cs[j]?=some y→us[j]?=some u→G[j]?=some q→RowsF w' u y.cs q:=fun j h1 h2 h3=>
   (h.row j y u q h1 h2 h3).keep (Nat.le_trans hb.size hz) fun b hbq=>hk1 b (List.mem_flatten.2 ⟨q,mg8 h3,hbq⟩)
  by_cases hlt:i<k
  ·rw[List.getElem?_append_left (by simp;omega),List.getElem?_take,if_pos hlt]at hy hu hq;exact old i hy hu hq
  ·rw[List.getElem?_append_right (by simp;omega)]at hy hu hq;simp only[List.length_take,hul,hgl,Nat.min_eq_left hk]at hy hu hq;cases hik:i -k with
   |zero=>
    rw[hik]at hy hu hq;simp at hy hu hq;subst hy hu hq;exact hR.keep hz hk0
   |succ j=>
    rw[hik,List.getElem?_cons_succ,List.getElem?_drop]at hy hu hq;exact old _ hy hu hq
 ·have hnd:=h.free.1;rw[←List.take_append_drop k G,List.flatten_append,List.nodup_append]at hnd;obtain⟨n1,n2,n3⟩:=hnd;rw[List.flatten_append,List.flatten_cons,List.nodup_append,List.nodup_append];have far:∀b,b∈g0→b∈G.flatten→False:=fun b h1 h2=>by have:=hO.2.1 b h1;have:=h.lt b h2;omega
  refine⟨n1,⟨hO.1,n2,fun a ha b hb' e=>?_⟩,fun a ha b hb' e=>?_⟩
  ·subst e;obtain⟨q,hq,hbq⟩:=List.mem_flatten.1 hb';exact far a ha (List.mem_flatten.2 ⟨q,List.mem_of_mem_drop hq,hbq⟩)
  ·rcases List.mem_append.1 hb' with h1|h1
   ·subst e;obtain⟨q,hq,hbq⟩:=List.mem_flatten.1 ha;exact far a h1 (List.mem_flatten.2 ⟨q,List.mem_of_mem_take hq,hbq⟩)
   ·exact n3 a ha b h1 e
 ·rcases hmem b hm with h1|h1
  ·exact h.free.2.1 b h1
  ·have:=hO.2.1 b h1;omega
 ·rcases hmem b hm with h1|h1
  ·exact(fb8 (hk1 b h1)).trans (h.free.2.2 b h1 o)
  ·exact(fb8 (hk0 b h1)).trans (hO.2.2 b h1 o)
 ·rcases hmem b hm with h1|h1
  ·have h2:=(oL8 ho b hv).1;have h3:=h.lt b h1;omega
  ·exact hv0 b hv h1
theorem RelOwn.src3 {w w':World}{N:Nat}{g l cap:Nat}{cs:List R3}{us:List Value}{G:List (List Nat)}(h:RelOwn w N (.slice (some ⟨g,0,none⟩) l cap) cs us G)(hb:Below w.heap.size w w'){k:Nat}(hk:k≤cs.length):SrcIs w' 3 (.slice (if cap=k then some ⟨g,0,none⟩else some ⟨g,k*3,none⟩) (cs.length -k) (cap -k)) (cs.length -k) (rcs (us.drop k) (cs.drop k)):=by
 have:=h.src2 hb hk
 rwa [Option.map_some,add_plain,Nat.zero_add]at this
theorem RelOwn.cellR {w:World}{N g cap l:Nat}{cs:List R3}{us:List Value}{G:List (List Nat)}(h:RelOwn w N (.slice (some ⟨g,0,none⟩) l cap) cs us G){i:Nat}{x:R3}(hx:cs[i]?=some x):w.cell? ⟨g,i*3,none⟩=some (.string x.s)∧N≤g∧g<w.heap.size∧cs.length≤cap∧cap≤maxLen:=by
 have hlt:=oL8 h.own g rfl;obtain⟨hl,ho⟩:=h.own;rcases ho with⟨hv,_⟩|⟨g',cap',cur,hv,hg,hc,hn,hm,hs,ht⟩
 ·cases hv
 cases hv;have hi:i<cs.length:=(gE1 hx).1;have hu:us[i]?=some (us[i]'(by rw[h.ul];exact hi)):=by simp
 obtain⟨e0,_,_⟩:=rcs_at h.ul hu hx;refine⟨?_,hlt.1,hlt.2,hn,hm⟩;simp only[World.cell?,hc];rw[←ht,List.getElem?_take,if_pos (by omega),Array.getElem?_toList]at e0
 simpa using e0
theorem RelOwn.capR {w:World}{N g cap l:Nat}{cs:List R3}{us:List Value}{G:List (List Nat)}(h:RelOwn w N (.slice (some ⟨g,0,none⟩) l cap) cs us G):N≤g∧g<w.heap.size∧cs.length≤cap∧cap≤maxLen:=by
 have hlt:=oL8 h.own g rfl;obtain⟨hl,ho⟩:=h.own;rcases ho with⟨hv,_⟩|⟨g',cap',cur,hv,hg,hc,hn,hm,hs,ht⟩
 ·cases hv
 cases hv;exact⟨hlt.1,hlt.2,hn,hm⟩
theorem belowQ {N:Nat}{w a:World}(h:Below N w a)(n:Nat):Below N w (a.drewN n):=⟨h.os,h.tape,h.output,h.size,h.block⟩
theorem own_someX {w:World}{N e n s:Nat}{v:Value}{xs:List Value}(h:w.ownsRow N e s v n xs)(hn:0<n):∃g c,v=.slice (some ⟨g,0,none⟩) n c:=by
 rcases h.2 with⟨rfl,rfl⟩|⟨g,cap,cur,rfl,_⟩
 ·omega
 ·exact⟨_,_,rfl⟩
end
end
end Go.Proofs.YtjhhmnjpojnoiaaGreatDoor
