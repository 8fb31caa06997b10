/- Own text. The contract of spec.l02Put: a bag of the caller's own, with a row so much more often. -/
import Derived.Test.YteekfcdllaceoaaGreatDoorGLAnswer2
import Derived.Test.YteekfcdllaceoaaGreatDoorGLAnswer1
import Derived.Test.YteekfcdllaceoaaGreatDoorGLAnswer3
import Derived.Handy
import Derived.Deep.RegionHeld3
import Derived.Deep.QuietTactic
import Derived.BigQuiet
set_option maxHeartbeats 16000000
set_option maxRecDepth 100000
set_option linter.unusedVariables false
set_option linter.unusedSimpArgs false
namespace Go.Proofs.YteekfcdllaceoaaGreatDoor
section
open Go.RowKit Go.Deep Go.ChangeShapes Go.WideShapes
theorem C4.cellsX {w:World}{N:Nat}{v:Value}{cs:List C2}{us:List Value}{G:List (List Nat)}(h:C4 w N v cs us G){i:Nat}{x:C2}(hx:cs[i]?=some x):∃g cap u gg,v=.slice (some ⟨g,0,none⟩) cs.length cap/\cs.length<=cap/\cap<=maxLen/\N<=g/\g<w.heap.size/\us[i]?=some u/\G[i]?=some gg/\w.cell? ⟨g,i*2,none⟩=some u/\w.cell? ⟨g,i*2+1,none⟩=some (.int .i64 x.n)/\D9 w u x.r gg/\∀q,w.frozen? ⟨g,q,none⟩=false:=by
 have hi:i<cs.length:=(gE1 hx).1;have hiu:i<us.length:=by rw[h.ul];exact hi
 have hig:i<G.length:=by rw[h.gl];exact hi
 have hlt:=oL8 h.own;obtain⟨hl,ho⟩:=h.own;rcases ho with⟨_,h0⟩|⟨g,cap,cur,rfl,hg,hc,hn,hm,hs,ht⟩
 ·omega
 obtain⟨e0,e1⟩:=B00 h.ul (i:=i) (u:=us[i]) (x:=x) (by simp) hx;have get:∀j u,j<cs.length*2->(cc us cs)[j]?=some u->w.cell? ⟨g,j,none⟩=some u:=by
  intro j u hj hu;simp only[World.cell?,hc];rw[<-ht,List.getElem?_take,if_pos hj,Array.getElem?_toList]at hu
  simpa using hu
 exact⟨g,cap,us[i],G[i],rfl,hn,hm,hg,(hlt g rfl).2,by simp,by simp,get _ _ (by omega) e0,get _ _ (by omega) e1,h.row i x us[i] G[i] hx (by simp) (by simp),fun q=>by simp[World.frozen?,hc]⟩
theorem A3X (wd n:Int)(v rv:Value)(cs:List C2)(us:List Value)(G:List (List Nat))(row:List V3)(g0:List Nat)(N:Nat)(w:World)(hB:C4 w N v cs us G)(hr:D9 w rv row g0)(hA:Asc cs)(hN:N<=w.heap.size)(hl:cs.length<=2097152)(hrl:row.length<=1048576)(hn0: -1000000000000000000<=n)(hn1:n<=1000000000000000000)(hc:∀c∈cs,-4000000000000000000<=c.n/\c.n<=4000000000000000000)(P:List C2)(hP:Hid (E5 cs row n=P)):Calls Tryz.prog 77 #[.agg #[.int .i64 wd,v],rv,.int .i64 n] w (A1U w N wd v G P):=by
 obtain⟨av,cv,rfl⟩:=hB.shape;have hcv:cs.length<=cv/\cv<=9223372036854775807:=by
  rcases hB.own.2 with⟨e,h0⟩|⟨g,cap,cur,e,_,_,h1,h2,_⟩
  ·injection e with _ _ e3;omega
  ·injection e with _ _ e3;unfold maxLen at h2;omega
 have hr0:=hr;obtain⟨ar,cr,rfl,_,_,_⟩:=hr;go_enter Tryz.func77,Tryz.ntmps77;go_wp2_with fail;go_region_held3 (fun w'=>w'.cell? ⟨w.heap.size,1,none⟩=some (.slice av cs.length cv)) (go_simp) (fail);go_wp2_with fail;go_loopw [7,8] (fun l h wr=> ∃lo hi:Nat,l=.int .i64 lo/\h=.int .i64 hi/\lo<=ahead cs row/\ahead cs row<=hi/\hi<=cs.length/\Below w.heap.size w wr/\w.heap.size+1<wr.heap.size/\wr.cell? ⟨w.heap.size,0,none⟩=some (.int .i64 wd)/\wr.cell? ⟨w.heap.size,1,none⟩=some (.slice av cs.length cv)/\(∀q,wr.frozen? ⟨w.heap.size,q,none⟩=false)/\wr.cell? ⟨w.heap.size+1,0,none⟩=some (.int .i64 0)/\wr.cell? ⟨w.heap.size+1,1,none⟩=some (.slice none 0 0)/\(∀q,wr.frozen? ⟨w.heap.size+1,q,none⟩=false)) (fun l h _=>(intOf h).toNat - (intOf l).toNat)
 case atStart=>exact⟨0,cs.length,rfl,rfl,Nat.zero_le _,B2L _ _,Nat.le_refl _,bex,by simp,by go_simp,by go_simp,fun q=>by go_simp,by go_simp,by go_simp,fun q=>by go_simp⟩
 case round=>
  obtain⟨lo,hi,rfl,rfl,h1,h2,h3,hb,hz,b0,b1,bf,t0,t1,tf⟩:=hrel;have hzb:=hb.size;by_cases hlt:lo<hi
  ·obtain⟨mid,hmid⟩:∃m,m=(lo+hi)/2:=⟨_,rfl⟩;have hm1:lo<=mid:=by omega
   have hm2:mid<hi:=by omega
   have hq:(((lo:Int)+(hi:Int)).tdiv 2)=(mid:Int):=by
    rw[Int.tdiv_eq_ediv_of_nonneg (by omega)];omega
   obtain⟨x,hx⟩:∃x,cs[mid]?=some x:=⟨cs[mid]'(by omega),by simp⟩;obtain⟨g,cap,u,gg,hv,_,_,hgN,hgl,hu,hgg,c0,c1,hR,_⟩:=hB.cellsX hx;injection hv with e1 _ e3;subst e1 e3;have d0:=(hb.cell (p:=⟨g,_,none⟩) hgl).trans c0;have hgr:g<wr.heap.size:=by omega
   have hmI:(mid:Int)<cs.length:=by omega
   have C48:(0:Int)<=mid:=by omega
   have A9u:=A42 (row:=row) hA hx;clear hx c0 c1 hmid;by_cases hcmp:cR8 x.r row<0
   ·have hd:decide (cR8 x.r row<0)=true:=by simpa using hcmp
    have hah:=A9u.2 hcmp;go_wp2_with fail;refine cM8 (A0w u (.slice ar row.length cr) x.r row wr (hR.is.below hb) (hr0.is.below hb)) ?_;rintro z w1 ⟨rfl,hb1⟩;have hz1:=hb1.size;have L3:Below w.heap.size w w1:=hb.trans (hb1.mono hb.size);have B0:=((bc8 hb1).1 _ _ (show w.heap.size<wr.heap.size by omega)).trans b0;have B1:=((bc8 hb1).1 _ _ (show w.heap.size<wr.heap.size by omega)).trans b1;have BF:∀q,w1.frozen? ⟨w.heap.size,q,none⟩=false:=fun q=>((bc8 hb1).2 _ q (show w.heap.size<wr.heap.size by omega)).trans (bf q);have T0:=((bc8 hb1).1 _ _ hz).trans t0;have T1:=((bc8 hb1).1 _ _ hz).trans t1;have TF:∀q,w1.frozen? ⟨w.heap.size+1,q,none⟩=false:=fun q=>((bc8 hb1).2 _ q hz).trans (tf q);clear hb1 b0 b1 bf t0 t1 tf;go_wp2;exact⟨⟨mid+1,hi,by simp,rfl,hah,h2,h3,L3,by omega,B0,B1,BF,T0,T1,TF⟩,by simp[intOf];omega⟩
   ·have hd:decide (cR8 x.r row<0)=false:=by simpa using hcmp
    have hah:ahead cs row<=mid:=by
     rcases Nat.lt_or_ge mid (ahead cs row)with h|h
     ·exact absurd (A9u.1 h) hcmp
     ·exact h
    go_wp2_with fail;refine cM8 (A0w u (.slice ar row.length cr) x.r row wr (hR.is.below hb) (hr0.is.below hb)) ?_;rintro z w1 ⟨rfl,hb1⟩;have hz1:=hb1.size;have L3:Below w.heap.size w w1:=hb.trans (hb1.mono hb.size);have B0:=((bc8 hb1).1 _ _ (show w.heap.size<wr.heap.size by omega)).trans b0;have B1:=((bc8 hb1).1 _ _ (show w.heap.size<wr.heap.size by omega)).trans b1;have BF:∀q,w1.frozen? ⟨w.heap.size,q,none⟩=false:=fun q=>((bc8 hb1).2 _ q (show w.heap.size<wr.heap.size by omega)).trans (bf q);have T0:=((bc8 hb1).1 _ _ hz).trans t0;have T1:=((bc8 hb1).1 _ _ hz).trans t1;have TF:∀q,w1.frozen? ⟨w.heap.size+1,q,none⟩=false:=fun q=>((bc8 hb1).2 _ q hz).trans (tf q);clear hb1 b0 b1 bf t0 t1 tf;go_wp2;exact⟨⟨lo,mid,rfl,rfl,h1,hah,by omega,L3,by omega,B0,B1,BF,T0,T1,TF⟩,by simp[intOf];omega⟩
  ·have hlo:lo=ahead cs row:=by omega
   cases hx:cs[lo]? with
   |none=>
    have hll:cs.length=lo:=by have:=List.getElem?_eq_none_iff.1 hx;omega
    have hPi:P=if n≠0 then cs.take lo++(⟨row,n⟩:C2)::cs.drop lo else cs:=by rw[<-hP.out];unfold E5;rw[<-hlo,hx]
    have B84:decide ((lo:Int)<cs.length)=false:=by simp;omega
    by_cases hn:n≠0
    ·have hPn:Hid (P=cs.take lo++(⟨row,n⟩:C2)::cs.drop lo):=by rw[if_pos hn]at hPi;exact hPi
     have B0:=b0;have B1:=b1;have BF:=bf;have T0:=t0;have T1:=t1;have TF:=tf;have L3:=hb;have hB1:=hB.below hb;have hlc:lo<=cv:=by omega
     have hI1:(lo:Int)<=cs.length:=by omega
     have hI2:lo<=cs.length:=by omega
     have hnb:(n !=0)=true:=by simpa using hn
     have hGl:=hB.lt;have hsh:av=none\/∃g,av=some ⟨g,0,none⟩:=by
      rcases hB.own.2 with⟨e,_⟩|⟨g,cap,cur,e,_⟩
      ·injection e with e;exact .inl e
      ·injection e with e;exact .inr ⟨g,e⟩
     have C43:Hid (cs.length=lo):=hll;have hnl:¬ (lo<cs.length):=by omega
     have C5L:¬ ((lo:Int)<cs.length):=by omega
     clear hPi hlo hP hx b0 b1 bf t0 t1 tf hll;obtain⟨vB,HVB⟩:∃q,Hid (q=(.slice (if cv=lo then av else av.map fun p=>p.add (lo*2)) (cs.length -lo) (cv -lo):Value)):=⟨_,rfl⟩;go_wp2_with fail;obtain⟨i0,fi,f0,f1,f2⟩:=info_parts Tryz.infoCnt;refine Z4 18 (fun w'=>w'.cell? ⟨w.heap.size,1,none⟩=some (.slice av cs.length cv)) (by kernel_rfl) ?_ (fun hHeld=>?_)
     ·exact B1
     refine tkE 1 82 rfl rfl ?_;refine tkE 2 83 rfl rfl ?_;refine tkE 3 84 rfl rfl ?_;refine tkO (i:=4) (d:=85) (v:=.slice av lo cv) rfl rfl ?_ ?_
     ·intro w' hSw;rcases hsh with rfl|⟨g,rfl⟩<;>(try dsimp only at hSw)<;>go_simp<;>try exact rfl
     refine tkE 6 87 rfl rfl ?_;refine tkE 8 89 rfl rfl ?_;refine tkE 12 93 rfl rfl ?_;refine tkE 13 94 rfl rfl ?_;refine tkE 14 95 rfl rfl ?_;refine tkO (i:=15) (d:=96) (v:=vB) rfl rfl ?_ ?_
     ·intro w' hSw;rw[HVB.out];rcases hsh with rfl|⟨g,rfl⟩<;>by_cases hcl:cv=lo<;>(try dsimp only at hSw)<;>simp only[hcl,if_true,if_false,Option.map_none,Option.map_some,ite_self]at hSw⊢ <;>go_simp<;>try exact rfl
     refine onE 0 rfl fun K hK=>?_;go_simp;refine hK.out _ _ ?_ (fun Z9=>?_)
     ·intro _;exact(cb8 ba8).trans B1
     clear hK;replace Z9:=Z9 (by decide);refine onE 5 rfl fun K hK=>?_;refine A0f _ (by rfl) _ _ _ (by rfl) wr.heap.size 116 i0 _ 2 32 Tryz.underlying33 fi f0 f1 f2 rfl (by omega) (.slice (some ⟨wr.heap.size,0,none⟩) 0 0) 0 [] (by rfl) (A1G (w:=wr) rfl lr8 _ 2) (.slice av lo cv) lo _ (by rfl) (hB1.src1 bex (by omega)) (A2h fun u hu=>hB1.one u (List.mem_of_mem_take hu)) (by simp only[maxLen];omega) (by omega) (by simp) ?_;intro v5 w5 D4 hgrow5 hat5;rw[List.nil_append,Nat.zero_add]at D4;have hz5:=hgrow5.size;simp at hz5;have D7:Below wr.heap.size wr w5:=Below.grown (show Below wr.heap.size wr _ from bex) hgrow5 (by simp) (fun b hb=>by simp[Value.ownBlock]at hb;omega);refine hK.out _ _ ?_ (fun N2=>?_)
     ·intro _;exact bt8 D7 B1
     clear hK;replace N2:=N2 (by decide);refine onE 7 rfl fun K hK=>?_;go_simp;go_at_call 74;refine cM8 (A3m (.slice ar row.length cr) row g0 _ (hr0.belowX (L3.trans (D7.mono L3.size))) hrl) ?_;rintro e w7 ⟨⟨u7,g7,rfl,hR7,hO7⟩,hb7⟩;obtain⟨a7,c7,rfl⟩:=hR7.shapeX;have hz7:=hb7.size;have S7:Below wr.heap.size wr w7:=D7.trans (hb7.mono D7.size);have U6:=oK8 D4 (fun b hb=>hb7.block b (oL8 D4 b hb).2);have A2K:=hR7.lt;try go_wp2_with fail
     refine hK.out _ _ ?_ (fun S9=>?_)
     ·intro _;exact bt8 S7 B1
     clear hK;replace S9:=S9 (by decide);refine tkE 9 90 rfl rfl ?_;refine onE 10 rfl fun K hK=>?_;go_simp;refine hK.out _ _ ?_ (fun W9=>?_)
     ·intro _;exact(cb8 ba8).trans (bt8 S7 B1)
     clear hK;replace W9:=W9 (by decide);refine onE 11 rfl fun K hK=>?_;refine A0f _ (by rfl) _ _ _ (by rfl) wr.heap.size 116 i0 _ 2 32 Tryz.underlying33 fi f0 f1 f2 rfl (by omega) v5 lo _ (by rfl) (oK8 U6 fun b hb=>bA8 w7 _ _ (oL8 U6 b hb).2) (.slice (some ⟨w7.heap.size,0,none⟩) 1 1) 1 [.slice a7 row.length c7,.int .i64 n] (by rfl) ⟨by rfl,.inr ⟨_,_,rfl,World.news_of_block (cs:=#[.slice a7 row.length c7,.int .i64 n]) (t:=116) (fr:=(0,0)) (heap_alloc_new w7 _)⟩⟩ (by simp[Value.oneCell']) (by simp only[maxLen];omega) (by omega) (by simp;omega) ?_;intro v11 w11 hown11 hgrow11 hat11;have A4e:=hgrow11.size;simp at A4e;have V5:Below wr.heap.size wr w11:=Below.grown (S7.alloc (by omega) _) hgrow11 (by simp;omega) (fun b hb=>(oL8 U6 b hb).1);refine hK.out _ _ ?_ (fun J3=>?_)
     ·intro _;exact bt8 V5 B1
     clear hK;replace J3:=J3 (by decide);refine onE 16 rfl fun K hK=>?_;refine A0f _ (by rfl) _ _ _ (by rfl) wr.heap.size 116 i0 _ 2 32 Tryz.underlying33 fi f0 f1 f2 rfl (by omega) v11 (lo+1) _ (by rfl) hown11 _ (cs.length -lo) _ (by rfl) (by have hsr:=hB1.src2 (k:=lo) V5 (by omega);show A1v w11 2 vB _ _;rw[HVB.out];exact hsr) (A2h fun u hu=>hB1.one u (List.mem_of_mem_drop hu)) (by simp only[maxLen];omega) (by omega) (by omega) ?_;intro v16 w16 hown16 hgrow16 hat16;have B8k:=hgrow16.size;obtain⟨a16,c16,rfl⟩:=A7G hown16;have Y3:Below wr.heap.size wr w16:=Below.grown V5 hgrow16 (by omega) (fun b hb=>(oL8 hown11 b hb).1);have A3j:∀b,v11.ownBlock=some b->b∉g7:=by
      intro b hb hm;have h1:=hO7.2.1 b hm;have h2:=A2K b hm;rcases hat11 with h|h
      ·have:=(oL8 D4 b (h.symm.trans hb)).2;omega
      ·rw[h]at hb;have:=Option.some.inj hb;simp at this;omega
     have A7n:∀b,(Value.slice a16 (lo+1+(cs.length -lo)) c16).ownBlock=some b->b∉g7:=by
      intro b hb hm;have h2:=A2K b hm;rcases hat16 with h|h
      ·exact A3j b (h.symm.trans hb) hm
      ·rw[h]at hb;have:=Option.some.inj hb;omega
     have A7F:∀b,b<wr.heap.size\/b∈g7->w16.heap[b]?=w7.heap[b]?:=by
      intro b hb;rcases hb with hb|hb
      ·exact(Y3.block b hb).trans (S7.block b hb).symm
      ·have h1:=hO7.2.1 b hb;have h2:=A2K b hb;refine(hgrow16.block b (by omega) (fun e=>A3j b e.symm hb)).trans ((hgrow11.block b (by simp;omega) (fun e=>?_)).trans (bA8 w7 _ _ h2));have:=(oL8 D4 b e.symm).2;omega
     have hBc:=hB1.put (x:=⟨row,n⟩) (by omega) S7 hR7 ⟨hO7.1,fun b hb=>Nat.le_trans D7.size (hO7.2.1 b hb),hO7.2.2⟩ A7F (by omega) (k:=lo) (by omega) lr8 A7n hown16;have B8m:=bt8 Y3 B0;have A7N:=bt8 Y3 B1;have C3Q:∀q,w16.frozen? ⟨w.heap.size,q,none⟩=false:=fun q=>((bc8 Y3).2 w.heap.size q (by omega)).trans (BF q);have B6b:=bt8 Y3 T0;have B6P:=bt8 Y3 T1;have B4f:∀q,w16.frozen? ⟨w.heap.size+1,q,none⟩=false:=fun q=>((bc8 Y3).2 (w.heap.size+1) q (by omega)).trans (TF q);refine hK.out _ _ ?_ (fun i8=>?_)
     ·intro _;exact A7N
     clear hK;replace i8:=i8 (by decide);refine tkE 17 98 rfl rfl ?_;refine onE 18 rfl fun K hK=>?_;go_simp;refine hK.out _ _ ?_ (fun hHeld18=>?_)
     ·exact fun h=>absurd rfl h
     clear hK hHeld18;refine V6 (by kernel_rfl) ?_ _;have A24:Below w.heap.size w w16:=L3.trans (Y3.mono L3.size);clear hB hB1 hc hA hr0;go_wp2;all_goals
      refine bodyPost_ret (v:=.agg #[.int .i64 wd,.slice a16 (lo+1+(cs.length -lo)) c16]) (by simp[results,Tryz.results77,go_sem, *]) rfl (A1U.of_below (us':=us.take lo++ .slice a7 row.length c7::us.drop lo) (G':=G.take lo++g7::G.drop lo) ?_ (fun b hb h=>?_) (fun b hb h=>?_) ?_ hN)
      ·rw[hPn.out];refine hBc.keepO (by simp) (fun b hvb=>?_) fun b hgb=>?_
       ·have:=(oL8 hown16 b hvb).1;exact(bS8 _ _ _ _ (by show b≠w.heap.size+1;omega)).trans ((bS8 _ _ _ _ (by show b≠w.heap.size+1;omega)).trans (bS8 _ _ _ _ (by show b≠w.heap.size;omega)))
       ·have:b<w.heap.size\/w.heap.size+1<b:=(A4j hgb).elim (fun h=> .inl (hGl b h)) (fun h=> .inr (by have:=hO7.2.1 b h;omega));exact(bS8 _ _ _ _ (by show b≠w.heap.size+1;omega)).trans ((bS8 _ _ _ _ (by show b≠w.heap.size+1;omega)).trans (bS8 _ _ _ _ (by show b≠w.heap.size;omega)))
      ·have:=(oL8 hown16 b h).1;omega
      ·exact(A4j h).elim id (fun h=>absurd (hO7.2.1 b h) (by omega))
      ·exact bs8
    ·have hPn:Hid (P=cs):=by rw[if_neg hn]at hPi;exact hPi
     have A5a:n=0:=by omega
     subst A5a;clear hPi hlo hP hx;go_wp2;refine bodyPost_ret (v:=.agg #[.int .i64 wd,.slice av cs.length cv]) (by simp[results,Tryz.results77,go_sem, *]) rfl (A1U.of_below (us':=us) (G':=G) ?_ (fun _ _ h=>h) (fun _ _ h=>h) ?_ hN)
     ·rw[hPn.out];exact hB.below (by repeat (first|(with_reducible exact hb)|(with_reducible exact L3)|(with_reducible refine Below.setCell ?_ ?hh _;case hh=>(simp;try omega))))
     ·repeat (first|(with_reducible exact hb)|(with_reducible exact L3)|(with_reducible refine Below.setCell ?_ ?hh _;case hh=>(simp;try omega)))
   |some x=>
    obtain⟨g,cap,u,gg,hv,_,_,hgN,hgl,hu,hgg,c0,c1,hR,gf⟩:=hB.cellsX hx;injection hv with e1 _ e3;subst e1 e3;have hxl:lo<cs.length:=(gE1 hx).1;have B84:decide ((lo:Int)<cs.length)=true:=by simp;omega
    have hxI:(lo:Int)<cs.length:=by omega
    have d0:=(hb.cell (p:=⟨g,_,none⟩) hgl).trans c0;have d1:=(hb.cell (p:=⟨g,_,none⟩) hgl).trans c1;have hgr:g<wr.heap.size:=by omega
    by_cases hcmp:cR8 x.r row=0
    ·have hPs:Hid (P=if n+x.n≠0 then cs.set lo ⟨x.r,n+x.n⟩else cs.take lo++cs.drop (lo+1)):=by show P=_;rw[<-hP.out];unfold E5;rw[<-hlo,hx];dsimp only;rw[if_pos hcmp]
     clear hlo hP;have hcb:(cR8 x.r row==0)=true:=by simpa using hcmp
     have hxn:=hc x (mg8 hx);go_wp2_with fail;refine cM8 (A0w u (.slice ar row.length cr) x.r row wr (hR.is.below hb) (hr0.is.below hb)) ?_;rintro z w1 ⟨rfl,hb1⟩;have hz1:=hb1.size;have L3:Below w.heap.size w w1:=hb.trans (hb1.mono hb.size);have B0:=((bc8 hb1).1 _ _ (show w.heap.size<wr.heap.size by omega)).trans b0;have B1:=((bc8 hb1).1 _ _ (show w.heap.size<wr.heap.size by omega)).trans b1;have BF:∀q,w1.frozen? ⟨w.heap.size,q,none⟩=false:=fun q=>((bc8 hb1).2 _ q (show w.heap.size<wr.heap.size by omega)).trans (bf q);have T0:=((bc8 hb1).1 _ _ hz).trans t0;have T1:=((bc8 hb1).1 _ _ hz).trans t1;have TF:∀q,w1.frozen? ⟨w.heap.size+1,q,none⟩=false:=fun q=>((bc8 hb1).2 _ q hz).trans (tf q);have D1:=((bc8 hb1).1 _ _ hgr).trans d1;have GF:∀q,w1.frozen? ⟨g,q,none⟩=false:=fun q=>((bc8 hb1).2 _ q hgr).trans (((bc8 hb).2 _ q hgl).trans (gf q));have B1F:g<w1.heap.size:=by omega
     have hgb:g≠w.heap.size:=by omega
     have hgt:g≠w.heap.size+1:=by omega
     clear hb1 b0 b1 bf t0 t1 tf;by_cases hm:n+x.n≠0
     ·have hPn:Hid (P=cs.set lo ⟨x.r,n+x.n⟩):=by have h:=hPs.out;rw[if_pos hm]at h;exact h
      have hmb:(n+x.n !=0)=true:=by simpa using hm
      have hwr:wrap64 (n+x.n)=n+x.n:=by unfold wrap64;omega
      have hB1:=(hB.below L3).setN hx (n+x.n);have hGl:=hB.lt;clear hPs hx hB;go_wp2;refine bodyPost_ret (v:=.agg #[.int .i64 wd,.slice (some ⟨g,0,none⟩) cs.length cv]) (by simp[results,Tryz.results77,go_sem, *]) rfl ⟨_,us,G,rfl,?_,fun _ _ h=>h,fun _ _ h=>h,?_,?_⟩
      ·rw[hPn.out];refine hB1.keepO (by simp) (fun b hvb=>?_) fun b hgb=>?_
       ·cases hvb;exact(bS8 _ _ _ _ (by show g≠w.heap.size+1;omega)).trans (bS8 _ _ _ _ (by show g≠w.heap.size+1;omega))
       ·have:=hGl b hgb;exact(bS8 _ _ _ _ (by show b≠w.heap.size+1;omega)).trans (bS8 _ _ _ _ (by show b≠w.heap.size+1;omega))
      ·repeat (first|(with_reducible exact L3.mono hN)|(with_reducible refine Below.setCell ?_ ?hh _;case hh=>(simp;try omega)))
      ·exact B1h (B1h (B2w L3 g _ _) (by simp) _) (by simp) _
     ·have hPn:Hid (P=cs.take lo++cs.drop (lo+1)):=by have h:=hPs.out;rw[if_neg hm]at h;exact h
      have hmb:(n+x.n !=0)=false:=by simpa using hm
      have hm0:n+x.n=0:=by omega
      have hwr:wrap64 (n+x.n)=n+x.n:=by unfold wrap64;omega
      have hlc:lo<=cv:=by omega
      have hwI:IntKind.i64.wrap ((lo:Int)+1)=(lo:Int)+1:=by rw[IntKind.wrap_i64];omega
      have hI0:(0:Int)<=(lo:Int)+1:=by omega
      have hI1:(lo:Int)+1<=cs.length:=by omega
      have hTn:((lo:Int)+1).toNat=lo+1:=by omega
      have hB1:=hB.below L3;have hGl:=hB.lt;clear hPs;go_wp2_with fail;obtain⟨i0,fi,f0,f1,f2⟩:=info_parts Tryz.infoCnt;refine Z4 13 (fun w'=>w'.cell? ⟨w.heap.size,1,none⟩=some (.slice (some ⟨g,0,none⟩) cs.length cv)) (by kernel_rfl) ?_ (fun hHeld=>?_)
      ·exact B1
      refine tkE 1 66 rfl rfl ?_;refine tkE 2 67 rfl rfl ?_;refine tkE 3 68 rfl rfl ?_;refine tkE 4 69 rfl rfl ?_;refine tkE 6 71 rfl rfl ?_;refine tkE 7 72 rfl rfl ?_;refine tkE 8 73 rfl rfl ?_;refine tkE 9 74 rfl rfl ?_;refine tkE 10 75 rfl rfl ?_;refine onE 0 rfl fun K hK=>?_;go_simp;refine hK.out _ _ ?_ (fun Z9=>?_)
      ·intro _;exact(cb8 ba8).trans B1
      clear hK;replace Z9:=Z9 (by decide);refine onE 5 rfl fun K hK=>?_;refine A0f _ (by rfl) _ _ _ (by rfl) w1.heap.size 116 i0 _ 2 32 Tryz.underlying33 fi f0 f1 f2 rfl (by omega) (.slice (some ⟨w1.heap.size,0,none⟩) 0 0) 0 [] (by rfl) (A1G (w:=w1) rfl lr8 _ 2) (.slice (some ⟨g,0,none⟩) lo cv) lo _ (by rfl) (hB1.src1 bex (by omega)) (A2h fun u hu=>hB1.one u (List.mem_of_mem_take hu)) (by simp only[maxLen];omega) (by omega) (by simp) ?_;intro v5 w5 D4 hgrow5 hat5;rw[List.nil_append,Nat.zero_add]at D4;have hz5:=hgrow5.size;simp at hz5;have D7:Below w1.heap.size w1 w5:=Below.grown (show Below w1.heap.size w1 _ from bex) hgrow5 (by simp) (fun b hb=>by simp[Value.ownBlock]at hb;omega);refine hK.out _ _ ?_ (fun N2=>?_)
      ·intro _;exact bt8 D7 B1
      clear hK;replace N2:=N2 (by decide);refine onE 11 rfl fun K hK=>?_;refine A0f _ (by rfl) _ _ _ (by rfl) w1.heap.size 116 i0 _ 2 32 Tryz.underlying33 fi f0 f1 f2 rfl (by omega) v5 lo _ (by rfl) D4 _ (cs.length - (lo+1)) _ (by rfl) (hB1.src3 D7 (by omega)) (A2h fun u hu=>hB1.one u (List.mem_of_mem_drop hu)) (by simp only[maxLen];omega) (by omega) (by omega) ?_;intro v11 w11 hown11 hgrow11 hat11;have A4e:=hgrow11.size;obtain⟨a11,c11,rfl⟩:=A7G hown11;have V5:Below w1.heap.size w1 w11:=Below.grown D7 hgrow11 (by omega) (fun b hb=>(oL8 D4 b hb).1);have hBc:=hB1.cut (by omega) V5 hxl lr8 hown11;have C4h:=bt8 V5 B0;have B47:=bt8 V5 B1;have C5S:∀q,w11.frozen? ⟨w.heap.size,q,none⟩=false:=fun q=>((bc8 V5).2 w.heap.size q (by omega)).trans (BF q);have C5N:=bt8 V5 T0;have C4a:=bt8 V5 T1;have C40:∀q,w11.frozen? ⟨w.heap.size+1,q,none⟩=false:=fun q=>((bc8 V5).2 (w.heap.size+1) q (by omega)).trans (TF q);refine hK.out _ _ ?_ (fun J3=>?_)
      ·intro _;exact B47
      clear hK;replace J3:=J3 (by decide);refine tkE 12 77 rfl rfl ?_;refine onE 13 rfl fun K hK=>?_;go_simp;refine hK.out _ _ ?_ (fun Y2=>?_)
      ·exact fun h=>absurd rfl h
      clear hK Y2;refine V6 (by kernel_rfl) ?_ _;have A24:Below w.heap.size w w11:=L3.trans (V5.mono L3.size);clear hB hB1 hc hA hr0;go_wp2;all_goals
       refine bodyPost_ret (v:=.agg #[.int .i64 wd,.slice a11 (lo+(cs.length - (lo+1))) c11]) (by simp[results,Tryz.results77,go_sem, *]) rfl (A1U.of_below (us':=us.take lo++us.drop (lo+1)) (G':=G.take lo++G.drop (lo+1)) ?_ (fun b hb h=>?_) (fun b hb h=>?_) ?_ hN)
       ·rw[hPn.out];refine hBc.keepO (by simp) (fun b hvb=>?_) fun b hgb=>?_
        ·have:=(oL8 hown11 b hvb).1;exact(bS8 _ _ _ _ (by show b≠w.heap.size+1;omega)).trans ((bS8 _ _ _ _ (by show b≠w.heap.size+1;omega)).trans (bS8 _ _ _ _ (by show b≠w.heap.size;omega)))
        ·have:=hGl b (A9x hgb);exact(bS8 _ _ _ _ (by show b≠w.heap.size+1;omega)).trans ((bS8 _ _ _ _ (by show b≠w.heap.size+1;omega)).trans (bS8 _ _ _ _ (by show b≠w.heap.size;omega)))
       ·have:=(oL8 hown11 b h).1;omega
       ·exact A9x h
       ·exact bs8
    ·have hPi:Hid (P=if n≠0 then cs.take lo++(⟨row,n⟩:C2)::cs.drop lo else cs):=by show P=_;rw[<-hP.out];unfold E5;rw[<-hlo,hx];dsimp only;rw[if_neg hcmp]
     clear hlo hP;have hcb:(cR8 x.r row==0)=false:=by simpa using hcmp
     by_cases hn:n≠0
     ·have hPn:Hid (P=cs.take lo++(⟨row,n⟩:C2)::cs.drop lo):=by have h:=hPi.out;rw[if_pos hn]at h;exact h
      have hlc:lo<=cv:=by omega
      have hI1:(lo:Int)<=cs.length:=by omega
      have hI2:lo<=cs.length:=by omega
      have hnb:(n !=0)=true:=by simpa using hn
      have hGl:=hB.lt;clear hPi hx;go_wp2_with fail;refine cM8 (A0w u (.slice ar row.length cr) x.r row wr (hR.is.below hb) (hr0.is.below hb)) ?_;rintro z w1 ⟨rfl,hb1⟩;have hz1:=hb1.size;have L3:Below w.heap.size w w1:=hb.trans (hb1.mono hb.size);have B0:=((bc8 hb1).1 _ _ (show w.heap.size<wr.heap.size by omega)).trans b0;have B1:=((bc8 hb1).1 _ _ (show w.heap.size<wr.heap.size by omega)).trans b1;have BF:∀q,w1.frozen? ⟨w.heap.size,q,none⟩=false:=fun q=>((bc8 hb1).2 _ q (show w.heap.size<wr.heap.size by omega)).trans (bf q);have T0:=((bc8 hb1).1 _ _ hz).trans t0;have T1:=((bc8 hb1).1 _ _ hz).trans t1;have TF:∀q,w1.frozen? ⟨w.heap.size+1,q,none⟩=false:=fun q=>((bc8 hb1).2 _ q hz).trans (tf q);have D1:=((bc8 hb1).1 _ _ hgr).trans d1;have GF:∀q,w1.frozen? ⟨g,q,none⟩=false:=fun q=>((bc8 hb1).2 _ q hgr).trans (((bc8 hb).2 _ q hgl).trans (gf q));have B1F:g<w1.heap.size:=by omega
      have hgb:g≠w.heap.size:=by omega
      have hgt:g≠w.heap.size+1:=by omega
      clear hb1 b0 b1 bf t0 t1 tf;have hB1:=hB.below L3;go_wp2_with fail;obtain⟨i0,fi,f0,f1,f2⟩:=info_parts Tryz.infoCnt;refine Z4 18 (fun w'=>w'.cell? ⟨w.heap.size,1,none⟩=some (.slice (some ⟨g,0,none⟩) cs.length cv)) (by kernel_rfl) ?_ (fun hHeld=>?_)
      ·exact B1
      refine tkE 1 82 rfl rfl ?_;refine tkE 2 83 rfl rfl ?_;refine tkE 3 84 rfl rfl ?_;refine tkE 4 85 rfl rfl ?_;refine tkE 6 87 rfl rfl ?_;refine tkE 8 89 rfl rfl ?_;refine tkE 12 93 rfl rfl ?_;refine tkE 13 94 rfl rfl ?_;refine tkE 14 95 rfl rfl ?_;refine tkE 15 96 rfl rfl ?_;refine onE 0 rfl fun K hK=>?_;go_simp;refine hK.out _ _ ?_ (fun Z9=>?_)
      ·intro _;exact(cb8 ba8).trans B1
      clear hK;replace Z9:=Z9 (by decide);refine onE 5 rfl fun K hK=>?_;refine A0f _ (by rfl) _ _ _ (by rfl) w1.heap.size 116 i0 _ 2 32 Tryz.underlying33 fi f0 f1 f2 rfl (by omega) (.slice (some ⟨w1.heap.size,0,none⟩) 0 0) 0 [] (by rfl) (A1G (w:=w1) rfl lr8 _ 2) (.slice (some ⟨g,0,none⟩) lo cv) lo _ (by rfl) (hB1.src1 bex (by omega)) (A2h fun u hu=>hB1.one u (List.mem_of_mem_take hu)) (by simp only[maxLen];omega) (by omega) (by simp) ?_;intro v5 w5 D4 hgrow5 hat5;rw[List.nil_append,Nat.zero_add]at D4;have hz5:=hgrow5.size;simp at hz5;have D7:Below w1.heap.size w1 w5:=Below.grown (show Below w1.heap.size w1 _ from bex) hgrow5 (by simp) (fun b hb=>by simp[Value.ownBlock]at hb;omega);refine hK.out _ _ ?_ (fun N2=>?_)
      ·intro _;exact bt8 D7 B1
      clear hK;replace N2:=N2 (by decide);refine onE 7 rfl fun K hK=>?_;go_simp;go_at_call 74;refine cM8 (A3m (.slice ar row.length cr) row g0 _ (hr0.belowX (L3.trans (D7.mono L3.size))) hrl) ?_;rintro e w7 ⟨⟨u7,g7,rfl,hR7,hO7⟩,hb7⟩;obtain⟨a7,c7,rfl⟩:=hR7.shapeX;have hz7:=hb7.size;have S7:Below w1.heap.size w1 w7:=D7.trans (hb7.mono D7.size);have U6:=oK8 D4 (fun b hb=>hb7.block b (oL8 D4 b hb).2);have A2K:=hR7.lt;try go_wp2_with fail
      refine hK.out _ _ ?_ (fun S9=>?_)
      ·intro _;exact bt8 S7 B1
      clear hK;replace S9:=S9 (by decide);refine tkE 9 90 rfl rfl ?_;refine onE 10 rfl fun K hK=>?_;go_simp;refine hK.out _ _ ?_ (fun W9=>?_)
      ·intro _;exact(cb8 ba8).trans (bt8 S7 B1)
      clear hK;replace W9:=W9 (by decide);refine onE 11 rfl fun K hK=>?_;refine A0f _ (by rfl) _ _ _ (by rfl) w1.heap.size 116 i0 _ 2 32 Tryz.underlying33 fi f0 f1 f2 rfl (by omega) v5 lo _ (by rfl) (oK8 U6 fun b hb=>bA8 w7 _ _ (oL8 U6 b hb).2) (.slice (some ⟨w7.heap.size,0,none⟩) 1 1) 1 [.slice a7 row.length c7,.int .i64 n] (by rfl) ⟨by rfl,.inr ⟨_,_,rfl,World.news_of_block (cs:=#[.slice a7 row.length c7,.int .i64 n]) (t:=116) (fr:=(0,0)) (heap_alloc_new w7 _)⟩⟩ (by simp[Value.oneCell']) (by simp only[maxLen];omega) (by omega) (by simp;omega) ?_;intro v11 w11 hown11 hgrow11 hat11;have A4e:=hgrow11.size;simp at A4e;have V5:Below w1.heap.size w1 w11:=Below.grown (S7.alloc (by omega) _) hgrow11 (by simp;omega) (fun b hb=>(oL8 U6 b hb).1);refine hK.out _ _ ?_ (fun J3=>?_)
      ·intro _;exact bt8 V5 B1
      clear hK;replace J3:=J3 (by decide);refine onE 16 rfl fun K hK=>?_;refine A0f _ (by rfl) _ _ _ (by rfl) w1.heap.size 116 i0 _ 2 32 Tryz.underlying33 fi f0 f1 f2 rfl (by omega) v11 (lo+1) _ (by rfl) hown11 _ (cs.length -lo) _ (by rfl) (by have hsr:=hB1.src3 (k:=lo) V5 (by omega);rw[if_neg (by omega)]at hsr;exact hsr) (A2h fun u hu=>hB1.one u (List.mem_of_mem_drop hu)) (by simp only[maxLen];omega) (by omega) (by omega) ?_;intro v16 w16 hown16 hgrow16 hat16;have B8k:=hgrow16.size;obtain⟨a16,c16,rfl⟩:=A7G hown16;have Y3:Below w1.heap.size w1 w16:=Below.grown V5 hgrow16 (by omega) (fun b hb=>(oL8 hown11 b hb).1);have A3j:∀b,v11.ownBlock=some b->b∉g7:=by
       intro b hb hm;have h1:=hO7.2.1 b hm;have h2:=A2K b hm;rcases hat11 with h|h
       ·have:=(oL8 D4 b (h.symm.trans hb)).2;omega
       ·rw[h]at hb;have:=Option.some.inj hb;simp at this;omega
      have A7n:∀b,(Value.slice a16 (lo+1+(cs.length -lo)) c16).ownBlock=some b->b∉g7:=by
       intro b hb hm;have h2:=A2K b hm;rcases hat16 with h|h
       ·exact A3j b (h.symm.trans hb) hm
       ·rw[h]at hb;have:=Option.some.inj hb;omega
      have A7F:∀b,b<w1.heap.size\/b∈g7->w16.heap[b]?=w7.heap[b]?:=by
       intro b hb;rcases hb with hb|hb
       ·exact(Y3.block b hb).trans (S7.block b hb).symm
       ·have h1:=hO7.2.1 b hb;have h2:=A2K b hb;refine(hgrow16.block b (by omega) (fun e=>A3j b e.symm hb)).trans ((hgrow11.block b (by simp;omega) (fun e=>?_)).trans (bA8 w7 _ _ h2));have:=(oL8 D4 b e.symm).2;omega
      have hBc:=hB1.put (x:=⟨row,n⟩) (by omega) S7 hR7 ⟨hO7.1,fun b hb=>Nat.le_trans D7.size (hO7.2.1 b hb),hO7.2.2⟩ A7F (by omega) (k:=lo) (by omega) lr8 A7n hown16;have B8m:=bt8 Y3 B0;have A7N:=bt8 Y3 B1;have C3Q:∀q,w16.frozen? ⟨w.heap.size,q,none⟩=false:=fun q=>((bc8 Y3).2 w.heap.size q (by omega)).trans (BF q);have B6b:=bt8 Y3 T0;have B6P:=bt8 Y3 T1;have B4f:∀q,w16.frozen? ⟨w.heap.size+1,q,none⟩=false:=fun q=>((bc8 Y3).2 (w.heap.size+1) q (by omega)).trans (TF q);refine hK.out _ _ ?_ (fun i8=>?_)
      ·intro _;exact A7N
      clear hK;replace i8:=i8 (by decide);refine tkE 17 98 rfl rfl ?_;refine onE 18 rfl fun K hK=>?_;go_simp;refine hK.out _ _ ?_ (fun hHeld18=>?_)
      ·exact fun h=>absurd rfl h
      clear hK hHeld18;refine V6 (by kernel_rfl) ?_ _;have A24:Below w.heap.size w w16:=L3.trans (Y3.mono L3.size);clear hB hB1 hc hA hr0;go_wp2;all_goals
       refine bodyPost_ret (v:=.agg #[.int .i64 wd,.slice a16 (lo+1+(cs.length -lo)) c16]) (by simp[results,Tryz.results77,go_sem, *]) rfl (A1U.of_below (us':=us.take lo++ .slice a7 row.length c7::us.drop lo) (G':=G.take lo++g7::G.drop lo) ?_ (fun b hb h=>?_) (fun b hb h=>?_) ?_ hN)
       ·rw[hPn.out];refine hBc.keepO (by simp) (fun b hvb=>?_) fun b hgb=>?_
        ·have:=(oL8 hown16 b hvb).1;exact(bS8 _ _ _ _ (by show b≠w.heap.size+1;omega)).trans ((bS8 _ _ _ _ (by show b≠w.heap.size+1;omega)).trans (bS8 _ _ _ _ (by show b≠w.heap.size;omega)))
        ·have:b<w.heap.size\/w.heap.size+1<b:=(A4j hgb).elim (fun h=> .inl (hGl b h)) (fun h=> .inr (by have:=hO7.2.1 b h;omega));exact(bS8 _ _ _ _ (by show b≠w.heap.size+1;omega)).trans ((bS8 _ _ _ _ (by show b≠w.heap.size+1;omega)).trans (bS8 _ _ _ _ (by show b≠w.heap.size;omega)))
       ·have:=(oL8 hown16 b h).1;omega
       ·exact(A4j h).elim id (fun h=>absurd (hO7.2.1 b h) (by omega))
       ·exact bs8
     ·have hPn:Hid (P=cs):=by have h:=hPi.out;rw[if_neg hn]at h;exact h
      have A5a:n=0:=by omega
      subst A5a;clear hPi hx;go_wp2_with fail;refine cM8 (A0w u (.slice ar row.length cr) x.r row wr (hR.is.below hb) (hr0.is.below hb)) ?_;rintro z w1 ⟨rfl,hb1⟩;have hz1:=hb1.size;have L3:Below w.heap.size w w1:=hb.trans (hb1.mono hb.size);have B0:=((bc8 hb1).1 _ _ (show w.heap.size<wr.heap.size by omega)).trans b0;have B1:=((bc8 hb1).1 _ _ (show w.heap.size<wr.heap.size by omega)).trans b1;have BF:∀q,w1.frozen? ⟨w.heap.size,q,none⟩=false:=fun q=>((bc8 hb1).2 _ q (show w.heap.size<wr.heap.size by omega)).trans (bf q);have T0:=((bc8 hb1).1 _ _ hz).trans t0;have T1:=((bc8 hb1).1 _ _ hz).trans t1;have TF:∀q,w1.frozen? ⟨w.heap.size+1,q,none⟩=false:=fun q=>((bc8 hb1).2 _ q hz).trans (tf q);have D1:=((bc8 hb1).1 _ _ hgr).trans d1;have GF:∀q,w1.frozen? ⟨g,q,none⟩=false:=fun q=>((bc8 hb1).2 _ q hgr).trans (((bc8 hb).2 _ q hgl).trans (gf q));have B1F:g<w1.heap.size:=by omega
      have hgb:g≠w.heap.size:=by omega
      have hgt:g≠w.heap.size+1:=by omega
      clear hb1 b0 b1 bf t0 t1 tf;go_wp2;refine bodyPost_ret (v:=.agg #[.int .i64 wd,.slice (some ⟨g,0,none⟩) cs.length cv]) (by simp[results,Tryz.results77,go_sem, *]) rfl (A1U.of_below (us':=us) (G':=G) ?_ (fun _ _ h=>h) (fun _ _ h=>h) ?_ hN)
      ·rw[hPn.out];exact hB.below (by exact bs8)
      ·exact bs8
end
end Go.Proofs.YteekfcdllaceoaaGreatDoor
