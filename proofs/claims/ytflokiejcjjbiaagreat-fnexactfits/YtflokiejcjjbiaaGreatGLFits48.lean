/- Own texts, joined: contracts that the law's proof goes by. -/
import Derived.Test.YtflokiejcjjbiaaGreatGLFits2
import Derived.Test.YtflokiejcjjbiaaGreatGLFits40
import Derived.Test.YtflokiejcjjbiaaGreatGLFits45
import Derived.Test.YtflokiejcjjbiaaGreatGLFits29
import Derived.Test.YtflokiejcjjbiaaGreatGLFits30
import Derived.Test.YtflokiejcjjbiaaGreatGLFits19
set_option maxHeartbeats 16000000
set_option maxRecDepth 100000
set_option linter.unusedVariables false
set_option linter.unusedSimpArgs false
namespace Go.Proofs.YtflokiejcjjbiaaGreat
section
open Go.RowKit
theorem BgsOwn.at2 {w:World}{N:Nat}{v:Value}{rs:List B2}{us:List Value}{G:List (List Nat)}(h:BgsOwn w N v rs us G){i:Nat}{x:B2}(hx:rs[i]?=some x):∃gl cap u g,v=.slice (some ⟨gl,0,none⟩) rs.length cap∧gl<w.heap.size∧rs.length≤cap∧cap≤maxLen∧w.cell? ⟨gl,i*2,none⟩=some (.int .i64 x.W)∧w.cell? ⟨gl,i*2+1,none⟩=some u∧RowsF w u x.cs g∧OwnB w N g:=by
 have hi:i<rs.length:=(gE1 hx).1;have hlt:=oL8 h.own;have hfr:=h.free;obtain⟨hl,ho⟩:=h.own;rcases ho with⟨_,h0⟩|⟨g,cap,cur,rfl,hg,hc,hn,hm,hs,ht⟩
 ·omega
 have h1:=h.ul;have h2:=h.gl;have hiu:i<us.length:=by omega
 have hiG:i<G.length:=by omega
 obtain⟨e0,e1⟩:=bcs_at h.ul (i:=i) (u:=us[i]) (x:=x) (by simp) hx;have get:∀j u,j<rs.length*2→(bcs us rs)[j]?=some u→w.cell? ⟨g,j,none⟩=some u:=by
  intro j u hj hu;simp only[World.cell?,hc];rw[←ht,List.getElem?_take,if_pos hj,Array.getElem?_toList]at hu
  simpa using hu
 have hsub:∀b∈G[i],b∈G.flatten:=fun b hb=>List.mem_flatten.2 ⟨G[i],List.getElem_mem hiG,hb⟩;have hnd:=hfr.1;have e:G=G.take i++G[i]::G.drop (i+1):=by rw[←List.drop_eq_getElem_cons hiG,List.take_append_drop]
 rw[e,List.flatten_append,List.flatten_cons]at hnd;exact⟨g,cap,us[i],G[i],rfl,(hlt g rfl).2,hn,hm,get _ _ (by omega) e0,get _ _ (by omega) e1,h.row i x us[i] G[i] hx (by simp) (by simp),(List.nodup_append.1 (List.nodup_append.1 hnd).2.1).1,fun b hb=>hfr.2.1 b (hsub b hb),fun b hb=>hfr.2.2 b (hsub b hb)⟩
theorem bel_ok {e:E7}{W:Int}(h:bE8 e W=true):okE 13 e=true:=by unfold bE8 at h;rw[Bool.and_eq_true]at h;exact h.1
theorem over_any {m:Int}{V:E7→List V3→V3}(hV:VOk m V){W0 w:World}{rs:List R3}(hdb:okDb rs=true)(hrw:RsWf rs){f:Nat}{p:P12}(hP:PreP (f+1) p)(hW:0≤wP8 rs (f+1) p)(hK:∀q∈p.ks,(mP8 V rs f q).1=true){us v y:Value}(hF:FormR W0 rs p (wP8 rs (f+1) p) us v)(hus:∃a l c,us=.slice a l c)(hb0:Below W0.heap.size W0 w)(hm:w.cell? ⟨0,0,none⟩=some (.int .i64 m)){ul:List Value}{G:List (List Nat)}{N:Nat}(hO:BgsOwn w N y (p.ks.map (bagOf V rs f)) ul G)(hN:N≤w.heap.size):Calls Tryz.prog 62 #[v,y] w fun q w'=>(∃u l us' G',q=.returned (.agg #[.int .i64 (wP8 rs (f+1) p),u])∧BagOwn w' N u l us' G'∧(l=(mP8 V rs (f+1) p).2∨400<l.length∧∃t,(mP8 V rs (f+1) p).2=l++t))∧Below w.heap.size w w':=by
 have hkw:∀q∈p.ks,0≤wP8 rs f q:=(widthP_inv hW).2.1;have hM:=fun(q:P12) (hq:q∈p.ks)=>mean_mean hV hdb hrw (hP.2.2 q hq) (hkw q hq) (hK q hq);have hm2:(mP8 V rs (f+1) p).2=if p.k=0 then relC rs p.s else overC V p (mP8 V rs f (p.ks.getD 0 .nil)).2 (mP8 V rs f (p.ks.getD 1 .nil)).2:=by rw[mP8]
 obtain⟨ua,un,uc,rfl⟩:=hus;rw[hm2];rcases hF with⟨hk,eu,x,ub,hx,hxW,⟨F,hRF⟩,rfl⟩|⟨hk,ue,F,D,hke,rfl⟩|⟨hk,ue,F,D,hke,rfl⟩|⟨hk,ue,F,D,hke,rfl⟩|⟨hk,rfl⟩|⟨hk,rfl⟩|⟨hk,ue,F,D,hke,rfl⟩
 ·rw[if_pos hk];have hxm:=relOf_mem hx;have hpl:okPlain x.W x.cs=true:=by
   have h5:=hdb;simp only[okDb,Bool.and_eq_true]at h5;exact okRs_each h5.2 x hxm
  have hwx:=(mean_of hpl (hrw x hxm).2.2).wtb;obtain⟨a,c,rfl⟩:=hO.shape;refine cM8 (over_0 _ ua un uc p.s ub x.cs F a _ c (hRF.below hb0) hwx) ?_;rintro q w' ⟨⟨u,us',G',rfl,hB⟩,hb⟩;exact⟨⟨u,_,us',G',rfl,hB.weak hN,.inl (by unfold relC;rw[hx])⟩,hb⟩
 all_goals rw[if_neg (by omega)]
 ·obtain⟨q,hq,hwq,hbe,eW⟩:=wk_1 hW hk;rw[kid0 hq];unfold overC;rw[if_pos hk];rw[hq]at hO hM;obtain⟨gl,cap,u0,g0,rfl,hgl,hcl,hcm,l0,l1,hF0,hO0⟩:=hO.at2 (i:=0) (x:=bagOf V rs f q) rfl;have hMq:=hM q (by simp);refine cM8 (over_1 hV _ ua un uc p.e ue F D hm hP.1.1 (bel_ok hbe) hP.1.2.1 (hke.below hb0) gl cap ⟨hcl,hcm⟩ _ u0 (mP8 V rs f q).2 l0 l1 g0 hF0 N hO0 hN (by have:=hMq.all.2.2.1;omega) (fun c hc=>(hMq.row c hc).2)) ?_;rintro z w' ⟨⟨u,us',G',rfl,hB⟩,hb⟩;exact⟨⟨u,_,us',G',rfl,hB,.inl rfl⟩,hb⟩
 ·obtain⟨q,hq,hwq,h0,hbe,eW⟩:=wk_2 hW hk;rw[kid0 hq];unfold overC;rw[if_neg (by omega),if_pos hk];rw[hq]at hO hM;obtain⟨gl,cap,u0,g0,rfl,hgl,hcl,hcm,l0,l1,hF0,hO0⟩:=hO.at2 (i:=0) (x:=bagOf V rs f q) rfl;have hMq:=hM q (by simp);have hle:=wL8 rs (f+1) p;refine cM8 (over_2 hV _ ua un uc _ ue p.es F D hm (hke.below hb0) (fun e he=>bel_ok (hbe e he)) (fun e he=>(hP.2.1 e he).2.1) (by omega) gl cap ⟨hcl,hcm⟩ _ u0 (mP8 V rs f q).2 l0 l1 g0 hF0 hMq) ?_;rintro z w' ⟨⟨u,us',G',rfl,hB⟩,hb⟩;exact⟨⟨u,_,us',G',rfl,hB.weak hN,.inl rfl⟩,hb⟩
 ·obtain⟨q,r,hq,hwq,hwr,hbe,eW⟩:=wk_3 hW hk;rw[(kid00 hq).1,(kid00 hq).2];unfold overC;rw[if_neg (by omega),if_neg (by omega),if_pos hk];rw[hq]at hO hM;obtain⟨gl,cap,u0,g0,rfl,hgl,hcl,hcm,l0,l1,hF0,hO0⟩:=hO.at2 (i:=0) (x:=bagOf V rs f q) rfl;obtain⟨gl',cap',u1,g1,ev,hgl',_,_,l2,l3,hF1,hO1⟩:=hO.at2 (i:=1) (x:=bagOf V rs f r) rfl;injection ev with ev1 ev2 ev3;injection ev1 with ev1;injection ev1 with ev1;subst ev1;have hMq:=hM q (by simp);have hMr:=hM r (by simp);refine cM8 (over_3 hV _ ua un uc _ p.e ue F D hm hP.1.1 (bel_ok hbe) hP.1.2.1 (hke.below hb0) gl cap ⟨hcl,hcm⟩ _ u0 (mP8 V rs f q).2 l0 l1 _ _ u1 (mP8 V rs f r).2 l2 l3 g0 hF0 hMq g1 hF1 hMr) ?_;rintro z w' ⟨⟨u,l,us',G',rfl,hB,hl⟩,hb⟩;exact⟨⟨u,_,us',G',rfl,hB.weak hN,hl⟩,hb⟩
 ·obtain⟨q,r,hq,hwq,hwr,eW⟩:=wk_4 hW hk;rw[(kid00 hq).1,(kid00 hq).2];unfold overC;rw[if_neg (by omega),if_neg (by omega),if_neg (by omega),if_pos hk];rw[hq]at hO hM;obtain⟨gl,cap,u0,g0,rfl,hgl,hcl,hcm,l0,l1,hF0,hO0⟩:=hO.at2 (i:=0) (x:=bagOf V rs f q) rfl;obtain⟨gl',cap',u1,g1,ev,hgl',_,_,l2,l3,hF1,hO1⟩:=hO.at2 (i:=1) (x:=bagOf V rs f r) rfl;injection ev with ev1 ev2 ev3;injection ev1 with ev1;injection ev1 with ev1;subst ev1;have hMq:=hM q (by simp);have hMr:=hM r (by simp);have aq:=hMq.all;have ar:=hMr.all;refine cM8 (over_4 _ ua un uc gl cap ⟨hcl,hcm⟩ _ u0 (mP8 V rs f q).2 l0 l1 0 _ u1 (mP8 V rs f r).2 l2 l3 g0 hF0 g1 hF1 eW.symm (hwr.symm.trans eW.symm) hMq.wtb hMr.wtb (wL8 _ _ _) (by rw[eW];exact hMq.good) (by rw[eW,hwr];exact hMr.good) ⟨fun c hc=>?_,?_⟩) ?_
  ·rcases List.mem_append.1 hc with hc|hc
   ·have:=aq.2.2.2 c hc;omega
   ·have:=ar.2.2.2 c hc;omega
  ·rw[List.length_append];omega
  rintro z w' ⟨⟨l,u,us',G',rfl,hord,hB⟩,hb⟩;rw[eW]at hord;exact⟨⟨u,_,us',G',rfl,hB.weak hN,.inl (ordered_sum hMq.ok (by rw[hwr];exact hMr.ok) hMq.toRaw.wf hMr.toRaw.wf hord)⟩,hb⟩
 ·obtain⟨q,hq,hwq,eW⟩:=wk_5 hW hk;rw[kid0 hq];unfold overC;rw[if_neg (by omega),if_neg (by omega),if_neg (by omega),if_neg (by omega),if_pos hk];rw[hq]at hO hM;obtain⟨gl,cap,u0,g0,rfl,hgl,hcl,hcm,l0,l1,hF0,hO0⟩:=hO.at2 (i:=0) (x:=bagOf V rs f q) rfl;have hMq:=hM q (by simp);refine cM8 (over_5 _ ua un uc gl cap ⟨hcl,hcm⟩ _ u0 (mP8 V rs f q).2 l0 l1 g0 hF0 N hO0 hN (by have:=hMq.all.2.2.1;omega)) ?_;rintro z w' ⟨⟨u,us',G',rfl,hB⟩,hb⟩;exact⟨⟨u,_,us',G',rfl,hB,.inl rfl⟩,hb⟩
 ·obtain⟨q,hq,hwq,hn0,hnv,hel,hbe,eW⟩:=wk_6 hW hk;rw[kid0 hq];unfold overC;rw[if_neg (by omega),if_neg (by omega),if_neg (by omega),if_neg (by omega),if_neg (by omega)];rw[hq]at hO hM;obtain⟨gl,cap,u0,g0,rfl,hgl,hcl,hcm,l0,l1,hF0,hO0⟩:=hO.at2 (i:=0) (x:=bagOf V rs f q) rfl;have hMq:=hM q (by simp);obtain⟨nk,hnk⟩:∃nk:Nat,p.n=nk:=⟨p.n.toNat,by omega⟩;rw[hnk]at hnv⊢;refine cM8 (over_6 hV _ ua un uc _ nk hnv ue p.es F D hm (hke.below hb0) (fun e he=>bel_ok (hbe e he)) (fun e he=>(hP.2.1 e he).2.1) hel gl cap ⟨hcl,hcm⟩ _ u0 (mP8 V rs f q).2 l0 l1 g0 hF0 hMq) ?_;rintro z w' ⟨⟨u,us',G',rfl,hB⟩,hb⟩;exact⟨⟨u,_,us',G',rfl,hB.weak hN,.inl (by rw[Int.toNat_natCast])⟩,hb⟩
end
section
open Go.RowKit
theorem frameWidth_any (k W:Int)(a:Option Addr)(l c:Nat)(w:World):Calls Tryz.prog 237 #[.agg #[.int .i64 k,.int .i64 W,.slice a l c]] w fun e w'=>e=.returned (.int .i64 W)∧Below w.heap.size w w':=by
 go_enter Tryz.func237,Tryz.ntmps237;go_wp2;go_returns;exact⟨rfl,bex⟩
theorem frameKids_any (k W:Int)(a:Option Addr)(l c:Nat)(w:World):Calls Tryz.prog 235 #[.agg #[.int .i64 k,.int .i64 W,.slice a l c]] w fun e w'=>e=.returned (.slice a l c)∧Below w.heap.size w w':=by
 go_enter Tryz.func235,Tryz.ntmps235;go_wp2;go_returns;exact⟨rfl,bex⟩
end
section
open Go.RowKit
def Wid (v:Value)(W:Int)(us:Value):Prop:=∃ (t:TypeId) (x:Value) (k:Int),v=.iface t x∧(∀w,Sem.run Tryz.prog (Go.method 398 t x "loop.example/g00312/impl.width") w=.ok (237,.agg #[.int .i64 k,.int .i64 W,us]) w)∧∀w,Sem.run Tryz.prog (Go.method 398 t x "loop.example/g00312/impl.kids") w=.ok (235,.agg #[.int .i64 k,.int .i64 W,us]) w
theorem FormR.wid {w:World}{rs:List R3}{p:P12}{W:Int}{us v:Value}(h:FormR w rs p W us v):Wid v W us:=by
 rcases h with⟨_,rfl,x,u,_,_,_,rfl⟩|⟨_,ue,F,D,_,rfl⟩|⟨_,ue,F,D,_,rfl⟩|⟨_,ue,F,D,_,rfl⟩|⟨_,rfl⟩|⟨_,rfl⟩|⟨_,ue,F,D,_,rfl⟩
 ·exact⟨_,_,0,rfl,fun w=>by kernel_rfl,fun w=>by kernel_rfl⟩
 ·exact⟨_,_,1,rfl,fun w=>by kernel_rfl,fun w=>by kernel_rfl⟩
 ·exact⟨_,_,2,rfl,fun w=>by kernel_rfl,fun w=>by kernel_rfl⟩
 ·exact⟨_,_,3,rfl,fun w=>by kernel_rfl,fun w=>by kernel_rfl⟩
 ·exact⟨_,_,4,rfl,fun w=>by kernel_rfl,fun w=>by kernel_rfl⟩
 ·exact⟨_,_,5,rfl,fun w=>by kernel_rfl,fun w=>by kernel_rfl⟩
 ·exact⟨_,_,6,rfl,fun w=>by kernel_rfl,fun w=>by kernel_rfl⟩
end
section
open Go.RowKit Go.Deep Go.ChangeShapes Go.WideShapes
def MeS (m:Int)(V:E7→List V3→V3)(W0:World)(rs:List R3)(f:Nat):Prop:=∀ (p:P12) (v:Value) (D:Nat→Prop) (w:World),RightIs W0 rs f D w v p→(∀b,D b→b<w.heap.size)→Below W0.heap.size W0 w→w.cell? ⟨0,0,none⟩=some (.int .i64 m)→PreP f p→0≤wP8 rs f p→
  Calls Tryz.prog 39 #[v] w fun x w'=>(((mP8 V rs f p).1=true∧∃u us G,x=.returned (.tuple #[.agg #[.int .i64 (wP8 rs f p),u],.nilIface])∧BagOwn w' w.heap.size u (mP8 V rs f p).2 us G)∨((mP8 V rs f p).1=false∧x=.returned (.tuple #[.agg #[.int .i64 0,.slice none 0 0],.iface 84 (.agg #[.int .i64 2])])))∧Below w.heap.size w w'
theorem mean_1 (V:E7→List V3→V3)(rs:List R3)(f:Nat)(p:P12):(mP8 V rs (f+1) p).1=(p.ks.all (fun q=>(mP8 V rs f q).1) &&okBag (wP8 rs (f+1) p) (mP8 V rs (f+1) p).2):=by rw[mP8]
theorem ok_long {W:Int}{cs:List C2}(h:400<cs.length):okBag W cs=false:=by
 unfold okBag;rw[decide_eq_false (show ¬cs.length≤400 by omega)];simp
theorem me_step {m:Int}{V:E7→List V3→V3}(hV:VOk m V){W0:World}{rs:List R3}(hdb:okDb rs=true)(hrw:RsWf rs){f:Nat}(ih:MeS m V W0 rs f):MeS m V W0 rs (f+1):=by
 intro p v D w hRt hD hb0 hm hP hW;obtain⟨i0,hi,hz0,hz1,hz2'⟩:=info_parts Tryz.infoBagX;obtain⟨us,vals,hF,hU,hvl,hkids⟩:=hRt;obtain⟨t,x,kk,rfl,hM0,hMk⟩:=hF.wid;obtain⟨a,c,rfl,hc,hcells⟩:=hU;unfold maxLen at hc;have h00:0<w.heap.size:=bl8 _ _ hm;have hzw:=hb0.size;have hkw:∀q∈p.ks,0≤wP8 rs f q:=(widthP_inv hW).2.1;have hk2:p.ks.length≤2:=by
  have:=form_kids (widthP_inv hW).1;unfold kidsK at this;split at this;omega;split at this;omega;split at this;omega;split at this;omega;split at this;omega;split at this;omega;split at this<;>omega
 have HI:Hid (∀ (k:Nat) (q:P12) (x:Value) (X:World),Below w.heap.size w X→p.ks[k]?=some q→vals[k]?=some x→_):=fun k q x X hX hq hx=>ih q x D X ((hkids k q x hq hx).keep (fun b hb=>hb) fun b hb=>hX.block b (hD b hb)) (fun b hb=>Nat.lt_of_lt_of_le (hD b hb) hX.size) (hb0.trans (hX.mono hzw)) (((bc8 hX).1 0 0 h00).trans hm) (hP.2.2 q (mg8 hq)) (hkw q (mg8 hq));have HOv:Hid (∀ (X:World) (y:Value) (ul:List Value) (G:List (List Nat)) (N:Nat),Below w.heap.size w X→(∀q∈p.ks,(mP8 V rs f q).1=true)→BgsOwn X N y (p.ks.map (bagOf V rs f)) ul G→N≤X.heap.size→_):=fun X y ul G N hX hK hO hN=>over_any hV hdb hrw hP hW hK hF ⟨a,_,c,rfl⟩ (hb0.trans (hX.mono hzw)) (((bc8 hX).1 0 0 h00).trans hm) hO hN;have HRaw:Hid ((∀q∈p.ks,(mP8 V rs f q).1=true)→CsWf (mP8 V rs (f+1) p).2):=fun hK=>(raw_mean hV hdb hrw (f+1) p hP hW (by rw[Nat.add_sub_cancel];exact hK)).wf;have HE:=mean_1 V rs f p;obtain⟨r,HR⟩:∃q,Hid ((mP8 V rs (f+1) p).1=q):=⟨_,rfl⟩;rw[HR.out]at HE;have HE:Hid (r=(p.ks.all (fun q=>(mP8 V rs f q).1) &&okBag (wP8 rs (f+1) p) (mP8 V rs (f+1) p).2)):=HE;obtain⟨RW,HRW⟩:∃q,Hid (wP8 rs (f+1) p=q):=⟨_,rfl⟩;obtain⟨RC,HRC⟩:∃q,Hid ((mP8 V rs (f+1) p).2=q):=⟨_,rfl⟩;rw[HR.out,HRW.out,HRC.out];have HC:Hid (∀k x,vals[k]?=some x→∃g,a=some ⟨g,0,none⟩∧g<w.heap.size∧w.cell? ⟨g,k,none⟩=some x):=fun k x hk=>by
  have hl:=(gE1 hk).1;obtain⟨g,h1,h2,h3⟩:=hcells (by omega);exact⟨g,h1,hD g h2,h3 k x hk⟩
 clear ih hF hkids hcells hM0;go_enter Tryz.func39,Tryz.ntmps39;go_wp2_with(go_at_call 235;refine cM8 (frameKids_any _ _ _ _ _ _) ?_;rintro z w1 ⟨rfl,hb1⟩;have hzv1:=hb1.size;(try simp at hzv1));go_loopw [4,14] (fun y i wr=> ∃ (k:Nat) (us:List Value) (G:List (List Nat)),k≤p.ks.length∧i=.int .i64 k∧(∃ay cy,y=.slice ay k cy)∧BgsOwn wr (w.heap.size+1) y ((p.ks.take k).map (bagOf V rs f)) us G∧(∀q∈p.ks.take k,(mP8 V rs f q).1=true)∧wr.cell? ⟨w.heap.size,0,none⟩=some (.int .i64 0)∧wr.cell? ⟨w.heap.size,1,none⟩=some (.slice none 0 0)∧(∀q,wr.frozen? ⟨w.heap.size,q,none⟩=false)∧Below w.heap.size w wr∧w.heap.size<wr.heap.size) (fun _ i _=>p.ks.length - (intOf i).toNat)
 case atStart=>
  refine⟨0,[],[],Nat.zero_le _,rfl,⟨_,_,rfl⟩,(BgsOwn.empty' (by simp)).below hb1,fun q h=>by simp at h,cL8 hb1 (by go_simp),cL8 hb1 (by go_simp),fun q=>((bc8 hb1).2 _ q (by simp;try omega)).trans (by go_simp),bex,by omega⟩
 case round=>
  obtain⟨k,us,G,hk,rfl,⟨ay,cy,rfl⟩,hO,hall,r0,r1,rf,hb,hsz⟩:=hrel;have hzb:=hb.size;by_cases hlt:k<p.ks.length
  ·obtain⟨q,hq⟩:∃q,p.ks[k]?=some q:=⟨p.ks[k],by simp⟩;obtain⟨y,hy⟩:∃y,vals[k]?=some y:=⟨vals[k]'(by omega),by simp⟩;obtain⟨g,rfl,hgl,hcl⟩:=HC.out k y hy;have dc:=((bc8 hb).1 g k hgl).trans hcl;have hgr:g<wr.heap.size:=by omega
   have hkI:(k:Int)<vals.length:=by omega
   have hV1:=HI.out k q y wr hb hq hy;have HQ:Hid (p.ks[k]?=some q):=hq;have htl:((p.ks.take k).map (bagOf V rs f)).length=k:=by simp;omega
   have HT:Hid ((p.ks.take (k+1)).map (bagOf V rs f)=(p.ks.take k).map (bagOf V rs f)++ [⟨wP8 rs f q,(mP8 V rs f q).2⟩]):=by
    obtain⟨hk',rfl⟩:=gE1 hq;show _=_;rw[List.take_succ_eq_append_getElem hk',List.map_append];rfl
   generalize(p.ks.take k).map (bagOf V rs f)=bs at*;clear hq hy hcl;go_wp2_with fail;refine cM8 hV1 ?_;rintro z w2 ⟨hres,hb2⟩;have hz2:=hb2.size;have bel2:Below w.heap.size w w2:=hb.trans (hb2.mono hzb);have r02:=((bc8 hb2).1 _ 0 hsz).trans r0;have r12:=((bc8 hb2).1 _ 1 hsz).trans r1;have rf2:∀q,w2.frozen? ⟨w.heap.size,q,none⟩=false:=fun q=>((bc8 hb2).2 _ q hsz).trans (rf q);have hs2:w.heap.size<w2.heap.size:=by omega
   clear hV1 r0 r1 rf dc;rcases hres with⟨h1,u2,us2,G2,rfl,hB2⟩|⟨h1,rfl⟩
   ·obtain⟨F2,hF2,hO2⟩:=hB2.rowsF;obtain⟨a4,c4,rfl⟩:=hB2.shape;have hOw:=hO.below hb2;have hol:=oL8 hO.own;have hGl:=hO.lt;have hO2':=hO2.2.1;have hl2:=hF2.lt;have hall':∀q∈p.ks.take (k+1),(mP8 V rs f q).1=true:=fun q' hq'=>by
     obtain⟨hk',e⟩:=gE1 HQ.out;rw[List.take_succ_eq_append_getElem hk',e]at hq';rcases List.mem_append.1 hq' with hq'|hq'
     ·exact hall q' hq'
     ·rw[List.mem_singleton.1 hq'];exact h1
    obtain rfl:k=bs.length:=htl.symm;have hbl:bs.length≤2:=by omega
    generalize wP8 rs f q=xW at*;generalize(mP8 V rs f q).2=xC at*;clear hb2 hB2 hO hall;go_wp2_with(at_builtin;refine wpList_append_own_at _ rfl _ _ 105 rfl (w.heap.size+1) 60 i0 _ 2 32 Tryz.underlying105 hi hz0 hz1 hz2' rfl (by decide) _ _ _ rfl ((hOw.own.alloc _).alloc _) ⟨w2.heap.size+1,0,none⟩ 1 1 [.int .i64 xW,.slice a4 xC.length c4] rfl rfl ?c2 (by simp[Value.oneCell']) ?c3 ?c4 ?c5 ?_)
    case c2=>exact World.news_of_block (cs:=#[.int .i64 xW,.slice a4 xC.length c4]) (t:=60) (fr:=(0,0)) (by have:=heap_alloc_new (w2.alloc (.cells #[.int .i64 xW,.slice a4 xC.length c4] 60)) (.cells #[.int .i64 xW,.slice a4 xC.length c4] 60);simpa using this)
    case c3=>unfold maxLen;omega
    case c4=>omega
    case c5=>simp;omega
    intro v5 w5 hown5 hgr5 _ hat5;have hz5:=hgr5.size;simp at hz5;have al2:Below w2.heap.size w2 ((w2.alloc (.cells #[.int .i64 xW,.slice a4 xC.length c4] 60)).alloc (.cells #[.int .i64 xW,.slice a4 xC.length c4] 60)):=((Below.refl _ _).alloc (Nat.le_refl _) _).alloc (by simp) _;have hp:=BgsOwn.push (x:=⟨xW,xC⟩) (hOw.below al2) (hF2.below al2) ⟨hO2.1,fun b hb=>by have:=hO2' b hb;omega,fun b hb q=>(fb8 (al2.block b (hl2 b hb))).trans (hO2.2.2 b hb q)⟩ (fun b hb hb'=>by have:=hO2' b hb';have:=hGl b hb;omega) (fun b hb hb'=>by have:=hO2' b hb';have:=(hol b hb).2;omega) hown5 hgr5 (fun b hb=>by
     rcases hat5 with e|e
     ·left;rw[←e];exact hb
     ·right;rw[e]at hb;cases hb;simp)
    have hs5:∃ao cap,v5=.slice ao (bs.length+1) cap:=by
     rcases hown5.2 with⟨_,h0⟩|⟨g,cap,cur,hv,_⟩
     ·exact absurd h0 (by omega)
     ·exact⟨_,cap,hv⟩
    obtain⟨ao,cap,rfl⟩:=hs5;have hne5:(Value.slice ay bs.length cy).ownBlock≠some w.heap.size:=fun e=>by have:=(hol _ e).1;omega
    have k5:w5.heap[w.heap.size]?=w2.heap[w.heap.size]?:=(hgr5.block w.heap.size (by simp;omega) (fun e=>hne5 e.symm)).trans (al2.block _ hs2);have r05:=(cb8 k5).trans r02;have r15:=(cb8 k5).trans r12;have rf5:∀q,w5.frozen? ⟨w.heap.size,q,none⟩=false:=fun q=>(fb8 k5).trans (rf2 q);have bel5:Below w.heap.size w w5:=Below.grown (bel2.trans (al2.mono bel2.size)) hgr5 (by simp;omega) (fun t ht=>by have:=(hol t ht).1;omega);rw[←HT.out]at hp;have hsz5:w.heap.size<w5.heap.size:=by omega
    clear hown5 hgr5 hat5 hOw hF2 hO2 k5 r02 r12 rf2 al2 HT;go_wp2_with fail;exact⟨⟨bs.length+1,_,_,hlt,by simp,⟨_,_,rfl⟩,hp,hall',r05,r15,rf5,bel5,hsz5⟩,by simp[intOf];omega⟩
   ·have HF:Hid (r=false):=by
     show _=_;rw[HE.out,Bool.and_eq_false_iff];left;rw[List.all_eq_false];exact⟨q,mg8 HQ.out,by rw[h1];decide⟩
    clear hO hb2;go_wp2_with fail;refine bodyPost_ret (v:=.tuple #[.agg #[.int .i64 0,.slice none 0 0],.iface 84 (.agg #[.int .i64 2])]) (by simp[results,Tryz.results39,go_sem, *]) rfl ⟨.inr ⟨HF.out,rfl⟩,?_⟩;repeat (first|(with_reducible exact bel2)|(with_reducible refine Below.setCell ?_ ?hh _;case hh=>(simp;try omega))|(with_reducible refine Below.alloc ?_ ?hh _;case hh=>(simp;try omega)))
  ·obtain rfl:k=p.ks.length:=by omega
   rw[List.take_length]at hO hall;have hOv:=HOv.out wr _ us G _ hb hall hO (by omega);have hwf:=HRaw.out hall;have HF:Hid (r=okBag (wP8 rs (f+1) p) (mP8 V rs (f+1) p).2):=by
    show _=_;rw[HE.out,List.all_eq_true.2 hall,Bool.true_and]
   rw[HRW.out,HRC.out]at hOv;rw[HRC.out]at hwf;have HF:Hid (r=okBag RW RC):=by show _=_;rw[HF.out,HRW.out,HRC.out]
   clear hO HI HC;go_wp2_with fail;refine cM8 hOv ?_;rintro z w2 ⟨⟨u,l,us',G',rfl,hB2,hl⟩,hb2⟩;have hz2:=hb2.size;have bel2:Below w.heap.size w w2:=hb.trans (hb2.mono hzb);have hwl:CsWf l:=by
    rcases hl with rfl|⟨_,t',e⟩
    ·exact hwf
    ·intro c hc;exact hwf c (by rw[e];exact List.mem_append_left _ hc)
   have HL:Hid (okBag RW l=okBag RW RC∧(okBag RW l=true→l=RC)):=by
    rcases hl with rfl|⟨h4,t',e⟩
    ·exact⟨rfl,fun _=>rfl⟩
    ·have h5:=ok_long (W:=RW) h4;have h6:okBag RW RC=false:=ok_long (by rw[e,List.length_append];omega);exact⟨by rw[h5,h6],fun h=>by rw[h5]at h;cases h⟩
   obtain⟨F2,hF2,_⟩:=hB2.rowsF;obtain⟨a4,c4,rfl⟩:=hB2.shape;have r02:=((bc8 hb2).1 _ 0 hsz).trans r0;have r12:=((bc8 hb2).1 _ 1 hsz).trans r1;have rf2:∀q,w2.frozen? ⟨w.heap.size,q,none⟩=false:=fun q=>((bc8 hb2).2 _ q hsz).trans (rf q);have hs2:w.heap.size<w2.heap.size:=by omega
   have hBo:=fun(X:World) (hX:Below w2.heap.size w2 X)=>implBagOk_any RW _ l X hwl ((hF2.below hX).is);obtain⟨bo,HBO⟩:∃q,Hid (okBag RW l=q):=⟨_,rfl⟩;rw[HBO.out]at hBo;clear hOv hb2 r0 r1 rf hF2 hl;go_wp2_with fail;refine cM8 (hBo _ bex) ?_;rintro z w3 ⟨rfl,hb3⟩;have hz3:=hb3.size;simp at hz3;have bel23:Below w2.heap.size w2 w3:=bex;have bel3:Below w.heap.size w w3:=bel2.trans (bel23.mono bel2.size);have t0:w3.cell? ⟨w2.heap.size,0,none⟩=some (.int .i64 RW):=cL8 hb3 (by go_simp);have t1:w3.cell? ⟨w2.heap.size,1,none⟩=some (.slice a4 l.length c4):=cL8 hb3 (by go_simp);have r03:=((bc8 bel23).1 w.heap.size 0 hs2).trans r02;have r13:=((bc8 bel23).1 w.heap.size 1 hs2).trans r12;have rf3:∀q,w3.frozen? ⟨w.heap.size,q,none⟩=false:=fun q=>((bc8 bel23).2 _ q hs2).trans (rf2 q);have hB3:=hB2.below bel23;clear hBo hb3 r02 r12 rf2 hB2;cases bo with
   |false=>
    have HG:Hid (r=false):=by show _=_;rw[HF.out,←HL.out.1,HBO.out]
    clear hB3;go_wp2_with fail;refine bodyPost_ret (v:=.tuple #[.agg #[.int .i64 0,.slice none 0 0],.iface 84 (.agg #[.int .i64 2])]) (by simp[results,Tryz.results39,go_sem, *]) rfl ⟨.inr ⟨HG.out,rfl⟩,?_⟩;repeat (first|(with_reducible exact bel3)|(with_reducible refine Below.setCell ?_ ?hh _;case hh=>(simp;try omega)))
   |true=>
    have HG:Hid (r=true):=by show _=_;rw[HF.out,←HL.out.1,HBO.out]
    have HLR:Hid (l=RC):=HL.out.2 HBO.out;go_wp2_with fail;refine bodyPost_ret (v:=.tuple #[.agg #[.int .i64 RW,.slice a4 l.length c4],.nilIface]) (by simp[results,Tryz.results39,go_sem, *]) rfl ⟨.inl ⟨HG.out,_,us',G',rfl,?_⟩,?_⟩
    ·rw[←HLR.out];refine(hB3.keep (by simp) fun b hb _=>?_).weak (by omega);repeat rw[bS8 _ _ _ _ (by simp;omega)]
    ·repeat (first|(with_reducible exact bel3)|(with_reducible refine Below.setCell ?_ ?hh _;case hh=>(simp;try omega)))
theorem me_any {m:Int}{V:E7→List V3→V3}(hV:VOk m V){W0:World}{rs:List R3}(hdb:okDb rs=true)(hrw:RsWf rs):∀f,MeS m V W0 rs f
 |0=>fun p v D w h=>h.elim
 |f+1=>me_step hV hdb hrw (me_any hV hdb hrw f)
end
end Go.Proofs.YtflokiejcjjbiaaGreat
