/- Own text. Behind what is joined: what the statement on Answer holds together. -/
import Derived.Test.YteekfcdllaceoaaGreatDoorGLAnswer1
import Derived.Test.YteekfcdllaceoaaGreatDoorGLAnswer16
import Derived.Test.YteekfcdllaceoaaGreatDoorGLAnswer10
import Derived.Test.YteekfcdllaceoaaGreatDoorGLAnswer7
import Derived.Test.YteekfcdllaceoaaGreatDoorGLAnswer2
import Derived.Test.YteekfcdllaceoaaGreatDoorGLAnswer17
import Derived.Test.YteekfcdllaceoaaGreatDoorGLAnswer3
import Derived.Handy
import Derived.Test.YteekfcdllaceoaaGreatDoorGLAnswer12
import Derived.Test.YteekfcdllaceoaaGreatDoorGLAnswer14
import Derived.Test.YteekfcdllaceoaaGreatDoorMarkP
import Derived.WalkKit
import Derived.WalkSpells
import Derived.WalkLawsBesides
import Derived.Below
import Derived.Deep.RegionHeld3
import Derived.Deep.DeepCutAuto
import Derived.LaidMore
import Derived.Lay
import Derived.LaidOnce
import Derived.LaidLaws
import Derived.LaidHandle
import Derived.Deep.DeepHandedRow
import Derived.SevenTiedAt
import Derived.Test.YteekfcdllaceoaaGreatDoorGLAnswer4
import Derived.ProofKit
import Derived.OpenShut
import Derived.ShutString
import Derived.ChangeOld
import Derived.Lib.SmallJoins
set_option maxHeartbeats 16000000
set_option maxRecDepth 100000
set_option linter.unusedVariables false
set_option linter.unusedSimpArgs false
namespace Go.Proofs.YteekfcdllaceoaaGreatDoor
section
open Go.RowKit
theorem O6.at2 {w:World}{N:Nat}{v:Value}{rs:List B2}{us:List Value}{G:List (List Nat)}(h:O6 w N v rs us G){i:Nat}{x:B2}(hx:rs[i]?=some x):∃gl cap u g,v=.slice (some ⟨gl,0,none⟩) rs.length cap/\gl<w.heap.size/\rs.length<=cap/\cap<=maxLen/\w.cell? ⟨gl,i*2,none⟩=some (.int .i64 x.W)/\w.cell? ⟨gl,i*2+1,none⟩=some u/\C6 w u x.cs g/\D5 w N g:=by
 have hi:i<rs.length:=(gE1 hx).1;have hlt:=oL8 h.own;have hfr:=h.free;obtain⟨hl,ho⟩:=h.own;rcases ho with⟨_,h0⟩|⟨g,cap,cur,rfl,hg,hc,hn,hm,hs,ht⟩
 ·omega
 have h1:=h.ul;have h2:=h.gl;have hiu:i<us.length:=by omega
 have hiG:i<G.length:=by omega
 obtain⟨e0,e1⟩:=A9k h.ul (i:=i) (u:=us[i]) (x:=x) (by simp) hx;have get:∀j u,j<rs.length*2->(bcs us rs)[j]?=some u->w.cell? ⟨g,j,none⟩=some u:=by
  intro j u hj hu;simp only[World.cell?,hc];rw[<-ht,List.getElem?_take,if_pos hj,Array.getElem?_toList]at hu
  simpa using hu
 have P4:∀b∈G[i],b∈G.flatten:=fun b hb=>List.mem_flatten.2 ⟨G[i],List.getElem_mem hiG,hb⟩;have hnd:=hfr.1;have e:G=G.take i++G[i]::G.drop (i+1):=by rw[<-List.drop_eq_getElem_cons hiG,List.take_append_drop]
 rw[e,List.flatten_append,List.flatten_cons]at hnd;exact⟨g,cap,us[i],G[i],rfl,(hlt g rfl).2,hn,hm,get _ _ (by omega) e0,get _ _ (by omega) e1,h.row i x us[i] G[i] hx (by simp) (by simp),(List.nodup_append.1 (List.nodup_append.1 hnd).2.1).1,fun b hb=>hfr.2.1 b (P4 b hb),fun b hb=>hfr.2.2 b (P4 b hb)⟩
theorem A5F {e:E7}{W:Int}(h:bE8 e W=true):okE 13 e=true:=by unfold bE8 at h;rw[Bool.and_eq_true]at h;exact h.1
theorem C2D {m:Int}{V:E7->List V3->V3}(hV:VOk m V){W0 w:World}{rs:List R3}(hdb:G9 rs=true)(hrw:W7 rs){f:Nat}{p:P12}(hP:A0P (f+1) p)(hW:0<=wP8 rs (f+1) p)(hK:∀q∈p.ks,(mP8 V rs f q).1=true){us v y:Value}(hF:A2d W0 rs p (wP8 rs (f+1) p) us v)(hus:∃a l c,us=.slice a l c)(hb0:Below W0.heap.size W0 w)(hm:w.cell? ⟨1,0,none⟩=some (.int .i64 m)){ul:List Value}{G:List (List Nat)}{N:Nat}(hO:O6 w N y (p.ks.map (N7 V rs f)) ul G)(hN:N<=w.heap.size):Calls Tryz.prog 84 #[v,y] w fun q w'=>(∃u l us' G',q=.returned (.agg #[.int .i64 (wP8 rs (f+1) p),u])/\C4 w' N u l us' G'/\(l=(mP8 V rs (f+1) p).2\/400<l.length/\∃t,(mP8 V rs (f+1) p).2=l++t))/\Below w.heap.size w w':=by
 have hkw:∀q∈p.ks,0<=wP8 rs f q:=(l5 hW).2.1;have hM:=fun(q:P12) (hq:q∈p.ks)=>A6M hV hdb hrw (hP.2.2 q hq) (hkw q hq) (hK q hq);have hm2:(mP8 V rs (f+1) p).2=if p.k=0 then A0t rs p.s else P6 V p (mP8 V rs f (p.ks.getD 0 .nil)).2 (mP8 V rs f (p.ks.getD 1 .nil)).2:=by rw[mP8]
 obtain⟨ua,un,uc,rfl⟩:=hus;rw[hm2];rcases hF with⟨hk,eu,x,ub,hx,hxW,⟨F,hRF⟩,rfl⟩|⟨hk,ue,F,D,hke,rfl⟩|⟨hk,ue,F,D,hke,rfl⟩|⟨hk,ue,F,D,hke,rfl⟩|⟨hk,rfl⟩|⟨hk,rfl⟩|⟨hk,ue,F,D,hke,rfl⟩
 ·rw[if_pos hk];have hxm:=A4m hx;have hpl:S5 x.W x.cs=true:=by
   have h5:=hdb;simp only[G9,Bool.and_eq_true]at h5;exact A3z h5.2 x hxm
  have hwx:=(A5r hpl (hrw x hxm).2.2).wtb;obtain⟨a,c,rfl⟩:=hO.shape;refine cM8 (B4H _ ua un uc p.s ub x.cs F a _ c (hRF.below hb0) hwx) ?_;rintro q w' ⟨⟨u,us',G',rfl,hB⟩,hb⟩;exact⟨⟨u,_,us',G',rfl,hB.weak hN,.inl (by unfold A0t;rw[hx])⟩,hb⟩
 all_goals rw[if_neg (by omega)]
 ·obtain⟨q,hq,hwq,hbe,eW⟩:=A5q hW hk;rw[V7 hq];unfold P6;rw[if_pos hk];rw[hq]at hO hM;obtain⟨gl,cap,u0,g0,rfl,hgl,hcl,hcm,l0,l1,hF0,hO0⟩:=hO.at2 (i:=0) (x:=N7 V rs f q) rfl;have hMq:=hM q (by simp);refine cM8 (C21 hV _ ua un uc p.e ue F D hm hP.1.1 (A5F hbe) hP.1.2.1 (hke.below hb0) gl cap ⟨hcl,hcm⟩ _ u0 (mP8 V rs f q).2 l0 l1 g0 hF0 N hO0 hN (by have:=hMq.all.2.2.1;omega) (fun c hc=>(hMq.row c hc).2)) ?_;rintro z w' ⟨⟨u,us',G',rfl,hB⟩,hb⟩;exact⟨⟨u,_,us',G',rfl,hB,.inl rfl⟩,hb⟩
 ·obtain⟨q,hq,hwq,h0,hbe,eW⟩:=A6p hW hk;rw[V7 hq];unfold P6;rw[if_neg (by omega),if_pos hk];rw[hq]at hO hM;obtain⟨gl,cap,u0,g0,rfl,hgl,hcl,hcm,l0,l1,hF0,hO0⟩:=hO.at2 (i:=0) (x:=N7 V rs f q) rfl;have hMq:=hM q (by simp);have hle:=wL8 rs (f+1) p;refine cM8 (B86 hV _ ua un uc _ ue p.es F D hm (hke.below hb0) (fun e he=>A5F (hbe e he)) (fun e he=>(hP.2.1 e he).2.1) (by omega) gl cap ⟨hcl,hcm⟩ _ u0 (mP8 V rs f q).2 l0 l1 g0 hF0 hMq) ?_;rintro z w' ⟨⟨u,us',G',rfl,hB⟩,hb⟩;exact⟨⟨u,_,us',G',rfl,hB.weak hN,.inl rfl⟩,hb⟩
 ·obtain⟨q,r,hq,hwq,hwr,hbe,eW⟩:=A50 hW hk;rw[(Y0 hq).1,(Y0 hq).2];unfold P6;rw[if_neg (by omega),if_neg (by omega),if_pos hk];rw[hq]at hO hM;obtain⟨gl,cap,u0,g0,rfl,hgl,hcl,hcm,l0,l1,hF0,hO0⟩:=hO.at2 (i:=0) (x:=N7 V rs f q) rfl;obtain⟨gl',cap',u1,g1,ev,hgl',_,_,l2,l3,hF1,hO1⟩:=hO.at2 (i:=1) (x:=N7 V rs f r) rfl;injection ev with ev1 ev2 ev3;injection ev1 with ev1;injection ev1 with ev1;subst ev1;have hMq:=hM q (by simp);have hMr:=hM r (by simp);refine cM8 (B7L hV _ ua un uc _ p.e ue F D hm hP.1.1 (A5F hbe) hP.1.2.1 (hke.below hb0) gl cap ⟨hcl,hcm⟩ _ u0 (mP8 V rs f q).2 l0 l1 _ _ u1 (mP8 V rs f r).2 l2 l3 g0 hF0 hMq g1 hF1 hMr) ?_;rintro z w' ⟨⟨u,l,us',G',rfl,hB,hl⟩,hb⟩;exact⟨⟨u,_,us',G',rfl,hB.weak hN,hl⟩,hb⟩
 ·obtain⟨q,r,hq,hwq,hwr,eW⟩:=A6c hW hk;rw[(Y0 hq).1,(Y0 hq).2];unfold P6;rw[if_neg (by omega),if_neg (by omega),if_neg (by omega),if_pos hk];rw[hq]at hO hM;obtain⟨gl,cap,u0,g0,rfl,hgl,hcl,hcm,l0,l1,hF0,hO0⟩:=hO.at2 (i:=0) (x:=N7 V rs f q) rfl;obtain⟨gl',cap',u1,g1,ev,hgl',_,_,l2,l3,hF1,hO1⟩:=hO.at2 (i:=1) (x:=N7 V rs f r) rfl;injection ev with ev1 ev2 ev3;injection ev1 with ev1;injection ev1 with ev1;subst ev1;have hMq:=hM q (by simp);have hMr:=hM r (by simp);have aq:=hMq.all;have ar:=hMr.all;refine cM8 (B4Q _ ua un uc gl cap ⟨hcl,hcm⟩ _ u0 (mP8 V rs f q).2 l0 l1 0 _ u1 (mP8 V rs f r).2 l2 l3 g0 hF0 g1 hF1 eW.symm (hwr.symm.trans eW.symm) hMq.wtb hMr.wtb (wL8 _ _ _) (by rw[eW];exact hMq.good) (by rw[eW,hwr];exact hMr.good) ⟨fun c hc=>?_,?_⟩) ?_
  ·rcases List.mem_append.1 hc with hc|hc
   ·have:=aq.2.2.2 c hc;omega
   ·have:=ar.2.2.2 c hc;omega
  ·rw[List.length_append];omega
  rintro z w' ⟨⟨l,u,us',G',rfl,k9,hB⟩,hb⟩;rw[eW]at k9;exact⟨⟨u,_,us',G',rfl,hB.weak hN,.inl (B2W hMq.ok (by rw[hwr];exact hMr.ok) hMq.toRaw.wf hMr.toRaw.wf k9)⟩,hb⟩
 ·obtain⟨q,hq,hwq,eW⟩:=A6X hW hk;rw[V7 hq];unfold P6;rw[if_neg (by omega),if_neg (by omega),if_neg (by omega),if_neg (by omega),if_pos hk];rw[hq]at hO hM;obtain⟨gl,cap,u0,g0,rfl,hgl,hcl,hcm,l0,l1,hF0,hO0⟩:=hO.at2 (i:=0) (x:=N7 V rs f q) rfl;have hMq:=hM q (by simp);refine cM8 (B5S _ ua un uc gl cap ⟨hcl,hcm⟩ _ u0 (mP8 V rs f q).2 l0 l1 g0 hF0 N hO0 hN (by have:=hMq.all.2.2.1;omega)) ?_;rintro z w' ⟨⟨u,us',G',rfl,hB⟩,hb⟩;exact⟨⟨u,_,us',G',rfl,hB,.inl rfl⟩,hb⟩
 ·obtain⟨q,hq,hwq,hn0,hnv,hel,hbe,eW⟩:=A5c hW hk;rw[V7 hq];unfold P6;rw[if_neg (by omega),if_neg (by omega),if_neg (by omega),if_neg (by omega),if_neg (by omega)];rw[hq]at hO hM;obtain⟨gl,cap,u0,g0,rfl,hgl,hcl,hcm,l0,l1,hF0,hO0⟩:=hO.at2 (i:=0) (x:=N7 V rs f q) rfl;have hMq:=hM q (by simp);obtain⟨nk,hnk⟩:∃nk:Nat,p.n=nk:=⟨p.n.toNat,by omega⟩;rw[hnk]at hnv⊢;refine cM8 (C3M hV _ ua un uc _ nk hnv ue p.es F D hm (hke.below hb0) (fun e he=>A5F (hbe e he)) (fun e he=>(hP.2.1 e he).2.1) hel gl cap ⟨hcl,hcm⟩ _ u0 (mP8 V rs f q).2 l0 l1 g0 hF0 hMq) ?_;rintro z w' ⟨⟨u,us',G',rfl,hB⟩,hb⟩;exact⟨⟨u,_,us',G',rfl,hB.weak hN,.inl (by rw[Int.toNat_natCast])⟩,hb⟩
end
section
open Go.RowKit Go.Deep Go.ChangeShapes Go.WideShapes
def MeS (m:Int)(V:E7->List V3->V3)(W0:World)(rs:List R3)(f:Nat):Prop:=∀ (p:P12) (v:Value) (D:Nat->Prop) (w:World),i6 W0 rs f D w v p->(∀b,D b->b<w.heap.size)->Below W0.heap.size W0 w->w.cell? ⟨1,0,none⟩=some (.int .i64 m)->A0P f p->0<=wP8 rs f p->
  Calls Tryz.prog 61 #[v] w fun x w'=>(((mP8 V rs f p).1=true/\∃u us G,x=.returned (.tuple #[.agg #[.int .i64 (wP8 rs f p),u],.nilIface])/\C4 w' w.heap.size u (mP8 V rs f p).2 us G)\/((mP8 V rs f p).1=false/\x=.returned (.tuple #[.agg #[.int .i64 0,.slice none 0 0],.iface 104 (.agg #[.int .i64 2])])))/\Below w.heap.size w w'
theorem B4z (V:E7->List V3->V3)(rs:List R3)(f:Nat)(p:P12):(mP8 V rs (f+1) p).1=(p.ks.all (fun q=>(mP8 V rs f q).1) &&J2 (wP8 rs (f+1) p) (mP8 V rs (f+1) p).2):=by rw[mP8]
theorem A80 {W:Int}{cs:List C2}(h:400<cs.length):J2 W cs=false:=by
 unfold J2;rw[decide_eq_false (show ¬cs.length<=400 by omega)];simp
theorem C1J {m:Int}{V:E7->List V3->V3}(hV:VOk m V){W0:World}{rs:List R3}(hdb:G9 rs=true)(hrw:W7 rs){f:Nat}(ih:MeS m V W0 rs f):MeS m V W0 rs (f+1):=by
 intro p v D w hRt hD hb0 hm hP hW;obtain⟨i0,hi,hz0,hz1,M6⟩:=info_parts Tryz.infoBagX;obtain⟨us,vals,hF,hU,hvl,hkids⟩:=hRt;obtain⟨t,x,kk,rfl,hM0,hMk⟩:=hF.wid;obtain⟨a,c,rfl,hc,hcells⟩:=hU;unfold maxLen at hc;have h00:1<w.heap.size:=bl8 _ _ hm;have hzw:=hb0.size;have hkw:∀q∈p.ks,0<=wP8 rs f q:=(l5 hW).2.1;have hk2:p.ks.length<=2:=by
  have:=p7 (l5 hW).1;unfold O7 at this;split at this;omega;split at this;omega;split at this;omega;split at this;omega;split at this;omega;split at this;omega;split at this<;>omega
 have HI:Hid (∀ (k:Nat) (q:P12) (x:Value) (X:World),Below w.heap.size w X->p.ks[k]?=some q->vals[k]?=some x->_):=fun k q x X hX hq hx=>ih q x D X ((hkids k q x hq hx).keep (fun b hb=>hb) fun b hb=>hX.block b (hD b hb)) (fun b hb=>Nat.lt_of_lt_of_le (hD b hb) hX.size) (hb0.trans (hX.mono hzw)) (((bc8 hX).1 1 0 h00).trans hm) (hP.2.2 q (mg8 hq)) (hkw q (mg8 hq));have HOv:Hid (∀ (X:World) (y:Value) (ul:List Value) (G:List (List Nat)) (N:Nat),Below w.heap.size w X->(∀q∈p.ks,(mP8 V rs f q).1=true)->O6 X N y (p.ks.map (N7 V rs f)) ul G->N<=X.heap.size->_):=fun X y ul G N hX hK hO hN=>C2D hV hdb hrw hP hW hK hF ⟨a,_,c,rfl⟩ (hb0.trans (hX.mono hzw)) (((bc8 hX).1 1 0 h00).trans hm) hO hN;have B9a:Hid ((∀q∈p.ks,(mP8 V rs f q).1=true)->X7 (mP8 V rs (f+1) p).2):=fun hK=>(A4I hV hdb hrw (f+1) p hP hW (by rw[Nat.add_sub_cancel];exact hK)).wf;have HE:=B4z V rs f p;obtain⟨r,HR⟩:∃q,Hid ((mP8 V rs (f+1) p).1=q):=⟨_,rfl⟩;rw[HR.out]at HE;have HE:Hid (r=(p.ks.all (fun q=>(mP8 V rs f q).1) &&J2 (wP8 rs (f+1) p) (mP8 V rs (f+1) p).2)):=HE;obtain⟨RW,HRW⟩:∃q,Hid (wP8 rs (f+1) p=q):=⟨_,rfl⟩;obtain⟨RC,HRC⟩:∃q,Hid ((mP8 V rs (f+1) p).2=q):=⟨_,rfl⟩;rw[HR.out,HRW.out,HRC.out];have HC:Hid (∀k x,vals[k]?=some x->∃g,a=some ⟨g,0,none⟩/\g<w.heap.size/\w.cell? ⟨g,k,none⟩=some x):=fun k x hk=>by
  have hl:=(gE1 hk).1;obtain⟨g,h1,h2,h3⟩:=hcells (by omega);exact⟨g,h1,hD g h2,h3 k x hk⟩
 clear ih hF hkids hcells hM0;go_enter Tryz.func61,Tryz.ntmps61;go_wp2_with(go_at_call 262;refine cM8 (C3d _ _ _ _ _ _) ?_;rintro z w1 ⟨rfl,hb1⟩;have A21:=hb1.size;(try simp at A21));go_loopw [4,14] (fun y i wr=> ∃ (k:Nat) (us:List Value) (G:List (List Nat)),k<=p.ks.length/\i=.int .i64 k/\(∃ay cy,y=.slice ay k cy)/\O6 wr (w.heap.size+1) y ((p.ks.take k).map (N7 V rs f)) us G/\(∀q∈p.ks.take k,(mP8 V rs f q).1=true)/\wr.cell? ⟨w.heap.size,0,none⟩=some (.int .i64 0)/\wr.cell? ⟨w.heap.size,1,none⟩=some (.slice none 0 0)/\(∀q,wr.frozen? ⟨w.heap.size,q,none⟩=false)/\Below w.heap.size w wr/\w.heap.size<wr.heap.size) (fun _ i _=>p.ks.length - (intOf i).toNat)
 case atStart=>
  refine⟨0,[],[],Nat.zero_le _,rfl,⟨_,_,rfl⟩,(O6.empty' (by simp)).below hb1,fun q h=>by simp at h,cl8 hb1,cl8 hb1,fun q=>((bc8 hb1).2 _ q (by simp;try omega)).trans (by go_simp),bex,by omega⟩
 case round=>
  obtain⟨k,us,G,hk,rfl,⟨ay,cy,rfl⟩,hO,M1,r0,r1,rf,hb,hsz⟩:=hrel;have hzb:=hb.size;by_cases hlt:k<p.ks.length
  ·obtain⟨q,hq⟩:∃q,p.ks[k]?=some q:=⟨p.ks[k],by simp⟩;obtain⟨y,hy⟩:∃y,vals[k]?=some y:=⟨vals[k]'(by omega),by simp⟩;obtain⟨g,rfl,hgl,hcl⟩:=HC.out k y hy;have dc:=((bc8 hb).1 g k hgl).trans hcl;have hgr:g<wr.heap.size:=by omega
   have hkI:(k:Int)<vals.length:=by omega
   have hV1:=HI.out k q y wr hb hq hy;have HQ:Hid (p.ks[k]?=some q):=hq;have htl:((p.ks.take k).map (N7 V rs f)).length=k:=by simp;omega
   have HT:Hid ((p.ks.take (k+1)).map (N7 V rs f)=(p.ks.take k).map (N7 V rs f)++ [⟨wP8 rs f q,(mP8 V rs f q).2⟩]):=by
    obtain⟨hk',rfl⟩:=gE1 hq;show _=_;rw[List.take_succ_eq_append_getElem hk',List.map_append];rfl
   generalize(p.ks.take k).map (N7 V rs f)=bs at*;clear hq hy hcl;go_wp2_with fail;refine cM8 hV1 ?_;rintro z w2 ⟨hres,hb2⟩;have hz2:=hb2.size;have C0:Below w.heap.size w w2:=hb.trans (hb2.mono hzb);have r02:=((bc8 hb2).1 _ 0 hsz).trans r0;have r12:=((bc8 hb2).1 _ 1 hsz).trans r1;have rf2:∀q,w2.frozen? ⟨w.heap.size,q,none⟩=false:=fun q=>((bc8 hb2).2 _ q hsz).trans (rf q);have hs2:w.heap.size<w2.heap.size:=by omega
   clear hV1 r0 r1 rf dc;rcases hres with⟨h1,u2,us2,G2,rfl,hB2⟩|⟨h1,rfl⟩
   ·obtain⟨F2,hF2,hO2⟩:=hB2.rowsF;obtain⟨a4,c4,rfl⟩:=hB2.shape;have hOw:=hO.below hb2;have hol:=oL8 hO.own;have hGl:=hO.lt;have A0l:=hO2.2.1;have hl2:=hF2.lt;have B4v:∀q∈p.ks.take (k+1),(mP8 V rs f q).1=true:=fun q' hq'=>by
     obtain⟨hk',e⟩:=gE1 HQ.out;rw[List.take_succ_eq_append_getElem hk',e]at hq';rcases List.mem_append.1 hq' with hq'|hq'
     ·exact M1 q' hq'
     ·rw[List.mem_singleton.1 hq'];exact h1
    obtain rfl:k=bs.length:=htl.symm;have hbl:bs.length<=2:=by omega
    generalize wP8 rs f q=xW at*;generalize(mP8 V rs f q).2=xC at*;clear hb2 hB2 hO M1;go_wp2_with(at_builtin;refine wpList_append_own_at _ rfl _ _ 92 rfl (w.heap.size+1) 35 i0 _ 2 32 Tryz.underlying92 hi hz0 hz1 M6 rfl (by decide) _ _ _ rfl ((hOw.own.alloc _).alloc _) ⟨w2.heap.size+1,0,none⟩ 1 1 [.int .i64 xW,.slice a4 xC.length c4] rfl rfl ?c2 (by simp[Value.oneCell']) ?c3 ?c4 ?c5 ?_)
    case c2=>exact World.news_of_block (cs:=#[.int .i64 xW,.slice a4 xC.length c4]) (t:=35) (fr:=(0,0)) (by have:=heap_alloc_new (w2.alloc (.cells #[.int .i64 xW,.slice a4 xC.length c4] 35)) (.cells #[.int .i64 xW,.slice a4 xC.length c4] 35);simpa using this)
    case c3=>unfold maxLen;omega
    case c4=>omega
    case c5=>simp;omega
    intro v5 w5 D4 hgr5 _ hat5;have hz5:=hgr5.size;simp at hz5;have al2:Below w2.heap.size w2 ((w2.alloc (.cells #[.int .i64 xW,.slice a4 xC.length c4] 35)).alloc (.cells #[.int .i64 xW,.slice a4 xC.length c4] 35)):=((Below.refl _ _).alloc lr8 _).alloc (by simp) _;have hp:=O6.push (x:=⟨xW,xC⟩) (hOw.below al2) (hF2.below al2) ⟨hO2.1,fun b hb=>by have:=A0l b hb;omega,fun b hb q=>(fb8 (al2.block b (hl2 b hb))).trans (hO2.2.2 b hb q)⟩ (fun b hb hb'=>by have:=A0l b hb';have:=hGl b hb;omega) (fun b hb hb'=>by have:=A0l b hb';have:=(hol b hb).2;omega) D4 hgr5 (fun b hb=>by
     rcases hat5 with e|e
     ·left;rw[<-e];exact hb
     ·right;rw[e]at hb;cases hb;simp)
    have hs5:∃ao cap,v5=.slice ao (bs.length+1) cap:=by
     rcases D4.2 with⟨_,h0⟩|⟨g,cap,cur,hv,_⟩
     ·exact absurd h0 (by omega)
     ·exact⟨_,cap,hv⟩
    obtain⟨ao,cap,rfl⟩:=hs5;have A7i:(Value.slice ay bs.length cy).ownBlock≠some w.heap.size:=fun e=>by have:=(hol _ e).1;omega
    have k5:w5.heap[w.heap.size]?=w2.heap[w.heap.size]?:=(hgr5.block w.heap.size (by simp;omega) (fun e=>A7i e.symm)).trans (al2.block _ hs2);have r05:=(cb8 k5).trans r02;have r15:=(cb8 k5).trans r12;have rf5:∀q,w5.frozen? ⟨w.heap.size,q,none⟩=false:=fun q=>(fb8 k5).trans (rf2 q);have D7:Below w.heap.size w w5:=Below.grown (C0.trans (al2.mono C0.size)) hgr5 (by simp;omega) (fun t ht=>by have:=(hol t ht).1;omega);rw[<-HT.out]at hp;have A0V:w.heap.size<w5.heap.size:=by omega
    clear D4 hgr5 hat5 hOw hF2 hO2 k5 r02 r12 rf2 al2 HT;go_wp2_with fail;exact⟨⟨bs.length+1,_,_,hlt,by simp,⟨_,_,rfl⟩,hp,B4v,r05,r15,rf5,D7,A0V⟩,by simp[intOf];omega⟩
   ·have HF:Hid (r=false):=by
     show _=_;rw[HE.out,Bool.and_eq_false_iff];left;rw[List.all_eq_false];exact⟨q,mg8 HQ.out,by rw[h1];decide⟩
    clear hO hb2;go_wp2_with fail;refine bodyPost_ret (v:=.tuple #[.agg #[.int .i64 0,.slice none 0 0],.iface 104 (.agg #[.int .i64 2])]) (by simp[results,Tryz.results61,go_sem, *]) rfl ⟨.inr ⟨HF.out,rfl⟩,?_⟩;repeat (first|(with_reducible exact C0)|(with_reducible refine Below.setCell ?_ ?hh _;case hh=>(simp;try omega))|(with_reducible refine Below.alloc ?_ ?hh _;case hh=>(simp;try omega)))
  ·obtain rfl:k=p.ks.length:=by omega
   rw[List.take_length]at hO M1;have hOv:=HOv.out wr _ us G _ hb M1 hO (by omega);have hwf:=B9a.out M1;have HF:Hid (r=J2 (wP8 rs (f+1) p) (mP8 V rs (f+1) p).2):=by
    show _=_;rw[HE.out,List.all_eq_true.2 M1,Bool.true_and]
   rw[HRW.out,HRC.out]at hOv;rw[HRC.out]at hwf;have HF:Hid (r=J2 RW RC):=by show _=_;rw[HF.out,HRW.out,HRC.out]
   clear hO HI HC;go_wp2_with fail;refine cM8 hOv ?_;rintro z w2 ⟨⟨u,l,us',G',rfl,hB2,hl⟩,hb2⟩;have hz2:=hb2.size;have C0:Below w.heap.size w w2:=hb.trans (hb2.mono hzb);have hwl:X7 l:=by
    rcases hl with rfl|⟨_,t',e⟩
    ·exact hwf
    ·intro c hc;exact hwf c (by rw[e];exact List.mem_append_left _ hc)
   have HL:Hid (J2 RW l=J2 RW RC/\(J2 RW l=true->l=RC)):=by
    rcases hl with rfl|⟨h4,t',e⟩
    ·exact⟨rfl,fun _=>rfl⟩
    ·have h5:=A80 (W:=RW) h4;have h6:J2 RW RC=false:=A80 (by rw[e,List.length_append];omega);exact⟨by rw[h5,h6],fun h=>by rw[h5]at h;cases h⟩
   obtain⟨F2,hF2,_⟩:=hB2.rowsF;obtain⟨a4,c4,rfl⟩:=hB2.shape;have r02:=((bc8 hb2).1 _ 0 hsz).trans r0;have r12:=((bc8 hb2).1 _ 1 hsz).trans r1;have rf2:∀q,w2.frozen? ⟨w.heap.size,q,none⟩=false:=fun q=>((bc8 hb2).2 _ q hsz).trans (rf q);have hs2:w.heap.size<w2.heap.size:=by omega
   have hBo:=fun(X:World) (hX:Below w2.heap.size w2 X)=>A8v RW _ l X hwl ((hF2.below hX).is);obtain⟨bo,HBO⟩:∃q,Hid (J2 RW l=q):=⟨_,rfl⟩;rw[HBO.out]at hBo;clear hOv hb2 r0 r1 rf hF2 hl;go_wp2_with fail;refine cM8 (hBo _ bex) ?_;rintro z w3 ⟨rfl,hb3⟩;have hz3:=hb3.size;simp at hz3;have A3b:Below w2.heap.size w2 w3:=bex;have D6:Below w.heap.size w w3:=C0.trans (A3b.mono C0.size);have t0:w3.cell? ⟨w2.heap.size,0,none⟩=some (.int .i64 RW):=cl8 hb3;have t1:w3.cell? ⟨w2.heap.size,1,none⟩=some (.slice a4 l.length c4):=cl8 hb3;have r03:=((bc8 A3b).1 w.heap.size 0 hs2).trans r02;have r13:=((bc8 A3b).1 w.heap.size 1 hs2).trans r12;have rf3:∀q,w3.frozen? ⟨w.heap.size,q,none⟩=false:=fun q=>((bc8 A3b).2 _ q hs2).trans (rf2 q);have hB3:=hB2.below A3b;clear hBo hb3 r02 r12 rf2 hB2;cases bo with
   |false=>
    have HG:Hid (r=false):=by show _=_;rw[HF.out,<-HL.out.1,HBO.out]
    clear hB3;go_wp2_with fail;refine bodyPost_ret (v:=.tuple #[.agg #[.int .i64 0,.slice none 0 0],.iface 104 (.agg #[.int .i64 2])]) (by simp[results,Tryz.results61,go_sem, *]) rfl ⟨.inr ⟨HG.out,rfl⟩,?_⟩;exact bs8
   |true=>
    have HG:Hid (r=true):=by show _=_;rw[HF.out,<-HL.out.1,HBO.out]
    have HLR:Hid (l=RC):=HL.out.2 HBO.out;go_wp2_with fail;refine bodyPost_ret (v:=.tuple #[.agg #[.int .i64 RW,.slice a4 l.length c4],.nilIface]) (by simp[results,Tryz.results61,go_sem, *]) rfl ⟨.inl ⟨HG.out,_,us',G',rfl,?_⟩,?_⟩
    ·rw[<-HLR.out];refine(hB3.keep (by simp) fun b hb _=>?_).weak (by omega);repeat rw[bS8 _ _ _ _ (by simp;omega)]
    ·exact bs8
theorem A8U {m:Int}{V:E7->List V3->V3}(hV:VOk m V){W0:World}{rs:List R3}(hdb:G9 rs=true)(hrw:W7 rs):∀f,MeS m V W0 rs f
 |0=>fun p v D w h=>h.elim
 |f+1=>C1J hV hdb hrw (A8U hV hdb hrw f)
def AnO (V:E7->List V3->V3)(rs:List R3)(p:P12)(N:Nat)(x:Ending)(w':World):Prop:=
 (G9 rs=false/\x=.returned (.tuple #[.agg #[.int .i64 0,.slice none 0 0],.iface 104 (.agg #[.int .i64 0])]))\/
 (G9 rs=true/\wP8 rs 9 p<0/\x=.returned (.tuple #[.agg #[.int .i64 0,.slice none 0 0],.iface 104 (.agg #[.int .i64 1])]))\/
 (G9 rs=true/\0<=wP8 rs 9 p/\(mP8 V rs 9 p).1=false/\x=.returned (.tuple #[.agg #[.int .i64 0,.slice none 0 0],.iface 104 (.agg #[.int .i64 2])]))\/
 (G9 rs=true/\0<=wP8 rs 9 p/\(mP8 V rs 9 p).1=true/\∃u us G,x=.returned (.tuple #[.agg #[.int .i64 (wP8 rs 9 p),u],.nilIface])/\C4 w' N u (mP8 V rs 9 p).2 us G)
theorem B5U {m:Int}{V:E7->List V3->V3}(hV:VOk m V)(rs:List R3)(p:P12)(ue us u:Value)(g:List Nat)(D d N:Nat)(vd:Value)(Fd:List Nat)(w:World)(hw:p.wf)(hL:H3 w D (E2 w D d) p ue us u g)(ho:Own w N g)(hn:wtP p<=1048576)(hR:H8 w vd rs Fd)(hrw:W7 rs)(hm:w.cell? ⟨1,0,none⟩=some (.int .i64 m)):Calls Tryz.prog 29 #[vd,(.agg #[.int .i64 p.k,.string p.s,.int .i64 p.e.k,.int .i64 p.e.n,.int .i64 p.e.v.k,.int .i64 p.e.v.n,.string p.e.v.s,.string p.e.p,ue,us,.int .i64 p.n,u])] w fun x w'=>AnO V rs p w.heap.size x w'/\Below w.heap.size w w':=by
 have hP:A0P 9 p:=A4l 9 p w D d ue us u g hw hL hn;have h00:1<w.heap.size:=bl8 _ _ hm;have hRd:=fun(hdb:G9 rs=true) (X:World) (hX:Below w.heap.size w X)=>A5d hdb hR 9 p ue us u g D d N 0 X hX hw hL ho hn (by omega) (by omega);have hMe:=fun(hdb:G9 rs=true) (v:Value) (D:Nat->Prop) (X:World) (hX:Below w.heap.size w X) (hRt:i6 w rs 9 D X v p) (hD:∀b,D b->b<X.heap.size) (hW:0<=wP8 rs 9 p)=>A8U hV hdb hrw 9 p v D X hRt hD hX (((bc8 hX).1 1 0 h00).trans hm) hP hW;obtain⟨a1,c1,a2,c2,a3,c3,rfl,rfl,rfl,_,_,_,_,_,_⟩:=hL.shape;obtain⟨ad,ld,cd,rfl⟩:=hR.is.shape;have hDb:=fun(w2:World) (hb:Below w.heap.size w w2)=>B2c (.slice ad ld cd) rs w2 hrw (hR.is.below hb);have hB:=X2 w p (.slice a1 p.e.ks.length c1) (.slice a2 p.es.length c2) (.slice a3 p.ks.length c3) 45;obtain⟨bo,HBO⟩:∃q,Hid (G9 rs=q):=⟨_,rfl⟩;rw[HBO.out]at hDb;have HRd:Hid (bo=true->∀ (X:World),Below w.heap.size w X->_):=fun h=>hRd (HBO.out.trans h);have HMe:Hid (bo=true->∀ (v:Value) (D:Nat->Prop) (X:World),Below w.heap.size w X->i6 w rs 9 D X v p->(∀b,D b->b<X.heap.size)->0<=wP8 rs 9 p->_):=fun h=>hMe (HBO.out.trans h);clear hL hR hP hRd hMe ho;go_enter Tryz.func29,Tryz.ntmps29;go_wp2_with fail;refine cM8 (hDb _ bex) ?_;rintro z w1 ⟨rfl,hb1⟩;have hz1:=hb1.size;(try simp at hz1);have hB0:BxP w1 w.heap.size p (.slice a1 p.e.ks.length c1) (.slice a2 p.es.length c2) (.slice a3 p.ks.length c3):=(hB.below ((Below.refl _ _).alloc lr8 _)).below hb1;have r0:w1.cell? ⟨w.heap.size+1,0,none⟩=some (.int .i64 0):=cl8 hb1
 have r1:w1.cell? ⟨w.heap.size+1,1,none⟩=some (.slice none 0 0):=cl8 hb1;have rf:∀q,w1.frozen? ⟨w.heap.size+1,q,none⟩=false:=fun q=>((bc8 hb1).2 _ q (by simp;try omega)).trans (by go_simp);have F8:Below w.heap.size w w1:=bex;clear hDb hb1 hB;cases bo with
 |false=>
  clear HRd HMe;go_wp2_with fail;refine bodyPost_ret (v:=.tuple #[.agg #[.int .i64 0,.slice none 0 0],.iface 104 (.agg #[.int .i64 0])]) (by simp[results,Tryz.results29,go_sem, *]) rfl ⟨.inl ⟨HBO.out,rfl⟩,?_⟩;exact bs8
 |true=>
  have A9F:=HRd.out rfl w1 F8;obtain⟨_,b0,b1,b2,b3,b4,b5,b6,b7,b8,b9,b10,b11⟩:=id hB0;clear HRd;go_wp2_with fail;refine cM8 A9F ?_;rintro z w2 ⟨hres,hb2⟩;have hz2:=hb2.size;have C0:Below w.heap.size w w2:=F8.trans (hb2.mono F8.size);have hs1:w.heap.size+1<w1.heap.size:=by omega
  have hs2:w.heap.size+1<w2.heap.size:=by omega
  have r02:=((bc8 hb2).1 _ 0 hs1).trans r0;have r12:=((bc8 hb2).1 _ 1 hs1).trans r1;have rf2:∀q,w2.frozen? ⟨w.heap.size+1,q,none⟩=false:=fun q=>((bc8 hb2).2 _ q hs1).trans (rf q);clear A9F hB0 b0 b1 b2 b3 b4 b5 b6 b7 b8 b9 b10 b11 r0 r1 rf;rcases hres with⟨hW,v,rfl,hRt⟩|⟨hW,rfl⟩
  ·have B01:=HMe.out (by first|rfl|trivial) v _ w2 C0 hRt (fun b hb=>hb.2) hW;clear HMe hRt;go_wp2_with fail;refine cM8 B01 ?_;rintro z w3 ⟨hres,hb3⟩;have hz3:=hb3.size;have D6:Below w.heap.size w w3:=C0.trans (hb3.mono C0.size);have r03:=((bc8 hb3).1 _ 0 hs2).trans r02;have r13:=((bc8 hb3).1 _ 1 hs2).trans r12;have rf3:∀q,w3.frozen? ⟨w.heap.size+1,q,none⟩=false:=fun q=>((bc8 hb3).2 _ q hs2).trans (rf2 q);clear B01 hb3 r02 r12 rf2;rcases hres with⟨h1,u3,us3,G3,rfl,hB3⟩|⟨h1,rfl⟩
   ·obtain⟨a4,c4,rfl⟩:=hB3.shape;go_wp2_with fail;refine bodyPost_ret (v:=.tuple #[.agg #[.int .i64 (wP8 rs 9 p),.slice a4 (mP8 V rs 9 p).2.length c4],.nilIface]) (by simp[results,Tryz.results29,go_sem, *]) rfl ⟨.inr (.inr (.inr ⟨HBO.out,hW,h1,_,us3,G3,rfl,(hB3.keep (by simp) fun b hb _=>?_).weak (by omega)⟩)),?_⟩
    ·repeat rw[bS8 _ _ _ _ (by simp;omega)]
    ·exact bs8
   ·go_wp2_with fail;refine bodyPost_ret (v:=.tuple #[.agg #[.int .i64 0,.slice none 0 0],.iface 104 (.agg #[.int .i64 2])]) (by simp[results,Tryz.results29,go_sem, *]) rfl ⟨.inr (.inr (.inl ⟨HBO.out,hW,h1,rfl⟩)),?_⟩;exact bs8
  ·clear HMe;go_wp2_with fail;refine bodyPost_ret (v:=.tuple #[.agg #[.int .i64 0,.slice none 0 0],.iface 104 (.agg #[.int .i64 1])]) (by simp[results,Tryz.results29,go_sem, *]) rfl ⟨.inr (.inl ⟨HBO.out,hW,rfl⟩),?_⟩;exact bs8
theorem A9C {m:Int}{V:E7->List V3->V3}(hV:VOk m V)(rs:List R3)(p:P12)(ue us u:Value)(g:List Nat)(D d N:Nat)(vd:Value)(Fd:List Nat)(w:World)(hw:p.wf)(hL:H3 w D (E2 w D d) p ue us u g)(ho:Own w N g)(hn:wtP p<=1048576)(hR:H8 w vd rs Fd)(hrw:W7 rs)(hm:w.cell? ⟨1,0,none⟩=some (.int .i64 m))(hE:o6 w):Calls Tryz.prog 9 #[vd,(.agg #[.int .i64 p.k,.string p.s,.int .i64 p.e.k,.int .i64 p.e.n,.int .i64 p.e.v.k,.int .i64 p.e.v.n,.string p.e.v.s,.string p.e.p,ue,us,.int .i64 p.n,u])] w fun x w'=>(∃v F,x=.returned (.agg #[.int .i64 (J4 rs p),v])/\C6 w' v (M3 V rs p) F/\D5 w' w.heap.size F)/\Below w.heap.size w w':=by
 have h00:1<w.heap.size:=bl8 _ _ hm;have hA:=fun(X:World) (hX:Below w.heap.size w X)=>B5U hV rs p ue us u g D d N vd Fd X hw (hL.below hX) (ho.below hL.lt hX) hn (hR.below hX) hrw (((bc8 hX).1 1 0 h00).trans hm);have HWi:Hid (∀ (X:World) (hX:Below w.heap.size w X) (hdb:G9 rs=true),_):=fun X hX hdb=>B4t rs p ue us u g D d N vd Fd w X hX hdb hw hL ho hn hR hE;have hE':=fun(X:World) (hX:Below w.heap.size w X)=>hE.below hX;obtain⟨a1,c1,a2,c2,a3,c3,rfl,rfl,rfl,_,_,_,_,_,_⟩:=hL.shape;obtain⟨ad,ld,cd,rfl⟩:=hR.is.shape;have hB:=(X2 w p (.slice a1 p.e.ks.length c1) (.slice a2 p.es.length c2) (.slice a3 p.ks.length c3) 45).below ((Below.refl _ _).alloc lr8 (.cells #[.int .i64 0,.slice none 0 0] 35));clear hL hR ho;go_enter Tryz.func9,Tryz.ntmps9;go_wp2_with fail;refine cM8 (hA _ bex) ?_;rintro z w1 ⟨hres,hb1⟩;have hz1:=hb1.size;(try simp at hz1);have hB1:=hB.below hb1;have F8:Below w.heap.size w w1:=bex;have r0:w1.cell? ⟨w.heap.size+1,0,none⟩=some (.int .i64 0):=cl8 hb1;have r1:w1.cell? ⟨w.heap.size+1,1,none⟩=some (.slice none 0 0):=cl8 hb1;have rf:∀q,w1.frozen? ⟨w.heap.size+1,q,none⟩=false:=fun q=>((bc8 hb1).2 _ q (by simp)).trans (by go_simp);have hy1:w.heap.size+1<w1.heap.size:=by omega
 have hE1:=hE' w1 F8;clear hA hb1 hB hE';rcases hres with⟨h1,rfl⟩|⟨h1,h2,rfl⟩|⟨h1,h2,h3,rfl⟩|⟨h1,h2,h3,u3,us3,G3,rfl,hB3⟩
 ·have HN:Hid (J4 rs p=0/\M3 V rs p=[]):=A4a (fun h=>by rw[h1]at h;exact absurd h.1 (by simp));clear HWi hB1 h1;go_wp2_with fail;refine cM8 (A38 0 2 _ (hE1.below ((Below.refl _ _).alloc lr8 _))) ?_;rintro z w2 ⟨rfl,hb2⟩;have s0:w2.cell? ⟨w1.heap.size,0,none⟩=some (.int .i64 0):=cl8 hb2;have s1:w2.cell? ⟨w1.heap.size,1,none⟩=some (.slice none 0 0):=cl8 hb2;have q0:w2.cell? ⟨w.heap.size+1,0,none⟩=some (.int .i64 0):=cl8 hb2;have q1:w2.cell? ⟨w.heap.size+1,1,none⟩=some (.slice none 0 0):=cl8 hb2;have qf:∀q,w2.frozen? ⟨w.heap.size+1,q,none⟩=false:=fun q=>((bc8 hb2).2 _ q (by simp;omega)).trans (by go_simp);have C0:Below w.heap.size w w2:=bex;go_wp2;refine bodyPost_ret (v:=.agg #[.int .i64 0,.slice none 0 0]) (by simp[results,Tryz.results9,go_sem, *]) rfl ⟨⟨.slice none 0 0,[],by rw[HN.out.1],by rw[HN.out.2];exact A2z _,by simp[D5,N9]⟩,?_⟩;exact bs8
 ·have HN:Hid (J4 rs p=0/\M3 V rs p=[]):=A4a (fun h=>by have:=h.2;omega);clear HWi hB1 h1 h2;go_wp2_with fail;refine cM8 (A38 1 2 _ (hE1.below ((Below.refl _ _).alloc lr8 _))) ?_;rintro z w2 ⟨rfl,hb2⟩;have s0:w2.cell? ⟨w1.heap.size,0,none⟩=some (.int .i64 0):=cl8 hb2;have s1:w2.cell? ⟨w1.heap.size,1,none⟩=some (.slice none 0 0):=cl8 hb2;have q0:w2.cell? ⟨w.heap.size+1,0,none⟩=some (.int .i64 0):=cl8 hb2;have q1:w2.cell? ⟨w.heap.size+1,1,none⟩=some (.slice none 0 0):=cl8 hb2;have qf:∀q,w2.frozen? ⟨w.heap.size+1,q,none⟩=false:=fun q=>((bc8 hb2).2 _ q (by simp;omega)).trans (by go_simp);have C0:Below w.heap.size w w2:=bex;go_wp2;refine bodyPost_ret (v:=.agg #[.int .i64 0,.slice none 0 0]) (by simp[results,Tryz.results9,go_sem, *]) rfl ⟨⟨.slice none 0 0,[],by rw[HN.out.1],by rw[HN.out.2];exact A2z _,by simp[D5,N9]⟩,?_⟩;exact bs8
 ·have HN:Hid (J4 rs p=wP8 rs 9 p/\M3 V rs p=[]):=B1l h1 h2 h3;have hWi:=fun X hX=>HWi.out X hX h1;obtain⟨W,HW⟩:=U9 (wP8 rs 9 p);rw[HW.out]at hWi h2;clear HWi h1 h3;go_wp2_with fail;refine cM8 (A38 2 2 _ (hE1.below ((Below.refl _ _).alloc lr8 _))) ?_;rintro z w2 ⟨rfl,hb2⟩;have q0:w2.cell? ⟨w.heap.size+1,0,none⟩=some (.int .i64 0):=cl8 hb2;have q1:w2.cell? ⟨w.heap.size+1,1,none⟩=some (.slice none 0 0):=cl8 hb2;have qf:∀q,w2.frozen? ⟨w.heap.size+1,q,none⟩=false:=fun q=>((bc8 hb2).2 _ q (by simp;omega)).trans (by go_simp);have C0:Below w.heap.size w w2:=bex;have hz2:=hb2.size;(try simp at hz2);obtain⟨_,b0,b1,b2,b3,b4,b5,b6,b7,b8,b9,b10,b11⟩:=(hB1.below ((Below.refl _ _).alloc lr8 _)).below hb2;clear r0 r1 rf hB1 hb2;go_wp2_with fail;refine cM8 (hWi _ C0) ?_;rintro z w3 ⟨⟨y,rfl,hy,_⟩,hb3⟩;obtain rfl:=hy h2;have t0:w3.cell? ⟨w.heap.size+1,0,none⟩=some (.int .i64 0):=cl8 hb3;have t1:w3.cell? ⟨w.heap.size+1,1,none⟩=some (.slice none 0 0):=cl8 hb3;have tf:∀q,w3.frozen? ⟨w.heap.size+1,q,none⟩=false:=fun q=>((bc8 hb3).2 _ q (by omega)).trans (qf q);have D6:Below w.heap.size w w3:=C0.trans (hb3.mono C0.size);clear hWi b0 b1 b2 b3 b4 b5 b6 b7 b8 b9 b10 b11;go_wp2;refine bodyPost_ret (v:=.agg #[.int .i64 y,.slice none 0 0]) (by simp[results,Tryz.results9,go_sem, *]) rfl ⟨⟨.slice none 0 0,[],by rw[HN.out.1,HW.out],by rw[HN.out.2];exact A2z _,by simp[D5,N9]⟩,?_⟩;exact bs8
 ·have HN:Hid (J4 rs p=wP8 rs 9 p/\M3 V rs p=(mP8 V rs 9 p).2):=A8g h1 h2 h3;obtain⟨a5,c5,rfl⟩:=hB3.shape;obtain⟨W,HW⟩:=U9 (wP8 rs 9 p);rw[HW.out];obtain⟨F3,hF3,hO3⟩:=hB3.rowsF;have A59:∀b∈F3,w.heap.size+1+1<=b:=fun b hb=>by have:=hO3.2.1 b hb;simpa using this
  clear HWi hB1 h1 h3 hB3 h2;generalize(mP8 V rs 9 p).2=RC at*;go_wp2_with fail;refine cM8 (B2M 2 _) ?_;rintro z w2 ⟨rfl,hb2⟩;have s0:w2.cell? ⟨w1.heap.size,0,none⟩=some (.int .i64 W):=cl8 hb2;have s1:w2.cell? ⟨w1.heap.size,1,none⟩=some (.slice a5 RC.length c5):=cl8 hb2;have q0:w2.cell? ⟨w.heap.size+1,0,none⟩=some (.int .i64 0):=cl8 hb2;have q1:w2.cell? ⟨w.heap.size+1,1,none⟩=some (.slice none 0 0):=cl8 hb2;have qf:∀q,w2.frozen? ⟨w.heap.size+1,q,none⟩=false:=fun q=>((bc8 hb2).2 _ q (by simp;omega)).trans (by go_simp);have hF4:=(hF3.below ((Below.refl _ _).alloc lr8 _)).below hb2;have hO4:=(hO3.below hF3.lt ((Below.refl _ _).alloc lr8 _)).below (hF3.below ((Below.refl _ _).alloc lr8 _)).lt hb2;have C0:Below w.heap.size w w2:=bex;clear hF3 hO3 hb2;go_wp2;refine bodyPost_ret (v:=.agg #[.int .i64 W,.slice a5 RC.length c5]) (by simp[results,Tryz.results9,go_sem, *]) rfl ⟨⟨.slice a5 RC.length c5,F3,by rw[HN.out.1,HW.out],?_,?_⟩,?_⟩
  ·rw[HN.out.2];refine hF4.keep (by simp) fun b hb=>?_;have:=A59 b hb;repeat rw[bS8 _ _ _ _ (by simp;try omega)]
  ·refine D5.keep (w:=w2) ⟨hO4.1,fun b hb=>by have:=A59 b hb;omega,hO4.2.2⟩ fun b hb=>?_;have:=A59 b hb;repeat rw[bS8 _ _ _ _ (by simp;try omega)]
  ·exact bs8
end
section
open Go Go.RowKit
section
variable {P:Program} {ops:Array Oper} {Q:Exit->Act->World->Prop} {md:Region.Mode} {S:World->Prop}
def A1O (md:Region.Mode)(ops:Array Oper)(E:List Nat)(L0:Array Bool):Bool:=
 L0.size==ops.size &&
 ((E.all fun i=>decide (i<ops.size) &&L0.getD i true==false) &&
 ((E.all fun i=>match ops[i]? with
  |some o=>o.after.toList.all fun e=> !(Region.binds md e)||(L0.getD e.on false||(E.contains e.on &&decide (e.on<i)))
  |none=>false) &&
 ((List.range ops.size).all fun i=>E.contains i||(L0.getD i true||match ops[i]? with
  |some o=>(o.after.toList.any fun e=>Region.binds md e && (!(E.contains e.on) &&L0.getD e.on true==false))||E.all fun x=>o.after.toList.any fun e=>Region.binds md e && (e.on==x||(E.contains e.on &&match ops[e.on]? with
   |some o'=>o'.after.toList.any fun e'=>Region.binds md e' &&e'.on==x
   |none=>false))
  |none=>false))))
def A1d (E:List Nat)(L0 listed:Array Bool):Prop:=listed.size=L0.size/\∀j,j∉E->listed.getD j true=L0.getD j true
def A3Y (md:Region.Mode)(ops:Array Oper)(E:List Nat)(listed:Array Bool):Prop:=∀y∈E,∀o,ops[y]?=some o->listed.getD y true=true->∀e∈o.after,Region.binds md e=true->listed.getD e.on false=true
theorem A0A {L:Array Bool}{j:Nat}:L.getD j false=true↔j<L.size/\L.getD j true=true:=by
 by_cases h:j<L.size<;>simp[Array.getD,h]
theorem C1s {E:List Nat}{L0 listed:Array Bool}(h:A1O md ops E L0=true)(hl:A1d E L0 listed)(hcl:A3Y md ops E listed){i x:Nat}(hi:i∈Region.ready md ops listed)(hx:x∈E)(hxo:listed.getD x true=false):i∈E:=by
 unfold A1O at h;simp only[Bool.and_eq_true]at h;obtain⟨h0,h1,h2,h3⟩:=h;obtain⟨hu,o,ho,M1⟩:=mem_ready.1 hi;have hlt:i<ops.size:=(Array.getElem?_eq_some_iff.1 ho).1;have h3i:=List.all_eq_true.1 h3 i (List.mem_range.2 hlt);by_cases hE:i∈E
 ·exact hE
 exfalso;rw[hl.2 i hE]at hu;have hc:E.contains i=false:=by simpa using hE
 rw[hc,hu,ho]at h3i;simp only[Bool.false_or]at h3i;rw[Bool.or_eq_true]at h3i;rcases h3i with h3i|h3i
 ·obtain⟨e,he,hb⟩:=List.any_eq_true.1 h3i;rw[Bool.and_eq_true,Bool.and_eq_true]at hb;have hne:e.on∉E:=by simpa using hb.2.1
  have h5:=(A0A.1 (M1 e (by simpa using he) hb.1)).2;rw[hl.2 _ hne]at h5;have h6:L0.getD e.on true=false:=by simpa using hb.2.2
  rw[h5]at h6;cases h6
 have h4:=List.all_eq_true.1 h3i x hx;obtain⟨e,he,hb⟩:=List.any_eq_true.1 h4;rw[Bool.and_eq_true,Bool.or_eq_true]at hb;have h5:=M1 e (by simpa using he) hb.1;rcases hb.2 with hb2|hb2
 ·rw[beq_iff_eq]at hb2;rw[hb2]at h5;rw[(A0A.1 h5).2]at hxo;cases hxo
 ·rw[Bool.and_eq_true]at hb2;have hin:e.on∈E:=by simpa using hb2.1
  cases ho':ops[e.on]? with
  |none=>rw[ho']at hb2;cases hb2.2
  |some o'=>
   rw[ho']at hb2;obtain⟨e',he',hb'⟩:=List.any_eq_true.1 hb2.2;simp only[Bool.and_eq_true,beq_iff_eq]at hb';have h6:=hcl e.on hin o' ho' (A0A.1 h5).2 e' (by simpa using he') hb'.1;rw[hb'.2]at h6;rw[(A0A.1 h6).2]at hxo;cases hxo
theorem B5o {E:List Nat}{L0 listed:Array Bool}(h:A1O md ops E L0=true)(hl:A1d E L0 listed):∀ (n x:Nat),x<=n->x∈E->listed.getD x true=false->Region.ready md ops listed≠ []:=by
 unfold A1O at h;simp only[Bool.and_eq_true]at h;obtain⟨h0,h1,h2,h3⟩:=h;intro n;induction n with
 |zero=>
  intro x hn hx hxo;have h2x:=List.all_eq_true.1 h2 x hx;cases ho:ops[x]? with
  |none=>rw[ho]at h2x;cases h2x
  |some o=>
   rw[ho]at h2x;have:x∈Region.ready md ops listed:=by
    refine mem_ready.2 ⟨hxo,o,ho,fun e he hb=>?_⟩;have h5:=List.all_eq_true.1 h2x e (by simpa using he);simp only[hb,Bool.not_true,Bool.false_or,Bool.or_eq_true,Bool.and_eq_true,decide_eq_true_eq]at h5;rcases h5 with h5|h5
    ·have hne:e.on∉E:=fun hin=>by
      have:=List.all_eq_true.1 h1 _ hin;simp only[Bool.and_eq_true,decide_eq_true_eq,beq_iff_eq]at this;rw[(A0A.1 h5).2]at this;cases this.2
     have h6:=A0A.1 h5;exact A0A.2 ⟨by rw[hl.1];exact h6.1,by rw[hl.2 _ hne];exact h6.2⟩
    ·omega
   intro e;rw[e]at this;cases this
 |succ n ih=>
  intro x hn hx hxo;have h2x:=List.all_eq_true.1 h2 x hx;cases ho:ops[x]? with
  |none=>rw[ho]at h2x;cases h2x
  |some o=>
   rw[ho]at h2x;by_cases hd:∃y,y<x/\y∈E/\listed.getD y true=false
   ·obtain⟨y,hy,hyE,hyo⟩:=hd;exact ih y (by omega) hyE hyo
   have:x∈Region.ready md ops listed:=by
    refine mem_ready.2 ⟨hxo,o,ho,fun e he hb=>?_⟩;have h5:=List.all_eq_true.1 h2x e (by simpa using he);simp only[hb,Bool.not_true,Bool.false_or,Bool.or_eq_true,Bool.and_eq_true,decide_eq_true_eq]at h5;rcases h5 with h5|h5
    ·have hne:e.on∉E:=fun hin=>by
      have:=List.all_eq_true.1 h1 _ hin;simp only[Bool.and_eq_true,decide_eq_true_eq,beq_iff_eq]at this;rw[(A0A.1 h5).2]at this;cases this.2
     have h6:=A0A.1 h5;exact A0A.2 ⟨by rw[hl.1];exact h6.1,by rw[hl.2 _ hne];exact h6.2⟩
    ·have hin:e.on∈E:=by simpa using h5.1
     have hlt:e.on<listed.size:=by
      have:=List.all_eq_true.1 h1 _ hin;simp only[Bool.and_eq_true,decide_eq_true_eq,beq_iff_eq]at this;have h00:L0.size=ops.size:=by simpa using h0
      rw[hl.1,h00];exact this.1
     cases hv:listed.getD e.on true with
     |false=>exact absurd ⟨e.on,h5.2,hin,hv⟩ hd
     |true=>exact A0A.2 ⟨hlt,hv⟩
   intro e;rw[e]at this;cases this
theorem A1d.set {E:List Nat}{L0 listed:Array Bool}(h:A1d E L0 listed){i:Nat}(hi:i∈E):A1d E L0 (listed.setIfInBounds i true):=
 ⟨by simpa using h.1,fun j hj=>by
  have hne:i≠j:=fun e=>hj (by rw[<-e];exact hi);rw[getD_set_ne true hne];exact h.2 j hj⟩
theorem A3Y.set {E:List Nat}{listed:Array Bool}(h:A3Y md ops E listed){i:Nat}(hi:i∈Region.ready md ops listed):A3Y md ops E (listed.setIfInBounds i true):=by
 intro y hy o ho hly e he hb;refine getD_set_true ?_;by_cases e1:i=y
 ·subst e1;obtain⟨_,o',ho',M1⟩:=mem_ready.1 hi;obtain rfl:o=o':=by rw[ho]at ho';exact Option.some.inj ho'
  exact M1 e he hb
 ·rw[getD_set_ne true e1]at hly;exact h y hy o ho hly e he hb
def A1S (listed:Array Bool)(E:List Nat):Nat:=E.countP fun i=>listed.getD i true==false
theorem B5v {listed:Array Bool}{E:List Nat}(h:A1S listed E=0){x:Nat}(hx:x∈E):listed.getD x true=true:=by
 have:=List.countP_eq_zero.1 h x hx;cases hv:listed.getD x true<;>simp_all
theorem B33 {listed:Array Bool}{E:List Nat}(h:A1S listed E≠0):∃x∈E,listed.getD x true=false:=by
 have:=List.countP_pos_iff.1 (Nat.pos_of_ne_zero h);obtain⟨x,hx,hv⟩:=this;exact⟨x,hx,by simpa using hv⟩
theorem C0k {listed:Array Bool}{E:List Nat}(hE:E.Nodup){i:Nat}(hi:i∈E)(ho:listed.getD i true=false):A1S listed E=A1S (listed.setIfInBounds i true) E+1:=by
 unfold A1S;induction E with
 |nil=>cases hi
 |cons a l ih=>
  have hd:=List.nodup_cons.1 hE;rw[List.countP_cons,List.countP_cons];by_cases e:a=i
  ·subst e;have h1:List.countP (fun i=>listed.getD i true==false) l=List.countP (fun i=>(listed.setIfInBounds a true).getD i true==false) l:=by
    refine List.countP_congr fun x hx=>?_;have:a≠x:=fun e=>hd.1 (e▸hx);rw[getD_set_ne true this]
   have h2:(listed.setIfInBounds a true).getD a true=true:=by
    by_cases hlt:a<listed.size<;>simp[Array.getD,hlt]
   rw[h1,h2,ho];simp
  ·have hil:i∈l:=by
    rcases List.mem_cons.1 hi with h|h
    ·exact absurd h.symm e
    ·exact h
   rw[ih hd.2 hil,getD_set_ne true (fun h=>e h.symm)];omega
theorem C2o {E:List Nat}{L0:Array Bool}{f0:Nat}(I:Array Bool->Act->World->Prop)(hok:A1O md ops E L0=true)(hE:E.Nodup)(step:∀listed a w i,A1d E L0 listed->I listed a w->i∈E->listed.getD i true=false->i∈Region.ready md ops listed->wpOp P ops Q i (fun a' w'=>S w'/\I (listed.setIfInBounds i true) a' w') a w)(fin:∀listed a w,A1d E L0 listed->(∀x∈E,listed.getD x true=true)->I listed a w->wpAnyH P md ops Q S f0 listed a w):∀ (k:Nat) (listed:Array Bool) (a:Act) (w:World),A1d E L0 listed->A3Y md ops E listed->I listed a w->A1S listed E=k->wpAnyH P md ops Q S (f0+k) listed a w:=by
 intro k;induction k with
 |zero=>intro listed a w hl _ hI ho;exact fin listed a w hl (fun x hx=>B5v ho hx) hI
 |succ k ih=>
  intro listed a w hl hcl hI ho;obtain⟨x,hx,hxo⟩:=B33 (show A1S listed E≠0 by omega);refine⟨fun h0=>absurd h0 (B5o hok hl x x lr8 hx hxo),fun i hi=>?_⟩;have hiE:=C1s hok hl hcl hi hx hxo;have hio:=(mem_ready.1 hi).1;refine wpOp_mono ?_ (step listed a w i hl hI hiE hio hi);rintro a' w' ⟨hS,hI'⟩;exact⟨hS,ih _ a' w' (hl.set hiE) (hcl.set hi) hI' (by have:=C0k hE hiE hio;omega)⟩
theorem B2o (x:Array Value):∀ (ps:List (Nat×Value)) (t:Array Value),t.size=x.size->(∀j,j∉ps.map (·.1)->t.getD j undef=x.getD j undef)->(∀p∈ps,x.getD p.1 undef=p.2)->
  ps.foldl (fun t p=>t.setIfInBounds p.1 p.2) t=x:=by
 intro ps;induction ps with
 |nil=>
  intro t hs hj _;refine Array.ext hs fun i h1 h2=>?_;have:=hj i (by simp);have h1':i<t.size:=h1;rw[Array.getD,Array.getD,dif_pos h1',dif_pos h2]at this;exact this
 |cons p ps ih=>
  intro t hs hj hp;refine ih _ (by simpa using hs) (fun j hjn=>?_) (fun q hq=>hp q (List.mem_cons_of_mem _ hq));by_cases e:p.1=j
  ·subst e;have:=hp p List.mem_cons_self;by_cases hlt:p.1<t.size
   ·rw[this];simp[Array.getD,hlt]
   ·have h2:¬p.1<x.size:=by omega
    simp[Array.getD,hlt,h2]
  ·rw[<-hj j (by simp;exact⟨fun h=>e h.symm,by simpa using hjn⟩)];by_cases hlt:j<t.size
   ·simp[Array.getD,hlt,Array.getElem_setIfInBounds,e]
   ·simp[Array.getD,hlt]
def Off (D:List Nat)(ts:Array Value)(ds:List Deferred)(a:Act):Prop:=a.defers=ds/\a.tmps.size=ts.size/\∀j,j∉D->a.tmps.getD j undef=ts.getD j undef
theorem Off.put {D:List Nat}{ts:Array Value}{ds:List Deferred}{a:Act}(h:Off D ts ds a){d:Nat}(hd:d∈D)(v:Value):Off D ts ds (a.put (some d) v):=
 ⟨h.1,by simpa [Act.put]using h.2.1,fun j hj=>by
  have:d≠j:=fun e=>hj (e▸hd);rw[<-h.2.2 j hj];show(a.tmps.setIfInBounds d v).getD j undef=_;by_cases hlt:j<a.tmps.size
  ·simp[Array.getD,hlt,Array.getElem_setIfInBounds,this]
  ·simp[Array.getD,hlt]⟩
theorem B15 {a:Act}{d:Nat}{v:Value}(h:d<a.tmps.size):(a.put (some d) v).tmps.getD d undef=v:=by
 show(a.tmps.setIfInBounds d v).getD d undef=v;simp[Array.getD,h]
theorem A5e {a:Act}{d j:Nat}{v:Value}(h:d≠j):(a.put (some d) v).tmps.getD j undef=a.tmps.getD j undef:=by
 show(a.tmps.setIfInBounds d v).getD j undef=_;by_cases hlt:j<a.tmps.size
 ·simp[Array.getD,hlt,Array.getElem_setIfInBounds,h]
 ·simp[Array.getD,hlt]
theorem A3s {L:Array Bool}{i j:Nat}(h:(L.setIfInBounds i true).getD j true=true)(hne:i≠j):L.getD j true=true:=by rwa [getD_set_ne true hne]at h
theorem A5X {E:List Nat}{L0:Array Bool}(h:A1O md ops E L0=true){x:Nat}(hx:x∈E):L0.getD x true=false:=by
 unfold A1O at h;simp only[Bool.and_eq_true]at h;have:=List.all_eq_true.1 h.2.1 x hx;simp only[Bool.and_eq_true,beq_iff_eq]at this;exact this.2
theorem A88 {α β:Type}{f:α->β}:∀ {l:List α},(l.map f).Nodup->∀ {x y:α},x∈l->y∈l->x≠y->f x≠f y:=by
 intro l;induction l with
 |nil=>intro _ x y hx;cases hx
 |cons a l ih=>
  intro h x y hx hy hne he;have hd:=List.nodup_cons.1 h;rcases List.mem_cons.1 hx with rfl|hx
  ·rcases List.mem_cons.1 hy with rfl|hy
   ·exact hne rfl
   ·exact hd.1 (he▸List.mem_map.2 ⟨y,hy,rfl⟩)
  ·rcases List.mem_cons.1 hy with e|hy
   ·rw[e]at he;exact hd.1 (he▸List.mem_map.2 ⟨x,hx,rfl⟩)
   ·exact ih hd.2 hx hy hne he
def A7S (E:List Nat)(L0 Lend:Array Bool):Bool:=Lend.size==L0.size && (List.range L0.size).all fun j=>Lend.getD j true==(L0.getD j true||E.contains j)
theorem C2a {E:List Nat}{L0 Lend:Array Bool}(h:A7S E L0 Lend=true):Lend.size=L0.size/\∀j,Lend.getD j true=(L0.getD j true||E.contains j):=by
 unfold A7S at h;simp only[Bool.and_eq_true,beq_iff_eq]at h;refine⟨h.1,fun j=>?_⟩;by_cases hj:j<L0.size
 ·have:=List.all_eq_true.1 h.2 j (List.mem_range.2 hj)
  simpa using this
 ·have h2:¬j<Lend.size:=by omega
  simp[Array.getD,hj,h2]
end
end
section
open Go Go.RowKit
section
variable {P:Program} {ops:Array Oper} {Q:Exit->Act->World->Prop} {md:Region.Mode} {S:World->Prop}
def A9J (md:Region.Mode)(ops:Array Oper)(i j:Nat):Bool:=match ops[i]? with
 |some o=>o.after.toList.any fun e=>Region.binds md e &&e.on==j
 |none=>false
theorem A5P {i j:Nat}{listed:Array Bool}(h:A9J md ops i j=true)(hr:i∈Region.ready md ops listed):listed.getD j true=true:=by
 obtain⟨_,o,ho,M1⟩:=mem_ready.1 hr;unfold A9J at h;rw[ho]at h;obtain⟨e,he,hb⟩:=List.any_eq_true.1 h;simp only[Bool.and_eq_true,beq_iff_eq]at hb;have:=(A0A.1 (M1 e (by simpa using he) hb.1)).2;rw[hb.2]at this;exact this
structure B7r (cs:List (Nat×Nat))(R:Nat->Value->World->List Nat->Prop)(T:World->Nat->Prop)(vi vd b0:Nat)(listed:Array Bool)(a:Act)(w:World)(N:Nat):Prop where
 var:listed.getD vi true=true->a.tmps.getD vd undef=.pointer (some ⟨N,0,none⟩)/\b0<=N/\T w N
 call:∀c∈cs,listed.getD c.1 true=true->∃bs,R c.1 (a.tmps.getD c.2 undef) w bs/\(∀b∈bs,b0<=b/\b<w.heap.size)/\(listed.getD vi true=true->N∉bs)
theorem B0O {L0 Lend:Array Bool}{f0:Nat}{ts:Array Value}{ds:List Deferred}{w0:World}(cs:List (Nat×Nat))(R:Nat->Value->World->List Nat->Prop)(T:World->Nat->Prop)(vi vd:Nat)(ob:Obj){fuel:Nat} (hf:fuel=f0+A1S L0 (cs.map (·.1)++ [vi]))(hok:A1O md ops (cs.map (·.1)++ [vi]) L0=true) (hE:(cs.map (·.1)++ [vi]).Nodup) (hD:(cs.map (·.2)++ [vd]).Nodup)(hlen0:((cs.map (·.2)++ [vd]).all fun d=>decide (d<ts.size))=true)(hend0:A7S (cs.map (·.1)++ [vi]) L0 Lend=true)(hT0:∀w:World,T (w.alloc ob) w.heap.size) (hTb:∀ (w w':World) N,T w N->Below w.heap.size w w'->T w' N) (hTl:∀ (w:World) N,T w N->N<w.heap.size)(hS:∀w,Below w0.heap.size w0 w->S w)(hR:∀c∈cs,∀ (v:Value) (w w':World) bs,R c.1 v w bs->Below w.heap.size w w'->R c.1 v w' bs)(hC:∀c∈cs,∀ (listed:Array Bool) (a:Act) (w:World) (K:Act->World->Prop),c.1∈Region.ready md ops listed->Off (cs.map (·.2)++ [vd]) ts ds a->Below w0.heap.size w0 w->
   (∀c'∈cs,listed.getD c'.1 true=true->∃bs,R c'.1 (a.tmps.getD c'.2 undef) w bs)->
   Shut (∀v w' bs,Below w.heap.size w w'->R c.1 v w' bs->(∀b∈bs,w.heap.size<=b/\b<w'.heap.size)->K (a.put (some c.2) v) w')->wpOp P ops Q c.1 K a w)
  (hA:∀ (a:Act) (w:World) (K:Act->World->Prop),K (a.put (some vd) (.pointer (some ⟨w.heap.size,0,none⟩))) (w.alloc ob)->wpOp P ops Q vi K a w)
  (fin:∀ (V:Nat->Value) (N:Nat) (w:World),Below w0.heap.size w0 w->w0.heap.size<=N->T w N->(∀c∈cs,∃bs,R c.1 (V c.2) w bs/\(∀b∈bs,w0.heap.size<=b/\b<w.heap.size)/\N∉bs)-> wpAnyH P md ops Q S f0 Lend ⟨((cs.map fun c=>(c.2,V c.2))++ [(vd,Value.pointer (some ⟨N,0,none⟩))]).foldl (fun t p=>t.setIfInBounds p.1 p.2) ts,ds⟩ w):
  wpAnyH P md ops Q S fuel L0 ⟨ts,ds⟩ w0:=by
 subst hf;have D3:∀d∈cs.map (·.2)++ [vd],d<ts.size:=fun d hd=>by simpa using List.all_eq_true.1 hlen0 d hd
 have A0O:=C2a hend0;have hEd:=List.nodup_append.1 hE;have hDd:=List.nodup_append.1 hD;have hvi:vi∈cs.map (·.1)++ [vi]:=List.mem_append.2 (Or.inr (List.mem_singleton.2 rfl));have hvd:vd∈cs.map (·.2)++ [vd]:=List.mem_append.2 (Or.inr (List.mem_singleton.2 rfl));have nev:∀c∈cs,c.1≠vi/\c.2≠vd:=fun c hc=>⟨hEd.2.2 _ (List.mem_map.2 ⟨c,hc,rfl⟩) _ (List.mem_singleton.2 rfl),hDd.2.2 _ (List.mem_map.2 ⟨c,hc,rfl⟩) _ (List.mem_singleton.2 rfl)⟩;refine C2o (fun listed a w=>Off (cs.map (·.2)++ [vd]) ts ds a/\Below w0.heap.size w0 w/\∃N,B7r cs R T vi vd w0.heap.size listed a w N) hok hE ?_ ?_ _ L0 ⟨ts,ds⟩ w0 ⟨rfl,fun _ _=>rfl⟩ (fun y hy _ _ hl=>by rw[A5X hok hy]at hl;cases hl) ⟨⟨rfl,rfl,fun _ _=>rfl⟩,Below.refl _ _,0,⟨fun hl=>absurd ((A5X hok hvi).symm.trans hl) (by decide),fun c hc hl=>absurd ((A5X hok (List.mem_append.2 (Or.inl (List.mem_map.2 ⟨c,hc,rfl⟩)))).symm.trans hl) (by decide)⟩⟩ rfl
 ·rintro listed a w i hl ⟨hO,hB,N,hv,hc⟩ hiE hio hir;rcases List.mem_append.1 hiE with hi|hi
  ·obtain⟨c,hcm,rfl⟩:=List.mem_map.1 hi;have hcD:c.2∈cs.map (·.2)++ [vd]:=List.mem_append.2 (Or.inl (List.mem_map.2 ⟨c,hcm,rfl⟩));refine hC c hcm listed a w _ hir hO hB (fun c' hc' hl'=>by obtain⟨bs,h,_⟩:=hc c' hc' hl';exact⟨bs,h⟩) fun v w' bs hb hRn hfr=>⟨hS w' (U5 hb hB.size hB),hO.put hcD _,U5 hb hB.size hB,N,⟨fun hl'=>?_,fun c' hc' hl'=>?_⟩⟩
   ·obtain⟨h1,h2,h3⟩:=hv (A3s hl' (nev c hcm).1);exact⟨by rw[A5e (nev c hcm).2];exact h1,h2,hTb _ _ _ h3 hb⟩
   ·by_cases e:c'=c
    ·subst e;refine⟨bs,by rw[B15 (by rw[hO.2.1];exact D3 _ hcD)];exact hRn,fun b hbs=>⟨Nat.le_trans hB.size (hfr b hbs).1,(hfr b hbs).2⟩,fun hl2 hN=>?_⟩;have h1:=hTl _ _ (hv (A3s hl2 (nev c' hcm).1)).2.2;have h2:=(hfr N hN).1;omega
    ·have e1:c.1≠c'.1:=fun h=>A88 hEd.1 hc' hcm e h.symm;have e2:c.2≠c'.2:=fun h=>A88 hDd.1 hc' hcm e h.symm;obtain⟨bs',h1,h2,h3⟩:=hc c' hc' (A3s hl' e1);exact⟨bs',by rw[A5e e2];exact hR c' hc' _ _ _ _ h1 hb,fun b hbs=>⟨(h2 b hbs).1,Nat.lt_of_lt_of_le (h2 b hbs).2 hb.size⟩,fun hl2=>h3 (A3s hl2 (nev c hcm).1)⟩
  ·obtain rfl:=List.mem_singleton.1 hi;have hb:Below w.heap.size w (w.alloc ob):=(Below.refl _ _).alloc lr8 _;refine hA a w _ ⟨hS _ (U5 hb hB.size hB),hO.put hvd _,U5 hb hB.size hB,w.heap.size,⟨fun _=>⟨B15 (by rw[hO.2.1];exact D3 _ hvd),hB.size,hT0 w⟩,fun c' hc' hl'=>?_⟩⟩;obtain⟨bs',h1,h2,h3⟩:=hc c' hc' (A3s hl' (fun h=>(nev c' hc').1 h.symm));exact⟨bs',by rw[A5e (fun h=>(nev c' hc').2 h.symm)];exact hR c' hc' _ _ _ _ h1 hb,fun b hbs=>⟨(h2 b hbs).1,Nat.lt_of_lt_of_le (h2 b hbs).2 hb.size⟩,fun _ hN=>by have:=(h2 _ hN).2;omega⟩
 ·rintro listed a w hl M1 ⟨hO,hB,N,hv,hc⟩;have hLe:listed=Lend:=by
   refine Array.ext (by rw[hl.1,A0O.1]) fun j h1 h2=>?_;have e2:=A0O.2 j;have e1:listed.getD j true=Lend.getD j true:=by
    rw[e2];by_cases hj:j∈cs.map (·.1)++ [vi]
    ·rw[M1 j hj];have:(cs.map (·.1)++ [vi]).contains j=true:=by simpa using hj
     rw[this];simp
    ·rw[hl.2 j hj];have:(cs.map (·.1)++ [vi]).contains j=false:=by simpa using hj
     rw[this];simp
   rw[Array.getD,Array.getD,dif_pos h1,dif_pos h2]at e1;exact e1
  subst hLe;have hcm:∀c∈cs,listed.getD c.1 true=true:=fun c h=>M1 _ (List.mem_append.2 (Or.inl (List.mem_map.2 ⟨c,h,rfl⟩)));obtain⟨v1,v2,v3⟩:=hv (M1 vi hvi);have hch:=B2o a.tmps ((cs.map fun c=>(c.2,a.tmps.getD c.2 undef))++ [(vd,Value.pointer (some ⟨N,0,none⟩))]) ts hO.2.1.symm (fun j hj=>(hO.2.2 j (by simpa [List.map_map,Function.comp_def]using hj)).symm) (fun p hp=>by
    rcases List.mem_append.1 hp with h|h
    ·obtain⟨c,hcc,rfl⟩:=List.mem_map.1 h;rfl
    ·obtain rfl:=List.mem_singleton.1 h;exact v1)
  have:=fin (fun d=>a.tmps.getD d undef) N w hB v2 v3 (fun c h=>by obtain⟨bs,h1,h2,h3⟩:=hc c h (hcm c h);exact⟨bs,h1,h2,h3 (M1 vi hvi)⟩);rw[hch]at this;obtain⟨at',ad⟩:=a;have:ad=ds:=hO.1;subst this;assumption
end
structure S4 (w:World)(N:Nat)(x y:Value):Prop where
 lt:N<w.heap.size
 fr:∀o,w.frozen? ⟨N,o,none⟩=false
 c0:w.cell? ⟨N,0,none⟩=some x
 c1:w.cell? ⟨N,1,none⟩=some y
theorem S4.keep {w w':World}{N:Nat}{x y:Value}(h:S4 w N x y)(hs:w.heap.size<=w'.heap.size)(hk:w'.heap[N]?=w.heap[N]?):S4 w' N x y:=
 ⟨Nat.lt_of_lt_of_le h.lt hs,fun o=>(fb8 hk).trans (h.fr o),(cb8 hk).trans h.c0,(cb8 hk).trans h.c1⟩
theorem S4.below {w w':World}{N:Nat}{x y:Value}(h:S4 w N x y)(hd:Below w.heap.size w w'):S4 w' N x y:=h.keep hd.size (hd.block N h.lt)
theorem S4.new (w:World)(x y:Value)(t:TypeId):S4 (w.alloc (.cells #[x,y] t)) w.heap.size x y:=
 ⟨by simp,fun o=>by simp,by simp,by simp⟩
theorem S4.put {w:World}{N:Nat}{x y:Value}(h:S4 w N x y)(x' y':Value):S4 ((w.setCell ⟨N,0,none⟩ x').setCell ⟨N,1,none⟩ y') N x' y':=by
 refine⟨by simpa using h.lt,fun o=>by simp only[World.frozen?_setCell];exact h.fr o,?_,?_⟩
 ·exact(cO8 _ _ _ _ (by simp)).trans (cS8 _ _ _ h.c0)
 ·exact cS8 _ _ _ ((cO8 _ _ _ _ (by simp)).trans h.c1)
theorem S4.far {w:World}{N g:Nat}{x y:Value}(h:S4 w N x y)(hne:N≠g)(x' y':Value):S4 ((w.setCell ⟨g,0,none⟩ x').setCell ⟨g,1,none⟩ y') N x y:=
 h.keep (by simp) (by rw[bS8 _ _ _ _ hne,bS8 _ _ _ _ hne])
end
section
open Go.RowKit Go.Deep
structure j7 (w:World)(B0:Nat)(rs:List R3)(k:Nat)(G:List (List Nat)):Prop where
 row:∃f,w.rowIs B0 67 (rs.length*3) f/\∀i x g,i<k->rs[i]?=some x->G[i]?=some g->f (i*3)=.string x.s/\f (i*3+1)=.int .i64 x.W/\C6 w (f (i*3+2)) x.cs g
 gl:G.length=k
 kl:k<=rs.length
 own:D5 w (B0+1) G.flatten
theorem j7.cells {w:World}{B:Nat}{rs:List R3}{k:Nat}{G:List (List Nat)}(h:j7 w B rs k G)(hk:k<rs.length):(∃u,w.cell? ⟨B,k*3,none⟩=some u)/\(∃u,w.cell? ⟨B,k*3+1,none⟩=some u)/\(∃u,w.cell? ⟨B,k*3+2,none⟩=some u)/\(∀i,w.frozen? ⟨B,i,none⟩=false)/\B<w.heap.size:=by
 obtain⟨f,h,_⟩:=h.row;exact⟨⟨_,h.cell (by omega)⟩,⟨_,h.cell (by omega)⟩,⟨_,h.cell (by omega)⟩,fun i=>h.frozen i,h.lt⟩
theorem j7.lt {w:World}{B:Nat}{rs:List R3}{k:Nat}{G:List (List Nat)}(h:j7 w B rs k G):∀b∈G.flatten,b<w.heap.size:=by
 intro b hb;obtain⟨g,hg,hbg⟩:=List.mem_flatten.1 hb;obtain⟨i,hi,rfl⟩:=List.mem_iff_getElem.1 hg;have h1:=h.gl;have h2:=h.kl;obtain⟨f,_,he⟩:=h.row;have hi':i<rs.length:=by omega
 exact(he i rs[i] G[i] (by omega) (by simp) (by simp)).2.2.lt b hbg
theorem j7.below {w w':World}{B:Nat}{rs:List R3}{k:Nat}{G:List (List Nat)}(h:j7 w B rs k G)(hb:Below w.heap.size w w'):j7 w' B rs k G:=by
 have hlt:=h.lt;obtain⟨⟨f,hf,he⟩,gl,kl,own⟩:=h;refine⟨⟨f,hf.of_block (hb.block _ hf.lt),fun i x g hi hx hg=>?_⟩,gl,kl,own.below hlt hb⟩;obtain⟨h0,h1,h2⟩:=he i x g hi hx hg;exact⟨h0,h1,h2.below hb⟩
theorem j7.step {w:World}{B:Nat}{rs:List R3}{k:Nat}{G:List (List Nat)}{x:R3}{u:Value}{g:List Nat}{M:Nat}(h:j7 w B rs k G)(hx:rs[k]?=some x)(hR:C6 w u x.cs g)(hO:D5 w M g)(hM:B<M)(hd:∀b∈G.flatten,b<M):j7 (((w.setCell ⟨B,k*3,none⟩ (.string x.s)).setCell ⟨B,k*3+1,none⟩ (.int .i64 x.W)).setCell ⟨B,k*3+2,none⟩ u) B rs (k+1) (G++ [g]):=by
 obtain⟨⟨f,hf,he⟩,gl,kl,own⟩:=h;have H7:∀b,B<b->(((w.setCell ⟨B,k*3,none⟩ (.string x.s)).setCell ⟨B,k*3+1,none⟩ (.int .i64 x.W)).setCell ⟨B,k*3+2,none⟩ u).heap[b]?=w.heap[b]?:=by
  intro b hb;repeat rw[bS8 _ _ _ _ (by show b≠B;omega)]
 refine⟨⟨_,((hf.set _ _).set _ _).set _ _,fun i y g' hi hy hg'=>?_⟩,by simp[gl],(gE1 hx).1,?_⟩
 ·by_cases e:i=k
  ·subst e;obtain rfl:y=x:=by rw[hx]at hy;exact(Option.some.inj hy).symm
   obtain rfl:g'=g:=by rw[List.getElem?_append_right (by omega),gl]at hg';simp at hg';exact hg'.symm
   refine⟨by simp,by simp,?_⟩;simp only[if_true];exact hR.keep (by simp) fun b hb=>H7 b (by have:=hO.2.1 b hb;omega)
  ·have n:∀p q:Nat,p<3->q<3->i*3+p≠k*3+q:=by intro p q hp hq;omega
   have n0:∀q:Nat,q<3->i*3≠k*3+q:=by intro q hq;omega
   have n1:∀p:Nat,p<3->i*3+p≠k*3:=by intro q hq;omega
   have n2:i*3≠k*3:=by omega
   rw[List.getElem?_append_left (by omega)]at hg';obtain⟨h0,h1,h2⟩:=he i y g' (by omega) hy hg';refine⟨?_,?_,?_⟩
   ·simp only[if_neg n2,if_neg (n0 1 (by omega)),if_neg (n0 2 (by omega))];exact h0
   ·simp only[if_neg (n1 1 (by omega)),if_neg (n 1 1 (by omega) (by omega)),if_neg (n 1 2 (by omega) (by omega))];exact h1
   ·simp only[if_neg (n1 2 (by omega)),if_neg (n 2 1 (by omega) (by omega)),if_neg (n 2 2 (by omega) (by omega))];exact h2.keep (by simp) fun b hb=>H7 b (by have:=own.2.1 b (List.mem_flatten.2 ⟨g',mg8 hg',hb⟩);omega)
 ·have hm:∀b∈(G++ [g]).flatten,b∈G.flatten\/b∈g:=by intro b hb;simpa using hb
  have hgt:∀b∈(G++ [g]).flatten,B+1<=b:=fun b hb=>(hm b hb).elim (own.2.1 b) (fun h=>by have:=hO.2.1 b h;omega);refine D5.keep (w:=w) ⟨?_,hgt,fun b hb=>(hm b hb).elim (own.2.2 b) (hO.2.2 b)⟩ fun b hb=>H7 b (hgt b hb);rw[List.flatten_append,List.nodup_append];refine⟨own.1,by simpa using hO.1,fun a ha b hb=>?_⟩;rintro rfl;have h1:=hd a ha;have h2:=hO.2.1 a (by simpa using hb);omega
theorem j7.relsF {w:World}{B:Nat}{rs:List R3}{G:List (List Nat)}(h:j7 w B rs rs.length G)(hn:wtR rs<=1048576):∃F,H8 w (.slice (some ⟨B,0,none⟩) rs.length rs.length) rs F/\D5 w B F:=by
 obtain⟨⟨f,hf,he⟩,gl,kl,own⟩:=h;have hm:rs.length<=maxLen:=by unfold wtR at hn;unfold maxLen;omega
 by_cases hne:rs=[]
 ·exact⟨[],⟨_,_,G,rfl,Nat.le_refl _,hm,(fun x=>by cases x),gl,fun _=>rfl,fun x=>absurd hne x⟩,by simp[D5,N9]⟩
 refine⟨B::G.flatten,⟨_,_,G,rfl,Nat.le_refl _,hm,(fun x=>by cases x),gl,fun x=>absurd x hne,fun _=>⟨B,0,rfl,hf.lt,rfl,fun i x g hx hg=>?_⟩⟩,List.nodup_cons.2 ⟨fun hb=>by have:=own.2.1 B hb;omega,own.1⟩,fun b hb=>?_,fun b hb o=>?_⟩
 ·have hi:i<rs.length:=(gE1 hx).1;obtain⟨e0,e1,e2⟩:=he i x g hi hx hg;exact⟨_,by rw[Nat.zero_add,hf.cell (by omega),e0],by rw[Nat.zero_add,hf.cell (by omega),e1],by rw[Nat.zero_add,hf.cell (by omega)],e2⟩
 ·rcases List.mem_cons.1 hb with rfl|hb
  ·exact Nat.le_refl _
  ·have:=own.2.1 b hb;omega
 ·rcases List.mem_cons.1 hb with rfl|hb
  ·exact hf.frozen o
  ·exact own.2.2 b hb o
theorem C2q (w:World)(z:Array Value)(rs:List R3):j7 (w.alloc (.cells (madeCells z (rs.length*3)) 67)) w.heap.size rs 0 []:=
 ⟨⟨fun i=>(madeCells z (rs.length*3))[i]?.getD undef,⟨_,blk_alloc_new _ _,size_madeCells _ _,fun i hi=>by
  have:i<(madeCells z (rs.length*3)).size:=by rw[size_madeCells];exact hi
  simp[this]⟩,fun i x g hi=>by omega⟩,rfl,Nat.zero_le _,by simp[D5,N9]⟩
theorem B3y (s:ByteArray)(W:Int)(v:Value)(cs:List C2)(w:World)(hr:J7 w v cs)(hn:wtb cs<=1048576):Calls Tryz.prog 25 #[.agg #[.string s,.int .i64 W,v]] w fun e w'=>(∃a l c F,e=.returned (.agg #[.string s,.int .i64 W,.slice a l c])/\C6 w' (.slice a l c) cs F/\D5 w' w.heap.size F)/\Below w.heap.size w w':=
 (B35 s W v cs w hr hn).mono fun e w' ⟨⟨B,g,hB,he,h⟩,hb⟩=>by
  obtain⟨F,h1,h2⟩:=h.rowsF (A8D hn).1 (A8D hn).2;exact⟨⟨_,_,_,F,he,h1,h2.1,fun b hb=>Nat.le_trans hB (h2.2.1 b hb),h2.2.2⟩,hb⟩
theorem A4K (v:Value)(rs:List R3)(w:World)(hr:W6 w v rs)(hn:wtR rs<=1048576):Calls Tryz.prog 7 #[v] w fun e w'=>(∃u F,e=.returned u/\H8 w' u rs F/\D5 w' w.heap.size F)/\Below w.heap.size w w':=by
 obtain⟨a,c,b,o,rfl,hl,hc,ha⟩:=hr.pick;unfold maxLen at hc;clear hr;have hn1:rs.length<=1048576:=by unfold wtR at hn;omega
 have hmk:=A31 (P:=Tryz.prog) 37 67 _ 3 48 Tryz.underlying37 Tryz.infoRel rs.length (by omega) (by omega);go_enter Tryz.func7,Tryz.ntmps7;go_wp2;go_loopw [4] (fun i wr=> ∃ (k:Nat) (G:List (List Nat)),k<=rs.length/\i=.int .i64 k/\Below w.heap.size w wr/\j7 wr w.heap.size rs k G) (fun i _=>rs.length - (intOf i).toNat)
 case atStart=>exact⟨0,[],Nat.zero_le _,rfl,by go_grown,C2q _ _ _⟩
 case round=>
  obtain⟨k,G,hk,rfl,hb,hH⟩:=hrel;clear hmk;by_cases hlt:k<rs.length
  ·have hzb:=hb.size;obtain⟨rfl,hblt,hL⟩:=ha k hlt;obtain⟨x,u,hx,c0,c1,c2,hR,hbr⟩:=hL.at hblt hb hlt;have HX:Hid (rs[k]?=some x):=hx;have hxn:wtb x.cs<=1048576:=by have:=A9S (mg8 hx);unfold wtr at this;unfold wtR at hn;omega
   have hBr:=(hH.cells hlt).2.2.2.2;have hGl:=hH.lt;clear ha hL hx;go_wp2_with(go_at_call 25;refine(B3y _ _ _ _ _ hR hxn).mono ?_;rintro e w1 ⟨⟨a1,l1,d1,g,rfl,hRD,hOD⟩,hb1⟩;have hz1:=hb1.size;have hH1:=hH.below hb1;obtain⟨⟨y0,g0⟩,⟨y1,g1⟩,⟨y2,g2⟩,gf,gs⟩:=hH1.cells hlt);refine⟨⟨k+1,_,hlt,by simp,C3,hH1.step HX.out hRD hOD (by omega) hGl⟩,by simp[intOf];omega⟩
  ·go_wp2;go_returns;obtain rfl:k=rs.length:=by omega
   obtain⟨F,h1,h2⟩:=hH.relsF hn;exact⟨⟨_,F,rfl,h1,h2⟩,hb⟩
end
section
open Go.RowKit Go.Deep
theorem B9N {m:Int}{V:E7->List V3->V3}(hV:VOk m V){rs:List R3}(hrw:W7 rs){p:P12}(hP:A0P 9 p):wtb (M3 V rs p)<=1048576:=by
 unfold M3;split
 ·rename_i h;exact(A6M hV h.1 hrw hP h.2.1 h.2.2).wtb
 ·simp[wtb,W8]
def RA (V:E7->List V3->V3)(rs:List R3)(p:P12)(D d:Nat)(i:Nat)(v:Value)(w:World)(bs:List Nat):Prop:=
 (i=1->H8 w v rs bs)/\(i=3->∃ue us u,v=(.agg #[.int .i64 p.k,.string p.s,.int .i64 p.e.k,.int .i64 p.e.n,.int .i64 p.e.v.k,.int .i64 p.e.v.n,.string p.e.v.s,.string p.e.p,ue,us,.int .i64 p.n,u])/\H3 w D (E2 w D d) p ue us u bs/\Own w 0 bs)/\(i=4->∃u,v=.agg #[.int .i64 (J4 rs p),u]/\C6 w u (M3 V rs p) bs)
theorem RA.below {V:E7->List V3->V3}{rs:List R3}{p:P12}{D d i:Nat}{v:Value}{w w':World}{bs:List Nat}(h:RA V rs p D d i v w bs)(hb:Below w.heap.size w w'):RA V rs p D d i v w' bs:=
 ⟨fun e=>(h.1 e).below hb,fun e=>by obtain⟨ue,us,u,e1,e2,e3⟩:=h.2.1 e;exact⟨ue,us,u,e1,e2.below hb,e3.below e2.lt hb⟩,fun e=>by obtain⟨u,e1,e2⟩:=h.2.2 e;exact⟨u,e1,e2.below hb⟩⟩
structure StA (w3 wi:World)(x:Value)(X:List R3)(F4:List Nat)(p:P12)(D d A8:Nat)(xe xs xk:Value)(F7:List Nat)(A9:Nat)(W:Int)(g:Value)(Y:List C2)(F5:List Nat):Prop where
 bel:Below w3.heap.size w3 wi
 xx:H8 wi x X F4
 bx:BxP wi A8 p xe xs xk
 pl:H3 wi D (E2 wi D d) p xe xs xk F7
 bg:S4 wi A9 (.int .i64 W) g
 gg:C6 wi g Y F5
 o4:D5 wi w3.heap.size F4
 o7:Own wi w3.heap.size F7
 o5:D5 wi w3.heap.size F5
 n4:∀b∈F4,b≠A8/\b≠A9/\b∉F7/\b∉F5
 n7:∀b∈F7,b≠A8/\b≠A9/\b∉F5
 n5:∀b∈F5,b≠A9
structure StB (w3 wi:World)(A9:Nat)(W:Int)(g:Value)(Y:List C2)(F5:List Nat):Prop where
 bel:Below w3.heap.size w3 wi
 bg:S4 wi A9 (.int .i64 W) g
 gg:C6 wi g Y F5
 o5:D5 wi w3.heap.size F5
 n5:∀b∈F5,b≠A9
theorem BxP.keep {w w':World}{b:Nat}{p:P12}{ue us u:Value}(h:BxP w b p ue us u)(hs:w.heap.size<=w'.heap.size)(hk:w'.heap[b]?=w.heap[b]?):BxP w' b p ue us u:=by
 obtain⟨hl,h0,h1,h2,h3,h4,h5,h6,h7,h8,h9,h10,h11⟩:=h;exact⟨Nat.lt_of_lt_of_le hl hs,(cb8 hk).trans h0,(cb8 hk).trans h1,(cb8 hk).trans h2,(cb8 hk).trans h3,(cb8 hk).trans h4,(cb8 hk).trans h5,(cb8 hk).trans h6,(cb8 hk).trans h7,(cb8 hk).trans h8,(cb8 hk).trans h9,(cb8 hk).trans h10,(cb8 hk).trans h11⟩
section
variable {w3 wi wj:World} {x xe xs xk g:Value} {X:List R3} {Y:List C2} {F4 F7 F5:List Nat} {p:P12} {D d A8 A9:Nat} {W:Int}
theorem StA.below (h:StA w3 wi x X F4 p D d A8 xe xs xk F7 A9 W g Y F5)(hb:Below wi.heap.size wi wj):StA w3 wj x X F4 p D d A8 xe xs xk F7 A9 W g Y F5:=
 ⟨h.bel.trans (hb.mono h.bel.size),h.xx.below hb,h.bx.below hb,h.pl.below hb,h.bg.below hb,h.gg.below hb,h.o4.below h.xx.lt hb,h.o7.below h.pl.lt hb,h.o5.below h.gg.lt hb,h.n4,h.n7,h.n5⟩
theorem StA.markX (h:StA w3 wi x X F4 p D d A8 xe xs xk F7 A9 W g Y F5){X':List R3}(hc:Chg F4 wi wj)(hx:H8 wj x X' F4):StA w3 wj x X' F4 p D d A8 xe xs xk F7 A9 W g Y F5:=
 ⟨h.bel.trans (hc.below h.o4.2.1 h.bel.size),hx,h.bx.keep hc.size (hc.block _ h.bx.1 fun hb=>(h.n4 _ hb).1 rfl),h.pl.keep hc.size (fun b hb=>hc.block b (h.pl.lt b hb) fun hb'=>(h.n4 b hb').2.2.1 hb),h.bg.keep hc.size (hc.block _ h.bg.lt fun hb=>(h.n4 _ hb).2.1 rfl),h.gg.chg hc (fun b hb hb'=>(h.n4 b hb').2.2.2 hb),⟨h.o4.1,h.o4.2.1,hc.free h.o4.2.2⟩,h.o7.keep (fun b hb=>hc.block b (h.pl.lt b hb) fun hb'=>(h.n4 b hb').2.2.1 hb),h.o5.keep (fun b hb=>hc.block b (h.gg.lt b hb) fun hb'=>(h.n4 b hb').2.2.2 hb),h.n4,h.n7,h.n5⟩
theorem StA.markP (h:StA w3 wi x X F4 p D d A8 xe xs xk F7 A9 W g Y F5)(hc:I7 F7 wi wj):StB w3 wj A9 W g Y F5:=
 ⟨h.bel.trans ⟨hc.os,hc.tape,hc.output,hc.size,fun k hk=>hc.block k (Nat.lt_of_lt_of_le hk h.bel.size) fun hm=>by have:=(h.o7.2 k hm).1;omega⟩,h.bg.keep hc.size (hc.block _ h.bg.lt fun hb=>(h.n7 _ hb).2.1 rfl),h.gg.keep hc.size (fun b hb=>hc.block b (h.gg.lt b hb) fun hb'=>(h.n7 b hb').2.2 hb),h.o5.keep (fun b hb=>hc.block b (h.gg.lt b hb) fun hb'=>(h.n7 b hb').2.2 hb),h.n5⟩
theorem StB.below (h:StB w3 wi A9 W g Y F5)(hb:Below wi.heap.size wi wj):StB w3 wj A9 W g Y F5:=
 ⟨h.bel.trans (hb.mono h.bel.size),h.bg.below hb,h.gg.below hb,h.o5.below h.gg.lt hb,h.n5⟩
theorem StB.markG (h:StB w3 wi A9 W g Y F5){Y':List C2}(hc:Chg F5 wi wj)(hy:C6 wj g Y' F5):StB w3 wj A9 W g Y' F5:=
 ⟨h.bel.trans (hc.below h.o5.2.1 h.bel.size),h.bg.keep hc.size (hc.block _ h.bg.lt fun hb=>h.n5 _ hb rfl),hy,⟨h.o5.1,h.o5.2.1,hc.free h.o5.2.2⟩,h.n5⟩
end
end
end Go.Proofs.YteekfcdllaceoaaGreatDoor
