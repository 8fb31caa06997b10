/- Own texts, joined: contracts that the law's proof goes by. -/
import Derived.Test.YteekfcdllaceoaaGreatDoorGLAnswer15
import Derived.Test.YteekfcdllaceoaaGreatDoorGLAnswer1
import Derived.Test.YteekfcdllaceoaaGreatDoorGLAnswer2
import Derived.Test.YteekfcdllaceoaaGreatDoorGLAnswer3
import Derived.Test.YteekfcdllaceoaaGreatDoorGLAnswer7
import Derived.Test.YteekfcdllaceoaaGreatDoorGLAnswer9
import Derived.Deep.RegionHeld3
import Derived.BigQuiet
import Derived.Deep.AppendLies
import Derived.Test.YteekfcdllaceoaaGreatDoorGLAnswer13
import Derived.Test.YteekfcdllaceoaaGreatDoorGLAnswer14
import Derived.Handy
set_option maxHeartbeats 16000000
set_option maxRecDepth 100000
set_option linter.unusedVariables false
set_option linter.unusedSimpArgs false
namespace Go.Proofs.YteekfcdllaceoaaGreatDoor
section
open Go.RowKit Go.Deep Go.ChangeShapes Go.WideShapes
theorem B7c {W:Int}{ps xs:List C2}(hg:∀c∈ps,gR8 W c.r)(h:A01 W ps xs):xs=N5 [] ps 1:=by
 obtain⟨s1,s2,s3⟩:=A2k (n:=1) (ds:=ps) (cs:=[]) List.Pairwise.nil (fun c hc=>by cases hc);have e0:∀r,K6 ([]:List C2) r=0:=fun r=>A2W fun c hc=>by cases hc
 refine A6S h.asc s1 (fun c hc=>(h.good c hc).1) s2 fun r=>?_;rw[s3,A7R,e0];by_cases hr:gR8 W r
 ·rw[<-A2n r h.asc,h.tot r hr];omega
 ·rw[A68 (fun c hc=>(h.good c hc).2) hr,A3d (r:=r) fun c hc e=>hr (e▸hg c hc)];rfl
theorem B4r (V:E7->List V3->V3)(es:List E7){cs:List C2}{k:Nat}{x:C2}(h:cs[k]?=some x):Q3 V es (cs.take (k+1))=Q3 V es (cs.take k)++ [⟨K5 V es x.r,x.n⟩]:=by
 unfold Q3;rw[V9 h,List.map_append];rfl
theorem C3r {cs:List C2}{M:Int}(h:∀c∈cs,0<c.n/\c.n<=M)(r:List V3):0<=E4 cs r/\E4 cs r<=M*cs.length:=by
 induction cs with
 |nil=>simp[E4]
 |cons x xs ih=>
  have h1:=ih fun c hc=>h c (by simp[hc]);have h2:=h x (by simp);rw[E4,List.length_cons];have e:M* ((xs.length+1:Nat):Int)=M*xs.length+M:=by rw[Int.natCast_add,Int.mul_add];simp
  rw[e];split<;>omega
theorem B8B {m:Int}{V:E7->List V3->V3}(hV:VOk m V)(wh W Wk Wx:Int)(au:Option Addr)(lu cu:Nat)(ev:Value)(es:List E7)(Fs:List Nat)(D:Nat)(v:Value)(cs:List C2)(F:List Nat)(w:World)(hr:C6 w v cs F)(hM:K2 Wk cs)(hm:w.cell? ⟨1,0,none⟩=some (.int .i64 m))(hk0:C1 w D ev es Fs)(hel:es.length<=12)(hok:∀e∈es,okE 13 e=true)(hne:∀e∈es,wtE e<=1048576):Calls Tryz.prog 108 #[.agg #[.int .i64 wh,.int .i64 W,.slice au lu cu,ev],.agg #[.int .i64 Wx,v]] w fun q w'=>(∃u us' G',q=.returned (.agg #[.int .i64 W,u])/\C4 w' w.heap.size u (R7 V es cs) us' G')/\Below w.heap.size w w':=by
 have hmm:= @run_makeMap Tryz.prog;obtain⟨j0,hj,jz0,jz1,jz2⟩:=info_parts Tryz.infoRk;obtain⟨i0,hi,hz0,hz1,M6⟩:=info_parts Tryz.infoVal;have h00:1<w.heap.size:=bl8 _ _ hm;have hal:=hM.all;obtain⟨D,rfl⟩:=hk0.succ;have hGE:∀e∈es,o3 e:=fun e he=>by
  obtain⟨h1,u',F',hK⟩:=A4C hk0 he;exact⟨h1,hok e he,hne e he,w,D,u',F',hK⟩
 obtain⟨ae,ce,be,oe,Ge,rfl,hle,hce,hGe,_,hae⟩:=hk0.pick;unfold maxLen at hce;obtain⟨a,c,b,o,G0,rfl,hl,hc,_,hG0,_,hC,ha⟩:=hr.pick;unfold maxLen at hc;have HG:Hid (∀e∈es,o3 e):=hGE;have HOK:Hid (∀e∈es,okE 13 e=true/\wtE e<=1048576):=fun e he=>⟨hok e he,hne e he⟩;have hcl:∀ (w2:World) (q1 q2:Int) (q3:ByteArray),∀j u,([.int .i64 q1,.int .i64 q2,.string q3]:List Value)[j]?=some u->(w2.alloc (.cells #[.int .i64 q1,.int .i64 q2,.string q3] 39)).cell? ((⟨w2.heap.size,0,none⟩:Addr).add j)=some u:=fun w2 q1 q2 q3=>World.news_of_block (cs:=#[.int .i64 q1,.int .i64 q2,.string q3]) (t:=39) (fr:=(0,0)) (heap_alloc_new w2 _);clear hr hk0 hok hne hGE;go_enter Tryz.func108,Tryz.ntmps108;go_wp2_with fail;go_loopw [5,18] (fun y i wr=> ∃ (M:World) (k gb cp:Nat) (fs:List Value) (D:Nat->Prop),Below (w.heap.size+1+1+1) M wr/\k<=es.length/\i=.int .i64 k/\y=.slice (some ⟨gb,0,none⟩) k cp/\wr.ownsRow (w.heap.size+1+1+1) 213 1 y k fs/\(∀b,D b->w.heap.size+1+1+1<=b/\b<wr.heap.size/\b≠gb)/\(∀ (j:Nat) (x:E7) (y:Value),es[j]?=some x->fs[j]?=some y->Rk m D wr y 13 x)/\w.heap.size+1+1+1<=M.heap.size/\Below w.heap.size w M/\M.cell? ⟨w.heap.size,1,none⟩=some (.int .i64 W)/\M.cell? ⟨w.heap.size+1,1,none⟩=some (.slice a cs.length c)/\M.cell? ⟨w.heap.size+1+1,0,none⟩=some (.int .i64 0)/\M.cell? ⟨w.heap.size+1+1,1,none⟩=some (.slice none 0 0)/\(∀q,M.frozen? ⟨w.heap.size+1+1,q,none⟩=false)) (fun _ i _=>es.length - (intOf i).toNat)
 case atStart=>
  refine⟨_,0,w.heap.size+1+1+1,0,[],fun _=>False,Below.refl _ _,Nat.zero_le _,rfl,rfl,?_,fun _ h=>h.elim,fun j x y _ h=>by simp at h,by simp,bex,by go_simp,by go_simp,by go_simp,by go_simp,fun q=>by go_simp⟩;exact A1G (by simp) lr8 _ _
 case round=>
  obtain⟨M,k,gb,cp,fs,D1,hbM,hkk,rfl,rfl,hO,hD,hR,hzM,hbW,m1,m6,r0,r1,rf⟩:=hrel;have hzb:=hbM.size;have hb:Below w.heap.size w wr:=hbW.trans (hbM.mono (by omega));have hm1:wr.cell? ⟨1,0,none⟩=some (.int .i64 m):=((bc8 hb).1 1 0 h00).trans hm;by_cases hlt:k<es.length
  ·obtain⟨rfl,hblte,_,hLe⟩:=hae k hlt;obtain⟨x,g,ue,hxe,hge,hew,⟨e0,e1,e2,e3,e4,e5⟩,e6,hKe,hbre⟩:=hLe.at hGe hblte hb hlt;obtain⟨ax,cx,rfl,_,_⟩:=hKe.shape;obtain⟨hxo,hxt⟩:=HOK.out x (mg8 hxe);have hkI:(k:Int)<es.length:=by omega
   have hgb:=hO.lt gb rfl;have hfl:fs.length=k:=by have:=hO.1;omega
   have HX:Hid (es[k]?=some x):=hxe;have hRk:=fun(X:World) (hX:Below wr.heap.size wr X)=>A3i m 13 x _ g D X hew (hKe.below hX) hxo hxt;clear hae hLe hxe hge hKe;go_wp2_with fail;refine cM8 (hRk _ bex) ?_;rintro z w2 ⟨⟨cl,rfl,hCl⟩,hb2⟩;obtain⟨fn,cap0,rfl,hEnt,_⟩:=id hCl;have Y9:=hb2.size;simp at Y9;have C0:Below wr.heap.size wr w2:=bex;have hO2:=A25 hO C0;clear hRk e0 e1 e2 e3 e4 e5 e6;go_wp2_with(at_builtin;refine wpList_append_own_at _ rfl _ _ 215 rfl (w.heap.size+1+1+1) 213 j0 _ 1 8 Tryz.underlying215 hj jz0 jz1 jz2 rfl (by decide) _ _ _ rfl (hO2.alloc _) ⟨w2.heap.size,0,none⟩ 1 1 [.func (.func fn) #[] cap0] rfl rfl ?c2 (by simp[Value.oneCell']) ?c3 ?c4 ?c5 ?_)
   case c2=>exact World.news_of_block (cs:=#[.func (.func fn) #[] cap0]) (t:=213) (fr:=(0,0)) (heap_alloc_new w2 _)
   case c3=>unfold maxLen;omega
   case c4=>omega
   case c5=>first|omega|(simp;omega)
   intro v3 w3 H5 hgrow _ hat;have hz3:=hgrow.size;simp at hz3;obtain⟨gg,cap,rfl⟩:=ownsRow_succ H5;have hgg:gg=gb\/gg=w2.heap.size+1:=by
    rcases hat with h|h
    ·exact .inl (by simpa [Value.ownBlock]using h)
    ·exact .inr (by simpa [Value.ownBlock]using h)
   have i1:∀b,b<w2.heap.size->b≠gb->w3.heap[b]?=w2.heap[b]?:=fun b hb hne=>(hgrow.block b (by simp;omega) (by simp[Value.ownBlock];exact fun h=>hne h)).trans (bA8 _ _ _ hb);have D1':∀b,(D1 b\/(wr.heap.size+1<=b/\b<w2.heap.size))->w.heap.size+1+1+1<=b/\b<w3.heap.size/\b≠gg:=by
    intro b hb;rcases hb with hb|hb
    ·have:=hD b hb;omega
    ·omega
   have R1:∀ (j:Nat) (x:E7) (y:Value),es[j]?=some x->(fs++ [.func (.func fn) #[] cap0])[j]?=some y->Rk m (fun b=>D1 b\/(wr.heap.size+1<=b/\b<w2.heap.size)) w3 y 13 x:=by
    intro j x' y hx' hy;rcases Nat.lt_or_ge j k with hj|hj
    ·rw[List.getElem?_append_left (by omega)]at hy;refine(hR j x' y hx' hy).keep (fun b hb=> .inl hb) fun b hb=>?_;have:=hD b hb;exact(i1 b (by omega) (by omega)).trans (C0.block b (by omega))
    ·rw[List.getElem?_append_right (by omega)]at hy;have hjk:j=k:=by
      have:j -fs.length=0:=by
       rcases Nat.eq_zero_or_pos (j -fs.length)with h|h
       ·exact h
       ·rw[List.getElem?_eq_none (by simp;omega)]at hy;cases hy
      omega
     subst hjk;rw[hfl,Nat.sub_self]at hy;simp at hy;subst hy;obtain rfl:x=x':=Option.some.inj (HX.out.symm.trans hx');refine hCl.keep (fun b hb=> .inr ?_) fun b hb=>?_
     ·simp at hb;omega
     ·simp at hb;exact i1 b (by omega) (by omega)
   have D6:Below (w.heap.size+1+1+1) M w3:=Below.grown ((hbM.trans (C0.mono (by omega))).alloc (by omega) _) hgrow (by simp;omega) (fun b hb=>by simp[Value.ownBlock]at hb;omega);clear hgrow hat i1 hCl hb2 hR hO hO2 hbM;go_wp2_with fail;exact⟨⟨M,k+1,gg,cap,_,_,D6,hlt,by simp,rfl,H5,D1',R1,hzM,hbW,m1,m6,r0,r1,rf⟩,by simp[intOf];omega⟩
  ·obtain rfl:k=es.length:=by omega
   have hfl:fs.length=es.length:=by have:=hO.1;omega
   have hgb:=hO.lt gb rfl;have q1:=((U0 hbM).1 w.heap.size 1 (by omega)).trans m1;have q6:=((U0 hbM).1 (w.heap.size+1) 1 (by omega)).trans m6;have t0:=((U0 hbM).1 (w.heap.size+1+1) 0 (by omega)).trans r0;have t1:=((U0 hbM).1 (w.heap.size+1+1) 1 (by omega)).trans r1;have tf:∀q,wr.frozen? ⟨w.heap.size+1+1,q,none⟩=false:=fun q=>((U0 hbM).2 _ q (by omega)).trans (rf q);have hcp:es.length<=cp/\cp<=9223372036854775807:=by
    rcases hO.2 with⟨h,_⟩|⟨g,cap,cur,h,_,_,h3,h4,_⟩
    ·cases h
    ·injection h with h1 h2 h3';unfold maxLen at h4;omega
   have hFs:∀j x,es[j]?=some x->∃fn cap0,wr.cell? ⟨gb,j,none⟩=some (.func (.func fn) #[] cap0)/\Ent fn/\∀ (Y:World) (v:Value) (vs:List V3),Below wr.heap.size wr Y->E3 Y v vs->N8 vs->Calls Tryz.prog fn (#[v]++cap0) Y fun q w'=>q=.returned (.agg #[.int .i64 (V x vs).k,.int .i64 (V x vs).n,.string (V x vs).s])/\Below Y.heap.size Y w':=fun j x hx=>by
    have hj:j<es.length:=(gE1 hx).1;have hjf:j<fs.length:=by omega
    obtain⟨fn,cap0,hy,hE,hCC⟩:=hR j x fs[j] hx (by simp);refine⟨fn,cap0,(hO.cellAt j (by omega)).trans (by rw[<-hy];simp),hE,fun Y v vs hY hv hvV=>hCC Y v vs _ (fun b hb=>hY.block b (by have:=hD b hb;omega)) (bt8 hY hm1) hv (hV.res x vs (HG.out x (mg8 hx)) hvV)⟩
   have l0:w.heap.size<wr.heap.size:=by omega
   have l1:w.heap.size+1<wr.heap.size:=by omega
   have l2:w.heap.size+1+1<wr.heap.size:=by omega
   clear hae hR hD hO m1 m6 r0 r1 rf hbM;go_wp2_with fail;go_loopw [32] (fun i wz=> ∃ (k:Nat),k<=cs.length/\i=.int .i64 k/\A0W wz wr.heap.size k es.length (Q3 V es (cs.take k))/\Below wr.heap.size wr wz) (fun i _=>cs.length - (intOf i).toNat)
   case atStart=>
    refine⟨0,Nat.zero_le _,rfl,⟨.map [],?_,Y4.start _ _ _⟩,bex⟩;have:=World.ownsMap_made wr Tryz.prog 9 Rc
    simpa using this
   case round=>
    obtain⟨wz,HWwz⟩:∃x,x=wr:=⟨wr,rfl⟩;subst HWwz;obtain⟨k,hk,rfl,hT,hbz⟩:=hrel;have hTl:=hT.lt;have hzz:=hbz.size;have hbw:Below w.heap.size w wz:=hb.trans (hbz.mono hb.size);by_cases hlt:k<cs.length
    ·obtain⟨rfl,hblt,_⟩:=ha k hlt;obtain⟨x,ux,gx,hx,_,cx0,hRx,cx1,hbr⟩:=hC.at hG0 hblt hbw hlt;obtain⟨ax,nx,rfl⟩:=hRx.shape;have hxm:=mg8 hx;have hxV:=(hM.row x hxm).2;have hxn:=hal.2.2.2 x hxm;have hkI:(k:Int)<cs.length:=by omega
     have HP:Hid (Q3 V es (cs.take (k+1))=Q3 V es (cs.take k)++ [⟨K5 V es x.r,x.n⟩]):=B4r V es hx;have hTB:=C3r (cs:=Q3 V es (cs.take k)) (M:=1000000000) (fun c hc=>by obtain⟨y,hy,rfl⟩:=List.mem_map.1 hc;exact hal.2.2.2 y (List.mem_of_mem_take hy)) (K5 V es x.r);have B4U:0<=E4 (Q3 V es (cs.take k)) (K5 V es x.r)/\E4 (Q3 V es (cs.take k)) (K5 V es x.r)<=400000000000:=by
      have:(Q3 V es (cs.take k)).length<=400:=by simp[Q3];omega
      omega
     have hGd:gR8 es.length (K5 V es x.r):=A5N.2 ⟨by simp[K5],fun v hv=>by
      obtain⟨e,hem,rfl⟩:=List.mem_map.1 hv;exact hV.good e x.r (HG.out e hem) hxV⟩
     have A4q:=fun(X:World) (v:Value) (hT:A0W X wr.heap.size k es.length (Q3 V es (cs.take k))) (hv:A1D X wr.heap.size v (K5 V es x.r))=>B2S wr.heap.size k es.length (Q3 V es (cs.take k)) v (K5 V es x.r) x.n X hT hv hGd (by simp[K5];omega) (by omega) (by omega);rw[<-HP.out]at A4q;have hRz:=hRx;clear ha hC hx hTB B4U hGd hM;go_wp2_with fail;go_loopw [11,39] (fun y i wi=> ∃ (j:Nat),j<=es.length/\i=.int .i64 j/\wi.ownsRow (wz.heap.size+1) 39 3 y j (rc (K5 V (es.take j) x.r))/\Below wz.heap.size wz wi/\wz.heap.size+1<=wi.heap.size/\wi.cell? ⟨wz.heap.size,0,none⟩=some (.slice ax x.r.length nx)/\wi.cell? ⟨wz.heap.size,1,none⟩=some (.int .i64 x.n)) (fun _ i _=>es.length - (intOf i).toNat)
     case atStart=>exact⟨0,Nat.zero_le _,rfl,A1G (by simp) lr8 _ _,bex,by simp,by go_simp,by go_simp⟩
     case round=>
      obtain⟨wi,HWwi⟩:∃x,x=wr:=⟨wr,rfl⟩;subst HWwi;obtain⟨j,hjj,rfl,D2,hbi,hzi,d0,d1⟩:=hrel;obtain⟨ay,cy,rfl⟩:=A2C D2;have hsi:=hbi.size;have A4E:Below wr.heap.size wr wi:=hbz.trans (hbi.mono (by omega));by_cases hjl:j<es.length
      ·obtain⟨e,he⟩:∃e,es[j]?=some e:=⟨es[j],by simp⟩;obtain⟨fn,cap0,hfc,hEn,hCC⟩:=hFs j e he;have C5X:=((bc8 A4E).1 gb j (by omega)).trans hfc;have hjI:(j:Int)<es.length:=by omega
       have hjc:(j:Int)<cp:=by omega
       have HR:Hid (K5 V (es.take (j+1)) x.r=K5 V (es.take j) x.r++ [V e x.r]):=A70 V x.r he;have hpl:(K5 V (es.take j) x.r).length=j:=by simp[K5];omega
       obtain⟨vv,HVV⟩:∃q,Hid (V e x.r=q):=⟨_,rfl⟩;have hE:∀Y,Below wi.heap.size wi Y->Calls Tryz.prog fn (#[.slice ax x.r.length nx]++cap0) Y fun q w'=>q=.returned (.agg #[.int .i64 vv.k,.int .i64 vv.n,.string vv.s])/\Below Y.heap.size Y w':=fun Y hY=>by
        have:=hCC Y (.slice ax x.r.length nx) x.r (A4E.trans (hY.mono (by omega))) (hRz.below (hbi.trans (hY.mono (by omega)))).is hxV;rw[HVV.out]at this;exact this
       have C4N:gb<wi.heap.size:=by omega
       clear hCC he hfc hRz A4q hT;unfold Ent at hEn;generalize hpp:K5 V (es.take j) x.r=pp at*;go_wp2_with fail;try rw[hEn,Oper.upon_enter]
       try rw[Oper.upon_enter]
       refine cM8 (hE _ bex) ?_;rintro z w4 ⟨rfl,hb4⟩;have hz4:=hb4.size;try simp at hz4
       have I3:Below wi.heap.size wi w4:=bex;have U3:=oK8 D2 fun t ht=>I3.block t (oL8 D2 t ht).2;have d04:=bt8 I3 d0;have d14:=bt8 I3 d1;clear hE hb4 D2 d0 d1;go_wp2_with(at_builtin;refine wpList_append_own _ rfl _ _ 114 rfl (wz.heap.size+1) 39 i0 _ 3 32 Tryz.underlying114 hi hz0 hz1 M6 rfl (by decide) _ _ _ rfl (U3.alloc _) ⟨w4.heap.size,0,none⟩ 1 1 [.int .i64 vv.k,.int .i64 vv.n,.string vv.s] rfl rfl (hcl _ _ _ _) (by simp[Value.oneCell']) ?c36 ?c46 ?c56 ?_)
       case c36=>unfold maxLen;omega
       case c46=>omega
       case c56=>simp;omega
       intro v6 w6 H6 hgr6 _;have A3f:=hgr6.size;simp at A3f;have hol:=oL8 U3;have K3:Below wz.heap.size wz w6:=((hbi.trans (I3.mono (by omega))).alloc (by omega) _).grown hgr6 (by simp;omega) (fun t ht=>by have:=(hol t ht).1;omega);have kk:∀q,w6.cell? ⟨wz.heap.size,q,none⟩=w4.cell? ⟨wz.heap.size,q,none⟩:=fun q=>(cb8 (hgr6.block wz.heap.size (by simp;omega) (fun e=>by have:=(hol _ e.symm).1;omega))).trans (cb8 ba8);have HR6:Hid (rc pp++ [.int .i64 vv.k,.int .i64 vv.n,.string vv.s]=rc (K5 V (es.take (j+1)) x.r)):=by show _=_;rw[HR.out,A0d,HVV.out]
       rw[HR6.out]at H6;clear hgr6 U3 hbi A4E I3;go_wp2_with fail;exact⟨⟨j+1,hjl,by simp,H6,K3,by omega,(kk 0).trans d04,(kk 1).trans d14⟩,by simp[intOf];omega⟩
      ·obtain rfl:j=es.length:=by omega
       rw[List.take_length]at D2;obtain⟨gv,hgv⟩:=A0S (vs:=K5 V es x.r) D2;have hTi:=hT.keep hbi;have hX:A1D wi wr.heap.size (.slice ay es.length cy) (K5 V es x.r):=⟨gv,hgv.1,fun t ht=>by have:=hgv.2.2.1 t ht;omega⟩;have hAd:=A4q wi _ hTi hX;clear A4q hT hFs D2 hgv hX hTi hmm;go_wp2_with fail;refine cM8 hAd ?_;rintro z w7 ⟨rfl,hT7,hb7⟩;have S7:Below wr.heap.size wr w7:=A4E.trans (hb7.below lr8 (by omega));clear hAd hb7;go_wp2_with fail;exact⟨⟨k+1,hlt,by simp,hT7,S7⟩,by simp[intOf];omega⟩
    ·obtain rfl:k=cs.length:=by omega
     rw[List.take_length]at hT;have hTA:=hT.of;have hGd:∀p∈Q3 V es cs,gR8 es.length p.r:=fun p hp=>by
      obtain⟨y,hy,rfl⟩:=List.mem_map.1 hp;exact A5N.2 ⟨by simp[K5],fun v hv=>by
       obtain⟨e,hem,rfl⟩:=List.mem_map.1 hv;exact hV.good e y.r (HG.out e hem) (hM.row y hy).2⟩
     have HB:Hid (∀ds,A01 es.length (Q3 V es cs) ds->ds=R7 V es cs):=fun ds h=>B7c hGd h;have B0I:=A8q wr.heap.size wz.heap.size cs.length es.length W (Q3 V es cs) wz hTA lr8 (by omega) (by omega);have z1:=bt8 hbz q1;have z0:=bt8 hbz t0;have z2:=bt8 hbz t1;have zf:∀q,wz.frozen? ⟨w.heap.size+1+1,q,none⟩=false:=fun q=>((bc8 hbz).2 _ q (by omega)).trans (tf q);clear ha hC hFs hT hTA hGd hmm q1 t0 t1 tf;go_wp2_with fail;refine cM8 B0I ?_;rintro z w7 ⟨⟨ds,u,us,G,rfl,k9,hOw⟩,hb7⟩;obtain rfl:=HB.out ds k9;have hz7:=hb7.size;obtain⟨au',cu',rfl⟩:=hOw.shape;have y0:=bt8 hb7 z0;have y1:=bt8 hb7 z2;have yf:∀q,w7.frozen? ⟨w.heap.size+1+1,q,none⟩=false:=fun q=>((bc8 hb7).2 _ q (by omega)).trans (zf q);have S7:Below w.heap.size w w7:=hbw.trans (hb7.mono hbw.size);have hy7:w.heap.size+1+1<w7.heap.size:=by omega
     clear B0I hb7 z0 z1 z2 zf k9;go_wp2_with fail;refine bodyPost_ret (v:=.agg #[.int .i64 W,.slice au' (R7 V es cs).length cu']) (by simp[results,Tryz.results108,go_sem, *]) rfl ⟨⟨_,us,G,rfl,?_⟩,?_⟩
     ·refine(hOw.keep (by simp) fun b hb _=>?_).weak (by omega);repeat rw[bS8 _ _ _ _ (by simp;omega)]
     ·exact bs8
theorem B9S {m:Int}{V:E7->List V3->V3}(hV:VOk m V)(wh W Wk Ul Wx Ux:Int)(au:Option Addr)(lu cu:Nat)(e:E7)(ue:Value)(Fe:List Nat)(D:Nat)(v v':Value)(cs ds:List C2)(F F':List Nat)(w:World)(hr:C6 w v cs F)(hr':C6 w v' ds F')(hM:K2 Wk cs)(hM':K2 Ul ds)(hm:w.cell? ⟨1,0,none⟩=some (.int .i64 m))(he:e.wf)(hok:okE 13 e=true)(hne:wtE e<=1048576)(hk0:C1 w D ue e.ks Fe):Calls Tryz.prog 109 #[.agg #[.int .i64 wh,.int .i64 W,.slice au lu cu,.int .i64 e.k,.int .i64 e.n,.int .i64 e.v.k,.int .i64 e.v.n,.string e.v.s,.string e.p,ue],.agg #[.int .i64 Wx,v],.agg #[.int .i64 Ux,v']] w fun q w'=>(∃u l us' G',q=.returned (.agg #[.int .i64 W,u])/\C4 w' w.heap.size u l us' G'/\(l=K9 V e cs ds\/400<l.length/\∃t,K9 V e cs ds=l++t))/\Below w.heap.size w w':=by
 obtain⟨ae,ce,rfl,_,_⟩:=hk0.shape;obtain⟨i0,hi,hz0,hz1,M6⟩:=info_parts Tryz.infoCnt;have h00:1<w.heap.size:=bl8 _ _ hm;have hal:=hM.all;have A4F:=hM'.all;obtain⟨a,c,b,o,G0,rfl,hl,hc,_,hG0,_,hC,ha⟩:=hr.pick;obtain⟨a',c',b',o',G0',rfl,hl',hc',_,hG0',_,hC',ha'⟩:=hr'.pick;unfold maxLen at hc hc';have hGE:o3 e:=⟨he,hok,hne,w,D,_,Fe,hk0⟩;have hO:∀X,Below w.heap.size w X->Calls Tryz.prog 134 #[(.agg #[.int .i64 e.k,.int .i64 e.n,.int .i64 e.v.k,.int .i64 e.v.n,.string e.v.s,.string e.p,(.slice ae e.ks.length ce)])] X fun x w'=>(∃fn cap,x=.returned (.func (.func fn) #[] cap)/\Ent fn/\∀ (Y:World) (v:Value) (vs:List V3),(∀b,X.heap.size<=b->b<w'.heap.size->Y.heap[b]?=w'.heap[b]?)->Y.cell? ⟨1,0,none⟩=some (.int .i64 m)->E3 Y v vs->N8 vs->Calls Tryz.prog fn (#[v]++cap) Y fun q w'=>q=.returned (.agg #[.int .i64 (V e vs).k,.int .i64 (V e vs).n,.string (V e vs).s])/\Below Y.heap.size Y w')/\Below X.heap.size X w':=fun X hX=>by
  refine cM8 (A3i m 13 e _ Fe D X he (hk0.below hX) hok hne) ?_;rintro x w' ⟨⟨cl,rfl,fn,cap,rfl,hE,hC⟩,hb⟩;exact⟨⟨fn,cap,rfl,hE,fun Y v vs hY h0 hv hvV=>hC Y v vs _ (fun b hb=>hY b hb.1 hb.2) h0 hv (hV.res e vs hGE hvV)⟩,hb⟩
 clear hr hr' hk0 hok hne hGE;go_enter Tryz.func109,Tryz.ntmps109;go_wp2_with fail;refine cM8 (hO _ ?hb) ?_
 case hb=>exact bex
 rintro q w2 ⟨⟨fn,cap,rfl,hEn,hC0⟩,hb2⟩;have hz2:=hb2.size;simp at hz2;have C0:Below w.heap.size w w2:=bex;have k1:w2.cell? ⟨w.heap.size+1,1,none⟩=some (.slice a cs.length c):=cl8 hb2;have k2:w2.cell? ⟨w.heap.size+1+1,1,none⟩=some (.slice a' ds.length c'):=cl8 hb2;have hS2:GdW w2 (w.heap.size+1+1+1) w2.heap.size W [] (.slice none 0 0) [] [] w2:=⟨cl8 hb2,cl8 hb2,fun q=>((bc8 hb2).2 _ q (by simp;try omega)).trans (by go_simp),cl8 hb2,cl8 hb2,fun q=>((bc8 hb2).2 _ q (by simp;try omega)).trans (by go_simp),C4.nil _ _,Below.refl _ _,fun _ _ _=>rfl,by omega,Nat.le_refl _⟩;have hCl:∀ (Y:World) (v:Value) (vs:List V3),(∀b,w.heap.size+1+1+1+1+1<=b->b<w2.heap.size->Y.heap[b]?=w2.heap[b]?)->Y.cell? ⟨1,0,none⟩=some (.int .i64 m)->E3 Y v vs->N8 vs->Calls Tryz.prog fn (#[v]++cap) Y fun q w'=>q=.returned (.agg #[.int .i64 (V e vs).k,.int .i64 (V e vs).n,.string (V e vs).s])/\Below Y.heap.size Y w':=fun Y v vs hY=>hC0 Y v vs (fun b h1 h2=>hY b (by simpa using h1) h2);clear hO hb2 hC0;unfold Ent at hEn;go_wp2_with fail;go_loopw [24] (fun i wr=> ∃ (k:Nat) (y:Value) (us:List Value) (G:List (List Nat)),k<=cs.length/\i=.int .i64 k/\GdW w2 (w.heap.size+1+1+1) w2.heap.size W (K9 V e (cs.take k) ds) y us G wr/\(K9 V e (cs.take k) ds).length<=400) (fun i _=>cs.length - (intOf i).toNat)
 case atStart=>exact⟨0,_,_,_,Nat.zero_le _,rfl,hS2,by simp[K9]⟩
 case round=>
  obtain⟨k,y,us,G,hk,rfl,hS,D3⟩:=hrel;have hbig:=hS.big;have A5k:Below (w.heap.size+1+1+1) w2 wr:=hS.bel;have hb:Below w.heap.size w wr:=C0.trans (A5k.mono (by omega));have t1:=((U0 A5k).1 (w.heap.size+1) 1 (by omega)).trans k1;have t2:=((U0 A5k).1 (w.heap.size+1+1) 1 (by omega)).trans k2;have hzb:=hb.size;by_cases hlt:k<cs.length
  ·obtain⟨rfl,hblt,_⟩:=ha k hlt;obtain⟨x,ux,gx,hx,_,cx0',hRx,cx1',_⟩:=hC.at hG0 hblt (Below.refl _ _) hlt;have cx0:=((bc8 hb).1 _ _ hblt).trans cx0';have cx1:=((bc8 hb).1 _ _ hblt).trans cx1';have hbr:b<wr.heap.size:=by omega
   have l1:w.heap.size+1<wr.heap.size:=by omega
   have l2:w.heap.size+1+1<wr.heap.size:=by omega
   obtain⟨ax,nx,rfl⟩:=hRx.shape;have hxm:=mg8 hx;have hxW:=hM.row x hxm;have hxn:=hal.2.2.2 x hxm;have hkI:(k:Int)<cs.length:=by omega
   have HX:Hid (cs[k]?=some x):=hx;have HA0:Hid (I6 V e cs ds x k 0=K9 V e (cs.take k) ds):=B1R V e cs ds x k;clear ha hC hx cx0' cx1';rw[<-HA0.out]at hS D3;have hyb:=oL8 hS.own.own;have hS1:=hS.below ((Below.refl _ wr).alloc lr8 (.cells #[.slice ax x.r.length nx,.int .i64 x.n] 116));go_wp2_with fail;go_loopw [31] (fun i wi=> ∃ (j:Nat) (y:Value) (us:List Value) (G:List (List Nat)),j<=ds.length/\i=.int .i64 j/\GdW w2 (w.heap.size+1+1+1) w2.heap.size W (I6 V e cs ds x k j) y us G wi/\(I6 V e cs ds x k j).length<=400/\wr.heap.size+1<=wi.heap.size/\wi.cell? ⟨wr.heap.size,0,none⟩=some (.slice ax x.r.length nx)/\wi.cell? ⟨wr.heap.size,1,none⟩=some (.int .i64 x.n)/\(∀b,y.ownBlock=some b->b≠wr.heap.size)) (fun i _=>ds.length - (intOf i).toNat)
   case atStart=>exact⟨0,y,us,G,Nat.zero_le _,rfl,hS1,D3,by simp,by go_simp,by go_simp,fun b hb e=>by have:=(hyb b hb).2;omega⟩
   case round=>
    obtain⟨wi,HWwi⟩:∃x,x=wr:=⟨wr,rfl⟩;subst HWwi;clear hS hS1 D3 hyb y us G;obtain⟨j,y,us,G,hj,rfl,hS,D3,hzi,d0,d1,hyn⟩:=hrel;have C4o:=hS.big;have B2G:Below (w.heap.size+1+1+1) w2 wi:=hS.bel;have hbi:Below w.heap.size w wi:=C0.trans (B2G.mono (by omega));have s2:=((U0 B2G).1 (w.heap.size+1+1) 1 (by omega)).trans k2;by_cases hjl:j<ds.length
    ·obtain⟨rfl,hblt',_⟩:=ha' j hjl;obtain⟨z,uz,gz,hz,_,cz0',hRz,cz1',_⟩:=hC'.at hG0' hblt' (Below.refl _ _) hjl;have cz0:=((bc8 hbi).1 _ _ hblt').trans cz0';have cz1:=((bc8 hbi).1 _ _ hblt').trans cz1';have A0k:b'<wi.heap.size:=by have:=hbi.size;omega
     obtain⟨az,nz,rfl⟩:=hRz.shape;have hzm:=mg8 hz;have hzW:=hM'.row z hzm;have hzn:=A4F.2.2.2 z hzm;have hjI:(j:Int)<ds.length:=by omega
     have HJ:Hid (I6 V e cs ds x k (j+1)=I6 V e cs ds x k j++(if Y5 (V e (x.r++z.r))=true then[⟨x.r++z.r,x.n*z.n⟩]else[])):=by
      show _=_;unfold I6;rw[A6N V e x hz,List.append_assoc]
     obtain⟨rr,HRR⟩:∃q,Hid (x.r++z.r=q):=⟨_,rfl⟩;have hrl:rr.length<=24:=by rw[<-HRR.out,List.length_append];omega
     have hrV:N8 rr:=fun v hv=>by
      rw[<-HRR.out]at hv;rcases List.mem_append.1 hv with hv|hv
      ·exact hxW.2 v hv
      ·exact hzW.2 v hv
     have hlx:x.r.length+z.r.length<=24:=by omega
     have f8:∀ (nb:Nat) (X:World),Below w.heap.size w X->wi.heap.size<=X.heap.size->X.cell? ⟨nb,0,none⟩=some (.slice ax x.r.length nx)->X.cell? ⟨nb,1,none⟩=some (.slice az z.r.length nz)->Calls Tryz.prog 138 #[.slice (some ⟨nb,0,none⟩) 2 2] X fun q w'=>(∃a4 n4 g4,q=.returned (.slice a4 rr.length n4)/\D9 w' (.slice a4 rr.length n4) rr g4/\D5 w' wi.heap.size g4)/\Below X.heap.size X w':=fun nb X hX hz q0 q1=>by
      refine cM8 (C0l nb _ _ x.r z.r gx gz X (hRx.below hX) (hRz.below hX) hlx q0 q1) ?_;rintro q w' ⟨⟨u,rfl,ho⟩,hb⟩;rw[HRR.out]at ho;obtain⟨a4,n4,rfl⟩:=A2C ho;obtain⟨g4,h1,h2⟩:=A0S ho;exact⟨⟨a4,n4,g4,rfl,h1,h2.1,fun t ht=>by have:=h2.2.1 t ht;omega,h2.2.2⟩,hb⟩
     rw[HRR.out]at HJ;have A4o:0<x.n*z.n/\x.n*z.n<=1000000000000000000:=⟨Int.mul_pos hxn.1 hzn.1,by have:=Int.mul_le_mul hxn.2 hzn.2 (by omega) (by decide);simpa using this⟩;have hwm:wrap64 (x.n*z.n)=x.n*z.n:=by unfold wrap64;omega
     obtain⟨nn,HNN⟩:∃q,Hid (x.n*z.n=q):=⟨_,rfl⟩;rw[HNN.out]at HJ;replace hwm:wrap64 (x.n*z.n)=nn:=hwm.trans HNN.out;have hm3:∀Y,Below wi.heap.size wi Y->Y.cell? ⟨1,0,none⟩=some (.int .i64 m):=fun Y hY=>bt8 hY (((bc8 hbi).1 1 0 h00).trans hm);obtain⟨vv,HVV⟩:∃q,Hid (V e rr=q):=⟨_,rfl⟩;have hE:∀ (Y:World) (v:Value),Below wi.heap.size wi Y->E3 Y v rr->Calls Tryz.prog fn (#[v]++cap) Y fun q w'=>q=.returned (.agg #[.int .i64 vv.k,.int .i64 vv.n,.string vv.s])/\Below Y.heap.size Y w':=fun Y v hY hv=>by
      have h1:=hCl Y v rr (fun b h1 h2=>(hY.block b (by omega)).trans (hS.mid b (by omega) h2)) (hm3 Y hY) hv hrV;rw[HVV.out]at h1;exact h1
     obtain⟨ay,cy,rfl⟩:=hS.own.shape;have hHz:w.heap.size+1+1+1+1<wi.heap.size:=by have:=hS.hB;omega
     have lz:wr.heap.size<wi.heap.size:=by omega
     have lz2:w.heap.size+1+1<wi.heap.size:=by omega
     clear hC' ha' hz hCl hRx hRz hm3 cz0' cz1' hxn hzn A4o hM hM';go_wp2_with fail;refine cM8 (f8 (wi.heap.size+1) _ bex (by simp;try omega) (by go_simp) (by go_simp)) ?_;rintro q w4 ⟨⟨a4,n4,g4,rfl,hR4,hO4⟩,hb4⟩;have hz4:=hb4.size;simp at hz4;have I3:Below wi.heap.size wi w4:=bex;have f1:w4.cell? ⟨wi.heap.size,1,none⟩=some (.int .i64 z.n):=cl8 hb4;clear f8 hb4 cz0 cz1;go_wp2_with fail;try rw[hEn,Oper.upon_enter]
     try rw[Oper.upon_enter]
     refine cM8 (hE _ _ I3 hR4.is) ?_;rintro q w5 ⟨rfl,hb5⟩;have hz5:=hb5.size;go_wp2_with fail;refine cM8 (A8Z vv _) ?_;rintro q w6 ⟨rfl,hb6⟩;have hz6:=hb6.size;have A3R:Below w4.heap.size w4 w6:=bex;have K3:Below wi.heap.size wi w6:=I3.trans (A3R.mono (by omega));have f16:=bt8 A3R f1;have d06:=bt8 K3 d0;have d16:=bt8 K3 d1;have hR6:=hR4.below A3R;have hO6:=hO4.below hR4.lt A3R;have hS6:=hS.below K3;have C4n:=hS6.big;have p0:=hS6.p0;have p1:=hS6.p1;have pf:=hS6.pf;have r0:=hS6.r0;have r1:=hS6.r1;have rf:=hS6.rf;have C4Z:=oL8 hS6.own.own;have C4m:w.heap.size+1+1+1+1<w6.heap.size:=by omega
     have C4u:w.heap.size+1+1+1<w6.heap.size:=by omega
     have B8u:wr.heap.size<w6.heap.size:=by omega
     have C46:wi.heap.size<w6.heap.size:=by omega
     clear hE hb5 hb6 hR4 hO4 A3R f1 d0 d1 I3 s2;generalize hct:I6 V e cs ds x k j=ct at*;cases hT:Y5 vv with
     |false=>
      have HT2:Hid (I6 V e cs ds x k (j+1)=ct):=by
       show _=_;rw[HJ.out,HVV.out,hT];simp
      have C47:¬ ((ct.length:Int)>400):=by omega
      clear hEn hS K3 hR6 hO6;go_wp2_with fail;exact⟨⟨j+1,_,us,G,hjl,by simp,by rw[HT2.out];exact hS6,by rw[HT2.out];exact D3,by omega,d06,d16,hyn⟩,by simp[intOf];omega⟩
     |true=>
      have HT2:Hid (I6 V e cs ds x k (j+1)=ct++ [⟨rr,nn⟩]):=by
       show _=_;rw[HJ.out,HVV.out,hT];simp
      have B3D:Hid (∃t,K9 V e cs ds=(ct++ [⟨rr,nn⟩])++t):=by
       obtain⟨t,ht⟩:=A96 V e (ds:=ds) HX.out (j+1);exact⟨t,by rw[ht,HT2.out]⟩
      clear hEn;go_wp2_with(at_builtin;refine wpList_append_own_at _ rfl _ _ 33 rfl w2.heap.size 116 i0 _ 2 32 Tryz.underlying33 hi hz0 hz1 M6 rfl (by decide) _ _ _ rfl (hS6.own.own.alloc _) ⟨w6.heap.size,0,none⟩ 1 1 [.slice a4 rr.length n4,.int .i64 nn] rfl rfl ?c2 (by simp[Value.oneCell']) ?c3 ?c4 ?c5 ?_)
      case c2=>exact World.news_of_block (cs:=#[.slice a4 rr.length n4,.int .i64 nn]) (t:=116) (fr:=(0,0)) (heap_alloc_new w6 _)
      case c3=>unfold maxLen;omega
      case c4=>omega
      case c5=>first|omega|(simp;omega)
      intro v7 w7 U6 hgr7 _ hat7;have hz7:=hgr7.size;simp at hz7;have A8T:v7.ownBlock=(Value.slice ay ct.length cy).ownBlock\/v7.ownBlock=some (w6.heap.size+1):=by simpa using hat7
      have far:∀q,w7.cell? ⟨wr.heap.size,q,none⟩=w6.cell? ⟨wr.heap.size,q,none⟩:=fun q=>(cb8 (hgr7.block wr.heap.size (by simp;omega) (fun e=>hyn _ e.symm rfl))).trans (cb8 (bA8 _ _ _ B8u));obtain⟨e1,hS7⟩:=GdW.push (x:=⟨rr,nn⟩) hS K3 hR6 hO6 U6 hgr7 (by simpa using hat7);have pf7:∀q,w7.frozen? ⟨w.heap.size+1+1+1+1,q,none⟩=false:=fun q=>by have:=hS7.pf q;simpa using this
      obtain⟨a7,c7,rfl⟩:=A2C U6;have C3z:∀b,(Value.slice a7 (ct.length+1) c7).ownBlock=some b->b≠wr.heap.size:=fun b hb e=>by
       rcases A8T with h|h
       ·exact hyn b (h.symm.trans hb) e
       ·rw[h]at hb;cases hb;omega
      have D0:(w7.setCell ⟨w.heap.size+1+1+1+1,1,none⟩ (.slice a7 (ct.length+1) c7)).cell? ⟨wr.heap.size,0,none⟩=some (.slice ax x.r.length nx):=(cO8 _ _ _ _ (by simp;try omega)).trans ((far 0).trans d06);have D1:(w7.setCell ⟨w.heap.size+1+1+1+1,1,none⟩ (.slice a7 (ct.length+1) c7)).cell? ⟨wr.heap.size,1,none⟩=some (.int .i64 x.n):=(cO8 _ _ _ _ (by simp;try omega)).trans ((far 1).trans d16);have q0:=hS7.p0;have q1:=hS7.p1;have s0:=hS7.r0;have s1:=hS7.r1;have sf:=hS7.rf;have hl7:(ct++ [(⟨rr,nn⟩:C2)]).length=ct.length+1:=by simp
      clear U6 hgr7 hat7 A8T far hS hS6 hR6 hO6 p0 p1 pf r0 r1 rf K3 hct;by_cases hgt:(ct.length:Int)+1>400
      ·have C5T:400<ct.length+1:=by omega
       have hBo:=hS7.own;have hbl:=C0.trans (hS7.bel.mono (by omega));go_wp2_with fail;refine bodyPost_ret (v:=.agg #[.int .i64 W,.slice a7 (ct.length+1) c7]) (by simp[results,Tryz.results109,go_sem, *]) rfl ⟨⟨_,ct++ [⟨rr,nn⟩],_,_,rfl,(hBo.keep (by simp) fun b hb _=>?_).weak (by omega),.inr ⟨by omega,B3D.out⟩⟩,?_⟩
       ·repeat rw[bS8 _ _ _ _ (by simp;omega)]
       ·exact bs8
      ·go_wp2_with fail;exact⟨⟨j+1,_,_,_,hjl,by simp,by rw[HT2.out];exact hS7,by rw[HT2.out,hl7];omega,by simp;omega,D0,D1,C3z⟩,by simp[intOf];omega⟩
    ·obtain rfl:j=ds.length:=by omega
     have HA1:=A9K V e (ds:=ds) HX.out;rw[HA1]at hS D3;clear ha' hC' hCl;go_wp2_with fail;exact⟨⟨k+1,_,us,G,hlt,by simp,hS,D3⟩,by simp[intOf];omega⟩
  ·obtain rfl:k=cs.length:=by omega
   rw[List.take_length]at hS;have hBo:=hS.own;have hbl:=hb;have p0:=hS.p0;have p1:=hS.p1;have r0:=hS.r0;have r1:=hS.r1;have rf:=hS.rf;have hHw:w.heap.size+1+1+1<wr.heap.size:=by have:=hS.hB;omega
   have C5W:w.heap.size+1+1+1+1<wr.heap.size:=by have:=hS.hB;omega
   obtain⟨ay,cy,rfl⟩:=hBo.shape;clear ha hC ha' hC' hCl;go_wp2;refine bodyPost_ret (v:=.agg #[.int .i64 W,.slice ay (K9 V e cs ds).length cy]) (by simp[results,Tryz.results109,go_sem, *]) rfl ⟨⟨_,_,us,G,rfl,?_,.inl rfl⟩,?_⟩
   ·refine(hBo.keep (by simp) fun b hb _=>?_).weak (by omega);repeat rw[bS8 _ _ _ _ (by simp;omega)]
   ·exact bs8
end
section
open Go.RowKit
theorem A4J {W:Int}{n:Nat}{cs:List C2}(h:Raw W cs){i j:Nat}(hij:i<=j){x y:C2}(hx:cs[i]?=some x)(hy:cs[j]?=some y):cR8 (x.r.take n) (y.r.take n)<=0:=by
 obtain⟨hi,rfl⟩:=gE1 hx;obtain⟨hj,rfl⟩:=gE1 hy;rcases Nat.lt_or_ge i j with hlt|hge
 ·exact B08 n (h.row _ (List.getElem_mem hi)).1 (h.row _ (List.getElem_mem hj)).1 (List.pairwise_iff_getElem.1 h.asc i j hi hj hlt)
 ·obtain rfl:i=j:=by omega
  rw[Y8];exact Int.le_refl _
theorem B1x {n:Nat}{K:List V3}{cs:List C2}{j:Nat}:∀ (d m:Nat),m+d=j->j<=cs.length->(∀k y,m<=k->k<j->cs[k]?=some y->y.r.take n=K)->M7 n (some K) (cs.drop m)=M7 n (some K) (cs.drop j)
 |0,m,h,_,_=>by rw[<-h,Nat.add_zero]
 |d+1,m,h,hj,hs=>by
  have hm:m<cs.length:=by omega
  rw[List.drop_eq_getElem_cons hm,M7];have e:cs[m].r.take n=K:=hs m cs[m] lr8 (by omega) (by simp);rw[if_pos (by rw[e,sameKey,Y8];rfl)];exact B1x d (m+1) (by omega) hj fun k y h1 h2=>hs k y (by omega) h2
structure Run (n:Nat)(cs:List C2)(i j:Nat)(K:List V3):Prop where
 lt:i<j
 le:j<=cs.length
 same:∀k y,i<=k->k<j->cs[k]?=some y->y.r.take n=K
 next:∀z,cs[j]?=some z->z.r.take n≠K
def Edge (n:Nat)(cs:List C2)(i:Nat):Prop:=∀z,cs[i]?=some z->∀k y,k<i->cs[k]?=some y->y.r.take n≠z.r.take n
section
variable {W:Int} {n:Nat} {cs:List C2} {i j:Nat} {K:List V3} (h:Raw W cs)
theorem Run.keys (hr:Run n cs i j K):M7 n none (cs.drop i)=K::M7 n none (cs.drop j):=by
 have h1:=hr.lt;have h2:=hr.le;have hi:i<cs.length:=by omega
 have e:cs[i].r.take n=K:=hr.same i cs[i] lr8 hr.lt (by simp);rw[List.drop_eq_getElem_cons hi,M7,if_neg (by simp[sameKey]),e,B1x (j - (i+1)) (i+1) (by omega) hr.le fun k y h1 h2=>hr.same k y (by omega) h2];congr 1;by_cases hj:j<cs.length
 ·have h3:¬sameKey (some K) (cs[j].r.take n)=true:=by
   have h4:=hr.next cs[j] (by simp);simp only[sameKey,decide_eq_true_eq];exact fun e=>h4 ((K7 _ _).1 e).symm
  rw[List.drop_eq_getElem_cons hj,M7,M7,if_neg h3,if_neg (by simp[sameKey])]
 ·rw[List.drop_eq_nil_of_le (by omega)];rfl
include h
theorem Run.edge (hr:Run n cs i j K)(he:Edge n cs i):Edge n cs j:=by
 have h1:=hr.lt;have h2:=hr.le;have hi:i<cs.length:=by omega
 have e:cs[i].r.take n=K:=hr.same i cs[i] lr8 hr.lt (by simp);intro z hz k y hk hy;rcases Nat.lt_or_ge k i with hki|hki
 ·have h3:=he cs[i] (by simp) k y hki hy;have h4:=A4J (n:=n) h (Nat.le_of_lt hki) hy (y:=cs[i]) (by simp);have h5:=A4J (n:=n) h (Nat.le_of_lt hr.lt) (x:=cs[i]) (by simp) hz;have h6:cR8 (y.r.take n) (cs[i].r.take n)≠0:=fun e=>h3 ((K7 _ _).1 e);have h7:cR8 (cs[i].r.take n) (z.r.take n)≠0:=fun e'=>hr.next z hz (by rw[<-e];exact((K7 _ _).1 e').symm);have h8:=A1F (show cR8 (y.r.take n) (cs[i].r.take n)<0 by omega) (show cR8 (cs[i].r.take n) (z.r.take n)<0 by omega);intro e2;rw[e2,Y8]at h8;omega
 ·rw[hr.same k y hki hk hy];exact fun e2=>hr.next z hz e2.symm
theorem Run.rows (hr:Run n cs i j K)(he:Edge n cs i)(hn:(n:Int)<=W):E8 K cs=(cs.drop i).take (j -i):=by
 have h1:=hr.lt;have h2:=hr.le;have hi:i<cs.length:=by omega
 have e:cs[i].r.take n=K:=hr.same i cs[i] lr8 hr.lt (by simp);have hK:K.length=n:=by
  have:=(h.row _ (List.getElem_mem hi)).1;rw[<-e];simp;omega
 unfold E8;rw[hK];have e3:cs=cs.take i++((cs.drop i).take (j -i)++cs.drop j):=by
  have:cs.drop j=(cs.drop i).drop (j -i):=by rw[List.drop_drop];congr 1;omega
  rw[this,List.take_append_drop,List.take_append_drop]
 conv=>lhs;rw[e3]
 rw[List.filter_append,List.filter_append];have f1:(cs.take i).filter (fun c=>decide (cR8 (c.r.take n) K=0))=[]:=by
  rw[List.filter_eq_nil_iff];intro y hy;obtain⟨k,hk,rfl⟩:=List.mem_iff_getElem.1 hy;have hk':k<i:=by simp at hk;omega
  have:=he cs[i] (by simp) k (cs.take i)[k] hk' (by simp;try omega);rw[e]at this;simp only[decide_eq_true_eq];exact fun e=>this ((K7 _ _).1 e)
 have f2:((cs.drop i).take (j -i)).filter (fun c=>decide (cR8 (c.r.take n) K=0))=(cs.drop i).take (j -i):=by
  rw[List.filter_eq_self];intro y hy;obtain⟨k,hk,rfl⟩:=List.mem_iff_getElem.1 hy;have hk':k<j -i:=by simp at hk;omega
  have:=hr.same (i+k) ((cs.drop i).take (j -i))[k] (by omega) (by omega) (by simp;try omega);rw[this,Y8];rfl
 have f3:(cs.drop j).filter (fun c=>decide (cR8 (c.r.take n) K=0))=[]:=by
  rw[List.filter_eq_nil_iff];intro y hy;obtain⟨k,hk,rfl⟩:=List.mem_iff_getElem.1 hy;have hk':j+k<cs.length:=by simp at hk;omega
  have hj:j<cs.length:=by omega
  have h5:=A4J (n:=n) h (Nat.le_of_lt hr.lt) (x:=cs[i]) (y:=cs[j]) (by simp) (by simp);have h6:=A4J (n:=n) h (Nat.le_add_right j k) (x:=cs[j]) (y:=(cs.drop j)[k]) (by simp) (by simp);have h7:cR8 (cs[i].r.take n) (cs[j].r.take n)≠0:=fun e'=>hr.next cs[j] (by simp) (by rw[<-e];exact((K7 _ _).1 e').symm);rw[e]at h5 h7;simp only[decide_eq_true_eq];intro e4;rw[(K7 _ _).1 e4]at h6;have h8:=A49 K (cs[j].r.take n);omega
 rw[f1,f2,f3,List.nil_append,List.append_nil]
end
theorem Run.end_ {n:Nat}{cs:List C2}:Edge n cs 0:=fun _ _ k _ hk=>absurd hk (by omega)
end
section
open Go.RowKit Go.Deep
theorem A9n (a b:V3):A1P a b=true↔a=b:=by
 obtain⟨k,n,⟨⟨s⟩⟩⟩:=a;obtain⟨k',n',⟨⟨s'⟩⟩⟩:=b;simp[A1P,ByteArray.toList_eq]
theorem B7n {vs us:List V3}{k:Nat}{x y:V3}(hx:vs[k]?=some x)(hy:us[k]?=some y):vs.take (k+1)=us.take (k+1)↔vs.take k=us.take k/\x=y:=by
 obtain⟨h1,rfl⟩:=gE1 hx;obtain⟨h2,rfl⟩:=gE1 hy;rw[List.take_succ_eq_append_getElem h1,List.take_succ_eq_append_getElem h2];constructor
 ·intro h;have:=List.append_inj h (by simp;omega);exact⟨this.1,by simpa using this.2⟩
 ·rintro⟨h1,h2⟩;rw[h1,h2]
theorem A3G (w:World)(n:Nat):Below w.heap.size w (w.drewN n):=(Below.refl _ w).trans ⟨rfl,rfl,rfl,Nat.le_refl _,fun _ _=>rfl⟩
def eqR (vs us:List V3):Bool:=decide (cR8 vs us=0)
theorem A4L {vs us:List V3}:eqR vs us=true↔vs=us:=by unfold eqR;rw[decide_eq_true_eq];exact K7 _ _
theorem A9I {vs us:List V3}(h:¬vs=us):eqR vs us=false:=by
 cases e:eqR vs us with
 |false=>rfl
 |true=>exact absurd (A4L.1 e) h
theorem B3G (v u:Value)(vs us:List V3)(w:World)(hr:E3 w v vs)(hu:E3 w u us):Calls Tryz.prog 140 #[v,u] w fun e w'=>e=.returned (.bool (eqR vs us))/\∃m,w'=w.drewN m:=by
 obtain⟨a,c,b,o,rfl,hl,hc,ha⟩:=hr.pick;obtain⟨a',c',b',o',rfl,hl',hc',ha'⟩:=hu.pick;unfold maxLen at hc hc';clear hr hu;by_cases D3:vs.length=us.length
 ·go_enter Tryz.func140,Tryz.ntmps140;go_wp2;go_loopw [13] (fun i wr=> ∃k m:Nat,k<=vs.length/\i=.int .i64 k/\vs.take k=us.take k/\wr=w.drewN m) (fun i _=>vs.length - (intOf i).toNat)
  case atStart=>exact⟨0,0,Nat.zero_le _,rfl,by simp,rfl⟩
  case round=>
   obtain⟨k,m,hk,rfl,hT,rfl⟩:=hrel;have hb:Below w.heap.size w (w.drewN m):=A3G _ _;have HT:Hid (vs.take k=us.take k):=hT;clear hT;by_cases hlt:k<vs.length
   ·have hzb:=hb.size;obtain⟨rfl,hblt,hL⟩:=ha k hlt;obtain⟨rfl,hblt',hL'⟩:=ha' k (by omega);obtain⟨x,hx,c0,c1,c2,hbr⟩:=hL.at hblt (Below.refl _ _) hlt;obtain⟨x',hx',c0',c1',c2',A0k⟩:=hL'.at hblt' (Below.refl _ _) (by omega:k<us.length);have HS:=B7n hx hx';have q2:=fun w=>neV x.k x.n x'.k x'.n x.s x'.s w;have HN:(x.k==x'.k && (x.n==x'.n &&x.s.toList==x'.s.toList))=A1P x x':=rfl;simp only[HN]at q2;have hkI:(k:Int)<us.length:=by omega
    have hkV:(k:Int)<vs.length:=by omega
    clear ha ha' hL hL' hx hx';cases hS:A1P x x' with
    |true=>
     have H2:Hid (vs.take (k+1)=us.take (k+1)):=HS.2 ⟨HT.out,(A9n _ _).1 hS⟩;simp only[hS]at q2;(try simp only[Bool.not_true]at q2);(try simp only[Bool.not_false]at q2);clear HN HS hS;go_wp2_with fail;go_quiet (fail);go_wp2_with fail;exact⟨⟨k+1,_,hlt,by simp,H2.out,by first|rfl|rw[World.drewN_drewN]⟩,by simp[intOf];omega⟩
    |false=>
     have H2:Hid (¬vs=us):=by
      show ¬_;intro e;have:x=x':=(HS.1 (by rw[e])).2;rw[(A9n _ _).2 this]at hS;cases hS
     simp only[hS]at q2;(try simp only[Bool.not_true]at q2);(try simp only[Bool.not_false]at q2);clear HN HS hS;go_wp2_with fail;go_quiet (fail);go_wp2_with fail;go_returns;exact⟨by rw[A9I H2.out];rfl,by first|exact⟨_,rfl⟩|exact⟨_,by rw[World.drewN_drewN]⟩⟩
   ·obtain rfl:k=vs.length:=by omega
    have HE:Hid (vs=us):=by
     have:=HT.out;rw[List.take_length,D3,List.take_length]at this;exact this
    clear ha ha';go_wp2;go_returns;exact⟨by rw[A4L.2 HE.out];rfl,_,rfl⟩
 ·have H2:Hid (¬vs=us):=fun e=>D3 (by rw[e]);have hlI:¬ (vs.length:Int)=us.length:=by omega
  clear ha ha';go_enter Tryz.func140,Tryz.ntmps140;go_wp2;go_returns;exact⟨by rw[A9I H2.out];rfl,0,rfl⟩
end
section
open Go.RowKit Go.Deep Go.ChangeShapes Go.WideShapes
theorem B9n {m:Int}{V:E7->List V3->V3}(hV:VOk m V)(wh W Wk Wx:Int)(nk:Nat)(au:Option Addr)(lu cu:Nat)(ev:Value)(es:List E7)(Fs:List Nat)(D:Nat)(v:Value)(cs:List C2)(F:List Nat)(w:World)(hr:C6 w v cs F)(hM:K2 Wk cs)(hnk:(nk:Int)<=Wk)(hm:w.cell? ⟨1,0,none⟩=some (.int .i64 m))(hes:es.length<=1)(hk0:C1 w D ev es Fs)(hok:∀e∈es,okE 13 e=true)(hne:∀e∈es,wtE e<=1048576):Calls Tryz.prog 112 #[.agg #[.int .i64 wh,.int .i64 W,.slice au lu cu,.int .i64 nk,ev],.agg #[.int .i64 Wx,v]] w fun q w'=>(∃u us' G',q=.returned (.agg #[.int .i64 W,u])/\C4 w' w.heap.size u (m5 V nk es cs) us' G')/\Below w.heap.size w w':=by
 obtain⟨i0,hi,hz0,hz1,M6⟩:=info_parts Tryz.infoCnt;obtain⟨ae,ce,rfl,_,_⟩:=hk0.shape;have h00:1<w.heap.size:=bl8 _ _ hm;have hal:=hM.all;obtain⟨a,c,b,o,G0,rfl,hl,hc,_,hG0,_,hC,ha⟩:=hr.pick;unfold maxLen at hc;have P4:∀k j,k<j->j<=cs.length->∃F',C6 w (.slice (some ⟨b,o+k*2,none⟩) (j -k) (c -k)) ((cs.drop k).take (j -k)) F':=fun k j hkj hj=>by
  obtain⟨rfl,_,_⟩:=ha k (by omega);exact hr.sub hkj hj
 have hGr:∀k j K,Run nk cs k j K->(∃x,cs[k]?=some x/\x.r.take nk=K)->∀X,Below w.heap.size w X->Calls Tryz.prog 141 #[.agg #[.int .i64 wh,.int .i64 W,.slice au lu cu,.int .i64 nk,.slice ae es.length ce],.slice (some ⟨b,o+k*2,none⟩) (j -k) (c -k)] X fun q w'=>(∃u g,q=.returned u/\D9 w' u (tR8 V es K ((cs.drop k).take (j -k))) g/\D5 w' X.heap.size g)/\Below X.heap.size X w':=fun k j K R9 hx X hX=>by
  obtain⟨F',hF'⟩:=P4 k j R9.lt R9.le;have h1:=R9.lt;have h2:=R9.le;have O9:∀y∈(cs.drop k).take (j -k),y∈cs:=fun y hy=>List.mem_of_mem_drop (List.mem_of_mem_take hy);refine B2t hV wh W nk au lu cu _ es Fs D _ _ F' X (hF'.below hX) (fun e=>by have:=congrArg List.length e;simp at this;omega) (by simp;omega) (fun y hy=>hal.2.2.2 y (O9 y hy)) (fun y hy=>⟨(hM.row y (O9 y hy)).2,by have:=(hM.row y (O9 y hy)).1;omega⟩) K (fun y hy=>?_) (((bc8 hX).1 1 0 h00).trans hm) hes (hk0.below hX) hok hne;rw[List.getElem?_take,if_pos (by omega),List.getElem?_drop,Nat.add_zero]at hy;obtain⟨x,hx,hxK⟩:=hx;rw[hx]at hy;have ex:x=y:=Option.some.inj hy;rw[<-ex];exact⟨by have:=(hM.row x (mg8 hx)).1;omega,hxK⟩
 have C5R:nk<=12:=by omega
 clear hr hk0 hok hne hm P4;go_enter Tryz.func112,Tryz.ntmps112;go_wp2_with fail;go_loopw [6] (fun i wr=> ∃ (M:World) (k:Nat) (y:Value) (us:List Value) (G:List (List Nat)) (acc:List C2),GdW M (w.heap.size+1+1) (w.heap.size+1+1+1+1) W acc y us G wr/\k<=cs.length/\i=.int .i64 k/\Edge nk cs k/\m5 V nk es cs=acc++((M7 nk none (cs.drop k)).map fun key=>(⟨tR8 V es key (E8 key cs),1⟩:C2))/\acc.length<=k/\Below w.heap.size w M/\M.cell? ⟨w.heap.size,0,none⟩=some (.int .i64 wh)/\M.cell? ⟨w.heap.size,1,none⟩=some (.int .i64 W)/\M.cell? ⟨w.heap.size,2,none⟩=some (.slice au lu cu)/\M.cell? ⟨w.heap.size,3,none⟩=some (.int .i64 nk)/\M.cell? ⟨w.heap.size,4,none⟩=some (.slice ae es.length ce)/\M.cell? ⟨w.heap.size+1,1,none⟩=some (.slice a cs.length c)) (fun i _=>cs.length - (intOf i).toNat)
 case atStart=>exact⟨_,0,.slice none 0 0,[],[],[],⟨by go_simp,by go_simp,fun q=>by go_simp,by go_simp,by go_simp,fun q=>by go_simp,C4.nil _ _,Below.refl _ _,fun b h1 h2=>by omega,Nat.le_refl _,by simp⟩,Nat.zero_le _,rfl,Run.end_,rfl,Nat.zero_le _,bex,by go_simp,by go_simp,by go_simp,by go_simp,by go_simp,by go_simp⟩
 case round=>
  obtain⟨M,k,y,us,G,acc,hS,hk,rfl,hE,hG,hacc,hbM,m0,m1,m2,m3,m4,m6⟩:=hrel;have HG:Hid (m5 V nk es cs=acc++((M7 nk none (cs.drop k)).map fun key=>(⟨tR8 V es key (E8 key cs),1⟩:C2))):=hG;clear hG;have C4f:=hS.big;have hzM:=bl8 _ _ m6;simp at hzM;have hb:Below w.heap.size w wr:=hbM.trans (hS.bel.mono (by omega));have k6:=(hS.bel.cell (p:=⟨w.heap.size+1,1,none⟩) (by show w.heap.size+1<w.heap.size+1+1;omega)).trans m6;have k3:=(hS.bel.cell (p:=⟨w.heap.size,3,none⟩) (by show w.heap.size<w.heap.size+1+1;omega)).trans m3;have hzb:=hb.size;obtain⟨ay,cy,rfl⟩:=hS.own.shape;by_cases hlt:k<cs.length
  ·obtain⟨rfl,hblt,_⟩:=ha k hlt;obtain⟨x,ux,gx,hx,_,cx0,hRx,_,_⟩:=hC.at hG0 hblt (Below.refl _ _) hlt;obtain⟨ax,nx,rfl⟩:=hRx.shape;have hxW:=(hM.row x (mg8 hx)).1;have hkx:nk<=x.r.length:=by omega
   have hnx:x.r.length<=nx/\nx<=9223372036854775807:=by obtain⟨a',c',ee,h1,h2,_⟩:=id hRx.is;injection ee with _ _ e3;subst e3;unfold maxLen at h2;exact⟨h1,by omega⟩
   have hkI:(k:Int)<cs.length:=by omega
   have C5C:(nk:Int)<=nx:=by omega
   have A9Z:=hRx.is.take hkx;go_wp2_with fail;go_loopw [7] (fun i wi=> ∃ (j:Nat),k<j/\j<=cs.length/\i=.int .i64 j/\(∀q z,k<=q->q<j->cs[q]?=some z->z.r.take nk=x.r.take nk)/\Below wr.heap.size wr wi) (fun i _=>cs.length - (intOf i).toNat)
   case atStart=>
    refine⟨k+1,by omega,by omega,by simp,fun q z h1 h2 hz=>?_,Below.refl _ _⟩;obtain rfl:q=k:=by omega
    rw[hx]at hz;cases hz;rfl
   case round=>
    obtain⟨wi,HWwi⟩:∃x,x=wr:=⟨wr,rfl⟩;subst HWwi;obtain⟨j,hkj,hjn0,rfl,hsame,hbi⟩:=hrel;have hzi:=hbi.size;have t6:=bt8 hbi k6;have t3:=bt8 hbi k3;have hbw:Below w.heap.size w wi:=hb.trans (hbi.mono hb.size);by_cases hjl:j<cs.length
    ·obtain⟨z,uz,gz,hzz,_,cz0,hRz,_,_⟩:=hC.at hG0 hblt hbw hjl;obtain⟨az,nz,rfl⟩:=hRz.shape;have hzW:=(hM.row z (mg8 hzz)).1;have hkz:nk<=z.r.length:=by omega
     have hnz:z.r.length<=nz/\nz<=9223372036854775807:=by obtain⟨a',c',ee,h1,h2,_⟩:=id hRz.is;injection ee with _ _ e3;subst e3;unfold maxLen at h2;exact⟨h1,by omega⟩
     have hjI:(j:Int)<cs.length:=by omega
     have C4P:(nk:Int)<=nz:=by omega
     have A9w:=hRz.is.take hkz;have cx1:=((bc8 hbw).1 _ _ hblt).trans cx0;have hEq:∀n,Calls Tryz.prog 140 #[.slice ax nk nx,.slice az nk nz] (wi.drewN n) fun e w'=>e=.returned (.bool (eqR (x.r.take nk) (z.r.take nk)))/\∃m,w'=(wi.drewN n).drewN m:=fun n=>B3G _ _ _ _ _ (A9Z.below (hbw.trans ((A3G _ _).mono hbw.size))) (A9w.below (A3G _ _));cases hT:eqR (x.r.take nk) (z.r.take nk)with
     |true=>
      rw[hT]at hEq;have hT':=A4L.1 hT;have hs2:∀q z',k<=q->q<j+1->cs[q]?=some z'->z'.r.take nk=x.r.take nk:=fun q z' h1 h2 h3=>by
       by_cases hq:q<j
       ·exact hsame q z' h1 hq h3
       ·obtain rfl:q=j:=by omega
        rw[hzz]at h3;cases h3;exact hT'.symm
      clear hT hT' hsame hC ha hRx hRz A9Z A9w hx hzz;go_wp2_with fail;go_quiet (first|(go_at_call 140;refine Calls.quiet_of (hEq _))|fail);go_wp2_with fail;exact⟨⟨j+1,by omega,hjl,by simp,hs2,⟨hbi.os,hbi.tape,hbi.output,hbi.size,hbi.block⟩⟩,by simp[intOf];omega⟩
     |false=>
      rw[hT]at hEq;have hT':¬x.r.take nk=z.r.take nk:=fun e=>by rw[A4L.2 e]at hT;cases hT
      clear hT;go_wp2_with fail;go_quiet (first|(go_at_call 140;refine Calls.quiet_of (hEq _))|fail);have hdq:=A3G wi nq;obtain⟨wq,hwq⟩:∃x,x=wi.drewN nq:=⟨_,rfl⟩;rw[<-hwq]at hdq⊢;have hbq:Below wr.heap.size wr wq:=hbi.trans (hdq.mono hzi);have hzq:=hbq.size;clear hwq hdq;have R9:Run nk cs k j (x.r.take nk):=⟨hkj,hjn0,hsame,fun z' hz' e=>by rw[hzz]at hz';cases hz';exact hT' e.symm⟩;have HK:=R9.keys;have HR:=R9.rows hM.toRaw hE hnk;have hE2:=R9.edge hM.toRaw hE;obtain⟨K,HKK⟩:∃K,Hid (x.r.take nk=K):=⟨_,rfl⟩;rw[HKK.out]at R9 HK HR;have hSi:=hS.below hbq;have A0e:=hGr k j K R9 ⟨x,hx,HKK.out⟩;obtain⟨rr,HRR⟩:∃rr,Hid (tR8 V es K ((cs.drop k).take (j -k))=rr):=⟨_,rfl⟩;rw[HRR.out]at A0e;have HG2:Hid (m5 V nk es cs=(acc++ [⟨rr,1⟩])++(M7 nk none (cs.drop j)).map fun key=>(⟨tR8 V es key (E8 key cs),1⟩:C2)):=by
       show _=_;rw[HG.out,HK,List.map_cons,HR,HRR.out,List.append_assoc];rfl
      have hjk:k<j:=R9.lt;have hjn:j<=cs.length:=R9.le;have hck:¬ (c=k):=by omega
      have B3Y:(k:Int)<=j:=by omega
      have C2j:(j:Int)<=c:=by omega
      have A3h:=hS.bel;have U1:Below (w.heap.size+1+1) M wq:=A3h.trans (hbq.mono (by have:=hS.big;omega));have i0':=((U0 U1).1 w.heap.size 0 (by omega)).trans m0;have i1':=((U0 U1).1 w.heap.size 1 (by omega)).trans m1;have i2':=((U0 U1).1 w.heap.size 2 (by omega)).trans m2;have i3':=((U0 U1).1 w.heap.size 3 (by omega)).trans m3;have i4':=((U0 U1).1 w.heap.size 4 (by omega)).trans m4;have i6':=((U0 U1).1 (w.heap.size+1) 1 (by omega)).trans m6;have j1':=hSi.p1;have jf:=hSi.pf;have hbig:=hSi.big;have A09:Below w.heap.size w wq:=hbM.trans (U1.mono (by omega));have hml:acc.length+1<=maxLen:=by unfold maxLen;omega
      have hby:(acc.length+1)*32<=140737488355328:=by omega
      have hKl:rr.length<=1048576:=by rw[<-HRR.out];unfold tR8;rw[<-HKK.out];simp;omega
      clear hGr R9 HK HR hC ha hS hx U1 A3h HKK;go_wp2_with fail;refine Z4 13 (fun w'=>w'.cell? ⟨w.heap.size,0,none⟩=some (.int .i64 wh)/\w'.cell? ⟨w.heap.size,1,none⟩=some (.int .i64 W)/\w'.cell? ⟨w.heap.size,2,none⟩=some (.slice au lu cu)/\w'.cell? ⟨w.heap.size,3,none⟩=some (.int .i64 nk)/\w'.cell? ⟨w.heap.size,4,none⟩=some (.slice ae es.length ce)/\w'.cell? ⟨w.heap.size+1,1,none⟩=some (.slice (some ⟨b,o,none⟩) cs.length c)/\w'.cell? ⟨w.heap.size+1+1+1,1,none⟩=some (.slice ay acc.length cy)) (by kernel_rfl) ?_ (fun hHeld=>?_)
      ·(try dsimp only);exact⟨i0',i1',i2',i3',i4',i6',j1'⟩
      refine tkE 0 47 rfl rfl ?_;refine tkE 1 48 rfl rfl ?_;refine tkE 2 49 rfl rfl ?_;refine tkE 3 50 rfl rfl ?_;refine tkE 4 51 rfl rfl ?_;refine tkE 5 52 rfl rfl ?_;refine tkE 6 53 rfl rfl ?_;refine tkE 7 54 rfl rfl ?_;refine A0y (i:=8) (by kernel_rfl) rfl (fun KK hKK=>?_);go_simp;go_at_call 141;refine cM8 (A0e _ bex) ?_;rintro q w2 ⟨⟨u2,g2,rfl,hR2,hO2⟩,hb2⟩;obtain⟨a2,n2,rfl⟩:=hR2.shape;have hz2:=hb2.size;simp at hz2;have C0:Below wq.heap.size wq w2:=bex;have q0:=bt8 C0 i0';have q1:=bt8 C0 i1';have q2:=bt8 C0 i2';have q3:=bt8 C0 i3';have q4:=bt8 C0 i4';have q6:=bt8 C0 i6';have q7:=bt8 C0 j1';try go_wp2_with fail
      refine hKK.out _ _ ?_ (fun U7=>?_)
      ·intro _
       (try dsimp only);exact⟨q0,q1,q2,q3,q4,q6,q7⟩
      clear hKK;replace U7:=U7 (by decide);refine tkE 9 56 rfl rfl ?_;refine A0y (i:=10) (by kernel_rfl) rfl (fun KK hKK=>?_);go_simp;refine hKK.out _ _ ?_ (fun W9=>?_)
      ·intro _
       (try dsimp only);exact⟨(cb8 ba8).trans q0,(cb8 ba8).trans q1,(cb8 ba8).trans q2,(cb8 ba8).trans q3,(cb8 ba8).trans q4,(cb8 ba8).trans q6,(cb8 ba8).trans q7⟩
      clear hKK;replace W9:=W9 (by decide);refine A0y (i:=11) (by kernel_rfl) rfl (fun KK hKK=>?_);have hS2:=hSi.below C0;have hyl:=oL8 hSi.own.own;refine step_append_lies _ (by rfl) _ _ _ (by rfl) (w.heap.size+1+1+1+1) 116 i0 _ 2 32 Tryz.underlying33 hi hz0 hz1 M6 rfl (by omega) (.slice ay acc.length cy) acc.length (cc us acc) (by rfl) (hS2.own.own.alloc _) ⟨w2.heap.size,0,none⟩ 1 1 [.slice a2 rr.length n2,.int .i64 1] (by rfl) (by rfl) (World.news_of_block (cs:=#[.slice a2 rr.length n2,.int .i64 1]) (t:=116) (fr:=(0,0)) (heap_alloc_new w2 _)) (by simp[Value.oneCell']) (by omega) hml hby (by simp;omega) (w2.heap.size+1) (by simp) ?_;intro gg cap w3 H5 hgrow hat j5;have hz3:=hgrow.size;simp at hz3;have A2L:(Value.slice (some ⟨gg,0,none⟩) (acc.length+1) cap).ownBlock=(Value.slice ay acc.length cy).ownBlock\/(Value.slice (some ⟨gg,0,none⟩) (acc.length+1) cap).ownBlock=some (w2.heap.size+1):=by
       rcases hat with h|h
       ·left;rw[h];rfl
       ·right;rw[h];rfl
      have far:∀t q,t<w.heap.size+1+1+1+1->w3.cell? ⟨t,q,none⟩=w2.cell? ⟨t,q,none⟩:=fun t q ht=>(cb8 (hgrow.block t (by simp;omega) (fun e=>by have:=(hyl t e.symm).1;omega))).trans (cb8 ba8);obtain⟨e7,hSp⟩:=GdW.push (x:=⟨rr,1⟩) hSi C0 hR2 ⟨hO2.1,fun t ht=>by have:=hO2.2.1 t ht;simp at this;omega,hO2.2.2⟩ H5 hgrow (by simpa using A2L);refine hKK.out _ _ ?_ (fun J3=>?_)
      ·intro _
       (try dsimp only);exact⟨(far _ _ (by omega)).trans q0,(far _ _ (by omega)).trans q1,(far _ _ (by omega)).trans q2,(far _ _ (by omega)).trans q3,(far _ _ (by omega)).trans q4,(far _ _ (by omega)).trans q6,(far _ _ (by omega)).trans q7⟩
      clear hKK;replace J3:=J3 (by decide);refine tkE 12 59 rfl rfl ?_;have f7:∀q,w3.frozen? ⟨w.heap.size+1+1+1,q,none⟩=false:=fun q=>by have:=hSp.pf q;simpa using this
      refine A0y (i:=13) (by kernel_rfl) rfl (fun KK hKK=>?_);go_simp;refine hKK.out _ _ ?_ (fun Y2=>?_)
      ·exact fun h=>absurd rfl h
      clear hKK Y2;refine V6 (by kernel_rfl) ?_ _;have A5s:(acc++ [(⟨rr,1⟩:C2)]).length<=j:=by simp;omega
      clear H5 hgrow hat A2L far hS2 hR2 hO2 hb2 hSi hHeld U7 W9 J3 A0e e7 q0 q1 q2 q3 q4 q6 q7 i0' i1' i2' i3' i4' i6' j1' C0;go_wp2_with fail;exact⟨⟨M,j,_,_,_,_,hSp,hjn,rfl,hE2,HG2.out,A5s,hbM,m0,m1,m2,m3,m4,m6⟩,by simp[intOf];omega⟩
    ·obtain rfl:j=cs.length:=by omega
     go_wp2_with fail;go_quiet (fail);have hdq:=A3G wi nq;obtain⟨wq,hwq⟩:∃x,x=wi.drewN nq:=⟨_,rfl⟩;rw[<-hwq]at hdq⊢;have hbq:Below wr.heap.size wr wq:=hbi.trans (hdq.mono hzi);have hzq:=hbq.size;clear hwq hdq;have R9:Run nk cs k cs.length (x.r.take nk):=⟨hkj,hjn0,hsame,fun z' hz'=>by rw[List.getElem?_eq_none lr8]at hz';cases hz'⟩;have HK:=R9.keys;have HR:=R9.rows hM.toRaw hE hnk;have hE2:=R9.edge hM.toRaw hE;obtain⟨K,HKK⟩:∃K,Hid (x.r.take nk=K):=⟨_,rfl⟩;rw[HKK.out]at R9 HK HR;have hSi:=hS.below hbq;have A0e:=hGr k cs.length K R9 ⟨x,hx,HKK.out⟩;obtain⟨rr,HRR⟩:∃rr,Hid (tR8 V es K ((cs.drop k).take (cs.length -k))=rr):=⟨_,rfl⟩;rw[HRR.out]at A0e;have HG2:Hid (m5 V nk es cs=(acc++ [⟨rr,1⟩])++(M7 nk none (cs.drop cs.length)).map fun key=>(⟨tR8 V es key (E8 key cs),1⟩:C2)):=by
      show _=_;rw[HG.out,HK,List.map_cons,HR,HRR.out,List.append_assoc];rfl
     have hjk:k<cs.length:=R9.lt;have hjn:cs.length<=cs.length:=R9.le;have hck:¬ (c=k):=by omega
     have B3Y:(k:Int)<=cs.length:=by omega
     have C2j:(cs.length:Int)<=c:=by omega
     have A3h:=hS.bel;have U1:Below (w.heap.size+1+1) M wq:=A3h.trans (hbq.mono (by have:=hS.big;omega));have i0':=((U0 U1).1 w.heap.size 0 (by omega)).trans m0;have i1':=((U0 U1).1 w.heap.size 1 (by omega)).trans m1;have i2':=((U0 U1).1 w.heap.size 2 (by omega)).trans m2;have i3':=((U0 U1).1 w.heap.size 3 (by omega)).trans m3;have i4':=((U0 U1).1 w.heap.size 4 (by omega)).trans m4;have i6':=((U0 U1).1 (w.heap.size+1) 1 (by omega)).trans m6;have j1':=hSi.p1;have jf:=hSi.pf;have hbig:=hSi.big;have A09:Below w.heap.size w wq:=hbM.trans (U1.mono (by omega));have hml:acc.length+1<=maxLen:=by unfold maxLen;omega
     have hby:(acc.length+1)*32<=140737488355328:=by omega
     have hKl:rr.length<=1048576:=by rw[<-HRR.out];unfold tR8;rw[<-HKK.out];simp;omega
     clear hGr R9 HK HR hC ha hS hx U1 A3h HKK;go_wp2_with fail;refine Z4 13 (fun w'=>w'.cell? ⟨w.heap.size,0,none⟩=some (.int .i64 wh)/\w'.cell? ⟨w.heap.size,1,none⟩=some (.int .i64 W)/\w'.cell? ⟨w.heap.size,2,none⟩=some (.slice au lu cu)/\w'.cell? ⟨w.heap.size,3,none⟩=some (.int .i64 nk)/\w'.cell? ⟨w.heap.size,4,none⟩=some (.slice ae es.length ce)/\w'.cell? ⟨w.heap.size+1,1,none⟩=some (.slice (some ⟨b,o,none⟩) cs.length c)/\w'.cell? ⟨w.heap.size+1+1+1,1,none⟩=some (.slice ay acc.length cy)) (by kernel_rfl) ?_ (fun hHeld=>?_)
     ·(try dsimp only);exact⟨i0',i1',i2',i3',i4',i6',j1'⟩
     refine tkE 0 47 rfl rfl ?_;refine tkE 1 48 rfl rfl ?_;refine tkE 2 49 rfl rfl ?_;refine tkE 3 50 rfl rfl ?_;refine tkE 4 51 rfl rfl ?_;refine tkE 5 52 rfl rfl ?_;refine tkE 6 53 rfl rfl ?_;refine tkE 7 54 rfl rfl ?_;refine A0y (i:=8) (by kernel_rfl) rfl (fun KK hKK=>?_);go_simp;go_at_call 141;refine cM8 (A0e _ bex) ?_;rintro q w2 ⟨⟨u2,g2,rfl,hR2,hO2⟩,hb2⟩;obtain⟨a2,n2,rfl⟩:=hR2.shape;have hz2:=hb2.size;simp at hz2;have C0:Below wq.heap.size wq w2:=bex;have q0:=bt8 C0 i0';have q1:=bt8 C0 i1';have q2:=bt8 C0 i2';have q3:=bt8 C0 i3';have q4:=bt8 C0 i4';have q6:=bt8 C0 i6';have q7:=bt8 C0 j1';try go_wp2_with fail
     refine hKK.out _ _ ?_ (fun U7=>?_)
     ·intro _
      (try dsimp only);exact⟨q0,q1,q2,q3,q4,q6,q7⟩
     clear hKK;replace U7:=U7 (by decide);refine tkE 9 56 rfl rfl ?_;refine A0y (i:=10) (by kernel_rfl) rfl (fun KK hKK=>?_);go_simp;refine hKK.out _ _ ?_ (fun W9=>?_)
     ·intro _
      (try dsimp only);exact⟨(cb8 ba8).trans q0,(cb8 ba8).trans q1,(cb8 ba8).trans q2,(cb8 ba8).trans q3,(cb8 ba8).trans q4,(cb8 ba8).trans q6,(cb8 ba8).trans q7⟩
     clear hKK;replace W9:=W9 (by decide);refine A0y (i:=11) (by kernel_rfl) rfl (fun KK hKK=>?_);have hS2:=hSi.below C0;have hyl:=oL8 hSi.own.own;refine step_append_lies _ (by rfl) _ _ _ (by rfl) (w.heap.size+1+1+1+1) 116 i0 _ 2 32 Tryz.underlying33 hi hz0 hz1 M6 rfl (by omega) (.slice ay acc.length cy) acc.length (cc us acc) (by rfl) (hS2.own.own.alloc _) ⟨w2.heap.size,0,none⟩ 1 1 [.slice a2 rr.length n2,.int .i64 1] (by rfl) (by rfl) (World.news_of_block (cs:=#[.slice a2 rr.length n2,.int .i64 1]) (t:=116) (fr:=(0,0)) (heap_alloc_new w2 _)) (by simp[Value.oneCell']) (by omega) hml hby (by simp;omega) (w2.heap.size+1) (by simp) ?_;intro gg cap w3 H5 hgrow hat j5;have hz3:=hgrow.size;simp at hz3;have A2L:(Value.slice (some ⟨gg,0,none⟩) (acc.length+1) cap).ownBlock=(Value.slice ay acc.length cy).ownBlock\/(Value.slice (some ⟨gg,0,none⟩) (acc.length+1) cap).ownBlock=some (w2.heap.size+1):=by
      rcases hat with h|h
      ·left;rw[h];rfl
      ·right;rw[h];rfl
     have far:∀t q,t<w.heap.size+1+1+1+1->w3.cell? ⟨t,q,none⟩=w2.cell? ⟨t,q,none⟩:=fun t q ht=>(cb8 (hgrow.block t (by simp;omega) (fun e=>by have:=(hyl t e.symm).1;omega))).trans (cb8 ba8);obtain⟨e7,hSp⟩:=GdW.push (x:=⟨rr,1⟩) hSi C0 hR2 ⟨hO2.1,fun t ht=>by have:=hO2.2.1 t ht;simp at this;omega,hO2.2.2⟩ H5 hgrow (by simpa using A2L);refine hKK.out _ _ ?_ (fun J3=>?_)
     ·intro _
      (try dsimp only);exact⟨(far _ _ (by omega)).trans q0,(far _ _ (by omega)).trans q1,(far _ _ (by omega)).trans q2,(far _ _ (by omega)).trans q3,(far _ _ (by omega)).trans q4,(far _ _ (by omega)).trans q6,(far _ _ (by omega)).trans q7⟩
     clear hKK;replace J3:=J3 (by decide);refine tkE 12 59 rfl rfl ?_;have f7:∀q,w3.frozen? ⟨w.heap.size+1+1+1,q,none⟩=false:=fun q=>by have:=hSp.pf q;simpa using this
     refine A0y (i:=13) (by kernel_rfl) rfl (fun KK hKK=>?_);go_simp;refine hKK.out _ _ ?_ (fun Y2=>?_)
     ·exact fun h=>absurd rfl h
     clear hKK Y2;refine V6 (by kernel_rfl) ?_ _;have A5s:(acc++ [(⟨rr,1⟩:C2)]).length<=cs.length:=by simp;omega
     clear H5 hgrow hat A2L far hS2 hR2 hO2 hb2 hSi hHeld U7 W9 J3 A0e e7 q0 q1 q2 q3 q4 q6 q7 i0' i1' i2' i3' i4' i6' j1' C0;go_wp2_with fail;exact⟨⟨M,cs.length,_,_,_,_,hSp,hjn,rfl,hE2,HG2.out,A5s,hbM,m0,m1,m2,m3,m4,m6⟩,by simp[intOf];omega⟩
  ·obtain rfl:k=cs.length:=by omega
   have HE:m5 V nk es cs=acc:=by have:=HG.out;rw[List.drop_length]at this;rw[this];exact List.append_nil _
   obtain⟨z0,z1,z2,z3,z4,z5,hBo,z6,z7,z8,A6b⟩:=hS;clear ha hC hGr;go_wp2;refine bodyPost_ret (v:=.agg #[.int .i64 W,.slice ay acc.length cy]) (by simp[results,Tryz.results112,go_sem, *]) rfl ⟨⟨_,us,G,rfl,?_⟩,?_⟩
   ·rw[HE];refine(hBo.keep (by simp) fun b hb _=>?_).weak (by omega);repeat rw[bS8 _ _ _ _ (by simp;omega)]
   ·exact bs8
theorem C1q (x:Value)(w:World):Sem.run Tryz.prog (Instr.typeAssert (.iface 178 x) 106 178 true) w=.ok (.tuple #[x,.bool true]) w:=by kernel_rfl
theorem C2W (x:Value)(w:World):Sem.run Tryz.prog (Instr.typeAssert (.iface 168 x) 106 178 true) w=.ok (.tuple #[.agg #[.int .i64 0,.int .i64 0,.slice none 0 0,.string ⟨#[]⟩,.int .i64 0,.slice none 0 0],.bool false]) w:=by kernel_rfl
theorem C2K (x:Value)(w:World):Sem.run Tryz.prog (Instr.typeAssert (.iface 168 x) 106 168 true) w=.ok (.tuple #[x,.bool true]) w:=by kernel_rfl
theorem B6G (x:Value)(w:World):Sem.run Tryz.prog (Instr.typeAssert (.iface 170 x) 106 178 true) w=.ok (.tuple #[.agg #[.int .i64 0,.int .i64 0,.slice none 0 0,.string ⟨#[]⟩,.int .i64 0,.slice none 0 0],.bool false]) w:=by kernel_rfl
theorem C1j (x:Value)(w:World):Sem.run Tryz.prog (Instr.typeAssert (.iface 170 x) 106 168 true) w=.ok (.tuple #[.agg #[.int .i64 0,.int .i64 0,.slice none 0 0,.int .i64 0,.int .i64 0,.int .i64 0,.int .i64 0,.string ⟨#[]⟩,.string ⟨#[]⟩,.slice none 0 0],.bool false]) w:=by kernel_rfl
theorem B70 (x:Value)(w:World):Sem.run Tryz.prog (Instr.typeAssert (.iface 170 x) 106 170 true) w=.ok (.tuple #[x,.bool true]) w:=by kernel_rfl
theorem B3z (x:Value)(w:World):Sem.run Tryz.prog (Instr.typeAssert (.iface 171 x) 106 178 true) w=.ok (.tuple #[.agg #[.int .i64 0,.int .i64 0,.slice none 0 0,.string ⟨#[]⟩,.int .i64 0,.slice none 0 0],.bool false]) w:=by kernel_rfl
theorem B81 (x:Value)(w:World):Sem.run Tryz.prog (Instr.typeAssert (.iface 171 x) 106 168 true) w=.ok (.tuple #[.agg #[.int .i64 0,.int .i64 0,.slice none 0 0,.int .i64 0,.int .i64 0,.int .i64 0,.int .i64 0,.string ⟨#[]⟩,.string ⟨#[]⟩,.slice none 0 0],.bool false]) w:=by kernel_rfl
theorem C3c (x:Value)(w:World):Sem.run Tryz.prog (Instr.typeAssert (.iface 171 x) 106 170 true) w=.ok (.tuple #[.agg #[.int .i64 0,.int .i64 0,.slice none 0 0,.slice none 0 0],.bool false]) w:=by kernel_rfl
theorem B8x (x:Value)(w:World):Sem.run Tryz.prog (Instr.typeAssert (.iface 171 x) 106 171 true) w=.ok (.tuple #[x,.bool true]) w:=by kernel_rfl
theorem B3E (x:Value)(w:World):Sem.run Tryz.prog (Instr.typeAssert (.iface 173 x) 106 178 true) w=.ok (.tuple #[.agg #[.int .i64 0,.int .i64 0,.slice none 0 0,.string ⟨#[]⟩,.int .i64 0,.slice none 0 0],.bool false]) w:=by kernel_rfl
theorem B3P (x:Value)(w:World):Sem.run Tryz.prog (Instr.typeAssert (.iface 173 x) 106 168 true) w=.ok (.tuple #[.agg #[.int .i64 0,.int .i64 0,.slice none 0 0,.int .i64 0,.int .i64 0,.int .i64 0,.int .i64 0,.string ⟨#[]⟩,.string ⟨#[]⟩,.slice none 0 0],.bool false]) w:=by kernel_rfl
theorem B7G (x:Value)(w:World):Sem.run Tryz.prog (Instr.typeAssert (.iface 173 x) 106 170 true) w=.ok (.tuple #[.agg #[.int .i64 0,.int .i64 0,.slice none 0 0,.slice none 0 0],.bool false]) w:=by kernel_rfl
theorem B9u (x:Value)(w:World):Sem.run Tryz.prog (Instr.typeAssert (.iface 173 x) 106 171 true) w=.ok (.tuple #[.agg #[.int .i64 0,.int .i64 0,.slice none 0 0,.int .i64 0,.int .i64 0,.int .i64 0,.int .i64 0,.string ⟨#[]⟩,.string ⟨#[]⟩,.slice none 0 0],.bool false]) w:=by kernel_rfl
theorem B2m (x:Value)(w:World):Sem.run Tryz.prog (Instr.typeAssert (.iface 173 x) 106 173 true) w=.ok (.tuple #[x,.bool true]) w:=by kernel_rfl
theorem B7K (x:Value)(w:World):Sem.run Tryz.prog (Instr.typeAssert (.iface 174 x) 106 178 true) w=.ok (.tuple #[.agg #[.int .i64 0,.int .i64 0,.slice none 0 0,.string ⟨#[]⟩,.int .i64 0,.slice none 0 0],.bool false]) w:=by kernel_rfl
theorem B4x (x:Value)(w:World):Sem.run Tryz.prog (Instr.typeAssert (.iface 174 x) 106 168 true) w=.ok (.tuple #[.agg #[.int .i64 0,.int .i64 0,.slice none 0 0,.int .i64 0,.int .i64 0,.int .i64 0,.int .i64 0,.string ⟨#[]⟩,.string ⟨#[]⟩,.slice none 0 0],.bool false]) w:=by kernel_rfl
theorem B8f (x:Value)(w:World):Sem.run Tryz.prog (Instr.typeAssert (.iface 174 x) 106 170 true) w=.ok (.tuple #[.agg #[.int .i64 0,.int .i64 0,.slice none 0 0,.slice none 0 0],.bool false]) w:=by kernel_rfl
theorem C0C (x:Value)(w:World):Sem.run Tryz.prog (Instr.typeAssert (.iface 174 x) 106 171 true) w=.ok (.tuple #[.agg #[.int .i64 0,.int .i64 0,.slice none 0 0,.int .i64 0,.int .i64 0,.int .i64 0,.int .i64 0,.string ⟨#[]⟩,.string ⟨#[]⟩,.slice none 0 0],.bool false]) w:=by kernel_rfl
theorem C3l (x:Value)(w:World):Sem.run Tryz.prog (Instr.typeAssert (.iface 174 x) 106 173 true) w=.ok (.tuple #[.agg #[.int .i64 0,.int .i64 0,.slice none 0 0],.bool false]) w:=by kernel_rfl
theorem C0h (x:Value)(w:World):Sem.run Tryz.prog (Instr.typeAssert (.iface 174 x) 106 174 true) w=.ok (.tuple #[x,.bool true]) w:=by kernel_rfl
theorem B5e (x:Value)(w:World):Sem.run Tryz.prog (Instr.typeAssert (.iface 176 x) 106 178 true) w=.ok (.tuple #[.agg #[.int .i64 0,.int .i64 0,.slice none 0 0,.string ⟨#[]⟩,.int .i64 0,.slice none 0 0],.bool false]) w:=by kernel_rfl
theorem B7Y (x:Value)(w:World):Sem.run Tryz.prog (Instr.typeAssert (.iface 176 x) 106 168 true) w=.ok (.tuple #[.agg #[.int .i64 0,.int .i64 0,.slice none 0 0,.int .i64 0,.int .i64 0,.int .i64 0,.int .i64 0,.string ⟨#[]⟩,.string ⟨#[]⟩,.slice none 0 0],.bool false]) w:=by kernel_rfl
theorem B31 (x:Value)(w:World):Sem.run Tryz.prog (Instr.typeAssert (.iface 176 x) 106 170 true) w=.ok (.tuple #[.agg #[.int .i64 0,.int .i64 0,.slice none 0 0,.slice none 0 0],.bool false]) w:=by kernel_rfl
theorem B4g (x:Value)(w:World):Sem.run Tryz.prog (Instr.typeAssert (.iface 176 x) 106 171 true) w=.ok (.tuple #[.agg #[.int .i64 0,.int .i64 0,.slice none 0 0,.int .i64 0,.int .i64 0,.int .i64 0,.int .i64 0,.string ⟨#[]⟩,.string ⟨#[]⟩,.slice none 0 0],.bool false]) w:=by kernel_rfl
theorem C3O (x:Value)(w:World):Sem.run Tryz.prog (Instr.typeAssert (.iface 176 x) 106 173 true) w=.ok (.tuple #[.agg #[.int .i64 0,.int .i64 0,.slice none 0 0],.bool false]) w:=by kernel_rfl
theorem B6A (x:Value)(w:World):Sem.run Tryz.prog (Instr.typeAssert (.iface 176 x) 106 174 true) w=.ok (.tuple #[.agg #[.int .i64 0,.int .i64 0,.slice none 0 0],.bool false]) w:=by kernel_rfl
theorem C20 (x:Value)(w:World):Sem.run Tryz.prog (Instr.typeAssert (.iface 176 x) 106 176 true) w=.ok (.tuple #[x,.bool true]) w:=by kernel_rfl
theorem B4H {w:World}(W:Int)(au:Option Addr)(lu cu:Nat)(s:ByteArray)(ub:Value)(cs:List C2)(F:List Nat)(a:Option Addr)(n cp:Nat)(hr:C6 w ub cs F)(hn:wtb cs<=1048576):Calls Tryz.prog 84 #[.iface 178 (.agg #[.int .i64 0,.int .i64 W,.slice au lu cu,.string s,.int .i64 W,ub]),.slice a n cp] w fun q w'=>(∃u us' G',q=.returned (.agg #[.int .i64 W,u])/\C4 w' w.heap.size u cs us' G')/\Below w.heap.size w w':=by
 obtain⟨av,lv,cv,rfl⟩:=hr.is.shape;have hF:=fun(X:World) (hX:Below w.heap.size w X)=>B3b W _ cs F X (hr.below hX) hn;clear hr;have hA0:=C1q;go_enter Tryz.func84,Tryz.ntmps84;go_wp2_with(go_at_call 106;refine cM8 (hF _ bex) ?_;rintro z w2 ⟨⟨u2,us2,G2,rfl,hB2⟩,hb2⟩;have hz2:=hb2.size;(try simp at hz2);obtain⟨a2,c2',rfl⟩:=hB2.shape;have r0:w2.cell? ⟨w.heap.size,0,none⟩=some (.int .i64 0):=cl8 hb2;have r1:w2.cell? ⟨w.heap.size,1,none⟩=some (.slice none 0 0):=cl8 hb2;have rf:∀q,w2.frozen? ⟨w.heap.size,q,none⟩=false:=fun q=>((bc8 hb2).2 _ q (by simp;try omega)).trans (by go_simp));have C0:Below w.heap.size w w2:=bex;clear hF hb2;go_wp2_with fail;refine bodyPost_ret (v:=.agg #[.int .i64 W,.slice a2 cs.length c2']) (by simp[results,Tryz.results84,go_sem, *]) rfl ⟨⟨_,us2,G2,rfl,(hB2.keep (by simp) fun b hb _=>?_).weak (by simp;try omega)⟩,?_⟩
 ·(try simp at hb);repeat rw[bS8 _ _ _ _ (by simp;omega)]
 ·exact bs8
theorem C21 {m:Int}{V:E7->List V3->V3}(hV:VOk m V){w:World}(W:Int)(au:Option Addr)(lu cu:Nat)(e:E7)(ue:Value)(Fe:List Nat)(D:Nat)(hm:w.cell? ⟨1,0,none⟩=some (.int .i64 m))(he:e.wf)(hok:okE 13 e=true)(hne:wtE e<=1048576)(hk0:C1 w D ue e.ks Fe)(K cp:Nat)(hcp:1<=cp/\cp<=maxLen)(Wx:Int)(v:Value)(cs:List C2)(c0:w.cell? ⟨K,0,none⟩=some (.int .i64 Wx))(c1:w.cell? ⟨K,1,none⟩=some v)(F:List Nat)(hr:C6 w v cs F)(N:Nat)(hO:D5 w N F)(hN:N<=w.heap.size)(hn:cs.length<=1048576)(J5:∀c∈cs,N8 c.r):Calls Tryz.prog 84 #[.iface 168 (.agg #[.int .i64 1,.int .i64 W,.slice au lu cu,.int .i64 e.k,.int .i64 e.n,.int .i64 e.v.k,.int .i64 e.v.n,.string e.v.s,.string e.p,ue]),.slice (some ⟨K,0,none⟩) 1 cp] w fun q w'=>(∃u us' G',q=.returned (.agg #[.int .i64 W,u])/\C4 w' N u (M9 V e cs) us' G')/\Below w.heap.size w w':=by
 have hKl:K<w.heap.size:=bl8 _ _ c0;have h00:1<w.heap.size:=bl8 _ _ hm;obtain⟨ae,ce,rfl,_,_⟩:=hk0.shape;obtain⟨us,G,hB,_⟩:=hr.src hO;obtain⟨av,cv,rfl⟩:=hB.shape;have hGl:=hB.lt;have A0N:=hcp.2;unfold maxLen at A0N;have hF:=fun(X:World) (hX:Below w.heap.size w X)=>B8o hV 1 W Wx au lu cu e _ Fe D _ cs us G N X (hB.below hX) (Nat.le_trans hN hX.size) hn (((bc8 hX).1 1 0 h00).trans hm) he hok hne (hk0.below hX) J5;clear hB hk0 hm hr;have hA0:=C2W;have hA1:=C2K;go_enter Tryz.func84,Tryz.ntmps84;go_wp2_with fail;go_region_held3 (fun w'=>w'.cell? ⟨w.heap.size+1,0,none⟩=some (.int .i64 1)/\w'.cell? ⟨w.heap.size+1,1,none⟩=some (.int .i64 W)/\w'.cell? ⟨w.heap.size+1,2,none⟩=some (.slice au lu cu)/\w'.cell? ⟨w.heap.size+1,3,none⟩=some (.int .i64 e.k)/\w'.cell? ⟨w.heap.size+1,4,none⟩=some (.int .i64 e.n)/\w'.cell? ⟨w.heap.size+1,5,none⟩=some (.int .i64 e.v.k)/\w'.cell? ⟨w.heap.size+1,6,none⟩=some (.int .i64 e.v.n)/\w'.cell? ⟨w.heap.size+1,7,none⟩=some (.string e.v.s)/\w'.cell? ⟨w.heap.size+1,8,none⟩=some (.string e.p)/\w'.cell? ⟨w.heap.size+1,9,none⟩=some (.slice ae e.ks.length ce)/\w'.cell? ⟨K,0,none⟩=some (.int .i64 Wx)/\w'.cell? ⟨K,1,none⟩=some (.slice av cs.length cv)) (refine⟨?_,?_,?_,?_,?_,?_,?_,?_,?_,?_,?_,?_⟩<;>exact kp8) (first|(go_at_call 107;refine cM8 (hF _ bex) ?_;rintro z w2 ⟨⟨u2,us2,G2,rfl,hB2,hyb,P4⟩,hb2⟩;have hz2:=hb2.size;(try simp at hz2);obtain⟨a2,c2',rfl⟩:=hB2.shape;have r0:w2.cell? ⟨w.heap.size,0,none⟩=some (.int .i64 0):=cl8 hb2;have r1:w2.cell? ⟨w.heap.size,1,none⟩=some (.slice none 0 0):=cl8 hb2;have rf:∀q,w2.frozen? ⟨w.heap.size,q,none⟩=false:=fun q=>((bc8 hb2).2 _ q (by simp;try omega)).trans (by go_simp)))
 have C0:Below w.heap.size w w2:=bex;clear hF hb2;go_wp2_with fail;refine bodyPost_ret (v:=.agg #[.int .i64 W,.slice a2 (M9 V e cs).length c2']) (by simp[results,Tryz.results84,go_sem, *]) rfl ⟨⟨_,us2,G2,rfl,hB2.keepO (by simp) (fun t ht=>?_) (fun t ht=>?_)⟩,?_⟩
 ·have:=hyb t ht;(try simp at this);repeat rw[bS8 _ _ _ _ (by simp;omega)]
 ·have:=hGl t (P4 t ht);repeat rw[bS8 _ _ _ _ (by simp;omega)]
 ·exact bs8
theorem B86 {m:Int}{V:E7->List V3->V3}(hV:VOk m V){w:World}(W:Int)(au:Option Addr)(lu cu:Nat)(Wk:Int)(ue:Value)(es:List E7)(Fs:List Nat)(D:Nat)(hm:w.cell? ⟨1,0,none⟩=some (.int .i64 m))(hk0:C1 w D ue es Fs)(hok:∀e∈es,okE 13 e=true)(hne:∀e∈es,wtE e<=1048576)(hel:es.length<=12)(K cp:Nat)(hcp:1<=cp/\cp<=maxLen)(Wx:Int)(v:Value)(cs:List C2)(c0:w.cell? ⟨K,0,none⟩=some (.int .i64 Wx))(c1:w.cell? ⟨K,1,none⟩=some v)(F:List Nat)(hr:C6 w v cs F)(hM:K2 Wk cs):Calls Tryz.prog 84 #[.iface 170 (.agg #[.int .i64 2,.int .i64 W,.slice au lu cu,ue]),.slice (some ⟨K,0,none⟩) 1 cp] w fun q w'=>(∃u us' G',q=.returned (.agg #[.int .i64 W,u])/\C4 w' w.heap.size u (R7 V es cs) us' G')/\Below w.heap.size w w':=by
 have hKl:K<w.heap.size:=bl8 _ _ c0;have h00:1<w.heap.size:=bl8 _ _ hm;obtain⟨ae,ce,rfl,_,_⟩:=hk0.shape;obtain⟨av,lv,cv,rfl⟩:=hr.is.shape;have A0N:=hcp.2;unfold maxLen at A0N;have hF:=fun(X:World) (hX:Below w.heap.size w X)=>B8B hV 2 W Wk Wx au lu cu _ es Fs D _ cs F X (hr.below hX) hM (((bc8 hX).1 1 0 h00).trans hm) (hk0.below hX) hel hok hne;clear hr hk0 hm;have hA0:=B6G;have hA1:=C1j;have hA2:=B70;go_enter Tryz.func84,Tryz.ntmps84;go_wp2_with fail;go_region_held3 (fun w'=>w'.cell? ⟨w.heap.size+1,0,none⟩=some (.int .i64 2)/\w'.cell? ⟨w.heap.size+1,1,none⟩=some (.int .i64 W)/\w'.cell? ⟨w.heap.size+1,2,none⟩=some (.slice au lu cu)/\w'.cell? ⟨w.heap.size+1,3,none⟩=some (.slice ae es.length ce)/\w'.cell? ⟨K,0,none⟩=some (.int .i64 Wx)/\w'.cell? ⟨K,1,none⟩=some (.slice av lv cv)) (refine⟨?_,?_,?_,?_,?_,?_⟩<;>exact kp8) (first|(go_at_call 108;refine cM8 (hF _ bex) ?_;rintro z w2 ⟨⟨u2,us2,G2,rfl,hB2⟩,hb2⟩;have hz2:=hb2.size;(try simp at hz2);obtain⟨a2,c2',rfl⟩:=hB2.shape;have r0:w2.cell? ⟨w.heap.size,0,none⟩=some (.int .i64 0):=cl8 hb2;have r1:w2.cell? ⟨w.heap.size,1,none⟩=some (.slice none 0 0):=cl8 hb2;have rf:∀q,w2.frozen? ⟨w.heap.size,q,none⟩=false:=fun q=>((bc8 hb2).2 _ q (by simp;try omega)).trans (by go_simp)));have C0:Below w.heap.size w w2:=bex;clear hF hb2;go_wp2_with fail;refine bodyPost_ret (v:=.agg #[.int .i64 W,.slice a2 (R7 V es cs).length c2']) (by simp[results,Tryz.results84,go_sem, *]) rfl ⟨⟨_,us2,G2,rfl,(hB2.keep (by simp) fun b hb _=>?_).weak (by simp;try omega)⟩,?_⟩
 ·(try simp at hb);repeat rw[bS8 _ _ _ _ (by simp;omega)]
 ·exact bs8
theorem B7L {m:Int}{V:E7->List V3->V3}(hV:VOk m V){w:World}(W:Int)(au:Option Addr)(lu cu:Nat)(Wk:Int)(e:E7)(ue:Value)(Fe:List Nat)(D:Nat)(hm:w.cell? ⟨1,0,none⟩=some (.int .i64 m))(he:e.wf)(hok:okE 13 e=true)(hne:wtE e<=1048576)(hk0:C1 w D ue e.ks Fe)(K cp:Nat)(hcp:2<=cp/\cp<=maxLen)(Wx:Int)(v:Value)(cs:List C2)(c0:w.cell? ⟨K,0,none⟩=some (.int .i64 Wx))(c1:w.cell? ⟨K,1,none⟩=some v)(Ul Ux:Int)(v':Value)(ds:List C2)(c2:w.cell? ⟨K,2,none⟩=some (.int .i64 Ux))(c3:w.cell? ⟨K,3,none⟩=some v')(F:List Nat)(hr:C6 w v cs F)(hM:K2 Wk cs)(F':List Nat)(hr':C6 w v' ds F')(hM':K2 Ul ds):Calls Tryz.prog 84 #[.iface 171 (.agg #[.int .i64 3,.int .i64 W,.slice au lu cu,.int .i64 e.k,.int .i64 e.n,.int .i64 e.v.k,.int .i64 e.v.n,.string e.v.s,.string e.p,ue]),.slice (some ⟨K,0,none⟩) 2 cp] w fun q w'=>(∃u l us' G',q=.returned (.agg #[.int .i64 W,u])/\C4 w' w.heap.size u l us' G'/\(l=K9 V e cs ds\/400<l.length/\∃t,K9 V e cs ds=l++t))/\Below w.heap.size w w':=by
 have hKl:K<w.heap.size:=bl8 _ _ c0;have h00:1<w.heap.size:=bl8 _ _ hm;obtain⟨ae,ce,rfl,_,_⟩:=hk0.shape;obtain⟨av,lv,cv,rfl⟩:=hr.is.shape;obtain⟨av',lv',cv',rfl⟩:=hr'.is.shape;have A0N:=hcp.2;unfold maxLen at A0N;have hF:=fun(X:World) (hX:Below w.heap.size w X)=>B9S hV 3 W Wk Ul Wx Ux au lu cu e _ Fe D _ _ cs ds F F' X (hr.below hX) (hr'.below hX) hM hM' (((bc8 hX).1 1 0 h00).trans hm) he hok hne (hk0.below hX);clear hr hr' hk0 hm;have hA0:=B3z;have hA1:=B81;have hA2:=C3c;have hA3:=B8x;go_enter Tryz.func84,Tryz.ntmps84;go_wp2_with fail;go_region_held3 (fun w'=>w'.cell? ⟨w.heap.size+1,0,none⟩=some (.int .i64 3)/\w'.cell? ⟨w.heap.size+1,1,none⟩=some (.int .i64 W)/\w'.cell? ⟨w.heap.size+1,2,none⟩=some (.slice au lu cu)/\w'.cell? ⟨w.heap.size+1,3,none⟩=some (.int .i64 e.k)/\w'.cell? ⟨w.heap.size+1,4,none⟩=some (.int .i64 e.n)/\w'.cell? ⟨w.heap.size+1,5,none⟩=some (.int .i64 e.v.k)/\w'.cell? ⟨w.heap.size+1,6,none⟩=some (.int .i64 e.v.n)/\w'.cell? ⟨w.heap.size+1,7,none⟩=some (.string e.v.s)/\w'.cell? ⟨w.heap.size+1,8,none⟩=some (.string e.p)/\w'.cell? ⟨w.heap.size+1,9,none⟩=some (.slice ae e.ks.length ce)/\w'.cell? ⟨K,0,none⟩=some (.int .i64 Wx)/\w'.cell? ⟨K,1,none⟩=some (.slice av lv cv)/\w'.cell? ⟨K,2,none⟩=some (.int .i64 Ux)/\w'.cell? ⟨K,3,none⟩=some (.slice av' lv' cv')) (refine⟨?_,?_,?_,?_,?_,?_,?_,?_,?_,?_,?_,?_,?_,?_⟩<;>exact kp8) (first|(go_at_call 109;refine cM8 (hF _ bex) ?_;rintro z w2 ⟨⟨u2,l2,us2,G2,rfl,hB2,hl⟩,hb2⟩;have hz2:=hb2.size;(try simp at hz2);obtain⟨a2,c2',rfl⟩:=hB2.shape;have r0:w2.cell? ⟨w.heap.size,0,none⟩=some (.int .i64 0):=cl8 hb2;have r1:w2.cell? ⟨w.heap.size,1,none⟩=some (.slice none 0 0):=cl8 hb2;have rf:∀q,w2.frozen? ⟨w.heap.size,q,none⟩=false:=fun q=>((bc8 hb2).2 _ q (by simp;try omega)).trans (by go_simp)))
 have C0:Below w.heap.size w w2:=bex;clear hF hb2;go_wp2_with fail;refine bodyPost_ret (v:=.agg #[.int .i64 W,.slice a2 l2.length c2']) (by simp[results,Tryz.results84,go_sem, *]) rfl ⟨⟨_,l2,us2,G2,rfl,(hB2.keep (by simp) fun b hb _=>?_).weak (by simp;try omega),hl⟩,?_⟩
 ·(try simp at hb);repeat rw[bS8 _ _ _ _ (by simp;omega)]
 ·exact bs8
theorem B4Q {w:World}(W:Int)(au:Option Addr)(lu cu:Nat)(K cp:Nat)(hcp:2<=cp/\cp<=maxLen)(Wx:Int)(v:Value)(cs:List C2)(c0:w.cell? ⟨K,0,none⟩=some (.int .i64 Wx))(c1:w.cell? ⟨K,1,none⟩=some v)(Ul Ux:Int)(v':Value)(ds:List C2)(c2:w.cell? ⟨K,2,none⟩=some (.int .i64 Ux))(c3:w.cell? ⟨K,3,none⟩=some v')(F:List Nat)(hr:C6 w v cs F)(F':List Nat)(hr':C6 w v' ds F')(hX:Wx=W)(hX':Ux=W)(hn:wtb cs<=1048576)(hn2:wtb ds<=1048576)(hW:W<=12)(hgc:∀c∈cs,gR8 W c.r)(hgd:∀c∈ds,gR8 W c.r)(hS:A2q (cs++ds)):Calls Tryz.prog 84 #[.iface 173 (.agg #[.int .i64 4,.int .i64 W,.slice au lu cu]),.slice (some ⟨K,0,none⟩) 2 cp] w fun q w'=>(∃xs u us' G',q=.returned (.agg #[.int .i64 W,u])/\A01 W (cs++ds) xs/\C4 w' w.heap.size u xs us' G')/\Below w.heap.size w w':=by
 subst Wx Ux;have hKl:K<w.heap.size:=bl8 _ _ c0;obtain⟨av,lv,cv,rfl⟩:=hr.is.shape;obtain⟨av',lv',cv',rfl⟩:=hr'.is.shape;have A0N:=hcp.2;unfold maxLen at A0N;have hF:=fun(X:World) (hX:Below w.heap.size w X)=>B6R cp hcp.1 hcp.2 W _ _ cs ds F F' X K (((bc8 hX).1 K 0 hKl).trans c0) (((bc8 hX).1 K 1 hKl).trans c1) (((bc8 hX).1 K 2 hKl).trans c2) (((bc8 hX).1 K 3 hKl).trans c3) (Nat.lt_of_lt_of_le hKl hX.size) (hr.below hX) (hr'.below hX) hn hn2 hW hgc hgd hS;clear hr hr';have hA0:=B3E;have hA1:=B3P;have hA2:=B7G;have hA3:=B9u;have hA4:=B2m;go_enter Tryz.func84,Tryz.ntmps84;go_wp2_with(go_at_call 110;refine cM8 (hF _ bex) ?_;rintro z w2 ⟨⟨l2,u2,us2,G2,rfl,k9,hB2⟩,hb2⟩;have hz2:=hb2.size;(try simp at hz2);obtain⟨a2,c2',rfl⟩:=hB2.shape;have r0:w2.cell? ⟨w.heap.size,0,none⟩=some (.int .i64 0):=cl8 hb2;have r1:w2.cell? ⟨w.heap.size,1,none⟩=some (.slice none 0 0):=cl8 hb2;have rf:∀q,w2.frozen? ⟨w.heap.size,q,none⟩=false:=fun q=>((bc8 hb2).2 _ q (by simp;try omega)).trans (by go_simp));have C0:Below w.heap.size w w2:=bex;clear hF hb2;go_wp2_with fail;refine bodyPost_ret (v:=.agg #[.int .i64 W,.slice a2 l2.length c2']) (by simp[results,Tryz.results84,go_sem, *]) rfl ⟨⟨l2,_,us2,G2,rfl,k9,(hB2.keep (by simp) fun b hb _=>?_).weak (by simp;try omega)⟩,?_⟩
 ·(try simp at hb);repeat rw[bS8 _ _ _ _ (by simp;omega)]
 ·exact bs8
theorem B5S {w:World}(W:Int)(au:Option Addr)(lu cu:Nat)(K cp:Nat)(hcp:1<=cp/\cp<=maxLen)(Wx:Int)(v:Value)(cs:List C2)(c0:w.cell? ⟨K,0,none⟩=some (.int .i64 Wx))(c1:w.cell? ⟨K,1,none⟩=some v)(F:List Nat)(hr:C6 w v cs F)(N:Nat)(hO:D5 w N F)(hN:N<=w.heap.size)(hn:cs.length<=1048576):Calls Tryz.prog 84 #[.iface 174 (.agg #[.int .i64 5,.int .i64 W,.slice au lu cu]),.slice (some ⟨K,0,none⟩) 1 cp] w fun q w'=>(∃u us' G',q=.returned (.agg #[.int .i64 W,u])/\C4 w' N u (R8 cs) us' G')/\Below w.heap.size w w':=by
 have hKl:K<w.heap.size:=bl8 _ _ c0;obtain⟨us,G,hB,_⟩:=hr.src hO;obtain⟨av,cv,rfl⟩:=hB.shape;have hGl:=hB.lt;have A0N:=hcp.2;unfold maxLen at A0N;have hF:=fun(X:World) (hX:Below w.heap.size w X)=>B4A 5 W Wx au lu cu _ cs us G N X (hB.below hX) (Nat.le_trans hN hX.size) hn;clear hB hr;have hA0:=B7K;have hA1:=B4x;have hA2:=B8f;have hA3:=C0C;have hA4:=C3l;have hA5:=C0h;go_enter Tryz.func84,Tryz.ntmps84;go_wp2_with fail;go_region_held3 (fun w'=>w'.cell? ⟨w.heap.size+1,0,none⟩=some (.int .i64 5)/\w'.cell? ⟨w.heap.size+1,1,none⟩=some (.int .i64 W)/\w'.cell? ⟨w.heap.size+1,2,none⟩=some (.slice au lu cu)/\w'.cell? ⟨K,0,none⟩=some (.int .i64 Wx)/\w'.cell? ⟨K,1,none⟩=some (.slice av cs.length cv)) (refine⟨?_,?_,?_,?_,?_⟩<;>exact kp8) (first|(go_at_call 111;refine cM8 (hF _ bex) ?_;rintro z w2 ⟨⟨u2,us2,G2,rfl,hB2,hyb,P4⟩,hb2⟩;have hz2:=hb2.size;(try simp at hz2);obtain⟨a2,c2',rfl⟩:=hB2.shape;have r0:w2.cell? ⟨w.heap.size,0,none⟩=some (.int .i64 0):=cl8 hb2;have r1:w2.cell? ⟨w.heap.size,1,none⟩=some (.slice none 0 0):=cl8 hb2;have rf:∀q,w2.frozen? ⟨w.heap.size,q,none⟩=false:=fun q=>((bc8 hb2).2 _ q (by simp;try omega)).trans (by go_simp)));have C0:Below w.heap.size w w2:=bex;clear hF hb2;go_wp2_with fail;refine bodyPost_ret (v:=.agg #[.int .i64 W,.slice a2 (R8 cs).length c2']) (by simp[results,Tryz.results84,go_sem, *]) rfl ⟨⟨_,us2,G2,rfl,hB2.keepO (by simp) (fun t ht=>?_) (fun t ht=>?_)⟩,?_⟩
 ·have:=hyb t ht;(try simp at this);repeat rw[bS8 _ _ _ _ (by simp;omega)]
 ·have:=hGl t (P4 t ht);repeat rw[bS8 _ _ _ _ (by simp;omega)]
 ·exact bs8
theorem C3M {m:Int}{V:E7->List V3->V3}(hV:VOk m V){w:World}(W:Int)(au:Option Addr)(lu cu:Nat)(Wk:Int)(nk:Nat)(hnk:(nk:Int)<=Wk)(ue:Value)(es:List E7)(Fs:List Nat)(D:Nat)(hm:w.cell? ⟨1,0,none⟩=some (.int .i64 m))(hk0:C1 w D ue es Fs)(hok:∀e∈es,okE 13 e=true)(hne:∀e∈es,wtE e<=1048576)(hel:es.length<=1)(K cp:Nat)(hcp:1<=cp/\cp<=maxLen)(Wx:Int)(v:Value)(cs:List C2)(c0:w.cell? ⟨K,0,none⟩=some (.int .i64 Wx))(c1:w.cell? ⟨K,1,none⟩=some v)(F:List Nat)(hr:C6 w v cs F)(hM:K2 Wk cs):Calls Tryz.prog 84 #[.iface 176 (.agg #[.int .i64 6,.int .i64 W,.slice au lu cu,.int .i64 nk,ue]),.slice (some ⟨K,0,none⟩) 1 cp] w fun q w'=>(∃u us' G',q=.returned (.agg #[.int .i64 W,u])/\C4 w' w.heap.size u (m5 V nk es cs) us' G')/\Below w.heap.size w w':=by
 have hKl:K<w.heap.size:=bl8 _ _ c0;have h00:1<w.heap.size:=bl8 _ _ hm;obtain⟨ae,ce,rfl,_,_⟩:=hk0.shape;obtain⟨av,lv,cv,rfl⟩:=hr.is.shape;have A0N:=hcp.2;unfold maxLen at A0N;have hF:=fun(X:World) (hX:Below w.heap.size w X)=>B9n hV 6 W Wk Wx nk au lu cu _ es Fs D _ cs F X (hr.below hX) hM hnk (((bc8 hX).1 1 0 h00).trans hm) hel (hk0.below hX) hok hne;clear hr hk0 hm;have hA0:=B5e;have hA1:=B7Y;have hA2:=B31;have hA3:=B4g;have hA4:=C3O;have hA5:=B6A;have hA6:=C20;go_enter Tryz.func84,Tryz.ntmps84;go_wp2_with fail;go_region_held3 (fun w'=>w'.cell? ⟨w.heap.size+1,0,none⟩=some (.int .i64 6)/\w'.cell? ⟨w.heap.size+1,1,none⟩=some (.int .i64 W)/\w'.cell? ⟨w.heap.size+1,2,none⟩=some (.slice au lu cu)/\w'.cell? ⟨w.heap.size+1,3,none⟩=some (.int .i64 nk)/\w'.cell? ⟨w.heap.size+1,4,none⟩=some (.slice ae es.length ce)/\w'.cell? ⟨K,0,none⟩=some (.int .i64 Wx)/\w'.cell? ⟨K,1,none⟩=some (.slice av lv cv)) (refine⟨?_,?_,?_,?_,?_,?_,?_⟩<;>exact kp8) (first|(go_at_call 112;refine cM8 (hF _ bex) ?_;rintro z w2 ⟨⟨u2,us2,G2,rfl,hB2⟩,hb2⟩;have hz2:=hb2.size;(try simp at hz2);obtain⟨a2,c2',rfl⟩:=hB2.shape;have r0:w2.cell? ⟨w.heap.size,0,none⟩=some (.int .i64 0):=cl8 hb2;have r1:w2.cell? ⟨w.heap.size,1,none⟩=some (.slice none 0 0):=cl8 hb2;have rf:∀q,w2.frozen? ⟨w.heap.size,q,none⟩=false:=fun q=>((bc8 hb2).2 _ q (by simp;try omega)).trans (by go_simp)));have C0:Below w.heap.size w w2:=bex
 clear hF hb2;go_wp2_with fail;refine bodyPost_ret (v:=.agg #[.int .i64 W,.slice a2 (m5 V nk es cs).length c2']) (by simp[results,Tryz.results84,go_sem, *]) rfl ⟨⟨_,us2,G2,rfl,(hB2.keep (by simp) fun b hb _=>?_).weak (by simp;try omega)⟩,?_⟩
 ·(try simp at hb);repeat rw[bS8 _ _ _ _ (by simp;omega)]
 ·exact bs8
end
end Go.Proofs.YteekfcdllaceoaaGreatDoor
