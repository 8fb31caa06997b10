/- Own texts, joined: contracts that the law's proof goes by. -/
import Derived.Test.YtflokiejcjjbiaaGreatGLFits2
import Derived.Test.YtflokiejcjjbiaaGreatGLFits29
import Derived.Test.YtflokiejcjjbiaaGreatGLFits19
import Derived.Test.YtflokiejcjjbiaaGreatGLFits24
set_option maxHeartbeats 16000000
set_option maxRecDepth 100000
set_option linter.unusedVariables false
set_option linter.unusedSimpArgs false
namespace Go.Proofs.YtflokiejcjjbiaaGreat
section
open Go.RowKit
theorem cmpRow_app:∀ {a b x y:List V3},a.length=b.length→cR8 (a++x) (b++y)=if cR8 a b=0 then cR8 x y else cR8 a b
 | [],[],x,y,_=>by simp[cR8]
 | [],_::_,_,_,h=>by simp at h
 |_::_,[],_,_,h=>by simp at h
 |u::a,v::b,x,y,h=>by
  rw[List.cons_append,List.cons_append,cR8,cR8];by_cases h0:cmpW u v=0
  ·rw[if_pos h0,if_pos h0];exact cmpRow_app (by simpa using h)
  ·rw[if_neg h0,if_neg h0,if_neg h0]
structure Raw (W:Int)(cs:List C2):Prop where
 asc:Asc cs
 row:∀c∈cs,(c.r.length:Int)=W∧RowV c.r
 num:∀c∈cs,0<c.n∧c.n≤1000000000000000000
theorem rowV_good {W:Int}{r:List V3}:gR8 W r↔(r.length:Int)=W∧RowV r:=by
 unfold gR8 okRow RowV VsWf goodV;simp only[Bool.and_eq_true,decide_eq_true_eq,List.all_eq_true];exact⟨fun⟨⟨h1,h2⟩,h3⟩=>⟨h1,fun x hx=>⟨h2 x hx,h3 x hx⟩⟩,fun⟨h1,h2⟩=>⟨⟨h1,fun x hx=>(h2 x hx).1⟩,fun x hx=>(h2 x hx).2⟩⟩
theorem Raw.good {W:Int}{cs:List C2}(h:Raw W cs):∀c∈cs,gR8 W c.r:=fun c hc=>rowV_good.2 (h.row c hc)
theorem Raw.wf {W:Int}{cs:List C2}(h:Raw W cs):CsWf cs:=fun c hc=>⟨(h.good c hc).2,wf_small (by have:=h.num c hc;omega)⟩
theorem Raw.nz {W:Int}{cs:List C2}(h:Raw W cs):∀c∈cs,c.n≠0:=fun c hc=>by have:=h.num c hc;omega
structure Mean (W:Int)(cs:List C2):Prop extends Raw W cs where
 ok:okBag W cs=true
theorem Mean.all {W:Int}{cs:List C2}(h:Mean W cs):0≤W∧W≤12∧cs.length≤400∧∀c∈cs,0<c.n∧c.n≤1000000000:=by
 obtain⟨h1,h2,h3,_,h4⟩:=okBag_all h.ok h.wf;exact⟨h1,h2,h3,fun c hc=>⟨(h.num c hc).1,(h4 c hc).2.2.2⟩⟩
theorem mean_of {W:Int}{cs:List C2}(hp:okPlain W cs=true)(hw:CsWf cs):Mean W cs:=by
 simp only[okPlain,Bool.and_eq_true]at hp;obtain⟨h1,h2,h3,h4,h5⟩:=okBag_all hp.2 hw;refine⟨⟨h4,fun c hc=>rowV_good.1 (h5 c hc).1,fun c hc=>⟨?_,by have:=(h5 c hc).2.2.2;omega⟩⟩,hp.2⟩;have h6:=hp.1;have h7:=(h5 c hc).2.1;simp only[noLess,List.all_eq_true,decide_eq_true_eq]at h6;have:=h6 c hc;omega
section
variable {m:Int} {V:E7→List V3→V3} (hV:VOk m V)
theorem raw_filt {W:Int}{cs:List C2}(e:E7)(h:Raw W cs):Raw W (filtC V e cs):=
 ⟨List.Pairwise.filter _ h.asc,fun c hc=>h.row c ((List.mem_filter.1 hc).1),fun c hc=>h.num c ((List.mem_filter.1 hc).1)⟩
theorem raw_dist {W:Int}{cs:List C2}(h:Raw W cs):Raw W (distC cs):=by
 refine⟨?_,fun c hc=>?_,fun c hc=>?_⟩
 ·exact List.pairwise_map.2 h.asc
 ·obtain⟨x,hx,rfl⟩:=List.mem_map.1 hc;exact h.row x hx
 ·obtain⟨x,hx,rfl⟩:=List.mem_map.1 hc;exact⟨by show(0:Int)<1;omega,by show(1:Int)≤1000000000000000000;omega⟩
theorem put_rows {cs:List C2}{row:List V3}{n:Int}:∀c∈putC cs row n,c.r=row∨∃x∈cs,x.r=c.r:=by
 intro c hc;unfold putC at hc;have ins:c∈cs.take (ahead cs row)++(⟨row,n⟩:C2)::cs.drop (ahead cs row)→c.r=row∨∃x∈cs,x.r=c.r:=fun hc=>by
  rcases List.mem_append.1 hc with hc|hc
  ·exact .inr ⟨c,List.mem_of_mem_take hc,rfl⟩
  ·rcases List.mem_cons.1 hc with rfl|hc
   ·exact .inl rfl
   ·exact .inr ⟨c,List.mem_of_mem_drop hc,rfl⟩
 split at hc
 ·rename_i x hx
  have hxm:x∈cs:=mg8 hx;split at hc
  ·split at hc
   ·rcases List.mem_or_eq_of_mem_set hc with hc|rfl
    ·exact .inr ⟨c,hc,rfl⟩
    ·exact .inr ⟨x,hxm,rfl⟩
   ·rcases List.mem_append.1 hc with hc|hc
    ·exact .inr ⟨c,List.mem_of_mem_take hc,rfl⟩
    ·exact .inr ⟨c,List.mem_of_mem_drop hc,rfl⟩
  ·split at hc
   ·exact ins hc
   ·exact .inr ⟨c,hc,rfl⟩
 ·split at hc
  ·exact ins hc
  ·exact .inr ⟨c,hc,rfl⟩
theorem sum_rows {n:Int}:∀ {ds cs:List C2},∀c∈sumC cs ds n,(∃x∈cs,x.r=c.r)∨∃x∈ds,x.r=c.r
 | [],cs,c,hc=> .inl ⟨c,hc,rfl⟩
 |y::ds,cs,c,hc=>by
  rcases sum_rows (ds:=ds) (cs:=putC cs y.r (n*y.n)) c hc with⟨x,hx,e⟩|⟨x,hx,e⟩
  ·rcases put_rows x hx with h|⟨z,hz,h⟩
   ·exact .inr ⟨y,by simp,by rw[←h,e]⟩
   ·exact .inl ⟨z,hz,by rw[h,e]⟩
  ·exact .inr ⟨x,by simp[hx],e⟩
theorem tot_pos {cs:List C2}(h:∀c∈cs,0<c.n)(r:List V3):0≤totC cs r:=by
 induction cs with
 |nil=>simp[totC]
 |cons x xs ih=>
  rw[totC];have h1:=ih fun c hc=>h c (by simp[hc]);have h2:=h x (by simp);split<;>omega
theorem raw_sumC {W:Int}{cs ds:List C2}(hc:Raw W cs)(hd:∀x∈ds,(x.r.length:Int)=W∧RowV x.r)(nc:∀x∈cs,x.n≤1000000000)(nd:∀x∈ds,0<x.n∧x.n≤1000000000)(lc:cs.length≤400)(ld:ds.length≤400):Raw W (sumC cs ds 1):=by
 obtain⟨s1,s2,s3⟩:=sumC_all (n:=1) (ds:=ds) hc.asc hc.nz;refine⟨s1,fun c hm=>?_,fun c hm=>?_⟩
 ·rcases sum_rows c hm with⟨x,hx,e⟩|⟨x,hx,e⟩
  ·rw[←e];exact hc.row x hx
  ·rw[←e];exact hd x hx
 ·have h2:cntC (sumC cs ds 1) c.r=c.n:=by
   rw[←totC_asc c.r s1];exact totC_mem (pw_to (fun _ _ h=>lt_ne h) s1) hm
  rw[s3,totC_sum,←totC_asc c.r hc.asc]at h2;have b1:=totC_bound (cs:=cs) (M:=1000000000) (fun x hx=>⟨by have:=hc.num x hx;omega,nc x hx⟩) (by decide) c.r;have b2:=totC_bound (cs:=ds) (M:=1000000000) (fun x hx=>⟨by have:=(nd x hx).1;omega,(nd x hx).2⟩) (by decide) c.r;have p1:=tot_pos (fun x hx=>(hc.num x hx).1) c.r;have p2:=tot_pos (fun x hx=>(nd x hx).1) c.r;have h0:=s2 c hm;have l1:(cs.length:Int)≤400:=by omega
  have l2:(ds.length:Int)≤400:=by omega
  omega
theorem raw_nil (W:Int):Raw W []:=⟨List.Pairwise.nil,fun c hc=>(by cases hc),fun c hc=>(by cases hc)⟩
theorem raw_sum {W:Int}{cs ds:List C2}(hc:Mean W cs)(hd:Mean W ds):Raw W (sumC cs ds 1):=
 raw_sumC hc.toRaw hd.row (fun x hx=>(hc.all.2.2.2 x hx).2) (fun x hx=>hd.all.2.2.2 x hx) hc.all.2.2.1 hd.all.2.2.1
include hV in
theorem raw_proj {W:Int}{cs:List C2}{es:List E7}(hc:Mean W cs)(he:∀e∈es,GoodE e):Raw es.length (projC V es cs):=by
 refine raw_sumC (raw_nil _) (fun x hx=>?_) (fun x hx=>by cases hx) (fun x hx=>?_) (by simp) (by simp[projL];exact hc.all.2.2.1)
 ·obtain⟨c,hcm,rfl⟩:=List.mem_map.1 hx;refine⟨by simp[projR],fun v hv=>?_⟩;obtain⟨e,hem,rfl⟩:=List.mem_map.1 hv;exact hV.good e c.r (he e hem) (hc.row c hcm).2
 ·obtain⟨c,hcm,rfl⟩:=List.mem_map.1 hx;exact hc.all.2.2.2 c hcm
theorem raw_join {W U:Int}{cs ds:List C2}(e:E7)(hc:Mean W cs)(hd:Mean U ds):Raw (W+U) (joinC V e cs ds):=by
 have hmem:∀a,∀x∈joinR V e a ds,∃b∈ds,x=⟨a.r++b.r,a.n*b.n⟩:=fun a x hx=>by
  obtain⟨b,hb,rfl⟩:=List.mem_map.1 hx;exact⟨b,(List.mem_filter.1 hb).1,rfl⟩
 have hlen:∀a∈cs,∀b∈cs,a.r.length=b.r.length:=fun a ha b hb=>by
  have h1:=(hc.row a ha).1;have h2:=(hc.row b hb).1;omega
 refine⟨?_,fun x hx=>?_,fun x hx=>?_⟩
 ·unfold Asc joinC;rw[List.pairwise_flatMap];refine⟨fun a ha=>?_,?_⟩
  ·unfold joinR;rw[List.pairwise_map];refine pw_to (R:=fun x y:C2=>cR8 x.r y.r<0) (fun x y (h:cR8 x.r y.r<0)=>?_) (List.Pairwise.filter _ (show ds.Pairwise (fun x y=>cR8 x.r y.r<0)from hd.asc));rw[cmpRow_app rfl,if_pos (cmpRow_irr _)];exact h
  ·refine List.Pairwise.imp_of_mem (fun{a b} ha hb (h:cR8 a.r b.r<0) x hx y hy=>?_) hc.asc;obtain⟨u,hu,rfl⟩:=hmem a x hx;obtain⟨v,hv,rfl⟩:=hmem b y hy;rw[cmpRow_app (hlen a ha b hb),if_neg (by omega)];exact h
 ·obtain⟨a,ha,hx⟩:=List.mem_flatMap.1 hx;obtain⟨b,hb,rfl⟩:=hmem a x hx;have h1:=hc.row a ha;have h2:=hd.row b hb;refine⟨by simp;omega,fun v hv=>?_⟩;rcases List.mem_append.1 hv with hv|hv
  ·exact h1.2 v hv
  ·exact h2.2 v hv
 ·obtain⟨a,ha,hx⟩:=List.mem_flatMap.1 hx;obtain⟨b,hb,rfl⟩:=hmem a x hx;obtain⟨a0,a1⟩:=hc.all.2.2.2 a ha;obtain⟨b0,b1⟩:=hd.all.2.2.2 b hb;refine⟨Int.mul_pos a0 b0,?_⟩;have:=Int.mul_le_mul a1 b1 (by omega) (by decide)
  simpa using this
theorem take_le {W:Int}{a b:List V3}(n:Nat)(ha:(a.length:Int)=W)(hb:(b.length:Int)=W)(h:cR8 a b<0):cR8 (a.take n) (b.take n)≤0:=by
 have e:cR8 a b=cR8 (a.take n++a.drop n) (b.take n++b.drop n):=by rw[List.take_append_drop,List.take_append_drop]
 rw[cmpRow_app (by simp;omega)]at e;split at e<;>omega
theorem keys_all {W:Int}{n:Nat}:∀ {cs:List C2} {p:Option (List V3)},Asc cs→(∀c∈cs,(c.r.length:Int)=W)→(∀k,p=some k→∀c∈cs,cR8 k (c.r.take n)≤0)→
  (keysC n p cs).Pairwise (fun a b=>cR8 a b<0)∧(∀k∈keysC n p cs,(∀k0,p=some k0→cR8 k0 k<0)∧∃c∈cs,k=c.r.take n)
 | [],p,_,_,_=>⟨List.Pairwise.nil,fun k hk=>by cases hk⟩
 |c::cs,p,ha,hl,hp=>by
  have ha':=List.pairwise_cons.1 ha;have hlc:=hl c (by simp);have hl':∀x∈cs,(x.r.length:Int)=W:=fun x hx=>hl x (by simp[hx]);have hle:∀x∈cs,cR8 (c.r.take n) (x.r.take n)≤0:=fun x hx=>take_le n hlc (hl' x hx) (ha'.1 x hx);rw[keysC];by_cases h:sameKey p (c.r.take n)=true
  ·rw[if_pos h];obtain⟨h1,h2⟩:=keys_all (n:=n) (p:=p) ha'.2 hl' (fun k hk x hx=>by
    subst hk;simp only[sameKey,decide_eq_true_eq]at h;rw[(cmpRow_0 _ _).1 h];exact hle x hx)
   exact⟨h1,fun k hk=>⟨(h2 k hk).1,by obtain⟨x,hx,e⟩:=(h2 k hk).2;exact⟨x,by simp[hx],e⟩⟩⟩
  ·rw[if_neg h];obtain⟨h1,h2⟩:=keys_all (n:=n) (p:=some (c.r.take n)) ha'.2 hl' (fun k hk x hx=>by cases hk;exact hle x hx);have hlt:∀k0,p=some k0→cR8 k0 (c.r.take n)<0:=fun k0 hk0=>by
    have h3:=hp k0 hk0 c (by simp);have h4:cR8 k0 (c.r.take n)≠0:=fun e=>h (by subst hk0;simp[sameKey,e]);omega
   refine⟨List.pairwise_cons.2 ⟨fun k hk=>(h2 k hk).1 _ rfl,h1⟩,fun k hk=>?_⟩;rcases List.mem_cons.1 hk with rfl|hk
   ·exact⟨hlt,c,by simp,rfl⟩
   ·obtain⟨g1,x,hx,e⟩:=h2 k hk;exact⟨fun k0 hk0=>cmpRow_trans (hlt k0 hk0) (g1 _ rfl),x,by simp[hx],e⟩
theorem num_bound {cs:List C2}(h:∀c∈cs,0<c.n∧c.n≤1000000000):0≤numC cs∧numC cs≤1000000000*cs.length:=by
 induction cs with
 |nil=>simp[numC]
 |cons x xs ih=>
  have h1:=ih fun c hc=>h c (by simp[hc]);have h2:=h x (by simp);unfold numC at*;rw[List.map_cons,List.sum_cons,List.length_cons];omega
theorem sumS_in (e:E7):∀ (cs:List C2) (s:Option Int),(∀x,s=some x→InN x)→∀x,cs.foldl (addS V e) s=some x→InN x
 | [],s,h,x,hx=>h x hx
 |c::cs,s,h,x,hx=>by
  refine sumS_in e cs (addS V e s c) (fun y hy=>?_) x hx;unfold addS at hy;split at hy
  ·cases hy;exact bd_wrap _
  ·exact h y hy
theorem sumV_good (e:E7)(cs:List C2):goodV (sumV (sumS V e cs)):=by
 unfold sumV;split
 ·exact goodV_zero
 ·rename_i x hx
  exact goodV_of (by simp[okB,l_nilV]) (sumS_in (V:=V) e cs none (fun y hy=>by cases hy) x hx)
theorem raw_group {W:Int}{cs:List C2}{es:List E7}{n:Int}(hc:Mean W cs)(h0:0≤n)(hn:n≤W):Raw (n+1+es.length) (groupC V n.toNat es cs):=by
 obtain⟨h1,h2⟩:=keys_all (n:=n.toNat) (p:=none) hc.asc (fun c hc'=>(hc.row c hc').1) (fun k hk=>by cases hk);have hlen:∀k∈keysC n.toNat none cs,(k.length:Int)=n:=fun k hk=>by
  obtain⟨_,c,hcm,rfl⟩:=h2 k hk;have:=(hc.row c hcm).1;simp;omega
 refine⟨?_,fun c hm=>?_,fun c hm=>?_⟩
 ·unfold Asc groupC;rw[List.pairwise_map];refine List.Pairwise.imp_of_mem (fun{a b} ha hb h=>?_) h1;show cR8 (tR8 V es a _) (tR8 V es b _)<0;unfold tR8;have:=hlen a ha;have:=hlen b hb;rw[cmpRow_app (by omega),if_neg (by omega)];exact h
 ·obtain⟨k,hk,rfl⟩:=List.mem_map.1 hm;refine⟨by have:=hlen k hk;simp[tR8];omega,fun v hv=>?_⟩;obtain⟨_,c,hcm,rfl⟩:=h2 k hk;unfold tR8 at hv;rcases List.mem_append.1 hv with hv|hv
  ·exact(hc.row c hcm).2 v (List.mem_of_mem_take hv)
  ·rcases List.mem_cons.1 hv with rfl|hv
   ·refine goodV_of (by simp[okB,l_nilV]) ?_;have hb:=num_bound (cs:=runC (c.r.take n.toNat) cs) fun x hx=>hc.all.2.2.2 x ((List.mem_filter.1 hx).1);have hl:(runC (c.r.take n.toNat) cs).length≤cs.length:=List.length_filter_le _ _;have:=hc.all.2.2.1;unfold InN;omega
   ·obtain⟨e,_,rfl⟩:=List.mem_map.1 hv;exact sumV_good e _
 ·obtain⟨k,hk,rfl⟩:=List.mem_map.1 hm;exact⟨by show(0:Int)<1;omega,by show(1:Int)≤1000000000000000000;omega⟩
end
def PreE (e:E7):Prop:=e.wf∧wtE e≤1048576∧∃ (w:World) (d:Nat) (u:Value) (F:List Nat),KidsIs w d u e.ks F
theorem PreE.good {e:E7}{W:Int}(h:PreE e)(hb:bE8 e W=true):GoodE e:=by
 unfold bE8 at hb;rw[Bool.and_eq_true]at hb;exact⟨h.1,hb.1,h.2.1,h.2.2⟩
def PreP:Nat→P12→Prop
 |0,_=>True
 |f+1,p=>PreE p.e∧(∀e∈p.es,PreE e)∧∀q∈p.ks,PreP f q
theorem preP_of:∀ (f:Nat) (p:P12) (w:World) (D d:Nat) (ue us u:Value) (g:List Nat),p.wf→ListsP w D (PlansIs w D d) p ue us u g→wtP p≤1048576→PreP f p
 |0,_,_,_,_,_,_,_,_,_,_,_=>trivial
 |f+1,p,w,D,d,ue,us,u,g,hw,⟨Fe,Fs,h,hg,ke,kes,kp⟩,hn=>by
  have hwt:=wtP_eq p;refine⟨⟨hw.2.2.1,by omega,w,D,ue,Fe,ke⟩,fun e he=>?_,fun q hq=>?_⟩
  ·obtain⟨D',rfl⟩:=kes.succ;obtain⟨h1,u',F',hK⟩:=kid_of kes he;have hm:wtE e≤wtEs p.es:=wtE_mem he;exact⟨h1,by omega,w,D',u',F',hK⟩
  ·cases d with
   |zero=>exact kp.elim
   |succ d=>
    obtain⟨a,c,G,_,_,_,hG,_,hh⟩:=kp;obtain⟨b,o,_,_,_,hL⟩:=hh (List.ne_nil_of_mem hq);obtain⟨i,hi,rfl⟩:=List.mem_iff_getElem.1 hq;have hi':i<G.length:=by omega
    obtain⟨hw',ue',us',u',_,hk⟩:=hL i p.ks[i] G[i] (by simp) (by simp);exact preP_of f p.ks[i] w D d ue' us' u' G[i] hw' hk (by have:=wtP_mem hq;omega)
theorem kid0 {l:List P12}{q:P12}(h:l=[q]):l.getD 0 .nil=q:=by rw[h];rfl
theorem kid00 {l:List P12}{q r:P12}(h:l=[q,r]):l.getD 0 .nil=q∧l.getD 1 .nil=r:=by rw[h];exact⟨rfl,rfl⟩
section
variable {m:Int} {V:E7→List V3→V3} (hV:VOk m V) {rs:List R3} (hdb:okDb rs=true) (hrw:RsWf rs)
include hV hdb hrw
theorem raw_mean:∀ (f:Nat) (p:P12),PreP f p→0≤wP8 rs f p→(∀q∈p.ks,(mP8 V rs (f -1) q).1=true)→Raw (wP8 rs f p) (mP8 V rs f p).2
 |0,p,_,hw,_=>absurd hw (by rw[wP8];omega)
 |f+1,p,hp,hw,hk=>by
  have mk:∀q∈p.ks,0≤wP8 rs f q→Mean (wP8 rs f q) (mP8 V rs f q).2:=fun q hq hwq=>by
   have hk':=hk q hq;rw[Nat.add_sub_cancel]at hk';cases f with
   |zero=>exact absurd hwq (by rw[wP8];omega)
   |succ f=>
    have h2:=hk';unfold mP8 at h2;simp only[Bool.and_eq_true,List.all_eq_true]at h2;refine⟨raw_mean (f+1) q (hp.2.2 q hq) hwq h2.1,?_⟩;unfold mP8;exact h2.2
  have hm:(mP8 V rs (f+1) p).2=if p.k=0 then relC rs p.s else overC V p (mP8 V rs f (p.ks.getD 0 .nil)).2 (mP8 V rs f (p.ks.getD 1 .nil)).2:=by rw[mP8]
  rw[hm];rcases wk_in hw with h0|h0|h0|h0|h0|h0|h0
  ·obtain⟨_,x,hx,e⟩:=wk_0 hw h0;rw[if_pos h0,e];unfold relC;rw[hx];have hxm:=relOf_mem hx;have hpl:okPlain x.W x.cs=true:=by
    simp only[okDb,Bool.and_eq_true]at hdb;exact okRs_each hdb.2 x hxm
   exact(mean_of hpl (hrw x hxm).2.2).toRaw
  all_goals rw[if_neg (by omega)]
  ·obtain⟨q,hq,hwq,hb,e⟩:=wk_1 hw h0;rw[e,kid0 hq];unfold overC;rw[if_pos h0];exact raw_filt _ (mk q (by simp[hq]) hwq).toRaw
  ·obtain⟨q,hq,hwq,_,hb,e⟩:=wk_2 hw h0;rw[e,kid0 hq];unfold overC;rw[if_neg (by omega),if_pos h0];exact raw_proj hV (mk q (by simp[hq]) hwq) fun x hx=>(hp.2.1 x hx).good (hb x hx)
  ·obtain⟨q,r,hq,hwq,hwr,hb,e⟩:=wk_3 hw h0;rw[e,(kid00 hq).1,(kid00 hq).2];unfold overC;rw[if_neg (by omega),if_neg (by omega),if_pos h0];exact raw_join _ (mk q (by simp[hq]) hwq) (mk r (by simp[hq]) hwr)
  ·obtain⟨q,r,hq,hwq,hwr,e⟩:=wk_4 hw h0;rw[e,(kid00 hq).1,(kid00 hq).2];unfold overC;rw[if_neg (by omega),if_neg (by omega),if_neg (by omega),if_pos h0];exact raw_sum (mk q (by simp[hq]) hwq) (by rw[hwr];exact mk r (by simp[hq]) (by omega))
  ·obtain⟨q,hq,hwq,e⟩:=wk_5 hw h0;rw[e,kid0 hq];unfold overC;rw[if_neg (by omega),if_neg (by omega),if_neg (by omega),if_neg (by omega),if_pos h0];exact raw_dist (mk q (by simp[hq]) hwq).toRaw
  ·obtain⟨q,hq,hwq,hn0,hn1,hl,hb,e⟩:=wk_6 hw h0;rw[e,kid0 hq];unfold overC;rw[if_neg (by omega),if_neg (by omega),if_neg (by omega),if_neg (by omega),if_neg (by omega)];exact raw_group (mk q (by simp[hq]) hwq) hn0 hn1
theorem mean_mean {f:Nat}{p:P12}(hp:PreP f p)(hw:0≤wP8 rs f p)(h:(mP8 V rs f p).1=true):Mean (wP8 rs f p) (mP8 V rs f p).2:=by
 cases f with
 |zero=>exact absurd hw (by rw[wP8];omega)
 |succ f=>
  have h2:=h;unfold mP8 at h2;simp only[Bool.and_eq_true,List.all_eq_true]at h2;refine⟨raw_mean hV hdb hrw (f+1) p hp hw h2.1,?_⟩;unfold mP8;exact h2.2
end
end
section
open Go.RowKit Go.Deep Go.ChangeShapes Go.WideShapes
theorem l04Distinct_any (W:Int)(v:Value)(cs:List C2)(F:List Nat)(w:World)(hr:RowsF w v cs F)(hn:wtb cs≤1048576)(hpos:∀c∈cs,0<c.n):Calls Tryz.prog 55 #[.agg #[.int .i64 W,v]] w fun e w'=>(∃u us G,e=.returned (.agg #[.int .i64 W,u])∧BagOwn w' w.heap.size u (distC cs) us G)∧Below w.heap.size w w':=by
 obtain⟨i0,hi,hz0,hz1,hz2⟩:=info_parts Tryz.infoCnt;obtain⟨a,c,b,o,G0,rfl,hl,hc,_,hG0,_,hC,ha⟩:=hr.pick;unfold maxLen at hc;clear hr;have hn1:cs.length≤1048576:=by unfold wtb at hn;omega
 go_enter Tryz.func55,Tryz.ntmps55;go_wp2;go_loopw [4] (fun i wr=> ∃ (k:Nat) (y:Value) (us:List Value) (G:List (List Nat)),k≤cs.length∧i=.int .i64 k∧wr.cell? ⟨w.heap.size,0,none⟩=some (.int .i64 W)∧wr.cell? ⟨w.heap.size,1,none⟩=some (.slice a cs.length c)∧wr.cell? ⟨w.heap.size+1+1,0,none⟩=some (.int .i64 W)∧wr.cell? ⟨w.heap.size+1+1,1,none⟩=some y∧(∀q,wr.frozen? ⟨w.heap.size+1+1,q,none⟩=false)∧wr.cell? ⟨w.heap.size+1,0,none⟩=some (.int .i64 0)∧wr.cell? ⟨w.heap.size+1,1,none⟩=some (.slice none 0 0)∧(∀q,wr.frozen? ⟨w.heap.size+1,q,none⟩=false)∧BagOwn wr (w.heap.size+1+1+1) y (distC (cs.take k)) us G∧Below w.heap.size w wr∧w.heap.size+1+1+1≤wr.heap.size) (fun i _=>cs.length - (intOf i).toNat)
 case atStart=>
  refine⟨0,.slice none 0 0,[],[],Nat.zero_le _,rfl,by go_simp,by go_simp,by go_simp,by go_simp,fun q=>by go_simp,by go_simp,by go_simp,fun q=>by go_simp,BagOwn.nil _ _,bex,by simp⟩
 case round=>
  obtain⟨k,y,us,G,hk,rfl,b0,b1,p0,p1,pf,r0,r1,rf,hB,hb,hzb⟩:=hrel;by_cases hlt:k<cs.length
  ·obtain⟨rfl,hblt,_⟩:=ha k hlt;obtain⟨x,u0,g0,hx,_,c0,hR,c1,hbr⟩:=hC.at hG0 hblt hb hlt;obtain⟨a0,n0,rfl⟩:=hR.shape;have HX:Hid (cs[k]?=some x):=hx;have hxn:x.r.length≤1048576:=by have:=wt_mem (mg8 hx);unfold wt at this;unfold wtb at hn;omega
   have htk:(distC (cs.take k)).length=k:=by unfold distC;rw[List.length_map];simp;omega
   have hxp:0<x.n:=hpos x (mg8 hx);have hvl:=oL8 hB.own;have hv2:y.ownBlock≠some (w.heap.size+1+1):=fun e=>by have:=(hvl _ e).1;omega
   have hvr:y.ownBlock≠some (w.heap.size+1):=fun e=>by have:=(hvl _ e).1;omega
   have hvT:∀b,b≤w.heap.size→y.ownBlock≠some b:=fun b hb e=>by have:=(hvl _ e).1;omega
   have hkI:(k:Int)<cs.length:=by omega
   have hGl:=hB.lt;have HT:Hid (distC (cs.take (k+1))=distC (cs.take k)++ [⟨x.r,1⟩]):=by show _=_;rw[take_snoc hx];unfold distC;rw[List.map_append];rfl
   generalize distC (cs.take k)=ct at*;have hml:ct.length+1≤maxLen:=by unfold maxLen;omega
   have hby:(ct.length+1)*32≤140737488355328:=by omega
   clear ha hC hx htk hvl;go_wp2_with fail;refine startE 13 (fun w'=>w'.cell? ⟨w.heap.size+1+1,1,none⟩=some y∧w'.cell? ⟨w.heap.size,1,none⟩=some (.slice (some ⟨b,o,none⟩) cs.length c)∧w'.cell? ⟨b,o+k*2,none⟩=some (.slice a0 x.r.length n0)) (by kernel_rfl) ?_ (fun hHeld=>?_)
   ·exact⟨p1,b1,c0⟩
   refine tkE 0 22 rfl rfl ?_;refine tkE 1 23 rfl rfl ?_;refine tkE 2 24 rfl rfl ?_;refine tkE 3 25 rfl rfl ?_;refine tkE 4 26 rfl rfl ?_;refine tkE 5 27 rfl rfl ?_;refine tkE 6 28 rfl rfl ?_;refine tkE 7 29 rfl rfl ?_;refine onE 8 rfl fun K hK=>?_;go_simp;go_at_call 72;refine cM8 (l02CopyRow_any (.slice a0 x.r.length n0) x.r g0 _ (hR.below ?hbb) hxn) ?_
   case hbb=>exact bex
   rintro e w2 ⟨⟨u2,g2,rfl,hR2,hO2⟩,hb2⟩;obtain⟨a2,n2,rfl⟩:=hR2.shape;have hzw2:=hb2.size;rw[show wr.drew.heap.size=wr.heap.size from rfl]at hzw2;have bel2:Below wr.heap.size wr w2:=bex;have hB2:=hB.below bel2;have pf2:∀q,w2.frozen? ⟨w.heap.size+1+1,q,none⟩=false:=fun q=>((bc8 bel2).2 _ q (by omega)).trans (pf q);have rf2:∀q,w2.frozen? ⟨w.heap.size+1,q,none⟩=false:=fun q=>((bc8 bel2).2 _ q (by omega)).trans (rf q);have p02:=((bc8 bel2).1 (w.heap.size+1+1) 0 (by omega)).trans p0;have p12:=((bc8 bel2).1 (w.heap.size+1+1) 1 (by omega)).trans p1;have r02:=((bc8 bel2).1 (w.heap.size+1) 0 (by omega)).trans r0;have r12:=((bc8 bel2).1 (w.heap.size+1) 1 (by omega)).trans r1;have b02:=((bc8 bel2).1 w.heap.size 0 (by omega)).trans b0;have b12:=((bc8 bel2).1 w.heap.size 1 (by omega)).trans b1;have c02:=((bc8 bel2).1 b (o+k*2) (by omega)).trans c0;try go_wp2_with fail
   refine hK.out _ _ ?_ (fun hHeld8=>?_)
   ·intro _;exact⟨p12,b12,c02⟩
   clear hK;replace hHeld8:=hHeld8 (by decide);refine tkE 9 31 rfl rfl ?_;refine onE 10 rfl fun K hK=>?_;go_simp;refine hK.out _ _ ?_ (fun hHeld10=>?_)
   ·intro _;exact⟨(cb8 (bA8 w2 _ _ (by omega))).trans p12,(cb8 (bA8 w2 _ _ (by omega))).trans b12,(cb8 (bA8 w2 _ _ (by omega))).trans c02⟩
   clear hK;replace hHeld10:=hHeld10 (by decide);refine onE 11 rfl fun K hK=>?_;refine step_append_lies _ (by rfl) _ _ _ (by rfl) (w.heap.size+1+1+1) 96 i0 _ 2 32 Tryz.underlying58 hi hz0 hz1 hz2 rfl (by omega) y ct.length (cc us ct) (by rfl) (hB2.own.alloc _) ⟨w2.heap.size,0,none⟩ 1 1 [.slice a2 x.r.length n2,.int .i64 1] (by rfl) (by rfl) (World.news_of_block (cs:=#[.slice a2 x.r.length n2,.int .i64 1]) (t:=96) (fr:=(0,0)) (heap_alloc_new w2 _)) (by simp[Value.oneCell']) (by omega) hml hby (by simp;omega) (w2.heap.size+1) (by simp) ?_;intro gg cap w3 hown3 hgrow hat hlt3;have hz3:=hgrow.size;simp at hz3;have far:∀b q,b<w2.heap.size→y.ownBlock≠some b→w3.cell? ⟨b,q,none⟩=w2.cell? ⟨b,q,none⟩:=fun b q hb hne=>(hgrow.cell_far _ (by simp;omega) (Ne.symm hne)).trans (cb8 (bA8 _ _ _ hb));have farf:∀b q,b<w2.heap.size→y.ownBlock≠some b→w3.frozen? ⟨b,q,none⟩=w2.frozen? ⟨b,q,none⟩:=fun b q hb hne=>(hgrow.frozen_far _ (by simp;omega) (Ne.symm hne)).trans (fb8 (bA8 _ _ _ hb));have pf3:∀q,w3.frozen? ⟨w.heap.size+1+1,q,none⟩=false:=fun q=>(farf _ q (by omega) hv2).trans (pf2 q);have rf3:∀q,w3.frozen? ⟨w.heap.size+1,q,none⟩=false:=fun q=>(farf _ q (by omega) hvr).trans (rf2 q);have p03:=(far (w.heap.size+1+1) 0 (by omega) hv2).trans p02;have p13:=(far (w.heap.size+1+1) 1 (by omega) hv2).trans p12;have r03:=(far (w.heap.size+1) 0 (by omega) hvr).trans r02;have r13:=(far (w.heap.size+1) 1 (by omega) hvr).trans r12;have hBp:=BagOwn.push (x:=⟨x.r,1⟩) (hB2.below ((Below.refl _ _).alloc (Nat.le_refl _) (.cells #[.slice a2 x.r.length n2,.int .i64 1] 96))) (hR2.below ((Below.refl _ _).alloc (Nat.le_refl _) _)) ⟨hO2.1,fun b hb=>by have:=hO2.2.1 b hb;have:wr.drew.heap.size=wr.heap.size:=rfl;omega,fun b hb q=>(fb8 (bA8 _ _ _ (hR2.lt b hb))).trans (hO2.2.2 b hb q)⟩ (fun b hb hb'=>by have:=hO2.2.1 b hb';have:=hGl b hb;simp at*;omega) (fun b hb hb'=>by have:=hO2.2.1 b hb';have:=(oL8 hB.own b hb).2;simp at*;omega) hown3 hgrow (fun b hb=>by simp[Value.ownBlock]at hb;subst hb;rcases hat with h|h;exact .inl h;exact .inr (by simp;omega))
   have bel3:Below w.heap.size w w3:=Below.grown bex hgrow (by simp;omega) (fun b hb=>by have:=(oL8 hB.own b hb).1;omega);have b03:=(far w.heap.size 0 (by omega) (hvT _ (Nat.le_refl _))).trans b02;have b13:=(far w.heap.size 1 (by omega) (hvT _ (Nat.le_refl _))).trans b12;have c03:=(far b (o+k*2) (by omega) (hvT _ (by omega))).trans c02;refine hK.out _ _ ?_ (fun hHeld11=>?_)
   ·intro _;exact⟨p13,b13,c03⟩
   clear hK;replace hHeld11:=hHeld11 (by decide);refine tkE 12 34 rfl rfl ?_;refine onE 13 rfl fun K hK=>?_;go_simp;refine hK.out _ _ ?_ (fun hHeld13=>?_)
   ·exact fun h=>absurd rfl h
   clear hK hHeld13;refine doneE (by kernel_rfl) ?_ _;have Q0:(w3.setCell ⟨w.heap.size+1+1,1,none⟩ (.slice (some ⟨gg,0,none⟩) (ct.length+1) cap)).cell? ⟨w.heap.size,0,none⟩=some (.int .i64 W):=(cO8 _ _ _ _ (by simp;try omega)).trans b03;have Q1:(w3.setCell ⟨w.heap.size+1+1,1,none⟩ (.slice (some ⟨gg,0,none⟩) (ct.length+1) cap)).cell? ⟨w.heap.size,1,none⟩=some (.slice (some ⟨b,o,none⟩) cs.length c):=(cO8 _ _ _ _ (by simp;try omega)).trans b13;have P0:(w3.setCell ⟨w.heap.size+1+1,1,none⟩ (.slice (some ⟨gg,0,none⟩) (ct.length+1) cap)).cell? ⟨w.heap.size+1+1,0,none⟩=some (.int .i64 W):=(cO8 _ _ _ _ (by simp)).trans p03;have P1:(w3.setCell ⟨w.heap.size+1+1,1,none⟩ (.slice (some ⟨gg,0,none⟩) (ct.length+1) cap)).cell? ⟨w.heap.size+1+1,1,none⟩=some (.slice (some ⟨gg,0,none⟩) (ct.length+1) cap):=cS8 _ _ _ p13;have PF:∀q,(w3.setCell ⟨w.heap.size+1+1,1,none⟩ (.slice (some ⟨gg,0,none⟩) (ct.length+1) cap)).frozen? ⟨w.heap.size+1+1,q,none⟩=false:=fun q=>by simpa using pf3 q
   have R0:(w3.setCell ⟨w.heap.size+1+1,1,none⟩ (.slice (some ⟨gg,0,none⟩) (ct.length+1) cap)).cell? ⟨w.heap.size+1,0,none⟩=some (.int .i64 0):=(cO8 _ _ _ _ (by simp)).trans r03;have R1:(w3.setCell ⟨w.heap.size+1+1,1,none⟩ (.slice (some ⟨gg,0,none⟩) (ct.length+1) cap)).cell? ⟨w.heap.size+1,1,none⟩=some (.slice none 0 0):=(cO8 _ _ _ _ (by simp)).trans r13;have RF:∀q,(w3.setCell ⟨w.heap.size+1+1,1,none⟩ (.slice (some ⟨gg,0,none⟩) (ct.length+1) cap)).frozen? ⟨w.heap.size+1,q,none⟩=false:=fun q=>by simpa using rf3 q
   have hBs:=hBp.keep (w':=w3.setCell ⟨w.heap.size+1+1,1,none⟩ (.slice (some ⟨gg,0,none⟩) (ct.length+1) cap)) (by simp) (fun b hb _=>bS8 _ _ _ _ (by simp;omega));rw[←HT.out]at hBs;have belS:Below w.heap.size w (w3.setCell ⟨w.heap.size+1+1,1,none⟩ (.slice (some ⟨gg,0,none⟩) (ct.length+1) cap)):=bel3.setCell (by simp;omega) _;have hzS:w.heap.size+1+1+1≤(w3.setCell ⟨w.heap.size+1+1,1,none⟩ (.slice (some ⟨gg,0,none⟩) (ct.length+1) cap)).heap.size:=by simp;omega
   clear hown3 hgrow hat far farf hBp hB2 hR2 hO2 hb2 hB p03 p13 pf3 r03 r13 rf3;go_wp2;exact⟨⟨k+1,_,_,_,hlt,by simp,Q0,Q1,P0,P1,PF,R0,R1,RF,hBs,belS,hzS⟩,by simp[intOf];omega⟩
  ·obtain rfl:k=cs.length:=by omega
   rw[List.take_length]at hB;obtain⟨ay,cy,rfl⟩:=hB.shape;clear ha hC;go_wp2;refine bodyPost_ret (v:=.agg #[.int .i64 W,.slice ay (distC cs).length cy]) (by simp[results,Tryz.results55,go_sem, *]) rfl ⟨⟨_,us,G,rfl,(hB.keep (by simp) fun b hb _=>?_).weak (by omega)⟩,?_⟩
   ·repeat rw[bS8 _ _ _ _ (by simp;omega)]
   ·repeat (first|(with_reducible exact hb)|(with_reducible refine Below.setCell ?_ ?hh _;case hh=>(simp;try omega)))
end
end Go.Proofs.YtflokiejcjjbiaaGreat
