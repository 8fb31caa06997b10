/- Own texts, joined: contracts that the law's proof goes by. -/
import Derived.Test.YtjhhmnjpojnoiaaGreatDoorGLWithViews9
import Derived.Test.YtjhhmnjpojnoiaaGreatDoorGLWithViews4
import Derived.Handy
import Derived.Test.YtjhhmnjpojnoiaaGreatDoorGLWithViews2
import Derived.Deep.RegionHeld3
import Derived.Test.YtjhhmnjpojnoiaaGreatDoorShelf
import Derived.Shelf.SlSortCmp.WholeK
import Derived.Lib.QuietBelow
import Derived.Test.YtjhhmnjpojnoiaaGreatDoorGLWithViews6
import Derived.Test.YtjhhmnjpojnoiaaGreatDoorGLWithViews1
import Derived.RangeFuncNested
import Derived.RangeFuncBound
import Derived.RangeFuncCalls
import Derived.RangeFuncLeaves
import Derived.Shelf.Abstract
import Derived.WalkKit
import Derived.OwnWalkIn
import Derived.TacticsInMore
import Derived.LoopNIn
import Derived.LoopIn
import Derived.OrdersIn
import Derived.Maps.RangeWalk
import Derived.RangeFuncBox
import Derived.Test.YtjhhmnjpojnoiaaGreatDoorGLWithViews10
import Derived.Test.YtjhhmnjpojnoiaaGreatDoorDbS
set_option maxHeartbeats 16000000
set_option maxRecDepth 100000
set_option linter.unusedVariables false
set_option linter.unusedSimpArgs false
namespace Go.Proofs.YtjhhmnjpojnoiaaGreatDoor
section
section
open Go.RowKit
def SmallC (cs:List C2):Prop:=(∀c∈cs,-1000000000≤c.n∧c.n≤1000000000)∧cs.length≤4194304
theorem SmallC.tot {cs ds:List C2}(h:SmallC ds)(hs:∃t,ds=cs++t)(r:List V3): -4294967296000000000≤totC cs r∧totC cs r≤4294967296000000000:=by
 obtain⟨t,rfl⟩:=hs;have h1:=totC_bound (cs:=cs) (M:=1000000000) (fun c hc=>h.1 c (by simp[hc])) (by decide) r;have h2:=h.2;rw[List.length_append]at h2;have:(cs.length:Int)≤4194304:=by omega
 omega
end
section
open Go.RowKit
def Onw (w w':World):Prop:=Below w.heap.size w w'∧w.drawn≤w'.drawn
theorem Onw.refl (w:World):Onw w w:=⟨Below.refl _ _,Nat.le_refl _⟩
theorem Onw.trans {a b c:World}(h:Onw a b)(k:Onw b c):Onw a c:=⟨h.1.trans (k.1.mono h.1.size),Nat.le_trans h.2 k.2⟩
theorem Onw.alloc {a b:World}(h:Onw a b)(o:Obj):Onw a (b.alloc o):=⟨h.1.alloc h.1.size o,h.2⟩
theorem Onw.drew {a b:World}(h:Onw a b):Onw a b.drew:=⟨h.1.drew,Nat.le_trans h.2 (Nat.le_succ _)⟩
end
section
open Go.RowKit Go.Sort Go.Shelf Go.Lib
abbrev RowT (w0:World) (b:Nat):={p:Value×C2//RowB w0 b p.1 p.2.r∧p.2.r.length≤1048576}
theorem mapBlock_other (w:World)(blk k:Nat)(f:Array Value→Array Value)(h:k≠blk):(mapBlock w blk f).heap[k]?=w.heap[k]?:=by
 simp only[mapBlock,Array.getElem?_modify];rw[if_neg (fun e=>h e.symm)]
theorem onw_grow {w w':World}(h:Onw w w'):∃q os',w'=grow (w.drewN q) os':=by
 obtain⟨⟨d,os⟩,e⟩:=regrown_of_below h.1;have hd:w'.drawn=d:=by rw[e];rfl
 refine⟨d -w.drawn,os,?_⟩;rw[e];have h2:=h.2;rw[hd]at h2;show grow {w with drawn:=d} os=grow {w with drawn:=w.drawn+(d -w.drawn)} os;rw[Nat.add_sub_cancel' h2]
end
section
open Go.RowKit
structure OrderedOf (W:Int)(cs ds:List C2):Prop where
 asc:Asc ds
 good:∀c∈ds,c.n≠0∧gR8 W c.r
 tot:∀r,gR8 W r→totC ds r=totC cs r
theorem totC_mem:∀ {ds:List C2} {c:C2},(ds.Pairwise fun x y=>x.r≠y.r)→c∈ds→totC ds c.r=c.n
 |d::ds,c,hp,hc=>by
  obtain⟨h1,h2⟩:=List.pairwise_cons.1 hp;rw[totC];rcases List.mem_cons.1 hc with rfl|h
  ·rw[if_pos (cmpRow_irr _),totC_none fun x hx=>(h1 x hx).symm,Int.add_zero]
  ·rw[if_neg (fun e=>h1 c h ((cmpRow_0 _ _).1 e)),totC_mem h2 h,Int.zero_add]
structure Coll {w:World}{b:Nat}(D:DT)(W:Int)(cs:List C2)(left:Lit→Bool)(ss:List (RowT w b)):Prop where
 mem:∀x∈ss,gR8 W x.1.2.r∧x.1.2.n=totC cs x.1.2.r∧x.1.2.n≠0∧left (klit x.1.2.r)=false
 apart:ss.Pairwise fun x y=>x.1.2.r≠y.1.2.r
 all:∀r,gR8 W r→totC cs r≠0→left (klit r)=true∨∃x∈ss,x.1.2.r=r
 has:∀kl,left kl=true→Maps.has D kl=true
theorem Coll.next {w:World}{b:Nat}{D:DT}{W:Int}{cs:List C2}{left:Lit→Bool}{ss:List (RowT w b)}(hT:TallyOf w b D W cs)(hW:W≤1048576)(h:Coll D W cs left ss){kl:Lit}(hl:left kl=true){a:Option Addr}{l c:Nat}{m:Int}(hat:∀z,D.atKey kl z=.held (.slice a l c,m)):∃x:RowT w b,x.1.1=.slice a l c∧x.1.2.n=m∧Coll D W cs (fun z=>left z &&!z.sameKey kl) (ss++ [x]):=by
 obtain⟨r,hr,rfl⟩:=hT.only kl (h.has kl hl);have hn:totC cs r≠0:=fun e=>by
  have:=hT.no r hr e;rw[h.has _ hl]at this;cases this
 obtain⟨v,h1,h2⟩:=hT.yes r hr hn;have e:=(h1 .nil).symm.trans (hat .nil);obtain⟨rfl,rfl⟩:v=.slice a l c∧totC cs r=m:=by simpa using e
 have hself:(klit r).sameKey (klit r)=true:=WideAt.sameKey_self (klit_key r);have hlen:r.length≤1048576:=by
  have:=hr.1;simp only[okRow,Bool.and_eq_true,decide_eq_true_eq]at this;omega
 refine⟨⟨(.slice a l c,⟨r,totC cs r⟩),h2,hlen⟩,rfl,rfl,⟨fun x hx=>?_,?_,fun q hq hnq=>?_,fun k hk=>?_⟩⟩
 ·rcases List.mem_append.1 hx with hx|hx
  ·obtain⟨g1,g2,g3,g4⟩:=h.mem x hx;exact⟨g1,g2,g3,by rw[g4];rfl⟩
  ·rcases List.mem_singleton.1 hx with rfl;exact⟨hr,rfl,hn,by simp[hself]⟩
 ·rw[List.pairwise_append];refine⟨h.apart,List.pairwise_singleton _ _,fun x hx y hy=>?_⟩;rcases List.mem_singleton.1 hy with rfl;intro e;have:=(h.mem x hx).2.2.2;dsimp only at e;rw[e,hl]at this;cases this
 ·by_cases e:q=r
  ·subst e;exact .inr ⟨_,List.mem_append.2 (.inr (List.mem_singleton.2 rfl)),rfl⟩
  ·rcases h.all q hq hnq with h3|⟨x,hx,e2⟩
   ·refine .inl ?_;have:(klit q).sameKey (klit r)=false:=by
     cases hs:(klit q).sameKey (klit r)
     ·rfl
     ·exact absurd (klit_inj hq hr (WideAt.sameKey_eq hs)) e
    rw[h3,this];rfl
   ·exact .inr ⟨x,List.mem_append.2 (.inl hx),e2⟩
 ·rw[Bool.and_eq_true]at hk;exact h.has k hk.1
theorem Coll.done {w:World}{b:Nat}{D:DT}{W:Int}{cs:List C2}{left:Lit→Bool}{ss ss':List (RowT w b)}(h:Coll D W cs left ss)(hl:∀kl,left kl=false)(hp:ss'.Perm ss)(hs:ss'.Pairwise fun x y=>¬cR8 y.1.2.r x.1.2.r<0):OrderedOf W cs (ss'.map fun x=>x.1.2):=by
 have hap:ss'.Pairwise fun x y=>x.1.2.r≠y.1.2.r:=(hp.pairwise_iff (fun{_ _} hne=>Ne.symm hne)).2 h.apart;have hapM:(ss'.map fun x=>x.1.2).Pairwise fun x y=>x.r≠y.r:=List.pairwise_map.2 hap;refine⟨?_,fun c hc=>?_,fun r hr=>?_⟩
 ·refine List.pairwise_map.2 ?_;rw[List.pairwise_iff_getElem]at hap hs⊢;exact fun i j hi hj hij=>gt_of (hs i j hi hj hij) (fun e=>hap i j hi hj hij e.symm)
 ·obtain⟨x,hx,rfl⟩:=List.mem_map.1 hc;obtain⟨g1,g2,g3,_⟩:=h.mem x (hp.mem_iff.1 hx);exact⟨g3,g1⟩
 ·by_cases hn:totC cs r=0
  ·rw[hn];refine totC_none fun c hc e=>?_;obtain⟨x,hx,rfl⟩:=List.mem_map.1 hc;obtain⟨_,g2,g3,_⟩:=h.mem x (hp.mem_iff.1 hx);rw[e,hn]at g2;exact g3 g2
  ·rcases h.all r hr hn with h3|⟨x,hx,rfl⟩
   ·rw[hl]at h3;cases h3
   ·rw[totC_mem (c:=x.1.2) hapM (List.mem_map.2 ⟨x,hp.mem_iff.2 hx,rfl⟩)];exact(h.mem x hx).2.1
end
section
open Go.RowKit
theorem okCs_all:∀ {W:Int} {p:Option C2} {cs:List C2},okCs W p cs=true→Asc cs∧(∀y,p=some y→∀c∈cs,cR8 y.r c.r<0)∧∀c∈cs,okRow c.r W=true∧okN c.n=true
 |W,p,[],_=>⟨List.Pairwise.nil,fun _ _ _ h=>(by cases h),fun _ h=>(by cases h)⟩
 |W,p,x::xs,h=>by
  simp only[okCs,Bool.and_eq_true]at h;obtain⟨⟨⟨h1,h2⟩,h3⟩,h4⟩:=h;obtain⟨a1,a2,a3⟩:=okCs_all h4;refine⟨List.pairwise_cons.2 ⟨a2 x rfl,a1⟩,fun y hy c hc=>?_,fun c hc=>?_⟩
  ·subst hy;have h5:cR8 y.r x.r<0:=by simpa [okPrev]using h3
   rcases List.mem_cons.1 hc with rfl|hc
   ·exact h5
   ·exact cmpRow_trans h5 (a2 x rfl c hc)
  ·rcases List.mem_cons.1 hc with rfl|hc
   ·exact⟨h1,h2⟩
   ·exact a3 c hc
theorem okBag_all {W:Int}{cs:List C2}(h:okBag W cs=true)(hw:CsWf cs):0≤W∧W≤12∧cs.length≤400∧Asc cs∧∀c∈cs,gR8 W c.r∧c.n≠0∧ -1000000000≤c.n∧c.n≤1000000000:=by
 simp only[okBag,Bool.and_eq_true,decide_eq_true_eq]at h;obtain⟨⟨⟨h1,h2⟩,h3⟩,h4⟩:=h;obtain⟨a1,_,a3⟩:=okCs_all h4;refine⟨h1,h2,h3,a1,fun c hc=>?_⟩;obtain⟨b1,b2⟩:=a3 c hc;simp only[okN,Bool.and_eq_true,decide_eq_true_eq]at b2;exact⟨⟨b1,(hw c hc).1⟩,b2.1.1,b2.1.2,b2.2⟩
theorem wf_small {n:Int}(h: -9223372036854775808≤n∧n≤9223372036854775807):(Lit.int .i64 n).wf=true:=by
 have e1:IntKind.i64.min= -9223372036854775808:=rfl;have e2:IntKind.i64.max=9223372036854775807:=rfl;simp[Lit.wf,e1,e2];omega
end
section
open Go Go.RowKit
section
variable {P:Program}
def KeptBut (O:Nat→Prop)(A B:World):Prop:=A.heap.size≤B.heap.size∧∀k,k<A.heap.size→¬O k→B.heap[k]?=A.heap[k]?
structure SameOn (X:Nat→Prop)(A B:World):Prop where
 os:B.os=A.os
 tape:B.tape=A.tape
 output:B.output=A.output
 size:A.heap.size≤B.heap.size
 block:∀k,k<A.heap.size→X k→B.heap[k]?=A.heap[k]?
theorem SameOn.of_below {X:Nat→Prop}{A B:World}(h:Below A.heap.size A B):SameOn X A B:=⟨h.os,h.tape,h.output,h.size,fun k hk _=>h.block k hk⟩
theorem SameOn.trans {X:Nat→Prop}{A B C:World}(h:SameOn X A B)(k:SameOn X B C):SameOn X A C:=
 ⟨k.os.trans h.os,k.tape.trans h.tape,k.output.trans h.output,Nat.le_trans h.size k.size,fun i hi hX=>(k.block i (Nat.lt_of_lt_of_le hi h.size) hX).trans (h.block i hi hX)⟩
theorem KeptBut.trans {O O':Nat→Prop}{A B C:World}(h:KeptBut O A B)(k:KeptBut O' B C)(hO:∀i,O' i→O i∨A.heap.size≤i):KeptBut O A C:=
 ⟨Nat.le_trans h.1 k.1,fun i hi hn=>(k.2 i (Nat.lt_of_lt_of_le hi h.1) (fun e=>by rcases hO i e with h1|h1;exact hn h1;omega)).trans (h.2 i hi hn)⟩
end
end
section
open Go.RowKit Go.Shelf
attribute [local go_sem] Oper.semAt_some
def BagI {w2:World}{b:Nat}(w:World)(X:Int)(pre:List (RowT w2 b))(O:Nat→Prop)(A:World):Prop:=
 ∃ (y:Value) (us:List Value) (G:List (List Nat)),A.cell? ⟨w.heap.size+1,0,none⟩=some (.int .i64 X)∧A.cell? ⟨w.heap.size+1,1,none⟩=some y∧(∀q,A.frozen? ⟨w.heap.size+1,q,none⟩=false)∧A.cell? ⟨w.heap.size,0,none⟩=some (.int .i64 0)∧A.cell? ⟨w.heap.size,1,none⟩=some (.slice none 0 0)∧(∀q,A.frozen? ⟨w.heap.size,q,none⟩=false)∧ BagOwn A (w.heap.size+1+1) y (pre.map fun x=>x.1.2) us G∧Below w.heap.size w A∧w.heap.size+1+1≤A.heap.size∧(∀k,y.ownBlock=some k∨k∈G.flatten→O k)∧O (w.heap.size+1)∧∀k,O k→k=w.heap.size+1∨w.heap.size+1+1≤k∧k<A.heap.size
theorem bagOwn_on {A B:World}{N:Nat}{y:Value}{cs:List C2}{us:List Value}{G:List (List Nat)}(h:BagOwn A N y cs us G)(hs:A.heap.size≤B.heap.size)(hb:∀k,y.ownBlock=some k∨k∈G.flatten→B.heap[k]?=A.heap[k]?):BagOwn B N y cs us G:=by
 refine⟨oK8 h.own fun k hk=>hb k (.inl hk),h.ul,h.gl,fun i x u g hx hu hg=>(h.row i x u g hx hu hg).keep hs fun k hk=>hb k (.inr ?_),h.free.keep fun k hk=>hb k (.inr hk),h.out⟩;exact List.mem_flatten.2 ⟨g,mg8 hg,hk⟩
theorem BagI.on {w2:World}{b:Nat}{w:World}{X:Int}{pre:List (RowT w2 b)}{O:Nat→Prop}{A B:World}(h:BagI w X pre O A)(hs:SameOn (fun k=>k<w.heap.size+2∨O k) A B):BagI w X pre O B:=by
 obtain⟨y,us,G,p0,p1,pf,r0,r1,rf,hB,hb,hz,hO,hOb,hO2⟩:=h;have e1:B.heap[w.heap.size+1]?=A.heap[w.heap.size+1]?:=hs.block _ (by omega) (.inl (by omega));have e0:B.heap[w.heap.size]?=A.heap[w.heap.size]?:=hs.block _ (by omega) (.inl (by omega));refine⟨y,us,G,(cb8 e1).trans p0,(cb8 e1).trans p1,fun q=>(fb8 e1).trans (pf q),(cb8 e0).trans r0,(cb8 e0).trans r1,fun q=>(fb8 e0).trans (rf q),bagOwn_on hB hs.size fun k hk=>?_,⟨hs.os.trans hb.os,hs.tape.trans hb.tape,hs.output.trans hb.output,Nat.le_trans hb.size hs.size,fun k hk=>(hs.block k (by omega) (.inl (by omega))).trans (hb.block k hk)⟩,Nat.le_trans hz hs.size,hO,hOb,fun k hk=>?_⟩
 ·have h1:k<A.heap.size:=by
   rcases hk with hk|hk
   ·exact(oL8 hB.own k hk).2
   ·exact hB.lt k hk
  exact hs.block k h1 (.inr (hO k hk))
 ·have:=hO2 k hk;have:=hs.size;omega
end
section
open Go.RowKit
def relOf (db:List R3)(s:ByteArray):Option R3:=db.find? fun x=>x.s.toList==s.toList
theorem relOf_step {db:List R3}{s:ByteArray}{k:Nat}{x:R3}(h:db[k]?=some x):relOf (db.drop k) s=if(x.s.toList==s.toList)=true then some x else relOf (db.drop (k+1)) s:=by
 obtain⟨hk,rfl⟩:=gE1 h;unfold relOf;rw[List.drop_eq_getElem_cons hk,List.find?_cons];cases(db[k].s.toList==s.toList)<;>rfl
theorem relOf_mem {db:List R3}{s:ByteArray}{x:R3}(h:relOf db s=some x):x∈db:=List.mem_of_find?_eq_some h
theorem okRs_each:∀ {rs:List R3} {p:Option R3},okRs p rs=true→∀r∈rs,okPlain r.W r.cs=true
 | [],_,_,c,hc=>by cases hc
 |x::r,p,h,c,hc=>by
  rw[okRs,Bool.and_eq_true,Bool.and_eq_true,Bool.and_eq_true]at h;rcases List.mem_cons.1 hc with rfl|hc
  ·exact h.1.1.2
  ·exact okRs_each h.2 c hc
theorem okDb_each {db:List R3}(h:okDb db=true){x:R3}(hx:x∈db):okBag x.W x.cs=true:=by
 simp only[okDb,Bool.and_eq_true]at h;have:=okRs_each h.2 x hx;simp only[okPlain,Bool.and_eq_true]at this;exact this.2
end
section
open Go.RowKit
theorem l04Rel_any (s:ByteArray)(v:Value)(rs:List R3)(F:List Nat)(w:World)(hr:RelsF w v rs F):Calls Tryz.prog 37 #[v,.string s] w fun e w'=>(∃ (W:Int) (u:Value),e=.returned (.tuple #[.agg #[.int .i64 W,u],.bool (relOf rs s).isSome])∧(∃a l c,u=.slice a l c)∧∀x,relOf rs s=some x→W=x.W∧∃g,RowsF w' u x.cs g)∧Below w.heap.size w w':=by
 obtain⟨a,c,b,o,G,rfl,hl,hc,_,hG,_,hC,ha⟩:=hr.pick;unfold maxLen at hc;clear hr;go_enter Tryz.func37,Tryz.ntmps37;go_wp2_with fail;go_loopw [6] (fun i wr=> ∃k:Nat,k≤rs.length∧i=.int .i64 k∧Below w.heap.size w wr∧w.heap.size<wr.heap.size∧wr.cell? ⟨w.heap.size,0,none⟩=some (.int .i64 0)∧wr.cell? ⟨w.heap.size,1,none⟩=some (.slice none 0 0)∧(∀q,wr.frozen? ⟨w.heap.size,q,none⟩=false)∧relOf rs s=relOf (rs.drop k) s) (fun i _=>rs.length - (intOf i).toNat)
 case atStart=>exact⟨0,Nat.zero_le _,rfl,bex,by simp,by go_simp,by go_simp,fun q=>by go_simp,by simp⟩
 case round=>
  obtain⟨k,hk,rfl,hb,hsz,r0,r1,rf,heq⟩:=hrel;have HE:Hid (relOf rs s=relOf (rs.drop k) s):=heq;clear heq;by_cases hlt:k<rs.length
  ·obtain⟨rfl,hblt,_⟩:=ha k hlt;have hkG:k<G.length:=by omega
   have hx:rs[k]?=some rs[k]:=by simp
   obtain⟨u,q0,q1,q2,hR0⟩:=hC k rs[k] G[k] hx (by simp);have c0:=(hb.cell (p:=⟨b,_,none⟩) hblt).trans q0;have c1:=(hb.cell (p:=⟨b,_,none⟩) hblt).trans q1;have c2:=(hb.cell (p:=⟨b,_,none⟩) hblt).trans q2;have hR:=hR0.below hb;have hgl:=hR0.lt;have hbr:b<wr.heap.size:=by omega
   generalize rs[k]=x at hx c0 c1 c2 hR;generalize G[k]=g at hR hgl;clear hR0 q0 q1 q2;have HS:Hid (relOf (rs.drop k) s=if(x.s.toList==s.toList)=true then some x else relOf (rs.drop (k+1)) s):=relOf_step hx;obtain⟨au,lu,cu,rfl⟩:=hR.is.shape;clear ha hC hx;cases hh:(x.s.toList==s.toList)with
   |true=>
    have HF:Hid (relOf rs s=some x):=by show _=_;rw[HE.out,HS.out,hh];rfl
    have hbW:b≠w.heap.size:=by omega
    go_wp2_with fail;refine bodyPost_ret (v:=.tuple #[.agg #[.int .i64 x.W,.slice au lu cu],.bool true]) (by simp[results,Tryz.results37,go_sem, *]) rfl ⟨⟨x.W,.slice au lu cu,by rw[HF.out];rfl,⟨_,_,_,rfl⟩,fun x' hx'=>?_⟩,?_⟩
    ·rw[HF.out]at hx';obtain rfl:x=x':=by simpa using hx'
     refine⟨rfl,g,hR.keep (by simp) fun q hq=>?_⟩;have:=hgl q hq
     iterate 2 rw[bS8 _ _ _ _ (by simp;omega)]
    ·repeat (first|(with_reducible exact hb)|(with_reducible refine Below.setCell ?_ ?hh _;case hh=>(simp;try omega)))
   |false=>
    have HF:Hid (relOf (rs.drop k) s=relOf (rs.drop (k+1)) s):=by show _=_;rw[HS.out,hh];rfl
    go_wp2_with fail;exact⟨⟨k+1,hlt,by simp,hb,hsz,r0,r1,rf,by rw[HE.out,HF.out]⟩,by simp[intOf];omega⟩
  ·obtain rfl:k=rs.length:=by omega
   have HT:Hid (relOf rs s=none):=by show _=_;rw[HE.out,List.drop_length];rfl
   clear ha hC;go_wp2_with fail;refine bodyPost_ret (v:=.tuple #[.agg #[.int .i64 0,.slice none 0 0],.bool false]) (by simp[results,Tryz.results37,go_sem, *]) rfl ⟨⟨0,.slice none 0 0,by rw[HT.out];rfl,⟨_,_,_,rfl⟩,fun x' hx'=>by rw[HT.out]at hx';cases hx'⟩,?_⟩;repeat (first|(with_reducible exact hb)|(with_reducible refine Below.setCell ?_ ?hh _;case hh=>(simp;try omega)))
end
section
open Go.RowKit Go.Sort Go.Shelf Go.Lib
abbrev RelT:={p:R3×Value×List Nat// ∃a l c,p.2.1=.slice a l c}
def relT0:RelT:=⟨(⟨⟨#[]⟩,0,[]⟩,.slice none 0 0,[]),none,0,0,rfl⟩
def encR (x:RelT):List Value:=[.string x.1.1.s,.int .i64 x.1.1.W,x.1.2.1]
def cfR (x y:RelT):Int:=cmpS x.1.1.s y.1.1.s
theorem encR_one (x:RelT):∀v∈encR x,v.oneCell'=true:=by
 intro v hv;obtain⟨⟨r,u,g⟩,a,l,c,e⟩:=x;simp only[encR,List.mem_cons,List.not_mem_nil,or_false]at hv;rcases hv with rfl|rfl|rfl
 ·rfl
 ·rfl
 ·dsimp only at e⊢;rw[e];rfl
theorem cmpS_neg (s t:ByteArray):cmpS s t<0↔Op.bytesLess s.toList t.toList=true:=by
 unfold cmpS;split
 ·simp[*]
 ·split<;>simp[*,bless_irrefl]
theorem ltR (x y:RelT):ltOf cfR x y=Op.bytesLess x.1.1.s.toList y.1.1.s.toList:=by
 unfold ltOf cfR;cases h:Op.bytesLess x.1.1.s.toList y.1.1.s.toList
 ·exact decide_eq_false fun h2=>by rw[cmpS_neg,h]at h2;cases h2
 ·exact decide_eq_true ((cmpS_neg _ _).2 h)
theorem bless_nlt {x y z:List UInt8}(h1:Op.bytesLess x y=false)(h2:Op.bytesLess y z=false):Op.bytesLess x z=false:=by
 cases h:Op.bytesLess x z with
 |false=>rfl
 |true=>
  by_cases e:x=y
  ·rw[←e,h]at h2;cases h2
  ·have:=bl_trans (bless_total h1 e) h;rw[this]at h2;cases h2
theorem cfR_swo:SWO (ltOf cfR):=by
 refine⟨fun x=>?_,fun x y z h1 h2=>?_,fun x y z h1 h2=>?_⟩
 ·rw[ltR];exact bless_irrefl _
 ·rw[ltR]at*;exact bl_trans h1 h2
 ·rw[ltR]at*;exact bless_nlt h1 h2
theorem relCmp_any (s s':ByteArray)(W W':Int)(a a':Option Addr)(l l' c c':Nat)(w:World):Calls Tryz.prog 26 #[.agg #[.string s,.int .i64 W,.slice a l c],.agg #[.string s',.int .i64 W',.slice a' l' c']] w fun e w'=>e=.returned (.int .i64 (cmpS s s'))∧Onw w w':=by
 have h0:Onw w ((w.alloc (.cells #[.string s,.int .i64 W,.slice a l c] 59)).alloc (.cells #[.string s',.int .i64 W',.slice a' l' c'] 59)):=((Onw.refl w).alloc _).alloc _;go_enter Tryz.func26,Tryz.ntmps26;go_wp2_with(go_at_call 27;refine(cmpStr_any _ _ _).mono ?_;rintro e w1 ⟨rfl,rfl⟩);go_returns;exact⟨rfl,h0⟩
theorem sortWorldR_kept {α:Type}[Inhabited α](enc:α→List Value)(w:World)(blk off m:Nat)(dk:Array α)(os:Array Obj)(hblk:blk<w.heap.size):(sortWorldK enc 3 w blk off m dk os).os=w.os∧(sortWorldK enc 3 w blk off m dk os).tape=w.tape∧(sortWorldK enc 3 w blk off m dk os).output=w.output∧w.heap.size≤(sortWorldK enc 3 w blk off m dk os).heap.size∧
  (∀k,k<w.heap.size→k≠blk→(sortWorldK enc 3 w blk off m dk os).heap[k]?=w.heap[k]?)∧∀o,(sortWorldK enc 3 w blk off m dk os).frozen? ⟨blk,o,none⟩=w.frozen? ⟨blk,o,none⟩:=by
 refine⟨rfl,rfl,rfl,size_sortWorldK_c enc 3 w blk off m dk os,fun k hk hne=>?_,fun o=>?_⟩
 ·unfold sortWorldK;rw[heap_grow_old _ _ (by rw[size_putRowK];exact hk)];exact mapBlock_other _ _ _ _ hne
 ·unfold sortWorldK;rw[frozen?_grow _ _ _ (by rw[size_putRowK];exact hblk)];exact frozen?_putRow _ _ _ _ _ _
theorem sortR_any (w:World)(blk cap:Nat)(hblk:blk<w.heap.size)(ds:List RelT)(hlen:ds.length≤4194304)(hH:∀ (i:Nat) (x:RelT),ds[i]?=some x→w.cell? ⟨blk,i*3,none⟩=some (.string x.1.1.s)∧w.cell? ⟨blk,i*3+1,none⟩=some (.int .i64 x.1.1.W)∧w.cell? ⟨blk,i*3+2,none⟩=some x.1.2.1) (hF:∀o,w.frozen? ⟨blk,o,none⟩=false):Calls Tryz.prog 25 #[.slice (some ⟨blk,0,none⟩) ds.length cap,.func (.func 26) #[] #[]] w fun e w'=>e=.returned (.tuple #[])∧
   ∃ds':List RelT,ds'.Perm ds∧(ds'.Pairwise fun x y=>Op.bytesLess y.1.1.s.toList x.1.1.s.toList=false)∧(∀ (i:Nat) (x:RelT),ds'[i]?=some x→w'.cell? ⟨blk,i*3,none⟩=some (.string x.1.1.s)∧w'.cell? ⟨blk,i*3+1,none⟩=some (.int .i64 x.1.1.W)∧w'.cell? ⟨blk,i*3+2,none⟩=some x.1.2.1)∧
   w'.os=w.os∧w'.tape=w.tape∧w'.output=w.output∧w.heap.size≤w'.heap.size∧(∀k,k<w.heap.size→k≠blk→w'.heap[k]?=w.heap[k]?)∧∀o,w'.frozen? ⟨blk,o,none⟩=false:=by
 letI:Inhabited RelT:=⟨relT0⟩
 have eg:∀args w,(callFunc 26 args).run Tryz.prog w=.ok (.enter 26 args) w:=enters_of Tryz.func26 (by kernel_rfl) rfl;have hcmp:CmpLays Tryz.prog 26 #[] encR 3 cfR blk 0 ds.toArray.size w:=by
  intro m os dk _ x y;generalize sortWorldK encR 3 w blk 0 m dk os=W;obtain⟨⟨rx,ux,gx⟩,a,l,c,ex⟩:=x;obtain⟨⟨ry,uy,gy⟩,a',l',c',ey⟩:=y;dsimp only at ex ey;subst ex ey;refine cM8 (relCmp_any rx.s ry.s rx.W ry.W a a' l l' c c' W) ?_;rintro e w' ⟨rfl,hO⟩;exact⟨rfl,onw_grow hO⟩
 have hH':HoldsK encR 3 w blk 0 ds.toArray:=by
  intro j hj;rw[size_flatK]at hj;refine⟨?_,hF _⟩;rw[get_flatK _ _ _ _ hj];have hj2:j/3<ds.length:=by simp at hj;omega
  have hx:ds[j/3]?=some ds[j/3]:=by simp[hj2]
  obtain⟨h0,h1,h2⟩:=hH (j/3) ds[j/3] hx;have he:ds.toArray[j/3]! =ds[j/3]:=by simp[hj2]
  rw[he];have h3:j %3=0∨j %3=1∨j %3=2:=by omega
  rcases h3 with e|e|e
  ·have:0+j=j/3*3:=by omega
   rw[this,h0,e];rfl
  ·have:0+j=j/3*3+1:=by omega
   rw[this,h1,e];rfl
  ·have:0+j=j/3*3+2:=by omega
   rw[this,h2,e];rfl
 have hcon:=AnyQ.slices_SortFunc Tryz.laysSort 3 Tryz.isAgg59 Tryz.sizeOf59 encR (fun _=>rfl) encR_one cfR cfR_swo 26 #[] blk 0 cap ds.toArray w eg hcmp hH' hblk (by simp;omega);change Calls Tryz.prog 25 _ _ _ at hcon;have hsz:ds.toArray.size=ds.length:=by simp
 rw[hsz]at hcon;refine cM8 hcon ?_;rintro e w' ⟨rfl,d',n,os,hp,hs,rfl⟩;have hk:=sortWorldR_kept encR w blk 0 n d' os hblk;have hds:d'.size=ds.length:=by rw[hp.1];simp
 have hhold:=holdsK_sortWorldK_c encR 3 w blk 0 ds.toArray d' n os hH' hblk (by rw[hds];simp);refine⟨rfl,d'.toList,?_,?_,?_,hk.1,hk.2.1,hk.2.2.1,hk.2.2.2.1,hk.2.2.2.2.1,fun o=>(hk.2.2.2.2.2 o).trans (hF o)⟩
 ·have h3:=hp.2.2;rw[Array.extract_eq_self_of_le (by omega),Array.extract_eq_self_of_le (by simp)]at h3
  simpa using h3
 ·rw[List.pairwise_iff_getElem];intro i j hi hj hij;have hi':i<d'.size:=by simpa using hi
  have hj':j<d'.size:=by simpa using hj
  have h4:=hs i j (Nat.zero_le _) hij (by omega);rw[getElem!_pos d' j hj',getElem!_pos d' i hi',ltR]at h4
  simpa using h4
 ·intro i x hx;obtain⟨hi,rfl⟩:=gE1 hx;have hi':i<d'.size:=by simpa using hi
  have c0:=hhold.cell hi' (show 0<3 by decide);have c1:=hhold.cell hi' (show 1<3 by decide);have c2:=hhold.cell hi' (show 2<3 by decide);rw[getElem!_pos d' i hi']at c0 c1 c2;refine⟨?_,?_,?_⟩
  ·simpa [encR]using c0.1
  ·simpa [encR]using c1.1
  ·simpa [encR]using c2.1
theorem mkT:∀ (rs:List R3) (us:List Value) (G:List (List Nat)),us.length=rs.length→G.length=rs.length→(∀u∈us,∃a l c,u=.slice a l c)→
  ∃ds:List RelT,ds.map (fun x=>x.1.1)=rs∧ds.map (fun x=>x.1.2.1)=us∧ds.map (fun x=>x.1.2.2)=G
 | [],[],[],_,_,_=>⟨[],rfl,rfl,rfl⟩
 |r::rs,u::us,g::G,h1,h2,h3=>by
  obtain⟨ds,e1,e2,e3⟩:=mkT rs us G (by simpa using h1) (by simpa using h2) (fun x hx=>h3 x (List.mem_cons_of_mem _ hx));exact⟨⟨(r,u,g),h3 u List.mem_cons_self⟩::ds,by simp[e1],by simp[e2],by simp[e3]⟩
theorem sortRel_any (w:World)(N blk cap:Nat)(rs:List R3)(us:List Value)(G:List (List Nat))(h:RelOwn w N (.slice (some ⟨blk,0,none⟩) rs.length cap) rs us G)(hlen:rs.length≤4194304):Calls Tryz.prog 25 #[.slice (some ⟨blk,0,none⟩) rs.length cap,.func (.func 26) #[] #[]] w fun e w'=>e=.returned (.tuple #[])∧
   ∃rs' F,rs'.Perm rs∧(rs'.Pairwise fun x y=>Op.bytesLess y.s.toList x.s.toList=false)∧RelsF w' (.slice (some ⟨blk,0,none⟩) rs.length cap) rs' F∧OwnB w' N F∧Below N w w':=by
 have hlt:=oL8 h.own blk rfl;have hGl:=h.lt;have hout:=h.out blk rfl;obtain⟨hl,ho⟩:=h.own;rcases ho with⟨hv,_⟩|⟨g,cap',cur,hv,hg,hc,hn,hm,hs,ht⟩
 ·cases hv
 obtain⟨rfl,rfl⟩:blk=g∧cap=cap':=by simpa using hv
 have get:∀j u,j<rs.length*3→(rcs us rs)[j]?=some u→w.cell? ⟨blk,j,none⟩=some u:=by
  intro j u hj hu;simp only[World.cell?,hc];rw[←ht,List.getElem?_take,if_pos hj,Array.getElem?_toList]at hu
  simpa using hu
 have hus:∀u∈us,∃a l c,u=.slice a l c:=by
  intro u hu;obtain⟨i,hi,rfl⟩:=List.mem_iff_getElem.1 hu;have h1:=h.ul;have h2:=h.gl;have hi1:i<rs.length:=by omega
  have hi2:i<G.length:=by omega
  exact(h.row i rs[i] us[i] G[i] (by simp) (by simp) (by simp)).is.shape
 obtain⟨ds,e1,e2,e3⟩:=mkT rs us G h.ul h.gl hus;have hdl:ds.length=rs.length:=by rw[←e1];simp
 have hall:∀ (i:Nat) (x:RelT),ds[i]?=some x→rs[i]?=some x.1.1∧us[i]?=some x.1.2.1∧G[i]?=some x.1.2.2:=by
  intro i x hx;rw[←e1,←e2,←e3];simp[hx]
 have hmem:∀x∈ds,RowsF w x.1.2.1 x.1.1.cs x.1.2.2:=by
  intro x hx;obtain⟨i,hi,e⟩:=List.mem_iff_getElem.1 hx;obtain⟨q0,q1,q2⟩:=hall i x (by rw[←e];simp);exact h.row i _ _ _ q0 q1 q2
 have hcall:=sortR_any w blk cap hlt.2 ds (by omega) (fun i x hx=>by
  obtain⟨q0,q1,q2⟩:=hall i x hx;have hi:i<rs.length:=(gE1 q0).1;obtain⟨z0,z1,z2⟩:=rcs_at h.ul q1 q0;exact⟨get _ _ (by omega) z0,get _ _ (by omega) z1,get _ _ (by omega) z2⟩) (fun o=>by simp[World.frozen?,hc])
 rw[hdl]at hcall;refine cM8 hcall ?_;rintro e w' ⟨rfl,ds',hp,hpw,hcell,ho1,ho2,ho3,ho4,ho5,ho6⟩;have hpf:((ds'.map fun x=>x.1.2.2).flatten).Perm G.flatten:=by
  rw[←e3];have:=hp.flatMap_right (fun x:RelT=>x.1.2.2)
  simpa [List.flatMap_def]using this
 have hdl':ds'.length=rs.length:=by rw[←hdl];exact hp.length_eq
 have hsame:∀b∈(ds'.map fun x=>x.1.2.2).flatten,w'.heap[b]?=w.heap[b]?:=fun b hb=>ho5 b (hGl b (hpf.mem_iff.1 hb)) (by rintro rfl;exact hout (hpf.mem_iff.1 hb));refine⟨rfl,ds'.map (fun x=>x.1.1),if rs=[]then[]else blk::(ds'.map fun x=>x.1.2.2).flatten,?_,?_,?_,?_,⟨ho1,ho2,ho3,ho4,fun k hk=>?_⟩⟩
 ·rw[←e1];exact hp.map _
 ·rw[List.pairwise_map];exact hpw
 ·refine⟨some ⟨blk,0,none⟩,cap,ds'.map fun x=>x.1.2.2,by simp[hdl'],by simp;omega,by simpa using hm,(fun x=>by cases x),by simp,fun e=>?_,fun hne=>?_⟩
  ·have:rs=[]:=by
    have h0:(ds'.map fun x:RelT=>x.1.1).length=0:=by rw[e];rfl
    have:rs.length=0:=by simp at h0;simpa [h0]using hdl'.symm
    exact List.length_eq_zero_iff.1 this
   rw[if_pos this]
  ·have hne':rs≠ []:=by
    rintro rfl;have:ds'=[]:=List.length_eq_zero_iff.1 (by simpa using hdl');rw[this]at hne;exact hne rfl
   rw[if_neg hne'];refine⟨blk,0,rfl,by omega,rfl,fun i x gi hx hgi=>?_⟩;rw[List.getElem?_map]at hx hgi;obtain⟨q,hq,rfl⟩:=Option.map_eq_some_iff.1 hx;rw[hq]at hgi;obtain rfl:=Option.some.inj hgi;obtain⟨z0,z1,z2⟩:=hcell i q hq;rw[Nat.zero_add];exact⟨_,z0,z1,z2,(hmem q (hp.mem_iff.1 (mg8 hq))).keep ho4 fun b hb=>hsame b (List.mem_flatten.2 ⟨q.1.2.2,List.mem_map.2 ⟨q,mg8 hq,rfl⟩,hb⟩)⟩
 ·split
  ·simp[OwnB,Free]
  ·have hfr:=h.free;refine⟨List.nodup_cons.2 ⟨fun hb=>hout (hpf.mem_iff.1 hb),hpf.symm.nodup hfr.1⟩,fun b hb=>?_,fun b hb o=>?_⟩
   ·rcases List.mem_cons.1 hb with rfl|hb
    ·exact hlt.1
    ·exact hfr.2.1 b (hpf.mem_iff.1 hb)
   ·rcases List.mem_cons.1 hb with rfl|hb
    ·exact ho6 o
    ·exact(fb8 (hsame b hb)).trans (hfr.2.2 b (hpf.mem_iff.1 hb) o)
 ·exact ho5 k (by omega) (by omega)
end
end
end Go.Proofs.YtjhhmnjpojnoiaaGreatDoor
