/- Own texts, joined: contracts that the law's proof goes by. -/
import Derived.Test.YtflokiejcjjbiaaGreatGLFits31
import Derived.Test.YtflokiejcjjbiaaGreatGLFits2
import Derived.Test.YtflokiejcjjbiaaGreatGLFits24
import Derived.Test.YtflokiejcjjbiaaGreatGLFits38
import Derived.Test.YtflokiejcjjbiaaGreatGLFits34
import Derived.Deep.RegionHeld3
import Derived.Test.YtflokiejcjjbiaaGreatGLFits36
import Derived.Test.YtflokiejcjjbiaaGreatGLFits10
import Derived.Shelf.Spec.SlicesGrow
import Derived.Test.YtflokiejcjjbiaaGreatGLFits27
import Derived.Maps.AppendAt
set_option maxHeartbeats 16000000
set_option maxRecDepth 100000
set_option linter.unusedVariables false
set_option linter.unusedSimpArgs false
namespace Go.Proofs.YtflokiejcjjbiaaGreat
section
open Go.RowKit
theorem numC_snoc (a:List C2)(x:C2):numC (a++ [x])=numC a+x.n:=by unfold numC;rw[List.map_append,List.sum_append];simp
theorem implSizeN_any (W:Int)(v:Value)(cs:List C2)(w:World)(hr:RowsIs w v cs)(hn:∀c∈cs,0<c.n∧c.n≤1000000000)(hm:cs.length≤400):Calls Tryz.prog 141 #[.agg #[.int .i64 W,v]] w fun e w'=>e=.returned (.int .i64 (numC cs))∧Below w.heap.size w w':=by
 obtain⟨a,c,b,o,rfl,hl,hc,ha⟩:=hr.pick;unfold maxLen at hc;clear hr;go_enter Tryz.func141,Tryz.ntmps141;go_wp2;go_loopw [3,9] (fun m i wr=> ∃ (k:Nat) (n:Int),k≤cs.length∧i=.int .i64 k∧m=.int .i64 n∧n=numC (cs.take k)∧Below w.heap.size w wr) (fun _ i _=>cs.length - (intOf i).toNat)
 case atStart=>exact⟨0,0,Nat.zero_le _,rfl,rfl,rfl,by go_grown⟩
 case round=>
  obtain⟨k,n,hk,rfl,rfl,hS,hb⟩:=hrel;have HS:Hid (n=numC (cs.take k)):=hS;have hnb:0≤n∧n≤400000000000:=by
   have h1:=num_bound (cs:=cs.take k) fun c hc=>hn c (List.mem_of_mem_take hc);have h2:(cs.take k).length≤400:=by simp;omega
   rw[hS];omega
  have hzb:=hb.size;clear hS;by_cases hlt:k<cs.length
  ·obtain⟨rfl,hblt,hL⟩:=ha k hlt;obtain⟨x,u,hx,c0,hR,c1,hbr⟩:=hL.at hblt hb hlt;have hxn:=hn x (mg8 hx);have HT:Hid (n+x.n=numC (cs.take (k+1))):=by show _=_;rw[take_snoc hx,numC_snoc,HS.out]
   have hw:wrap64 (n+x.n)=n+x.n:=by unfold wrap64;omega
   obtain⟨ur,lr,cr,rfl⟩:=hR.shape;clear ha hL hx hR;go_wp2;exact⟨⟨k+1,_,hlt,by simp,rfl,HT.out,bela⟩,by simp[intOf];omega⟩
  ·obtain rfl:k=cs.length:=by omega
   have HE:=HS.out;rw[List.take_length]at HE;clear ha;go_wp2;go_returns;refine⟨ret_int ?_,hb⟩;exact HE
end
section
open Go.RowKit Go.Deep Go.ChangeShapes Go.WideShapes
theorem ownsRow_down {w:World}{N M e s n:Nat}{v:Value}{xs:List Value}(h:w.ownsRow N e s v n xs)(hM:M≤N):w.ownsRow M e s v n xs:=by
 obtain⟨h0,h1|⟨g,cap,cur,h1,h2,h3⟩⟩:=h
 ·exact⟨h0,.inl h1⟩
 ·exact⟨h0,.inr ⟨g,cap,cur,h1,by omega,h3⟩⟩
theorem bcellN {N:Nat}{w w':World}(h:Below N w w'):(∀b o,b<N→w'.cell? ⟨b,o,none⟩=w.cell? ⟨b,o,none⟩)∧∀b o,b<N→w'.frozen? ⟨b,o,none⟩=w.frozen? ⟨b,o,none⟩:=⟨fun b o hb=>cb8 (h.block b hb),fun b o hb=>fb8 (h.block b hb)⟩
theorem sumV_s (s:Option Int):(sumV s).s=⟨#[]⟩:=by cases s<;>rfl
theorem own_sl {w:World}{N e s n:Nat}{v:Value}{xs:List Value}(h:w.ownsRow N e s v n xs):∃a c,v=.slice a n c:=by
 rcases h.2 with⟨rfl,h0⟩|⟨g,cap,cur,hv,_⟩
 ·exact⟨none,0,by rw[h0]⟩
 ·exact⟨_,cap,hv⟩
theorem rk_ans {m:Int}{V:E7→List V3→V3}(hV:VOk m V){e:E7}{u:Value}{F:List Nat}{D:Nat}{w:World}(he:e.wf)(hk:KidsIs w D u e.ks F)(hok:okE 13 e=true)(hne:wtE e≤1048576)(hm:w.cell? ⟨0,0,none⟩=some (.int .i64 m)):Calls Tryz.prog 108 #[(.agg #[.int .i64 e.k,.int .i64 e.n,.int .i64 e.v.k,.int .i64 e.v.n,.string e.v.s,.string e.p,u])] w fun x w'=>(∃fn cap,x=.returned (.func (.func fn) #[] cap)∧Ent fn∧∀ (Y:World) (v:Value) (vs:List V3),Below w'.heap.size w' Y→RowIs Y v vs→RowV vs→Calls Tryz.prog fn (#[v]++cap) Y fun q w'=>q=.returned (.agg #[.int .i64 (V e vs).k,.int .i64 (V e vs).n,.string (V e vs).s])∧Below Y.heap.size Y w')∧Below w.heap.size w w':=by
 have hGE:GoodE e:=⟨he,hok,hne,w,D,_,F,hk⟩;refine cM8 (rk_any m 13 e _ F D w he hk hok hne) ?_;rintro x w' ⟨⟨cl,rfl,fn,cap,rfl,hE,hC⟩,hb⟩;have h0:0<w'.heap.size:=Nat.lt_of_lt_of_le (bl8 _ _ hm) hb.size;have hm':w'.cell? ⟨0,0,none⟩=some (.int .i64 m):=((bc8 hb).1 0 0 (bl8 _ _ hm)).trans hm;exact⟨⟨fn,cap,rfl,hE,fun Y v vs hY hv hvV=>hC Y v vs _ (fun b hb=>hY.block b hb.2) (((bc8 hY).1 0 0 h0).trans hm') hv (hV.res e vs hGE hvV)⟩,hb⟩
theorem groupRow_any {m:Int}{V:E7→List V3→V3}(hV:VOk m V)(wh W:Int)(nk:Nat)(au:Option Addr)(lu cu:Nat)(ev:Value)(es:List E7)(Fs:List Nat)(D:Nat)(rv:Value)(ds:List C2)(F:List Nat)(w:World)(hr:RowsF w rv ds F)(hd0:ds≠ [])(hd:ds.length≤400)(hnum:∀c∈ds,0<c.n∧c.n≤1000000000)(hrow:∀c∈ds,RowV c.r∧c.r.length≤12)(K:List V3)(hK:∀x,ds[0]?=some x→nk≤x.r.length∧x.r.take nk=K)(hm:w.cell? ⟨0,0,none⟩=some (.int .i64 m))(hes:es.length≤1)(hk0:KidsIs w D ev es Fs)(hok:∀e∈es,okE 13 e=true)(hne:∀e∈es,wtE e≤1048576):Calls Tryz.prog 115 #[.agg #[.int .i64 wh,.int .i64 W,.slice au lu cu,.int .i64 nk,ev],rv] w fun q w'=>(∃u g,q=.returned u∧RowF w' u (tR8 V es K ds) g∧OwnB w' w.heap.size g)∧Below w.heap.size w w':=by
 obtain⟨i0,hi,hz0,hz1,hz2'⟩:=info_parts Tryz.infoVal;have hS:=fun(X:World) (hX:Below w.heap.size w X)=>implSizeN_any 0 rv ds X ((hr.below hX).is) hnum hd;have hRB:=fun(X:World) (hX:Below w.heap.size w X)=>hr.below hX;obtain⟨D,rfl⟩:=hk0.succ;obtain⟨ae,ce,be,oe,Ge,rfl,hle,hce,hGe,_,hae⟩:=hk0.pick;unfold maxLen at hce;obtain⟨a,c,b,o,G0,rfl,hl,hc,_,hG0,_,hC,ha⟩:=hr.pick;have hp:0<ds.length:=List.length_pos_iff.2 hd0;have hpI:(0:Int)<ds.length:=by omega
 obtain⟨rfl,hblt,_⟩:=ha 0 hp;obtain⟨x,u0,g0,hx,_,c0,hR,c1,hbr⟩:=hC.at hG0 hblt (Below.refl _ _) hp;obtain⟨hKl,HK⟩:=hK x hx;have hxr:=hrow x (mg8 hx);obtain⟨a0,n0,rfl⟩:=hR.shape;have hn0:x.r.length≤n0∧n0≤9223372036854775807:=by obtain⟨a',c',ee,h1,h2,_⟩:=id hR.is;injection ee with _ _ e3;subst e3;unfold maxLen at h2;exact⟨h1,by omega⟩
 have hkn:(nk:Int)≤n0:=by omega
 have hk12:nk≤12:=by omega
 have hKn:K.length=nk:=by rw[←HK];simp;omega
 simp only[Nat.zero_mul,Nat.add_zero]at c0 c1;obtain⟨g',hRt⟩:=hR.take hKl;rw[HK]at hRt;have hCl:∀X,Below w.heap.size w X→w.heap.size+1≤X.heap.size→Calls Tryz.prog 140 #[.slice a0 nk n0] X fun e w'=>(∃a1 c1,e=.returned (.slice a1 nk c1)∧w'.ownsRow (w.heap.size+1) 36 3 (.slice a1 nk c1) nk (rc K))∧Below X.heap.size X w':=fun X hX hz=>by
  refine cM8 (cloneV_any (.slice a0 nk n0) K g' X (by have:=hRt.below hX;exact this) (by omega)) ?_;rintro e w' ⟨⟨u,rfl,ho⟩,hb⟩;rw[hKn]at ho;obtain⟨a1,c1,rfl⟩:=own_sl ho;exact⟨⟨a1,c1,rfl,ownsRow_down ho hz⟩,hb⟩
 obtain⟨nm,HNM⟩:∃q,Hid (numC ds=q):=⟨_,rfl⟩;rw[HNM.out]at hS;have hcl:∀ (w2:World) (q1 q2:Int) (q3:ByteArray),∀j u,([.int .i64 q1,.int .i64 q2,.string q3]:List Value)[j]?=some u→(w2.alloc (.cells #[.int .i64 q1,.int .i64 q2,.string q3] 36)).cell? ((⟨w2.heap.size,0,none⟩:Addr).add j)=some u:=fun w2 q1 q2 q3=>World.news_of_block (cs:=#[.int .i64 q1,.int .i64 q2,.string q3]) (t:=36) (fr:=(0,0)) (heap_alloc_new w2 _);have HO:Hid (∀e∈es,okE 13 e=true∧wtE e≤1048576):=fun e h=>⟨hok e h,hne e h⟩;have HRV:Hid (∀c∈ds,RowV c.r):=fun c h=>(hrow c h).1;have hdn:ds.length≤1048576:=by omega
 clear hr ha hC hR hx hK hRt hok hne hrow hnum hk0 hl hc;go_enter Tryz.func115,Tryz.ntmps115;go_wp2_with fail;go_region_held3 (fun w'=>w'.cell? ⟨w.heap.size,3,none⟩=some (.int .i64 nk)∧w'.cell? ⟨b,o,none⟩=some (.slice a0 x.r.length n0)) (refine⟨?_,?_⟩<;>first|(go_simp;done)|(exact cL8 (by assumption) (by go_simp))) (first|(go_at_call 140;refine cM8 (hCl _ bex (by simp)) ?_;rintro y w1 ⟨⟨a1,c1',rfl,hown1⟩,hb1⟩;have hzv1:=hb1.size;(try simp at hzv1)));have hown2:∀X,Below w1.heap.size w1 X→X.ownsRow (w.heap.size+1) 36 3 (.slice a1 nk c1') nk (rc K):=fun X hX=>ownsRow_blk hown1 hX;have bel1:Below w.heap.size w w1:=bex;have k14:w1.cell? ⟨w.heap.size,4,none⟩=some (.slice ae es.length ce):=cL8 hb1 (by go_simp);have hHeld:=True.intro;clear hHeld hb1 hown1 hCl;go_wp2_with fail;refine cM8 (hS _ bex) ?_;rintro z w2 ⟨rfl,hb2⟩;have hz2:=hb2.size;(try simp at hz2);have bel12:Below w1.heap.size w1 w2:=bex;have hOwn2:=hown2 w2 bel12;have k24:=((bc8 bel12).1 w.heap.size 4 (by omega)).trans k14;have bel2:Below w.heap.size w w2:=bel1.trans (bel12.mono bel1.size);clear hown2 k14 hS hb2;go_wp2_with(at_builtin;refine wpList_append_own_at _ rfl _ _ 94 rfl (w.heap.size+1) 36 i0 _ 3 32 Tryz.underlying94 hi hz0 hz1 hz2' rfl (by decide) _ _ _ rfl (hOwn2.alloc _) ⟨w2.heap.size,0,none⟩ 1 1 [.int .i64 1,.int .i64 nm,.string ⟨#[]⟩] rfl rfl (hcl w2 1 nm ⟨#[]⟩) (by simp[Value.oneCell']) ?c3 ?c4 ?c5 ?_)
 case c3=>unfold maxLen;omega
 case c4=>omega
 case c5=>first|omega|(simp;omega)
 intro v3 w3 hown3 hgr3 _ hat3;have hz3:=hgr3.size;simp at hz3;obtain⟨a3,c3,rfl⟩:=own_sl hown3;have hol2:=oL8 hOwn2;have k34:w3.cell? ⟨w.heap.size,4,none⟩=some (.slice ae es.length ce):=(cb8 ((hgr3.block w.heap.size (by simp;omega) (fun e=>by have:=(hol2 _ e.symm).1;omega)).trans (bA8 _ _ _ (by omega)))).trans k24;have bel3:Below w.heap.size w w3:=(bel2.alloc bel2.size _).grown hgr3 (by simp;omega) (fun t ht=>by have:=(hol2 t ht).1;omega);have HT0:Hid (rc K++ [.int .i64 1,.int .i64 nm,.string ⟨#[]⟩]=rc (tR8 V (es.take 0) K ds)):=by
  show _=_;rw[List.take_zero,tR8,List.map_nil,HNM.out,rc_snoc]
 rw[HT0.out]at hown3;clear HT0 hgr3 hat3 hOwn2 hol2 k24 bel12;go_wp2_with fail;go_loopw [5,26] (fun y i wr=> ∃k:Nat,k≤es.length∧i=.int .i64 k∧wr.ownsRow (w.heap.size+1) 36 3 y (nk+1+k) (rc (tR8 V (es.take k) K ds))∧Below w.heap.size w wr∧w.heap.size+1≤wr.heap.size) (fun _ i _=>es.length - (intOf i).toNat)
 case atStart=>exact⟨0,Nat.zero_le _,rfl,by simpa using hown3,bel3,by omega⟩
 case round=>
  obtain⟨k,hk,rfl,hown,hb,hzr⟩:=hrel;obtain⟨ay,cy,rfl⟩:=own_sl hown;have hm1:wr.cell? ⟨0,0,none⟩=some (.int .i64 m):=((bc8 hb).1 0 0 (bl8 _ _ hm)).trans hm;have h0w:0<w.heap.size:=bl8 _ _ hm;by_cases hlt:k<es.length
  ·obtain⟨rfl,hblte,_,hLe⟩:=hae k hlt;obtain⟨e,g,ue,hxe,hge,hew,⟨e0,e1,e2,e3,e4,e5⟩,e6,hKe,hbre⟩:=hLe.at hGe hblte hb hlt;obtain⟨ax,cx,rfl,_,_⟩:=hKe.shape;obtain⟨heo,het⟩:=HO.out e (mg8 hxe);have hkI:(k:Int)<es.length:=by omega
   have HT:Hid (tR8 V (es.take (k+1)) K ds=tR8 V (es.take k) K ds++ [sumV (sumS V e ds)]):=by
    obtain⟨hk',rfl⟩:=gE1 hxe;show _=_;unfold tR8;rw[List.take_succ_eq_append_getElem hk',List.map_append];simp
   have hRk:=fun(X:World) (hX:Below wr.heap.size wr X)=>rk_ans hV (w:=X) hew (hKe.below hX) heo het (((bc8 hX).1 0 0 (Nat.lt_of_lt_of_le h0w hb.size)).trans hm1);have HV:Hid ((sumV (sumS V e ds)).s=⟨#[]⟩):=sumV_s _;obtain⟨sv,HSV⟩:∃q,Hid (sumV (sumS V e ds)=q):=⟨_,rfl⟩;have hSm:=fun(X:World) (fn:Nat) (cap:Array Value) (hX:Below w.heap.size w X) (hEn:Ent fn) (hCl)=>sumOver_any (V:=V) (e:=e) (fn:=fn) (cap:=cap) _ ds F X (hRB X hX) hdn hEn hCl HRV.out;rw[HSV.out]at hSm HV;clear hae hLe hxe hge hKe;go_wp2_with fail;refine cM8 (hRk _ bex) ?_;rintro z w4 ⟨⟨fn,cap0,rfl,hEnt,hCl4⟩,hb4⟩;have hz4:=hb4.size;simp at hz4;have bel4:Below wr.heap.size wr w4:=bex;have belW4:Below w.heap.size w w4:=hb.trans (bel4.mono hb.size);have hown4:=ownsRow_blk hown bel4;have hSm4:=hSm w4 fn cap0 belW4 hEnt hCl4;clear hRk hSm e0 e1 e2 e3 e4 e5 e6 hCl4 hown;go_wp2_with fail;refine cM8 hSm4 ?_;rintro z w5 ⟨rfl,hb5⟩;have hz5:=hb5.size;have hown5:=ownsRow_blk hown4 hb5;have belW5:Below w.heap.size w w5:=belW4.trans (hb5.mono belW4.size);have hol5:=oL8 hown5;clear hSm4 hb5 hown4;go_wp2_with(at_builtin;refine wpList_append_own _ rfl _ _ 94 rfl (w.heap.size+1) 36 i0 _ 3 32 Tryz.underlying94 hi hz0 hz1 hz2' rfl (by decide) _ _ _ rfl (hown5.alloc _) ⟨w5.heap.size,0,none⟩ 1 1 [.int .i64 sv.k,.int .i64 sv.n,.string ⟨#[]⟩] rfl rfl (hcl _ _ _ _) (by simp[Value.oneCell']) ?c36 ?c46 ?c56 ?_)
   case c36=>unfold maxLen;omega
   case c46=>omega
   case c56=>simp;omega
   intro v6 w6 hown6 hgr6 _;have hz6:=hgr6.size;simp at hz6;have bel6:Below w.heap.size w w6:=(belW5.alloc belW5.size _).grown hgr6 (by simp;omega) (fun t ht=>by have:=(hol5 t ht).1;omega);have HR6:Hid (rc (tR8 V (es.take k) K ds)++ [.int .i64 sv.k,.int .i64 sv.n,.string ⟨#[]⟩]=rc (tR8 V (es.take (k+1)) K ds)):=by show _=_;rw[HT.out,rc_snoc,HSV.out,HV.out]
   rw[HR6.out]at hown6;clear hgr6 hown5 hol5 belW5 belW4 bel4;go_wp2_with fail;exact⟨⟨k+1,hlt,by simp,hown6,bel6,by omega⟩,by simp[intOf];omega⟩
  ·obtain rfl:k=es.length:=by omega
   rw[List.take_length]at hown;obtain⟨gv,hgv,hgo⟩:=own_rowF hown;clear hae hRB;go_wp2;go_returns;exact⟨⟨_,gv,rfl,hgv,hgo.1,fun t ht=>by have:=hgo.2.1 t ht;omega,hgo.2.2⟩,hb⟩
end
section
open Go.RowKit Go.Deep Go.ChangeShapes Go.WideShapes Go.Shelf
theorem wpList_append_src {P:Program}{w:World}{ops:Array Oper}{rest:List Oper}{o:Oper}{a:Act}{Q:Exit→Act→World→Prop}(hgd:o.guard=none)(s x:Operand)(t:TypeId)(ho:o.op=.call {callee:=.builtin .append,args:=#[s,x],argTypes:=#[t,t]})(base:Nat) (e:TypeId) (i:TypeInfo) (z:Value) (size bytes:Nat) (ht:P.underlying t=some (.slice e)) (hi:P.info? e=some i) (hz:i.zero=some z)(hsize:i.size=size) (hby:i.bytes=bytes) (hzs:z.cells.size=size) (hsz:0<size)(v:Value) (n:Nat) (xs:List Value) (hs:a.eval s=v) (hown:w.ownsRow base e size v n xs)(sv:Value) (m:Nat) (news:List Value) (hx:a.eval x=sv) (hsrc:SrcIs w size sv m news) (h1:∀u∈news,u.oneCell'=true)(h63:n+m≤maxLen) (hbytes:(n+m)*bytes≤140737488355328) (hbase:base≤w.heap.size)(h:∀v' w',w'.ownsRow base e size v' (n+m) (xs++news)→w.grownBy w' v.ownBlock→(v'.ownBlock=v.ownBlock∨v'.ownBlock=some w.heap.size)→wpList P ops Q rest (a.put o.dst v') w'):wpList P ops Q (o::rest) a w:=by
 refine wpList_plain hgd fun K hK=>?_;have h2:=step_append_src (ops:=ops) (K:=K) (Q:=Q) (E:=False) w hgd s x t ho base e i z size bytes ht hi hz hsize hby hzs hsz v n xs hs hown sv m news hx hsrc h1 h63 hbytes hbase fun v' w' h2 h3 h4=>hK _ _ (h v' w' h2 h3 h4);rw[if_pos (by simp[Region.wanted,hgd])]at h2;exact h2
theorem growV_any (n:Nat)(w:World)(hn:n≤1048576):Calls Tryz.prog 139 #[.slice none 0 0,.int .i64 n] w fun e w'=>(∃u,e=.returned u∧w'.ownsRow w.heap.size 36 3 u 0 [])∧Below w.heap.size w w':=by
 obtain⟨i0,hi,hz0,hz1,hz2⟩:=info_parts Tryz.infoVal;by_cases h0:n=0
 ·subst h0;have h:=Any8.slices_Grow_room Tryz.laysGrow none 0 0 0 w (Nat.le_refl _) (by omega) (by omega) (by omega);change Calls Tryz.prog 139 _ _ _ at h;refine cM8 h ?_;rintro e w' ⟨rfl,rfl⟩;exact⟨⟨_,rfl,rfl,.inl ⟨rfl,rfl⟩⟩,Below.refl _ _⟩
 ·have h:=Any8.slices_Grow_grow Tryz.laysGrow i0 _ hi hz0 (by omega) none 0 0 n [] w (Nat.le_refl _) (by omega) (by rw[hz2];omega) (by omega) (by simp) (fun _=>rfl) (fun a h=>by cases h);change Calls Tryz.prog 139 _ _ _ at h;refine cM8 h ?_;rintro e w' ⟨rfl,rfl⟩;refine⟨⟨_,rfl,rfl,.inr ⟨w.heap.size,_,_,rfl,Nat.le_refl _,heap_alloc_new w.drew _,Nat.zero_le _,grownCap_le_maxLen _ _ _ _ (by unfold maxLen;omega),?_,by simp⟩⟩,(Below.refl _ w).drew.trans ((Below.refl _ w.drew).alloc (Nat.le_refl _) _)⟩;have:=grownCap_ge w (0+n) 0 36;simp only[Array.size_append,size_zeroCells,List.size_toArray,List.length_nil];show 0+(0+n -0)*3+(grownCap w (0+n) 0 36 - (0+n))*3=_;show _=grownCap w (0+n) 0 36*3;omega
theorem concatV_any (nb:Nat)(u0 u1:Value)(r0 r1:List V3)(g0 g1:List Nat)(w:World)(h0:RowF w u0 r0 g0)(h1:RowF w u1 r1 g1)(hl:r0.length+r1.length≤24)(c0:w.cell? ⟨nb,0,none⟩=some u0)(c1:w.cell? ⟨nb,1,none⟩=some u1):Calls Tryz.prog 112 #[.slice (some ⟨nb,0,none⟩) 2 2] w fun e w'=>(∃u,e=.returned u∧w'.ownsRow w.heap.size 36 3 u (r0++r1).length (rc (r0++r1)))∧Below w.heap.size w w':=by
 obtain⟨i0,hi,hz0,hz1,hz2⟩:=info_parts Tryz.infoVal;obtain⟨a0,n0,rfl⟩:=h0.shape;obtain⟨a1,n1,rfl⟩:=h1.shape;have hnb:=bl8 _ _ c0;simp at hnb;have S0:=fun(X:World) (hX:Below w.heap.size w X)=>rowSrc (h0.below hX);have S1:=fun(X:World) (hX:Below w.heap.size w X)=>rowSrc (h1.below hX);obtain⟨l0,HL0⟩:∃l,Hid (r0.length=l):=⟨_,rfl⟩;obtain⟨l1,HL1⟩:∃l,Hid (r1.length=l):=⟨_,rfl⟩;have hap:Hid ((r0++r1).length=l0+l1):=by show _=_;rw[List.length_append,HL0.out,HL1.out]
 have hrc:Hid (rc (r0++r1)=rc r0++rc r1):=rc_app r0 r1;have o0:=rc_one r0;have o1:=rc_one r1;rw[hap.out,hrc.out];rw[HL0.out]at S0 c0 hl;rw[HL1.out]at S1 c1 hl;clear h0 h1;generalize rc r0=x0 at*;generalize rc r1=x1 at*;go_enter Tryz.func112,Tryz.ntmps112;go_wp2_with fail;go_loopw [3,11] (fun s i wr=> ∃k:Nat,k≤2∧i=.int .i64 k∧s=.int .i64 (if k=0 then 0 else if k=1 then l0 else(l0+l1:Nat))∧Below w.heap.size w wr) (fun _ i _=>2 - (intOf i).toNat)
 case atStart=>exact⟨0,by omega,rfl,rfl,bex⟩
 case round=>
  obtain⟨k,hk,rfl,rfl,hb⟩:=hrel;have hzb:=hb.size;have d0:=((bc8 hb).1 nb 0 hnb).trans c0;have d1:=((bc8 hb).1 nb 1 hnb).trans c1;have hnbr:nb<wr.heap.size:=by omega
  rcases(by omega:k=0∨k=1∨k=2)with rfl|rfl|rfl
  ·have e1:wrap64 ((0:Int)+(l0:Int))=(l0:Int):=by unfold wrap64;omega
   have e2:¬ ((l0:Int)<0):=by omega
   simp only[if_true]at*;go_wp2_with fail;exact⟨⟨1,by omega,by simp,by simp,bex⟩,by simp[intOf]⟩
  ·have e1:wrap64 ((l0:Int)+(l1:Int))=(l0:Int)+(l1:Int):=by unfold wrap64;omega
   have e2:¬ ((l0:Int)+(l1:Int)<0):=by omega
   go_wp2_with fail;exact⟨⟨2,by omega,by simp,by simp,bex⟩,by simp[intOf]⟩
  ·have hG:=fun X=>growV_any (l0+l1) X (by omega);go_wp2_with fail;refine cM8 (hG _) ?_;rintro z w1 ⟨⟨v1,rfl,hown1⟩,hb1⟩;have hzv1:=hb1.size;have hown1':w1.ownsRow w.heap.size 36 3 v1 0 []:=by
    obtain⟨q0,q1|⟨g,cap,cur,q1,q2,q3⟩⟩:=hown1
    ·exact⟨q0,.inl q1⟩
    ·exact⟨q0,.inr ⟨g,cap,cur,q1,by omega,q3⟩⟩
   have bel1:Below w.heap.size w w1:=hb.trans (hb1.mono hzb);clear hown1 hb1 hG d0 d1 hb;go_wp2_with fail;go_loopw [6,27] (fun y i wi=> ∃k:Nat,k≤2∧i=.int .i64 k∧wi.ownsRow w.heap.size 36 3 y (if k=0 then 0 else if k=1 then l0 else l0+l1) (if k=0 then[]else if k=1 then x0 else x0++x1)∧Below w.heap.size w wi) (fun _ i _=>2 - (intOf i).toNat)
   case atStart=>exact⟨0,by omega,rfl,hown1',bel1⟩
   case round=>
    obtain⟨wi,HWwi⟩:∃x,x=wr:=⟨wr,rfl⟩;subst HWwi;obtain⟨k,hk,rfl,hown,hb⟩:=hrel;have hzi:=hb.size;have d0:=((bc8 hb).1 nb 0 hnb).trans c0;have d1:=((bc8 hb).1 nb 1 hnb).trans c1;have hnbi:nb<wi.heap.size:=by omega
    rcases(by omega:k=0∨k=1∨k=2)with rfl|rfl|rfl
    ·have hown2:wi.ownsRow w.heap.size 36 3 _ 0 []:=hown;have hsrc:=S0 wi hb;clear hown S0 S1 bel1 hown1';go_wp2_with(at_builtin;refine wpList_append_src rfl _ _ 94 rfl w.heap.size 36 i0 _ 3 32 Tryz.underlying94 hi hz0 hz1 hz2 rfl (by decide) _ _ _ rfl hown2 _ _ _ rfl hsrc o0 ?c3 ?c4 ?c5 ?_)
     case c3=>unfold maxLen;omega
     case c4=>omega
     case c5=>first|omega|(simp;omega)
     intro v5 w5 hown5 hgr5 _;have hown6:w5.ownsRow w.heap.size 36 3 v5 l0 x0:=by simpa using hown5
     have bel5:Below w.heap.size w w5:=hb.grown hgr5 hzi (fun t ht=>(oL8 hown2 t ht).1);clear hown5 hgr5 hown2 hsrc;go_wp2_with fail;exact⟨⟨1,by omega,by simp,by simpa using hown6,bel5⟩,by simp[intOf]⟩
    ·have hown2:wi.ownsRow w.heap.size 36 3 _ l0 x0:=hown;have hsrc:=S1 wi hb;clear hown S0 S1 bel1 hown1';go_wp2_with(at_builtin;refine wpList_append_src rfl _ _ 94 rfl w.heap.size 36 i0 _ 3 32 Tryz.underlying94 hi hz0 hz1 hz2 rfl (by decide) _ _ _ rfl hown2 _ _ _ rfl hsrc o1 ?c3 ?c4 ?c5 ?_)
     case c3=>unfold maxLen;omega
     case c4=>omega
     case c5=>first|omega|(simp;omega)
     intro v5 w5 hown5 hgr5 _;have bel5:Below w.heap.size w w5:=hb.grown hgr5 hzi (fun t ht=>(oL8 hown2 t ht).1);clear hgr5 hown2 hsrc;go_wp2_with fail;exact⟨⟨2,by omega,by simp,by simpa using hown5,bel5⟩,by simp[intOf]⟩
    ·have hown2:wi.ownsRow w.heap.size 36 3 _ (l0+l1) (x0++x1):=hown;obtain⟨ay,cy,rfl⟩:=own_sl hown2;clear hown S0 S1 bel1 hown1';go_wp2;refine bodyPost_ret (v:=.slice ay (l0+l1) cy) (by simp[results,Tryz.results112,go_sem]) rfl ⟨⟨_,rfl,hown2⟩,hb⟩
end
section
open Go.RowKit Go.Deep Go.ChangeShapes Go.WideShapes
structure GdW (M:World)(H B:Nat)(W:Int)(acc:List C2)(y:Value)(us:List Value)(G:List (List Nat))(wr:World):Prop where
 r0:wr.cell? ⟨H,0,none⟩=some (.int .i64 0)
 r1:wr.cell? ⟨H,1,none⟩=some (.slice none 0 0)
 rf:∀q,wr.frozen? ⟨H,q,none⟩=false
 p0:wr.cell? ⟨H+1,0,none⟩=some (.int .i64 W)
 p1:wr.cell? ⟨H+1,1,none⟩=some y
 pf:∀q,wr.frozen? ⟨H+1,q,none⟩=false
 own:BagOwn wr B y acc us G
 bel:Below H M wr
 mid:∀b,H+1<b→b<B→wr.heap[b]?=M.heap[b]?
 hB:H+1+1≤B
 big:B≤wr.heap.size
theorem GdW.below {M wr w':World}{H B:Nat}{W:Int}{acc:List C2}{y:Value}{us:List Value}{G:List (List Nat)}(h:GdW M H B W acc y us G wr)(hb:Below wr.heap.size wr w'):GdW M H B W acc y us G w':=by
 have hz:=h.big;have hz1:=h.hB;have hs:=hb.size;exact⟨((bc8 hb).1 _ _ (by omega)).trans h.r0,((bc8 hb).1 _ _ (by omega)).trans h.r1,fun q=>((bc8 hb).2 _ q (by omega)).trans (h.rf q),((bc8 hb).1 _ _ (by omega)).trans h.p0,((bc8 hb).1 _ _ (by omega)).trans h.p1,fun q=>((bc8 hb).2 _ q (by omega)).trans (h.pf q),h.own.below hb,h.bel.trans (hb.mono (by omega)),fun b h1 h2=>(hb.block b (by omega)).trans (h.mid b h1 h2),h.hB,by omega⟩
theorem GdW.push {M wr w3 w5:World}{H B:Nat}{W:Int}{acc:List C2}{y v5 u:Value}{us:List Value}{G:List (List Nat)}{x:C2}{g:List Nat}{ob:Obj}(h:GdW M H B W acc y us G wr)(hb:Below wr.heap.size wr w3)(hR:RowF w3 u x.r g)(hO:OwnB w3 wr.heap.size g)(ho:w5.ownsRow B 96 2 v5 (acc.length+1) (cc us acc++ [u,.int .i64 x.n])) (hg:(w3.alloc ob).grownBy w5 y.ownBlock) (hat:v5.ownBlock=y.ownBlock∨v5.ownBlock=some (w3.alloc ob).heap.size):w5.cell? ⟨H+1,1,none⟩=some y∧GdW M H B W (acc++ [x]) v5 (us++ [u]) (G++ [g]) (w5.setCell ⟨H+1,1,none⟩ v5):=by
 have h3:=h.below hb;have hz:=h3.big;have hz0:=h.big;have hzB:=h.hB;have hs:=hg.size;simp only[World.size_alloc]at hs;have hsb:=hb.size;have al:Below w3.heap.size w3 (w3.alloc ob):=(Below.refl _ _).alloc (Nat.le_refl _) _;have hlR:=hR.lt;have hGl:=h.own.lt;have hyl:=oL8 h.own.own;have hB5:=BagOwn.push (x:=x) (h3.own.below al) (hR.below al) ⟨hO.1,fun b hb=>by have:=hO.2.1 b hb;omega,fun b hb q=>(fb8 (bA8 _ _ _ (hlR b hb))).trans (hO.2.2 b hb q)⟩ (fun b hb hb'=>by have:=hO.2.1 b hb';have:=hGl b hb;omega) (fun b hb hb'=>by have:=hO.2.1 b hb';have:=(hyl b hb).2;omega) ho hg (fun b hb=>by
  rcases hat with e|e
  ·left;rw[←e];exact hb
  ·right;rw[e]at hb;cases hb;exact Nat.le_refl _)
 have yb5:=oL8 ho;have kB:∀t,t<H+1+1→w5.heap[t]?=w3.heap[t]?:=fun t ht=>(hg.block t (by simp;omega) (fun e=>by have:=(hyl t e.symm).1;omega)).trans (bA8 _ _ _ (by omega));have kS:∀t,t<H+1→(w5.setCell ⟨H+1,1,none⟩ v5).heap[t]?=w3.heap[t]?:=fun t ht=>(bS8 _ _ _ _ (by simp;omega)).trans (kB t (by omega));have p0:=(cb8 (kB (H+1) (by omega))).trans h3.p0;have p1:=(cb8 (kB (H+1) (by omega))).trans h3.p1;have bel5:Below H M w5:=Below.grown (h3.bel.alloc (by have:=h3.bel.size;omega) ob) hg (by simp;omega) (fun t ht=>by have:=(hyl t ht).1;omega);refine⟨p1,?_⟩;exact⟨(cb8 (kS _ (by omega))).trans h3.r0,(cb8 (kS _ (by omega))).trans h3.r1,fun q=>(fb8 (kS _ (by omega))).trans (h3.rf q),(cO8 _ _ _ _ (by simp)).trans p0,cS8 _ _ _ p1,fun q=>by have:=(fb8 (kB (H+1) (by omega)) (o:=q)).trans (h3.pf q);simpa using this,hB5.keep (by simp) (fun b hb _=>bS8 _ _ _ _ (by simp;omega)),bel5.setCell (by simp) _,fun b h1 h2=>(bS8 _ _ _ _ (by simp;omega)).trans ((hg.block b (by simp;omega) (fun e=>by have:=(hyl b e.symm).1;omega)).trans ((bA8 _ _ _ (by omega)).trans (h3.mid b h1 h2))),hzB,by simp;omega⟩
theorem RowsF.sub {w:World}{b o c:Nat}{cs:List C2}{F:List Nat}(h:RowsF w (.slice (some ⟨b,o,none⟩) cs.length c) cs F){i j:Nat}(hij:i<j)(hj:j≤cs.length):∃F',RowsF w (.slice (some ⟨b,o+i*2,none⟩) (j -i) (c -i)) ((cs.drop i).take (j -i)) F':=by
 obtain⟨a',c',G,e,hl,hc,hz,hG,h0,h⟩:=h;injection e with e1 _ e3;subst e3;obtain⟨b',o',hb,hlt,hF,hL⟩:=h (by rintro rfl;simp at hj;omega);rw[←e1]at hb;cases hb;have hlen:((cs.drop i).take (j -i)).length=j -i:=by simp;omega
 refine⟨b::((G.drop i).take (j -i)).flatten,_,c -i,(G.drop i).take (j -i),by rw[hlen],by omega,by omega,(fun x=>by cases x),by simp;omega,fun x=>?_,fun _=>⟨b,o+i*2,rfl,hlt,rfl,fun k x g hx hg=>?_⟩⟩
 ·rw[x]at hlen;simp at hlen;omega
 ·rw[List.getElem?_take]at hx hg;split at hx
  ·rw[if_pos ‹_›]at hg;rw[List.getElem?_drop]at hx hg;obtain⟨u,h1,h2,h3⟩:=hL (i+k) x g hx hg;refine⟨u,?_,h2,?_⟩
   ·rw[show o+i*2+k*2=o+(i+k)*2 by omega];exact h1
   ·rw[show o+i*2+k*2+1=o+(i+k)*2+1 by omega];exact h3
  ·cases hx
end
section
open Go.RowKit Go.Deep Go.ChangeShapes Go.WideShapes
theorem joined_any {m:Int}{V:E7→List V3→V3}(hV:VOk m V)(wh W Wk Ul Wx Ux:Int)(au:Option Addr)(lu cu:Nat)(e:E7)(ue:Value)(Fe:List Nat)(D:Nat)(v v':Value)(cs ds:List C2)(F F':List Nat)(w:World)(hr:RowsF w v cs F)(hr':RowsF w v' ds F')(hM:Mean Wk cs)(hM':Mean Ul ds)(hm:w.cell? ⟨0,0,none⟩=some (.int .i64 m))(he:e.wf)(hok:okE 13 e=true)(hne:wtE e≤1048576)(hk0:KidsIs w D ue e.ks Fe):Calls Tryz.prog 86 #[.agg #[.int .i64 wh,.int .i64 W,.slice au lu cu,.int .i64 e.k,.int .i64 e.n,.int .i64 e.v.k,.int .i64 e.v.n,.string e.v.s,.string e.p,ue],.agg #[.int .i64 Wx,v],.agg #[.int .i64 Ux,v']] w fun q w'=>(∃u l us' G',q=.returned (.agg #[.int .i64 W,u])∧BagOwn w' w.heap.size u l us' G'∧(l=joinC V e cs ds∨400<l.length∧∃t,joinC V e cs ds=l++t))∧Below w.heap.size w w':=by
 obtain⟨ae,ce,rfl,_,_⟩:=hk0.shape;obtain⟨i0,hi,hz0,hz1,hz2'⟩:=info_parts Tryz.infoCnt;have h00:0<w.heap.size:=bl8 _ _ hm;have hal:=hM.all;have hal':=hM'.all;obtain⟨a,c,b,o,G0,rfl,hl,hc,_,hG0,_,hC,ha⟩:=hr.pick;obtain⟨a',c',b',o',G0',rfl,hl',hc',_,hG0',_,hC',ha'⟩:=hr'.pick;unfold maxLen at hc hc';have hGE:GoodE e:=⟨he,hok,hne,w,D,_,Fe,hk0⟩;have hO:∀X,Below w.heap.size w X→Calls Tryz.prog 108 #[(.agg #[.int .i64 e.k,.int .i64 e.n,.int .i64 e.v.k,.int .i64 e.v.n,.string e.v.s,.string e.p,(.slice ae e.ks.length ce)])] X fun x w'=>(∃fn cap,x=.returned (.func (.func fn) #[] cap)∧Ent fn∧∀ (Y:World) (v:Value) (vs:List V3),(∀b,X.heap.size≤b→b<w'.heap.size→Y.heap[b]?=w'.heap[b]?)→Y.cell? ⟨0,0,none⟩=some (.int .i64 m)→RowIs Y v vs→RowV vs→Calls Tryz.prog fn (#[v]++cap) Y fun q w'=>q=.returned (.agg #[.int .i64 (V e vs).k,.int .i64 (V e vs).n,.string (V e vs).s])∧Below Y.heap.size Y w')∧Below X.heap.size X w':=fun X hX=>by
  refine cM8 (rk_any m 13 e _ Fe D X he (hk0.below hX) hok hne) ?_;rintro x w' ⟨⟨cl,rfl,fn,cap,rfl,hE,hC⟩,hb⟩;exact⟨⟨fn,cap,rfl,hE,fun Y v vs hY h0 hv hvV=>hC Y v vs _ (fun b hb=>hY b hb.1 hb.2) h0 hv (hV.res e vs hGE hvV)⟩,hb⟩
 clear hr hr' hk0 hok hne hGE;go_enter Tryz.func86,Tryz.ntmps86;go_wp2_with fail;refine cM8 (hO _ ?hb) ?_
 case hb=>exact bex
 rintro q w2 ⟨⟨fn,cap,rfl,hEn,hC0⟩,hb2⟩;have hz2:=hb2.size;simp at hz2;have bel2:Below w.heap.size w w2:=bex;have k1:w2.cell? ⟨w.heap.size+1,1,none⟩=some (.slice a cs.length c):=cL8 hb2 (by go_simp);have k2:w2.cell? ⟨w.heap.size+1+1,1,none⟩=some (.slice a' ds.length c'):=cL8 hb2 (by go_simp);have hS2:GdW w2 (w.heap.size+1+1+1) w2.heap.size W [] (.slice none 0 0) [] [] w2:=⟨cL8 hb2 (by go_simp),cL8 hb2 (by go_simp),fun q=>((bc8 hb2).2 _ q (by simp;try omega)).trans (by go_simp),cL8 hb2 (by go_simp),cL8 hb2 (by go_simp),fun q=>((bc8 hb2).2 _ q (by simp;try omega)).trans (by go_simp),BagOwn.nil _ _,Below.refl _ _,fun _ _ _=>rfl,by omega,Nat.le_refl _⟩;have hCl:∀ (Y:World) (v:Value) (vs:List V3),(∀b,w.heap.size+1+1+1+1+1≤b→b<w2.heap.size→Y.heap[b]?=w2.heap[b]?)→Y.cell? ⟨0,0,none⟩=some (.int .i64 m)→RowIs Y v vs→RowV vs→Calls Tryz.prog fn (#[v]++cap) Y fun q w'=>q=.returned (.agg #[.int .i64 (V e vs).k,.int .i64 (V e vs).n,.string (V e vs).s])∧Below Y.heap.size Y w':=fun Y v vs hY=>hC0 Y v vs (fun b h1 h2=>hY b (by simpa using h1) h2);clear hO hb2 hC0;unfold Ent at hEn;go_wp2_with fail;go_loopw [24] (fun i wr=> ∃ (k:Nat) (y:Value) (us:List Value) (G:List (List Nat)),k≤cs.length∧i=.int .i64 k∧GdW w2 (w.heap.size+1+1+1) w2.heap.size W (joinC V e (cs.take k) ds) y us G wr∧(joinC V e (cs.take k) ds).length≤400) (fun i _=>cs.length - (intOf i).toNat)
 case atStart=>exact⟨0,_,_,_,Nat.zero_le _,rfl,hS2,by simp[joinC]⟩
 case round=>
  obtain⟨k,y,us,G,hk,rfl,hS,hlen⟩:=hrel;have hbig:=hS.big;have hb2r:Below (w.heap.size+1+1+1) w2 wr:=hS.bel;have hb:Below w.heap.size w wr:=bel2.trans (hb2r.mono (by omega));have t1:=((bcellN hb2r).1 (w.heap.size+1) 1 (by omega)).trans k1;have t2:=((bcellN hb2r).1 (w.heap.size+1+1) 1 (by omega)).trans k2;have hzb:=hb.size;by_cases hlt:k<cs.length
  ·obtain⟨rfl,hblt,_⟩:=ha k hlt;obtain⟨x,ux,gx,hx,_,cx0',hRx,cx1',_⟩:=hC.at hG0 hblt (Below.refl _ _) hlt;have cx0:=((bc8 hb).1 _ _ hblt).trans cx0';have cx1:=((bc8 hb).1 _ _ hblt).trans cx1';have hbr:b<wr.heap.size:=by omega
   have l1:w.heap.size+1<wr.heap.size:=by omega
   have l2:w.heap.size+1+1<wr.heap.size:=by omega
   obtain⟨ax,nx,rfl⟩:=hRx.shape;have hxm:=mg8 hx;have hxW:=hM.row x hxm;have hxn:=hal.2.2.2 x hxm;have hkI:(k:Int)<cs.length:=by omega
   have HX:Hid (cs[k]?=some x):=hx;have HA0:Hid (accJ V e cs ds x k 0=joinC V e (cs.take k) ds):=accJ_zero V e cs ds x k;clear ha hC hx cx0' cx1';rw[←HA0.out]at hS hlen;have hyb:=oL8 hS.own.own;have hS1:=hS.below ((Below.refl _ wr).alloc (Nat.le_refl _) (.cells #[.slice ax x.r.length nx,.int .i64 x.n] 96));go_wp2_with fail;go_loopw [31] (fun i wi=> ∃ (j:Nat) (y:Value) (us:List Value) (G:List (List Nat)),j≤ds.length∧i=.int .i64 j∧GdW w2 (w.heap.size+1+1+1) w2.heap.size W (accJ V e cs ds x k j) y us G wi∧(accJ V e cs ds x k j).length≤400∧wr.heap.size+1≤wi.heap.size∧wi.cell? ⟨wr.heap.size,0,none⟩=some (.slice ax x.r.length nx)∧wi.cell? ⟨wr.heap.size,1,none⟩=some (.int .i64 x.n)∧(∀b,y.ownBlock=some b→b≠wr.heap.size)) (fun i _=>ds.length - (intOf i).toNat)
   case atStart=>exact⟨0,y,us,G,Nat.zero_le _,rfl,hS1,hlen,by simp,by go_simp,by go_simp,fun b hb e=>by have:=(hyb b hb).2;omega⟩
   case round=>
    obtain⟨wi,HWwi⟩:∃x,x=wr:=⟨wr,rfl⟩;subst HWwi;clear hS hS1 hlen hyb y us G;obtain⟨j,y,us,G,hj,rfl,hS,hlen,hzi,d0,d1,hyn⟩:=hrel;have hbig2:=hS.big;have hb2i:Below (w.heap.size+1+1+1) w2 wi:=hS.bel;have hbi:Below w.heap.size w wi:=bel2.trans (hb2i.mono (by omega));have s2:=((bcellN hb2i).1 (w.heap.size+1+1) 1 (by omega)).trans k2;by_cases hjl:j<ds.length
    ·obtain⟨rfl,hblt',_⟩:=ha' j hjl;obtain⟨z,uz,gz,hz,_,cz0',hRz,cz1',_⟩:=hC'.at hG0' hblt' (Below.refl _ _) hjl;have cz0:=((bc8 hbi).1 _ _ hblt').trans cz0';have cz1:=((bc8 hbi).1 _ _ hblt').trans cz1';have hbr':b'<wi.heap.size:=by have:=hbi.size;omega
     obtain⟨az,nz,rfl⟩:=hRz.shape;have hzm:=mg8 hz;have hzW:=hM'.row z hzm;have hzn:=hal'.2.2.2 z hzm;have hjI:(j:Int)<ds.length:=by omega
     have HJ:Hid (accJ V e cs ds x k (j+1)=accJ V e cs ds x k j++(if isTV (V e (x.r++z.r))=true then[⟨x.r++z.r,x.n*z.n⟩]else[])):=by
      show _=_;unfold accJ;rw[joinR_snoc V e x hz,List.append_assoc]
     obtain⟨rr,HRR⟩:∃q,Hid (x.r++z.r=q):=⟨_,rfl⟩;have hrl:rr.length≤24:=by rw[←HRR.out,List.length_append];omega
     have hrV:RowV rr:=fun v hv=>by
      rw[←HRR.out]at hv;rcases List.mem_append.1 hv with hv|hv
      ·exact hxW.2 v hv
      ·exact hzW.2 v hv
     have hlx:x.r.length+z.r.length≤24:=by omega
     have hCon:∀ (nb:Nat) (X:World),Below w.heap.size w X→wi.heap.size≤X.heap.size→X.cell? ⟨nb,0,none⟩=some (.slice ax x.r.length nx)→X.cell? ⟨nb,1,none⟩=some (.slice az z.r.length nz)→Calls Tryz.prog 112 #[.slice (some ⟨nb,0,none⟩) 2 2] X fun q w'=>(∃a4 n4 g4,q=.returned (.slice a4 rr.length n4)∧RowF w' (.slice a4 rr.length n4) rr g4∧OwnB w' wi.heap.size g4)∧Below X.heap.size X w':=fun nb X hX hz q0 q1=>by
      refine cM8 (concatV_any nb _ _ x.r z.r gx gz X (hRx.below hX) (hRz.below hX) hlx q0 q1) ?_;rintro q w' ⟨⟨u,rfl,ho⟩,hb⟩;rw[HRR.out]at ho;obtain⟨a4,n4,rfl⟩:=own_sl ho;obtain⟨g4,h1,h2⟩:=own_rowF ho;exact⟨⟨a4,n4,g4,rfl,h1,h2.1,fun t ht=>by have:=h2.2.1 t ht;omega,h2.2.2⟩,hb⟩
     rw[HRR.out]at HJ;have hmul:0<x.n*z.n∧x.n*z.n≤1000000000000000000:=⟨Int.mul_pos hxn.1 hzn.1,by have:=Int.mul_le_mul hxn.2 hzn.2 (by omega) (by decide);simpa using this⟩;have hwm:wrap64 (x.n*z.n)=x.n*z.n:=by unfold wrap64;omega
     obtain⟨nn,HNN⟩:∃q,Hid (x.n*z.n=q):=⟨_,rfl⟩;rw[HNN.out]at HJ;replace hwm:wrap64 (x.n*z.n)=nn:=hwm.trans HNN.out;have hm3:∀Y,Below wi.heap.size wi Y→Y.cell? ⟨0,0,none⟩=some (.int .i64 m):=fun Y hY=>((bc8 hY).1 0 0 (by omega)).trans (((bc8 hbi).1 0 0 h00).trans hm);obtain⟨vv,HVV⟩:∃q,Hid (V e rr=q):=⟨_,rfl⟩;have hE:∀ (Y:World) (v:Value),Below wi.heap.size wi Y→RowIs Y v rr→Calls Tryz.prog fn (#[v]++cap) Y fun q w'=>q=.returned (.agg #[.int .i64 vv.k,.int .i64 vv.n,.string vv.s])∧Below Y.heap.size Y w':=fun Y v hY hv=>by
      have h1:=hCl Y v rr (fun b h1 h2=>(hY.block b (by omega)).trans (hS.mid b (by omega) h2)) (hm3 Y hY) hv hrV;rw[HVV.out]at h1;exact h1
     obtain⟨ay,cy,rfl⟩:=hS.own.shape;have hHz:w.heap.size+1+1+1+1<wi.heap.size:=by have:=hS.hB;omega
     have lz:wr.heap.size<wi.heap.size:=by omega
     have lz2:w.heap.size+1+1<wi.heap.size:=by omega
     clear hC' ha' hz hCl hRx hRz hm3 cz0' cz1' hxn hzn hmul hM hM';go_wp2_with fail;refine cM8 (hCon (wi.heap.size+1) _ bex (by simp;try omega) (by go_simp) (by go_simp)) ?_;rintro q w4 ⟨⟨a4,n4,g4,rfl,hR4,hO4⟩,hb4⟩;have hz4:=hb4.size;simp at hz4;have bel4:Below wi.heap.size wi w4:=bex;have f1:w4.cell? ⟨wi.heap.size,1,none⟩=some (.int .i64 z.n):=cL8 hb4 (by go_simp);clear hCon hb4 cz0 cz1;go_wp2_with fail;try rw[hEn,Oper.upon_enter]
     try rw[Oper.upon_enter]
     refine cM8 (hE _ _ bel4 hR4.is) ?_;rintro q w5 ⟨rfl,hb5⟩;have hz5:=hb5.size;go_wp2_with fail;refine cM8 (implIsTv_any vv _) ?_;rintro q w6 ⟨rfl,hb6⟩;have hz6:=hb6.size;have bel46:Below w4.heap.size w4 w6:=bex;have bel6:Below wi.heap.size wi w6:=bel4.trans (bel46.mono (by omega));have f16:=((bc8 bel46).1 wi.heap.size 1 (by omega)).trans f1;have d06:=((bc8 bel6).1 wr.heap.size 0 (by omega)).trans d0;have d16:=((bc8 bel6).1 wr.heap.size 1 (by omega)).trans d1;have hR6:=hR4.below bel46;have hO6:=hO4.below hR4.lt bel46;have hS6:=hS.below bel6;have hbig6:=hS6.big;have p0:=hS6.p0;have p1:=hS6.p1;have pf:=hS6.pf;have r0:=hS6.r0;have r1:=hS6.r1;have rf:=hS6.rf;have hyl6:=oL8 hS6.own.own;have hHw6:w.heap.size+1+1+1+1<w6.heap.size:=by omega
     have hHw6':w.heap.size+1+1+1<w6.heap.size:=by omega
     have hrw6:wr.heap.size<w6.heap.size:=by omega
     have hiw6:wi.heap.size<w6.heap.size:=by omega
     clear hE hb5 hb6 hR4 hO4 bel46 f1 d0 d1 bel4 s2;generalize hct:accJ V e cs ds x k j=ct at*;cases hT:isTV vv with
     |false=>
      have HT2:Hid (accJ V e cs ds x k (j+1)=ct):=by
       show _=_;rw[HJ.out,HVV.out,hT];simp
      have hngt:¬ ((ct.length:Int)>400):=by omega
      clear hEn hS bel6 hR6 hO6;go_wp2_with fail;exact⟨⟨j+1,_,us,G,hjl,by simp,by rw[HT2.out];exact hS6,by rw[HT2.out];exact hlen,by omega,d06,d16,hyn⟩,by simp[intOf];omega⟩
     |true=>
      have HT2:Hid (accJ V e cs ds x k (j+1)=ct++ [⟨rr,nn⟩]):=by
       show _=_;rw[HJ.out,HVV.out,hT];simp
      have HPre:Hid (∃t,joinC V e cs ds=(ct++ [⟨rr,nn⟩])++t):=by
       obtain⟨t,ht⟩:=accJ_pre V e (ds:=ds) HX.out (j+1);exact⟨t,by rw[ht,HT2.out]⟩
      clear hEn;go_wp2_with(at_builtin;refine wpList_append_own_at _ rfl _ _ 58 rfl w2.heap.size 96 i0 _ 2 32 Tryz.underlying58 hi hz0 hz1 hz2' rfl (by decide) _ _ _ rfl (hS6.own.own.alloc _) ⟨w6.heap.size,0,none⟩ 1 1 [.slice a4 rr.length n4,.int .i64 nn] rfl rfl ?c2 (by simp[Value.oneCell']) ?c3 ?c4 ?c5 ?_)
      case c2=>exact World.news_of_block (cs:=#[.slice a4 rr.length n4,.int .i64 nn]) (t:=96) (fr:=(0,0)) (heap_alloc_new w6 _)
      case c3=>unfold maxLen;omega
      case c4=>omega
      case c5=>first|omega|(simp;omega)
      intro v7 w7 hown7 hgr7 _ hat7;have hz7:=hgr7.size;simp at hz7;have hat8:v7.ownBlock=(Value.slice ay ct.length cy).ownBlock∨v7.ownBlock=some (w6.heap.size+1):=by simpa using hat7
      have far:∀q,w7.cell? ⟨wr.heap.size,q,none⟩=w6.cell? ⟨wr.heap.size,q,none⟩:=fun q=>(cb8 (hgr7.block wr.heap.size (by simp;omega) (fun e=>hyn _ e.symm rfl))).trans (cb8 (bA8 _ _ _ hrw6));obtain⟨e1,hS7⟩:=GdW.push (x:=⟨rr,nn⟩) hS bel6 hR6 hO6 hown7 hgr7 (by simpa using hat7);have pf7:∀q,w7.frozen? ⟨w.heap.size+1+1+1+1,q,none⟩=false:=fun q=>by have:=hS7.pf q;simpa using this
      obtain⟨a7,c7,rfl⟩:=own_sl hown7;have hyn7:∀b,(Value.slice a7 (ct.length+1) c7).ownBlock=some b→b≠wr.heap.size:=fun b hb e=>by
       rcases hat8 with h|h
       ·exact hyn b (h.symm.trans hb) e
       ·rw[h]at hb;cases hb;omega
      have D0:(w7.setCell ⟨w.heap.size+1+1+1+1,1,none⟩ (.slice a7 (ct.length+1) c7)).cell? ⟨wr.heap.size,0,none⟩=some (.slice ax x.r.length nx):=(cO8 _ _ _ _ (by simp;try omega)).trans ((far 0).trans d06);have D1:(w7.setCell ⟨w.heap.size+1+1+1+1,1,none⟩ (.slice a7 (ct.length+1) c7)).cell? ⟨wr.heap.size,1,none⟩=some (.int .i64 x.n):=(cO8 _ _ _ _ (by simp;try omega)).trans ((far 1).trans d16);have q0:=hS7.p0;have q1:=hS7.p1;have s0:=hS7.r0;have s1:=hS7.r1;have sf:=hS7.rf;have hl7:(ct++ [(⟨rr,nn⟩:C2)]).length=ct.length+1:=by simp
      clear hown7 hgr7 hat7 hat8 far hS hS6 hR6 hO6 p0 p1 pf r0 r1 rf bel6 hct;by_cases hgt:(ct.length:Int)+1>400
      ·have hgt':400<ct.length+1:=by omega
       have hBo:=hS7.own;have hbl:=bel2.trans (hS7.bel.mono (by omega));go_wp2_with fail;refine bodyPost_ret (v:=.agg #[.int .i64 W,.slice a7 (ct.length+1) c7]) (by simp[results,Tryz.results86,go_sem, *]) rfl ⟨⟨_,ct++ [⟨rr,nn⟩],_,_,rfl,(hBo.keep (by simp) fun b hb _=>?_).weak (by omega),.inr ⟨by omega,HPre.out⟩⟩,?_⟩
       ·repeat rw[bS8 _ _ _ _ (by simp;omega)]
       ·repeat (first|(with_reducible exact hbl)|(with_reducible refine Below.setCell ?_ ?hh _;case hh=>(simp;try omega)))
      ·go_wp2_with fail;exact⟨⟨j+1,_,_,_,hjl,by simp,by rw[HT2.out];exact hS7,by rw[HT2.out,hl7];omega,by simp;omega,D0,D1,hyn7⟩,by simp[intOf];omega⟩
    ·obtain rfl:j=ds.length:=by omega
     have HA1:=accJ_all V e (ds:=ds) HX.out;rw[HA1]at hS hlen;clear ha' hC' hCl;go_wp2_with fail;exact⟨⟨k+1,_,us,G,hlt,by simp,hS,hlen⟩,by simp[intOf];omega⟩
  ·obtain rfl:k=cs.length:=by omega
   rw[List.take_length]at hS;have hBo:=hS.own;have hbl:=hb;have p0:=hS.p0;have p1:=hS.p1;have r0:=hS.r0;have r1:=hS.r1;have rf:=hS.rf;have hHw:w.heap.size+1+1+1<wr.heap.size:=by have:=hS.hB;omega
   have hHw':w.heap.size+1+1+1+1<wr.heap.size:=by have:=hS.hB;omega
   obtain⟨ay,cy,rfl⟩:=hBo.shape;clear ha hC ha' hC' hCl;go_wp2;refine bodyPost_ret (v:=.agg #[.int .i64 W,.slice ay (joinC V e cs ds).length cy]) (by simp[results,Tryz.results86,go_sem, *]) rfl ⟨⟨_,_,us,G,rfl,?_,.inl rfl⟩,?_⟩
   ·refine(hBo.keep (by simp) fun b hb _=>?_).weak (by omega);repeat rw[bS8 _ _ _ _ (by simp;omega)]
   ·repeat (first|(with_reducible exact hbl)|(with_reducible refine Below.setCell ?_ ?hh _;case hh=>(simp;try omega)))
end
end Go.Proofs.YtflokiejcjjbiaaGreat
