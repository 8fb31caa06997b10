/- Own texts, joined: contracts that the law's proof goes by. -/
import Derived.Test.YteekfcdllaceoaaGreatDoorGLAnswer1
import Derived.Test.YteekfcdllaceoaaGreatDoorGLAnswer8
import Derived.Handy
import Derived.Deep.AppendLies
import Derived.Lib.SliceRun
import Derived.Test.YteekfcdllaceoaaGreatDoorGLAnswer7
import Derived.Test.YteekfcdllaceoaaGreatDoorGLAnswer3
import Derived.Test.YteekfcdllaceoaaGreatDoorGLAnswer13
import Derived.Deep.RegionHeld3
import Derived.Shelf.Spec.SlicesGrow
set_option maxHeartbeats 16000000
set_option maxRecDepth 100000
set_option linter.unusedVariables false
set_option linter.unusedSimpArgs false
namespace Go.Proofs.YteekfcdllaceoaaGreatDoor
section
open Go.RowKit Go.Deep Go.ChangeShapes Go.WideShapes
theorem B9X (v:Value)(vs:List V3)(g0:List Nat)(w:World)(hr:D9 w v vs g0)(hn:vs.length<=1048576):Calls Tryz.prog 166 #[v] w fun e w'=>(∃u,e=.returned u/\w'.ownsRow w.heap.size 39 3 u vs.length (rc vs))/\Below w.heap.size w w':=by
 obtain⟨i0,hi,hz0,hz1,hz2⟩:=info_parts Tryz.infoVal;obtain⟨a,c,rfl,hl,hc,hz,_,h⟩:=hr;have A2E:∀ (w:World) (a:Option Addr) (n c n' c':Nat),(binOp .eql 114 (.slice a n c) (.slice none n' c')).run Tryz.prog w=.ok (.bool a.isNone) w:=fun w a n c n' c'=>Lib.run_eql_slice_nil w _ _ a n c n' c' Tryz.underlying114;have he:=A52 w 39 3;have hb0:Below w.heap.size w (w.alloc (.cells #[] 39)):=(Below.refl _ _).alloc lr8 _;cases a with
 |none=>
  obtain rfl:=hz rfl;obtain rfl:vs=[]:=List.length_eq_zero_iff.1 (by omega);go_enter Tryz.func166,Tryz.ntmps166;go_wp2;go_returns;exact⟨⟨_,rfl,by simp[rc],.inl ⟨rfl,rfl⟩⟩,Below.refl _ _⟩
 |some ad=>
  have hcl:∀j u,(rc vs)[j]?=some u->(w.alloc (.cells #[] 39)).cell? (ad.add j)=some u:=by
   by_cases hne:vs=[]
   ·subst hne;intro j u hu;simp[rc]at hu
   ·obtain⟨b,o,hb,hlt,_,hL⟩:=h hne;cases hb;exact A3I (hL.below hb0 hlt)
  go_enter Tryz.func166,Tryz.ntmps166;go_wp2_with(at_builtin;refine wpList_append_own _ rfl _ _ 114 rfl w.heap.size 39 i0 _ 3 32 Tryz.underlying114 hi hz0 hz1 hz2 rfl (by decide) _ _ _ rfl he ad vs.length c (rc vs) rfl (A1r vs) hcl (A1w vs) ?c3 ?c4 ?c5 ?_)
  case c3=>unfold maxLen;omega
  case c4=>omega
  case c5=>simp
  intro v5 w5 D4 hgr5 _;have H6:w5.ownsRow w.heap.size 39 3 v5 vs.length (rc vs):=by simpa using D4
  have bel:Below w.heap.size w w5:=hb0.grown hgr5 (by simp) (fun k hk=>by simp[Value.ownBlock]at hk;omega);clear D4 hgr5 hcl he;go_wp2;refine bodyPost_ret (v:=v5) (by simp[results,Tryz.results166,go_sem]) rfl ⟨⟨v5,rfl,H6⟩,bel⟩
end
section
open Go.RowKit
theorem C2b (a:List C2)(x:C2):M5 (a++ [x])=M5 a+x.n:=by unfold M5;rw[List.map_append,List.sum_append];simp
theorem B9q (W:Int)(v:Value)(cs:List C2)(w:World)(hr:J7 w v cs)(hn:∀c∈cs,0<c.n/\c.n<=1000000000)(hm:cs.length<=400):Calls Tryz.prog 167 #[.agg #[.int .i64 W,v]] w fun e w'=>e=.returned (.int .i64 (M5 cs))/\Below w.heap.size w w':=by
 obtain⟨a,c,b,o,rfl,hl,hc,ha⟩:=hr.pick;unfold maxLen at hc;clear hr;go_enter Tryz.func167,Tryz.ntmps167;go_wp2;go_loopw [3,9] (fun m i wr=> ∃ (k:Nat) (n:Int),k<=cs.length/\i=.int .i64 k/\m=.int .i64 n/\n=M5 (cs.take k)/\Below w.heap.size w wr) (fun _ i _=>cs.length - (intOf i).toNat)
 case atStart=>exact⟨0,0,Nat.zero_le _,rfl,rfl,rfl,by go_grown⟩
 case round=>
  obtain⟨k,n,hk,rfl,rfl,hS,hb⟩:=hrel;have HS:Hid (n=M5 (cs.take k)):=hS;have hnb:0<=n/\n<=400000000000:=by
   have h1:=A6q (cs:=cs.take k) fun c hc=>hn c (List.mem_of_mem_take hc);have h2:(cs.take k).length<=400:=by simp;omega
   rw[hS];omega
  have hzb:=hb.size;clear hS;by_cases hlt:k<cs.length
  ·obtain⟨rfl,hblt,hL⟩:=ha k hlt;obtain⟨x,u,hx,c0,hR,c1,hbr⟩:=hL.at hblt hb hlt;have hxn:=hn x (mg8 hx);have HT:Hid (n+x.n=M5 (cs.take (k+1))):=by show _=_;rw[V9 hx,C2b,HS.out]
   have hw:wrap64 (n+x.n)=n+x.n:=by unfold wrap64;omega
   obtain⟨ur,lr,cr,rfl⟩:=hR.shape;clear ha hL hx hR;go_wp2;exact⟨⟨k+1,_,hlt,by simp,rfl,HT.out,C3⟩,by simp[intOf];omega⟩
  ·obtain rfl:k=cs.length:=by omega
   have HE:=HS.out;rw[List.take_length]at HE;clear ha;go_wp2;go_returns;refine⟨Z8 ?_,hb⟩;exact HE
end
section
open Go.RowKit Go.Deep Go.ChangeShapes Go.WideShapes
theorem B6F {w:World}{N M e s n:Nat}{v:Value}{xs:List Value}(h:w.ownsRow N e s v n xs)(hM:M<=N):w.ownsRow M e s v n xs:=by
 obtain⟨h0,h1|⟨g,cap,cur,h1,h2,h3⟩⟩:=h
 ·exact⟨h0,.inl h1⟩
 ·exact⟨h0,.inr ⟨g,cap,cur,h1,by omega,h3⟩⟩
theorem U0 {N:Nat}{w w':World}(h:Below N w w'):(∀b o,b<N->w'.cell? ⟨b,o,none⟩=w.cell? ⟨b,o,none⟩)/\∀b o,b<N->w'.frozen? ⟨b,o,none⟩=w.frozen? ⟨b,o,none⟩:=⟨fun b o hb=>cb8 (h.block b hb),fun b o hb=>fb8 (h.block b hb)⟩
theorem B7x (s:Option Int):(i7 s).s=⟨#[]⟩:=by cases s<;>rfl
theorem A2C {w:World}{N e s n:Nat}{v:Value}{xs:List Value}(h:w.ownsRow N e s v n xs):∃a c,v=.slice a n c:=by
 rcases h.2 with⟨rfl,h0⟩|⟨g,cap,cur,hv,_⟩
 ·exact⟨none,0,by rw[h0]⟩
 ·exact⟨_,cap,hv⟩
theorem B8O {m:Int}{V:E7->List V3->V3}(hV:VOk m V){e:E7}{u:Value}{F:List Nat}{D:Nat}{w:World}(he:e.wf)(hk:C1 w D u e.ks F)(hok:okE 13 e=true)(hne:wtE e<=1048576)(hm:w.cell? ⟨1,0,none⟩=some (.int .i64 m)):Calls Tryz.prog 134 #[(.agg #[.int .i64 e.k,.int .i64 e.n,.int .i64 e.v.k,.int .i64 e.v.n,.string e.v.s,.string e.p,u])] w fun x w'=>(∃fn cap,x=.returned (.func (.func fn) #[] cap)/\Ent fn/\∀ (Y:World) (v:Value) (vs:List V3),Below w'.heap.size w' Y->E3 Y v vs->N8 vs->Calls Tryz.prog fn (#[v]++cap) Y fun q w'=>q=.returned (.agg #[.int .i64 (V e vs).k,.int .i64 (V e vs).n,.string (V e vs).s])/\Below Y.heap.size Y w')/\Below w.heap.size w w':=by
 have hGE:o3 e:=⟨he,hok,hne,w,D,_,F,hk⟩;refine cM8 (A3i m 13 e _ F D w he hk hok hne) ?_;rintro x w' ⟨⟨cl,rfl,fn,cap,rfl,hE,hC⟩,hb⟩;have h0:1<w'.heap.size:=Nat.lt_of_lt_of_le (bl8 _ _ hm) hb.size;have hm':w'.cell? ⟨1,0,none⟩=some (.int .i64 m):=((bc8 hb).1 1 0 (bl8 _ _ hm)).trans hm;exact⟨⟨fn,cap,rfl,hE,fun Y v vs hY hv hvV=>hC Y v vs _ (fun b hb=>hY.block b hb.2) (((bc8 hY).1 1 0 h0).trans hm') hv (hV.res e vs hGE hvV)⟩,hb⟩
theorem B2t {m:Int}{V:E7->List V3->V3}(hV:VOk m V)(wh W:Int)(nk:Nat)(au:Option Addr)(lu cu:Nat)(ev:Value)(es:List E7)(Fs:List Nat)(D:Nat)(rv:Value)(ds:List C2)(F:List Nat)(w:World)(hr:C6 w rv ds F)(hd0:ds≠ [])(hd:ds.length<=400)(hnum:∀c∈ds,0<c.n/\c.n<=1000000000)(J5:∀c∈ds,N8 c.r/\c.r.length<=12)(K:List V3)(hK:∀x,ds[0]?=some x->nk<=x.r.length/\x.r.take nk=K)(hm:w.cell? ⟨1,0,none⟩=some (.int .i64 m))(hes:es.length<=1)(hk0:C1 w D ev es Fs)(hok:∀e∈es,okE 13 e=true)(hne:∀e∈es,wtE e<=1048576):Calls Tryz.prog 141 #[.agg #[.int .i64 wh,.int .i64 W,.slice au lu cu,.int .i64 nk,ev],rv] w fun q w'=>(∃u g,q=.returned u/\D9 w' u (tR8 V es K ds) g/\D5 w' w.heap.size g)/\Below w.heap.size w w':=by
 obtain⟨i0,hi,hz0,hz1,M6⟩:=info_parts Tryz.infoVal;have hS:=fun(X:World) (hX:Below w.heap.size w X)=>B9q 0 rv ds X ((hr.below hX).is) hnum hd;have hRB:=fun(X:World) (hX:Below w.heap.size w X)=>hr.below hX;obtain⟨D,rfl⟩:=hk0.succ;obtain⟨ae,ce,be,oe,Ge,rfl,hle,hce,hGe,_,hae⟩:=hk0.pick;unfold maxLen at hce;obtain⟨a,c,b,o,G0,rfl,hl,hc,_,hG0,_,hC,ha⟩:=hr.pick;have hp:0<ds.length:=List.length_pos_iff.2 hd0;have hpI:(0:Int)<ds.length:=by omega
 obtain⟨rfl,hblt,_⟩:=ha 0 hp;obtain⟨x,u0,g0,hx,_,c0,hR,c1,hbr⟩:=hC.at hG0 hblt (Below.refl _ _) hp;obtain⟨hKl,HK⟩:=hK x hx;have hxr:=J5 x (mg8 hx);obtain⟨a0,n0,rfl⟩:=hR.shape;have hn0:x.r.length<=n0/\n0<=9223372036854775807:=by obtain⟨a',c',ee,h1,h2,_⟩:=id hR.is;injection ee with _ _ e3;subst e3;unfold maxLen at h2;exact⟨h1,by omega⟩
 have hkn:(nk:Int)<=n0:=by omega
 have C4g:nk<=12:=by omega
 have hKn:K.length=nk:=by rw[<-HK];simp;omega
 simp only[Nat.zero_mul,Nat.add_zero]at c0 c1;obtain⟨g',hRt⟩:=hR.take hKl;rw[HK]at hRt;have hCl:∀X,Below w.heap.size w X->w.heap.size+1<=X.heap.size->Calls Tryz.prog 166 #[.slice a0 nk n0] X fun e w'=>(∃a1 c1,e=.returned (.slice a1 nk c1)/\w'.ownsRow (w.heap.size+1) 39 3 (.slice a1 nk c1) nk (rc K))/\Below X.heap.size X w':=fun X hX hz=>by
  refine cM8 (B9X (.slice a0 nk n0) K g' X (by have:=hRt.below hX;exact this) (by omega)) ?_;rintro e w' ⟨⟨u,rfl,ho⟩,hb⟩;rw[hKn]at ho;obtain⟨a1,c1,rfl⟩:=A2C ho;exact⟨⟨a1,c1,rfl,B6F ho hz⟩,hb⟩
 obtain⟨nm,HNM⟩:∃q,Hid (M5 ds=q):=⟨_,rfl⟩;rw[HNM.out]at hS;have hcl:∀ (w2:World) (q1 q2:Int) (q3:ByteArray),∀j u,([.int .i64 q1,.int .i64 q2,.string q3]:List Value)[j]?=some u->(w2.alloc (.cells #[.int .i64 q1,.int .i64 q2,.string q3] 39)).cell? ((⟨w2.heap.size,0,none⟩:Addr).add j)=some u:=fun w2 q1 q2 q3=>World.news_of_block (cs:=#[.int .i64 q1,.int .i64 q2,.string q3]) (t:=39) (fr:=(0,0)) (heap_alloc_new w2 _);have HO:Hid (∀e∈es,okE 13 e=true/\wtE e<=1048576):=fun e h=>⟨hok e h,hne e h⟩;have HRV:Hid (∀c∈ds,N8 c.r):=fun c h=>(J5 c h).1;have hdn:ds.length<=1048576:=by omega
 clear hr ha hC hR hx hK hRt hok hne J5 hnum hk0 hl hc;go_enter Tryz.func141,Tryz.ntmps141;go_wp2_with fail;go_region_held3 (fun w'=>w'.cell? ⟨w.heap.size,3,none⟩=some (.int .i64 nk)/\w'.cell? ⟨b,o,none⟩=some (.slice a0 x.r.length n0)) (refine⟨?_,?_⟩<;>first|(go_simp;done)|(exact cL8 (by assumption) (by go_simp))) (first|(go_at_call 166;refine cM8 (hCl _ bex (by simp)) ?_;rintro y w1 ⟨⟨a1,c1',rfl,hown1⟩,hb1⟩;have A21:=hb1.size;(try simp at A21)));have H9:∀X,Below w1.heap.size w1 X->X.ownsRow (w.heap.size+1) 39 3 (.slice a1 nk c1') nk (rc K):=fun X hX=>A25 hown1 hX;have F8:Below w.heap.size w w1:=bex;have k14:w1.cell? ⟨w.heap.size,4,none⟩=some (.slice ae es.length ce):=cl8 hb1;have hHeld:=True.intro;clear hHeld hb1 hown1 hCl;go_wp2_with fail;refine cM8 (hS _ bex) ?_;rintro z w2 ⟨rfl,hb2⟩;have hz2:=hb2.size;(try simp at hz2);have A4u:Below w1.heap.size w1 w2:=bex;have A65:=H9 w2 A4u;have k24:=bt8 A4u k14;have C0:Below w.heap.size w w2:=F8.trans (A4u.mono F8.size);clear H9 k14 hS hb2;go_wp2_with(at_builtin;refine wpList_append_own_at _ rfl _ _ 114 rfl (w.heap.size+1) 39 i0 _ 3 32 Tryz.underlying114 hi hz0 hz1 M6 rfl (by decide) _ _ _ rfl (A65.alloc _) ⟨w2.heap.size,0,none⟩ 1 1 [.int .i64 1,.int .i64 nm,.string ⟨#[]⟩] rfl rfl (hcl w2 1 nm ⟨#[]⟩) (by simp[Value.oneCell']) ?c3 ?c4 ?c5 ?_)
 case c3=>unfold maxLen;omega
 case c4=>omega
 case c5=>first|omega|(simp;omega)
 intro v3 w3 H5 hgr3 _ A2L;have hz3:=hgr3.size;simp at hz3;obtain⟨a3,c3,rfl⟩:=A2C H5;have A3r:=oL8 A65;have k34:w3.cell? ⟨w.heap.size,4,none⟩=some (.slice ae es.length ce):=(cb8 ((hgr3.block w.heap.size (by simp;omega) (fun e=>by have:=(A3r _ e.symm).1;omega)).trans ba8)).trans k24;have D6:Below w.heap.size w w3:=(C0.alloc C0.size _).grown hgr3 (by simp;omega) (fun t ht=>by have:=(A3r t ht).1;omega);have HT0:Hid (rc K++ [.int .i64 1,.int .i64 nm,.string ⟨#[]⟩]=rc (tR8 V (es.take 0) K ds)):=by
  show _=_;rw[List.take_zero,tR8,List.map_nil,HNM.out,A0d]
 rw[HT0.out]at H5;clear HT0 hgr3 A2L A65 A3r k24 A4u;go_wp2_with fail;go_loopw [5,26] (fun y i wr=> ∃k:Nat,k<=es.length/\i=.int .i64 k/\wr.ownsRow (w.heap.size+1) 39 3 y (nk+1+k) (rc (tR8 V (es.take k) K ds))/\Below w.heap.size w wr/\w.heap.size+1<=wr.heap.size) (fun _ i _=>es.length - (intOf i).toNat)
 case atStart=>exact⟨0,Nat.zero_le _,rfl,by simpa using H5,D6,by omega⟩
 case round=>
  obtain⟨k,hk,rfl,D2,hb,hzr⟩:=hrel;obtain⟨ay,cy,rfl⟩:=A2C D2;have hm1:wr.cell? ⟨1,0,none⟩=some (.int .i64 m):=((bc8 hb).1 1 0 (bl8 _ _ hm)).trans hm;have h0w:1<w.heap.size:=bl8 _ _ hm;by_cases hlt:k<es.length
  ·obtain⟨rfl,hblte,_,hLe⟩:=hae k hlt;obtain⟨e,g,ue,hxe,hge,hew,⟨e0,e1,e2,e3,e4,e5⟩,e6,hKe,hbre⟩:=hLe.at hGe hblte hb hlt;obtain⟨ax,cx,rfl,_,_⟩:=hKe.shape;obtain⟨heo,het⟩:=HO.out e (mg8 hxe);have hkI:(k:Int)<es.length:=by omega
   have HT:Hid (tR8 V (es.take (k+1)) K ds=tR8 V (es.take k) K ds++ [i7 (N4 V e ds)]):=by
    obtain⟨hk',rfl⟩:=gE1 hxe;show _=_;unfold tR8;rw[List.take_succ_eq_append_getElem hk',List.map_append];simp
   have hRk:=fun(X:World) (hX:Below wr.heap.size wr X)=>B8O hV (w:=X) hew (hKe.below hX) heo het (((bc8 hX).1 1 0 (Nat.lt_of_lt_of_le h0w hb.size)).trans hm1);have HV:Hid ((i7 (N4 V e ds)).s=⟨#[]⟩):=B7x _;obtain⟨sv,HSV⟩:∃q,Hid (i7 (N4 V e ds)=q):=⟨_,rfl⟩;have hSm:=fun(X:World) (fn:Nat) (cap:Array Value) (hX:Below w.heap.size w X) (hEn:Ent fn) (hCl)=>C0X (V:=V) (e:=e) (fn:=fn) (cap:=cap) _ ds F X (hRB X hX) hdn hEn hCl HRV.out;rw[HSV.out]at hSm HV;clear hae hLe hxe hge hKe;go_wp2_with fail;refine cM8 (hRk _ bex) ?_;rintro z w4 ⟨⟨fn,cap0,rfl,hEnt,hCl4⟩,hb4⟩;have hz4:=hb4.size;simp at hz4;have I3:Below wr.heap.size wr w4:=bex;have A4W:Below w.heap.size w w4:=hb.trans (I3.mono hb.size);have U3:=A25 D2 I3;have B0A:=hSm w4 fn cap0 A4W hEnt hCl4;clear hRk hSm e0 e1 e2 e3 e4 e5 e6 hCl4 D2;go_wp2_with fail;refine cM8 B0A ?_;rintro z w5 ⟨rfl,hb5⟩;have hz5:=hb5.size;have D4:=A25 U3 hb5;have A6V:Below w.heap.size w w5:=A4W.trans (hb5.mono A4W.size);have B0i:=oL8 D4;clear B0A hb5 U3;go_wp2_with(at_builtin;refine wpList_append_own _ rfl _ _ 114 rfl (w.heap.size+1) 39 i0 _ 3 32 Tryz.underlying114 hi hz0 hz1 M6 rfl (by decide) _ _ _ rfl (D4.alloc _) ⟨w5.heap.size,0,none⟩ 1 1 [.int .i64 sv.k,.int .i64 sv.n,.string ⟨#[]⟩] rfl rfl (hcl _ _ _ _) (by simp[Value.oneCell']) ?c36 ?c46 ?c56 ?_)
   case c36=>unfold maxLen;omega
   case c46=>omega
   case c56=>simp;omega
   intro v6 w6 H6 hgr6 _;have hz6:=hgr6.size;simp at hz6;have K3:Below w.heap.size w w6:=(A6V.alloc A6V.size _).grown hgr6 (by simp;omega) (fun t ht=>by have:=(B0i t ht).1;omega);have HR6:Hid (rc (tR8 V (es.take k) K ds)++ [.int .i64 sv.k,.int .i64 sv.n,.string ⟨#[]⟩]=rc (tR8 V (es.take (k+1)) K ds)):=by show _=_;rw[HT.out,A0d,HSV.out,HV.out]
   rw[HR6.out]at H6;clear hgr6 D4 B0i A6V A4W I3;go_wp2_with fail;exact⟨⟨k+1,hlt,by simp,H6,K3,by omega⟩,by simp[intOf];omega⟩
  ·obtain rfl:k=es.length:=by omega
   rw[List.take_length]at D2;obtain⟨gv,hgv,hgo⟩:=A0S D2;clear hae hRB;go_wp2;go_returns;exact⟨⟨_,gv,rfl,hgv,hgo.1,fun t ht=>by have:=hgo.2.1 t ht;omega,hgo.2.2⟩,hb⟩
end
section
open Go.RowKit Go.Deep Go.ChangeShapes Go.WideShapes Go.Shelf
theorem A8h {P:Program}{w:World}{ops:Array Oper}{rest:List Oper}{o:Oper}{a:Act}{Q:Exit->Act->World->Prop}(hgd:o.guard=none)(s x:Operand)(t:TypeId)(ho:o.op=.call {callee:=.builtin .append,args:=#[s,x],argTypes:=#[t,t]})(base:Nat) (e:TypeId) (i:TypeInfo) (z:Value) (size bytes:Nat) (ht:P.underlying t=some (.slice e)) (hi:P.info? e=some i) (hz:i.zero=some z)(hsize:i.size=size) (hby:i.bytes=bytes) (hzs:z.cells.size=size) (hsz:0<size)(v:Value) (n:Nat) (xs:List Value) (hs:a.eval s=v) (D2:w.ownsRow base e size v n xs)(sv:Value) (m:Nat) (news:List Value) (hx:a.eval x=sv) (A06:A1v w size sv m news) (h1:∀u∈news,u.oneCell'=true)(h63:n+m<=maxLen) (hbytes:(n+m)*bytes<=140737488355328) (A1V:base<=w.heap.size)(h:∀v' w',w'.ownsRow base e size v' (n+m) (xs++news)->w.grownBy w' v.ownBlock->(v'.ownBlock=v.ownBlock\/v'.ownBlock=some w.heap.size)->wpList P ops Q rest (a.put o.dst v') w'):wpList P ops Q (o::rest) a w:=by
 refine wpList_plain hgd fun K hK=>?_;have h2:=A0f (ops:=ops) (K:=K) (Q:=Q) (E:=False) w hgd s x t ho base e i z size bytes ht hi hz hsize hby hzs hsz v n xs hs D2 sv m news hx A06 h1 h63 hbytes A1V fun v' w' h2 h3 h4=>hK _ _ (h v' w' h2 h3 h4);rw[if_pos (by simp[Region.wanted,hgd])]at h2;exact h2
theorem C34 (n:Nat)(w:World)(hn:n<=1048576):Calls Tryz.prog 165 #[.slice none 0 0,.int .i64 n] w fun e w'=>(∃u,e=.returned u/\w'.ownsRow w.heap.size 39 3 u 0 [])/\Below w.heap.size w w':=by
 obtain⟨i0,hi,hz0,hz1,hz2⟩:=info_parts Tryz.infoVal;by_cases h0:n=0
 ·subst h0;have h:=Any8.slices_Grow_room Tryz.laysGrow none 0 0 0 w lr8 (by omega) (by omega) (by omega);change Calls Tryz.prog 165 _ _ _ at h;refine cM8 h ?_;rintro e w' ⟨rfl,rfl⟩;exact⟨⟨_,rfl,rfl,.inl ⟨rfl,rfl⟩⟩,Below.refl _ _⟩
 ·have h:=Any8.slices_Grow_grow Tryz.laysGrow i0 _ hi hz0 (by omega) none 0 0 n [] w lr8 (by omega) (by rw[hz2];omega) (by omega) (by simp) (fun _=>rfl) (fun a h=>by cases h);change Calls Tryz.prog 165 _ _ _ at h;refine cM8 h ?_;rintro e w' ⟨rfl,rfl⟩;refine⟨⟨_,rfl,rfl,.inr ⟨w.heap.size,_,_,rfl,Nat.le_refl _,heap_alloc_new w.drew _,Nat.zero_le _,grownCap_le_maxLen _ _ _ _ (by unfold maxLen;omega),?_,by simp⟩⟩,(Below.refl _ w).drew.trans ((Below.refl _ w.drew).alloc lr8 _)⟩;have:=grownCap_ge w (0+n) 0 39;simp only[Array.size_append,size_zeroCells,List.size_toArray,List.length_nil];show 0+(0+n -0)*3+(grownCap w (0+n) 0 39 - (0+n))*3=_;show _=grownCap w (0+n) 0 39*3;omega
theorem C0l (nb:Nat)(u0 u1:Value)(r0 r1:List V3)(g0 g1:List Nat)(w:World)(h0:D9 w u0 r0 g0)(h1:D9 w u1 r1 g1)(hl:r0.length+r1.length<=24)(c0:w.cell? ⟨nb,0,none⟩=some u0)(c1:w.cell? ⟨nb,1,none⟩=some u1):Calls Tryz.prog 138 #[.slice (some ⟨nb,0,none⟩) 2 2] w fun e w'=>(∃u,e=.returned u/\w'.ownsRow w.heap.size 39 3 u (r0++r1).length (rc (r0++r1)))/\Below w.heap.size w w':=by
 obtain⟨i0,hi,hz0,hz1,hz2⟩:=info_parts Tryz.infoVal;obtain⟨a0,n0,rfl⟩:=h0.shape;obtain⟨a1,n1,rfl⟩:=h1.shape;have hnb:=bl8 _ _ c0;simp at hnb;have S0:=fun(X:World) (hX:Below w.heap.size w X)=>A6G (h0.below hX);have S1:=fun(X:World) (hX:Below w.heap.size w X)=>A6G (h1.below hX);obtain⟨l0,HL0⟩:∃l,Hid (r0.length=l):=⟨_,rfl⟩;obtain⟨l1,HL1⟩:∃l,Hid (r1.length=l):=⟨_,rfl⟩;have hap:Hid ((r0++r1).length=l0+l1):=by show _=_;rw[List.length_append,HL0.out,HL1.out]
 have hrc:Hid (rc (r0++r1)=rc r0++rc r1):=A8a r0 r1;have o0:=A1w r0;have o1:=A1w r1;rw[hap.out,hrc.out];rw[HL0.out]at S0 c0 hl;rw[HL1.out]at S1 c1 hl;clear h0 h1;generalize rc r0=x0 at*;generalize rc r1=x1 at*;go_enter Tryz.func138,Tryz.ntmps138;go_wp2_with fail;go_loopw [3,11] (fun s i wr=> ∃k:Nat,k<=2/\i=.int .i64 k/\s=.int .i64 (if k=0 then 0 else if k=1 then l0 else(l0+l1:Nat))/\Below w.heap.size w wr) (fun _ i _=>2 - (intOf i).toNat)
 case atStart=>exact⟨0,by omega,rfl,rfl,bex⟩
 case round=>
  obtain⟨k,hk,rfl,rfl,hb⟩:=hrel;have hzb:=hb.size;have d0:=((bc8 hb).1 nb 0 hnb).trans c0;have d1:=((bc8 hb).1 nb 1 hnb).trans c1;have C5A:nb<wr.heap.size:=by omega
  rcases(by omega:k=0\/k=1\/k=2)with rfl|rfl|rfl
  ·have e1:wrap64 ((0:Int)+(l0:Int))=(l0:Int):=by unfold wrap64;omega
   have e2:¬ ((l0:Int)<0):=by omega
   simp only[if_true]at*;go_wp2_with fail;exact⟨⟨1,by omega,by simp,by simp,bex⟩,by simp[intOf]⟩
  ·have e1:wrap64 ((l0:Int)+(l1:Int))=(l0:Int)+(l1:Int):=by unfold wrap64;omega
   have e2:¬ ((l0:Int)+(l1:Int)<0):=by omega
   go_wp2_with fail;exact⟨⟨2,by omega,by simp,by simp,bex⟩,by simp[intOf]⟩
  ·have hG:=fun X=>C34 (l0+l1) X (by omega);go_wp2_with fail;refine cM8 (hG _) ?_;rintro z w1 ⟨⟨v1,rfl,hown1⟩,hb1⟩;have A21:=hb1.size;have A4s:w1.ownsRow w.heap.size 39 3 v1 0 []:=by
    obtain⟨q0,q1|⟨g,cap,cur,q1,q2,q3⟩⟩:=hown1
    ·exact⟨q0,.inl q1⟩
    ·exact⟨q0,.inr ⟨g,cap,cur,q1,by omega,q3⟩⟩
   have F8:Below w.heap.size w w1:=hb.trans (hb1.mono hzb);clear hown1 hb1 hG d0 d1 hb;go_wp2_with fail;go_loopw [6,27] (fun y i wi=> ∃k:Nat,k<=2/\i=.int .i64 k/\wi.ownsRow w.heap.size 39 3 y (if k=0 then 0 else if k=1 then l0 else l0+l1) (if k=0 then[]else if k=1 then x0 else x0++x1)/\Below w.heap.size w wi) (fun _ i _=>2 - (intOf i).toNat)
   case atStart=>exact⟨0,by omega,rfl,A4s,F8⟩
   case round=>
    obtain⟨wi,HWwi⟩:∃x,x=wr:=⟨wr,rfl⟩;subst HWwi;obtain⟨k,hk,rfl,D2,hb⟩:=hrel;have hzi:=hb.size;have d0:=((bc8 hb).1 nb 0 hnb).trans c0;have d1:=((bc8 hb).1 nb 1 hnb).trans c1;have C4k:nb<wi.heap.size:=by omega
    rcases(by omega:k=0\/k=1\/k=2)with rfl|rfl|rfl
    ·have H9:wi.ownsRow w.heap.size 39 3 _ 0 []:=D2;have A06:=S0 wi hb;clear D2 S0 S1 F8 A4s;go_wp2_with(at_builtin;refine A8h rfl _ _ 114 rfl w.heap.size 39 i0 _ 3 32 Tryz.underlying114 hi hz0 hz1 hz2 rfl (by decide) _ _ _ rfl H9 _ _ _ rfl A06 o0 ?c3 ?c4 ?c5 ?_)
     case c3=>unfold maxLen;omega
     case c4=>omega
     case c5=>first|omega|(simp;omega)
     intro v5 w5 D4 hgr5 _;have H6:w5.ownsRow w.heap.size 39 3 v5 l0 x0:=by simpa using D4
     have D7:Below w.heap.size w w5:=hb.grown hgr5 hzi (fun t ht=>(oL8 H9 t ht).1);clear D4 hgr5 H9 A06;go_wp2_with fail;exact⟨⟨1,by omega,by simp,by simpa using H6,D7⟩,by simp[intOf]⟩
    ·have H9:wi.ownsRow w.heap.size 39 3 _ l0 x0:=D2;have A06:=S1 wi hb;clear D2 S0 S1 F8 A4s;go_wp2_with(at_builtin;refine A8h rfl _ _ 114 rfl w.heap.size 39 i0 _ 3 32 Tryz.underlying114 hi hz0 hz1 hz2 rfl (by decide) _ _ _ rfl H9 _ _ _ rfl A06 o1 ?c3 ?c4 ?c5 ?_)
     case c3=>unfold maxLen;omega
     case c4=>omega
     case c5=>first|omega|(simp;omega)
     intro v5 w5 D4 hgr5 _;have D7:Below w.heap.size w w5:=hb.grown hgr5 hzi (fun t ht=>(oL8 H9 t ht).1);clear hgr5 H9 A06;go_wp2_with fail;exact⟨⟨2,by omega,by simp,by simpa using D4,D7⟩,by simp[intOf]⟩
    ·have H9:wi.ownsRow w.heap.size 39 3 _ (l0+l1) (x0++x1):=D2;obtain⟨ay,cy,rfl⟩:=A2C H9;clear D2 S0 S1 F8 A4s;go_wp2;refine bodyPost_ret (v:=.slice ay (l0+l1) cy) (by simp[results,Tryz.results138,go_sem]) rfl ⟨⟨_,rfl,H9⟩,hb⟩
end
end Go.Proofs.YteekfcdllaceoaaGreatDoor
