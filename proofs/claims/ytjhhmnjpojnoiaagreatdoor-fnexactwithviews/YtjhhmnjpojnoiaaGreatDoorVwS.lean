/- Own text. The contract of spec.ViewsOk. -/
import Derived.Test.YtjhhmnjpojnoiaaGreatDoorTkL
import Derived.Test.YtjhhmnjpojnoiaaGreatDoorGLWithViews7
import Derived.Test.YtjhhmnjpojnoiaaGreatDoorGLWithViews1
import Derived.Test.YtjhhmnjpojnoiaaGreatDoorGLWithViews11
import Derived.Test.YtjhhmnjpojnoiaaGreatDoorSwdS
import Derived.Test.YtjhhmnjpojnoiaaGreatDoorDbS
import Derived.Handy
import Derived.Deep.RegionHeld3
set_option maxHeartbeats 16000000
set_option maxRecDepth 100000
set_option linter.unusedVariables false
set_option linter.unusedSimpArgs false
namespace Go.Proofs.YtjhhmnjpojnoiaaGreatDoor
section
section
open Go.RowKit
theorem specViews_any (rs:List R3)(vd:Value)(Fd:List Nat)(vs:List V15)(D d:Nat)(v:Value)(G:List (List Nat))(w:World)(hrw:RsWf rs)(hR:RelsF w vd rs Fd)(hv:ViewsIs w D d v vs G)(hn:wtV vs≤1048576):Calls Tryz.prog 18 #[vd,v] w fun x w'=>x=.returned (.bool (viewsP rs vs))∧Below w.heap.size w w':=by
 have hDb:=fun(w2:World) (hb:Below w.heap.size w w2)=>specDbOk_any vd rs w2 hrw (hR.is.below hb);obtain⟨ad,ld,cd,rfl⟩:=hR.is.shape;obtain⟨a,c,b,o,rfl,hl,hc,hG,ha⟩:=hv.pick;unfold maxLen at hc;clear hv;go_enter Tryz.func18,Tryz.ntmps18;go_wp2;go_loopw [5] (fun i wr=> ∃ (k:Nat) (q:Int),k≤vs.length∧q=k∧i=.int .i64 q∧Below w.heap.size w wr∧okVs rs none vs=okVs rs (prevV vs k) (vs.drop k)) (fun i _=>vs.length - (intOf i).toNat)
 case atStart=>exact⟨0,0,Nat.zero_le _,rfl,rfl,by go_grown,by simp[prevV]⟩
 case round=>
  obtain⟨k,q,hk,hq,rfl,hb,heq⟩:=hrel;have HE:Hid (okVs rs none vs=okVs rs (prevV vs k) (vs.drop k)):=heq;have hzb:=hb.size;clear heq;by_cases hlt:k<vs.length
  ·obtain⟨rfl,hblt,hL⟩:=ha k hlt;obtain⟨x,g,ue,us,u,t,hx,hg,hxw,hcl,hLx,hRx,hbr⟩:=hL.at hG hblt hb hlt;have HS:Hid (okVs rs (prevV vs k) (vs.drop k)=(okVw rs (prevV vs k) x &&okVs rs (prevV vs (k+1)) (vs.drop (k+1)))):=okVs_step hx;have HX:Hid (vs[k]?=some x):=hx;have hxn:wtP x.p≤1048576:=by have:=wtv_mem (mg8 hx);unfold wtV at hn;unfold wtv at this;omega
   have hRl:=l04Rel_any x.s (.slice ad ld cd) rs Fd wr (hR.below hb);have hWd:=fun(X:World) (hX:Below wr.heap.size wr X)=>specWidth_any rs x.p ue us u g D d (.slice ad ld cd) Fd X hxw.2.1 (hLx.below hX) hxn (hR.below (hb.trans (hX.mono hzb)));have hNm:=fun(X:World)=>specName_any x.s X hxw.1;obtain⟨nm,HNM⟩:∃q,Hid (nameB x.s=q):=⟨_,rfl⟩;obtain⟨tk,HTK⟩:∃q,Hid ((relOf rs x.s).isSome=q):=⟨_,rfl⟩;obtain⟨wd,HWD⟩:∃q,Hid (wP8 rs 9 x.p=q):=⟨_,rfl⟩;have HNO:Hid ((relOf rs x.s).isNone=!tk):=by show _=_;rw[←HTK.out];cases relOf rs x.s<;>rfl
   rw[HNM.out]at hNm;rw[HTK.out]at hRl;rw[HWD.out]at hWd;obtain⟨ae,ce,ak,ck,aq,cq,rfl,rfl,rfl,_,_,_,_,_,_⟩:=hLx.shape;obtain⟨c0,c1,c2,c3,c4,c5,c6,c7,c8,c9,c10,c11,c12,_,_⟩:=id hcl;have hkI:(k:Int)<vs.length:=by omega
   have hk0':(0:Int)≤k:=by omega
   clear hx hLx hRx hg hxw;cases nm with
   |false=>
    clear ha hL hcl;subst hq;go_wp2_with fail;refine cM8 hRl ?_;rintro z w1 ⟨⟨W1,u1,rfl,⟨a1,l1,cc1,rfl⟩,_⟩,hb1⟩;have hz1:=hb1.size;have hbl:=hb1.block b hbr;have hb1':b<w1.heap.size:=by omega
    replace c0:=(cb8 hbl).trans c0;replace c1:=(cb8 hbl).trans c1;replace c2:=(cb8 hbl).trans c2;replace c3:=(cb8 hbl).trans c3;replace c4:=(cb8 hbl).trans c4;replace c5:=(cb8 hbl).trans c5;replace c6:=(cb8 hbl).trans c6;replace c7:=(cb8 hbl).trans c7;replace c8:=(cb8 hbl).trans c8;replace c9:=(cb8 hbl).trans c9;replace c10:=(cb8 hbl).trans c10;replace c11:=(cb8 hbl).trans c11;replace c12:=(cb8 hbl).trans c12;clear hRl;go_wp2_with fail;refine wp_region_held_drew (S:=(fun w'=>w'.cell? ⟨b,o+k*15,none⟩=some (.string x.s)∧w'.cell? ⟨b,o+k*15+1,none⟩=some (.int .i64 x.p.k)∧w'.cell? ⟨b,o+k*15+2,none⟩=some (.string x.p.s)∧w'.cell? ⟨b,o+k*15+3,none⟩=some (.int .i64 x.p.e.k)∧w'.cell? ⟨b,o+k*15+4,none⟩=some (.int .i64 x.p.e.n)∧w'.cell? ⟨b,o+k*15+5,none⟩=some (.int .i64 x.p.e.v.k)∧w'.cell? ⟨b,o+k*15+6,none⟩=some (.int .i64 x.p.e.v.n)∧w'.cell? ⟨b,o+k*15+7,none⟩=some (.string x.p.e.v.s)∧w'.cell? ⟨b,o+k*15+8,none⟩=some (.string x.p.e.p)∧w'.cell? ⟨b,o+k*15+9,none⟩=some (.slice ae x.p.e.ks.length ce)∧w'.cell? ⟨b,o+k*15+10,none⟩=some (.slice ak x.p.es.length ck)∧w'.cell? ⟨b,o+k*15+11,none⟩=some (.int .i64 x.p.n)∧w'.cell? ⟨b,o+k*15+12,none⟩=some (.slice aq x.p.ks.length cq))) (by kernel_rfl) ?_ (fun hHeld=>?_)
    ·refine⟨?_,?_,?_,?_,?_,?_,?_,?_,?_,?_,?_,?_,?_⟩<;>first|(with_reducible assumption)|(go_simp;done)|(exact cL8 (by assumption) (by go_simp))
    refine tlY 0 24 rfl rfl ?_;refine tlY 1 25 rfl rfl ?_;refine tlY 2 26 rfl rfl ?_;refine tlY 3 27 rfl rfl ?_;refine tlY 4 28 rfl rfl ?_;refine rdH 5 rfl fun K hK=>?_;go_simp;go_at_call 38;refine cM8 (hNm _) ?_;rintro e w2 ⟨rfl,rfl⟩;try go_wp2_with fail
    refine hK.out _ _ ?_ (fun hHeld5=>?_)
    ·refine⟨?_,?_,?_,?_,?_,?_,?_,?_,?_,?_,?_,?_,?_⟩<;>first|(with_reducible assumption)|(go_simp;done)|(exact cL8 (by assumption) (by go_simp))
    clear hK;refine tlY 6 30 rfl rfl ?_;refine tlY 7 31 rfl rfl ?_;refine tlN 8 32 rfl rfl ?_;refine tlY 9 33 rfl rfl ?_;refine tlY 10 34 rfl rfl ?_;refine tlN 11 35 rfl rfl ?_;refine tlN 12 36 rfl rfl ?_;refine tlN 13 37 rfl rfl ?_;refine tlN 14 38 rfl rfl ?_;refine tlN 15 39 rfl rfl ?_;refine tlN 16 40 rfl rfl ?_;refine rdH 17 rfl fun K hK=>?_;go_simp;refine hK.out _ _ ?_ (fun hHeld17=>?_)
    ·refine⟨?_,?_,?_,?_,?_,?_,?_,?_,?_,?_,?_,?_,?_⟩<;>first|(with_reducible assumption)|(go_simp;done)|(exact cL8 (by assumption) (by go_simp))
    clear hK;refine tlN 18 42 rfl rfl ?_;refine tlY 19 43 rfl rfl ?_;refine tlY 20 44 rfl rfl ?_;refine tlN 21 45 rfl rfl ?_;refine tlN 22 46 rfl rfl ?_;refine tlN 23 47 rfl rfl ?_;refine tlN 24 48 rfl rfl ?_;refine tlN 25 49 rfl rfl ?_;refine tlN 26 50 rfl rfl ?_;refine tlN 27 51 rfl rfl ?_;refine tlN 28 52 rfl rfl ?_;refine tlN 29 53 rfl rfl ?_;refine tlN 30 54 rfl rfl ?_;refine tlN 31 55 rfl rfl ?_;refine tlN 32 56 rfl rfl ?_;refine tlN 33 57 rfl rfl ?_;refine tlN 34 58 rfl rfl ?_;refine tlN 35 59 rfl rfl ?_;refine tlN 36 60 rfl rfl ?_;refine tlY 37 61 rfl rfl ?_;refine wpAnyH_done (by kernel_rfl) ?_ _;go_wp2;go_returns;refine⟨rB8 ?_,bex⟩;unfold viewsP;rw[HE.out,HS.out];unfold okVw;rw[HNM.out];simp
   |true=>
    cases tk with
    |true=>
     clear ha hL hcl;subst hq;go_wp2_with fail;refine cM8 hRl ?_;rintro z w1 ⟨⟨W1,u1,rfl,⟨a1,l1,cc1,rfl⟩,_⟩,hb1⟩;have hz1:=hb1.size;have hbl:=hb1.block b hbr;have hb1':b<w1.heap.size:=by omega
     replace c0:=(cb8 hbl).trans c0;replace c1:=(cb8 hbl).trans c1;replace c2:=(cb8 hbl).trans c2;replace c3:=(cb8 hbl).trans c3;replace c4:=(cb8 hbl).trans c4;replace c5:=(cb8 hbl).trans c5;replace c6:=(cb8 hbl).trans c6;replace c7:=(cb8 hbl).trans c7;replace c8:=(cb8 hbl).trans c8;replace c9:=(cb8 hbl).trans c9;replace c10:=(cb8 hbl).trans c10;replace c11:=(cb8 hbl).trans c11;replace c12:=(cb8 hbl).trans c12;clear hRl;go_wp2_with fail;refine wp_region_held_drew (S:=(fun w'=>w'.cell? ⟨b,o+k*15,none⟩=some (.string x.s)∧w'.cell? ⟨b,o+k*15+1,none⟩=some (.int .i64 x.p.k)∧w'.cell? ⟨b,o+k*15+2,none⟩=some (.string x.p.s)∧w'.cell? ⟨b,o+k*15+3,none⟩=some (.int .i64 x.p.e.k)∧w'.cell? ⟨b,o+k*15+4,none⟩=some (.int .i64 x.p.e.n)∧w'.cell? ⟨b,o+k*15+5,none⟩=some (.int .i64 x.p.e.v.k)∧w'.cell? ⟨b,o+k*15+6,none⟩=some (.int .i64 x.p.e.v.n)∧w'.cell? ⟨b,o+k*15+7,none⟩=some (.string x.p.e.v.s)∧w'.cell? ⟨b,o+k*15+8,none⟩=some (.string x.p.e.p)∧w'.cell? ⟨b,o+k*15+9,none⟩=some (.slice ae x.p.e.ks.length ce)∧w'.cell? ⟨b,o+k*15+10,none⟩=some (.slice ak x.p.es.length ck)∧w'.cell? ⟨b,o+k*15+11,none⟩=some (.int .i64 x.p.n)∧w'.cell? ⟨b,o+k*15+12,none⟩=some (.slice aq x.p.ks.length cq))) (by kernel_rfl) ?_ (fun hHeld=>?_)
     ·refine⟨?_,?_,?_,?_,?_,?_,?_,?_,?_,?_,?_,?_,?_⟩<;>first|(with_reducible assumption)|(go_simp;done)|(exact cL8 (by assumption) (by go_simp))
     refine tlY 0 24 rfl rfl ?_;refine tlY 1 25 rfl rfl ?_;refine tlY 2 26 rfl rfl ?_;refine tlY 3 27 rfl rfl ?_;refine tlY 4 28 rfl rfl ?_;refine rdH 5 rfl fun K hK=>?_;go_simp;go_at_call 38;refine cM8 (hNm _) ?_;rintro e w2 ⟨rfl,rfl⟩;try go_wp2_with fail
     refine hK.out _ _ ?_ (fun hHeld5=>?_)
     ·refine⟨?_,?_,?_,?_,?_,?_,?_,?_,?_,?_,?_,?_,?_⟩<;>first|(with_reducible assumption)|(go_simp;done)|(exact cL8 (by assumption) (by go_simp))
     clear hK;refine tlY 6 30 rfl rfl ?_;refine tlY 7 31 rfl rfl ?_;refine tlY 8 32 rfl rfl ?_;refine tlY 9 33 rfl rfl ?_;refine tlY 10 34 rfl rfl ?_;refine tlN 11 35 rfl rfl ?_;refine tlN 12 36 rfl rfl ?_;refine tlN 13 37 rfl rfl ?_;refine tlN 14 38 rfl rfl ?_;refine tlN 15 39 rfl rfl ?_;refine tlN 16 40 rfl rfl ?_;refine rdH 17 rfl fun K hK=>?_;go_simp;refine hK.out _ _ ?_ (fun hHeld17=>?_)
     ·refine⟨?_,?_,?_,?_,?_,?_,?_,?_,?_,?_,?_,?_,?_⟩<;>first|(with_reducible assumption)|(go_simp;done)|(exact cL8 (by assumption) (by go_simp))
     clear hK;refine tlN 18 42 rfl rfl ?_;refine tlY 19 43 rfl rfl ?_;refine tlY 20 44 rfl rfl ?_;refine tlN 21 45 rfl rfl ?_;refine tlN 22 46 rfl rfl ?_;refine tlN 23 47 rfl rfl ?_;refine tlN 24 48 rfl rfl ?_;refine tlN 25 49 rfl rfl ?_;refine tlN 26 50 rfl rfl ?_;refine tlN 27 51 rfl rfl ?_;refine tlN 28 52 rfl rfl ?_;refine tlN 29 53 rfl rfl ?_;refine tlN 30 54 rfl rfl ?_;refine tlN 31 55 rfl rfl ?_;refine tlN 32 56 rfl rfl ?_;refine tlN 33 57 rfl rfl ?_;refine tlN 34 58 rfl rfl ?_;refine tlN 35 59 rfl rfl ?_;refine tlN 36 60 rfl rfl ?_;refine tlY 37 61 rfl rfl ?_;refine wpAnyH_done (by kernel_rfl) ?_ _;go_wp2;go_returns;refine⟨rB8 ?_,bex⟩;unfold viewsP;rw[HE.out,HS.out];unfold okVw;rw[HNO.out];simp
    |false=>
     by_cases hw0:wd<0
     ·have hd:decide (wd<0)=true:=decide_eq_true hw0;have HF:Hid (decide (0≤wP8 rs 9 x.p)=false):=by show _=_;rw[HWD.out];exact decide_eq_false (by omega)
      clear ha hL hcl;subst hq;go_wp2_with fail;refine cM8 hRl ?_;rintro z w1 ⟨⟨W1,u1,rfl,⟨a1,l1,cc1,rfl⟩,_⟩,hb1⟩;have hz1:=hb1.size;have hbl:=hb1.block b hbr;have hb1':b<w1.heap.size:=by omega
      replace c0:=(cb8 hbl).trans c0;replace c1:=(cb8 hbl).trans c1;replace c2:=(cb8 hbl).trans c2;replace c3:=(cb8 hbl).trans c3;replace c4:=(cb8 hbl).trans c4;replace c5:=(cb8 hbl).trans c5;replace c6:=(cb8 hbl).trans c6;replace c7:=(cb8 hbl).trans c7;replace c8:=(cb8 hbl).trans c8;replace c9:=(cb8 hbl).trans c9;replace c10:=(cb8 hbl).trans c10;replace c11:=(cb8 hbl).trans c11;replace c12:=(cb8 hbl).trans c12;clear hRl;go_wp2_with fail;refine wp_region_held_drew (S:=(fun w'=>w'.cell? ⟨b,o+k*15,none⟩=some (.string x.s)∧w'.cell? ⟨b,o+k*15+1,none⟩=some (.int .i64 x.p.k)∧w'.cell? ⟨b,o+k*15+2,none⟩=some (.string x.p.s)∧w'.cell? ⟨b,o+k*15+3,none⟩=some (.int .i64 x.p.e.k)∧w'.cell? ⟨b,o+k*15+4,none⟩=some (.int .i64 x.p.e.n)∧w'.cell? ⟨b,o+k*15+5,none⟩=some (.int .i64 x.p.e.v.k)∧w'.cell? ⟨b,o+k*15+6,none⟩=some (.int .i64 x.p.e.v.n)∧w'.cell? ⟨b,o+k*15+7,none⟩=some (.string x.p.e.v.s)∧w'.cell? ⟨b,o+k*15+8,none⟩=some (.string x.p.e.p)∧w'.cell? ⟨b,o+k*15+9,none⟩=some (.slice ae x.p.e.ks.length ce)∧w'.cell? ⟨b,o+k*15+10,none⟩=some (.slice ak x.p.es.length ck)∧w'.cell? ⟨b,o+k*15+11,none⟩=some (.int .i64 x.p.n)∧w'.cell? ⟨b,o+k*15+12,none⟩=some (.slice aq x.p.ks.length cq))) (by kernel_rfl) ?_ (fun hHeld=>?_)
      ·refine⟨?_,?_,?_,?_,?_,?_,?_,?_,?_,?_,?_,?_,?_⟩<;>first|(with_reducible assumption)|(go_simp;done)|(exact cL8 (by assumption) (by go_simp))
      refine tlY 0 24 rfl rfl ?_;refine tlY 1 25 rfl rfl ?_;refine tlY 2 26 rfl rfl ?_;refine tlY 3 27 rfl rfl ?_;refine tlY 4 28 rfl rfl ?_;refine rdH 5 rfl fun K hK=>?_;go_simp;go_at_call 38;refine cM8 (hNm _) ?_;rintro e w2 ⟨rfl,rfl⟩;try go_wp2_with fail
      refine hK.out _ _ ?_ (fun hHeld5=>?_)
      ·refine⟨?_,?_,?_,?_,?_,?_,?_,?_,?_,?_,?_,?_,?_⟩<;>first|(with_reducible assumption)|(go_simp;done)|(exact cL8 (by assumption) (by go_simp))
      clear hK;refine tlY 6 30 rfl rfl ?_;refine tlY 7 31 rfl rfl ?_;refine tlY 8 32 rfl rfl ?_;refine tlY 9 33 rfl rfl ?_;refine tlY 10 34 rfl rfl ?_;refine tlY 11 35 rfl rfl ?_;refine tlY 12 36 rfl rfl ?_;refine tlY 13 37 rfl rfl ?_;refine tlY 14 38 rfl rfl ?_;refine tlY 15 39 rfl rfl ?_;refine tlY 16 40 rfl rfl ?_;refine rdH 17 rfl fun K hK=>?_;go_simp;go_at_call 39;refine cM8 (hWd _ bex) ?_;rintro e w3 ⟨rfl,hb3⟩;have hz3:=hb3.size;(try simp at hz3);try go_wp2_with fail
      refine hK.out _ _ ?_ (fun hHeld17=>?_)
      ·refine⟨?_,?_,?_,?_,?_,?_,?_,?_,?_,?_,?_,?_,?_⟩<;>first|(with_reducible assumption)|(go_simp;done)|(exact cL8 (by assumption) (by go_simp))
      clear hK;refine tlY 18 42 rfl rfl ?_;try simp only[hd]
      refine tlY 19 43 rfl rfl ?_;refine tlY 20 44 rfl rfl ?_;refine tlN 21 45 rfl rfl ?_;refine tlN 22 46 rfl rfl ?_;refine tlN 23 47 rfl rfl ?_;refine tlN 24 48 rfl rfl ?_;refine tlN 25 49 rfl rfl ?_;refine tlN 26 50 rfl rfl ?_;refine tlN 27 51 rfl rfl ?_;refine tlN 28 52 rfl rfl ?_;refine tlN 29 53 rfl rfl ?_;refine tlN 30 54 rfl rfl ?_;refine tlN 31 55 rfl rfl ?_;refine tlN 32 56 rfl rfl ?_;refine tlN 33 57 rfl rfl ?_;refine tlN 34 58 rfl rfl ?_;refine tlN 35 59 rfl rfl ?_;refine tlN 36 60 rfl rfl ?_;refine tlY 37 61 rfl rfl ?_;refine wpAnyH_done (by kernel_rfl) ?_ _;go_wp2;go_returns;refine⟨rB8 ?_,bex⟩;unfold viewsP;rw[HE.out,HS.out];unfold okVw;rw[HF.out];simp
     ·have hd:decide (wd<0)=false:=decide_eq_false hw0;have HF:Hid (decide (0≤wP8 rs 9 x.p)=true):=by show _=_;rw[HWD.out];exact decide_eq_true (by omega)
      rcases Nat.eq_zero_or_pos k with hk0|hk0
      ·subst hk0;obtain rfl:q=0:=by simpa using hq
       rw[Nat.zero_mul,Nat.add_zero]at c0 c1 c2 c3 c4 c5 c6 c7 c8 c9 c10 c11 c12;clear ha hL hcl hq;go_wp2_with fail;refine cM8 hRl ?_;rintro z w1 ⟨⟨W1,u1,rfl,⟨a1,l1,cc1,rfl⟩,_⟩,hb1⟩;have hz1:=hb1.size;have hbl:=hb1.block b hbr;have hb1':b<w1.heap.size:=by omega
       replace c0:=(cb8 hbl).trans c0;replace c1:=(cb8 hbl).trans c1;replace c2:=(cb8 hbl).trans c2;replace c3:=(cb8 hbl).trans c3;replace c4:=(cb8 hbl).trans c4;replace c5:=(cb8 hbl).trans c5;replace c6:=(cb8 hbl).trans c6;replace c7:=(cb8 hbl).trans c7;replace c8:=(cb8 hbl).trans c8;replace c9:=(cb8 hbl).trans c9;replace c10:=(cb8 hbl).trans c10;replace c11:=(cb8 hbl).trans c11;replace c12:=(cb8 hbl).trans c12;clear hRl;go_wp2_with fail;refine wp_region_held_drew (S:=(fun w'=>w'.cell? ⟨b,o,none⟩=some (.string x.s)∧w'.cell? ⟨b,o+1,none⟩=some (.int .i64 x.p.k)∧w'.cell? ⟨b,o+2,none⟩=some (.string x.p.s)∧w'.cell? ⟨b,o+3,none⟩=some (.int .i64 x.p.e.k)∧w'.cell? ⟨b,o+4,none⟩=some (.int .i64 x.p.e.n)∧w'.cell? ⟨b,o+5,none⟩=some (.int .i64 x.p.e.v.k)∧w'.cell? ⟨b,o+6,none⟩=some (.int .i64 x.p.e.v.n)∧w'.cell? ⟨b,o+7,none⟩=some (.string x.p.e.v.s)∧w'.cell? ⟨b,o+8,none⟩=some (.string x.p.e.p)∧w'.cell? ⟨b,o+9,none⟩=some (.slice ae x.p.e.ks.length ce)∧w'.cell? ⟨b,o+10,none⟩=some (.slice ak x.p.es.length ck)∧w'.cell? ⟨b,o+11,none⟩=some (.int .i64 x.p.n)∧w'.cell? ⟨b,o+12,none⟩=some (.slice aq x.p.ks.length cq))) (by kernel_rfl) ?_ (fun hHeld=>?_)
       ·refine⟨?_,?_,?_,?_,?_,?_,?_,?_,?_,?_,?_,?_,?_⟩<;>first|(with_reducible assumption)|(go_simp;done)|(exact cL8 (by assumption) (by go_simp))
       refine tlY 0 24 rfl rfl ?_;refine tlY 1 25 rfl rfl ?_;refine tlY 2 26 rfl rfl ?_;refine tlY 3 27 rfl rfl ?_;refine tlY 4 28 rfl rfl ?_;refine rdH 5 rfl fun K hK=>?_;go_simp;go_at_call 38;refine cM8 (hNm _) ?_;rintro e w2 ⟨rfl,rfl⟩;try go_wp2_with fail
       refine hK.out _ _ ?_ (fun hHeld5=>?_)
       ·refine⟨?_,?_,?_,?_,?_,?_,?_,?_,?_,?_,?_,?_,?_⟩<;>first|(with_reducible assumption)|(go_simp;done)|(exact cL8 (by assumption) (by go_simp))
       clear hK;refine tlY 6 30 rfl rfl ?_;refine tlY 7 31 rfl rfl ?_;refine tlY 8 32 rfl rfl ?_;refine tlY 9 33 rfl rfl ?_;refine tlY 10 34 rfl rfl ?_;refine tlY 11 35 rfl rfl ?_;refine tlY 12 36 rfl rfl ?_;refine tlY 13 37 rfl rfl ?_;refine tlY 14 38 rfl rfl ?_;refine tlY 15 39 rfl rfl ?_;refine tlY 16 40 rfl rfl ?_;refine rdH 17 rfl fun K hK=>?_;go_simp;go_at_call 39;refine cM8 (hWd _ bex) ?_;rintro e w3 ⟨rfl,hb3⟩;have hz3:=hb3.size;(try simp at hz3);try go_wp2_with fail
       refine hK.out _ _ ?_ (fun hHeld17=>?_)
       ·refine⟨?_,?_,?_,?_,?_,?_,?_,?_,?_,?_,?_,?_,?_⟩<;>first|(with_reducible assumption)|(go_simp;done)|(exact cL8 (by assumption) (by go_simp))
       clear hK;refine tlY 18 42 rfl rfl ?_;try simp only[hd]
       refine tlY 19 43 rfl rfl ?_;refine tlY 20 44 rfl rfl ?_;refine tlY 21 45 rfl rfl ?_;refine tlY 22 46 rfl rfl ?_;refine tlY 23 47 rfl rfl ?_;refine tlN 24 48 rfl rfl ?_;refine tlN 25 49 rfl rfl ?_;refine tlN 26 50 rfl rfl ?_;refine tlN 27 51 rfl rfl ?_;refine tlN 28 52 rfl rfl ?_;refine tlN 29 53 rfl rfl ?_;refine tlN 30 54 rfl rfl ?_;refine tlN 31 55 rfl rfl ?_;refine tlN 32 56 rfl rfl ?_;refine tlN 33 57 rfl rfl ?_;refine tlN 34 58 rfl rfl ?_;refine tlN 35 59 rfl rfl ?_;refine tlY 36 60 rfl rfl ?_;refine tlY 37 61 rfl rfl ?_;refine wpAnyH_done (by kernel_rfl) ?_ _;go_wp2
       go_roundw
       case rel=>
        refine⟨1,1,hlt,rfl,by simp,bex,?_⟩;rw[HE.out,HS.out];unfold okVw;rw[HNM.out,HNO.out,HF.out,prevV_zero];simp[okPrevV]
       case measure=>simp[intOf];omega
      ·obtain⟨j,rfl⟩:∃j,k=j+1:=⟨k -1,by omega⟩;obtain rfl:q=(j:Int)+1:=by omega
       obtain⟨y,_,_,_,_,_,hy,_,_,⟨d0,_⟩,_,_,_⟩:=hL.at hG hblt hb (show j<vs.length by omega);have HP:Hid (prevV vs (j+1)=some y):=prevV_succ hy;have HQ:Hid (okPrevV (prevV vs (j+1)) x=Op.bytesLess y.s.toList x.s.toList):=by rw[HP.out];rfl
       have hw1:IntKind.i64.wrap (j:Int)=j:=by rw[IntKind.wrap_i64];omega
       have hw2:IntKind.i64.wrap ((j:Int)+1 -1)=j:=by rw[IntKind.wrap_i64];omega
       have hi0:(0:Int)≤j:=by omega
       have hi1:(j:Int)<vs.length:=by omega
       have hi2:(0:Int)<(j:Int)+1:=by omega
       clear ha hL hcl hy hq;go_wp2_with fail;refine cM8 hRl ?_;rintro z w1 ⟨⟨W1,u1,rfl,⟨a1,l1,cc1,rfl⟩,_⟩,hb1⟩;have hz1:=hb1.size;have hbl:=hb1.block b hbr;have hb1':b<w1.heap.size:=by omega
       replace c0:=(cb8 hbl).trans c0;replace c1:=(cb8 hbl).trans c1;replace c2:=(cb8 hbl).trans c2;replace c3:=(cb8 hbl).trans c3;replace c4:=(cb8 hbl).trans c4;replace c5:=(cb8 hbl).trans c5;replace c6:=(cb8 hbl).trans c6;replace c7:=(cb8 hbl).trans c7;replace c8:=(cb8 hbl).trans c8;replace c9:=(cb8 hbl).trans c9;replace c10:=(cb8 hbl).trans c10;replace c11:=(cb8 hbl).trans c11;replace c12:=(cb8 hbl).trans c12;replace d0:=(cb8 hbl).trans d0;clear hRl;go_wp2_with fail;refine wp_region_held_drew (S:=(fun w'=>w'.cell? ⟨b,o+(j+1)*15,none⟩=some (.string x.s)∧w'.cell? ⟨b,o+(j+1)*15+1,none⟩=some (.int .i64 x.p.k)∧w'.cell? ⟨b,o+(j+1)*15+2,none⟩=some (.string x.p.s)∧w'.cell? ⟨b,o+(j+1)*15+3,none⟩=some (.int .i64 x.p.e.k)∧w'.cell? ⟨b,o+(j+1)*15+4,none⟩=some (.int .i64 x.p.e.n)∧w'.cell? ⟨b,o+(j+1)*15+5,none⟩=some (.int .i64 x.p.e.v.k)∧w'.cell? ⟨b,o+(j+1)*15+6,none⟩=some (.int .i64 x.p.e.v.n)∧w'.cell? ⟨b,o+(j+1)*15+7,none⟩=some (.string x.p.e.v.s)∧w'.cell? ⟨b,o+(j+1)*15+8,none⟩=some (.string x.p.e.p)∧w'.cell? ⟨b,o+(j+1)*15+9,none⟩=some (.slice ae x.p.e.ks.length ce)∧w'.cell? ⟨b,o+(j+1)*15+10,none⟩=some (.slice ak x.p.es.length ck)∧w'.cell? ⟨b,o+(j+1)*15+11,none⟩=some (.int .i64 x.p.n)∧w'.cell? ⟨b,o+(j+1)*15+12,none⟩=some (.slice aq x.p.ks.length cq)∧w'.cell? ⟨b,o+j*15,none⟩=some (.string y.s))) (by kernel_rfl) ?_ (fun hHeld=>?_)
       ·refine⟨?_,?_,?_,?_,?_,?_,?_,?_,?_,?_,?_,?_,?_,?_⟩<;>first|(with_reducible assumption)|(go_simp;done)|(exact cL8 (by assumption) (by go_simp))
       refine tlY 0 24 rfl rfl ?_;refine tlY 1 25 rfl rfl ?_;refine tlY 2 26 rfl rfl ?_;refine tlY 3 27 rfl rfl ?_;refine tlY 4 28 rfl rfl ?_;refine rdH 5 rfl fun K hK=>?_;go_simp;go_at_call 38;refine cM8 (hNm _) ?_;rintro e w2 ⟨rfl,rfl⟩;try go_wp2_with fail
       refine hK.out _ _ ?_ (fun hHeld5=>?_)
       ·refine⟨?_,?_,?_,?_,?_,?_,?_,?_,?_,?_,?_,?_,?_,?_⟩<;>first|(with_reducible assumption)|(go_simp;done)|(exact cL8 (by assumption) (by go_simp))
       clear hK;refine tlY 6 30 rfl rfl ?_;refine tlY 7 31 rfl rfl ?_;refine tlY 8 32 rfl rfl ?_;refine tlY 9 33 rfl rfl ?_;refine tlY 10 34 rfl rfl ?_;refine tlY 11 35 rfl rfl ?_;refine tlY 12 36 rfl rfl ?_;refine tlY 13 37 rfl rfl ?_;refine tlY 14 38 rfl rfl ?_;refine tlY 15 39 rfl rfl ?_;refine tlY 16 40 rfl rfl ?_;refine rdH 17 rfl fun K hK=>?_;go_simp;go_at_call 39;refine cM8 (hWd _ bex) ?_;rintro e w3 ⟨rfl,hb3⟩;have hz3:=hb3.size;(try simp at hz3);try go_wp2_with fail
       refine hK.out _ _ ?_ (fun hHeld17=>?_)
       ·refine⟨?_,?_,?_,?_,?_,?_,?_,?_,?_,?_,?_,?_,?_,?_⟩<;>first|(with_reducible assumption)|(go_simp;done)|(exact cL8 (by assumption) (by go_simp))
       clear hK;refine tlY 18 42 rfl rfl ?_;try simp only[hd]
       refine tlY 19 43 rfl rfl ?_;refine tlY 20 44 rfl rfl ?_;refine tlY 21 45 rfl rfl ?_;refine tlY 22 46 rfl rfl ?_;refine tlY 23 47 rfl rfl ?_;refine tlY 24 48 rfl rfl ?_;refine tlY 25 49 rfl rfl ?_;refine tlY 26 50 rfl rfl ?_;refine tlY 27 51 rfl rfl ?_;refine tlY 28 52 rfl rfl ?_;refine tlY 29 53 rfl rfl ?_;refine tlY 30 54 rfl rfl ?_;refine tlY 31 55 rfl rfl ?_;refine tlY 32 56 rfl rfl ?_;refine tlY 33 57 rfl rfl ?_;refine tlY 34 58 rfl rfl ?_;refine tlY 35 59 rfl rfl ?_;refine tlY 36 60 rfl rfl ?_;refine tlY 37 61 rfl rfl ?_;refine wpAnyH_done (by kernel_rfl) ?_ _;go_wp2
       ·have hcf:Op.bytesLess y.s.toList x.s.toList=false:=by
         have h9:Op.bytesLess x.s.toList y.s.toList=true∨(x.s.toList==y.s.toList)=true:=by assumption
         rcases h9 with h9|h9
         ·exact bless_asymm h9
         ·rw[beq_iff_eq]at h9;rw[h9];exact bless_irrefl _
        go_returns;refine⟨rB8 ?_,bex⟩;unfold viewsP;rw[HE.out,HS.out];unfold okVw;rw[HQ.out,hcf];simp
       ·have hcmp:Op.bytesLess y.s.toList x.s.toList=true:=by
         have h9:Op.bytesLess x.s.toList y.s.toList=false∧(x.s.toList==y.s.toList)=false:=by assumption
         exact bless_total h9.1 (by simpa using h9.2)
        refine⟨⟨j+1+1,(j:Int)+1+1,hlt,by omega,rfl,bex,?_⟩,by simp[intOf];omega⟩;rw[HE.out,HS.out];unfold okVw;rw[HNM.out,HNO.out,HF.out,HQ.out,hcmp];simp
  ·have HN:Hid (okVs rs none vs=true):=by show _=_;rw[HE.out,List.drop_eq_nil_of_le (by omega)];rfl
   have HP:Hid (viewsP rs vs=(okDb rs &&decide (vs.length≤10))):=by show _=_;unfold viewsP;rw[HN.out,Bool.and_true]
   obtain⟨bo,HBO⟩:∃q,Hid (okDb rs=q):=⟨_,rfl⟩;rw[HBO.out]at hDb;clear ha;cases bo with
   |false=>
    go_wp2_with(first|(go_at_call 40;refine cM8 (hDb _ (by first|exact hb|exact bex)) ?_;rintro z w1 ⟨rfl,hb1⟩)|fail);go_returns;refine⟨rB8 ?_,hb.trans (hb1.mono hzb)⟩;rw[HP.out,HBO.out];rfl
   |true=>
    go_wp2_with(first|(go_at_call 40;refine cM8 (hDb _ (by first|exact hb|exact bex)) ?_;rintro z w1 ⟨rfl,hb1⟩)|fail);go_returns;refine⟨rB8 ?_,hb.trans (hb1.mono hzb)⟩;rw[HP.out,HBO.out,Bool.true_and]
    first|rfl|(rw[Bool.eq_iff_iff];simp;omega)|(simp;omega)
end
end
end Go.Proofs.YtjhhmnjpojnoiaaGreatDoor
