/- Own texts, joined: contracts that the law's proof goes by. -/
import Derived.Test.YtjhhmnjpojnoiaaGreatDoorToP
import Derived.Handy
import Derived.Test.YtjhhmnjpojnoiaaGreatDoorGLWithViews7
import Derived.Test.YtjhhmnjpojnoiaaGreatDoorGLWithViews1
import Derived.Test.YtjhhmnjpojnoiaaGreatDoorGLWithViews14
import Derived.Test.YtjhhmnjpojnoiaaGreatDoorExpOkS
set_option maxHeartbeats 16000000
set_option maxRecDepth 100000
set_option linter.unusedVariables false
set_option linter.unusedSimpArgs false
namespace Go.Proofs.YtjhhmnjpojnoiaaGreatDoor
section
section
open Go.RowKit
def BxP (w:World)(b:Nat)(p:P12)(ue us u:Value):Prop:=
 b<w.heap.size∧w.cell? ⟨b,0,none⟩=some (.int .i64 p.k)∧w.cell? ⟨b,1,none⟩=some (.string p.s)∧w.cell? ⟨b,2,none⟩=some (.int .i64 p.e.k)∧w.cell? ⟨b,3,none⟩=some (.int .i64 p.e.n)∧w.cell? ⟨b,4,none⟩=some (.int .i64 p.e.v.k)∧w.cell? ⟨b,5,none⟩=some (.int .i64 p.e.v.n)∧w.cell? ⟨b,6,none⟩=some (.string p.e.v.s)∧w.cell? ⟨b,7,none⟩=some (.string p.e.p)∧w.cell? ⟨b,8,none⟩=some ue∧w.cell? ⟨b,9,none⟩=some us∧w.cell? ⟨b,10,none⟩=some (.int .i64 p.n)∧w.cell? ⟨b,11,none⟩=some u
theorem BxP.cellsP {w:World}{b:Nat}{p:P12}{ue us u:Value}(h:BxP w b p ue us u):cellsP w b 0 p ue us u:=by
 obtain⟨hl,h0,h1,h2,h3,h4,h5,h6,h7,h8,h9,h10,h11⟩:=h;exact⟨h0,h1,h2,h3,h4,h5,h6,h7,h8,h9,h10,h11⟩
theorem BxP.below {w w':World}{b:Nat}{p:P12}{ue us u:Value}(h:BxP w b p ue us u)(hb:Below w.heap.size w w'):BxP w' b p ue us u:=by
 have hk:=hb.block b h.1;obtain⟨hl,h0,h1,h2,h3,h4,h5,h6,h7,h8,h9,h10,h11⟩:=h;exact⟨Nat.lt_of_lt_of_le hl hb.size,(cb8 hk).trans h0,(cb8 hk).trans h1,(cb8 hk).trans h2,(cb8 hk).trans h3,(cb8 hk).trans h4,(cb8 hk).trans h5,(cb8 hk).trans h6,(cb8 hk).trans h7,(cb8 hk).trans h8,(cb8 hk).trans h9,(cb8 hk).trans h10,(cb8 hk).trans h11⟩
theorem bxP_new (w:World)(p:P12)(ue us u:Value)(t:TypeId):BxP (w.alloc (.cells #[.int .i64 p.k,.string p.s,.int .i64 p.e.k,.int .i64 p.e.n,.int .i64 p.e.v.k,.int .i64 p.e.v.n,.string p.e.v.s,.string p.e.p,ue,us,.int .i64 p.n,u] t)) w.heap.size p ue us u:=by
 refine⟨by simp,?_,?_,?_,?_,?_,?_,?_,?_,?_,?_,?_,?_⟩<;>go_simp
end
section
open Go.RowKit
theorem belowE_no {e:E7}{W:Int}(h:okE 13 e=false):bE8 e W=false:=by rw[bE8,h,Bool.false_and]
theorem belowE_nil {e:E7}{W:Int}{w:World}{D:Nat}{u:Value}{F:List Nat}(hk:KidsIs w D u e.ks F)(h:okE 13 e=true)(hc:colsL D e=[]):bE8 e W=true:=by
 rw[bE8,h,Bool.true_and];exact(colsBelow_iff W 13 e w D u F hk h).2 fun x hx=>by rw[hc]at hx;cases hx
theorem belowE_last {e:E7}{W x:Int}{w:World}{D:Nat}{u:Value}{F:List Nat}(hk:KidsIs w D u e.ks F)(h:okE 13 e=true)(hx:(colsL D e)[(colsL D e).length -1]?=some x):bE8 e W=decide (x<W):=by
 rw[bE8,h,Bool.true_and];have hne:colsL D e≠ []:=by intro h0;rw[h0]at hx;simp at hx
 have hl:(colsL D e).getLast hne=x:=by
  rw[List.getLast_eq_getElem];obtain⟨h1,h2⟩:=gE1 hx;exact h2
 rw[Bool.eq_iff_iff,colsBelow_iff W 13 e w D u F hk h,asc_last (asc_colsL D e) hne,hl,decide_eq_true_eq]
theorem l04Below_any (e:E7)(u:Value)(F:List Nat)(D:Nat)(W:Int)(w:World)(he:e.wf)(hk:KidsIs w D u e.ks F)(hn:wtE e≤1048576):Calls Tryz.prog 91 #[(.agg #[.int .i64 e.k,.int .i64 e.n,.int .i64 e.v.k,.int .i64 e.v.n,.string e.v.s,.string e.p,u]),.int .i64 W] w fun x w'=>x=.returned (.bool (bE8 e W))∧Below w.heap.size w w':=by
 obtain⟨a,c,rfl,hl,hc⟩:=hk.shape;have hC:=fun w2 (hb:Below w.heap.size w w2)=>specCols_any D e _ F w2 (hk.below hb) hn;have hX:=fun w2 (hb:Below w.heap.size w w2)=>specExpOk_any e _ F D w2 he (hk.below hb);have hB:=box7_new w e (.slice a e.ks.length c) 63;have hlen:(colsL D e).length≤1+wtE e:=colsL_len D e;obtain⟨bo,HO⟩:∃b,Hid (okE 13 e=b):=⟨_,rfl⟩;rw[HO.out]at hX;go_enter Tryz.func91,Tryz.ntmps91;go_wp2_with fail;refine cM8 (hC _ bex) ?_;rintro x w1 ⟨⟨v,rfl,hI⟩,hb1⟩;obtain⟨yb,yo,yc,rfl,hyl,hyc,hylt,hcell⟩:=hI;have hB1:=hB.below hb1;have bel1:Below w.heap.size w w1:=bex;obtain⟨_,b0,b1,b2,b3,b4,b5,b6⟩:=hB1;clear hB hb1 hC;go_wp2_with fail;refine cM8 (hX _ bel1) ?_;rintro x w2 ⟨rfl,hb2⟩;have bel2:Below w.heap.size w w2:=bel1.trans (hb2.mono bel1.size);clear hX b0 b1 b2 b3 b4 b5 b6;cases bo with
 |false=>
  have HF:Hid (bE8 e W=false):=belowE_no HO.out;clear hcell hk;go_wp2;go_returns;exact⟨by rw[HF.out];rfl,bex⟩
 |true=>
  by_cases h0:(colsL D e).length=0
  ·have HF:Hid (bE8 e W=true):=belowE_nil hk HO.out (List.eq_nil_of_length_eq_zero h0);rw[h0];clear hcell hk hyl hlen;clear h0;go_wp2;go_returns;exact⟨by rw[HF.out];rfl,bex⟩
  ·obtain⟨z,hz⟩:∃z,(colsL D e)[(colsL D e).length -1]?=some z:=⟨(colsL D e)[(colsL D e).length -1]'(by omega),by simp⟩;have HF:Hid (bE8 e W=decide (z<W)):=belowE_last hk HO.out hz;have hcz:=((bc8 hb2).1 _ _ hylt).trans (hcell _ z hz);clear hcell hk hz;generalize hm:(colsL D e).length=m at*;obtain⟨m,rfl⟩:∃j,m=j+1:=⟨m -1,by omega⟩;rw[Nat.add_sub_cancel]at hcz;unfold maxLen at hyc;have hm2:m≤1048576:=by omega
   clear hm h0 hlen;go_wp2;go_returns;exact⟨by rw[HF.out];rfl,bex⟩
theorem allB_step {es:List E7}{k:Nat}{x:E7}{q:E7→Bool}(h:es[k]?=some x):(es.drop k).all q=(q x && (es.drop (k+1)).all q):=by
 obtain⟨hk,rfl⟩:=gE1 h;rw[List.drop_eq_getElem_cons hk,List.all_cons]
theorem l04All_any (v:Value)(es:List E7)(F:List Nat)(D:Nat)(W:Int)(w:World)(hk:KidsIs w D v es F)(hn:wtEs es≤1048576):Calls Tryz.prog 92 #[v,.int .i64 W] w fun x w'=>x=.returned (.bool (es.all (bE8 · W)))∧Below w.heap.size w w':=by
 obtain⟨D,rfl⟩:=hk.succ;obtain⟨a,c,b,o,G,rfl,hl,hc,hG,_,ha⟩:=hk.pick;unfold maxLen at hc;clear hk;go_enter Tryz.func92,Tryz.ntmps92;go_wp2_with fail;go_loopw [5] (fun i wr=> ∃k:Nat,k≤es.length∧i=.int .i64 k∧es.all (bE8 · W)=(es.drop k).all (bE8 · W)∧Below w.heap.size w wr) (fun i _=>es.length - (intOf i).toNat)
 case atStart=>exact⟨0,Nat.zero_le _,rfl,by simp,bex⟩
 case round=>
  obtain⟨k,hk,rfl,heq,hb⟩:=hrel;have HE:Hid (es.all (bE8 · W)=(es.drop k).all (bE8 · W)):=heq;have hzb:=hb.size;clear heq;by_cases hlt:k<es.length
  ·obtain⟨rfl,hblt,_,hL⟩:=ha k hlt;obtain⟨x,g,u,hx,hg,hxw,⟨c0,c1,c2,c3,c4,c5⟩,c6,hK,hbr⟩:=hL.at hG hblt hb hlt;obtain⟨ax,cx,rfl,_,_⟩:=hK.shape;have HS:Hid ((es.drop k).all (bE8 · W)=(bE8 x W && (es.drop (k+1)).all (bE8 · W))):=allB_step hx;have hxn:wtE x≤1048576:=by have:=wtE_mem (mg8 hx);omega
   have hV:=l04Below_any x _ g D W wr hxw hK hxn;obtain⟨bo,HO⟩:∃b,Hid (bE8 x W=b):=⟨_,rfl⟩;rw[HO.out]at hV;clear ha hL hx hg hK hxw hxn;go_wp2_with fail;refine cM8 hV ?_;rintro y w1 ⟨rfl,hb1⟩;have bel1:Below w.heap.size w w1:=hb.trans (hb1.mono hzb);clear hV hb1 c0 c1 c2 c3 c4 c5 c6;cases bo with
   |false=>
    have HF:Hid (es.all (bE8 · W)=false):=by show _=_;rw[HE.out,HS.out,HO.out,Bool.false_and]
    go_wp2;go_returns;exact⟨by rw[HF.out];rfl,bel1⟩
   |true=>
    have HF:Hid (es.all (bE8 · W)=(es.drop (k+1)).all (bE8 · W)):=by show _=_;rw[HE.out,HS.out,HO.out,Bool.true_and]
    go_wp2_with fail;exact⟨⟨k+1,hlt,by simp,HF.out,bel1⟩,by simp[intOf];omega⟩
  ·obtain rfl:k=es.length:=by omega
   have HF:Hid (es.all (bE8 · W)=true):=by show _=_;rw[HE.out,List.drop_length];rfl
   clear ha;go_wp2;go_returns;exact⟨by rw[HF.out];rfl,hb⟩
theorem l04None_any (e:E7)(a:Option Addr)(c:Nat)(w:World)(hs:e.v.s.size≤maxLen)(hc:e.ks.length≤maxLen):Calls Tryz.prog 108 #[(.agg #[.int .i64 e.k,.int .i64 e.n,.int .i64 e.v.k,.int .i64 e.v.n,.string e.v.s,.string e.p,(.slice a e.ks.length c)])] w fun x w'=>x=.returned (.bool (noneE e))∧Below w.heap.size w w':=by
 have hq:=eqV;unfold noneE;unfold maxLen at hc;generalize e.ks.length=m at*;generalize e.k=k at*;generalize e.n=n at*;generalize e.v=v at*;generalize e.p=p at*;obtain⟨vk,vn,vs⟩:=v;dsimp only at*;go_enter Tryz.func108,Tryz.ntmps108;go_wp2;all_goals(go_returns;exact⟨rB8 (by clear hq;simp_all [zeroV,mb0]),bex⟩)
theorem l04Kids_any (k:Int)(w:World):Calls Tryz.prog 109 #[.int .i64 k] w fun e w'=>e=.returned (.int .i64 (kidsK k))∧Below w.heap.size w w':=by
 by_cases h:0≤k∧k≤6
 ·have h:k=0∨k=1∨k=2∨k=3∨k=4∨k=5∨k=6:=by omega
  rcases h with rfl|rfl|rfl|rfl|rfl|rfl|rfl<;>(
   go_enter Tryz.func109,Tryz.ntmps109;go_wp2;go_returns;exact⟨rfl,bex⟩)
 ·have hI:=fun w2=>l01In_is k 0 6 w2;have e:(decide (0≤k) &&decide (k≤6))=false:=by
   rw[Bool.and_eq_false_iff];by_cases h:0≤k
   ·exact .inr (by rw[decide_eq_false_iff_not];omega)
   ·exact .inl (by rw[decide_eq_false_iff_not];exact h)
  rw[e]at hI;have HF:Hid (kidsK k= -1):=by
   show _=_;unfold kidsK;rw[if_neg (by omega),if_neg (by omega),if_neg (by omega),if_neg (by omega),if_neg (by omega),if_neg (by omega),if_neg (by omega)]
  clear h e;go_enter Tryz.func109,Tryz.ntmps109;go_wp2_with fail;refine cM8 (hI _) ?_;rintro x w1 ⟨rfl,hb1⟩;go_wp2_with fail;go_returns;exact⟨by rw[HF.out];rfl,hb1⟩
end
end
end Go.Proofs.YtjhhmnjpojnoiaaGreatDoor
