/- Own text. The contract of impl.ViewsOk, of its function value, and of slices.ContainsFunc with it. -/
import Derived.Test.YtjhhmnjpojnoiaaGreatDoorGLWithViews18
import Derived.Test.YtjhhmnjpojnoiaaGreatDoorGLWithViews1
import Derived.Test.YtjhhmnjpojnoiaaGreatDoorGLWithViews7
import Derived.Test.YtjhhmnjpojnoiaaGreatDoorGLWithViews21
import Derived.Test.YtjhhmnjpojnoiaaGreatDoorGLWithViews10
import Derived.Test.YtjhhmnjpojnoiaaGreatDoorGLWithViews16
import Derived.Handy
import Derived.Deep.RegionHeld3
set_option maxHeartbeats 16000000
set_option maxRecDepth 100000
set_option linter.unusedVariables false
set_option linter.unusedSimpArgs false
namespace Go.Proofs.YtjhhmnjpojnoiaaGreatDoor
section
section
open Go.RowKit
theorem viewFn_any (s:ByteArray)(nb:Nat)(u:Value)(x:R3)(w:World)(hv:w.cell? ⟨nb,0,none⟩=some (.string s))(hnb:nb<w.heap.size)(hR:RowsIs w u x.cs):Calls Tryz.prog 48 #[.agg #[.string x.s,.int .i64 x.W,u],.pointer (some ⟨nb,0,none⟩)] w fun e w'=>e=.returned (.bool (x.s.toList==s.toList))∧Below w.heap.size w w':=by
 obtain⟨a,l,c,rfl⟩:=hR.shape;go_enter Tryz.func48,Tryz.ntmps48;go_wp2;go_returns;exact⟨rfl,bex⟩
theorem indexVw_any (s:ByteArray)(nb:Nat)(v:Value)(rs:List R3)(w:World)(hv:w.cell? ⟨nb,0,none⟩=some (.string s))(hnb:nb<w.heap.size)(hr:RelsIs w v rs):Calls Tryz.prog 73 #[v,.func (.func 48) #[] #[.pointer (some ⟨nb,0,none⟩)]] w fun e w'=>(∃z:Int,e=.returned (.int .i64 z)∧IdxOfT rs s z)∧Below w.heap.size w w':=by
 obtain⟨a,c,b,o,rfl,hl,hc,ha⟩:=hr.pick;unfold maxLen at hc;clear hr;go_enter Tryz.func73,Tryz.ntmps73;go_wp2;go_loopw [8] (fun i wr=> ∃k:Nat,k≤rs.length∧i=.int .i64 k∧Below w.heap.size w wr∧relOf rs s=relOf (rs.drop k) s) (fun i _=>rs.length - (intOf i).toNat)
 case atStart=>exact⟨0,Nat.zero_le _,rfl,bex,by simp⟩
 case round=>
  obtain⟨k,hk,rfl,hb,heq⟩:=hrel;have HE:Hid (relOf rs s=relOf (rs.drop k) s):=heq;have hzb:=hb.size;have hvr:=((bc8 hb).1 _ _ hnb).trans hv;clear heq;by_cases hlt:k<rs.length
  ·obtain⟨rfl,hblt,hLr⟩:=ha k hlt;obtain⟨x,u,hx,c0,c1,c2,hR,hbr⟩:=hLr.at hblt hb hlt;have HX:Hid (rs[k]?=some x):=hx;have HS:Hid (relOf (rs.drop k) s=if(x.s.toList==s.toList)=true then some x else relOf (rs.drop (k+1)) s):=relOf_step hx;have hcall:=viewFn_any s nb u x wr hvr (by omega) hR;obtain⟨au,cu,bu,ou,rfl,_,_,_⟩:=hR.pick;clear ha hLr hx hR hvr;cases hh:(x.s.toList==s.toList)with
   |true=>
    rw[hh]at hcall;have HH:Hid ((x.s.toList==s.toList)=true):=hh;clear hh;go_wp2_with fail;refine cM8 hcall ?_;rintro q w2 ⟨rfl,hb2⟩;have belE:Below w.heap.size w w2:=hb.trans (hb2.mono hzb);clear hcall;go_wp2_with fail;go_returns;exact⟨⟨k,rfl,.inr ⟨k,x,rfl,HX.out,by rw[HE.out,HS.out,HH.out];rfl⟩⟩,belE⟩
   |false=>
    rw[hh]at hcall;have HH:Hid ((x.s.toList==s.toList)=false):=hh;clear hh;go_wp2_with fail;refine cM8 hcall ?_;rintro q w2 ⟨rfl,hb2⟩;have belE:Below w.heap.size w w2:=hb.trans (hb2.mono hzb);clear hcall;go_wp2_with fail;exact⟨⟨k+1,hlt,by simp,belE,by rw[HE.out,HS.out,HH.out];rfl⟩,by simp[intOf];omega⟩
  ·obtain rfl:k=rs.length:=by omega
   have HT:Hid (relOf rs s=none):=by show _=_;rw[HE.out,List.drop_length];rfl
   clear ha;go_wp2;go_returns;exact⟨⟨-1,rfl,.inl ⟨by omega,HT.out⟩⟩,hb⟩
theorem containsVw_any (s:ByteArray)(nb:Nat)(v:Value)(rs:List R3)(w:World)(hv:w.cell? ⟨nb,0,none⟩=some (.string s))(hnb:nb<w.heap.size)(hr:RelsIs w v rs):Calls Tryz.prog 47 #[v,.func (.func 48) #[] #[.pointer (some ⟨nb,0,none⟩)]] w fun e w'=>e=.returned (.bool (relOf rs s).isSome)∧Below w.heap.size w w':=by
 have hI:=fun(w2:World) (hb:Below w.heap.size w w2)=>indexVw_any s nb v rs w2 (((bc8 hb).1 _ _ hnb).trans hv) (Nat.lt_of_lt_of_le hnb hb.size) (hr.below hb);obtain⟨a,c,b,o,rfl,_,_,_⟩:=hr.pick;clear hr;go_enter Tryz.func47,Tryz.ntmps47;go_wp2_with fail;refine cM8 (hI _ bex) ?_;rintro q w2 ⟨⟨z,rfl,hz⟩,hb2⟩;have bel2:Below w.heap.size w w2:=bex;clear hI hb2;rcases hz with⟨hz,hn⟩|⟨k,x,rfl,_,hx⟩
 ·go_wp2_with fail;go_returns;refine⟨rB8 ?_,bel2⟩;rw[hn];simp;omega
 ·go_wp2_with fail;go_returns;refine⟨rB8 ?_,bel2⟩;rw[hx];simp
theorem implViews_any (rs:List R3)(vd:Value)(Fd:List Nat)(vs:List V15)(D d N:Nat)(v:Value)(G:List (List Nat))(w:World)(hrw:RsWf rs)(hR:RelsF w vd rs Fd)(hv:ViewsIs w D d v vs G)(hO:∀g∈G,Own w N g)(hn:wtV vs≤1048576)(hE:ErrT w):Calls Tryz.prog 23 #[vd,v] w fun x w'=>x=.returned (.bool (viewsP rs vs))∧Below w.heap.size w w':=by
 have hDb:=fun(w2:World) (hb:Below w.heap.size w w2)=>implDbOk_any vd rs w2 hrw (hR.is.below hb);obtain⟨ad,ld,cd,rfl⟩:=hR.is.shape;obtain⟨a,c,b,o,rfl,hl,hc,hG,ha⟩:=hv.pick;unfold maxLen at hc;have HP:Hid (viewsP rs vs=(okDb rs &&decide (vs.length≤10) &&okVs rs none vs)):=rfl;have HDB:Hid (okDb rs=true→okDb rs=true):=id;obtain⟨bo,HBO⟩:∃q,Hid (okDb rs=q):=⟨_,rfl⟩;rw[HBO.out]at hDb;cases bo with
 |false=>
  clear ha hv hO;go_enter Tryz.func23,Tryz.ntmps23;go_wp2_with(first|(go_at_call 44;refine cM8 (hDb _ bex) ?_;rintro z w1 ⟨rfl,hb1⟩)|fail);go_returns;refine⟨rB8 ?_,bex⟩;rw[HP.out,HBO.out];rfl
 |true=>
  by_cases h10:(vs.length:Int)>10
  ·clear ha hv hO;go_enter Tryz.func23,Tryz.ntmps23;go_wp2_with(first|(go_at_call 44;refine cM8 (hDb _ bex) ?_;rintro z w1 ⟨rfl,hb1⟩)|fail);go_returns;refine⟨rB8 ?_,bex⟩;rw[HP.out,decide_eq_false (by omega)];simp
  have HB:Hid (viewsP rs vs=okVs rs none vs):=by show _=_;rw[HP.out,HBO.out,decide_eq_true (by omega)];rfl
  have hdb:=HBO.out;clear hv;go_enter Tryz.func23,Tryz.ntmps23;go_wp2_with(first|(go_at_call 44;refine cM8 (hDb _ bex) ?_;rintro z w1 ⟨rfl,hb1⟩)|fail);have hb1z:=hb1.size;have belA:Below w.heap.size w w1:=bex;clear hb1 hDb;go_loopw [17] (fun i wr=> ∃ (k:Nat) (q:Int),k≤vs.length∧q=k∧i=.int .i64 q∧Below w.heap.size w wr∧okVs rs none vs=okVs rs (prevV vs k) (vs.drop k)) (fun i _=>vs.length - (intOf i).toNat)
  case atStart=>exact⟨0,0,Nat.zero_le _,rfl,rfl,belA,by simp[prevV]⟩
  case round=>
   obtain⟨k,q,hk,hq,rfl,hb,heq⟩:=hrel;have HE:Hid (okVs rs none vs=okVs rs (prevV vs k) (vs.drop k)):=heq;have hzb:=hb.size;clear heq;by_cases hlt:k<vs.length
   ·obtain⟨rfl,hblt,hL⟩:=ha k hlt;obtain⟨x,g,ue,us,u,t,hx,hg,hxw,hcl,hLx,hRx,_⟩:=hL.at hG hblt (Below.refl _ _) hlt;have HS:Hid (okVs rs (prevV vs k) (vs.drop k)=(okVw rs (prevV vs k) x &&okVs rs (prevV vs (k+1)) (vs.drop (k+1)))):=okVs_step hx;have hxn:wtP x.p≤1048576:=by have:=wtv_mem (mg8 hx);unfold wtV at hn;unfold wtv at this;omega
    have hOg:=hO g (mg8 hg);have hWd:=fun(X:World) (hX:Below w.heap.size w X)=>implWidth_any rs x.p ue us u g D d N (.slice ad ld cd) Fd w X hX hdb hxw.2.1 hLx hOg hxn hR hE;have hNm:=fun(X:World)=>implName_any x.s X hxw.1;have hCt:=fun(nb:Nat) (X:World) (hX:Below w.heap.size w X) (hv:X.cell? ⟨nb,0,none⟩=some (.string x.s))=>containsVw_any x.s nb (.slice ad ld cd) rs X hv (bl8 _ _ hv) (hR.is.below hX);obtain⟨nm,HNM⟩:∃q,Hid (nameB x.s=q):=⟨_,rfl⟩;obtain⟨tk,HTK⟩:∃q,Hid ((relOf rs x.s).isSome=q):=⟨_,rfl⟩;obtain⟨wd,HWD⟩:∃q,Hid (wP8 rs 9 x.p=q):=⟨_,rfl⟩;have HNO:Hid ((relOf rs x.s).isNone=!tk):=by show _=_;rw[←HTK.out];cases relOf rs x.s<;>rfl
    rw[HNM.out]at hNm;rw[HTK.out]at hCt;rw[HWD.out]at hWd;obtain⟨ae,ce,ak,ck,aq,cq,rfl,rfl,rfl,_,_,_,_,_,_⟩:=hLx.shape;obtain⟨ar,lr,cr,rfl⟩:=hRx.shape;obtain⟨c0,c1,c2,c3,c4,c5,c6,c7,c8,c9,c10,c11,c12,c13,c14⟩:=hcl.keep (hb.block b hblt);have hbr:b<wr.heap.size:=by omega
    have hkI:(k:Int)<vs.length:=by omega
    clear hx hLx hRx hg hxw hOg hcl;cases nm with
    |false=>
     clear ha hL hWd hCt;subst hq;go_wp2_with(first|(go_at_call 45;refine cM8 (hNm _) ?_;rintro e w2 ⟨rfl,rfl⟩)|fail);go_returns;refine⟨rB8 ?_,bex⟩;rw[HB.out,HE.out,HS.out];unfold okVw;rw[HNM.out];simp
    |true=>
     by_cases hw0:wd<0
     ·have HF:Hid (decide (0≤wP8 rs 9 x.p)=false):=by show _=_;rw[HWD.out];exact decide_eq_false (by omega)
      clear ha hL hCt;subst hq;go_wp2_with(first|(go_at_call 45;refine cM8 (hNm _) ?_;rintro e w2 ⟨rfl,rfl⟩)|(go_at_call 46;refine cM8 (hWd _ bex) ?_;rintro e w3 ⟨⟨z,rfl,_,hz⟩,hb3⟩;obtain rfl:=hz hw0;have hz3:=hb3.size;(try simp at hz3))|fail);go_returns;refine⟨rB8 ?_,bex⟩;rw[HB.out,HE.out,HS.out];unfold okVw;rw[HF.out];simp
     have HF:Hid (decide (0≤wP8 rs 9 x.p)=true):=by show _=_;rw[HWD.out];exact decide_eq_true (by omega)
     rcases Nat.eq_zero_or_pos k with hk0|hk0
     ·subst hk0;obtain rfl:q=0:=by simpa using hq
      rw[Nat.zero_mul,Nat.add_zero]at c0 c1 c2 c3 c4 c5 c6 c7 c8 c9 c10 c11 c12 c13 c14;clear ha hL hq;go_wp2_with(first|(go_at_call 45;refine cM8 (hNm _) ?_;rintro e w2 ⟨rfl,rfl⟩)|(go_at_call 46;refine cM8 (hWd _ bex) ?_;rintro e w3 ⟨⟨z,rfl,hz,_⟩,hb3⟩;obtain rfl:=hz (by omega);have hz3:=hb3.size;(try simp at hz3);have n3:w3.cell? ⟨wr.heap.size,0,none⟩=some (.string x.s):=cL8 hb3 (by go_simp);have bel3:Below w.heap.size w w3:=bex)|fail)
      go_region
      have bel4:Below w.heap.size w w3.drew:=Below.drew bel3;have n4:w3.drew.cell? ⟨wr.heap.size,0,none⟩=some (.string x.s):=by first|exact n3|(simpa using n3)
      have hCx:=hCt _ _ bel4 n4;clear hCt hWd hNm;cases tk with
      |true=>
       go_wp2_with fail;refine cM8 hCx ?_;rintro e w4 ⟨rfl,hb4⟩;go_wp2_with fail;go_returns;refine⟨rB8 ?_,bel4.trans (hb4.mono bel4.size)⟩;rw[HB.out,HE.out,HS.out];unfold okVw;rw[HNO.out];simp
      |false=>
       go_wp2_with fail;refine cM8 hCx ?_;rintro e w4 ⟨rfl,hb4⟩;go_wp2_with fail;refine⟨⟨1,1,hlt,rfl,by simp,bel4.trans (hb4.mono bel4.size),?_⟩,by simp[intOf];omega⟩;rw[HE.out,HS.out];unfold okVw;rw[HNM.out,HNO.out,HF.out,prevV_zero];simp[okPrevV]
     ·obtain⟨j,rfl⟩:∃j,k=j+1:=⟨k -1,by omega⟩;obtain rfl:q=(j:Int)+1:=by omega
      obtain⟨y,_,_,_,_,_,hy,_,_,hd,_,_,_⟩:=hL.at hG hblt hb (show j<vs.length by omega);have d0:=hd.1;have HPV:Hid (prevV vs (j+1)=some y):=prevV_succ hy;have HQ:Hid (okPrevV (prevV vs (j+1)) x=Op.bytesLess y.s.toList x.s.toList):=by rw[HPV.out];rfl
      clear ha hL hy hq hd;go_wp2_with(first|(go_at_call 45;refine cM8 (hNm _) ?_;rintro e w2 ⟨rfl,rfl⟩)|(go_at_call 46;refine cM8 (hWd _ bex) ?_;rintro e w3 ⟨⟨z,rfl,hz,_⟩,hb3⟩;obtain rfl:=hz (by omega);have hz3:=hb3.size;(try simp at hz3);have n3:w3.cell? ⟨wr.heap.size,0,none⟩=some (.string x.s):=cL8 hb3 (by go_simp);have d3:w3.cell? ⟨b,o+j*15,none⟩=some (.string y.s):=cL8 hb3 (by go_simp);have bel3:Below w.heap.size w w3:=bex)|fail);have hw1:IntKind.i64.wrap (j:Int)=j:=by rw[IntKind.wrap_i64];omega
      have hw2:IntKind.i64.wrap ((j:Int)+1 -1)=j:=by rw[IntKind.wrap_i64];omega
      have hi0:(0:Int)≤j:=by omega
      have hi1:(j:Int)<vs.length:=by omega
      have hi2:(0:Int)<(j:Int)+1:=by omega
      clear c0 c1 c2 c3 c4 c5 c6 c7 c8 c9 c10 c11 c12 c13 c14 d0 hb3;go_region_held3 (fun w'=>w'.cell? ⟨wr.heap.size,0,none⟩=some (.string x.s)∧w'.cell? ⟨b,o+j*15,none⟩=some (.string y.s)) (refine⟨?_,?_⟩<;>first|(with_reducible assumption)|(go_simp;done)|(exact cL8 (by assumption) (by go_simp))) (fail)
      rename_i hHeld
      obtain⟨n4,_⟩:=hHeld;have bel4:Below w.heap.size w w3.drew:=Below.drew bel3;have hCx:=hCt _ _ bel4 n4;clear hCt hWd hNm;go_wp2_with fail
      ·have hcf:Op.bytesLess y.s.toList x.s.toList=false:=by
        have h9:(!Op.bytesLess y.s.toList x.s.toList)=true:=by assumption
        simpa using h9
       go_returns;refine⟨rB8 ?_,bel4⟩;rw[HB.out,HE.out,HS.out];unfold okVw;rw[HQ.out,hcf];simp
      ·have hcmp:Op.bytesLess y.s.toList x.s.toList=true:=by
        have h9:(!Op.bytesLess y.s.toList x.s.toList)=false:=by assumption
        simpa using h9
       cases tk with
       |true=>
        try go_wp2_with fail
        refine cM8 hCx ?_;rintro e w4 ⟨rfl,hb4⟩;go_wp2_with fail;go_returns;refine⟨rB8 ?_,bel4.trans (hb4.mono bel4.size)⟩;rw[HB.out,HE.out,HS.out];unfold okVw;rw[HNO.out];simp
       |false=>
        try go_wp2_with fail
        refine cM8 hCx ?_;rintro e w4 ⟨rfl,hb4⟩;go_wp2_with fail;refine⟨⟨j+1+1,(j:Int)+1+1,hlt,by omega,by simp,bel4.trans (hb4.mono bel4.size),?_⟩,by simp[intOf];omega⟩;rw[HE.out,HS.out];unfold okVw;rw[HNM.out,HNO.out,HF.out,HQ.out,hcmp];simp
   ·clear ha;go_wp2;go_returns;refine⟨rB8 ?_,hb⟩;rw[HB.out,HE.out,List.drop_eq_nil_of_le (by omega)];rfl
end
end
end Go.Proofs.YtjhhmnjpojnoiaaGreatDoor
