/- Own text. Whether a bag is right: the contract of spec.BagOk. -/
import Derived.Test.YteekfcdllaceoaaGreatDoorGLAnswer1
import Derived.Test.YteekfcdllaceoaaGreatDoorGLAnswer2
import Derived.Handy
import Derived.Deep.RegionHeld3
set_option maxHeartbeats 16000000
set_option maxRecDepth 100000
set_option linter.unusedVariables false
set_option linter.unusedSimpArgs false
namespace Go.Proofs.YteekfcdllaceoaaGreatDoor
section
open Go.RowKit
theorem B9p {n:Int}(h:n=0):okN n=false:=by simp[okN,h]
theorem B4c {n:Int}(h:¬ (decide (-1000000000<=n) &&decide (n<=1000000000))=true):okN n=false:=by
 unfold okN;rw[Bool.and_assoc,show(decide (-1000000000<=n) &&decide (n<=1000000000))=false from by simpa using h,Bool.and_false]
theorem C08 {n:Int}(h0:¬n=0)(h:(decide (-1000000000<=n) &&decide (n<=1000000000))=true):okN n=true:=by
 unfold okN;rw[Bool.and_assoc,h];simp[h0]
theorem B0X (W:Int)(v:Value)(cs:List C2)(w:World)(hw:X7 cs)(hr:J7 w v cs):Calls Tryz.prog 48 #[.agg #[.int .i64 W,v]] w fun e w'=>e=.returned (.bool (J2 W cs))/\Below w.heap.size w w':=by
 obtain⟨a,c,b,o,rfl,hl,hc,ha⟩:=hr.pick;unfold maxLen at hc;clear hr;go_enter Tryz.func48,Tryz.ntmps48;go_wp2;go_loopw [3] (fun i wr=> ∃ (k:Nat) (q:Int),k<=cs.length/\q=k/\i=.int .i64 q/\Below w.heap.size w wr/\w.heap.size<wr.heap.size/\wr.cell? ⟨w.heap.size,0,none⟩=some (.int .i64 W)/\wr.cell? ⟨w.heap.size,1,none⟩=some (.slice a cs.length c)/\S6 W none cs=S6 W (P9 cs k) (cs.drop k)) (fun i _=>cs.length - (intOf i).toNat)
 case atStart=>exact⟨0,0,Nat.zero_le _,rfl,rfl,by go_grown,by simp,by go_simp,by go_simp,by simp[P9]⟩
 case round=>
  obtain⟨k,q,hk,hq,rfl,hb,hsz,p0,p1,heq⟩:=hrel;have HE:Hid (S6 W none cs=S6 W (P9 cs k) (cs.drop k)):=heq;have hzb:=hb.size;clear heq;by_cases hlt:k<cs.length
  ·obtain⟨rfl,hblt,hL⟩:=ha k hlt;obtain⟨x,u,hx,c0,hR,c1,hbr⟩:=hL.at hblt hb hlt;obtain⟨ur,lr,cr,rfl⟩:=hR.shape;have hxw:j2 x.r:=(hw x (mg8 hx)).1;have HS:Hid (S6 W (P9 cs k) (cs.drop k)=(T8 x.r W &&okN x.n &&A08 (P9 cs k) x &&S6 W (P9 cs (k+1)) (cs.drop (k+1)))):=A95 hx;by_cases hok:T8 x.r W=true;rotate_left
   ·have hf:T8 x.r W=false:=by simpa using hok
    subst hq;clear ha hw hL hx;go_wp2_with fail;refine wp_region_held_drew (S:=(fun w'=>w'.cell? ⟨w.heap.size,0,none⟩=some (.int .i64 W)/\w'.cell? ⟨w.heap.size,1,none⟩=some (.slice (some ⟨b,o,none⟩) cs.length c)/\w'.cell? ⟨wr.heap.size,0,none⟩=some (.slice ur lr cr)/\w'.cell? ⟨wr.heap.size,1,none⟩=some (.int .i64 x.n))) (by kernel_rfl) ?_ (fun hHeld=>?_)
    ·refine⟨?_,?_,?_,?_⟩<;>first|(go_simp;done)|(exact cL8 (by assumption) (by go_simp))
    refine tlY 0 17 rfl rfl ?_;refine tlY 1 18 rfl rfl ?_;refine tlY 2 19 rfl rfl ?_;refine tlY 3 20 rfl rfl ?_;refine rdH 4 rfl fun K hK=>?_;go_simp;go_at_call 72;refine cM8 (A28 (.slice ur lr cr) x.r W _ (hR.below C3) hxw) ?_;rintro e w1 ⟨rfl,hb1⟩;have hz1:=hb1.size;(try simp at hz1);try go_wp2_with fail
    refine hK.out _ _ ?_ (fun L2=>?_)
    ·refine⟨?_,?_,?_,?_⟩<;>first|(go_simp;done)|(exact cL8 (by assumption) (by go_simp))
    clear hK;refine tlY 5 22 rfl rfl ?_;refine tlY 6 23 rfl rfl ?_;refine tlN 7 24 rfl rfl ?_;refine tlN 8 25 rfl rfl ?_;refine tlN 9 26 rfl rfl ?_;refine tlY 10 27 rfl rfl ?_;refine tlY 11 28 rfl rfl ?_;refine tlN 12 29 rfl rfl ?_;refine tlN 13 30 rfl rfl ?_;refine rdH 14 rfl fun K hK=>?_;go_simp;refine hK.out _ _ ?_ (fun hHeld14=>?_)
    ·refine⟨?_,?_,?_,?_⟩<;>first|(go_simp;done)|(exact cL8 (by assumption) (by go_simp))
    clear hK;refine tlN 15 32 rfl rfl ?_;refine tlY 16 33 rfl rfl ?_;refine tlY 17 34 rfl rfl ?_;refine tlN 18 35 rfl rfl ?_;refine tlN 19 36 rfl rfl ?_;refine tlN 20 37 rfl rfl ?_;refine tlN 21 38 rfl rfl ?_;refine tlN 22 39 rfl rfl ?_;refine tlN 23 40 rfl rfl ?_;refine tlN 24 41 rfl rfl ?_;refine tlN 25 42 rfl rfl ?_;refine tlN 26 43 rfl rfl ?_;refine tlN 27 44 rfl rfl ?_;refine tlN 28 45 rfl rfl ?_;refine tlN 29 46 rfl rfl ?_;refine rdH 30 rfl fun K hK=>?_;go_simp;refine hK.out _ _ ?_ (fun hHeld30=>?_)
    ·refine⟨?_,?_,?_,?_⟩<;>first|(go_simp;done)|(exact cL8 (by assumption) (by go_simp))
    clear hK;refine tlN 31 48 rfl rfl ?_;refine tlN 32 49 rfl rfl ?_;refine tlY 33 50 rfl rfl ?_;refine wpAnyH_done (by kernel_rfl) ?_ _;go_wp2;go_returns;refine⟨rB8 ?_,C3⟩;unfold J2;rw[HE.out,HS.out,hf];simp
   by_cases hn0:x.n=0
   ·have HN:Hid (okN x.n=false):=B9p hn0;have hn1:(x.n==0)=true:=by simpa using hn0
    subst hq;clear ha hw hL hx hn0;go_wp2_with fail;refine wp_region_held_drew (S:=(fun w'=>w'.cell? ⟨w.heap.size,0,none⟩=some (.int .i64 W)/\w'.cell? ⟨w.heap.size,1,none⟩=some (.slice (some ⟨b,o,none⟩) cs.length c)/\w'.cell? ⟨wr.heap.size,0,none⟩=some (.slice ur lr cr)/\w'.cell? ⟨wr.heap.size,1,none⟩=some (.int .i64 x.n))) (by kernel_rfl) ?_ (fun hHeld=>?_)
    ·refine⟨?_,?_,?_,?_⟩<;>first|(go_simp;done)|(exact cL8 (by assumption) (by go_simp))
    refine tlY 0 17 rfl rfl ?_;refine tlY 1 18 rfl rfl ?_;refine tlY 2 19 rfl rfl ?_;refine tlY 3 20 rfl rfl ?_;refine rdH 4 rfl fun K hK=>?_;go_simp;go_at_call 72;refine cM8 (A28 (.slice ur lr cr) x.r W _ (hR.below C3) hxw) ?_;rintro e w1 ⟨rfl,hb1⟩;have hz1:=hb1.size;(try simp at hz1);try go_wp2_with fail
    refine hK.out _ _ ?_ (fun L2=>?_)
    ·refine⟨?_,?_,?_,?_⟩<;>first|(go_simp;done)|(exact cL8 (by assumption) (by go_simp))
    clear hK;refine tlY 5 22 rfl rfl ?_;refine tlY 6 23 rfl rfl ?_;refine tlY 7 24 rfl rfl ?_;refine tlY 8 25 rfl rfl ?_;refine tlY 9 26 rfl rfl ?_;refine tlY 10 27 rfl rfl ?_;refine tlY 11 28 rfl rfl ?_;refine tlN 12 29 rfl rfl ?_;refine tlN 13 30 rfl rfl ?_;refine rdH 14 rfl fun K hK=>?_;go_simp;refine hK.out _ _ ?_ (fun hHeld14=>?_)
    ·refine⟨?_,?_,?_,?_⟩<;>first|(go_simp;done)|(exact cL8 (by assumption) (by go_simp))
    clear hK;refine tlN 15 32 rfl rfl ?_;refine tlY 16 33 rfl rfl ?_;refine tlY 17 34 rfl rfl ?_;refine tlN 18 35 rfl rfl ?_;refine tlN 19 36 rfl rfl ?_;refine tlN 20 37 rfl rfl ?_;refine tlN 21 38 rfl rfl ?_;refine tlN 22 39 rfl rfl ?_;refine tlN 23 40 rfl rfl ?_;refine tlN 24 41 rfl rfl ?_;refine tlN 25 42 rfl rfl ?_;refine tlN 26 43 rfl rfl ?_;refine tlN 27 44 rfl rfl ?_;refine tlN 28 45 rfl rfl ?_;refine tlN 29 46 rfl rfl ?_;refine rdH 30 rfl fun K hK=>?_;go_simp;refine hK.out _ _ ?_ (fun hHeld30=>?_)
    ·refine⟨?_,?_,?_,?_⟩<;>first|(go_simp;done)|(exact cL8 (by assumption) (by go_simp))
    clear hK;refine tlN 31 48 rfl rfl ?_;refine tlN 32 49 rfl rfl ?_;refine tlY 33 50 rfl rfl ?_;refine wpAnyH_done (by kernel_rfl) ?_ _;go_wp2;go_returns;refine⟨rB8 ?_,C3⟩;unfold J2;rw[HE.out,HS.out,HN.out];simp
   have hn1:(x.n==0)=false:=by simpa using hn0
   by_cases hcn:(decide (-1000000000<=x.n) &&decide (x.n<=1000000000))=true;rotate_left
   ·have HN:Hid (okN x.n=false):=B4c hcn;have hcf:(decide (-1000000000<=x.n) &&decide (x.n<=1000000000))=false:=by simpa using hcn
    subst hq;clear ha hw hL hx hn0 hcn;go_wp2_with fail;refine wp_region_held_drew (S:=(fun w'=>w'.cell? ⟨w.heap.size,0,none⟩=some (.int .i64 W)/\w'.cell? ⟨w.heap.size,1,none⟩=some (.slice (some ⟨b,o,none⟩) cs.length c)/\w'.cell? ⟨wr.heap.size,0,none⟩=some (.slice ur lr cr)/\w'.cell? ⟨wr.heap.size,1,none⟩=some (.int .i64 x.n))) (by kernel_rfl) ?_ (fun hHeld=>?_)
    ·refine⟨?_,?_,?_,?_⟩<;>first|(go_simp;done)|(exact cL8 (by assumption) (by go_simp))
    refine tlY 0 17 rfl rfl ?_;refine tlY 1 18 rfl rfl ?_;refine tlY 2 19 rfl rfl ?_;refine tlY 3 20 rfl rfl ?_;refine rdH 4 rfl fun K hK=>?_;go_simp;go_at_call 72;refine cM8 (A28 (.slice ur lr cr) x.r W _ (hR.below C3) hxw) ?_;rintro e w1 ⟨rfl,hb1⟩;have hz1:=hb1.size;(try simp at hz1);try go_wp2_with fail
    refine hK.out _ _ ?_ (fun L2=>?_)
    ·refine⟨?_,?_,?_,?_⟩<;>first|(go_simp;done)|(exact cL8 (by assumption) (by go_simp))
    clear hK;refine tlY 5 22 rfl rfl ?_;refine tlY 6 23 rfl rfl ?_;refine tlY 7 24 rfl rfl ?_;refine tlY 8 25 rfl rfl ?_;refine tlY 9 26 rfl rfl ?_;refine tlY 10 27 rfl rfl ?_;refine tlY 11 28 rfl rfl ?_;refine tlY 12 29 rfl rfl ?_;refine tlY 13 30 rfl rfl ?_;refine rdH 14 rfl fun K hK=>?_;go_simp;go_at_call 71;refine cM8 (A37 x.n (-1000000000) 1000000000 _) ?_;rintro e w2 ⟨rfl,hb2⟩;have hz2:=hb2.size;(try simp at hz2);try go_wp2_with fail
    refine hK.out _ _ ?_ (fun hHeld14=>?_)
    ·refine⟨?_,?_,?_,?_⟩<;>first|(go_simp;done)|(exact cL8 (by assumption) (by go_simp))
    clear hK;refine tlY 15 32 rfl rfl ?_;refine tlY 16 33 rfl rfl ?_;refine tlY 17 34 rfl rfl ?_;refine tlN 18 35 rfl rfl ?_;refine tlN 19 36 rfl rfl ?_;refine tlN 20 37 rfl rfl ?_;refine tlN 21 38 rfl rfl ?_;refine tlN 22 39 rfl rfl ?_;refine tlN 23 40 rfl rfl ?_;refine tlN 24 41 rfl rfl ?_;refine tlN 25 42 rfl rfl ?_;refine tlN 26 43 rfl rfl ?_;refine tlN 27 44 rfl rfl ?_;refine tlN 28 45 rfl rfl ?_;refine tlN 29 46 rfl rfl ?_;refine rdH 30 rfl fun K hK=>?_;go_simp;refine hK.out _ _ ?_ (fun hHeld30=>?_)
    ·refine⟨?_,?_,?_,?_⟩<;>first|(go_simp;done)|(exact cL8 (by assumption) (by go_simp))
    clear hK;refine tlN 31 48 rfl rfl ?_;refine tlN 32 49 rfl rfl ?_;refine tlY 33 50 rfl rfl ?_;refine wpAnyH_done (by kernel_rfl) ?_ _;go_wp2;go_returns;refine⟨rB8 ?_,C3⟩;unfold J2;rw[HE.out,HS.out,HN.out];simp
   have HN:Hid (okN x.n=true):=C08 hn0 hcn;clear hn0;rcases Nat.eq_zero_or_pos k with hk0|hk0
   ·subst hk0;obtain rfl:q=0:=by simpa using hq
    rw[Nat.zero_mul,Nat.add_zero]at c0;rw[Nat.zero_mul,Nat.add_zero]at c1;clear ha hw hL hx hq;go_wp2_with fail;refine wp_region_held_drew (S:=(fun w'=>w'.cell? ⟨w.heap.size,0,none⟩=some (.int .i64 W)/\w'.cell? ⟨w.heap.size,1,none⟩=some (.slice (some ⟨b,o,none⟩) cs.length c)/\w'.cell? ⟨wr.heap.size,0,none⟩=some (.slice ur lr cr)/\w'.cell? ⟨wr.heap.size,1,none⟩=some (.int .i64 x.n))) (by kernel_rfl) ?_ (fun hHeld=>?_)
    ·refine⟨?_,?_,?_,?_⟩<;>first|(go_simp;done)|(exact cL8 (by assumption) (by go_simp))
    refine tlY 0 17 rfl rfl ?_;refine tlY 1 18 rfl rfl ?_;refine tlY 2 19 rfl rfl ?_;refine tlY 3 20 rfl rfl ?_;refine rdH 4 rfl fun K hK=>?_;go_simp;go_at_call 72;refine cM8 (A28 (.slice ur lr cr) x.r W _ (hR.below C3) hxw) ?_;rintro e w1 ⟨rfl,hb1⟩;have hz1:=hb1.size;(try simp at hz1);try go_wp2_with fail
    refine hK.out _ _ ?_ (fun L2=>?_)
    ·refine⟨?_,?_,?_,?_⟩<;>first|(go_simp;done)|(exact cL8 (by assumption) (by go_simp))
    clear hK;refine tlY 5 22 rfl rfl ?_;refine tlY 6 23 rfl rfl ?_;refine tlY 7 24 rfl rfl ?_;refine tlY 8 25 rfl rfl ?_;refine tlY 9 26 rfl rfl ?_;refine tlY 10 27 rfl rfl ?_;refine tlY 11 28 rfl rfl ?_;refine tlY 12 29 rfl rfl ?_;refine tlY 13 30 rfl rfl ?_;refine rdH 14 rfl fun K hK=>?_;go_simp;go_at_call 71;refine cM8 (A37 x.n (-1000000000) 1000000000 _) ?_;rintro e w2 ⟨rfl,hb2⟩;have hz2:=hb2.size;(try simp at hz2);try go_wp2_with fail
    refine hK.out _ _ ?_ (fun hHeld14=>?_)
    ·refine⟨?_,?_,?_,?_⟩<;>first|(go_simp;done)|(exact cL8 (by assumption) (by go_simp))
    clear hK;refine tlY 15 32 rfl rfl ?_;refine tlY 16 33 rfl rfl ?_;refine tlY 17 34 rfl rfl ?_;refine tlY 18 35 rfl rfl ?_;refine tlY 19 36 rfl rfl ?_;refine tlY 20 37 rfl rfl ?_;refine tlN 21 38 rfl rfl ?_;refine tlN 22 39 rfl rfl ?_;refine tlN 23 40 rfl rfl ?_;refine tlN 24 41 rfl rfl ?_;refine tlN 25 42 rfl rfl ?_;refine tlN 26 43 rfl rfl ?_;refine tlN 27 44 rfl rfl ?_;refine tlN 28 45 rfl rfl ?_;refine tlN 29 46 rfl rfl ?_;refine rdH 30 rfl fun K hK=>?_;go_simp;refine hK.out _ _ ?_ (fun hHeld30=>?_)
    ·refine⟨?_,?_,?_,?_⟩<;>first|(go_simp;done)|(exact cL8 (by assumption) (by go_simp))
    clear hK;refine tlN 31 48 rfl rfl ?_;refine tlY 32 49 rfl rfl ?_;refine tlY 33 50 rfl rfl ?_;refine wpAnyH_done (by kernel_rfl) ?_ _;obtain⟨r0,r1,_⟩:=hHeld30;go_wp2
    go_roundw
    case rel=>
     refine⟨1,1,hlt,rfl,by simp,C3,by(first|omega|(simp;omega)),r0,r1,?_⟩;rw[HE.out,HS.out,hok,HN.out,A9H];simp[A08]
    case measure=>simp[intOf];omega
   ·obtain⟨j,rfl⟩:∃j,k=j+1:=⟨k -1,by omega⟩;obtain rfl:q=(j:Int)+1:=by omega
    obtain⟨y,t,hy,d0,hT,d1,_⟩:=hL.at hblt hb (show j<cs.length by omega);have HP:Hid (P9 cs (j+1)=some y):=B13 hy;have HQ:Hid (A08 (P9 cs (j+1)) x=decide (cR8 y.r x.r<0)):=by rw[HP.out];rfl
    have hw1:IntKind.i64.wrap (j:Int)=j:=by rw[IntKind.wrap_i64];omega
    have hw2:IntKind.i64.wrap ((j:Int)+1 -1)=j:=by rw[IntKind.wrap_i64];omega
    have hi0:(0:Int)<=j:=by omega
    have hi1:(j:Int)<cs.length:=by omega
    have hi2:(0:Int)<(j:Int)+1:=by omega
    clear ha hw hL hx hy hq;go_wp2_with fail;go_region_held3 (fun w'=>w'.cell? ⟨w.heap.size,0,none⟩=some (.int .i64 W)/\w'.cell? ⟨w.heap.size,1,none⟩=some (.slice (some ⟨b,o,none⟩) cs.length c)/\w'.cell? ⟨wr.heap.size,0,none⟩=some (.slice ur lr cr)/\w'.cell? ⟨wr.heap.size,1,none⟩=some (.int .i64 x.n)/\w'.cell? ⟨b,o+j*2,none⟩=some t) (refine⟨?_,?_,?_,?_,?_⟩<;>first|(go_simp;done)|(exact cL8 (by assumption) (by go_simp))) (first|(go_at_call 72;refine cM8 (A28 (.slice ur lr cr) x.r W _ (hR.below C3) hxw) ?_;rintro e w1 ⟨rfl,hb1⟩;have hz1:=hb1.size;(try simp at hz1))|(go_at_call 71;refine cM8 (A37 x.n (-1000000000) 1000000000 _) ?_;rintro e w2 ⟨rfl,hb2⟩;have hz2:=hb2.size;(try simp at hz2))|(go_at_call 73;refine cM8 (A0w t (.slice ur lr cr) y.r x.r _ (hT.below C3) (hR.below C3)) ?_;rintro e w3 ⟨rfl,hb3⟩;have hz3:=hb3.size;(try simp at hz3)))
    rename_i hHeld
    obtain⟨r0,r1,_⟩:=hHeld;by_cases hcmp:0<=cR8 y.r x.r
    ·go_wp2;go_returns;refine⟨rB8 ?_,C3⟩;unfold J2;rw[HE.out,HS.out,HQ.out];simp[show ¬cR8 y.r x.r<0 from by omega]
    ·go_wp2
     go_roundw
     case rel=>
      refine⟨j+1+1,(j:Int)+1+1,hlt,by omega,by simp,C3,by(first|omega|(simp;omega)),r0,r1,?_⟩;rw[HE.out,HS.out,HQ.out,hok,HN.out];simp[show cR8 y.r x.r<0 from by omega]
     case measure=>simp[intOf];omega
  ·have HN:Hid (S6 W none cs=true):=by rw[HE.out,List.drop_eq_nil_of_le (by omega)];exact rfl
   clear ha hw;by_cases h0:(decide (0<=W) &&decide (W<=12))=true
   ·go_wp2_with(first|(go_at_call 71;refine cM8 (A37 W 0 12 _) ?_;rintro e w1 ⟨rfl,hb1⟩;have hz1:=hb1.size;have r1:w1.cell? ⟨w.heap.size,1,none⟩=some (.slice a cs.length c):=cl8 hb1)|fail);all_goals go_returns
    all_goals refine⟨rB8 ?_,C3⟩
    all_goals(unfold J2;rw[HN.out,h0,Bool.and_true,Bool.true_and])
    all_goals first|rfl|(simp;try omega)
   ·go_wp2_with(first|(go_at_call 71;refine cM8 (A37 W 0 12 _) ?_;rintro e w1 ⟨rfl,hb1⟩;have hz1:=hb1.size;have r1:w1.cell? ⟨w.heap.size,1,none⟩=some (.slice a cs.length c):=cl8 hb1)|fail);all_goals go_returns
    all_goals refine⟨rB8 ?_,C3⟩
    all_goals(unfold J2;rw[show(decide (0<=W) &&decide (W<=12))=false from by simpa using h0,Bool.false_and,Bool.false_and])
    all_goals first|rfl|(simp_all;try omega)
end
end Go.Proofs.YteekfcdllaceoaaGreatDoor
