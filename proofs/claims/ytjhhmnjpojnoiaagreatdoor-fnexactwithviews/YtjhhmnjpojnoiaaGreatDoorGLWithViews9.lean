/- Own texts, joined: contracts that the law's proof goes by. -/
import Derived.Test.YtjhhmnjpojnoiaaGreatDoorGLWithViews8
import Derived.Test.YtjhhmnjpojnoiaaGreatDoorGLWithViews3
import Derived.Test.YtjhhmnjpojnoiaaGreatDoorGLWithViews1
import Derived.Test.YtjhhmnjpojnoiaaGreatDoorVOkImpl
import Derived.Handy
import Derived.Test.YtjhhmnjpojnoiaaGreatDoorGLWithViews2
import Derived.Deep.RegionHeld3
import Derived.Laws.Bits64b
import Derived.OwnWalk
import Derived.Lib.SmallJoins
import Derived.Lib.AppendStr
import Derived.Laws.BytesArg
import Derived.Laws.OwnMore
import Derived.Shelf.Strings.Builder1
import Derived.Test.YtjhhmnjpojnoiaaGreatDoorShelf
import Derived.Test.YtjhhmnjpojnoiaaGreatDoorGLWithViews6
import Derived.Test.YtjhhmnjpojnoiaaGreatDoorGLWithViews5
import Derived.Maps.RangeWalk
set_option maxHeartbeats 16000000
set_option maxRecDepth 100000
set_option linter.unusedVariables false
set_option linter.unusedSimpArgs false
namespace Go.Proofs.YtjhhmnjpojnoiaaGreatDoor
section
section
open Go.RowKit
theorem okB_of {b:Bool}{k n:Int}{s:ByteArray}(h:b=okB k n s):Ending.returned (.bool b)=.returned (.bool (okB k n s)):=by rw[h]
theorem specValueOk_any (k n:Int)(s:ByteArray)(w:World)(hs:s.size≤maxLen):Calls Tryz.prog 129 #[(.agg #[.int .i64 k,.int .i64 n,.string s])] w fun e w'=>e=.returned (.bool (okB k n s))∧Below w.heap.size w w':=by
 unfold maxLen at hs;go_enter Tryz.func129,Tryz.ntmps129;go_wp2;all_goals(go_returns;refine⟨okB_of ?_,?_⟩)
 all_goals first|(go_grown;done)|(simp_all [okB];done)|(simp_all [okB];omega)
end
section
open Go.RowKit
def okW (x:V3):Bool:=okB x.k x.n x.s
def okRow (vs:List V3)(W:Int):Bool:=decide ((vs.length:Int)=W) &&vs.all okW
theorem all_step {vs:List V3}{k:Nat}{x:V3}(h:vs[k]?=some x):(vs.drop k).all okW=(okW x && (vs.drop (k+1)).all okW):=by
 obtain⟨hk,rfl⟩:=gE1 h;rw[List.drop_eq_getElem_cons hk];rfl
theorem l02Row_any (v:Value)(vs:List V3)(W:Int)(w:World)(hr:RowIs w v vs)(hw:VsWf vs):Calls Tryz.prog 112 #[v,.int .i64 W] w fun e w'=>e=.returned (.bool (okRow vs W))∧Below w.heap.size w w':=by
 obtain⟨a,c,b,o,rfl,hl,hc,ha⟩:=hr.pick;unfold maxLen at hc;clear hr;go_enter Tryz.func112,Tryz.ntmps112;go_wp2;go_loopw [5] (fun i wr=> ∃k:Nat,k≤vs.length∧i=.int .i64 k∧Below w.heap.size w wr∧vs.all okW=(vs.drop k).all okW) (fun i _=>vs.length - (intOf i).toNat)
 case atStart=>exact⟨0,Nat.zero_le _,rfl,by go_grown,by simp⟩
 case round=>
  obtain⟨k,hk,rfl,hb,heq⟩:=hrel;have HE:Hid (vs.all okW=(vs.drop k).all okW):=heq;have hzb:=hb.size;clear heq;by_cases hlt:k<vs.length
  ·obtain⟨rfl,hblt,hL⟩:=ha k hlt;obtain⟨x,hx,c0,c1,c2,hbr⟩:=hL.at hblt hb hlt;have hxs:x.s.size≤maxLen:=(hw x (mg8 hx)).2.2;have HS:Hid ((vs.drop k).all okW=(okW x && (vs.drop (k+1)).all okW)):=all_step hx;clear ha hL hx hw;by_cases hok:okB x.k x.n x.s=true
   ·go_wp2_with(go_at_call 129;refine(specValueOk_any _ _ _ _ hxs).mono ?_;rintro e w1 ⟨rfl,hb1⟩)
    go_roundw
    case rel=>
     refine⟨k+1,hlt,by simp,bela,?_⟩;rw[HE.out,HS.out,show okW x=true from hok,Bool.true_and]
    case measure=>simp[intOf];omega
   ·go_wp2_with(go_at_call 129;refine(specValueOk_any _ _ _ _ hxs).mono ?_;rintro e w1 ⟨rfl,hb1⟩);go_returns;refine⟨rB8 ?_,bela⟩;have hf:okW x=false:=by unfold okW;simpa using hok
    unfold okRow;rw[HE.out,HS.out,hf];simp
  ·clear ha hw;go_wp2;go_returns;refine⟨rB8 ?_,hb⟩;unfold okRow;rw[HE.out,List.drop_eq_nil_of_le (by omega)];simp;try rfl
theorem rowOk_any (v:Value)(vs:List V3)(W:Int)(w:World)(hr:RowIs w v vs)(hw:VsWf vs):Calls Tryz.prog 115 #[v,.int .i64 W] w fun e w'=>e=.returned (.bool (okRow vs W))∧Below w.heap.size w w':=by
 obtain⟨a,c,b,o,rfl,hl,hc,ha⟩:=hr.pick;unfold maxLen at hc;clear hr;by_cases hW:(vs.length:Int)=W
 ·subst hW;go_enter Tryz.func115,Tryz.ntmps115;go_wp2;go_loopw [13] (fun i wr=> ∃k:Nat,k≤vs.length∧i=.int .i64 k∧Below w.heap.size w wr∧vs.all okW=(vs.drop k).all okW) (fun i _=>vs.length - (intOf i).toNat)
  case atStart=>exact⟨0,Nat.zero_le _,rfl,by go_grown,by simp⟩
  case round=>
   obtain⟨k,hk,rfl,hb,heq⟩:=hrel;have HE:Hid (vs.all okW=(vs.drop k).all okW):=heq;have hzb:=hb.size;clear heq;by_cases hlt:k<vs.length
   ·obtain⟨rfl,hblt,hL⟩:=ha k hlt;obtain⟨x,hx,c0,c1,c2,hbr⟩:=hL.at hblt hb hlt;have hxs:x.s.size≤maxLen:=(hw x (mg8 hx)).2.2;have HS:Hid ((vs.drop k).all okW=(okW x && (vs.drop (k+1)).all okW)):=all_step hx;clear ha hL hx hw;by_cases hok:okB x.k x.n x.s=true
    ·go_wp2_with(go_at_call 131;refine(implValueOk_any _ _ _ _ hxs).mono ?_;rintro e w1 ⟨rfl,hb1⟩;have hz1:=hb1.size;(try simp at hz1))
     go_roundw
     case rel=>
      refine⟨k+1,hlt,by simp,bela,?_⟩;rw[HE.out,HS.out,show okW x=true from hok,Bool.true_and]
     case measure=>simp[intOf];omega
    ·go_wp2_with(go_at_call 131;refine(implValueOk_any _ _ _ _ hxs).mono ?_;rintro e w1 ⟨rfl,hb1⟩;have hz1:=hb1.size;(try simp at hz1));go_returns;refine⟨rB8 ?_,bela⟩;have hf:okW x=false:=by unfold okW;simpa using hok
     unfold okRow;rw[HE.out,HS.out,hf];simp
   ·clear ha hw;go_wp2;go_returns;refine⟨rB8 ?_,hb⟩;unfold okRow;rw[HE.out,List.drop_eq_nil_of_le (by omega)];simp
 ·go_enter Tryz.func115,Tryz.ntmps115;go_wp2;go_returns;exact⟨rB8 (by simp[okRow,hW]),by go_grown⟩
def okN (n:Int):Bool:=decide (n≠0) &&decide (-1000000000≤n) &&decide (n≤1000000000)
theorem countOk_any (n:Int)(w:World):Calls Tryz.prog 116 #[.int .i64 n] w fun e w'=>e=.returned (.bool (okN n))∧Below w.heap.size w w':=by
 by_cases h0:n=0
 ·subst h0;go_enter Tryz.func116,Tryz.ntmps116;go_wp2;go_returns;exact⟨rB8 (by simp[okN]),by go_grown⟩
 ·by_cases h1: -1000000000≤n
  ·go_enter Tryz.func116,Tryz.ntmps116;go_wp2;go_returns;exact⟨rB8 (by simp[okN,h0,h1]),by go_grown⟩
  ·go_enter Tryz.func116,Tryz.ntmps116;go_wp2;go_returns;exact⟨rB8 (by simp[okN,h0];omega),by go_grown⟩
theorem l01In_any (n a b:Int)(w:World):Calls Tryz.prog 61 #[.int .i64 n,.int .i64 a,.int .i64 b] w fun e w'=>e=.returned (.bool (decide (a≤n) &&decide (n≤b)))∧Below w.heap.size w w':=by
 by_cases h1:a≤n
 ·go_enter Tryz.func61,Tryz.ntmps61;go_wp2;go_returns;exact⟨rB8 (by simp[h1]),by go_grown⟩
 ·go_enter Tryz.func61,Tryz.ntmps61;go_wp2;go_returns;exact⟨rB8 (by simp;omega),by go_grown⟩
end
section
open Go.RowKit
def okPrev (p:Option C2)(x:C2):Bool:=match p with
 |none=>true
 |some y=>decide (cR8 y.r x.r<0)
def okCs (W:Int):Option C2→List C2→Bool
 |_,[]=>true
 |p,x::xs=>okRow x.r W &&okN x.n &&okPrev p x &&okCs W (some x) xs
def prev (cs:List C2)(k:Nat):Option C2:=if k=0 then none else cs[k -1]?
def okBag (W:Int)(cs:List C2):Bool:=decide (0≤W) &&decide (W≤12) &&decide (cs.length≤400) &&okCs W none cs
theorem okCs_step {W:Int}{cs:List C2}{k:Nat}{x:C2}(h:cs[k]?=some x):okCs W (prev cs k) (cs.drop k)=(okRow x.r W &&okN x.n &&okPrev (prev cs k) x &&okCs W (prev cs (k+1)) (cs.drop (k+1))):=by
 obtain⟨hk,rfl⟩:=gE1 h;rw[List.drop_eq_getElem_cons hk];simp[okCs,prev,hk]
theorem prev_zero (cs:List C2):prev cs 0=none:=rfl
theorem prev_succ {cs:List C2}{j:Nat}{y:C2}(h:cs[j]?=some y):prev cs (j+1)=some y:=by simp[prev,h]
theorem implBagOk_any (W:Int)(v:Value)(cs:List C2)(w:World)(hw:CsWf cs)(hr:RowsIs w v cs):Calls Tryz.prog 96 #[.agg #[.int .i64 W,v]] w fun e w'=>e=.returned (.bool (okBag W cs))∧Below w.heap.size w w':=by
 obtain⟨a,c,b,o,rfl,hl,hc,ha⟩:=hr.pick;unfold maxLen at hc;clear hr;by_cases h0:W<0
 ·go_enter Tryz.func96,Tryz.ntmps96;go_wp2;go_returns;exact⟨rB8 (by simp[okBag,show ¬0≤W from by omega]),by go_grown⟩
 by_cases h1:12<W
 ·go_enter Tryz.func96,Tryz.ntmps96;go_wp2;go_returns;exact⟨rB8 (by simp[okBag,show ¬W≤12 from by omega]),by go_grown⟩
 by_cases h2:400<(cs.length:Int)
 ·go_enter Tryz.func96,Tryz.ntmps96;go_wp2;go_returns;exact⟨rB8 (by simp[okBag,show ¬cs.length≤400 from by omega]),by go_grown⟩
 have HB:Hid (okBag W cs=okCs W none cs):=by simp[Hid,okBag,show 0≤W from by omega,show W≤12 from by omega,show cs.length≤400 from by omega]
 go_enter Tryz.func96,Tryz.ntmps96;go_wp2;go_loopw [22] (fun i wr=> ∃ (k:Nat) (q:Int),k≤cs.length∧q=k∧i=.int .i64 q∧Below w.heap.size w wr∧w.heap.size<wr.heap.size∧wr.cell? ⟨w.heap.size,0,none⟩=some (.int .i64 W)∧wr.cell? ⟨w.heap.size,1,none⟩=some (.slice a cs.length c)∧okCs W none cs=okCs W (prev cs k) (cs.drop k)) (fun i _=>cs.length - (intOf i).toNat)
 case atStart=>exact⟨0,0,Nat.zero_le _,rfl,rfl,by go_grown,by simp,by go_simp,by go_simp,by simp[prev]⟩
 case round=>
  obtain⟨k,q,hk,hq,rfl,hb,hsz,p0,p1,heq⟩:=hrel;have HE:Hid (okCs W none cs=okCs W (prev cs k) (cs.drop k)):=heq;have hzb:=hb.size;clear heq;by_cases hlt:k<cs.length
  ·obtain⟨rfl,hblt,hL⟩:=ha k hlt;obtain⟨x,u,hx,c0,hR,c1,hbr⟩:=hL.at hblt hb hlt;obtain⟨ur,lr,cr,rfl⟩:=hR.shape;have hxw:VsWf x.r:=(hw x (mg8 hx)).1;have HS:Hid (okCs W (prev cs k) (cs.drop k)=(okRow x.r W &&okN x.n &&okPrev (prev cs k) x &&okCs W (prev cs (k+1)) (cs.drop (k+1)))):=okCs_step hx;by_cases hok:okRow x.r W=true
   ·by_cases hcn:okN x.n=true
    ·rcases Nat.eq_zero_or_pos k with hk0|hk0
     ·subst hk0;obtain rfl:q=0:=by simpa using hq
      rw[Nat.zero_mul,Nat.add_zero]at c0;rw[Nat.zero_mul,Nat.add_zero]at c1;clear ha hw hL hx hq;go_wp2_with(first|(go_at_call 115;refine cM8 (rowOk_any _ x.r W _ (hR.below bela) hxw) ?_;rintro e w1 ⟨rfl,hb1⟩;have hz1:=hb1.size;(try simp at hz1);have hf1:=(bc8 hb1).2;have q0:w1.cell? ⟨wr.heap.size,0,none⟩=some (.slice ur lr cr):=cL8 hb1 (by go_simp);have q1:w1.cell? ⟨wr.heap.size,1,none⟩=some (.int .i64 x.n):=cL8 hb1 (by go_simp);have p0':w1.cell? ⟨w.heap.size,0,none⟩=some (.int .i64 W):=cL8 hb1 (by go_simp);have p1':w1.cell? ⟨w.heap.size,1,none⟩=some (.slice (some ⟨b,o,none⟩) cs.length c):=cL8 hb1 (by go_simp))|(go_at_call 116;refine(countOk_any _ _).mono ?_;rintro e w2 ⟨rfl,hb2⟩;have hz2:=hb2.size;(try simp at hz2);have q0'':w2.cell? ⟨wr.heap.size,0,none⟩=some (.slice ur lr cr):=cL8 hb2 (by go_simp);have p0'':w2.cell? ⟨w.heap.size,0,none⟩=some (.int .i64 W):=cL8 hb2 (by go_simp);have p1'':w2.cell? ⟨w.heap.size,1,none⟩=some (.slice (some ⟨b,o,none⟩) cs.length c):=cL8 hb2 (by go_simp))|fail)
      go_region
      go_wp2
      go_roundw
      case rel=>
       refine⟨1,1,hlt,rfl,by simp,bela,by(first|omega|(simp;omega)),p0'',p1'',?_⟩;rw[HE.out,HS.out,hok,hcn,prev_zero];simp[okPrev]
      case measure=>simp[intOf];omega
     ·obtain⟨j,rfl⟩:∃j,k=j+1:=⟨k -1,by omega⟩;obtain rfl:q=(j:Int)+1:=by omega
      obtain⟨y,t,hy,d0,hT,d1,_⟩:=hL.at hblt hb (show j<cs.length by omega);have HP:Hid (prev cs (j+1)=some y):=prev_succ hy;clear ha hw hL hx hy hq;go_wp2_with(first|(go_at_call 115;refine cM8 (rowOk_any _ x.r W _ (hR.below bela) hxw) ?_;rintro e w1 ⟨rfl,hb1⟩;have hz1:=hb1.size;(try simp at hz1);have hf1:=(bc8 hb1).2;have q0:w1.cell? ⟨wr.heap.size,0,none⟩=some (.slice ur lr cr):=cL8 hb1 (by go_simp);have q1:w1.cell? ⟨wr.heap.size,1,none⟩=some (.int .i64 x.n):=cL8 hb1 (by go_simp);have p0':w1.cell? ⟨w.heap.size,0,none⟩=some (.int .i64 W):=cL8 hb1 (by go_simp);have p1':w1.cell? ⟨w.heap.size,1,none⟩=some (.slice (some ⟨b,o,none⟩) cs.length c):=cL8 hb1 (by go_simp);have d1':w1.cell? ⟨b,o+j*2,none⟩=some t:=cL8 hb1 (by go_simp))|(go_at_call 116;refine(countOk_any _ _).mono ?_;rintro e w2 ⟨rfl,hb2⟩;have hz2:=hb2.size;(try simp at hz2);have q0'':w2.cell? ⟨wr.heap.size,0,none⟩=some (.slice ur lr cr):=cL8 hb2 (by go_simp);have p0'':w2.cell? ⟨w.heap.size,0,none⟩=some (.int .i64 W):=cL8 hb2 (by go_simp);have p1'':w2.cell? ⟨w.heap.size,1,none⟩=some (.slice (some ⟨b,o,none⟩) cs.length c):=cL8 hb2 (by go_simp);have d2:w2.cell? ⟨b,o+j*2,none⟩=some t:=cL8 hb2 (by go_simp))|fail);have hT2:RowIs w2 t y.r:=hT.below bela;have hR2:RowIs w2 (.slice ur lr cr) x.r:=hR.below bela;have hw1:IntKind.i64.wrap (j:Int)=j:=by rw[IntKind.wrap_i64];omega
      have hw2:IntKind.i64.wrap ((j:Int)+1 -1)=j:=by rw[IntKind.wrap_i64];omega
      have hi0:(0:Int)≤j:=by omega
      have hi1:(j:Int)<cs.length:=by omega
      have hi2:(0:Int)<(j:Int)+1:=by omega
      go_region_held3 (fun w'=>w'.cell? ⟨w.heap.size,0,none⟩=some (.int .i64 W)∧w'.cell? ⟨w.heap.size,1,none⟩=some (.slice (some ⟨b,o,none⟩) cs.length c)∧w'.cell? ⟨wr.heap.size,0,none⟩=some (.slice ur lr cr)∧w'.cell? ⟨b,o+j*2,none⟩=some t) (refine⟨?_,?_,?_,?_⟩<;>first|(go_simp;done)|(exact cL8 (by assumption) (by go_simp))) (first|(go_at_call 117;refine cM8 (implRow_any t (.slice ur lr cr) y.r x.r _ (hT2.below bela) (hR2.below bela)) ?_;rintro e w3 ⟨rfl,hb3⟩));have hz3:=hb3.size;simp at hz3;have HQ:Hid (okPrev (prev cs (j+1)) x=decide (cR8 y.r x.r<0)):=by rw[HP.out];rfl
      have r0:w3.cell? ⟨w.heap.size,0,none⟩=some (.int .i64 W):=cL8 hb3 (by go_simp);have r1:w3.cell? ⟨w.heap.size,1,none⟩=some (.slice (some ⟨b,o,none⟩) cs.length c):=cL8 hb3 (by go_simp);by_cases hcmp:0≤cR8 y.r x.r
      ·go_wp2;go_returns;refine⟨rB8 ?_,bela⟩;rw[HB.out,HE.out,HS.out,HQ.out];simp[show ¬cR8 y.r x.r<0 from by omega]
      ·go_wp2
       go_roundw
       case rel=>
        refine⟨j+1+1,(j:Int)+1+1,hlt,by omega,by simp,bela,by(first|omega|(simp;omega)),r0,r1,?_⟩;rw[HE.out,HS.out,HQ.out,hok,hcn];simp[show cR8 y.r x.r<0 from by omega]
       case measure=>simp[intOf];omega
    ·clear ha hw hL hx;go_wp2_with(first|(go_at_call 115;refine cM8 (rowOk_any _ x.r W _ (hR.below bela) hxw) ?_;rintro e w1 ⟨rfl,hb1⟩;have hz1:=hb1.size;(try simp at hz1);have hf1:=(bc8 hb1).2;have q0:w1.cell? ⟨wr.heap.size,0,none⟩=some (.slice ur lr cr):=cL8 hb1 (by go_simp);have q1:w1.cell? ⟨wr.heap.size,1,none⟩=some (.int .i64 x.n):=cL8 hb1 (by go_simp);have p0':w1.cell? ⟨w.heap.size,0,none⟩=some (.int .i64 W):=cL8 hb1 (by go_simp);have p1':w1.cell? ⟨w.heap.size,1,none⟩=some (.slice (some ⟨b,o,none⟩) cs.length c):=cL8 hb1 (by go_simp))|(go_at_call 116;refine(countOk_any _ _).mono ?_;rintro e w2 ⟨rfl,hb2⟩;have hz2:=hb2.size;(try simp at hz2);have q0'':w2.cell? ⟨wr.heap.size,0,none⟩=some (.slice ur lr cr):=cL8 hb2 (by go_simp);have p0'':w2.cell? ⟨w.heap.size,0,none⟩=some (.int .i64 W):=cL8 hb2 (by go_simp);have p1'':w2.cell? ⟨w.heap.size,1,none⟩=some (.slice (some ⟨b,o,none⟩) cs.length c):=cL8 hb2 (by go_simp))|fail);go_returns;refine⟨rB8 ?_,bela⟩;have hf:okN x.n=false:=by simpa using hcn
     rw[HB.out,HE.out,HS.out,hf];simp
   ·clear ha hw hL hx;go_wp2_with(first|(go_at_call 115;refine cM8 (rowOk_any _ x.r W _ (hR.below bela) hxw) ?_;rintro e w1 ⟨rfl,hb1⟩;have hz1:=hb1.size;(try simp at hz1);have hf1:=(bc8 hb1).2;have q0:w1.cell? ⟨wr.heap.size,0,none⟩=some (.slice ur lr cr):=cL8 hb1 (by go_simp);have q1:w1.cell? ⟨wr.heap.size,1,none⟩=some (.int .i64 x.n):=cL8 hb1 (by go_simp);have p0':w1.cell? ⟨w.heap.size,0,none⟩=some (.int .i64 W):=cL8 hb1 (by go_simp);have p1':w1.cell? ⟨w.heap.size,1,none⟩=some (.slice (some ⟨b,o,none⟩) cs.length c):=cL8 hb1 (by go_simp))|(go_at_call 116;refine(countOk_any _ _).mono ?_;rintro e w2 ⟨rfl,hb2⟩;have hz2:=hb2.size;(try simp at hz2);have q0'':w2.cell? ⟨wr.heap.size,0,none⟩=some (.slice ur lr cr):=cL8 hb2 (by go_simp);have p0'':w2.cell? ⟨w.heap.size,0,none⟩=some (.int .i64 W):=cL8 hb2 (by go_simp);have p1'':w2.cell? ⟨w.heap.size,1,none⟩=some (.slice (some ⟨b,o,none⟩) cs.length c):=cL8 hb2 (by go_simp))|fail);go_returns;refine⟨rB8 ?_,bela⟩;have hf:okRow x.r W=false:=by simpa using hok
    rw[HB.out,HE.out,HS.out,hf];simp
  ·clear ha hw;go_wp2;go_returns;refine⟨rB8 ?_,hb⟩;rw[HB.out,HE.out,List.drop_eq_nil_of_le (by omega)];rfl
end
section
open Go.RowKit
def numB (n:Int)(j:Nat):Int:=IntKind.u64.wrap n/2 ^ (8* (7 -j)) %256
def numL (n:Int)(j:Nat):List Int:=1::(List.range j).map (numB n)
end
section
open Go.RowKit
attribute [local go_sem] ta_nullForm_nullForm ta_nullForm_intForm ta_nullForm_boolForm ta_nullForm_textForm ta_intForm_nullForm ta_intForm_intForm ta_intForm_boolForm ta_intForm_textForm ta_boolForm_nullForm ta_boolForm_intForm ta_boolForm_boolForm ta_boolForm_textForm ta_textForm_nullForm ta_textForm_intForm ta_textForm_boolForm ta_textForm_textForm ta_nil_nullForm ta_nil_intForm ta_nil_boolForm ta_nil_textForm
theorem ta_text1 (s:ByteArray)(w:World):(Instr.typeAssert (.iface 251 (.agg #[.string s])) 232 251 false).run Tryz.prog w=.ok (.agg #[.string s]) w:=by kernel_rfl
theorem fld_text (s:ByteArray)(w:World):(Instr.field 251 (.agg #[.string s]) 0).run Tryz.prog w=.ok (.string s) w:=by kernel_rfl
attribute [local go_sem] ta_text1 fld_text
end
section
open Go.RowKit
def putS (k n:Int)(s:ByteArray):ByteArray:=
 if okB k n s=true then(if k=0 then strOfNums [0]else if k=1 then strOfNums (numL n 8)else if k=2 then strOfNums [2,n]else strOfNums [3,(s.size:Int)]++s)else⟨#[]⟩
theorem putS_0 (n:Int)(s:ByteArray)(h:okB 0 n s=true):putS 0 n s=strOfNums [0]:=by rw[putS,if_pos h];rfl
theorem putS_1 (n:Int)(s:ByteArray)(h:okB 1 n s=true):putS 1 n s=strOfNums (numL n 8):=by rw[putS,if_pos h];rfl
theorem putS_2 (n:Int)(s:ByteArray)(h:okB 2 n s=true):putS 2 n s=strOfNums [2,n]:=by rw[putS,if_pos h];rfl
theorem putS_3 (n:Int)(s:ByteArray)(h:okB 3 n s=true):putS 3 n s=strOfNums [3,(s.size:Int)]++s:=by rw[putS,if_pos h];rfl
theorem okB_3s (n:Int)(s:ByteArray)(h:okB 3 n s=true):s.size≤100:=by rw[okB_3]at h;simp at h;exact h.2
theorem okB_2n (n:Int)(s:ByteArray)(h:okB 2 n s=true):n=0∨n=1:=by rw[okB_2]at h;simp at h;exact h.1
end
section
open Go.RowKit
def rowU (vs:List V3):List UInt8:=vs.flatMap fun x=>(putS x.k x.n x.s).data.toList
end
section
open Go.RowKit
theorem wf64 {n:Int}(h:(Lit.int .i64 n).wf=true): -9223372036854775808≤n∧n≤9223372036854775807:=by
 have e1:IntKind.i64.min= -9223372036854775808:=rfl;have e2:IntKind.i64.max=9223372036854775807:=rfl;simp[Lit.wf,e1,e2]at h;omega
theorem byte_step {x y M:Int}(hM:0<M)(h1:x/ (M*256)=y/ (M*256))(h2:x/M %256=y/M %256):x/M=y/M:=by
 have a:x/M/256=x/ (M*256):=Int.ediv_ediv_of_nonneg (Int.le_of_lt hM);have b:y/M/256=y/ (M*256):=Int.ediv_ediv_of_nonneg (Int.le_of_lt hM);rw[←a,←b]at h1;omega
theorem numB_inj {n m:Int}(hn:(Lit.int .i64 n).wf=true)(hm:(Lit.int .i64 m).wf=true)(h:∀j,j<8→numB n j=numB m j):n=m:=by
 have e0:=h 0 (by omega);have e1:=h 1 (by omega);have e2:=h 2 (by omega);have e3:=h 3 (by omega);have e4:=h 4 (by omega);have e5:=h 5 (by omega);have e6:=h 6 (by omega);have e7:=h 7 (by omega);have bn:=wf64 hn;have bm:=wf64 hm;have wn:IntKind.u64.wrap n=n %18446744073709551616:=by simp[IntKind.wrap,IntKind.bits,IntKind.signed]
 have wm:IntKind.u64.wrap m=m %18446744073709551616:=by simp[IntKind.wrap,IntKind.bits,IntKind.signed]
 simp only[numB,wn,wm]at e0 e1 e2 e3 e4 e5 e6 e7;have key:n %18446744073709551616=m %18446744073709551616:=by
  have a1:=Int.emod_nonneg n (show(18446744073709551616:Int)≠0 by decide);have a2:=Int.emod_lt_of_pos n (show(0:Int)<18446744073709551616 by decide);have b1:=Int.emod_nonneg m (show(18446744073709551616:Int)≠0 by decide);have b2:=Int.emod_lt_of_pos m (show(0:Int)<18446744073709551616 by decide);generalize n %18446744073709551616=x at*;generalize m %18446744073709551616=y at*;have s7:x/72057594037927936=y/72057594037927936:=by
   have e:x/72057594037927936 %256=y/72057594037927936 %256:=e0;clear e0 e1 e2 e3 e4 e5 e6 e7;omega
  have s6:=byte_step (M:=281474976710656) (by decide) s7 e1;have s5:=byte_step (M:=1099511627776) (by decide) s6 e2;have s4:=byte_step (M:=4294967296) (by decide) s5 e3;have s3:=byte_step (M:=16777216) (by decide) s4 e4;have s2:=byte_step (M:=65536) (by decide) s3 e5;have s1:=byte_step (M:=256) (by decide) s2 e6;have s0:=byte_step (M:=1) (by decide) s1 e7
  simpa using s0
 omega
def vU (x:V3):List UInt8:=(putS x.k x.n x.s).data.toList
theorem nums_list (xs:List Int):(strOfNums xs).data.toList=xs.map fun n=>UInt8.ofNat n.toNat:=rfl
theorem empty_of {s:ByteArray}(h:(s.toList==[])=true):s=⟨#[]⟩:=by
 rw[beq_iff_eq,ByteArray.toList_eq]at h;exact ByteArray.ext (Array.toList_inj.1 h)
theorem vU_form {x:V3}(h:okW x=true):(x=⟨0,0,⟨#[]⟩⟩∧vU x=[0])∨(x=⟨1,x.n,⟨#[]⟩⟩∧vU x=1::(List.range 8).map (fun j=>UInt8.ofNat (numB x.n j).toNat))∨
  (x=⟨2,x.n,⟨#[]⟩⟩∧(x.n=0∨x.n=1)∧vU x=[2,UInt8.ofNat x.n.toNat])∨(x=⟨3,0,x.s⟩∧x.s.size≤100∧vU x=3::UInt8.ofNat x.s.size::x.s.data.toList):=by
 obtain⟨k,n,s⟩:=x;unfold okW at h;dsimp only at h⊢;by_cases h0:k=0
 ·subst h0;have hp:=putS_0 n s h;rw[okB_0]at h;simp only[Bool.and_eq_true,beq_iff_eq]at h;obtain⟨rfl,hs⟩:=h;obtain rfl:=empty_of (s:=s) (by rw[beq_iff_eq];exact hs);exact .inl ⟨rfl,by unfold vU;dsimp only;rw[hp,nums_list];rfl⟩
 by_cases h1:k=1
 ·subst h1;have hp:=putS_1 n s h;rw[okB_1]at h;obtain rfl:=empty_of h;refine .inr (.inl ⟨rfl,?_⟩);unfold vU;dsimp only;rw[hp,nums_list,numL,List.map_cons,List.map_map];rfl
 by_cases h2:k=2
 ·subst h2;have hp:=putS_2 n s h;have hn:=okB_2n n s h;rw[okB_2]at h;simp only[Bool.and_eq_true]at h;obtain rfl:=empty_of h.2;exact .inr (.inr (.inl ⟨rfl,hn,by unfold vU;dsimp only;rw[hp,nums_list];rfl⟩))
 by_cases h3:k=3
 ·subst h3;have hp:=putS_3 n s h;have hs:=okB_3s n s h;rw[okB_3]at h;simp only[Bool.and_eq_true,beq_iff_eq]at h;obtain⟨rfl,_⟩:=h;refine .inr (.inr (.inr ⟨rfl,hs,?_⟩));unfold vU;dsimp only;rw[hp,ByteArray.data_append,Array.toList_append,nums_list];simp
 ·rw[okB_x k n s h0 h1 h2 h3]at h;cases h
theorem ofNat_inj {a b:Nat}(ha:a<256)(hb:b<256)(h:UInt8.ofNat a=UInt8.ofNat b):a=b:=by
 have:=congrArg UInt8.toNat h;simp[UInt8.toNat_ofNat']at this;omega
theorem numB_bd (n:Int)(j:Nat):0≤numB n j∧numB n j<256:=by unfold numB;omega
theorem vU_inj {x y:V3}{l l':List UInt8}(hx:okW x=true)(hy:okW y=true)(wx:x.wf)(wy:y.wf)(h:vU x++l=vU y++l'):x=y∧l=l':=by
 rcases vU_form hx with⟨ex,fx⟩|⟨ex,fx⟩|⟨ex,nx,fx⟩|⟨ex,sx,fx⟩<;>rcases vU_form hy with⟨ey,fy⟩|⟨ey,fy⟩|⟨ey,ny,fy⟩|⟨ey,sy,fy⟩<;>rw[fx,fy]at h
 all_goals first|(exfalso;simp at h;done)|skip
 ·rw[ex,ey];exact⟨rfl,by simpa using h⟩
 ·have hl:((List.range 8).map (fun j=>UInt8.ofNat (numB x.n j).toNat)).length=((List.range 8).map (fun j=>UInt8.ofNat (numB y.n j).toNat)).length:=by simp
  rw[List.cons_append,List.cons_append,List.cons.injEq]at h;obtain⟨h1,h2⟩:=List.append_inj h.2 hl;have hn:x.n=y.n:=numB_inj wx.2.1 wy.2.1 fun j hj=>by
   have e:=congrArg (fun l=>l[j]?) h1;simp only[List.getElem?_map,List.getElem?_range hj,Option.map_some,Option.some.injEq]at e;have b1:=numB_bd x.n j;have b2:=numB_bd y.n j;have:=ofNat_inj (by omega) (by omega) e;omega
  rw[ex,ey,hn];exact⟨rfl,h2⟩
 ·simp only[List.cons_append,List.nil_append,List.cons.injEq,true_and]at h;have hn:=ofNat_inj (by omega) (by omega) h.1;have:x.n=y.n:=by omega
  rw[ex,ey,this];exact⟨rfl,h.2⟩
 ·simp only[List.cons_append,List.cons.injEq,true_and]at h;have hn:=ofNat_inj (by omega) (by omega) h.1;obtain⟨h1,h2⟩:=List.append_inj h.2 (by simpa using hn);have:x.s=y.s:=ByteArray.ext (Array.toList_inj.1 h1);rw[ex,ey,this];exact⟨rfl,h2⟩
theorem rowU_cons (x:V3)(r:List V3):rowU (x::r)=vU x++rowU r:=by unfold rowU vU;rw[List.flatMap_cons]
theorem rowU_inj:∀ {r q:List V3},r.length=q.length→r.all okW=true→q.all okW=true→VsWf r→VsWf q→rowU r=rowU q→r=q
 | [],[],_,_,_,_,_,_=>rfl
 |x::r,y::q,hl,hr,hq,wr,wq,h=>by
  rw[rowU_cons,rowU_cons]at h;rw[List.all_cons,Bool.and_eq_true]at hr hq;obtain⟨rfl,h2⟩:=vU_inj hr.1 hq.1 (wr x (by simp)) (wq y (by simp)) h;rw[rowU_inj (by simpa using hl) hr.2 hq.2 (fun z hz=>wr z (by simp[hz])) (fun z hz=>wq z (by simp[hz])) h2]
def gR8 (W:Int)(r:List V3):Prop:=okRow r W=true∧VsWf r
theorem gR8.inj {W:Int}{r q:List V3}(hr:gR8 W r)(hq:gR8 W q)(h:rowU r=rowU q):r=q:=by
 have a:=hr.1;have b:=hq.1;simp only[okRow,Bool.and_eq_true,decide_eq_true_eq]at a b;exact rowU_inj (by omega) a.2 b.2 hr.2 hq.2 h
def totC:List C2→List V3→Int
 | [],_=>0
 |c::cs,r=>(if cR8 c.r r=0 then c.n else 0)+totC cs r
theorem totC_app (cs ds:List C2)(r:List V3):totC (cs++ds) r=totC cs r+totC ds r:=by
 induction cs with
 |nil=>simp[totC]
 |cons c cs ih=>rw[List.cons_append,totC,totC,ih];omega
theorem totC_snoc (cs:List C2)(c:C2)(r:List V3):totC (cs++ [c]) r=totC cs r+if cR8 c.r r=0 then c.n else 0:=by
 rw[totC_app];simp[totC]
theorem totC_none {cs:List C2}{r:List V3}(h:∀c∈cs,c.r≠r):totC cs r=0:=by
 induction cs with
 |nil=>rfl
 |cons c cs ih=>
  rw[totC,if_neg (fun e=>h c (by simp) ((cmpRow_0 _ _).1 e)),ih fun x hx=>h x (by simp[hx])];rfl
theorem totC_bound {cs:List C2}{M:Int}(h:∀c∈cs,-M≤c.n∧c.n≤M)(hM:0≤M)(r:List V3): -(M*cs.length)≤totC cs r∧totC cs r≤M*cs.length:=by
 induction cs with
 |nil=>simp[totC]
 |cons c cs ih=>
  have h1:=h c (by simp);have h2:=ih fun x hx=>h x (by simp[hx]);rw[totC,List.length_cons];have e:M* ((cs.length+1:Nat):Int)=M*cs.length+M:=by rw[Int.natCast_add,Int.mul_add];simp
  rw[e];generalize M* (cs.length:Int)=Q at*;split<;>omega
end
section
open Go.RowKit
def Rc (v:Value):Option (DataW (Value×Int)×List MemPlace):=match v with
 | .agg cs=>match cs.toList with
  | [.slice a l c,.int .i64 n]=>some (.held (.slice a l c,n),[])
  |_=>none
 |_=>none
abbrev DT:=DataW (Value×Int)
def klit (r:List V3):Lit:=.string (rowU r)
theorem klit_key (r:List V3):WideAt.IsKeyLit (klit r):=trivial
theorem klit_inj {W:Int}{r q:List V3}(hr:gR8 W r)(hq:gR8 W q)(h:klit r=klit q):r=q:=hr.inj hq (by unfold klit at h;simpa using h)
def RowB (w:World)(b:Nat)(v:Value)(r:List V3):Prop:=∃g,RowF w v r g∧∀x∈g,x<b
theorem RowB.below {w w':World}{b:Nat}{v:Value}{r:List V3}(h:RowB w b v r)(hb:Below b w w'):RowB w' b v r:=by
 obtain⟨g,hg,hl⟩:=h;exact⟨g,hg.keep hb.size fun x hx=>hb.block x (hl x hx),hl⟩
theorem RowB.mono {w:World}{b b':Nat}{v:Value}{r:List V3}(h:RowB w b v r)(hb:b≤b'):RowB w b' v r:=by
 obtain⟨g,hg,hl⟩:=h;exact⟨g,hg,fun x hx=>Nat.lt_of_lt_of_le (hl x hx) hb⟩
structure TallyOf (w:World)(b:Nat)(D:DT)(W:Int)(cs:List C2):Prop where
 no:∀r,gR8 W r→totC cs r=0→Maps.has D (klit r)=false
 yes:∀r,gR8 W r→totC cs r≠0→∃v,(∀z,D.atKey (klit r) z=.held (v,totC cs r))∧RowB w b v r
 only:∀kl,Maps.has D kl=true→∃r,gR8 W r∧kl=klit r
theorem TallyOf.below {w w':World}{b:Nat}{D:DT}{W:Int}{cs:List C2}(h:TallyOf w b D W cs)(hb:Below b w w'):TallyOf w' b D W cs:=
 ⟨h.no,fun r hr hn=>by obtain⟨v,h1,h2⟩:=h.yes r hr hn;exact⟨v,h1,h2.below hb⟩,h.only⟩
theorem TallyOf.at {w:World}{b:Nat}{D:DT}{W:Int}{cs:List C2}(h:TallyOf w b D W cs){r:List V3}(hr:gR8 W r):∃a l c,D.atKey (klit r) (.held (.slice none 0 0,0))=.held (.slice a l c,totC cs r):=by
 by_cases hn:totC cs r=0
 ·exact⟨none,0,0,by rw[hn];exact Maps.atKey_of_not_has (h.no r hr hn) _⟩
 ·obtain⟨v,h1,g,⟨a,c,rfl,_⟩,_⟩:=h.yes r hr hn;exact⟨a,_,c,h1 _⟩
theorem TallyOf.put {w:World}{b:Nat}{D:DT}{W:Int}{cs:List C2}(h:TallyOf w b D W cs)(hD:Maps.IsMap D){r:List V3}(hr:gR8 W r){m:Int}{v:Value}(hv:RowB w b v r)(hs:totC cs r+m≠0):TallyOf w b (D.put (klit r) (.held (v,totC cs r+m))) W (cs++ [⟨r,m⟩]):=by
 refine⟨fun q hq hz=>?_,fun q hq hz=>?_,fun kl hk=>?_⟩
 ·rw[totC_snoc]at hz;by_cases e:r=q
  ·subst e;rw[if_pos (cmpRow_irr _)]at hz;exact absurd hz hs
  ·rw[if_neg (fun e'=>e ((cmpRow_0 _ _).1 e')),Int.add_zero]at hz;rw[Maps.has_put_other (fun e'=>e (klit_inj hq hr e').symm)];exact h.no q hq hz
 ·rw[totC_snoc]at hz⊢;by_cases e:r=q
  ·subst e;rw[if_pos (cmpRow_irr _)];exact⟨v,fun z=>Maps.atKey_put_same hD (klit_key _) _ _,hv⟩
  ·rw[if_neg (fun e'=>e ((cmpRow_0 _ _).1 e')),Int.add_zero]at hz⊢;obtain⟨u,h1,h2⟩:=h.yes q hq hz;exact⟨u,fun z=>by rw[Maps.atKey_put_other (fun e'=>e (klit_inj hq hr e').symm)];exact h1 z,h2⟩
 ·by_cases e:kl=klit r
  ·exact⟨r,hr,e⟩
  ·rw[Maps.has_put_other e]at hk;exact h.only kl hk
def TalIs (w:World)(b n:Nat)(W:Int)(cs:List C2):Prop:=∃D:DT,w.ownsMap Tryz.prog 9 Rc b n D∧TallyOf w b D W cs
def TalAt (w:World)(b B n:Nat)(W:Int)(cs:List C2):Prop:=∃D:DT,w.ownsMap Tryz.prog 9 Rc b n D∧TallyOf w B D W cs
theorem TalAt.lt {w:World}{b B n:Nat}{W:Int}{cs:List C2}(h:TalAt w b B n W cs):b<w.heap.size:=by
 obtain⟨D,h,_⟩:=h;exact h.lt
theorem TalAt.keep {w w':World}{b B n:Nat}{W:Int}{cs:List C2}(h:TalAt w b B n W cs)(hB:B≤w.heap.size)(hb:Below w.heap.size w w'):TalAt w' b B n W cs:=by
 obtain⟨D,h,hT⟩:=h;exact⟨D,h.kept (row:=none) ⟨hb.os,hb.tape,hb.output,hb.size,fun k hk _=>hb.block k hk⟩ (by simp),hT.below (hb.mono hB)⟩
theorem TalIs.lt {w:World}{b n:Nat}{W:Int}{cs:List C2}(h:TalIs w b n W cs):b<w.heap.size:=by
 obtain⟨D,h,_⟩:=h;exact h.lt
theorem TalIs.keep {w w':World}{b n:Nat}{W:Int}{cs:List C2}(h:TalIs w b n W cs)(hb:Below w.heap.size w w'):TalIs w' b n W cs:=by
 have hl:=h.lt;obtain⟨D,h,hT⟩:=h;exact⟨D,h.kept (row:=none) ⟨hb.os,hb.tape,hb.output,hb.size,fun k hk _=>hb.block k hk⟩ (by simp),hT.below (hb.mono (Nat.le_of_lt hl))⟩
end
end
end Go.Proofs.YtjhhmnjpojnoiaaGreatDoor
