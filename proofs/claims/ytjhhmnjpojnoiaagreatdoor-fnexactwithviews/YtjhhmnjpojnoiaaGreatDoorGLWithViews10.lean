/- Own texts, joined: contracts that the law's proof goes by. -/
import Derived.Test.YtjhhmnjpojnoiaaGreatDoorBagOkS
import Derived.Test.YtjhhmnjpojnoiaaGreatDoorGLWithViews1
import Derived.Handy
import Derived.Test.YtjhhmnjpojnoiaaGreatDoorGLWithViews4
import Derived.Deep.RegionHeld3
set_option maxHeartbeats 16000000
set_option maxRecDepth 100000
set_option linter.unusedVariables false
set_option linter.unusedSimpArgs false
namespace Go.Proofs.YtjhhmnjpojnoiaaGreatDoor
section
section
open Go.RowKit
def noLess (cs:List C2):Bool:=cs.all fun x=>decide (0≤x.n)
def okPlain (W:Int)(cs:List C2):Bool:=noLess cs &&okBag W cs
theorem noLess_step {cs:List C2}{k:Nat}{x:C2}(h:cs[k]?=some x):noLess (cs.drop k)=(decide (0≤x.n) &&noLess (cs.drop (k+1))):=by
 obtain⟨hk,rfl⟩:=gE1 h;rw[List.drop_eq_getElem_cons hk];rfl
theorem specPlain_any (W:Int)(v:Value)(cs:List C2)(w:World)(hw:CsWf cs)(hr:RowsIs w v cs):Calls Tryz.prog 63 #[.agg #[.int .i64 W,v]] w fun e w'=>e=.returned (.bool (okPlain W cs))∧Below w.heap.size w w':=by
 obtain⟨a,c,b,o,rfl,hl,hc,ha⟩:=hr.pick;unfold maxLen at hc;go_enter Tryz.func63,Tryz.ntmps63;go_wp2
 go_loop [3] (fun i=> ∃k:Nat,k≤cs.length∧i=.int .i64 k∧noLess cs=noLess (cs.drop k)) (fun i=>cs.length - (intOf i).toNat)
 case atStart=>exact⟨0,Nat.zero_le _,rfl,by simp⟩
 case round=>
  obtain⟨k,hk,rfl,heq⟩:=hrel;have HE:Hid (noLess cs=noLess (cs.drop k)):=heq;clear heq;by_cases hlt:k<cs.length
  ·obtain⟨rfl,hblt,hL⟩:=ha k hlt;obtain⟨x,u,hx,c0,hR,c1,hbr⟩:=hL.at hblt (Below.refl _ _) hlt;have HS:Hid (noLess (cs.drop k)=(decide (0≤x.n) &&noLess (cs.drop (k+1)))):=noLess_step hx;clear ha hL hx hR hr hw;by_cases hn:x.n<0
   ·go_wp2;go_returns;refine⟨rB8 ?_,by go_grown⟩;unfold okPlain;rw[HE.out,HS.out,show decide (0≤x.n)=false from by simp;omega,Bool.false_and,Bool.false_and]
   ·go_wp2
    go_roundw
    case rel=>
     refine⟨k+1,hlt,by simp,?_⟩;rw[HE.out,HS.out,show decide (0≤x.n)=true from by simp;omega,Bool.true_and]
    case measure=>simp[intOf];omega
  ·have HN:Hid (noLess cs=true):=by rw[HE.out,List.drop_eq_nil_of_le (by omega)];exact rfl
   clear ha;go_wp2_with fail;refine cM8 (specBagOk_any W (.slice a cs.length c) cs _ hw (hr.below ?hb)) ?_
   case hb=>exact bela
   rintro e w1 ⟨rfl,hb1⟩;have hz1:=hb1.size;simp only[World.size_alloc]at hz1;go_wp2;go_returns;refine⟨rB8 ?_,bela⟩;unfold okPlain;rw[HN.out,Bool.true_and]
theorem implPlain_any (W:Int)(v:Value)(cs:List C2)(w:World)(hw:CsWf cs)(hr:RowsIs w v cs):Calls Tryz.prog 68 #[.agg #[.int .i64 W,v]] w fun e w'=>e=.returned (.bool (okPlain W cs))∧Below w.heap.size w w':=by
 obtain⟨a,c,b,o,rfl,hl,hc,ha⟩:=hr.pick;unfold maxLen at hc;go_enter Tryz.func68,Tryz.ntmps68;go_wp2;go_loopw [8] (fun i wr=> ∃k:Nat,k≤cs.length∧i=.int .i64 k∧noLess cs=noLess (cs.drop k)∧Below w.heap.size w wr∧w.heap.size<wr.heap.size∧wr.cell? ⟨w.heap.size,0,none⟩=some (.int .i64 W)∧wr.cell? ⟨w.heap.size,1,none⟩=some (.slice a cs.length c)) (fun i _=>cs.length - (intOf i).toNat)
 case atStart=>exact⟨0,Nat.zero_le _,rfl,by simp,by go_grown,by simp,by go_simp,by go_simp⟩
 case round=>
  obtain⟨k,hk,rfl,heq,hb,hsz,p0,p1⟩:=hrel;have HE:Hid (noLess cs=noLess (cs.drop k)):=heq;have hzb:=hb.size;clear heq;by_cases hlt:k<cs.length
  ·obtain⟨rfl,hblt,hL⟩:=ha k hlt;obtain⟨x,u,hx,c0,hR,c1,hbr⟩:=hL.at hblt hb hlt;obtain⟨ur,lr,cr,rfl⟩:=hR.shape;have HS:Hid (noLess (cs.drop k)=(decide (0≤x.n) &&noLess (cs.drop (k+1)))):=noLess_step hx;clear ha hL hx hR hr hw;by_cases hn:x.n<0
   ·go_wp2;go_returns;refine⟨rB8 ?_,bela⟩;unfold okPlain;rw[HE.out,HS.out,show decide (0≤x.n)=false from by simp;omega,Bool.false_and,Bool.false_and]
   ·go_wp2
    go_roundw
    case rel=>
     refine⟨k+1,hlt,by simp,?_,bela,by(first|omega|(simp;omega)),by go_simp,by go_simp⟩;rw[HE.out,HS.out,show decide (0≤x.n)=true from by simp;omega,Bool.true_and]
    case measure=>simp[intOf];omega
  ·have HN:Hid (noLess cs=true):=by rw[HE.out,List.drop_eq_nil_of_le (by omega)];exact rfl
   clear ha;go_wp2_with fail;refine cM8 (implBagOk_any W (.slice a cs.length c) cs _ hw (hr.below ?hb)) ?_
   case hb=>exact bela
   rintro e w1 ⟨rfl,hb1⟩;have hz1:=hb1.size;go_wp2;go_returns;refine⟨rB8 ?_,bela⟩;unfold okPlain;rw[HN.out,Bool.true_and]
end
section
open Go.RowKit
def okPrevR (p:Option R3)(x:R3):Bool:=match p with
 |none=>true
 |some y=>Op.bytesLess y.s.toList x.s.toList
def okRs:Option R3→List R3→Bool
 |_,[]=>true
 |p,x::xs=>nameB x.s &&okPlain x.W x.cs &&okPrevR p x &&okRs (some x) xs
def prevR (rs:List R3)(k:Nat):Option R3:=if k=0 then none else rs[k -1]?
def okDb (rs:List R3):Bool:=decide (rs.length≤20) &&okRs none rs
theorem okRs_step {rs:List R3}{k:Nat}{x:R3}(h:rs[k]?=some x):okRs (prevR rs k) (rs.drop k)=(nameB x.s &&okPlain x.W x.cs &&okPrevR (prevR rs k) x &&okRs (prevR rs (k+1)) (rs.drop (k+1))):=by
 obtain⟨hk,rfl⟩:=gE1 h;rw[List.drop_eq_getElem_cons hk];simp[okRs,prevR,hk]
theorem prevR_zero (rs:List R3):prevR rs 0=none:=rfl
theorem prevR_succ {rs:List R3}{j:Nat}{y:R3}(h:rs[j]?=some y):prevR rs (j+1)=some y:=by simp[prevR,h]
theorem implDbOk_any (v:Value)(rs:List R3)(w:World)(hw:RsWf rs)(hr:RelsIs w v rs):Calls Tryz.prog 44 #[v] w fun e w'=>e=.returned (.bool (okDb rs))∧Below w.heap.size w w':=by
 obtain⟨a,c,b,o,rfl,hl,hc,ha⟩:=hr.pick;unfold maxLen at hc;clear hr;by_cases h2:20<(rs.length:Int)
 ·go_enter Tryz.func44,Tryz.ntmps44;go_wp2;go_returns;exact⟨rB8 (by simp[okDb,show ¬rs.length≤20 from by omega]),by go_grown⟩
 have HB:Hid (okDb rs=okRs none rs):=by simp[Hid,okDb,show rs.length≤20 from by omega]
 go_enter Tryz.func44,Tryz.ntmps44;go_wp2;go_loopw [10] (fun i wr=> ∃ (k:Nat) (q:Int),k≤rs.length∧q=k∧i=.int .i64 q∧Below w.heap.size w wr∧okRs none rs=okRs (prevR rs k) (rs.drop k)) (fun i _=>rs.length - (intOf i).toNat)
 case atStart=>exact⟨0,0,Nat.zero_le _,rfl,rfl,by go_grown,by simp[prevR]⟩
 case round=>
  obtain⟨k,q,hk,hq,rfl,hb,heq⟩:=hrel;have HE:Hid (okRs none rs=okRs (prevR rs k) (rs.drop k)):=heq;have hzb:=hb.size;clear heq;by_cases hlt:k<rs.length
  ·obtain⟨rfl,hblt,hL⟩:=ha k hlt;obtain⟨x,u,hx,c0,c1,c2,hR,hbr⟩:=hL.at hblt hb hlt;obtain⟨ur,lr,cr,rfl⟩:=hR.shape;obtain⟨hxs,_,hxw⟩:=hw x (mg8 hx);have HS:Hid (okRs (prevR rs k) (rs.drop k)=(nameB x.s &&okPlain x.W x.cs &&okPrevR (prevR rs k) x &&okRs (prevR rs (k+1)) (rs.drop (k+1)))):=okRs_step hx;by_cases hnm:nameB x.s=true;rotate_left
   ·have hf:nameB x.s=false:=by simpa using hnm
    clear ha hw hL hx;subst hq;go_wp2_with(first|(go_at_call 45;refine(implName_any x.s _ hxs).mono ?_;rintro e w1 ⟨rfl,rfl⟩)|(go_at_call 68;refine cM8 (implPlain_any x.W _ x.cs _ hxw (hR.below bela)) ?_;rintro e w2 ⟨rfl,hb2⟩;have hz2:=hb2.size;(try simp at hz2);have n2:w2.cell? ⟨wr.heap.size,0,none⟩=some (.string x.s):=cL8 hb2 (by go_simp))|fail);go_returns;refine⟨rB8 ?_,bela⟩;rw[HB.out,HE.out,HS.out,hf];simp
   by_cases hpl:okPlain x.W x.cs=true;rotate_left
   ·have hf:okPlain x.W x.cs=false:=by simpa using hpl
    clear ha hw hL hx;subst hq;go_wp2_with(first|(go_at_call 45;refine(implName_any x.s _ hxs).mono ?_;rintro e w1 ⟨rfl,rfl⟩)|(go_at_call 68;refine cM8 (implPlain_any x.W _ x.cs _ hxw (hR.below bela)) ?_;rintro e w2 ⟨rfl,hb2⟩;have hz2:=hb2.size;(try simp at hz2);have n2:w2.cell? ⟨wr.heap.size,0,none⟩=some (.string x.s):=cL8 hb2 (by go_simp))|fail);go_returns;refine⟨rB8 ?_,bela⟩;rw[HB.out,HE.out,HS.out,hf];simp
   rcases Nat.eq_zero_or_pos k with hk0|hk0
   ·subst hk0;obtain rfl:q=0:=by simpa using hq
    rw[Nat.zero_mul,Nat.add_zero]at c0 c1 c2;clear ha hw hL hx hq;go_wp2_with(first|(go_at_call 45;refine(implName_any x.s _ hxs).mono ?_;rintro e w1 ⟨rfl,rfl⟩)|(go_at_call 68;refine cM8 (implPlain_any x.W _ x.cs _ hxw (hR.below bela)) ?_;rintro e w2 ⟨rfl,hb2⟩;have hz2:=hb2.size;(try simp at hz2);have n2:w2.cell? ⟨wr.heap.size,0,none⟩=some (.string x.s):=cL8 hb2 (by go_simp))|fail)
    go_region
    go_wp2
    go_roundw
    case rel=>
     refine⟨1,1,hlt,rfl,by simp,bela,?_⟩;rw[HE.out,HS.out,hnm,hpl,prevR_zero];simp[okPrevR]
    case measure=>simp[intOf];omega
   ·obtain⟨j,rfl⟩:∃j,k=j+1:=⟨k -1,by omega⟩;obtain rfl:q=(j:Int)+1:=by omega
    obtain⟨y,t,hy,d0,d1,d2',hT,_⟩:=hL.at hblt hb (show j<rs.length by omega);have HP:Hid (prevR rs (j+1)=some y):=prevR_succ hy;clear ha hw hL hx hy hq d1 d2' hT;go_wp2_with(first|(go_at_call 45;refine(implName_any x.s _ hxs).mono ?_;rintro e w1 ⟨rfl,rfl⟩)|(go_at_call 68;refine cM8 (implPlain_any x.W _ x.cs _ hxw (hR.below bela)) ?_;rintro e w2 ⟨rfl,hb2⟩;have hz2:=hb2.size;(try simp at hz2);have n2:w2.cell? ⟨wr.heap.size,0,none⟩=some (.string x.s):=cL8 hb2 (by go_simp);have d2:w2.cell? ⟨b,o+j*3,none⟩=some (.string y.s):=cL8 hb2 (by go_simp))|fail);have hw1:IntKind.i64.wrap (j:Int)=j:=by rw[IntKind.wrap_i64];omega
    have hw2:IntKind.i64.wrap ((j:Int)+1 -1)=j:=by rw[IntKind.wrap_i64];omega
    have hi0:(0:Int)≤j:=by omega
    have hi1:(j:Int)<rs.length:=by omega
    have hi2:(0:Int)<(j:Int)+1:=by omega
    have HQ:Hid (okPrevR (prevR rs (j+1)) x=Op.bytesLess y.s.toList x.s.toList):=by rw[HP.out];rfl
    go_region_held3 (fun w'=>w'.cell? ⟨wr.heap.size,0,none⟩=some (.string x.s)∧w'.cell? ⟨b,o+j*3,none⟩=some (.string y.s)) (refine⟨?_,?_⟩<;>first|(go_simp;done)|(exact cL8 (by assumption) (by go_simp))) (fail);go_wp2
    ·have hcf:Op.bytesLess y.s.toList x.s.toList=false:=by
      have h9:(!Op.bytesLess y.s.toList x.s.toList)=true:=by assumption
      simpa using h9
     go_returns;refine⟨rB8 ?_,bela⟩;rw[HB.out,HE.out,HS.out,HQ.out,hcf];simp
    ·have hcmp:Op.bytesLess y.s.toList x.s.toList=true:=by
      have h9:(!Op.bytesLess y.s.toList x.s.toList)=false:=by assumption
      simpa using h9
     refine⟨⟨j+1+1,(j:Int)+1+1,hlt,by omega,rfl,bela,?_⟩,by simp[intOf];omega⟩;rw[HE.out,HS.out,HQ.out,hnm,hpl,hcmp];simp
  ·clear ha hw;go_wp2;go_returns;refine⟨rB8 ?_,hb⟩;rw[HB.out,HE.out,List.drop_eq_nil_of_le (by omega)];rfl
end
end
end Go.Proofs.YtjhhmnjpojnoiaaGreatDoor
