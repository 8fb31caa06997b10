/- Own texts, joined: contracts that the law's proof goes by. -/
import Derived.Test.YtflokiejcjjbiaaGreatGLFits2
import Derived.KernelRfl
import Derived.Test.YtflokiejcjjbiaaGreatGLFits13
import Derived.Test.YtflokiejcjjbiaaGreatGLFits9
import Derived.Handy
import Derived.Deep.RegionHeld3
import Derived.Test.YtflokiejcjjbiaaGreatGLFits26
import Derived.Test.YtflokiejcjjbiaaGreatGLFits27
set_option maxHeartbeats 16000000
set_option maxRecDepth 100000
set_option linter.unusedVariables false
set_option linter.unusedSimpArgs false
namespace Go.Proofs.YtflokiejcjjbiaaGreat
section
open Go.RowKit
section
variable {P:Program} {md:Region.Mode} {ops:Array Oper} {Q:Exit→Act→World→Prop} {S:World→Prop}
theorem tlY (i d:Nat){oi:Oper}{v:Value}{fuel:Nat}{listed listed':Array Bool}{ts ts':Array Value}{ds:List _}{w:World}(hi:ops[i]?=some oi)(hd:oi.dst=some d)(h:wpAnyH P md ops Q S fuel listed' ⟨ts',ds⟩ w)(hy:∀w,S w→(execOp (Act.eval ⟨ts,ds⟩) oi).run P w=.ok (.value v) w:=by intro w' h;go_simp;try exact rfl)(ht:ts.setIfInBounds d v=ts':=by(try simp only[List.setIfInBounds_toArray,List.set_cons_zero,List.set_cons_succ]);exact rfl)(hl:listed.setIfInBounds i true=listed':=by(try simp only[List.setIfInBounds_toArray,List.set_cons_zero,List.set_cons_succ]);exact rfl)(hs:Region.noSelect ops=true:=by kernel_rfl) (hf:Region.free md ops listed i=true:=by kernel_rfl) (hr:(Region.ready md ops listed).contains i=true:=by kernel_rfl)(hQ:∀c a w,Q (.panic c) (a.put oi.dst v) w→Q (.panic c) a w:=by exact fun _ _ _ h=>h) (hw:Region.wanted oi (yielded ops ts)=true:=by rfl) (hS:S w:=by assumption):wpAnyH P md ops Q S (fuel+1) listed ⟨ts,ds⟩ w:=
 takeYes hi hd hs hf hr hQ hw hS hy (by rw[hl,ht];exact h)
theorem tlN (i d:Nat){oi:Oper}{fuel:Nat}{listed listed':Array Bool}{ts ts':Array Value}{ds:List _}{w:World}(hi:ops[i]?=some oi)(hd:oi.dst=some d)(h:wpAnyH P md ops Q S fuel listed' ⟨ts',ds⟩ w)(ht:ts.setIfInBounds d undef=ts':=by(try simp only[List.setIfInBounds_toArray,List.set_cons_zero,List.set_cons_succ]);exact rfl)(hl:listed.setIfInBounds i true=listed':=by(try simp only[List.setIfInBounds_toArray,List.set_cons_zero,List.set_cons_succ]);exact rfl)(hs:Region.noSelect ops=true:=by kernel_rfl) (hf:Region.free md ops listed i=true:=by kernel_rfl) (hr:(Region.ready md ops listed).contains i=true:=by kernel_rfl)(hQ:∀c a w,Q (.panic c) (a.put oi.dst undef) w→Q (.panic c) a w:=by exact fun _ _ _ h=>h) (hw:Region.wanted oi (yielded ops ts)=false:=by rfl) (hS:S w:=by assumption):wpAnyH P md ops Q S (fuel+1) listed ⟨ts,ds⟩ w:=
 takeNo hi hd hs hf hr hQ hw hS (by rw[hl,ht];exact h)
end
end
section
open Go.RowKit
def okPrev (p:Option C2)(x:C2):Bool:=match p with
 |none=>true
 |some y=>decide (cR8 y.r x.r<0)
def okCs (W:Int):Option C2→List C2→Bool
 |_,[]=>true
 |p,x::xs=>okRow x.r W &&okN x.n &&okPrev p x &&okCs W (some x) xs
def prev (cs:List C2)(k:Nat):Option C2:=if k=0 then none else cs[k -1]?
def okBag (W:Int)(cs:List C2):Bool:=decide (0≤W) &&decide (W≤12) &&decide (cs.length≤400) &&okCs W none cs
theorem okCs_step {W:Int}{cs:List C2}{k:Nat}{x:C2}(h:cs[k]?=some x):okCs W (prev cs k) (cs.drop k)=(okRow x.r W &&okN x.n &&okPrev (prev cs k) x &&okCs W (prev cs (k+1)) (cs.drop (k+1))):=by
 obtain⟨hk,rfl⟩:=gE1 h;rw[List.drop_eq_getElem_cons hk];simp[okCs,prev,hk]
theorem prev_zero (cs:List C2):prev cs 0=none:=rfl
theorem prev_succ {cs:List C2}{j:Nat}{y:C2}(h:cs[j]?=some y):prev cs (j+1)=some y:=by simp[prev,h]
theorem implBagOk_any (W:Int)(v:Value)(cs:List C2)(w:World)(hw:CsWf cs)(hr:RowsIs w v cs):Calls Tryz.prog 63 #[.agg #[.int .i64 W,v]] w fun e w'=>e=.returned (.bool (okBag W cs))∧Below w.heap.size w w':=by
 obtain⟨a,c,b,o,rfl,hl,hc,ha⟩:=hr.pick;unfold maxLen at hc;clear hr;by_cases h0:W<0
 ·go_enter Tryz.func63,Tryz.ntmps63;go_wp2;go_returns;exact⟨rB8 (by simp[okBag,show ¬0≤W from by omega]),by go_grown⟩
 by_cases h1:12<W
 ·go_enter Tryz.func63,Tryz.ntmps63;go_wp2;go_returns;exact⟨rB8 (by simp[okBag,show ¬W≤12 from by omega]),by go_grown⟩
 by_cases h2:400<(cs.length:Int)
 ·go_enter Tryz.func63,Tryz.ntmps63;go_wp2;go_returns;exact⟨rB8 (by simp[okBag,show ¬cs.length≤400 from by omega]),by go_grown⟩
 have HB:Hid (okBag W cs=okCs W none cs):=by simp[Hid,okBag,show 0≤W from by omega,show W≤12 from by omega,show cs.length≤400 from by omega]
 go_enter Tryz.func63,Tryz.ntmps63;go_wp2;go_loopw [22] (fun i wr=> ∃ (k:Nat) (q:Int),k≤cs.length∧q=k∧i=.int .i64 q∧Below w.heap.size w wr∧w.heap.size<wr.heap.size∧wr.cell? ⟨w.heap.size,0,none⟩=some (.int .i64 W)∧wr.cell? ⟨w.heap.size,1,none⟩=some (.slice a cs.length c)∧okCs W none cs=okCs W (prev cs k) (cs.drop k)) (fun i _=>cs.length - (intOf i).toNat)
 case atStart=>exact⟨0,0,Nat.zero_le _,rfl,rfl,by go_grown,by simp,by go_simp,by go_simp,by simp[prev]⟩
 case round=>
  obtain⟨k,q,hk,hq,rfl,hb,hsz,p0,p1,heq⟩:=hrel;have HE:Hid (okCs W none cs=okCs W (prev cs k) (cs.drop k)):=heq;have hzb:=hb.size;clear heq;by_cases hlt:k<cs.length
  ·obtain⟨rfl,hblt,hL⟩:=ha k hlt;obtain⟨x,u,hx,c0,hR,c1,hbr⟩:=hL.at hblt hb hlt;obtain⟨ur,lr,cr,rfl⟩:=hR.shape;have hxw:VsWf x.r:=(hw x (mg8 hx)).1;have HS:Hid (okCs W (prev cs k) (cs.drop k)=(okRow x.r W &&okN x.n &&okPrev (prev cs k) x &&okCs W (prev cs (k+1)) (cs.drop (k+1)))):=okCs_step hx;by_cases hok:okRow x.r W=true
   ·by_cases hcn:okN x.n=true
    ·rcases Nat.eq_zero_or_pos k with hk0|hk0
     ·subst hk0;obtain rfl:q=0:=by simpa using hq
      rw[Nat.zero_mul,Nat.add_zero]at c0;rw[Nat.zero_mul,Nat.add_zero]at c1;clear ha hw hL hx hq;go_wp2_with(first|(go_at_call 90;refine cM8 (rowOk_any _ x.r W _ (hR.below bela) hxw) ?_;rintro e w1 ⟨rfl,hb1⟩;have hz1:=hb1.size;(try simp at hz1);have hf1:=(bc8 hb1).2;have q0:w1.cell? ⟨wr.heap.size,0,none⟩=some (.slice ur lr cr):=cL8 hb1 (by go_simp);have q1:w1.cell? ⟨wr.heap.size,1,none⟩=some (.int .i64 x.n):=cL8 hb1 (by go_simp);have p0':w1.cell? ⟨w.heap.size,0,none⟩=some (.int .i64 W):=cL8 hb1 (by go_simp);have p1':w1.cell? ⟨w.heap.size,1,none⟩=some (.slice (some ⟨b,o,none⟩) cs.length c):=cL8 hb1 (by go_simp))|(go_at_call 91;refine(countOk_any _ _).mono ?_;rintro e w2 ⟨rfl,hb2⟩;have hz2:=hb2.size;(try simp at hz2);have q0'':w2.cell? ⟨wr.heap.size,0,none⟩=some (.slice ur lr cr):=cL8 hb2 (by go_simp);have p0'':w2.cell? ⟨w.heap.size,0,none⟩=some (.int .i64 W):=cL8 hb2 (by go_simp);have p1'':w2.cell? ⟨w.heap.size,1,none⟩=some (.slice (some ⟨b,o,none⟩) cs.length c):=cL8 hb2 (by go_simp))|fail)
      go_region
      go_wp2
      go_roundw
      case rel=>
       refine⟨1,1,hlt,rfl,by simp,bela,by(first|omega|(simp;omega)),p0'',p1'',?_⟩;rw[HE.out,HS.out,hok,hcn,prev_zero];simp[okPrev]
      case measure=>simp[intOf];omega
     ·obtain⟨j,rfl⟩:∃j,k=j+1:=⟨k -1,by omega⟩;obtain rfl:q=(j:Int)+1:=by omega
      obtain⟨y,t,hy,d0,hT,d1,_⟩:=hL.at hblt hb (show j<cs.length by omega);have HP:Hid (prev cs (j+1)=some y):=prev_succ hy;clear ha hw hL hx hy hq;go_wp2_with(first|(go_at_call 90;refine cM8 (rowOk_any _ x.r W _ (hR.below bela) hxw) ?_;rintro e w1 ⟨rfl,hb1⟩;have hz1:=hb1.size;(try simp at hz1);have hf1:=(bc8 hb1).2;have q0:w1.cell? ⟨wr.heap.size,0,none⟩=some (.slice ur lr cr):=cL8 hb1 (by go_simp);have q1:w1.cell? ⟨wr.heap.size,1,none⟩=some (.int .i64 x.n):=cL8 hb1 (by go_simp);have p0':w1.cell? ⟨w.heap.size,0,none⟩=some (.int .i64 W):=cL8 hb1 (by go_simp);have p1':w1.cell? ⟨w.heap.size,1,none⟩=some (.slice (some ⟨b,o,none⟩) cs.length c):=cL8 hb1 (by go_simp);have d1':w1.cell? ⟨b,o+j*2,none⟩=some t:=cL8 hb1 (by go_simp))|(go_at_call 91;refine(countOk_any _ _).mono ?_;rintro e w2 ⟨rfl,hb2⟩;have hz2:=hb2.size;(try simp at hz2);have q0'':w2.cell? ⟨wr.heap.size,0,none⟩=some (.slice ur lr cr):=cL8 hb2 (by go_simp);have p0'':w2.cell? ⟨w.heap.size,0,none⟩=some (.int .i64 W):=cL8 hb2 (by go_simp);have p1'':w2.cell? ⟨w.heap.size,1,none⟩=some (.slice (some ⟨b,o,none⟩) cs.length c):=cL8 hb2 (by go_simp);have d2:w2.cell? ⟨b,o+j*2,none⟩=some t:=cL8 hb2 (by go_simp))|fail);have hT2:RowIs w2 t y.r:=hT.below bela;have hR2:RowIs w2 (.slice ur lr cr) x.r:=hR.below bela;have hw1:IntKind.i64.wrap (j:Int)=j:=by rw[IntKind.wrap_i64];omega
      have hw2:IntKind.i64.wrap ((j:Int)+1 -1)=j:=by rw[IntKind.wrap_i64];omega
      have hi0:(0:Int)≤j:=by omega
      have hi1:(j:Int)<cs.length:=by omega
      have hi2:(0:Int)<(j:Int)+1:=by omega
      go_region_held3 (fun w'=>w'.cell? ⟨w.heap.size,0,none⟩=some (.int .i64 W)∧w'.cell? ⟨w.heap.size,1,none⟩=some (.slice (some ⟨b,o,none⟩) cs.length c)∧w'.cell? ⟨wr.heap.size,0,none⟩=some (.slice ur lr cr)∧w'.cell? ⟨b,o+j*2,none⟩=some t) (refine⟨?_,?_,?_,?_⟩<;>first|(go_simp;done)|(exact cL8 (by assumption) (by go_simp))) (first|(go_at_call 92;refine cM8 (implRow_any t (.slice ur lr cr) y.r x.r _ (hT2.below bela) (hR2.below bela)) ?_;rintro e w3 ⟨rfl,hb3⟩));have hz3:=hb3.size;simp at hz3;have HQ:Hid (okPrev (prev cs (j+1)) x=decide (cR8 y.r x.r<0)):=by rw[HP.out];rfl
      have r0:w3.cell? ⟨w.heap.size,0,none⟩=some (.int .i64 W):=cL8 hb3 (by go_simp);have r1:w3.cell? ⟨w.heap.size,1,none⟩=some (.slice (some ⟨b,o,none⟩) cs.length c):=cL8 hb3 (by go_simp);by_cases hcmp:0≤cR8 y.r x.r
      ·go_wp2;go_returns;refine⟨rB8 ?_,bela⟩;rw[HB.out,HE.out,HS.out,HQ.out];simp[show ¬cR8 y.r x.r<0 from by omega]
      ·go_wp2
       go_roundw
       case rel=>
        refine⟨j+1+1,(j:Int)+1+1,hlt,by omega,by simp,bela,by(first|omega|(simp;omega)),r0,r1,?_⟩;rw[HE.out,HS.out,HQ.out,hok,hcn];simp[show cR8 y.r x.r<0 from by omega]
       case measure=>simp[intOf];omega
    ·clear ha hw hL hx;go_wp2_with(first|(go_at_call 90;refine cM8 (rowOk_any _ x.r W _ (hR.below bela) hxw) ?_;rintro e w1 ⟨rfl,hb1⟩;have hz1:=hb1.size;(try simp at hz1);have hf1:=(bc8 hb1).2;have q0:w1.cell? ⟨wr.heap.size,0,none⟩=some (.slice ur lr cr):=cL8 hb1 (by go_simp);have q1:w1.cell? ⟨wr.heap.size,1,none⟩=some (.int .i64 x.n):=cL8 hb1 (by go_simp);have p0':w1.cell? ⟨w.heap.size,0,none⟩=some (.int .i64 W):=cL8 hb1 (by go_simp);have p1':w1.cell? ⟨w.heap.size,1,none⟩=some (.slice (some ⟨b,o,none⟩) cs.length c):=cL8 hb1 (by go_simp))|(go_at_call 91;refine(countOk_any _ _).mono ?_;rintro e w2 ⟨rfl,hb2⟩;have hz2:=hb2.size;(try simp at hz2);have q0'':w2.cell? ⟨wr.heap.size,0,none⟩=some (.slice ur lr cr):=cL8 hb2 (by go_simp);have p0'':w2.cell? ⟨w.heap.size,0,none⟩=some (.int .i64 W):=cL8 hb2 (by go_simp);have p1'':w2.cell? ⟨w.heap.size,1,none⟩=some (.slice (some ⟨b,o,none⟩) cs.length c):=cL8 hb2 (by go_simp))|fail);go_returns;refine⟨rB8 ?_,bela⟩;have hf:okN x.n=false:=by simpa using hcn
     rw[HB.out,HE.out,HS.out,hf];simp
   ·clear ha hw hL hx;go_wp2_with(first|(go_at_call 90;refine cM8 (rowOk_any _ x.r W _ (hR.below bela) hxw) ?_;rintro e w1 ⟨rfl,hb1⟩;have hz1:=hb1.size;(try simp at hz1);have hf1:=(bc8 hb1).2;have q0:w1.cell? ⟨wr.heap.size,0,none⟩=some (.slice ur lr cr):=cL8 hb1 (by go_simp);have q1:w1.cell? ⟨wr.heap.size,1,none⟩=some (.int .i64 x.n):=cL8 hb1 (by go_simp);have p0':w1.cell? ⟨w.heap.size,0,none⟩=some (.int .i64 W):=cL8 hb1 (by go_simp);have p1':w1.cell? ⟨w.heap.size,1,none⟩=some (.slice (some ⟨b,o,none⟩) cs.length c):=cL8 hb1 (by go_simp))|(go_at_call 91;refine(countOk_any _ _).mono ?_;rintro e w2 ⟨rfl,hb2⟩;have hz2:=hb2.size;(try simp at hz2);have q0'':w2.cell? ⟨wr.heap.size,0,none⟩=some (.slice ur lr cr):=cL8 hb2 (by go_simp);have p0'':w2.cell? ⟨w.heap.size,0,none⟩=some (.int .i64 W):=cL8 hb2 (by go_simp);have p1'':w2.cell? ⟨w.heap.size,1,none⟩=some (.slice (some ⟨b,o,none⟩) cs.length c):=cL8 hb2 (by go_simp))|fail);go_returns;refine⟨rB8 ?_,bela⟩;have hf:okRow x.r W=false:=by simpa using hok
    rw[HB.out,HE.out,HS.out,hf];simp
  ·clear ha hw;go_wp2;go_returns;refine⟨rB8 ?_,hb⟩;rw[HB.out,HE.out,List.drop_eq_nil_of_le (by omega)];rfl
end
section
open Go.RowKit
theorem okN_zero {n:Int}(h:n=0):okN n=false:=by simp[okN,h]
theorem okN_out {n:Int}(h:¬ (decide (-1000000000≤n) &&decide (n≤1000000000))=true):okN n=false:=by
 unfold okN;rw[Bool.and_assoc,show(decide (-1000000000≤n) &&decide (n≤1000000000))=false from by simpa using h,Bool.and_false]
theorem okN_in {n:Int}(h0:¬n=0)(h:(decide (-1000000000≤n) &&decide (n≤1000000000))=true):okN n=true:=by
 unfold okN;rw[Bool.and_assoc,h];simp[h0]
theorem specBagOk_any (W:Int)(v:Value)(cs:List C2)(w:World)(hw:CsWf cs)(hr:RowsIs w v cs):Calls Tryz.prog 33 #[.agg #[.int .i64 W,v]] w fun e w'=>e=.returned (.bool (okBag W cs))∧Below w.heap.size w w':=by
 obtain⟨a,c,b,o,rfl,hl,hc,ha⟩:=hr.pick;unfold maxLen at hc;clear hr;go_enter Tryz.func33,Tryz.ntmps33;go_wp2;go_loopw [3] (fun i wr=> ∃ (k:Nat) (q:Int),k≤cs.length∧q=k∧i=.int .i64 q∧Below w.heap.size w wr∧w.heap.size<wr.heap.size∧wr.cell? ⟨w.heap.size,0,none⟩=some (.int .i64 W)∧wr.cell? ⟨w.heap.size,1,none⟩=some (.slice a cs.length c)∧okCs W none cs=okCs W (prev cs k) (cs.drop k)) (fun i _=>cs.length - (intOf i).toNat)
 case atStart=>exact⟨0,0,Nat.zero_le _,rfl,rfl,by go_grown,by simp,by go_simp,by go_simp,by simp[prev]⟩
 case round=>
  obtain⟨k,q,hk,hq,rfl,hb,hsz,p0,p1,heq⟩:=hrel;have HE:Hid (okCs W none cs=okCs W (prev cs k) (cs.drop k)):=heq;have hzb:=hb.size;clear heq;by_cases hlt:k<cs.length
  ·obtain⟨rfl,hblt,hL⟩:=ha k hlt;obtain⟨x,u,hx,c0,hR,c1,hbr⟩:=hL.at hblt hb hlt;obtain⟨ur,lr,cr,rfl⟩:=hR.shape;have hxw:VsWf x.r:=(hw x (mg8 hx)).1;have HS:Hid (okCs W (prev cs k) (cs.drop k)=(okRow x.r W &&okN x.n &&okPrev (prev cs k) x &&okCs W (prev cs (k+1)) (cs.drop (k+1)))):=okCs_step hx;by_cases hok:okRow x.r W=true;rotate_left
   ·have hf:okRow x.r W=false:=by simpa using hok
    subst hq;clear ha hw hL hx;go_wp2_with fail;refine wp_region_held_drew (S:=(fun w'=>w'.cell? ⟨w.heap.size,0,none⟩=some (.int .i64 W)∧w'.cell? ⟨w.heap.size,1,none⟩=some (.slice (some ⟨b,o,none⟩) cs.length c)∧w'.cell? ⟨wr.heap.size,0,none⟩=some (.slice ur lr cr)∧w'.cell? ⟨wr.heap.size,1,none⟩=some (.int .i64 x.n))) (by kernel_rfl) ?_ (fun hHeld=>?_)
    ·refine⟨?_,?_,?_,?_⟩<;>first|(go_simp;done)|(exact cL8 (by assumption) (by go_simp))
    refine tlY 0 17 rfl rfl ?_;refine tlY 1 18 rfl rfl ?_;refine tlY 2 19 rfl rfl ?_;refine tlY 3 20 rfl rfl ?_;refine rdH 4 rfl fun K hK=>?_;go_simp;go_at_call 48;refine cM8 (l02Row_any (.slice ur lr cr) x.r W _ (hR.below bela) hxw) ?_;rintro e w1 ⟨rfl,hb1⟩;have hz1:=hb1.size;(try simp at hz1);try go_wp2_with fail
    refine hK.out _ _ ?_ (fun hHeld4=>?_)
    ·refine⟨?_,?_,?_,?_⟩<;>first|(go_simp;done)|(exact cL8 (by assumption) (by go_simp))
    clear hK;refine tlY 5 22 rfl rfl ?_;refine tlY 6 23 rfl rfl ?_;refine tlN 7 24 rfl rfl ?_;refine tlN 8 25 rfl rfl ?_;refine tlN 9 26 rfl rfl ?_;refine tlY 10 27 rfl rfl ?_;refine tlY 11 28 rfl rfl ?_;refine tlN 12 29 rfl rfl ?_;refine tlN 13 30 rfl rfl ?_;refine rdH 14 rfl fun K hK=>?_;go_simp;refine hK.out _ _ ?_ (fun hHeld14=>?_)
    ·refine⟨?_,?_,?_,?_⟩<;>first|(go_simp;done)|(exact cL8 (by assumption) (by go_simp))
    clear hK;refine tlN 15 32 rfl rfl ?_;refine tlY 16 33 rfl rfl ?_;refine tlY 17 34 rfl rfl ?_;refine tlN 18 35 rfl rfl ?_;refine tlN 19 36 rfl rfl ?_;refine tlN 20 37 rfl rfl ?_;refine tlN 21 38 rfl rfl ?_;refine tlN 22 39 rfl rfl ?_;refine tlN 23 40 rfl rfl ?_;refine tlN 24 41 rfl rfl ?_;refine tlN 25 42 rfl rfl ?_;refine tlN 26 43 rfl rfl ?_;refine tlN 27 44 rfl rfl ?_;refine tlN 28 45 rfl rfl ?_;refine tlN 29 46 rfl rfl ?_;refine rdH 30 rfl fun K hK=>?_;go_simp;refine hK.out _ _ ?_ (fun hHeld30=>?_)
    ·refine⟨?_,?_,?_,?_⟩<;>first|(go_simp;done)|(exact cL8 (by assumption) (by go_simp))
    clear hK;refine tlN 31 48 rfl rfl ?_;refine tlN 32 49 rfl rfl ?_;refine tlY 33 50 rfl rfl ?_;refine wpAnyH_done (by kernel_rfl) ?_ _;go_wp2;go_returns;refine⟨rB8 ?_,bela⟩;unfold okBag;rw[HE.out,HS.out,hf];simp
   by_cases hn0:x.n=0
   ·have HN:Hid (okN x.n=false):=okN_zero hn0;have hn1:(x.n==0)=true:=by simpa using hn0
    subst hq;clear ha hw hL hx hn0;go_wp2_with fail;refine wp_region_held_drew (S:=(fun w'=>w'.cell? ⟨w.heap.size,0,none⟩=some (.int .i64 W)∧w'.cell? ⟨w.heap.size,1,none⟩=some (.slice (some ⟨b,o,none⟩) cs.length c)∧w'.cell? ⟨wr.heap.size,0,none⟩=some (.slice ur lr cr)∧w'.cell? ⟨wr.heap.size,1,none⟩=some (.int .i64 x.n))) (by kernel_rfl) ?_ (fun hHeld=>?_)
    ·refine⟨?_,?_,?_,?_⟩<;>first|(go_simp;done)|(exact cL8 (by assumption) (by go_simp))
    refine tlY 0 17 rfl rfl ?_;refine tlY 1 18 rfl rfl ?_;refine tlY 2 19 rfl rfl ?_;refine tlY 3 20 rfl rfl ?_;refine rdH 4 rfl fun K hK=>?_;go_simp;go_at_call 48;refine cM8 (l02Row_any (.slice ur lr cr) x.r W _ (hR.below bela) hxw) ?_;rintro e w1 ⟨rfl,hb1⟩;have hz1:=hb1.size;(try simp at hz1);try go_wp2_with fail
    refine hK.out _ _ ?_ (fun hHeld4=>?_)
    ·refine⟨?_,?_,?_,?_⟩<;>first|(go_simp;done)|(exact cL8 (by assumption) (by go_simp))
    clear hK;refine tlY 5 22 rfl rfl ?_;refine tlY 6 23 rfl rfl ?_;refine tlY 7 24 rfl rfl ?_;refine tlY 8 25 rfl rfl ?_;refine tlY 9 26 rfl rfl ?_;refine tlY 10 27 rfl rfl ?_;refine tlY 11 28 rfl rfl ?_;refine tlN 12 29 rfl rfl ?_;refine tlN 13 30 rfl rfl ?_;refine rdH 14 rfl fun K hK=>?_;go_simp;refine hK.out _ _ ?_ (fun hHeld14=>?_)
    ·refine⟨?_,?_,?_,?_⟩<;>first|(go_simp;done)|(exact cL8 (by assumption) (by go_simp))
    clear hK;refine tlN 15 32 rfl rfl ?_;refine tlY 16 33 rfl rfl ?_;refine tlY 17 34 rfl rfl ?_;refine tlN 18 35 rfl rfl ?_;refine tlN 19 36 rfl rfl ?_;refine tlN 20 37 rfl rfl ?_;refine tlN 21 38 rfl rfl ?_;refine tlN 22 39 rfl rfl ?_;refine tlN 23 40 rfl rfl ?_;refine tlN 24 41 rfl rfl ?_;refine tlN 25 42 rfl rfl ?_;refine tlN 26 43 rfl rfl ?_;refine tlN 27 44 rfl rfl ?_;refine tlN 28 45 rfl rfl ?_;refine tlN 29 46 rfl rfl ?_;refine rdH 30 rfl fun K hK=>?_;go_simp;refine hK.out _ _ ?_ (fun hHeld30=>?_)
    ·refine⟨?_,?_,?_,?_⟩<;>first|(go_simp;done)|(exact cL8 (by assumption) (by go_simp))
    clear hK;refine tlN 31 48 rfl rfl ?_;refine tlN 32 49 rfl rfl ?_;refine tlY 33 50 rfl rfl ?_;refine wpAnyH_done (by kernel_rfl) ?_ _;go_wp2;go_returns;refine⟨rB8 ?_,bela⟩;unfold okBag;rw[HE.out,HS.out,HN.out];simp
   have hn1:(x.n==0)=false:=by simpa using hn0
   by_cases hcn:(decide (-1000000000≤x.n) &&decide (x.n≤1000000000))=true;rotate_left
   ·have HN:Hid (okN x.n=false):=okN_out hcn;have hcf:(decide (-1000000000≤x.n) &&decide (x.n≤1000000000))=false:=by simpa using hcn
    subst hq;clear ha hw hL hx hn0 hcn;go_wp2_with fail;refine wp_region_held_drew (S:=(fun w'=>w'.cell? ⟨w.heap.size,0,none⟩=some (.int .i64 W)∧w'.cell? ⟨w.heap.size,1,none⟩=some (.slice (some ⟨b,o,none⟩) cs.length c)∧w'.cell? ⟨wr.heap.size,0,none⟩=some (.slice ur lr cr)∧w'.cell? ⟨wr.heap.size,1,none⟩=some (.int .i64 x.n))) (by kernel_rfl) ?_ (fun hHeld=>?_)
    ·refine⟨?_,?_,?_,?_⟩<;>first|(go_simp;done)|(exact cL8 (by assumption) (by go_simp))
    refine tlY 0 17 rfl rfl ?_;refine tlY 1 18 rfl rfl ?_;refine tlY 2 19 rfl rfl ?_;refine tlY 3 20 rfl rfl ?_;refine rdH 4 rfl fun K hK=>?_;go_simp;go_at_call 48;refine cM8 (l02Row_any (.slice ur lr cr) x.r W _ (hR.below bela) hxw) ?_;rintro e w1 ⟨rfl,hb1⟩;have hz1:=hb1.size;(try simp at hz1);try go_wp2_with fail
    refine hK.out _ _ ?_ (fun hHeld4=>?_)
    ·refine⟨?_,?_,?_,?_⟩<;>first|(go_simp;done)|(exact cL8 (by assumption) (by go_simp))
    clear hK;refine tlY 5 22 rfl rfl ?_;refine tlY 6 23 rfl rfl ?_;refine tlY 7 24 rfl rfl ?_;refine tlY 8 25 rfl rfl ?_;refine tlY 9 26 rfl rfl ?_;refine tlY 10 27 rfl rfl ?_;refine tlY 11 28 rfl rfl ?_;refine tlY 12 29 rfl rfl ?_;refine tlY 13 30 rfl rfl ?_;refine rdH 14 rfl fun K hK=>?_;go_simp;go_at_call 43;refine cM8 (l01In_any x.n (-1000000000) 1000000000 _) ?_;rintro e w2 ⟨rfl,hb2⟩;have hz2:=hb2.size;(try simp at hz2);try go_wp2_with fail
    refine hK.out _ _ ?_ (fun hHeld14=>?_)
    ·refine⟨?_,?_,?_,?_⟩<;>first|(go_simp;done)|(exact cL8 (by assumption) (by go_simp))
    clear hK;refine tlY 15 32 rfl rfl ?_;refine tlY 16 33 rfl rfl ?_;refine tlY 17 34 rfl rfl ?_;refine tlN 18 35 rfl rfl ?_;refine tlN 19 36 rfl rfl ?_;refine tlN 20 37 rfl rfl ?_;refine tlN 21 38 rfl rfl ?_;refine tlN 22 39 rfl rfl ?_;refine tlN 23 40 rfl rfl ?_;refine tlN 24 41 rfl rfl ?_;refine tlN 25 42 rfl rfl ?_;refine tlN 26 43 rfl rfl ?_;refine tlN 27 44 rfl rfl ?_;refine tlN 28 45 rfl rfl ?_;refine tlN 29 46 rfl rfl ?_;refine rdH 30 rfl fun K hK=>?_;go_simp;refine hK.out _ _ ?_ (fun hHeld30=>?_)
    ·refine⟨?_,?_,?_,?_⟩<;>first|(go_simp;done)|(exact cL8 (by assumption) (by go_simp))
    clear hK;refine tlN 31 48 rfl rfl ?_;refine tlN 32 49 rfl rfl ?_;refine tlY 33 50 rfl rfl ?_;refine wpAnyH_done (by kernel_rfl) ?_ _;go_wp2;go_returns;refine⟨rB8 ?_,bela⟩;unfold okBag;rw[HE.out,HS.out,HN.out];simp
   have HN:Hid (okN x.n=true):=okN_in hn0 hcn;clear hn0;rcases Nat.eq_zero_or_pos k with hk0|hk0
   ·subst hk0;obtain rfl:q=0:=by simpa using hq
    rw[Nat.zero_mul,Nat.add_zero]at c0;rw[Nat.zero_mul,Nat.add_zero]at c1;clear ha hw hL hx hq;go_wp2_with fail;refine wp_region_held_drew (S:=(fun w'=>w'.cell? ⟨w.heap.size,0,none⟩=some (.int .i64 W)∧w'.cell? ⟨w.heap.size,1,none⟩=some (.slice (some ⟨b,o,none⟩) cs.length c)∧w'.cell? ⟨wr.heap.size,0,none⟩=some (.slice ur lr cr)∧w'.cell? ⟨wr.heap.size,1,none⟩=some (.int .i64 x.n))) (by kernel_rfl) ?_ (fun hHeld=>?_)
    ·refine⟨?_,?_,?_,?_⟩<;>first|(go_simp;done)|(exact cL8 (by assumption) (by go_simp))
    refine tlY 0 17 rfl rfl ?_;refine tlY 1 18 rfl rfl ?_;refine tlY 2 19 rfl rfl ?_;refine tlY 3 20 rfl rfl ?_;refine rdH 4 rfl fun K hK=>?_;go_simp;go_at_call 48;refine cM8 (l02Row_any (.slice ur lr cr) x.r W _ (hR.below bela) hxw) ?_;rintro e w1 ⟨rfl,hb1⟩;have hz1:=hb1.size;(try simp at hz1);try go_wp2_with fail
    refine hK.out _ _ ?_ (fun hHeld4=>?_)
    ·refine⟨?_,?_,?_,?_⟩<;>first|(go_simp;done)|(exact cL8 (by assumption) (by go_simp))
    clear hK;refine tlY 5 22 rfl rfl ?_;refine tlY 6 23 rfl rfl ?_;refine tlY 7 24 rfl rfl ?_;refine tlY 8 25 rfl rfl ?_;refine tlY 9 26 rfl rfl ?_;refine tlY 10 27 rfl rfl ?_;refine tlY 11 28 rfl rfl ?_;refine tlY 12 29 rfl rfl ?_;refine tlY 13 30 rfl rfl ?_;refine rdH 14 rfl fun K hK=>?_;go_simp;go_at_call 43;refine cM8 (l01In_any x.n (-1000000000) 1000000000 _) ?_;rintro e w2 ⟨rfl,hb2⟩;have hz2:=hb2.size;(try simp at hz2);try go_wp2_with fail
    refine hK.out _ _ ?_ (fun hHeld14=>?_)
    ·refine⟨?_,?_,?_,?_⟩<;>first|(go_simp;done)|(exact cL8 (by assumption) (by go_simp))
    clear hK;refine tlY 15 32 rfl rfl ?_;refine tlY 16 33 rfl rfl ?_;refine tlY 17 34 rfl rfl ?_;refine tlY 18 35 rfl rfl ?_;refine tlY 19 36 rfl rfl ?_;refine tlY 20 37 rfl rfl ?_;refine tlN 21 38 rfl rfl ?_;refine tlN 22 39 rfl rfl ?_;refine tlN 23 40 rfl rfl ?_;refine tlN 24 41 rfl rfl ?_;refine tlN 25 42 rfl rfl ?_;refine tlN 26 43 rfl rfl ?_;refine tlN 27 44 rfl rfl ?_;refine tlN 28 45 rfl rfl ?_;refine tlN 29 46 rfl rfl ?_;refine rdH 30 rfl fun K hK=>?_;go_simp;refine hK.out _ _ ?_ (fun hHeld30=>?_)
    ·refine⟨?_,?_,?_,?_⟩<;>first|(go_simp;done)|(exact cL8 (by assumption) (by go_simp))
    clear hK;refine tlN 31 48 rfl rfl ?_;refine tlY 32 49 rfl rfl ?_;refine tlY 33 50 rfl rfl ?_;refine wpAnyH_done (by kernel_rfl) ?_ _;obtain⟨r0,r1,_⟩:=hHeld30;go_wp2
    go_roundw
    case rel=>
     refine⟨1,1,hlt,rfl,by simp,bela,by(first|omega|(simp;omega)),r0,r1,?_⟩;rw[HE.out,HS.out,hok,HN.out,prev_zero];simp[okPrev]
    case measure=>simp[intOf];omega
   ·obtain⟨j,rfl⟩:∃j,k=j+1:=⟨k -1,by omega⟩;obtain rfl:q=(j:Int)+1:=by omega
    obtain⟨y,t,hy,d0,hT,d1,_⟩:=hL.at hblt hb (show j<cs.length by omega);have HP:Hid (prev cs (j+1)=some y):=prev_succ hy;have HQ:Hid (okPrev (prev cs (j+1)) x=decide (cR8 y.r x.r<0)):=by rw[HP.out];rfl
    have hw1:IntKind.i64.wrap (j:Int)=j:=by rw[IntKind.wrap_i64];omega
    have hw2:IntKind.i64.wrap ((j:Int)+1 -1)=j:=by rw[IntKind.wrap_i64];omega
    have hi0:(0:Int)≤j:=by omega
    have hi1:(j:Int)<cs.length:=by omega
    have hi2:(0:Int)<(j:Int)+1:=by omega
    clear ha hw hL hx hy hq;go_wp2_with fail;go_region_held3 (fun w'=>w'.cell? ⟨w.heap.size,0,none⟩=some (.int .i64 W)∧w'.cell? ⟨w.heap.size,1,none⟩=some (.slice (some ⟨b,o,none⟩) cs.length c)∧w'.cell? ⟨wr.heap.size,0,none⟩=some (.slice ur lr cr)∧w'.cell? ⟨wr.heap.size,1,none⟩=some (.int .i64 x.n)∧w'.cell? ⟨b,o+j*2,none⟩=some t) (refine⟨?_,?_,?_,?_,?_⟩<;>first|(go_simp;done)|(exact cL8 (by assumption) (by go_simp))) (first|(go_at_call 48;refine cM8 (l02Row_any (.slice ur lr cr) x.r W _ (hR.below bela) hxw) ?_;rintro e w1 ⟨rfl,hb1⟩;have hz1:=hb1.size;(try simp at hz1))|(go_at_call 43;refine cM8 (l01In_any x.n (-1000000000) 1000000000 _) ?_;rintro e w2 ⟨rfl,hb2⟩;have hz2:=hb2.size;(try simp at hz2))|(go_at_call 49;refine cM8 (specRow_any t (.slice ur lr cr) y.r x.r _ (hT.below bela) (hR.below bela)) ?_;rintro e w3 ⟨rfl,hb3⟩;have hz3:=hb3.size;(try simp at hz3)))
    rename_i hHeld
    obtain⟨r0,r1,_⟩:=hHeld;by_cases hcmp:0≤cR8 y.r x.r
    ·go_wp2;go_returns;refine⟨rB8 ?_,bela⟩;unfold okBag;rw[HE.out,HS.out,HQ.out];simp[show ¬cR8 y.r x.r<0 from by omega]
    ·go_wp2
     go_roundw
     case rel=>
      refine⟨j+1+1,(j:Int)+1+1,hlt,by omega,by simp,bela,by(first|omega|(simp;omega)),r0,r1,?_⟩;rw[HE.out,HS.out,HQ.out,hok,HN.out];simp[show cR8 y.r x.r<0 from by omega]
     case measure=>simp[intOf];omega
  ·have HN:Hid (okCs W none cs=true):=by rw[HE.out,List.drop_eq_nil_of_le (by omega)];exact rfl
   clear ha hw;by_cases h0:(decide (0≤W) &&decide (W≤12))=true
   ·go_wp2_with(first|(go_at_call 43;refine cM8 (l01In_any W 0 12 _) ?_;rintro e w1 ⟨rfl,hb1⟩;have hz1:=hb1.size;have r1:w1.cell? ⟨w.heap.size,1,none⟩=some (.slice a cs.length c):=cL8 hb1 (by go_simp))|fail);all_goals go_returns
    all_goals refine⟨rB8 ?_,bela⟩
    all_goals(unfold okBag;rw[HN.out,h0,Bool.and_true,Bool.true_and])
    all_goals first|rfl|(simp;try omega)
   ·go_wp2_with(first|(go_at_call 43;refine cM8 (l01In_any W 0 12 _) ?_;rintro e w1 ⟨rfl,hb1⟩;have hz1:=hb1.size;have r1:w1.cell? ⟨w.heap.size,1,none⟩=some (.slice a cs.length c):=cL8 hb1 (by go_simp))|fail);all_goals go_returns
    all_goals refine⟨rB8 ?_,bela⟩
    all_goals(unfold okBag;rw[show(decide (0≤W) &&decide (W≤12))=false from by simpa using h0,Bool.false_and,Bool.false_and])
    all_goals first|rfl|(simp_all;try omega)
end
section
open Go.RowKit
theorem okCs_all:∀ {W:Int} {p:Option C2} {cs:List C2},okCs W p cs=true→Asc cs∧(∀y,p=some y→∀c∈cs,cR8 y.r c.r<0)∧∀c∈cs,okRow c.r W=true∧okN c.n=true
 |W,p,[],_=>⟨List.Pairwise.nil,fun _ _ _ h=>(by cases h),fun _ h=>(by cases h)⟩
 |W,p,x::xs,h=>by
  simp only[okCs,Bool.and_eq_true]at h;obtain⟨⟨⟨h1,h2⟩,h3⟩,h4⟩:=h;obtain⟨a1,a2,a3⟩:=okCs_all h4;refine⟨List.pairwise_cons.2 ⟨a2 x rfl,a1⟩,fun y hy c hc=>?_,fun c hc=>?_⟩
  ·subst hy;have h5:cR8 y.r x.r<0:=by simpa [okPrev]using h3
   rcases List.mem_cons.1 hc with rfl|hc
   ·exact h5
   ·exact cmpRow_trans h5 (a2 x rfl c hc)
  ·rcases List.mem_cons.1 hc with rfl|hc
   ·exact⟨h1,h2⟩
   ·exact a3 c hc
theorem okBag_all {W:Int}{cs:List C2}(h:okBag W cs=true)(hw:CsWf cs):0≤W∧W≤12∧cs.length≤400∧Asc cs∧∀c∈cs,gR8 W c.r∧c.n≠0∧ -1000000000≤c.n∧c.n≤1000000000:=by
 simp only[okBag,Bool.and_eq_true,decide_eq_true_eq]at h;obtain⟨⟨⟨h1,h2⟩,h3⟩,h4⟩:=h;obtain⟨a1,_,a3⟩:=okCs_all h4;refine⟨h1,h2,h3,a1,fun c hc=>?_⟩;obtain⟨b1,b2⟩:=a3 c hc;simp only[okN,Bool.and_eq_true,decide_eq_true_eq]at b2;exact⟨⟨b1,(hw c hc).1⟩,b2.1.1,b2.1.2,b2.2⟩
theorem cntC_out {W:Int}{cs:List C2}{r:List V3}(h:∀c∈cs,gR8 W c.r)(hr:¬gR8 W r):cntC cs r=0:=cntC_none fun c hc e=>hr (e▸h c hc)
theorem totC_sum (ds:List C2)(q:List V3):(ds.map fun x=>if cR8 x.r q=0 then 1*x.n else 0).sum=totC ds q:=by
 induction ds with
 |nil=>rfl
 |cons x xs ih=>rw[List.map_cons,List.sum_cons,ih,totC,Int.one_mul]
theorem ordered_sum {W:Int}{cs ds xs:List C2}(hc:okBag W cs=true)(hd:okBag W ds=true)(wc:CsWf cs)(wd:CsWf ds)(h:OrderedOf W (cs++ds) xs):xs=sumC cs ds 1:=by
 obtain⟨_,_,_,ac,gc⟩:=okBag_all hc wc;obtain⟨_,_,_,ad,gd⟩:=okBag_all hd wd;obtain⟨s1,s2,s3⟩:=sumC_all (n:=1) (ds:=ds) ac (fun c hc=>(gc c hc).2.1);refine asc_ext h.asc s1 (fun c hc=>(h.good c hc).1) s2 fun r=>?_;rw[s3,totC_sum];by_cases hr:gR8 W r
 ·rw[←totC_asc r h.asc,h.tot r hr,totC_app,totC_asc r ac]
 ·rw[cntC_out (fun c hc=>(h.good c hc).2) hr,cntC_out (fun c hc=>(gc c hc).1) hr,totC_none (r:=r) fun c hc e=>hr (e▸ (gd c hc).1)];rfl
theorem pw_to {α:Type}{R S:α→α→Prop}(f:∀a b,R a b→S a b):∀ {l:List α},l.Pairwise R→l.Pairwise S
 | [],_=>List.Pairwise.nil
 |a::l,h=>by
  cases h with
  |cons h1 h2=>exact List.Pairwise.cons (fun b hb=>f a b (h1 b hb)) (pw_to f h2)
theorem wf_small {n:Int}(h: -9223372036854775808≤n∧n≤9223372036854775807):(Lit.int .i64 n).wf=true:=by
 have e1:IntKind.i64.min= -9223372036854775808:=rfl;have e2:IntKind.i64.max=9223372036854775807:=rfl;simp[Lit.wf,e1,e2];omega
end
end Go.Proofs.YtflokiejcjjbiaaGreat
