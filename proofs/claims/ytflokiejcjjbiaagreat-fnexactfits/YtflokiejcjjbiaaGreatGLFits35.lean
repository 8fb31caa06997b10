/- Own texts, joined: contracts that the law's proof goes by. -/
import Derived.Test.YtflokiejcjjbiaaGreatGLFits7
import Derived.Test.YtflokiejcjjbiaaGreatGLFits2
import Derived.Handy
import Derived.Test.YtflokiejcjjbiaaGreatGLFits12
import Derived.Test.YtflokiejcjjbiaaGreatGLFits24
import Derived.Test.YtflokiejcjjbiaaGreatGLFits31
import Derived.Test.YtflokiejcjjbiaaGreatGLFits29
import Derived.Test.YtflokiejcjjbiaaGreatGLFits37
import Derived.Deep.RegionHeld3
set_option maxHeartbeats 16000000
set_option maxRecDepth 100000
set_option linter.unusedVariables false
set_option linter.unusedSimpArgs false
namespace Go.Proofs.YtflokiejcjjbiaaGreat
section
open Go.RowKit
theorem l01In_is (n a b:Int)(w:World):Calls Tryz.prog 43 #[.int .i64 n,.int .i64 a,.int .i64 b] w fun e w'=>e=.returned (.bool (decide (a≤n) &&decide (n≤b)))∧Below w.heap.size w w':=by
 by_cases h1:a≤n
 ·go_enter Tryz.func43,Tryz.ntmps43;go_wp2;go_returns;exact⟨rB8 (by simp[h1]),by go_grown⟩
 ·go_enter Tryz.func43,Tryz.ntmps43;go_wp2;go_returns;exact⟨rB8 (by simp;omega),by go_grown⟩
theorem colB_in (n:Int):(decide (0≤n) &&decide (n≤11))=colB n:=by unfold colB;congr 1;rw[decide_eq_decide];omega
theorem l01In_col (n:Int)(w:World):Calls Tryz.prog 43 #[.int .i64 n,.int .i64 0,.int .i64 11] w fun e w'=>e=.returned (.bool (colB n))∧Below w.heap.size w w':=by
 rw[←colB_in];exact l01In_is n 0 11 w
theorem l03Has_ops (b:Nat)(p:ByteArray)(w:World)(hlt:b<w.heap.size)(h:∀i q,ops9[i]?=some q→w.cell? ⟨b,0+i,none⟩=some (.string q)):Calls Tryz.prog 120 #[.slice (some ⟨b,0,none⟩) 9 9,.string p] w fun e w'=>e=.returned (.bool (opB p))∧Below w.heap.size w w':=
 l03Has_any b 0 9 ops9 p w (by decide) (by omega) hlt h
theorem cells9 {w:World}{b:Nat}{t:TypeId}{m:Nat×Nat}(h:w.heap[b]?=some (.cells #[.string ⟨#[43]⟩,.string ⟨#[45]⟩,.string ⟨#[42]⟩,.string ⟨#[47]⟩,.string ⟨#[61]⟩,.string ⟨#[60]⟩,.string ⟨#[126]⟩,.string ⟨#[97,110,100]⟩,.string ⟨#[111,114]⟩] t m)):∀i q,ops9[i]?=some q→w.cell? ⟨b,0+i,none⟩=some (.string q):=by
 intro i q hq;have hi:i<9:=(gE1 hq).1
 match i,hi with
 |0,_=>cases hq;simp[World.cell?,h]
 |1,_=>cases hq;simp[World.cell?,h]
 |2,_=>cases hq;simp[World.cell?,h]
 |3,_=>cases hq;simp[World.cell?,h]
 |4,_=>cases hq;simp[World.cell?,h]
 |5,_=>cases hq;simp[World.cell?,h]
 |6,_=>cases hq;simp[World.cell?,h]
 |7,_=>cases hq;simp[World.cell?,h]
 |8,_=>cases hq;simp[World.cell?,h]
def OkS (f:Nat):Prop:=∀ (e:E7) (u:Value) (F:List Nat) (d:Nat) (w:World),e.wf→KidsIs w d u e.ks F→
  Calls Tryz.prog 96 #[(.agg #[.int .i64 e.k,.int .i64 e.n,.int .i64 e.v.k,.int .i64 e.v.n,.string e.v.s,.string e.p,u]),.int .i64 (f -1)] w fun x w'=>x=.returned (.bool (okE f e))∧Below w.heap.size w w'
theorem l03Right_zero:OkS 0:=by
 intro e u F d w hw hk;obtain⟨a,c,rfl,_,_⟩:=hk.shape;simp only[okE];go_enter Tryz.func96,Tryz.ntmps96;go_wp2;go_returns;exact⟨rfl,bex⟩
theorem l03Right_step {f:Nat}(hf:f<13)(hI:OkS f):OkS (f+1):=by
 intro e u F d w hw hk;obtain⟨d,rfl⟩:∃d',d=d'+1:=by cases d with|zero=>exact hk.elim|succ d=>exact⟨d,rfl⟩
 obtain⟨a,c,b,o,G,rfl,hl,hc,hG,_,ha⟩:=hk.pick;have hml:e.ks.length≤maxLen:=by omega
 have hsm:e.v.s.size≤maxLen:=hw.2.2.1.2.2;unfold maxLen at hc;obtain⟨t,ht⟩:∃t:Int,t=((f+1:Nat):Int) -1:=⟨_,rfl⟩;rw[←ht];have ht0:0≤t:=by omega
 have ht1:t≤12:=by omega
 have HT:Hid (t -1=(f:Int) -1):=by show _=_;omega
 have HO:Hid (okE (f+1) e=(partsB e &&e.ks.all (okE f))):=rfl;have hI2:∀ (e:E7) (u:Value) (F:List Nat) (d:Nat) (w:World),e.wf→KidsIs w d u e.ks F→ Calls Tryz.prog 96 #[(.agg #[.int .i64 e.k,.int .i64 e.n,.int .i64 e.v.k,.int .i64 e.v.n,.string e.v.s,.string e.p,u]),.int .i64 (t -1)] w fun x w'=>x=.returned (.bool (okE f e))∧Below w.heap.size w w':=by rw[HT.out];exact hI
 clear ht hf hI HT;go_enter Tryz.func96,Tryz.ntmps96;go_wp2;go_loopw [5] (fun i wr=> ∃k:Nat,k≤e.ks.length∧i=.int .i64 k∧e.ks.all (okE f)=(e.ks.drop k).all (okE f)∧Below (w.alloc (.cells #[.int .i64 e.k,.int .i64 e.n,.int .i64 e.v.k,.int .i64 e.v.n,.string e.v.s,.string e.p,.slice a e.ks.length c] 39)).heap.size (w.alloc (.cells #[.int .i64 e.k,.int .i64 e.n,.int .i64 e.v.k,.int .i64 e.v.n,.string e.v.s,.string e.p,.slice a e.ks.length c] 39)) wr) (fun i _=>e.ks.length - (intOf i).toNat)
 case atStart=>exact⟨0,Nat.zero_le _,rfl,by simp,Below.refl _ _⟩
 case round=>
  obtain⟨k,hkk,rfl,hal,hb⟩:=hrel;have hzb:=hb.size;simp only[World.size_alloc]at hzb;have q6:wr.cell? ⟨w.heap.size,6,none⟩=some (.slice a e.ks.length c):=cL8 hb (by go_simp);have bel:Below w.heap.size w wr:=bex;by_cases hlt:k<e.ks.length
  ·obtain⟨rfl,hblt,_,hL⟩:=ha k hlt;obtain⟨x,g,u,hx,hg,hxw,⟨c0,c1,c2,c3,c4,c5⟩,c6,hK,hbr⟩:=hL.at hG hblt bel hlt;obtain⟨ax,cx,rfl,_,_⟩:=hK.shape;have HS:Hid (e.ks.all (okE f)=(okE f x && (e.ks.drop (k+1)).all (okE f))):=by show _=_;rw[hal,allE_step hx]
   clear ha hL hx hal;go_wp2_with fail;refine cM8 (hI2 x (.slice ax x.ks.length cx) g d _ hxw (hK.below ?hb)) ?_
   case hb=>exact bex
   rintro y w2 ⟨rfl,hb2⟩;have hz2:=hb2.size;have hbn:=hb.trans (hb2.mono (by simp;omega));have bel2:Below w.heap.size w w2:=bex;cases hX:okE f x with
   |false=>
    have HX:Hid (okE (f+1) e=false):=by show _=_;rw[HO.out,HS.out,hX];simp
    clear hX;go_wp2;go_returns;exact⟨rB8 HX.out.symm,bel2⟩
   |true=>
    have HX:Hid (e.ks.all (okE f)=(e.ks.drop (k+1)).all (okE f)):=by show _=_;rw[HS.out,hX];rfl
    clear hX;go_wp2;exact⟨⟨k+1,hlt,by simp,HX.out,hbn⟩,by simp[intOf];omega⟩
  ·have HP:Hid (okE (f+1) e=partsB e):=by show _=_;rw[HO.out,hal,List.drop_eq_nil_of_le (by omega)];simp
   have q0:wr.cell? ⟨w.heap.size,0,none⟩=some (.int .i64 e.k):=cL8 hb (by go_simp);have q1:wr.cell? ⟨w.heap.size,1,none⟩=some (.int .i64 e.n):=cL8 hb (by go_simp);have q2:wr.cell? ⟨w.heap.size,2,none⟩=some (.int .i64 e.v.k):=cL8 hb (by go_simp);have q3:wr.cell? ⟨w.heap.size,3,none⟩=some (.int .i64 e.v.n):=cL8 hb (by go_simp);have q4:wr.cell? ⟨w.heap.size,4,none⟩=some (.string e.v.s):=cL8 hb (by go_simp);have q5:wr.cell? ⟨w.heap.size,5,none⟩=some (.string e.p):=cL8 hb (by go_simp);have hq:=eqV;have hy:w.heap.size<wr.heap.size:=by omega
   obtain rfl:k=e.ks.length:=by omega
   clear ha hb hI2 HO hal hkk hw hk;by_cases h0:e.k=0
   ·rw[partsB_0 h0]at HP;rw[h0]at q0;clear h0;go_wp2_with fail;all_goals(
     refine cM8 (l01In_col _ _) ?_;rintro x w1 ⟨rfl,hb1⟩;have hz1:=hb1.size;have r2:w1.cell? ⟨w.heap.size,2,none⟩=some (.int .i64 e.v.k):=cL8 hb1 (by go_simp);have r3:w1.cell? ⟨w.heap.size,3,none⟩=some (.int .i64 e.v.n):=cL8 hb1 (by go_simp);have r4:w1.cell? ⟨w.heap.size,4,none⟩=some (.string e.v.s):=cL8 hb1 (by go_simp);have r5:w1.cell? ⟨w.heap.size,5,none⟩=some (.string e.p):=cL8 hb1 (by go_simp);have r6:w1.cell? ⟨w.heap.size,6,none⟩=some (.slice a e.ks.length c):=cL8 hb1 (by go_simp);have bel1:Below w.heap.size w w1:=bex;generalize hB:colB _=b1;have HB:Hid _:=hB;clear hb1 hB q0 q1 q2 q3 q4 q5 q6;go_wp2;all_goals(go_returns;exact⟨rB8 (by clear hq;have hB:=HB.out;rw[HP.out];simp_all [zeroV,mb0]),bex⟩))
   by_cases h1:e.k=1
   ·rw[partsB_1 h1]at HP;rw[h1]at q0;clear h1 h0;go_wp2_with fail;all_goals(
     refine cM8 (specValueOk_any _ _ _ _ hsm) ?_;rintro x w1 ⟨rfl,hb1⟩;have hz1:=hb1.size;have r1:w1.cell? ⟨w.heap.size,1,none⟩=some (.int .i64 e.n):=cL8 hb1 (by go_simp);have r5:w1.cell? ⟨w.heap.size,5,none⟩=some (.string e.p):=cL8 hb1 (by go_simp);have r6:w1.cell? ⟨w.heap.size,6,none⟩=some (.slice a e.ks.length c):=cL8 hb1 (by go_simp);have bel1:Below w.heap.size w w1:=bex;generalize hB:okB _ _ _=b1;have HB:Hid _:=hB;clear hb1 hB q0 q1 q2 q3 q4 q5 q6;go_wp2;all_goals(go_returns;exact⟨rB8 (by clear hq;have hB:=HB.out;rw[HP.out];simp_all [mb0]),bex⟩))
   by_cases h2:e.k=2
   ·rw[partsB_2 h2]at HP;rw[h2]at q0;clear h2 h1 h0;go_wp2_with fail
    ·refine cM8 (l03Has_ops _ e.p _ ?hlt ?hcells) ?_
     case hlt=>simp
     case hcells=>exact cells9 (heap_alloc_new wr _)
     rintro x w1 ⟨rfl,hb1⟩;have hz1:=hb1.size;simp only[World.size_alloc]at hz1;have bel1:Below w.heap.size w w1:=bex;generalize hB:opB e.p=b1;have HB:Hid _:=hB;clear hb1 hB q0 q1 q2 q3 q4 q5 q6;go_wp2;all_goals(go_returns;exact⟨rB8 (by clear hq;have hB:=HB.out;rw[HP.out];first|(simp_all [zeroV];done)|(simp_all [zeroV];intros;omega)),bex⟩)
    all_goals(go_returns;exact⟨rB8 (by clear hq;rw[HP.out];first|(simp_all [zeroV];done)|(simp_all [zeroV];intros;omega)),bex⟩)
   by_cases h3:e.k=3
   ·rw[partsB_3 h3]at HP;rw[h3]at q0;clear h3 h2 h1 h0;go_wp2;all_goals(go_returns;exact⟨rB8 (by clear hq;rw[HP.out];simp_all [zeroV,mb1]),bex⟩)
   by_cases h4:e.k=4
   ·rw[partsB_4 h4]at HP;rw[h4]at q0;clear h4 h3 h2 h1 h0;go_wp2;all_goals(go_returns;exact⟨rB8 (by clear hq;rw[HP.out];simp_all [zeroV,mb1]),bex⟩)
   rw[partsB_x h0 h1 h2 h3 h4]at HP;go_wp2;all_goals(go_returns;exact⟨rB8 HP.out.symm,bex⟩)
theorem l03Right_any:∀f,f≤13→OkS f
 |0,_=>l03Right_zero
 |f+1,h=>l03Right_step (by omega) (l03Right_any f (by omega))
theorem specExpOk_any (e:E7)(u:Value)(F:List Nat)(d:Nat)(w:World)(hw:e.wf)(hk:KidsIs w d u e.ks F):Calls Tryz.prog 69 #[(.agg #[.int .i64 e.k,.int .i64 e.n,.int .i64 e.v.k,.int .i64 e.v.n,.string e.v.s,.string e.p,u])] w fun x w'=>x=.returned (.bool (okE 13 e))∧Below w.heap.size w w':=by
 have hI:=l03Right_any 13 (Nat.le_refl _);have hI2:∀ (e:E7) (u:Value) (F:List Nat) (d:Nat) (w:World),e.wf→KidsIs w d u e.ks F→ Calls Tryz.prog 96 #[(.agg #[.int .i64 e.k,.int .i64 e.n,.int .i64 e.v.k,.int .i64 e.v.n,.string e.v.s,.string e.p,u]),.int .i64 12] w fun x w'=>x=.returned (.bool (okE 13 e))∧Below w.heap.size w w':=hI;clear hI;obtain⟨a,c,rfl,_,_⟩:=hk.shape;go_enter Tryz.func69,Tryz.ntmps69;go_wp2_with fail;refine cM8 (hI2 e (.slice a e.ks.length c) F d _ hw (hk.below ?hb)) ?_
 case hb=>exact bex
 rintro y w2 ⟨rfl,hb2⟩;have hz2:=hb2.size;simp at hz2;go_wp2;go_returns;exact⟨rfl,bex⟩
end
section
open Go.RowKit
def EvS (f:Nat):Prop:=∀ (m:Int) (e:E7) (u:Value) (F:List Nat) (d:Nat) (v:Value) (vs:List V3) (r:V3) (w:World),e.wf→KidsIs w d u e.ks F→RowIs w v vs→Res m f e vs r→
  Calls Tryz.prog 97 #[(.agg #[.int .i64 e.k,.int .i64 e.n,.int .i64 e.v.k,.int .i64 e.v.n,.string e.v.s,.string e.p,u]),v] w fun x w'=>x=.returned (.agg #[.int .i64 r.k,.int .i64 r.n,.string r.s])∧Below w.heap.size w w'
theorem one_lt {l:List E7}{x:E7}(h:l=[x]):0<l.length:=by rw[h];exact Nat.one_pos
theorem l03Eval_zero:EvS 0:=fun _ _ _ _ _ _ _ _ _ _ _ _ h=>h.elim
theorem l03Eval_0 {e:E7}{u:Value}{F:List Nat}{d:Nat}{v:Value}{vs:List V3}{w:World}(hw:e.wf)(hk:KidsIs w d u e.ks F)(hv:RowIs w v vs)(h0:e.k=0)(hn:0≤e.n):Calls Tryz.prog 97 #[(.agg #[.int .i64 e.k,.int .i64 e.n,.int .i64 e.v.k,.int .i64 e.v.n,.string e.v.s,.string e.p,u]),v] w fun x w'=>x=.returned (.agg #[.int .i64 (vs.getD e.n.toNat zeroR).k,.int .i64 (vs.getD e.n.toNat zeroR).n,.string (vs.getD e.n.toNat zeroR).s])∧Below w.heap.size w w':=by
 obtain⟨a,c,rfl,_,hc⟩:=hk.shape;obtain⟨a',c',b',o',rfl,hl',hc',ha'⟩:=hv.pick;unfold maxLen at hc hc';clear hk hv;by_cases hlt:e.n.toNat<vs.length
 ·obtain⟨rfl,hblt,hL⟩:=ha' _ hlt;obtain⟨N,hN⟩:∃N:Nat,e.n=N:=⟨e.n.toNat,by omega⟩;have hNt:e.n.toNat=N:=by omega
  rw[hNt]at hlt⊢;obtain⟨x,hx,c0,c1,c2,hbr⟩:=hL.at hblt (Below.refl _ _) hlt;rw[List.getD_eq_getElem?_getD,hx,hN,h0];have hlt2:(N:Int)<vs.length:=by omega
  simp only[Option.getD_some];clear ha' hL hx hw;go_enter Tryz.func97,Tryz.ntmps97;go_wp2;go_returns;exact⟨rfl,bex⟩
 ·rw[List.getD_eq_getElem?_getD,List.getElem?_eq_none (by omega),h0];have hge:(vs.length:Int)≤e.n:=by omega
  clear ha' hw;go_enter Tryz.func97,Tryz.ntmps97;go_wp2;go_returns;exact⟨rfl,bex⟩
theorem l03Eval_1 {e:E7}{u:Value}{F:List Nat}{d:Nat}{v:Value}{vs:List V3}{w:World}(hw:e.wf)(hk:KidsIs w d u e.ks F)(hv:RowIs w v vs)(h0:e.k=1):Calls Tryz.prog 97 #[(.agg #[.int .i64 e.k,.int .i64 e.n,.int .i64 e.v.k,.int .i64 e.v.n,.string e.v.s,.string e.p,u]),v] w fun x w'=>x=.returned (.agg #[.int .i64 e.v.k,.int .i64 e.v.n,.string e.v.s])∧Below w.heap.size w w':=by
 obtain⟨a,c,rfl,_,hc⟩:=hk.shape;rw[h0];clear hk hw;go_enter Tryz.func97,Tryz.ntmps97;go_wp2;go_returns;exact⟨rfl,bex⟩
theorem l03Eval_3 {m:Int}{f:Nat}(hI:EvS f){e x:E7}{r:V3}{u:Value}{F:List Nat}{d:Nat}{v:Value}{vs:List V3}{w:World}(hw:e.wf)(hk:KidsIs w d u e.ks F)(hv:RowIs w v vs)(h0:e.k=3)(hx:e.ks=[x])(hr:Res m f x vs r):Calls Tryz.prog 97 #[(.agg #[.int .i64 e.k,.int .i64 e.n,.int .i64 e.v.k,.int .i64 e.v.n,.string e.v.s,.string e.p,u]),v] w fun y w'=>y=.returned (.agg #[.int .i64 (notK r.k r.n),.int .i64 (notN r.k r.n),.string ⟨#[]⟩])∧Below w.heap.size w w':=by
 obtain⟨d,rfl⟩:=hk.succ;obtain⟨a,c,b,o,G,rfl,hl,hc,hG,_,ha⟩:=hk.pick;obtain⟨rfl,hblt,_,hL⟩:=ha 0 (one_lt hx);obtain⟨x',g,u,hx',hg,hxw,⟨c0,c1,c2,c3,c4,c5⟩,c6,hK,hbr⟩:=hL.at hG hblt (Below.refl _ _) (k:=0) (one_lt hx);obtain rfl:x=x':=by rw[hx]at hx';simpa using hx'
 obtain⟨ax,cx,rfl,_,_⟩:=hK.shape;obtain⟨a',c',hv'⟩:∃a' c',v=.slice a' vs.length c':=by obtain⟨a',c',b',o',h,_⟩:=hv.pick;exact⟨a',c',h⟩
 subst hv';unfold maxLen at hc;have hlen:e.ks.length=1:=by rw[hx];rfl
 rw[h0,hlen];simp only[Nat.zero_mul,Nat.add_zero]at c0 c1 c2 c3 c4 c5 c6;clear hk hw ha hL hx hx' h0 hlen hl hG;go_enter Tryz.func97,Tryz.ntmps97;go_wp2_with fail;refine cM8 (hI m x (.slice ax x.ks.length cx) g d (.slice a' vs.length c') vs r _ hxw (hK.below ?hb) (hv.below ?hb2) hr) ?_
 case hb=>exact bex
 case hb2=>exact bex
 rintro y w2 ⟨rfl,hb2⟩;have hz2:=hb2.size;simp at hz2;have bel2:Below w.heap.size w w2:=bex;have q0:w2.cell? ⟨w.heap.size+1,0,none⟩=some (.int .i64 0):=cL8 hb2 (by go_simp);have q1:w2.cell? ⟨w.heap.size+1,1,none⟩=some (.int .i64 0):=cL8 hb2 (by go_simp);have q2:w2.cell? ⟨w.heap.size+1,2,none⟩=some (.string ⟨#[]⟩):=cL8 hb2 (by go_simp);have f2:=(bc8 hb2).2;go_wp2_with fail;refine cM8 (specNot_any _ _ _ _) ?_;rintro y w3 ⟨rfl,hb3⟩;have hz3:=hb3.size;have bel3:Below w.heap.size w w3:=bex;have r0:w3.cell? ⟨w.heap.size+1,0,none⟩=some (.int .i64 0):=cL8 hb3 q0;have r1:w3.cell? ⟨w.heap.size+1,1,none⟩=some (.int .i64 0):=cL8 hb3 q1;have r2:w3.cell? ⟨w.heap.size+1,2,none⟩=some (.string ⟨#[]⟩):=cL8 hb3 q2;have f3:=(bc8 hb3).2;have hy:w.heap.size+1<w3.heap.size:=by omega
 have hy2:w.heap.size+1<w2.heap.size:=by omega
 clear hI hK hv hr hb2 hb3 q0 q1 q2 c0 c1 c2 c3 c4 c5 c6;go_wp2;refine bodyPost_ret (v:=.agg #[.int .i64 (notK r.k r.n),.int .i64 (notN r.k r.n),.string ⟨#[]⟩]) (by simp[results,Tryz.results97,go_sem, *]) rfl ⟨rfl,?_⟩;exact bex
theorem l03Eval_4 {m:Int}{f:Nat}(hI:EvS f){e x:E7}{r:V3}{u:Value}{F:List Nat}{d:Nat}{v:Value}{vs:List V3}{w:World}(hw:e.wf)(hk:KidsIs w d u e.ks F)(hv:RowIs w v vs)(h0:e.k=4)(hx:e.ks=[x])(hr:Res m f x vs r):Calls Tryz.prog 97 #[(.agg #[.int .i64 e.k,.int .i64 e.n,.int .i64 e.v.k,.int .i64 e.v.n,.string e.v.s,.string e.p,u]),v] w fun y w'=>y=.returned (.agg #[.int .i64 2,.int .i64 (nulN r.k),.string ⟨#[]⟩])∧Below w.heap.size w w':=by
 obtain⟨d,rfl⟩:=hk.succ;obtain⟨a,c,b,o,G,rfl,hl,hc,hG,_,ha⟩:=hk.pick;obtain⟨rfl,hblt,_,hL⟩:=ha 0 (one_lt hx);obtain⟨x',g,u,hx',hg,hxw,⟨c0,c1,c2,c3,c4,c5⟩,c6,hK,hbr⟩:=hL.at hG hblt (Below.refl _ _) (k:=0) (one_lt hx);obtain rfl:x=x':=by rw[hx]at hx';simpa using hx'
 obtain⟨ax,cx,rfl,_,_⟩:=hK.shape;obtain⟨a',c',hv'⟩:∃a' c',v=.slice a' vs.length c':=by obtain⟨a',c',b',o',h,_⟩:=hv.pick;exact⟨a',c',h⟩
 subst hv';unfold maxLen at hc;have hlen:e.ks.length=1:=by rw[hx];rfl
 rw[h0,hlen];simp only[Nat.zero_mul,Nat.add_zero]at c0 c1 c2 c3 c4 c5 c6;clear hk hw ha hL hx hx' h0 hlen hl hG;go_enter Tryz.func97,Tryz.ntmps97;go_wp2_with fail;refine cM8 (hI m x (.slice ax x.ks.length cx) g d (.slice a' vs.length c') vs r _ hxw (hK.below ?hb) (hv.below ?hb2) hr) ?_
 case hb=>exact bex
 case hb2=>exact bex
 rintro y w2 ⟨rfl,hb2⟩;have hz2:=hb2.size;simp at hz2;have bel2:Below w.heap.size w w2:=bex;have q0:w2.cell? ⟨w.heap.size+1,0,none⟩=some (.int .i64 0):=cL8 hb2 (by go_simp);have q1:w2.cell? ⟨w.heap.size+1,1,none⟩=some (.int .i64 0):=cL8 hb2 (by go_simp);have q2:w2.cell? ⟨w.heap.size+1,2,none⟩=some (.string ⟨#[]⟩):=cL8 hb2 (by go_simp);have f2:=(bc8 hb2).2;go_wp2_with fail;refine cM8 (specNul_any _ _ _ _) ?_;rintro y w3 ⟨rfl,hb3⟩;have hz3:=hb3.size;have bel3:Below w.heap.size w w3:=bex;have r0:w3.cell? ⟨w.heap.size+1,0,none⟩=some (.int .i64 0):=cL8 hb3 q0;have r1:w3.cell? ⟨w.heap.size+1,1,none⟩=some (.int .i64 0):=cL8 hb3 q1;have r2:w3.cell? ⟨w.heap.size+1,2,none⟩=some (.string ⟨#[]⟩):=cL8 hb3 q2;have f3:=(bc8 hb3).2;have hy:w.heap.size+1<w3.heap.size:=by omega
 have hy2:w.heap.size+1<w2.heap.size:=by omega
 clear hI hK hv hr hb2 hb3 q0 q1 q2 c0 c1 c2 c3 c4 c5 c6;go_wp2;refine bodyPost_ret (v:=.agg #[.int .i64 2,.int .i64 (nulN r.k),.string ⟨#[]⟩]) (by simp[results,Tryz.results97,go_sem, *]) rfl ⟨rfl,?_⟩;exact bex
theorem two_lt {l:List E7}{x y:E7}(h:l=[x,y]):0<l.length∧1<l.length:=by rw[h];exact⟨Nat.two_pos,Nat.one_lt_two⟩
theorem l03Eval_2 {m:Int}{f:Nat}(hI:EvS f){e x z:E7}{rx rz r:V3}{u:Value}{F:List Nat}{d:Nat}{v:Value}{vs:List V3}{w:World}(hw:e.wf)(hk:KidsIs w d u e.ks F)(hv:RowIs w v vs)(h0:e.k=2)(hx:e.ks=[x,z])(hrx:Res m f x vs rx)(hrz:Res m f z vs rz)(hB:RB m e.p rx rz r):Calls Tryz.prog 97 #[(.agg #[.int .i64 e.k,.int .i64 e.n,.int .i64 e.v.k,.int .i64 e.v.n,.string e.v.s,.string e.p,u]),v] w fun y w'=>y=.returned (.agg #[.int .i64 r.k,.int .i64 r.n,.string r.s])∧Below w.heap.size w w':=by
 obtain⟨d,rfl⟩:=hk.succ;obtain⟨a,c,b,o,G,rfl,hl,hc,hG,_,ha⟩:=hk.pick;obtain⟨rfl,hblt,_,hL⟩:=ha 0 (two_lt hx).1;obtain⟨x',g,u,hx',hg,hxw,⟨c0,c1,c2,c3,c4,c5⟩,c6,hK,hbr⟩:=hL.at hG hblt (Below.refl _ _) (k:=0) (two_lt hx).1;obtain rfl:x=x':=by rw[hx]at hx';simpa using hx'
 obtain⟨ax,cx,rfl,_,_⟩:=hK.shape;obtain⟨z',g',u',hz',hg',hzw,⟨d0,d1,d2,d3,d4,d5⟩,d6,hK',_⟩:=hL.at hG hblt (Below.refl _ _) (k:=1) (two_lt hx).2;obtain rfl:z=z':=by rw[hx]at hz';simpa using hz'
 obtain⟨az,cz,rfl,_,_⟩:=hK'.shape;obtain⟨a',c',hv'⟩:∃a' c',v=.slice a' vs.length c':=by obtain⟨a',c',b',o',h,_⟩:=hv.pick;exact⟨a',c',h⟩
 subst hv';unfold maxLen at hc;have hlen:e.ks.length=2:=by rw[hx];rfl
 rw[h0,hlen];simp only[Nat.zero_mul,Nat.one_mul,Nat.add_zero,Nat.add_assoc,Nat.reduceAdd]at c0 c1 c2 c3 c4 c5 c6 d0 d1 d2 d3 d4 d5 d6;obtain⟨hr0,_,hS⟩:=hB;clear hk hw ha hL hx hx' hz' h0 hlen hl hG hg hg' hr0;have hEx:∀ (W:World),Below w.heap.size w W→Calls Tryz.prog 97 #[(.agg #[.int .i64 x.k,.int .i64 x.n,.int .i64 x.v.k,.int .i64 x.v.n,.string x.v.s,.string x.p,(.slice ax x.ks.length cx)]),.slice a' vs.length c'] W fun q w'=>q=.returned (.agg #[.int .i64 rx.k,.int .i64 rx.n,.string rx.s])∧Below W.heap.size W w':= fun W hW=>hI m _ _ g d _ vs _ _ hxw (hK.below hW) (hv.below hW) hrx;have hEz:∀ (W:World),Below w.heap.size w W→Calls Tryz.prog 97 #[(.agg #[.int .i64 z.k,.int .i64 z.n,.int .i64 z.v.k,.int .i64 z.v.n,.string z.v.s,.string z.p,(.slice az z.ks.length cz)]),.slice a' vs.length c'] W fun q w'=>q=.returned (.agg #[.int .i64 rz.k,.int .i64 rz.n,.string rz.s])∧Below W.heap.size W w':= fun W hW=>hI m _ _ g' d _ vs _ _ hzw (hK'.below hW) (hv.below hW) hrz;clear hI hK hK' hv hrx hrz hxw hzw;go_enter Tryz.func97,Tryz.ntmps97;go_wp2_with fail;go_region_held3 (fun w'=>w'.cell? ⟨w.heap.size,5,none⟩=some (.string e.p)∧w'.cell? ⟨w.heap.size,6,none⟩=some (.slice (some ⟨b,o,none⟩) 2 c)∧w'.cell? ⟨b,o,none⟩=some (.int .i64 x.k)∧w'.cell? ⟨b,o+1,none⟩=some (.int .i64 x.n)∧w'.cell? ⟨b,o+2,none⟩=some (.int .i64 x.v.k)∧w'.cell? ⟨b,o+3,none⟩=some (.int .i64 x.v.n)∧w'.cell? ⟨b,o+4,none⟩=some (.string x.v.s)∧w'.cell? ⟨b,o+5,none⟩=some (.string x.p)∧w'.cell? ⟨b,o+6,none⟩=some (.slice ax x.ks.length cx)∧w'.cell? ⟨b,o+7,none⟩=some (.int .i64 z.k)∧w'.cell? ⟨b,o+8,none⟩=some (.int .i64 z.n)∧w'.cell? ⟨b,o+9,none⟩=some (.int .i64 z.v.k)∧w'.cell? ⟨b,o+10,none⟩=some (.int .i64 z.v.n)∧w'.cell? ⟨b,o+11,none⟩=some (.string z.v.s)∧w'.cell? ⟨b,o+12,none⟩=some (.string z.p)∧w'.cell? ⟨b,o+13,none⟩=some (.slice az z.ks.length cz)) (refine⟨?_,?_,?_,?_,?_,?_,?_,?_,?_,?_,?_,?_,?_,?_,?_,?_⟩<;>first|(go_simp;done)|(exact cL8 (by assumption) (by go_simp))) (first|(go_at_call 121;refine cM8 (hS _) ?_;rintro y w3 ⟨rfl,hb3⟩;have hz3:=hb3.size;(try simp at hz3);have qa3:w3.cell? ⟨w.heap.size+1,0,none⟩=some (.int .i64 0):=cL8 hb3 (by go_simp);have qb3:w3.cell? ⟨w.heap.size+1,1,none⟩=some (.int .i64 0):=cL8 hb3 (by go_simp);have qc3:w3.cell? ⟨w.heap.size+1,2,none⟩=some (.string ⟨#[]⟩):=cL8 hb3 (by go_simp);have qf3:=(bc8 hb3).2;have hy3:w.heap.size+1<w3.heap.size:=(by omega))|(go_at_call 97;(first|(with_reducible refine cM8 (hEx _ ?hb) ?_)|(with_reducible refine cM8 (hEz _ ?hb) ?_));(case hb=>exact bex);rintro y w1 ⟨rfl,hb1⟩;have hz1:=hb1.size;(try simp at hz1);have qa1:w1.cell? ⟨w.heap.size+1,0,none⟩=some (.int .i64 0):=cL8 hb1 (by go_simp);have qb1:w1.cell? ⟨w.heap.size+1,1,none⟩=some (.int .i64 0):=cL8 hb1 (by go_simp);have qc1:w1.cell? ⟨w.heap.size+1,2,none⟩=some (.string ⟨#[]⟩):=cL8 hb1 (by go_simp);have qf1:=(bc8 hb1).2;have hy1:w.heap.size+1<w1.heap.size:=(by omega)))
 clear hEx hEz hS;go_wp2;refine bodyPost_ret (v:=.agg #[.int .i64 r.k,.int .i64 r.n,.string r.s]) (by simp[results,Tryz.results97,go_sem, *]) rfl ⟨rfl,?_⟩;exact bex
theorem l03Eval_step {f:Nat}(hI:EvS f):EvS (f+1):=by
 intro m e u F d v vs r w hw hk hv hr;rcases hr with⟨h0,hn,rfl⟩|⟨h0,rfl⟩|⟨h0,x,z,rx,rz,hx,hrx,hrz,hB⟩|⟨h0,x,rx,hx,hrx,rfl⟩|⟨h0,x,rx,hx,hrx,rfl⟩
 ·exact l03Eval_0 hw hk hv h0 hn
 ·exact l03Eval_1 hw hk hv h0
 ·exact l03Eval_2 hI hw hk hv h0 hx hrx hrz hB
 ·exact l03Eval_3 hI hw hk hv h0 hx hrx
 ·exact l03Eval_4 hI hw hk hv h0 hx hrx
theorem l03Eval_any:∀f,EvS f
 |0=>l03Eval_zero
 |f+1=>l03Eval_step (l03Eval_any f)
theorem specEval_yes {m:Int}{e:E7}{u:Value}{F:List Nat}{d:Nat}{v:Value}{vs:List V3}{r:V3}{w:World}(hw:e.wf)(hk:KidsIs w d u e.ks F)(hv:RowIs w v vs)(h:okE 13 e=true)(hr:Res m 13 e vs r):Calls Tryz.prog 74 #[(.agg #[.int .i64 e.k,.int .i64 e.n,.int .i64 e.v.k,.int .i64 e.v.n,.string e.v.s,.string e.p,u]),v] w fun y w'=>y=.returned (.agg #[.int .i64 r.k,.int .i64 r.n,.string r.s])∧Below w.heap.size w w':=by
 obtain⟨a,c,rfl,_,_⟩:=hk.shape;obtain⟨a',c',hv'⟩:∃a' c',v=.slice a' vs.length c':=by obtain⟨a',c',b',o',h,_⟩:=hv.pick;exact⟨a',c',h⟩
 subst hv';have hO:∀W,Below w.heap.size w W→Calls Tryz.prog 69 #[(.agg #[.int .i64 e.k,.int .i64 e.n,.int .i64 e.v.k,.int .i64 e.v.n,.string e.v.s,.string e.p,(.slice a e.ks.length c)])] W fun x w'=>x=.returned (.bool true)∧Below W.heap.size W w':=fun W hW=>by
  rw[←h];exact specExpOk_any e _ F d W hw (hk.below hW)
 have hE:∀W,Below w.heap.size w W→Calls Tryz.prog 97 #[(.agg #[.int .i64 e.k,.int .i64 e.n,.int .i64 e.v.k,.int .i64 e.v.n,.string e.v.s,.string e.p,(.slice a e.ks.length c)]),.slice a' vs.length c'] W fun q w'=>q=.returned (.agg #[.int .i64 r.k,.int .i64 r.n,.string r.s])∧Below W.heap.size W w':= fun W hW=>l03Eval_any 13 m _ _ F d _ vs _ _ hw (hk.below hW) (hv.below hW) hr;clear hk hv hw h hr;go_enter Tryz.func74,Tryz.ntmps74;go_wp2_with fail;refine cM8 (hO _ ?hb) ?_
 case hb=>exact bex
 rintro y w2 ⟨rfl,hb2⟩;have hz2:=hb2.size;simp at hz2;have bel2:Below w.heap.size w w2:=bex;clear hO;have r20:w2.cell? ⟨w.heap.size+1,0,none⟩=some (.int .i64 0):=cL8 hb2 (by go_simp);have r21:w2.cell? ⟨w.heap.size+1,1,none⟩=some (.int .i64 0):=cL8 hb2 (by go_simp);have r22:w2.cell? ⟨w.heap.size+1,2,none⟩=some (.string ⟨#[]⟩):=cL8 hb2 (by go_simp);have f2:=(bc8 hb2).2;have hy2:w.heap.size+1<w2.heap.size:=by omega
 have q0:w2.cell? ⟨w.heap.size,0,none⟩=some (.int .i64 e.k):=cL8 hb2 (by go_simp);have q1:w2.cell? ⟨w.heap.size,1,none⟩=some (.int .i64 e.n):=cL8 hb2 (by go_simp);have q2:w2.cell? ⟨w.heap.size,2,none⟩=some (.int .i64 e.v.k):=cL8 hb2 (by go_simp);have q3:w2.cell? ⟨w.heap.size,3,none⟩=some (.int .i64 e.v.n):=cL8 hb2 (by go_simp);have q4:w2.cell? ⟨w.heap.size,4,none⟩=some (.string e.v.s):=cL8 hb2 (by go_simp);have q5:w2.cell? ⟨w.heap.size,5,none⟩=some (.string e.p):=cL8 hb2 (by go_simp);have q6:w2.cell? ⟨w.heap.size,6,none⟩=some (.slice a e.ks.length c):=cL8 hb2 (by go_simp);go_wp2_with fail;refine cM8 (hE _ bel2) ?_;rintro y w3 ⟨rfl,hb3⟩;have hz3:=hb3.size;have bel3:Below w.heap.size w w3:=bex;have r30:w3.cell? ⟨w.heap.size+1,0,none⟩=some (.int .i64 0):=cL8 hb3 (by go_simp);have r31:w3.cell? ⟨w.heap.size+1,1,none⟩=some (.int .i64 0):=cL8 hb3 (by go_simp);have r32:w3.cell? ⟨w.heap.size+1,2,none⟩=some (.string ⟨#[]⟩):=cL8 hb3 (by go_simp);have f3:=(bc8 hb3).2;have hy3:w.heap.size+1<w3.heap.size:=by omega
 clear hE hb2 hb3 q0 q1 q2 q3 q4 q5 q6;go_wp2;refine bodyPost_ret (v:=.agg #[.int .i64 r.k,.int .i64 r.n,.string r.s]) (by simp[results,Tryz.results74,go_sem, *]) rfl ⟨rfl,?_⟩;exact bex
end
section
open Go.RowKit Go.Deep Go.ChangeShapes Go.WideShapes
theorem l04Filter_any {m:Int}{V:E7→List V3→V3}(hV:VOk m V)(W:Int)(v:Value)(cs:List C2)(F:List Nat)(e:E7)(ue:Value)(Fe:List Nat)(D:Nat)(w:World)(hr:RowsF w v cs F)(hn:wtb cs≤1048576)(he:e.wf)(hok:okE 13 e=true)(hne:wtE e≤1048576)(hk0:KidsIs w D ue e.ks Fe)(hrow:∀c∈cs,RowV c.r):Calls Tryz.prog 51 #[.agg #[.int .i64 W,v],(.agg #[.int .i64 e.k,.int .i64 e.n,.int .i64 e.v.k,.int .i64 e.v.n,.string e.v.s,.string e.p,ue])] w fun q w'=>(∃u us G,q=.returned (.agg #[.int .i64 W,u])∧BagOwn w' w.heap.size u (filtC V e cs) us G)∧Below w.heap.size w w':=by
 obtain⟨ae,ce,rfl,_,_⟩:=hk0.shape;have hGE:GoodE e:=⟨he,hok,hne,w,D,_,Fe,hk0⟩;obtain⟨i0,hi,hz0,hz1,hz2⟩:=info_parts Tryz.infoCnt;obtain⟨a,c,b,o,G0,rfl,hl,hc,_,hG0,_,hC,ha⟩:=hr.pick;unfold maxLen at hc;clear hr;have hn1:cs.length≤1048576:=by unfold wtb at hn;omega
 go_enter Tryz.func51,Tryz.ntmps51;go_wp2;go_loopw [6] (fun i wr=> ∃ (k:Nat) (y:Value) (us:List Value) (G:List (List Nat)),k≤cs.length∧i=.int .i64 k∧Box7 wr (w.heap.size+1) e (.slice ae e.ks.length ce)∧wr.cell? ⟨w.heap.size,0,none⟩=some (.int .i64 W)∧wr.cell? ⟨w.heap.size,1,none⟩=some (.slice a cs.length c)∧wr.cell? ⟨w.heap.size+1+1+1,0,none⟩=some (.int .i64 W)∧wr.cell? ⟨w.heap.size+1+1+1,1,none⟩=some y∧(∀q,wr.frozen? ⟨w.heap.size+1+1+1,q,none⟩=false)∧wr.cell? ⟨w.heap.size+1+1,0,none⟩=some (.int .i64 0)∧wr.cell? ⟨w.heap.size+1+1,1,none⟩=some (.slice none 0 0)∧(∀q,wr.frozen? ⟨w.heap.size+1+1,q,none⟩=false)∧BagOwn wr (w.heap.size+1+1+1+1) y (filtC V e (cs.take k)) us G∧Below w.heap.size w wr∧w.heap.size+1+1+1+1≤wr.heap.size) (fun i _=>cs.length - (intOf i).toNat)
 case atStart=>
  refine⟨0,.slice none 0 0,[],[],Nat.zero_le _,rfl,⟨by simp,by go_simp,by go_simp,by go_simp,by go_simp,by go_simp,by go_simp,by go_simp⟩,by go_simp,by go_simp,by go_simp,by go_simp,fun q=>by go_simp,by go_simp,by go_simp,fun q=>by go_simp,BagOwn.nil _ _,bex,by simp⟩
 case round=>
  obtain⟨k,y,us,G,hk,rfl,hbx,b0,b1,p0,p1,pf,r0,r1,rf,hB,hb,hzb⟩:=hrel;by_cases hlt:k<cs.length
  ·obtain⟨rfl,hblt,_⟩:=ha k hlt;obtain⟨x,u0,g0,hx,_,c0,hR,c1,hbr⟩:=hC.at hG0 hblt hb hlt;obtain⟨a0,n0,rfl⟩:=hR.shape;have HX:Hid (cs[k]?=some x):=hx;have hxn:x.r.length≤1048576:=by have:=wt_mem (mg8 hx);unfold wt at this;unfold wtb at hn;omega
   have htk:(filtC V e (cs.take k)).length≤k:=Nat.le_trans (List.length_filter_le _ _) (by simp;omega);have hvl:=oL8 hB.own;have hv2:y.ownBlock≠some (w.heap.size+1+1+1):=fun e=>by have:=(hvl _ e).1;omega
   have hvr:y.ownBlock≠some (w.heap.size+1+1):=fun e=>by have:=(hvl _ e).1;omega
   have hvT:∀b,b≤w.heap.size+1→y.ownBlock≠some b:=fun b hb e=>by have:=(hvl _ e).1;omega
   have hkI:(k:Int)<cs.length:=by omega
   have hGl:=hB.lt;have HT:Hid (cs.take (k+1)=cs.take k++ [x]):=take_snoc hx;have hxV:RowV x.r:=hrow x (mg8 hx);have hml:(filtC V e (cs.take k)).length+1≤maxLen:=by unfold maxLen;omega
   have hby:((filtC V e (cs.take k)).length+1)*32≤140737488355328:=by omega
   have hEv:=fun(w2:World) (hb2:Below w.heap.size w w2)=>specEval_yes (w:=w2) (v:=.slice a0 x.r.length n0) he (hk0.below hb2) (vs:=x.r) (m:=m) (r:=V e x.r);clear ha hC hx htk hvl;obtain⟨_,x0,x1,x2,x3,x4,x5,x6⟩:=id hbx;obtain⟨vv,HVV⟩:∃q,Hid (V e x.r=q):=⟨_,rfl⟩;have hRes:=hV.res e x.r hGE hxV;rw[HVV.out]at hEv hRes;go_wp2_with fail;go_region_held3 (fun w'=>w'.cell? ⟨w.heap.size+1,0,none⟩=some (.int .i64 e.k)∧w'.cell? ⟨w.heap.size+1,1,none⟩=some (.int .i64 e.n)∧w'.cell? ⟨w.heap.size+1,2,none⟩=some (.int .i64 e.v.k)∧w'.cell? ⟨w.heap.size+1,3,none⟩=some (.int .i64 e.v.n)∧w'.cell? ⟨w.heap.size+1,4,none⟩=some (.string e.v.s)∧w'.cell? ⟨w.heap.size+1,5,none⟩=some (.string e.p)∧w'.cell? ⟨w.heap.size+1,6,none⟩=some (.slice ae e.ks.length ce)∧w'.cell? ⟨w.heap.size,1,none⟩=some (.slice (some ⟨b,o,none⟩) cs.length c)∧w'.cell? ⟨b,o+k*2,none⟩=some (.slice a0 x.r.length n0)) (refine⟨?_,?_,?_,?_,?_,?_,?_,?_,?_⟩<;>first|(with_reducible assumption)|(go_simp;done)|(exact cL8 (by assumption) (by go_simp))) (first|(go_at_call 74;refine cM8 (hEv _ bex (hR.below bex).is hok hRes) ?_;rintro z w4 ⟨rfl,hb4⟩;have hz4:=hb4.size;(try simp at hz4))|(go_at_call 73;refine cM8 (specIsTv_any vv _) ?_;rintro z w5 ⟨rfl,hb5⟩;have hz5:=hb5.size));have bel5:Below wr.heap.size wr w5:=bex;have hzw5:=bel5.size;have hb1':Below w.heap.size w w5:=hb.trans (bel5.mono hb.size);have hbx5:=hbx.below bel5;have hB5:=hB.below bel5;have hR5:=hR.below bel5;have b05:=((bc8 bel5).1 w.heap.size 0 (by omega)).trans b0;have b15:=((bc8 bel5).1 w.heap.size 1 (by omega)).trans b1
   have p05:=((bc8 bel5).1 (w.heap.size+1+1+1) 0 (by omega)).trans p0;have p15:=((bc8 bel5).1 (w.heap.size+1+1+1) 1 (by omega)).trans p1;have pf5:∀q,w5.frozen? ⟨w.heap.size+1+1+1,q,none⟩=false:=fun q=>((bc8 bel5).2 _ q (by omega)).trans (pf q);have r05:=((bc8 bel5).1 (w.heap.size+1+1) 0 (by omega)).trans r0;have r15:=((bc8 bel5).1 (w.heap.size+1+1) 1 (by omega)).trans r1;have rf5:∀q,w5.frozen? ⟨w.heap.size+1+1,q,none⟩=false:=fun q=>((bc8 bel5).2 _ q (by omega)).trans (rf q);have c05:=((bc8 bel5).1 b (o+k*2) (by omega)).trans c0;have c15:=((bc8 bel5).1 b (o+k*2+1) (by omega)).trans c1;have hzb5:w.heap.size+1+1+1+1≤w5.heap.size:=by omega
   have hbr5:b<w5.heap.size:=by omega
   clear x0 x1 x2 x3 x4 x5 x6 hbx hB hR b0 b1 p0 p1 pf r0 r1 rf c0 c1 hb4 hb5 hEv hRes bel5 hz4 hz5 hb hzb hbr;cases hT:isTV vv with
   |false=>
    have HT2:Hid (filtC V e (cs.take (k+1))=filtC V e (cs.take k)):=by
     show _=_;rw[HT.out];unfold filtC;rw[List.filter_append];simp[HVV.out,hT]
    rw[←HT2.out]at hB5;go_wp2_with fail;exact⟨⟨k+1,_,_,_,hlt,by simp,hbx5,b05,b15,p05,p15,pf5,r05,r15,rf5,hB5,hb1',hzb5⟩,by simp[intOf];omega⟩
   |true=>
    have HT2:Hid (filtC V e (cs.take (k+1))=filtC V e (cs.take k)++ [x]):=by
     show _=_;rw[HT.out];unfold filtC;rw[List.filter_append];simp[HVV.out,hT]
    clear hT HT;generalize filtC V e (cs.take k)=ct at*;go_wp2_with fail;refine startE 19 (fun w'=>w'.cell? ⟨w.heap.size+1+1+1,1,none⟩=some y∧w'.cell? ⟨w.heap.size,1,none⟩=some (.slice (some ⟨b,o,none⟩) cs.length c)∧w'.cell? ⟨b,o+k*2,none⟩=some (.slice a0 x.r.length n0)∧w'.cell? ⟨b,o+k*2+1,none⟩=some (.int .i64 x.n)) (by kernel_rfl) ?_ (fun hHeld=>?_)
    ·exact⟨p15,b15,c05,c15⟩
    refine tkE 0 26 rfl rfl ?_;refine tkE 1 27 rfl rfl ?_;refine tkE 2 28 rfl rfl ?_;refine tkE 3 29 rfl rfl ?_;refine tkE 4 30 rfl rfl ?_;refine tkE 5 31 rfl rfl ?_;refine tkE 6 32 rfl rfl ?_;refine tkE 7 33 rfl rfl ?_;refine tkE 9 35 rfl rfl ?_;refine tkE 10 36 rfl rfl ?_;refine tkE 11 37 rfl rfl ?_;refine tkE 12 38 rfl rfl ?_;refine tkE 13 39 rfl rfl ?_;refine tkE 14 40 rfl rfl ?_;refine onE 8 rfl fun K hK=>?_;go_simp;go_at_call 72;refine cM8 (l02CopyRow_any (.slice a0 x.r.length n0) x.r g0 _ (hR5.below ?hbb) hxn) ?_
    case hbb=>exact bex
    rintro e w2 ⟨⟨u2,g2,rfl,hR2,hO2⟩,hb2⟩;obtain⟨a2,n2,rfl⟩:=hR2.shape;have hzw2:=hb2.size;rw[show w5.drew.heap.size=w5.heap.size from rfl]at hzw2;have bel2:Below w5.heap.size w5 w2:=bex;have hB2:=hB5.below bel2;have pf2:∀q,w2.frozen? ⟨w.heap.size+1+1+1,q,none⟩=false:=fun q=>((bc8 bel2).2 _ q (by omega)).trans (pf5 q);have rf2:∀q,w2.frozen? ⟨w.heap.size+1+1,q,none⟩=false:=fun q=>((bc8 bel2).2 _ q (by omega)).trans (rf5 q);have p02:=((bc8 bel2).1 (w.heap.size+1+1+1) 0 (by omega)).trans p05;have p12:=((bc8 bel2).1 (w.heap.size+1+1+1) 1 (by omega)).trans p15;have r02:=((bc8 bel2).1 (w.heap.size+1+1) 0 (by omega)).trans r05;have r12:=((bc8 bel2).1 (w.heap.size+1+1) 1 (by omega)).trans r15;have b02:=((bc8 bel2).1 w.heap.size 0 (by omega)).trans b05;have b12:=((bc8 bel2).1 w.heap.size 1 (by omega)).trans b15;have c02:=((bc8 bel2).1 b (o+k*2) (by omega)).trans c05;have c12:=((bc8 bel2).1 b (o+k*2+1) (by omega)).trans c15;try go_wp2_with fail
    refine hK.out _ _ ?_ (fun hHeld8=>?_)
    ·intro _;exact⟨p12,b12,c02,c12⟩
    clear hK;replace hHeld8:=hHeld8 (by decide);refine tkE 15 41 rfl rfl ?_;refine onE 16 rfl fun K hK=>?_;go_simp;refine hK.out _ _ ?_ (fun hHeld16=>?_)
    ·intro _;exact⟨(cb8 (bA8 w2 _ _ (by omega))).trans p12,(cb8 (bA8 w2 _ _ (by omega))).trans b12,(cb8 (bA8 w2 _ _ (by omega))).trans c02,(cb8 (bA8 w2 _ _ (by omega))).trans c12⟩
    clear hK;replace hHeld16:=hHeld16 (by decide);refine onE 17 rfl fun K hK=>?_;refine step_append_lies _ (by rfl) _ _ _ (by rfl) (w.heap.size+1+1+1+1) 96 i0 _ 2 32 Tryz.underlying58 hi hz0 hz1 hz2 rfl (by omega) y ct.length (cc us ct) (by rfl) (hB2.own.alloc _) ⟨w2.heap.size,0,none⟩ 1 1 [.slice a2 x.r.length n2,.int .i64 x.n] (by rfl) (by rfl) (World.news_of_block (cs:=#[.slice a2 x.r.length n2,.int .i64 x.n]) (t:=96) (fr:=(0,0)) (heap_alloc_new w2 _)) (by simp[Value.oneCell']) (by omega) hml hby (by simp;omega) (w2.heap.size+1) (by simp) ?_;intro gg cap w3 hown3 hgrow hat hlt3;have hz3:=hgrow.size;simp at hz3;have far:∀b q,b<w2.heap.size→y.ownBlock≠some b→w3.cell? ⟨b,q,none⟩=w2.cell? ⟨b,q,none⟩:=fun b q hb hne=>(hgrow.cell_far _ (by simp;omega) (Ne.symm hne)).trans (cb8 (bA8 _ _ _ hb));have farf:∀b q,b<w2.heap.size→y.ownBlock≠some b→w3.frozen? ⟨b,q,none⟩=w2.frozen? ⟨b,q,none⟩:=fun b q hb hne=>(hgrow.frozen_far _ (by simp;omega) (Ne.symm hne)).trans (fb8 (bA8 _ _ _ hb));have pf3:∀q,w3.frozen? ⟨w.heap.size+1+1+1,q,none⟩=false:=fun q=>(farf _ q (by omega) hv2).trans (pf2 q);have rf3:∀q,w3.frozen? ⟨w.heap.size+1+1,q,none⟩=false:=fun q=>(farf _ q (by omega) hvr).trans (rf2 q);have p03:=(far (w.heap.size+1+1+1) 0 (by omega) hv2).trans p02;have p13:=(far (w.heap.size+1+1+1) 1 (by omega) hv2).trans p12;have r03:=(far (w.heap.size+1+1) 0 (by omega) hvr).trans r02;have r13:=(far (w.heap.size+1+1) 1 (by omega) hvr).trans r12;have hBp:=BagOwn.push (hB2.below ((Below.refl _ _).alloc (Nat.le_refl _) (.cells #[.slice a2 x.r.length n2,.int .i64 x.n] 96))) (hR2.below ((Below.refl _ _).alloc (Nat.le_refl _) _)) ⟨hO2.1,fun b hb=>by have:=hO2.2.1 b hb;have:w5.drew.heap.size=w5.heap.size:=rfl;omega,fun b hb q=>(fb8 (bA8 _ _ _ (hR2.lt b hb))).trans (hO2.2.2 b hb q)⟩ (fun b hb hb'=>by have:=hO2.2.1 b hb';have:=hGl b hb;simp at*;omega) (fun b hb hb'=>by have:=hO2.2.1 b hb';have:=(oL8 hB5.own b hb).2;simp at*;omega) hown3 hgrow (fun b hb=>by simp[Value.ownBlock]at hb;subst hb;rcases hat with h|h;exact .inl h;exact .inr (by simp;omega))
    have bel3:Below w.heap.size w w3:=Below.grown bex hgrow (by simp;omega) (fun b hb=>by have:=(oL8 hB5.own b hb).1;omega);have b03:=(far w.heap.size 0 (by omega) (hvT _ (by omega))).trans b02;have b13:=(far w.heap.size 1 (by omega) (hvT _ (by omega))).trans b12;have c03:=(far b (o+k*2) (by omega) (hvT _ (by omega))).trans c02;have c13:=(far b (o+k*2+1) (by omega) (hvT _ (by omega))).trans c12;refine hK.out _ _ ?_ (fun hHeld17=>?_)
    ·intro _;exact⟨p13,b13,c03,c13⟩
    clear hK;replace hHeld17:=hHeld17 (by decide);refine tkE 18 44 rfl rfl ?_;refine onE 19 rfl fun K hK=>?_;go_simp;refine hK.out _ _ ?_ (fun hHeld19=>?_)
    ·exact fun h=>absurd rfl h
    clear hK hHeld19;refine doneE (by kernel_rfl) ?_ _;have Q0:(w3.setCell ⟨w.heap.size+1+1+1,1,none⟩ (.slice (some ⟨gg,0,none⟩) (ct.length+1) cap)).cell? ⟨w.heap.size,0,none⟩=some (.int .i64 W):=(cO8 _ _ _ _ (by simp;try omega)).trans b03;have Q1:(w3.setCell ⟨w.heap.size+1+1+1,1,none⟩ (.slice (some ⟨gg,0,none⟩) (ct.length+1) cap)).cell? ⟨w.heap.size,1,none⟩=some (.slice (some ⟨b,o,none⟩) cs.length c):=(cO8 _ _ _ _ (by simp;try omega)).trans b13;have P0:(w3.setCell ⟨w.heap.size+1+1+1,1,none⟩ (.slice (some ⟨gg,0,none⟩) (ct.length+1) cap)).cell? ⟨w.heap.size+1+1+1,0,none⟩=some (.int .i64 W):=(cO8 _ _ _ _ (by simp)).trans p03;have P1:(w3.setCell ⟨w.heap.size+1+1+1,1,none⟩ (.slice (some ⟨gg,0,none⟩) (ct.length+1) cap)).cell? ⟨w.heap.size+1+1+1,1,none⟩=some (.slice (some ⟨gg,0,none⟩) (ct.length+1) cap):=cS8 _ _ _ p13;have PF:∀q,(w3.setCell ⟨w.heap.size+1+1+1,1,none⟩ (.slice (some ⟨gg,0,none⟩) (ct.length+1) cap)).frozen? ⟨w.heap.size+1+1+1,q,none⟩=false:=fun q=>by simpa using pf3 q
    have R0:(w3.setCell ⟨w.heap.size+1+1+1,1,none⟩ (.slice (some ⟨gg,0,none⟩) (ct.length+1) cap)).cell? ⟨w.heap.size+1+1,0,none⟩=some (.int .i64 0):=(cO8 _ _ _ _ (by simp)).trans r03;have R1:(w3.setCell ⟨w.heap.size+1+1+1,1,none⟩ (.slice (some ⟨gg,0,none⟩) (ct.length+1) cap)).cell? ⟨w.heap.size+1+1,1,none⟩=some (.slice none 0 0):=(cO8 _ _ _ _ (by simp)).trans r13;have RF:∀q,(w3.setCell ⟨w.heap.size+1+1+1,1,none⟩ (.slice (some ⟨gg,0,none⟩) (ct.length+1) cap)).frozen? ⟨w.heap.size+1+1,q,none⟩=false:=fun q=>by simpa using rf3 q
    have hBs:=hBp.keep (w':=w3.setCell ⟨w.heap.size+1+1+1,1,none⟩ (.slice (some ⟨gg,0,none⟩) (ct.length+1) cap)) (by simp) (fun b hb _=>bS8 _ _ _ _ (by simp;omega));rw[←HT2.out]at hBs;have belS:Below w.heap.size w (w3.setCell ⟨w.heap.size+1+1+1,1,none⟩ (.slice (some ⟨gg,0,none⟩) (ct.length+1) cap)):=bel3.setCell (by simp;omega) _;have hzS:w.heap.size+1+1+1+1≤(w3.setCell ⟨w.heap.size+1+1+1,1,none⟩ (.slice (some ⟨gg,0,none⟩) (ct.length+1) cap)).heap.size:=by simp;omega
    have hX3:Box7 (w3.setCell ⟨w.heap.size+1+1+1,1,none⟩ (.slice (some ⟨gg,0,none⟩) (ct.length+1) cap)) (w.heap.size+1) e (.slice ae e.ks.length ce):=hbx5.keep (by simp;omega) ((bS8 _ _ _ _ (by simp)).trans ((hgrow.block (w.heap.size+1) (by simp;omega) (fun h=>hvT _ (Nat.le_refl _) h.symm)).trans ((bA8 _ _ _ (by omega)).trans (bel2.block _ (by omega)))));clear hown3 hgrow hat far farf hBp hB2 hR2 hO2 hb2 hB5 p03 p13 pf3 r03 r13 rf3;go_wp2;exact⟨⟨k+1,_,_,_,hlt,by simp,hX3,Q0,Q1,P0,P1,PF,R0,R1,RF,hBs,belS,hzS⟩,by simp[intOf];omega⟩
  ·obtain rfl:k=cs.length:=by omega
   rw[List.take_length]at hB;obtain⟨ay,cy,rfl⟩:=hB.shape;clear ha hC;go_wp2;refine bodyPost_ret (v:=.agg #[.int .i64 W,.slice ay (filtC V e cs).length cy]) (by simp[results,Tryz.results51,go_sem, *]) rfl ⟨⟨_,us,G,rfl,(hB.keep (by simp) fun b hb _=>?_).weak (by omega)⟩,?_⟩
   ·repeat rw[bS8 _ _ _ _ (by simp;omega)]
   ·repeat (first|(with_reducible exact hb)|(with_reducible refine Below.setCell ?_ ?hh _;case hh=>(simp;try omega)))
end
end Go.Proofs.YtflokiejcjjbiaaGreat
