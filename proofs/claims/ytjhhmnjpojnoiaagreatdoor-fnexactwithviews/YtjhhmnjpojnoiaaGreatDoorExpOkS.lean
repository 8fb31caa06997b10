/- Own text. The contract of spec.ExpOk. -/
import Derived.Test.YtjhhmnjpojnoiaaGreatDoorGLWithViews12
import Derived.Test.YtjhhmnjpojnoiaaGreatDoorGLWithViews1
import Derived.Handy
set_option maxHeartbeats 16000000
set_option maxRecDepth 100000
set_option linter.unusedVariables false
set_option linter.unusedSimpArgs false
namespace Go.Proofs.YtjhhmnjpojnoiaaGreatDoor
section
section
open Go.RowKit
theorem l01In_is (n a b:Int)(w:World):Calls Tryz.prog 61 #[.int .i64 n,.int .i64 a,.int .i64 b] w fun e w'=>e=.returned (.bool (decide (a≤n) &&decide (n≤b)))∧Below w.heap.size w w':=by
 by_cases h1:a≤n
 ·go_enter Tryz.func61,Tryz.ntmps61;go_wp2;go_returns;exact⟨rB8 (by simp[h1]),by go_grown⟩
 ·go_enter Tryz.func61,Tryz.ntmps61;go_wp2;go_returns;exact⟨rB8 (by simp;omega),by go_grown⟩
theorem colB_in (n:Int):(decide (0≤n) &&decide (n≤11))=colB n:=by unfold colB;congr 1;rw[decide_eq_decide];omega
theorem l01In_col (n:Int)(w:World):Calls Tryz.prog 61 #[.int .i64 n,.int .i64 0,.int .i64 11] w fun e w'=>e=.returned (.bool (colB n))∧Below w.heap.size w w':=by
 rw[←colB_in];exact l01In_is n 0 11 w
theorem l03Has_ops (b:Nat)(p:ByteArray)(w:World)(hlt:b<w.heap.size)(h:∀i q,ops9[i]?=some q→w.cell? ⟨b,0+i,none⟩=some (.string q)):Calls Tryz.prog 143 #[.slice (some ⟨b,0,none⟩) 9 9,.string p] w fun e w'=>e=.returned (.bool (opB p))∧Below w.heap.size w w':=
 l03Has_any b 0 9 ops9 p w (by decide) (by omega) hlt h
theorem cells9 {w:World}{b:Nat}{t:TypeId}{m:Nat×Nat}(h:w.heap[b]?=some (.cells #[.string ⟨#[43]⟩,.string ⟨#[45]⟩,.string ⟨#[42]⟩,.string ⟨#[47]⟩,.string ⟨#[61]⟩,.string ⟨#[60]⟩,.string ⟨#[126]⟩,.string ⟨#[97,110,100]⟩,.string ⟨#[111,114]⟩] t m)):∀i q,ops9[i]?=some q→w.cell? ⟨b,0+i,none⟩=some (.string q):=by
 intro i q hq;have hi:i<9:=(gE1 hq).1
 match i,hi with
 |0,_=>cases hq;simp[World.cell?,h]
 |1,_=>cases hq;simp[World.cell?,h]
 |2,_=>cases hq;simp[World.cell?,h]
 |3,_=>cases hq;simp[World.cell?,h]
 |4,_=>cases hq;simp[World.cell?,h]
 |5,_=>cases hq;simp[World.cell?,h]
 |6,_=>cases hq;simp[World.cell?,h]
 |7,_=>cases hq;simp[World.cell?,h]
 |8,_=>cases hq;simp[World.cell?,h]
def OkS (f:Nat):Prop:=∀ (e:E7) (u:Value) (F:List Nat) (d:Nat) (w:World),e.wf→KidsIs w d u e.ks F→
  Calls Tryz.prog 128 #[(.agg #[.int .i64 e.k,.int .i64 e.n,.int .i64 e.v.k,.int .i64 e.v.n,.string e.v.s,.string e.p,u]),.int .i64 (f -1)] w fun x w'=>x=.returned (.bool (okE f e))∧Below w.heap.size w w'
theorem l03Right_zero:OkS 0:=by
 intro e u F d w hw hk;obtain⟨a,c,rfl,_,_⟩:=hk.shape;simp only[okE];go_enter Tryz.func128,Tryz.ntmps128;go_wp2;go_returns;exact⟨rfl,bex⟩
theorem l03Right_step {f:Nat}(hf:f<13)(hI:OkS f):OkS (f+1):=by
 intro e u F d w hw hk;obtain⟨d,rfl⟩:∃d',d=d'+1:=by cases d with|zero=>exact hk.elim|succ d=>exact⟨d,rfl⟩
 obtain⟨a,c,b,o,G,rfl,hl,hc,hG,_,ha⟩:=hk.pick;have hml:e.ks.length≤maxLen:=by omega
 have hsm:e.v.s.size≤maxLen:=hw.2.2.1.2.2;unfold maxLen at hc;obtain⟨t,ht⟩:∃t:Int,t=((f+1:Nat):Int) -1:=⟨_,rfl⟩;rw[←ht];have ht0:0≤t:=by omega
 have ht1:t≤12:=by omega
 have HT:Hid (t -1=(f:Int) -1):=by show _=_;omega
 have HO:Hid (okE (f+1) e=(partsB e &&e.ks.all (okE f))):=rfl;have hI2:∀ (e:E7) (u:Value) (F:List Nat) (d:Nat) (w:World),e.wf→KidsIs w d u e.ks F→ Calls Tryz.prog 128 #[(.agg #[.int .i64 e.k,.int .i64 e.n,.int .i64 e.v.k,.int .i64 e.v.n,.string e.v.s,.string e.p,u]),.int .i64 (t -1)] w fun x w'=>x=.returned (.bool (okE f e))∧Below w.heap.size w w':=by rw[HT.out];exact hI
 clear ht hf hI HT;go_enter Tryz.func128,Tryz.ntmps128;go_wp2;go_loopw [5] (fun i wr=> ∃k:Nat,k≤e.ks.length∧i=.int .i64 k∧e.ks.all (okE f)=(e.ks.drop k).all (okE f)∧Below (w.alloc (.cells #[.int .i64 e.k,.int .i64 e.n,.int .i64 e.v.k,.int .i64 e.v.n,.string e.v.s,.string e.p,.slice a e.ks.length c] 63)).heap.size (w.alloc (.cells #[.int .i64 e.k,.int .i64 e.n,.int .i64 e.v.k,.int .i64 e.v.n,.string e.v.s,.string e.p,.slice a e.ks.length c] 63)) wr) (fun i _=>e.ks.length - (intOf i).toNat)
 case atStart=>exact⟨0,Nat.zero_le _,rfl,by simp,Below.refl _ _⟩
 case round=>
  obtain⟨k,hkk,rfl,hal,hb⟩:=hrel;have hzb:=hb.size;simp only[World.size_alloc]at hzb;have q6:wr.cell? ⟨w.heap.size,6,none⟩=some (.slice a e.ks.length c):=cL8 hb (by go_simp);have bel:Below w.heap.size w wr:=bex;by_cases hlt:k<e.ks.length
  ·obtain⟨rfl,hblt,_,hL⟩:=ha k hlt;obtain⟨x,g,u,hx,hg,hxw,⟨c0,c1,c2,c3,c4,c5⟩,c6,hK,hbr⟩:=hL.at hG hblt bel hlt;obtain⟨ax,cx,rfl,_,_⟩:=hK.shape;have HS:Hid (e.ks.all (okE f)=(okE f x && (e.ks.drop (k+1)).all (okE f))):=by show _=_;rw[hal,allE_step hx]
   clear ha hL hx hal;go_wp2_with fail;refine cM8 (hI2 x (.slice ax x.ks.length cx) g d _ hxw (hK.below ?hb)) ?_
   case hb=>exact bex
   rintro y w2 ⟨rfl,hb2⟩;have hz2:=hb2.size;have hbn:=hb.trans (hb2.mono (by simp;omega));have bel2:Below w.heap.size w w2:=bex;cases hX:okE f x with
   |false=>
    have HX:Hid (okE (f+1) e=false):=by show _=_;rw[HO.out,HS.out,hX];simp
    clear hX;go_wp2;go_returns;exact⟨rB8 HX.out.symm,bel2⟩
   |true=>
    have HX:Hid (e.ks.all (okE f)=(e.ks.drop (k+1)).all (okE f)):=by show _=_;rw[HS.out,hX];rfl
    clear hX;go_wp2;exact⟨⟨k+1,hlt,by simp,HX.out,hbn⟩,by simp[intOf];omega⟩
  ·have HP:Hid (okE (f+1) e=partsB e):=by show _=_;rw[HO.out,hal,List.drop_eq_nil_of_le (by omega)];simp
   have q0:wr.cell? ⟨w.heap.size,0,none⟩=some (.int .i64 e.k):=cL8 hb (by go_simp);have q1:wr.cell? ⟨w.heap.size,1,none⟩=some (.int .i64 e.n):=cL8 hb (by go_simp);have q2:wr.cell? ⟨w.heap.size,2,none⟩=some (.int .i64 e.v.k):=cL8 hb (by go_simp);have q3:wr.cell? ⟨w.heap.size,3,none⟩=some (.int .i64 e.v.n):=cL8 hb (by go_simp);have q4:wr.cell? ⟨w.heap.size,4,none⟩=some (.string e.v.s):=cL8 hb (by go_simp);have q5:wr.cell? ⟨w.heap.size,5,none⟩=some (.string e.p):=cL8 hb (by go_simp);have hq:=eqV;have hy:w.heap.size<wr.heap.size:=by omega
   obtain rfl:k=e.ks.length:=by omega
   clear ha hb hI2 HO hal hkk hw hk;by_cases h0:e.k=0
   ·rw[partsB_0 h0]at HP;rw[h0]at q0;clear h0;go_wp2_with fail;all_goals(
     refine cM8 (l01In_col _ _) ?_;rintro x w1 ⟨rfl,hb1⟩;have hz1:=hb1.size;have r2:w1.cell? ⟨w.heap.size,2,none⟩=some (.int .i64 e.v.k):=cL8 hb1 (by go_simp);have r3:w1.cell? ⟨w.heap.size,3,none⟩=some (.int .i64 e.v.n):=cL8 hb1 (by go_simp);have r4:w1.cell? ⟨w.heap.size,4,none⟩=some (.string e.v.s):=cL8 hb1 (by go_simp);have r5:w1.cell? ⟨w.heap.size,5,none⟩=some (.string e.p):=cL8 hb1 (by go_simp);have r6:w1.cell? ⟨w.heap.size,6,none⟩=some (.slice a e.ks.length c):=cL8 hb1 (by go_simp);have bel1:Below w.heap.size w w1:=bex;generalize hB:colB _=b1;have HB:Hid _:=hB;clear hb1 hB q0 q1 q2 q3 q4 q5 q6;go_wp2;all_goals(go_returns;exact⟨rB8 (by clear hq;have hB:=HB.out;rw[HP.out];simp_all [zeroV,mb0]),bex⟩))
   by_cases h1:e.k=1
   ·rw[partsB_1 h1]at HP;rw[h1]at q0;clear h1 h0;go_wp2_with fail;all_goals(
     refine cM8 (specValueOk_any _ _ _ _ hsm) ?_;rintro x w1 ⟨rfl,hb1⟩;have hz1:=hb1.size;have r1:w1.cell? ⟨w.heap.size,1,none⟩=some (.int .i64 e.n):=cL8 hb1 (by go_simp);have r5:w1.cell? ⟨w.heap.size,5,none⟩=some (.string e.p):=cL8 hb1 (by go_simp);have r6:w1.cell? ⟨w.heap.size,6,none⟩=some (.slice a e.ks.length c):=cL8 hb1 (by go_simp);have bel1:Below w.heap.size w w1:=bex;generalize hB:okB _ _ _=b1;have HB:Hid _:=hB;clear hb1 hB q0 q1 q2 q3 q4 q5 q6;go_wp2;all_goals(go_returns;exact⟨rB8 (by clear hq;have hB:=HB.out;rw[HP.out];simp_all [mb0]),bex⟩))
   by_cases h2:e.k=2
   ·rw[partsB_2 h2]at HP;rw[h2]at q0;clear h2 h1 h0;go_wp2_with fail
    ·refine cM8 (l03Has_ops _ e.p _ ?hlt ?hcells) ?_
     case hlt=>simp
     case hcells=>exact cells9 (heap_alloc_new wr _)
     rintro x w1 ⟨rfl,hb1⟩;have hz1:=hb1.size;simp only[World.size_alloc]at hz1;have bel1:Below w.heap.size w w1:=bex;generalize hB:opB e.p=b1;have HB:Hid _:=hB;clear hb1 hB q0 q1 q2 q3 q4 q5 q6;go_wp2;all_goals(go_returns;exact⟨rB8 (by clear hq;have hB:=HB.out;rw[HP.out];first|(simp_all [zeroV];done)|(simp_all [zeroV];intros;omega)),bex⟩)
    all_goals(go_returns;exact⟨rB8 (by clear hq;rw[HP.out];first|(simp_all [zeroV];done)|(simp_all [zeroV];intros;omega)),bex⟩)
   by_cases h3:e.k=3
   ·rw[partsB_3 h3]at HP;rw[h3]at q0;clear h3 h2 h1 h0;go_wp2;all_goals(go_returns;exact⟨rB8 (by clear hq;rw[HP.out];simp_all [zeroV,mb1]),bex⟩)
   by_cases h4:e.k=4
   ·rw[partsB_4 h4]at HP;rw[h4]at q0;clear h4 h3 h2 h1 h0;go_wp2;all_goals(go_returns;exact⟨rB8 (by clear hq;rw[HP.out];simp_all [zeroV,mb1]),bex⟩)
   rw[partsB_x h0 h1 h2 h3 h4]at HP;go_wp2;all_goals(go_returns;exact⟨rB8 HP.out.symm,bex⟩)
theorem l03Right_any:∀f,f≤13→OkS f
 |0,_=>l03Right_zero
 |f+1,h=>l03Right_step (by omega) (l03Right_any f (by omega))
theorem specExpOk_any (e:E7)(u:Value)(F:List Nat)(d:Nat)(w:World)(hw:e.wf)(hk:KidsIs w d u e.ks F):Calls Tryz.prog 111 #[(.agg #[.int .i64 e.k,.int .i64 e.n,.int .i64 e.v.k,.int .i64 e.v.n,.string e.v.s,.string e.p,u])] w fun x w'=>x=.returned (.bool (okE 13 e))∧Below w.heap.size w w':=by
 have hI:=l03Right_any 13 (Nat.le_refl _);have hI2:∀ (e:E7) (u:Value) (F:List Nat) (d:Nat) (w:World),e.wf→KidsIs w d u e.ks F→ Calls Tryz.prog 128 #[(.agg #[.int .i64 e.k,.int .i64 e.n,.int .i64 e.v.k,.int .i64 e.v.n,.string e.v.s,.string e.p,u]),.int .i64 12] w fun x w'=>x=.returned (.bool (okE 13 e))∧Below w.heap.size w w':=hI;clear hI;obtain⟨a,c,rfl,_,_⟩:=hk.shape;go_enter Tryz.func111,Tryz.ntmps111;go_wp2_with fail;refine cM8 (hI2 e (.slice a e.ks.length c) F d _ hw (hk.below ?hb)) ?_
 case hb=>exact bex
 rintro y w2 ⟨rfl,hb2⟩;have hz2:=hb2.size;simp at hz2;go_wp2;go_returns;exact⟨rfl,bex⟩
end
end
end Go.Proofs.YtjhhmnjpojnoiaaGreatDoor
