/- Own text. The contract of spec.Width. -/
import Derived.Test.YtjhhmnjpojnoiaaGreatDoorTkL
import Derived.Test.YtjhhmnjpojnoiaaGreatDoorWdF
import Derived.Test.YtjhhmnjpojnoiaaGreatDoorGLWithViews1
import Derived.Test.YtjhhmnjpojnoiaaGreatDoorGLWithViews11
import Derived.Handy
import Derived.Deep.RegionHeld3
set_option maxHeartbeats 16000000
set_option maxRecDepth 100000
set_option linter.unusedVariables false
set_option linter.unusedSimpArgs false
namespace Go.Proofs.YtjhhmnjpojnoiaaGreatDoor
section
section
open Go.RowKit
theorem hidW {α:Type}(t:α):∃x,Hid (t=x):=⟨t,rfl⟩
theorem widthP_form {rs:List R3}{f:Nat}{p:P12}(h:formP p=true)(hk:∀q∈p.ks,0≤wP8 rs f q):wP8 rs (f+1) p=if(okTop rs p (wP8 rs f (p.ks.getD 0 .nil)) (wP8 rs f (p.ks.getD 1 .nil)) &&decide (outW rs p (wP8 rs f (p.ks.getD 0 .nil)) (wP8 rs f (p.ks.getD 1 .nil))≤12))=true then outW rs p (wP8 rs f (p.ks.getD 0 .nil)) (wP8 rs f (p.ks.getD 1 .nil))else -1:=by
 have:(p.ks.all fun q=>decide (0≤wP8 rs f q))=true:=by simpa using hk
 rw[wP8,h,this];rfl
theorem widthP_kid {rs:List R3}{f:Nat}{p q:P12}(h:q∈p.ks)(hq:wP8 rs f q<0):wP8 rs (f+1) p= -1:=by
 have:(p.ks.all fun q=>decide (0≤wP8 rs f q))=false:=by
  rw[List.all_eq_false];exact⟨q,h,by simp;omega⟩
 rw[wP8,this];simp
theorem widthP_bad {rs:List R3}{f:Nat}{p:P12}(h:formP p=false):wP8 rs (f+1) p= -1:=by
 rw[wP8,h];simp
section
variable {rs:List R3} {f:Nat} {p:P12} (h:formP p=true) (hk:∀q∈p.ks,0≤wP8 rs f q)
include h hk
theorem wv_0 (h0:p.k=0):wP8 rs (f+1) p=match relOf rs p.s with|none=> -1|some x=>if x.W≤12 then x.W else -1:=by
 rw[widthP_form h hk];simp only[okTop,outW,h0,if_true,relW];cases hr:relOf rs p.s<;>simp
theorem wv_1 {q:P12}(h0:p.k=1)(hq:p.ks=[q]):wP8 rs (f+1) p=if bE8 p.e (wP8 rs f q)=true then wP8 rs f q else -1:=by
 have:=wL8 rs f q;rw[widthP_form h hk,hq];simp[okTop,outW,h0,this]
theorem wv_2 {q:P12}(h0:p.k=2)(hq:p.ks=[q]):wP8 rs (f+1) p=if(decide (0<p.es.length) &&p.es.all (bE8 · (wP8 rs f q)) &&decide ((p.es.length:Int)≤12))=true then(p.es.length:Int)else -1:=by
 rw[widthP_form h hk,hq];simp[okTop,outW,h0]
theorem wv_3 {q r:P12}(h0:p.k=3)(hq:p.ks=[q,r]):wP8 rs (f+1) p=if(bE8 p.e (wP8 rs f q+wP8 rs f r) &&decide (wP8 rs f q+wP8 rs f r≤12))=true then wP8 rs f q+wP8 rs f r else -1:=by
 rw[widthP_form h hk,hq];simp[okTop,outW,h0]
theorem wv_4 {q r:P12}(h0:p.k=4)(hq:p.ks=[q,r]):wP8 rs (f+1) p=if wP8 rs f q=wP8 rs f r then wP8 rs f q else -1:=by
 have:=wL8 rs f q;rw[widthP_form h hk,hq];simp[okTop,outW,h0,this]
theorem wv_5 {q:P12}(h0:p.k=5)(hq:p.ks=[q]):wP8 rs (f+1) p=wP8 rs f q:=by
 have:=wL8 rs f q;rw[widthP_form h hk,hq];simp[okTop,outW,h0,this]
theorem wv_6 {q:P12}(h0:p.k=6)(hq:p.ks=[q]):wP8 rs (f+1) p=if((decide (0≤p.n) &&decide (p.n≤wP8 rs f q)) &&decide (p.es.length≤1) &&p.es.all (bE8 · (wP8 rs f q)) &&decide (p.n+1+(p.es.length:Int)≤12))=true then p.n+1+(p.es.length:Int)else -1:=by
 rw[widthP_form h hk,hq];simp[okTop,outW,h0]
end
def kwC (rs:List R3)(f:Nat)(ks:List P12)(k j:Nat):Int:=if j<k then wP8 rs f (ks.getD j .nil)else 0
def WdI (rs:List R3)(f:Nat):Prop:=∀ (p:P12) (ue us u:Value) (g:List Nat) (D d:Nat) (vd:Value) (Fd:List Nat) (w:World),p.wf→ListsP w D (PlansIs w D d) p ue us u g→wtP p≤1048576→RelsF w vd rs Fd→f≤9→
  Calls Tryz.prog 62 #[vd,(.agg #[.int .i64 p.k,.string p.s,.int .i64 p.e.k,.int .i64 p.e.n,.int .i64 p.e.v.k,.int .i64 p.e.v.n,.string p.e.v.s,.string p.e.p,ue,us,.int .i64 p.n,u]),.int .i64 ((f:Int) -1)] w fun x w'=>x=.returned (.int .i64 (wP8 rs f p))∧Below w.heap.size w w'
theorem wdI_zero (rs:List R3):WdI rs 0:=by
 intro p ue us u g D d vd Fd w hw hL hn hR hf;obtain⟨ae,ce,ak,ck,a,c,rfl,rfl,rfl,_,_,_,_,_,_⟩:=hL.shape;obtain⟨ad,ld,cd,rfl⟩:=hR.is.shape;rw[wP8];clear hL hR hw;go_enter Tryz.func62,Tryz.ntmps62;go_wp2;go_returns;exact⟨rfl,bex⟩
theorem wdI_step {rs:List R3}{f:Nat}(ih:WdI rs f):WdI rs (f+1):=by
 intro p ue us u g D d vd Fd w hw hL hn hR hf;have hwt:=wtP_eq p;obtain⟨a1,c1,a2,c2,a3,c3,rfl,rfl,rfl,s1,s2,s3,s4,s5,s6⟩:=hL.shape;obtain⟨ad,ld,cd,rfl⟩:=hR.is.shape;obtain⟨Fe,Fs,h,rfl,ke,kes,kp⟩:=hL;obtain⟨d,rfl⟩:∃d',d=d'+1:=by cases d with|zero=>exact kp.elim|succ d=>exact⟨d,rfl⟩
 obtain⟨a,c,b,o,G,e0,hl,hc,hG,_,ha⟩:=kp.pick;injection e0 with e1 e2 e3;subst e1 e3;unfold maxLen at hc;have hFo:=fun w2=>l04Form_any p a1 a2 a3 c1 c2 c3 w2 hw.2.2.1.2.2.1.2.2 (by omega) (by omega) (by unfold maxLen;omega);have hE:=fun(W:Int) (w2:World) (hb:Below w.heap.size w w2)=>l04Below_any p.e _ Fe D W w2 hw.2.2.1 (ke.below hb) (by omega);have hA:=fun(W:Int) (w2:World) (hb:Below w.heap.size w w2)=>l04All_any _ p.es Fs D W w2 (kes.below hb) (by omega);have hQ:=fun(w2:World) (hb:Below w.heap.size w w2)=>l04Rel_any p.s _ rs Fd w2 (hR.below hb);have hI:=fun(x:P12) (y1 y2 y3:Value) (gx:List Nat) (w2:World) (hw2:x.wf) (hL2:ListsP w2 D (PlansIs w2 D d) x y1 y2 y3 gx) (hn2:wtP x≤1048576) (hb:Below w.heap.size w w2)=>ih x y1 y2 y3 gx D d _ Fd w2 hw2 hL2 hn2 (hR.below hb) (by omega);obtain⟨dd,HD⟩:=hidW (((f+1:Nat):Int) -1);rw[HD.out];have hd0:0≤dd:=by have:=HD.out;omega
 have hd9:dd≤9:=by have:=HD.out;omega
 have hd1:dd -1=(f:Int) -1:=by have:=HD.out;omega
 rw[←hd1]at hI;have hB:=bxP_new w p (.slice a1 p.e.ks.length c1) (.slice a2 p.es.length c2) (.slice a3 p.ks.length c3) 66;obtain⟨n0,n1⟩:=wf64 hw.2.2.2;have hesl:p.es.length≤1048576:=by omega
 obtain⟨bo,HO⟩:∃b,Hid (formP p=b):=⟨_,rfl⟩;rw[HO.out]at hFo;clear hd1 ke kes hR ih HD s1 s2 s3 s4 s5 s6;obtain⟨r,HR⟩:=hidW (wP8 rs (f+1) p);rw[HR.out];clear hw;go_enter Tryz.func62,Tryz.ntmps62;go_wp2_with fail;refine cM8 (hFo _) ?_;rintro x w1 ⟨rfl,hb1⟩;have hB1:=hB.below hb1;have bel1:Below w.heap.size w w1:=bex;have hlw:w.heap.size<w1.heap.size:=hB1.1;clear hFo hb1 hB;cases bo with
 |false=>
  have HF:Hid (r= -1):=HR.out.symm.trans (widthP_bad HO.out);clear ha hI hE hA hQ;go_wp2;go_returns;exact⟨by rw[HF.out];rfl,bex⟩
 |true=>
  have HF0:Hid ((p.ks.length:Int)=kidsK p.k):=form_kids HO.out;have hk2:p.ks.length≤2:=by
   have:=HF0.out;unfold kidsK at this;split at this;omega;split at this;omega;split at this;omega;split at this;omega;split at this;omega;split at this;omega;split at this<;>omega
  go_wp2_with fail;go_loopw [8] (fun i wr=> ∃k:Nat,k≤p.ks.length∧i=.int .i64 k∧(∀q∈p.ks.take k,0≤wP8 rs f q)∧Below w1.heap.size w1 wr∧w1.heap.size<wr.heap.size∧wr.cell? ⟨w1.heap.size,0,none⟩=some (.int .i64 (kwC rs f p.ks k 0))∧wr.cell? ⟨w1.heap.size,1,none⟩=some (.int .i64 (kwC rs f p.ks k 1))∧∀q,wr.frozen? ⟨w1.heap.size,q,none⟩=false) (fun i _=>p.ks.length - (intOf i).toNat)
  case atStart=>exact⟨0,Nat.zero_le _,rfl,fun q hq=>by simp at hq,bex,by simp,by go_simp;rfl,by go_simp;rfl,fun q=>by go_simp⟩
  case round=>
   obtain⟨k,hk,rfl,hpos,hb',hsz,r0,r1,rf⟩:=hrel;have hBr:=hB1.below hb';have hb:Below w.heap.size w wr:=bel1.trans (hb'.mono bel1.size);have hzb:=hb.size;have hzb':=hb'.size;have HP:Hid (∀q∈p.ks.take k,0≤wP8 rs f q):=hpos;clear hpos;by_cases hlt:k<p.ks.length
   ·obtain⟨rfl,hblt,_,hL⟩:=ha k hlt;obtain⟨x,g,ue,us,u,hx,hg,hxw,⟨q0,q1,q2,q3,q4,q5,q6,q7,q8,q9,q10,q11⟩,hLx,hbr⟩:=hL.at hG hblt hb hlt;obtain⟨x_e,x_E,x_s,x_S,x_k,x_K,rfl,rfl,rfl,_,_,_,_,_,_⟩:=hLx.shape;have hxn:wtP x≤1048576:=by have:=wtP_mem (mg8 hx);omega
    have hV:=hI x _ _ _ g wr hxw hLx hxn hb;have HT:Hid (p.ks.take (k+1)=p.ks.take k++ [x]):=by
     obtain⟨hk',rfl⟩:=gE1 hx;exact List.take_succ_eq_append_getElem hk'
    have HG:Hid (p.ks.getD k .nil=x):=by show _=_;rw[List.getD_eq_getElem?_getD,hx];rfl
    have HM:Hid (x∈p.ks):=mg8 hx;obtain⟨vx,HV⟩:=hidW (wP8 rs f x);rw[HV.out]at hV;obtain⟨_,_,_,_,_,_,_,_,_,_,_,_,b11⟩:=hBr;have hki:(k:Int)<2:=by omega
    have hk2:k<2:=by omega
    clear ha hL hx hLx hg hI hE hA hQ hxw hxn;obtain⟨v0,HV0⟩:=hidW (kwC rs f p.ks k 0);obtain⟨v1,HV1⟩:=hidW (kwC rs f p.ks k 1);rw[HV0.out]at r0;rw[HV1.out]at r1;go_wp2_with fail;refine cM8 hV ?_;rintro y w2 ⟨rfl,hb2⟩;have bel2:Below w1.heap.size w1 w2:=hb'.trans (hb2.mono hb'.size);have r0':=((bc8 hb2).1 _ _ hsz).trans r0;have r1':=((bc8 hb2).1 _ _ hsz).trans r1;have rf':∀q,w2.frozen? ⟨w1.heap.size,q,none⟩=false:=fun q=>(fb8 (hb2.block _ hsz)).trans (rf q);have hsz2:w1.heap.size<w2.heap.size:=by have:=hb2.size;omega
    clear hV hb2 q0 q1 q2 q3 q4 q5 q6 q7 q8 q9 q10 q11 b11 r0 r1 rf;have hkk:k=0∨k=1:=by omega
    by_cases hneg:vx<0
    ·have HF:Hid (r= -1):=HR.out.symm.trans (widthP_kid HM.out (by rw[HV.out];exact hneg));rcases hkk with rfl|rfl
     all_goals(
      simp only[Nat.zero_mul,Nat.add_zero]at*;go_wp2;go_returns;refine⟨by rw[HF.out];rfl,?_⟩;exact bel1.trans ((show Below w1.heap.size w1 _ from bex).mono bel1.size))
    ·have hnn:0≤vx:=by omega
     have HN:Hid (∀q∈p.ks.take (k+1),0≤wP8 rs f q):=by
      show∀q∈_,_;rw[HT.out];intro q hq;rcases List.mem_append.1 hq with hq|hq
      ·exact HP.out q hq
      ·rw[List.mem_singleton.1 hq,HV.out];exact hnn
     rcases hkk with rfl|rfl
     ·have e0:kwC rs f p.ks (0+1) 0=vx:=by unfold kwC;rw[if_pos (by omega),HG.out,HV.out]
      have e1:kwC rs f p.ks (0+1) 1=v1:=by rw[←HV1.out];rfl
      have E0:Hid (kwC rs f p.ks (0+1) 0=vx):=e0;have E1:Hid (kwC rs f p.ks (0+1) 1=v1):=e1;clear e0 e1;go_wp2_with fail;refine⟨⟨0+1,hlt,by simp,HN.out,bex,by simpa using hsz2,?_,?_,fun q=>by go_simp⟩,by simp[intOf];omega⟩
      ·rw[E0.out];go_simp
      ·rw[E1.out];go_simp
     ·have e0:kwC rs f p.ks (1+1) 0=v0:=by rw[←HV0.out];rfl
      have e1:kwC rs f p.ks (1+1) 1=vx:=by unfold kwC;rw[if_pos (by omega),HG.out,HV.out]
      have E0:Hid (kwC rs f p.ks (1+1) 0=v0):=e0;have E1:Hid (kwC rs f p.ks (1+1) 1=vx):=e1;clear e0 e1;go_wp2_with fail;refine⟨⟨1+1,hlt,by simp,HN.out,bex,by simpa using hsz2,?_,?_,fun q=>by go_simp⟩,by simp[intOf];omega⟩
      ·rw[E0.out];go_simp
      ·rw[E1.out];go_simp
   ·obtain rfl:k=p.ks.length:=by omega
    have HP2:Hid (∀q∈p.ks,0≤wP8 rs f q):=by have:=HP.out;rw[List.take_length]at this;exact this
    have hkin:=kidsK_in (k:=p.k) (by have:=HF0.out;omega);clear ha hI;obtain⟨_,b0,b1,b2,b3,b4,b5,b6,b7,b8,b9,b10,b11⟩:=hBr;rcases hkin with h0|h0|h0|h0|h0|h0|h0
    ·--kind 0
     have HY:Hid (r=match relOf rs p.s with|none=> -1|some x=>if x.W≤12 then x.W else -1):=HR.out.symm.trans (wv_0 HO.out HP2.out h0);clear HR HF0 HP2 HP HO hE hA;have k0:(p.k==0)=true:=by rw[h0];rfl
     have k1:(p.k==1)=false:=by rw[h0];rfl
     have k2:(p.k==2)=false:=by rw[h0];rfl
     have k3:(p.k==3)=false:=by rw[h0];rfl
     have k4:(p.k==4)=false:=by rw[h0];rfl
     have k5:(p.k==5)=false:=by rw[h0];rfl
     have k6:(p.k==6)=false:=by rw[h0];rfl
     clear h0;cases hr:relOf rs p.s with
     |none=>
      have HX:Hid (r= -1):=by show _=_;rw[HY.out,hr]
      simp only[hr,Option.isSome_none]at hQ;clear HY hr;go_wp2_with fail;refine cM8 (hQ _ hb) ?_;rintro y w3 ⟨⟨W3,u3,rfl,⟨au,lu,cu,rfl⟩,hr3⟩,hb3⟩;have bel3:Below w.heap.size w w3:=hb.trans (hb3.mono hzb);have hz3:=bel3.size;clear hr3 hb3;go_wp2;go_returns;exact⟨by rw[HX.out];rfl,bex⟩
     |some x=>
      have HX:Hid (r=if x.W≤12 then x.W else -1):=by show _=_;rw[HY.out,hr]
      simp only[hr,Option.isSome_some]at hQ;clear HY hr;go_wp2_with fail;refine cM8 (hQ _ hb) ?_;rintro y w3 ⟨⟨W3,u3,rfl,⟨au,lu,cu,rfl⟩,hr3⟩,hb3⟩;have bel3:Below w.heap.size w w3:=hb.trans (hb3.mono hzb);have hz3:=bel3.size;obtain⟨e3,_⟩:=hr3 x rfl;subst e3;clear hr3 hb3;by_cases hx:x.W≤12
      ·have hx':¬12<x.W:=by omega
       have HX2:Hid (r=x.W):=by show _=_;rw[HX.out,if_pos hx]
       go_wp2;go_returns;exact⟨by rw[HX2.out];rfl,bex⟩
      ·have hx':12<x.W:=by omega
       have HX2:Hid (r= -1):=by show _=_;rw[HX.out,if_neg hx]
       go_wp2;go_returns;exact⟨by rw[HX2.out];rfl,bex⟩
    ·--kind 1
     have hf0:=HF0.out;rw[h0]at hf0;obtain⟨q,hq⟩:=one_kid hf0;have e0:kwC rs f p.ks p.ks.length 0=wP8 rs f q:=by rw[hq];rfl
     rw[e0]at r0;have HZ:=HR.out.symm.trans (wv_1 HO.out HP2.out h0 hq);have hv12:=wL8 rs f q;have hv0:0≤wP8 rs f q:=HP2.out q (by rw[hq];simp);clear hf0 e0;clear HR;generalize wP8 rs f q=v at*;have k0:(p.k==0)=false:=by rw[h0];rfl
     have k1:(p.k==1)=true:=by rw[h0];rfl
     have k2:(p.k==2)=false:=by rw[h0];rfl
     have k3:(p.k==3)=false:=by rw[h0];rfl
     have k4:(p.k==4)=false:=by rw[h0];rfl
     have k5:(p.k==5)=false:=by rw[h0];rfl
     have k6:(p.k==6)=false:=by rw[h0];rfl
     clear h0 HF0 HP2 HP HO hq hA hQ;have hE':=fun w2 hb=>hE v w2 hb;obtain⟨bb,HBB⟩:=hidW (bE8 p.e v);rw[HBB.out]at HZ;rw[HBB.out]at hE';have hv':¬12<v:=by omega
     clear hE;have HY:Hid (_):=HZ;clear HZ;go_wp2_with fail
     first|go_region_held3 (fun w'=>w'.cell? ⟨w.heap.size,2,none⟩=some (.int .i64 p.e.k)∧w'.cell? ⟨w.heap.size,3,none⟩=some (.int .i64 p.e.n)∧w'.cell? ⟨w.heap.size,4,none⟩=some (.int .i64 p.e.v.k)∧w'.cell? ⟨w.heap.size,5,none⟩=some (.int .i64 p.e.v.n)∧w'.cell? ⟨w.heap.size,6,none⟩=some (.string p.e.v.s)∧w'.cell? ⟨w.heap.size,7,none⟩=some (.string p.e.p)∧w'.cell? ⟨w.heap.size,8,none⟩=some (.slice a1 p.e.ks.length c1)∧w'.cell? ⟨w1.heap.size,0,none⟩=some (.int .i64 v)) (refine⟨?_,?_,?_,?_,?_,?_,?_,?_⟩<;>first|(with_reducible assumption)|(go_simp;done)|(exact cL8 (by assumption) (by go_simp))) (first|(go_at_call 91;refine cM8 (hE' _ bex) ?_;rintro y w3 ⟨rfl,hb3⟩;have hz3:=hb3.size;(try simp at hz3)))|fail
     cases bb<;>(go_wp2;go_returns;exact⟨by rw[HY.out];first|rfl|(rw[hm2];rfl)|(rw[hm1];rfl)|(rw[hm1,hm2];rfl),bex⟩)
    ·--kind 2
     have hf0:=HF0.out;rw[h0]at hf0;obtain⟨q,hq⟩:=one_kid hf0;have e0:kwC rs f p.ks p.ks.length 0=wP8 rs f q:=by rw[hq];rfl
     rw[e0]at r0;have HZ:=HR.out.symm.trans (wv_2 HO.out HP2.out h0 hq);have hv12:=wL8 rs f q;have hv0:0≤wP8 rs f q:=HP2.out q (by rw[hq];simp);clear hf0 e0;clear HR;generalize wP8 rs f q=v at*;have k0:(p.k==0)=false:=by rw[h0];rfl
     have k1:(p.k==1)=false:=by rw[h0];rfl
     have k2:(p.k==2)=true:=by rw[h0];rfl
     have k3:(p.k==3)=false:=by rw[h0];rfl
     have k4:(p.k==4)=false:=by rw[h0];rfl
     have k5:(p.k==5)=false:=by rw[h0];rfl
     have k6:(p.k==6)=false:=by rw[h0];rfl
     clear h0 HF0 HP2 HP HO hq hE hQ;have hA':=fun w2 hb=>hA v w2 hb;obtain⟨bb,HBB⟩:=hidW (p.es.all (bE8 · v));rw[HBB.out]at HZ;rw[HBB.out]at hA';clear hA;generalize p.es.length=m at*;by_cases hm0:0<m
     ·have hm1:decide (0<m)=true:=by simp;omega
      have hm0i:(0:Int)<(m:Int):=by omega
      rw[hm1,Bool.true_and]at HZ;have HY:Hid (_):=HZ;clear HZ;go_wp2_with fail
      first|go_region_held3 (fun w'=>w'.cell? ⟨w.heap.size,9,none⟩=some (.slice a2 m c2)∧w'.cell? ⟨w1.heap.size,0,none⟩=some (.int .i64 v)) (refine⟨?_,?_⟩<;>first|(with_reducible assumption)|(go_simp;done)|(exact cL8 (by assumption) (by go_simp))) (first|(go_at_call 92;refine cM8 (hA' _ bex) ?_;rintro y w3 ⟨rfl,hb3⟩;have hz3:=hb3.size;(try simp at hz3)))|fail
      by_cases hm12:(12:Int)<(m:Int)
      ·have hm2:decide ((m:Int)≤12)=false:=by simp;omega
       cases bb<;>(go_wp2;go_returns;exact⟨by rw[HY.out];first|rfl|(rw[hm2];rfl)|(rw[hm1];rfl)|(rw[hm1,hm2];rfl),bex⟩)
      ·have hm2:decide ((m:Int)≤12)=true:=by simp;omega
       cases bb<;>(go_wp2;go_returns;exact⟨by rw[HY.out];first|rfl|(rw[hm2];rfl)|(rw[hm1];rfl)|(rw[hm1,hm2];rfl),bex⟩)
     ·have hm1:decide (0<m)=false:=by simp;omega
      have hm0i:¬ (0:Int)<(m:Int):=by omega
      rw[hm1,Bool.false_and,Bool.false_and]at HZ;have HY:Hid (_):=HZ;clear HZ;go_wp2_with fail;refine wp_region_held_drew (S:=(fun w'=>w'.cell? ⟨w.heap.size,9,none⟩=some (.slice a2 m c2)∧w'.cell? ⟨w1.heap.size,0,none⟩=some (.int .i64 v))) (by kernel_rfl) ?_ (fun hHeld=>?_)
      ·refine⟨?_,?_⟩<;>first|(with_reducible assumption)|(go_simp;done)|(exact cL8 (by assumption) (by go_simp))
      refine tlY 0 72 rfl rfl ?_;refine tlY 1 73 rfl rfl ?_;refine tlY 2 74 rfl rfl ?_;refine tlY 3 75 rfl rfl ?_;refine tlY 4 76 rfl rfl ?_;refine tlY 5 77 rfl rfl ?_;refine tlY 6 78 rfl rfl ?_;refine tlY 7 79 rfl rfl ?_;refine tlN 8 80 rfl rfl ?_;refine tlN 9 81 rfl rfl ?_;refine tlN 10 82 rfl rfl ?_;refine tlN 11 83 rfl rfl ?_;refine tlN 12 84 rfl rfl ?_;refine tlN 13 85 rfl rfl ?_;refine tlY 14 86 rfl rfl ?_;refine tlY 15 9 rfl rfl ?_;refine tlY 16 10 rfl rfl ?_;refine wpAnyH_done (by kernel_rfl) ?_ _;go_wp2;go_returns;exact⟨by rw[HY.out];first|rfl|(rw[hm2];rfl)|(rw[hm1];rfl)|(rw[hm1,hm2];rfl),bex⟩
    ·--kind 3
     have hf0:=HF0.out;rw[h0]at hf0;obtain⟨q,r,hq⟩:=two_kids hf0;have e0:kwC rs f p.ks p.ks.length 0=wP8 rs f q:=by rw[hq];rfl
     have e1:kwC rs f p.ks p.ks.length 1=wP8 rs f r:=by rw[hq];rfl
     rw[e0]at r0;rw[e1]at r1;have HZ:=HR.out.symm.trans (wv_3 HO.out HP2.out h0 hq);have hv12:=wL8 rs f q;have hu12:=wL8 rs f r;have hv0:0≤wP8 rs f q:=HP2.out q (by rw[hq];simp);have hu0:0≤wP8 rs f r:=HP2.out r (by rw[hq];simp);clear hf0 e0 e1;clear HR;generalize wP8 rs f q=v at*;generalize wP8 rs f r=v2 at*;have k0:(p.k==0)=false:=by rw[h0];rfl
     have k1:(p.k==1)=false:=by rw[h0];rfl
     have k2:(p.k==2)=false:=by rw[h0];rfl
     have k3:(p.k==3)=true:=by rw[h0];rfl
     have k4:(p.k==4)=false:=by rw[h0];rfl
     have k5:(p.k==5)=false:=by rw[h0];rfl
     have k6:(p.k==6)=false:=by rw[h0];rfl
     clear h0 HF0 HP2 HP HO hq hA hQ;have hE':=fun w2 hb=>hE (v+v2) w2 hb;have hwr:IntKind.i64.wrap (v+v2)=v+v2:=by rw[IntKind.wrap_i64];omega
     obtain⟨bb,HBB⟩:=hidW (bE8 p.e (v+v2));rw[HBB.out]at HZ;rw[HBB.out]at hE';clear hE;have HY:Hid (_):=HZ;clear HZ;go_wp2_with fail
     first|go_region_held3 (fun w'=>w'.cell? ⟨w.heap.size,2,none⟩=some (.int .i64 p.e.k)∧w'.cell? ⟨w.heap.size,3,none⟩=some (.int .i64 p.e.n)∧w'.cell? ⟨w.heap.size,4,none⟩=some (.int .i64 p.e.v.k)∧w'.cell? ⟨w.heap.size,5,none⟩=some (.int .i64 p.e.v.n)∧w'.cell? ⟨w.heap.size,6,none⟩=some (.string p.e.v.s)∧w'.cell? ⟨w.heap.size,7,none⟩=some (.string p.e.p)∧w'.cell? ⟨w.heap.size,8,none⟩=some (.slice a1 p.e.ks.length c1)∧w'.cell? ⟨w1.heap.size,0,none⟩=some (.int .i64 v)∧w'.cell? ⟨w1.heap.size,1,none⟩=some (.int .i64 v2)) (refine⟨?_,?_,?_,?_,?_,?_,?_,?_,?_⟩<;>first|(with_reducible assumption)|(go_simp;done)|(exact cL8 (by assumption) (by go_simp))) (first|(go_at_call 91;refine cM8 (hE' _ bex) ?_;rintro y w3 ⟨rfl,hb3⟩;have hz3:=hb3.size;(try simp at hz3)))|fail
     by_cases hv':12<v+v2
     ·have hm2:decide (v+v2≤12)=false:=by simp;omega
      cases bb<;>(go_wp2;go_returns;exact⟨by rw[HY.out];first|rfl|(rw[hm2];rfl)|(rw[hm1];rfl)|(rw[hm1,hm2];rfl),bex⟩)
     ·have hm2:decide (v+v2≤12)=true:=by simp;omega
      cases bb<;>(go_wp2;go_returns;exact⟨by rw[HY.out];first|rfl|(rw[hm2];rfl)|(rw[hm1];rfl)|(rw[hm1,hm2];rfl),bex⟩)
    ·--kind 4
     have hf0:=HF0.out;rw[h0]at hf0;obtain⟨q,r,hq⟩:=two_kids hf0;have e0:kwC rs f p.ks p.ks.length 0=wP8 rs f q:=by rw[hq];rfl
     have e1:kwC rs f p.ks p.ks.length 1=wP8 rs f r:=by rw[hq];rfl
     rw[e0]at r0;rw[e1]at r1;have HZ:=HR.out.symm.trans (wv_4 HO.out HP2.out h0 hq);have hv12:=wL8 rs f q;have hu12:=wL8 rs f r;have hv0:0≤wP8 rs f q:=HP2.out q (by rw[hq];simp);have hu0:0≤wP8 rs f r:=HP2.out r (by rw[hq];simp);clear hf0 e0 e1;clear HR;generalize wP8 rs f q=v at*;generalize wP8 rs f r=v2 at*;have k0:(p.k==0)=false:=by rw[h0];rfl
     have k1:(p.k==1)=false:=by rw[h0];rfl
     have k2:(p.k==2)=false:=by rw[h0];rfl
     have k3:(p.k==3)=false:=by rw[h0];rfl
     have k4:(p.k==4)=true:=by rw[h0];rfl
     have k5:(p.k==5)=false:=by rw[h0];rfl
     have k6:(p.k==6)=false:=by rw[h0];rfl
     clear h0 HF0 HP2 HP HO hq hA hQ hE;have hv':¬12<v:=by omega
     by_cases hvv:v=v2
     ·rw[if_pos hvv]at HZ;have hvb:(v==v2)=true:=by simpa using hvv
      clear hvv;have HY:Hid (_):=HZ;clear HZ;go_wp2_with fail
      first|go_region_held3 (fun w'=>w'.cell? ⟨w1.heap.size,0,none⟩=some (.int .i64 v)∧w'.cell? ⟨w1.heap.size,1,none⟩=some (.int .i64 v2)) (refine⟨?_,?_⟩<;>first|(with_reducible assumption)|(go_simp;done)|(exact cL8 (by assumption) (by go_simp))) (first|fail)|fail
      go_wp2;go_returns;exact⟨by rw[HY.out];first|rfl|(rw[hm2];rfl)|(rw[hm1];rfl)|(rw[hm1,hm2];rfl),bex⟩
     ·rw[if_neg hvv]at HZ;have hvb:(v==v2)=false:=by simpa using hvv
      clear hvv;have HY:Hid (_):=HZ;clear HZ;go_wp2_with fail
      first|go_region_held3 (fun w'=>w'.cell? ⟨w1.heap.size,0,none⟩=some (.int .i64 v)∧w'.cell? ⟨w1.heap.size,1,none⟩=some (.int .i64 v2)) (refine⟨?_,?_⟩<;>first|(with_reducible assumption)|(go_simp;done)|(exact cL8 (by assumption) (by go_simp))) (first|fail)|fail
      go_wp2;go_returns;exact⟨by rw[HY.out];first|rfl|(rw[hm2];rfl)|(rw[hm1];rfl)|(rw[hm1,hm2];rfl),bex⟩
    ·--kind 5
     have hf0:=HF0.out;rw[h0]at hf0;obtain⟨q,hq⟩:=one_kid hf0;have e0:kwC rs f p.ks p.ks.length 0=wP8 rs f q:=by rw[hq];rfl
     rw[e0]at r0;have HZ:=HR.out.symm.trans (wv_5 HO.out HP2.out h0 hq);have hv12:=wL8 rs f q;have hv0:0≤wP8 rs f q:=HP2.out q (by rw[hq];simp);clear hf0 e0;clear HR;generalize wP8 rs f q=v at*;have k0:(p.k==0)=false:=by rw[h0];rfl
     have k1:(p.k==1)=false:=by rw[h0];rfl
     have k2:(p.k==2)=false:=by rw[h0];rfl
     have k3:(p.k==3)=false:=by rw[h0];rfl
     have k4:(p.k==4)=false:=by rw[h0];rfl
     have k5:(p.k==5)=true:=by rw[h0];rfl
     have k6:(p.k==6)=false:=by rw[h0];rfl
     clear h0 HF0 HP2 HP HO hq hA hQ hE;have hv':¬12<v:=by omega
     have HY:Hid (_):=HZ;clear HZ;go_wp2;go_returns;exact⟨by rw[HY.out];first|rfl|(rw[hm2];rfl)|(rw[hm1];rfl)|(rw[hm1,hm2];rfl),bex⟩
    ·--kind 6
     have hf0:=HF0.out;rw[h0]at hf0;obtain⟨q,hq⟩:=one_kid hf0;have e0:kwC rs f p.ks p.ks.length 0=wP8 rs f q:=by rw[hq];rfl
     rw[e0]at r0;have HZ:=HR.out.symm.trans (wv_6 HO.out HP2.out h0 hq);have hv12:=wL8 rs f q;have hv0:0≤wP8 rs f q:=HP2.out q (by rw[hq];simp);clear hf0 e0;clear HR;generalize wP8 rs f q=v at*;have k0:(p.k==0)=false:=by rw[h0];rfl
     have k1:(p.k==1)=false:=by rw[h0];rfl
     have k2:(p.k==2)=false:=by rw[h0];rfl
     have k3:(p.k==3)=false:=by rw[h0];rfl
     have k4:(p.k==4)=false:=by rw[h0];rfl
     have k5:(p.k==5)=false:=by rw[h0];rfl
     have k6:(p.k==6)=true:=by rw[h0];rfl
     clear h0 HF0 HP2 HP HO hq hE hQ;have hA':=fun w2 hb=>hA v w2 hb;obtain⟨bb,HBB⟩:=hidW (p.es.all (bE8 · v));rw[HBB.out]at HZ;rw[HBB.out]at hA';clear hA;generalize p.es.length=m at*;have hN:=fun w2 (hb:Below w.heap.size w w2)=>l01In_is p.n 0 v w2;obtain⟨bn,HBN⟩:=hidW (decide (0≤p.n) &&decide (p.n≤v));rw[HBN.out]at HZ;rw[HBN.out]at hN;generalize p.n=n at*;cases bn with
     |false=>
      simp only[Bool.false_and]at HZ;have HY:Hid (_):=HZ;clear HZ;go_wp2_with fail;refine wp_region_held_drew (S:=(fun w'=>w'.cell? ⟨w.heap.size,10,none⟩=some (.int .i64 n)∧w'.cell? ⟨w.heap.size,9,none⟩=some (.slice a2 m c2)∧w'.cell? ⟨w1.heap.size,0,none⟩=some (.int .i64 v))) (by kernel_rfl) ?_ (fun hHeld=>?_)
      ·refine⟨?_,?_,?_⟩<;>first|(with_reducible assumption)|(go_simp;done)|(exact cL8 (by assumption) (by go_simp))
      refine tlY 0 117 rfl rfl ?_;refine tlY 1 118 rfl rfl ?_;refine tlY 2 119 rfl rfl ?_;refine tlY 3 120 rfl rfl ?_;refine tlY 4 121 rfl rfl ?_;refine tlY 5 122 rfl rfl ?_;refine tlY 6 123 rfl rfl ?_;refine tlY 7 124 rfl rfl ?_;refine tlY 8 125 rfl rfl ?_;refine tlY 9 126 rfl rfl ?_;refine tlY 10 127 rfl rfl ?_;refine tlY 11 128 rfl rfl ?_;refine wpAnyH_ready (rs:=[12]) (by kernel_rfl) (by simp) ?_;refine AllReadyH.cons rfl (fun KK hKK=>?_) AllReadyH.nil;go_simp;go_at_call 61;refine cM8 (hN _ bex) ?_;rintro y w3 ⟨rfl,hb3⟩;have hz3:=hb3.size;(try simp at hz3);try go_wp2_with fail
      refine hKK.out _ _ ?_ (fun hHeld12=>?_)
      ·refine⟨?_,?_,?_⟩<;>first|(with_reducible assumption)|(go_simp;done)|(exact cL8 (by assumption) (by go_simp))
      clear hKK;refine tlY 13 130 rfl rfl ?_;refine tlN 14 131 rfl rfl ?_;refine tlN 15 132 rfl rfl ?_;refine tlN 16 133 rfl rfl ?_;refine tlN 17 134 rfl rfl ?_;refine tlY 18 135 rfl rfl ?_;refine tlY 19 136 rfl rfl ?_;refine tlN 20 137 rfl rfl ?_;refine tlN 21 138 rfl rfl ?_;refine tlN 22 139 rfl rfl ?_;refine tlN 23 140 rfl rfl ?_;refine tlN 24 141 rfl rfl ?_;refine tlN 25 142 rfl rfl ?_;refine tlY 26 143 rfl rfl ?_;refine tlY 27 9 rfl rfl ?_;refine tlY 28 10 rfl rfl ?_;refine wpAnyH_done (by kernel_rfl) ?_ _;go_wp2;go_returns;exact⟨by rw[HY.out];first|rfl|(rw[hm2];rfl)|(rw[hm1];rfl)|(rw[hm1,hm2];rfl),bex⟩
     |true=>
      have hbn:=HBN.out;rw[Bool.and_eq_true,decide_eq_true_eq,decide_eq_true_eq]at hbn;have hn0:0≤n:=hbn.1;have hn1:n≤12:=by omega
      rw[Bool.true_and]at HZ;clear hbn HBN;by_cases hm0:m≤1
      ·have hm0i:(m:Int)≤1:=by omega
       have hm1:decide (m≤1)=true:=by simp;omega
       rw[hm1,Bool.true_and]at HZ;have hw1:IntKind.i64.wrap (n+1)=n+1:=by rw[IntKind.wrap_i64];omega
       have hw2:IntKind.i64.wrap (n+1+(m:Int))=n+1+(m:Int):=by rw[IntKind.wrap_i64];omega
       have HY:Hid (_):=HZ;clear HZ;go_wp2_with fail
       first|go_region_held3 (fun w'=>w'.cell? ⟨w.heap.size,10,none⟩=some (.int .i64 n)∧w'.cell? ⟨w.heap.size,9,none⟩=some (.slice a2 m c2)∧w'.cell? ⟨w1.heap.size,0,none⟩=some (.int .i64 v)) (refine⟨?_,?_,?_⟩<;>first|(with_reducible assumption)|(go_simp;done)|(exact cL8 (by assumption) (by go_simp))) (first|(go_at_call 61;refine cM8 (hN _ bex) ?_;rintro y w3 ⟨rfl,hb3⟩;have hz3:=hb3.size;(try simp at hz3))|(go_at_call 92;refine cM8 (hA' _ bex) ?_;rintro y w3 ⟨rfl,hb3⟩;have hz3:=hb3.size;(try simp at hz3)))|fail
       by_cases hm12:12<n+1+(m:Int)
       ·have hm2:decide (n+1+(m:Int)≤12)=false:=by simp;omega
        cases bb<;>(go_wp2;go_returns;exact⟨by rw[HY.out];first|rfl|(rw[hm2];rfl)|(rw[hm1];rfl)|(rw[hm1,hm2];rfl),bex⟩)
       ·have hm2:decide (n+1+(m:Int)≤12)=true:=by simp;omega
        cases bb<;>(go_wp2;go_returns;exact⟨by rw[HY.out];first|rfl|(rw[hm2];rfl)|(rw[hm1];rfl)|(rw[hm1,hm2];rfl),bex⟩)
      ·have hm1:decide (m≤1)=false:=by simp;omega
       have hm0i:¬ (m:Int)≤1:=by omega
       have hdm:decide ((m:Int)≤1)=false:=by simp;omega
       rw[hm1,Bool.false_and,Bool.false_and]at HZ;have HY:Hid (_):=HZ;clear HZ;go_wp2_with fail;refine wp_region_held_drew (S:=(fun w'=>w'.cell? ⟨w.heap.size,10,none⟩=some (.int .i64 n)∧w'.cell? ⟨w.heap.size,9,none⟩=some (.slice a2 m c2)∧w'.cell? ⟨w1.heap.size,0,none⟩=some (.int .i64 v))) (by kernel_rfl) ?_ (fun hHeld=>?_)
       ·refine⟨?_,?_,?_⟩<;>first|(with_reducible assumption)|(go_simp;done)|(exact cL8 (by assumption) (by go_simp))
       refine tlY 0 117 rfl rfl ?_;refine tlY 1 118 rfl rfl ?_;refine tlY 2 119 rfl rfl ?_;refine tlY 3 120 rfl rfl ?_;refine tlY 4 121 rfl rfl ?_;refine tlY 5 122 rfl rfl ?_;refine tlY 6 123 rfl rfl ?_;refine tlY 7 124 rfl rfl ?_;refine tlY 8 125 rfl rfl ?_;refine tlY 9 126 rfl rfl ?_;refine tlY 10 127 rfl rfl ?_;refine tlY 11 128 rfl rfl ?_;refine wpAnyH_ready (rs:=[12]) (by kernel_rfl) (by simp) ?_;refine AllReadyH.cons rfl (fun KK hKK=>?_) AllReadyH.nil;go_simp;go_at_call 61;refine cM8 (hN _ bex) ?_;rintro y w3 ⟨rfl,hb3⟩;have hz3:=hb3.size;(try simp at hz3);try go_wp2_with fail
       refine hKK.out _ _ ?_ (fun hHeld12=>?_)
       ·refine⟨?_,?_,?_⟩<;>first|(with_reducible assumption)|(go_simp;done)|(exact cL8 (by assumption) (by go_simp))
       clear hKK;refine tlY 13 130 rfl rfl ?_;refine tlY 14 131 rfl rfl ?_;refine tlY 15 132 rfl rfl ?_;refine tlY 16 133 rfl rfl ?_;refine tlY 17 134 rfl rfl ?_;try simp only[hdm]
       refine tlY 18 135 rfl rfl ?_;refine tlY 19 136 rfl rfl ?_;refine tlN 20 137 rfl rfl ?_;refine tlN 21 138 rfl rfl ?_;refine tlN 22 139 rfl rfl ?_;refine tlN 23 140 rfl rfl ?_;refine tlN 24 141 rfl rfl ?_;refine tlN 25 142 rfl rfl ?_;refine tlY 26 143 rfl rfl ?_;refine tlY 27 9 rfl rfl ?_;refine tlY 28 10 rfl rfl ?_;refine wpAnyH_done (by kernel_rfl) ?_ _;go_wp2;go_returns;exact⟨by rw[HY.out];first|rfl|(rw[hm2];rfl)|(rw[hm1];rfl)|(rw[hm1,hm2];rfl),bex⟩
theorem wdI_any (rs:List R3):∀f,WdI rs f
 |0=>wdI_zero rs
 |f+1=>wdI_step (wdI_any rs f)
end
end
end Go.Proofs.YtjhhmnjpojnoiaaGreatDoor
