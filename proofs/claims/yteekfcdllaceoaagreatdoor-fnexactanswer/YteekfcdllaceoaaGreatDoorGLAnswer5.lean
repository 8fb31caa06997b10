/- Own texts, joined: contracts that the law's proof goes by. -/
import Derived.Test.YteekfcdllaceoaaGreatDoorGLAnswer4
import Derived.Test.YteekfcdllaceoaaGreatDoorGLAnswer1
import Derived.Test.YteekfcdllaceoaaGreatDoorGLAnswer2
import Derived.Handy
import Derived.Deep.RegionHeld3
import Derived.WideMake
import Derived.Maps.AppendAt
set_option maxHeartbeats 16000000
set_option maxRecDepth 100000
set_option linter.unusedVariables false
set_option linter.unusedSimpArgs false
namespace Go.Proofs.YteekfcdllaceoaaGreatDoor
section
open Go.RowKit
def Q8 (v:V3):Bool:=v.k==0 && (v.n==0 &&v.s.toList==[])
def A0H (n:Int):Bool:=decide (0<=n) &&decide (n<12)
def P7 (e:E7):Bool:=
 if e.k=0 then A0H e.n &&Q8 e.v &&e.p.toList==[] &&e.ks.length==0
 else if e.k=1 then e.n==0 &&okB e.v.k e.v.n e.v.s &&e.p.toList==[] &&e.ks.length==0
 else if e.k=2 then e.n==0 &&Q8 e.v &&opB e.p &&e.ks.length==2
 else if e.k=3\/e.k=4 then e.n==0 &&Q8 e.v &&e.p.toList==[] &&e.ks.length==1
 else false
theorem B2f (n:Int)(w:World):Calls Tryz.prog 191 #[.int .i64 n] w fun e w'=>e=.returned (.bool (A0H n))/\Below w.heap.size w w':=by
 by_cases h1:0<=n
 ·go_enter Tryz.func191,Tryz.ntmps191;go_wp2;go_returns;exact⟨rB8 (by simp[A0H,h1]),by go_grown⟩
 ·go_enter Tryz.func191,Tryz.ntmps191;go_wp2;go_returns;exact⟨rB8 (by simp[A0H];omega),by go_grown⟩
theorem mb0 (m:Nat):((m:Int)==0)=(m==0):=by rw[Bool.eq_iff_iff];simp
theorem mb1 (m:Nat):((m:Int)==1)=(m==1):=by rw[Bool.eq_iff_iff];simp;omega
theorem mb2 (m:Nat):((m:Int)==2)=(m==2):=by rw[Bool.eq_iff_iff];simp;omega
theorem A58 {e:E7}(h:e.k=0):P7 e=(A0H e.n &&Q8 e.v &&e.p.toList==[] &&e.ks.length==0):=by simp[P7,h]
theorem A6w {e:E7}(h:e.k=1):P7 e=(e.n==0 &&okB e.v.k e.v.n e.v.s &&e.p.toList==[] &&e.ks.length==0):=by simp[P7,h]
theorem A6T {e:E7}(h:e.k=2):P7 e=(e.n==0 &&Q8 e.v &&opB e.p &&e.ks.length==2):=by simp[P7,h]
theorem A7D {e:E7}(h:e.k=3):P7 e=(e.n==0 &&Q8 e.v &&e.p.toList==[] &&e.ks.length==1):=by simp[P7,h]
theorem A6W {e:E7}(h:e.k=4):P7 e=(e.n==0 &&Q8 e.v &&e.p.toList==[] &&e.ks.length==1):=by simp[P7,h]
theorem A5B {e:E7}(h0:¬e.k=0)(h1:¬e.k=1)(h2:¬e.k=2)(h3:¬e.k=3)(h4:¬e.k=4):P7 e=false:=by simp[P7,h0,h1,h2,h3,h4]
theorem B2s (e:E7)(a:Option Addr)(c:Nat)(w:World)(hs:e.v.s.size<=maxLen)(hc:e.ks.length<=maxLen)(h:e.k=0):Calls Tryz.prog 176 #[(.agg #[.int .i64 e.k,.int .i64 e.n,.int .i64 e.v.k,.int .i64 e.v.n,.string e.v.s,.string e.p,(.slice a e.ks.length c)])] w fun x w'=>x=.returned (.bool (P7 e))/\Below w.heap.size w w':=by
 rw[A58 h];have hq:=eqV;unfold maxLen at hc;generalize e.ks.length=m at*;generalize e.k=k at*;generalize e.n=n at*;generalize e.v=v at*;generalize e.p=p at*;obtain⟨vk,vn,vs⟩:=v;dsimp only at*;subst h;go_enter Tryz.func176,Tryz.ntmps176;go_wp2_with fail;refine cM8 (B2f n _) ?_;rintro x w1 ⟨rfl,hb1⟩;have hz1:=hb1.size;simp at hz1;have q2:w1.cell? ⟨w.heap.size,2,none⟩=some (.int .i64 vk):=cl8 hb1;have q3:w1.cell? ⟨w.heap.size,3,none⟩=some (.int .i64 vn):=cl8 hb1;have q4:w1.cell? ⟨w.heap.size,4,none⟩=some (.string vs):=cl8 hb1;have q5:w1.cell? ⟨w.heap.size,5,none⟩=some (.string p):=cl8 hb1;have z0:w1.cell? ⟨w.heap.size+1,0,none⟩=some (.int .i64 0):=cl8 hb1;have z1:w1.cell? ⟨w.heap.size+1,1,none⟩=some (.int .i64 0):=cl8 hb1;have z2:w1.cell? ⟨w.heap.size+1,2,none⟩=some (.string ⟨#[]⟩):=cl8 hb1;have bel:Below w.heap.size w w1:=bex;generalize hB:A0H n=b1;have HB:Hid _:=hB;clear hb1 hB;go_wp2;all_goals(go_returns;exact⟨rB8 (by clear hq;(try have hB:=HB.out);simp_all [Q8,mb0]),bex⟩)
theorem B83 (e:E7)(a:Option Addr)(c:Nat)(w:World)(hs:e.v.s.size<=maxLen)(hc:e.ks.length<=maxLen)(h:e.k=1):Calls Tryz.prog 176 #[(.agg #[.int .i64 e.k,.int .i64 e.n,.int .i64 e.v.k,.int .i64 e.v.n,.string e.v.s,.string e.p,(.slice a e.ks.length c)])] w fun x w'=>x=.returned (.bool (P7 e))/\Below w.heap.size w w':=by
 rw[A6w h];have hq:=eqV;unfold maxLen at hc;generalize e.ks.length=m at*;generalize e.k=k at*;generalize e.n=n at*;generalize e.v=v at*;generalize e.p=p at*;obtain⟨vk,vn,vs⟩:=v;dsimp only at*;subst h;go_enter Tryz.func176,Tryz.ntmps176;go_wp2_with fail
 ·refine cM8 (A1X vk vn vs _ hs) ?_;rintro x w1 ⟨rfl,hb1⟩;have hz1:=hb1.size;simp at hz1;have q5:w1.cell? ⟨w.heap.size,5,none⟩=some (.string p):=cl8 hb1;have bel:Below w.heap.size w w1:=bex;generalize hB:okB vk vn vs=b1;have HB:Hid _:=hB;clear hb1 hB;go_wp2;all_goals(go_returns;exact⟨rB8 (by clear hq;(try have hB:=HB.out);simp_all [mb0]),bex⟩)
 ·go_returns;exact⟨rB8 (by simp_all),bex⟩
theorem C3K (e:E7)(a:Option Addr)(c:Nat)(w:World)(hs:e.v.s.size<=maxLen)(hc:e.ks.length<=maxLen)(h:e.k=2):Calls Tryz.prog 176 #[(.agg #[.int .i64 e.k,.int .i64 e.n,.int .i64 e.v.k,.int .i64 e.v.n,.string e.v.s,.string e.p,(.slice a e.ks.length c)])] w fun x w'=>x=.returned (.bool (P7 e))/\Below w.heap.size w w':=by
 rw[A6T h];have hq:=eqV;unfold maxLen at hc;generalize e.ks.length=m at*;generalize e.k=k at*;generalize e.n=n at*;generalize e.v=v at*;generalize e.p=p at*;obtain⟨vk,vn,vs⟩:=v;dsimp only at*;subst h;go_enter Tryz.func176,Tryz.ntmps176;go_wp2_with fail
 ·refine cM8 (B2a p _) ?_;rintro x w1 ⟨rfl,hb1⟩;have hz1:=hb1.size;simp at hz1;have bel:Below w.heap.size w w1:=bex;generalize hB:opB p=b1;have HB:Hid _:=hB;clear hb1 hB;go_wp2;all_goals(go_returns;exact⟨rB8 (by clear hq;(try have hB:=HB.out);simp_all [Q8,mb2]),bex⟩)
 all_goals(go_returns;exact⟨rB8 (by clear hq;(try have hB:=HB.out);simp_all [Q8]),bex⟩)
theorem B6t (e:E7)(a:Option Addr)(c:Nat)(w:World)(hs:e.v.s.size<=maxLen)(hc:e.ks.length<=maxLen)(h:e.k=3):Calls Tryz.prog 176 #[(.agg #[.int .i64 e.k,.int .i64 e.n,.int .i64 e.v.k,.int .i64 e.v.n,.string e.v.s,.string e.p,(.slice a e.ks.length c)])] w fun x w'=>x=.returned (.bool (P7 e))/\Below w.heap.size w w':=by
 rw[A7D h];have hq:=eqV;unfold maxLen at hc;generalize e.ks.length=m at*;generalize e.k=k at*;generalize e.n=n at*;generalize e.v=v at*;generalize e.p=p at*;obtain⟨vk,vn,vs⟩:=v;dsimp only at*;subst h;go_enter Tryz.func176,Tryz.ntmps176;go_wp2;all_goals(go_returns;exact⟨rB8 (by clear hq;(try have hB:=HB.out);simp_all [Q8,mb1]),bex⟩)
theorem C2r (e:E7)(a:Option Addr)(c:Nat)(w:World)(hs:e.v.s.size<=maxLen)(hc:e.ks.length<=maxLen)(h:e.k=4):Calls Tryz.prog 176 #[(.agg #[.int .i64 e.k,.int .i64 e.n,.int .i64 e.v.k,.int .i64 e.v.n,.string e.v.s,.string e.p,(.slice a e.ks.length c)])] w fun x w'=>x=.returned (.bool (P7 e))/\Below w.heap.size w w':=by
 rw[A6W h];have hq:=eqV;unfold maxLen at hc;generalize e.ks.length=m at*;generalize e.k=k at*;generalize e.n=n at*;generalize e.v=v at*;generalize e.p=p at*;obtain⟨vk,vn,vs⟩:=v;dsimp only at*;subst h;go_enter Tryz.func176,Tryz.ntmps176;go_wp2;all_goals(go_returns;exact⟨rB8 (by clear hq;(try have hB:=HB.out);simp_all [Q8,mb1]),bex⟩)
theorem B7z (e:E7)(a:Option Addr)(c:Nat)(w:World)(hs:e.v.s.size<=maxLen)(hc:e.ks.length<=maxLen)(h0:¬e.k=0)(h1:¬e.k=1)(h2:¬e.k=2)(h3:¬e.k=3)(h4:¬e.k=4):Calls Tryz.prog 176 #[(.agg #[.int .i64 e.k,.int .i64 e.n,.int .i64 e.v.k,.int .i64 e.v.n,.string e.v.s,.string e.p,(.slice a e.ks.length c)])] w fun x w'=>x=.returned (.bool (P7 e))/\Below w.heap.size w w':=by
 rw[A5B h0 h1 h2 h3 h4];have hq:=eqV;unfold maxLen at hc;generalize e.ks.length=m at*;generalize e.k=k at*;generalize e.n=n at*;generalize e.v=v at*;generalize e.p=p at*;obtain⟨vk,vn,vs⟩:=v;dsimp only at*;go_enter Tryz.func176,Tryz.ntmps176;go_wp2;all_goals(go_returns;exact⟨rfl,bex⟩)
theorem B2Y (e:E7)(a:Option Addr)(c:Nat)(w:World)(hs:e.v.s.size<=maxLen)(hc:e.ks.length<=maxLen):Calls Tryz.prog 176 #[(.agg #[.int .i64 e.k,.int .i64 e.n,.int .i64 e.v.k,.int .i64 e.v.n,.string e.v.s,.string e.p,(.slice a e.ks.length c)])] w fun x w'=>x=.returned (.bool (P7 e))/\Below w.heap.size w w':=by
 by_cases h0:e.k=0
 ·exact B2s e a c w hs hc h0
 by_cases h1:e.k=1
 ·exact B83 e a c w hs hc h1
 by_cases h2:e.k=2
 ·exact C3K e a c w hs hc h2
 by_cases h3:e.k=3
 ·exact B6t e a c w hs hc h3
 by_cases h4:e.k=4
 ·exact C2r e a c w hs hc h4
 exact B7z e a c w hs hc h0 h1 h2 h3 h4
def okE:Nat->E7->Bool
 |0,_=>false
 |f+1,e=>P7 e &&e.ks.all (okE f)
theorem B03 {es:List E7}{k:Nat}{x:E7}{q:E7->Bool}(h:es[k]?=some x):(es.drop k).all q=(q x && (es.drop (k+1)).all q):=by
 obtain⟨hk,rfl⟩:=gE1 h;rw[List.drop_eq_getElem_cons hk,List.all_cons]
def OkI (f:Nat):Prop:=∀ (e:E7) (u:Value) (F:List Nat) (d:Nat) (w:World),e.wf->C1 w d u e.ks F->
  Calls Tryz.prog 150 #[(.agg #[.int .i64 e.k,.int .i64 e.n,.int .i64 e.v.k,.int .i64 e.v.n,.string e.v.s,.string e.p,u]),.int .i64 (13 -f)] w fun x w'=>x=.returned (.bool (okE f e))/\Below w.heap.size w w'
theorem B6B:OkI 0:=by
 intro e u F d w hw hk;obtain⟨a,c,rfl,_,_⟩:=hk.shape;simp only[okE];go_enter Tryz.func150,Tryz.ntmps150;go_wp2;go_returns;exact⟨rfl,bex⟩
theorem B8Z {f:Nat}(hf:f<13)(hI:OkI f):OkI (f+1):=by
 intro e u F d w hw hk;obtain⟨d,rfl⟩:∃d',d=d'+1:=by cases d with|zero=>exact hk.elim|succ d=>exact⟨d,rfl⟩
 obtain⟨a,c,b,o,G,rfl,hl,hc,hG,_,ha⟩:=hk.pick;have hml:e.ks.length<=maxLen:=by omega
 have hsm:e.v.s.size<=maxLen:=hw.2.2.1.2.2;unfold maxLen at hc;obtain⟨t,ht⟩:∃t:Int,t=13 - ((f+1:Nat):Int):=⟨_,rfl⟩;rw[<-ht];have ht0:0<=t:=by omega
 have ht1:t<=12:=by omega
 have HT:Hid (t+1=13 - (f:Int)):=by show _=_;omega
 have HO:Hid (okE (f+1) e=(P7 e &&e.ks.all (okE f))):=rfl;have hI2:∀ (e:E7) (u:Value) (F:List Nat) (d:Nat) (w:World),e.wf->C1 w d u e.ks F-> Calls Tryz.prog 150 #[(.agg #[.int .i64 e.k,.int .i64 e.n,.int .i64 e.v.k,.int .i64 e.v.n,.string e.v.s,.string e.p,u]),.int .i64 (t+1)] w fun x w'=>x=.returned (.bool (okE f e))/\Below w.heap.size w w':=by rw[HT.out];exact hI
 clear ht hf hI HT;go_enter Tryz.func150,Tryz.ntmps150;go_wp2_with fail;refine cM8 (B2Y e a c _ hsm hml) ?_;rintro x w1 ⟨rfl,hb1⟩;have hz1:=hb1.size;simp at hz1;have q6:w1.cell? ⟨w.heap.size,6,none⟩=some (.slice a e.ks.length c):=cl8 hb1;have bel:Below w.heap.size w w1:=bex;cases hB:P7 e with
 |false=>
  have HB:Hid (okE (f+1) e=false):=by show _=_;rw[HO.out,hB];rfl
  clear hB;go_wp2;go_returns;exact⟨rB8 HB.out.symm,bel⟩
 |true=>
  have HB:Hid (okE (f+1) e=e.ks.all (okE f)):=by show _=_;rw[HO.out,hB];rfl
  clear hB HO hb1;go_wp2;go_loopw [17] (fun i wr=> ∃k:Nat,k<=e.ks.length/\i=.int .i64 k/\e.ks.all (okE f)=(e.ks.drop k).all (okE f)/\Below w.heap.size w wr) (fun i _=>e.ks.length - (intOf i).toNat)
  case atStart=>exact⟨0,Nat.zero_le _,rfl,by simp,bex⟩
  case round=>
   obtain⟨k,hkk,rfl,hal,hb⟩:=hrel;have hzb:=hb.size;by_cases hlt:k<e.ks.length
   ·obtain⟨rfl,hblt,_,hL⟩:=ha k hlt;obtain⟨x,g,u,hx,hg,hxw,⟨c0,c1,c2,c3,c4,c5⟩,c6,hK,hbr⟩:=hL.at hG hblt hb hlt;obtain⟨ax,cx,rfl,_,_⟩:=hK.shape;have HS:Hid (e.ks.all (okE f)=(okE f x && (e.ks.drop (k+1)).all (okE f))):=by show _=_;rw[hal,B03 hx]
    clear ha hL hx hal;go_wp2_with fail;refine cM8 (hI2 x (.slice ax x.ks.length cx) g d _ hxw (hK.below ?hb)) ?_
    case hb=>exact bex
    rintro y w2 ⟨rfl,hb2⟩;have hz2:=hb2.size;simp at hz2;have C0:Below w.heap.size w w2:=bex;cases hX:okE f x with
    |false=>
     have HX:Hid (okE (f+1) e=false):=by show _=_;rw[HB.out,HS.out,hX];rfl
     clear hX;go_wp2;go_returns;exact⟨rB8 HX.out.symm,C0⟩
    |true=>
     have HX:Hid (e.ks.all (okE f)=(e.ks.drop (k+1)).all (okE f)):=by show _=_;rw[HS.out,hX];rfl
     clear hX;go_wp2;exact⟨⟨k+1,hlt,by simp,HX.out,C0⟩,by simp[intOf];omega⟩
   ·go_wp2;go_returns;refine⟨rB8 ?_,hb⟩;rw[HB.out,hal,List.drop_eq_nil_of_le (by omega)];rfl
theorem A91:∀f,f<=13->OkI f
 |0,_=>B6B
 |f+1,h=>B8Z (by omega) (A91 f (by omega))
theorem B40 (e:E7)(u:Value)(F:List Nat)(d:Nat)(w:World)(hw:e.wf)(hk:C1 w d u e.ks F):Calls Tryz.prog 131 #[(.agg #[.int .i64 e.k,.int .i64 e.n,.int .i64 e.v.k,.int .i64 e.v.n,.string e.v.s,.string e.p,u])] w fun x w'=>x=.returned (.bool (okE 13 e))/\Below w.heap.size w w':=by
 have hI:=A91 13 lr8;have hI2:∀ (e:E7) (u:Value) (F:List Nat) (d:Nat) (w:World),e.wf->C1 w d u e.ks F-> Calls Tryz.prog 150 #[(.agg #[.int .i64 e.k,.int .i64 e.n,.int .i64 e.v.k,.int .i64 e.v.n,.string e.v.s,.string e.p,u]),.int .i64 0] w fun x w'=>x=.returned (.bool (okE 13 e))/\Below w.heap.size w w':=hI;clear hI;obtain⟨a,c,rfl,_,_⟩:=hk.shape;go_enter Tryz.func131,Tryz.ntmps131;go_wp2_with fail;refine cM8 (hI2 e (.slice a e.ks.length c) F d _ hw (hk.below ?hb)) ?_
 case hb=>exact bex
 rintro y w2 ⟨rfl,hb2⟩;have hz2:=hb2.size;simp at hz2;go_wp2;go_returns;exact⟨rfl,bex⟩
theorem A7M (n a b:Int)(w:World):Calls Tryz.prog 71 #[.int .i64 n,.int .i64 a,.int .i64 b] w fun e w'=>e=.returned (.bool (decide (a<=n) &&decide (n<=b)))/\Below w.heap.size w w':=by
 by_cases h1:a<=n
 ·go_enter Tryz.func71,Tryz.ntmps71;go_wp2;go_returns;exact⟨rB8 (by simp[h1]),by go_grown⟩
 ·go_enter Tryz.func71,Tryz.ntmps71;go_wp2;go_returns;exact⟨rB8 (by simp;omega),by go_grown⟩
theorem B2n (n:Int):(decide (0<=n) &&decide (n<=11))=A0H n:=by unfold A0H;congr 1;rw[decide_eq_decide];omega
theorem C2Y (n:Int)(w:World):Calls Tryz.prog 71 #[.int .i64 n,.int .i64 0,.int .i64 11] w fun e w'=>e=.returned (.bool (A0H n))/\Below w.heap.size w w':=by
 rw[<-B2n];exact A7M n 0 11 w
theorem C3L (b:Nat)(p:ByteArray)(w:World)(hlt:b<w.heap.size)(h:∀i q,s8[i]?=some q->w.cell? ⟨b,0+i,none⟩=some (.string q)):Calls Tryz.prog 145 #[.slice (some ⟨b,0,none⟩) 9 9,.string p] w fun e w'=>e=.returned (.bool (opB p))/\Below w.heap.size w w':=
 C0c b 0 9 s8 p w (by decide) (by omega) hlt h
theorem B8G {w:World}{b:Nat}{t:TypeId}{m:Nat×Nat}(h:w.heap[b]?=some (.cells #[.string ⟨#[43]⟩,.string ⟨#[45]⟩,.string ⟨#[42]⟩,.string ⟨#[47]⟩,.string ⟨#[61]⟩,.string ⟨#[60]⟩,.string ⟨#[126]⟩,.string ⟨#[97,110,100]⟩,.string ⟨#[111,114]⟩] t m)):∀i q,s8[i]?=some q->w.cell? ⟨b,0+i,none⟩=some (.string q):=by
 intro i q hq;have hi:i<9:=(gE1 hq).1
 match i,hi with
 |0,_=>cases hq;simp[World.cell?,h]
 |1,_=>cases hq;simp[World.cell?,h]
 |2,_=>cases hq;simp[World.cell?,h]
 |3,_=>cases hq;simp[World.cell?,h]
 |4,_=>cases hq;simp[World.cell?,h]
 |5,_=>cases hq;simp[World.cell?,h]
 |6,_=>cases hq;simp[World.cell?,h]
 |7,_=>cases hq;simp[World.cell?,h]
 |8,_=>cases hq;simp[World.cell?,h]
def OkS (f:Nat):Prop:=∀ (e:E7) (u:Value) (F:List Nat) (d:Nat) (w:World),e.wf->C1 w d u e.ks F->
  Calls Tryz.prog 121 #[(.agg #[.int .i64 e.k,.int .i64 e.n,.int .i64 e.v.k,.int .i64 e.v.n,.string e.v.s,.string e.p,u]),.int .i64 (f -1)] w fun x w'=>x=.returned (.bool (okE f e))/\Below w.heap.size w w'
theorem B2Z:OkS 0:=by
 intro e u F d w hw hk;obtain⟨a,c,rfl,_,_⟩:=hk.shape;simp only[okE];go_enter Tryz.func121,Tryz.ntmps121;go_wp2;go_returns;exact⟨rfl,bex⟩
theorem B5F {f:Nat}(hf:f<13)(hI:OkS f):OkS (f+1):=by
 intro e u F d w hw hk;obtain⟨d,rfl⟩:∃d',d=d'+1:=by cases d with|zero=>exact hk.elim|succ d=>exact⟨d,rfl⟩
 obtain⟨a,c,b,o,G,rfl,hl,hc,hG,_,ha⟩:=hk.pick;have hml:e.ks.length<=maxLen:=by omega
 have hsm:e.v.s.size<=maxLen:=hw.2.2.1.2.2;unfold maxLen at hc;obtain⟨t,ht⟩:∃t:Int,t=((f+1:Nat):Int) -1:=⟨_,rfl⟩;rw[<-ht];have ht0:0<=t:=by omega
 have ht1:t<=12:=by omega
 have HT:Hid (t -1=(f:Int) -1):=by show _=_;omega
 have HO:Hid (okE (f+1) e=(P7 e &&e.ks.all (okE f))):=rfl;have hI2:∀ (e:E7) (u:Value) (F:List Nat) (d:Nat) (w:World),e.wf->C1 w d u e.ks F-> Calls Tryz.prog 121 #[(.agg #[.int .i64 e.k,.int .i64 e.n,.int .i64 e.v.k,.int .i64 e.v.n,.string e.v.s,.string e.p,u]),.int .i64 (t -1)] w fun x w'=>x=.returned (.bool (okE f e))/\Below w.heap.size w w':=by rw[HT.out];exact hI
 clear ht hf hI HT;go_enter Tryz.func121,Tryz.ntmps121;go_wp2;go_loopw [5] (fun i wr=> ∃k:Nat,k<=e.ks.length/\i=.int .i64 k/\e.ks.all (okE f)=(e.ks.drop k).all (okE f)/\Below (w.alloc (.cells #[.int .i64 e.k,.int .i64 e.n,.int .i64 e.v.k,.int .i64 e.v.n,.string e.v.s,.string e.p,.slice a e.ks.length c] 42)).heap.size (w.alloc (.cells #[.int .i64 e.k,.int .i64 e.n,.int .i64 e.v.k,.int .i64 e.v.n,.string e.v.s,.string e.p,.slice a e.ks.length c] 42)) wr) (fun i _=>e.ks.length - (intOf i).toNat)
 case atStart=>exact⟨0,Nat.zero_le _,rfl,by simp,Below.refl _ _⟩
 case round=>
  obtain⟨k,hkk,rfl,hal,hb⟩:=hrel;have hzb:=hb.size;simp only[World.size_alloc]at hzb;have q6:wr.cell? ⟨w.heap.size,6,none⟩=some (.slice a e.ks.length c):=cl8 hb;have bel:Below w.heap.size w wr:=bex;by_cases hlt:k<e.ks.length
  ·obtain⟨rfl,hblt,_,hL⟩:=ha k hlt;obtain⟨x,g,u,hx,hg,hxw,⟨c0,c1,c2,c3,c4,c5⟩,c6,hK,hbr⟩:=hL.at hG hblt bel hlt;obtain⟨ax,cx,rfl,_,_⟩:=hK.shape;have HS:Hid (e.ks.all (okE f)=(okE f x && (e.ks.drop (k+1)).all (okE f))):=by show _=_;rw[hal,B03 hx]
   clear ha hL hx hal;go_wp2_with fail;refine cM8 (hI2 x (.slice ax x.ks.length cx) g d _ hxw (hK.below ?hb)) ?_
   case hb=>exact bex
   rintro y w2 ⟨rfl,hb2⟩;have hz2:=hb2.size;have hbn:=hb.trans (hb2.mono (by simp;omega));have C0:Below w.heap.size w w2:=bex;cases hX:okE f x with
   |false=>
    have HX:Hid (okE (f+1) e=false):=by show _=_;rw[HO.out,HS.out,hX];simp
    clear hX;go_wp2;go_returns;exact⟨rB8 HX.out.symm,C0⟩
   |true=>
    have HX:Hid (e.ks.all (okE f)=(e.ks.drop (k+1)).all (okE f)):=by show _=_;rw[HS.out,hX];rfl
    clear hX;go_wp2;exact⟨⟨k+1,hlt,by simp,HX.out,hbn⟩,by simp[intOf];omega⟩
  ·have HP:Hid (okE (f+1) e=P7 e):=by show _=_;rw[HO.out,hal,List.drop_eq_nil_of_le (by omega)];simp
   have q0:wr.cell? ⟨w.heap.size,0,none⟩=some (.int .i64 e.k):=cl8 hb;have q1:wr.cell? ⟨w.heap.size,1,none⟩=some (.int .i64 e.n):=cl8 hb;have q2:wr.cell? ⟨w.heap.size,2,none⟩=some (.int .i64 e.v.k):=cl8 hb;have q3:wr.cell? ⟨w.heap.size,3,none⟩=some (.int .i64 e.v.n):=cl8 hb;have q4:wr.cell? ⟨w.heap.size,4,none⟩=some (.string e.v.s):=cl8 hb;have q5:wr.cell? ⟨w.heap.size,5,none⟩=some (.string e.p):=cl8 hb;have hq:=eqV;have hy:w.heap.size<wr.heap.size:=by omega
   obtain rfl:k=e.ks.length:=by omega
   clear ha hb hI2 HO hal hkk hw hk;by_cases h0:e.k=0
   ·rw[A58 h0]at HP;rw[h0]at q0;clear h0;go_wp2_with fail;all_goals(
     refine cM8 (C2Y _ _) ?_;rintro x w1 ⟨rfl,hb1⟩;have hz1:=hb1.size;have r2:w1.cell? ⟨w.heap.size,2,none⟩=some (.int .i64 e.v.k):=cl8 hb1;have r3:w1.cell? ⟨w.heap.size,3,none⟩=some (.int .i64 e.v.n):=cl8 hb1;have r4:w1.cell? ⟨w.heap.size,4,none⟩=some (.string e.v.s):=cl8 hb1;have r5:w1.cell? ⟨w.heap.size,5,none⟩=some (.string e.p):=cl8 hb1;have r6:w1.cell? ⟨w.heap.size,6,none⟩=some (.slice a e.ks.length c):=cl8 hb1;have F8:Below w.heap.size w w1:=bex;generalize hB:A0H _=b1;have HB:Hid _:=hB;clear hb1 hB q0 q1 q2 q3 q4 q5 q6;go_wp2;all_goals(go_returns;exact⟨rB8 (by clear hq;have hB:=HB.out;rw[HP.out];simp_all [Q8,mb0]),bex⟩))
   by_cases h1:e.k=1
   ·rw[A6w h1]at HP;rw[h1]at q0;clear h1 h0;go_wp2_with fail;all_goals(
     refine cM8 (A6C _ _ _ _ hsm) ?_;rintro x w1 ⟨rfl,hb1⟩;have hz1:=hb1.size;have r1:w1.cell? ⟨w.heap.size,1,none⟩=some (.int .i64 e.n):=cl8 hb1;have r5:w1.cell? ⟨w.heap.size,5,none⟩=some (.string e.p):=cl8 hb1;have r6:w1.cell? ⟨w.heap.size,6,none⟩=some (.slice a e.ks.length c):=cl8 hb1;have F8:Below w.heap.size w w1:=bex;generalize hB:okB _ _ _=b1;have HB:Hid _:=hB;clear hb1 hB q0 q1 q2 q3 q4 q5 q6;go_wp2;all_goals(go_returns;exact⟨rB8 (by clear hq;have hB:=HB.out;rw[HP.out];simp_all [mb0]),bex⟩))
   by_cases h2:e.k=2
   ·rw[A6T h2]at HP;rw[h2]at q0;clear h2 h1 h0;go_wp2_with fail
    ·refine cM8 (C3L _ e.p _ ?hlt ?hcells) ?_
     case hlt=>simp
     case hcells=>exact B8G (heap_alloc_new wr _)
     rintro x w1 ⟨rfl,hb1⟩;have hz1:=hb1.size;simp only[World.size_alloc]at hz1;have F8:Below w.heap.size w w1:=bex;generalize hB:opB e.p=b1;have HB:Hid _:=hB;clear hb1 hB q0 q1 q2 q3 q4 q5 q6;go_wp2;all_goals(go_returns;exact⟨rB8 (by clear hq;have hB:=HB.out;rw[HP.out];first|(simp_all [Q8];done)|(simp_all [Q8];intros;omega)),bex⟩)
    all_goals(go_returns;exact⟨rB8 (by clear hq;rw[HP.out];first|(simp_all [Q8];done)|(simp_all [Q8];intros;omega)),bex⟩)
   by_cases h3:e.k=3
   ·rw[A7D h3]at HP;rw[h3]at q0;clear h3 h2 h1 h0;go_wp2;all_goals(go_returns;exact⟨rB8 (by clear hq;rw[HP.out];simp_all [Q8,mb1]),bex⟩)
   by_cases h4:e.k=4
   ·rw[A6W h4]at HP;rw[h4]at q0;clear h4 h3 h2 h1 h0;go_wp2;all_goals(go_returns;exact⟨rB8 (by clear hq;rw[HP.out];simp_all [Q8,mb1]),bex⟩)
   rw[A5B h0 h1 h2 h3 h4]at HP;go_wp2;all_goals(go_returns;exact⟨rB8 HP.out.symm,bex⟩)
theorem B0r:∀f,f<=13->OkS f
 |0,_=>B2Z
 |f+1,h=>B5F (by omega) (B0r f (by omega))
theorem B17 (e:E7)(u:Value)(F:List Nat)(d:Nat)(w:World)(hw:e.wf)(hk:C1 w d u e.ks F):Calls Tryz.prog 95 #[(.agg #[.int .i64 e.k,.int .i64 e.n,.int .i64 e.v.k,.int .i64 e.v.n,.string e.v.s,.string e.p,u])] w fun x w'=>x=.returned (.bool (okE 13 e))/\Below w.heap.size w w':=by
 have hI:=B0r 13 lr8;have hI2:∀ (e:E7) (u:Value) (F:List Nat) (d:Nat) (w:World),e.wf->C1 w d u e.ks F-> Calls Tryz.prog 121 #[(.agg #[.int .i64 e.k,.int .i64 e.n,.int .i64 e.v.k,.int .i64 e.v.n,.string e.v.s,.string e.p,u]),.int .i64 12] w fun x w'=>x=.returned (.bool (okE 13 e))/\Below w.heap.size w w':=hI;clear hI;obtain⟨a,c,rfl,_,_⟩:=hk.shape;go_enter Tryz.func95,Tryz.ntmps95;go_wp2_with fail;refine cM8 (hI2 e (.slice a e.ks.length c) F d _ hw (hk.below ?hb)) ?_
 case hb=>exact bex
 rintro y w2 ⟨rfl,hb2⟩;have hz2:=hb2.size;simp at hz2;go_wp2;go_returns;exact⟨rfl,bex⟩
end
section
open Go.RowKit Go.Deep Go.ChangeShapes Go.WideShapes
theorem Tryz.infoPtE:(Tryz.prog.info? 206).map (fun i=>(i.zero,i.size,i.bytes))=some (some (.pointer none),1,8):=by kernel_rfl
def pts (ns:List Nd):List Value:=ns.map fun x=> .pointer (some ⟨x.b,x.o,none⟩)
theorem C0P (ns:List Nd):(pts ns).length=ns.length:=by simp[pts]
theorem B2I (ns:List Nd)(x:Nd):pts (ns++ [x])=pts ns++ [.pointer (some ⟨x.b,x.o,none⟩)]:=by simp[pts]
theorem A4T {w:World}{N n:Nat}{v:Value}{ns:List Nd}{t:TypeId}(h:w.ownsRow N t 1 v n (pts ns)){i:Nat}{x:Nd}(hx:ns[i]?=some x):∃g cap,v=.slice (some ⟨g,0,none⟩) n cap/\n=ns.length/\i<n/\n<=cap/\cap<=maxLen/\g<w.heap.size/\N<=g/\w.cell? ⟨g,i,none⟩=some (.pointer (some ⟨x.b,x.o,none⟩)):=by
 obtain⟨hl,ho⟩:=h;rw[C0P]at hl;have hi:i<ns.length:=(gE1 hx).1;have e0:(pts ns)[i]?=some (.pointer (some ⟨x.b,x.o,none⟩)):=by simp[pts,hx]
 rcases ho with⟨_,h0⟩|⟨g,cap,cur,rfl,hg,hc,hn,hmx,hs,ht⟩
 ·omega
 have hlt:g<w.heap.size:=by
  rcases Nat.lt_or_ge g w.heap.size with h'|h'
  ·exact h'
  ·simp[Array.getElem?_eq_none h']at hc
 refine⟨g,cap,rfl,by omega,by omega,hn,hmx,hlt,hg,?_⟩;simp only[World.cell?,hc];rw[<-ht,List.getElem?_take,if_pos (by omega),Array.getElem?_toList]at e0
 simpa using e0
theorem B0c {ks:List E7}{g k:Nat}{e:E7}(h:ks[k]?=some e):(news ks g).take (k+1)=(news ks g).take k++ [⟨g,k*7,e⟩]:=by
 have h1:=A55 (g:=g) h;obtain⟨hk,h2⟩:=gE1 h1;rw[List.take_succ_eq_append_getElem hk,h2]
theorem B90 {w:World}{D:Nat}{P:E7->Prop}{e:E7}{u:Value}{wr:World}(hN:0<w.heap.size)(he:e.wf)(hP:P e)(hb:w.heap.size<wr.heap.size)(hf:∀q,wr.frozen? ⟨w.heap.size,q,none⟩=false)(hc:cellsE wr w.heap.size 0 e)(hu:wr.cell? ⟨w.heap.size,6,none⟩=some u)(hr:RE w (D+1) u e.ks):NQ w D (fun _=>(0,0)) P wr 0 [⟨w.heap.size,0,e⟩]:=by
 refine⟨fun j x hx=>?_,fun j k x y hx hy _ _=>?_,rfl,fun c hc=>hc⟩
 ·cases j with
  |zero=>
   simp at hx;subst hx;exact⟨⟨he,hP,Nat.le_refl _,hb,hf,rfl⟩,hc,u,hu,fun _=>hr,fun h=>absurd h (by omega)⟩
  |succ j=>simp at hx
 ·have h1:=(gE1 hx).1;have h2:=(gE1 hy).1;simp at h1 h2;omega
theorem B6N {w wr w1:World}{u v:Value}{ks:List E7}(hcl:A3x w1 wr.heap.size u v ks.length)(hb:Below w.heap.size w w1):∃gg av cv,v=.slice av ks.length cv/\wr.heap.size<=gg/\ks.length<=cv/\cv<=maxLen/\(ks≠ []->av=some ⟨gg,0,none⟩)/\
   (ks≠ []->gg<w1.heap.size/\(∀q,w1.frozen? ⟨gg,q,none⟩=false)/\∀b o n c,u=.slice (some ⟨b,o,none⟩) n c->b<w.heap.size->∀j,j<ks.length*7->w1.cell? ⟨gg,j,none⟩=w.cell? ⟨b,o+j,none⟩):=by
 rcases hcl with⟨h0,a,c,rfl,hc⟩|⟨b,o,c,g,cap,rfl,rfl,hg,hgl,Q9,hm,hf,C5⟩
 ·have hne:¬ks≠ []:=fun h=>h (List.length_eq_zero_iff.1 h0);exact⟨wr.heap.size,a,c,by rw[h0],Nat.le_refl _,by omega,hc,fun h=>absurd h hne,fun h=>absurd h hne⟩
 ·refine⟨g,_,cap,rfl,hg,Q9,hm,fun _=>rfl,fun _=>⟨hgl,hf,fun b' o' n' c' hu hb' j hj=>?_⟩⟩;injection hu with ha;injection ha with ha;injection ha with h1 h2;subst h1 h2;rw[C5 j hj];exact(bc8 hb).1 _ _ hb'
theorem NQ.round2 {w wr w1 w3:World}{D i g gg BM:Nat}{hang:Nat->Nat×Nat}{P:E7->Prop}{ns:List Nd}{x:Nd}{u:Value}{av:Option Addr}{cv:Nat}(h:NQ w D hang P wr i ns)(hx:ns[i]?=some x)(hP:∀e,P e->∀k∈e.ks,P k)(hu:wr.cell? ⟨x.b,x.o+6,none⟩=some u)(hN:w.heap.size<=wr.heap.size)(hb1:Below wr.heap.size wr w1) (S3:∀ (j:Nat) (y:Nd),ns[j]?=some y->y.b≠g) (hdisB:∀ (j:Nat) (y:Nd),ns[j]?=some y->y.b≠BM) (hBM:BM<wr.heap.size) (hg:g<wr.heap.size) (hs3:w1.heap.size<=w3.heap.size)(h3:∀b,b<w1.heap.size->b≠g->b≠BM->w3.heap[b]?=(w1.setCell ⟨x.b,x.o+6,none⟩ (.slice av x.e.ks.length cv)).heap[b]?)(hgg:wr.heap.size<=gg) (hc1:x.e.ks.length<=cv) (hc2:cv<=maxLen) (hav:x.e.ks≠ []->av=some ⟨gg,0,none⟩)(hgl:x.e.ks≠ []->gg<w1.heap.size/\(∀q,w1.frozen? ⟨gg,q,none⟩=false)/\∀b o n c,u=.slice (some ⟨b,o,none⟩) n c->b<w.heap.size->∀j,j<x.e.ks.length*7->w1.cell? ⟨gg,j,none⟩=w.cell? ⟨b,o+j,none⟩):NQ w D (fun c=>if c=gg then(x.b,x.o+6)else hang c) P w3 (i+1) (ns++news x.e.ks gg)/\(∀ (j:Nat) (y:Nd),ns[j]?=some y->j≠i->w3.cell? ⟨y.b,y.o+6,none⟩=wr.cell? ⟨y.b,y.o+6,none⟩)/\
   (x.e.ks≠ []->∀b o n c,u=.slice (some ⟨b,o,none⟩) n c->b<w.heap.size->∀j,j<x.e.ks.length*7->w3.cell? ⟨gg,j,none⟩=w.cell? ⟨b,o+j,none⟩):=by
 have hz1:=hb1.size;have hlt:∀ (j:Nat) (y:Nd),ns[j]?=some y->y.b<wr.heap.size:=fun j y hy=>(h.at' j y hy).1.2.2.2.1;have hxl:=hlt i x hx;have far:∀ (j:Nat) (y:Nd),ns[j]?=some y->∀q,(y.b≠x.b\/q≠x.o+6)->w3.cell? ⟨y.b,q,none⟩=wr.cell? ⟨y.b,q,none⟩:=by
  intro j y hy q hne;have hy1:=hlt j y hy;rw[cb8 (h3 y.b (by omega) (S3 j y hy) (hdisB j y hy)),cO8 _ _ _ _ (by
   intro e;have e1:=congrArg Addr.block e;have e2:=congrArg Addr.off e;rcases hne with h|h
   ·exact h e1.symm
   ·exact h e2.symm)]
  exact(bc8 hb1).1 _ _ hy1
 have hgb:x.e.ks≠ []->w3.heap[gg]?=w1.heap[gg]?:=fun hne=>by
  rw[h3 gg (hgl hne).1 (by omega) (by omega)];exact bS8 _ _ _ _ (by show gg≠x.b;omega)
 refine⟨h.step hx hP hu (by omega) hN far (fun j y hy q=>?_) ?_ hgg ⟨av,cv,rfl,hc1,hc2,hav⟩ fun hne=>?_,fun j y hy hji=>far j y hy _ ?_,fun hne b o n c hu hb j hj=>(cb8 (hgb hne)).trans ((hgl hne).2.2 b o n c hu hb j hj)⟩
 ·have hy1:=hlt j y hy;rw[fb8 (h3 y.b (by omega) (S3 j y hy) (hdisB j y hy)),World.frozen?_setCell];exact(bc8 hb1).2 _ _ hy1
 ·rw[cb8 (h3 x.b (by omega) (S3 i x hx) (hdisB i x hx))];exact cS8 _ _ _ (((bc8 hb1).1 _ _ hxl).trans hu)
 ·obtain⟨hl,hf,hc⟩:=hgl hne;exact⟨by omega,fun q=>(fb8 (hgb hne)).trans (hf q),fun b o n c hu hb j hj=>(cb8 (hgb hne)).trans (hc b o n c hu hb j hj)⟩
 ·by_cases hb:y.b=x.b
  ·right;intro ho;exact hji (h.dist j i y x hy hx hb (by omega))
  ·exact .inl hb
theorem B0m (b q:Nat)(u:Value)(w:World)(hl:b<w.heap.size)(h:w.cell? ⟨b,q+6,none⟩=some u):Calls Tryz.prog 128 #[.pointer (some ⟨b,q,none⟩)] w fun x w'=>x=.returned (.pointer (some ⟨b,q+6,none⟩))/\w'=w:=by
 go_enter Tryz.func128,Tryz.ntmps128;go_wp2;go_returns;exact⟨rfl,rfl⟩
def A7U (w:World)(D:Nat)(P:E7->Prop)(e:E7)(w':World)(v:Value):Prop:=
 ∃ (ns:List Nd) (hang:Nat->Nat×Nat),w'.ownsRow w.heap.size 206 1 v ns.length (pts ns)/\ns[0]?=some ⟨w.heap.size,0,e⟩/\NQ w D hang P w' ns.length ns/\(∀ (j:Nat) (y:Nd),ns[j]?=some y->v.ownBlock≠some y.b)/\ns.length<=2097153
theorem B1P (w:World)(X Y Z:Obj):(((w.alloc X).alloc Y).alloc Z).heap[w.heap.size+1]?=some Y/\(((w.alloc X).alloc Y).alloc Z).heap[w.heap.size+1+1]?=some Z:=by
 constructor
 ·have:=(A5L (w.alloc X) Y Z).1
  rwa [World.size_alloc]at this
 ·have:=(A5L (w.alloc X) Y Z).2
  rwa [World.size_alloc]at this
attribute [local go_sem] Go.run_makeMap_plain
theorem C1z (D:Nat)(P:E7->Prop)(hP:∀e,P e->∀k∈e.ks,P k)(e:E7)(u:Value)(F:List Nat)(w:World)(hN:0<w.heap.size)(he:e.wf)(hPe:P e)(hk:C1 w (D+1) u e.ks F)(hd:(F.Nodup/\∀b∈F,Fr w b)\/Z2 e<=8191)(hn:wtE e<=2097152):Calls Tryz.prog 177 #[(.agg #[.int .i64 e.k,.int .i64 e.n,.int .i64 e.v.k,.int .i64 e.v.n,.string e.v.s,.string e.p,u]),.func (.func 128) #[] #[],.int .i64 8192] w fun x w'=>(∃v,x=.returned v/\A7U w D P e w' v)/\Below w.heap.size w w':=by
 obtain⟨i0,hi,hz0,hz1,hz2⟩:=info_parts Tryz.infoPtE;obtain⟨a,c,rfl,hl,hc⟩:=hk.shape;have hre:=hk.re;go_enter Tryz.func177,Tryz.ntmps177;go_wp2;go_loopw [7,9] (fun y i wr=> ∃ (i':Nat) (ns:List Nd) (hang:Nat->Nat×Nat) (es:Array MapEntry) (ck:Nat),i=.int .i64 i'/\i'<=ns.length/\wr.ownsRow w.heap.size 206 1 y ns.length (pts ns)/\ns[0]?=some ⟨w.heap.size,0,e⟩/\NQ w D hang P wr i' ns/\(∀ (j:Nat) (z:Nd),ns[j]?=some z->y.ownBlock≠some z.b)/\(∀ (j:Nat) (z:Nd),ns[j]?=some z->z.b≠w.heap.size+1+1)/\wr.heap[w.heap.size+1+1]?=some (.map es ck)/\MQ w D F wr i' ns es/\Below w.heap.size w wr/\i'+rem i' ns<=1+wtE e) (fun _ i _=>1+wtE e - (intOf i).toNat)
 case atStart=>
  refine⟨0,[⟨w.heap.size,0,e⟩],fun _=>(0,0),#[],0,rfl,Nat.zero_le _,?_,rfl,B90 hN he hPe (by simp;omega) (fun q=>by go_simp) ⟨by go_simp,by go_simp,by go_simp,by go_simp,by go_simp,by go_simp⟩ (u:=.slice a e.ks.length c) (by go_simp) hre,?_,?_,?_,C0z (u:=.slice a e.ks.length c) hd (by show World.cell? _ ⟨w.heap.size,0+6,none⟩=_;go_simp) hk,bex,by simp[rem]⟩
  ·refine⟨by simp[pts],.inr ⟨w.heap.size+1,1,#[.pointer (some ⟨w.heap.size,0,none⟩)],rfl,by omega,?_,Nat.le_refl _,by unfold maxLen;omega,by first|rfl|simp,by first|rfl|simp[pts]⟩⟩;exact(B1P w _ _ _).1
  ·intro j z hz;have h1:=(gE1 hz).1;simp at h1;subst h1;simp at hz;subst hz;simp[Value.ownBlock]
  ·intro j z hz;have h1:=(gE1 hz).1;simp at h1;subst h1;simp at hz;subst hz;show w.heap.size≠w.heap.size+1+1;omega
  ·exact(B1P w _ _ _).2
 case round=>
  obtain⟨i,ns,hang,es,ck,rfl,hile,D2,h00,hQ,S3,hdisB,hmap,hMQ,hb,hrem⟩:=hrel;have hzb:=hb.size;have D3:ns.length<=2097153:=by have:=B3Q i ns;omega
  by_cases hlt:i<ns.length
  ·obtain⟨x,hx⟩:∃x,ns[i]?=some x:=⟨ns[i],by simp[hlt]⟩;obtain⟨g,cap,rfl,_,_,Q9,hcm,hgl0,hgN,hp⟩:=A4T D2 hx;obtain⟨⟨xw,xP,xN,xl,xf,xo⟩,xc,uu,xu,xre,_⟩:=hQ.at' i x hx;have xre:=xre lr8;obtain⟨au,cu,rfl,hul,huc⟩:=xre.shape;have hxr:=A8G hx;have hks:x.e.ks.length<=2097152:=by have:=j3 x.e;omega
   have hxg:x.b≠g:=fun h=>S3 i x hx (by rw[h];rfl);have hxB:x.b≠w.heap.size+1+1:=hdisB i x hx;have hBz:w.heap.size+1+1<wr.heap.size:=(Array.getElem?_eq_some_iff.1 hmap).1;have hgB:g≠w.heap.size+1+1:=by
    obtain⟨g',cap',e',_,_,_,_,c',t',l',hc'⟩:=B1J D2 (by omega);injection e' with e1;injection e1 with e1;injection e1 with e1;intro h;rw[<-e1,h,hmap]at hc';cases hc'
   have HX:Hid (ns[i]?=some x):=hx;have HR:=fun g=>C37 g hx;unfold maxLen at hcm huc;by_cases hne0:x.e.ks=[]
   ·have h0:((x.e.ks.length:Int)==0)=true:=by rw[hne0];rfl
    have far:∀ (j:Nat) (y:Nd),ns[j]?=some y->∀q,(y.b≠x.b\/q≠x.o+6)->(wr.setCell ⟨x.b,x.o+6,none⟩ (.slice none 0 0)).cell? ⟨y.b,q,none⟩=wr.cell? ⟨y.b,q,none⟩:=by
     intro j y hy q hne;exact cO8 _ _ _ _ (by
      intro e;have e1:=congrArg Addr.block e;have e2:=congrArg Addr.off e;rcases hne with h|h
      ·exact h e1.symm
      ·exact h e2.symm)
    have hQ3:=hQ.step (w3:=wr.setCell ⟨x.b,x.o+6,none⟩ (.slice none 0 0)) (g:=wr.heap.size) (v:=.slice none 0 0) hx hP xu (by simp) hzb far (fun j y hy q=>World.frozen?_setCell _ _ _ _) (cS8 _ _ _ xu) lr8 ⟨none,0,by rw[hne0];rfl,by rw[hne0];simp,by simp,fun h=>absurd hne0 h⟩ (fun h=>absurd hne0 h);have hM3:MQ w D F (wr.setCell ⟨x.b,x.o+6,none⟩ (.slice none 0 0)) (i+1) ns es:=hMQ.skip hx fun j y hy hji=>far j y hy _ (by
     by_cases hb:y.b=x.b
     ·right;intro ho;exact hji (hQ.dist j i y x hy hx hb (by omega))
     ·exact .inl hb)
    have A2E:ns++news x.e.ks wr.heap.size=ns:=by rw[hne0];simp[news]
    rw[A2E]at hQ3;have A6k:=HR wr.heap.size;rw[A2E]at A6k;have H5:(wr.setCell ⟨x.b,x.o+6,none⟩ (.slice none 0 0)).ownsRow w.heap.size 206 1 (.slice (some ⟨g,0,none⟩) ns.length cap) ns.length (pts ns):=p6 D2 fun b hb=>by simp[Value.ownBlock]at hb;subst hb;exact bS8 _ _ _ _ (Ne.symm hxg)
    have A36:(wr.setCell ⟨x.b,x.o+6,none⟩ (.slice none 0 0)).heap[w.heap.size+1+1]?=some (.map es ck):=(bS8 _ _ _ _ (Ne.symm hxB)).trans hmap;have B2U:Below w.heap.size w (wr.setCell ⟨x.b,x.o+6,none⟩ (.slice none 0 0)):=hb.setCell xN _;clear hre HX HR far hQ hMQ A2E;go_wp2_with(first|(go_at_call 128;refine(B0m x.b x.o (.slice au x.e.ks.length cu) _ xl xu).mono ?_;rintro z w' ⟨rfl,hww⟩;(obtain rfl:wr=w':=hww.symm))|fail);exact⟨⟨i+1,ns,_,es,ck,by simp,hlt,H5,h00,hQ3,S3,hdisB,A36,hM3,B2U,by omega⟩,by simp[intOf];omega⟩
   ·have hne:x.e.ks≠ []:=hne0;obtain⟨b,o,rfl,hbw⟩:∃b o,au=some ⟨b,o,none⟩/\b<w.heap.size:=by
     obtain⟨a',c',e',_,_,h⟩:=xre;obtain⟨b,o,rfl,hb,_⟩:=h hne;injection e' with e1;exact⟨b,o,e1,hb⟩
    have h0:((x.e.ks.length:Int)==0)=false:=by
     have:=List.length_pos_iff.2 hne;simp;omega
    have P3:(0:Int)<x.e.ks.length:=by have:=List.length_pos_iff.2 hne;omega
    have C4v:0<x.e.ks.length:=List.length_pos_iff.2 hne;have C4y:(cu:Int)<=9223372036854775807:=by omega
    clear hre hx hne0;go_wp2_with(first|(go_at_call 128;refine(B0m x.b x.o (.slice (some ⟨b,o,none⟩) x.e.ks.length cu) _ xl xu).mono ?_;rintro z w' ⟨rfl,hww⟩;(obtain rfl:wr=w':=hww.symm))|fail);go_region_held3 (fun w'=>w'.cell? ⟨x.b,x.o+6,none⟩=some (.slice (some ⟨b,o,none⟩) x.e.ks.length cu)) (go_simp) (fail);have hX:Below w.heap.size w (World.drew (World.alloc wr (.cells #[.pointer (some ⟨b,o,none⟩),.int .i64 x.e.ks.length] 282))):=bex;have hbX:Below wr.heap.size wr (World.drew (World.alloc wr (.cells #[.pointer (some ⟨b,o,none⟩),.int .i64 x.e.ks.length] 282))):=bex;have x0:(World.drew (World.alloc wr (.cells #[.pointer (some ⟨b,o,none⟩),.int .i64 x.e.ks.length] 282))).cell? ⟨wr.heap.size,0,none⟩=some (.pointer (some ⟨b,o,none⟩)):=by go_simp
    have x1:(World.drew (World.alloc wr (.cells #[.pointer (some ⟨b,o,none⟩),.int .i64 x.e.ks.length] 282))).cell? ⟨wr.heap.size,1,none⟩=some (.int .i64 x.e.ks.length):=by go_simp
    have xz:(World.drew (World.alloc wr (.cells #[.pointer (some ⟨b,o,none⟩),.int .i64 x.e.ks.length] 282))).heap.size=wr.heap.size+1:=by simp
    have xuX:(World.drew (World.alloc wr (.cells #[.pointer (some ⟨b,o,none⟩),.int .i64 x.e.ks.length] 282))).cell? ⟨x.b,x.o+6,none⟩=some (.slice (some ⟨b,o,none⟩) x.e.ks.length cu):=(hbX.cell (p:=⟨x.b,_,none⟩) xl).trans xu;generalize(World.drew (World.alloc wr (.cells #[.pointer (some ⟨b,o,none⟩),.int .i64 x.e.ks.length] 282)))=wX at*;have hmX:wX.heap[w.heap.size+1+1]?=some (.map es ck):=(hbX.block _ hBz).trans hmap;have A4D:=C2x wX (p:=⟨b,o,none⟩) (n:=x.e.ks.length) hmX (hMQ.miss HX.out xu hne hX);have hxX:x.b<wX.heap.size:=by omega
    have pX:=((bc8 hbX).1 _ _ hgl0).trans hp;have gX:g<wX.heap.size:=by omega
    have HQ:Hid (NQ w D hang P wr i ns):=hQ;clear hQ hp;go_wp2_with fail;refine cM8 (B39 D (.slice (some ⟨b,o,none⟩) x.e.ks.length cu) x.e.ks wX (RE.below hX xre) hks) ?_;rintro ex w1 ⟨⟨v1,rfl,hcl⟩,hb1⟩;have B0n:=hb1.size;have L3:Below w.heap.size w w1:=hX.trans (hb1.mono hX.size);obtain⟨gg,av,cv,rfl,hgg,hcv1,hcv2,hav,hgl⟩:=B6N hcl L3;obtain rfl:=hav hne;have B1I:=(hgl hne).1;have xu1:w1.cell? ⟨x.b,x.o+6,none⟩=some (.slice (some ⟨b,o,none⟩) x.e.ks.length cu):=((bc8 hb1).1 _ _ hxX).trans xuX;have xf1:∀q,w1.frozen? ⟨x.b,q,none⟩=false:=fun q=>((bc8 hb1).2 _ q hxX).trans (((bc8 hbX).2 _ q xl).trans (xf q));have xl1:x.b<w1.heap.size:=by omega
    have hm1:w1.heap[w.heap.size+1+1]?=some (.map es ck):=(hb1.block _ (by omega)).trans hmX;have y0:=((bc8 hb1).1 _ _ (show wr.heap.size<wX.heap.size by omega)).trans x0;have y1:=((bc8 hb1).1 _ _ (show wr.heap.size<wX.heap.size by omega)).trans x1;have A7c:=hMQ.miss HX.out xu hne (L3.setCell (p:=⟨x.b,x.o+6,none⟩) xN (.slice (some ⟨gg,0,none⟩) x.e.ks.length cv));have A8p:x.b≠wr.heap.size:=by omega
    have hB4:=L3.setCell (p:=⟨x.b,x.o+6,none⟩) xN (.slice (some ⟨gg,0,none⟩) x.e.ks.length cv);clear hcl A4D pX x0 x1 xuX hav;by_cases hbig:8192<=ns.length
    ·have hbb:decide ((8192:Int)<=(ns.length:Int))=true:=by simp;omega
     have HM:Hid (∀w3:World,(∀ (j:Nat) (y:Nd),ns[j]?=some y->j≠i->w3.cell? ⟨y.b,y.o+6,none⟩=wr.cell? ⟨y.b,y.o+6,none⟩)->(∀j,j<x.e.ks.length*7->w3.cell? ⟨gg,j,none⟩=w.cell? ⟨b,o+j,none⟩)->MQ w D F w3 (i+1) (ns++news x.e.ks gg) (es.push ⟨.agg #[.pointer (some ⟨b,o,none⟩),.int .i64 x.e.ks.length],.slice (some ⟨gg,0,none⟩) x.e.ks.length cv,ck⟩)):=fun w3 h1 h2=>hMQ.note hbig HX.out xu hne h1 h2;go_wp2_with fail;obtain⟨wa,hwa⟩:∃z,z=(w1.setCell ⟨x.b,x.o+6,none⟩ (.slice (some ⟨gg,0,none⟩) x.e.ks.length cv)):=⟨_,rfl⟩;rw[<-hwa]at A7c hB4⊢;have s0:wa.cell? ⟨wr.heap.size,0,none⟩=some (.pointer (some ⟨b,o,none⟩)):=by rw[hwa,cb8 (bS8 _ _ _ _ (Ne.symm A8p))];exact y0
     have s1:wa.cell? ⟨wr.heap.size,1,none⟩=some (.int .i64 x.e.ks.length):=by rw[hwa,cb8 (bS8 _ _ _ _ (Ne.symm A8p))];exact y1
     have s2:wa.cell? ⟨x.b,x.o+6,none⟩=some (.slice (some ⟨gg,0,none⟩) x.e.ks.length cv):=by rw[hwa];exact cS8 _ _ _ xu1
     have A1:∀b',b'<w1.heap.size->wa.heap[b']?=(w1.setCell ⟨x.b,x.o+6,none⟩ (.slice (some ⟨gg,0,none⟩) x.e.ks.length cv)).heap[b']?:=by rw[hwa];intro _ _;rfl
     have A2:wa.heap.size=w1.heap.size:=by rw[hwa];simp
     have m2:wa.drew.heap[w.heap.size+1+1]?=some (.map es ck):=(A1 _ (by omega)).trans ((bS8 _ _ _ _ (Ne.symm hxB)).trans hm1);have A7L:=B9T wa.drew (p:=⟨b,o,none⟩) (n:=x.e.ks.length) (v:=.slice (some ⟨gg,0,none⟩) x.e.ks.length cv) m2 (hMQ.miss HX.out xu hne hB4.drew);obtain⟨B3,u1,B2,B4⟩:=A93 (o':=.map (es.push ⟨.agg #[.pointer (some ⟨b,o,none⟩),.int .i64 x.e.ks.length],.slice (some ⟨gg,0,none⟩) x.e.ks.length cv,ck⟩) (ck+1)) m2 (by omega) hB4.drew;generalize({wa.drew with heap:=wa.drew.heap.setIfInBounds (w.heap.size+1+1) (.map (es.push ⟨.agg #[.pointer (some ⟨b,o,none⟩),.int .i64 x.e.ks.length],.slice (some ⟨gg,0,none⟩) x.e.ks.length cv,ck⟩) (ck+1))}:World)=w2 at A7L B3 u1 B2 B4;have B8C:x.b<wa.drew.heap.size:=by show x.b<wa.heap.size;omega
     have B9K:wr.heap.size<wa.drew.heap.size:=by show wr.heap.size<wa.heap.size;omega
     clear hwa A7c;refine wp_region_held_drew (S:=(fun w'=>w'.cell? ⟨wr.heap.size,0,none⟩=some (.pointer (some ⟨b,o,none⟩))/\w'.cell? ⟨wr.heap.size,1,none⟩=some (.int .i64 x.e.ks.length)/\w'.cell? ⟨x.b,x.o+6,none⟩=some (.slice (some ⟨gg,0,none⟩) x.e.ks.length cv))) (by kernel_rfl) ?_ (fun hHeld=>?_)
     ·exact⟨s0,s1,s2⟩
     refine tkX (i:=0) (d:=65) (v:=?_) rfl rfl ?_ ?_;rotate_left
     ·intro w' hSw;obtain⟨s0,s1,s2⟩:=hSw;go_simp;try exact rfl
     refine tkX (i:=1) (d:=66) (v:=?_) rfl rfl ?_ ?_;rotate_left
     ·intro w' hSw;obtain⟨s0,s1,s2⟩:=hSw;go_simp;try exact rfl
     refine tkX (i:=2) (d:=67) (v:=?_) rfl rfl ?_ ?_;rotate_left
     ·intro w' hSw;obtain⟨s0,s1,s2⟩:=hSw;go_simp;try exact rfl
     refine tkX (i:=3) (d:=68) (v:=?_) rfl rfl ?_ ?_;rotate_left
     ·intro w' hSw;obtain⟨s0,s1,s2⟩:=hSw;go_simp;try exact rfl
     refine tkX (i:=4) (d:=69) (v:=?_) rfl rfl ?_ ?_;rotate_left
     ·intro w' hSw;obtain⟨s0,s1,s2⟩:=hSw;go_simp;try exact rfl
     refine wpAnyH_ready (rs:=[5]) (by kernel_rfl) (by simp) ?_;refine AllReadyH.cons rfl (fun KK hKK=>?_) AllReadyH.nil;go_simp;refine hKK.out _ _ ⟨(cb8 (u1 _ (by omega))).trans s0,(cb8 (u1 _ (by omega))).trans s1,(cb8 (u1 _ (by omega))).trans s2⟩ (fun N2=>?_);clear hKK N2;refine wpAnyH_done (by kernel_rfl) ?_ _;have B1:∀b',b'<w1.heap.size->b'≠w.heap.size+1+1->w2.heap[b']?=(w1.setCell ⟨x.b,x.o+6,none⟩ (.slice (some ⟨gg,0,none⟩) x.e.ks.length cv)).heap[b']?:=fun b' h1 h2=>(u1 b' h2).trans (A1 b' h1);have B2':w2.heap.size=w1.heap.size:=B2.trans A2;have xc2:w2.cell? ⟨x.b,x.o+6,none⟩=some (.slice (some ⟨gg,0,none⟩) x.e.ks.length cv):=(cb8 (u1 _ (by omega))).trans s2;have C42:x.b<w2.heap.size:=by omega
     clear hHeld A7L s0 s1 s2 u1 m2 hB4 hMQ hm1 B8C B9K A1 B2;have B2:=B2';clear B2';obtain⟨es2,hes2⟩:∃z,z=es.push ⟨.agg #[.pointer (some ⟨b,o,none⟩),.int .i64 x.e.ks.length],.slice (some ⟨gg,0,none⟩) x.e.ks.length cv,ck⟩:=⟨_,rfl⟩;obtain⟨ck2,hck2⟩:∃z,z=ck+1:=⟨_,rfl⟩;rw[<-hes2,<-hck2]at B3;rw[<-hes2]at HM;clear hes2 hck2;go_wp2_with fail;obtain⟨wo,hwo⟩:∃z,z=wr:=⟨_,rfl⟩;subst hwo;have H9:w2.ownsRow w.heap.size 206 1 (.slice (some ⟨g,0,none⟩) ns.length cap) ns.length (pts ns):=p6 D2 fun b hb=>by
      simp[Value.ownBlock]at hb;subst hb;rw[B1 g (by omega) (by omega),bS8 _ _ _ _ (Ne.symm hxg),hb1.block _ (by omega)];exact hbX.block _ hgl0
     clear D2;go_loopw [7,74] (fun y' k' wr'=> ∃ (k:Nat),k<=x.e.ks.length/\k'=.int .i64 k/\wr'.ownsRow w.heap.size 206 1 y' (ns.length+k) (pts (ns++(news x.e.ks gg).take k))/\(∀b,b<w2.heap.size->b≠g->wr'.heap[b]?=w2.heap[b]?)/\w2.heap.size<=wr'.heap.size/\(∀q,y'.ownBlock=some q->q=g\/w2.heap.size<=q)/\Below w.heap.size w wr') (fun _ k' _=>x.e.ks.length - (intOf k').toNat)
     case atStart=>
      refine⟨0,Nat.zero_le _,rfl,?_,fun b _ _=>rfl,Nat.le_refl _,fun q hq=>by simp[Value.ownBlock]at hq;exact .inl hq.symm,B4⟩;rw[List.take_zero,List.append_nil];exact H9
     case round=>
      obtain⟨k,hkl,rfl,H9,H7,M6,hob,Q5⟩:=hrel;have xc:wr.cell? ⟨x.b,x.o+6,none⟩=some (.slice (some ⟨gg,0,none⟩) x.e.ks.length cv):=by
       rw[cb8 (H7 x.b (by omega) hxg),cb8 (B1 x.b (by omega) hxB)];exact cS8 _ _ _ xu1
      have C1c:x.b<wr.heap.size:=by omega
      by_cases hk2:k<x.e.ks.length
      ·obtain⟨ek,hek⟩:∃ek,x.e.ks[k]?=some ek:=⟨x.e.ks[k],by simp[hk2]⟩;have HT:=B0c (g:=gg) hek;have hol:=O5 H9;have HB:Hid (∀b,b<w2.heap.size->b≠g->wr.heap[b]?=w2.heap[b]?):=H7;have H5:(wr.alloc (.cells #[.pointer (some ⟨gg,k*7,none⟩)] 206)).ownsRow w.heap.size 206 1 u7 (ns.length+k) (pts (ns++(news x.e.ks gg).take k)):=p6 H9 fun b hb=>bA8 _ _ _ (hol b hb).2;have S2:∀j' u,[Value.pointer (some ⟨gg,k*7,none⟩)][j']?=some u->(wr.alloc (.cells #[.pointer (some ⟨gg,k*7,none⟩)] 206)).cell? ((⟨wr.heap.size,0,none⟩:Addr).add j')=some u:=by
        intro j' u hu
        match j',hu with
        |0,hu=>simp at hu;subst hu;go_simp
       have hkm:ns.length+k<=5000000:=by omega
       clear H9 H7 hgl;go_wp2_with(at_builtin;refine wpList_append_own_at _ rfl _ _ 235 rfl w.heap.size 206 i0 _ 1 8 Tryz.underlying235 hi hz0 hz1 hz2 rfl (by decide) u7 (ns.length+k) (pts (ns++(news x.e.ks gg).take k)) rfl H5 ⟨wr.heap.size,0,none⟩ 1 1 [.pointer (some ⟨gg,k*7,none⟩)] rfl rfl S2 (by simp[Value.oneCell']) ?c3 ?c4 ?c5 ?_)
       case c3=>unfold maxLen;omega
       case c4=>omega
       case c5=>have:=Q5.size;simp;omega
       intro v5 w5 D4 hgr5 _ hat5;have A0V:=hgr5.size;simp at A0V;have H6:w5.ownsRow w.heap.size 206 1 v5 (ns.length+(k+1)) (pts (ns++(news x.e.ks gg).take (k+1))):=by
        rw[HT,<-List.append_assoc,B2I];exact D4
       have A5n:∀q,v5.ownBlock=some q->q=g\/w2.heap.size<=q:=by
        intro q hq;rcases hat5 with e|e
        ·rw[e]at hq;exact hob q hq
        ·rw[e]at hq;cases hq;right;omega
       have A3B:∀b,b<w2.heap.size->b≠g->w5.heap[b]?=w2.heap[b]?:=by
        intro b hb hbg;rw[<-HB.out b hb hbg,hgr5.block b (by simp;omega) (fun e=>by rcases hob b e.symm with h|h;exact hbg h;omega)];exact bA8 _ _ _ (by omega)
       have A32:Below w.heap.size w w5:=(Q5.alloc Q5.size _).grown hgr5 (by have:=Q5.size;simp;omega) (fun q hq=>(hol q hq).1);clear D4 hgr5 hat5 H5 S2 hol hob Q5;go_wp2;exact⟨⟨k+1,hk2,by simp,H6,A3B,by omega,A5n,A32⟩,by simp[intOf];omega⟩
      ·obtain rfl:k=x.e.ks.length:=by omega
       have h3:∀b,b<w1.heap.size->b≠g->b≠w.heap.size+1+1->wr.heap[b]?=(w1.setCell ⟨x.b,x.o+6,none⟩ (.slice (some ⟨gg,0,none⟩) x.e.ks.length cv)).heap[b]?:=fun b h1 h2 h3=>(H7 b (by omega) h2).trans (B1 b h1 h3);obtain⟨hQ3,hC3,hG3⟩:=HQ.out.round2 HX.out hP xu hzb (hbX.trans (hb1.mono hbX.size)) (fun j y hy=>fun h=>S3 j y hy (by rw[h];rfl)) hdisB (by omega) hgl0 (by omega) h3 (by omega) hcv1 hcv2 (fun _=>rfl) hgl;have hM3:=HM.out wr hC3 (hG3 hne b o _ _ rfl hbw);have A6k:=HR gg;have A36:wr.heap[w.heap.size+1+1]?=some (.map es2 ck2):=(H7 _ (by omega) (by omega)).trans B3;have H6:wr.ownsRow w.heap.size 206 1 u7 (ns++news x.e.ks gg).length (pts (ns++news x.e.ks gg)):=by
        rw[<-A44 x.e.ks gg,List.take_length]at H9;rw[List.length_append];exact H9
       have B1I:=(hgl hne).1;have S2:∀ (j:Nat) (z:Nd),(ns++news x.e.ks gg)[j]?=some z->ns[j]?=some z\/z.b=gg:=by
        intro j z hz;by_cases hj:j<ns.length
        ·rw[List.getElem?_append_left hj]at hz;exact .inl hz
        ·rw[List.getElem?_append_right (by omega)]at hz;obtain⟨ez,hez,rfl⟩:=A1k hz;exact .inr rfl
       have A6t:∀ (j:Nat) (z:Nd),(ns++news x.e.ks gg)[j]?=some z->u7.ownBlock≠some z.b:=by
        intro j z hz hq;have hq:=hob _ hq;rcases S2 j z hz with h|h
        ·have h1:=(HQ.out.at' j z h).1.2.2.2.1;rcases hq with h'|h'
         ·exact S3 j z h (by rw[h'];rfl)
         ·omega
        ·omega
       have A6g:∀ (j:Nat) (z:Nd),(ns++news x.e.ks gg)[j]?=some z->z.b≠w.heap.size+1+1:=by
        intro j z hz;rcases S2 j z hz with h|h
        ·exact hdisB j z h
        ·omega
       have A7J:(ns++news x.e.ks gg)[0]?=some ⟨w.heap.size,0,e⟩:=by
        rw[List.getElem?_append_left (by omega)];exact h00
       have j5:i+1<=(ns++news x.e.ks gg).length:=by rw[List.length_append];omega
       clear HQ HX HR HM H9 S3 h00 H7 hgl S2 hC3 hG3 h3;go_wp2;exact⟨⟨i+1,_,_,es2,ck2,by simp,j5,H6,A7J,hQ3,A6t,A6g,A36,hM3,Q5,by omega⟩,by simp[intOf];omega⟩
    ·have hbb:decide ((8192:Int)<=(ns.length:Int))=false:=by simp;omega
     have HM:Hid (∀w3:World,(∀ (j:Nat) (y:Nd),ns[j]?=some y->j≠i->w3.cell? ⟨y.b,y.o+6,none⟩=wr.cell? ⟨y.b,y.o+6,none⟩)->(∀j,j<x.e.ks.length*7->w3.cell? ⟨gg,j,none⟩=w.cell? ⟨b,o+j,none⟩)->MQ w D F w3 (i+1) (ns++news x.e.ks gg) es):=fun w3 h1 h2=>hMQ.step HX.out xu hne h1 h2;have B2:(w1.setCell ⟨x.b,x.o+6,none⟩ (.slice (some ⟨gg,0,none⟩) x.e.ks.length cv)).heap.size=w1.heap.size:=by simp
     have B3:(w1.setCell ⟨x.b,x.o+6,none⟩ (.slice (some ⟨gg,0,none⟩) x.e.ks.length cv)).heap[w.heap.size+1+1]?=some (.map es ck):=(bS8 _ _ _ _ (Ne.symm hxB)).trans hm1;have B4:=hB4;clear A7c hB4 hMQ hm1;go_wp2_with fail;obtain⟨w2,hw2⟩:∃z,z=(w1.setCell ⟨x.b,x.o+6,none⟩ (.slice (some ⟨gg,0,none⟩) x.e.ks.length cv)):=⟨_,rfl⟩;have B1':∀b',b'<w1.heap.size->b'≠w.heap.size+1+1->w2.heap[b']?=(w1.setCell ⟨x.b,x.o+6,none⟩ (.slice (some ⟨gg,0,none⟩) x.e.ks.length cv)).heap[b']?:=by rw[hw2];intro _ _ _;rfl
     rw[<-hw2]at B2 B3 B4⊢;clear hw2;have B1:=B1';clear B1';obtain⟨es2,ck2,B3'⟩:∃es2 ck2,Hid (es2=es/\ck2=ck):=⟨es,ck,rfl,rfl⟩;obtain⟨rfl,rfl⟩:=B3'.out;obtain⟨wo,hwo⟩:∃z,z=wr:=⟨_,rfl⟩;subst hwo;have H9:w2.ownsRow w.heap.size 206 1 (.slice (some ⟨g,0,none⟩) ns.length cap) ns.length (pts ns):=p6 D2 fun b hb=>by
      simp[Value.ownBlock]at hb;subst hb;rw[B1 g (by omega) (by omega),bS8 _ _ _ _ (Ne.symm hxg),hb1.block _ (by omega)];exact hbX.block _ hgl0
     clear D2;go_loopw [7,74] (fun y' k' wr'=> ∃ (k:Nat),k<=x.e.ks.length/\k'=.int .i64 k/\wr'.ownsRow w.heap.size 206 1 y' (ns.length+k) (pts (ns++(news x.e.ks gg).take k))/\(∀b,b<w2.heap.size->b≠g->wr'.heap[b]?=w2.heap[b]?)/\w2.heap.size<=wr'.heap.size/\(∀q,y'.ownBlock=some q->q=g\/w2.heap.size<=q)/\Below w.heap.size w wr') (fun _ k' _=>x.e.ks.length - (intOf k').toNat)
     case atStart=>
      refine⟨0,Nat.zero_le _,rfl,?_,fun b _ _=>rfl,Nat.le_refl _,fun q hq=>by simp[Value.ownBlock]at hq;exact .inl hq.symm,B4⟩;rw[List.take_zero,List.append_nil];exact H9
     case round=>
      obtain⟨k,hkl,rfl,H9,H7,M6,hob,Q5⟩:=hrel;have xc:wr.cell? ⟨x.b,x.o+6,none⟩=some (.slice (some ⟨gg,0,none⟩) x.e.ks.length cv):=by
       rw[cb8 (H7 x.b (by omega) hxg),cb8 (B1 x.b (by omega) hxB)];exact cS8 _ _ _ xu1
      have C1c:x.b<wr.heap.size:=by omega
      by_cases hk2:k<x.e.ks.length
      ·obtain⟨ek,hek⟩:∃ek,x.e.ks[k]?=some ek:=⟨x.e.ks[k],by simp[hk2]⟩;have HT:=B0c (g:=gg) hek;have hol:=O5 H9;have HB:Hid (∀b,b<w2.heap.size->b≠g->wr.heap[b]?=w2.heap[b]?):=H7;have H5:(wr.alloc (.cells #[.pointer (some ⟨gg,k*7,none⟩)] 206)).ownsRow w.heap.size 206 1 u7 (ns.length+k) (pts (ns++(news x.e.ks gg).take k)):=p6 H9 fun b hb=>bA8 _ _ _ (hol b hb).2;have S2:∀j' u,[Value.pointer (some ⟨gg,k*7,none⟩)][j']?=some u->(wr.alloc (.cells #[.pointer (some ⟨gg,k*7,none⟩)] 206)).cell? ((⟨wr.heap.size,0,none⟩:Addr).add j')=some u:=by
        intro j' u hu
        match j',hu with
        |0,hu=>simp at hu;subst hu;go_simp
       have hkm:ns.length+k<=5000000:=by omega
       clear H9 H7 hgl;go_wp2_with(at_builtin;refine wpList_append_own_at _ rfl _ _ 235 rfl w.heap.size 206 i0 _ 1 8 Tryz.underlying235 hi hz0 hz1 hz2 rfl (by decide) u7 (ns.length+k) (pts (ns++(news x.e.ks gg).take k)) rfl H5 ⟨wr.heap.size,0,none⟩ 1 1 [.pointer (some ⟨gg,k*7,none⟩)] rfl rfl S2 (by simp[Value.oneCell']) ?c3 ?c4 ?c5 ?_)
       case c3=>unfold maxLen;omega
       case c4=>omega
       case c5=>have:=Q5.size;simp;omega
       intro v5 w5 D4 hgr5 _ hat5;have A0V:=hgr5.size;simp at A0V;have H6:w5.ownsRow w.heap.size 206 1 v5 (ns.length+(k+1)) (pts (ns++(news x.e.ks gg).take (k+1))):=by
        rw[HT,<-List.append_assoc,B2I];exact D4
       have A5n:∀q,v5.ownBlock=some q->q=g\/w2.heap.size<=q:=by
        intro q hq;rcases hat5 with e|e
        ·rw[e]at hq;exact hob q hq
        ·rw[e]at hq;cases hq;right;omega
       have A3B:∀b,b<w2.heap.size->b≠g->w5.heap[b]?=w2.heap[b]?:=by
        intro b hb hbg;rw[<-HB.out b hb hbg,hgr5.block b (by simp;omega) (fun e=>by rcases hob b e.symm with h|h;exact hbg h;omega)];exact bA8 _ _ _ (by omega)
       have A32:Below w.heap.size w w5:=(Q5.alloc Q5.size _).grown hgr5 (by have:=Q5.size;simp;omega) (fun q hq=>(hol q hq).1);clear D4 hgr5 hat5 H5 S2 hol hob Q5;go_wp2;exact⟨⟨k+1,hk2,by simp,H6,A3B,by omega,A5n,A32⟩,by simp[intOf];omega⟩
      ·obtain rfl:k=x.e.ks.length:=by omega
       have h3:∀b,b<w1.heap.size->b≠g->b≠w.heap.size+1+1->wr.heap[b]?=(w1.setCell ⟨x.b,x.o+6,none⟩ (.slice (some ⟨gg,0,none⟩) x.e.ks.length cv)).heap[b]?:=fun b h1 h2 h3=>(H7 b (by omega) h2).trans (B1 b h1 h3);obtain⟨hQ3,hC3,hG3⟩:=HQ.out.round2 HX.out hP xu hzb (hbX.trans (hb1.mono hbX.size)) (fun j y hy=>fun h=>S3 j y hy (by rw[h];rfl)) hdisB (by omega) hgl0 (by omega) h3 (by omega) hcv1 hcv2 (fun _=>rfl) hgl;have hM3:=HM.out wr hC3 (hG3 hne b o _ _ rfl hbw);have A6k:=HR gg;have A36:wr.heap[w.heap.size+1+1]?=some (.map es2 ck2):=(H7 _ (by omega) (by omega)).trans B3;have H6:wr.ownsRow w.heap.size 206 1 u7 (ns++news x.e.ks gg).length (pts (ns++news x.e.ks gg)):=by
        rw[<-A44 x.e.ks gg,List.take_length]at H9;rw[List.length_append];exact H9
       have B1I:=(hgl hne).1;have S2:∀ (j:Nat) (z:Nd),(ns++news x.e.ks gg)[j]?=some z->ns[j]?=some z\/z.b=gg:=by
        intro j z hz;by_cases hj:j<ns.length
        ·rw[List.getElem?_append_left hj]at hz;exact .inl hz
        ·rw[List.getElem?_append_right (by omega)]at hz;obtain⟨ez,hez,rfl⟩:=A1k hz;exact .inr rfl
       have A6t:∀ (j:Nat) (z:Nd),(ns++news x.e.ks gg)[j]?=some z->u7.ownBlock≠some z.b:=by
        intro j z hz hq;have hq:=hob _ hq;rcases S2 j z hz with h|h
        ·have h1:=(HQ.out.at' j z h).1.2.2.2.1;rcases hq with h'|h'
         ·exact S3 j z h (by rw[h'];rfl)
         ·omega
        ·omega
       have A6g:∀ (j:Nat) (z:Nd),(ns++news x.e.ks gg)[j]?=some z->z.b≠w.heap.size+1+1:=by
        intro j z hz;rcases S2 j z hz with h|h
        ·exact hdisB j z h
        ·omega
       have A7J:(ns++news x.e.ks gg)[0]?=some ⟨w.heap.size,0,e⟩:=by
        rw[List.getElem?_append_left (by omega)];exact h00
       have j5:i+1<=(ns++news x.e.ks gg).length:=by rw[List.length_append];omega
       clear HQ HX HR HM H9 S3 h00 H7 hgl S2 hC3 hG3 h3;go_wp2;exact⟨⟨i+1,_,_,es2,ck2,by simp,j5,H6,A7J,hQ3,A6t,A6g,A36,hM3,Q5,by omega⟩,by simp[intOf];omega⟩
  ·obtain rfl:i=ns.length:=by omega
   obtain⟨g,cap,rfl,_,_,Q9,hcm,hgl0,hgN,hp⟩:=A4T D2 h00;unfold maxLen at hcm;clear hp;go_wp2;refine bodyPost_ret (v:=.slice (some ⟨g,0,none⟩) ns.length cap) (by simp[results,Tryz.results177,go_sem]) rfl ⟨⟨_,rfl,ns,hang,D2,h00,hQ,S3,D3⟩,hb⟩
end
section
open Go.RowKit Go.Deep Go.ChangeShapes Go.WideShapes
theorem B45 (D:Nat)(P:E7->Prop)(hP:∀e,P e->∀k∈e.ks,P k)(e:E7)(u:Value)(F:List Nat)(w:World)(he:e.wf)(hPe:P e)(hk:C1 w (D+1) u e.ks F)(hd:(F.Nodup/\∀b∈F,Fr w b)\/Z2 e<=8191)(hn:wtE e<=2097152):Calls Tryz.prog 151 #[(.agg #[.int .i64 e.k,.int .i64 e.n,.int .i64 e.v.k,.int .i64 e.v.n,.string e.v.s,.string e.p,u])] w fun x w'=>(∃v w0,x=.returned v/\w.heap.size<w0.heap.size/\A7U w0 D P e w' v)/\Below w.heap.size w w':=by
 obtain⟨a,c,rfl,hl,hc⟩:=hk.shape;go_enter Tryz.func151,Tryz.ntmps151;go_wp2_with fail;have hb0:Below w.heap.size w (w.alloc (.cells #[.int .i64 e.k,.int .i64 e.n,.int .i64 e.v.k,.int .i64 e.v.n,.string e.v.s,.string e.p,.slice a e.ks.length c] 42)):=bex;have hd':(F.Nodup/\∀b∈F,Fr (w.alloc (.cells #[.int .i64 e.k,.int .i64 e.n,.int .i64 e.v.k,.int .i64 e.v.n,.string e.v.s,.string e.p,.slice a e.ks.length c] 42)) b)\/Z2 e<=8191:=by
  rcases hd with h|h
  ·exact .inl ⟨h.1,fun b hb=>(h.2 b hb).keep (hb0.block b (hk.lt b hb))⟩
  ·exact .inr h
 refine cM8 (C1z D P hP e (.slice a e.ks.length c) F _ (by simp) he hPe (hk.below hb0) hd' hn) ?_;rintro x w1 ⟨⟨v1,rfl,hO⟩,hb1⟩;have hz1:=hb1.size;simp only[World.size_alloc]at hz1;have HO:Hid (A7U _ D P e w1 v1):=hO;obtain⟨ns,hang,D2,_⟩:=hO;obtain⟨av,cv,rfl⟩:∃av cv,v1=.slice av ns.length cv:=by
  rcases D2.2 with⟨h,h0⟩|⟨g,cap,cur,h,_⟩
  ·exact⟨none,0,by rw[h0];exact h⟩
  ·exact⟨_,cap,h⟩
 clear D2 hd hd';go_wp2_with fail;go_returns;exact⟨⟨_,_,rfl,by simp,HO.out⟩,bex⟩
theorem RE.own {w w':World}{D:Nat}{hang:Nat->Nat×Nat}{P:E7->Prop}{ns:List Nd}{d j:Nat}{x:Nd}{u:Value}(hN:0<w.heap.size)(h:NQ w D hang P w' ns.length ns)(hx:ns[j]?=some x)(hd:DE d x.e.ks)(hu:w'.cell? ⟨x.b,x.o+6,none⟩=some u):∃F,C1 w' d u x.e.ks F/\Own w' w.heap.size F/\∀c∈F,A1T hang c (x.b,x.o+6):=
 A2v.kids h.dn hN (h.kids hx hd hu)
end
section
open Go.RowKit Go.Deep
theorem B5T {w:World}{d:Nat}(a:Option Addr)(c:Nat)(hc:c<=maxLen):C1 w (d+1) (.slice a 0 c) [] []:=
 ⟨a,c,[],rfl,Nat.zero_le _,hc,rfl,fun _=>rfl,fun h=>absurd rfl h⟩
end
end Go.Proofs.YteekfcdllaceoaaGreatDoor
