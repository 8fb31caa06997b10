/- Own texts, joined: contracts that the law's proof goes by. -/
import Derived.Test.YteekfcdllaceoaaGreatDoorGLAnswer6
import Derived.Test.YteekfcdllaceoaaGreatDoorGLAnswer5
import Derived.Test.YteekfcdllaceoaaGreatDoorGLAnswer1
import Derived.Test.YteekfcdllaceoaaGreatDoorGLAnswer2
import Derived.Test.YteekfcdllaceoaaGreatDoorBagOkS
import Derived.Handy
import Derived.Test.YteekfcdllaceoaaGreatDoorGLAnswer3
import Derived.Deep.RegionHeld3
import Derived.Test.YteekfcdllaceoaaGreatDoorGLAnswer4
import Derived.Test.YteekfcdllaceoaaGreatDoorGLAnswer9
import Derived.Test.YteekfcdllaceoaaGreatDoorGLAnswer12
import Derived.Maps.AppendAt
set_option maxHeartbeats 16000000
set_option maxRecDepth 100000
set_option linter.unusedVariables false
set_option linter.unusedSimpArgs false
namespace Go.Proofs.YteekfcdllaceoaaGreatDoor
section
open Go.RowKit
abbrev InN (x:Int):Prop:= -9223372036854775808<=x/\x<=9223372036854775807
theorem A13 (x:Int):InN (wrap64 x):=by unfold InN wrap64;omega
theorem A4v {o:Option Int}(h:∀x,o=some x->InN x):InN (nO o):=by
 cases o with
 |none=>decide
 |some x=>exact h x rfl
theorem A03 (a b:Int):InN (nO (O8 a b)):=A4v fun x h=>by unfold O8 at h;split at h<;>cases h;exact A13 _
theorem A0q (a b:Int):InN (nO (M0 a b)):=A4v fun x h=>by unfold M0 at h;split at h<;>cases h;exact A13 _
theorem A0v (a b:Int):InN (nO (I1 a b)):=A4v fun x h=>by
 unfold I1 at h;split at h
 ·cases h;decide
 ·split at h
  ·unfold M0 at h;split at h<;>cases h;exact A13 _
  ·split at h<;>cases h;exact A13 _
theorem A0u (a b:Int):InN (nO (J1 a b)):=A4v fun x h=>by
 unfold J1 at h;split at h
 ·cases h
 ·split at h
  ·unfold M0 at h;split at h<;>cases h;exact A13 _
  ·cases h;split<;>exact A13 _
theorem A0z (b:Bool):InN (bn b):=by cases b<;>decide
theorem A0p (p q r s:Bool):InN (chN 0 p q r s):=by cases p<;>cases q<;>cases r<;>cases s<;>decide
theorem A0r (p q r s:Bool):InN (chN 1 p q r s):=by cases p<;>cases q<;>cases r<;>cases s<;>decide
theorem A1J (op:ByteArray)(k a k' b:Int)(s s':ByteArray)(x7:(op.toList==[97,110,100])=false)(x8:(op.toList==[111,114])=false)(h:¬ (k=k'/\¬k=0))(w:World):Calls Tryz.prog 122 #[.string op,(.agg #[.int .i64 k,.int .i64 a,.string s]),(.agg #[.int .i64 k',.int .i64 b,.string s'])] w fun e w'=>e=.returned (.agg #[.int .i64 0,.int .i64 0,.string ⟨#[]⟩])/\Below w.heap.size w w':=by
 by_cases hk:k=k'
 ·subst hk;have h0:k=0:=by
   rcases Int.lt_trichotomy k 0 with h'|h'|h'
   ·exact absurd ⟨rfl,by omega⟩ h
   ·exact h'
   ·exact absurd ⟨rfl,by omega⟩ h
  subst h0;exact C0B op a b s s' w x7 x8
 ·exact B68 op k k' a b s s' w x7 x8 (by simp[hk])
def A0Q:V3:=⟨0,0,⟨#[]⟩⟩
def B77 (r:V3):Prop:=InN r.n/\r.s.size<=1048576
def RB (m:Int)(p:ByteArray)(x y r:V3):Prop:=r.s=⟨#[]⟩/\
 (∀w:World,w.cell? ⟨1,0,none⟩=some (.int .i64 m)->Calls Tryz.prog 157 #[.string p,(.agg #[.int .i64 x.k,.int .i64 x.n,.string x.s]),(.agg #[.int .i64 y.k,.int .i64 y.n,.string y.s])] w fun e w'=>e=.returned (.agg #[.int .i64 r.k,.int .i64 r.n,.string r.s])/\Below w.heap.size w w')/\
 (∀w:World,Calls Tryz.prog 122 #[.string p,(.agg #[.int .i64 x.k,.int .i64 x.n,.string x.s]),(.agg #[.int .i64 y.k,.int .i64 y.n,.string y.s])] w fun e w'=>e=.returned (.agg #[.int .i64 r.k,.int .i64 r.n,.string r.s])/\Below w.heap.size w w')
def Res (m:Int):Nat->E7->List V3->V3->Prop
 |0,_,_,_=>False
 |f+1,e,vs,r=>
  (e.k=0/\0<=e.n/\r=vs.getD e.n.toNat A0Q)\/(e.k=1/\r=e.v)\/
  (e.k=2/\∃k0 k1 r0 r1,e.ks=[k0,k1]/\Res m f k0 vs r0/\Res m f k1 vs r1/\RB m e.p r0 r1 r)\/
  (e.k=3/\∃k0 r0,e.ks=[k0]/\Res m f k0 vs r0/\r=⟨m9 r0.k r0.n,j4 r0.k r0.n,⟨#[]⟩⟩)\/
  (e.k=4/\∃k0 r0,e.ks=[k0]/\Res m f k0 vs r0/\r=⟨2,j6 r0.k,⟨#[]⟩⟩)
theorem B2R {n:Int}(h:(Lit.int .i64 n).wf=true):InN n:=by
 have:=h;simp only[Lit.wf,Bool.and_eq_true,decide_eq_true_eq]at this;have e1:IntKind.i64.min= -9223372036854775808:=by decide
 have e2:IntKind.i64.max=9223372036854775807:=by decide
 unfold InN;omega
theorem A4C {w:World}{d:Nat}{u:Value}{es:List E7}{F:List Nat}(h:C1 w (d+1) u es F){x:E7}(hx:x∈es):x.wf/\∃u' F',C1 w d u' x.ks F':=by
 obtain⟨a,c,G,rfl,_,_,hG,_,h⟩:=h;obtain⟨i,hi,rfl⟩:=List.mem_iff_getElem.1 hx;obtain⟨b,o,_,_,_,hL⟩:=h (by rintro rfl;simp at hi);obtain⟨hw,_,u',_,hK⟩:=hL i es[i] (G[i]'(by omega)) (by simp) (by simp);exact⟨hw,u',_,hK⟩
theorem C1.succ {w:World}{d:Nat}{u:Value}{es:List E7}{F:List Nat}(h:C1 w d u es F):∃d',d=d'+1:=by
 cases d with
 |zero=>exact h.elim
 |succ d=>exact⟨d,rfl⟩
theorem B8p {l:List E7}(h:l.length=2):∃a b,l=[a,b]:=by
 match l,h with
 | [a,b],_=>exact⟨a,b,rfl⟩
theorem B1O {l:List E7}(h:l.length=1):∃a,l=[a]:=by
 match l,h with
 | [a],_=>exact⟨a,rfl⟩
theorem A0J:(⟨#[]⟩:ByteArray).toList=[]:=by kernel_rfl
theorem A0x (o:Option Int):okB (kO o) (nO o) ⟨#[]⟩=true:=by cases o<;>simp[kO,nO,okB,A0J]
theorem A00 (b:Bool):okB 2 (bn b) ⟨#[]⟩=true:=by cases b<;>simp[bn,okB,A0J]
theorem A0s (p0 q0 p1 q1:Bool):okB (chK p0 q0 p1 q1) (chN 0 p0 q0 p1 q1) ⟨#[]⟩=true:=by cases p0<;>cases q0<;>cases p1<;>cases q1<;>simp[chK,chN,okB,A0J]
theorem A07 (p0 q0 p1 q1:Bool):okB (chK p0 q0 p1 q1) (chN 1 p0 q0 p1 q1) ⟨#[]⟩=true:=by cases p0<;>cases q0<;>cases p1<;>cases q1<;>simp[chK,chN,okB,A0J]
theorem A04:okB 0 0 ⟨#[]⟩=true:=by simp[okB,A0J]
def A0G (op:ByteArray)(k a:Int)(s:ByteArray)(k' b:Int)(s':ByteArray)(m:Int):Prop:=∃K N:Int,(InN N/\okB K N ⟨#[]⟩=true)/\
 (∀w:World,w.cell? ⟨1,0,none⟩=some (.int .i64 m)->Calls Tryz.prog 157 #[.string op,(.agg #[.int .i64 k,.int .i64 a,.string s]),(.agg #[.int .i64 k',.int .i64 b,.string s'])] w fun e w'=>e=.returned (.agg #[.int .i64 K,.int .i64 N,.string ⟨#[]⟩])/\Below w.heap.size w w')/\
 (∀w:World,Calls Tryz.prog 122 #[.string op,(.agg #[.int .i64 k,.int .i64 a,.string s]),(.agg #[.int .i64 k',.int .i64 b,.string s'])] w fun e w'=>e=.returned (.agg #[.int .i64 K,.int .i64 N,.string ⟨#[]⟩])/\Below w.heap.size w w')
theorem B27 (op:ByteArray)(k a k' b:Int)(s s':ByteArray)(m:Int)(ha: -9223372036854775808<=a/\a<=9223372036854775807)(hb: -9223372036854775808<=b/\b<=9223372036854775807)(hop:op.toList=[43]):A0G op k a s k' b s' m:=by
 by_cases h:k=1/\k'=1
 ·obtain⟨rfl,rfl⟩:=h;exact⟨_,_,⟨by first|exact A03 _ _|exact A0q _ _|exact A0v _ _|exact A0u _ _|exact A0z _|exact A0p _ _ _ _|exact A0r _ _ _ _,by first|exact A0x _|exact A00 _|exact A0s _ _ _ _|exact A07 _ _ _ _⟩,fun w _=>C1D op a b s s' w hop,fun w=>C1I op a b s s' w ha hb hop⟩
 ·refine⟨0,0,⟨by decide,A04⟩,fun w _=>B3p op k k' a b s s' w hop h,fun w=>?_⟩;by_cases hk:k=k'/\¬k=0
  ·obtain⟨rfl,h0⟩:=hk;have h1:¬k=1:=fun e=>h ⟨e,e⟩;exact A3L op k a b s s' w (by rw[hop];rfl) (by rw[hop];rfl) (by rw[hop];rfl) (by rw[hop];rfl) (by rw[hop];rfl) (by simp[h0]) (by simp[h1])
  ·exact A1J op k a k' b s s' (by rw[hop];rfl) (by rw[hop];rfl) hk w
theorem B9l (op:ByteArray)(k a k' b:Int)(s s':ByteArray)(m:Int)(ha: -9223372036854775808<=a/\a<=9223372036854775807)(hb: -9223372036854775808<=b/\b<=9223372036854775807)(hop:op.toList=[45]):A0G op k a s k' b s' m:=by
 by_cases h:k=1/\k'=1
 ·obtain⟨rfl,rfl⟩:=h;exact⟨_,_,⟨by first|exact A03 _ _|exact A0q _ _|exact A0v _ _|exact A0u _ _|exact A0z _|exact A0p _ _ _ _|exact A0r _ _ _ _,by first|exact A0x _|exact A00 _|exact A0s _ _ _ _|exact A07 _ _ _ _⟩,fun w _=>C0m op a b s s' w hop,fun w=>C0d op a b s s' w ha hb hop⟩
 ·refine⟨0,0,⟨by decide,A04⟩,fun w _=>B4Z op k k' a b s s' w hop h,fun w=>?_⟩;by_cases hk:k=k'/\¬k=0
  ·obtain⟨rfl,h0⟩:=hk;have h1:¬k=1:=fun e=>h ⟨e,e⟩;exact A3L op k a b s s' w (by rw[hop];rfl) (by rw[hop];rfl) (by rw[hop];rfl) (by rw[hop];rfl) (by rw[hop];rfl) (by simp[h0]) (by simp[h1])
  ·exact A1J op k a k' b s s' (by rw[hop];rfl) (by rw[hop];rfl) hk w
theorem B99 (op:ByteArray)(k a k' b:Int)(s s':ByteArray)(m:Int)(ha: -9223372036854775808<=a/\a<=9223372036854775807)(hb: -9223372036854775808<=b/\b<=9223372036854775807)(hop:op.toList=[42]):A0G op k a s k' b s' m:=by
 by_cases h:k=1/\k'=1
 ·obtain⟨rfl,rfl⟩:=h;exact⟨_,_,⟨by first|exact A03 _ _|exact A0q _ _|exact A0v _ _|exact A0u _ _|exact A0z _|exact A0p _ _ _ _|exact A0r _ _ _ _,by first|exact A0x _|exact A00 _|exact A0s _ _ _ _|exact A07 _ _ _ _⟩,fun w _=>C3U op a b s s' w hop,fun w=>B2V op a b s s' w ha hb hop⟩
 ·refine⟨0,0,⟨by decide,A04⟩,fun w _=>B8s op k k' a b s s' w hop h,fun w=>?_⟩;by_cases hk:k=k'/\¬k=0
  ·obtain⟨rfl,h0⟩:=hk;have h1:¬k=1:=fun e=>h ⟨e,e⟩;exact A3L op k a b s s' w (by rw[hop];rfl) (by rw[hop];rfl) (by rw[hop];rfl) (by rw[hop];rfl) (by rw[hop];rfl) (by simp[h0]) (by simp[h1])
  ·exact A1J op k a k' b s s' (by rw[hop];rfl) (by rw[hop];rfl) hk w
theorem B4M (op:ByteArray)(k a k' b:Int)(s s':ByteArray)(m:Int)(ha: -9223372036854775808<=a/\a<=9223372036854775807)(hb: -9223372036854775808<=b/\b<=9223372036854775807)(hop:op.toList=[47]):A0G op k a s k' b s' m:=by
 by_cases h:k=1/\k'=1
 ·obtain⟨rfl,rfl⟩:=h;exact⟨_,_,⟨by first|exact A03 _ _|exact A0q _ _|exact A0v _ _|exact A0u _ _|exact A0z _|exact A0p _ _ _ _|exact A0r _ _ _ _,by first|exact A0x _|exact A00 _|exact A0s _ _ _ _|exact A07 _ _ _ _⟩,fun w _=>C3u op a b s s' w hop,fun w=>C0y op a b s s' w ha hb hop⟩
 ·refine⟨0,0,⟨by decide,A04⟩,fun w _=>B7Q op k k' a b s s' w hop h,fun w=>?_⟩;by_cases hk:k=k'/\¬k=0
  ·obtain⟨rfl,h0⟩:=hk;have h1:¬k=1:=fun e=>h ⟨e,e⟩;exact A3L op k a b s s' w (by rw[hop];rfl) (by rw[hop];rfl) (by rw[hop];rfl) (by rw[hop];rfl) (by rw[hop];rfl) (by simp[h0]) (by simp[h1])
  ·exact A1J op k a k' b s s' (by rw[hop];rfl) (by rw[hop];rfl) hk w
theorem C3x (op:ByteArray)(k a k' b:Int)(s s':ByteArray)(m:Int)(hop:op.toList=[61]):A0G op k a s k' b s' m:=by
 by_cases hk:k=k'/\¬k=0
 ·obtain⟨rfl,h0⟩:=hk;exact⟨_,_,⟨by first|exact A03 _ _|exact A0q _ _|exact A0v _ _|exact A0u _ _|exact A0z _|exact A0p _ _ _ _|exact A0r _ _ _ _,by first|exact A0x _|exact A00 _|exact A0s _ _ _ _|exact A07 _ _ _ _⟩,fun w _=>B69 op k a b s s' w hop (by simp[h0]),fun w=>B26 op k a b s s' w hop (by simp[h0])⟩
 ·exact⟨0,0,⟨by decide,A04⟩,fun w _=>B87 op k k' a b s s' w hop hk,fun w=>A1J op k a k' b s s' (by rw[hop];rfl) (by rw[hop];rfl) hk w⟩
theorem B7W (op:ByteArray)(k a k' b:Int)(s s':ByteArray)(m:Int)(hop:op.toList=[60]):A0G op k a s k' b s' m:=by
 by_cases hk:k=k'/\¬k=0
 ·obtain⟨rfl,h0⟩:=hk;exact⟨_,_,⟨by first|exact A03 _ _|exact A0q _ _|exact A0v _ _|exact A0u _ _|exact A0z _|exact A0p _ _ _ _|exact A0r _ _ _ _,by first|exact A0x _|exact A00 _|exact A0s _ _ _ _|exact A07 _ _ _ _⟩,fun w _=>B9v op k a b s s' w hop (by simp[h0]),fun w=>B9F op k a b s s' w hop (by simp[h0])⟩
 ·exact⟨0,0,⟨by decide,A04⟩,fun w _=>C3F op k k' a b s s' w hop hk,fun w=>A1J op k a k' b s s' (by rw[hop];rfl) (by rw[hop];rfl) hk w⟩
theorem C4B (op:ByteArray)(k a k' b:Int)(s s':ByteArray)(m:Int)(hs:s.size<=1048576)(hs':s'.size<=1048576)(hop:op.toList=[126]):A0G op k a s k' b s' m:=by
 by_cases h:k=3/\k'=3
 ·obtain⟨rfl,rfl⟩:=h;exact⟨_,_,⟨by first|exact A03 _ _|exact A0q _ _|exact A0v _ _|exact A0u _ _|exact A0z _|exact A0p _ _ _ _|exact A0r _ _ _ _,by first|exact A0x _|exact A00 _|exact A0s _ _ _ _|exact A07 _ _ _ _⟩,fun w hm=>C2c op a b s s' _ rfl m w (by omega) hm hop,fun w=>B5d op a b s s' _ rfl w hs hs' hop⟩
 ·refine⟨0,0,⟨by decide,A04⟩,fun w _=>B8D op k k' a b s s' w hop h,fun w=>?_⟩;by_cases hk:k=k'/\¬k=0
  ·obtain⟨rfl,h0⟩:=hk;have h3:¬k=3:=fun e=>h ⟨e,e⟩;by_cases h1:k=1
   ·subst h1;exact B5J op a b s s' w hop
   ·exact B7X op k a b s s' w hop (by simp[h0]) (by simp[h1]) (by simp[h3])
  ·exact A1J op k a k' b s s' (by rw[hop];rfl) (by rw[hop];rfl) hk w
theorem B2X (op:ByteArray)(k a k' b:Int)(s s':ByteArray)(m:Int)(hop:op.toList=[97,110,100]):A0G op k a s k' b s' m:=
 ⟨_,_,⟨by first|exact A03 _ _|exact A0q _ _|exact A0v _ _|exact A0u _ _|exact A0z _|exact A0p _ _ _ _|exact A0r _ _ _ _,by first|exact A0x _|exact A00 _|exact A0s _ _ _ _|exact A07 _ _ _ _⟩,fun w _=>B3k op k k' a b s s' _ _ _ _ rfl rfl rfl rfl w hop,fun w=>C2U op k k' a b s s' _ _ _ _ rfl rfl rfl rfl w hop⟩
theorem B72 (op:ByteArray)(k a k' b:Int)(s s':ByteArray)(m:Int)(hop:op.toList=[111,114]):A0G op k a s k' b s' m:=
 ⟨_,_,⟨by first|exact A03 _ _|exact A0q _ _|exact A0v _ _|exact A0u _ _|exact A0z _|exact A0p _ _ _ _|exact A0r _ _ _ _,by first|exact A0x _|exact A00 _|exact A0s _ _ _ _|exact A07 _ _ _ _⟩,fun w _=>B7U op k k' a b s s' _ _ _ _ rfl rfl rfl rfl w hop,fun w=>B6M op k k' a b s s' _ _ _ _ rfl rfl rfl rfl w hop⟩
theorem B9H (op:ByteArray)(k a k' b:Int)(s s':ByteArray)(m:Int)(x0:(op.toList==[43])=false)(x1:(op.toList==[45])=false)(x2:(op.toList==[42])=false)(x3:(op.toList==[47])=false)(x4:(op.toList==[61])=false)(x5:(op.toList==[60])=false)(x6:(op.toList==[126])=false)(x7:(op.toList==[97,110,100])=false)(x8:(op.toList==[111,114])=false):A0G op k a s k' b s' m:=by
 refine⟨0,0,⟨by decide,A04⟩,fun w _=>B9w op k k' a b s s' w x0 x1 x2 x3 x4 x5 x6 x7 x8,fun w=>?_⟩;by_cases hk:k=k'/\¬k=0
 ·obtain⟨rfl,h0⟩:=hk;by_cases h1:k=1
  ·subst h1;exact C1V op a b s s' w x0 x1 x2 x3 x4 x5 x7 x8 x6
  ·exact A3L op k a b s s' w x4 x5 x7 x8 x6 (by simp[h0]) (by simp[h1])
 ·exact A1J op k a k' b s s' x7 x8 hk w
theorem B2T (op:ByteArray)(k a k' b:Int)(s s':ByteArray)(m:Int)(ha: -9223372036854775808<=a/\a<=9223372036854775807)(hb: -9223372036854775808<=b/\b<=9223372036854775807)(hs:s.size<=1048576)(hs':s'.size<=1048576):A0G op k a s k' b s' m:=by
 by_cases y0:op.toList=[43]
 ·exact B27 op k a k' b s s' m ha hb y0
 by_cases y1:op.toList=[45]
 ·exact B9l op k a k' b s s' m ha hb y1
 by_cases y2:op.toList=[42]
 ·exact B99 op k a k' b s s' m ha hb y2
 by_cases y3:op.toList=[47]
 ·exact B4M op k a k' b s s' m ha hb y3
 by_cases y4:op.toList=[61]
 ·exact C3x op k a k' b s s' m y4
 by_cases y5:op.toList=[60]
 ·exact B7W op k a k' b s s' m y5
 by_cases y6:op.toList=[126]
 ·exact C4B op k a k' b s s' m hs hs' y6
 by_cases y7:op.toList=[97,110,100]
 ·exact B2X op k a k' b s s' m y7
 by_cases y8:op.toList=[111,114]
 ·exact B72 op k a k' b s s' m y8
 exact B9H op k a k' b s s' m (by simp[y0]) (by simp[y1]) (by simp[y2]) (by simp[y3]) (by simp[y4]) (by simp[y5]) (by simp[y6]) (by simp[y7]) (by simp[y8])
def A0C (x:V3):Prop:=okW x=true/\x.wf
theorem A0C.R {x:V3}(h:A0C x):B77 x:=by
 obtain⟨h1,h2,h3,h4⟩:=h;refine⟨B2R h3,?_⟩;have:x.s.data.toList.length=x.s.size:=Array.length_toList;unfold okW okB at h1;have nl:x.s.toList=[]->x.s.size=0:=fun e=>by
  have e2:x.s=⟨#[]⟩:=by rw[ByteArray.toList_eq]at e;exact ByteArray.ext (Array.toList_inj.1 e)
  rw[e2];rfl
 split at h1
 ·simp at h1;have:=nl h1.2;omega
 ·split at h1
  ·simp at h1;have:=nl h1;omega
  ·split at h1
   ·simp at h1;have:=nl h1.2;omega
   ·split at h1
    ·simp at h1;omega
    ·cases h1
theorem A84:A0C A0Q:=by
 refine⟨A04,by decide,by decide,by decide⟩
theorem C3G {k n:Int}{s:ByteArray}(h:okB k n s=true):(Lit.int .i64 k).wf=true:=by
 unfold okB at h;split at h
 ·subst k;decide
 ·split at h
  ·subst k;decide
  ·split at h
   ·subst k;decide
   ·split at h
    ·subst k;decide
    ·cases h
theorem B8v {n:Int}(h:InN n):(Lit.int .i64 n).wf=true:=by
 have e1:IntKind.i64.min= -9223372036854775808:=by decide
 have e2:IntKind.i64.max=9223372036854775807:=by decide
 simp only[Lit.wf,Bool.and_eq_true,decide_eq_true_eq];unfold InN at h;omega
theorem A3k {k n:Int}(h:okB k n ⟨#[]⟩=true)(hn:InN n):A0C ⟨k,n,⟨#[]⟩⟩:=⟨h,C3G h,B8v hn,Nat.zero_le _⟩
theorem A9Q (k n:Int):okB (m9 k n) (j4 k n) ⟨#[]⟩=true/\InN (j4 k n):=by
 unfold m9 j4;by_cases h:k=2
 ·by_cases h':n=0
  ·simp[h,h',okB,A0J,InN]
  ·simp[h,h',okB,A0J,InN]
 ·simp[h,okB,A0J,InN]
theorem B0x (k:Int):okB 2 (j6 k) ⟨#[]⟩=true/\InN (j6 k):=by
 unfold j6;constructor
 ·split<;>simp[okB,A0J]
 ·split<;>decide
theorem B14 (m:Int)(vs:List V3)(hv:∀x∈vs,A0C x):∀ (f:Nat) (e:E7) (w:World) (d:Nat) (u:Value) (F:List Nat),e.wf->C1 w d u e.ks F->wtE e<=1048576->okE f e=true->∃r,Res m f e vs r/\A0C r
 |0,_,_,_,_,_,_,_,_,h=>by cases h
 |f+1,e,w,d,u,F,hw,hk,hn,h=>by
  simp only[okE,Bool.and_eq_true,List.all_eq_true]at h;obtain⟨hp,hks⟩:=h;obtain⟨d,rfl⟩:=hk.succ;have kid:∀x∈e.ks,∃r,Res m f x vs r/\A0C r:=fun x hx=>by
   obtain⟨hxw,u',F',hK⟩:=A4C hk hx;exact B14 m vs hv f x w d u' F' hxw hK (by have:=A0a hx;rw[j3]at hn;omega) (hks x hx)
  by_cases h0:e.k=0
  ·rw[A58 h0]at hp;simp only[Bool.and_eq_true,A0H,decide_eq_true_eq]at hp;refine⟨_,Or.inl ⟨h0,hp.1.1.1.1,rfl⟩,?_⟩;by_cases hl:e.n.toNat<vs.length
   ·rw[List.getD_eq_getElem?_getD,List.getElem?_eq_getElem hl];exact hv _ (List.getElem_mem hl)
   ·rw[List.getD_eq_getElem?_getD,List.getElem?_eq_none (by omega)];exact A84
  by_cases h1:e.k=1
  ·rw[A6w h1]at hp;simp only[Bool.and_eq_true]at hp;exact⟨_,Or.inr (Or.inl ⟨h1,rfl⟩),hp.1.1.2,hw.2.2.1⟩
  by_cases h2:e.k=2
  ·rw[A6T h2]at hp;simp only[Bool.and_eq_true,beq_iff_eq]at hp;obtain⟨a,b,hab⟩:=B8p hp.2;obtain⟨r0,p0,g0⟩:=kid a (by rw[hab];simp);obtain⟨r1,p1,g1⟩:=kid b (by rw[hab];simp);obtain⟨K,N,⟨hN,hO⟩,hI,hS⟩:=B2T e.p r0.k r0.n r1.k r1.n r0.s r1.s m g0.R.1 g1.R.1 g0.R.2 g1.R.2;exact⟨⟨K,N,⟨#[]⟩⟩,Or.inr (Or.inr (Or.inl ⟨h2,a,b,r0,r1,hab,p0,p1,rfl,hI,hS⟩)),A3k hO hN⟩
  by_cases h3:e.k=3
  ·rw[A7D h3]at hp;simp only[Bool.and_eq_true,beq_iff_eq]at hp;obtain⟨a,hab⟩:=B1O hp.2;obtain⟨r0,p0,g0⟩:=kid a (by rw[hab];simp);exact⟨_,Or.inr (Or.inr (Or.inr (Or.inl ⟨h3,a,r0,hab,p0,rfl⟩))),A3k (A9Q _ _).1 (A9Q _ _).2⟩
  by_cases h4:e.k=4
  ·rw[A6W h4]at hp;simp only[Bool.and_eq_true,beq_iff_eq]at hp;obtain⟨a,hab⟩:=B1O hp.2;obtain⟨r0,p0,g0⟩:=kid a (by rw[hab];simp);exact⟨_,Or.inr (Or.inr (Or.inr (Or.inr ⟨h4,a,r0,hab,p0,rfl⟩))),A3k (B0x _).1 (B0x _).2⟩
  rw[A5B h0 h1 h2 h3 h4]at hp;cases hp
def o3 (e:E7):Prop:=e.wf/\okE 13 e=true/\wtE e<=1048576/\∃ (w:World) (d:Nat) (u:Value) (F:List Nat),C1 w d u e.ks F
def N8 (vs:List V3):Prop:=∀x∈vs,A0C x
structure VOk (m:Int)(V:E7->List V3->V3):Prop where
 res:∀e vs,o3 e->N8 vs->Res m 13 e vs (V e vs)
 good:∀e vs,o3 e->N8 vs->A0C (V e vs)
theorem C14 (m:Int):∃V,VOk m V:=by
 have h:∀ (e:E7) (vs:List V3),∃r,o3 e->N8 vs->Res m 13 e vs r/\A0C r:=fun e vs=>by
  by_cases he:o3 e
  ·by_cases hv:N8 vs
   ·obtain⟨hw,ho,hn,w,d,u,F,hk⟩:=he;obtain⟨r,h1,h2⟩:=B14 m vs hv 13 e w d u F hw hk hn ho;exact⟨r,fun _ _=>⟨h1,h2⟩⟩
   ·exact⟨A0Q,fun _ h=>absurd h hv⟩
  ·exact⟨A0Q,fun h=>absurd h he⟩
 exact⟨fun e vs=>Classical.choose (h e vs),fun e vs he hv=>(Classical.choose_spec (h e vs) he hv).1,fun e vs he hv=>(Classical.choose_spec (h e vs) he hv).2⟩
def W5 (cs:List C2):Bool:=cs.all fun x=>decide (0<=x.n)
def S5 (W:Int)(cs:List C2):Bool:=W5 cs &&J2 W cs
theorem A9m {cs:List C2}{k:Nat}{x:C2}(h:cs[k]?=some x):W5 (cs.drop k)=(decide (0<=x.n) &&W5 (cs.drop (k+1))):=by
 obtain⟨hk,rfl⟩:=gE1 h;rw[List.drop_eq_getElem_cons hk];rfl
theorem A5l (W:Int)(v:Value)(cs:List C2)(w:World)(hw:X7 cs)(hr:J7 w v cs):Calls Tryz.prog 47 #[.agg #[.int .i64 W,v]] w fun e w'=>e=.returned (.bool (S5 W cs))/\Below w.heap.size w w':=by
 obtain⟨a,c,b,o,rfl,hl,hc,ha⟩:=hr.pick;unfold maxLen at hc;go_enter Tryz.func47,Tryz.ntmps47;go_wp2
 go_loop [3] (fun i=> ∃k:Nat,k<=cs.length/\i=.int .i64 k/\W5 cs=W5 (cs.drop k)) (fun i=>cs.length - (intOf i).toNat)
 case atStart=>exact⟨0,Nat.zero_le _,rfl,by simp⟩
 case round=>
  obtain⟨k,hk,rfl,heq⟩:=hrel;have HE:Hid (W5 cs=W5 (cs.drop k)):=heq;clear heq;by_cases hlt:k<cs.length
  ·obtain⟨rfl,hblt,hL⟩:=ha k hlt;obtain⟨x,u,hx,c0,hR,c1,hbr⟩:=hL.at hblt (Below.refl _ _) hlt;have HS:Hid (W5 (cs.drop k)=(decide (0<=x.n) &&W5 (cs.drop (k+1)))):=A9m hx;clear ha hL hx hR hr hw;by_cases hn:x.n<0
   ·go_wp2;go_returns;refine⟨rB8 ?_,by go_grown⟩;unfold S5;rw[HE.out,HS.out,show decide (0<=x.n)=false from by simp;omega,Bool.false_and,Bool.false_and]
   ·go_wp2
    go_roundw
    case rel=>
     refine⟨k+1,hlt,by simp,?_⟩;rw[HE.out,HS.out,show decide (0<=x.n)=true from by simp;omega,Bool.true_and]
    case measure=>simp[intOf];omega
  ·have HN:Hid (W5 cs=true):=by rw[HE.out,List.drop_eq_nil_of_le (by omega)];exact rfl
   clear ha;go_wp2_with fail;refine cM8 (B0X W (.slice a cs.length c) cs _ hw (hr.below ?hb)) ?_
   case hb=>exact C3
   rintro e w1 ⟨rfl,hb1⟩;have hz1:=hb1.size;simp only[World.size_alloc]at hz1;go_wp2;go_returns;refine⟨rB8 ?_,C3⟩;unfold S5;rw[HN.out,Bool.true_and]
theorem A4Q (W:Int)(v:Value)(cs:List C2)(w:World)(hw:X7 cs)(hr:J7 w v cs):Calls Tryz.prog 81 #[.agg #[.int .i64 W,v]] w fun e w'=>e=.returned (.bool (S5 W cs))/\Below w.heap.size w w':=by
 obtain⟨a,c,b,o,rfl,hl,hc,ha⟩:=hr.pick;unfold maxLen at hc;go_enter Tryz.func81,Tryz.ntmps81;go_wp2;go_loopw [8] (fun i wr=> ∃k:Nat,k<=cs.length/\i=.int .i64 k/\W5 cs=W5 (cs.drop k)/\Below w.heap.size w wr/\w.heap.size<wr.heap.size/\wr.cell? ⟨w.heap.size,0,none⟩=some (.int .i64 W)/\wr.cell? ⟨w.heap.size,1,none⟩=some (.slice a cs.length c)) (fun i _=>cs.length - (intOf i).toNat)
 case atStart=>exact⟨0,Nat.zero_le _,rfl,by simp,by go_grown,by simp,by go_simp,by go_simp⟩
 case round=>
  obtain⟨k,hk,rfl,heq,hb,hsz,p0,p1⟩:=hrel;have HE:Hid (W5 cs=W5 (cs.drop k)):=heq;have hzb:=hb.size;clear heq;by_cases hlt:k<cs.length
  ·obtain⟨rfl,hblt,hL⟩:=ha k hlt;obtain⟨x,u,hx,c0,hR,c1,hbr⟩:=hL.at hblt hb hlt;obtain⟨ur,lr,cr,rfl⟩:=hR.shape;have HS:Hid (W5 (cs.drop k)=(decide (0<=x.n) &&W5 (cs.drop (k+1)))):=A9m hx;clear ha hL hx hR hr hw;by_cases hn:x.n<0
   ·go_wp2;go_returns;refine⟨rB8 ?_,C3⟩;unfold S5;rw[HE.out,HS.out,show decide (0<=x.n)=false from by simp;omega,Bool.false_and,Bool.false_and]
   ·go_wp2
    go_roundw
    case rel=>
     refine⟨k+1,hlt,by simp,?_,C3,by(first|omega|(simp;omega)),by go_simp,by go_simp⟩;rw[HE.out,HS.out,show decide (0<=x.n)=true from by simp;omega,Bool.true_and]
    case measure=>simp[intOf];omega
  ·have HN:Hid (W5 cs=true):=by rw[HE.out,List.drop_eq_nil_of_le (by omega)];exact rfl
   clear ha;go_wp2_with fail;refine cM8 (A8v W (.slice a cs.length c) cs _ hw (hr.below ?hb)) ?_
   case hb=>exact C3
   rintro e w1 ⟨rfl,hb1⟩;have hz1:=hb1.size;go_wp2;go_returns;refine⟨rB8 ?_,C3⟩;unfold S5;rw[HN.out,Bool.true_and]
def inB (x a b:Int):Bool:=decide (a<=x/\x<=b)
theorem A3t (x a b:Int)(w:World):Calls Tryz.prog 71 #[.int .i64 x,.int .i64 a,.int .i64 b] w fun e w'=>e=.returned (.bool (inB x a b))/\w'=w:=by
 by_cases h:a<=x
 ·go_enter Tryz.func71,Tryz.ntmps71;go_wp2;go_returns;exact⟨by simp[inB,h],rfl⟩
 ·have h':decide (a<=x)=false:=by simp;omega
  go_enter Tryz.func71,Tryz.ntmps71;go_wp2;go_returns;exact⟨rB8 (by simp[inB];omega),rfl⟩
theorem A2g (c:Int)(w:World):Calls Tryz.prog 101 #[.int .u8 c] w fun e w'=>e=.returned (.bool (inB c 97 122))/\w'=w:=by
 by_cases h:97<=c
 ·go_enter Tryz.func101,Tryz.ntmps101;go_wp2;go_returns;exact⟨by simp[inB,h],rfl⟩
 ·have h':decide (97<=c)=false:=by simp;omega
  go_enter Tryz.func101,Tryz.ntmps101;go_wp2;go_returns;exact⟨rB8 (by simp[inB];omega),rfl⟩
theorem A26 (c:Int)(w:World):Calls Tryz.prog 102 #[.int .u8 c] w fun e w'=>e=.returned (.bool (inB c 48 57))/\w'=w:=by
 by_cases h:48<=c
 ·go_enter Tryz.func102,Tryz.ntmps102;go_wp2;go_returns;exact⟨by simp[inB,h],rfl⟩
 ·have h':decide (48<=c)=false:=by simp;omega
  go_enter Tryz.func102,Tryz.ntmps102;go_wp2;go_returns;exact⟨rB8 (by simp[inB];omega),rfl⟩
def chr (i:Nat)(c:Int):Bool:=inB c 97 122||(i !=0 &&inB c 48 57)
def A14 (s:ByteArray)(n:Nat):Prop:=∀i (h:i<s.size),i<n->chr i s[i].toNat=true
def O0 (s:ByteArray):Bool:=(List.range s.size).all (fun i=>if h:i<s.size then chr i s[i].toNat else true) &&inB s.size 1 10
theorem A8V (s:ByteArray)(h:A14 s s.size):O0 s=inB s.size 1 10:=by
 have:(List.range s.size).all (fun i=>if h:i<s.size then chr i s[i].toNat else true)=true:=by
  rw[List.all_eq_true];intro i hi;have hi':=List.mem_range.1 hi;rw[dif_pos hi'];exact h i hi' hi'
 rw[O0,this,Bool.true_and]
theorem A5I (s:ByteArray)(k:Nat)(hk:k<s.size)(h:chr k s[k].toNat=false):O0 s=false:=by
 have:(List.range s.size).all (fun i=>if h:i<s.size then chr i s[i].toNat else true)=false:=by
  rw[List.all_eq_false];exact⟨k,List.mem_range.2 hk,by rw[dif_pos hk,h];simp⟩
 rw[O0,this,Bool.false_and]
theorem A9y (s:ByteArray)(h:inB s.size 1 10=false):O0 s=false:=by rw[O0,h,Bool.and_false]
theorem A4R (s:ByteArray)(k:Nat)(hk:k<s.size)(h:A14 s k)(hc:chr k s[k].toNat=true):A14 s (k+1):=by
 intro i hi hl;by_cases e:i=k
 ·subst e;exact hc
 ·exact h i hi (by omega)
theorem A5Q (s:ByteArray)(w:World)(hs:s.size<=maxLen):Calls Tryz.prog 46 #[.string s] w fun e w'=>e=.returned (.bool (O0 s))/\w'=w:=by
 unfold maxLen at hs;go_enter Tryz.func46,Tryz.ntmps46;go_wp2_with fail
 go_loop [3] (fun i=> ∃k:Nat,k<=s.size/\i=.int .i64 k/\A14 s k) (fun i=>s.size - (intOf i).toNat)
 case atStart=>exact⟨0,Nat.zero_le _,rfl,fun i h hl=>by omega⟩
 case round=>
  obtain⟨k,hk,rfl,hp0⟩:=hrel;have hp:Hid (A14 s k):=hp0;clear hp0;by_cases hlt:k<s.size
  ·have e64:wrap64 (s[k].toNat:Int)=s[k].toNat:=B6X _;by_cases h1:inB (wrap64 s[k].toNat) 97 122=true
   ·have hc:Hid (chr k s[k].toNat=true):=by show chr k s[k].toNat=true;rw[e64]at h1;simp[chr,h1]
    clear e64;go_wp2_with(first|(go_at_call 71;refine(A3t _ _ _ _).mono ?_;rintro e w' ⟨rfl,rfl⟩));exact⟨⟨k+1,by omega,by go_num,A4R s k hlt hp.out hc.out⟩,by simp[intOf];omega⟩
   ·have h1':inB (wrap64 s[k].toNat) 97 122=false:=by simpa using h1
    clear h1;by_cases h0:k=0
    ·subst h0;have hc:Hid (O0 s=false):=by show O0 s=false;rw[e64]at h1';exact A5I s 0 hlt (by simp[chr,h1'])
     clear e64;go_wp2_with(first|(go_at_call 71;refine(A3t _ _ _ _).mono ?_;rintro e w' ⟨rfl,rfl⟩));go_returns;exact⟨rB8 hc.out.symm,rfl⟩
    ·have hk0:((k:Int)==0)=false:=by simp;omega
     by_cases h2:inB (wrap64 s[k].toNat) 48 57=true
     ·have hc:Hid (chr k s[k].toNat=true):=by show chr k s[k].toNat=true;rw[e64]at h2;simp[chr,h2,h0]
      clear e64;go_wp2_with(first|(go_at_call 71;refine(A3t _ _ _ _).mono ?_;rintro e w' ⟨rfl,rfl⟩));exact⟨⟨k+1,by omega,by go_num,A4R s k hlt hp.out hc.out⟩,by simp[intOf];omega⟩
     ·have h2':inB (wrap64 s[k].toNat) 48 57=false:=by simpa using h2
      clear h2;have hc:Hid (O0 s=false):=by show O0 s=false;rw[e64]at h1' h2';exact A5I s k hlt (by simp[chr,h1',h2'])
      clear e64;go_wp2_with(first|(go_at_call 71;refine(A3t _ _ _ _).mono ?_;rintro e w' ⟨rfl,rfl⟩));go_returns;exact⟨rB8 hc.out.symm,rfl⟩
  ·have hkk:k=s.size:=by omega
   have V4:Hid (O0 s=inB s.size 1 10):=by show O0 s=inB s.size 1 10;have:=hp.out;rw[hkk]at this;exact A8V s this
   clear hkk;go_wp2_with(first|(go_at_call 71;refine(A3t _ _ _ _).mono ?_;rintro e w' ⟨rfl,rfl⟩));go_returns;exact⟨rB8 V4.out.symm,rfl⟩
theorem A4k (s:ByteArray)(w:World)(hs:s.size<=maxLen):Calls Tryz.prog 80 #[.string s] w fun e w'=>e=.returned (.bool (O0 s))/\w'=w:=by
 unfold maxLen at hs;by_cases hz:s.size=0
 ·have V4:Hid (O0 s=false):=A9y s (by simp[inB,hz]);have A2E:s.toList=[]:=by rw[ByteArray.toList_eq];exact List.eq_nil_of_length_eq_zero (by simpa using hz)
  clear hz;go_enter Tryz.func80,Tryz.ntmps80;go_wp2_with fail;go_returns;exact⟨rB8 V4.out.symm,rfl⟩
 have hne:s.toList.isEmpty=false:=by
  rw[ByteArray.toList_eq];have:s.data.toList.length≠0:=by simpa using hz
  cases h:s.data.toList with
  |nil=>rw[h]at this;simp at this
  |cons a l=>rfl
 by_cases hb:10<(s.size:Int)
 ·have V4:Hid (O0 s=false):=A9y s (by simp[inB];omega);go_enter Tryz.func80,Tryz.ntmps80;go_wp2_with fail;go_returns;exact⟨rB8 V4.out.symm,rfl⟩
 have P3:0<s.size:=by omega
 have hd:decide (10<(s.size:Int))=false:=by simp;omega
 by_cases h0:inB s[0].toNat 97 122=true
 ·have hc0:Hid (chr 0 s[0].toNat=true):=by show chr 0 s[0].toNat=true;simp[chr,h0]
  go_enter Tryz.func80,Tryz.ntmps80;go_wp2_with(first|(go_at_call 101;refine(A2g _ _).mono ?_;rintro e w' ⟨rfl,rfl⟩)|(go_at_call 102;refine(A26 _ _).mono ?_;rintro e w' ⟨rfl,rfl⟩))
  go_loop [3] (fun i=> ∃k:Nat,1<=k/\k<=s.size/\i=.int .i64 k/\A14 s k) (fun i=>s.size - (intOf i).toNat)
  case atStart=>exact⟨1,by omega,by omega,rfl,fun i h hl=>by have e:i=0:=(by omega);subst e;exact hc0.out⟩
  case round=>
   obtain⟨k,hk1,hk,rfl,hp0⟩:=hrel;have hp:Hid (A14 s k):=hp0;clear hp0;by_cases hlt:k<s.size
   ·by_cases h1:inB s[k].toNat 97 122=true
    ·have hc:Hid (chr k s[k].toNat=true):=by show chr k s[k].toNat=true;simp[chr,h1]
     go_wp2_with(first|(go_at_call 101;refine(A2g _ _).mono ?_;rintro e w' ⟨rfl,rfl⟩)|(go_at_call 102;refine(A26 _ _).mono ?_;rintro e w' ⟨rfl,rfl⟩));exact⟨⟨k+1,by omega,by omega,by go_num,A4R s k hlt hp.out hc.out⟩,by simp[intOf];omega⟩
    ·have h1':inB s[k].toNat 97 122=false:=by simpa using h1
     clear h1;by_cases h2:inB s[k].toNat 48 57=true
     ·have hc:Hid (chr k s[k].toNat=true):=by show chr k s[k].toNat=true;have:k≠0:=(by omega);simp[chr,h2,this]
      go_wp2_with(first|(go_at_call 101;refine(A2g _ _).mono ?_;rintro e w' ⟨rfl,rfl⟩)|(go_at_call 102;refine(A26 _ _).mono ?_;rintro e w' ⟨rfl,rfl⟩));exact⟨⟨k+1,by omega,by omega,by go_num,A4R s k hlt hp.out hc.out⟩,by simp[intOf];omega⟩
     ·have h2':inB s[k].toNat 48 57=false:=by simpa using h2
      clear h2;have hc:Hid (O0 s=false):=A5I s k hlt (by simp[chr,h1',h2']);go_wp2_with(first|(go_at_call 101;refine(A2g _ _).mono ?_;rintro e w' ⟨rfl,rfl⟩)|(go_at_call 102;refine(A26 _ _).mono ?_;rintro e w' ⟨rfl,rfl⟩));go_returns;exact⟨rB8 hc.out.symm,rfl⟩
   ·have hkk:k=s.size:=by omega
    have V4:Hid (O0 s=true):=by show O0 s=true;have:=hp.out;rw[hkk]at this;rw[A8V s this];simp[inB];omega
    clear hkk;go_wp2_with(first|(go_at_call 101;refine(A2g _ _).mono ?_;rintro e w' ⟨rfl,rfl⟩)|(go_at_call 102;refine(A26 _ _).mono ?_;rintro e w' ⟨rfl,rfl⟩));go_returns;exact⟨rB8 V4.out.symm,rfl⟩
 ·have h0':inB s[0].toNat 97 122=false:=by simpa using h0
  clear h0;have V4:Hid (O0 s=false):=A5I s 0 P3 (by simp[chr,h0']);go_enter Tryz.func80,Tryz.ntmps80;go_wp2_with(first|(go_at_call 101;refine(A2g _ _).mono ?_;rintro e w' ⟨rfl,rfl⟩)|(go_at_call 102;refine(A26 _ _).mono ?_;rintro e w' ⟨rfl,rfl⟩));go_returns;exact⟨rB8 V4.out.symm,rfl⟩
theorem A9L:∀ {x y:List UInt8},Op.bytesLess x y=true->Op.bytesLess y x=false
 | [],_,_=>by cases ‹List UInt8› <;>simp_all [Op.bytesLess]
 |_::_,[],h=>by simp[Op.bytesLess]at h
 |a::x,b::y,h=>by
  simp only[Op.bytesLess]at h⊢;rcases Nat.lt_trichotomy a.toNat b.toNat with h1|h1|h1
  ·have e:¬b<a:=by simp[UInt8.lt_iff_toNat_lt];omega
   have e':¬b=a:=by rintro rfl;omega
   simp[e,e']
  ·obtain rfl:a=b:=UInt8.toNat_inj.1 h1;have e:¬a<a:=by simp
   simp[e]at h⊢;exact A9L h
  ·have e:¬a<b:=by simp[UInt8.lt_iff_toNat_lt];omega
   have e':¬a=b:=by rintro rfl;omega
   simp[e,e']at h
theorem B1Z:∀ {x y:List UInt8},Op.bytesLess x y=false->x≠y->Op.bytesLess y x=true
 | [],[],_,h=>absurd rfl h
 | [],b::y,h,_=>by simp[Op.bytesLess]at h
 |a::x,[],_,_=>by simp[Op.bytesLess]
 |a::x,b::y,h,hn=>by
  simp only[Op.bytesLess]at h⊢;rcases Nat.lt_trichotomy a.toNat b.toNat with h1|h1|h1
  ·have e:a<b:=by simp[UInt8.lt_iff_toNat_lt];omega
   simp[e]at h
  ·obtain rfl:a=b:=UInt8.toNat_inj.1 h1;have e:¬a<a:=by simp
   simp[e]at h⊢;exact B1Z h (by rintro rfl;exact hn rfl)
  ·have e:b<a:=by simp[UInt8.lt_iff_toNat_lt];omega
   simp[e]
theorem B0g:∀ (x:List UInt8),Op.bytesLess x x=false
 | []=>by simp[Op.bytesLess]
 |a::x=>by
  have e:¬a<a:=by simp
  simp[Op.bytesLess,e,B0g x]
def A1a (p:Option R3)(x:R3):Bool:=match p with
 |none=>true
 |some y=>Op.bytesLess y.s.toList x.s.toList
def T7:Option R3->List R3->Bool
 |_,[]=>true
 |p,x::xs=>O0 x.s &&S5 x.W x.cs &&A1a p x &&T7 (some x) xs
def Q4 (rs:List R3)(k:Nat):Option R3:=if k=0 then none else rs[k -1]?
def G9 (rs:List R3):Bool:=decide (rs.length<=20) &&T7 none rs
theorem A8f {rs:List R3}{k:Nat}{x:R3}(h:rs[k]?=some x):T7 (Q4 rs k) (rs.drop k)=(O0 x.s &&S5 x.W x.cs &&A1a (Q4 rs k) x &&T7 (Q4 rs (k+1)) (rs.drop (k+1))):=by
 obtain⟨hk,rfl⟩:=gE1 h;rw[List.drop_eq_getElem_cons hk];simp[T7,Q4,hk]
theorem B0P (rs:List R3):Q4 rs 0=none:=rfl
theorem B0v {rs:List R3}{j:Nat}{y:R3}(h:rs[j]?=some y):Q4 rs (j+1)=some y:=by simp[Q4,h]
theorem B2c (v:Value)(rs:List R3)(w:World)(hw:W7 rs)(hr:W6 w v rs):Calls Tryz.prog 59 #[v] w fun e w'=>e=.returned (.bool (G9 rs))/\Below w.heap.size w w':=by
 obtain⟨a,c,b,o,rfl,hl,hc,ha⟩:=hr.pick;unfold maxLen at hc;clear hr;by_cases h2:20<(rs.length:Int)
 ·go_enter Tryz.func59,Tryz.ntmps59;go_wp2;go_returns;exact⟨rB8 (by simp[G9,show ¬rs.length<=20 from by omega]),by go_grown⟩
 have HB:Hid (G9 rs=T7 none rs):=by simp[Hid,G9,show rs.length<=20 from by omega]
 go_enter Tryz.func59,Tryz.ntmps59;go_wp2;go_loopw [10] (fun i wr=> ∃ (k:Nat) (q:Int),k<=rs.length/\q=k/\i=.int .i64 q/\Below w.heap.size w wr/\T7 none rs=T7 (Q4 rs k) (rs.drop k)) (fun i _=>rs.length - (intOf i).toNat)
 case atStart=>exact⟨0,0,Nat.zero_le _,rfl,rfl,by go_grown,by simp[Q4]⟩
 case round=>
  obtain⟨k,q,hk,hq,rfl,hb,heq⟩:=hrel;have HE:Hid (T7 none rs=T7 (Q4 rs k) (rs.drop k)):=heq;have hzb:=hb.size;clear heq;by_cases hlt:k<rs.length
  ·obtain⟨rfl,hblt,hL⟩:=ha k hlt;obtain⟨x,u,hx,c0,c1,c2,hR,hbr⟩:=hL.at hblt hb hlt;obtain⟨ur,lr,cr,rfl⟩:=hR.shape;obtain⟨hxs,_,hxw⟩:=hw x (mg8 hx);have HS:Hid (T7 (Q4 rs k) (rs.drop k)=(O0 x.s &&S5 x.W x.cs &&A1a (Q4 rs k) x &&T7 (Q4 rs (k+1)) (rs.drop (k+1)))):=A8f hx;by_cases hnm:O0 x.s=true;rotate_left
   ·have hf:O0 x.s=false:=by simpa using hnm
    clear ha hw hL hx;subst hq;go_wp2_with(first|(go_at_call 80;refine(A4k x.s _ hxs).mono ?_;rintro e w1 ⟨rfl,rfl⟩)|(go_at_call 81;refine cM8 (A4Q x.W _ x.cs _ hxw (hR.below C3)) ?_;rintro e w2 ⟨rfl,hb2⟩;have hz2:=hb2.size;(try simp at hz2);have n2:w2.cell? ⟨wr.heap.size,0,none⟩=some (.string x.s):=cl8 hb2)|fail);go_returns;refine⟨rB8 ?_,C3⟩;rw[HB.out,HE.out,HS.out,hf];simp
   by_cases hpl:S5 x.W x.cs=true;rotate_left
   ·have hf:S5 x.W x.cs=false:=by simpa using hpl
    clear ha hw hL hx;subst hq;go_wp2_with(first|(go_at_call 80;refine(A4k x.s _ hxs).mono ?_;rintro e w1 ⟨rfl,rfl⟩)|(go_at_call 81;refine cM8 (A4Q x.W _ x.cs _ hxw (hR.below C3)) ?_;rintro e w2 ⟨rfl,hb2⟩;have hz2:=hb2.size;(try simp at hz2);have n2:w2.cell? ⟨wr.heap.size,0,none⟩=some (.string x.s):=cl8 hb2)|fail);go_returns;refine⟨rB8 ?_,C3⟩;rw[HB.out,HE.out,HS.out,hf];simp
   rcases Nat.eq_zero_or_pos k with hk0|hk0
   ·subst hk0;obtain rfl:q=0:=by simpa using hq
    rw[Nat.zero_mul,Nat.add_zero]at c0 c1 c2;clear ha hw hL hx hq;go_wp2_with(first|(go_at_call 80;refine(A4k x.s _ hxs).mono ?_;rintro e w1 ⟨rfl,rfl⟩)|(go_at_call 81;refine cM8 (A4Q x.W _ x.cs _ hxw (hR.below C3)) ?_;rintro e w2 ⟨rfl,hb2⟩;have hz2:=hb2.size;(try simp at hz2);have n2:w2.cell? ⟨wr.heap.size,0,none⟩=some (.string x.s):=cl8 hb2)|fail)
    go_region
    go_wp2
    go_roundw
    case rel=>
     refine⟨1,1,hlt,rfl,by simp,C3,?_⟩;rw[HE.out,HS.out,hnm,hpl,B0P];simp[A1a]
    case measure=>simp[intOf];omega
   ·obtain⟨j,rfl⟩:∃j,k=j+1:=⟨k -1,by omega⟩;obtain rfl:q=(j:Int)+1:=by omega
    obtain⟨y,t,hy,d0,d1,d2',hT,_⟩:=hL.at hblt hb (show j<rs.length by omega);have HP:Hid (Q4 rs (j+1)=some y):=B0v hy;clear ha hw hL hx hy hq d1 d2' hT;go_wp2_with(first|(go_at_call 80;refine(A4k x.s _ hxs).mono ?_;rintro e w1 ⟨rfl,rfl⟩)|(go_at_call 81;refine cM8 (A4Q x.W _ x.cs _ hxw (hR.below C3)) ?_;rintro e w2 ⟨rfl,hb2⟩;have hz2:=hb2.size;(try simp at hz2);have n2:w2.cell? ⟨wr.heap.size,0,none⟩=some (.string x.s):=cl8 hb2;have d2:w2.cell? ⟨b,o+j*3,none⟩=some (.string y.s):=cl8 hb2)|fail);have hw1:IntKind.i64.wrap (j:Int)=j:=by rw[IntKind.wrap_i64];omega
    have hw2:IntKind.i64.wrap ((j:Int)+1 -1)=j:=by rw[IntKind.wrap_i64];omega
    have hi0:(0:Int)<=j:=by omega
    have hi1:(j:Int)<rs.length:=by omega
    have hi2:(0:Int)<(j:Int)+1:=by omega
    have HQ:Hid (A1a (Q4 rs (j+1)) x=Op.bytesLess y.s.toList x.s.toList):=by rw[HP.out];rfl
    go_region_held3 (fun w'=>w'.cell? ⟨wr.heap.size,0,none⟩=some (.string x.s)/\w'.cell? ⟨b,o+j*3,none⟩=some (.string y.s)) (refine⟨?_,?_⟩<;>first|(go_simp;done)|(exact cL8 (by assumption) (by go_simp))) (fail);go_wp2
    ·have hcf:Op.bytesLess y.s.toList x.s.toList=false:=by
      have h9:(!Op.bytesLess y.s.toList x.s.toList)=true:=by assumption
      simpa using h9
     go_returns;refine⟨rB8 ?_,C3⟩;rw[HB.out,HE.out,HS.out,HQ.out,hcf];simp
    ·have hcmp:Op.bytesLess y.s.toList x.s.toList=true:=by
      have h9:(!Op.bytesLess y.s.toList x.s.toList)=false:=by assumption
      simpa using h9
     refine⟨⟨j+1+1,(j:Int)+1+1,hlt,by omega,rfl,C3,?_⟩,by simp[intOf];omega⟩;rw[HE.out,HS.out,HQ.out,hnm,hpl,hcmp];simp
  ·clear ha hw;go_wp2;go_returns;refine⟨rB8 ?_,hb⟩;rw[HB.out,HE.out,List.drop_eq_nil_of_le (by omega)];rfl
def I9 (db:List R3)(s:ByteArray):Option R3:=db.find? fun x=>x.s.toList==s.toList
theorem B1W {db:List R3}{s:ByteArray}{k:Nat}{x:R3}(h:db[k]?=some x):I9 (db.drop k) s=if(x.s.toList==s.toList)=true then some x else I9 (db.drop (k+1)) s:=by
 obtain⟨hk,rfl⟩:=gE1 h;unfold I9;rw[List.drop_eq_getElem_cons hk,List.find?_cons];cases(db[k].s.toList==s.toList)<;>rfl
theorem A4m {db:List R3}{s:ByteArray}{x:R3}(h:I9 db s=some x):x∈db:=List.mem_of_find?_eq_some h
theorem A3z:∀ {rs:List R3} {p:Option R3},T7 p rs=true->∀r∈rs,S5 r.W r.cs=true
 | [],_,_,c,hc=>by cases hc
 |x::r,p,h,c,hc=>by
  rw[T7,Bool.and_eq_true,Bool.and_eq_true,Bool.and_eq_true]at h;rcases List.mem_cons.1 hc with rfl|hc
  ·exact h.1.1.2
  ·exact A3z h.2 c hc
theorem B7d {db:List R3}(h:G9 db=true){x:R3}(hx:x∈db):J2 x.W x.cs=true:=by
 simp only[G9,Bool.and_eq_true]at h;have:=A3z h.2 x hx;simp only[S5,Bool.and_eq_true]at this;exact this.2
end
section
open Go.RowKit
def A33 (W:Int):Nat->E7->Bool
 |0,_=>true
 |f+1,e=>(e.k !=0||decide (e.n<W)) &&e.ks.all (A33 W f)
def bE8 (e:E7)(W:Int):Bool:=okE 13 e &&A33 W 13 e
theorem A4Y (W:Int):∀ (f:Nat) (e:E7) (w:World) (d:Nat) (u:Value) (F:List Nat),C1 w d u e.ks F->okE f e=true->(A33 W f e=true↔∀x∈H0 d e,x<W)
 |0,_,_,_,_,_,_,h=>by cases h
 |f+1,e,w,d,u,F,hk,h=>by
  simp only[okE,Bool.and_eq_true,List.all_eq_true]at h;obtain⟨d,rfl⟩:=hk.succ;have ih:∀k∈e.ks,(A33 W f k=true↔∀x∈H0 d k,x<W):=fun k hkm=>by
   obtain⟨_,u',F',hK⟩:=A4C hk hkm;exact A4Y W f k w d u' F' hK (h.2 k hkm)
  simp only[A33,Bool.and_eq_true,Bool.or_eq_true,bne_iff_ne,decide_eq_true_eq,List.all_eq_true];constructor
  ·rintro⟨h1,h2⟩ x hx;rcases A2x.1 hx with⟨h0,rfl⟩|⟨k,hkm,hxk⟩
   ·exact h1.elim (fun h=>absurd h0 h) id
   ·exact(ih k hkm).1 (h2 k hkm) x hxk
  ·intro hx;refine⟨?_,fun k hkm=>(ih k hkm).2 fun x hxk=>hx x (A2x.2 (.inr ⟨k,hkm,hxk⟩))⟩;by_cases h0:e.k=0
   ·exact .inr (hx _ (A2x.2 (.inl ⟨h0,rfl⟩)))
   ·exact .inl h0
theorem C2X {l:List Int}(h:l.Pairwise (· < ·)){W:Int}(hn:l≠ []):(∀x∈l,x<W)↔l.getLast hn<W:=by
 constructor
 ·intro hx;exact hx _ (List.getLast_mem hn)
 ·intro hl x hx;have:l=l.dropLast++ [l.getLast hn]:=(List.dropLast_concat_getLast hn).symm;rw[this]at h hx;rcases List.mem_append.1 hx with hx|hx
  ·have:=(List.pairwise_append.1 h).2.2 x hx _ (List.mem_singleton.2 rfl);omega
  ·rw[List.mem_singleton.1 hx];exact hl
def S8 (e:E7):Bool:=e.k==0 && (e.n==0 && (Q8 e.v && (e.p.toList==[] &&e.ks.length==0)))
def O7 (k:Int):Int:=if k=0 then 0 else if k=1 then 1 else if k=2 then 1 else if k=3 then 2 else if k=4 then 2 else if k=5 then 1 else if k=6 then 1 else -1
def X1 (p:P12):Bool:=(p.k==0||p.s.toList==[]) && ((p.k==1||p.k==3||S8 p.e) && ((p.k==2||p.k==6||p.es.length==0) && ((p.k==6||p.n==0) && ((p.ks.length:Int)==O7 p.k))))
def A3P (rs:List R3)(s:ByteArray):Int:=match I9 rs s with
 |none=>0
 |some x=>x.W
def G8 (rs:List R3)(p:P12)(v u:Int):Int:=
 if p.k=0 then A3P rs p.s else if p.k=2 then(p.es.length:Int)else if p.k=3 then v+u else if p.k=6 then p.n+1+(p.es.length:Int)else v
def I2 (rs:List R3)(p:P12)(v u:Int):Bool:=
 if p.k=0 then(I9 rs p.s).isSome else if p.k=1 then bE8 p.e v else if p.k=2 then decide (0<p.es.length) &&p.es.all (bE8 · v)else if p.k=3 then bE8 p.e (v+u)else if p.k=4 then v==u else if p.k=6 then(decide (0<=p.n) &&decide (p.n<=v)) &&decide (p.es.length<=1) &&p.es.all (bE8 · v)else true
def wP8 (rs:List R3):Nat->P12->Int
 |0,_=> -1
 |f+1,p=>if((X1 p &&p.ks.all fun q=>decide (0<=wP8 rs f q)) && (I2 rs p (wP8 rs f (p.ks.getD 0 .nil)) (wP8 rs f (p.ks.getD 1 .nil)) &&decide (G8 rs p (wP8 rs f (p.ks.getD 0 .nil)) (wP8 rs f (p.ks.getD 1 .nil))<=12)))=true
   then G8 rs p (wP8 rs f (p.ks.getD 0 .nil)) (wP8 rs f (p.ks.getD 1 .nil))else -1
theorem wL8 (rs:List R3)(f:Nat)(p:P12):wP8 rs f p<=12:=by
 cases f with
 |zero=>unfold wP8;omega
 |succ f=>
  unfold wP8;split
  ·rename_i h;simp only[Bool.and_eq_true,decide_eq_true_eq]at h;exact h.2.2
  ·omega
theorem l5 {rs:List R3}{f:Nat}{p:P12}(h:0<=wP8 rs (f+1) p):X1 p=true/\(∀q∈p.ks,0<=wP8 rs f q)/\I2 rs p (wP8 rs f (p.ks.getD 0 .nil)) (wP8 rs f (p.ks.getD 1 .nil))=true/\wP8 rs (f+1) p=G8 rs p (wP8 rs f (p.ks.getD 0 .nil)) (wP8 rs f (p.ks.getD 1 .nil)):=by
 unfold wP8 at h;split at h
 ·rename_i h'
  have h0:=h';simp only[Bool.and_eq_true,List.all_eq_true,decide_eq_true_eq]at h';exact⟨h'.1.1,h'.1.2,h'.2.1,by rw[wP8,if_pos h0]⟩
 ·omega
theorem p7 {p:P12}(h:X1 p=true):(p.ks.length:Int)=O7 p.k:=by
 simp only[X1,Bool.and_eq_true,beq_iff_eq]at h;exact h.2.2.2.2
theorem A7Q {k:Int}(h:0<=O7 k):k=0\/k=1\/k=2\/k=3\/k=4\/k=5\/k=6:=by
 unfold O7 at h;split at h;exact .inl ‹_›;split at h;exact .inr (.inl ‹_›);split at h;exact .inr (.inr (.inl ‹_›));split at h;exact .inr (.inr (.inr (.inl ‹_›)));split at h;exact .inr (.inr (.inr (.inr (.inl ‹_›))));split at h;exact .inr (.inr (.inr (.inr (.inr (.inl ‹_›)))));split at h;exact .inr (.inr (.inr (.inr (.inr (.inr ‹_›)))));omega
theorem j8 {l:List P12}(h:(l.length:Int)=1):∃q,l=[q]:=by
 match l,h with
 | [q],_=>exact⟨q,rfl⟩
theorem A1b {l:List P12}(h:(l.length:Int)=2):∃q r,l=[q,r]:=by
 match l,h with
 | [q,r],_=>exact⟨q,r,rfl⟩
theorem B0S {l:List P12}(h:(l.length:Int)=0):l=[]:=by
 match l,h with
 | [],_=>rfl
section
variable {rs:List R3} {f:Nat} {p:P12} (h:0<=wP8 rs (f+1) p)
include h
theorem A9s (hk:p.k=0):p.ks=[]/\∃x,I9 rs p.s=some x/\wP8 rs (f+1) p=x.W:=by
 obtain⟨h1,h2,h3,h4⟩:=l5 h;have hf:=p7 h1;rw[hk]at hf;refine⟨B0S hf,?_⟩;rw[h4];simp only[I2,G8,hk,if_true]at h3⊢;obtain⟨x,hx⟩:=Option.isSome_iff_exists.1 h3;exact⟨x,hx,by simp[A3P,hx]⟩
theorem A5q (hk:p.k=1):∃q,p.ks=[q]/\0<=wP8 rs f q/\bE8 p.e (wP8 rs f q)=true/\wP8 rs (f+1) p=wP8 rs f q:=by
 obtain⟨h1,h2,h3,h4⟩:=l5 h;have hf:=p7 h1;rw[hk]at hf;obtain⟨q,hq⟩:=j8 hf;rw[h4];rw[hq]at h2 h3⊢;simp[I2,G8,hk]at h2 h3⊢;exact⟨h2,h3⟩
theorem A6p (hk:p.k=2):∃q,p.ks=[q]/\0<=wP8 rs f q/\0<p.es.length/\(∀e∈p.es,bE8 e (wP8 rs f q)=true)/\wP8 rs (f+1) p=p.es.length:=by
 obtain⟨h1,h2,h3,h4⟩:=l5 h;have hf:=p7 h1;rw[hk]at hf;obtain⟨q,hq⟩:=j8 hf;rw[h4];rw[hq]at h2 h3⊢;simp[I2,G8,hk]at h2 h3⊢;exact⟨h2,h3⟩
theorem A50 (hk:p.k=3):∃q r,p.ks=[q,r]/\0<=wP8 rs f q/\0<=wP8 rs f r/\bE8 p.e (wP8 rs f q+wP8 rs f r)=true/\wP8 rs (f+1) p=wP8 rs f q+wP8 rs f r:=by
 obtain⟨h1,h2,h3,h4⟩:=l5 h;have hf:=p7 h1;rw[hk]at hf;obtain⟨q,r,hq⟩:=A1b hf;rw[h4];refine⟨q,r,hq,?_⟩;rw[hq]at h2 h3⊢;simp[I2,G8,hk]at h2 h3⊢;exact⟨h2.1,h2.2,h3⟩
theorem A6c (hk:p.k=4):∃q r,p.ks=[q,r]/\0<=wP8 rs f q/\wP8 rs f q=wP8 rs f r/\wP8 rs (f+1) p=wP8 rs f q:=by
 obtain⟨h1,h2,h3,h4⟩:=l5 h;have hf:=p7 h1;rw[hk]at hf;obtain⟨q,r,hq⟩:=A1b hf;rw[h4];refine⟨q,r,hq,?_⟩;rw[hq]at h2 h3⊢;simp[I2,G8,hk]at h2 h3⊢;exact⟨h2.1,h3⟩
theorem A6X (hk:p.k=5):∃q,p.ks=[q]/\0<=wP8 rs f q/\wP8 rs (f+1) p=wP8 rs f q:=by
 obtain⟨h1,h2,h3,h4⟩:=l5 h;have hf:=p7 h1;rw[hk]at hf;obtain⟨q,hq⟩:=j8 hf;rw[h4];rw[hq]at h2⊢;simp[G8,hk]at h2⊢;exact h2
theorem A5c (hk:p.k=6):∃q,p.ks=[q]/\0<=wP8 rs f q/\0<=p.n/\p.n<=wP8 rs f q/\p.es.length<=1/\(∀e∈p.es,bE8 e (wP8 rs f q)=true)/\wP8 rs (f+1) p=p.n+1+p.es.length:=by
 obtain⟨h1,h2,h3,h4⟩:=l5 h;have hf:=p7 h1;rw[hk]at hf;obtain⟨q,hq⟩:=j8 hf;rw[h4];rw[hq]at h2 h3⊢;simp[I2,G8,hk]at h2 h3⊢;exact⟨h2,h3.1.1.1,h3.1.1.2,h3.1.2,h3.2⟩
theorem B06:p.k=0\/p.k=1\/p.k=2\/p.k=3\/p.k=4\/p.k=5\/p.k=6:=by
 have:=p7 (l5 h).1;exact A7Q (by omega)
end
def Y5 (x:V3):Bool:=x.k==2 &&x.n==1
section
variable (V:E7->List V3->V3)
def M9 (e:E7)(cs:List C2):List C2:=cs.filter fun c=>Y5 (V e c.r)
def K5 (es:List E7)(r:List V3):List V3:=es.map fun e=>V e r
def Q3 (es:List E7)(cs:List C2):List C2:=cs.map fun c=>⟨K5 V es c.r,c.n⟩
def R7 (es:List E7)(cs:List C2):List C2:=N5 [] (Q3 V es cs) 1
def X8 (e:E7)(a:C2)(ds:List C2):List C2:=(ds.filter fun b=>Y5 (V e (a.r++b.r))).map fun b=>⟨a.r++b.r,a.n*b.n⟩
def K9 (e:E7)(cs ds:List C2):List C2:=cs.flatMap fun a=>X8 V e a ds
def R8 (cs:List C2):List C2:=cs.map fun c=>⟨c.r,1⟩
def E8 (key:List V3)(cs:List C2):List C2:=cs.filter fun c=>decide (cR8 (c.r.take key.length) key=0)
def M5 (cs:List C2):Int:=(cs.map fun c=>c.n).sum
def A0X (e:E7)(s:Option Int)(c:C2):Option Int:=if(V e c.r).k=1 then some (wrap64 (s.getD 0+wrap64 ((V e c.r).n*c.n)))else s
def N4 (e:E7)(cs:List C2):Option Int:=cs.foldl (A0X V e) none
def i7 (s:Option Int):V3:=match s with
 |none=>A0Q
 |some x=>⟨1,x,⟨#[]⟩⟩
def tR8 (es:List E7)(key:List V3)(cs:List C2):List V3:=key++⟨1,M5 cs,⟨#[]⟩⟩::(es.map fun e=>i7 (N4 V e cs))
def sameKey (p:Option (List V3))(k:List V3):Bool:=match p with
 |none=>false
 |some q=>decide (cR8 q k=0)
def M7 (n:Nat):Option (List V3)->List C2->List (List V3)
 |_,[]=>[]
 |p,c::cs=>if sameKey p (c.r.take n)=true then M7 n p cs else c.r.take n::M7 n (some (c.r.take n)) cs
def m5 (n:Nat)(es:List E7)(cs:List C2):List C2:=(M7 n none cs).map fun key=>⟨tR8 V es key (E8 key cs),1⟩
def P6 (p:P12)(c d:List C2):List C2:=
 if p.k=1 then M9 V p.e c else if p.k=2 then R7 V p.es c else if p.k=3 then K9 V p.e c d else if p.k=4 then N5 c d 1 else if p.k=5 then R8 c else m5 V p.n.toNat p.es c
def A0t (rs:List R3)(s:ByteArray):List C2:=match I9 rs s with
 |none=>[]
 |some x=>x.cs
def mP8 (rs:List R3):Nat->P12->Bool×List C2
 |0,_=>(false,[])
 |f+1,p=>
  (p.ks.all (fun q=>(mP8 rs f q).1) &&J2 (wP8 rs (f+1) p) (if p.k=0 then A0t rs p.s else P6 V p (mP8 rs f (p.ks.getD 0 .nil)).2 (mP8 rs f (p.ks.getD 1 .nil)).2),if p.k=0 then A0t rs p.s else P6 V p (mP8 rs f (p.ks.getD 0 .nil)).2 (mP8 rs f (p.ks.getD 1 .nil)).2)
end
end
section
open Go.RowKit
theorem A20:∀ {a b x y:List V3},a.length=b.length->cR8 (a++x) (b++y)=if cR8 a b=0 then cR8 x y else cR8 a b
 | [],[],x,y,_=>by simp[cR8]
 | [],_::_,_,_,h=>by simp at h
 |_::_,[],_,_,h=>by simp at h
 |u::a,v::b,x,y,h=>by
  rw[List.cons_append,List.cons_append,cR8,cR8];by_cases h0:M2 u v=0
  ·rw[if_pos h0,if_pos h0];exact A20 (by simpa using h)
  ·rw[if_neg h0,if_neg h0,if_neg h0]
structure Raw (W:Int)(cs:List C2):Prop where
 asc:Asc cs
 row:∀c∈cs,(c.r.length:Int)=W/\N8 c.r
 num:∀c∈cs,0<c.n/\c.n<=1000000000000000000
theorem A5N {W:Int}{r:List V3}:gR8 W r↔(r.length:Int)=W/\N8 r:=by
 unfold gR8 T8 N8 j2 A0C;simp only[Bool.and_eq_true,decide_eq_true_eq,List.all_eq_true];exact⟨fun⟨⟨h1,h2⟩,h3⟩=>⟨h1,fun x hx=>⟨h2 x hx,h3 x hx⟩⟩,fun⟨h1,h2⟩=>⟨⟨h1,fun x hx=>(h2 x hx).1⟩,fun x hx=>(h2 x hx).2⟩⟩
theorem Raw.good {W:Int}{cs:List C2}(h:Raw W cs):∀c∈cs,gR8 W c.r:=fun c hc=>A5N.2 (h.row c hc)
theorem Raw.wf {W:Int}{cs:List C2}(h:Raw W cs):X7 cs:=fun c hc=>⟨(h.good c hc).2,C4K (by have:=h.num c hc;omega)⟩
theorem Raw.nz {W:Int}{cs:List C2}(h:Raw W cs):∀c∈cs,c.n≠0:=fun c hc=>by have:=h.num c hc;omega
structure K2 (W:Int)(cs:List C2):Prop extends Raw W cs where
 ok:J2 W cs=true
theorem K2.all {W:Int}{cs:List C2}(h:K2 W cs):0<=W/\W<=12/\cs.length<=400/\∀c∈cs,0<c.n/\c.n<=1000000000:=by
 obtain⟨h1,h2,h3,_,h4⟩:=A41 h.ok h.wf;exact⟨h1,h2,h3,fun c hc=>⟨(h.num c hc).1,(h4 c hc).2.2.2⟩⟩
theorem A5r {W:Int}{cs:List C2}(hp:S5 W cs=true)(hw:X7 cs):K2 W cs:=by
 simp only[S5,Bool.and_eq_true]at hp;obtain⟨h1,h2,h3,h4,h5⟩:=A41 hp.2 hw;refine⟨⟨h4,fun c hc=>A5N.1 (h5 c hc).1,fun c hc=>⟨?_,by have:=(h5 c hc).2.2.2;omega⟩⟩,hp.2⟩;have h6:=hp.1;have h7:=(h5 c hc).2.1;simp only[W5,List.all_eq_true,decide_eq_true_eq]at h6;have:=h6 c hc;omega
section
variable {m:Int} {V:E7->List V3->V3} (hV:VOk m V)
theorem B3H {W:Int}{cs:List C2}(e:E7)(h:Raw W cs):Raw W (M9 V e cs):=
 ⟨List.Pairwise.filter _ h.asc,fun c hc=>h.row c ((List.mem_filter.1 hc).1),fun c hc=>h.num c ((List.mem_filter.1 hc).1)⟩
theorem B8T {W:Int}{cs:List C2}(h:Raw W cs):Raw W (R8 cs):=by
 refine⟨?_,fun c hc=>?_,fun c hc=>?_⟩
 ·exact List.pairwise_map.2 h.asc
 ·obtain⟨x,hx,rfl⟩:=List.mem_map.1 hc;exact h.row x hx
 ·obtain⟨x,hx,rfl⟩:=List.mem_map.1 hc;exact⟨by show(0:Int)<1;omega,by show(1:Int)<=1000000000000000000;omega⟩
theorem B8J {cs:List C2}{row:List V3}{n:Int}:∀c∈E5 cs row n,c.r=row\/∃x∈cs,x.r=c.r:=by
 intro c hc;unfold E5 at hc;have ins:c∈cs.take (ahead cs row)++(⟨row,n⟩:C2)::cs.drop (ahead cs row)->c.r=row\/∃x∈cs,x.r=c.r:=fun hc=>by
  rcases List.mem_append.1 hc with hc|hc
  ·exact .inr ⟨c,List.mem_of_mem_take hc,rfl⟩
  ·rcases List.mem_cons.1 hc with rfl|hc
   ·exact .inl rfl
   ·exact .inr ⟨c,List.mem_of_mem_drop hc,rfl⟩
 split at hc
 ·rename_i x hx
  have hxm:x∈cs:=mg8 hx;split at hc
  ·split at hc
   ·rcases List.mem_or_eq_of_mem_set hc with hc|rfl
    ·exact .inr ⟨c,hc,rfl⟩
    ·exact .inr ⟨x,hxm,rfl⟩
   ·rcases List.mem_append.1 hc with hc|hc
    ·exact .inr ⟨c,List.mem_of_mem_take hc,rfl⟩
    ·exact .inr ⟨c,List.mem_of_mem_drop hc,rfl⟩
  ·split at hc
   ·exact ins hc
   ·exact .inr ⟨c,hc,rfl⟩
 ·split at hc
  ·exact ins hc
  ·exact .inr ⟨c,hc,rfl⟩
theorem B0o {n:Int}:∀ {ds cs:List C2},∀c∈N5 cs ds n,(∃x∈cs,x.r=c.r)\/∃x∈ds,x.r=c.r
 | [],cs,c,hc=> .inl ⟨c,hc,rfl⟩
 |y::ds,cs,c,hc=>by
  rcases B0o (ds:=ds) (cs:=E5 cs y.r (n*y.n)) c hc with⟨x,hx,e⟩|⟨x,hx,e⟩
  ·rcases B8J x hx with h|⟨z,hz,h⟩
   ·exact .inr ⟨y,by simp,by rw[<-h,e]⟩
   ·exact .inl ⟨z,hz,by rw[h,e]⟩
  ·exact .inr ⟨x,by simp[hx],e⟩
theorem A9V {cs:List C2}(h:∀c∈cs,0<c.n)(r:List V3):0<=E4 cs r:=by
 induction cs with
 |nil=>simp[E4]
 |cons x xs ih=>
  rw[E4];have h1:=ih fun c hc=>h c (by simp[hc]);have h2:=h x (by simp);split<;>omega
theorem A9i {W:Int}{cs ds:List C2}(hc:Raw W cs)(hd:∀x∈ds,(x.r.length:Int)=W/\N8 x.r)(nc:∀x∈cs,x.n<=1000000000)(nd:∀x∈ds,0<x.n/\x.n<=1000000000)(lc:cs.length<=400)(ld:ds.length<=400):Raw W (N5 cs ds 1):=by
 obtain⟨s1,s2,s3⟩:=A2k (n:=1) (ds:=ds) hc.asc hc.nz;refine⟨s1,fun c hm=>?_,fun c hm=>?_⟩
 ·rcases B0o c hm with⟨x,hx,e⟩|⟨x,hx,e⟩
  ·rw[<-e];exact hc.row x hx
  ·rw[<-e];exact hd x hx
 ·have h2:K6 (N5 cs ds 1) c.r=c.n:=by
   rw[<-A2n c.r s1];exact A7I (A6e (fun _ _ h=>A3E h) s1) hm
  rw[s3,A7R,<-A2n c.r hc.asc]at h2;have b1:=A5y (cs:=cs) (M:=1000000000) (fun x hx=>⟨by have:=hc.num x hx;omega,nc x hx⟩) (by decide) c.r;have b2:=A5y (cs:=ds) (M:=1000000000) (fun x hx=>⟨by have:=(nd x hx).1;omega,(nd x hx).2⟩) (by decide) c.r;have p1:=A9V (fun x hx=>(hc.num x hx).1) c.r;have p2:=A9V (fun x hx=>(nd x hx).1) c.r;have h0:=s2 c hm;have l1:(cs.length:Int)<=400:=by omega
  have l2:(ds.length:Int)<=400:=by omega
  omega
theorem B5X (W:Int):Raw W []:=⟨List.Pairwise.nil,fun c hc=>(by cases hc),fun c hc=>(by cases hc)⟩
theorem C30 {W:Int}{cs ds:List C2}(hc:K2 W cs)(hd:K2 W ds):Raw W (N5 cs ds 1):=
 A9i hc.toRaw hd.row (fun x hx=>(hc.all.2.2.2 x hx).2) (fun x hx=>hd.all.2.2.2 x hx) hc.all.2.2.1 hd.all.2.2.1
include hV in
theorem B6k {W:Int}{cs:List C2}{es:List E7}(hc:K2 W cs)(he:∀e∈es,o3 e):Raw es.length (R7 V es cs):=by
 refine A9i (B5X _) (fun x hx=>?_) (fun x hx=>by cases hx) (fun x hx=>?_) (by simp) (by simp[Q3];exact hc.all.2.2.1)
 ·obtain⟨c,hcm,rfl⟩:=List.mem_map.1 hx;refine⟨by simp[K5],fun v hv=>?_⟩;obtain⟨e,hem,rfl⟩:=List.mem_map.1 hv;exact hV.good e c.r (he e hem) (hc.row c hcm).2
 ·obtain⟨c,hcm,rfl⟩:=List.mem_map.1 hx;exact hc.all.2.2.2 c hcm
theorem B0U {W U:Int}{cs ds:List C2}(e:E7)(hc:K2 W cs)(hd:K2 U ds):Raw (W+U) (K9 V e cs ds):=by
 have O9:∀a,∀x∈X8 V e a ds,∃b∈ds,x=⟨a.r++b.r,a.n*b.n⟩:=fun a x hx=>by
  obtain⟨b,hb,rfl⟩:=List.mem_map.1 hx;exact⟨b,(List.mem_filter.1 hb).1,rfl⟩
 have D3:∀a∈cs,∀b∈cs,a.r.length=b.r.length:=fun a ha b hb=>by
  have h1:=(hc.row a ha).1;have h2:=(hc.row b hb).1;omega
 refine⟨?_,fun x hx=>?_,fun x hx=>?_⟩
 ·unfold Asc K9;rw[List.pairwise_flatMap];refine⟨fun a ha=>?_,?_⟩
  ·unfold X8;rw[List.pairwise_map];refine A6e (R:=fun x y:C2=>cR8 x.r y.r<0) (fun x y (h:cR8 x.r y.r<0)=>?_) (List.Pairwise.filter _ (show ds.Pairwise (fun x y=>cR8 x.r y.r<0)from hd.asc));rw[A20 rfl,if_pos (Y8 _)];exact h
  ·refine List.Pairwise.imp_of_mem (fun{a b} ha hb (h:cR8 a.r b.r<0) x hx y hy=>?_) hc.asc;obtain⟨u,hu,rfl⟩:=O9 a x hx;obtain⟨v,hv,rfl⟩:=O9 b y hy;rw[A20 (D3 a ha b hb),if_neg (by omega)];exact h
 ·obtain⟨a,ha,hx⟩:=List.mem_flatMap.1 hx;obtain⟨b,hb,rfl⟩:=O9 a x hx;have h1:=hc.row a ha;have h2:=hd.row b hb;refine⟨by simp;omega,fun v hv=>?_⟩;rcases List.mem_append.1 hv with hv|hv
  ·exact h1.2 v hv
  ·exact h2.2 v hv
 ·obtain⟨a,ha,hx⟩:=List.mem_flatMap.1 hx;obtain⟨b,hb,rfl⟩:=O9 a x hx;obtain⟨a0,a1⟩:=hc.all.2.2.2 a ha;obtain⟨b0,b1⟩:=hd.all.2.2.2 b hb;refine⟨Int.mul_pos a0 b0,?_⟩;have:=Int.mul_le_mul a1 b1 (by omega) (by decide)
  simpa using this
theorem B08 {W:Int}{a b:List V3}(n:Nat)(ha:(a.length:Int)=W)(hb:(b.length:Int)=W)(h:cR8 a b<0):cR8 (a.take n) (b.take n)<=0:=by
 have e:cR8 a b=cR8 (a.take n++a.drop n) (b.take n++b.drop n):=by rw[List.take_append_drop,List.take_append_drop]
 rw[A20 (by simp;omega)]at e;split at e<;>omega
theorem A4p {W:Int}{n:Nat}:∀ {cs:List C2} {p:Option (List V3)},Asc cs->(∀c∈cs,(c.r.length:Int)=W)->(∀k,p=some k->∀c∈cs,cR8 k (c.r.take n)<=0)->
  (M7 n p cs).Pairwise (fun a b=>cR8 a b<0)/\(∀k∈M7 n p cs,(∀k0,p=some k0->cR8 k0 k<0)/\∃c∈cs,k=c.r.take n)
 | [],p,_,_,_=>⟨List.Pairwise.nil,fun k hk=>by cases hk⟩
 |c::cs,p,ha,hl,hp=>by
  have ha':=List.pairwise_cons.1 ha;have hlc:=hl c (by simp);have hl':∀x∈cs,(x.r.length:Int)=W:=fun x hx=>hl x (by simp[hx]);have hle:∀x∈cs,cR8 (c.r.take n) (x.r.take n)<=0:=fun x hx=>B08 n hlc (hl' x hx) (ha'.1 x hx);rw[M7];by_cases h:sameKey p (c.r.take n)=true
  ·rw[if_pos h];obtain⟨h1,h2⟩:=A4p (n:=n) (p:=p) ha'.2 hl' (fun k hk x hx=>by
    subst hk;simp only[sameKey,decide_eq_true_eq]at h;rw[(K7 _ _).1 h];exact hle x hx)
   exact⟨h1,fun k hk=>⟨(h2 k hk).1,by obtain⟨x,hx,e⟩:=(h2 k hk).2;exact⟨x,by simp[hx],e⟩⟩⟩
  ·rw[if_neg h];obtain⟨h1,h2⟩:=A4p (n:=n) (p:=some (c.r.take n)) ha'.2 hl' (fun k hk x hx=>by cases hk;exact hle x hx);have hlt:∀k0,p=some k0->cR8 k0 (c.r.take n)<0:=fun k0 hk0=>by
    have h3:=hp k0 hk0 c (by simp);have h4:cR8 k0 (c.r.take n)≠0:=fun e=>h (by subst hk0;simp[sameKey,e]);omega
   refine⟨List.pairwise_cons.2 ⟨fun k hk=>(h2 k hk).1 _ rfl,h1⟩,fun k hk=>?_⟩;rcases List.mem_cons.1 hk with rfl|hk
   ·exact⟨hlt,c,by simp,rfl⟩
   ·obtain⟨g1,x,hx,e⟩:=h2 k hk;exact⟨fun k0 hk0=>A1F (hlt k0 hk0) (g1 _ rfl),x,by simp[hx],e⟩
theorem A6q {cs:List C2}(h:∀c∈cs,0<c.n/\c.n<=1000000000):0<=M5 cs/\M5 cs<=1000000000*cs.length:=by
 induction cs with
 |nil=>simp[M5]
 |cons x xs ih=>
  have h1:=ih fun c hc=>h c (by simp[hc]);have h2:=h x (by simp);unfold M5 at*;rw[List.map_cons,List.sum_cons,List.length_cons];omega
theorem A9X (e:E7):∀ (cs:List C2) (s:Option Int),(∀x,s=some x->InN x)->∀x,cs.foldl (A0X V e) s=some x->InN x
 | [],s,h,x,hx=>h x hx
 |c::cs,s,h,x,hx=>by
  refine A9X e cs (A0X V e s c) (fun y hy=>?_) x hx;unfold A0X at hy;split at hy
  ·cases hy;exact A13 _
  ·exact h y hy
theorem C3p (e:E7)(cs:List C2):A0C (i7 (N4 V e cs)):=by
 unfold i7;split
 ·exact A84
 ·rename_i x hx
  exact A3k (by simp[okB,A0J]) (A9X (V:=V) e cs none (fun y hy=>by cases hy) x hx)
theorem C2Z {W:Int}{cs:List C2}{es:List E7}{n:Int}(hc:K2 W cs)(h0:0<=n)(hn:n<=W):Raw (n+1+es.length) (m5 V n.toNat es cs):=by
 obtain⟨h1,h2⟩:=A4p (n:=n.toNat) (p:=none) hc.asc (fun c hc'=>(hc.row c hc').1) (fun k hk=>by cases hk);have D3:∀k∈M7 n.toNat none cs,(k.length:Int)=n:=fun k hk=>by
  obtain⟨_,c,hcm,rfl⟩:=h2 k hk;have:=(hc.row c hcm).1;simp;omega
 refine⟨?_,fun c hm=>?_,fun c hm=>?_⟩
 ·unfold Asc m5;rw[List.pairwise_map];refine List.Pairwise.imp_of_mem (fun{a b} ha hb h=>?_) h1;show cR8 (tR8 V es a _) (tR8 V es b _)<0;unfold tR8;have:=D3 a ha;have:=D3 b hb;rw[A20 (by omega),if_neg (by omega)];exact h
 ·obtain⟨k,hk,rfl⟩:=List.mem_map.1 hm;refine⟨by have:=D3 k hk;simp[tR8];omega,fun v hv=>?_⟩;obtain⟨_,c,hcm,rfl⟩:=h2 k hk;unfold tR8 at hv;rcases List.mem_append.1 hv with hv|hv
  ·exact(hc.row c hcm).2 v (List.mem_of_mem_take hv)
  ·rcases List.mem_cons.1 hv with rfl|hv
   ·refine A3k (by simp[okB,A0J]) ?_;have hb:=A6q (cs:=E8 (c.r.take n.toNat) cs) fun x hx=>hc.all.2.2.2 x ((List.mem_filter.1 hx).1);have hl:(E8 (c.r.take n.toNat) cs).length<=cs.length:=List.length_filter_le _ _;have:=hc.all.2.2.1;unfold InN;omega
   ·obtain⟨e,_,rfl⟩:=List.mem_map.1 hv;exact C3p e _
 ·obtain⟨k,hk,rfl⟩:=List.mem_map.1 hm;exact⟨by show(0:Int)<1;omega,by show(1:Int)<=1000000000000000000;omega⟩
end
def A4h (e:E7):Prop:=e.wf/\wtE e<=1048576/\∃ (w:World) (d:Nat) (u:Value) (F:List Nat),C1 w d u e.ks F
theorem A4h.good {e:E7}{W:Int}(h:A4h e)(hb:bE8 e W=true):o3 e:=by
 unfold bE8 at hb;rw[Bool.and_eq_true]at hb;exact⟨h.1,hb.1,h.2.1,h.2.2⟩
def A0P:Nat->P12->Prop
 |0,_=>True
 |f+1,p=>A4h p.e/\(∀e∈p.es,A4h e)/\∀q∈p.ks,A0P f q
theorem A4l:∀ (f:Nat) (p:P12) (w:World) (D d:Nat) (ue us u:Value) (g:List Nat),p.wf->H3 w D (E2 w D d) p ue us u g->wtP p<=1048576->A0P f p
 |0,_,_,_,_,_,_,_,_,_,_,_=>trivial
 |f+1,p,w,D,d,ue,us,u,g,hw,⟨Fe,Fs,h,hg,ke,kes,kp⟩,hn=>by
  have hwt:=f9 p;refine⟨⟨hw.2.2.1,by omega,w,D,ue,Fe,ke⟩,fun e he=>?_,fun q hq=>?_⟩
  ·obtain⟨D',rfl⟩:=kes.succ;obtain⟨h1,u',F',hK⟩:=A4C kes he;have hm:wtE e<=H4 p.es:=A0a he;exact⟨h1,by omega,w,D',u',F',hK⟩
  ·cases d with
   |zero=>exact kp.elim
   |succ d=>
    obtain⟨a,c,G,_,_,_,hG,_,hh⟩:=kp;obtain⟨b,o,_,_,_,hL⟩:=hh (List.ne_nil_of_mem hq);obtain⟨i,hi,rfl⟩:=List.mem_iff_getElem.1 hq;have hi':i<G.length:=by omega
    obtain⟨hw',ue',us',u',_,hk⟩:=hL i p.ks[i] G[i] (by simp) (by simp);exact A4l f p.ks[i] w D d ue' us' u' G[i] hw' hk (by have:=A2X hq;omega)
theorem V7 {l:List P12}{q:P12}(h:l=[q]):l.getD 0 .nil=q:=by rw[h];rfl
theorem Y0 {l:List P12}{q r:P12}(h:l=[q,r]):l.getD 0 .nil=q/\l.getD 1 .nil=r:=by rw[h];exact⟨rfl,rfl⟩
section
variable {m:Int} {V:E7->List V3->V3} (hV:VOk m V) {rs:List R3} (hdb:G9 rs=true) (hrw:W7 rs)
include hV hdb hrw
theorem A4I:∀ (f:Nat) (p:P12),A0P f p->0<=wP8 rs f p->(∀q∈p.ks,(mP8 V rs (f -1) q).1=true)->Raw (wP8 rs f p) (mP8 V rs f p).2
 |0,p,_,hw,_=>absurd hw (by rw[wP8];omega)
 |f+1,p,hp,hw,hk=>by
  have mk:∀q∈p.ks,0<=wP8 rs f q->K2 (wP8 rs f q) (mP8 V rs f q).2:=fun q hq hwq=>by
   have hk':=hk q hq;rw[Nat.add_sub_cancel]at hk';cases f with
   |zero=>exact absurd hwq (by rw[wP8];omega)
   |succ f=>
    have h2:=hk';unfold mP8 at h2;simp only[Bool.and_eq_true,List.all_eq_true]at h2;refine⟨A4I (f+1) q (hp.2.2 q hq) hwq h2.1,?_⟩;unfold mP8;exact h2.2
  have hm:(mP8 V rs (f+1) p).2=if p.k=0 then A0t rs p.s else P6 V p (mP8 V rs f (p.ks.getD 0 .nil)).2 (mP8 V rs f (p.ks.getD 1 .nil)).2:=by rw[mP8]
  rw[hm];rcases B06 hw with h0|h0|h0|h0|h0|h0|h0
  ·obtain⟨_,x,hx,e⟩:=A9s hw h0;rw[if_pos h0,e];unfold A0t;rw[hx];have hxm:=A4m hx;have hpl:S5 x.W x.cs=true:=by
    simp only[G9,Bool.and_eq_true]at hdb;exact A3z hdb.2 x hxm
   exact(A5r hpl (hrw x hxm).2.2).toRaw
  all_goals rw[if_neg (by omega)]
  ·obtain⟨q,hq,hwq,hb,e⟩:=A5q hw h0;rw[e,V7 hq];unfold P6;rw[if_pos h0];exact B3H _ (mk q (by simp[hq]) hwq).toRaw
  ·obtain⟨q,hq,hwq,_,hb,e⟩:=A6p hw h0;rw[e,V7 hq];unfold P6;rw[if_neg (by omega),if_pos h0];exact B6k hV (mk q (by simp[hq]) hwq) fun x hx=>(hp.2.1 x hx).good (hb x hx)
  ·obtain⟨q,r,hq,hwq,hwr,hb,e⟩:=A50 hw h0;rw[e,(Y0 hq).1,(Y0 hq).2];unfold P6;rw[if_neg (by omega),if_neg (by omega),if_pos h0];exact B0U _ (mk q (by simp[hq]) hwq) (mk r (by simp[hq]) hwr)
  ·obtain⟨q,r,hq,hwq,hwr,e⟩:=A6c hw h0;rw[e,(Y0 hq).1,(Y0 hq).2];unfold P6;rw[if_neg (by omega),if_neg (by omega),if_neg (by omega),if_pos h0];exact C30 (mk q (by simp[hq]) hwq) (by rw[hwr];exact mk r (by simp[hq]) (by omega))
  ·obtain⟨q,hq,hwq,e⟩:=A6X hw h0;rw[e,V7 hq];unfold P6;rw[if_neg (by omega),if_neg (by omega),if_neg (by omega),if_neg (by omega),if_pos h0];exact B8T (mk q (by simp[hq]) hwq).toRaw
  ·obtain⟨q,hq,hwq,hn0,hn1,hl,hb,e⟩:=A5c hw h0;rw[e,V7 hq];unfold P6;rw[if_neg (by omega),if_neg (by omega),if_neg (by omega),if_neg (by omega),if_neg (by omega)];exact C2Z (mk q (by simp[hq]) hwq) hn0 hn1
theorem A6M {f:Nat}{p:P12}(hp:A0P f p)(hw:0<=wP8 rs f p)(h:(mP8 V rs f p).1=true):K2 (wP8 rs f p) (mP8 V rs f p).2:=by
 cases f with
 |zero=>exact absurd hw (by rw[wP8];omega)
 |succ f=>
  have h2:=h;unfold mP8 at h2;simp only[Bool.and_eq_true,List.all_eq_true]at h2;refine⟨A4I hV hdb hrw (f+1) p hp hw h2.1,?_⟩;unfold mP8;exact h2.2
end
end
section
open Go.RowKit
attribute [local go_sem] A1s A1B A17 A1C A1m A1x A18 A1Q A2T A1K A2S A1W A12 A1e A1y A2V A1i A1Y A1z A1M
theorem A85 {b b':Bool}(h:b=b'):Ending.returned (.bool b)=.returned (.bool b'):=by rw[h]
theorem A8Z (x:V3)(w:World):Calls Tryz.prog 135 #[(.agg #[.int .i64 x.k,.int .i64 x.n,.string x.s])] w fun e w'=>e=.returned (.bool (Y5 x))/\Below w.heap.size w w':=by
 unfold Y5;generalize x.k=k;generalize x.n=n;generalize x.s=s;go_enter Tryz.func135,Tryz.ntmps135;go_wp2;all_goals(go_returns;refine⟨A85 ?_,by go_grown⟩)
 all_goals first|(simp_all;done)|(simp_all;omega)
theorem B1k (x:V3)(w:World):Calls Tryz.prog 75 #[(.agg #[.int .i64 x.k,.int .i64 x.n,.string x.s])] w fun e w'=>e=.returned (.bool (Y5 x))/\Below w.heap.size w w':=by
 unfold Y5;generalize x.k=k;generalize x.n=n;generalize x.s=s;go_enter Tryz.func75,Tryz.ntmps75;go_wp2;all_goals(go_returns;refine⟨A85 ?_,by go_grown⟩)
 all_goals first|(simp_all;done)|(simp_all;omega)
end
section
open Go.RowKit Go.Deep Go.ChangeShapes Go.WideShapes
theorem B82 (W:Int)(v:Value)(cs:List C2)(F:List Nat)(w:World)(hr:C6 w v cs F)(hn:wtb cs<=1048576)(P3:∀c∈cs,0<c.n):Calls Tryz.prog 55 #[.agg #[.int .i64 W,v]] w fun e w'=>(∃u us G,e=.returned (.agg #[.int .i64 W,u])/\C4 w' w.heap.size u (R8 cs) us G)/\Below w.heap.size w w':=by
 obtain⟨i0,hi,hz0,hz1,hz2⟩:=info_parts Tryz.infoCnt;obtain⟨a,c,b,o,G0,rfl,hl,hc,_,hG0,_,hC,ha⟩:=hr.pick;unfold maxLen at hc;clear hr;have hn1:cs.length<=1048576:=by unfold wtb at hn;omega
 go_enter Tryz.func55,Tryz.ntmps55;go_wp2;go_loopw [4] (fun i wr=> ∃ (k:Nat) (y:Value) (us:List Value) (G:List (List Nat)),k<=cs.length/\i=.int .i64 k/\wr.cell? ⟨w.heap.size,0,none⟩=some (.int .i64 W)/\wr.cell? ⟨w.heap.size,1,none⟩=some (.slice a cs.length c)/\wr.cell? ⟨w.heap.size+1+1,0,none⟩=some (.int .i64 W)/\wr.cell? ⟨w.heap.size+1+1,1,none⟩=some y/\(∀q,wr.frozen? ⟨w.heap.size+1+1,q,none⟩=false)/\wr.cell? ⟨w.heap.size+1,0,none⟩=some (.int .i64 0)/\wr.cell? ⟨w.heap.size+1,1,none⟩=some (.slice none 0 0)/\(∀q,wr.frozen? ⟨w.heap.size+1,q,none⟩=false)/\C4 wr (w.heap.size+1+1+1) y (R8 (cs.take k)) us G/\Below w.heap.size w wr/\w.heap.size+1+1+1<=wr.heap.size) (fun i _=>cs.length - (intOf i).toNat)
 case atStart=>
  refine⟨0,.slice none 0 0,[],[],Nat.zero_le _,rfl,by go_simp,by go_simp,by go_simp,by go_simp,fun q=>by go_simp,by go_simp,by go_simp,fun q=>by go_simp,C4.nil _ _,bex,by simp⟩
 case round=>
  obtain⟨k,y,us,G,hk,rfl,b0,b1,p0,p1,pf,r0,r1,rf,hB,hb,hzb⟩:=hrel;by_cases hlt:k<cs.length
  ·obtain⟨rfl,hblt,_⟩:=ha k hlt;obtain⟨x,u0,g0,hx,_,c0,hR,c1,hbr⟩:=hC.at hG0 hblt hb hlt;obtain⟨a0,n0,rfl⟩:=hR.shape;have HX:Hid (cs[k]?=some x):=hx;have hxn:x.r.length<=1048576:=by have:=A0R (mg8 hx);unfold wt at this;unfold wtb at hn;omega
   have htk:(R8 (cs.take k)).length=k:=by unfold R8;rw[List.length_map];simp;omega
   have hxp:0<x.n:=P3 x (mg8 hx);have hvl:=oL8 hB.own;have hv2:y.ownBlock≠some (w.heap.size+1+1):=fun e=>by have:=(hvl _ e).1;omega
   have hvr:y.ownBlock≠some (w.heap.size+1):=fun e=>by have:=(hvl _ e).1;omega
   have hvT:∀b,b<=w.heap.size->y.ownBlock≠some b:=fun b hb e=>by have:=(hvl _ e).1;omega
   have hkI:(k:Int)<cs.length:=by omega
   have hGl:=hB.lt;have HT:Hid (R8 (cs.take (k+1))=R8 (cs.take k)++ [⟨x.r,1⟩]):=by show _=_;rw[V9 hx];unfold R8;rw[List.map_append];rfl
   generalize R8 (cs.take k)=ct at*;have hml:ct.length+1<=maxLen:=by unfold maxLen;omega
   have hby:(ct.length+1)*32<=140737488355328:=by omega
   clear ha hC hx htk hvl;go_wp2_with fail;refine Z4 13 (fun w'=>w'.cell? ⟨w.heap.size+1+1,1,none⟩=some y/\w'.cell? ⟨w.heap.size,1,none⟩=some (.slice (some ⟨b,o,none⟩) cs.length c)/\w'.cell? ⟨b,o+k*2,none⟩=some (.slice a0 x.r.length n0)) (by kernel_rfl) ?_ (fun hHeld=>?_)
   ·exact⟨p1,b1,c0⟩
   refine tkE 0 22 rfl rfl ?_;refine tkE 1 23 rfl rfl ?_;refine tkE 2 24 rfl rfl ?_;refine tkE 3 25 rfl rfl ?_;refine tkE 4 26 rfl rfl ?_;refine tkE 5 27 rfl rfl ?_;refine tkE 6 28 rfl rfl ?_;refine tkE 7 29 rfl rfl ?_;refine onE 8 rfl fun K hK=>?_;go_simp;go_at_call 74;refine cM8 (A3m (.slice a0 x.r.length n0) x.r g0 _ (hR.below ?hbb) hxn) ?_
   case hbb=>exact bex
   rintro e w2 ⟨⟨u2,g2,rfl,hR2,hO2⟩,hb2⟩;obtain⟨a2,n2,rfl⟩:=hR2.shape;have Y9:=hb2.size;rw[show wr.drew.heap.size=wr.heap.size from rfl]at Y9;have C0:Below wr.heap.size wr w2:=bex;have hB2:=hB.below C0;have pf2:∀q,w2.frozen? ⟨w.heap.size+1+1,q,none⟩=false:=fun q=>((bc8 C0).2 _ q (by omega)).trans (pf q);have rf2:∀q,w2.frozen? ⟨w.heap.size+1,q,none⟩=false:=fun q=>((bc8 C0).2 _ q (by omega)).trans (rf q);have p02:=bt8 C0 p0;have p12:=bt8 C0 p1;have r02:=bt8 C0 r0;have r12:=bt8 C0 r1;have b02:=bt8 C0 b0;have b12:=bt8 C0 b1;have c02:=((bc8 C0).1 b (o+k*2) (by omega)).trans c0;try go_wp2_with fail
   refine hK.out _ _ ?_ (fun U7=>?_)
   ·intro _;exact⟨p12,b12,c02⟩
   clear hK;replace U7:=U7 (by decide);refine tkE 9 31 rfl rfl ?_;refine onE 10 rfl fun K hK=>?_;go_simp;refine hK.out _ _ ?_ (fun W9=>?_)
   ·intro _;exact⟨(cb8 ba8).trans p12,(cb8 ba8).trans b12,(cb8 ba8).trans c02⟩
   clear hK;replace W9:=W9 (by decide);refine onE 11 rfl fun K hK=>?_;refine step_append_lies _ (by rfl) _ _ _ (by rfl) (w.heap.size+1+1+1) 116 i0 _ 2 32 Tryz.underlying33 hi hz0 hz1 hz2 rfl (by omega) y ct.length (cc us ct) (by rfl) (hB2.own.alloc _) ⟨w2.heap.size,0,none⟩ 1 1 [.slice a2 x.r.length n2,.int .i64 1] (by rfl) (by rfl) (World.news_of_block (cs:=#[.slice a2 x.r.length n2,.int .i64 1]) (t:=116) (fr:=(0,0)) (heap_alloc_new w2 _)) (by simp[Value.oneCell']) (by omega) hml hby (by simp;omega) (w2.heap.size+1) (by simp) ?_;intro gg cap w3 H5 hgrow hat j5;have hz3:=hgrow.size;simp at hz3;have far:∀b q,b<w2.heap.size->y.ownBlock≠some b->w3.cell? ⟨b,q,none⟩=w2.cell? ⟨b,q,none⟩:=fun b q hb hne=>(hgrow.cell_far _ (by simp;omega) (Ne.symm hne)).trans (cb8 (bA8 _ _ _ hb));have X0:∀b q,b<w2.heap.size->y.ownBlock≠some b->w3.frozen? ⟨b,q,none⟩=w2.frozen? ⟨b,q,none⟩:=fun b q hb hne=>(hgrow.frozen_far _ (by simp;omega) (Ne.symm hne)).trans (fb8 (bA8 _ _ _ hb));have pf3:∀q,w3.frozen? ⟨w.heap.size+1+1,q,none⟩=false:=fun q=>(X0 _ q (by omega) hv2).trans (pf2 q);have rf3:∀q,w3.frozen? ⟨w.heap.size+1,q,none⟩=false:=fun q=>(X0 _ q (by omega) hvr).trans (rf2 q);have p03:=(far (w.heap.size+1+1) 0 (by omega) hv2).trans p02;have p13:=(far (w.heap.size+1+1) 1 (by omega) hv2).trans p12;have r03:=(far (w.heap.size+1) 0 (by omega) hvr).trans r02;have r13:=(far (w.heap.size+1) 1 (by omega) hvr).trans r12;have hBp:=C4.push (x:=⟨x.r,1⟩) (hB2.below ((Below.refl _ _).alloc lr8 (.cells #[.slice a2 x.r.length n2,.int .i64 1] 116))) (hR2.below ((Below.refl _ _).alloc lr8 _)) ⟨hO2.1,fun b hb=>by have:=hO2.2.1 b hb;have:wr.drew.heap.size=wr.heap.size:=rfl;omega,fun b hb q=>(fb8 (bA8 _ _ _ (hR2.lt b hb))).trans (hO2.2.2 b hb q)⟩ (fun b hb hb'=>by have:=hO2.2.1 b hb';have:=hGl b hb;simp at*;omega) (fun b hb hb'=>by have:=hO2.2.1 b hb';have:=(oL8 hB.own b hb).2;simp at*;omega) H5 hgrow (fun b hb=>by simp[Value.ownBlock]at hb;subst hb;rcases hat with h|h;exact .inl h;exact .inr (by simp;omega))
   have D6:Below w.heap.size w w3:=Below.grown bex hgrow (by simp;omega) (fun b hb=>by have:=(oL8 hB.own b hb).1;omega);have b03:=(far w.heap.size 0 (by omega) (hvT _ lr8)).trans b02;have b13:=(far w.heap.size 1 (by omega) (hvT _ lr8)).trans b12;have c03:=(far b (o+k*2) (by omega) (hvT _ (by omega))).trans c02;refine hK.out _ _ ?_ (fun J3=>?_)
   ·intro _;exact⟨p13,b13,c03⟩
   clear hK;replace J3:=J3 (by decide);refine tkE 12 34 rfl rfl ?_;refine onE 13 rfl fun K hK=>?_;go_simp;refine hK.out _ _ ?_ (fun Y2=>?_)
   ·exact fun h=>absurd rfl h
   clear hK Y2;refine V6 (by kernel_rfl) ?_ _;have Q0:(w3.setCell ⟨w.heap.size+1+1,1,none⟩ (.slice (some ⟨gg,0,none⟩) (ct.length+1) cap)).cell? ⟨w.heap.size,0,none⟩=some (.int .i64 W):=(cO8 _ _ _ _ (by simp;try omega)).trans b03;have Q1:(w3.setCell ⟨w.heap.size+1+1,1,none⟩ (.slice (some ⟨gg,0,none⟩) (ct.length+1) cap)).cell? ⟨w.heap.size,1,none⟩=some (.slice (some ⟨b,o,none⟩) cs.length c):=(cO8 _ _ _ _ (by simp;try omega)).trans b13;have P0:(w3.setCell ⟨w.heap.size+1+1,1,none⟩ (.slice (some ⟨gg,0,none⟩) (ct.length+1) cap)).cell? ⟨w.heap.size+1+1,0,none⟩=some (.int .i64 W):=(cO8 _ _ _ _ (by simp)).trans p03;have P1:(w3.setCell ⟨w.heap.size+1+1,1,none⟩ (.slice (some ⟨gg,0,none⟩) (ct.length+1) cap)).cell? ⟨w.heap.size+1+1,1,none⟩=some (.slice (some ⟨gg,0,none⟩) (ct.length+1) cap):=cS8 _ _ _ p13;have PF:∀q,(w3.setCell ⟨w.heap.size+1+1,1,none⟩ (.slice (some ⟨gg,0,none⟩) (ct.length+1) cap)).frozen? ⟨w.heap.size+1+1,q,none⟩=false:=fun q=>by simpa using pf3 q
   have R0:(w3.setCell ⟨w.heap.size+1+1,1,none⟩ (.slice (some ⟨gg,0,none⟩) (ct.length+1) cap)).cell? ⟨w.heap.size+1,0,none⟩=some (.int .i64 0):=(cO8 _ _ _ _ (by simp)).trans r03;have R1:(w3.setCell ⟨w.heap.size+1+1,1,none⟩ (.slice (some ⟨gg,0,none⟩) (ct.length+1) cap)).cell? ⟨w.heap.size+1,1,none⟩=some (.slice none 0 0):=(cO8 _ _ _ _ (by simp)).trans r13;have RF:∀q,(w3.setCell ⟨w.heap.size+1+1,1,none⟩ (.slice (some ⟨gg,0,none⟩) (ct.length+1) cap)).frozen? ⟨w.heap.size+1,q,none⟩=false:=fun q=>by simpa using rf3 q
   have hBs:=hBp.keep (w':=w3.setCell ⟨w.heap.size+1+1,1,none⟩ (.slice (some ⟨gg,0,none⟩) (ct.length+1) cap)) (by simp) (fun b hb _=>bS8 _ _ _ _ (by simp;omega));rw[<-HT.out]at hBs;have l7:Below w.heap.size w (w3.setCell ⟨w.heap.size+1+1,1,none⟩ (.slice (some ⟨gg,0,none⟩) (ct.length+1) cap)):=D6.setCell (by simp;omega) _;have hzS:w.heap.size+1+1+1<=(w3.setCell ⟨w.heap.size+1+1,1,none⟩ (.slice (some ⟨gg,0,none⟩) (ct.length+1) cap)).heap.size:=by simp;omega
   clear H5 hgrow hat far X0 hBp hB2 hR2 hO2 hb2 hB p03 p13 pf3 r03 r13 rf3;go_wp2;exact⟨⟨k+1,_,_,_,hlt,by simp,Q0,Q1,P0,P1,PF,R0,R1,RF,hBs,l7,hzS⟩,by simp[intOf];omega⟩
  ·obtain rfl:k=cs.length:=by omega
   rw[List.take_length]at hB;obtain⟨ay,cy,rfl⟩:=hB.shape;clear ha hC;go_wp2;refine bodyPost_ret (v:=.agg #[.int .i64 W,.slice ay (R8 cs).length cy]) (by simp[results,Tryz.results55,go_sem, *]) rfl ⟨⟨_,us,G,rfl,(hB.keep (by simp) fun b hb _=>?_).weak (by omega)⟩,?_⟩
   ·repeat rw[bS8 _ _ _ _ (by simp;omega)]
   ·exact bs8
end
section
open Go.RowKit
theorem A8O {e:E7}{W:Int}(h:okE 13 e=false):bE8 e W=false:=by rw[bE8,h,Bool.false_and]
theorem B5m {e:E7}{W:Int}{w:World}{D:Nat}{u:Value}{F:List Nat}(hk:C1 w D u e.ks F)(h:okE 13 e=true)(hc:H0 D e=[]):bE8 e W=true:=by
 rw[bE8,h,Bool.true_and];exact(A4Y W 13 e w D u F hk h).2 fun x hx=>by rw[hc]at hx;cases hx
theorem C3o {e:E7}{W x:Int}{w:World}{D:Nat}{u:Value}{F:List Nat}(hk:C1 w D u e.ks F)(h:okE 13 e=true)(hx:(H0 D e)[(H0 D e).length -1]?=some x):bE8 e W=decide (x<W):=by
 rw[bE8,h,Bool.true_and];have hne:H0 D e≠ []:=by intro h0;rw[h0]at hx;simp at hx
 have hl:(H0 D e).getLast hne=x:=by
  rw[List.getLast_eq_getElem];obtain⟨h1,h2⟩:=gE1 hx;exact h2
 rw[Bool.eq_iff_iff,A4Y W 13 e w D u F hk h,C2X (A8P D e) hne,hl,decide_eq_true_eq]
theorem A8K (e:E7)(u:Value)(F:List Nat)(D:Nat)(W:Int)(w:World)(he:e.wf)(hk:C1 w D u e.ks F)(hn:wtE e<=1048576):Calls Tryz.prog 69 #[(.agg #[.int .i64 e.k,.int .i64 e.n,.int .i64 e.v.k,.int .i64 e.v.n,.string e.v.s,.string e.p,u]),.int .i64 W] w fun x w'=>x=.returned (.bool (bE8 e W))/\Below w.heap.size w w':=by
 obtain⟨a,c,rfl,hl,hc⟩:=hk.shape;have hC:=fun w2 (hb:Below w.heap.size w w2)=>A82 D e _ F w2 (hk.below hb) hn;have hX:=fun w2 (hb:Below w.heap.size w w2)=>B17 e _ F D w2 he (hk.below hb);have hB:=A7O w e (.slice a e.ks.length c) 42;have D3:(H0 D e).length<=1+wtE e:=A22 D e;obtain⟨bo,HO⟩:∃b,Hid (okE 13 e=b):=⟨_,rfl⟩;rw[HO.out]at hX;go_enter Tryz.func69,Tryz.ntmps69;go_wp2_with fail;refine cM8 (hC _ bex) ?_;rintro x w1 ⟨⟨v,rfl,hI⟩,hb1⟩;obtain⟨yb,yo,yc,rfl,hyl,hyc,A5i,C5⟩:=hI;have hB1:=hB.below hb1;have F8:Below w.heap.size w w1:=bex;obtain⟨_,b0,b1,b2,b3,b4,b5,b6⟩:=hB1;clear hB hb1 hC;go_wp2_with fail;refine cM8 (hX _ F8) ?_;rintro x w2 ⟨rfl,hb2⟩;have C0:Below w.heap.size w w2:=F8.trans (hb2.mono F8.size);clear hX b0 b1 b2 b3 b4 b5 b6;cases bo with
 |false=>
  have HF:Hid (bE8 e W=false):=A8O HO.out;clear C5 hk;go_wp2;go_returns;exact⟨by rw[HF.out];rfl,bex⟩
 |true=>
  by_cases h0:(H0 D e).length=0
  ·have HF:Hid (bE8 e W=true):=B5m hk HO.out (List.eq_nil_of_length_eq_zero h0);rw[h0];clear C5 hk hyl D3;clear h0;go_wp2;go_returns;exact⟨by rw[HF.out];rfl,bex⟩
  ·obtain⟨z,hz⟩:∃z,(H0 D e)[(H0 D e).length -1]?=some z:=⟨(H0 D e)[(H0 D e).length -1]'(by omega),by simp⟩;have HF:Hid (bE8 e W=decide (z<W)):=C3o hk HO.out hz;have hcz:=((bc8 hb2).1 _ _ A5i).trans (C5 _ z hz);clear C5 hk hz;generalize hm:(H0 D e).length=m at*;obtain⟨m,rfl⟩:∃j,m=j+1:=⟨m -1,by omega⟩;rw[Nat.add_sub_cancel]at hcz;unfold maxLen at hyc;have hm2:m<=1048576:=by omega
   clear hm h0 D3;go_wp2;go_returns;exact⟨by rw[HF.out];rfl,bex⟩
theorem B0f {es:List E7}{k:Nat}{x:E7}{q:E7->Bool}(h:es[k]?=some x):(es.drop k).all q=(q x && (es.drop (k+1)).all q):=by
 obtain⟨hk,rfl⟩:=gE1 h;rw[List.drop_eq_getElem_cons hk,List.all_cons]
theorem C1Q (v:Value)(es:List E7)(F:List Nat)(D:Nat)(W:Int)(w:World)(hk:C1 w D v es F)(hn:H4 es<=1048576):Calls Tryz.prog 70 #[v,.int .i64 W] w fun x w'=>x=.returned (.bool (es.all (bE8 · W)))/\Below w.heap.size w w':=by
 obtain⟨D,rfl⟩:=hk.succ;obtain⟨a,c,b,o,G,rfl,hl,hc,hG,_,ha⟩:=hk.pick;unfold maxLen at hc;clear hk;go_enter Tryz.func70,Tryz.ntmps70;go_wp2_with fail;go_loopw [5] (fun i wr=> ∃k:Nat,k<=es.length/\i=.int .i64 k/\es.all (bE8 · W)=(es.drop k).all (bE8 · W)/\Below w.heap.size w wr) (fun i _=>es.length - (intOf i).toNat)
 case atStart=>exact⟨0,Nat.zero_le _,rfl,by simp,bex⟩
 case round=>
  obtain⟨k,hk,rfl,heq,hb⟩:=hrel;have HE:Hid (es.all (bE8 · W)=(es.drop k).all (bE8 · W)):=heq;have hzb:=hb.size;clear heq;by_cases hlt:k<es.length
  ·obtain⟨rfl,hblt,_,hL⟩:=ha k hlt;obtain⟨x,g,u,hx,hg,hxw,⟨c0,c1,c2,c3,c4,c5⟩,c6,hK,hbr⟩:=hL.at hG hblt hb hlt;obtain⟨ax,cx,rfl,_,_⟩:=hK.shape;have HS:Hid ((es.drop k).all (bE8 · W)=(bE8 x W && (es.drop (k+1)).all (bE8 · W))):=B0f hx;have hxn:wtE x<=1048576:=by have:=A0a (mg8 hx);omega
   have hV:=A8K x _ g D W wr hxw hK hxn;obtain⟨bo,HO⟩:∃b,Hid (bE8 x W=b):=⟨_,rfl⟩;rw[HO.out]at hV;clear ha hL hx hg hK hxw hxn;go_wp2_with fail;refine cM8 hV ?_;rintro y w1 ⟨rfl,hb1⟩;have F8:Below w.heap.size w w1:=hb.trans (hb1.mono hzb);clear hV hb1 c0 c1 c2 c3 c4 c5 c6;cases bo with
   |false=>
    have HF:Hid (es.all (bE8 · W)=false):=by show _=_;rw[HE.out,HS.out,HO.out,Bool.false_and]
    go_wp2;go_returns;exact⟨by rw[HF.out];rfl,F8⟩
   |true=>
    have HF:Hid (es.all (bE8 · W)=(es.drop (k+1)).all (bE8 · W)):=by show _=_;rw[HE.out,HS.out,HO.out,Bool.true_and]
    go_wp2_with fail;exact⟨⟨k+1,hlt,by simp,HF.out,F8⟩,by simp[intOf];omega⟩
  ·obtain rfl:k=es.length:=by omega
   have HF:Hid (es.all (bE8 · W)=true):=by show _=_;rw[HE.out,List.drop_length];rfl
   clear ha;go_wp2;go_returns;exact⟨by rw[HF.out];rfl,hb⟩
theorem C2T (e:E7)(a:Option Addr)(c:Nat)(w:World)(hs:e.v.s.size<=maxLen)(hc:e.ks.length<=maxLen):Calls Tryz.prog 92 #[(.agg #[.int .i64 e.k,.int .i64 e.n,.int .i64 e.v.k,.int .i64 e.v.n,.string e.v.s,.string e.p,(.slice a e.ks.length c)])] w fun x w'=>x=.returned (.bool (S8 e))/\Below w.heap.size w w':=by
 have hq:=eqV;unfold S8;unfold maxLen at hc;generalize e.ks.length=m at*;generalize e.k=k at*;generalize e.n=n at*;generalize e.v=v at*;generalize e.p=p at*;obtain⟨vk,vn,vs⟩:=v;dsimp only at*;go_enter Tryz.func92,Tryz.ntmps92;go_wp2;all_goals(go_returns;exact⟨rB8 (by clear hq;simp_all [Q8,mb0]),bex⟩)
theorem B8g (k:Int)(w:World):Calls Tryz.prog 93 #[.int .i64 k] w fun e w'=>e=.returned (.int .i64 (O7 k))/\Below w.heap.size w w':=by
 by_cases h:0<=k/\k<=6
 ·have h:k=0\/k=1\/k=2\/k=3\/k=4\/k=5\/k=6:=by omega
  rcases h with rfl|rfl|rfl|rfl|rfl|rfl|rfl<;>(
   go_enter Tryz.func93,Tryz.ntmps93;go_wp2;go_returns;exact⟨rfl,bex⟩)
 ·have hI:=fun w2=>A7M k 0 6 w2;have e:(decide (0<=k) &&decide (k<=6))=false:=by
   rw[Bool.and_eq_false_iff];by_cases h:0<=k
   ·exact .inr (by rw[decide_eq_false_iff_not];omega)
   ·exact .inl (by rw[decide_eq_false_iff_not];exact h)
  rw[e]at hI;have HF:Hid (O7 k= -1):=by
   show _=_;unfold O7;rw[if_neg (by omega),if_neg (by omega),if_neg (by omega),if_neg (by omega),if_neg (by omega),if_neg (by omega),if_neg (by omega)]
  clear h e;go_enter Tryz.func93,Tryz.ntmps93;go_wp2_with fail;refine cM8 (hI _) ?_;rintro x w1 ⟨rfl,hb1⟩;go_wp2_with fail;go_returns;exact⟨by rw[HF.out];rfl,hb1⟩
def I8 (p:P12):Bool:=X1 p && ((p.k !=2||(decide (1<=p.es.length) &&decide (p.es.length<=12))) && (p.k !=6||decide (p.es.length<=1)))
theorem B30 {rs:List R3}{f:Nat}{p:P12}(h:I8 p=false):wP8 rs (f+1) p= -1:=by
 rw[wP8,if_neg];intro hc;simp only[Bool.and_eq_true,decide_eq_true_eq,List.all_eq_true]at hc;obtain⟨⟨h1,_⟩,h3,h4⟩:=hc;have:I8 p=true:=by
  unfold I8;rw[h1,Bool.true_and];simp only[Bool.and_eq_true,Bool.or_eq_true,bne_iff_ne,decide_eq_true_eq];constructor
  ·by_cases hk:p.k=2
   ·right;simp[I2,G8,hk]at h3 h4;exact⟨h3.1,by omega⟩
   ·exact .inl hk
  ·by_cases hk:p.k=6
   ·right;simp[I2,hk]at h3;exact h3.1.2
   ·exact .inl hk
 rw[h]at this;cases this
theorem B3O {rs:List R3}{f:Nat}{p q:P12}(hq:q∈p.ks)(h:wP8 rs f q<0):wP8 rs (f+1) p= -1:=by
 rw[wP8,if_neg];intro hc;simp only[Bool.and_eq_true,decide_eq_true_eq,List.all_eq_true]at hc;have:=hc.1.2 q hq;omega
theorem C2p {rs:List R3}{f:Nat}{p:P12}(h:I2 rs p (wP8 rs f (p.ks.getD 0 .nil)) (wP8 rs f (p.ks.getD 1 .nil))=false):wP8 rs (f+1) p= -1:=by
 rw[wP8,if_neg];intro hc;simp only[Bool.and_eq_true,decide_eq_true_eq,List.all_eq_true]at hc;rw[h]at hc;cases hc.2.1
theorem C0j {rs:List R3}{f:Nat}{p:P12}(h:12<G8 rs p (wP8 rs f (p.ks.getD 0 .nil)) (wP8 rs f (p.ks.getD 1 .nil))):wP8 rs (f+1) p= -1:=by
 rw[wP8,if_neg];intro hc;simp only[Bool.and_eq_true,decide_eq_true_eq,List.all_eq_true]at hc;have:=hc.2.2;omega
theorem B4y {rs:List R3}{f:Nat}{p:P12}(h1:I8 p=true)(h2:∀q∈p.ks,0<=wP8 rs f q)(h3:I2 rs p (wP8 rs f (p.ks.getD 0 .nil)) (wP8 rs f (p.ks.getD 1 .nil))=true)(h4:G8 rs p (wP8 rs f (p.ks.getD 0 .nil)) (wP8 rs f (p.ks.getD 1 .nil))<=12):wP8 rs (f+1) p=G8 rs p (wP8 rs f (p.ks.getD 0 .nil)) (wP8 rs f (p.ks.getD 1 .nil)):=by
 rw[wP8,if_pos];simp only[I8,Bool.and_eq_true]at h1;simp only[Bool.and_eq_true,decide_eq_true_eq,List.all_eq_true];exact⟨⟨h1.1,h2⟩,h3,h4⟩
theorem A86 {rs:List R3}(hdb:G9 rs=true){s:ByteArray}{x:R3}(h:I9 rs s=some x):0<=x.W:=by
 have:=B7d hdb (A4m h);simp only[J2,Bool.and_eq_true,decide_eq_true_eq]at this;exact this.1.1.1
theorem A60 {p:P12}(h:I8 p=true):(p.ks.length:Int)=O7 p.k:=by
 simp only[I8,Bool.and_eq_true]at h;exact p7 h.1
theorem A7P {p:P12}(h:I8 p=true):p.k=0\/p.k=1\/p.k=2\/p.k=3\/p.k=4\/p.k=5\/p.k=6:=by
 have:=A60 h;exact A7Q (by omega)
def A2d (w:World)(rs:List R3)(p:P12)(W:Int)(us v:Value):Prop:=
 (p.k=0/\us=.slice none 0 0/\∃x u,I9 rs p.s=some x/\x.W=W/\(∃F,C6 w u x.cs F)/\v=.iface 178 (.agg #[.int .i64 0,.int .i64 W,us,.string p.s,.int .i64 W,u]))\/
 (p.k=1/\∃ue F D,C1 w D ue p.e.ks F/\v=.iface 168 (.agg #[.int .i64 1,.int .i64 W,us,.int .i64 p.e.k,.int .i64 p.e.n,.int .i64 p.e.v.k,.int .i64 p.e.v.n,.string p.e.v.s,.string p.e.p,ue]))\/
 (p.k=2/\∃ue F D,C1 w D ue p.es F/\v=.iface 170 (.agg #[.int .i64 2,.int .i64 W,us,ue]))\/
 (p.k=3/\∃ue F D,C1 w D ue p.e.ks F/\v=.iface 171 (.agg #[.int .i64 3,.int .i64 W,us,.int .i64 p.e.k,.int .i64 p.e.n,.int .i64 p.e.v.k,.int .i64 p.e.v.n,.string p.e.v.s,.string p.e.p,ue]))\/
 (p.k=4/\v=.iface 173 (.agg #[.int .i64 4,.int .i64 W,us]))\/
 (p.k=5/\v=.iface 174 (.agg #[.int .i64 5,.int .i64 W,us]))\/
 (p.k=6/\∃ue F D,C1 w D ue p.es F/\v=.iface 176 (.agg #[.int .i64 6,.int .i64 W,us,.int .i64 p.n,ue]))
def A3F (D:Nat->Prop)(w:World)(us:Value)(vals:List Value):Prop:=∃a c,us=.slice a vals.length c/\c<=maxLen/\(0<vals.length->∃g,a=some ⟨g,0,none⟩/\D g/\∀k x,vals[k]?=some x->w.cell? ⟨g,k,none⟩=some x)
theorem A3F.keep {D D':Nat->Prop}{w w':World}{us:Value}{vals:List Value}(h:A3F D w us vals)(hD:∀b,D b->D' b)(hw:∀b,D b->w'.heap[b]?=w.heap[b]?):A3F D' w' us vals:=by
 obtain⟨a,c,rfl,hc,h⟩:=h;refine⟨a,c,rfl,hc,fun h0=>?_⟩;obtain⟨g,rfl,hg,hx⟩:=h h0;exact⟨g,rfl,hD g hg,fun k x hk=>(cb8 (hw g hg)).trans (hx k x hk)⟩
def i6 (W0:World)(rs:List R3):Nat->(Nat->Prop)->World->Value->P12->Prop
 |0,_,_,_,_=>False
 |f+1,D,w,v,p=> ∃ (us:Value) (vals:List Value),A2d W0 rs p (wP8 rs (f+1) p) us v/\A3F D w us vals/\vals.length=p.ks.length/\∀ (k:Nat) (q:P12) (x:Value),p.ks[k]?=some q->vals[k]?=some x->i6 W0 rs f D w x q
theorem i6.keep {W0:World}{rs:List R3}{D D':Nat->Prop}{w w':World}(hD:∀b,D b->D' b)(hw:∀b,D b->w'.heap[b]?=w.heap[b]?):∀ {f:Nat} {v:Value} {p:P12},i6 W0 rs f D w v p->i6 W0 rs f D' w' v p
 |0,_,_,h=>h.elim
 |f+1,v,p,⟨us,vals,h1,h2,h3,h4⟩=>⟨us,vals,h1,h2.keep hD hw,h3,fun k q x hq hx=>i6.keep hD hw (h4 k q x hq hx)⟩
end
section
open Go.RowKit Go.Deep Go.ChangeShapes Go.WideShapes
structure GdW (M:World)(H B:Nat)(W:Int)(acc:List C2)(y:Value)(us:List Value)(G:List (List Nat))(wr:World):Prop where
 r0:wr.cell? ⟨H,0,none⟩=some (.int .i64 0)
 r1:wr.cell? ⟨H,1,none⟩=some (.slice none 0 0)
 rf:∀q,wr.frozen? ⟨H,q,none⟩=false
 p0:wr.cell? ⟨H+1,0,none⟩=some (.int .i64 W)
 p1:wr.cell? ⟨H+1,1,none⟩=some y
 pf:∀q,wr.frozen? ⟨H+1,q,none⟩=false
 own:C4 wr B y acc us G
 bel:Below H M wr
 mid:∀b,H+1<b->b<B->wr.heap[b]?=M.heap[b]?
 hB:H+1+1<=B
 big:B<=wr.heap.size
theorem GdW.below {M wr w':World}{H B:Nat}{W:Int}{acc:List C2}{y:Value}{us:List Value}{G:List (List Nat)}(h:GdW M H B W acc y us G wr)(hb:Below wr.heap.size wr w'):GdW M H B W acc y us G w':=by
 have hz:=h.big;have hz1:=h.hB;have hs:=hb.size;exact⟨bt8 hb h.r0,bt8 hb h.r1,fun q=>((bc8 hb).2 _ q (by omega)).trans (h.rf q),bt8 hb h.p0,bt8 hb h.p1,fun q=>((bc8 hb).2 _ q (by omega)).trans (h.pf q),h.own.below hb,h.bel.trans (hb.mono (by omega)),fun b h1 h2=>(hb.block b (by omega)).trans (h.mid b h1 h2),h.hB,by omega⟩
theorem GdW.push {M wr w3 w5:World}{H B:Nat}{W:Int}{acc:List C2}{y v5 u:Value}{us:List Value}{G:List (List Nat)}{x:C2}{g:List Nat}{ob:Obj}(h:GdW M H B W acc y us G wr)(hb:Below wr.heap.size wr w3)(hR:D9 w3 u x.r g)(hO:D5 w3 wr.heap.size g)(ho:w5.ownsRow B 116 2 v5 (acc.length+1) (cc us acc++ [u,.int .i64 x.n])) (hg:(w3.alloc ob).grownBy w5 y.ownBlock) (hat:v5.ownBlock=y.ownBlock\/v5.ownBlock=some (w3.alloc ob).heap.size):w5.cell? ⟨H+1,1,none⟩=some y/\GdW M H B W (acc++ [x]) v5 (us++ [u]) (G++ [g]) (w5.setCell ⟨H+1,1,none⟩ v5):=by
 have h3:=h.below hb;have hz:=h3.big;have hz0:=h.big;have hzB:=h.hB;have hs:=hg.size;simp only[World.size_alloc]at hs;have hsb:=hb.size;have al:Below w3.heap.size w3 (w3.alloc ob):=(Below.refl _ _).alloc lr8 _;have hlR:=hR.lt;have hGl:=h.own.lt;have hyl:=oL8 h.own.own;have hB5:=C4.push (x:=x) (h3.own.below al) (hR.below al) ⟨hO.1,fun b hb=>by have:=hO.2.1 b hb;omega,fun b hb q=>(fb8 (bA8 _ _ _ (hlR b hb))).trans (hO.2.2 b hb q)⟩ (fun b hb hb'=>by have:=hO.2.1 b hb';have:=hGl b hb;omega) (fun b hb hb'=>by have:=hO.2.1 b hb';have:=(hyl b hb).2;omega) ho hg (fun b hb=>by
  rcases hat with e|e
  ·left;rw[<-e];exact hb
  ·right;rw[e]at hb;cases hb;exact Nat.le_refl _)
 have yb5:=oL8 ho;have kB:∀t,t<H+1+1->w5.heap[t]?=w3.heap[t]?:=fun t ht=>(hg.block t (by simp;omega) (fun e=>by have:=(hyl t e.symm).1;omega)).trans ba8;have kS:∀t,t<H+1->(w5.setCell ⟨H+1,1,none⟩ v5).heap[t]?=w3.heap[t]?:=fun t ht=>(bS8 _ _ _ _ (by simp;omega)).trans (kB t (by omega));have p0:=(cb8 (kB (H+1) (by omega))).trans h3.p0;have p1:=(cb8 (kB (H+1) (by omega))).trans h3.p1;have D7:Below H M w5:=Below.grown (h3.bel.alloc (by have:=h3.bel.size;omega) ob) hg (by simp;omega) (fun t ht=>by have:=(hyl t ht).1;omega);refine⟨p1,?_⟩;exact⟨(cb8 (kS _ (by omega))).trans h3.r0,(cb8 (kS _ (by omega))).trans h3.r1,fun q=>(fb8 (kS _ (by omega))).trans (h3.rf q),(cO8 _ _ _ _ (by simp)).trans p0,cS8 _ _ _ p1,fun q=>by have:=(fb8 (kB (H+1) (by omega)) (o:=q)).trans (h3.pf q);simpa using this,hB5.keep (by simp) (fun b hb _=>bS8 _ _ _ _ (by simp;omega)),D7.setCell (by simp) _,fun b h1 h2=>(bS8 _ _ _ _ (by simp;omega)).trans ((hg.block b (by simp;omega) (fun e=>by have:=(hyl b e.symm).1;omega)).trans ((ba8).trans (h3.mid b h1 h2))),hzB,by simp;omega⟩
theorem C6.sub {w:World}{b o c:Nat}{cs:List C2}{F:List Nat}(h:C6 w (.slice (some ⟨b,o,none⟩) cs.length c) cs F){i j:Nat}(hij:i<j)(hj:j<=cs.length):∃F',C6 w (.slice (some ⟨b,o+i*2,none⟩) (j -i) (c -i)) ((cs.drop i).take (j -i)) F':=by
 obtain⟨a',c',G,e,hl,hc,hz,hG,h0,h⟩:=h;injection e with e1 _ e3;subst e3;obtain⟨b',o',hb,hlt,hF,hL⟩:=h (by rintro rfl;simp at hj;omega);rw[<-e1]at hb;cases hb;have D3:((cs.drop i).take (j -i)).length=j -i:=by simp;omega
 refine⟨b::((G.drop i).take (j -i)).flatten,_,c -i,(G.drop i).take (j -i),by rw[D3],by omega,by omega,(fun x=>by cases x),by simp;omega,fun x=>?_,fun _=>⟨b,o+i*2,rfl,hlt,rfl,fun k x g hx hg=>?_⟩⟩
 ·rw[x]at D3;simp at D3;omega
 ·rw[List.getElem?_take]at hx hg;split at hx
  ·rw[if_pos ‹_›]at hg;rw[List.getElem?_drop]at hx hg;obtain⟨u,h1,h2,h3⟩:=hL (i+k) x g hx hg;refine⟨u,?_,h2,?_⟩
   ·rw[show o+i*2+k*2=o+(i+k)*2 by omega];exact h1
   ·rw[show o+i*2+k*2+1=o+(i+k)*2+1 by omega];exact h3
  ·cases hx
end
section
open Go.RowKit
theorem l4 (k W:Int)(a:Option Addr)(l c:Nat)(w:World):Calls Tryz.prog 264 #[.agg #[.int .i64 k,.int .i64 W,.slice a l c]] w fun e w'=>e=.returned (.int .i64 W)/\Below w.heap.size w w':=by
 go_enter Tryz.func264,Tryz.ntmps264;go_wp2;go_returns;exact⟨rfl,bex⟩
theorem C3d (k W:Int)(a:Option Addr)(l c:Nat)(w:World):Calls Tryz.prog 262 #[.agg #[.int .i64 k,.int .i64 W,.slice a l c]] w fun e w'=>e=.returned (.slice a l c)/\Below w.heap.size w w':=by
 go_enter Tryz.func262,Tryz.ntmps262;go_wp2;go_returns;exact⟨rfl,bex⟩
def Wid (v:Value)(W:Int)(us:Value):Prop:=∃ (t:TypeId) (x:Value) (k:Int),v=.iface t x/\(∀w,Sem.run Tryz.prog (Go.method 449 t x "loop.example/g00312/impl.width") w=.ok (264,.agg #[.int .i64 k,.int .i64 W,us]) w)/\∀w,Sem.run Tryz.prog (Go.method 449 t x "loop.example/g00312/impl.kids") w=.ok (262,.agg #[.int .i64 k,.int .i64 W,us]) w
theorem A2d.wid {w:World}{rs:List R3}{p:P12}{W:Int}{us v:Value}(h:A2d w rs p W us v):Wid v W us:=by
 rcases h with⟨_,rfl,x,u,_,_,_,rfl⟩|⟨_,ue,F,D,_,rfl⟩|⟨_,ue,F,D,_,rfl⟩|⟨_,ue,F,D,_,rfl⟩|⟨_,rfl⟩|⟨_,rfl⟩|⟨_,ue,F,D,_,rfl⟩
 ·exact⟨_,_,0,rfl,fun w=>by kernel_rfl,fun w=>by kernel_rfl⟩
 ·exact⟨_,_,1,rfl,fun w=>by kernel_rfl,fun w=>by kernel_rfl⟩
 ·exact⟨_,_,2,rfl,fun w=>by kernel_rfl,fun w=>by kernel_rfl⟩
 ·exact⟨_,_,3,rfl,fun w=>by kernel_rfl,fun w=>by kernel_rfl⟩
 ·exact⟨_,_,4,rfl,fun w=>by kernel_rfl,fun w=>by kernel_rfl⟩
 ·exact⟨_,_,5,rfl,fun w=>by kernel_rfl,fun w=>by kernel_rfl⟩
 ·exact⟨_,_,6,rfl,fun w=>by kernel_rfl,fun w=>by kernel_rfl⟩
theorem B2N (s:ByteArray)(nb:Nat)(u:Value)(x:R3)(w:World)(hv:w.cell? ⟨nb,0,none⟩=some (.string s))(hnb:nb<w.heap.size)(hR:J7 w u x.cs):Calls Tryz.prog 130 #[.agg #[.string x.s,.int .i64 x.W,u],.pointer (some ⟨nb,0,none⟩)] w fun e w'=>e=.returned (.bool (x.s.toList==s.toList))/\Below w.heap.size w w':=by
 obtain⟨a,l,c,rfl⟩:=hR.shape;go_enter Tryz.func130,Tryz.ntmps130;go_wp2;go_returns;exact⟨rfl,bex⟩
def B9o (db:List R3)(s:ByteArray)(z:Int):Prop:=(z<0/\I9 db s=none)\/∃ (k:Nat) (x:R3),z=k/\db[k]?=some x/\I9 db s=some x
theorem B0w (s:ByteArray)(nb:Nat)(v:Value)(rs:List R3)(w:World)(hv:w.cell? ⟨nb,0,none⟩=some (.string s))(hnb:nb<w.heap.size)(hr:W6 w v rs):Calls Tryz.prog 129 #[v,.func (.func 130) #[] #[.pointer (some ⟨nb,0,none⟩)]] w fun e w'=>(∃z:Int,e=.returned (.int .i64 z)/\B9o rs s z)/\Below w.heap.size w w':=by
 obtain⟨a,c,b,o,rfl,hl,hc,ha⟩:=hr.pick;unfold maxLen at hc;clear hr;go_enter Tryz.func129,Tryz.ntmps129;go_wp2;go_loopw [8] (fun i wr=> ∃k:Nat,k<=rs.length/\i=.int .i64 k/\Below w.heap.size w wr/\I9 rs s=I9 (rs.drop k) s) (fun i _=>rs.length - (intOf i).toNat)
 case atStart=>exact⟨0,Nat.zero_le _,rfl,bex,by simp⟩
 case round=>
  obtain⟨k,hk,rfl,hb,heq⟩:=hrel;have HE:Hid (I9 rs s=I9 (rs.drop k) s):=heq;have hzb:=hb.size;have hvr:=((bc8 hb).1 _ _ hnb).trans hv;clear heq;by_cases hlt:k<rs.length
  ·obtain⟨rfl,hblt,hLr⟩:=ha k hlt;obtain⟨x,u,hx,c0,c1,c2,hR,hbr⟩:=hLr.at hblt hb hlt;have HX:Hid (rs[k]?=some x):=hx;have HS:Hid (I9 (rs.drop k) s=if(x.s.toList==s.toList)=true then some x else I9 (rs.drop (k+1)) s):=B1W hx;have Q7:=B2N s nb u x wr hvr (by omega) hR;obtain⟨au,cu,bu,ou,rfl,_,_,_⟩:=hR.pick;clear ha hLr hx hR hvr;cases hh:(x.s.toList==s.toList)with
   |true=>
    rw[hh]at Q7;have HH:Hid ((x.s.toList==s.toList)=true):=hh;clear hh;go_wp2_with fail;refine cM8 Q7 ?_;rintro q w2 ⟨rfl,hb2⟩;have A0i:Below w.heap.size w w2:=hb.trans (hb2.mono hzb);clear Q7;go_wp2_with fail;go_returns;exact⟨⟨k,rfl,.inr ⟨k,x,rfl,HX.out,by rw[HE.out,HS.out,HH.out];rfl⟩⟩,A0i⟩
   |false=>
    rw[hh]at Q7;have HH:Hid ((x.s.toList==s.toList)=false):=hh;clear hh;go_wp2_with fail;refine cM8 Q7 ?_;rintro q w2 ⟨rfl,hb2⟩;have A0i:Below w.heap.size w w2:=hb.trans (hb2.mono hzb);clear Q7;go_wp2_with fail;exact⟨⟨k+1,hlt,by simp,A0i,by rw[HE.out,HS.out,HH.out];rfl⟩,by simp[intOf];omega⟩
  ·obtain rfl:k=rs.length:=by omega
   have HT:Hid (I9 rs s=none):=by show _=_;rw[HE.out,List.drop_length];rfl
   clear ha;go_wp2;go_returns;exact⟨⟨-1,rfl,.inl ⟨by omega,HT.out⟩⟩,hb⟩
theorem C1w (s:ByteArray)(v:Value)(rs:List R3)(w:World)(hr:W6 w v rs)(h:I9 rs s=none):Calls Tryz.prog 104 #[v,.string s] w fun e w'=>e=.returned .nilIface/\Below w.heap.size w w':=by
 have hI:=fun(w2:World) (hb:Below w.heap.size w w2) (hc:w2.cell? ⟨w.heap.size,0,none⟩=some (.string s))=>B0w s w.heap.size v rs w2 hc (bl8 _ _ hc) (hr.below hb);obtain⟨a,c,b,o,rfl,hl,hc,ha⟩:=hr.pick;clear hr ha;go_enter Tryz.func104,Tryz.ntmps104;go_wp2_with fail;refine cM8 (hI _ bex (by go_simp)) ?_;rintro q w2 ⟨⟨z,rfl,hz⟩,hb2⟩;have hz2:=hb2.size;simp at hz2;rcases hz with⟨hz,_⟩|⟨k,x,rfl,hx,hx2⟩
 ·clear hI;go_wp2_with fail;go_returns;exact⟨rfl,bex⟩
 ·rw[h]at hx2;cases hx2
theorem B4o (W0:World)(s:ByteArray)(v:Value)(rs:List R3)(F:List Nat)(x:R3)(w:World)(hr:H8 W0 v rs F)(hb0:Below W0.heap.size W0 w)(h:I9 rs s=some x)(h0:0<=x.W):Calls Tryz.prog 104 #[v,.string s] w fun e w'=>(∃u G,e=.returned (.iface 178 (.agg #[.int .i64 0,.int .i64 x.W,.slice none 0 0,.string s,.int .i64 x.W,u]))/\C6 W0 u x.cs G)/\Below w.heap.size w w':=by
 have hI:=fun(w2:World) (hb:Below w.heap.size w w2) (hc:w2.cell? ⟨w.heap.size,0,none⟩=some (.string s))=>B0w s w.heap.size v rs w2 hc (bl8 _ _ hc) ((hr.below hb0).is.below hb);obtain⟨a,c,b,o,G0,rfl,hl,hc,_,hG0,_,hC,ha⟩:=hr.pick;unfold maxLen at hc;have hzw:=hb0.size;clear hr;go_enter Tryz.func104,Tryz.ntmps104;go_wp2_with fail;refine cM8 (hI _ bex (by go_simp)) ?_;rintro q w2 ⟨⟨z,rfl,hz⟩,hb2⟩;have hz2:=hb2.size;simp at hz2;rcases hz with⟨_,hz⟩|⟨k,y,rfl,hx,hx2⟩
 ·rw[h]at hz;cases hz
 ·rw[h]at hx2;injection hx2 with hx2;subst hx2;obtain⟨hk,_⟩:=gE1 hx;obtain⟨rfl,hblt,_⟩:=ha k hk;have C0:Below w.heap.size w w2:=bex;have A09:Below W0.heap.size W0 w2:=hb0.trans (C0.mono hzw);obtain⟨x',u,g,hx',d0,d1,d2,hR,_⟩:=hC.at hG0 hblt (Below.refl _ _) hk;rw[hx]at hx';injection hx' with hx';subst hx';have c0:=((bc8 A09).1 _ _ hblt).trans d0;have c1:=((bc8 A09).1 _ _ hblt).trans d1;have c2:=((bc8 A09).1 _ _ hblt).trans d2;have hbr:b<w2.heap.size:=by omega
  have q0:w2.cell? ⟨w.heap.size,0,none⟩=some (.string s):=cl8 hb2;have hkI:(k:Int)<rs.length:=by omega
  have HR:Hid (C6 W0 u x.cs g):=hR;obtain⟨au,lu,cu,rfl⟩:=hR.is.shape;clear ha hC hI hx hb2 d0 d1 d2 A09 hb0 hR;go_wp2_with fail;go_region_held3 (fun w'=>w'.cell? ⟨w.heap.size,0,none⟩=some (.string s)/\w'.cell? ⟨b,o+k*3+1,none⟩=some (.int .i64 x.W)/\w'.cell? ⟨b,o+k*3+2,none⟩=some (.slice au lu cu)) (refine⟨?_,?_,?_⟩<;>first|(with_reducible assumption)|(go_simp;done)) (fail);try go_wp2_with fail
  go_returns;exact⟨⟨_,g,rfl,HR.out⟩,bex⟩
end
end Go.Proofs.YteekfcdllaceoaaGreatDoor
