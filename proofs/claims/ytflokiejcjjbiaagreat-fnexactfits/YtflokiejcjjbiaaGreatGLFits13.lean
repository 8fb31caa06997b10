/- Own texts, joined: contracts that the law's proof goes by. -/
import Derived.Test.YtflokiejcjjbiaaGreatGLFits12
import Derived.Test.YtflokiejcjjbiaaGreatGLFits7
import Derived.Test.YtflokiejcjjbiaaGreatGLFits2
import Derived.Test.YtflokiejcjjbiaaGreatGLFits3
import Derived.Handy
import Derived.Deep.RegionHeld3
import Derived.Test.YtflokiejcjjbiaaGreatGLFits5
import Derived.Test.YtflokiejcjjbiaaGreatGLFits6
set_option maxHeartbeats 16000000
set_option maxRecDepth 100000
set_option linter.unusedVariables false
set_option linter.unusedSimpArgs false
namespace Go.Proofs.YtflokiejcjjbiaaGreat
section
open Go.RowKit
theorem l_nilV:(⟨#[]⟩:ByteArray).toList=[]:=by kernel_rfl
theorem ok_oV (o:Option Int):okB (kO o) (nO o) ⟨#[]⟩=true:=by cases o<;>simp[kO,nO,okB,l_nilV]
theorem ok_bV (b:Bool):okB 2 (bn b) ⟨#[]⟩=true:=by cases b<;>simp[bn,okB,l_nilV]
theorem ok_c0V (p0 q0 p1 q1:Bool):okB (chK p0 q0 p1 q1) (chN 0 p0 q0 p1 q1) ⟨#[]⟩=true:=by cases p0<;>cases q0<;>cases p1<;>cases q1<;>simp[chK,chN,okB,l_nilV]
theorem ok_c1V (p0 q0 p1 q1:Bool):okB (chK p0 q0 p1 q1) (chN 1 p0 q0 p1 q1) ⟨#[]⟩=true:=by cases p0<;>cases q0<;>cases p1<;>cases q1<;>simp[chK,chN,okB,l_nilV]
theorem ok_0V:okB 0 0 ⟨#[]⟩=true:=by simp[okB,l_nilV]
def BothV (op:ByteArray)(k a:Int)(s:ByteArray)(k' b:Int)(s':ByteArray)(m:Int):Prop:=∃K N:Int,(InN N∧okB K N ⟨#[]⟩=true)∧
 (∀w:World,w.cell? ⟨0,0,none⟩=some (.int .i64 m)→Calls Tryz.prog 131 #[.string op,(.agg #[.int .i64 k,.int .i64 a,.string s]),(.agg #[.int .i64 k',.int .i64 b,.string s'])] w fun e w'=>e=.returned (.agg #[.int .i64 K,.int .i64 N,.string ⟨#[]⟩])∧Below w.heap.size w w')∧
 (∀w:World,Calls Tryz.prog 121 #[.string op,(.agg #[.int .i64 k,.int .i64 a,.string s]),(.agg #[.int .i64 k',.int .i64 b,.string s'])] w fun e w'=>e=.returned (.agg #[.int .i64 K,.int .i64 N,.string ⟨#[]⟩])∧Below w.heap.size w w')
theorem bothV_add (op:ByteArray)(k a k' b:Int)(s s':ByteArray)(m:Int)(ha: -9223372036854775808≤a∧a≤9223372036854775807)(hb: -9223372036854775808≤b∧b≤9223372036854775807)(hop:op.toList=[43]):BothV op k a s k' b s' m:=by
 by_cases h:k=1∧k'=1
 ·obtain⟨rfl,rfl⟩:=h;exact⟨_,_,⟨by first|exact bd_add _ _|exact bd_sub _ _|exact bd_mul _ _|exact bd_div _ _|exact bd_bn _|exact bd_ch0 _ _ _ _|exact bd_ch1 _ _ _ _,by first|exact ok_oV _|exact ok_bV _|exact ok_c0V _ _ _ _|exact ok_c1V _ _ _ _⟩,fun w _=>rI_add op a b s s' w hop,fun w=>rS_add op a b s s' w ha hb hop⟩
 ·refine⟨0,0,⟨by decide,ok_0V⟩,fun w _=>rI_add_no op k k' a b s s' w hop h,fun w=>?_⟩;by_cases hk:k=k'∧¬k=0
  ·obtain⟨rfl,h0⟩:=hk;have h1:¬k=1:=fun e=>h ⟨e,e⟩;exact rS_kx op k a b s s' w (by rw[hop];rfl) (by rw[hop];rfl) (by rw[hop];rfl) (by rw[hop];rfl) (by rw[hop];rfl) (by simp[h0]) (by simp[h1])
  ·exact no_specB op k a k' b s s' (by rw[hop];rfl) (by rw[hop];rfl) hk w
theorem bothV_sub (op:ByteArray)(k a k' b:Int)(s s':ByteArray)(m:Int)(ha: -9223372036854775808≤a∧a≤9223372036854775807)(hb: -9223372036854775808≤b∧b≤9223372036854775807)(hop:op.toList=[45]):BothV op k a s k' b s' m:=by
 by_cases h:k=1∧k'=1
 ·obtain⟨rfl,rfl⟩:=h;exact⟨_,_,⟨by first|exact bd_add _ _|exact bd_sub _ _|exact bd_mul _ _|exact bd_div _ _|exact bd_bn _|exact bd_ch0 _ _ _ _|exact bd_ch1 _ _ _ _,by first|exact ok_oV _|exact ok_bV _|exact ok_c0V _ _ _ _|exact ok_c1V _ _ _ _⟩,fun w _=>rI_sub op a b s s' w hop,fun w=>rS_sub op a b s s' w ha hb hop⟩
 ·refine⟨0,0,⟨by decide,ok_0V⟩,fun w _=>rI_sub_no op k k' a b s s' w hop h,fun w=>?_⟩;by_cases hk:k=k'∧¬k=0
  ·obtain⟨rfl,h0⟩:=hk;have h1:¬k=1:=fun e=>h ⟨e,e⟩;exact rS_kx op k a b s s' w (by rw[hop];rfl) (by rw[hop];rfl) (by rw[hop];rfl) (by rw[hop];rfl) (by rw[hop];rfl) (by simp[h0]) (by simp[h1])
  ·exact no_specB op k a k' b s s' (by rw[hop];rfl) (by rw[hop];rfl) hk w
theorem bothV_mul (op:ByteArray)(k a k' b:Int)(s s':ByteArray)(m:Int)(ha: -9223372036854775808≤a∧a≤9223372036854775807)(hb: -9223372036854775808≤b∧b≤9223372036854775807)(hop:op.toList=[42]):BothV op k a s k' b s' m:=by
 by_cases h:k=1∧k'=1
 ·obtain⟨rfl,rfl⟩:=h;exact⟨_,_,⟨by first|exact bd_add _ _|exact bd_sub _ _|exact bd_mul _ _|exact bd_div _ _|exact bd_bn _|exact bd_ch0 _ _ _ _|exact bd_ch1 _ _ _ _,by first|exact ok_oV _|exact ok_bV _|exact ok_c0V _ _ _ _|exact ok_c1V _ _ _ _⟩,fun w _=>rI_mul op a b s s' w hop,fun w=>rS_mul op a b s s' w ha hb hop⟩
 ·refine⟨0,0,⟨by decide,ok_0V⟩,fun w _=>rI_mul_no op k k' a b s s' w hop h,fun w=>?_⟩;by_cases hk:k=k'∧¬k=0
  ·obtain⟨rfl,h0⟩:=hk;have h1:¬k=1:=fun e=>h ⟨e,e⟩;exact rS_kx op k a b s s' w (by rw[hop];rfl) (by rw[hop];rfl) (by rw[hop];rfl) (by rw[hop];rfl) (by rw[hop];rfl) (by simp[h0]) (by simp[h1])
  ·exact no_specB op k a k' b s s' (by rw[hop];rfl) (by rw[hop];rfl) hk w
theorem bothV_div (op:ByteArray)(k a k' b:Int)(s s':ByteArray)(m:Int)(ha: -9223372036854775808≤a∧a≤9223372036854775807)(hb: -9223372036854775808≤b∧b≤9223372036854775807)(hop:op.toList=[47]):BothV op k a s k' b s' m:=by
 by_cases h:k=1∧k'=1
 ·obtain⟨rfl,rfl⟩:=h;exact⟨_,_,⟨by first|exact bd_add _ _|exact bd_sub _ _|exact bd_mul _ _|exact bd_div _ _|exact bd_bn _|exact bd_ch0 _ _ _ _|exact bd_ch1 _ _ _ _,by first|exact ok_oV _|exact ok_bV _|exact ok_c0V _ _ _ _|exact ok_c1V _ _ _ _⟩,fun w _=>rI_div op a b s s' w hop,fun w=>rS_div op a b s s' w ha hb hop⟩
 ·refine⟨0,0,⟨by decide,ok_0V⟩,fun w _=>rI_div_no op k k' a b s s' w hop h,fun w=>?_⟩;by_cases hk:k=k'∧¬k=0
  ·obtain⟨rfl,h0⟩:=hk;have h1:¬k=1:=fun e=>h ⟨e,e⟩;exact rS_kx op k a b s s' w (by rw[hop];rfl) (by rw[hop];rfl) (by rw[hop];rfl) (by rw[hop];rfl) (by rw[hop];rfl) (by simp[h0]) (by simp[h1])
  ·exact no_specB op k a k' b s s' (by rw[hop];rfl) (by rw[hop];rfl) hk w
theorem bothV_eq (op:ByteArray)(k a k' b:Int)(s s':ByteArray)(m:Int)(hop:op.toList=[61]):BothV op k a s k' b s' m:=by
 by_cases hk:k=k'∧¬k=0
 ·obtain⟨rfl,h0⟩:=hk;exact⟨_,_,⟨by first|exact bd_add _ _|exact bd_sub _ _|exact bd_mul _ _|exact bd_div _ _|exact bd_bn _|exact bd_ch0 _ _ _ _|exact bd_ch1 _ _ _ _,by first|exact ok_oV _|exact ok_bV _|exact ok_c0V _ _ _ _|exact ok_c1V _ _ _ _⟩,fun w _=>rI_eq op k a b s s' w hop (by simp[h0]),fun w=>rS_eq op k a b s s' w hop (by simp[h0])⟩
 ·exact⟨0,0,⟨by decide,ok_0V⟩,fun w _=>rI_eq_no op k k' a b s s' w hop hk,fun w=>no_specB op k a k' b s s' (by rw[hop];rfl) (by rw[hop];rfl) hk w⟩
theorem bothV_lt (op:ByteArray)(k a k' b:Int)(s s':ByteArray)(m:Int)(hop:op.toList=[60]):BothV op k a s k' b s' m:=by
 by_cases hk:k=k'∧¬k=0
 ·obtain⟨rfl,h0⟩:=hk;exact⟨_,_,⟨by first|exact bd_add _ _|exact bd_sub _ _|exact bd_mul _ _|exact bd_div _ _|exact bd_bn _|exact bd_ch0 _ _ _ _|exact bd_ch1 _ _ _ _,by first|exact ok_oV _|exact ok_bV _|exact ok_c0V _ _ _ _|exact ok_c1V _ _ _ _⟩,fun w _=>rI_lt op k a b s s' w hop (by simp[h0]),fun w=>rS_lt op k a b s s' w hop (by simp[h0])⟩
 ·exact⟨0,0,⟨by decide,ok_0V⟩,fun w _=>rI_lt_no op k k' a b s s' w hop hk,fun w=>no_specB op k a k' b s s' (by rw[hop];rfl) (by rw[hop];rfl) hk w⟩
theorem bothV_hold (op:ByteArray)(k a k' b:Int)(s s':ByteArray)(m:Int)(hs:s.size≤1048576)(hs':s'.size≤1048576)(hop:op.toList=[126]):BothV op k a s k' b s' m:=by
 by_cases h:k=3∧k'=3
 ·obtain⟨rfl,rfl⟩:=h;exact⟨_,_,⟨by first|exact bd_add _ _|exact bd_sub _ _|exact bd_mul _ _|exact bd_div _ _|exact bd_bn _|exact bd_ch0 _ _ _ _|exact bd_ch1 _ _ _ _,by first|exact ok_oV _|exact ok_bV _|exact ok_c0V _ _ _ _|exact ok_c1V _ _ _ _⟩,fun w hm=>rI_hold op a b s s' _ rfl m w (by omega) hm hop,fun w=>rS_hold op a b s s' _ rfl w hs hs' hop⟩
 ·refine⟨0,0,⟨by decide,ok_0V⟩,fun w _=>rI_hold_no op k k' a b s s' w hop h,fun w=>?_⟩;by_cases hk:k=k'∧¬k=0
  ·obtain⟨rfl,h0⟩:=hk;have h3:¬k=3:=fun e=>h ⟨e,e⟩;by_cases h1:k=1
   ·subst h1;exact rS_1h op a b s s' w hop
   ·exact rS_kh op k a b s s' w hop (by simp[h0]) (by simp[h1]) (by simp[h3])
  ·exact no_specB op k a k' b s s' (by rw[hop];rfl) (by rw[hop];rfl) hk w
theorem bothV_and (op:ByteArray)(k a k' b:Int)(s s':ByteArray)(m:Int)(hop:op.toList=[97,110,100]):BothV op k a s k' b s' m:=
 ⟨_,_,⟨by first|exact bd_add _ _|exact bd_sub _ _|exact bd_mul _ _|exact bd_div _ _|exact bd_bn _|exact bd_ch0 _ _ _ _|exact bd_ch1 _ _ _ _,by first|exact ok_oV _|exact ok_bV _|exact ok_c0V _ _ _ _|exact ok_c1V _ _ _ _⟩,fun w _=>rI_and op k k' a b s s' _ _ _ _ rfl rfl rfl rfl w hop,fun w=>rS_and op k k' a b s s' _ _ _ _ rfl rfl rfl rfl w hop⟩
theorem bothV_or (op:ByteArray)(k a k' b:Int)(s s':ByteArray)(m:Int)(hop:op.toList=[111,114]):BothV op k a s k' b s' m:=
 ⟨_,_,⟨by first|exact bd_add _ _|exact bd_sub _ _|exact bd_mul _ _|exact bd_div _ _|exact bd_bn _|exact bd_ch0 _ _ _ _|exact bd_ch1 _ _ _ _,by first|exact ok_oV _|exact ok_bV _|exact ok_c0V _ _ _ _|exact ok_c1V _ _ _ _⟩,fun w _=>rI_or op k k' a b s s' _ _ _ _ rfl rfl rfl rfl w hop,fun w=>rS_or op k k' a b s s' _ _ _ _ rfl rfl rfl rfl w hop⟩
theorem bothV_x (op:ByteArray)(k a k' b:Int)(s s':ByteArray)(m:Int)(x0:(op.toList==[43])=false)(x1:(op.toList==[45])=false)(x2:(op.toList==[42])=false)(x3:(op.toList==[47])=false)(x4:(op.toList==[61])=false)(x5:(op.toList==[60])=false)(x6:(op.toList==[126])=false)(x7:(op.toList==[97,110,100])=false)(x8:(op.toList==[111,114])=false):BothV op k a s k' b s' m:=by
 refine⟨0,0,⟨by decide,ok_0V⟩,fun w _=>rI_x op k k' a b s s' w x0 x1 x2 x3 x4 x5 x6 x7 x8,fun w=>?_⟩;by_cases hk:k=k'∧¬k=0
 ·obtain⟨rfl,h0⟩:=hk;by_cases h1:k=1
  ·subst h1;exact rS_1x op a b s s' w x0 x1 x2 x3 x4 x5 x7 x8 x6
  ·exact rS_kx op k a b s s' w x4 x5 x7 x8 x6 (by simp[h0]) (by simp[h1])
 ·exact no_specB op k a k' b s s' x7 x8 hk w
theorem bothV_any (op:ByteArray)(k a k' b:Int)(s s':ByteArray)(m:Int)(ha: -9223372036854775808≤a∧a≤9223372036854775807)(hb: -9223372036854775808≤b∧b≤9223372036854775807)(hs:s.size≤1048576)(hs':s'.size≤1048576):BothV op k a s k' b s' m:=by
 by_cases y0:op.toList=[43]
 ·exact bothV_add op k a k' b s s' m ha hb y0
 by_cases y1:op.toList=[45]
 ·exact bothV_sub op k a k' b s s' m ha hb y1
 by_cases y2:op.toList=[42]
 ·exact bothV_mul op k a k' b s s' m ha hb y2
 by_cases y3:op.toList=[47]
 ·exact bothV_div op k a k' b s s' m ha hb y3
 by_cases y4:op.toList=[61]
 ·exact bothV_eq op k a k' b s s' m y4
 by_cases y5:op.toList=[60]
 ·exact bothV_lt op k a k' b s s' m y5
 by_cases y6:op.toList=[126]
 ·exact bothV_hold op k a k' b s s' m hs hs' y6
 by_cases y7:op.toList=[97,110,100]
 ·exact bothV_and op k a k' b s s' m y7
 by_cases y8:op.toList=[111,114]
 ·exact bothV_or op k a k' b s s' m y8
 exact bothV_x op k a k' b s s' m (by simp[y0]) (by simp[y1]) (by simp[y2]) (by simp[y3]) (by simp[y4]) (by simp[y5]) (by simp[y6]) (by simp[y7]) (by simp[y8])
end
section
open Go.RowKit
theorem RowsIs.pick {w:World}{v:Value}{cs:List C2}(h:RowsIs w v cs):∃a c b o,v=.slice a cs.length c∧cs.length≤c∧c≤maxLen∧∀k,k<cs.length→a=some ⟨b,o,none⟩∧b<w.heap.size∧CLies w b o cs:=by
 obtain⟨a,c,rfl,hl,hc,h⟩:=h;by_cases hne:cs=[]
 ·exact⟨a,c,0,0,rfl,hl,hc,fun k hk=>by rw[hne]at hk;simp at hk⟩
 ·obtain⟨b,o,h⟩:=h hne;exact⟨a,c,b,o,rfl,hl,hc,fun _ _=>h⟩
theorem RowIs.shape {w:World}{v:Value}{vs:List V3}(h:RowIs w v vs):∃a l c,v=.slice a l c:=by
 obtain⟨a,c,h,_⟩:=h;exact⟨a,_,c,h⟩
theorem RowsIs.shape {w:World}{v:Value}{cs:List C2}(h:RowsIs w v cs):∃a l c,v=.slice a l c:=by
 obtain⟨a,c,h,_⟩:=h;exact⟨a,_,c,h⟩
theorem CLies.at {w w':World}{b o:Nat}{cs:List C2}(h:CLies w b o cs)(hlt:b<w.heap.size)(hb:Below w.heap.size w w'){k:Nat}(hk:k<cs.length):∃x v,cs[k]?=some x∧w'.cell? ⟨b,o+k*2,none⟩=some v∧RowIs w' v x.r∧w'.cell? ⟨b,o+k*2+1,none⟩=some (.int .i64 x.n)∧b<w'.heap.size:=by
 obtain⟨v,h0,h1,h2⟩:=h.below hb hlt k cs[k] (by simp[hk]);exact⟨cs[k],v,by simp[hk],h0,h1,h2,Nat.lt_of_lt_of_le hlt hb.size⟩
def wtcs (cs:List C2):Nat:=(cs.map fun x=>wt x.r).sum
def wtb (cs:List C2):Nat:=cs.length+wtcs cs
theorem wtcs_take {cs:List C2}{k:Nat}{x:C2}(h:cs[k]?=some x):wtcs (cs.take (k+1))=wtcs (cs.take k)+wt x.r:=by
 unfold wtcs;obtain⟨hk,rfl⟩:=gE1 h;rw[List.take_succ_eq_append_getElem hk,List.map_append,List.sum_append];simp only[List.map_cons,List.map_nil,List.sum_cons,List.sum_nil,Nat.add_zero]
theorem wt_mem {cs:List C2}{x:C2}(h:x∈cs):wt x.r≤wtcs cs:=by
 unfold wtcs;induction cs with
 |nil=>cases h
 |cons y ys ih=>
  simp only[List.map_cons,List.sum_cons];rcases List.mem_cons.1 h with rfl|h
  ·omega
  ·have:=ih h;omega
theorem szCounted_any (v:Value)(r:List V3)(n left:Int)(w:World)(hr:RowIs w v r)(hw:VsWf r)(h0:0≤left)(h1:left≤1048576):Calls Tryz.prog 65 #[.agg #[v,.int .i64 n],.int .i64 left] w fun e w'=>(∃z:Int,e=.returned (.int .i64 z)∧ -1≤z∧z≤left∧(0≤z→z+wt r=left))∧Below w.heap.size w w':=by
 have hb0:∀o,Below w.heap.size w (w.alloc o):=fun o=>(Below.refl _ _).alloc (Nat.le_refl _) o;obtain⟨a,c,hv,_⟩:=hr.pick;go_enter Tryz.func65,Tryz.ntmps65;go_wp2_with fail;refine(szValueS_any v r left _ (hr.below (hb0 _)) hw h0 h1).mono ?_;rintro e w1 ⟨⟨z1,rfl,l1,g1,s1⟩,hb1⟩;have hz1:=hb1.size;simp only[World.size_alloc]at hz1;by_cases hn1:z1<0
 ·go_wp2_with fail;go_returns;exact⟨⟨-1,rfl,by omega,by omega,by omega⟩,bela⟩
 ·go_wp2_with fail;go_returns;exact⟨⟨z1,rfl,by omega,by omega,s1⟩,bela⟩
theorem szCountedS_any (v:Value)(cs:List C2)(left:Int)(w:World)(hr:RowsIs w v cs)(hw:CsWf cs)(h0:0≤left)(h1:left≤1048576):Calls Tryz.prog 42 #[v,.int .i64 left] w fun e w'=>(∃z:Int,e=.returned (.int .i64 z)∧ -1≤z∧z≤left∧(0≤z→z+wtb cs=left))∧Below w.heap.size w w':=by
 obtain⟨a,c,b,o,rfl,hl,hc,ha⟩:=hr.pick;unfold maxLen at hc;by_cases hbig:left -cs.length<0
 ·go_enter Tryz.func42,Tryz.ntmps42;go_wp2;go_returns;exact⟨⟨-1,rfl,by omega,by omega,by omega⟩,by go_grown⟩
 go_enter Tryz.func42,Tryz.ntmps42;go_wp2;go_loopw [1,5] (fun l i wr=> ∃k:Nat,k≤cs.length∧i=.int .i64 k∧l=.int .i64 (left -cs.length -wtcs (cs.take k))∧0≤left -cs.length -wtcs (cs.take k)∧Below w.heap.size w wr) (fun _ i _=>cs.length - (intOf i).toNat)
 case atStart=>exact⟨0,Nat.zero_le _,rfl,by simp[wtcs],by simp[wtcs];omega,by go_grown⟩
 case round=>
  obtain⟨k,hk,rfl,rfl,hp,hb⟩:=hrel;by_cases hlt:k<cs.length
  ·have hzb:=hb.size;obtain⟨rfl,hblt,hL⟩:=ha k hlt;obtain⟨x,u,hx,c0,hR,c1,hbr⟩:=hL.at hblt hb hlt;have hxw:VsWf x.r:=(hw x (mg8 hx)).1;have hT:Hid (wtcs (cs.take (k+1))=wtcs (cs.take k)+wt x.r):=wtcs_take hx;have hp1:left -cs.length -wtcs (cs.take k)≤1048576:=by omega
   clear ha hL hw hx;go_wp2_with(go_at_call 65;refine(szCounted_any _ _ _ _ _ hR hxw hp hp1).mono ?_;rintro e w1 ⟨⟨z1,rfl,l1,g1,s1⟩,hb1⟩)
   ·go_returns;exact⟨⟨-1,rfl,by omega,by omega,by omega⟩,hb.trans (hb1.mono hb.size)⟩
   ·have h9:0≤z1:=by assumption
    have e1:=s1 h9;have hT:=hT.out;refine⟨⟨k+1,hlt,by simp,by congr 1;omega,by omega,hb.trans (hb1.mono hb.size)⟩,by simp[intOf];omega⟩
  ·go_wp2;go_returns;have hkk:k=cs.length:=by omega
   subst hkk;refine⟨⟨_,rfl,by omega,by omega,fun _=>?_⟩,hb⟩;rw[List.take_length];unfold wtb;omega
theorem szBag_any (W:Int)(v:Value)(cs:List C2)(left:Int)(w:World)(hr:RowsIs w v cs)(hw:CsWf cs)(h0:0≤left)(h1:left≤1048576):Calls Tryz.prog 28 #[.agg #[.int .i64 W,v],.int .i64 left] w fun e w'=>(∃z:Int,e=.returned (.int .i64 z)∧ -1≤z∧z≤left∧(0≤z→z+wtb cs=left))∧Below w.heap.size w w':=by
 have hb0:∀o,Below w.heap.size w (w.alloc o):=fun o=>(Below.refl _ _).alloc (Nat.le_refl _) o;go_enter Tryz.func28,Tryz.ntmps28;go_wp2_with fail;refine(szCountedS_any v cs left _ (hr.below (hb0 _)) hw h0 h1).mono ?_;rintro e w1 ⟨⟨z1,rfl,l1,g1,s1⟩,hb1⟩;have hz1:=hb1.size;simp only[World.size_alloc]at hz1;by_cases hn1:z1<0
 ·go_wp2_with fail;go_returns;exact⟨⟨-1,rfl,by omega,by omega,by omega⟩,bela⟩
 ·go_wp2_with fail;go_returns;exact⟨⟨z1,rfl,by omega,by omega,s1⟩,bela⟩
theorem eqCounted_same (v u:Value)(r:List V3)(n:Int)(w:World)(hr:RowIs w v r)(hu:RowIs w u r):Calls Tryz.prog 93 #[.agg #[v,.int .i64 n],.agg #[u,.int .i64 n]] w fun e w'=>e=.returned (.bool true)∧Below w.heap.size w w':=by
 have hb0:∀o p,Below w.heap.size w ((w.alloc o).alloc p):=fun o p=>((Below.refl _ _).alloc (Nat.le_refl _) o).alloc (by simp) p;go_enter Tryz.func93,Tryz.ntmps93;go_wp2_with fail;refine(eqValueS_same v u r _ (hr.below (hb0 _ _)) (hu.below (hb0 _ _))).mono ?_;rintro e w1 ⟨rfl,hb1⟩;have hz1:=hb1.size;simp only[World.size_alloc]at hz1;have q0:w1.cell? ⟨w.heap.size,1,none⟩=some (.int .i64 n):=cL8 hb1 (by go_simp);have q1:w1.cell? ⟨w.heap.size+1,1,none⟩=some (.int .i64 n):=cL8 hb1 (by go_simp);go_wp2;go_returns;exact⟨rfl,bela⟩
theorem eqCountedS_same (v u:Value)(cs:List C2)(w:World)(hr:RowsIs w v cs)(hu:RowsIs w u cs):Calls Tryz.prog 64 #[v,u] w fun e w'=>e=.returned (.bool true)∧Below w.heap.size w w':=by
 obtain⟨a,c,b,o,rfl,hl,hc,ha⟩:=hr.pick;obtain⟨a',c',b',o',rfl,hl',hc',ha'⟩:=hu.pick;unfold maxLen at hc hc';clear hr hu;go_enter Tryz.func64,Tryz.ntmps64;go_wp2;go_loopw [5] (fun i wr=> ∃k:Nat,k≤cs.length∧i=.int .i64 k∧Below w.heap.size w wr) (fun i _=>cs.length - (intOf i).toNat)
 case atStart=>exact⟨0,Nat.zero_le _,rfl,by go_grown⟩
 case round=>
  obtain⟨k,hk,rfl,hb⟩:=hrel;by_cases hlt:k<cs.length
  ·have hzb:=hb.size;obtain⟨rfl,hblt,hL⟩:=ha k hlt;obtain⟨rfl,hblt',hL'⟩:=ha' k hlt;obtain⟨x,v,hx,c0,hR,c1,hbr⟩:=hL.at hblt hb hlt;obtain⟨x',u,hx',c0',hR',c1',hbr'⟩:=hL'.at hblt' hb hlt;obtain rfl:x=x':=by rw[hx]at hx';exact Option.some.inj hx'
   clear ha ha' hL hL' hx hx';go_wp2_with fail;go_region_held3 (fun w'=>w'.cell? ⟨b,o+k*2,none⟩=some v∧w'.cell? ⟨b,o+k*2+1,none⟩=some (.int .i64 x.n)∧w'.cell? ⟨b',o'+k*2,none⟩=some u∧w'.cell? ⟨b',o'+k*2+1,none⟩=some (.int .i64 x.n)) (refine⟨?_,?_,?_,?_⟩<;>first|(go_simp;done)|(exact cL8 (by assumption) (by go_simp))) (first|(go_at_call 93;refine(eqCounted_same v u x.r x.n _ (hR.below bela) (hR'.below bela)).mono ?_;rintro e w1 ⟨rfl,hb1⟩));go_wp2
   go_roundw
   case rel=>exact⟨k+1,hlt,by simp,bela⟩
   case measure=>simp[intOf];omega
  ·go_wp2;go_returns;exact⟨rfl,hb⟩
theorem eqBag_same (W:Int)(v u:Value)(cs:List C2)(w:World)(hr:RowsIs w v cs)(hu:RowsIs w u cs):Calls Tryz.prog 40 #[.agg #[.int .i64 W,v],.agg #[.int .i64 W,u]] w fun e w'=>e=.returned (.bool true)∧Below w.heap.size w w':=by
 have hb0:∀o p,Below w.heap.size w ((w.alloc o).alloc p):=fun o p=>((Below.refl _ _).alloc (Nat.le_refl _) o).alloc (by simp) p;go_enter Tryz.func40,Tryz.ntmps40;go_wp2_with fail;refine(eqCountedS_same v u cs _ (hr.below (hb0 _ _)) (hu.below (hb0 _ _))).mono ?_;rintro e w1 ⟨rfl,hb1⟩;have hz1:=hb1.size;simp only[World.size_alloc]at hz1;go_wp2;go_returns;exact⟨rfl,bela⟩
end
section
open Go.RowKit
def okW (x:V3):Bool:=okB x.k x.n x.s
def okRow (vs:List V3)(W:Int):Bool:=decide ((vs.length:Int)=W) &&vs.all okW
theorem all_step {vs:List V3}{k:Nat}{x:V3}(h:vs[k]?=some x):(vs.drop k).all okW=(okW x && (vs.drop (k+1)).all okW):=by
 obtain⟨hk,rfl⟩:=gE1 h;rw[List.drop_eq_getElem_cons hk];rfl
theorem l02Row_any (v:Value)(vs:List V3)(W:Int)(w:World)(hr:RowIs w v vs)(hw:VsWf vs):Calls Tryz.prog 48 #[v,.int .i64 W] w fun e w'=>e=.returned (.bool (okRow vs W))∧Below w.heap.size w w':=by
 obtain⟨a,c,b,o,rfl,hl,hc,ha⟩:=hr.pick;unfold maxLen at hc;clear hr;go_enter Tryz.func48,Tryz.ntmps48;go_wp2;go_loopw [5] (fun i wr=> ∃k:Nat,k≤vs.length∧i=.int .i64 k∧Below w.heap.size w wr∧vs.all okW=(vs.drop k).all okW) (fun i _=>vs.length - (intOf i).toNat)
 case atStart=>exact⟨0,Nat.zero_le _,rfl,by go_grown,by simp⟩
 case round=>
  obtain⟨k,hk,rfl,hb,heq⟩:=hrel;have HE:Hid (vs.all okW=(vs.drop k).all okW):=heq;have hzb:=hb.size;clear heq;by_cases hlt:k<vs.length
  ·obtain⟨rfl,hblt,hL⟩:=ha k hlt;obtain⟨x,hx,c0,c1,c2,hbr⟩:=hL.at hblt hb hlt;have hxs:x.s.size≤maxLen:=(hw x (mg8 hx)).2.2;have HS:Hid ((vs.drop k).all okW=(okW x && (vs.drop (k+1)).all okW)):=all_step hx;clear ha hL hx hw;by_cases hok:okB x.k x.n x.s=true
   ·go_wp2_with(go_at_call 70;refine(specValueOk_any _ _ _ _ hxs).mono ?_;rintro e w1 ⟨rfl,hb1⟩)
    go_roundw
    case rel=>
     refine⟨k+1,hlt,by simp,bela,?_⟩;rw[HE.out,HS.out,show okW x=true from hok,Bool.true_and]
    case measure=>simp[intOf];omega
   ·go_wp2_with(go_at_call 70;refine(specValueOk_any _ _ _ _ hxs).mono ?_;rintro e w1 ⟨rfl,hb1⟩);go_returns;refine⟨rB8 ?_,bela⟩;have hf:okW x=false:=by unfold okW;simpa using hok
    unfold okRow;rw[HE.out,HS.out,hf];simp
  ·clear ha hw;go_wp2;go_returns;refine⟨rB8 ?_,hb⟩;unfold okRow;rw[HE.out,List.drop_eq_nil_of_le (by omega)];simp;try rfl
theorem rowOk_any (v:Value)(vs:List V3)(W:Int)(w:World)(hr:RowIs w v vs)(hw:VsWf vs):Calls Tryz.prog 90 #[v,.int .i64 W] w fun e w'=>e=.returned (.bool (okRow vs W))∧Below w.heap.size w w':=by
 obtain⟨a,c,b,o,rfl,hl,hc,ha⟩:=hr.pick;unfold maxLen at hc;clear hr;by_cases hW:(vs.length:Int)=W
 ·subst hW;go_enter Tryz.func90,Tryz.ntmps90;go_wp2;go_loopw [13] (fun i wr=> ∃k:Nat,k≤vs.length∧i=.int .i64 k∧Below w.heap.size w wr∧vs.all okW=(vs.drop k).all okW) (fun i _=>vs.length - (intOf i).toNat)
  case atStart=>exact⟨0,Nat.zero_le _,rfl,by go_grown,by simp⟩
  case round=>
   obtain⟨k,hk,rfl,hb,heq⟩:=hrel;have HE:Hid (vs.all okW=(vs.drop k).all okW):=heq;have hzb:=hb.size;clear heq;by_cases hlt:k<vs.length
   ·obtain⟨rfl,hblt,hL⟩:=ha k hlt;obtain⟨x,hx,c0,c1,c2,hbr⟩:=hL.at hblt hb hlt;have hxs:x.s.size≤maxLen:=(hw x (mg8 hx)).2.2;have HS:Hid ((vs.drop k).all okW=(okW x && (vs.drop (k+1)).all okW)):=all_step hx;clear ha hL hx hw;by_cases hok:okB x.k x.n x.s=true
    ·go_wp2_with(go_at_call 116;refine(implValueOk_any _ _ _ _ hxs).mono ?_;rintro e w1 ⟨rfl,hb1⟩;have hz1:=hb1.size;(try simp at hz1))
     go_roundw
     case rel=>
      refine⟨k+1,hlt,by simp,bela,?_⟩;rw[HE.out,HS.out,show okW x=true from hok,Bool.true_and]
     case measure=>simp[intOf];omega
    ·go_wp2_with(go_at_call 116;refine(implValueOk_any _ _ _ _ hxs).mono ?_;rintro e w1 ⟨rfl,hb1⟩;have hz1:=hb1.size;(try simp at hz1));go_returns;refine⟨rB8 ?_,bela⟩;have hf:okW x=false:=by unfold okW;simpa using hok
     unfold okRow;rw[HE.out,HS.out,hf];simp
   ·clear ha hw;go_wp2;go_returns;refine⟨rB8 ?_,hb⟩;unfold okRow;rw[HE.out,List.drop_eq_nil_of_le (by omega)];simp
 ·go_enter Tryz.func90,Tryz.ntmps90;go_wp2;go_returns;exact⟨rB8 (by simp[okRow,hW]),by go_grown⟩
def okN (n:Int):Bool:=decide (n≠0) &&decide (-1000000000≤n) &&decide (n≤1000000000)
theorem countOk_any (n:Int)(w:World):Calls Tryz.prog 91 #[.int .i64 n] w fun e w'=>e=.returned (.bool (okN n))∧Below w.heap.size w w':=by
 by_cases h0:n=0
 ·subst h0;go_enter Tryz.func91,Tryz.ntmps91;go_wp2;go_returns;exact⟨rB8 (by simp[okN]),by go_grown⟩
 ·by_cases h1: -1000000000≤n
  ·go_enter Tryz.func91,Tryz.ntmps91;go_wp2;go_returns;exact⟨rB8 (by simp[okN,h0,h1]),by go_grown⟩
  ·go_enter Tryz.func91,Tryz.ntmps91;go_wp2;go_returns;exact⟨rB8 (by simp[okN,h0];omega),by go_grown⟩
theorem l01In_any (n a b:Int)(w:World):Calls Tryz.prog 43 #[.int .i64 n,.int .i64 a,.int .i64 b] w fun e w'=>e=.returned (.bool (decide (a≤n) &&decide (n≤b)))∧Below w.heap.size w w':=by
 by_cases h1:a≤n
 ·go_enter Tryz.func43,Tryz.ntmps43;go_wp2;go_returns;exact⟨rB8 (by simp[h1]),by go_grown⟩
 ·go_enter Tryz.func43,Tryz.ntmps43;go_wp2;go_returns;exact⟨rB8 (by simp;omega),by go_grown⟩
end
section
open Go.RowKit
def goodV (x:V3):Prop:=okW x=true∧x.wf
theorem goodV.R {x:V3}(h:goodV x):goodR x:=by
 obtain⟨h1,h2,h3,h4⟩:=h;refine⟨wf_inN h3,?_⟩;have:x.s.data.toList.length=x.s.size:=Array.length_toList;unfold okW okB at h1;have nl:x.s.toList=[]→x.s.size=0:=fun e=>by
  have e2:x.s=⟨#[]⟩:=by rw[ByteArray.toList_eq]at e;exact ByteArray.ext (Array.toList_inj.1 e)
  rw[e2];rfl
 split at h1
 ·simp at h1;have:=nl h1.2;omega
 ·split at h1
  ·simp at h1;have:=nl h1;omega
  ·split at h1
   ·simp at h1;have:=nl h1.2;omega
   ·split at h1
    ·simp at h1;omega
    ·cases h1
theorem goodV_zero:goodV zeroR:=by
 refine⟨ok_0V,by decide,by decide,by decide⟩
theorem ok_kind {k n:Int}{s:ByteArray}(h:okB k n s=true):(Lit.int .i64 k).wf=true:=by
 unfold okB at h;split at h
 ·subst k;decide
 ·split at h
  ·subst k;decide
  ·split at h
   ·subst k;decide
   ·split at h
    ·subst k;decide
    ·cases h
theorem inN_wf {n:Int}(h:InN n):(Lit.int .i64 n).wf=true:=by
 have e1:IntKind.i64.min= -9223372036854775808:=by decide
 have e2:IntKind.i64.max=9223372036854775807:=by decide
 simp only[Lit.wf,Bool.and_eq_true,decide_eq_true_eq];unfold InN at h;omega
theorem goodV_of {k n:Int}(h:okB k n ⟨#[]⟩=true)(hn:InN n):goodV ⟨k,n,⟨#[]⟩⟩:=⟨h,ok_kind h,inN_wf hn,Nat.zero_le _⟩
theorem okNot (k n:Int):okB (notK k n) (notN k n) ⟨#[]⟩=true∧InN (notN k n):=by
 unfold notK notN;by_cases h:k=2
 ·by_cases h':n=0
  ·simp[h,h',okB,l_nilV,InN]
  ·simp[h,h',okB,l_nilV,InN]
 ·simp[h,okB,l_nilV,InN]
theorem okNul (k:Int):okB 2 (nulN k) ⟨#[]⟩=true∧InN (nulN k):=by
 unfold nulN;constructor
 ·split<;>simp[okB,l_nilV]
 ·split<;>decide
theorem res_ok (m:Int)(vs:List V3)(hv:∀x∈vs,goodV x):∀ (f:Nat) (e:E7) (w:World) (d:Nat) (u:Value) (F:List Nat),e.wf→KidsIs w d u e.ks F→wtE e≤1048576→okE f e=true→∃r,Res m f e vs r∧goodV r
 |0,_,_,_,_,_,_,_,_,h=>by cases h
 |f+1,e,w,d,u,F,hw,hk,hn,h=>by
  simp only[okE,Bool.and_eq_true,List.all_eq_true]at h;obtain⟨hp,hks⟩:=h;obtain⟨d,rfl⟩:=hk.succ;have kid:∀x∈e.ks,∃r,Res m f x vs r∧goodV r:=fun x hx=>by
   obtain⟨hxw,u',F',hK⟩:=kid_of hk hx;exact res_ok m vs hv f x w d u' F' hxw hK (by have:=wtE_mem hx;rw[wtE_eq]at hn;omega) (hks x hx)
  by_cases h0:e.k=0
  ·rw[partsB_0 h0]at hp;simp only[Bool.and_eq_true,colB,decide_eq_true_eq]at hp;refine⟨_,Or.inl ⟨h0,hp.1.1.1.1,rfl⟩,?_⟩;by_cases hl:e.n.toNat<vs.length
   ·rw[List.getD_eq_getElem?_getD,List.getElem?_eq_getElem hl];exact hv _ (List.getElem_mem hl)
   ·rw[List.getD_eq_getElem?_getD,List.getElem?_eq_none (by omega)];exact goodV_zero
  by_cases h1:e.k=1
  ·rw[partsB_1 h1]at hp;simp only[Bool.and_eq_true]at hp;exact⟨_,Or.inr (Or.inl ⟨h1,rfl⟩),hp.1.1.2,hw.2.2.1⟩
  by_cases h2:e.k=2
  ·rw[partsB_2 h2]at hp;simp only[Bool.and_eq_true,beq_iff_eq]at hp;obtain⟨a,b,hab⟩:=two_of hp.2;obtain⟨r0,p0,g0⟩:=kid a (by rw[hab];simp);obtain⟨r1,p1,g1⟩:=kid b (by rw[hab];simp);obtain⟨K,N,⟨hN,hO⟩,hI,hS⟩:=bothV_any e.p r0.k r0.n r1.k r1.n r0.s r1.s m g0.R.1 g1.R.1 g0.R.2 g1.R.2;exact⟨⟨K,N,⟨#[]⟩⟩,Or.inr (Or.inr (Or.inl ⟨h2,a,b,r0,r1,hab,p0,p1,rfl,hI,hS⟩)),goodV_of hO hN⟩
  by_cases h3:e.k=3
  ·rw[partsB_3 h3]at hp;simp only[Bool.and_eq_true,beq_iff_eq]at hp;obtain⟨a,hab⟩:=one_of hp.2;obtain⟨r0,p0,g0⟩:=kid a (by rw[hab];simp);exact⟨_,Or.inr (Or.inr (Or.inr (Or.inl ⟨h3,a,r0,hab,p0,rfl⟩))),goodV_of (okNot _ _).1 (okNot _ _).2⟩
  by_cases h4:e.k=4
  ·rw[partsB_4 h4]at hp;simp only[Bool.and_eq_true,beq_iff_eq]at hp;obtain⟨a,hab⟩:=one_of hp.2;obtain⟨r0,p0,g0⟩:=kid a (by rw[hab];simp);exact⟨_,Or.inr (Or.inr (Or.inr (Or.inr ⟨h4,a,r0,hab,p0,rfl⟩))),goodV_of (okNul _).1 (okNul _).2⟩
  rw[partsB_x h0 h1 h2 h3 h4]at hp;cases hp
def GoodE (e:E7):Prop:=e.wf∧okE 13 e=true∧wtE e≤1048576∧∃ (w:World) (d:Nat) (u:Value) (F:List Nat),KidsIs w d u e.ks F
def RowV (vs:List V3):Prop:=∀x∈vs,goodV x
structure VOk (m:Int)(V:E7→List V3→V3):Prop where
 res:∀e vs,GoodE e→RowV vs→Res m 13 e vs (V e vs)
 good:∀e vs,GoodE e→RowV vs→goodV (V e vs)
theorem vok_ex (m:Int):∃V,VOk m V:=by
 have h:∀ (e:E7) (vs:List V3),∃r,GoodE e→RowV vs→Res m 13 e vs r∧goodV r:=fun e vs=>by
  by_cases he:GoodE e
  ·by_cases hv:RowV vs
   ·obtain⟨hw,ho,hn,w,d,u,F,hk⟩:=he;obtain⟨r,h1,h2⟩:=res_ok m vs hv 13 e w d u F hw hk hn ho;exact⟨r,fun _ _=>⟨h1,h2⟩⟩
   ·exact⟨zeroR,fun _ h=>absurd h hv⟩
  ·exact⟨zeroR,fun h=>absurd h he⟩
 exact⟨fun e vs=>Classical.choose (h e vs),fun e vs he hv=>(Classical.choose_spec (h e vs) he hv).1,fun e vs he hv=>(Classical.choose_spec (h e vs) he hv).2⟩
end
section
open Go.RowKit Go.Deep Go.ChangeShapes Go.WideShapes
structure R3 where
 s:ByteArray
 W:Int
 cs:List C2
def R3.wf (x:R3):Prop:=x.s.size≤maxLen∧(Lit.int .i64 x.W).wf=true∧CsWf x.cs
def RsWf (rs:List R3):Prop:=∀y∈rs,y.wf
def RLies (w:World)(b o:Nat)(rs:List R3):Prop:=
 ∀i x,rs[i]?=some x→∃v,w.cell? ⟨b,o+i*3,none⟩=some (.string x.s)∧w.cell? ⟨b,o+i*3+1,none⟩=some (.int .i64 x.W)∧w.cell? ⟨b,o+i*3+2,none⟩=some v∧RowsIs w v x.cs
def RelsIs (w:World)(v:Value)(rs:List R3):Prop:=
 ∃a c,v=.slice a rs.length c∧rs.length≤c∧c≤maxLen∧(rs≠ []→∃b o,a=some ⟨b,o,none⟩∧b<w.heap.size∧RLies w b o rs)
theorem RLies.below {w w':World}{b o:Nat}{rs:List R3}(h:RLies w b o rs)(hb:Below w.heap.size w w')(hN:b<w.heap.size):RLies w' b o rs:=fun i x hx=>by
 obtain⟨v,h0,h1,h2,h3⟩:=h i x hx;exact⟨v,(hb.cell (p:=⟨b,o+i*3,none⟩) hN).trans h0,(hb.cell (p:=⟨b,o+i*3+1,none⟩) hN).trans h1,(hb.cell (p:=⟨b,o+i*3+2,none⟩) hN).trans h2,h3.below hb⟩
theorem RelsIs.below {w w':World}{v:Value}{rs:List R3}(h:RelsIs w v rs)(hb:Below w.heap.size w w'):RelsIs w' v rs:=by
 obtain⟨a,c,rfl,hl,hc,h⟩:=h;refine⟨a,c,rfl,hl,hc,fun hne=>?_⟩;obtain⟨b,o,rfl,hlt,hL⟩:=h hne;exact⟨b,o,rfl,Nat.lt_of_lt_of_le hlt hb.size,hL.below hb hlt⟩
theorem RelsIs.shape {w:World}{v:Value}{rs:List R3}(h:RelsIs w v rs):∃a l c,v=.slice a l c:=by
 obtain⟨a,c,h,_⟩:=h;exact⟨a,_,c,h⟩
theorem RelsIs.pick {w:World}{v:Value}{rs:List R3}(h:RelsIs w v rs):∃a c b o,v=.slice a rs.length c∧rs.length≤c∧c≤maxLen∧∀k,k<rs.length→a=some ⟨b,o,none⟩∧b<w.heap.size∧RLies w b o rs:=by
 obtain⟨a,c,rfl,hl,hc,h⟩:=h;by_cases hne:rs=[]
 ·exact⟨a,c,0,0,rfl,hl,hc,fun k hk=>by rw[hne]at hk;simp at hk⟩
 ·obtain⟨b,o,h⟩:=h hne;exact⟨a,c,b,o,rfl,hl,hc,fun _ _=>h⟩
theorem RLies.at {w w':World}{b o:Nat}{rs:List R3}(h:RLies w b o rs)(hlt:b<w.heap.size)(hb:Below w.heap.size w w'){k:Nat}(hk:k<rs.length):∃x v,rs[k]?=some x∧w'.cell? ⟨b,o+k*3,none⟩=some (.string x.s)∧w'.cell? ⟨b,o+k*3+1,none⟩=some (.int .i64 x.W)∧w'.cell? ⟨b,o+k*3+2,none⟩=some v∧RowsIs w' v x.cs∧b<w'.heap.size:=by
 obtain⟨v,h0,h1,h2,h3⟩:=h.below hb hlt k rs[k] (by simp[hk]);exact⟨rs[k],v,by simp[hk],h0,h1,h2,h3,Nat.lt_of_lt_of_le hlt hb.size⟩
def wtr (x:R3):Nat:=x.s.size+wtb x.cs
def wtrs (rs:List R3):Nat:=(rs.map wtr).sum
def wtR (rs:List R3):Nat:=rs.length+wtrs rs
theorem wtrs_take {rs:List R3}{k:Nat}{x:R3}(h:rs[k]?=some x):wtrs (rs.take (k+1))=wtrs (rs.take k)+wtr x:=by
 unfold wtrs;obtain⟨hk,rfl⟩:=gE1 h;rw[List.take_succ_eq_append_getElem hk,List.map_append,List.sum_append];simp only[List.map_cons,List.map_nil,List.sum_cons,List.sum_nil,Nat.add_zero]
theorem wtr_mem {rs:List R3}{x:R3}(h:x∈rs):wtr x≤wtrs rs:=by
 unfold wtrs;induction rs with
 |nil=>cases h
 |cons y ys ih=>
  simp only[List.map_cons,List.sum_cons];rcases List.mem_cons.1 h with rfl|h
  ·omega
  ·have:=ih h;omega
section
variable {H:Type} {enc:TypeId×Value→H} {P:Program} {w:World} {spare:Nat→Bool} {held:Bool}
theorem open_rels {t r e e1:TypeId}{K0 K1 L0 L1 G0 G1 F0 F1 F2:Field}{fuel:Nat}{v:Value}{x:DataW H×List MemPlace}(hst:P.underlying t=some (.slice r))(hr:P.underlying r=some (.struct #[K0,K1]))(cr:P.cellsOf r=3)(k0:K0.offset=0) (k1:K1.offset=1) (kc0:P.cellsOf K0.type=1) (kc1:P.cellsOf K1.type=2) (ks:P.underlying K0.type=some .string) (kb:P.underlying K1.type=some (.struct #[L0,L1]))(l0:L0.offset=0) (l1:L1.offset=1) (lc0:P.cellsOf L0.type=1) (lc1:P.cellsOf L1.type=1) (li:P.underlying L0.type=some (.int .i64))(ht:P.underlying L1.type=some (.slice e)) (he:P.underlying e=some (.struct #[G0,G1]))(cg:P.cellsOf e=2) (p0:G0.offset=0) (p1:G1.offset=1) (g0:P.cellsOf G0.type=1) (g1:P.cellsOf G1.type=1) (ut:P.underlying G0.type=some (.slice e1)) (un:P.underlying G1.type=some (.int .i64))(he1:P.underlying e1=some (.struct #[F0,F1,F2]))(ce:P.cellsOf e1=3) (o0:F0.offset=0) (o1:F1.offset=1) (o2:F2.offset=2) (c0:P.cellsOf F0.type=1) (c1:P.cellsOf F1.type=1) (c2:P.cellsOf F2.type=1)(u0:P.underlying F0.type=some (.int .i64)) (u1:P.underlying F1.type=some (.int .i64)) (u2:P.underlying F2.type=some .string)(h:DataW.trod enc P w 0 spare held fuel t [v]=some x):∃rs,RelsIs w v rs∧RsWf rs:=by
 rcases open_slice hst h with⟨h0,_⟩|⟨a,len,cap,m,n,D,Pl,hcs,hb,hl,hm,hmm,rfl,hx⟩
 ·simp at h0;subst h0;exact⟨[],⟨none,0,rfl,by simp,by simp,fun h=>absurd rfl h⟩,by simp[RsWf]⟩
 simp at hcs;subst hcs;have hlm:len≤m:=by rw[hmm];split<;>omega
 have each:∀i,i<len→∃q:Value×R3,w.cell? (a.add (i*3))=some (.string q.2.s)∧w.cell? (a.add (i*3+1))=some (.int .i64 q.2.W)∧w.cell? (a.add (i*3+2))=some q.1∧RowsIs w q.1 q.2.cs∧q.2.wf:=by
  intro i hi;obtain⟨cs',h1,h2⟩:=hx i (by omega);rw[cr]at h1;obtain⟨_,hlen,hcell⟩:=World.cells?_some h1;obtain⟨xs,k,hk,hxy,_,hxl,hf⟩:=DataW.trod_struct hr h2
  match xs,hxl,cs',hlen with
  | [y0,y1],_,[v0,v1,v2],_=>
   have f0:=hf 0 K0 rfl;have f1:=hf 1 K1 rfl;simp[k0,k1,kc0,kc1]at f0 f1;obtain⟨ys,k',hk',hyy,_,hyl,hg⟩:=DataW.trod_struct kb f1
   match ys,hyl with
   | [z0,z1],_=>
    have q0:=hg 0 L0 rfl;have q1:=hg 1 L1 rfl;simp[l0,l1,lc0,lc1]at q0 q1;have e0:=hcell 0 (by omega);have e1:=hcell 1 (by omega);have e2:=hcell 2 (by omega);rw[add_add]at e0 e1 e2;obtain⟨s0,r0,_,ws⟩:=DataW.trod_string ks f0;obtain⟨i0,r1,_,wi⟩:=DataW.trod_int li q0;simp at r0 r1;subst r0 r1;obtain⟨cs0,hr0,hw0⟩:=open_rows ht he cg p0 p1 g0 g1 ut un he1 ce o0 o1 o2 c0 c1 c2 u0 u1 u2 q1;exact⟨(v2,⟨s0,i0,cs0⟩),by simpa using e0,by simpa using e1,by simpa using e2,hr0,ws,wi,hw0⟩
 have:Inhabited (Value×R3):=⟨⟨.nilFunc,⟨⟨#[]⟩,0,[]⟩⟩⟩;obtain⟨q,hq⟩:=choose_lt each;refine⟨(List.range len).map fun i=>(q i).2,⟨some a,cap,by simp,by simpa using hl,hm,fun hne=>?_⟩,?_⟩
 ·have hpos:0<len:=by
   rcases Nat.eq_zero_or_pos len with h0|h0
   ·subst h0;simp at hne
   ·exact h0
  have hs:a.spot=none:=by have:=World.cell?_spot (hq 0 hpos).1;simpa [Addr.add]using this
  obtain⟨b,o,sp⟩:=a;simp at hs;subst hs;refine⟨b,o,rfl,?_,fun i x hx=>?_⟩
  ·have:=bl8 _ _ (hq 0 hpos).1
   simpa [Addr.add]using this
  ·have hi:i<len:=by
    have:=gE1 hx;obtain⟨h1,_⟩:=this
    simpa using h1
   have ex:x=(q i).2:=by simp[hi]at hx;exact hx.symm
   subst ex;obtain⟨h0,h1,h2,h3,_⟩:=hq i hi;rw[add_plain]at h0 h1 h2;exact⟨_,h0,by simpa [Nat.add_assoc]using h1,by simpa [Nat.add_assoc]using h2,h3⟩
 ·intro y hy;obtain⟨i,hi,rfl⟩:=List.mem_map.1 hy;exact(hq i (List.mem_range.1 hi)).2.2.2.2
end
end
end Go.Proofs.YtflokiejcjjbiaaGreat
