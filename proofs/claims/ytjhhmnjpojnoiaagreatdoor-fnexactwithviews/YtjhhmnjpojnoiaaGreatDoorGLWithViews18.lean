/- Own texts, joined: contracts that the law's proof goes by. -/
import Derived.Test.YtjhhmnjpojnoiaaGreatDoorGLWithViews11
import Derived.Test.YtjhhmnjpojnoiaaGreatDoorGLWithViews1
import Derived.Handy
import Derived.Deep.RegionHeld3
import Derived.Test.YtjhhmnjpojnoiaaGreatDoorGLWithViews4
import Derived.Test.YtjhhmnjpojnoiaaGreatDoorGLWithViews7
set_option maxHeartbeats 16000000
set_option maxRecDepth 100000
set_option linter.unusedVariables false
set_option linter.unusedSimpArgs false
namespace Go.Proofs.YtjhhmnjpojnoiaaGreatDoor
section
section
open Go.RowKit
theorem tableFn_any (s:ByteArray)(nb:Nat)(u:Value)(x:R3)(w:World)(hv:w.cell? ⟨nb,0,none⟩=some (.string s))(hnb:nb<w.heap.size)(hR:RowsIs w u x.cs):Calls Tryz.prog 137 #[.agg #[.string x.s,.int .i64 x.W,u],.pointer (some ⟨nb,0,none⟩)] w fun e w'=>e=.returned (.bool (x.s.toList==s.toList))∧Below w.heap.size w w':=by
 obtain⟨a,l,c,rfl⟩:=hR.shape;go_enter Tryz.func137,Tryz.ntmps137;go_wp2;go_returns;exact⟨rfl,bex⟩
def IdxOfT (db:List R3)(s:ByteArray)(z:Int):Prop:=(z<0∧relOf db s=none)∨∃ (k:Nat) (x:R3),z=k∧db[k]?=some x∧relOf db s=some x
theorem indexTab_any (s:ByteArray)(nb:Nat)(v:Value)(rs:List R3)(w:World)(hv:w.cell? ⟨nb,0,none⟩=some (.string s))(hnb:nb<w.heap.size)(hr:RelsIs w v rs):Calls Tryz.prog 73 #[v,.func (.func 137) #[] #[.pointer (some ⟨nb,0,none⟩)]] w fun e w'=>(∃z:Int,e=.returned (.int .i64 z)∧IdxOfT rs s z)∧Below w.heap.size w w':=by
 obtain⟨a,c,b,o,rfl,hl,hc,ha⟩:=hr.pick;unfold maxLen at hc;clear hr;go_enter Tryz.func73,Tryz.ntmps73;go_wp2;go_loopw [8] (fun i wr=> ∃k:Nat,k≤rs.length∧i=.int .i64 k∧Below w.heap.size w wr∧relOf rs s=relOf (rs.drop k) s) (fun i _=>rs.length - (intOf i).toNat)
 case atStart=>exact⟨0,Nat.zero_le _,rfl,bex,by simp⟩
 case round=>
  obtain⟨k,hk,rfl,hb,heq⟩:=hrel;have HE:Hid (relOf rs s=relOf (rs.drop k) s):=heq;have hzb:=hb.size;have hvr:=((bc8 hb).1 _ _ hnb).trans hv;clear heq;by_cases hlt:k<rs.length
  ·obtain⟨rfl,hblt,hLr⟩:=ha k hlt;obtain⟨x,u,hx,c0,c1,c2,hR,hbr⟩:=hLr.at hblt hb hlt;have HX:Hid (rs[k]?=some x):=hx;have HS:Hid (relOf (rs.drop k) s=if(x.s.toList==s.toList)=true then some x else relOf (rs.drop (k+1)) s):=relOf_step hx;have hcall:=tableFn_any s nb u x wr hvr (by omega) hR;obtain⟨au,cu,bu,ou,rfl,_,_,_⟩:=hR.pick;clear ha hLr hx hR hvr;cases hh:(x.s.toList==s.toList)with
   |true=>
    rw[hh]at hcall;have HH:Hid ((x.s.toList==s.toList)=true):=hh;clear hh;go_wp2_with fail;refine cM8 hcall ?_;rintro q w2 ⟨rfl,hb2⟩;have belE:Below w.heap.size w w2:=hb.trans (hb2.mono hzb);clear hcall;go_wp2_with fail;go_returns;exact⟨⟨k,rfl,.inr ⟨k,x,rfl,HX.out,by rw[HE.out,HS.out,HH.out];rfl⟩⟩,belE⟩
   |false=>
    rw[hh]at hcall;have HH:Hid ((x.s.toList==s.toList)=false):=hh;clear hh;go_wp2_with fail;refine cM8 hcall ?_;rintro q w2 ⟨rfl,hb2⟩;have belE:Below w.heap.size w w2:=hb.trans (hb2.mono hzb);clear hcall;go_wp2_with fail;exact⟨⟨k+1,hlt,by simp,belE,by rw[HE.out,HS.out,HH.out];rfl⟩,by simp[intOf];omega⟩
  ·obtain rfl:k=rs.length:=by omega
   have HT:Hid (relOf rs s=none):=by show _=_;rw[HE.out,List.drop_length];rfl
   clear ha;go_wp2;go_returns;exact⟨⟨-1,rfl,.inl ⟨by omega,HT.out⟩⟩,hb⟩
theorem tableOf_none (s:ByteArray)(v:Value)(rs:List R3)(w:World)(hr:RelsIs w v rs)(h:relOf rs s=none):Calls Tryz.prog 119 #[v,.string s] w fun e w'=>e=.returned .nilIface∧Below w.heap.size w w':=by
 have hI:=fun(w2:World) (hb:Below w.heap.size w w2) (hc:w2.cell? ⟨w.heap.size,0,none⟩=some (.string s))=>indexTab_any s w.heap.size v rs w2 hc (bl8 _ _ hc) (hr.below hb);obtain⟨a,c,b,o,rfl,hl,hc,ha⟩:=hr.pick;clear hr ha;go_enter Tryz.func119,Tryz.ntmps119;go_wp2_with fail;refine cM8 (hI _ bex (by go_simp)) ?_;rintro q w2 ⟨⟨z,rfl,hz⟩,hb2⟩;have hz2:=hb2.size;simp at hz2;rcases hz with⟨hz,_⟩|⟨k,x,rfl,hx,hx2⟩
 ·clear hI;go_wp2_with fail;go_returns;exact⟨rfl,bex⟩
 ·rw[h]at hx2;cases hx2
end
section
open Go.RowKit
theorem tableOf_base (W0:World)(s:ByteArray)(v:Value)(rs:List R3)(F:List Nat)(x:R3)(w:World)(hr:RelsF W0 v rs F)(hb0:Below W0.heap.size W0 w)(h:relOf rs s=some x)(h0:0≤x.W):Calls Tryz.prog 119 #[v,.string s] w fun e w'=>(∃u G,e=.returned (.iface 214 (.agg #[.int .i64 0,.int .i64 x.W,.slice none 0 0,.string s,.int .i64 x.W,u]))∧RowsF W0 u x.cs G)∧Below w.heap.size w w':=by
 have hI:=fun(w2:World) (hb:Below w.heap.size w w2) (hc:w2.cell? ⟨w.heap.size,0,none⟩=some (.string s))=>indexTab_any s w.heap.size v rs w2 hc (bl8 _ _ hc) ((hr.below hb0).is.below hb);obtain⟨a,c,b,o,G0,rfl,hl,hc,_,hG0,_,hC,ha⟩:=hr.pick;unfold maxLen at hc;have hzw:=hb0.size;clear hr;go_enter Tryz.func119,Tryz.ntmps119;go_wp2_with fail;refine cM8 (hI _ bex (by go_simp)) ?_;rintro q w2 ⟨⟨z,rfl,hz⟩,hb2⟩;have hz2:=hb2.size;simp at hz2;rcases hz with⟨_,hz⟩|⟨k,y,rfl,hx,hx2⟩
 ·rw[h]at hz;cases hz
 ·rw[h]at hx2;injection hx2 with hx2;subst hx2;obtain⟨hk,_⟩:=gE1 hx;obtain⟨rfl,hblt,_⟩:=ha k hk;have bel2:Below w.heap.size w w2:=bex;have belW:Below W0.heap.size W0 w2:=hb0.trans (bel2.mono hzw);obtain⟨x',u,g,hx',d0,d1,d2,hR,_⟩:=hC.at hG0 hblt (Below.refl _ _) hk;rw[hx]at hx';injection hx' with hx';subst hx';have c0:=((bc8 belW).1 _ _ hblt).trans d0;have c1:=((bc8 belW).1 _ _ hblt).trans d1;have c2:=((bc8 belW).1 _ _ hblt).trans d2;have hbr:b<w2.heap.size:=by omega
  have q0:w2.cell? ⟨w.heap.size,0,none⟩=some (.string s):=cL8 hb2 (by go_simp);have hkI:(k:Int)<rs.length:=by omega
  have HR:Hid (RowsF W0 u x.cs g):=hR;obtain⟨au,lu,cu,rfl⟩:=hR.is.shape;clear ha hC hI hx hb2 d0 d1 d2 belW hb0 hR;go_wp2_with fail;go_region_held3 (fun w'=>w'.cell? ⟨w.heap.size,0,none⟩=some (.string s)∧w'.cell? ⟨b,o+k*3+1,none⟩=some (.int .i64 x.W)∧w'.cell? ⟨b,o+k*3+2,none⟩=some (.slice au lu cu)) (refine⟨?_,?_,?_⟩<;>first|(with_reducible assumption)|(go_simp;done)) (fail);try go_wp2_with fail
  go_returns;exact⟨⟨_,g,rfl,HR.out⟩,bex⟩
end
end
end Go.Proofs.YtjhhmnjpojnoiaaGreatDoor
