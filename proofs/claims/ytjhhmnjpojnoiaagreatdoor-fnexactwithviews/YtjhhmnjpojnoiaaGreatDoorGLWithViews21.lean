/- Own texts, joined: contracts that the law's proof goes by. -/
import Derived.Test.YtjhhmnjpojnoiaaGreatDoorGLWithViews20
import Derived.Test.YtjhhmnjpojnoiaaGreatDoorAsI
import Derived.Test.YtjhhmnjpojnoiaaGreatDoorGLWithViews1
set_option maxHeartbeats 16000000
set_option maxRecDepth 100000
set_option linter.unusedVariables false
set_option linter.unusedSimpArgs false
namespace Go.Proofs.YtjhhmnjpojnoiaaGreatDoor
section
section
open Go.RowKit Go.Deep
theorem rd_any {W0:World}{rs:List R3}{vd:Value}{Fd:List Nat}(hdb:okDb rs=true)(hR:RelsF W0 vd rs Fd):∀f,RdS W0 rs vd f
 |0=>rd_zero W0 rs vd hR.is.shape
 |f+1=>rd_step hdb hR (rd_any hdb hR f)
end
section
open Go.RowKit Go.Deep
theorem implWidth_any (rs:List R3)(p:P12)(ue us u:Value)(g:List Nat)(D d N:Nat)(vd:Value)(Fd:List Nat)(W0 w:World)(hb0:Below W0.heap.size W0 w)(hdb:okDb rs=true)(hw:p.wf)(hL:ListsP W0 D (PlansIs W0 D d) p ue us u g)(ho:Own W0 N g)(hn:wtP p≤1048576)(hR:RelsF W0 vd rs Fd)(hE:ErrT W0):Calls Tryz.prog 46 #[vd,(.agg #[.int .i64 p.k,.string p.s,.int .i64 p.e.k,.int .i64 p.e.n,.int .i64 p.e.v.k,.int .i64 p.e.v.n,.string p.e.v.s,.string p.e.p,ue,us,.int .i64 p.n,u])] w fun x w'=>(∃z:Int,x=.returned (.int .i64 z)∧(0≤wP8 rs 9 p→z=wP8 rs 9 p)∧(wP8 rs 9 p<0→z= -1))∧Below w.heap.size w w':=by
 have hzw:=hb0.size;have hRd:=fun(X:World) (hX:Below w.heap.size w X)=>rd_any hdb hR 9 p ue us u g D d N 0 X (hb0.trans (hX.mono hzw)) hw hL ho hn (by omega) (by omega);have hIf:=fun(X:World) (hX:Below w.heap.size w X)=>isFault_of 1 1 X (hE.below (hb0.trans (hX.mono hzw)));obtain⟨a1,c1,a2,c2,a3,c3,rfl,rfl,rfl,_,_,_,_,_,_⟩:=hL.shape;obtain⟨ad,ld,cd,rfl⟩:=hR.is.shape;have hB:=bxP_new w p (.slice a1 p.e.ks.length c1) (.slice a2 p.es.length c2) (.slice a3 p.ks.length c3) 66;clear hL hR ho hw hb0 hE;go_enter Tryz.func46,Tryz.ntmps46;go_wp2_with fail;refine cM8 (hRd _ bex) ?_;rintro z w2 ⟨hres,hb2⟩;have hz2:=hb2.size;(try simp at hz2);have bel2:Below w.heap.size w w2:=bex;clear hRd hb2;rcases hres with⟨hW,v,rfl,hRt⟩|⟨hW,rfl⟩
 ·obtain⟨us1,vals,_,_,_,⟨tt,xx,kk,rfl,hM0,_⟩,ta,tl,tc,rfl⟩:=hRt.parts;have HW:Hid (0≤wP8 rs 9 p):=hW;obtain⟨ow,HOW⟩:∃q,Hid (wP8 rs 9 p=q):=⟨_,rfl⟩;rw[HOW.out]at hM0;clear hRt hW;go_wp2_with fail;refine cM8 (isFault_nil _ _) ?_;rintro z w3 ⟨rfl,hb3⟩;have bel3:Below w.heap.size w w3:=bex;clear hb3;go_wp2_with(go_at_call 191;refine cM8 (frameWidth_any _ _ _ _ _ _) ?_;rintro z w4 ⟨rfl,hb4⟩);go_returns;exact⟨⟨ow,rfl,fun _=>HOW.out.symm,fun h=>by have:=HW.out;omega⟩,bel3.trans (hb4.mono bel3.size)⟩
 ·have HW:Hid (wP8 rs 9 p<0):=hW;clear hW;go_wp2_with fail;refine cM8 (hIf _ bex) ?_;rintro z w3 ⟨rfl,hb3⟩;have bel3:Below w.heap.size w w3:=bex;clear hb3;go_wp2;go_returns;exact⟨⟨-1,rfl,fun h=>by have:=HW.out;omega,fun _=>rfl⟩,bel3⟩
end
end
end Go.Proofs.YtjhhmnjpojnoiaaGreatDoor
