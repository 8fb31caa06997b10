/- Own text. The contract of spec.Width. -/
import Derived.Test.YtjhhmnjpojnoiaaGreatDoorWdW
import Derived.Test.YtjhhmnjpojnoiaaGreatDoorGLWithViews1
set_option maxHeartbeats 16000000
set_option maxRecDepth 100000
set_option linter.unusedVariables false
set_option linter.unusedSimpArgs false
namespace Go.Proofs.YtjhhmnjpojnoiaaGreatDoor
section
section
open Go.RowKit Go.Deep
theorem specWidth_any (rs:List R3)(p:P12)(ue us u:Value)(g:List Nat)(D d:Nat)(vd:Value)(Fd:List Nat)(w:World)(hw:p.wf)(hL:ListsP w D (PlansIs w D d) p ue us u g)(hn:wtP p≤1048576)(hR:RelsF w vd rs Fd):Calls Tryz.prog 39 #[vd,(.agg #[.int .i64 p.k,.string p.s,.int .i64 p.e.k,.int .i64 p.e.n,.int .i64 p.e.v.k,.int .i64 p.e.v.n,.string p.e.v.s,.string p.e.p,ue,us,.int .i64 p.n,u])] w fun x w'=>x=.returned (.int .i64 (wP8 rs 9 p))∧Below w.heap.size w w':=by
 obtain⟨a1,c1,a2,c2,a3,c3,rfl,rfl,rfl,_,_,_,_,_,_⟩:=hL.shape;obtain⟨ad,ld,cd,rfl⟩:=hR.is.shape;have hI:∀w2,Below w.heap.size w w2→Calls Tryz.prog 62 #[.slice ad ld cd,(.agg #[.int .i64 p.k,.string p.s,.int .i64 p.e.k,.int .i64 p.e.n,.int .i64 p.e.v.k,.int .i64 p.e.v.n,.string p.e.v.s,.string p.e.p,(.slice a1 p.e.ks.length c1),(.slice a2 p.es.length c2),.int .i64 p.n,(.slice a3 p.ks.length c3)]),.int .i64 8] w2 fun x w'=>x=.returned (.int .i64 (wP8 rs 9 p))∧Below w2.heap.size w2 w':=fun w2 hb=>wdI_any rs 9 p _ _ _ g D d _ Fd w2 hw (hL.below hb) hn (hR.below hb) (Nat.le_refl _);clear hL hR;go_enter Tryz.func39,Tryz.ntmps39;go_wp2_with fail;refine cM8 (hI _ bex) ?_;rintro z w2 ⟨rfl,hb2⟩;have hz2:=hb2.size;(try simp at hz2);go_wp2;go_returns;exact⟨rfl,bex⟩
end
end
end Go.Proofs.YtjhhmnjpojnoiaaGreatDoor
