/- Own text. The parts of an expression: the contract of impl.partsOk. -/
import Derived.Test.YtjhhmnjpojnoiaaGreatDoorGLWithViews5
import Derived.Test.YtjhhmnjpojnoiaaGreatDoorGLWithViews1
import Derived.Test.YtjhhmnjpojnoiaaGreatDoorVOkImpl
import Derived.Test.YtjhhmnjpojnoiaaGreatDoorGLWithViews9
import Derived.Handy
import Derived.Deep.RegionHeld3
set_option maxHeartbeats 16000000
set_option maxRecDepth 100000
set_option linter.unusedVariables false
set_option linter.unusedSimpArgs false
namespace Go.Proofs.YtjhhmnjpojnoiaaGreatDoor
section
section
open Go.RowKit
def zeroV (v:V3):Bool:=v.k==0 && (v.n==0 &&v.s.toList==[])
def colB (n:Int):Bool:=decide (0≤n) &&decide (n<12)
def partsB (e:E7):Bool:=
 if e.k=0 then colB e.n &&zeroV e.v &&e.p.toList==[] &&e.ks.length==0
 else if e.k=1 then e.n==0 &&okB e.v.k e.v.n e.v.s &&e.p.toList==[] &&e.ks.length==0
 else if e.k=2 then e.n==0 &&zeroV e.v &&opB e.p &&e.ks.length==2
 else if e.k=3∨e.k=4 then e.n==0 &&zeroV e.v &&e.p.toList==[] &&e.ks.length==1
 else false
theorem colOk_any (n:Int)(w:World):Calls Tryz.prog 155 #[.int .i64 n] w fun e w'=>e=.returned (.bool (colB n))∧Below w.heap.size w w':=by
 by_cases h1:0≤n
 ·go_enter Tryz.func155,Tryz.ntmps155;go_wp2;go_returns;exact⟨rB8 (by simp[colB,h1]),by go_grown⟩
 ·go_enter Tryz.func155,Tryz.ntmps155;go_wp2;go_returns;exact⟨rB8 (by simp[colB];omega),by go_grown⟩
theorem mb0 (m:Nat):((m:Int)==0)=(m==0):=by rw[Bool.eq_iff_iff];simp
theorem mb1 (m:Nat):((m:Int)==1)=(m==1):=by rw[Bool.eq_iff_iff];simp;omega
theorem mb2 (m:Nat):((m:Int)==2)=(m==2):=by rw[Bool.eq_iff_iff];simp;omega
theorem partsB_0 {e:E7}(h:e.k=0):partsB e=(colB e.n &&zeroV e.v &&e.p.toList==[] &&e.ks.length==0):=by simp[partsB,h]
theorem partsB_1 {e:E7}(h:e.k=1):partsB e=(e.n==0 &&okB e.v.k e.v.n e.v.s &&e.p.toList==[] &&e.ks.length==0):=by simp[partsB,h]
theorem partsB_2 {e:E7}(h:e.k=2):partsB e=(e.n==0 &&zeroV e.v &&opB e.p &&e.ks.length==2):=by simp[partsB,h]
theorem partsB_3 {e:E7}(h:e.k=3):partsB e=(e.n==0 &&zeroV e.v &&e.p.toList==[] &&e.ks.length==1):=by simp[partsB,h]
theorem partsB_4 {e:E7}(h:e.k=4):partsB e=(e.n==0 &&zeroV e.v &&e.p.toList==[] &&e.ks.length==1):=by simp[partsB,h]
theorem partsB_x {e:E7}(h0:¬e.k=0)(h1:¬e.k=1)(h2:¬e.k=2)(h3:¬e.k=3)(h4:¬e.k=4):partsB e=false:=by simp[partsB,h0,h1,h2,h3,h4]
theorem partsOk_0 (e:E7)(a:Option Addr)(c:Nat)(w:World)(hs:e.v.s.size≤maxLen)(hc:e.ks.length≤maxLen)(h:e.k=0):Calls Tryz.prog 152 #[(.agg #[.int .i64 e.k,.int .i64 e.n,.int .i64 e.v.k,.int .i64 e.v.n,.string e.v.s,.string e.p,(.slice a e.ks.length c)])] w fun x w'=>x=.returned (.bool (partsB e))∧Below w.heap.size w w':=by
 rw[partsB_0 h];have hq:=eqV;unfold maxLen at hc;generalize e.ks.length=m at*;generalize e.k=k at*;generalize e.n=n at*;generalize e.v=v at*;generalize e.p=p at*;obtain⟨vk,vn,vs⟩:=v;dsimp only at*;subst h;go_enter Tryz.func152,Tryz.ntmps152;go_wp2_with fail;refine cM8 (colOk_any n _) ?_;rintro x w1 ⟨rfl,hb1⟩;have hz1:=hb1.size;simp at hz1;have q2:w1.cell? ⟨w.heap.size,2,none⟩=some (.int .i64 vk):=cL8 hb1 (by go_simp);have q3:w1.cell? ⟨w.heap.size,3,none⟩=some (.int .i64 vn):=cL8 hb1 (by go_simp);have q4:w1.cell? ⟨w.heap.size,4,none⟩=some (.string vs):=cL8 hb1 (by go_simp);have q5:w1.cell? ⟨w.heap.size,5,none⟩=some (.string p):=cL8 hb1 (by go_simp);have z0:w1.cell? ⟨w.heap.size+1,0,none⟩=some (.int .i64 0):=cL8 hb1 (by go_simp);have z1:w1.cell? ⟨w.heap.size+1,1,none⟩=some (.int .i64 0):=cL8 hb1 (by go_simp);have z2:w1.cell? ⟨w.heap.size+1,2,none⟩=some (.string ⟨#[]⟩):=cL8 hb1 (by go_simp);have bel:Below w.heap.size w w1:=bex;generalize hB:colB n=b1;have HB:Hid _:=hB;clear hb1 hB;go_wp2;all_goals(go_returns;exact⟨rB8 (by clear hq;(try have hB:=HB.out);simp_all [zeroV,mb0]),bex⟩)
theorem partsOk_1 (e:E7)(a:Option Addr)(c:Nat)(w:World)(hs:e.v.s.size≤maxLen)(hc:e.ks.length≤maxLen)(h:e.k=1):Calls Tryz.prog 152 #[(.agg #[.int .i64 e.k,.int .i64 e.n,.int .i64 e.v.k,.int .i64 e.v.n,.string e.v.s,.string e.p,(.slice a e.ks.length c)])] w fun x w'=>x=.returned (.bool (partsB e))∧Below w.heap.size w w':=by
 rw[partsB_1 h];have hq:=eqV;unfold maxLen at hc;generalize e.ks.length=m at*;generalize e.k=k at*;generalize e.n=n at*;generalize e.v=v at*;generalize e.p=p at*;obtain⟨vk,vn,vs⟩:=v;dsimp only at*;subst h;go_enter Tryz.func152,Tryz.ntmps152;go_wp2_with fail
 ·refine cM8 (implValueOk_any vk vn vs _ hs) ?_;rintro x w1 ⟨rfl,hb1⟩;have hz1:=hb1.size;simp at hz1;have q5:w1.cell? ⟨w.heap.size,5,none⟩=some (.string p):=cL8 hb1 (by go_simp);have bel:Below w.heap.size w w1:=bex;generalize hB:okB vk vn vs=b1;have HB:Hid _:=hB;clear hb1 hB;go_wp2;all_goals(go_returns;exact⟨rB8 (by clear hq;(try have hB:=HB.out);simp_all [mb0]),bex⟩)
 ·go_returns;exact⟨rB8 (by simp_all),bex⟩
theorem partsOk_2 (e:E7)(a:Option Addr)(c:Nat)(w:World)(hs:e.v.s.size≤maxLen)(hc:e.ks.length≤maxLen)(h:e.k=2):Calls Tryz.prog 152 #[(.agg #[.int .i64 e.k,.int .i64 e.n,.int .i64 e.v.k,.int .i64 e.v.n,.string e.v.s,.string e.p,(.slice a e.ks.length c)])] w fun x w'=>x=.returned (.bool (partsB e))∧Below w.heap.size w w':=by
 rw[partsB_2 h];have hq:=eqV;unfold maxLen at hc;generalize e.ks.length=m at*;generalize e.k=k at*;generalize e.n=n at*;generalize e.v=v at*;generalize e.p=p at*;obtain⟨vk,vn,vs⟩:=v;dsimp only at*;subst h;go_enter Tryz.func152,Tryz.ntmps152;go_wp2_with fail
 ·refine cM8 (opOk_any p _) ?_;rintro x w1 ⟨rfl,hb1⟩;have hz1:=hb1.size;simp at hz1;have bel:Below w.heap.size w w1:=bex;generalize hB:opB p=b1;have HB:Hid _:=hB;clear hb1 hB;go_wp2;all_goals(go_returns;exact⟨rB8 (by clear hq;(try have hB:=HB.out);simp_all [zeroV,mb2]),bex⟩)
 all_goals(go_returns;exact⟨rB8 (by clear hq;(try have hB:=HB.out);simp_all [zeroV]),bex⟩)
theorem partsOk_3 (e:E7)(a:Option Addr)(c:Nat)(w:World)(hs:e.v.s.size≤maxLen)(hc:e.ks.length≤maxLen)(h:e.k=3):Calls Tryz.prog 152 #[(.agg #[.int .i64 e.k,.int .i64 e.n,.int .i64 e.v.k,.int .i64 e.v.n,.string e.v.s,.string e.p,(.slice a e.ks.length c)])] w fun x w'=>x=.returned (.bool (partsB e))∧Below w.heap.size w w':=by
 rw[partsB_3 h];have hq:=eqV;unfold maxLen at hc;generalize e.ks.length=m at*;generalize e.k=k at*;generalize e.n=n at*;generalize e.v=v at*;generalize e.p=p at*;obtain⟨vk,vn,vs⟩:=v;dsimp only at*;subst h;go_enter Tryz.func152,Tryz.ntmps152;go_wp2;all_goals(go_returns;exact⟨rB8 (by clear hq;(try have hB:=HB.out);simp_all [zeroV,mb1]),bex⟩)
theorem partsOk_4 (e:E7)(a:Option Addr)(c:Nat)(w:World)(hs:e.v.s.size≤maxLen)(hc:e.ks.length≤maxLen)(h:e.k=4):Calls Tryz.prog 152 #[(.agg #[.int .i64 e.k,.int .i64 e.n,.int .i64 e.v.k,.int .i64 e.v.n,.string e.v.s,.string e.p,(.slice a e.ks.length c)])] w fun x w'=>x=.returned (.bool (partsB e))∧Below w.heap.size w w':=by
 rw[partsB_4 h];have hq:=eqV;unfold maxLen at hc;generalize e.ks.length=m at*;generalize e.k=k at*;generalize e.n=n at*;generalize e.v=v at*;generalize e.p=p at*;obtain⟨vk,vn,vs⟩:=v;dsimp only at*;subst h;go_enter Tryz.func152,Tryz.ntmps152;go_wp2;all_goals(go_returns;exact⟨rB8 (by clear hq;(try have hB:=HB.out);simp_all [zeroV,mb1]),bex⟩)
theorem partsOk_x (e:E7)(a:Option Addr)(c:Nat)(w:World)(hs:e.v.s.size≤maxLen)(hc:e.ks.length≤maxLen)(h0:¬e.k=0)(h1:¬e.k=1)(h2:¬e.k=2)(h3:¬e.k=3)(h4:¬e.k=4):Calls Tryz.prog 152 #[(.agg #[.int .i64 e.k,.int .i64 e.n,.int .i64 e.v.k,.int .i64 e.v.n,.string e.v.s,.string e.p,(.slice a e.ks.length c)])] w fun x w'=>x=.returned (.bool (partsB e))∧Below w.heap.size w w':=by
 rw[partsB_x h0 h1 h2 h3 h4];have hq:=eqV;unfold maxLen at hc;generalize e.ks.length=m at*;generalize e.k=k at*;generalize e.n=n at*;generalize e.v=v at*;generalize e.p=p at*;obtain⟨vk,vn,vs⟩:=v;dsimp only at*;go_enter Tryz.func152,Tryz.ntmps152;go_wp2;all_goals(go_returns;exact⟨rfl,bex⟩)
theorem partsOk_any (e:E7)(a:Option Addr)(c:Nat)(w:World)(hs:e.v.s.size≤maxLen)(hc:e.ks.length≤maxLen):Calls Tryz.prog 152 #[(.agg #[.int .i64 e.k,.int .i64 e.n,.int .i64 e.v.k,.int .i64 e.v.n,.string e.v.s,.string e.p,(.slice a e.ks.length c)])] w fun x w'=>x=.returned (.bool (partsB e))∧Below w.heap.size w w':=by
 by_cases h0:e.k=0
 ·exact partsOk_0 e a c w hs hc h0
 by_cases h1:e.k=1
 ·exact partsOk_1 e a c w hs hc h1
 by_cases h2:e.k=2
 ·exact partsOk_2 e a c w hs hc h2
 by_cases h3:e.k=3
 ·exact partsOk_3 e a c w hs hc h3
 by_cases h4:e.k=4
 ·exact partsOk_4 e a c w hs hc h4
 exact partsOk_x e a c w hs hc h0 h1 h2 h3 h4
end
end
end Go.Proofs.YtjhhmnjpojnoiaaGreatDoor
