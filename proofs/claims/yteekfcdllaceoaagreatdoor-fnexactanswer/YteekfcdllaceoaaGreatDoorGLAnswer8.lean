/- Own texts, joined: contracts that the law's proof goes by. -/
import Derived.Test.YteekfcdllaceoaaGreatDoorGLAnswer7
import Derived.Test.YteekfcdllaceoaaGreatDoorGLAnswer1
import Derived.Test.YteekfcdllaceoaaGreatDoorGLAnswer5
import Derived.Test.YteekfcdllaceoaaGreatDoorPutX
import Derived.Deep.RegionHeld3
import Derived.Test.YteekfcdllaceoaaGreatDoorGLAnswer9
import Derived.Test.YteekfcdllaceoaaGreatDoorGLAnswer3
import Derived.Deep.DeepCutAuto
set_option maxHeartbeats 16000000
set_option maxRecDepth 100000
set_option linter.unusedVariables false
set_option linter.unusedSimpArgs false
namespace Go.Proofs.YteekfcdllaceoaaGreatDoor
section
open Go.RowKit
def EvS (f:Nat):Prop:=∀ (m:Int) (e:E7) (u:Value) (F:List Nat) (d:Nat) (v:Value) (vs:List V3) (r:V3) (w:World),e.wf->C1 w d u e.ks F->E3 w v vs->Res m f e vs r->
  Calls Tryz.prog 98 #[(.agg #[.int .i64 e.k,.int .i64 e.n,.int .i64 e.v.k,.int .i64 e.v.n,.string e.v.s,.string e.p,u]),v] w fun x w'=>x=.returned (.agg #[.int .i64 r.k,.int .i64 r.n,.string r.s])/\Below w.heap.size w w'
theorem A5H {l:List E7}{x:E7}(h:l=[x]):0<l.length:=by rw[h];exact Nat.one_pos
theorem B4F:EvS 0:=fun _ _ _ _ _ _ _ _ _ _ _ _ h=>h.elim
theorem B5g {e:E7}{u:Value}{F:List Nat}{d:Nat}{v:Value}{vs:List V3}{w:World}(hw:e.wf)(hk:C1 w d u e.ks F)(hv:E3 w v vs)(h0:e.k=0)(hn:0<=e.n):Calls Tryz.prog 98 #[(.agg #[.int .i64 e.k,.int .i64 e.n,.int .i64 e.v.k,.int .i64 e.v.n,.string e.v.s,.string e.p,u]),v] w fun x w'=>x=.returned (.agg #[.int .i64 (vs.getD e.n.toNat A0Q).k,.int .i64 (vs.getD e.n.toNat A0Q).n,.string (vs.getD e.n.toNat A0Q).s])/\Below w.heap.size w w':=by
 obtain⟨a,c,rfl,_,hc⟩:=hk.shape;obtain⟨a',c',b',o',rfl,hl',hc',ha'⟩:=hv.pick;unfold maxLen at hc hc';clear hk hv;by_cases hlt:e.n.toNat<vs.length
 ·obtain⟨rfl,hblt,hL⟩:=ha' _ hlt;obtain⟨N,hN⟩:∃N:Nat,e.n=N:=⟨e.n.toNat,by omega⟩;have hNt:e.n.toNat=N:=by omega
  rw[hNt]at hlt⊢;obtain⟨x,hx,c0,c1,c2,hbr⟩:=hL.at hblt (Below.refl _ _) hlt;rw[List.getD_eq_getElem?_getD,hx,hN,h0];have A2p:(N:Int)<vs.length:=by omega
  simp only[Option.getD_some];clear ha' hL hx hw;go_enter Tryz.func98,Tryz.ntmps98;go_wp2;go_returns;exact⟨rfl,bex⟩
 ·rw[List.getD_eq_getElem?_getD,List.getElem?_eq_none (by omega),h0];have hge:(vs.length:Int)<=e.n:=by omega
  clear ha' hw;go_enter Tryz.func98,Tryz.ntmps98;go_wp2;go_returns;exact⟨rfl,bex⟩
theorem B6d {e:E7}{u:Value}{F:List Nat}{d:Nat}{v:Value}{vs:List V3}{w:World}(hw:e.wf)(hk:C1 w d u e.ks F)(hv:E3 w v vs)(h0:e.k=1):Calls Tryz.prog 98 #[(.agg #[.int .i64 e.k,.int .i64 e.n,.int .i64 e.v.k,.int .i64 e.v.n,.string e.v.s,.string e.p,u]),v] w fun x w'=>x=.returned (.agg #[.int .i64 e.v.k,.int .i64 e.v.n,.string e.v.s])/\Below w.heap.size w w':=by
 obtain⟨a,c,rfl,_,hc⟩:=hk.shape;rw[h0];clear hk hw;go_enter Tryz.func98,Tryz.ntmps98;go_wp2;go_returns;exact⟨rfl,bex⟩
theorem B5r {m:Int}{f:Nat}(hI:EvS f){e x:E7}{r:V3}{u:Value}{F:List Nat}{d:Nat}{v:Value}{vs:List V3}{w:World}(hw:e.wf)(hk:C1 w d u e.ks F)(hv:E3 w v vs)(h0:e.k=3)(hx:e.ks=[x])(hr:Res m f x vs r):Calls Tryz.prog 98 #[(.agg #[.int .i64 e.k,.int .i64 e.n,.int .i64 e.v.k,.int .i64 e.v.n,.string e.v.s,.string e.p,u]),v] w fun y w'=>y=.returned (.agg #[.int .i64 (m9 r.k r.n),.int .i64 (j4 r.k r.n),.string ⟨#[]⟩])/\Below w.heap.size w w':=by
 obtain⟨d,rfl⟩:=hk.succ;obtain⟨a,c,b,o,G,rfl,hl,hc,hG,_,ha⟩:=hk.pick;obtain⟨rfl,hblt,_,hL⟩:=ha 0 (A5H hx);obtain⟨x',g,u,hx',hg,hxw,⟨c0,c1,c2,c3,c4,c5⟩,c6,hK,hbr⟩:=hL.at hG hblt (Below.refl _ _) (k:=0) (A5H hx);obtain rfl:x=x':=by rw[hx]at hx';simpa using hx'
 obtain⟨ax,cx,rfl,_,_⟩:=hK.shape;obtain⟨a',c',hv'⟩:∃a' c',v=.slice a' vs.length c':=by obtain⟨a',c',b',o',h,_⟩:=hv.pick;exact⟨a',c',h⟩
 subst hv';unfold maxLen at hc;have D3:e.ks.length=1:=by rw[hx];rfl
 rw[h0,D3];simp only[Nat.zero_mul,Nat.add_zero]at c0 c1 c2 c3 c4 c5 c6;clear hk hw ha hL hx hx' h0 D3 hl hG;go_enter Tryz.func98,Tryz.ntmps98;go_wp2_with fail;refine cM8 (hI m x (.slice ax x.ks.length cx) g d (.slice a' vs.length c') vs r _ hxw (hK.below ?hb) (hv.below ?hb2) hr) ?_
 case hb=>exact bex
 case hb2=>exact bex
 rintro y w2 ⟨rfl,hb2⟩;have hz2:=hb2.size;simp at hz2;have C0:Below w.heap.size w w2:=bex;have q0:w2.cell? ⟨w.heap.size+1,0,none⟩=some (.int .i64 0):=cl8 hb2;have q1:w2.cell? ⟨w.heap.size+1,1,none⟩=some (.int .i64 0):=cl8 hb2;have q2:w2.cell? ⟨w.heap.size+1,2,none⟩=some (.string ⟨#[]⟩):=cl8 hb2;have f2:=(bc8 hb2).2;go_wp2_with fail;refine cM8 (B7q _ _ _ _) ?_;rintro y w3 ⟨rfl,hb3⟩;have hz3:=hb3.size;have D6:Below w.heap.size w w3:=bex;have r0:w3.cell? ⟨w.heap.size+1,0,none⟩=some (.int .i64 0):=cL8 hb3 q0;have r1:w3.cell? ⟨w.heap.size+1,1,none⟩=some (.int .i64 0):=cL8 hb3 q1;have r2:w3.cell? ⟨w.heap.size+1,2,none⟩=some (.string ⟨#[]⟩):=cL8 hb3 q2;have f3:=(bc8 hb3).2;have hy:w.heap.size+1<w3.heap.size:=by omega
 have hy2:w.heap.size+1<w2.heap.size:=by omega
 clear hI hK hv hr hb2 hb3 q0 q1 q2 c0 c1 c2 c3 c4 c5 c6;go_wp2;refine bodyPost_ret (v:=.agg #[.int .i64 (m9 r.k r.n),.int .i64 (j4 r.k r.n),.string ⟨#[]⟩]) (by simp[results,Tryz.results98,go_sem, *]) rfl ⟨rfl,?_⟩;exact bex
theorem B5n {m:Int}{f:Nat}(hI:EvS f){e x:E7}{r:V3}{u:Value}{F:List Nat}{d:Nat}{v:Value}{vs:List V3}{w:World}(hw:e.wf)(hk:C1 w d u e.ks F)(hv:E3 w v vs)(h0:e.k=4)(hx:e.ks=[x])(hr:Res m f x vs r):Calls Tryz.prog 98 #[(.agg #[.int .i64 e.k,.int .i64 e.n,.int .i64 e.v.k,.int .i64 e.v.n,.string e.v.s,.string e.p,u]),v] w fun y w'=>y=.returned (.agg #[.int .i64 2,.int .i64 (j6 r.k),.string ⟨#[]⟩])/\Below w.heap.size w w':=by
 obtain⟨d,rfl⟩:=hk.succ;obtain⟨a,c,b,o,G,rfl,hl,hc,hG,_,ha⟩:=hk.pick;obtain⟨rfl,hblt,_,hL⟩:=ha 0 (A5H hx);obtain⟨x',g,u,hx',hg,hxw,⟨c0,c1,c2,c3,c4,c5⟩,c6,hK,hbr⟩:=hL.at hG hblt (Below.refl _ _) (k:=0) (A5H hx);obtain rfl:x=x':=by rw[hx]at hx';simpa using hx'
 obtain⟨ax,cx,rfl,_,_⟩:=hK.shape;obtain⟨a',c',hv'⟩:∃a' c',v=.slice a' vs.length c':=by obtain⟨a',c',b',o',h,_⟩:=hv.pick;exact⟨a',c',h⟩
 subst hv';unfold maxLen at hc;have D3:e.ks.length=1:=by rw[hx];rfl
 rw[h0,D3];simp only[Nat.zero_mul,Nat.add_zero]at c0 c1 c2 c3 c4 c5 c6;clear hk hw ha hL hx hx' h0 D3 hl hG;go_enter Tryz.func98,Tryz.ntmps98;go_wp2_with fail;refine cM8 (hI m x (.slice ax x.ks.length cx) g d (.slice a' vs.length c') vs r _ hxw (hK.below ?hb) (hv.below ?hb2) hr) ?_
 case hb=>exact bex
 case hb2=>exact bex
 rintro y w2 ⟨rfl,hb2⟩;have hz2:=hb2.size;simp at hz2;have C0:Below w.heap.size w w2:=bex;have q0:w2.cell? ⟨w.heap.size+1,0,none⟩=some (.int .i64 0):=cl8 hb2;have q1:w2.cell? ⟨w.heap.size+1,1,none⟩=some (.int .i64 0):=cl8 hb2;have q2:w2.cell? ⟨w.heap.size+1,2,none⟩=some (.string ⟨#[]⟩):=cl8 hb2;have f2:=(bc8 hb2).2;go_wp2_with fail;refine cM8 (B5x _ _ _ _) ?_;rintro y w3 ⟨rfl,hb3⟩;have hz3:=hb3.size;have D6:Below w.heap.size w w3:=bex;have r0:w3.cell? ⟨w.heap.size+1,0,none⟩=some (.int .i64 0):=cL8 hb3 q0;have r1:w3.cell? ⟨w.heap.size+1,1,none⟩=some (.int .i64 0):=cL8 hb3 q1;have r2:w3.cell? ⟨w.heap.size+1,2,none⟩=some (.string ⟨#[]⟩):=cL8 hb3 q2;have f3:=(bc8 hb3).2;have hy:w.heap.size+1<w3.heap.size:=by omega
 have hy2:w.heap.size+1<w2.heap.size:=by omega
 clear hI hK hv hr hb2 hb3 q0 q1 q2 c0 c1 c2 c3 c4 c5 c6;go_wp2;refine bodyPost_ret (v:=.agg #[.int .i64 2,.int .i64 (j6 r.k),.string ⟨#[]⟩]) (by simp[results,Tryz.results98,go_sem, *]) rfl ⟨rfl,?_⟩;exact bex
theorem A7H {l:List E7}{x y:E7}(h:l=[x,y]):0<l.length/\1<l.length:=by rw[h];exact⟨Nat.two_pos,Nat.one_lt_two⟩
theorem C3I {m:Int}{f:Nat}(hI:EvS f){e x z:E7}{rx rz r:V3}{u:Value}{F:List Nat}{d:Nat}{v:Value}{vs:List V3}{w:World}(hw:e.wf)(hk:C1 w d u e.ks F)(hv:E3 w v vs)(h0:e.k=2)(hx:e.ks=[x,z])(hrx:Res m f x vs rx)(hrz:Res m f z vs rz)(hB:RB m e.p rx rz r):Calls Tryz.prog 98 #[(.agg #[.int .i64 e.k,.int .i64 e.n,.int .i64 e.v.k,.int .i64 e.v.n,.string e.v.s,.string e.p,u]),v] w fun y w'=>y=.returned (.agg #[.int .i64 r.k,.int .i64 r.n,.string r.s])/\Below w.heap.size w w':=by
 obtain⟨d,rfl⟩:=hk.succ;obtain⟨a,c,b,o,G,rfl,hl,hc,hG,_,ha⟩:=hk.pick;obtain⟨rfl,hblt,_,hL⟩:=ha 0 (A7H hx).1;obtain⟨x',g,u,hx',hg,hxw,⟨c0,c1,c2,c3,c4,c5⟩,c6,hK,hbr⟩:=hL.at hG hblt (Below.refl _ _) (k:=0) (A7H hx).1;obtain rfl:x=x':=by rw[hx]at hx';simpa using hx'
 obtain⟨ax,cx,rfl,_,_⟩:=hK.shape;obtain⟨z',g',u',hz',hg',hzw,⟨d0,d1,d2,d3,d4,d5⟩,d6,hK',_⟩:=hL.at hG hblt (Below.refl _ _) (k:=1) (A7H hx).2;obtain rfl:z=z':=by rw[hx]at hz';simpa using hz'
 obtain⟨az,cz,rfl,_,_⟩:=hK'.shape;obtain⟨a',c',hv'⟩:∃a' c',v=.slice a' vs.length c':=by obtain⟨a',c',b',o',h,_⟩:=hv.pick;exact⟨a',c',h⟩
 subst hv';unfold maxLen at hc;have D3:e.ks.length=2:=by rw[hx];rfl
 rw[h0,D3];simp only[Nat.zero_mul,Nat.one_mul,Nat.add_zero,Nat.add_assoc,Nat.reduceAdd]at c0 c1 c2 c3 c4 c5 c6 d0 d1 d2 d3 d4 d5 d6;obtain⟨hr0,_,hS⟩:=hB;clear hk hw ha hL hx hx' hz' h0 D3 hl hG hg hg' hr0;have hEx:∀ (W:World),Below w.heap.size w W->Calls Tryz.prog 98 #[(.agg #[.int .i64 x.k,.int .i64 x.n,.int .i64 x.v.k,.int .i64 x.v.n,.string x.v.s,.string x.p,(.slice ax x.ks.length cx)]),.slice a' vs.length c'] W fun q w'=>q=.returned (.agg #[.int .i64 rx.k,.int .i64 rx.n,.string rx.s])/\Below W.heap.size W w':= fun W hW=>hI m _ _ g d _ vs _ _ hxw (hK.below hW) (hv.below hW) hrx;have hEz:∀ (W:World),Below w.heap.size w W->Calls Tryz.prog 98 #[(.agg #[.int .i64 z.k,.int .i64 z.n,.int .i64 z.v.k,.int .i64 z.v.n,.string z.v.s,.string z.p,(.slice az z.ks.length cz)]),.slice a' vs.length c'] W fun q w'=>q=.returned (.agg #[.int .i64 rz.k,.int .i64 rz.n,.string rz.s])/\Below W.heap.size W w':= fun W hW=>hI m _ _ g' d _ vs _ _ hzw (hK'.below hW) (hv.below hW) hrz;clear hI hK hK' hv hrx hrz hxw hzw;go_enter Tryz.func98,Tryz.ntmps98;go_wp2_with fail;go_region_held3 (fun w'=>w'.cell? ⟨w.heap.size,5,none⟩=some (.string e.p)/\w'.cell? ⟨w.heap.size,6,none⟩=some (.slice (some ⟨b,o,none⟩) 2 c)/\w'.cell? ⟨b,o,none⟩=some (.int .i64 x.k)/\w'.cell? ⟨b,o+1,none⟩=some (.int .i64 x.n)/\w'.cell? ⟨b,o+2,none⟩=some (.int .i64 x.v.k)/\w'.cell? ⟨b,o+3,none⟩=some (.int .i64 x.v.n)/\w'.cell? ⟨b,o+4,none⟩=some (.string x.v.s)/\w'.cell? ⟨b,o+5,none⟩=some (.string x.p)/\w'.cell? ⟨b,o+6,none⟩=some (.slice ax x.ks.length cx)/\w'.cell? ⟨b,o+7,none⟩=some (.int .i64 z.k)/\w'.cell? ⟨b,o+8,none⟩=some (.int .i64 z.n)/\w'.cell? ⟨b,o+9,none⟩=some (.int .i64 z.v.k)/\w'.cell? ⟨b,o+10,none⟩=some (.int .i64 z.v.n)/\w'.cell? ⟨b,o+11,none⟩=some (.string z.v.s)/\w'.cell? ⟨b,o+12,none⟩=some (.string z.p)/\w'.cell? ⟨b,o+13,none⟩=some (.slice az z.ks.length cz)) (refine⟨?_,?_,?_,?_,?_,?_,?_,?_,?_,?_,?_,?_,?_,?_,?_,?_⟩<;>first|(go_simp;done)|(exact cL8 (by assumption) (by go_simp))) (first|(go_at_call 122;refine cM8 (hS _) ?_;rintro y w3 ⟨rfl,hb3⟩;have hz3:=hb3.size;(try simp at hz3);have qa3:w3.cell? ⟨w.heap.size+1,0,none⟩=some (.int .i64 0):=cl8 hb3;have qb3:w3.cell? ⟨w.heap.size+1,1,none⟩=some (.int .i64 0):=cl8 hb3;have qc3:w3.cell? ⟨w.heap.size+1,2,none⟩=some (.string ⟨#[]⟩):=cl8 hb3;have qf3:=(bc8 hb3).2;have hy3:w.heap.size+1<w3.heap.size:=(by omega))|(go_at_call 98;(first|(with_reducible refine cM8 (hEx _ ?hb) ?_)|(with_reducible refine cM8 (hEz _ ?hb) ?_));(case hb=>exact bex);rintro y w1 ⟨rfl,hb1⟩;have hz1:=hb1.size;(try simp at hz1);have qa1:w1.cell? ⟨w.heap.size+1,0,none⟩=some (.int .i64 0):=cl8 hb1;have qb1:w1.cell? ⟨w.heap.size+1,1,none⟩=some (.int .i64 0):=cl8 hb1;have qc1:w1.cell? ⟨w.heap.size+1,2,none⟩=some (.string ⟨#[]⟩):=cl8 hb1;have qf1:=(bc8 hb1).2;have hy1:w.heap.size+1<w1.heap.size:=(by omega)))
 clear hEx hEz hS;go_wp2;refine bodyPost_ret (v:=.agg #[.int .i64 r.k,.int .i64 r.n,.string r.s]) (by simp[results,Tryz.results98,go_sem, *]) rfl ⟨rfl,?_⟩;exact bex
theorem B8V {f:Nat}(hI:EvS f):EvS (f+1):=by
 intro m e u F d v vs r w hw hk hv hr;rcases hr with⟨h0,hn,rfl⟩|⟨h0,rfl⟩|⟨h0,x,z,rx,rz,hx,hrx,hrz,hB⟩|⟨h0,x,rx,hx,hrx,rfl⟩|⟨h0,x,rx,hx,hrx,rfl⟩
 ·exact B5g hw hk hv h0 hn
 ·exact B6d hw hk hv h0
 ·exact C3I hI hw hk hv h0 hx hrx hrz hB
 ·exact B5r hI hw hk hv h0 hx hrx
 ·exact B5n hI hw hk hv h0 hx hrx
theorem B1L:∀f,EvS f
 |0=>B4F
 |f+1=>B8V (B1L f)
theorem A4X {m:Int}{e:E7}{u:Value}{F:List Nat}{d:Nat}{v:Value}{vs:List V3}{r:V3}{w:World}(hw:e.wf)(hk:C1 w d u e.ks F)(hv:E3 w v vs)(h:okE 13 e=true)(hr:Res m 13 e vs r):Calls Tryz.prog 76 #[(.agg #[.int .i64 e.k,.int .i64 e.n,.int .i64 e.v.k,.int .i64 e.v.n,.string e.v.s,.string e.p,u]),v] w fun y w'=>y=.returned (.agg #[.int .i64 r.k,.int .i64 r.n,.string r.s])/\Below w.heap.size w w':=by
 obtain⟨a,c,rfl,_,_⟩:=hk.shape;obtain⟨a',c',hv'⟩:∃a' c',v=.slice a' vs.length c':=by obtain⟨a',c',b',o',h,_⟩:=hv.pick;exact⟨a',c',h⟩
 subst hv';have hO:∀W,Below w.heap.size w W->Calls Tryz.prog 95 #[(.agg #[.int .i64 e.k,.int .i64 e.n,.int .i64 e.v.k,.int .i64 e.v.n,.string e.v.s,.string e.p,(.slice a e.ks.length c)])] W fun x w'=>x=.returned (.bool true)/\Below W.heap.size W w':=fun W hW=>by
  rw[<-h];exact B17 e _ F d W hw (hk.below hW)
 have hE:∀W,Below w.heap.size w W->Calls Tryz.prog 98 #[(.agg #[.int .i64 e.k,.int .i64 e.n,.int .i64 e.v.k,.int .i64 e.v.n,.string e.v.s,.string e.p,(.slice a e.ks.length c)]),.slice a' vs.length c'] W fun q w'=>q=.returned (.agg #[.int .i64 r.k,.int .i64 r.n,.string r.s])/\Below W.heap.size W w':= fun W hW=>B1L 13 m _ _ F d _ vs _ _ hw (hk.below hW) (hv.below hW) hr;clear hk hv hw h hr;go_enter Tryz.func76,Tryz.ntmps76;go_wp2_with fail;refine cM8 (hO _ ?hb) ?_
 case hb=>exact bex
 rintro y w2 ⟨rfl,hb2⟩;have hz2:=hb2.size;simp at hz2;have C0:Below w.heap.size w w2:=bex;clear hO;have r20:w2.cell? ⟨w.heap.size+1,0,none⟩=some (.int .i64 0):=cl8 hb2;have r21:w2.cell? ⟨w.heap.size+1,1,none⟩=some (.int .i64 0):=cl8 hb2;have r22:w2.cell? ⟨w.heap.size+1,2,none⟩=some (.string ⟨#[]⟩):=cl8 hb2;have f2:=(bc8 hb2).2;have hy2:w.heap.size+1<w2.heap.size:=by omega
 have q0:w2.cell? ⟨w.heap.size,0,none⟩=some (.int .i64 e.k):=cl8 hb2;have q1:w2.cell? ⟨w.heap.size,1,none⟩=some (.int .i64 e.n):=cl8 hb2;have q2:w2.cell? ⟨w.heap.size,2,none⟩=some (.int .i64 e.v.k):=cl8 hb2;have q3:w2.cell? ⟨w.heap.size,3,none⟩=some (.int .i64 e.v.n):=cl8 hb2;have q4:w2.cell? ⟨w.heap.size,4,none⟩=some (.string e.v.s):=cl8 hb2;have q5:w2.cell? ⟨w.heap.size,5,none⟩=some (.string e.p):=cl8 hb2;have q6:w2.cell? ⟨w.heap.size,6,none⟩=some (.slice a e.ks.length c):=cl8 hb2;go_wp2_with fail;refine cM8 (hE _ C0) ?_;rintro y w3 ⟨rfl,hb3⟩;have hz3:=hb3.size;have D6:Below w.heap.size w w3:=bex;have r30:w3.cell? ⟨w.heap.size+1,0,none⟩=some (.int .i64 0):=cl8 hb3;have r31:w3.cell? ⟨w.heap.size+1,1,none⟩=some (.int .i64 0):=cl8 hb3;have r32:w3.cell? ⟨w.heap.size+1,2,none⟩=some (.string ⟨#[]⟩):=cl8 hb3;have f3:=(bc8 hb3).2;have hy3:w.heap.size+1<w3.heap.size:=by omega
 clear hE hb2 hb3 q0 q1 q2 q3 q4 q5 q6;go_wp2;refine bodyPost_ret (v:=.agg #[.int .i64 r.k,.int .i64 r.n,.string r.s]) (by simp[results,Tryz.results76,go_sem, *]) rfl ⟨rfl,?_⟩;exact bex
end
section
open Go.RowKit Go.Deep Go.ChangeShapes Go.WideShapes
theorem A0d (vs:List V3)(x:V3):rc (vs++ [x])=rc vs++ [.int .i64 x.k,.int .i64 x.n,.string x.s]:=by
 unfold rc;have hl:(vs++ [x]).length*3=vs.length*3+3:=by simp;omega
 rw[hl,List.range_add,List.map_append];congr 1
 ·refine List.map_congr_left fun j hj=>?_;have hj':=List.mem_range.1 hj;unfold cf;have e:(vs++ [x]).getD (j/3) ⟨0,0,⟨#[]⟩⟩=vs.getD (j/3) ⟨0,0,⟨#[]⟩⟩:=by
   rw[List.getD_eq_getElem?_getD,List.getD_eq_getElem?_getD,List.getElem?_append_left (by omega)]
  rw[e]
 ·obtain⟨h0,h1,h2⟩:=A2j (vs:=vs++ [x]) (k:=vs.length) (x:=x) (by simp);rw[show List.range 3=[0,1,2]from rfl];simp[h0,h1,h2]
theorem A70 (V:E7->List V3->V3){es:List E7}{j:Nat}{x:E7}(r:List V3)(h:es[j]?=some x):K5 V (es.take (j+1)) r=K5 V (es.take j) r++ [V x r]:=by
 obtain⟨hk,rfl⟩:=gE1 h;unfold K5;rw[List.take_succ_eq_append_getElem hk,List.map_append];rfl
theorem B64 (V:E7->List V3->V3)(es:List E7){cs:List C2}{k:Nat}{x:C2}(h:cs[k]?=some x):R7 V es (cs.take (k+1))=E5 (R7 V es (cs.take k)) (K5 V es x.r) x.n:=by
 unfold R7 Q3;rw[V9 h,List.map_append,List.map_singleton,A7z,Int.one_mul]
theorem B7j (V:E7->List V3->V3)(es:List E7){cs:List C2}(hl:cs.length<=400)(hn:∀c∈cs,0<c.n/\c.n<=1000000000):(R7 V es cs).length<=400/\Asc (R7 V es cs)/\∀c∈R7 V es cs,-4000000000000000000<=c.n/\c.n<=4000000000000000000:=by
 have hm:∀x∈Q3 V es cs,-1000000000<=1*x.n/\1*x.n<=1000000000:=fun x hx=>by
  obtain⟨c,hc,rfl⟩:=List.mem_map.1 hx;have:=hn c hc;simp only[Int.one_mul];omega
 obtain⟨h1,h2⟩:=A8M (n:=1) (M:=0) (m:=1000000000) (cs:=[]) (ds:=Q3 V es cs) (fun c hc=>by cases hc) (by omega) (by omega) hm;have hpl:(Q3 V es cs).length=cs.length:=by unfold Q3;rw[List.length_map]
 rw[hpl]at h1 h2;refine⟨by unfold R7;simp at h1;omega,(A2k List.Pairwise.nil (fun c hc=>by cases hc)).1,fun c hc=>?_⟩;have:=h2 c hc;omega
theorem B2p {m:Int}{V:E7->List V3->V3}(hV:VOk m V)(W:Int)(v:Value)(cs:List C2)(F:List Nat)(ve:Value)(es:List E7)(Fs:List Nat)(D:Nat)(w:World)(hr:C6 w v cs F)(hn:wtb cs<=1048576)(hl4:cs.length<=400)(hes:es.length<=12)(hk0:C1 w D ve es Fs)(hok:∀e∈es,okE 13 e=true)(hne:∀e∈es,wtE e<=1048576)(J5:∀c∈cs,N8 c.r)(hcn:∀c∈cs,0<c.n/\c.n<=1000000000)(P:List C2)(hP:Hid (R7 V es cs=P)):Calls Tryz.prog 52 #[.agg #[.int .i64 W,v],ve] w fun q w'=>(∃u us G,q=.returned (.agg #[.int .i64 es.length,u])/\C4 w' w.heap.size u P us G)/\Below w.heap.size w w':=by
 obtain⟨D,rfl⟩:=hk0.succ;have hkk:=hk0;obtain⟨ae,ce,be,oe,Ge,rfl,hle,hce,hGe,_,hae⟩:=hk0.pick;obtain⟨i0,hi,hz0,hz1,M6⟩:=info_parts Tryz.infoVal;obtain⟨a,c,b,o,G0,rfl,hl,hc,_,hG0,_,hC,ha⟩:=hr.pick;unfold maxLen at hc hce;have hn1:cs.length<=1048576:=by omega
 clear hr;go_enter Tryz.func52,Tryz.ntmps52;go_wp2_with fail;go_loopw [6] (fun i wr=> ∃ (k:Nat) (y:Value) (us:List Value) (G:List (List Nat)),k<=cs.length/\i=.int .i64 k/\wr.cell? ⟨w.heap.size,0,none⟩=some (.int .i64 W)/\wr.cell? ⟨w.heap.size,1,none⟩=some (.slice a cs.length c)/\wr.cell? ⟨w.heap.size+1,0,none⟩=some (.int .i64 0)/\wr.cell? ⟨w.heap.size+1,1,none⟩=some (.slice none 0 0)/\(∀q,wr.frozen? ⟨w.heap.size+1,q,none⟩=false)/\wr.cell? ⟨w.heap.size+1+1,0,none⟩=some (.int .i64 es.length)/\wr.cell? ⟨w.heap.size+1+1,1,none⟩=some y/\(∀q,wr.frozen? ⟨w.heap.size+1+1,q,none⟩=false)/\C4 wr (w.heap.size+1+1+1) y (R7 V es (cs.take k)) us G/\Below w.heap.size w wr/\w.heap.size+1+1<wr.heap.size) (fun i _=>cs.length - (intOf i).toNat)
 case atStart=>
  exact⟨0,.slice none 0 0,[],[],Nat.zero_le _,rfl,by go_simp,by go_simp,by go_simp,by go_simp,fun q=>by go_simp,by go_simp,by go_simp,fun q=>by go_simp,C4.nil _ _,bex,by simp⟩
 case round=>
  obtain⟨k,y,us,G,hk,rfl,b0,b1,r0,r1,rf,p0,p1,pf,hB,hb,hzb⟩:=hrel;have hzw:=hb.size;by_cases hlt:k<cs.length
  ·obtain⟨rfl,hblt,_⟩:=ha k hlt;obtain⟨x,u0,g0,hx,_,c0,hR,c1,hbr⟩:=hC.at hG0 hblt hb hlt;obtain⟨a0,n0,rfl⟩:=hR.shape;obtain⟨ay,cy,rfl⟩:=hB.shape;have hxm:=mg8 hx;have hxc:=hcn x hxm;have hxn:x.r.length<=1048576:=by have:=A0R hxm;unfold wt at this;unfold wtb at hn;omega
   have hkI:(k:Int)<cs.length:=by omega
   have hxV:N8 x.r:=J5 x hxm;have HT:Hid (R7 V es (cs.take (k+1))=E5 (R7 V es (cs.take k)) (K5 V es x.r) x.n):=B64 V es hx;obtain⟨hsl,hsA,hsb⟩:=B7j V es (cs:=cs.take k) (by simp;omega) (fun c h=>hcn c (List.mem_of_mem_take h));have HSb:Hid (∀c∈R7 V es (cs.take k),-4000000000000000000<=c.n/\c.n<=4000000000000000000):=hsb;clear hsb;generalize R7 V es (cs.take k)=ct at*;have hEv:=fun(e:E7) (ue:Value) (Fe:List Nat) (d:Nat) (w2:World) (he:e.wf) (hke:C1 w2 d ue e.ks Fe) (h1:okE 13 e=true) (h2:Res m 13 e x.r (V e x.r)) (hRi:E3 w2 (.slice a0 x.r.length n0) x.r)=>A4X he hke hRi h1 h2;clear hC hx ha hxm;obtain⟨wo,hwo⟩:∃x,x=wr:=⟨_,rfl⟩;subst hwo;go_wp2_with fail;go_loopw [7,8] (fun z i wr=> ∃ (j:Nat),j<=es.length/\i=.int .i64 j/\wr.ownsRow wo.heap.size 39 3 z j (rc (K5 V (es.take j) x.r))/\(∃az cz,z=.slice az j cz)/\Below wo.heap.size wo wr) (fun _ i _=>es.length - (intOf i).toNat)
   case atStart=>exact⟨0,Nat.zero_le _,rfl,A1G rfl lr8 _ _,⟨_,_,rfl⟩,bex⟩
   case round=>
    obtain⟨j,hj,rfl,hz,⟨az,cz,rfl⟩,hbi⟩:=hrel;have hzi:=hbi.size;have q0:=bt8 hbi b0;have q1:=bt8 hbi b1;have d0:=((bc8 hbi).1 b (o+k*2) (by omega)).trans c0;have d1:=((bc8 hbi).1 b (o+k*2+1) (by omega)).trans c1;have hRi:=hR.below hbi;have hbW:Below w.heap.size w wr:=hb.trans (hbi.mono hzw);by_cases hjl:j<es.length
    ·obtain⟨rfl,hblte,_,hL⟩:=hae j hjl;obtain⟨e,ge,ue,hxe,hge,hew,⟨e0,e1,e2,e3,e4,e5⟩,e6,hKe,hbre⟩:=hL.at hGe hblte hbW hjl;obtain⟨au,cu,rfl,_,_⟩:=hKe.shape;have hem:=mg8 hxe;have hoe:=hok e hem;have hwe:=hne e hem;have A0j:=hV.res e x.r ⟨hew,hoe,hwe,wr,D,_,ge,hKe⟩ hxV;have HJ:Hid (rc (K5 V (es.take (j+1)) x.r)=rc (K5 V (es.take j) x.r)++ [.int .i64 (V e x.r).k,.int .i64 (V e x.r).n,.string (V e x.r).s]):=by show _=_;rw[A70 V x.r hxe,A0d]
     have hV1:=fun(w2:World) (hb2:Below wr.heap.size wr w2)=>hEv e (.slice au e.ks.length cu) ge D w2 hew (hKe.below hb2) hoe A0j ((hRi.below hb2).is);have hol:=oL8 hz;have hjI:(j:Int)<es.length:=by omega
     generalize V e x.r=vx at*;have hml:j+1<=maxLen:=by unfold maxLen;omega
     have hby:(j+1)*32<=140737488355328:=by omega
     generalize rc (K5 V (es.take j) x.r)=rz at*;clear hae hL hxe hge hem hEv hKe A0j;go_wp2_with fail;refine Z4 14 (fun w'=>w'.cell? ⟨be,oe+j*7,none⟩=some (.int .i64 e.k)/\w'.cell? ⟨be,oe+j*7+1,none⟩=some (.int .i64 e.n)/\w'.cell? ⟨be,oe+j*7+2,none⟩=some (.int .i64 e.v.k)/\w'.cell? ⟨be,oe+j*7+3,none⟩=some (.int .i64 e.v.n)/\w'.cell? ⟨be,oe+j*7+4,none⟩=some (.string e.v.s)/\w'.cell? ⟨be,oe+j*7+5,none⟩=some (.string e.p)/\w'.cell? ⟨be,oe+j*7+6,none⟩=some (.slice au e.ks.length cu)/\w'.cell? ⟨w.heap.size,1,none⟩=some (.slice (some ⟨b,o,none⟩) cs.length c)/\w'.cell? ⟨b,o+k*2,none⟩=some (.slice a0 x.r.length n0)) (by kernel_rfl) ?_ (fun hHeld=>?_)
     ·exact⟨e0,e1,e2,e3,e4,e5,e6,q1,d0⟩
     refine tkE 0 26 rfl rfl ?_;refine tkE 1 27 rfl rfl ?_;refine tkE 2 28 rfl rfl ?_;refine tkE 3 29 rfl rfl ?_;refine tkE 4 30 rfl rfl ?_;refine tkE 5 31 rfl rfl ?_;refine tkE 6 32 rfl rfl ?_;refine tkE 7 33 rfl rfl ?_;refine tkE 8 34 rfl rfl ?_;refine tkE 9 35 rfl rfl ?_;refine tkE 10 36 rfl rfl ?_;refine onE 11 rfl fun K hK=>?_;go_simp;go_at_call 76;refine cM8 (hV1 _ bex) ?_;rintro zz w2 ⟨rfl,hb2⟩;have Y9:=hb2.size;(try rw[show wr.drew.heap.size=wr.heap.size from rfl]at Y9);have C0:Below wr.heap.size wr w2:=bex;have e0b:=((bc8 C0).1 be (oe+j*7) (by omega)).trans e0;have e1b:=((bc8 C0).1 be (oe+j*7+1) (by omega)).trans e1;have e2b:=((bc8 C0).1 be (oe+j*7+2) (by omega)).trans e2;have e3b:=((bc8 C0).1 be (oe+j*7+3) (by omega)).trans e3;have e4b:=((bc8 C0).1 be (oe+j*7+4) (by omega)).trans e4;have e5b:=((bc8 C0).1 be (oe+j*7+5) (by omega)).trans e5;have e6b:=((bc8 C0).1 be (oe+j*7+6) (by omega)).trans e6;have q1b:=bt8 C0 q1;have d0b:=((bc8 C0).1 b (o+k*2) (by omega)).trans d0;have hz2:w2.ownsRow wo.heap.size 39 3 (.slice az j cz) j rz:=oK8 hz fun t ht=>C0.block t (hol t ht).2;try go_wp2_with fail
     refine hK.out _ _ ?_ (fun J3=>?_)
     ·intro _;exact⟨e0b,e1b,e2b,e3b,e4b,e5b,e6b,q1b,d0b⟩
     clear hK;replace J3:=J3 (by decide);refine onE 12 rfl fun K hK=>?_;go_simp;refine hK.out _ _ ?_ (fun A5A=>?_)
     ·intro _;exact⟨(cb8 ba8).trans e0b,(cb8 ba8).trans e1b,(cb8 ba8).trans e2b,(cb8 ba8).trans e3b,(cb8 ba8).trans e4b,(cb8 ba8).trans e5b,(cb8 ba8).trans e6b,(cb8 ba8).trans q1b,(cb8 ba8).trans d0b⟩
     clear hK;replace A5A:=A5A (by decide);refine onE 13 rfl fun K hK=>?_;refine step_append_lies _ (by rfl) _ _ _ (by rfl) wo.heap.size 39 i0 _ 3 32 Tryz.underlying114 hi hz0 hz1 M6 rfl (by omega) (.slice az j cz) j rz (by rfl) (hz2.alloc _) ⟨w2.heap.size,0,none⟩ 1 1 [.int .i64 vx.k,.int .i64 vx.n,.string vx.s] (by rfl) (by rfl) (World.news_of_block (cs:=#[.int .i64 vx.k,.int .i64 vx.n,.string vx.s]) (t:=39) (fr:=(0,0)) (heap_alloc_new w2 _)) (by simp[Value.oneCell']) (by omega) hml hby (by simp;omega) (w2.heap.size+1) (by simp) ?_;intro gg cap w3 H5 hgrow hat j5;have hz3:=hgrow.size;simp at hz3;have far:∀b q,b<w2.heap.size->(Value.slice az j cz).ownBlock≠some b->w3.cell? ⟨b,q,none⟩=w2.cell? ⟨b,q,none⟩:=fun b q hb hne=>(hgrow.cell_far _ (by simp;omega) (Ne.symm hne)).trans (cb8 (bA8 _ _ _ hb));have hfb:∀t,t<wo.heap.size->(Value.slice az j cz).ownBlock≠some t:=fun t ht ee=>by have:=(hol t ee).1;omega
     have e0c:=(far be (oe+j*7) (by omega) (hfb _ (by omega))).trans e0b;have e1c:=(far be (oe+j*7+1) (by omega) (hfb _ (by omega))).trans e1b;have e2c:=(far be (oe+j*7+2) (by omega) (hfb _ (by omega))).trans e2b;have e3c:=(far be (oe+j*7+3) (by omega) (hfb _ (by omega))).trans e3b;have e4c:=(far be (oe+j*7+4) (by omega) (hfb _ (by omega))).trans e4b;have e5c:=(far be (oe+j*7+5) (by omega) (hfb _ (by omega))).trans e5b;have e6c:=(far be (oe+j*7+6) (by omega) (hfb _ (by omega))).trans e6b;have q1c:=(far w.heap.size 1 (by omega) (hfb _ (by omega))).trans q1b;have d0c:=(far b (o+k*2) (by omega) (hfb _ (by omega))).trans d0b;have b2w:Below wo.heap.size wo w2:=hbi.trans (C0.mono hzi);have D6:Below wo.heap.size wo w3:=Below.grown (b2w.alloc b2w.size _) hgrow (by simp;omega) (fun t ht=>by have:=(hol t ht).1;omega);refine hK.out _ _ ?_ (fun Y2=>?_)
     ·intro _;exact⟨e0c,e1c,e2c,e3c,e4c,e5c,e6c,q1c,d0c⟩
     clear hK;replace Y2:=Y2 (by decide);refine onE 14 rfl fun K hK=>?_;go_simp;refine hK.out _ _ ?_ (fun hHeld14=>?_)
     ·exact fun h=>absurd rfl h
     clear hK hHeld14;refine V6 (by kernel_rfl) ?_ _;rw[<-HJ.out]at H5;clear hz2 hgrow hat far e0b e0c e1b e1c e2b e2c e3b e3c e4b e4c e5b e5c e6b e6c q1b q1c d0b d0c;go_wp2_with fail;exact⟨⟨j+1,hjl,by simp,H5,⟨_,_,rfl⟩,D6⟩,by simp[intOf];omega⟩
    ·obtain rfl:j=es.length:=by omega
     rw[List.take_length]at hz;obtain⟨gz,hrz,hOz⟩:=A0S hz;have p0i:=bt8 hbi p0;have p1i:=bt8 hbi p1;have pfi:∀q,wr.frozen? ⟨w.heap.size+1+1,q,none⟩=false:=fun q=>((bc8 hbi).2 _ q (by omega)).trans (pf q);have r0i:=bt8 hbi r0;have r1i:=bt8 hbi r1;have rfi:∀q,wr.frozen? ⟨w.heap.size+1,q,none⟩=false:=fun q=>((bc8 hbi).2 _ q (by omega)).trans (rf q);have hBi:=hB.below hbi;have hvl:=oL8 hBi.own;have hGl:=hBi.free;have hyX:(Value.slice ay ct.length cy).ownBlock≠some (w.heap.size+1+1):=fun e=>by have:=(hvl _ e).1;omega
     have hGX:(w.heap.size+1+1)∉G.flatten:=fun e=>by have:=hGl.2.1 _ e;omega
     have hXw:w.heap.size+1+1<wr.heap.size:=by omega
     obtain⟨row,hrow'⟩:∃row,row=K5 V es x.r:=⟨_,rfl⟩;have hrl:row.length<=12:=by rw[hrow'];simp[K5];omega
     rw[<-hrow']at hrz;have HT':Hid (R7 V es (cs.take (k+1))=E5 ct row x.n):=by show _=_;rw[HT.out,hrow']
     have HPP:=A3X (es.length:Int) x.n (.slice ay ct.length cy) (.slice az es.length cz) ct us G row gz (w.heap.size+1+1+1);clear hrow' HT hae hEv hz hOz;go_wp2_with fail;refine Z4 9 (fun w'=>w'.cell? ⟨w.heap.size+1+1,0,none⟩=some (.int .i64 es.length)/\w'.cell? ⟨w.heap.size+1+1,1,none⟩=some (.slice ay ct.length cy)/\w'.cell? ⟨w.heap.size,1,none⟩=some (.slice (some ⟨b,o,none⟩) cs.length c)/\w'.cell? ⟨b,o+k*2+1,none⟩=some (.int .i64 x.n)) (by kernel_rfl) ?_ (fun hHeld=>?_)
     ·exact⟨p0i,p1i,q1,d1⟩
     refine tkE 0 40 rfl rfl ?_;refine tkE 1 41 rfl rfl ?_;refine tkE 2 42 rfl rfl ?_;refine tkE 3 43 rfl rfl ?_;refine tkE 4 44 rfl rfl ?_;refine tkE 5 45 rfl rfl ?_;refine tkE 6 46 rfl rfl ?_;refine tkE 7 47 rfl rfl ?_;refine onE 8 rfl fun K hK=>?_;go_simp;go_at_call 77;refine cM8 (HPP _ (hBi.below bex) (hrz.below bex) hsA (by simp;omega) (by omega) (by omega) (by omega) (by omega) HSb.out _ rfl) ?_;rintro zz w5 ⟨v5,us5,G5,rfl,hB5,hv5,hG5,hb5,hgr5⟩;obtain⟨a5,c5,rfl⟩:=hB5.shape;have hz5:=hb5.size;simp at hz5;have kX:w5.heap[w.heap.size+1+1]?=wr.heap[w.heap.size+1+1]?:=hb5.block _ (by omega);have kB:∀q,q<w.heap.size+1+1+1->w5.heap[q]?=wr.heap[q]?:=fun q hq=>hb5.block q hq;have p05:=(cb8 kX).trans p0i;have p15:=(cb8 kX).trans p1i;have pf5:∀q,w5.frozen? ⟨w.heap.size+1+1,q,none⟩=false:=fun q=>(fb8 kX).trans (pfi q);have q05:=(cb8 (kB w.heap.size (by omega))).trans q0;have q15:=(cb8 (kB w.heap.size (by omega))).trans q1;have r05:=(cb8 (kB (w.heap.size+1) (by omega))).trans r0i;have r15:=(cb8 (kB (w.heap.size+1) (by omega))).trans r1i;have rf5:∀q,w5.frozen? ⟨w.heap.size+1,q,none⟩=false:=fun q=>(fb8 (kB (w.heap.size+1) (by omega))).trans (rfi q);have d15:=(cb8 (kB b (by omega))).trans d1;have D7:Below w.heap.size w w5:=hbW.trans ((show Below (w.heap.size+1+1+1) wr w5 from⟨hb5.os,hb5.tape,hb5.output,hb5.size,hb5.block⟩).mono (by omega));try go_wp2_with fail
     refine hK.out _ _ ?_ (fun U7=>?_)
     ·intro _;exact⟨p05,p15,q15,d15⟩
     clear hK;replace U7:=U7 (by decide);refine onE 9 rfl fun K hK=>?_;go_simp;refine hK.out _ _ ?_ (fun hHeld9=>?_)
     ·exact fun h=>absurd rfl h
     clear hK hHeld9;refine V6 (by kernel_rfl) ?_ _;have B9O:=oL8 hB5.own;have C3v:=hB5.free;have hBs:C4 ((w5.setCell ⟨w.heap.size+1+1,0,none⟩ (.int .i64 es.length)).setCell ⟨w.heap.size+1+1,1,none⟩ (.slice a5 (E5 ct row x.n).length c5)) (w.heap.size+1+1+1) (.slice a5 (E5 ct row x.n).length c5) (R7 V es (cs.take (k+1))) us5 G5:=by
      rw[HT'.out];exact hB5.keep (by simp) (fun t ht _=>(bS8 _ _ _ _ (by simp;omega)).trans (bS8 _ _ _ _ (by simp;omega)))
     have P0:((w5.setCell ⟨w.heap.size+1+1,0,none⟩ (.int .i64 es.length)).setCell ⟨w.heap.size+1+1,1,none⟩ (.slice a5 (E5 ct row x.n).length c5)).cell? ⟨w.heap.size+1+1,0,none⟩=some (.int .i64 es.length):=(cO8 _ _ _ _ (by simp)).trans (cS8 _ _ _ p05);have P1:((w5.setCell ⟨w.heap.size+1+1,0,none⟩ (.int .i64 es.length)).setCell ⟨w.heap.size+1+1,1,none⟩ (.slice a5 (E5 ct row x.n).length c5)).cell? ⟨w.heap.size+1+1,1,none⟩=some (.slice a5 (E5 ct row x.n).length c5):=cS8 _ _ _ ((cO8 _ _ _ _ (by simp)).trans p15);have PF:∀q,((w5.setCell ⟨w.heap.size+1+1,0,none⟩ (.int .i64 es.length)).setCell ⟨w.heap.size+1+1,1,none⟩ (.slice a5 (E5 ct row x.n).length c5)).frozen? ⟨w.heap.size+1+1,q,none⟩=false:=fun q=>by simpa using pf5 q
     have keep:∀b q,b<w.heap.size+1+1->((w5.setCell ⟨w.heap.size+1+1,0,none⟩ (.int .i64 es.length)).setCell ⟨w.heap.size+1+1,1,none⟩ (.slice a5 (E5 ct row x.n).length c5)).cell? ⟨b,q,none⟩=w5.cell? ⟨b,q,none⟩:=fun b q h=>(cO8 _ _ _ _ (by simp;try omega)).trans (cO8 _ _ _ _ (by simp;try omega));have Q0:=(keep w.heap.size 0 (by omega)).trans q05;have Q1:=(keep w.heap.size 1 (by omega)).trans q15;have R0:=(keep (w.heap.size+1) 0 (by omega)).trans r05;have R1:=(keep (w.heap.size+1) 1 (by omega)).trans r15;have RF:∀q,((w5.setCell ⟨w.heap.size+1+1,0,none⟩ (.int .i64 es.length)).setCell ⟨w.heap.size+1+1,1,none⟩ (.slice a5 (E5 ct row x.n).length c5)).frozen? ⟨w.heap.size+1,q,none⟩=false:=fun q=>by simpa using rf5 q
     have l7:Below w.heap.size w ((w5.setCell ⟨w.heap.size+1+1,0,none⟩ (.int .i64 es.length)).setCell ⟨w.heap.size+1+1,1,none⟩ (.slice a5 (E5 ct row x.n).length c5)):=(D7.setCell (by simp;try omega) _).setCell (by simp;try omega) _;have hzS:w.heap.size+1+1<((w5.setCell ⟨w.heap.size+1+1,0,none⟩ (.int .i64 es.length)).setCell ⟨w.heap.size+1+1,1,none⟩ (.slice a5 (E5 ct row x.n).length c5)).heap.size:=by simp;omega
     clear hB5 hgr5 keep p05 p15 q05 q15 r05 r15 rf5 pf5 d15 hsA HT' B9O C3v HPP;go_wp2_with fail;exact⟨⟨k+1,_,_,_,hlt,by simp,Q0,Q1,R0,R1,RF,P0,P1,PF,hBs,l7,hzS⟩,by simp[intOf];omega⟩
  ·obtain rfl:k=cs.length:=by omega
   rw[List.take_length,hP.out]at hB;obtain⟨ay,cy,rfl⟩:=hB.shape;clear ha hC hP;go_wp2;refine bodyPost_ret (v:=.agg #[.int .i64 es.length,.slice ay P.length cy]) (by simp[results,Tryz.results52,go_sem, *]) rfl ⟨⟨_,us,G,rfl,(hB.keep (by simp) fun b hb _=>?_).weak (by omega)⟩,?_⟩
   ·repeat rw[bS8 _ _ _ _ (by simp;omega)]
   ·exact bs8
end
section
open Go.RowKit Go.Deep Go.ChangeShapes Go.WideShapes
theorem A63 (v:Value)(vs:List V3)(g0:List Nat)(w:World)(hr:D9 w v vs g0)(hn:vs.length<=1048576):Calls Tryz.prog 74 #[v] w fun e w'=>(∃u,e=.returned u/\w'.ownsRow w.heap.size 39 3 u vs.length (rc vs))/\Below w.heap.size w w':=by
 obtain⟨i0,hi,hz0,hz1,hz2⟩:=info_parts Tryz.infoVal;obtain⟨a,c,rfl,hl,hc,hz,_,h⟩:=hr;have he:=A52 w 39 3;have hb0:Below w.heap.size w (w.alloc (.cells #[] 39)):=(Below.refl _ _).alloc lr8 _;cases a with
 |none=>
  obtain rfl:=hz rfl;obtain rfl:vs=[]:=List.length_eq_zero_iff.1 (by omega);go_enter Tryz.func74,Tryz.ntmps74;go_wp2;go_returns
  first|exact⟨⟨_,rfl,he⟩,bex⟩|exact⟨he,bex⟩
 |some ad=>
  have hcl:∀j u,(rc vs)[j]?=some u->(w.alloc (.cells #[] 39)).cell? (ad.add j)=some u:=by
   by_cases hne:vs=[]
   ·subst hne;intro j u hu;simp[rc]at hu
   ·obtain⟨b,o,hb,hlt,_,hL⟩:=h hne;cases hb;exact A3I (hL.below hb0 hlt)
  go_enter Tryz.func74,Tryz.ntmps74;go_wp2_with(at_builtin;refine wpList_append_own _ rfl _ _ 114 rfl w.heap.size 39 i0 _ 3 32 Tryz.underlying114 hi hz0 hz1 hz2 rfl (by decide) _ _ _ rfl he ad vs.length c (rc vs) rfl (A1r vs) hcl (A1w vs) ?c3 ?c4 ?c5 ?_)
  case c3=>unfold maxLen;omega
  case c4=>omega
  case c5=>simp
  intro v5 w5 D4 hgr5 _;have H6:w5.ownsRow w.heap.size 39 3 v5 vs.length (rc vs):=by simpa using D4
  have bel:Below w.heap.size w w5:=hb0.grown hgr5 (by simp) (fun k hk=>by simp[Value.ownBlock]at hk;omega);clear D4 hgr5 hcl he;go_wp2;go_returns;exact⟨⟨_,rfl,H6⟩,bel⟩
theorem A6G {w:World}{v:Value}{vs:List V3}{g:List Nat}(h:D9 w v vs g):A1v w 3 v vs.length (rc vs):=by
 obtain⟨a,c,rfl,hl,hc,hz,_,h⟩:=h;refine⟨A1r vs,?_⟩;cases a with
 |none=>
  obtain rfl:=hz rfl;obtain rfl:vs=[]:=List.length_eq_zero_iff.1 (by omega);exact .inl ⟨rfl,rfl⟩
 |some ad=>
  refine .inr ⟨ad,c,rfl,?_⟩;by_cases hne:vs=[]
  ·subst hne;intro j u hu;simp[rc]at hu
  ·obtain⟨b,o,hb,hlt,_,hL⟩:=h hne;cases hb;exact A3I hL
theorem A8a (vs us:List V3):rc (vs++us)=rc vs++rc us:=by
 induction us generalizing vs with
 |nil=>simp[rc]
 |cons u us ih=>
  have e:vs++u::us=(vs++ [u])++us:=by simp
  have h2:rc (u::us)=rc [u]++rc us:=by have:=ih [u];simpa using this
  have h3:rc [u]=[.int .i64 u.k,.int .i64 u.n,.string u.s]:=by have:=A0d [] u;simpa [rc]using this
  rw[e,ih,A0d,h2,h3,List.append_assoc]
theorem A8r:∀ {cs:List C2} {row:List V3},(∀c∈cs,cR8 c.r row<0)->ahead cs row=cs.length
 | [],_,_=>rfl
 |x::xs,row,h=>by
  have h1:=h x (by simp);have h2:ahead xs row=xs.length:=A8r fun c hc=>h c (by simp[hc]);unfold ahead at h2⊢;rw[List.takeWhile_cons,if_pos (by simpa using h1),List.length_cons,h2,List.length_cons]
theorem B0R {cs:List C2}{row:List V3}{n:Int}(h:Asc (cs++ [⟨row,n⟩]))(hn:n≠0):E5 cs row n=cs++ [⟨row,n⟩]:=by
 have h1:∀c∈cs,cR8 c.r row<0:=fun c hc=>(List.pairwise_append.1 h).2.2 c hc ⟨row,n⟩ (by simp);unfold E5;rw[A8r h1,List.getElem?_eq_none lr8];simp[hn]
section
variable (V:E7->List V3->V3) (e:E7)
theorem A6N (x:C2){ds:List C2}{j:Nat}{z:C2}(h:ds[j]?=some z):X8 V e x (ds.take (j+1))=X8 V e x (ds.take j)++(if Y5 (V e (x.r++z.r))=true then[⟨x.r++z.r,x.n*z.n⟩]else[]):=by
 unfold X8;rw[V9 h,List.filter_append,List.map_append];congr 1;by_cases hT:Y5 (V e (x.r++z.r))=true
 ·simp[hT]
 ·simp[hT]
theorem C2Q {cs ds:List C2}{k:Nat}{x:C2}(h:cs[k]?=some x):K9 V e (cs.take (k+1)) ds=K9 V e (cs.take k) ds++X8 V e x ds:=by
 unfold K9;rw[V9 h,List.flatMap_append];simp
theorem B9t (x:C2)(ds:List C2):(X8 V e x ds).length<=ds.length:=by
 unfold X8;rw[List.length_map];exact List.length_filter_le _ _
theorem B1r (ds:List C2):∀ (cs:List C2),(K9 V e cs ds).length<=cs.length*ds.length
 | []=>by simp[K9]
 |x::xs=>by
  have h1:=B1r ds xs;have h2:=B9t V e x ds;unfold K9 at h1⊢;rw[List.flatMap_cons,List.length_append,List.length_cons,Nat.succ_mul];omega
def I6 (cs ds:List C2)(x:C2)(k j:Nat):List C2:=K9 V e (cs.take k) ds++X8 V e x (ds.take j)
theorem A96 {cs ds:List C2}{x:C2}{k:Nat}(hx:cs[k]?=some x)(j:Nat):∃t,K9 V e cs ds=I6 V e cs ds x k j++t:=by
 obtain⟨hk,rfl⟩:=gE1 hx;refine⟨X8 V e cs[k] (ds.drop j)++K9 V e (cs.drop (k+1)) ds,?_⟩;have e1:X8 V e cs[k] ds=X8 V e cs[k] (ds.take j)++X8 V e cs[k] (ds.drop j):=by
  unfold X8;rw[<-List.map_append,<-List.filter_append,List.take_append_drop]
 have e2:K9 V e cs ds=K9 V e (cs.take k) ds++(X8 V e cs[k] ds++K9 V e (cs.drop (k+1)) ds):=by
  have:cs=cs.take k++cs[k]::cs.drop (k+1):=by rw[<-List.drop_eq_getElem_cons hk,List.take_append_drop]
  conv=>lhs;rw[this]
  unfold K9;rw[List.flatMap_append,List.flatMap_cons]
 rw[e2,e1];unfold I6;simp[List.append_assoc]
theorem B1R (cs ds:List C2)(x:C2)(k:Nat):I6 V e cs ds x k 0=K9 V e (cs.take k) ds:=by simp[I6,X8]
theorem A9K {cs ds:List C2}{x:C2}{k:Nat}(hx:cs[k]?=some x):I6 V e cs ds x k ds.length=K9 V e (cs.take (k+1)) ds:=by rw[I6,List.take_length,C2Q V e hx]
end
theorem A7x {V:E7->List V3->V3}{W U:Int}{cs ds:List C2}(e:E7)(hc:K2 W cs)(hd:K2 U ds){x:C2}{k:Nat}(hx:cs[k]?=some x)(j:Nat):Asc (I6 V e cs ds x k j)/\(I6 V e cs ds x k j).length<=160000/\∀c∈I6 V e cs ds x k j,-4000000000000000000<=c.n/\c.n<=4000000000000000000:=by
 have hR:=B0U (V:=V) e hc hd;obtain⟨t,ht⟩:=A96 V e (ds:=ds) hx j;rw[ht]at hR;have hl:=B1r V e ds cs;rw[ht,List.length_append]at hl;have h4:cs.length*ds.length<=400*400:=Nat.mul_le_mul hc.all.2.2.1 hd.all.2.2.1;exact⟨(List.pairwise_append.1 hR.asc).1,by omega,fun c hcm=>by have:=hR.num c (List.mem_append_left _ hcm);omega⟩
theorem C1B {V:E7->List V3->V3}{W U:Int}{cs ds:List C2}(e:E7)(hc:K2 W cs)(hd:K2 U ds){x z:C2}{k j:Nat}(hx:cs[k]?=some x)(hz:ds[j]?=some z)(hT:Y5 (V e (x.r++z.r))=true):I6 V e cs ds x k (j+1)=E5 (I6 V e cs ds x k j) (x.r++z.r) (x.n*z.n):=by
 have e1:I6 V e cs ds x k (j+1)=I6 V e cs ds x k j++ [⟨x.r++z.r,x.n*z.n⟩]:=by
  unfold I6;rw[A6N V e x hz,if_pos hT,List.append_assoc]
 have h1:=(A7x (V:=V) e hc hd hx (j+1)).1;rw[e1]at h1⊢;have a0:=(hc.all.2.2.2 x (mg8 hx)).1;have b0:=(hd.all.2.2.2 z (mg8 hz)).1;have:=Int.mul_pos a0 b0;exact(B0R h1 (by omega)).symm
theorem B6x {V:E7->List V3->V3}{cs ds:List C2}(e:E7){x z:C2}{k j:Nat}(hz:ds[j]?=some z)(hT:Y5 (V e (x.r++z.r))=false):I6 V e cs ds x k (j+1)=I6 V e cs ds x k j:=by
 unfold I6;rw[A6N V e x hz,hT];simp
structure JnW (w:World)(W U:Int)(a a':Option Addr)(lc c ld c':Nat)(e:E7)(ue:Value)(V:E7->List V3->V3)(acc:List C2)(y:Value)(us:List Value)(G:List (List Nat))(wr:World):Prop where
 a0:wr.cell? ⟨w.heap.size,0,none⟩=some (.int .i64 W)
 a1:wr.cell? ⟨w.heap.size,1,none⟩=some (.slice a lc c)
 b0:wr.cell? ⟨w.heap.size+1,0,none⟩=some (.int .i64 U)
 b1:wr.cell? ⟨w.heap.size+1,1,none⟩=some (.slice a' ld c')
 bx:p5 wr (w.heap.size+1+1) e ue
 r0:wr.cell? ⟨w.heap.size+1+1+1,0,none⟩=some (.int .i64 0)
 r1:wr.cell? ⟨w.heap.size+1+1+1,1,none⟩=some (.slice none 0 0)
 rf:∀q,wr.frozen? ⟨w.heap.size+1+1+1,q,none⟩=false
 p0:wr.cell? ⟨w.heap.size+1+1+1+1,0,none⟩=some (.int .i64 (W+U))
 p1:wr.cell? ⟨w.heap.size+1+1+1+1,1,none⟩=some y
 pf:∀q,wr.frozen? ⟨w.heap.size+1+1+1+1,q,none⟩=false
 own:C4 wr (w.heap.size+1+1+1+1+1) y acc us G
 bel:Below w.heap.size w wr
 big:w.heap.size+1+1+1+1<wr.heap.size
theorem JnW.below {w wr w':World}{W U:Int}{a a':Option Addr}{lc c ld c':Nat}{e:E7}{ue:Value}{V:E7->List V3->V3}{acc:List C2}{y:Value}{us:List Value}{G:List (List Nat)}(h:JnW w W U a a' lc c ld c' e ue V acc y us G wr)(hb:Below wr.heap.size wr w'):JnW w W U a a' lc c ld c' e ue V acc y us G w':=by
 have hz:=h.big;have hs:=hb.size;exact⟨bt8 hb h.a0,bt8 hb h.a1,bt8 hb h.b0,bt8 hb h.b1,h.bx.below hb,bt8 hb h.r0,bt8 hb h.r1,fun q=>((bc8 hb).2 _ q (by omega)).trans (h.rf q),bt8 hb h.p0,bt8 hb h.p1,fun q=>((bc8 hb).2 _ q (by omega)).trans (h.pf q),h.own.below hb,h.bel.trans (hb.mono h.bel.size),by omega⟩
theorem JnW.put {w wr w5:World}{W U:Int}{a a':Option Addr}{lc c ld c':Nat}{e:E7}{ue:Value}{V:E7->List V3->V3}{acc acc5:List C2}{y y5:Value}{us us5:List Value}{G G5:List (List Nat)}(h:JnW w W U a a' lc c ld c' e ue V acc y us G wr)(hb:Below (w.heap.size+1+1+1+1+1) wr w5)(hB:C4 w5 (w.heap.size+1+1+1+1+1) y5 acc5 us5 G5):JnW w W U a a' lc c ld c' e ue V acc5 y5 us5 G5 ((w5.setCell ⟨w.heap.size+1+1+1+1,0,none⟩ (.int .i64 (W+U))).setCell ⟨w.heap.size+1+1+1+1,1,none⟩ y5):=by
 have hz:=h.big;have hs:=hb.size;have kB:∀q,q<w.heap.size+1+1+1+1+1->w5.heap[q]?=wr.heap[q]?:=fun q hq=>hb.block q hq;have kS:∀q,q<w.heap.size+1+1+1+1->((w5.setCell ⟨w.heap.size+1+1+1+1,0,none⟩ (.int .i64 (W+U))).setCell ⟨w.heap.size+1+1+1+1,1,none⟩ y5).heap[q]?=wr.heap[q]?:=fun q hq=>(bS8 _ _ _ _ (by simp;omega)).trans ((bS8 _ _ _ _ (by simp;omega)).trans (kB q (by omega)));have p0:=(cb8 (kB (w.heap.size+1+1+1+1) (by omega))).trans h.p0;have p1:=(cb8 (kB (w.heap.size+1+1+1+1) (by omega))).trans h.p1;have A24:Below w.heap.size w w5:=h.bel.trans ((show Below (w.heap.size+1+1+1+1+1) wr w5 from⟨hb.os,hb.tape,hb.output,hb.size,hb.block⟩).mono (by omega));exact⟨(cb8 (kS _ (by omega))).trans h.a0,(cb8 (kS _ (by omega))).trans h.a1,(cb8 (kS _ (by omega))).trans h.b0,(cb8 (kS _ (by omega))).trans h.b1,h.bx.keep (by simp;omega) (kS _ (by omega)),(cb8 (kS _ (by omega))).trans h.r0,(cb8 (kS _ (by omega))).trans h.r1,fun q=>(fb8 (kS _ (by omega))).trans (h.rf q),(cO8 _ _ _ _ (by simp)).trans (cS8 _ _ _ p0),cS8 _ _ _ ((cO8 _ _ _ _ (by simp)).trans p1),fun q=>by have:=(fb8 (kB (w.heap.size+1+1+1+1) (by omega)) (o:=q)).trans (h.pf q);simpa using this,hB.keep (by simp) (fun t ht _=>(bS8 _ _ _ _ (by simp;omega)).trans (bS8 _ _ _ _ (by simp;omega))),(A24.setCell (by simp;try omega) _).setCell (by simp;try omega) _,by simp;omega⟩
theorem B9Q {m:Int}{V:E7->List V3->V3}(hV:VOk m V)(W U:Int)(v v':Value)(cs ds:List C2)(F F':List Nat)(e:E7)(ue:Value)(Fe:List Nat)(D:Nat)(w:World)(hr:C6 w v cs F)(hr':C6 w v' ds F')(hM:K2 W cs)(hM':K2 U ds)(hn:wtb cs<=1048576)(hn':wtb ds<=1048576)(he:e.wf)(hok:okE 13 e=true)(hne:wtE e<=1048576)(hk0:C1 w D ue e.ks Fe)(P:List C2)(hP:Hid (K9 V e cs ds=P)):Calls Tryz.prog 53 #[.agg #[.int .i64 W,v],.agg #[.int .i64 U,v'],(.agg #[.int .i64 e.k,.int .i64 e.n,.int .i64 e.v.k,.int .i64 e.v.n,.string e.v.s,.string e.p,ue])] w fun q w'=>(∃u us G,q=.returned (.agg #[.int .i64 (W+U),u])/\C4 w' w.heap.size u P us G)/\Below w.heap.size w w':=by
 obtain⟨ae,ce,rfl,_,_⟩:=hk0.shape;have hGE:o3 e:=⟨he,hok,hne,w,D,_,Fe,hk0⟩;obtain⟨i0,hi,hz0,hz1,M6⟩:=info_parts Tryz.infoVal;obtain⟨a,c,b,o,G0,rfl,hl,hc,_,hG0,_,hC,ha⟩:=hr.pick;obtain⟨a',c',b',o',G0',rfl,hl',hc',_,hG0',_,hC',ha'⟩:=hr'.pick;unfold maxLen at hc hc';have hal:=hM.all;have A4F:=hM'.all;have hwu:IntKind.i64.wrap (W+U)=W+U:=by rw[IntKind.wrap_i64];omega
 have C0Y:wrap64 (W+U)=W+U:=by unfold wrap64;omega
 clear hr hr';go_enter Tryz.func53,Tryz.ntmps53;go_wp2_with fail;go_loopw [8] (fun i wr=> ∃ (k:Nat) (y:Value) (us:List Value) (G:List (List Nat)),k<=cs.length/\i=.int .i64 k/\JnW w W U a a' cs.length c ds.length c' e (.slice ae e.ks.length ce) V (K9 V e (cs.take k) ds) y us G wr) (fun i _=>cs.length - (intOf i).toNat)
 case atStart=>
  refine⟨0,.slice none 0 0,[],[],Nat.zero_le _,rfl,⟨by go_simp,by go_simp,by go_simp,by go_simp,⟨by simp,by go_simp,by go_simp,by go_simp,by go_simp,by go_simp,by go_simp,by go_simp⟩,by go_simp,by go_simp,fun q=>by go_simp,by go_simp,by go_simp,fun q=>by go_simp,C4.nil _ _,bex,by simp⟩⟩
 case round=>
  obtain⟨k,y,us,G,hk,rfl,hJ⟩:=hrel;by_cases hlt:k<cs.length
  ·obtain⟨rfl,hblt,_⟩:=ha k hlt;obtain⟨x,u0,g0,hx,_,c0,hR,c1,hbr⟩:=hC.at hG0 hblt (Below.refl _ _) hlt;obtain⟨a0,n0,rfl⟩:=hR.shape;have hxm:=mg8 hx;have hxc:=hal.2.2.2 x hxm;have hxn:x.r.length<=1048576:=by have:=A0R hxm;unfold wt at this;unfold wtb at hn;omega
   have hxr:=hM.row x hxm;have HX:Hid (cs[k]?=some x):=hx;have hkI:(k:Int)<cs.length:=by omega
   have HT0:Hid (K9 V e (cs.take k) ds=I6 V e cs ds x k 0):=(B1R V e cs ds x k).symm;have HT1:Hid (I6 V e cs ds x k ds.length=K9 V e (cs.take (k+1)) ds):=A9K V e hx;rw[HT0.out]at hJ;clear hC hx ha hxm HT0;have q1:=hJ.a1;have s1:=hJ.b1;go_wp2_with fail;go_loopw [9] (fun i wr=> ∃ (j:Nat) (y:Value) (us:List Value) (G:List (List Nat)),j<=ds.length/\i=.int .i64 j/\JnW w W U (some ⟨b,o,none⟩) a' cs.length c ds.length c' e (.slice ae e.ks.length ce) V (I6 V e cs ds x k j) y us G wr) (fun i _=>ds.length - (intOf i).toNat)
   case atStart=>exact⟨0,y,us,G,Nat.zero_le _,rfl,hJ⟩
   case round=>
    clear hJ q1 s1;obtain⟨j,y,us,G,hj,rfl,hJ⟩:=hrel;by_cases hjl:j<ds.length
    ·obtain⟨rfl,hblt',_⟩:=ha' j hjl;obtain⟨z,u1,g1,hz,_,d0,hZ,d1,A0k⟩:=hC'.at hG0' hblt' (Below.refl _ _) hjl;obtain⟨a1,n1,rfl⟩:=hZ.shape;have hzm:=mg8 hz;have hzc:=A4F.2.2.2 z hzm;have hzn:z.r.length<=1048576:=by have:=A0R hzm;unfold wt at this;unfold wtb at hn';omega
     have hzr:=hM'.row z hzm;have hjI:(j:Int)<ds.length:=by omega
     have hb:=hJ.bel;have hbig:=hJ.big;have hzw:=hb.size;have hrV:N8 (x.r++z.r):=fun q hq=>(List.mem_append.1 hq).elim (hxr.2 q) (hzr.2 q);have hlx:(x.r.length:Int)<=12:=by omega
     have hlz:(z.r.length:Int)<=12:=by omega
     have A0j:=hV.res e (x.r++z.r) hGE hrV;have A4o:0<x.n*z.n/\x.n*z.n<=1000000000000000000:=⟨Int.mul_pos hxc.1 hzc.1,by have:=Int.mul_le_mul hxc.2 hzc.2 (by omega) (by decide);simpa using this⟩;have hwm:IntKind.i64.wrap (x.n*z.n)=x.n*z.n:=by rw[IntKind.wrap_i64];omega
     have C1o:wrap64 (x.n*z.n)=x.n*z.n:=by unfold wrap64;omega
     obtain⟨hsA,hsl,hsb⟩:=A7x (V:=V) e hM hM' HX.out j;have HSb:Hid (∀c∈I6 V e cs ds x k j,-4000000000000000000<=c.n/\c.n<=4000000000000000000):=hsb;have HNo:Hid (Y5 (V e (x.r++z.r))=false->I6 V e cs ds x k (j+1)=I6 V e cs ds x k j):=fun hT=>B6x (V:=V) (cs:=cs) (x:=x) (k:=k) e hz hT;have A4H:Hid (Y5 (V e (x.r++z.r))=true->I6 V e cs ds x k (j+1)=E5 (I6 V e cs ds x k j) (x.r++z.r) (x.n*z.n)):=fun hT=>C1B (V:=V) e hM hM' HX.out hz hT;have q1:=hJ.a1;have s1:=hJ.b1;have e0:=((bc8 hb).1 b (o+k*2) hblt).trans c0;have e1:=((bc8 hb).1 b (o+k*2+1) hblt).trans c1;have f0:=((bc8 hb).1 b' (o'+j*2) hblt').trans d0;have f1:=((bc8 hb).1 b' (o'+j*2+1) hblt').trans d1;have hRw:=hR.below hb;have hZw:=hZ.below hb;have hEv:=fun(w2:World) (hb2:Below w.heap.size w w2) (v2:Value) (hv2:E3 w2 v2 (x.r++z.r))=>A4X (w:=w2) he (hk0.below hb2) hv2 hok A0j;have hml:x.r.length+z.r.length<=maxLen:=by unfold maxLen;omega
     have hby:(x.r.length+z.r.length)*32<=140737488355328:=by omega
     obtain⟨row,J5⟩:∃row,row=x.r++z.r:=⟨_,rfl⟩;have hrl:row.length=x.r.length+z.r.length:=by rw[J5];simp
     rw[<-J5]at hEv A0j HNo A4H;clear hsb ha' hC' hz hzm A0j;clear hrl;have hrl:row.length<=1048576:=by rw[J5];simp;omega
     have A1u:Hid (row=x.r++z.r):=J5;clear J5;go_wp2_with fail;refine Z4 14 (fun w'=>w'.cell? ⟨w.heap.size,1,none⟩=some (.slice (some ⟨b,o,none⟩) cs.length c)/\w'.cell? ⟨b,o+k*2,none⟩=some (.slice a0 x.r.length n0)/\w'.cell? ⟨w.heap.size+1,1,none⟩=some (.slice (some ⟨b',o',none⟩) ds.length c')/\w'.cell? ⟨b',o'+j*2,none⟩=some (.slice a1 z.r.length n1)) (by kernel_rfl) ?_ (fun hHeld=>?_)
     ·exact⟨q1,e0,s1,f0⟩
     refine tkE 0 31 rfl rfl ?_;refine tkE 1 32 rfl rfl ?_;refine tkE 2 33 rfl rfl ?_;refine tkE 3 34 rfl rfl ?_;refine tkE 4 35 rfl rfl ?_;refine tkE 5 36 rfl rfl ?_;refine tkE 7 38 rfl rfl ?_;refine tkE 8 39 rfl rfl ?_;refine tkE 9 40 rfl rfl ?_;refine tkE 10 41 rfl rfl ?_;refine tkE 11 42 rfl rfl ?_;refine tkE 12 43 rfl rfl ?_;refine onE 6 rfl fun K hK=>?_;go_simp;go_at_call 74;refine cM8 (A63 (.slice a0 x.r.length n0) x.r g0 _ (hRw.below ?hbb) hxn) ?_
     case hbb=>exact bex
     rintro q w2 ⟨⟨u2,rfl,H9⟩,hb2⟩;have Y9:=hb2.size;rw[show wr.drew.heap.size=wr.heap.size from rfl]at Y9 H9;have C0:Below wr.heap.size wr w2:=bex;have hol:=oL8 H9;have q1b:=bt8 C0 q1;have e0b:=((bc8 C0).1 b (o+k*2) (by omega)).trans e0;have s1b:=bt8 C0 s1;have f0b:=((bc8 C0).1 b' (o'+j*2) (by omega)).trans f0;have hZ2:=hZw.below C0;obtain⟨a2,c2,e2⟩:∃a2 c2,u2=.slice a2 x.r.length c2:=by rcases H9.2 with⟨rfl,h0⟩|⟨g,cap,cur,hv,_⟩;exact⟨none,0,by rw[h0]⟩;exact⟨_,cap,hv⟩
     subst e2;try go_wp2_with fail
     refine hK.out _ _ ?_ (fun Q6=>?_)
     ·intro _;exact⟨q1b,e0b,s1b,f0b⟩
     clear hK;replace Q6:=Q6 (by decide);refine onE 13 rfl fun K hK=>?_;refine A0f _ (by rfl) _ _ _ (by rfl) wr.heap.size 39 i0 _ 3 32 Tryz.underlying114 hi hz0 hz1 M6 rfl (by omega) (.slice a2 x.r.length c2) x.r.length (rc x.r) (by rfl) H9 (.slice a1 z.r.length n1) z.r.length (rc z.r) (by rfl) (A6G hZ2) (A1w z.r) hml hby (by omega) ?_;intro v3 w3 H5 hgrow hat;have hz3:=hgrow.size;rw[<-A8a,<-A1u.out]at H5;have hfb:∀t,t<wr.heap.size->(Value.slice a2 x.r.length c2).ownBlock≠some t:=fun t ht ee=>by have:=(hol t ee).1;omega
     have far:∀b q,b<wr.heap.size->w3.cell? ⟨b,q,none⟩=w2.cell? ⟨b,q,none⟩:=fun b q hb=>hgrow.cell_far _ (by simp;omega) (Ne.symm (hfb b hb));have q1c:=(far w.heap.size 1 (by omega)).trans q1b;have e0c:=(far b (o+k*2) (by omega)).trans e0b;have s1c:=(far (w.heap.size+1) 1 (by omega)).trans s1b;have f0c:=(far b' (o'+j*2) (by omega)).trans f0b;have D6:Below wr.heap.size wr w3:=Below.grown C0 hgrow (by omega) (fun t ht=>by have:=(hol t ht).1;omega);refine hK.out _ _ ?_ (fun Y2=>?_)
     ·intro _;exact⟨q1c,e0c,s1c,f0c⟩
     clear hK;replace Y2:=Y2 (by decide);refine onE 14 rfl fun K hK=>?_;go_simp;refine hK.out _ _ ?_ (fun hHeld14=>?_)
     ·exact fun h=>absurd rfl h
     clear hK hHeld14;refine V6 (by kernel_rfl) ?_ _;clear hgrow hat far H9 hb2 hZ2 hol q1b e0b s1b f0b;obtain⟨gr,hrF,hrO⟩:=A0S H5;have B4R:Below w.heap.size w w3:=hb.trans (D6.mono hzw);have hJ3:=hJ.below D6;obtain⟨ar,cr,rfl⟩:=hrF.shape;clear hJ H5 hrO q1c s1c e0c f0c e0 e1 f0 f1 q1 s1;obtain⟨_,x0,x1,x2,x3,x4,x5,x6⟩:=id hJ3.bx;obtain⟨vv,HVV⟩:∃q,Hid (V e row=q):=⟨_,rfl⟩;rw[HVV.out]at hEv;go_wp2_with fail;refine cM8 (hEv _ B4R _ hrF.is) ?_;rintro zz w4 ⟨rfl,hb4⟩;have hz4:=hb4.size;go_wp2_with fail;refine cM8 (B1k vv _) ?_;rintro zz w5 ⟨rfl,hb5⟩;have hz5:=hb5.size;cases hT:Y5 vv
     ·have HA:Hid (_):=HNo.out (by rw[HVV.out];exact hT);have hJ5:=hJ3.below (hb4.trans (hb5.mono hz4));rw[<-HA.out]at hJ5;clear x0 x1 x2 x3 x4 x5 x6 hJ3 hEv A4H HNo hT HVV;go_wp2_with fail;exact⟨⟨j+1,_,_,_,hjl,by simp,hJ5⟩,by simp[intOf];omega⟩
     ·have HA:Hid (_):=A4H.out (by rw[HVV.out];exact hT);have D7:Below w3.heap.size w3 w5:=hb4.trans (hb5.mono hz4);have hJ5:=hJ3.below D7;have B8E:=hrF.below D7;have A5x:=hJ5.bel;have C1l:=hJ5.big;have A9d:=A5x.size;have q1:=hJ5.a1;have s1:=hJ5.b1;have p0:=hJ5.p0;have p1:=hJ5.p1;have e1:=((bc8 A5x).1 b (o+k*2+1) hblt).trans c1;have f1:=((bc8 A5x).1 b' (o'+j*2+1) hblt').trans d1;have D4:=hJ5.own;obtain⟨ay,cy,rfl⟩:=D4.shape;have hm0: -1000000000000000000<=x.n*z.n:=by omega
      have hm1:x.n*z.n<=1000000000000000000:=A4o.2;have hct:(I6 V e cs ds x k j).length<=2097152:=by omega
      have HPP:=A3X (W+U) (x.n*z.n) (.slice ay (I6 V e cs ds x k j).length cy) (.slice ar row.length cr) (I6 V e cs ds x k j) us G row gr (w.heap.size+1+1+1+1+1);have HA':Hid (I6 V e cs ds x k (j+1)=E5 (I6 V e cs ds x k j) row (x.n*z.n)):=HA;clear x0 x1 x2 x3 x4 x5 x6 hJ3 hEv A4H HNo hT HVV HA hrF hb4 hb5 hz4 hz5 C1o hwu C0Y A4o hal A4F hxc hzc hsl hml hby;generalize I6 V e cs ds x k j=ct at*;go_wp2_with fail;refine Z4 16 (fun w'=>w'.cell? ⟨w.heap.size+1+1+1+1,0,none⟩=some (.int .i64 (W+U))/\w'.cell? ⟨w.heap.size+1+1+1+1,1,none⟩=some (.slice ay ct.length cy)/\w'.cell? ⟨w.heap.size,1,none⟩=some (.slice (some ⟨b,o,none⟩) cs.length c)/\w'.cell? ⟨b,o+k*2+1,none⟩=some (.int .i64 x.n)/\w'.cell? ⟨w.heap.size+1,1,none⟩=some (.slice (some ⟨b',o',none⟩) ds.length c')/\w'.cell? ⟨b',o'+j*2+1,none⟩=some (.int .i64 z.n)) (by kernel_rfl) ?_ (fun hHeld=>?_)
      ·exact⟨p0,p1,q1,e1,s1,f1⟩
      refine tkE 0 49 rfl rfl ?_;refine tkE 1 50 rfl rfl ?_;refine tkE 2 51 rfl rfl ?_;refine tkE 3 52 rfl rfl ?_;refine tkE 4 53 rfl rfl ?_;refine tkE 5 54 rfl rfl ?_;refine tkE 6 55 rfl rfl ?_;refine tkE 7 56 rfl rfl ?_;refine tkE 8 57 rfl rfl ?_;refine tkE 9 58 rfl rfl ?_;refine tkE 10 59 rfl rfl ?_;refine tkE 11 60 rfl rfl ?_;refine tkE 12 61 rfl rfl ?_;refine tkE 13 62 rfl rfl ?_;refine tkE 14 63 rfl rfl ?_;refine onE 15 rfl fun K hK=>?_;go_simp;go_at_call 77;refine cM8 (HPP _ (D4.below bex) (B8E.below bex) hsA (by simp;omega) hct hrl hm0 hm1 HSb.out _ rfl) ?_;rintro zz w6 ⟨v6,us6,G6,rfl,hB6,hv6,hG6,hb6,hgr6⟩;obtain⟨a6,c6,rfl⟩:=hB6.shape;have hz6:=hb6.size;simp at hz6;have kB:∀q,q<w.heap.size+1+1+1+1+1->w6.heap[q]?=w5.heap[q]?:=fun q hq=>hb6.block q hq;have p06:=(cb8 (kB (w.heap.size+1+1+1+1) (by omega))).trans p0;have p16:=(cb8 (kB (w.heap.size+1+1+1+1) (by omega))).trans p1;have pf6:∀q,w6.frozen? ⟨w.heap.size+1+1+1+1,q,none⟩=false:=fun q=>(fb8 (kB (w.heap.size+1+1+1+1) (by omega))).trans (hJ5.pf q);have q16:=(cb8 (kB w.heap.size (by omega))).trans q1;have s16:=(cb8 (kB (w.heap.size+1) (by omega))).trans s1;have e16:=(cb8 (kB b (by omega))).trans e1;have f16:=(cb8 (kB b' (by omega))).trans f1;try go_wp2_with fail
      refine hK.out _ _ ?_ (fun A3T=>?_)
      ·intro _;exact⟨p06,p16,q16,e16,s16,f16⟩
      clear hK;replace A3T:=A3T (by decide);refine onE 16 rfl fun K hK=>?_;go_simp;refine hK.out _ _ ?_ (fun i8=>?_)
      ·exact fun h=>absurd rfl h
      clear hK i8;refine V6 (by kernel_rfl) ?_ _;have hJ6:=hJ5.put (show Below (w.heap.size+1+1+1+1+1) w5 w6 from⟨hb6.os,hb6.tape,hb6.output,hb6.size,hb6.block⟩) hB6;clear hB6 hgr6 kB p06 p16 q16 s16 e16 f16 hJ5 D4 HPP hsA p0 p1 q1 s1 e1 f1;go_wp2_with fail;exact⟨⟨j+1,.slice a6 (E5 ct row (x.n*z.n)).length c6,us6,G6,hjl,by simp,by rw[HA'.out];exact hJ6⟩,by simp[intOf];omega⟩
    ·obtain rfl:j=ds.length:=by omega
     rw[HT1.out]at hJ;clear ha' hC';obtain⟨z0,z1,z2,z3,z4,z5,z6,z7,z8,z9,z10,z11,z12,z13⟩:=id hJ;go_wp2_with fail;exact⟨⟨k+1,_,_,_,hlt,by simp,hJ⟩,by simp[intOf];omega⟩
  ·obtain rfl:k=cs.length:=by omega
   rw[List.take_length,hP.out]at hJ;obtain⟨z0,z1,z2,z3,z4,z5,z6,z7,z8,z9,z10,hB,hb,hzb⟩:=hJ;obtain⟨ay,cy,rfl⟩:=hB.shape;clear ha hC hP ha' hC';go_wp2;refine bodyPost_ret (v:=.agg #[.int .i64 (W+U),.slice ay P.length cy]) (by simp[results,Tryz.results53,go_sem, *]) rfl ⟨⟨_,us,G,rfl,(hB.keep (by simp) fun b hb _=>?_).weak (by omega)⟩,?_⟩
   ·repeat rw[bS8 _ _ _ _ (by simp;omega)]
   ·exact bs8
end
section
open Go.RowKit Go.Deep Go.ChangeShapes Go.WideShapes
theorem A6R (n:Int)(w:World):Calls Tryz.prog 99 #[.int .i64 n] w fun e w'=>e=.returned (.agg #[.int .i64 1,.int .i64 n,.string ⟨#[]⟩])/\Below w.heap.size w w':=by
 go_enter Tryz.func99,Tryz.ntmps99;go_wp2;go_returns;exact⟨rfl,bex⟩
theorem E3.take {w:World}{a:Option Addr}{c:Nat}{vs:List V3}(h:E3 w (.slice a vs.length c) vs){n:Nat}(hn:n<=vs.length):E3 w (.slice a n c) (vs.take n):=by
 obtain⟨a',c',e,hl,hc,h⟩:=h;injection e with e1 e2 e3;subst e1 e3;have D3:(vs.take n).length=n:=by simp;omega
 refine⟨a,c,by rw[D3],by omega,hc,fun hne=>?_⟩;obtain⟨b,o,hb,hlt,hL⟩:=h (by rintro rfl;simp at hne);refine⟨b,o,hb,hlt,fun i x hx=>hL i x ?_⟩;rw[List.getElem?_take]at hx;split at hx
 ·exact hx
 ·cases hx
theorem A87 (key:List V3){cs:List C2}{k:Nat}{x:C2}(h:cs[k]?=some x):E8 key (cs.take (k+1))=E8 key (cs.take k)++(if cR8 (x.r.take key.length) key=0 then[x]else[]):=by
 unfold E8;rw[V9 h,List.filter_append];congr 1;by_cases h0:cR8 (x.r.take key.length) key=0
 ·simp[h0]
 ·simp[h0]
theorem A9A (a b:List C2):M5 (a++b)=M5 a+M5 b:=by unfold M5;rw[List.map_append,List.sum_append]
theorem C0L (V:E7->List V3->V3)(e:E7)(a:List C2)(x:C2):N4 V e (a++ [x])=A0X V e (N4 V e a) x:=by unfold N4;rw[List.foldl_append];rfl
def StS (s:Option Int)(b:Bool)(sm:Int):Prop:=(s=none/\b=false/\sm=0)\/(s=some sm/\b=true)
theorem A8E {W:Int}{cs:List C2}(hM:K2 W cs)(key:List V3)(k:Nat):0<=M5 (E8 key (cs.take k))/\M5 (E8 key (cs.take k))<=400000000000:=by
 have h1:=A6q (cs:=E8 key (cs.take k)) fun c hc=>hM.all.2.2.2 c (List.mem_of_mem_take (List.mem_filter.1 hc).1);have h2:(E8 key (cs.take k)).length<=(cs.take k).length:=List.length_filter_le _ _;have h3:=hM.all.2.2.1;have h4:(cs.take k).length<=400:=by simp;omega
 omega
theorem B4s {m:Int}{V:E7->List V3->V3}(hV:VOk m V)(W B0:Int)(v kv ev:Value)(cs:List C2)(F g0:List Nat)(key:List V3)(w:World)(hr:C6 w v cs F)(hM:K2 W cs)(hn:wtb cs<=1048576)(hk:D9 w kv key g0)(hkW:(key.length:Int)<=W)(hev:∃a c,ev=.slice a 0 c):Calls Tryz.prog 78 #[.agg #[.int .i64 B0,v],kv,ev] w fun q w'=>(∃u g,q=.returned u/\D9 w' u (tR8 V [] key (E8 key cs)) g/\D5 w' w.heap.size g)/\Below w.heap.size w w':=by
 obtain⟨av,cv,rfl⟩:=hev;obtain⟨i0,hi,hz0,hz1,M6⟩:=info_parts Tryz.infoVal;obtain⟨a,c,b,o,G0,rfl,hl,hc,_,hG0,_,hC,ha⟩:=hr.pick;unfold maxLen at hc;have hal:=hM.all;obtain⟨ak,ck,rfl⟩:=hk.shape;have hkl:key.length<=12:=by omega
 clear hr;obtain⟨rr,HRR⟩:∃rr,Hid (tR8 V [] key (E8 key cs)=rr):=⟨_,rfl⟩;rw[HRR.out];go_enter Tryz.func78,Tryz.ntmps78;go_wp2_with fail;go_loopw [7,8,9,10] (fun n s so i wr=> ∃ (k:Nat) (N sm:Int) (bo:Bool),k<=cs.length/\i=.int .i64 k/\n=.int .i64 N/\s=.int .i64 sm/\so=.bool bo/\N=M5 (E8 key (cs.take k))/\(bo=false/\sm=0)/\Below w.heap.size w wr/\w.heap.size<wr.heap.size/\wr.cell? ⟨w.heap.size,1,none⟩=some (.slice a cs.length c)) (fun _ _ _ i _=>cs.length - (intOf i).toNat)
 case atStart=>exact⟨0,0,0,false,Nat.zero_le _,rfl,rfl,rfl,rfl,rfl,⟨rfl,rfl⟩,bex,by simp,by go_simp⟩
 case round=>
  obtain⟨k,N,sm,bo,hkk,rfl,rfl,rfl,rfl,hN,hS,hb,hsz,b1⟩:=hrel;have HN:Hid (N=M5 (E8 key (cs.take k))):=hN;have HS:Hid (bo=false/\sm=0):=hS;have hNb:0<=N/\N<=400000000000:=by rw[hN];exact A8E hM key k
  clear hN hS;have hzw:=hb.size;by_cases hlt:k<cs.length
  ·obtain⟨rfl,hblt,_⟩:=ha k hlt;obtain⟨x,u0,gx,hx,_,c0,hR,c1,hbr⟩:=hC.at hG0 hblt hb hlt;obtain⟨a0,n0,rfl⟩:=hR.shape;have hxm:=mg8 hx;have hxc:=hal.2.2.2 x hxm;have hxr:=hM.row x hxm;have hkI:(k:Int)<cs.length:=by omega
   have hkx:key.length<=x.r.length:=by omega
   have hRi:=hR.is;have hn0:x.r.length<=n0/\n0<=9223372036854775807:=by obtain⟨a',c',ee,h1,h2,_⟩:=id hRi;injection ee with _ _ e3;subst e3;unfold maxLen at h2;exact⟨h1,by omega⟩
   have hRt:=hRi.take hkx;have HX:Hid (E8 key (cs.take (k+1))=E8 key (cs.take k)++(if cR8 (x.r.take key.length) key=0 then[x]else[])):=A87 key hx;have hKr:=hk.below hb;have A0U:=A0w (.slice a0 key.length n0) (.slice ak key.length ck) (x.r.take key.length) key wr hRt hKr.is;have hkn:(key.length:Int)<=n0:=by omega
   obtain⟨cp,HCP⟩:∃q,Hid (cR8 (x.r.take key.length) key=q):=⟨_,rfl⟩;rw[HCP.out]at A0U;have hwN:IntKind.i64.wrap (N+x.n)=N+x.n:=by rw[IntKind.wrap_i64];omega
   clear ha hC hx;go_wp2_with fail;refine cM8 A0U ?_;rintro z w3 ⟨rfl,hb3⟩;have hz3:=hb3.size;have D6:Below w.heap.size w w3:=hb.trans (hb3.mono hzw);have b13:=((bc8 hb3).1 _ _ hsz).trans b1;have c03:=((bc8 hb3).1 _ _ hbr).trans c0;have c13:=((bc8 hb3).1 _ _ hbr).trans c1;have A3y:w.heap.size<w3.heap.size:=by omega
   have A97:b<w3.heap.size:=by omega
   have hR3:=hR.below hb3;clear A0U b1 c0 c1 hb3 hR hRi hRt hKr hb hsz hbr;by_cases hcp:cp=0
   ·subst hcp;have HX2:Hid (E8 key (cs.take (k+1))=E8 key (cs.take k)++ [x]):=by show _=_;rw[HX.out,if_pos HCP.out]
    have HN2:Hid (N+x.n=M5 (E8 key (cs.take (k+1)))):=by show _=_;rw[HX2.out,A9A,HN.out];simp[M5]
    clear HX;go_wp2_with fail;exact⟨⟨k+1,N+x.n,sm,bo,hlt,by simp,rfl,rfl,rfl,HN2.out,HS.out,D6,A3y,b13⟩,by simp[intOf];omega⟩
   ·have B2A:(cp !=0)=true:=by simpa using hcp
    have HX2:Hid (E8 key (cs.take (k+1))=E8 key (cs.take k)):=by show _=_;rw[HX.out,if_neg (by rw[HCP.out];exact hcp),List.append_nil]
    clear hcp HX;go_wp2_with fail;exact⟨⟨k+1,N,sm,bo,hlt,by simp,rfl,rfl,rfl,by rw[HX2.out];exact HN.out,HS.out,D6,A3y,b13⟩,by simp[intOf];omega⟩
  ·obtain rfl:k=cs.length:=by omega
   have HNE:Hid (N=M5 (E8 key cs)):=by have:=HN.out;rw[List.take_length]at this;exact this
   have HSE:Hid (bo=false/\sm=0):=by have:=HS.out;exact this
   clear ha hC HN HS;have hkw:=hk.below hb;have hcl:∀ (w2:World) (q1 q2:Int) (q3:ByteArray),∀j u,([.int .i64 q1,.int .i64 q2,.string q3]:List Value)[j]?=some u->(w2.alloc (.cells #[.int .i64 q1,.int .i64 q2,.string q3] 39)).cell? ((⟨w2.heap.size,0,none⟩:Addr).add j)=some u:=fun w2 q1 q2 q3=>World.news_of_block (cs:=#[.int .i64 q1,.int .i64 q2,.string q3]) (t:=39) (fr:=(0,0)) (heap_alloc_new w2 _);go_wp2_with fail;refine cM8 (A63 (.slice ak key.length ck) key g0 _ hkw (by omega)) ?_;rintro z w4 ⟨⟨u4,rfl,U3⟩,hb4⟩;have hz4:=hb4.size;have I3:Below w.heap.size w w4:=hb.trans (hb4.mono hzw);have A7r:=oL8 U3;obtain⟨a4,c4,e4'⟩:∃a4 c4,u4=.slice a4 key.length c4:=by
    rcases U3.2 with⟨rfl,h0⟩|⟨g,cap,cur,hv,_⟩
    ·exact⟨none,0,by rw[h0]⟩
    ·exact⟨_,cap,hv⟩
   subst e4';go_wp2_with fail;refine cM8 (A6R N _) ?_;rintro z w5 ⟨rfl,hb5⟩;have hz5:=hb5.size;have D7:Below w.heap.size w w5:=I3.trans (hb5.mono I3.size);have D4:w5.ownsRow w.heap.size 39 3 (.slice a4 key.length c4) key.length (rc key):=by
    obtain⟨h0,h1|⟨g,cap,cur,h1,h2,h3⟩⟩:=oK8 U3 fun t ht=>hb5.block t (A7r t ht).2
    ·exact⟨h0,.inl h1⟩
    ·exact⟨h0,.inr ⟨g,cap,cur,h1,by omega,h3⟩⟩
   clear U3 hb4 hb5 hkw;go_wp2_with(at_builtin;refine wpList_append_own _ rfl _ _ 114 rfl w.heap.size 39 i0 _ 3 32 Tryz.underlying114 hi hz0 hz1 M6 rfl (by decide) _ _ _ rfl (D4.alloc _) ⟨w5.heap.size,0,none⟩ 1 1 [.int .i64 1,.int .i64 N,.string ⟨#[]⟩] rfl rfl (hcl _ _ _ _) (by simp[Value.oneCell']) ?c36 ?c46 ?c56 ?_)
   case c36=>unfold maxLen;omega
   case c46=>omega
   case c56=>simp;omega
   intro v6 w6 H6 hgr6 _;have A3f:=hgr6.size;simp at A3f;have K3:Below w.heap.size w w6:=(D7.alloc D7.size _).grown hgr6 (by simp;omega) (fun t ht=>by have:=(oL8 D4 t ht).1;omega);have HR6:Hid (rc key++ [.int .i64 1,.int .i64 N,.string ⟨#[]⟩]=rc (key++ [⟨1,N,⟨#[]⟩⟩])):=(A0d key ⟨1,N,⟨#[]⟩⟩).symm;rw[HR6.out]at H6;obtain⟨g6,hg6⟩:=A0S (vs:=key++ [⟨1,N,⟨#[]⟩⟩]) (by simpa using H6);have HT:Hid (tR8 V [] key (E8 key cs)=key++ [⟨1,N,⟨#[]⟩⟩]):=by show _=_;unfold tR8;rw[<-HNE.out];rfl
   clear H6 hgr6 D4 HR6 HNE HSE hcl;go_wp2;go_returns;exact⟨⟨_,g6,rfl,(by rw[<-HRR.out,HT.out];exact hg6.1),hg6.2⟩,K3⟩
theorem C0e {m:Int}{V:E7->List V3->V3}(hV:VOk m V)(W B0:Int)(v kv ev:Value)(cs:List C2)(F g0:List Nat)(key:List V3)(e:E7)(Fs:List Nat)(D:Nat)(w:World)(hr:C6 w v cs F)(hM:K2 W cs)(hn:wtb cs<=1048576)(hk:D9 w kv key g0)(hkW:(key.length:Int)<=W)(he:okE 13 e=true)(hne:wtE e<=1048576)(hk0:C1 w (D+1) ev [e] Fs):Calls Tryz.prog 78 #[.agg #[.int .i64 B0,v],kv,ev] w fun q w'=>(∃u g,q=.returned u/\D9 w' u (tR8 V [e] key (E8 key cs)) g/\D5 w' w.heap.size g)/\Below w.heap.size w w':=by
 obtain⟨ae,ce,be,oe,Ge,rfl,hle,hce,hGe,_,hae⟩:=hk0.pick;obtain⟨rfl,hblte,_,hLe⟩:=hae 0 (by simp);obtain⟨e',ge,ue,hxe,hge,hew,⟨e0,e1,e2,e3,e4,e5⟩,e6,hKe,hbre⟩:=hLe.at (k:=0) hGe hblte (Below.refl _ _) (by simp);obtain rfl:e=e':=by simpa using hxe
 obtain⟨au,cu,rfl,_,_⟩:=hKe.shape;simp only[Nat.zero_mul,Nat.add_zero]at e0 e1 e2 e3 e4 e5 e6;unfold maxLen at hce;simp only[List.length_singleton]at hle;clear hae hLe hge hxe hGe;obtain⟨i0,hi,hz0,hz1,M6⟩:=info_parts Tryz.infoVal;obtain⟨a,c,b,o,G0,rfl,hl,hc,_,hG0,_,hC,ha⟩:=hr.pick;unfold maxLen at hc;have hal:=hM.all;obtain⟨ak,ck,rfl⟩:=hk.shape;have hkl:key.length<=12:=by omega
 clear hr;obtain⟨rr,HRR⟩:∃rr,Hid (tR8 V [e] key (E8 key cs)=rr):=⟨_,rfl⟩;rw[HRR.out];go_enter Tryz.func78,Tryz.ntmps78;go_wp2_with fail;go_loopw [7,8,9,10] (fun n s so i wr=> ∃ (k:Nat) (N sm:Int) (bo:Bool),k<=cs.length/\i=.int .i64 k/\n=.int .i64 N/\s=.int .i64 sm/\so=.bool bo/\N=M5 (E8 key (cs.take k))/\StS (N4 V e (E8 key (cs.take k))) bo sm/\Below w.heap.size w wr/\w.heap.size<wr.heap.size/\wr.cell? ⟨w.heap.size,1,none⟩=some (.slice a cs.length c)) (fun _ _ _ i _=>cs.length - (intOf i).toNat)
 case atStart=>exact⟨0,0,0,false,Nat.zero_le _,rfl,rfl,rfl,rfl,rfl,.inl ⟨rfl,rfl,rfl⟩,bex,by simp,by go_simp⟩
 case round=>
  obtain⟨k,N,sm,bo,hkk,rfl,rfl,rfl,rfl,hN,hS,hb,hsz,b1⟩:=hrel;have HN:Hid (N=M5 (E8 key (cs.take k))):=hN;have HS:Hid (StS (N4 V e (E8 key (cs.take k))) bo sm):=hS;have hNb:0<=N/\N<=400000000000:=by rw[hN];exact A8E hM key k
  clear hN hS;have hzw:=hb.size;by_cases hlt:k<cs.length
  ·obtain⟨rfl,hblt,_⟩:=ha k hlt;obtain⟨x,u0,gx,hx,_,c0,hR,c1,hbr⟩:=hC.at hG0 hblt hb hlt;obtain⟨a0,n0,rfl⟩:=hR.shape;have hxm:=mg8 hx;have hxc:=hal.2.2.2 x hxm;have hxr:=hM.row x hxm;have hkI:(k:Int)<cs.length:=by omega
   have hkx:key.length<=x.r.length:=by omega
   have hRi:=hR.is;have hn0:x.r.length<=n0/\n0<=9223372036854775807:=by obtain⟨a',c',ee,h1,h2,_⟩:=id hRi;injection ee with _ _ e3;subst e3;unfold maxLen at h2;exact⟨h1,by omega⟩
   have hRt:=hRi.take hkx;have HX:Hid (E8 key (cs.take (k+1))=E8 key (cs.take k)++(if cR8 (x.r.take key.length) key=0 then[x]else[])):=A87 key hx;have hKr:=hk.below hb;have A0U:=A0w (.slice a0 key.length n0) (.slice ak key.length ck) (x.r.take key.length) key wr hRt hKr.is;have hkn:(key.length:Int)<=n0:=by omega
   obtain⟨cp,HCP⟩:∃q,Hid (cR8 (x.r.take key.length) key=q):=⟨_,rfl⟩;rw[HCP.out]at A0U;have hwN:IntKind.i64.wrap (N+x.n)=N+x.n:=by rw[IntKind.wrap_i64];omega
   clear ha hC hx;go_wp2_with fail;refine cM8 A0U ?_;rintro z w3 ⟨rfl,hb3⟩;have hz3:=hb3.size;have D6:Below w.heap.size w w3:=hb.trans (hb3.mono hzw);have b13:=((bc8 hb3).1 _ _ hsz).trans b1;have c03:=((bc8 hb3).1 _ _ hbr).trans c0;have c13:=((bc8 hb3).1 _ _ hbr).trans c1;have A3y:w.heap.size<w3.heap.size:=by omega
   have A97:b<w3.heap.size:=by omega
   have hR3:=hR.below hb3;clear A0U b1 c0 c1 hb3 hR hRi hRt hKr hb hsz hbr;by_cases hcp:cp=0
   ·subst hcp;have HX2:Hid (E8 key (cs.take (k+1))=E8 key (cs.take k)++ [x]):=by show _=_;rw[HX.out,if_pos HCP.out]
    have HN2:Hid (N+x.n=M5 (E8 key (cs.take (k+1)))):=by show _=_;rw[HX2.out,A9A,HN.out];simp[M5]
    have hV0:=hV.res e x.r ⟨hew,he,hne,w,D,_,ge,hKe⟩ hxr.2;obtain⟨vx,HVX⟩:∃q,Hid (V e x.r=q):=⟨_,rfl⟩;rw[HVX.out]at hV0;have hEv:=fun(w2:World) (hb4:Below w3.heap.size w3 w2)=>A4X (w:=w2) hew (hKe.below (D6.trans (hb4.mono D6.size))) ((hR3.below hb4).is) he hV0;have HAD:Hid (N4 V e (E8 key (cs.take (k+1)))=A0X V e (N4 V e (E8 key (cs.take k))) x):=by show _=_;rw[HX2.out,C0L]
    have f0:=((bc8 D6).1 _ _ hblte).trans e0;have f1:=((bc8 D6).1 _ _ hblte).trans e1;have f2:=((bc8 D6).1 _ _ hblte).trans e2;have f3:=((bc8 D6).1 _ _ hblte).trans e3;have f4:=((bc8 D6).1 _ _ hblte).trans e4;have f5:=((bc8 D6).1 _ _ hblte).trans e5;have f6:=((bc8 D6).1 _ _ hblte).trans e6;have B7i:=D6.size;clear HX hV0;go_wp2_with fail
    go_cut [11] (fun p wz=> ∃q,p=.pointer (some ⟨q,0,none⟩)/\q<wz.heap.size/\wz.cell? ⟨q,0,none⟩=some (.int .i64 vx.k)/\wz.cell? ⟨q,1,none⟩=some (.int .i64 vx.n)/\Below w3.heap.size w3 wz)
    case first=>
     refine wp_region_held_drew (S:=(fun w'=>w'.cell? ⟨be,oe,none⟩=some (.int .i64 e.k)/\w'.cell? ⟨be,oe+1,none⟩=some (.int .i64 e.n)/\w'.cell? ⟨be,oe+2,none⟩=some (.int .i64 e.v.k)/\w'.cell? ⟨be,oe+3,none⟩=some (.int .i64 e.v.n)/\w'.cell? ⟨be,oe+4,none⟩=some (.string e.v.s)/\w'.cell? ⟨be,oe+5,none⟩=some (.string e.p)/\w'.cell? ⟨be,oe+6,none⟩=some (.slice au e.ks.length cu)/\w'.cell? ⟨w.heap.size,1,none⟩=some (.slice (some ⟨b,o,none⟩) cs.length c)/\w'.cell? ⟨b,o+k*2,none⟩=some (.slice a0 x.r.length n0))) (by kernel_rfl) ?_ (fun hHeld=>?_)
     ·(try dsimp only);exact⟨f0,f1,f2,f3,f4,f5,f6,b13,c03⟩
     refine tkY 0 43 rfl rfl ?_;refine tkY 1 44 rfl rfl ?_;refine tkY 2 45 rfl rfl ?_;refine tkY 3 46 rfl rfl ?_;refine tkY 4 47 rfl rfl ?_;refine tkY 5 48 rfl rfl ?_;refine tkY 6 49 rfl rfl ?_;refine tkY 7 50 rfl rfl ?_;refine tkY 8 51 rfl rfl ?_;refine wpAnyH_ready (rs:=[9,10]) (by kernel_rfl) (by simp) ?_;refine AllReadyH.cons rfl (fun KK hKK=>?_) (AllReadyH.cons rfl (fun KK hKK=>?_) AllReadyH.nil)
     ·go_simp;go_at_call 76;refine cM8 (hEv _ bex) ?_;rintro z w5 ⟨rfl,hb5⟩;have hz5:=hb5.size;(try simp at hz5);have I4:Below w3.heap.size w3 w5:=bex;have f0v:=bt8 I4 f0;have f1v:=bt8 I4 f1;have f2v:=bt8 I4 f2;have f3v:=bt8 I4 f3;have f4v:=bt8 I4 f4;have f5v:=bt8 I4 f5;have f6v:=bt8 I4 f6;have A3C:=bt8 I4 b13;have A30:=((bc8 I4).1 b (o+k*2) (by omega)).trans c03;try go_wp2_with fail
      refine hKK.out _ _ ?_ (fun hHeld9=>?_)
      ·(try dsimp only);exact⟨f0v,f1v,f2v,f3v,f4v,f5v,f6v,A3C,A30⟩
      clear hKK;refine wpAnyH_ready (rs:=[10]) (by kernel_rfl) (by simp) ?_;refine AllReadyH.cons rfl (fun KK hKK=>?_) AllReadyH.nil;go_simp;refine hKK.out _ _ ?_ (fun W9=>?_)
      ·(try dsimp only);exact⟨(cb8 ba8).trans f0v,(cb8 ba8).trans f1v,(cb8 ba8).trans f2v,(cb8 ba8).trans f3v,(cb8 ba8).trans f4v,(cb8 ba8).trans f5v,(cb8 ba8).trans f6v,(cb8 ba8).trans A3C,(cb8 ba8).trans A30⟩
      clear hKK;refine wpAnyH_ready (rs:=[11]) (by kernel_rfl) (by simp) ?_;refine AllReadyH.cons rfl (fun KK hKK=>?_) AllReadyH.nil;go_simp;refine hKK.out _ _ ?_ (fun J3=>?_)
      ·(try dsimp only);exact⟨(cb8 ba8).trans f0v,(cb8 ba8).trans f1v,(cb8 ba8).trans f2v,(cb8 ba8).trans f3v,(cb8 ba8).trans f4v,(cb8 ba8).trans f5v,(cb8 ba8).trans f6v,(cb8 ba8).trans A3C,(cb8 ba8).trans A30⟩
      clear hKK;refine wpAnyH_done (by kernel_rfl) ?_ _;try go_wp2_with fail
      try go_meet
      exact⟨_,rfl,by simp,by go_simp,by go_simp,I4.alloc I4.size _⟩
     ·go_simp;refine hKK.out _ _ ?_ (fun W9=>?_)
      ·(try dsimp only);exact⟨(cb8 ba8).trans f0,(cb8 ba8).trans f1,(cb8 ba8).trans f2,(cb8 ba8).trans f3,(cb8 ba8).trans f4,(cb8 ba8).trans f5,(cb8 ba8).trans f6,(cb8 ba8).trans b13,(cb8 ba8).trans c03⟩
      clear hKK;refine wpAnyH_ready (rs:=[9]) (by kernel_rfl) (by simp) ?_;refine AllReadyH.cons rfl (fun KK hKK=>?_) AllReadyH.nil;go_simp;go_at_call 76;refine cM8 (hEv _ bex) ?_;rintro z w5 ⟨rfl,hb5⟩;have hz5:=hb5.size;(try simp at hz5);have I4:Below w3.heap.size w3 w5:=bex;have f0v:=bt8 I4 f0;have f1v:=bt8 I4 f1;have f2v:=bt8 I4 f2;have f3v:=bt8 I4 f3;have f4v:=bt8 I4 f4;have f5v:=bt8 I4 f5;have f6v:=bt8 I4 f6;have A3C:=bt8 I4 b13;have A30:=((bc8 I4).1 b (o+k*2) (by omega)).trans c03;have v0:w5.cell? ⟨w3.heap.size,0,none⟩=some (.int .i64 0):=cl8 hb5;have v1:w5.cell? ⟨w3.heap.size,1,none⟩=some (.int .i64 0):=cl8 hb5;have v2:w5.cell? ⟨w3.heap.size,2,none⟩=some (.string ⟨#[]⟩):=cl8 hb5;have vf:∀q,w5.frozen? ⟨w3.heap.size,q,none⟩=false:=fun q=>((bc8 hb5).2 _ q (by simp)).trans (by go_simp);try go_wp2_with fail
      refine hKK.out _ _ ?_ (fun hHeld9=>?_)
      ·(try dsimp only);exact⟨f0v,f1v,f2v,f3v,f4v,f5v,f6v,A3C,A30⟩
      clear hKK;refine wpAnyH_ready (rs:=[11]) (by kernel_rfl) (by simp) ?_;refine AllReadyH.cons rfl (fun KK hKK=>?_) AllReadyH.nil;go_simp;refine hKK.out _ _ ?_ (fun J3=>?_)
      ·refine⟨?_,?_,?_,?_,?_,?_,?_,?_,?_⟩<;>(go_simp;done)
      clear hKK;refine wpAnyH_done (by kernel_rfl) ?_ _;try go_wp2_with fail
      try go_meet
      exact⟨_,rfl,by simp;omega,by go_simp,by go_simp,((I4.setCell (by simp) _).setCell (by simp) _).setCell (by simp) _⟩
    case rest=>
     obtain⟨q,rfl,hql,g0',g1',hbc⟩:=hcut;have I3:Below w.heap.size w wc:=D6.trans (hbc.mono B7i);have b14:=((bc8 hbc).1 _ _ A3y).trans b13;have c14:=((bc8 hbc).1 _ _ A97).trans c13;have B1E:w.heap.size<wc.heap.size:=by have:=hbc.size;omega
     clear hbc f0 f1 f2 f3 f4 f5 f6 b13 c13 c03 D6 hEv hR3;by_cases hv1:vx.k=1
     ·have C0Z:(vx.k==1)=true:=by simpa using hv1
      have HS2:Hid (StS (N4 V e (E8 key (cs.take (k+1)))) true (IntKind.i64.wrap (sm+IntKind.i64.wrap (vx.n*x.n)))):=by
       have hw:∀z:Int,IntKind.i64.wrap z=wrap64 z:=fun z=>by rw[IntKind.wrap_i64,wrap64]
       rw[hw,hw];refine .inr ⟨?_,rfl⟩;rw[HAD.out];unfold A0X;rw[HVX.out,if_pos hv1];rcases HS.out with⟨q1,q2,q3⟩|⟨q1,q2⟩
       ·rw[q1,q3];rfl
       ·rw[q1];rfl
      clear hv1 HAD HVX;go_wp2_with fail;go_region_held3 (fun w'=>w'.cell? ⟨q,1,none⟩=some (.int .i64 vx.n)/\w'.cell? ⟨w.heap.size,1,none⟩=some (.slice (some ⟨b,o,none⟩) cs.length c)/\w'.cell? ⟨b,o+k*2+1,none⟩=some (.int .i64 x.n)) (refine⟨?_,?_,?_⟩<;>first|(with_reducible assumption)|(go_simp;done)) (fail);go_wp2_with fail;exact⟨⟨k+1,N+x.n,_,true,hlt,by simp,rfl,rfl,rfl,HN2.out,HS2.out,(by first|exact I3|exact bex),(by first|exact B1E|(simp;omega)),(by first|exact b14|go_simp)⟩,by simp[intOf];omega⟩
     ·have C0Z:(vx.k==1)=false:=by simpa using hv1
      have HS2:Hid (StS (N4 V e (E8 key (cs.take (k+1)))) bo sm):=by
       show StS _ _ _;rw[HAD.out];unfold A0X;rw[HVX.out,if_neg hv1];exact HS.out
      clear hv1 HAD HVX;go_wp2_with fail;exact⟨⟨k+1,N+x.n,sm,bo,hlt,by simp,rfl,rfl,rfl,HN2.out,HS2.out,I3,B1E,b14⟩,by simp[intOf];omega⟩
   ·have B2A:(cp !=0)=true:=by simpa using hcp
    have HX2:Hid (E8 key (cs.take (k+1))=E8 key (cs.take k)):=by show _=_;rw[HX.out,if_neg (by rw[HCP.out];exact hcp),List.append_nil]
    clear hcp HX;go_wp2_with fail;exact⟨⟨k+1,N,sm,bo,hlt,by simp,rfl,rfl,rfl,by rw[HX2.out];exact HN.out,by rw[HX2.out];exact HS.out,D6,A3y,b13⟩,by simp[intOf];omega⟩
  ·obtain rfl:k=cs.length:=by omega
   have HNE:Hid (N=M5 (E8 key cs)):=by have:=HN.out;rw[List.take_length]at this;exact this
   have HSE:Hid (StS (N4 V e (E8 key cs)) bo sm):=by have:=HS.out;rw[List.take_length]at this;exact this
   clear ha hC HN HS;have hkw:=hk.below hb;have hcl:∀ (w2:World) (q1 q2:Int) (q3:ByteArray),∀j u,([.int .i64 q1,.int .i64 q2,.string q3]:List Value)[j]?=some u->(w2.alloc (.cells #[.int .i64 q1,.int .i64 q2,.string q3] 39)).cell? ((⟨w2.heap.size,0,none⟩:Addr).add j)=some u:=fun w2 q1 q2 q3=>World.news_of_block (cs:=#[.int .i64 q1,.int .i64 q2,.string q3]) (t:=39) (fr:=(0,0)) (heap_alloc_new w2 _);go_wp2_with fail;refine cM8 (A63 (.slice ak key.length ck) key g0 _ hkw (by omega)) ?_;rintro z w4 ⟨⟨u4,rfl,U3⟩,hb4⟩;have hz4:=hb4.size;have I3:Below w.heap.size w w4:=hb.trans (hb4.mono hzw);have A7r:=oL8 U3;obtain⟨a4,c4,e4'⟩:∃a4 c4,u4=.slice a4 key.length c4:=by
    rcases U3.2 with⟨rfl,h0⟩|⟨g,cap,cur,hv,_⟩
    ·exact⟨none,0,by rw[h0]⟩
    ·exact⟨_,cap,hv⟩
   subst e4';go_wp2_with fail;refine cM8 (A6R N _) ?_;rintro z w5 ⟨rfl,hb5⟩;have hz5:=hb5.size;have D7:Below w.heap.size w w5:=I3.trans (hb5.mono I3.size);have D4:w5.ownsRow w.heap.size 39 3 (.slice a4 key.length c4) key.length (rc key):=by
    obtain⟨h0,h1|⟨g,cap,cur,h1,h2,h3⟩⟩:=oK8 U3 fun t ht=>hb5.block t (A7r t ht).2
    ·exact⟨h0,.inl h1⟩
    ·exact⟨h0,.inr ⟨g,cap,cur,h1,by omega,h3⟩⟩
   clear U3 hb4 hb5 hkw;go_wp2_with(at_builtin;refine wpList_append_own _ rfl _ _ 114 rfl w.heap.size 39 i0 _ 3 32 Tryz.underlying114 hi hz0 hz1 M6 rfl (by decide) _ _ _ rfl (D4.alloc _) ⟨w5.heap.size,0,none⟩ 1 1 [.int .i64 1,.int .i64 N,.string ⟨#[]⟩] rfl rfl (hcl _ _ _ _) (by simp[Value.oneCell']) ?c36 ?c46 ?c56 ?_)
   case c36=>unfold maxLen;omega
   case c46=>omega
   case c56=>simp;omega
   intro v6 w6 H6 hgr6 _;have A3f:=hgr6.size;simp at A3f;have K3:Below w.heap.size w w6:=(D7.alloc D7.size _).grown hgr6 (by simp;omega) (fun t ht=>by have:=(oL8 D4 t ht).1;omega);have HR6:Hid (rc key++ [.int .i64 1,.int .i64 N,.string ⟨#[]⟩]=rc (key++ [⟨1,N,⟨#[]⟩⟩])):=(A0d key ⟨1,N,⟨#[]⟩⟩).symm;rw[HR6.out]at H6;obtain⟨a6,c6,e6'⟩:∃a6 c6,v6=.slice a6 (key.length+1) c6:=by
    rcases H6.2 with⟨rfl,h0⟩|⟨g,cap,cur,hv,_⟩
    ·exact absurd h0 (by omega)
    ·exact⟨_,cap,hv⟩
   subst e6';have hz6:=K3.size;have C3E:=oL8 H6;have HT:Hid (tR8 V [e] key (E8 key cs)=(key++ [⟨1,N,⟨#[]⟩⟩])++ [i7 (N4 V e (E8 key cs))]):=by show _=_;unfold tR8;rw[<-HNE.out];simp
   clear hgr6 D4 HR6 HNE;cases bo with
   |false=>
    have HT2:Hid (tR8 V [e] key (E8 key cs)=(key++ [⟨1,N,⟨#[]⟩⟩])++ [⟨0,0,⟨#[]⟩⟩]):=by
     show _=_;rw[HT.out];rcases HSE.out with⟨q1,_,_⟩|⟨_,q2⟩
     ·rw[q1];rfl
     ·cases q2
    clear HT HSE;go_wp2_with(at_builtin;refine wpList_append_own _ rfl _ _ 114 rfl w.heap.size 39 i0 _ 3 32 Tryz.underlying114 hi hz0 hz1 M6 rfl (by decide) _ _ _ rfl (H6.alloc _) ⟨w6.heap.size,0,none⟩ 1 1 [.int .i64 0,.int .i64 0,.string ⟨#[]⟩] rfl rfl (hcl _ _ _ _) (by simp[Value.oneCell']) ?c37 ?c47 ?c57 ?_)
    case c37=>unfold maxLen;omega
    case c47=>omega
    case c57=>simp;omega
    intro v7 w7 U6 hgr7 _;have A6i:=hgr7.size;simp at A6i;have S7:Below w.heap.size w w7:=(K3.alloc K3.size _).grown hgr7 (by simp;omega) (fun t ht=>by have:=(oL8 H6 t ht).1;omega);have HR7:Hid (rc (key++ [⟨1,N,⟨#[]⟩⟩])++ [.int .i64 0,.int .i64 0,.string ⟨#[]⟩]=rc ((key++ [⟨1,N,⟨#[]⟩⟩])++ [⟨0,0,⟨#[]⟩⟩])):=(A0d _ ⟨0,0,⟨#[]⟩⟩).symm;rw[HR7.out]at U6;obtain⟨g7,hg7⟩:=A0S (vs:=(key++ [⟨1,N,⟨#[]⟩⟩])++ [⟨0,0,⟨#[]⟩⟩]) U6;clear U6 hgr7 H6 HR7 hcl;go_wp2;go_returns;exact⟨⟨_,g7,rfl,(by rw[<-HRR.out,HT2.out];exact hg7.1),hg7.2⟩,S7⟩
   |true=>
    have HT2:Hid (tR8 V [e] key (E8 key cs)=(key++ [⟨1,N,⟨#[]⟩⟩])++ [⟨1,sm,⟨#[]⟩⟩]):=by
     show _=_;rw[HT.out];rcases HSE.out with⟨_,q2,_⟩|⟨q1,_⟩
     ·cases q2
     ·rw[q1];rfl
    clear HT HSE;go_wp2_with fail;refine cM8 (A6R sm _) ?_;rintro z w8 ⟨rfl,hb8⟩;have hz8:=hb8.size;have A2Z:Below w.heap.size w w8:=K3.trans (hb8.mono K3.size);have A6a:w8.ownsRow w.heap.size 39 3 (.slice a6 (key.length+1) c6) (key.length+1) (rc (key++ [⟨1,N,⟨#[]⟩⟩])):=oK8 H6 fun t ht=>hb8.block t (C3E t ht).2;clear H6 hb8;go_wp2_with(at_builtin;refine wpList_append_own _ rfl _ _ 114 rfl w.heap.size 39 i0 _ 3 32 Tryz.underlying114 hi hz0 hz1 M6 rfl (by decide) _ _ _ rfl (A6a.alloc _) ⟨w8.heap.size,0,none⟩ 1 1 [.int .i64 1,.int .i64 sm,.string ⟨#[]⟩] rfl rfl (hcl _ _ _ _) (by simp[Value.oneCell']) ?c37 ?c47 ?c57 ?_)
    case c37=>unfold maxLen;omega
    case c47=>omega
    case c57=>simp;omega
    intro v7 w7 U6 hgr7 _;have A6i:=hgr7.size;simp at A6i;have S7:Below w.heap.size w w7:=(A2Z.alloc A2Z.size _).grown hgr7 (by simp;omega) (fun t ht=>by have:=(oL8 A6a t ht).1;omega);have HR7:Hid (rc (key++ [⟨1,N,⟨#[]⟩⟩])++ [.int .i64 1,.int .i64 sm,.string ⟨#[]⟩]=rc ((key++ [⟨1,N,⟨#[]⟩⟩])++ [⟨1,sm,⟨#[]⟩⟩])):=(A0d _ ⟨1,sm,⟨#[]⟩⟩).symm;rw[HR7.out]at U6;obtain⟨g7,hg7⟩:=A0S (vs:=(key++ [⟨1,N,⟨#[]⟩⟩])++ [⟨1,sm,⟨#[]⟩⟩]) U6;clear U6 hgr7 A6a HR7 hcl;go_wp2;go_returns;exact⟨⟨_,g7,rfl,(by rw[<-HRR.out,HT2.out];exact hg7.1),hg7.2⟩,S7⟩
theorem C2S {m:Int}{V:E7->List V3->V3}(hV:VOk m V)(W B0:Int)(v kv ev:Value)(cs:List C2)(F g0:List Nat)(key:List V3)(es:List E7)(Fs:List Nat)(D:Nat)(w:World)(hr:C6 w v cs F)(hM:K2 W cs)(hn:wtb cs<=1048576)(hk:D9 w kv key g0)(hkW:(key.length:Int)<=W)(hes:es.length<=1)(hk0:C1 w D ev es Fs)(hok:∀e∈es,okE 13 e=true)(hne:∀e∈es,wtE e<=1048576):Calls Tryz.prog 78 #[.agg #[.int .i64 B0,v],kv,ev] w fun q w'=>(∃u g,q=.returned u/\D9 w' u (tR8 V es key (E8 key cs)) g/\D5 w' w.heap.size g)/\Below w.heap.size w w':=by
 obtain⟨D,rfl⟩:=hk0.succ
 match es,hes with
 | [],_=>
  obtain⟨a,c,rfl,_,_⟩:=hk0.shape;exact B4s hV W B0 v kv _ cs F g0 key w hr hM hn hk hkW ⟨a,c,rfl⟩
 | [e],_=>exact C0e hV W B0 v kv ev cs F g0 key e Fs D w hr hM hn hk hkW (hok e (by simp)) (hne e (by simp)) hk0
 |_::_::_,h=>simp at h
theorem D9.take {w:World}{a:Option Addr}{c:Nat}{vs:List V3}{g:List Nat}(h:D9 w (.slice a vs.length c) vs g){n:Nat}(hn:n<=vs.length):∃g',D9 w (.slice a n c) (vs.take n) g':=by
 obtain⟨a',c',e,hl,hc,hz,_,h⟩:=h;injection e with e1 e2 e3;subst e1 e3;have D3:(vs.take n).length=n:=by simp;omega
 by_cases hne:vs.take n=[]
 ·exact⟨[],a,c,by rw[D3],by omega,hc,hz,fun _=>rfl,fun hx=>absurd hne hx⟩
 ·obtain⟨b,o,hb,hlt,hg,hL⟩:=h (by rintro rfl;simp at hne);refine⟨g,a,c,by rw[D3],by omega,hc,hz,fun hx=>absurd hx hne,fun _=>⟨b,o,hb,hlt,hg,fun i x hx=>hL i x ?_⟩⟩;rw[List.getElem?_take]at hx;split at hx
  ·exact hx
  ·cases hx
def t8 (n:Nat)(p:Option (List V3))(l:List C2):Option (List V3):=match l.getLast? with
 |none=>p
 |some y=>some (y.r.take n)
theorem A6o (n:Nat)(x:C2):∀ (l:List C2) (p:Option (List V3)),M7 n p (l++ [x])=M7 n p l++(if sameKey (t8 n p l) (x.r.take n)=true then[]else[x.r.take n])
 | [],p=>by
  simp only[List.nil_append,M7,t8,List.getLast?_nil]
  first|rfl|(split<;>rfl)
 |c::l,p=>by
  rw[List.cons_append,M7,M7];have hp:∀q:Option (List V3),q=some (c.r.take n)->t8 n q l=t8 n p (c::l):=fun q hq=>by
   subst hq;unfold t8;cases l with
   |nil=>simp
   |cons y l=>rw[List.getLast?_cons_cons];cases hh:(y::l).getLast? with
    |none=>simp at hh
    |some z=>rfl
  by_cases h:sameKey p (c.r.take n)=true
  ·rw[if_pos h,if_pos h,A6o n x l p];have:p=some (c.r.take n):=by
    unfold sameKey at h;split at h
    ·cases h
    ·rw[decide_eq_true_eq]at h;rw[(K7 _ _).1 h]
   rw[hp p this]
  ·rw[if_neg h,if_neg h,A6o n x l _,hp _ rfl,List.cons_append]
theorem A6U (n:Nat):∀ (l:List C2) (p:Option (List V3)),(M7 n p l).length<=l.length
 | [],_=>by simp[M7]
 |c::l,p=>by
  rw[M7];split
  ·have:=A6U n l p;simp;omega
  ·have:=A6U n l (some (c.r.take n));simp;omega
def J6 (V:E7->List V3->V3)(n:Nat)(es:List E7)(cs:List C2)(k:Nat):List C2:=(M7 n none (cs.take k)).map fun key=>⟨tR8 V es key (E8 key cs),1⟩
theorem B8i (V:E7->List V3->V3)(n:Nat)(es:List E7)(cs:List C2):J6 V n es cs cs.length=m5 V n es cs:=by rw[J6,List.take_length];rfl
theorem A8l {V:E7->List V3->V3}{W:Int}{n:Nat}{es:List E7}{cs:List C2}(hM:K2 W cs)(hn:(n:Int)<=W)(k:Nat):Asc (J6 V n es cs k)/\(J6 V n es cs k).length<=400/\∀c∈J6 V n es cs k,c.n=1:=by
 have hl:=hM.all.2.2.1;have hA:Asc (cs.take k):=List.Pairwise.sublist (List.take_sublist k cs) hM.asc;obtain⟨h1,h2⟩:=A4p (n:=n) (p:=none) hA (fun c hc=>(hM.row c (List.mem_of_mem_take hc)).1) (fun k hk=>by cases hk);have D3:∀q∈M7 n none (cs.take k),q.length=n:=fun q hq=>by
  obtain⟨_,c,hcm,rfl⟩:=h2 q hq;have:=(hM.row c (List.mem_of_mem_take hcm)).1;simp;omega
 refine⟨?_,?_,fun c hc=>?_⟩
 ·unfold Asc J6;rw[List.pairwise_map];refine List.Pairwise.imp_of_mem (fun{a b} ha hb h=>?_) h1;show cR8 (tR8 V es a _) (tR8 V es b _)<0;unfold tR8;have:=D3 a ha;have:=D3 b hb;rw[A20 (by omega),if_neg (by omega)];exact h
 ·unfold J6;rw[List.length_map];have:=A6U n (cs.take k) none;have:(cs.take k).length<=cs.length:=by simp;omega
  omega
 ·obtain⟨q,_,rfl⟩:=List.mem_map.1 hc;rfl
theorem A9W {V:E7->List V3->V3}{n:Nat}{es:List E7}{cs:List C2}{k:Nat}{x:C2}(hx:cs[k]?=some x):J6 V n es cs (k+1)=J6 V n es cs k++(if sameKey (t8 n none (cs.take k)) (x.r.take n)=true then[]else[⟨tR8 V es (x.r.take n) (E8 (x.r.take n) cs),1⟩]):=by
 unfold J6;rw[V9 hx,A6o,List.map_append];congr 1;split<;>rfl
theorem C3k {V:E7->List V3->V3}{W:Int}{n:Nat}{es:List E7}{cs:List C2}{k:Nat}{x:C2}(hM:K2 W cs)(hn:(n:Int)<=W)(hx:cs[k]?=some x)(h:sameKey (t8 n none (cs.take k)) (x.r.take n)=false):J6 V n es cs (k+1)=E5 (J6 V n es cs k) (tR8 V es (x.r.take n) (E8 (x.r.take n) cs)) 1:=by
 have e:=A9W (V:=V) (n:=n) (es:=es) hx;rw[h]at e;simp only[Bool.false_eq_true,if_false]at e;have h1:=(A8l (V:=V) (es:=es) hM hn (k+1)).1;rw[e]at h1⊢;exact(B0R h1 (by decide)).symm
theorem B3v {V:E7->List V3->V3}{n:Nat}{es:List E7}{cs:List C2}{k:Nat}{x:C2}(hx:cs[k]?=some x)(h:sameKey (t8 n none (cs.take k)) (x.r.take n)=true):J6 V n es cs (k+1)=J6 V n es cs k:=by
 rw[A9W hx,h];simp
theorem C1t (n:Nat)(cs:List C2):t8 n none (cs.take 0)=none:=rfl
theorem C3S (n:Nat){cs:List C2}{j:Nat}{y:C2}(hy:cs[j]?=some y):t8 n none (cs.take (j+1))=some (y.r.take n):=by
 rw[V9 hy];simp[t8]
structure GrW (w:World)(W T:Int)(a:Option Addr)(lc c:Nat)(acc:List C2)(y:Value)(us:List Value)(G:List (List Nat))(wr:World):Prop where
 a0:wr.cell? ⟨w.heap.size,0,none⟩=some (.int .i64 W)
 a1:wr.cell? ⟨w.heap.size,1,none⟩=some (.slice a lc c)
 r0:wr.cell? ⟨w.heap.size+1,0,none⟩=some (.int .i64 0)
 r1:wr.cell? ⟨w.heap.size+1,1,none⟩=some (.slice none 0 0)
 rf:∀q,wr.frozen? ⟨w.heap.size+1,q,none⟩=false
 p0:wr.cell? ⟨w.heap.size+1+1,0,none⟩=some (.int .i64 T)
 p1:wr.cell? ⟨w.heap.size+1+1,1,none⟩=some y
 pf:∀q,wr.frozen? ⟨w.heap.size+1+1,q,none⟩=false
 own:C4 wr (w.heap.size+1+1+1) y acc us G
 bel:Below w.heap.size w wr
 big:w.heap.size+1+1<wr.heap.size
theorem GrW.below {w wr w':World}{W T:Int}{a:Option Addr}{lc c:Nat}{acc:List C2}{y:Value}{us:List Value}{G:List (List Nat)}(h:GrW w W T a lc c acc y us G wr)(hb:Below wr.heap.size wr w'):GrW w W T a lc c acc y us G w':=by
 have hz:=h.big;have hs:=hb.size;exact⟨bt8 hb h.a0,bt8 hb h.a1,bt8 hb h.r0,bt8 hb h.r1,fun q=>((bc8 hb).2 _ q (by omega)).trans (h.rf q),bt8 hb h.p0,bt8 hb h.p1,fun q=>((bc8 hb).2 _ q (by omega)).trans (h.pf q),h.own.below hb,h.bel.trans (hb.mono h.bel.size),by omega⟩
theorem GrW.put {w wr w5:World}{W T:Int}{a:Option Addr}{lc c:Nat}{acc acc5:List C2}{y y5:Value}{us us5:List Value}{G G5:List (List Nat)}(h:GrW w W T a lc c acc y us G wr)(hb:Below (w.heap.size+1+1+1) wr w5)(hB:C4 w5 (w.heap.size+1+1+1) y5 acc5 us5 G5):GrW w W T a lc c acc5 y5 us5 G5 ((w5.setCell ⟨w.heap.size+1+1,0,none⟩ (.int .i64 T)).setCell ⟨w.heap.size+1+1,1,none⟩ y5):=by
 have hz:=h.big;have hs:=hb.size;have kB:∀q,q<w.heap.size+1+1+1->w5.heap[q]?=wr.heap[q]?:=fun q hq=>hb.block q hq;have kS:∀q,q<w.heap.size+1+1->((w5.setCell ⟨w.heap.size+1+1,0,none⟩ (.int .i64 T)).setCell ⟨w.heap.size+1+1,1,none⟩ y5).heap[q]?=wr.heap[q]?:=fun q hq=>(bS8 _ _ _ _ (by simp;omega)).trans ((bS8 _ _ _ _ (by simp;omega)).trans (kB q (by omega)));have p0:=(cb8 (kB (w.heap.size+1+1) (by omega))).trans h.p0;have p1:=(cb8 (kB (w.heap.size+1+1) (by omega))).trans h.p1;have A24:Below w.heap.size w w5:=h.bel.trans ((show Below (w.heap.size+1+1+1) wr w5 from⟨hb.os,hb.tape,hb.output,hb.size,hb.block⟩).mono (by omega));exact⟨(cb8 (kS _ (by omega))).trans h.a0,(cb8 (kS _ (by omega))).trans h.a1,(cb8 (kS _ (by omega))).trans h.r0,(cb8 (kS _ (by omega))).trans h.r1,fun q=>(fb8 (kS _ (by omega))).trans (h.rf q),(cO8 _ _ _ _ (by simp)).trans (cS8 _ _ _ p0),cS8 _ _ _ ((cO8 _ _ _ _ (by simp)).trans p1),fun q=>by have:=(fb8 (kB (w.heap.size+1+1) (by omega)) (o:=q)).trans (h.pf q);simpa using this,hB.keep (by simp) (fun t ht _=>(bS8 _ _ _ _ (by simp;omega)).trans (bS8 _ _ _ _ (by simp;omega))),(A24.setCell (by simp;try omega) _).setCell (by simp;try omega) _,by simp;omega⟩
theorem B7g {m:Int}{V:E7->List V3->V3}(hV:VOk m V)(W:Int)(nn:Nat)(v ev:Value)(cs:List C2)(F:List Nat)(es:List E7)(Fs:List Nat)(D:Nat)(w:World)(hr:C6 w v cs F)(hM:K2 W cs)(hn:wtb cs<=1048576)(hnW:(nn:Int)<=W)(hes:es.length<=1)(hk0:C1 w D ev es Fs)(hok:∀e∈es,okE 13 e=true)(hne:∀e∈es,wtE e<=1048576)(P:List C2)(hP:Hid (m5 V nn es cs=P)):Calls Tryz.prog 56 #[.agg #[.int .i64 W,v],.int .i64 nn,ev] w fun q w'=>(∃u us G,q=.returned (.agg #[.int .i64 ((nn:Int)+1+es.length),u])/\C4 w' w.heap.size u P us G)/\Below w.heap.size w w':=by
 obtain⟨ae,ce,rfl,_,_⟩:=hk0.shape;have hrr:=hr;obtain⟨a,c,b,o,G0,rfl,hl,hc,_,hG0,_,hC,ha⟩:=hr.pick;unfold maxLen at hc;have hal:=hM.all;have hw1:IntKind.i64.wrap ((nn:Int)+1)=(nn:Int)+1:=by rw[IntKind.wrap_i64];omega
 have hw2:IntKind.i64.wrap ((nn:Int)+1+es.length)=(nn:Int)+1+es.length:=by rw[IntKind.wrap_i64];omega
 obtain⟨T,HTT⟩:∃T,Hid ((nn:Int)+1+es.length=T):=⟨_,rfl⟩;rw[HTT.out];clear hr;go_enter Tryz.func56,Tryz.ntmps56;go_wp2_with fail;go_loopw [8] (fun i wr=> ∃ (k:Nat) (y:Value) (us:List Value) (G:List (List Nat)),k<=cs.length/\i=.int .i64 k/\GrW w W T a cs.length c (J6 V nn es cs k) y us G wr) (fun i _=>cs.length - (intOf i).toNat)
 case atStart=>
  refine⟨0,.slice none 0 0,[],[],Nat.zero_le _,rfl,⟨by go_simp,by go_simp,by go_simp,by go_simp,fun q=>by go_simp,by first|(go_simp;done)|(go_simp;exact HTT.out),by go_simp,fun q=>by go_simp,C4.nil _ _,bex,by simp⟩⟩
 case round=>
  obtain⟨k,y,us,G,hk,rfl,hJ⟩:=hrel;have q0:=hJ.a0;have q1:=hJ.a1;by_cases hlt:k<cs.length
  ·obtain⟨rfl,hblt,_⟩:=ha k hlt;obtain⟨x,u0,g0,hx,_,c0,hR,c1,hbr⟩:=hC.at hG0 hblt (Below.refl _ _) hlt;obtain⟨a0,n0,rfl⟩:=hR.shape;have hxm:=mg8 hx;have hxr:=hM.row x hxm;have hkI:(k:Int)<cs.length:=by omega
   have hnx:nn<=x.r.length:=by omega
   have hn0:x.r.length<=n0/\n0<=9223372036854775807:=by obtain⟨a',c',ee,h1,h2,_⟩:=id hR;injection ee with _ _ e3;subst e3;unfold maxLen at h2;exact⟨h1,by omega⟩
   have C5M:(nn:Int)<=n0:=by omega
   obtain⟨gk,hRk⟩:=hR.take hnx;have hkl:(x.r.take nn).length=nn:=by simp;omega
   have hb:=hJ.bel;have hzw:=hb.size;have hbig:=hJ.big;have d0:=((bc8 hb).1 b (o+k*2) hblt).trans c0;have hKw:=hRk.below hb;have HX:Hid (cs[k]?=some x):=hx;have B1G:=fun(w2:World) (hb2:Below w.heap.size w w2) (hk2:D9 w2 (.slice a0 nn n0) (x.r.take nn) gk)=>C2S hV W W (.slice (some ⟨b,o,none⟩) cs.length c) (.slice a0 nn n0) (.slice ae es.length ce) cs F gk (x.r.take nn) es Fs D w2 (hrr.below hb2) hM hn hk2 (by rw[hkl];exact hnW) hes (hk0.below hb2) hok hne;obtain⟨bs,HBS⟩:∃q,Hid (sameKey (t8 nn none (cs.take k)) (x.r.take nn)=q):=⟨_,rfl⟩;have A6v:Hid (bs=true->J6 V nn es cs (k+1)=J6 V nn es cs k):=fun hb=>B3v HX.out (HBS.out.trans hb);have A9D:Hid (bs=false->J6 V nn es cs (k+1)=E5 (J6 V nn es cs k) (tR8 V es (x.r.take nn) (E8 (x.r.take nn) cs)) 1):=fun hb=>C3k hM hnW HX.out (HBS.out.trans hb);obtain⟨hsA,hsl,hs1⟩:=A8l (V:=V) (es:=es) hM hnW k;have HSb:Hid (∀c∈J6 V nn es cs k,-4000000000000000000<=c.n/\c.n<=4000000000000000000):=fun c hc=>by rw[hs1 c hc];decide
   have hrl:(tR8 V es (x.r.take nn) (E8 (x.r.take nn) cs)).length<=1048576:=by unfold tR8;simp;omega
   obtain⟨row,A1u⟩:∃q,Hid (tR8 V es (x.r.take nn) (E8 (x.r.take nn) cs)=q):=⟨_,rfl⟩;rw[A1u.out]at hrl;have A5K:Hid (bs=false->J6 V nn es cs (k+1)=E5 (J6 V nn es cs k) row 1):=fun hb=>by rw[<-A1u.out];exact A9D.out hb
   have B02:∀ (w2:World),Below w.heap.size w w2->D9 w2 (.slice a0 nn n0) (x.r.take nn) gk->Calls Tryz.prog 78 #[.agg #[.int .i64 W,.slice (some ⟨b,o,none⟩) cs.length c],.slice a0 nn n0,.slice ae es.length ce] w2 fun q w'=>(∃u g,q=.returned u/\D9 w' u row g/\D5 w' w2.heap.size g)/\Below w2.heap.size w2 w':=by rw[<-A1u.out];exact B1G
   have hct:(J6 V nn es cs k).length<=2097152:=by omega
   clear hs1 A9D B1G hx hxm hkl;by_cases hk00:k=0
   ·subst hk00;obtain rfl:bs=false:=by rw[<-HBS.out,C1t];rfl
    have hK0:(((0:Nat):Int)==0)=true:=rfl;have hJJ:=hJ;obtain⟨ww,hww⟩:∃q,q=wr:=⟨_,rfl⟩;subst hww;have hKK:=hKw;simp only[Nat.zero_mul,Nat.add_zero]at d0;clear hJ hK0;go_wp2_with fail;have p0:=hJJ.p0;have p1:=hJJ.p1;have q0:=hJJ.a0;have q1:=hJJ.a1;have hbw:=hJJ.bel;have hbg:=hJJ.big;have C29:=hbw.size;have A3e:=hJJ.own;obtain⟨ay,cy,rfl⟩:=A3e.shape;have HA:Hid (J6 V nn es cs (0+1)=E5 (J6 V nn es cs 0) row 1):=A5K.out (by first|rfl|trivial);have HPP:=fun a6 c6 g6 w6=>A3X T 1 (.slice ay (J6 V nn es cs 0).length cy) (.slice a6 row.length c6) (J6 V nn es cs 0) us G row g6 (w.heap.size+1+1+1) w6;clear A3e A5K A6v A1u HBS HX;generalize J6 V nn es cs 0=ct at*;go_wp2_with fail;refine Z4 6 (fun w'=>w'.cell? ⟨w.heap.size+1+1,0,none⟩=some (.int .i64 T)/\w'.cell? ⟨w.heap.size+1+1,1,none⟩=some (.slice ay ct.length cy)/\w'.cell? ⟨w.heap.size,0,none⟩=some (.int .i64 W)/\w'.cell? ⟨w.heap.size,1,none⟩=some (.slice (some ⟨b,o,none⟩) cs.length c)) (by kernel_rfl) ?_ (fun hHeld=>?_)
    ·exact⟨p0,p1,q0,q1⟩
    refine tkE 0 47 rfl rfl ?_;refine tkE 1 48 rfl rfl ?_;refine tkE 2 49 rfl rfl ?_;refine tkE 3 50 rfl rfl ?_;refine onE 4 rfl fun K hK=>?_;go_simp;go_at_call 78;refine cM8 (B02 _ bex (hKK.below bex)) ?_;rintro zz w6 ⟨⟨u6,g6,rfl,hR6,hO6⟩,hb6⟩;obtain⟨a6,c6,rfl⟩:=hR6.shape;have hz6:=hb6.size;rw[show ww.drew.heap.size=ww.heap.size from rfl]at hz6;have K3:Below ww.heap.size ww w6:=bex;have p06:=bt8 K3 p0;have p16:=bt8 K3 p1;have q06:=bt8 K3 q0;have q16:=bt8 K3 q1;have hJ6:=hJJ.below K3;have H6:=hJ6.own;try go_wp2_with fail
    refine hK.out _ _ ?_ (fun L2=>?_)
    ·intro _;exact⟨p06,p16,q06,q16⟩
    clear hK;replace L2:=L2 (by decide);refine onE 5 rfl fun K hK=>?_;go_simp;go_at_call 77;refine cM8 (HPP a6 c6 g6 _ H6 hR6 hsA (by omega) hct hrl (by decide) (by decide) HSb.out _ rfl) ?_;rintro zz w7 ⟨v7,us7,G7,rfl,hB7,hv7,hG7,hb7,hgr7⟩;obtain⟨a7,c7,rfl⟩:=hB7.shape;have hz7:=hb7.size;(try simp at hz7);have kB:∀q,q<w.heap.size+1+1+1->w7.heap[q]?=w6.heap[q]?:=fun q hq=>hb7.block q hq;have p07:=(cb8 (kB (w.heap.size+1+1) (by omega))).trans p06;have p17:=(cb8 (kB (w.heap.size+1+1) (by omega))).trans p16;have q07:=(cb8 (kB w.heap.size (by omega))).trans q06;have q17:=(cb8 (kB w.heap.size (by omega))).trans q16;have pf7:∀q,w7.frozen? ⟨w.heap.size+1+1,q,none⟩=false:=fun q=>(fb8 (kB (w.heap.size+1+1) (by omega))).trans (hJ6.pf q);try go_wp2_with fail
    refine hK.out _ _ ?_ (fun N2=>?_)
    ·intro _;exact⟨p07,p17,q07,q17⟩
    clear hK;replace N2:=N2 (by decide);refine onE 6 rfl fun K hK=>?_;go_simp;refine hK.out _ _ ?_ (fun Q6=>?_)
    ·exact fun h=>absurd rfl h
    clear hK Q6;refine V6 (by kernel_rfl) ?_ _;have hJ7:=hJ6.put (show Below (w.heap.size+1+1+1) w6 w7 from⟨hb7.os,hb7.tape,hb7.output,hb7.size,hb7.block⟩) hB7;clear hB7 hgr7 kB p07 p17 q07 q17 hJ6 H6 HPP hsA p0 p1 q0 q1 hR6 hO6;go_wp2_with fail;exact⟨⟨0+1,.slice a7 (E5 ct row 1).length c7,us7,G7,hlt,by simp,by rw[HA.out];exact hJ7⟩,by simp[intOf];omega⟩
   ·obtain⟨j,rfl⟩:∃j,k=j+1:=⟨k -1,by omega⟩;have hKb:(((j+1:Nat):Int)==0)=false:=by simp;omega
    have hjl:j<cs.length:=by omega
    obtain⟨z,u1,g1,hz,_,e0,hZ,e1,hbz⟩:=hC.at hG0 hblt (Below.refl _ _) hjl;obtain⟨a1,n1,rfl⟩:=hZ.shape;have hzr:=hM.row z (mg8 hz);have hnz:nn<=z.r.length:=by omega
    have hn1:z.r.length<=n1/\n1<=9223372036854775807:=by obtain⟨a',c',ee,h1,h2,_⟩:=id hZ;injection ee with _ _ e3;subst e3;unfold maxLen at h2;exact⟨h1,by omega⟩
    have C4z:(nn:Int)<=n1:=by omega
    obtain⟨gz,hRz⟩:=hZ.take hnz;have f0:=((bc8 hb).1 b (o+j*2) hblt).trans e0;have hZw:=hRz.below hb;have A0U:=A0w (.slice a1 nn n1) (.slice a0 nn n0) (z.r.take nn) (x.r.take nn) wr hZw.is hKw.is;have hjI:(j:Int)<cs.length:=by omega
    have hwj:IntKind.i64.wrap (j:Int)=j:=by rw[IntKind.wrap_i64];omega
    have B6n:IntKind.i64.wrap ((j:Int)+1 -1)=j:=by rw[IntKind.wrap_i64];omega
    obtain⟨cp,HCP⟩:∃q,Hid (cR8 (z.r.take nn) (x.r.take nn)=q):=⟨_,rfl⟩;have HBC:Hid (bs=decide (cp=0)):=by show _=_;rw[<-HBS.out,C3S nn hz,<-HCP.out];rfl
    rw[HCP.out]at A0U;clear hz e0 e1 hZ;go_wp2_with fail;refine cM8 A0U ?_;rintro zz ww ⟨rfl,hbq⟩;have hJJ:=hJ.below hbq;have hKK:=hKw.below hbq;clear hJ hKw hZw f0 d0 A0U q0 q1;by_cases hcp:cp=0
    ·subst hcp;obtain rfl:bs=true:=by rw[HBC.out];rfl
     have HA:Hid (J6 V nn es cs (j+1+1)=J6 V nn es cs (j+1)):=A6v.out (by first|rfl|trivial);have q1:=hJJ.a1;go_wp2_with fail;exact⟨⟨j+1+1,_,_,_,hlt,by simp,by rw[HA.out];exact hJJ⟩,by simp[intOf];omega⟩
    ·obtain rfl:bs=false:=by rw[HBC.out];simpa using hcp
     have B2A:(cp !=0)=true:=by simpa using hcp
     clear hcp HBC hwj B6n;go_wp2_with fail;have p0:=hJJ.p0;have p1:=hJJ.p1;have q0:=hJJ.a0;have q1:=hJJ.a1;have hbw:=hJJ.bel;have hbg:=hJJ.big;have C29:=hbw.size;have A3e:=hJJ.own;obtain⟨ay,cy,rfl⟩:=A3e.shape;have HA:Hid (J6 V nn es cs (j+1+1)=E5 (J6 V nn es cs (j+1)) row 1):=A5K.out (by first|rfl|trivial);have HPP:=fun a6 c6 g6 w6=>A3X T 1 (.slice ay (J6 V nn es cs (j+1)).length cy) (.slice a6 row.length c6) (J6 V nn es cs (j+1)) us G row g6 (w.heap.size+1+1+1) w6;clear A3e A5K A6v A1u HBS HX;generalize J6 V nn es cs (j+1)=ct at*;go_wp2_with fail;refine Z4 6 (fun w'=>w'.cell? ⟨w.heap.size+1+1,0,none⟩=some (.int .i64 T)/\w'.cell? ⟨w.heap.size+1+1,1,none⟩=some (.slice ay ct.length cy)/\w'.cell? ⟨w.heap.size,0,none⟩=some (.int .i64 W)/\w'.cell? ⟨w.heap.size,1,none⟩=some (.slice (some ⟨b,o,none⟩) cs.length c)) (by kernel_rfl) ?_ (fun hHeld=>?_)
     ·exact⟨p0,p1,q0,q1⟩
     refine tkE 0 47 rfl rfl ?_;refine tkE 1 48 rfl rfl ?_;refine tkE 2 49 rfl rfl ?_;refine tkE 3 50 rfl rfl ?_;refine onE 4 rfl fun K hK=>?_;go_simp;go_at_call 78;refine cM8 (B02 _ bex (hKK.below bex)) ?_;rintro zz w6 ⟨⟨u6,g6,rfl,hR6,hO6⟩,hb6⟩;obtain⟨a6,c6,rfl⟩:=hR6.shape;have hz6:=hb6.size;rw[show ww.drew.heap.size=ww.heap.size from rfl]at hz6;have K3:Below ww.heap.size ww w6:=bex;have p06:=bt8 K3 p0;have p16:=bt8 K3 p1;have q06:=bt8 K3 q0;have q16:=bt8 K3 q1;have hJ6:=hJJ.below K3;have H6:=hJ6.own;try go_wp2_with fail
     refine hK.out _ _ ?_ (fun L2=>?_)
     ·intro _;exact⟨p06,p16,q06,q16⟩
     clear hK;replace L2:=L2 (by decide);refine onE 5 rfl fun K hK=>?_;go_simp;go_at_call 77;refine cM8 (HPP a6 c6 g6 _ H6 hR6 hsA (by omega) hct hrl (by decide) (by decide) HSb.out _ rfl) ?_;rintro zz w7 ⟨v7,us7,G7,rfl,hB7,hv7,hG7,hb7,hgr7⟩;obtain⟨a7,c7,rfl⟩:=hB7.shape;have hz7:=hb7.size;(try simp at hz7);have kB:∀q,q<w.heap.size+1+1+1->w7.heap[q]?=w6.heap[q]?:=fun q hq=>hb7.block q hq;have p07:=(cb8 (kB (w.heap.size+1+1) (by omega))).trans p06;have p17:=(cb8 (kB (w.heap.size+1+1) (by omega))).trans p16;have q07:=(cb8 (kB w.heap.size (by omega))).trans q06;have q17:=(cb8 (kB w.heap.size (by omega))).trans q16;have pf7:∀q,w7.frozen? ⟨w.heap.size+1+1,q,none⟩=false:=fun q=>(fb8 (kB (w.heap.size+1+1) (by omega))).trans (hJ6.pf q);try go_wp2_with fail
     refine hK.out _ _ ?_ (fun N2=>?_)
     ·intro _;exact⟨p07,p17,q07,q17⟩
     clear hK;replace N2:=N2 (by decide);refine onE 6 rfl fun K hK=>?_;go_simp;refine hK.out _ _ ?_ (fun Q6=>?_)
     ·exact fun h=>absurd rfl h
     clear hK Q6;refine V6 (by kernel_rfl) ?_ _;have hJ7:=hJ6.put (show Below (w.heap.size+1+1+1) w6 w7 from⟨hb7.os,hb7.tape,hb7.output,hb7.size,hb7.block⟩) hB7;clear hB7 hgr7 kB p07 p17 q07 q17 hJ6 H6 HPP hsA p0 p1 q0 q1 hR6 hO6;go_wp2_with fail;exact⟨⟨j+1+1,.slice a7 (E5 ct row 1).length c7,us7,G7,hlt,by simp,by rw[HA.out];exact hJ7⟩,by simp[intOf];omega⟩
  ·obtain rfl:k=cs.length:=by omega
   rw[B8i,hP.out]at hJ;obtain⟨z0,z1,z2,z3,z4,z5,z6,z7,hB,hb,hzb⟩:=hJ;obtain⟨ay,cy,rfl⟩:=hB.shape;clear ha hC hP;go_wp2;refine bodyPost_ret (v:=.agg #[.int .i64 T,.slice ay P.length cy]) (by simp[results,Tryz.results56,go_sem, *]) rfl ⟨⟨_,us,G,rfl,(hB.keep (by simp) fun b hb _=>?_).weak (by omega)⟩,?_⟩
   ·repeat rw[bS8 _ _ _ _ (by simp;omega)]
   ·exact bs8
end
end Go.Proofs.YteekfcdllaceoaaGreatDoor
