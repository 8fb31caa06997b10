/- Own texts, joined: contracts that the law's proof goes by. -/
import Derived.Test.YteekfcdllaceoaaGreatDoorGLAnswer7
import Derived.Test.YteekfcdllaceoaaGreatDoorGLAnswer1
import Derived.Handy
import Derived.Test.YteekfcdllaceoaaGreatDoorGLAnswer3
import Derived.Deep.RegionHeld3
import Derived.Deep.DrawnRows
import Derived.Test.YteekfcdllaceoaaGreatDoorGLAnswer4
import Derived.Maps.AppendAt
import Derived.Test.YteekfcdllaceoaaGreatDoorGLAnswer5
set_option maxHeartbeats 16000000
set_option maxRecDepth 100000
set_option linter.unusedVariables false
set_option linter.unusedSimpArgs false
namespace Go.Proofs.YteekfcdllaceoaaGreatDoor
section
open Go.RowKit
def Ent (fn:Nat):Prop:=∀ (args:Array Value) (w:World),Sem.run Tryz.prog (callFunc fn args) w=.ok (.enter fn args) w
theorem A3w {f:Nat}{fn:Func}(hf:Tryz.prog.funcs[f]?=some fn)(hn:(fn.name== "runtime.NumGoroutine")=false)(hb:fn.body.isNone=false):Ent f:=fun args w=>by
 have h1:¬fn.name= "runtime.NumGoroutine" :=by simpa using hn
 have h2:¬fn.body=none:=by intro h;rw[h]at hb;cases hb
 simp[callFunc,go_sem,hf,h1,h2]
theorem B55:Ent 154:=A3w Tryz.func154 (by kernel_rfl) (by kernel_rfl)
theorem C3Y:Ent 155:=A3w Tryz.func155 (by kernel_rfl) (by kernel_rfl)
theorem C2M:Ent 156:=A3w Tryz.func156 (by kernel_rfl) (by kernel_rfl)
theorem B91:Ent 158:=A3w Tryz.func158 (by kernel_rfl) (by kernel_rfl)
theorem C3n:Ent 160:=A3w Tryz.func160 (by kernel_rfl) (by kernel_rfl)
def Rk (m:Int)(D:Nat->Prop)(w:World)(c:Value)(f:Nat)(e:E7):Prop:=∃ (fn:Nat) (cap:Array Value),c=.func (.func fn) #[] cap/\Ent fn/\
 ∀ (W:World) (v:Value) (vs:List V3) (r:V3),(∀b,D b->W.heap[b]?=w.heap[b]?)->W.cell? ⟨1,0,none⟩=some (.int .i64 m)->E3 W v vs->Res m f e vs r-> Calls Tryz.prog fn (#[v]++cap) W fun q w'=>q=.returned (.agg #[.int .i64 r.k,.int .i64 r.n,.string r.s])/\Below W.heap.size W w'
theorem Rk.keep {m:Int}{D D':Nat->Prop}{w w':World}{c:Value}{f:Nat}{e:E7}(h:Rk m D w c f e)(hD:∀b,D b->D' b)(hw:∀b,D b->w'.heap[b]?=w.heap[b]?):Rk m D' w' c f e:=by
 obtain⟨fn,cap,rfl,he,h⟩:=h;exact⟨fn,cap,rfl,he,fun W v vs r hW=>h W v vs r fun b hb=>(hW b (hD b hb)).trans (hw b hb)⟩
theorem C2h {e:E7}{u v:Value}{vs:List V3}{w:World}{E:Nat}{t:TypeId}{fr:Nat×Nat}(hE:w.heap[E]?=some (.cells #[.int .i64 e.k,.int .i64 e.n,.int .i64 e.v.k,.int .i64 e.v.n,.string e.v.s,.string e.p,u] t fr))(hv:E3 w v vs)(hn:0<=e.n):Calls Tryz.prog 154 #[v,.pointer (some ⟨E,0,none⟩)] w fun x w'=>x=.returned (.agg #[.int .i64 (vs.getD e.n.toNat A0Q).k,.int .i64 (vs.getD e.n.toNat A0Q).n,.string (vs.getD e.n.toNat A0Q).s])/\Below w.heap.size w w':=by
 obtain⟨a',c',b',o',rfl,hl',hc',ha'⟩:=hv.pick;unfold maxLen at hc';have q1:w.cell? ⟨E,1,none⟩=some (.int .i64 e.n):=by simp[World.cell?,hE]
 have C2n:E<w.heap.size:=bl8 _ _ q1;clear hv hE;by_cases hlt:e.n.toNat<vs.length
 ·obtain⟨rfl,hblt,hL⟩:=ha' _ hlt;obtain⟨N,hN⟩:∃N:Nat,e.n=N:=⟨e.n.toNat,by omega⟩;have hNt:e.n.toNat=N:=by omega
  rw[hNt]at hlt⊢;obtain⟨x,hx,c0,c1,c2,hbr⟩:=hL.at hblt (Below.refl _ _) hlt;rw[List.getD_eq_getElem?_getD,hx];rw[hN]at q1;have A2p:(N:Int)<vs.length:=by omega
  simp only[Option.getD_some];clear ha' hL hx;go_enter Tryz.func154,Tryz.ntmps154;go_wp2;go_returns;exact⟨rfl,bex⟩
 ·rw[List.getD_eq_getElem?_getD,List.getElem?_eq_none (by omega)];have hge:(vs.length:Int)<=e.n:=by omega
  clear ha';go_enter Tryz.func154,Tryz.ntmps154;go_wp2;go_returns;exact⟨rfl,bex⟩
theorem B7Z {e:E7}{u v:Value}{w:World}{E:Nat}{t:TypeId}{fr:Nat×Nat}(hE:w.heap[E]?=some (.cells #[.int .i64 e.k,.int .i64 e.n,.int .i64 e.v.k,.int .i64 e.v.n,.string e.v.s,.string e.p,u] t fr)):Calls Tryz.prog 155 #[v,.pointer (some ⟨E,0,none⟩)] w fun x w'=>x=.returned (.agg #[.int .i64 e.v.k,.int .i64 e.v.n,.string e.v.s])/\Below w.heap.size w w':=by
 have q2:w.cell? ⟨E,2,none⟩=some (.int .i64 e.v.k):=by simp[World.cell?,hE]
 have q3:w.cell? ⟨E,3,none⟩=some (.int .i64 e.v.n):=by simp[World.cell?,hE]
 have q4:w.cell? ⟨E,4,none⟩=some (.string e.v.s):=by simp[World.cell?,hE]
 have C2n:E<w.heap.size:=bl8 _ _ q2;clear hE;go_enter Tryz.func155,Tryz.ntmps155;go_wp2;go_returns;exact⟨rfl,bex⟩
def Ans (fn:Nat)(cap:Array Value)(v:Value)(w:World)(r:V3):Prop:=∀W,Below w.heap.size w W->Calls Tryz.prog fn (#[v]++cap) W fun q w'=>q=.returned (.agg #[.int .i64 r.k,.int .i64 r.n,.string r.s])/\Below W.heap.size W w'
theorem B4p {a':Option Addr}{n' c':Nat}{r:V3}{w:World}{K kb c:Nat}{fn:Nat}{cap:Array Value}(hc:c<=maxLen)(qK:w.cell? ⟨K,0,none⟩=some (.slice (some ⟨kb,0,none⟩) 1 c))(q0:w.cell? ⟨kb,0,none⟩=some (.func (.func fn) #[] cap))(hN:Ent fn)(h0:Ans fn cap (.slice a' n' c') w r):Calls Tryz.prog 158 #[.slice a' n' c',.pointer (some ⟨K,0,none⟩)] w fun x w'=>x=.returned (.agg #[.int .i64 (m9 r.k r.n),.int .i64 (j4 r.k r.n),.string ⟨#[]⟩])/\Below w.heap.size w w':=by
 have hK:K<w.heap.size:=bl8 _ _ qK;have hkb:kb<w.heap.size:=bl8 _ _ q0;unfold maxLen at hc;unfold Ans at h0;go_enter Tryz.func158,Tryz.ntmps158;go_wp2_with fail;rw[hN,Oper.upon_enter];refine cM8 (h0 _ ?hb) ?_
 case hb=>exact bex
 rintro y w2 ⟨rfl,hb2⟩;have hz2:=hb2.size;simp at hz2;have C0:Below w.heap.size w w2:=bex;have r0:w2.cell? ⟨w.heap.size,0,none⟩=some (.int .i64 0):=cl8 hb2;have r1:w2.cell? ⟨w.heap.size,1,none⟩=some (.int .i64 0):=cl8 hb2;have r2:w2.cell? ⟨w.heap.size,2,none⟩=some (.string ⟨#[]⟩):=cl8 hb2;have f2:=(bc8 hb2).2;have hy2:w.heap.size<w2.heap.size:=by omega
 clear h0 hb2 hN qK q0;go_wp2_with fail;refine cM8 (B6K _ _ _ _) ?_;rintro y w3 ⟨rfl,hb3⟩;have hz3:=hb3.size;have D6:Below w.heap.size w w3:=bex;have s0:w3.cell? ⟨w.heap.size,0,none⟩=some (.int .i64 0):=cl8 hb3;have s1:w3.cell? ⟨w.heap.size,1,none⟩=some (.int .i64 0):=cl8 hb3;have s2:w3.cell? ⟨w.heap.size,2,none⟩=some (.string ⟨#[]⟩):=cl8 hb3;have f3:=(bc8 hb3).2;have hy3:w.heap.size<w3.heap.size:=by omega
 clear hb3 r0 r1 r2;go_wp2;refine bodyPost_ret (v:=.agg #[.int .i64 (m9 r.k r.n),.int .i64 (j4 r.k r.n),.string ⟨#[]⟩]) (by simp[results,Tryz.results158,go_sem, *]) rfl ⟨rfl,?_⟩;exact bex
theorem C01 {a':Option Addr}{n' c':Nat}{r:V3}{w:World}{K kb c:Nat}{fn:Nat}{cap:Array Value}(hc:c<=maxLen)(qK:w.cell? ⟨K,0,none⟩=some (.slice (some ⟨kb,0,none⟩) 1 c))(q0:w.cell? ⟨kb,0,none⟩=some (.func (.func fn) #[] cap))(hN:Ent fn)(h0:Ans fn cap (.slice a' n' c') w r):Calls Tryz.prog 160 #[.slice a' n' c',.pointer (some ⟨K,0,none⟩)] w fun x w'=>x=.returned (.agg #[.int .i64 2,.int .i64 (j6 r.k),.string ⟨#[]⟩])/\Below w.heap.size w w':=by
 have hK:K<w.heap.size:=bl8 _ _ qK;have hkb:kb<w.heap.size:=bl8 _ _ q0;unfold maxLen at hc;unfold Ans at h0;go_enter Tryz.func160,Tryz.ntmps160;go_wp2_with fail;rw[hN,Oper.upon_enter];refine cM8 (h0 _ ?hb) ?_
 case hb=>exact bex
 rintro y w2 ⟨rfl,hb2⟩;have hz2:=hb2.size;simp at hz2;have C0:Below w.heap.size w w2:=bex;have r0:w2.cell? ⟨w.heap.size,0,none⟩=some (.int .i64 0):=cl8 hb2;have r1:w2.cell? ⟨w.heap.size,1,none⟩=some (.int .i64 0):=cl8 hb2;have r2:w2.cell? ⟨w.heap.size,2,none⟩=some (.string ⟨#[]⟩):=cl8 hb2;have f2:=(bc8 hb2).2;have hy2:w.heap.size<w2.heap.size:=by omega
 clear h0 hb2 hN qK q0;go_wp2_with fail;refine cM8 (C0M _ _ _ _) ?_;rintro y w3 ⟨rfl,hb3⟩;have hz3:=hb3.size;have D6:Below w.heap.size w w3:=bex;have s0:w3.cell? ⟨w.heap.size,0,none⟩=some (.int .i64 0):=cl8 hb3;have s1:w3.cell? ⟨w.heap.size,1,none⟩=some (.int .i64 0):=cl8 hb3;have s2:w3.cell? ⟨w.heap.size,2,none⟩=some (.string ⟨#[]⟩):=cl8 hb3;have f3:=(bc8 hb3).2;have hy3:w.heap.size<w3.heap.size:=by omega
 clear hb3 r0 r1 r2;go_wp2;refine bodyPost_ret (v:=.agg #[.int .i64 2,.int .i64 (j6 r.k),.string ⟨#[]⟩]) (by simp[results,Tryz.results160,go_sem, *]) rfl ⟨rfl,?_⟩;exact bex
theorem C17 {m:Int}{p:ByteArray}{a':Option Addr}{n' c':Nat}{rx rz r:V3}{w:World}{E K kb c:Nat}{fn fn':Nat}{cap cap':Array Value}(hc:c<=maxLen)(qm:w.cell? ⟨1,0,none⟩=some (.int .i64 m))(qE:w.cell? ⟨E,5,none⟩=some (.string p))(qK:w.cell? ⟨K,0,none⟩=some (.slice (some ⟨kb,0,none⟩) 2 c))(q0:w.cell? ⟨kb,0,none⟩=some (.func (.func fn) #[] cap))(q1:w.cell? ⟨kb,1,none⟩=some (.func (.func fn') #[] cap'))(hN:Ent fn)(hN':Ent fn')(h0:Ans fn cap (.slice a' n' c') w rx)(h1:Ans fn' cap' (.slice a' n' c') w rz)(hB:RB m p rx rz r):Calls Tryz.prog 156 #[.slice a' n' c',.pointer (some ⟨E,0,none⟩),.pointer (some ⟨K,0,none⟩)] w fun x w'=>x=.returned (.agg #[.int .i64 r.k,.int .i64 r.n,.string r.s])/\Below w.heap.size w w':=by
 have hE:E<w.heap.size:=bl8 _ _ qE;have hK:K<w.heap.size:=bl8 _ _ qK;have hkb:kb<w.heap.size:=bl8 _ _ q0;have h00:1<w.heap.size:=bl8 _ _ qm;unfold maxLen at hc;unfold Ans at h0 h1;unfold Ent at hN hN';obtain⟨-,hI,-⟩:=hB;go_enter Tryz.func156,Tryz.ntmps156;go_wp2_with fail;go_region_held3 (fun w'=>w'.cell? ⟨E,5,none⟩=some (.string p)/\w'.cell? ⟨K,0,none⟩=some (.slice (some ⟨kb,0,none⟩) 2 c)/\w'.cell? ⟨kb,0,none⟩=some (.func (.func fn) #[] cap)/\w'.cell? ⟨kb,1,none⟩=some (.func (.func fn') #[] cap')) (refine⟨?_,?_,?_,?_⟩<;>first|(go_simp;done)|(exact cL8 (by assumption) (by go_simp))) (first|(go_at_call 157;refine cM8 (hI _ (by go_simp)) ?_;rintro y w3 ⟨rfl,hb3⟩;have hz3:=hb3.size;(try simp at hz3);have qm3:w3.cell? ⟨1,0,none⟩=some (.int .i64 m):=cl8 hb3;have qa3:w3.cell? ⟨w.heap.size,0,none⟩=some (.int .i64 0):=cl8 hb3;have qb3:w3.cell? ⟨w.heap.size,1,none⟩=some (.int .i64 0):=cl8 hb3;have qc3:w3.cell? ⟨w.heap.size,2,none⟩=some (.string ⟨#[]⟩):=cl8 hb3;have qf3:=(bc8 hb3).2;have hy3:w.heap.size<w3.heap.size:=(by omega))|((try rw[Oper.upon_enter]);(first|(with_reducible refine cM8 (h0 _ ?hb) ?_)|(with_reducible refine cM8 (h1 _ ?hb) ?_));(case hb=>exact bex);rintro y w1 ⟨rfl,hb1⟩;have hz1:=hb1.size;(try simp at hz1);have qm1:w1.cell? ⟨1,0,none⟩=some (.int .i64 m):=cl8 hb1;have qa1:w1.cell? ⟨w.heap.size,0,none⟩=some (.int .i64 0):=cl8 hb1;have qb1:w1.cell? ⟨w.heap.size,1,none⟩=some (.int .i64 0):=cl8 hb1;have qc1:w1.cell? ⟨w.heap.size,2,none⟩=some (.string ⟨#[]⟩):=cl8 hb1;have qf1:=(bc8 hb1).2;have hy1:w.heap.size<w1.heap.size:=(by omega)))
 clear h0 h1 hI hN hN';go_wp2;refine bodyPost_ret (v:=.agg #[.int .i64 r.k,.int .i64 r.n,.string r.s]) (by simp[results,Tryz.results156,go_sem, *]) rfl ⟨rfl,?_⟩;exact bex
theorem A40 {w:World}{b:Nat}{x:Obj}(h:w.heap[b]?=some x):b<w.heap.size:=by
 rcases Nat.lt_or_ge b w.heap.size with h1|h1
 ·exact h1
 ·rw[Array.getElem?_eq_none h1]at h;cases h
section
variable {m:Int} {D:Nat->Prop} {w:World} {e:E7} {f E K kb c:Nat} {u:Value} {t:TypeId} {fr:Nat×Nat} {cs:List Value}
theorem B7f {fn:Nat}{cap:Array Value}{x:E7}{W:World}{v:Value}{vs:List V3}{r:V3}(hD:∀b,D b->b<w.heap.size)(h:∀ (W:World) (v:Value) (vs:List V3) (r:V3),(∀b,D b->W.heap[b]?=w.heap[b]?)->W.cell? ⟨1,0,none⟩=some (.int .i64 m)->E3 W v vs->Res m f x vs r->
   Calls Tryz.prog fn (#[v]++cap) W fun q w'=>q=.returned (.agg #[.int .i64 r.k,.int .i64 r.n,.string r.s])/\Below W.heap.size W w')
  (hW:∀b,D b->W.heap[b]?=w.heap[b]?) (hm:W.cell? ⟨1,0,none⟩=some (.int .i64 m)) (hv:E3 W v vs) (hr:Res m f x vs r):Ans fn cap v W r:=fun W' hb=>by
 refine h W' v vs r (fun b hb'=>?_) ((hb.cell (p:=⟨1,0,none⟩) (bl8 _ _ hm)).trans hm) (hv.below hb) hr;have h1:=hW b hb';rw[Array.getElem?_eq_getElem (hD b hb')]at h1;exact(hb.block b (A40 h1)).trans (hW b hb')
theorem A7K {w:World}{v:Value}{vs:List V3}(hv:E3 w v vs):∃a c,v=.slice a vs.length c:=by
 obtain⟨a',c',b',o',h,_⟩:=hv.pick;exact⟨a',c',h⟩
theorem B5p (hE:w.heap[E]?=some (.cells #[.int .i64 e.k,.int .i64 e.n,.int .i64 e.v.k,.int .i64 e.v.n,.string e.v.s,.string e.p,u] t fr))(hDE:D E)(h0:e.k=0):Rk m D w (.func (.func 154) #[] #[.pointer (some ⟨E,0,none⟩)]) (f+1) e:=by
 refine⟨_,_,rfl,B55,fun W v vs r hW hm hv hr=>?_⟩;rcases hr with⟨_,hn,rfl⟩|⟨h,_⟩|⟨h,_⟩|⟨h,_⟩|⟨h,_⟩
 ·exact C2h ((hW E hDE).trans hE) hv hn
 all_goals(exfalso;omega)
theorem B22 (hE:w.heap[E]?=some (.cells #[.int .i64 e.k,.int .i64 e.n,.int .i64 e.v.k,.int .i64 e.v.n,.string e.v.s,.string e.p,u] t fr))(hDE:D E)(h0:e.k=1):Rk m D w (.func (.func 155) #[] #[.pointer (some ⟨E,0,none⟩)]) (f+1) e:=by
 refine⟨_,_,rfl,C3Y,fun W v vs r hW hm hv hr=>?_⟩;rcases hr with⟨h,_⟩|⟨h,rfl⟩|⟨h,_⟩|⟨h,_⟩|⟨h,_⟩
 ·exfalso;omega
 ·exact B7Z ((hW E hDE).trans hE)
 all_goals(exfalso;omega)
structure A2r (m:Int)(D:Nat->Prop)(w:World)(K kb c f:Nat)(es:List E7)(cs:List Value):Prop where
 hc:c<=maxLen
 lt:∀b,D b->b<w.heap.size
 dK:D K
 db:es≠ []->D kb
 qK:w.cell? ⟨K,0,none⟩=some (.slice (some ⟨kb,0,none⟩) es.length c)
 len:cs.length=es.length
 at':∀i x y,es[i]?=some x->cs[i]?=some y->w.cell? ⟨kb,i,none⟩=some y/\Rk m D w y f x
theorem A2r.pick {es:List E7}(h:A2r m D w K kb c f es cs){i:Nat}{x:E7}(hx:es[i]?=some x){W:World}{v:Value}{vs:List V3}{r:V3}(hW:∀b,D b->W.heap[b]?=w.heap[b]?) (hm:W.cell? ⟨1,0,none⟩=some (.int .i64 m)) (hv:E3 W v vs) (hr:Res m f x vs r):∃fn cap,W.cell? ⟨K,0,none⟩=some (.slice (some ⟨kb,0,none⟩) es.length c)/\W.cell? ⟨kb,i,none⟩=some (.func (.func fn) #[] cap)/\Ent fn/\Ans fn cap v W r:=by
 have hi:i<es.length:=(gE1 hx).1;obtain⟨hq,fn,cap,hy,hE,hC⟩:=h.at' i x (cs[i]'(by rw[h.len];exact hi)) hx (by simp);rw[hy]at hq;have hne:es≠ []:=by rintro rfl;simp at hi
 exact⟨fn,cap,(cb8 (hW K h.dK)).trans h.qK,(cb8 (hW kb (h.db hne))).trans hq,hE,B7f h.lt hC hW hm hv hr⟩
theorem C0s (hE:w.heap[E]?=some (.cells #[.int .i64 e.k,.int .i64 e.n,.int .i64 e.v.k,.int .i64 e.v.n,.string e.v.s,.string e.p,u] t fr))(hDE:D E)(hK:A2r m D w K kb c f e.ks cs)(h0:e.k=2):Rk m D w (.func (.func 156) #[] #[.pointer (some ⟨E,0,none⟩),.pointer (some ⟨K,0,none⟩)]) (f+1) e:=by
 refine⟨_,_,rfl,C2M,fun W v vs r hW hm hv hr=>?_⟩;rcases hr with⟨h,_⟩|⟨h,_⟩|⟨_,k0,k1,r0,r1,hk,hr0,hr1,hB⟩|⟨h,_⟩|⟨h,_⟩
 ·exfalso;omega
 ·exfalso;omega
 ·obtain⟨fn,cap,qK,q0,hN,hA⟩:=hK.pick (i:=0) (x:=k0) (by rw[hk];rfl) hW hm hv hr0;obtain⟨fn',cap',_,q1,hN',hA'⟩:=hK.pick (i:=1) (x:=k1) (by rw[hk];rfl) hW hm hv hr1;obtain⟨a',c',rfl⟩:=A7K hv;rw[hk]at qK;exact C17 (E:=E) (K:=K) hK.hc hm (by simp[World.cell?,hW E hDE,hE]) qK q0 q1 hN hN' hA hA' hB
 all_goals(exfalso;omega)
theorem C06 (hK:A2r m D w K kb c f e.ks cs)(h0:e.k=3):Rk m D w (.func (.func 158) #[] #[.pointer (some ⟨K,0,none⟩)]) (f+1) e:=by
 refine⟨_,_,rfl,B91,fun W v vs r hW hm hv hr=>?_⟩;rcases hr with⟨h,_⟩|⟨h,_⟩|⟨h,_⟩|⟨_,k0,r0,hk,hr0,rfl⟩|⟨h,_⟩
 ·exfalso;omega
 ·exfalso;omega
 ·exfalso;omega
 ·obtain⟨fn,cap,qK,q0,hN,hA⟩:=hK.pick (i:=0) (x:=k0) (by rw[hk];rfl) hW hm hv hr0;obtain⟨a',c',rfl⟩:=A7K hv;rw[hk]at qK;exact B4p (K:=K) hK.hc qK q0 hN hA
 ·exfalso;omega
theorem B8a (hK:A2r m D w K kb c f e.ks cs)(h0:e.k=4):Rk m D w (.func (.func 160) #[] #[.pointer (some ⟨K,0,none⟩)]) (f+1) e:=by
 refine⟨_,_,rfl,C3n,fun W v vs r hW hm hv hr=>?_⟩;rcases hr with⟨h,_⟩|⟨h,_⟩|⟨h,_⟩|⟨h,_⟩|⟨_,k0,r0,hk,hr0,rfl⟩
 ·exfalso;omega
 ·exfalso;omega
 ·exfalso;omega
 ·exfalso;omega
 ·obtain⟨fn,cap,qK,q0,hN,hA⟩:=hK.pick (i:=0) (x:=k0) (by rw[hk];rfl) hW hm hv hr0;obtain⟨a',c',rfl⟩:=A7K hv;rw[hk]at qK;exact C01 (K:=K) hK.hc qK q0 hN hA
end
end
section
open Go.RowKit
def dg (u:Nat):List Int:=if h:u=0 then[]else have:u/10<u:=by omega
 dg (u/10)++ [((48+u %10:Nat):Int)]
theorem A8w (u:Nat)(h:u≠0):dg u=dg (u/10)++ [((48+u %10:Nat):Int)]:=by rw[dg,dif_neg h]
theorem B1V:dg 0=[]:=by rw[dg,dif_pos rfl]
theorem B1j (u:Nat):(dg u).length<=u:=by
 induction u using Nat.strongRecOn with
 |_ u ih=>
  by_cases h:u=0
  ·subst h;rw[B1V];simp
  ·rw[A8w u h,List.length_append];have:=ih (u/10) (by omega);simp only[List.length_cons,List.length_nil];omega
def mt (u:Int):ByteArray:=⟨#[109]⟩++strOfNums (dg u.toNat)
theorem B8q (x:Int)(l:List Int):strOfNums [x]++strOfNums l=strOfNums (x::l):=by
 apply ByteArray.ext;rw[ByteArray.data_append];simp[strOfNums]
theorem Tryz.conv1 (w:World)(x:Int)(m:Nat×Nat):(convert 118 9 (.slice (some ⟨w.heap.size,0,none⟩) 1 1)).run Tryz.prog (w.alloc (.cells #[.int .u8 x] 5 m))=.ok (.string (strOfNums [x])) (w.alloc (.cells #[.int .u8 x] 5 m)):=by
 refine run_convert_bytes_arg _ 118 5 Tryz.underlying118 Tryz.underlying5 w.heap.size 0 1 1 [x] rfl ?_ 9 Tryz.underlying9;intro i hi;obtain rfl:i=0:=by omega
 have:=heap_alloc_new w (.cells #[.int .u8 x] 5 m);show(w.alloc (.cells #[.int .u8 x] 5 m)).cell? ⟨w.heap.size,0,none⟩=some (.int .u8 x);simp only[World.cell?,this];rfl
theorem A1H (u:Nat)(w:World)(h0:u≠0)(h1:u<=1000000000):Calls Tryz.prog 37 #[.int .i64 u] w fun e w'=>e=.returned (.string (mt u))/\Below w.heap.size w w':=by
 have hneg:decide ((u:Int)<=0)=false:=by simp;omega
 have hU:=B1j u;go_enter Tryz.func37,Tryz.ntmps37;go_wp2;go_loopw [0,3] (fun m o wr=> ∃ (v:Nat) (l:List Int),o=.string (strOfNums l)/\m=.int .i64 v/\v<=u/\dg v++l=dg u/\Below w.heap.size w wr) (fun m _ _=>(intOf m).toNat)
 case atStart=>exact⟨u,[],rfl,rfl,Nat.le_refl _,by simp,by go_grown⟩
 case round=>
  obtain⟨v,l,rfl,rfl,hv,hl0,hb⟩:=hrel;have hzb:=hb.size;have hll:(strOfNums l).size<=1000000000:=by
   have:=congrArg List.length hl0;rw[List.length_append]at this;simp[strOfNums,ByteArray.size];omega
  have hl:Hid (dg v++l=dg u):=hl0;clear hl0;by_cases hz:v=0
  ·subst hz;have V4:Hid ((⟨#[109]⟩:ByteArray)++strOfNums l=mt u):=by show _=_;rw[mt,Int.toNat_natCast,<-hl.out,B1V,List.nil_append]
   go_wp2;go_returns;exact⟨by rw[<-V4.out];rfl,hb⟩
  ·have hvp:(0:Int)<v:=by omega
   have hst:Hid (dg (v/10)++(((48+v %10:Nat):Int)::l)=dg u):=by
    show _=_;rw[<-hl.out,A8w v hz,List.append_assoc];rfl
   have hcv:=Tryz.conv1 wr;have hs1:(strOfNums [48+(v:Int) %10]).size<=1:=by simp[strOfNums,ByteArray.size]
   have hct:Hid (strOfNums [48+(v:Int) %10]++strOfNums l=strOfNums (((48+v %10:Nat):Int)::l)):=B8q _ l;have hdv:Hid (v/10<v):=by show _<_;omega
   go_wp2;exact⟨⟨v/10,_,by rw[<-hct.out],by go_num,by omega,hst.out,bex⟩,by have:=hdv.out;simp[intOf];omega⟩
end
section
open Go.RowKit Go.Deep
def mV (k:Nat)(vs:List V3):List V3:=vs.mapIdx fun j _=>⟨((k+3*j:Nat):Int),((k+3*j+1:Nat):Int),mt ((k+3*j+2:Nat):Int)⟩
theorem A4i (k:Nat)(vs:List V3):(mV k vs).length=vs.length:=by simp[mV]
theorem B1U {k i:Nat}{vs:List V3}(hi:i<vs.length):(mV k vs)[i]?=some ⟨((k+3*i:Nat):Int),((k+3*i+1:Nat):Int),mt ((k+3*i+2:Nat):Int)⟩:=by
 simp[mV,hi]
def t7 (k i:Nat)(vs:List V3)(j:Nat):Value:=if j<i*3 then cf (mV k vs) j else cf vs j
theorem C19 {w w2:World}{b o k i:Nat}{vs:List V3}(hi:i<vs.length)(h:X3 w b o (vs.length*3) (t7 k i vs))(h2:w2.heap[b]?=((w.setCell ⟨b,o+i*3,none⟩ (.int .i64 ((k+3*i:Nat):Int))).setCell ⟨b,o+i*3+1,none⟩ (.int .i64 ((k+3*i+1:Nat):Int))).heap[b]?):X3 (w2.setCell ⟨b,o+i*3+2,none⟩ (.string (mt ((k+3*i+2:Nat):Int)))) b o (vs.length*3) (t7 k (i+1) vs):=by
 have h1:=(h.put (j0:=i*3) (by omega) rfl (.int .i64 ((k+3*i:Nat):Int))).put (j0:=i*3+1) (q:=o+i*3+1) (by omega) (by omega) (.int .i64 ((k+3*i+1:Nat):Int));refine((h1.keep h2).put (j0:=i*3+2) (q:=o+i*3+2) (by omega) (by omega) _).congr fun j hj=>?_;obtain⟨e0,e1,e2⟩:=A2j (B1U (k:=k) hi);unfold t7;by_cases a2:j=i*3+2
 ·subst a2;rw[if_pos rfl,if_pos (by omega),e2]
 by_cases a1:j=i*3+1
 ·subst a1;rw[if_neg a2,if_pos rfl,if_pos (by omega),e1]
 by_cases a0:j=i*3
 ·subst a0;rw[if_neg a2,if_neg a1,if_pos rfl,if_pos (by omega),e0]
 rw[if_neg a2,if_neg a1,if_neg a0];by_cases hlt:j<i*3
 ·rw[if_pos hlt,if_pos (by omega)]
 ·rw[if_neg hlt,if_neg (by omega)]
theorem C3C (k:Nat)(v:Value)(vs:List V3)(g:List Nat)(w:World)(hr:D9 w v vs g)(hf:N9 w g)(h0:0<k)(h1:k+3*vs.length<=999999990):Calls Tryz.prog 65 #[v,.int .i64 k] w fun e w'=>e=.returned (.int .i64 ((k+3*vs.length:Nat):Int))/\D9 w' v (mV k vs) g/\Chg g w w':=by
 obtain⟨a,c,b,o,rfl,hl,hc,hz,hC,hg0,ha⟩:=hr.cells;have o8:=hr.lt;have hcm:=hc;unfold maxLen at hc;clear hr;go_enter Tryz.func65,Tryz.ntmps65;go_wp2;go_loopw [1,5] (fun kk i wr=> ∃n:Nat,n<=vs.length/\i=.int .i64 n/\kk=.int .i64 ((k+3*n:Nat):Int)/\X3 wr b o (vs.length*3) (t7 k n vs)/\Chg g w wr) (fun _ i _=>vs.length - (intOf i).toNat)
 case atStart=>exact⟨0,Nat.zero_le _,rfl,rfl,hC.congr (fun j hj=>by unfold t7;rw[if_neg (by omega)]),Chg.refl _ _⟩
 case round=>
  obtain⟨n,hn,rfl,rfl,hH,hch⟩:=hrel;by_cases hlt:n<vs.length
  ·obtain⟨rfl,hblt,rfl⟩:=ha n hlt;have hzb:=hch.size;have hbr:b<wr.heap.size:=by omega
   have hfr:∀i,wr.frozen? ⟨b,i,none⟩=false:=hch.free hf b (by simp);have c0:wr.cell? ⟨b,o+n*3,none⟩=some (t7 k n vs (n*3)):=hH _ (by omega);have c1:wr.cell? ⟨b,o+n*3+1,none⟩=some (t7 k n vs (n*3+1)):=hH (n*3+1) (by omega);have c2:wr.cell? ⟨b,o+n*3+2,none⟩=some (t7 k n vs (n*3+2)):=hH (n*3+2) (by omega);generalize t7 k n vs (n*3)=y0 at c0;generalize t7 k n vs (n*3+1)=y1 at c1;generalize t7 k n vs (n*3+2)=y2 at c2;clear ha hC;have e0:((k+3*n:Nat):Int)=(k:Int)+3* (n:Int):=by omega
   have e1:((k+3*n+1:Nat):Int)=(k:Int)+3* (n:Int)+1:=by omega
   have e2:((k+3*n+2:Nat):Int)=(k:Int)+3* (n:Int)+1+1:=by omega
   have hM:=fun w=>A1H (k+3*n+2) w (by omega) (by omega);have hS:=fun w2=>C19 (w2:=w2) hlt hH;rw[e2]at hM;simp only[e0,e1,e2]at hS;clear e0 e1 e2 hH;go_wp2_with fail;refine cM8 (hM _) ?_;rintro x w2 ⟨rfl,hb2⟩;have hz2:=hb2.size;simp only[World.size_setCell]at hz2;have hS2:=hS w2 (hb2.block b (by simpa using hbr));have q2:w2.cell? ⟨b,o+n*3+2,none⟩=some y2:=cl8 hb2;have B9G:∀i,w2.frozen? ⟨b,i,none⟩=false:=fun i=>((bc8 hb2).2 b i (by simpa using hbr)).trans (by simpa using hfr i);have A5b:Chg [b] w w2:=((hch.setCell (p:=⟨b,_,none⟩) (by simp) _).setCell (p:=⟨b,_,none⟩) (by simp) _).trans (Chg.of_below hb2 (by simpa using hbr));clear hS hM hb2 hch hf hfr c0 c1 c2;go_wp2;exact⟨⟨n+1,hlt,by simp,by congr 1,hS2,A5b.setCell (p:=⟨b,_,none⟩) (by simp) _⟩,by simp[intOf];omega⟩
  ·go_wp2;go_returns;obtain rfl:n=vs.length:=by omega
   refine⟨rfl,D9.mk hch.size (A4i k vs) rfl hl hcm hz hg0 ha ?_,hch⟩;rw[A4i];exact hH.congr fun j hj=>by unfold t7;rw[if_pos hj]
theorem C1h (k:Nat)(v:Value)(vs:List V3)(w:World)(hr:E3 w v (mV k vs))(h0:0<k)(h1:k+3*vs.length<=999999990):Calls Tryz.prog 66 #[v,.int .i64 k] w fun e w'=>e=.returned (.int .i64 ((k+3*vs.length:Nat):Int))/\Below w.heap.size w w':=by
 obtain⟨a,c,b,o,rfl,hl,hc,ha⟩:=hr.pick;rw[A4i]at hl ha;rw[A4i];unfold maxLen at hc;clear hr;go_enter Tryz.func66,Tryz.ntmps66;go_wp2;go_loopw [1,5] (fun kk i wr=> ∃n:Nat,n<=vs.length/\i=.int .i64 n/\kk=.int .i64 ((k+3*n:Nat):Int)/\Below w.heap.size w wr) (fun _ i _=>vs.length - (intOf i).toNat)
 case atStart=>exact⟨0,Nat.zero_le _,rfl,rfl,by go_grown⟩
 case round=>
  obtain⟨n,hn,rfl,rfl,hb⟩:=hrel;by_cases hlt:n<vs.length
  ·obtain⟨rfl,hblt,hL⟩:=ha n hlt;have hzb:=hb.size;have hbr:b<wr.heap.size:=by omega
   obtain⟨c0,c1,c2⟩:=hL.below hb hblt n _ (B1U hlt);have e0:((k+3*n:Nat):Int)=(k:Int)+3* (n:Int):=by omega
   have e1:((k+3*n+1:Nat):Int)=(k:Int)+3* (n:Int)+1:=by omega
   have e2:((k+3*n+2:Nat):Int)=(k:Int)+3* (n:Int)+1+1:=by omega
   have hM:=fun w=>A1H (k+3*n+2) w (by omega) (by omega);rw[e2]at hM c2;rw[e0]at c0;rw[e1]at c1;clear e0 e1 e2 ha hL;go_wp2_with fail
   go_region_with (first|(go_at_call 37;refine(hM _).mono ?_;rintro x w2 ⟨rfl,hb2⟩;have hz2:=hb2.size;(try simp at hz2);have q2:w2.cell? ⟨b,o+n*3+2,none⟩=some (.string (mt ((k:Int)+3* (n:Int)+1+1))):=cl8 hb2))
   all_goals go_wp2
   all_goals exact⟨⟨n+1,hlt,by simp,by congr 1,bex⟩,by simp[intOf];omega⟩
  ·go_wp2;go_returns;obtain rfl:n=vs.length:=by omega
   exact⟨rfl,hb⟩
def J0 (k:Nat)(cs:List C2)(i:Nat):Nat:=k+((cs.take i).map fun x=>3*x.r.length+1).sum
theorem A9l (k:Nat)(cs:List C2):J0 k cs 0=k:=by simp[J0]
theorem B1a {k i:Nat}{cs:List C2}{x:C2}(h:cs[i]?=some x):J0 k cs (i+1)=J0 k cs i+(3*x.r.length+1):=by
 obtain⟨hk,rfl⟩:=gE1 h;unfold J0;rw[List.take_succ_eq_append_getElem hk,List.map_append,List.sum_append];simp only[List.map_cons,List.map_nil,List.sum_cons,List.sum_nil];omega
theorem A9O (l:List C2):(l.map fun x=>3*x.r.length+1).sum<=3*wtb l:=by
 unfold wtb W8;induction l with
 |nil=>simp
 |cons x xs ih=>
  simp only[List.map_cons,List.sum_cons,List.length_cons]at ih⊢;unfold wt at ih⊢;omega
theorem A4r (k:Nat)(cs:List C2):∀i,J0 k cs i<=k+3*wtb cs:=by
 intro i;have h1:=A9O cs;have h2:((cs.take i).map fun x=>3*x.r.length+1).sum<=(cs.map fun x=>3*x.r.length+1).sum:=by
  conv=>rhs;rw[<-List.take_append_drop i cs]
  rw[List.map_append,List.sum_append];omega
 unfold J0;omega
def mCi (k n:Nat)(cs:List C2):List C2:=cs.mapIdx fun i x=>if i<n then⟨mV (J0 k cs i) x.r,((J0 k cs i+3*x.r.length:Nat):Int)⟩else x
theorem A1Z (k n:Nat)(cs:List C2):(mCi k n cs).length=cs.length:=by simp[mCi]
theorem A3Q {k n i:Nat}{cs:List C2}{x:C2}(h:cs[i]?=some x):(mCi k n cs)[i]?=some (if i<n then⟨mV (J0 k cs i) x.r,((J0 k cs i+3*x.r.length:Nat):Int)⟩else x):=by
 simp[mCi,h]
theorem C1A (k:Nat)(cs:List C2):mCi k 0 cs=cs:=by
 apply List.ext_getElem?;intro i;cases h:cs[i]? with
 |none=>have:=List.getElem?_eq_none_iff.1 h;rw[List.getElem?_eq_none (by rw[A1Z];exact this)]
 |some x=>rw[A3Q h,if_neg (by omega)]
theorem CLF.step {w w2:World}{b o k n:Nat}{cs:List C2}{G:List (List Nat)}{x:C2}{g:List Nat}{u:Value}(h:CLF w b o (mCi k n cs) G)(hG:G.length=cs.length)(hnd:(b::G.flatten).Nodup)(hb:b<w.heap.size)(hx:cs[n]?=some x)(hg:G[n]?=some g)(hu:w.cell? ⟨b,o+n*2,none⟩=some u) (hR:D9 w2 u (mV (J0 k cs n) x.r) g) (hc:Chg g w w2):CLF (w2.setCell ⟨b,o+n*2+1,none⟩ (.int .i64 ((J0 k cs n+3*x.r.length:Nat):Int))) b o (mCi k (n+1) cs) G:=by
 have hbb:w2.heap[b]?=w.heap[b]?:=hc.block b hb (A2Y hnd hg);intro i y g' hy hg';have hi:i<cs.length:=by have:=(gE1 hy).1;rwa [A1Z]at this
 obtain⟨z,hz⟩:∃z,cs[i]?=some z:=⟨cs[i],by simp[hi]⟩;rw[A3Q hz]at hy;have hy:=(Option.some.inj hy).symm;obtain⟨u',a0,a1,a2⟩:=h i _ g' (A3Q hz) hg';have hgb:b∉g':=A2Y hnd hg';by_cases e:i=n
 ·subst e;obtain rfl:z=x:=by rw[hx]at hz;exact(Option.some.inj hz).symm
  obtain rfl:g'=g:=by rw[hg]at hg';exact(Option.some.inj hg').symm
  obtain rfl:u'=u:=by rw[hu]at a0;exact(Option.some.inj a0).symm
  rw[if_pos (by omega)]at hy;subst hy;refine⟨u',?_,hR.keep (by simp) (fun c hc=>bS8 _ _ _ _ (by rintro rfl;exact hgb hc)),?_⟩
  ·rw[cO8 _ _ _ _ (by intro q;have:=congrArg Addr.off q;simp at this)];exact(cb8 hbb).trans hu
  ·exact cS8 _ _ _ ((cb8 hbb).trans a2)
 ·have ey:y=if i<n then⟨mV (J0 k cs i) z.r,((J0 k cs i+3*z.r.length:Nat):Int)⟩else z:=by
   rw[hy];by_cases hin:i<n
   ·rw[if_pos hin,if_pos (by omega)]
   ·rw[if_neg hin,if_neg (by omega)]
  rw[<-ey]at a1 a2;have hd:=B0Q hnd hg' hg e;have k1:D9 w2 u' y.r g':=a1.keep hc.size fun c hcg=>hc.block c (a1.lt c hcg) (hd c hcg);refine⟨u',?_,k1.keep (by simp) (fun c hc=>bS8 _ _ _ _ (by rintro rfl;exact hgb hc)),?_⟩
  ·rw[cO8 _ _ _ _ (by intro q;have:=congrArg Addr.off q;simp at this;omega)];exact(cb8 hbb).trans a0
  ·rw[cO8 _ _ _ _ (by intro q;have:=congrArg Addr.off q;simp at this;omega)];exact(cb8 hbb).trans a2
def mC (k:Nat)(cs:List C2):List C2:=mCi k cs.length cs
theorem A9R (k:Nat)(v:Value)(cs:List C2)(F:List Nat)(w:World)(hr:C6 w v cs F)(hnd:F.Nodup)(hf:N9 w F)(h0:0<k)(h1:k+3*wtb cs<=999999900):Calls Tryz.prog 38 #[v,.int .i64 k] w fun e w'=>e=.returned (.int .i64 ((J0 k cs cs.length:Nat):Int))/\C6 w' v (mC k cs) F/\Chg F w w':=by
 obtain⟨a,c,b,o,G,rfl,hl,hc,hzz,hG,hF0,hC,ha⟩:=hr.pick;have o8:=hr.lt;have hcm:=hc;unfold maxLen at hc;clear hr;have X4:=A4r k cs;go_enter Tryz.func38,Tryz.ntmps38;go_wp2;go_loopw [1,5] (fun kk i wr=> ∃n:Nat,n<=cs.length/\i=.int .i64 n/\kk=.int .i64 ((J0 k cs n:Nat):Int)/\CLF wr b o (mCi k n cs) G/\Chg F w wr) (fun _ i _=>cs.length - (intOf i).toNat)
 case atStart=>exact⟨0,Nat.zero_le _,rfl,by rw[A9l],by rw[C1A];exact hC,Chg.refl _ _⟩
 case round=>
  obtain⟨n,hn,rfl,rfl,hH,hch⟩:=hrel;by_cases hlt:n<cs.length
  ·obtain⟨rfl,hblt,rfl⟩:=ha n hlt;have hzb:=hch.size;have hbr:b<wr.heap.size:=by omega
   have U8:n<G.length:=by omega
   obtain⟨x,hx⟩:∃x,cs[n]?=some x:=⟨cs[n],by simp[hlt]⟩;obtain⟨g,hg⟩:∃g,G[n]?=some g:=⟨G[n],by simp[U8]⟩;obtain⟨u,c0,hR,c1⟩:=hH n _ g (A3Q hx) hg;rw[if_neg (by omega)]at hR c1;have hgF:∀y∈g,y∈b::G.flatten:=fun y hy=>List.mem_cons_of_mem _ (List.mem_flatten.2 ⟨g,mg8 hg,hy⟩);have hfr:=hch.free hf;have j9:∀i,wr.frozen? ⟨b,i,none⟩=false:=hfr b (by simp);have hgf:N9 wr g:=fun y hy=>hfr y (hgF y hy);have hs:=B1a (k:=k) hx;have ho1:=X4 n;have ho2:=X4 (n+1);have HS:Hid (J0 k cs (n+1)=J0 k cs n+(3*x.r.length+1)):=hs;have hko:0<J0 k cs n:=by unfold J0;omega
   have hb1:J0 k cs n+3*x.r.length<=999999990:=by omega
   have hkn:=fun w2=>CLF.step (w2:=w2) hH hG hnd hbr hx hg c0;generalize J0 k cs n=t at*;obtain⟨au,cu,rfl,_,_⟩:=hR.is.shape';clear hs X4 ha hC hf;go_wp2_with fail;refine cM8 (C3C t _ x.r g wr hR hgf hko hb1) ?_;rintro e w2 ⟨rfl,hR2,hc2⟩;have hz2:=hc2.size;have hbb:w2.heap[b]?=wr.heap[b]?:=hc2.block b hbr (A2Y hnd hg);have q1:w2.cell? ⟨b,o+n*2+1,none⟩=some (.int .i64 x.n):=(cb8 hbb).trans c1;have B9G:∀i,w2.frozen? ⟨b,i,none⟩=false:=fun i=>(fb8 hbb).trans (j9 i);have hS2:=hkn w2 hR2 hc2;have A5b:Chg (b::G.flatten) w w2:=hch.trans (hc2.wide hgF fun y hy _=>by have:=o8 y hy;omega);clear hkn hc2 hR2 hch hfr j9 hgf c0 c1 hR hbb hH;have e1:((t+3*x.r.length:Nat):Int)=(t:Int)+3* (x.r.length:Int):=by omega
   rw[e1]at hS2;clear e1;go_wp2;exact⟨⟨n+1,hlt,by simp,by rw[HS.out];congr 1,hS2,A5b.setCell (p:=⟨b,_,none⟩) (by simp) _⟩,by simp[intOf];omega⟩
  ·go_wp2;go_returns;obtain rfl:n=cs.length:=by omega
   refine⟨rfl,⟨a,c,G,by rw[mC,A1Z],by rw[mC,A1Z];exact hl,hcm,hzz,by rw[mC,A1Z];exact hG,fun e=>hF0 (by have:=congrArg List.length e;rw[mC,A1Z]at this;exact List.length_eq_zero_iff.1 this),fun hne=>?_⟩,hch⟩;have hp:0<cs.length:=by have:=List.length_pos_iff.2 hne;rwa [mC,A1Z]at this
   obtain⟨e,hlt,hF⟩:=ha 0 hp;exact⟨b,o,e,by have:=hch.size;omega,hF,hH⟩
theorem B4e (k:Nat)(v:Value)(cs:List C2)(w:World)(hr:J7 w v (mC k cs))(h0:0<k)(h1:k+3*wtb cs<=999999900):Calls Tryz.prog 42 #[v,.int .i64 k] w fun e w'=>e=.returned (.int .i64 ((J0 k cs cs.length:Nat):Int))/\Below w.heap.size w w':=by
 obtain⟨a,c,b,o,rfl,hl,hc,ha⟩:=hr.pick;have hln:(mC k cs).length=cs.length:=A1Z _ _ _;rw[hln]at hl ha;rw[hln];unfold maxLen at hc;clear hr hln;have X4:=A4r k cs;go_enter Tryz.func42,Tryz.ntmps42;go_wp2;go_loopw [1,5] (fun kk i wr=> ∃n:Nat,n<=cs.length/\i=.int .i64 n/\kk=.int .i64 ((J0 k cs n:Nat):Int)/\Below w.heap.size w wr) (fun _ i _=>cs.length - (intOf i).toNat)
 case atStart=>exact⟨0,Nat.zero_le _,rfl,by rw[A9l],by go_grown⟩
 case round=>
  obtain⟨n,hn,rfl,rfl,hb⟩:=hrel;by_cases hlt:n<cs.length
  ·obtain⟨rfl,hblt,hL⟩:=ha n hlt;have hzb:=hb.size;have hbr:b<wr.heap.size:=by omega
   obtain⟨x,hx⟩:∃x,cs[n]?=some x:=⟨cs[n],by simp[hlt]⟩;obtain⟨u,c0,hR,c1⟩:=hL.below hb hblt n _ (A3Q hx);rw[if_pos hlt]at hR c1;have hs:=B1a (k:=k) hx;have ho1:=X4 n;have ho2:=X4 (n+1);have HS:Hid (J0 k cs (n+1)=J0 k cs n+(3*x.r.length+1)):=hs;have hko:0<J0 k cs n:=by unfold J0;omega
   have hb1:J0 k cs n+3*x.r.length<=999999990:=by omega
   generalize J0 k cs n=t at*;have e1:((t+3*x.r.length:Nat):Int)=(t:Int)+3* (x.r.length:Int):=by omega
   obtain⟨au,lu,cu,rfl⟩:=hR.shape;clear hs X4 ha hL hx;go_wp2_with fail;refine cM8 (C1h t _ x.r wr hR hko hb1) ?_;rintro e w2 ⟨rfl,hb2⟩;have hz2:=hb2.size;have q1:w2.cell? ⟨b,o+n*2+1,none⟩=some (.int .i64 ((t+3*x.r.length:Nat):Int)):=(hb2.cell (p:=⟨b,_,none⟩) hbr).trans c1;rw[e1]at q1;clear e1 c0 c1;go_wp2;exact⟨⟨n+1,hlt,by simp,by rw[HS.out];congr 1,bex⟩,by simp[intOf];omega⟩
  ·go_wp2;go_returns;obtain rfl:n=cs.length:=by omega
   exact⟨rfl,hb⟩
theorem C1p (W:Int)(k:Nat)(v:Value)(cs:List C2)(F:List Nat)(w:World)(hr:C6 w v cs F)(hnd:F.Nodup)(hf:N9 w F)(h0:0<k)(h1:k+3*wtb cs<=999999900):Calls Tryz.prog 15 #[.agg #[.int .i64 W,v],.int .i64 k] w fun e w'=>e=.returned (.int .i64 ((J0 k cs cs.length:Nat):Int))/\C6 w' v (mC k cs) F/\Chg F w w':=by
 have hlt:=hr.lt;obtain⟨a,l,c,rfl⟩:=hr.is.shape;go_enter Tryz.func15,Tryz.ntmps15;have hb1:Below w.heap.size w (w.alloc (.cells #[.int .i64 W,.slice a l c] 35)):=(Below.refl _ _).alloc lr8 _;have hc1:=Chg.of_below hb1 hlt;go_wp2_with fail;refine cM8 (A9R k (.slice a l c) cs F _ (hr.below hb1) hnd (hc1.free hf) h0 h1) ?_;rintro e w2 ⟨rfl,hR2,hc2⟩;have hch:=hc1.trans hc2;clear hc1 hc2 hb1 hf hr;go_wp2;go_returns;exact⟨rfl,hR2,hch⟩
theorem B5D (W:Int)(k:Nat)(v:Value)(cs:List C2)(w:World)(hr:J7 w v (mC k cs))(h0:0<k)(h1:k+3*wtb cs<=999999900):Calls Tryz.prog 16 #[.agg #[.int .i64 W,v],.int .i64 k] w fun e w'=>e=.returned (.int .i64 ((J0 k cs cs.length:Nat):Int))/\Below w.heap.size w w':=by
 obtain⟨a,l,c,rfl⟩:=hr.shape;have X4:=A4r k cs cs.length;go_enter Tryz.func16,Tryz.ntmps16;go_wp2_with fail;refine cM8 (B4e k (.slice a l c) cs _ (hr.below ?hb) h0 h1) ?_
 case hb=>exact bex
 rintro e w2 ⟨rfl,hb2⟩;have hz2:=hb2.size;simp only[World.size_alloc]at hz2;go_wp2;go_returns;exact⟨rfl,bex⟩
end
section
open Go.RowKit Go.Deep
attribute [local go_sem↓] Go.wp_at_zero Go.wp_at_succ
theorem B3b (W:Int)(v:Value)(cs:List C2)(F:List Nat)(w:World)(hr:C6 w v cs F)(hn:wtb cs<=1048576):Calls Tryz.prog 106 #[.agg #[.int .i64 W,v]] w fun e w'=>(∃u us G,e=.returned (.agg #[.int .i64 W,u])/\C4 w' w.heap.size u cs us G)/\Below w.heap.size w w':=by
 obtain⟨i0,hi,hz0,hz1,hz2⟩:=info_parts Tryz.infoCnt;obtain⟨a,c,b,o,G0,rfl,hl,hc,_,hG0,_,hC,ha⟩:=hr.pick;unfold maxLen at hc;clear hr;have hn1:cs.length<=1048576:=by unfold wtb at hn;omega
 go_enter Tryz.func106,Tryz.ntmps106;go_wp2;go_loopw [12] (fun i wr=> ∃ (k:Nat) (y:Value) (us:List Value) (G:List (List Nat)),k<=cs.length/\i=.int .i64 k/\wr.cell? ⟨w.heap.size+1+1,0,none⟩=some (.int .i64 W)/\wr.cell? ⟨w.heap.size+1+1,1,none⟩=some y/\(∀q,wr.frozen? ⟨w.heap.size+1+1,q,none⟩=false)/\wr.cell? ⟨w.heap.size+1,0,none⟩=some (.int .i64 0)/\wr.cell? ⟨w.heap.size+1,1,none⟩=some (.slice none 0 0)/\(∀q,wr.frozen? ⟨w.heap.size+1,q,none⟩=false)/\C4 wr (w.heap.size+1+1+1) y (cs.take k) us G/\Below w.heap.size w wr/\w.heap.size+1+1+1<=wr.heap.size) (fun i _=>cs.length - (intOf i).toNat)
 case atStart=>
  refine⟨0,.slice none 0 0,[],[],Nat.zero_le _,rfl,by go_simp,by go_simp,fun q=>by go_simp,by go_simp,by go_simp,fun q=>by go_simp,C4.nil _ _,bex,by simp⟩
 case round=>
  obtain⟨k,y,us,G,hk,rfl,p0,p1,pf,r0,r1,rf,hB,hb,hzb⟩:=hrel;by_cases hlt:k<cs.length
  ·obtain⟨rfl,hblt,_⟩:=ha k hlt;obtain⟨x,u0,g0,hx,_,c0,hR,c1,hbr⟩:=hC.at hG0 hblt hb hlt;obtain⟨a0,n0,rfl⟩:=hR.shape;have HX:Hid (cs[k]?=some x):=hx;have hxn:x.r.length<=1048576:=by have:=A0R (mg8 hx);unfold wt at this;unfold wtb at hn;omega
   have htk:(cs.take k).length=k:=by simp;omega
   have hvl:=oL8 hB.own;have hv2:y.ownBlock≠some (w.heap.size+1+1):=fun e=>by have:=(hvl _ e).1;omega
   have hvr:y.ownBlock≠some (w.heap.size+1):=fun e=>by have:=(hvl _ e).1;omega
   have hvT:y.ownBlock≠some wr.heap.size:=fun e=>by have:=(hvl _ e).2;omega
   have hGl:=hB.lt;have HT:Hid (cs.take (k+1)=cs.take k++ [x]):=V9 hx;generalize cs.take k=ct at*;have hml:ct.length+1<=maxLen:=by unfold maxLen;omega
   have hby:(ct.length+1)*32<=140737488355328:=by omega
   clear ha hC hx htk hvl;go_wp2_with fail;refine Z4 7 (fun w'=>w'.cell? ⟨w.heap.size+1+1,1,none⟩=some y/\w'.cell? ⟨wr.heap.size,0,none⟩=some (.slice a0 x.r.length n0)/\w'.cell? ⟨wr.heap.size,1,none⟩=some (.int .i64 x.n)) (by kernel_rfl) ?_ (fun hHeld=>?_)
   ·exact⟨(cb8 ba8).trans p1,by go_simp,by go_simp⟩
   refine tkE 0 16 rfl rfl ?_;refine tkE 1 17 rfl rfl ?_;refine tkE 2 18 rfl rfl ?_;refine onE 3 rfl fun K hK=>?_;go_simp;go_at_call 133;refine cM8 (A8c (.slice a0 x.r.length n0) x.r g0 x.n _ (hR.below ?hbb) hxn) ?_
   case hbb=>exact bex
   rintro e w2 ⟨⟨u2,g2,rfl,hR2,hO2⟩,hb2⟩;obtain⟨a2,n2,rfl⟩:=hR2.shape;have Y9:=hb2.size;simp at Y9;have C0:Below wr.heap.size wr w2:=bex;have hB2:=hB.below C0;have pf2:∀q,w2.frozen? ⟨w.heap.size+1+1,q,none⟩=false:=fun q=>((bc8 C0).2 _ q (by omega)).trans (pf q);have rf2:∀q,w2.frozen? ⟨w.heap.size+1,q,none⟩=false:=fun q=>((bc8 C0).2 _ q (by omega)).trans (rf q);have p02:=bt8 C0 p0;have p12:=bt8 C0 p1;have r02:=bt8 C0 r0;have r12:=bt8 C0 r1;have q0:w2.cell? ⟨wr.heap.size,0,none⟩=some (.slice a0 x.r.length n0):=cl8 hb2;have q1:w2.cell? ⟨wr.heap.size,1,none⟩=some (.int .i64 x.n):=cl8 hb2;try go_wp2_with fail
   refine hK.out _ _ ?_ (fun A0g=>?_)
   ·intro _;exact⟨p12,q0,q1⟩
   clear hK;replace A0g:=A0g (by decide);refine onE 4 rfl fun K hK=>?_;go_simp;refine hK.out _ _ ?_ (fun L2=>?_)
   ·intro _;exact⟨(cb8 ba8).trans p12,(cb8 ba8).trans q0,(cb8 ba8).trans q1⟩
   clear hK;replace L2:=L2 (by decide);refine onE 5 rfl fun K hK=>?_;refine step_append_lies _ (by rfl) _ _ _ (by rfl) (w.heap.size+1+1+1) 116 i0 _ 2 32 Tryz.underlying33 hi hz0 hz1 hz2 rfl (by omega) y ct.length (cc us ct) (by rfl) (hB2.own.alloc _) ⟨w2.heap.size,0,none⟩ 1 1 [.slice a2 x.r.length n2,.int .i64 x.n] (by rfl) (by rfl) (World.news_of_block (cs:=#[.slice a2 x.r.length n2,.int .i64 x.n]) (t:=116) (fr:=(0,0)) (heap_alloc_new w2 _)) (by simp[Value.oneCell']) (by omega) hml hby (by simp;omega) (w2.heap.size+1) (by simp) ?_;intro gg cap w3 H5 hgrow hat j5;have hz3:=hgrow.size;simp at hz3;have far:∀b q,b<w2.heap.size->y.ownBlock≠some b->w3.cell? ⟨b,q,none⟩=w2.cell? ⟨b,q,none⟩:=fun b q hb hne=>(hgrow.cell_far _ (by simp;omega) (Ne.symm hne)).trans (cb8 (bA8 _ _ _ hb));have X0:∀b q,b<w2.heap.size->y.ownBlock≠some b->w3.frozen? ⟨b,q,none⟩=w2.frozen? ⟨b,q,none⟩:=fun b q hb hne=>(hgrow.frozen_far _ (by simp;omega) (Ne.symm hne)).trans (fb8 (bA8 _ _ _ hb));have pf3:∀q,w3.frozen? ⟨w.heap.size+1+1,q,none⟩=false:=fun q=>(X0 _ q (by omega) hv2).trans (pf2 q);have rf3:∀q,w3.frozen? ⟨w.heap.size+1,q,none⟩=false:=fun q=>(X0 _ q (by omega) hvr).trans (rf2 q);have p03:=(far (w.heap.size+1+1) 0 (by omega) hv2).trans p02;have p13:=(far (w.heap.size+1+1) 1 (by omega) hv2).trans p12;have r03:=(far (w.heap.size+1) 0 (by omega) hvr).trans r02;have r13:=(far (w.heap.size+1) 1 (by omega) hvr).trans r12;have hBp:=C4.push (hB2.below ((Below.refl _ _).alloc lr8 (.cells #[.slice a2 x.r.length n2,.int .i64 x.n] 116))) (hR2.below ((Below.refl _ _).alloc lr8 _)) ⟨hO2.1,fun b hb=>by have:=hO2.2.1 b hb;simp at this;omega,fun b hb q=>(fb8 (bA8 _ _ _ (hR2.lt b hb))).trans (hO2.2.2 b hb q)⟩ (fun b hb hb'=>by have:=hO2.2.1 b hb';have:=hGl b hb;simp at*;omega) (fun b hb hb'=>by have:=hO2.2.1 b hb';have:=(oL8 hB.own b hb).2;simp at*;omega) H5 hgrow (fun b hb=>by simp[Value.ownBlock]at hb;subst hb;rcases hat with h|h;exact .inl h;exact .inr (by simp;omega))
   have A5p:=far wr.heap.size 0 (by omega) hvT;have A64:=far wr.heap.size 1 (by omega) hvT;have D6:Below w.heap.size w w3:=Below.grown bex hgrow (by simp;omega) (fun b hb=>by have:=(oL8 hB.own b hb).1;omega);refine hK.out _ _ ?_ (fun N2=>?_)
   ·intro _;exact⟨p13,A5p.trans q0,A64.trans q1⟩
   clear hK;replace N2:=N2 (by decide);refine tkE 6 22 rfl rfl ?_;refine onE 7 rfl fun K hK=>?_;go_simp;refine hK.out _ _ ?_ (fun S9=>?_)
   ·exact fun h=>absurd rfl h
   clear hK S9;refine V6 (by kernel_rfl) ?_ _;have P0:(w3.setCell ⟨w.heap.size+1+1,1,none⟩ (.slice (some ⟨gg,0,none⟩) (ct.length+1) cap)).cell? ⟨w.heap.size+1+1,0,none⟩=some (.int .i64 W):=(cO8 _ _ _ _ (by simp)).trans p03;have P1:(w3.setCell ⟨w.heap.size+1+1,1,none⟩ (.slice (some ⟨gg,0,none⟩) (ct.length+1) cap)).cell? ⟨w.heap.size+1+1,1,none⟩=some (.slice (some ⟨gg,0,none⟩) (ct.length+1) cap):=cS8 _ _ _ p13;have PF:∀q,(w3.setCell ⟨w.heap.size+1+1,1,none⟩ (.slice (some ⟨gg,0,none⟩) (ct.length+1) cap)).frozen? ⟨w.heap.size+1+1,q,none⟩=false:=fun q=>by simpa using pf3 q
   have R0:(w3.setCell ⟨w.heap.size+1+1,1,none⟩ (.slice (some ⟨gg,0,none⟩) (ct.length+1) cap)).cell? ⟨w.heap.size+1,0,none⟩=some (.int .i64 0):=(cO8 _ _ _ _ (by simp)).trans r03;have R1:(w3.setCell ⟨w.heap.size+1+1,1,none⟩ (.slice (some ⟨gg,0,none⟩) (ct.length+1) cap)).cell? ⟨w.heap.size+1,1,none⟩=some (.slice none 0 0):=(cO8 _ _ _ _ (by simp)).trans r13;have RF:∀q,(w3.setCell ⟨w.heap.size+1+1,1,none⟩ (.slice (some ⟨gg,0,none⟩) (ct.length+1) cap)).frozen? ⟨w.heap.size+1,q,none⟩=false:=fun q=>by simpa using rf3 q
   have hBs:=hBp.keep (w':=w3.setCell ⟨w.heap.size+1+1,1,none⟩ (.slice (some ⟨gg,0,none⟩) (ct.length+1) cap)) (by simp) (fun b hb _=>bS8 _ _ _ _ (by simp;omega));rw[<-HT.out]at hBs;have l7:Below w.heap.size w (w3.setCell ⟨w.heap.size+1+1,1,none⟩ (.slice (some ⟨gg,0,none⟩) (ct.length+1) cap)):=D6.setCell (by simp;omega) _;have hzS:w.heap.size+1+1+1<=(w3.setCell ⟨w.heap.size+1+1,1,none⟩ (.slice (some ⟨gg,0,none⟩) (ct.length+1) cap)).heap.size:=by simp;omega
   clear H5 hgrow hat far X0 hBp hB2 hR2 hO2 hb2 hB p03 p13 pf3 r03 r13 rf3 hHeld A0g L2 N2;go_wp2;exact⟨⟨k+1,_,_,_,hlt,by simp,P0,P1,PF,R0,R1,RF,hBs,l7,hzS⟩,by simp[intOf];omega⟩
  ·obtain rfl:k=cs.length:=by omega
   rw[List.take_length]at hB;obtain⟨ay,cy,rfl⟩:=hB.shape;clear ha hC;go_wp2;refine bodyPost_ret (v:=.agg #[.int .i64 W,.slice ay cs.length cy]) (by simp[results,Tryz.results106,go_sem, *]) rfl ⟨⟨_,us,G,rfl,(hB.keep (by simp) fun b hb _=>?_).weak (by omega)⟩,?_⟩
   ·repeat rw[bS8 _ _ _ _ (by simp;omega)]
   ·exact bs8
end
section
open Go.RowKit Go.Deep
def l8 (w:World)(F:List Nat):Prop:=∀b∈F,∀o,w.frozen? ⟨b,o,none⟩=false
structure I7 (F:List Nat)(w w':World):Prop where
 os:w'.os=w.os
 tape:w'.tape=w.tape
 output:w'.output=w.output
 size:w.heap.size<=w'.heap.size
 block:∀k,k<w.heap.size->k∉F->w'.heap[k]?=w.heap[k]?
 free:l8 w F->l8 w' F
theorem I7.of_below {w w':World}{F:List Nat}(h:Below w.heap.size w w')(hF:∀b∈F,b<w.heap.size):I7 F w w':=
 ⟨h.os,h.tape,h.output,h.size,fun k hk _=>h.block k hk,fun f b hb o=>(fb8 (h.block b (hF b hb))).trans (f b hb o)⟩
theorem I7.refl (F:List Nat)(w:World):I7 F w w:=⟨rfl,rfl,rfl,Nat.le_refl _,fun _ _ _=>rfl,id⟩
theorem I7.trans {a b c:World}{F:List Nat}(h:I7 F a b)(k:I7 F b c):I7 F a c:=
 ⟨k.os.trans h.os,k.tape.trans h.tape,k.output.trans h.output,Nat.le_trans h.size k.size,fun i hi hF=>(k.block i (Nat.lt_of_lt_of_le hi h.size) hF).trans (h.block i hi hF),fun f=>k.free (h.free f)⟩
theorem I7.setCell {w w':World}{F:List Nat}(h:I7 F w w'){p:Addr}(hp:p.block∈F)(u:Value):I7 F w (w'.setCell p u):=
 ⟨h.os,h.tape,h.output,by simpa using h.size,fun k hk hF=>(bS8 _ _ _ _ (by rintro rfl;exact hF hp)).trans (h.block k hk hF),fun f b hb o=>by rw[World.frozen?_setCell];exact h.free f b hb o⟩
theorem I7.wide {w w':World}{F G:List Nat}(h:I7 F w w')(hs:∀b∈F,b∈G)(hG:∀b∈G,b∉F->b<w.heap.size):I7 G w w':=
 ⟨h.os,h.tape,h.output,h.size,fun k hk hF=>h.block k hk fun hx=>hF (hs k hx),fun f b hb o=>by
  by_cases hx:b∈F
  ·exact h.free (fun c hc=>f c (hs c hc)) b hx o
  ·exact(fb8 (h.block b (hG b hb hx) hx)).trans (f b hb o)⟩
theorem I7.below {w w':World}{F:List Nat}{N:Nat}(h:I7 F w w')(hF:∀b∈F,N<=b)(hN:N<=w.heap.size):Below N w w':=
 ⟨h.os,h.tape,h.output,h.size,fun k hk=>h.block k (by omega) fun hx=>by have:=hF k hx;omega⟩
def nK:Nat->List E7->Nat
 |0,_=>0
 |d+1,es=>(es.map fun e=>1+nK d e.ks).sum
def N0 (d k:Nat)(es:List E7)(i:Nat):Nat:=k+6* ((es.take i).map fun e=>1+nK d e.ks).sum
def mK:Nat->Nat->List E7->List E7
 |0,_,_=>[]
 |d+1,k,es=>es.mapIdx fun i e=>E7.mk (N0 d k es i:Nat) ((N0 d k es i:Nat)+1) ⟨(N0 d k es i:Nat)+1+1,(N0 d k es i:Nat)+1+1+1,mt ((N0 d k es i:Nat)+1+1+1+1)⟩ (mt ((N0 d k es i:Nat)+1+1+1+1+1)) (mK d (N0 d k es i+6) e.ks)
def mE (d t:Nat)(e:E7):E7:=E7.mk t ((t:Int)+1) ⟨(t:Int)+1+1,(t:Int)+1+1+1,mt ((t:Int)+1+1+1+1)⟩ (mt ((t:Int)+1+1+1+1+1)) (mK d (t+6) e.ks)
theorem A3W:∀ (d:Nat) (es:List E7),nK d es<=es.length+H4 es
 |0,_=>Nat.zero_le _
 |d+1,es=>by
  rw[nK];induction es with
  |nil=>simp
  |cons e es ih=>
   have h1:=A3W d e.ks;have h2:=j3 e;rw[List.map_cons,List.sum_cons,List.length_cons,H4];omega
theorem C0q (d k:Nat)(es:List E7):N0 d k es 0=k:=by simp[N0]
theorem C3T {d k i:Nat}{es:List E7}{e:E7}(h:es[i]?=some e):N0 d k es (i+1)=N0 d k es i+6+6*nK d e.ks:=by
 obtain⟨hk,rfl⟩:=gE1 h;unfold N0;rw[List.take_succ_eq_append_getElem hk,List.map_append,List.sum_append];simp only[List.map_cons,List.map_nil,List.sum_cons,List.sum_nil];omega
theorem B2h (d k:Nat)(es:List E7):N0 d k es es.length=k+6*nK (d+1) es:=by unfold N0;rw[List.take_length,nK]
theorem B6I (d k:Nat)(es:List E7)(i:Nat):N0 d k es i<=k+6*nK (d+1) es:=by
 rw[nK];have h2:((es.take i).map fun e=>1+nK d e.ks).sum<=(es.map fun e=>1+nK d e.ks).sum:=by
  conv=>rhs;rw[<-List.take_append_drop i es]
  rw[List.map_append,List.sum_append];omega
 unfold N0;omega
theorem B76 (d k:Nat)(es:List E7)(i:Nat)(h:0<k):0<N0 d k es i:=by unfold N0;omega
def mKi (d k n:Nat)(es:List E7):List E7:=es.mapIdx fun i e=>if i<n then mE d (N0 d k es i) e else e
theorem A7s (d k n:Nat)(es:List E7):(mKi d k n es).length=es.length:=by simp[mKi]
theorem A3v {d k n i:Nat}{es:List E7}{e:E7}(h:es[i]?=some e):(mKi d k n es)[i]?=some (if i<n then mE d (N0 d k es i) e else e):=by simp[mKi,h]
theorem B6j (d k:Nat)(es:List E7):mKi d k 0 es=es:=by
 apply List.ext_getElem?;intro i;cases h:es[i]? with
 |none=>have:=List.getElem?_eq_none_iff.1 h;rw[List.getElem?_eq_none (by rw[A7s];exact this)]
 |some x=>rw[A3v h,if_neg (by omega)]
theorem A2c (d k:Nat)(es:List E7):(mK (d+1) k es).length=es.length:=by simp[mK]
theorem C07 {d k i:Nat}{es:List E7}{e:E7}(h:es[i]?=some e):(mK (d+1) k es)[i]?=some (mE d (N0 d k es i) e):=by simp[mK,h,mE]
theorem B2u (d k:Nat)(es:List E7):mKi d k es.length es=mK (d+1) k es:=by
 apply List.ext_getElem?;intro i;cases h:es[i]? with
 |none=>
  have:=List.getElem?_eq_none_iff.1 h;rw[List.getElem?_eq_none (by rw[A7s];exact this),List.getElem?_eq_none (by rw[A2c];exact this)]
 |some x=>
  have:=(gE1 h).1;rw[A3v h,if_pos this,C07 h]
theorem B7h (d t:Nat)(e:E7)(h:t<=999999990)(s1:(mt ((t:Int)+1+1+1+1)).size<=maxLen)(s2:(mt ((t:Int)+1+1+1+1+1)).size<=maxLen):(mE d t e).wf:=by
 have e1:IntKind.i64.min= -9223372036854775808:=by decide
 have e2:IntKind.i64.max=9223372036854775807:=by decide
 refine⟨?_,?_,⟨?_,?_,s1⟩,s2⟩<;>(simp only[mE,E7.mk_k,E7.mk_n,E7.mk_v,Lit.wf,Bool.and_eq_true,decide_eq_true_eq,e1,e2];omega)
theorem A0B {w:World}{b q q':Nat}{x:Value}(h:q≠q'):(w.setCell ⟨b,q',none⟩ x).cell? ⟨b,q,none⟩=w.cell? ⟨b,q,none⟩:=
 cO8 _ _ _ _ (by intro e;have:=congrArg Addr.off e;simp at this;omega)
theorem B0W {b:Nat}{G:List (List Nat)}(h:(b::G.flatten).Nodup){i j:Nat}{g g':List Nat}(hi:G[i]?=some g)(hj:G[j]?=some g')(hne:i≠j):∀y∈g,y∉g':=by
 have h2:=(List.nodup_cons.1 h).2;rw[List.Nodup,List.pairwise_flatten]at h2;have h3:=List.pairwise_iff_getElem.1 h2.2;obtain⟨hi',rfl⟩:=gE1 hi;obtain⟨hj',rfl⟩:=gE1 hj;intro y hy hy';rcases Nat.lt_or_gt_of_ne hne with hlt|hlt
 ·exact h3 i j hi' hj' hlt y hy y hy' rfl
 ·exact h3 j i hj' hi' hlt y hy' y hy rfl
theorem A6r {b:Nat}{G:List (List Nat)}(h:(b::G.flatten).Nodup){i:Nat}{g:List Nat}(hi:G[i]?=some g):b∉g:=fun hb=>
 (List.nodup_cons.1 h).1 (List.mem_flatten.2 ⟨g,mg8 hi,hb⟩)
theorem A0b.mark {w w3:World}{d b o k n:Nat}{es:List E7}{G:List (List Nat)}{e:E7}{g:List Nat}{u:Value}(h:A0b w d b o (mKi d k n es) G)(hG:G.length=es.length)(hnd:(b::G.flatten).Nodup)(hx:es[n]?=some e)(hg:G[n]?=some g)(hu:w.cell? ⟨b,o+n*7+6,none⟩=some u) (hsz:w.heap.size<=w3.heap.size) (H7:∀x∈G.flatten,x∉g->w3.heap[x]?=w.heap[x]?)(C5:∀q,(∀p,p<6->q≠o+n*7+p)->w3.cell? ⟨b,q,none⟩=w.cell? ⟨b,q,none⟩) (hc:cellsE w3 b (o+n*7) (mE d (N0 d k es n) e)) (hwf:(mE d (N0 d k es n) e).wf)(hK:C1 w3 d u (mK d (N0 d k es n+6) e.ks) g):A0b w3 d b o (mKi d k (n+1) es) G:=by
 intro i y g' hy hg';have hi:i<es.length:=by have:=(gE1 hy).1;rwa [A7s]at this
 obtain⟨z,hz⟩:∃z,es[i]?=some z:=⟨es[i],by simp[hi]⟩;rw[A3v hz]at hy;have hy:=(Option.some.inj hy).symm;by_cases ei:i=n
 ·subst ei;obtain rfl:z=e:=by rw[hx]at hz;exact(Option.some.inj hz).symm
  obtain rfl:g'=g:=by rw[hg]at hg';exact(Option.some.inj hg').symm
  rw[if_pos (by omega)]at hy;subst hy;exact⟨hwf,hc,u,(C5 _ (fun p hp=>by omega)).trans hu,hK⟩
 ·obtain⟨a0,⟨c0,c1,c2,c3,c4,c5⟩,u',c6,a2⟩:=h i _ g' (A3v hz) hg';have ey:y=if i<n then mE d (N0 d k es i) z else z:=by
   rw[hy];by_cases hin:i<n
   ·rw[if_pos hin,if_pos (by omega)]
   ·rw[if_neg hin,if_neg (by omega)]
  rw[<-ey]at a0 c0 c1 c2 c3 c4 c5 a2;have hd:=B0W hnd hg' hg ei;exact⟨a0,⟨(C5 _ (fun p hp=>by omega)).trans c0,(C5 _ (fun p hp=>by omega)).trans c1,(C5 _ (fun p hp=>by omega)).trans c2,(C5 _ (fun p hp=>by omega)).trans c3,(C5 _ (fun p hp=>by omega)).trans c4,(C5 _ (fun p hp=>by omega)).trans c5⟩,u',(C5 _ (fun p hp=>by omega)).trans c6,a2.keep hsz fun x hx=>H7 x (List.mem_flatten.2 ⟨g',mg8 hg',hx⟩) (hd x hx)⟩
theorem B1u (u:Nat)(h:u<=999999999):(mt (u:Int)).size<=maxLen:=by
 have h1:=B1j u;unfold mt;rw[Int.toNat_natCast];have h2:(strOfNums (dg u)).size=(dg u).length:=by simp[strOfNums,ByteArray.size]
 rw[ByteArray.size_append,h2];have h3:(⟨#[109]⟩:ByteArray).size=1:=rfl;rw[h3];unfold maxLen;omega
def MkS (d:Nat):Prop:=∀ (k:Nat) (v:Value) (es:List E7) (F:List Nat) (w:World),C1 w d v es F->F.Nodup->l8 w F->0<k->k+6*nK d es<=999999900->
  Calls Tryz.prog 40 #[v,.int .i64 k] w fun e w'=>e=.returned (.int .i64 ((k+6*nK d es:Nat):Int))/\C1 w' d v (mK d k es) F/\I7 F w w'
theorem A3u:∀d,MkS d
 |0=>fun k v es F w hr=>hr.elim
 |d+1=>by
  have ih:=A3u d;intro k v es F w hr hnd hf h0 h1;have o8:=hr.lt;obtain⟨a,c,b,o,G,rfl,hl,hc,hG,hF0,ha⟩:=hr.pick;have hcm:=hc;unfold maxLen at hc;have X4:=B6I d k es;have P3:=fun i=>B76 d k es i h0;have A0O:=B2h d k es;clear hr;go_enter Tryz.func40,Tryz.ntmps40;go_wp2;go_loopw [1,5] (fun kk i wr=> ∃n:Nat,n<=es.length/\i=.int .i64 n/\kk=.int .i64 ((N0 d k es n:Nat):Int)/\(∀j,j<es.length->A0b wr d b o (mKi d k n es) G)/\I7 F w wr) (fun _ i _=>es.length - (intOf i).toNat)
  case atStart=>exact⟨0,Nat.zero_le _,rfl,by rw[C0q],fun j hj=>by rw[B6j];exact(ha j hj).2.2.2,I7.refl _ _⟩
  case round=>
   obtain⟨n,hn,rfl,rfl,hH0,hch⟩:=hrel;by_cases hlt:n<es.length
   ·have hH:=hH0 n hlt;obtain⟨rfl,hblt,rfl,_⟩:=ha n hlt;have hzb:=hch.size;have hbr:b<wr.heap.size:=by omega
    have U8:n<G.length:=by omega
    obtain⟨x,hx⟩:∃x,es[n]?=some x:=⟨es[n],by simp[hlt]⟩;obtain⟨g,hg⟩:∃g,G[n]?=some g:=⟨G[n],by simp[U8]⟩;obtain⟨hw,⟨c0,c1,c2,c3,c4,c5⟩,u,c6,hK⟩:=hH n _ g (A3v hx) hg;rw[if_neg (by omega)]at hw c0 c1 c2 c3 c4 c5 hK;have hgF:∀y∈g,y∈G.flatten:=fun y hy=>List.mem_flatten.2 ⟨g,mg8 hg,hy⟩;have hfr:=hch.free hf;have j9:∀i,wr.frozen? ⟨b,i,none⟩=false:=hfr b (by simp);have hgb:b∉g:=A6r hnd hg;have hgn:g.Nodup:=by
     have h2:=(List.nodup_cons.1 hnd).2;rw[List.Nodup,List.pairwise_flatten]at h2;exact h2.1 g (mg8 hg)
    have hs:=C3T (d:=d) (k:=k) hx;have ho1:=X4 n;have ho2:=X4 (n+1);have HS:Hid (N0 d k es (n+1)=N0 d k es n+6+6*nK d x.ks):=hs;have hko:=P3 n;have hkn:=fun w3=>A0b.mark (w3:=w3) hH hG hnd hx hg c6;obtain⟨au,cu,rfl,_,_⟩:=hK.shape;have A72:=hK.lt;have A7w:l8 wr g:=fun y hy=>hfr y (List.mem_cons_of_mem _ (hgF y hy));generalize N0 d k es n=t at*;have ht:t+6+6*nK d x.ks<=999999900:=by omega
    have htI:(t:Int)<=999999894:=by omega
    have htP:(0:Int)<(t:Int):=by omega
    have e4:((t+4:Nat):Int)=(t:Int)+1+1+1+1:=by omega
    have e5:((t+5:Nat):Int)=(t:Int)+1+1+1+1+1:=by omega
    have e6:((t+6:Nat):Int)=(t:Int)+1+1+1+1+1+1:=by omega
    have hM4:=fun w=>A1H (t+4) w (by omega) (by omega);have hM5:=fun w=>A1H (t+5) w (by omega) (by omega);have hI:=fun w hk hf=>ih (t+6) (.slice au x.ks.length cu) x.ks g w hk hgn hf (by omega) (by omega);have s4:=B1u (t+4) (by omega);have s5:=B1u (t+5) (by omega);rw[e4]at hM4 s4;rw[e5]at hM5 s5;rw[e6]at hI;have hwf:=B7h d t x (by omega) s4 s5;clear e4 e5 e6 s4 s5 hs ho1 ho2 X4 P3 A0O ih hH hH0 ha hf hw;go_wp2_with fail;refine cM8 (hM4 _) ?_;rintro e wA ⟨rfl,hbA⟩;have hzA:=hbA.size;simp only[World.size_setCell]at hzA;have A0:wA.cell? ⟨b,o+n*7,none⟩=some (.int .i64 (t:Int)):=cl8 hbA;have A1:wA.cell? ⟨b,o+n*7+1,none⟩=some (.int .i64 ((t:Int)+1)):=cl8 hbA;have A2:wA.cell? ⟨b,o+n*7+2,none⟩=some (.int .i64 ((t:Int)+1+1)):=cl8 hbA;have A3:wA.cell? ⟨b,o+n*7+3,none⟩=some (.int .i64 ((t:Int)+1+1+1)):=cl8 hbA;have A4:wA.cell? ⟨b,o+n*7+4,none⟩=some (.string x.v.s):=cl8 hbA;have A5:wA.cell? ⟨b,o+n*7+5,none⟩=some (.string x.p):=cl8 hbA;have A6:wA.cell? ⟨b,o+n*7+6,none⟩=some (.slice au x.ks.length cu):=cl8 hbA;have Af:∀i,wA.frozen? ⟨b,i,none⟩=false:=fun i=>((bc8 hbA).2 b i (by simpa using hbr)).trans (by simpa using j9 i);have Ac:∀q,(∀p,p<6->q≠o+n*7+p)->wA.cell? ⟨b,q,none⟩=wr.cell? ⟨b,q,none⟩:=by
     intro q hq;refine((bc8 hbA).1 b q (by simpa using hbr)).trans ?_;have q0:=hq 0 (by omega);have q1:=hq 1 (by omega);have q2:=hq 2 (by omega);have q3:=hq 3 (by omega);rw[A0B (by omega),A0B (by omega),A0B (by omega),A0B (by omega)]
    have Ab:∀y,y<wr.heap.size->y≠b->wA.heap[y]?=wr.heap[y]?:=by
     intro y hy hyb;refine(hbA.block y (by simpa using hy)).trans ?_;repeat rw[bS8 _ _ _ _ (by simpa using hyb)]
    have A9o:I7 (b::G.flatten) wr wA:=((((((I7.refl _ wr).setCell (p:=⟨b,_,none⟩) (by simp) _).setCell (p:=⟨b,_,none⟩) (by simp) _).setCell (p:=⟨b,_,none⟩) (by simp) _).setCell (p:=⟨b,_,none⟩) (by simp) _)).trans (I7.of_below hbA (fun y hy=>by have:=o8 y hy;simp;omega));have B1p:b<wA.heap.size:=by omega
    clear hbA hM4 c0 c1 c2 c3 c4 c5;go_wp2_with fail;refine cM8 (hM5 _) ?_;rintro e wB ⟨rfl,hbB⟩;have hzB:=hbB.size;simp only[World.size_setCell]at hzB;have B0:wB.cell? ⟨b,o+n*7,none⟩=some (.int .i64 (t:Int)):=cl8 hbB;have B1:wB.cell? ⟨b,o+n*7+1,none⟩=some (.int .i64 ((t:Int)+1)):=cl8 hbB;have B2:wB.cell? ⟨b,o+n*7+2,none⟩=some (.int .i64 ((t:Int)+1+1)):=cl8 hbB;have B3:wB.cell? ⟨b,o+n*7+3,none⟩=some (.int .i64 ((t:Int)+1+1+1)):=cl8 hbB;have B4:wB.cell? ⟨b,o+n*7+4,none⟩=some (.string (mt ((t:Int)+1+1+1+1))):=cl8 hbB;have B5:wB.cell? ⟨b,o+n*7+5,none⟩=some (.string x.p):=cl8 hbB;have B6:wB.cell? ⟨b,o+n*7+6,none⟩=some (.slice au x.ks.length cu):=cl8 hbB;have Bf:∀i,wB.frozen? ⟨b,i,none⟩=false:=fun i=>((bc8 hbB).2 b i (by simpa using B1p)).trans (by simpa using Af i);have Bc:∀q,(∀p,p<6->q≠o+n*7+p)->wB.cell? ⟨b,q,none⟩=wr.cell? ⟨b,q,none⟩:=by
     intro q hq;refine((bc8 hbB).1 b q (by simpa using B1p)).trans ?_;have q4:=hq 4 (by omega);rw[A0B (by omega)];exact Ac q hq
    have Bb:∀y,y<wr.heap.size->y≠b->wB.heap[y]?=wr.heap[y]?:=by
     intro y hy hyb;refine(hbB.block y (by simp;omega)).trans ?_;rw[bS8 _ _ _ _ (by simpa using hyb)];exact Ab y hy hyb
    have A9M:I7 (b::G.flatten) wr wB:=(A9o.setCell (p:=⟨b,_,none⟩) (by simp) _).trans (I7.of_below hbB (fun y hy=>by have:=o8 y hy;simp;omega));have B6c:b<wB.heap.size:=by omega
    clear hbB hM5 A0 A1 A2 A3 A4 A5 A6 Af Ac Ab A9o;have hkC:C1 (wB.setCell ⟨b,o+n*7+5,none⟩ (.string (mt ((t:Int)+1+1+1+1+1)))) d (.slice au x.ks.length cu) x.ks g:=hK.keep (by simp;omega) fun y hy=>by
     have hyb:y≠b:=by rintro rfl;exact hgb hy
     rw[bS8 _ _ _ _ (by simpa using hyb)];exact Bb y (A72 y hy) hyb
    have hfC:l8 (wB.setCell ⟨b,o+n*7+5,none⟩ (.string (mt ((t:Int)+1+1+1+1+1)))) g:=fun y hy o'=>by
     have hyb:y≠b:=by rintro rfl;exact hgb hy
     rw[World.frozen?_setCell];exact(fb8 (Bb y (A72 y hy) hyb)).trans (A7w y hy o')
    have B1w:I7 (b::G.flatten) wr (wB.setCell ⟨b,o+n*7+5,none⟩ (.string (mt ((t:Int)+1+1+1+1+1)))):=A9M.setCell (p:=⟨b,_,none⟩) (by simp) _;go_wp2_with fail;refine cM8 (hI _ hkC hfC) ?_;rintro e w3 ⟨rfl,hK3,hc3⟩;have hz3:=hc3.size;simp only[World.size_setCell]at hz3;have hbb:w3.heap[b]?=(wB.setCell ⟨b,o+n*7+5,none⟩ (.string (mt ((t:Int)+1+1+1+1+1)))).heap[b]?:=hc3.block b (by simpa using B6c) hgb;have D:∀q,w3.cell? ⟨b,q,none⟩=(wB.setCell ⟨b,o+n*7+5,none⟩ (.string (mt ((t:Int)+1+1+1+1+1)))).cell? ⟨b,q,none⟩:=fun q=>cb8 hbb;have S2:=hkn w3 (by omega) (fun y hy hyg=>by
      have hyb:y≠b:=by rintro rfl;exact(List.nodup_cons.1 hnd).1 hy
      have A5i:y<wr.heap.size:=by have:=o8 y (List.mem_cons_of_mem _ hy);omega
      rw[hc3.block y (by simp;omega) hyg,bS8 _ _ _ _ (by simpa using hyb)];exact Bb y A5i hyb)
     (fun q hq=>by
      have q5:=hq 5 (by omega);rw[D q,A0B (by omega)];exact Bc q hq)
     ⟨by rw[D,A0B (by omega)];exact B0,by rw[D,A0B (by omega)];exact B1,by rw[D,A0B (by omega)];exact B2,by rw[D,A0B (by omega)];exact B3,by rw[D,A0B (by omega)];exact B4,by rw[D];exact cS8 _ _ _ B5⟩ hwf hK3
    have A7C:I7 (b::G.flatten) w w3:=hch.trans (B1w.trans (hc3.wide (fun y hy=>List.mem_cons_of_mem _ (hgF y hy)) fun y hy _=>by have:=o8 y hy;simp;omega));clear hkn hI hc3 hK3 hch hfr j9 A7w hK B0 B1 B2 B3 B4 B5 B6 Bf Bc Bb A9M B1w hkC hfC D hbb c6;go_wp2_with fail;exact⟨⟨n+1,hlt,by simp,by rw[HS.out];congr 1,fun _ _=>S2,A7C⟩,by simp[intOf];omega⟩
   ·go_wp2;go_returns;obtain rfl:n=es.length:=by omega
    refine⟨by rw[A0O];rfl,⟨a,c,G,by rw[A2c],by rw[A2c];exact hl,hcm,by rw[A2c];exact hG,fun e=>hF0 (by have:=congrArg List.length e;rw[A2c]at this;exact List.length_eq_zero_iff.1 this),fun hne=>?_⟩,hch⟩;have hp:0<es.length:=by have:=List.length_pos_iff.2 hne;rwa [A2c]at this
    obtain⟨e,hlt,hF,_⟩:=ha 0 hp;have hH:=hH0 0 hp;rw[B2u]at hH;exact⟨b,o,e,by have:=hch.size;omega,hF,hH⟩
theorem B8L (d k:Nat)(e:E7)(u:Value)(F:List Nat)(w:World)(hr:C1 w d u e.ks F)(hnd:F.Nodup)(hf:l8 w F)(h0:0<k)(h1:k+6*nK d e.ks<=999999900):Calls Tryz.prog 39 #[(.agg #[.int .i64 e.k,.int .i64 e.n,.int .i64 e.v.k,.int .i64 e.v.n,.string e.v.s,.string e.p,u]),.int .i64 k] w fun x w'=>x=.returned (.int .i64 ((k+6*nK d e.ks:Nat):Int))/\C1 w' d u (mK d k e.ks) F/\I7 F w w':=by
 have hlt:=hr.lt;obtain⟨a,c,rfl,_,_⟩:=hr.shape;have hb1:Below w.heap.size w (w.alloc (.cells #[.int .i64 e.k,.int .i64 e.n,.int .i64 e.v.k,.int .i64 e.v.n,.string e.v.s,.string e.p,.slice a e.ks.length c] 42)):=(Below.refl _ _).alloc lr8 _;have hc1:=I7.of_below hb1 hlt;have hI:=A3u d k (.slice a e.ks.length c) e.ks F _ (hr.below hb1) hnd (hc1.free hf) h0 h1;go_enter Tryz.func39,Tryz.ntmps39;go_wp2_with fail;refine cM8 hI ?_;rintro x w2 ⟨rfl,hR2,hc2⟩;have hch:=hc1.trans hc2;clear hc1 hc2 hb1 hf hr hI;go_wp2;go_returns;exact⟨rfl,hR2,hch⟩
def A0F (w:World)(v:Value)(ns:List Int)(g:List Nat):Prop:=
 ∃ (a:Option Addr) (c:Nat),v=.slice a ns.length c/\ns.length<=c/\c<=maxLen/\(ns=[]->g=[])/\(ns≠ []->∃b o,a=some ⟨b,o,none⟩/\b<w.heap.size/\g=[b]/\∀i n,ns[i]?=some n->w.cell? ⟨b,o+i,none⟩=some (.int .i64 n))
theorem A0F.lt {w:World}{v:Value}{ns:List Int}{g:List Nat}(h:A0F w v ns g):∀b∈g,b<w.heap.size:=by
 obtain⟨a,c,_,_,_,h0,h⟩:=h;by_cases hne:ns=[]
 ·rw[h0 hne];intro b hb;cases hb
 ·obtain⟨b,o,_,hlt,rfl,_⟩:=h hne;intro x hx;rcases List.mem_singleton.1 hx with rfl;exact hlt
theorem A0F.keep {w w':World}{v:Value}{ns:List Int}{g:List Nat}(h:A0F w v ns g)(hs:w.heap.size<=w'.heap.size)(hg:∀b∈g,w'.heap[b]?=w.heap[b]?):A0F w' v ns g:=by
 obtain⟨a,c,e,hl,hc,h0,h⟩:=h;refine⟨a,c,e,hl,hc,h0,fun hne=>?_⟩;obtain⟨b,o,ea,hlt,rfl,hC⟩:=h hne;exact⟨b,o,ea,by omega,rfl,fun i n hn=>(cb8 (hg b (by simp))).trans (hC i n hn)⟩
theorem A0F.below {w w':World}{v:Value}{ns:List Int}{g:List Nat}(h:A0F w v ns g)(hb:Below w.heap.size w w'):A0F w' v ns g:=h.keep hb.size fun b hg=>hb.block b (h.lt b hg)
theorem A0F.pick {w:World}{v:Value}{ns:List Int}{g:List Nat}(h:A0F w v ns g):∃a c b o,v=.slice a ns.length c/\ns.length<=c/\c<=maxLen/\(ns=[]->g=[])/\∀k,k<ns.length->a=some ⟨b,o,none⟩/\b<w.heap.size/\g=[b]/\∀i n,ns[i]?=some n->w.cell? ⟨b,o+i,none⟩=some (.int .i64 n):=by
 obtain⟨a,c,rfl,hl,hc,h0,h⟩:=h;by_cases hne:ns=[]
 ·exact⟨a,c,0,0,rfl,hl,hc,h0,fun k hk=>by rw[hne]at hk;simp at hk⟩
 ·obtain⟨b,o,h⟩:=h hne;exact⟨a,c,b,o,rfl,hl,hc,h0,fun _ _=>h⟩
end
section
open Go.RowKit Go.Deep Go.ChangeShapes Go.WideShapes
theorem B1t {α:Type}[Inhabited α](enc:α->Value)(w:World)(blk off:Nat)(d:Array α){k:Nat}(h:k≠blk):(Sort.putRow enc w blk off d).heap[k]?=w.heap[k]?:=by
 unfold Sort.putRow Sort.mapBlock;simp[Array.getElem?_modify,Ne.symm h]
theorem B78 {ns:List Nd}{k:Nat}{x:Nd}(h:ns[k]?=some x):K4 (ns.take (k+1))=if x.e.k=0 then K4 (ns.take k)++ [x.e.n]else K4 (ns.take k):=by
 unfold K4;rw[A5T h,List.filter_append,List.map_append];by_cases h0:x.e.k=0
 ·rw[if_pos h0];simp[h0]
 ·rw[if_neg h0];simp[h0]
theorem A9f (ns:List Nd):(K4 ns).length<=ns.length:=by
 unfold K4;rw[List.length_map];exact List.length_filter_le _ _
theorem B9i {w:World}{N:Nat}{zs:List Int}{t:TypeId}{yb yc:Nat}(h:w.ownsRow N t 1 (.slice (some ⟨yb,0,none⟩) zs.length yc) zs.length (D8 zs)):Sort.Holds (Value.int .i64) w yb 0 zs.toArray/\zs.length<=yc/\yc<=maxLen/\N<=yb/\yb<w.heap.size/\∀o,w.frozen? ⟨yb,o,none⟩=false:=by
 have hlt:=O5 h;obtain⟨hl,ho⟩:=h;rcases ho with⟨h0,_⟩|⟨g,cap,cur,hv,hg,hc,hn',hm,hs,ht⟩
 ·cases h0
 injection hv with e1 _ e3;injection e1 with e1;injection e1 with e1;subst e1 e3;refine⟨fun j hj=>?_,hn',hm,hg,(hlt yb rfl).2,fun o=>by simp[World.frozen?,hc]⟩;have hj':j<zs.length:=by simpa using hj
 refine⟨?_,by simp[World.frozen?,hc]⟩;have hu:(D8 zs)[j]?=some (.int .i64 zs[j]):=by simp[D8]
 rw[getElem!_pos zs.toArray j hj];simp only[World.cell?,hc];rw[<-ht,List.getElem?_take,if_pos (by omega),Array.getElem?_toList]at hu
 simpa using hu
theorem B54 {w w2 w3:World}{N yb yc n q:Nat}{zs L:List Int}{os:Array Obj}(hH:Sort.Holds (Value.int .i64) w yb 0 zs.toArray)(hc:zs.length<=yc)(hm:yc<=maxLen)(hN:N<=yb)(hlt:yb<w.heap.size)(hf:∀o,w.frozen? ⟨yb,o,none⟩=false)(h2:w2=Sort.grow (Sort.putRow (Value.int .i64) (Sort.ahead w n) yb 0 (zs.mergeSort fun x y=>decide (x<=y)).toArray) os)(h3:w3=Sort.putRow (Value.int .i64) (Sort.ahead w2 q) yb 0 (Lib.compact (zs.mergeSort fun x y=>decide (x<=y))++List.replicate (zs.length - (Lib.compact (zs.mergeSort fun x y=>decide (x<=y))).length) 0).toArray)(hL:Lib.compact (zs.mergeSort fun x y=>decide (x<=y))=L):(∃g,A0F w3 (.slice (some ⟨yb,0,none⟩) L.length yc) L g/\Own w3 N g)/\Below N w w3:=by
 rw[hL]at h3;have hLl:L.length<=zs.length:=by
  rw[<-hL];have:=Lib.compact_length_le (zs.mergeSort fun x y=>decide (x<=y))
  rwa [List.length_mergeSort]at this
 have hms:(zs.mergeSort fun x y=>decide (x<=y)).length=zs.length:=List.length_mergeSort _;generalize(zs.mergeSort fun x y=>decide (x<=y))=ms at*;have hz2:w.heap.size<=w2.heap.size:=by rw[h2];simp
 have hz3:w3.heap.size=w2.heap.size:=by rw[h3];simp
 have hH2:Sort.Holds (Value.int .i64) w2 yb 0 ms.toArray:=by
  rw[h2];exact Sort.holds_grow _ _ _ _ _ _ (by simpa using hlt) (Sort.holds_putRow _ _ _ _ zs.toArray ms.toArray (Sort.holds_ahead _ _ _ _ _ _ hH) (by simpa using hms))
 have hd:(L++List.replicate (zs.length -L.length) (0:Int)).toArray.size=ms.toArray.size:=by simp;omega
 have C5:∀j,j<L.length->∀x,L[j]?=some x->w3.cell? ⟨yb,0+j,none⟩=some (.int .i64 x):=by
  intro j hj x hx;rw[h3,Sort.cell?_putRow (Value.int .i64) _ yb 0 ms.toArray _ (Sort.holds_ahead _ _ _ _ _ _ hH2) hd j (by simp;omega)];have hj2:j<(L++List.replicate (zs.length -L.length) (0:Int)).toArray.size:=by simp;omega
  rw[getElem!_pos _ j hj2];have hx2:L[j]=x:=by simpa [hj]using hx
  simp[List.getElem_append_left hj,hx2]
 have hf3:∀o,w3.frozen? ⟨yb,o,none⟩=false:=by
  intro o;rw[h3,Sort.frozen?_putRow,Sort.frozen?_ahead,h2,Sort.frozen?_grow _ _ _ (by simpa using hlt),Sort.frozen?_putRow,Sort.frozen?_ahead];exact hf o
 have A0D:Below N w w3:=by
  refine⟨by rw[h3,h2];rfl,by rw[h3,h2];rfl,by rw[h3,h2];rfl,by omega,fun k hk=>?_⟩;rw[h3,B1t _ _ _ _ _ (by omega),Sort.heap_ahead,h2,Sort.heap_grow_old _ _ (by simp;omega),B1t _ _ _ _ _ (by omega),Sort.heap_ahead]
 refine⟨?_,A0D⟩;by_cases hne:L=[]
 ·subst hne;exact⟨[],⟨_,yc,rfl,Nat.zero_le _,hm,fun _=>rfl,fun h=>absurd rfl h⟩,by simp[Own,P8]⟩
 ·exact⟨[yb],⟨_,yc,rfl,by omega,hm,fun h=>absurd h hne,fun _=>⟨yb,0,rfl,by omega,rfl,fun i x hx=>C5 i (gE1 hx).1 x hx⟩⟩,by simp,fun b hb=>by rcases List.mem_singleton.1 hb with rfl;exact⟨hN,hf3⟩⟩
theorem B88 (D:Nat)(e:E7)(u:Value)(F:List Nat)(w:World)(he:e.wf)(hk:C1 w (D+1) u e.ks F)(hd:F.Nodup/\∀b∈F,Fr w b)(hn:wtE e<=1048576):Calls Tryz.prog 132 #[(.agg #[.int .i64 e.k,.int .i64 e.n,.int .i64 e.v.k,.int .i64 e.v.n,.string e.v.s,.string e.p,u])] w fun x w'=>(∃v g,x=.returned v/\A0F w' v (H0 (D+1) e) g/\Own w' w.heap.size g)/\Below w.heap.size w w':=by
 obtain⟨i0,hi,hz0,B0n,M6⟩:=info_parts Tryz.infoInt;obtain⟨a,c,rfl,hl,hc⟩:=hk.shape;have hde:=hk.re.de;obtain⟨L,hL⟩:∃L,Hid (H0 (D+1) e=L):=⟨_,rfl⟩;rw[hL.out];go_enter Tryz.func132,Tryz.ntmps132;go_wp2_with fail;have hb0:Below w.heap.size w ((w.alloc (.cells #[.int .i64 e.k,.int .i64 e.n,.int .i64 e.v.k,.int .i64 e.v.n,.string e.v.s,.string e.p,.slice a e.ks.length c] 42)).alloc (.cells #[] 3)):=bex;refine cM8 (B45 D (A7Z (H0 (D+1) e)) B3I e (.slice a e.ks.length c) F _ he ⟨D+1,hde,fun x h=>h⟩ (hk.below hb0) (.inl ⟨hd.1,fun b hb=>(hd.2 b hb).keep (hb0.block b (hk.lt b hb))⟩) (by omega)) ?_;rintro x w1 ⟨⟨v1,w0,rfl,hw0,ns,hang,D2,h0,hQ,S3,D3⟩,hb1⟩;have hz1:=hb1.size;simp only[World.size_alloc]at hz1 hw0;have A4f:=hQ.at';have O9:∀x,x∈L↔x∈K4 ns:=by
  intro x;rw[<-hL.out];constructor
  ·exact fun hx=>hQ.cols h0 hde hx
  ·intro hx;obtain⟨y,hy,hy0,rfl⟩:=B0T.1 hx;obtain⟨j,hj,rfl⟩:=List.mem_iff_getElem.1 hy;obtain⟨⟨_,⟨d',hd',hin⟩,_⟩,_⟩:=hQ.at' j ns[j] (by simp);cases d' with
   |zero=>exact hd'.elim
   |succ d'=>exact hin _ (A2x.2 (.inl ⟨hy0,rfl⟩))
 have A8y:L.Pairwise (· < ·):=by rw[<-hL.out];exact A8P _ _
 have HS:Hid (Lib.compact ((K4 ns).mergeSort fun x y=>decide (x<=y))=L):=B7C (K4 ns) L A8y O9;obtain⟨g,cap,rfl,_,hn0,Q9,hcm,hgl,hgN,_⟩:=A4T D2 h0;have A4G:∀k x,ns[k]?=some x->w1.cell? ⟨g,k,none⟩=some (.pointer (some ⟨x.b,x.o,none⟩)):=by
  intro k x hx;obtain⟨g',cap',hv',_,_,_,_,_,_,hp⟩:=A4T D2 hx;injection hv' with e1;injection e1 with e1;injection e1 with e1;subst e1;exact hp
 have hy0:w1.ownsRow (w.heap.size+1) 3 1 (.slice (some ⟨w.heap.size+1,0,none⟩) 0 0) 0 []:=by
  refine p6 (w:=(w.alloc (.cells #[.int .i64 e.k,.int .i64 e.n,.int .i64 e.v.k,.int .i64 e.v.n,.string e.v.s,.string e.p,.slice a e.ks.length c] 42)).alloc (.cells #[] 3)) (A2A (by simp) lr8) fun b hb=>?_;simp[Value.ownBlock]at hb;subst hb;exact hb1.block _ (by simp)
 have F8:Below w.heap.size w w1:=bex;have hzw:w.heap.size+1+1<=w1.heap.size:=by omega
 unfold maxLen at hcm;clear hb1 hQ D2 h0 S3 hk O9 A8y hd hb0;go_wp2;go_loopw [3,10] (fun y i wr=> ∃ (k yb yc:Nat),k<=ns.length/\i=.int .i64 k/\y=.slice (some ⟨yb,0,none⟩) (K4 (ns.take k)).length yc/\wr.ownsRow (w.heap.size+1) 3 1 (.slice (some ⟨yb,0,none⟩) (K4 (ns.take k)).length yc) (K4 (ns.take k)).length (D8 (K4 (ns.take k)))/\(yb=w.heap.size+1\/w1.heap.size<=yb)/\(∀b,b<w1.heap.size->b≠w.heap.size+1->wr.heap[b]?=w1.heap[b]?)/\w1.heap.size<=wr.heap.size/\Below w.heap.size w wr) (fun _ i _=>ns.length - (intOf i).toNat)
 case atStart=>exact⟨0,w.heap.size+1,0,Nat.zero_le _,rfl,by simp[K4],by simpa [K4,D8]using hy0,.inl rfl,fun b _ _=>rfl,Nat.le_refl _,F8⟩
 case round=>
  obtain⟨k,yb,yc,hkl,rfl,rfl,hO,hyb,H7,hzr,hb⟩:=hrel;by_cases hlt:k<ns.length
  ·obtain⟨x,hx⟩:∃x,ns[k]?=some x:=⟨ns[k],by simp[hlt]⟩;obtain⟨⟨_,_,xN,xl,_,_⟩,⟨c0,c1,_,_,_,_⟩,_⟩:=A4f k x hx;have p1:=(cb8 (o:=k) (H7 g hgl (by omega))).trans (A4G k x hx);have d0:=(cb8 (o:=x.o) (H7 x.b xl (by omega))).trans c0;have d1:=(cb8 (o:=x.o+1) (H7 x.b xl (by omega))).trans c1;have HT:=B78 hx;have hcl:=A9f (ns.take k);have A5Y:(ns.take k).length<=k:=by simp;omega
   have hol:=O5 hO;by_cases h0:x.e.k=0
   ·rw[if_pos h0]at HT;have HT:Hid (K4 (ns.take (k+1))=K4 (ns.take k)++ [x.e.n]):=HT;rw[h0]at d0;have HB:Hid (∀b,b<w1.heap.size->b≠w.heap.size+1->wr.heap[b]?=w1.heap[b]?):=H7;generalize K4 (ns.take k)=zs at*;have hO3:(wr.alloc (.cells #[.int .i64 x.e.n] 3)).ownsRow (w.heap.size+1) 3 1 (.slice (some ⟨yb,0,none⟩) zs.length yc) zs.length (D8 zs):=p6 hO fun b hb=>bA8 _ _ _ (hol b hb).2;have S2:∀j' u,[Value.int .i64 x.e.n][j']?=some u->(wr.alloc (.cells #[.int .i64 x.e.n] 3)).cell? ((⟨wr.heap.size,0,none⟩:Addr).add j')=some u:=by
     intro j' u hu
     match j',hu with
     |0,hu=>simp at hu;subst hu;go_simp
    have C4X:yb<wr.heap.size:=(hol yb rfl).2;clear hO H7 A4G A4f hx c0 c1 h0;go_wp2_with(at_builtin;refine wpList_append_own_at _ rfl _ _ 122 rfl (w.heap.size+1) 3 i0 _ 1 8 Tryz.underlying122 hi hz0 B0n M6 rfl (by decide) (.slice (some ⟨yb,0,none⟩) zs.length yc) zs.length (D8 zs) rfl hO3 ⟨wr.heap.size,0,none⟩ 1 1 [.int .i64 x.e.n] rfl rfl S2 (by simp[Value.oneCell']) ?c3 ?c4 ?c5 ?_)
    case c3=>unfold maxLen;omega
    case c4=>omega
    case c5=>simp;omega
    intro v5 w5 D4 hgr5 _ hat5;have A0V:=hgr5.size;simp at A0V;have H6:w5.ownsRow (w.heap.size+1) 3 1 v5 (zs++ [x.e.n]).length (D8 (zs++ [x.e.n])):=by
     rw[List.length_append]
     simpa [D8]using D4
    obtain⟨b5,c5,hv5⟩:∃b5 c5,v5=.slice (some ⟨b5,0,none⟩) (zs++ [x.e.n]).length c5:=by
     rcases H6.2 with⟨_,h⟩|⟨b5,c5,_,hv,_⟩
     ·simp at h
     ·exact⟨b5,c5,hv⟩
    subst hv5;have C3y:b5=w.heap.size+1\/w1.heap.size<=b5:=by
     rcases hat5 with h|h
     ·simp[Value.ownBlock]at h;rw[h];exact hyb
     ·simp[Value.ownBlock]at h;omega
    have A3B:∀b,b<w1.heap.size->b≠w.heap.size+1->w5.heap[b]?=w1.heap[b]?:=by
     intro b hb hbg;rw[<-HB.out b hb hbg,hgr5.block b (by simp;omega) (by simp[Value.ownBlock];omega)];exact bA8 _ _ _ (by omega)
    have A32:Below w.heap.size w w5:=(hb.alloc (by omega) _).grown hgr5 (by simp;omega) (fun q hq=>by simp[Value.ownBlock]at hq;omega);rw[<-HT.out]at H6;have HL5:Hid ((zs++ [x.e.n]).length=(K4 (ns.take (k+1))).length):=by show _=_;rw[HT.out]
    clear D4 hgr5 hat5 hO3 S2 hol;go_wp2;exact⟨⟨k+1,b5,c5,hlt,by simp,by first|(rw[<-HL5.out];done)|(rw[<-HL5.out];simp),H6,C3y,A3B,by omega,A32⟩,by simp[intOf];omega⟩
   ·rw[if_neg h0]at HT;have HT:Hid (K4 (ns.take (k+1))=K4 (ns.take k)):=HT;have hkb:(x.e.k==0)=false:=by simpa using h0
    have hkd:decide (x.e.k=0)=false:=by simpa using h0
    have HB:Hid (∀b,b<w1.heap.size->b≠w.heap.size+1->wr.heap[b]?=w1.heap[b]?):=H7;clear H7 A4G A4f hx c0 c1 h0;go_wp2;exact⟨⟨k+1,yb,yc,hlt,by simp,by rw[HT.out],by rw[HT.out];exact hO,hyb,HB.out,hzr,hb⟩,by simp[intOf];omega⟩
  ·obtain rfl:k=ns.length:=by omega
   rw[List.take_length]at hO;simp only[List.take_length];obtain⟨hH,hc1,hc2,hN',hyl,hfz⟩:=B9i hO;have hcl:=A9f ns;have hS3:=fun w2 w3 n q os=>B54 (w2:=w2) (w3:=w3) (n:=n) (q:=q) (os:=os) (L:=L) hH hc1 hc2 hN' hyl hfz;have hms:((K4 ns).mergeSort fun x y=>decide (x<=y)).length=(K4 ns).length:=List.length_mergeSort _;have hCM:=fun w2=>Tryz.slices_Compact_int yb 0 yc ((K4 ns).mergeSort fun x y=>decide (x<=y)) w2;have hHM:∀n os,Sort.Holds (Value.int .i64) (Sort.grow (Sort.putRow (Value.int .i64) (Sort.ahead wr n) yb 0 ((K4 ns).mergeSort fun x y=>decide (x<=y)).toArray) os) yb 0 ((K4 ns).mergeSort fun x y=>decide (x<=y)).toArray:=fun n os=> Sort.holds_grow _ _ _ _ _ _ (by simpa using hyl) (Sort.holds_putRow _ _ _ _ (K4 ns).toArray _ (Sort.holds_ahead _ _ _ _ _ _ hH) (by simp));clear H7 A4G A4f hO;go_wp2_with fail;refine cM8 (Tryz.slices_Sort_int yb 0 yc (K4 ns) wr hH hyl (by omega)) ?_;rintro q w2 ⟨rfl,n2,os2,h2⟩;have hH2:=hHM n2 os2;rw[<-h2]at hH2;have hC2:=hCM w2 hH2 (by rw[hms];omega) (by rw[hms];exact hc1);rw[hms]at hC2;have HS3:=hS3 w2;have H2:Hid (w2=Sort.grow (Sort.putRow (Value.int .i64) (Sort.ahead wr n2) yb 0 ((K4 ns).mergeSort fun x y=>decide (x<=y)).toArray) os2):=h2;have hl2:(Lib.compact ((K4 ns).mergeSort fun x y=>decide (x<=y))).length=L.length:=by rw[HS.out]
   clear hCM hHM hS3 hH hH2 h2;go_wp2_with fail;refine cM8 hC2 ?_;rintro q w3 ⟨rfl,q3,h3⟩;obtain⟨⟨gg,hI3,hO3⟩,hb3⟩:=HS3 w3 n2 q3 os2 H2.out h3 HS.out;rw[hl2];have hbE:Below w.heap.size w w3:=hb.trans (hb3.mono (by omega));clear hC2 HS3 h3;go_wp2;refine bodyPost_ret (v:=.slice (some ⟨yb,0,none⟩) L.length yc) (by simp[results,Tryz.results132,go_sem]) rfl ⟨⟨_,gg,rfl,hI3,⟨hO3.1,fun b hb'=>⟨by have:=(hO3.2 b hb').1;omega,(hO3.2 b hb').2⟩⟩⟩,hbE⟩
end
section
open Go.RowKit
theorem C3W {e:E7}{W:Int}{w:World}{D:Nat}{u:Value}{F:List Nat}(hk:C1 w D u e.ks F)(h:okE 13 e=true):bE8 e W=(H0 D e).all fun x=>decide (x<W):=by
 rw[bE8,h,Bool.true_and,Bool.eq_iff_iff,A4Y W 13 e w D u F hk h,List.all_eq_true];simp
theorem B42 {l:List Int}{k:Nat}{x:Int}{q:Int->Bool}(h:l[k]?=some x):(l.drop k).all q=(q x && (l.drop (k+1)).all q):=by
 obtain⟨hk,rfl⟩:=gE1 h;rw[List.drop_eq_getElem_cons hk,List.all_cons]
theorem B4S {G:List (List Nat)}(h:G.flatten.Nodup){k:Nat}{g:List Nat}(hg:G[k]?=some g):g.Nodup/\∀b∈g,b∈G.flatten:=by
 obtain⟨hk,rfl⟩:=gE1 hg;refine⟨?_,fun b hb=>List.mem_flatten.2 ⟨G[k],List.getElem_mem hk,hb⟩⟩;have e:G=G.take k++G[k]::G.drop (k+1):=by rw[<-List.drop_eq_getElem_cons hk,List.take_append_drop]
 rw[e,List.flatten_append,List.flatten_cons]at h;exact(List.nodup_append.1 (List.nodup_append.1 h).2.1).1
theorem A67 (v:Value)(es:List E7)(F:List Nat)(D:Nat)(W:Int)(w:World)(hk:C1 w D v es F)(hd:F.Nodup/\∀b∈F,Fr w b)(hn:H4 es<=1048576):Calls Tryz.prog 105 #[.int .i64 W,v] w fun x w'=>x=.returned (.bool (es.all (bE8 · W)))/\Below w.heap.size w w':=by
 obtain⟨D,rfl⟩:=hk.succ;obtain⟨a,c,b,o,G,rfl,hl,hc,hG,_,ha⟩:=hk.pick;unfold maxLen at hc;clear hk;go_enter Tryz.func105,Tryz.ntmps105;go_wp2_with fail;go_loopw [11] (fun i wr=> ∃k:Nat,k<=es.length/\i=.int .i64 k/\es.all (bE8 · W)=(es.drop k).all (bE8 · W)/\Below w.heap.size w wr) (fun i _=>es.length - (intOf i).toNat)
 case atStart=>exact⟨0,Nat.zero_le _,rfl,by simp,bex⟩
 case round=>
  obtain⟨k,hk,rfl,heq,hb⟩:=hrel;have HE:Hid (es.all (bE8 · W)=(es.drop k).all (bE8 · W)):=heq;have hzb:=hb.size;clear heq;by_cases hlt:k<es.length
  ·obtain⟨rfl,hblt,hF,hL⟩:=ha k hlt;obtain⟨x,g,u,hx,hg,hxw,⟨c0,c1,c2,c3,c4,c5⟩,c6,hK,hbr⟩:=hL.at hG hblt hb hlt;obtain⟨ax,cx,rfl,_,_⟩:=hK.shape;obtain⟨D',rfl⟩:=hK.succ;have HS:Hid ((es.drop k).all (bE8 · W)=(bE8 x W && (es.drop (k+1)).all (bE8 · W))):=B0f hx;have hxn:wtE x<=1048576:=by have:=A0a (mg8 hx);omega
   have hkI:(k:Int)<es.length:=by omega
   have hdg:g.Nodup/\∀t∈g,Fr wr t:=by
    rw[hF]at hd;have h1:=B4S (List.nodup_cons.1 hd.1).2 hg;refine⟨h1.1,fun t ht=>?_⟩;have h2:=hd.2 t (List.mem_cons_of_mem _ (h1.2 t ht));obtain⟨cc,tt,ll,h3⟩:=h2.1;exact h2.keep (hb.block t (A40 h3))
   have hO:=fun w2 (hb:Below wr.heap.size wr w2)=>B40 x _ g (D'+1) w2 hxw (hK.below hb);have hC:=fun w2 (hb:Below wr.heap.size wr w2)=>B88 D' x _ g w2 hxw (hK.below hb) ⟨hdg.1,fun t ht=>by
    have h2:=hdg.2 t ht;obtain⟨cc,tt,ll,h3⟩:=h2.1;exact h2.keep (hb.block t (A40 h3))⟩ hxn
   obtain⟨bo,HO⟩:∃b,Hid (okE 13 x=b):=⟨_,rfl⟩;rw[HO.out]at hO;clear ha hL hx hg hxw hdg hF hd;go_wp2_with fail;refine cM8 (hO _ bex) ?_;rintro y w1 ⟨rfl,hb1⟩;have F8:Below wr.heap.size wr w1:=bex;have d0:w1.cell? ⟨wr.heap.size,0,none⟩=some (.int .i64 x.k):=cl8 hb1;have d1:w1.cell? ⟨wr.heap.size,1,none⟩=some (.int .i64 x.n):=cl8 hb1;have d2:w1.cell? ⟨wr.heap.size,2,none⟩=some (.int .i64 x.v.k):=cl8 hb1;have d3:w1.cell? ⟨wr.heap.size,3,none⟩=some (.int .i64 x.v.n):=cl8 hb1;have d4:w1.cell? ⟨wr.heap.size,4,none⟩=some (.string x.v.s):=cl8 hb1;have d5:w1.cell? ⟨wr.heap.size,5,none⟩=some (.string x.p):=cl8 hb1;have d6:w1.cell? ⟨wr.heap.size,6,none⟩=some (.slice ax x.ks.length cx):=cl8 hb1;have A0i:=hb.trans (F8.mono hzb);clear hO hb1 c0 c1 c2 c3 c4 c5 c6;cases bo with
   |false=>
    have HF:Hid (es.all (bE8 · W)=false):=by show _=_;rw[HE.out,HS.out,A8O HO.out,Bool.false_and]
    clear hK hC;go_wp2;go_returns;exact⟨by rw[HF.out];rfl,A0i⟩
   |true=>
    have HB:Hid (bE8 x W=(H0 (D'+1) x).all fun z=>decide (z<W)):=C3W hK HO.out;clear hK;have D3:(H0 (D'+1) x).length<=1+wtE x:=A22 (D'+1) x;obtain⟨L,HL⟩:∃L,Hid (H0 (D'+1) x=L):=⟨_,rfl⟩;rw[HL.out]at hC D3;go_wp2_with fail;refine cM8 (hC _ F8) ?_;rintro y w2 ⟨⟨vi,gi,rfl,hI,_⟩,hb2⟩;have C0:Below w.heap.size w w2:=A0i.trans (hb2.mono A0i.size);obtain⟨ay,cy,by',oy,rfl,hyl,hyc,_,hyc2⟩:=hI.pick;unfold maxLen at hyc;clear hC hb2 F8 A0i hb hI d0 d1 d2 d3 d4 d5 d6;go_wp2_with fail;go_loopw [21] (fun i wi=> ∃j:Nat,j<=L.length/\i=.int .i64 j/\(L.all fun z=>decide (z<W))=((L.drop j).all fun z=>decide (z<W))/\Below w2.heap.size w2 wi) (fun i _=>L.length - (intOf i).toNat)
    case atStart=>exact⟨0,Nat.zero_le _,rfl,by simp,Below.refl _ _⟩
    case round=>
     obtain⟨j,hj,rfl,hje,hbi⟩:=hrel;have HJ:Hid ((L.all fun z=>decide (z<W))=((L.drop j).all fun z=>decide (z<W))):=hje;have U1:=C0.trans (hbi.mono C0.size);clear hje;by_cases hjl:j<L.length
     ·obtain⟨rfl,hyb,_,C5⟩:=hyc2 j hjl;obtain⟨z,hz⟩:∃z,L[j]?=some z:=⟨L[j],by simp⟩;have cz:=((bc8 hbi).1 _ _ hyb).trans (C5 j z hz);have HZ:Hid (((L.drop j).all fun z=>decide (z<W))=(decide (z<W) && ((L.drop (j+1)).all fun z=>decide (z<W)))):=B42 hz;have hjI:(j:Int)<L.length:=by omega
      clear hyc2 C5 hz;by_cases hzW:z<W
      ·have B9e:¬z≥W:=by omega
       have HF:Hid ((L.all fun z=>decide (z<W))=((L.drop (j+1)).all fun z=>decide (z<W))):=by show _=_;rw[HJ.out,HZ.out,decide_eq_true hzW,Bool.true_and]
       go_wp2_with fail;exact⟨⟨j+1,hjl,by simp,HF.out,hbi⟩,by simp[intOf];omega⟩
      ·have B9e:z≥W:=by omega
       have HF:Hid (es.all (bE8 · W)=false):=by show _=_;rw[HE.out,HS.out,HB.out,HL.out,HJ.out,HZ.out,decide_eq_false hzW,Bool.false_and,Bool.false_and]
       go_wp2;go_returns;exact⟨by rw[HF.out];rfl,U1⟩
     ·obtain rfl:j=L.length:=by omega
      have HF:Hid (es.all (bE8 · W)=(es.drop (k+1)).all (bE8 · W)):=by show _=_;rw[HE.out,HS.out,HB.out,HL.out,HJ.out,List.drop_length,List.all_nil,Bool.true_and]
      clear hyc2;go_wp2_with fail;exact⟨⟨k+1,hlt,by simp,HF.out,U1⟩,by simp[intOf];omega⟩
  ·obtain rfl:k=es.length:=by omega
   have HF:Hid (es.all (bE8 · W)=true):=by show _=_;rw[HE.out,List.drop_length];rfl
   clear ha;go_wp2;go_returns;exact⟨by rw[HF.out];rfl,hb⟩
end
section
open Go.RowKit Go.Deep
def sC (cs:List C2):Nat:=(cs.map fun x=>3*x.r.length+1).sum
theorem B6E (k:Nat)(cs:List C2):J0 k cs cs.length=k+sC cs:=by unfold J0 sC;rw[List.take_length]
theorem C2k (cs:List C2):sC cs<=3*wtb cs:=A9O cs
def J9 (k:Nat)(rs:List R3)(i:Nat):Nat:=k+((rs.take i).map fun x=>2+sC x.cs).sum
theorem C31 (k:Nat)(rs:List R3):J9 k rs 0=k:=by simp[J9]
theorem B20 {k i:Nat}{rs:List R3}{x:R3}(h:rs[i]?=some x):J9 k rs (i+1)=J9 k rs i+(2+sC x.cs):=by
 obtain⟨hk,rfl⟩:=gE1 h;unfold J9;rw[List.take_succ_eq_append_getElem hk,List.map_append,List.sum_append];simp only[List.map_cons,List.map_nil,List.sum_cons,List.sum_nil];omega
theorem B3h (l:List R3):(l.map fun x=>2+sC x.cs).sum<=3*wtR l:=by
 unfold wtR k7;induction l with
 |nil=>simp
 |cons x xs ih=>
  simp only[List.map_cons,List.sum_cons,List.length_cons]at ih⊢;have:=C2k x.cs;unfold wtr at ih⊢;omega
theorem B0e (k:Nat)(rs:List R3):∀i,J9 k rs i<=k+3*wtR rs:=by
 intro i;have h1:=B3h rs;have h2:((rs.take i).map fun x=>2+sC x.cs).sum<=(rs.map fun x=>2+sC x.cs).sum:=by
  conv=>rhs;rw[<-List.take_append_drop i rs]
  rw[List.map_append,List.sum_append];omega
 unfold J9;omega
def mRi (k n:Nat)(rs:List R3):List R3:=rs.mapIdx fun i x=>if i<n then⟨mt ((J9 k rs i:Nat):Int),((J9 k rs i:Nat):Int)+1,mC (J9 k rs i+2) x.cs⟩else x
theorem A2P (k n:Nat)(rs:List R3):(mRi k n rs).length=rs.length:=by simp[mRi]
theorem A45 {k n i:Nat}{rs:List R3}{x:R3}(h:rs[i]?=some x):(mRi k n rs)[i]?=some (if i<n then⟨mt ((J9 k rs i:Nat):Int),((J9 k rs i:Nat):Int)+1,mC (J9 k rs i+2) x.cs⟩else x):=by
 simp[mRi,h]
theorem B2d (k:Nat)(rs:List R3):mRi k 0 rs=rs:=by
 apply List.ext_getElem?;intro i;cases h:rs[i]? with
 |none=>have:=List.getElem?_eq_none_iff.1 h;rw[List.getElem?_eq_none (by rw[A2P];exact this)]
 |some x=>rw[A45 h,if_neg (by omega)]
theorem RLF.step {w w1 w3:World}{b o k n:Nat}{rs:List R3}{G:List (List Nat)}{x:R3}{g:List Nat}{u:Value}(h:RLF w b o (mRi k n rs) G)(hnd:(b::G.flatten).Nodup)(hb:b<w.heap.size)(hx:rs[n]?=some x)(hg:G[n]?=some g)(hu:w.cell? ⟨b,o+n*3+2,none⟩=some u) (h1:Below w.heap.size w w1)(hR:C6 w3 u (mC (J9 k rs n+2) x.cs) g) (hc:Chg g ((w1.setCell ⟨b,o+n*3,none⟩ (.string (mt ((J9 k rs n:Nat):Int)))).setCell ⟨b,o+n*3+1,none⟩ (.int .i64 (((J9 k rs n:Nat):Int)+1))) w3):RLF w3 b o (mRi k (n+1) rs) G:=by
 have hb1:b<w1.heap.size:=Nat.lt_of_lt_of_le hb h1.size;have C5:∀q,w3.cell? ⟨b,q,none⟩=((w1.setCell ⟨b,o+n*3,none⟩ (.string (mt ((J9 k rs n:Nat):Int)))).setCell ⟨b,o+n*3+1,none⟩ (.int .i64 (((J9 k rs n:Nat):Int)+1))).cell? ⟨b,q,none⟩:=fun q=>cb8 (hc.block b (by simpa using hb1) (A2Y hnd hg));have hw1:∀q,w1.cell? ⟨b,q,none⟩=w.cell? ⟨b,q,none⟩:=fun q=>cb8 (h1.block b hb);have C2t:w.heap.size<=w3.heap.size:=Nat.le_trans h1.size (by have:=hc.size;simpa using this);have H7:∀c,c<w.heap.size->c≠b->c∉g->w3.heap[c]?=w.heap[c]?:=fun c hcw hcb hcg=>by
  rw[hc.block c (by have:=h1.size;simp;omega) hcg,bS8 _ _ _ _ hcb,bS8 _ _ _ _ hcb];exact h1.block c hcw
 intro i y g' hy hg';have hi:i<rs.length:=by have:=(gE1 hy).1;rwa [A2P]at this
 obtain⟨z,hz⟩:∃z,rs[i]?=some z:=⟨rs[i],by simp[hi]⟩;rw[A45 hz]at hy;have hy:=(Option.some.inj hy).symm;obtain⟨u',a0,a1,a2,a3⟩:=h i _ g' (A45 hz) hg';have hgb:b∉g':=A2Y hnd hg';rw[C5,C5,C5];by_cases e:i=n
 ·subst e;obtain rfl:z=x:=by rw[hx]at hz;exact(Option.some.inj hz).symm
  obtain rfl:g'=g:=by rw[hg]at hg';exact(Option.some.inj hg').symm
  obtain rfl:u'=u:=by rw[hu]at a2;exact(Option.some.inj a2).symm
  rw[if_pos (by omega)]at hy;subst hy;refine⟨u',?_,?_,?_,hR⟩
  ·rw[cO8 _ _ _ _ (by intro q;have:=congrArg Addr.off q;simp at this)];exact cS8 _ _ _ ((hw1 _).trans a0)
  ·exact cS8 _ _ _ ((cO8 _ _ _ _ (by intro q;have:=congrArg Addr.off q;simp at this)).trans ((hw1 _).trans a1))
  ·rw[cO8 _ _ _ _ (by intro q;have:=congrArg Addr.off q;simp at this),cO8 _ _ _ _ (by intro q;have:=congrArg Addr.off q;simp at this)];exact(hw1 _).trans a2
 ·have ey:y=if i<n then⟨mt ((J9 k rs i:Nat):Int),((J9 k rs i:Nat):Int)+1,mC (J9 k rs i+2) z.cs⟩else z:=by
   rw[hy];by_cases hin:i<n
   ·rw[if_pos hin,if_pos (by omega)]
   ·rw[if_neg hin,if_neg (by omega)]
  rw[<-ey]at a0 a1 a3;have hd:=B0Q hnd hg' hg e;have far:∀p q:Nat,p<3->q<3->o+i*3+p≠o+n*3+q:=by intro p q hp hq;omega
  refine⟨u',?_,?_,?_,a3.keep C2t fun c hcg=>H7 c (a3.lt c hcg) (by rintro rfl;exact hgb hcg) (hd c hcg)⟩
  ·rw[cO8 _ _ _ _ (by intro q;have:=congrArg Addr.off q;simp at this;omega),cO8 _ _ _ _ (by intro q;have:=congrArg Addr.off q;simp at this;omega)];exact(hw1 _).trans a0
  ·rw[cO8 _ _ _ _ (by intro q;have:=congrArg Addr.off q;simp at this;omega),cO8 _ _ _ _ (by intro q;have:=congrArg Addr.off q;simp at this;omega)];exact(hw1 _).trans a1
  ·rw[cO8 _ _ _ _ (by intro q;have:=congrArg Addr.off q;simp at this;omega),cO8 _ _ _ _ (by intro q;have:=congrArg Addr.off q;simp at this;omega)];exact(hw1 _).trans a2
def mR (k:Nat)(rs:List R3):List R3:=mRi k rs.length rs
theorem C1b (k:Nat)(v:Value)(rs:List R3)(F:List Nat)(w:World)(hr:H8 w v rs F)(hnd:F.Nodup)(hf:N9 w F)(h0:0<k)(h1:k+6*wtR rs<=999999800):Calls Tryz.prog 13 #[v,.int .i64 k] w fun e w'=>e=.returned (.int .i64 ((J9 k rs rs.length:Nat):Int))/\H8 w' v (mR k rs) F/\Chg F w w':=by
 obtain⟨a,c,b,o,G,rfl,hl,hc,hzz,hG,hF0,hC,ha⟩:=hr.pick;have o8:=hr.lt;have hcm:=hc;unfold maxLen at hc;clear hr;have X4:=B0e k rs;go_enter Tryz.func13,Tryz.ntmps13;go_wp2;go_loopw [1,5] (fun kk i wr=> ∃n:Nat,n<=rs.length/\i=.int .i64 n/\kk=.int .i64 ((J9 k rs n:Nat):Int)/\RLF wr b o (mRi k n rs) G/\Chg F w wr) (fun _ i _=>rs.length - (intOf i).toNat)
 case atStart=>exact⟨0,Nat.zero_le _,rfl,by rw[C31],by rw[B2d];exact hC,Chg.refl _ _⟩
 case round=>
  obtain⟨n,hn,rfl,rfl,hH,hch⟩:=hrel;by_cases hlt:n<rs.length
  ·obtain⟨rfl,hblt,rfl⟩:=ha n hlt;have hzb:=hch.size;have hbr:b<wr.heap.size:=by omega
   have U8:n<G.length:=by omega
   obtain⟨x,hx⟩:∃x,rs[n]?=some x:=⟨rs[n],by simp[hlt]⟩;obtain⟨g,hg⟩:∃g,G[n]?=some g:=⟨G[n],by simp[U8]⟩;obtain⟨u,c0,c1,c2,hR⟩:=hH n _ g (A45 hx) hg;rw[if_neg (by omega)]at hR c0 c1;have hgF:∀y∈g,y∈b::G.flatten:=fun y hy=>List.mem_cons_of_mem _ (List.mem_flatten.2 ⟨g,mg8 hg,hy⟩);have hgb:b∉g:=A2Y hnd hg;have C15:g.Nodup:=by
    have h2:=(List.nodup_cons.1 hnd).2;rw[List.Nodup,List.pairwise_flatten]at h2;exact h2.1 g (mg8 hg)
   have hfr:=hch.free hf;have j9:∀i,wr.frozen? ⟨b,i,none⟩=false:=hfr b (by simp);have hgf:N9 wr g:=fun y hy=>hfr y (hgF y hy);have hs:=B20 (k:=k) hx;have ho1:=X4 n;have ho2:=X4 (n+1);have HS:Hid (J9 k rs (n+1)=J9 k rs n+2+sC x.cs):=by show _=_;omega
   have hko:0<J9 k rs n:=by unfold J9;omega
   have hxw:wtb x.cs<=wtR rs:=by have:=A9S (mg8 hx);unfold wtr at this;unfold wtR;omega
   have hM:=fun w=>A1H (J9 k rs n) w (by omega) (by omega);have hkn:=fun w1 w3=>RLF.step (w1:=w1) (w3:=w3) hH hnd hbr hx hg c2;have hMC:=fun v w'=>A9R (J9 k rs n+2) v x.cs g w';have hT:J9 k rs n+2+3*wtb x.cs<=999999900:=by omega
   generalize J9 k rs n=t at*;have e2:((t+2:Nat):Int)=(t:Int)+1+1:=by omega
   simp only[e2]at hMC;clear e2;have hRs:=hR.is.shape;obtain⟨au,lu,cu,rfl⟩:=hRs;clear hs X4 ha hC hf;go_wp2_with fail;refine cM8 (hM _) ?_;rintro e w1 ⟨rfl,hb1⟩;have hz1:=hb1.size;(try simp only[World.size_alloc]at hz1);have hbb:w1.heap[b]?=wr.heap[b]?:=hb1.block b hbr;have q0:w1.cell? ⟨b,o+n*3,none⟩=some (.string x.s):=(cb8 hbb).trans c0;have q1:w1.cell? ⟨b,o+n*3+1,none⟩=some (.int .i64 x.W):=(cb8 hbb).trans c1;have q2:w1.cell? ⟨b,o+n*3+2,none⟩=some (.slice au lu cu):=(cb8 hbb).trans c2;have C5V:∀i,w1.frozen? ⟨b,i,none⟩=false:=fun i=>(fb8 hbb).trans (j9 i);have C5H:b<w1.heap.size:=by omega
   have hR1:C6 ((w1.setCell ⟨b,o+n*3,none⟩ (.string (mt (t:Int)))).setCell ⟨b,o+n*3+1,none⟩ (.int .i64 ((t:Int)+1))) (.slice au lu cu) x.cs g:= (hR.below hb1).keep (by simp) fun c hc=>by rw[bS8 _ _ _ _ (by rintro rfl;exact hgb hc),bS8 _ _ _ _ (by rintro rfl;exact hgb hc)]
   have hf1:N9 ((w1.setCell ⟨b,o+n*3,none⟩ (.string (mt (t:Int)))).setCell ⟨b,o+n*3+1,none⟩ (.int .i64 ((t:Int)+1))) g:=fun y hy i=>by
    simp only[World.frozen?_setCell];exact(fb8 (hb1.block y (hR.lt y hy))).trans (hgf y hy i)
   have B1v:=fun w3=>hkn w1 w3 hb1;have B0K:Chg (b::G.flatten) w ((w1.setCell ⟨b,o+n*3,none⟩ (.string (mt (t:Int)))).setCell ⟨b,o+n*3+1,none⟩ (.int .i64 ((t:Int)+1))):= ((hch.trans (Chg.of_below hb1 fun y hy=>by have:=o8 y hy;omega)).setCell (p:=⟨b,_,none⟩) (by simp) _).setCell (p:=⟨b,_,none⟩) (by simp) _;have B2E:((w1.setCell ⟨b,o+n*3,none⟩ (.string (mt (t:Int)))).setCell ⟨b,o+n*3+1,none⟩ (.int .i64 ((t:Int)+1))).heap.size=w1.heap.size:=by simp
   clear hkn hb1 hR hH hM hch hfr j9 hgf c0 c1 c2 hbb;go_wp2_with fail;refine cM8 (hMC _ _ hR1 C15 hf1 (by omega) hT) ?_;rintro e w3 ⟨rfl,hR3,hc3⟩;have hS3:=B1v w3 hR3 hc3;have A7C:Chg (b::G.flatten) w w3:=B0K.trans (hc3.wide hgF fun y hy _=>by have:=o8 y hy;rw[B2E];omega);have e3:J0 (t+2) x.cs x.cs.length=t+2+sC x.cs:=B6E _ _;rw[e3];clear e3 hc3 hR3 B1v hR1 hf1 B0K hMC B2E;go_wp2;exact⟨⟨n+1,hlt,by simp,by rw[HS.out];first|(congr 1;done)|(congr 1;omega),hS3,A7C⟩,by simp[intOf];omega⟩
  ·go_wp2;go_returns;obtain rfl:n=rs.length:=by omega
   refine⟨rfl,⟨a,c,G,by rw[mR,A2P],by rw[mR,A2P];exact hl,hcm,hzz,by rw[mR,A2P];exact hG,fun e=>hF0 (by have:=congrArg List.length e;rw[mR,A2P]at this;exact List.length_eq_zero_iff.1 this),fun hne=>?_⟩,hch⟩;have hp:0<rs.length:=by have:=List.length_pos_iff.2 hne;rwa [mR,A2P]at this
   obtain⟨e,hlt,hF⟩:=ha 0 hp;exact⟨b,o,e,by have:=hch.size;omega,hF,hH⟩
end
end Go.Proofs.YteekfcdllaceoaaGreatDoor
