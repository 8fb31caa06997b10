/- Own texts, joined: contracts that the law's proof goes by. -/
import Derived.Test.YtflokiejcjjbiaaGreatGLFits12
import Derived.Test.YtflokiejcjjbiaaGreatGLFits2
import Derived.Test.YtflokiejcjjbiaaGreatGLFits7
import Derived.Test.YtflokiejcjjbiaaGreatGLFits10
import Derived.Test.YtflokiejcjjbiaaGreatGLFits30
import Derived.Handy
import Derived.Maps.AppendAt
import Derived.Test.YtflokiejcjjbiaaGreatGLFits47
set_option maxHeartbeats 16000000
set_option maxRecDepth 100000
set_option linter.unusedVariables false
set_option linter.unusedSimpArgs false
namespace Go.Proofs.YtflokiejcjjbiaaGreat
section
open Go.RowKit
def Ent (fn:Nat):Prop:=∀ (args:Array Value) (w:World),Sem.run Tryz.prog (callFunc fn args) w=.ok (.enter fn args) w
theorem ent_of {f:Nat}{fn:Func}(hf:Tryz.prog.funcs[f]?=some fn)(hn:(fn.name== "runtime.NumGoroutine")=false)(hb:fn.body.isNone=false):Ent f:=fun args w=>by
 have h1:¬fn.name= "runtime.NumGoroutine" :=by simpa using hn
 have h2:¬fn.body=none:=by intro h;rw[h]at hb;cases hb
 simp[callFunc,go_sem,hf,h1,h2]
theorem ent1:Ent 128:=ent_of Tryz.func128 (by kernel_rfl) (by kernel_rfl)
theorem ent2:Ent 129:=ent_of Tryz.func129 (by kernel_rfl) (by kernel_rfl)
theorem ent3:Ent 130:=ent_of Tryz.func130 (by kernel_rfl) (by kernel_rfl)
theorem ent4:Ent 132:=ent_of Tryz.func132 (by kernel_rfl) (by kernel_rfl)
theorem ent5:Ent 134:=ent_of Tryz.func134 (by kernel_rfl) (by kernel_rfl)
def Rk (m:Int)(D:Nat→Prop)(w:World)(c:Value)(f:Nat)(e:E7):Prop:=∃ (fn:Nat) (cap:Array Value),c=.func (.func fn) #[] cap∧Ent fn∧
 ∀ (W:World) (v:Value) (vs:List V3) (r:V3),(∀b,D b→W.heap[b]?=w.heap[b]?)→W.cell? ⟨0,0,none⟩=some (.int .i64 m)→RowIs W v vs→Res m f e vs r→ Calls Tryz.prog fn (#[v]++cap) W fun q w'=>q=.returned (.agg #[.int .i64 r.k,.int .i64 r.n,.string r.s])∧Below W.heap.size W w'
theorem Rk.keep {m:Int}{D D':Nat→Prop}{w w':World}{c:Value}{f:Nat}{e:E7}(h:Rk m D w c f e)(hD:∀b,D b→D' b)(hw:∀b,D b→w'.heap[b]?=w.heap[b]?):Rk m D' w' c f e:=by
 obtain⟨fn,cap,rfl,he,h⟩:=h;exact⟨fn,cap,rfl,he,fun W v vs r hW=>h W v vs r fun b hb=>(hW b (hD b hb)).trans (hw b hb)⟩
theorem clo1_any {e:E7}{u v:Value}{vs:List V3}{w:World}{E:Nat}{t:TypeId}{fr:Nat×Nat}(hE:w.heap[E]?=some (.cells #[.int .i64 e.k,.int .i64 e.n,.int .i64 e.v.k,.int .i64 e.v.n,.string e.v.s,.string e.p,u] t fr))(hv:RowIs w v vs)(hn:0≤e.n):Calls Tryz.prog 128 #[v,.pointer (some ⟨E,0,none⟩)] w fun x w'=>x=.returned (.agg #[.int .i64 (vs.getD e.n.toNat zeroR).k,.int .i64 (vs.getD e.n.toNat zeroR).n,.string (vs.getD e.n.toNat zeroR).s])∧Below w.heap.size w w':=by
 obtain⟨a',c',b',o',rfl,hl',hc',ha'⟩:=hv.pick;unfold maxLen at hc';have q1:w.cell? ⟨E,1,none⟩=some (.int .i64 e.n):=by simp[World.cell?,hE]
 have hElt:E<w.heap.size:=bl8 _ _ q1;clear hv hE;by_cases hlt:e.n.toNat<vs.length
 ·obtain⟨rfl,hblt,hL⟩:=ha' _ hlt;obtain⟨N,hN⟩:∃N:Nat,e.n=N:=⟨e.n.toNat,by omega⟩;have hNt:e.n.toNat=N:=by omega
  rw[hNt]at hlt⊢;obtain⟨x,hx,c0,c1,c2,hbr⟩:=hL.at hblt (Below.refl _ _) hlt;rw[List.getD_eq_getElem?_getD,hx];rw[hN]at q1;have hlt2:(N:Int)<vs.length:=by omega
  simp only[Option.getD_some];clear ha' hL hx;go_enter Tryz.func128,Tryz.ntmps128;go_wp2;go_returns;exact⟨rfl,bex⟩
 ·rw[List.getD_eq_getElem?_getD,List.getElem?_eq_none (by omega)];have hge:(vs.length:Int)≤e.n:=by omega
  clear ha';go_enter Tryz.func128,Tryz.ntmps128;go_wp2;go_returns;exact⟨rfl,bex⟩
theorem clo2_any {e:E7}{u v:Value}{w:World}{E:Nat}{t:TypeId}{fr:Nat×Nat}(hE:w.heap[E]?=some (.cells #[.int .i64 e.k,.int .i64 e.n,.int .i64 e.v.k,.int .i64 e.v.n,.string e.v.s,.string e.p,u] t fr)):Calls Tryz.prog 129 #[v,.pointer (some ⟨E,0,none⟩)] w fun x w'=>x=.returned (.agg #[.int .i64 e.v.k,.int .i64 e.v.n,.string e.v.s])∧Below w.heap.size w w':=by
 have q2:w.cell? ⟨E,2,none⟩=some (.int .i64 e.v.k):=by simp[World.cell?,hE]
 have q3:w.cell? ⟨E,3,none⟩=some (.int .i64 e.v.n):=by simp[World.cell?,hE]
 have q4:w.cell? ⟨E,4,none⟩=some (.string e.v.s):=by simp[World.cell?,hE]
 have hElt:E<w.heap.size:=bl8 _ _ q2;clear hE;go_enter Tryz.func129,Tryz.ntmps129;go_wp2;go_returns;exact⟨rfl,bex⟩
def Ans (fn:Nat)(cap:Array Value)(v:Value)(w:World)(r:V3):Prop:=∀W,Below w.heap.size w W→Calls Tryz.prog fn (#[v]++cap) W fun q w'=>q=.returned (.agg #[.int .i64 r.k,.int .i64 r.n,.string r.s])∧Below W.heap.size W w'
theorem clo4_any {a':Option Addr}{n' c':Nat}{r:V3}{w:World}{K kb c:Nat}{fn:Nat}{cap:Array Value}(hc:c≤maxLen)(qK:w.cell? ⟨K,0,none⟩=some (.slice (some ⟨kb,0,none⟩) 1 c))(q0:w.cell? ⟨kb,0,none⟩=some (.func (.func fn) #[] cap))(hN:Ent fn)(h0:Ans fn cap (.slice a' n' c') w r):Calls Tryz.prog 132 #[.slice a' n' c',.pointer (some ⟨K,0,none⟩)] w fun x w'=>x=.returned (.agg #[.int .i64 (notK r.k r.n),.int .i64 (notN r.k r.n),.string ⟨#[]⟩])∧Below w.heap.size w w':=by
 have hK:K<w.heap.size:=bl8 _ _ qK;have hkb:kb<w.heap.size:=bl8 _ _ q0;unfold maxLen at hc;unfold Ans at h0;go_enter Tryz.func132,Tryz.ntmps132;go_wp2_with fail;rw[hN,Oper.upon_enter];refine cM8 (h0 _ ?hb) ?_
 case hb=>exact bex
 rintro y w2 ⟨rfl,hb2⟩;have hz2:=hb2.size;simp at hz2;have bel2:Below w.heap.size w w2:=bex;have r0:w2.cell? ⟨w.heap.size,0,none⟩=some (.int .i64 0):=cL8 hb2 (by go_simp);have r1:w2.cell? ⟨w.heap.size,1,none⟩=some (.int .i64 0):=cL8 hb2 (by go_simp);have r2:w2.cell? ⟨w.heap.size,2,none⟩=some (.string ⟨#[]⟩):=cL8 hb2 (by go_simp);have f2:=(bc8 hb2).2;have hy2:w.heap.size<w2.heap.size:=by omega
 clear h0 hb2 hN qK q0;go_wp2_with fail;refine cM8 (implNot_any _ _ _ _) ?_;rintro y w3 ⟨rfl,hb3⟩;have hz3:=hb3.size;have bel3:Below w.heap.size w w3:=bex;have s0:w3.cell? ⟨w.heap.size,0,none⟩=some (.int .i64 0):=cL8 hb3 (by go_simp);have s1:w3.cell? ⟨w.heap.size,1,none⟩=some (.int .i64 0):=cL8 hb3 (by go_simp);have s2:w3.cell? ⟨w.heap.size,2,none⟩=some (.string ⟨#[]⟩):=cL8 hb3 (by go_simp);have f3:=(bc8 hb3).2;have hy3:w.heap.size<w3.heap.size:=by omega
 clear hb3 r0 r1 r2;go_wp2;refine bodyPost_ret (v:=.agg #[.int .i64 (notK r.k r.n),.int .i64 (notN r.k r.n),.string ⟨#[]⟩]) (by simp[results,Tryz.results132,go_sem, *]) rfl ⟨rfl,?_⟩;exact bex
theorem clo5_any {a':Option Addr}{n' c':Nat}{r:V3}{w:World}{K kb c:Nat}{fn:Nat}{cap:Array Value}(hc:c≤maxLen)(qK:w.cell? ⟨K,0,none⟩=some (.slice (some ⟨kb,0,none⟩) 1 c))(q0:w.cell? ⟨kb,0,none⟩=some (.func (.func fn) #[] cap))(hN:Ent fn)(h0:Ans fn cap (.slice a' n' c') w r):Calls Tryz.prog 134 #[.slice a' n' c',.pointer (some ⟨K,0,none⟩)] w fun x w'=>x=.returned (.agg #[.int .i64 2,.int .i64 (nulN r.k),.string ⟨#[]⟩])∧Below w.heap.size w w':=by
 have hK:K<w.heap.size:=bl8 _ _ qK;have hkb:kb<w.heap.size:=bl8 _ _ q0;unfold maxLen at hc;unfold Ans at h0;go_enter Tryz.func134,Tryz.ntmps134;go_wp2_with fail;rw[hN,Oper.upon_enter];refine cM8 (h0 _ ?hb) ?_
 case hb=>exact bex
 rintro y w2 ⟨rfl,hb2⟩;have hz2:=hb2.size;simp at hz2;have bel2:Below w.heap.size w w2:=bex;have r0:w2.cell? ⟨w.heap.size,0,none⟩=some (.int .i64 0):=cL8 hb2 (by go_simp);have r1:w2.cell? ⟨w.heap.size,1,none⟩=some (.int .i64 0):=cL8 hb2 (by go_simp);have r2:w2.cell? ⟨w.heap.size,2,none⟩=some (.string ⟨#[]⟩):=cL8 hb2 (by go_simp);have f2:=(bc8 hb2).2;have hy2:w.heap.size<w2.heap.size:=by omega
 clear h0 hb2 hN qK q0;go_wp2_with fail;refine cM8 (implNul_any _ _ _ _) ?_;rintro y w3 ⟨rfl,hb3⟩;have hz3:=hb3.size;have bel3:Below w.heap.size w w3:=bex;have s0:w3.cell? ⟨w.heap.size,0,none⟩=some (.int .i64 0):=cL8 hb3 (by go_simp);have s1:w3.cell? ⟨w.heap.size,1,none⟩=some (.int .i64 0):=cL8 hb3 (by go_simp);have s2:w3.cell? ⟨w.heap.size,2,none⟩=some (.string ⟨#[]⟩):=cL8 hb3 (by go_simp);have f3:=(bc8 hb3).2;have hy3:w.heap.size<w3.heap.size:=by omega
 clear hb3 r0 r1 r2;go_wp2;refine bodyPost_ret (v:=.agg #[.int .i64 2,.int .i64 (nulN r.k),.string ⟨#[]⟩]) (by simp[results,Tryz.results134,go_sem, *]) rfl ⟨rfl,?_⟩;exact bex
theorem clo3_any {m:Int}{p:ByteArray}{a':Option Addr}{n' c':Nat}{rx rz r:V3}{w:World}{E K kb c:Nat}{fn fn':Nat}{cap cap':Array Value}(hc:c≤maxLen)(qm:w.cell? ⟨0,0,none⟩=some (.int .i64 m))(qE:w.cell? ⟨E,5,none⟩=some (.string p))(qK:w.cell? ⟨K,0,none⟩=some (.slice (some ⟨kb,0,none⟩) 2 c))(q0:w.cell? ⟨kb,0,none⟩=some (.func (.func fn) #[] cap))(q1:w.cell? ⟨kb,1,none⟩=some (.func (.func fn') #[] cap'))(hN:Ent fn)(hN':Ent fn')(h0:Ans fn cap (.slice a' n' c') w rx)(h1:Ans fn' cap' (.slice a' n' c') w rz)(hB:RB m p rx rz r):Calls Tryz.prog 130 #[.slice a' n' c',.pointer (some ⟨E,0,none⟩),.pointer (some ⟨K,0,none⟩)] w fun x w'=>x=.returned (.agg #[.int .i64 r.k,.int .i64 r.n,.string r.s])∧Below w.heap.size w w':=by
 have hE:E<w.heap.size:=bl8 _ _ qE;have hK:K<w.heap.size:=bl8 _ _ qK;have hkb:kb<w.heap.size:=bl8 _ _ q0;have h00:0<w.heap.size:=bl8 _ _ qm;unfold maxLen at hc;unfold Ans at h0 h1;unfold Ent at hN hN';obtain⟨-,hI,-⟩:=hB;go_enter Tryz.func130,Tryz.ntmps130;go_wp2_with fail;go_region_held3 (fun w'=>w'.cell? ⟨E,5,none⟩=some (.string p)∧w'.cell? ⟨K,0,none⟩=some (.slice (some ⟨kb,0,none⟩) 2 c)∧w'.cell? ⟨kb,0,none⟩=some (.func (.func fn) #[] cap)∧w'.cell? ⟨kb,1,none⟩=some (.func (.func fn') #[] cap')) (refine⟨?_,?_,?_,?_⟩<;>first|(go_simp;done)|(exact cL8 (by assumption) (by go_simp))) (first|(go_at_call 131;refine cM8 (hI _ (by go_simp)) ?_;rintro y w3 ⟨rfl,hb3⟩;have hz3:=hb3.size;(try simp at hz3);have qm3:w3.cell? ⟨0,0,none⟩=some (.int .i64 m):=cL8 hb3 (by go_simp);have qa3:w3.cell? ⟨w.heap.size,0,none⟩=some (.int .i64 0):=cL8 hb3 (by go_simp);have qb3:w3.cell? ⟨w.heap.size,1,none⟩=some (.int .i64 0):=cL8 hb3 (by go_simp);have qc3:w3.cell? ⟨w.heap.size,2,none⟩=some (.string ⟨#[]⟩):=cL8 hb3 (by go_simp);have qf3:=(bc8 hb3).2;have hy3:w.heap.size<w3.heap.size:=(by omega))|((try rw[Oper.upon_enter]);(first|(with_reducible refine cM8 (h0 _ ?hb) ?_)|(with_reducible refine cM8 (h1 _ ?hb) ?_));(case hb=>exact bex);rintro y w1 ⟨rfl,hb1⟩;have hz1:=hb1.size;(try simp at hz1);have qm1:w1.cell? ⟨0,0,none⟩=some (.int .i64 m):=cL8 hb1 (by go_simp);have qa1:w1.cell? ⟨w.heap.size,0,none⟩=some (.int .i64 0):=cL8 hb1 (by go_simp);have qb1:w1.cell? ⟨w.heap.size,1,none⟩=some (.int .i64 0):=cL8 hb1 (by go_simp);have qc1:w1.cell? ⟨w.heap.size,2,none⟩=some (.string ⟨#[]⟩):=cL8 hb1 (by go_simp);have qf1:=(bc8 hb1).2;have hy1:w.heap.size<w1.heap.size:=(by omega)))
 clear h0 h1 hI hN hN';go_wp2;refine bodyPost_ret (v:=.agg #[.int .i64 r.k,.int .i64 r.n,.string r.s]) (by simp[results,Tryz.results130,go_sem, *]) rfl ⟨rfl,?_⟩;exact bex
theorem lt_of_blk {w:World}{b:Nat}{x:Obj}(h:w.heap[b]?=some x):b<w.heap.size:=by
 rcases Nat.lt_or_ge b w.heap.size with h1|h1
 ·exact h1
 ·rw[Array.getElem?_eq_none h1]at h;cases h
section
variable {m:Int} {D:Nat→Prop} {w:World} {e:E7} {f E K kb c:Nat} {u:Value} {t:TypeId} {fr:Nat×Nat} {cs:List Value}
theorem ans_of {fn:Nat}{cap:Array Value}{x:E7}{W:World}{v:Value}{vs:List V3}{r:V3}(hD:∀b,D b→b<w.heap.size)(h:∀ (W:World) (v:Value) (vs:List V3) (r:V3),(∀b,D b→W.heap[b]?=w.heap[b]?)→W.cell? ⟨0,0,none⟩=some (.int .i64 m)→RowIs W v vs→Res m f x vs r→
   Calls Tryz.prog fn (#[v]++cap) W fun q w'=>q=.returned (.agg #[.int .i64 r.k,.int .i64 r.n,.string r.s])∧Below W.heap.size W w')
  (hW:∀b,D b→W.heap[b]?=w.heap[b]?) (hm:W.cell? ⟨0,0,none⟩=some (.int .i64 m)) (hv:RowIs W v vs) (hr:Res m f x vs r):Ans fn cap v W r:=fun W' hb=>by
 refine h W' v vs r (fun b hb'=>?_) ((hb.cell (p:=⟨0,0,none⟩) (bl8 _ _ hm)).trans hm) (hv.below hb) hr;have h1:=hW b hb';rw[Array.getElem?_eq_getElem (hD b hb')]at h1;exact(hb.block b (lt_of_blk h1)).trans (hW b hb')
theorem row_shape {w:World}{v:Value}{vs:List V3}(hv:RowIs w v vs):∃a c,v=.slice a vs.length c:=by
 obtain⟨a',c',b',o',h,_⟩:=hv.pick;exact⟨a',c',h⟩
theorem rk_0 (hE:w.heap[E]?=some (.cells #[.int .i64 e.k,.int .i64 e.n,.int .i64 e.v.k,.int .i64 e.v.n,.string e.v.s,.string e.p,u] t fr))(hDE:D E)(h0:e.k=0):Rk m D w (.func (.func 128) #[] #[.pointer (some ⟨E,0,none⟩)]) (f+1) e:=by
 refine⟨_,_,rfl,ent1,fun W v vs r hW hm hv hr=>?_⟩;rcases hr with⟨_,hn,rfl⟩|⟨h,_⟩|⟨h,_⟩|⟨h,_⟩|⟨h,_⟩
 ·exact clo1_any ((hW E hDE).trans hE) hv hn
 all_goals(exfalso;omega)
theorem rk_1 (hE:w.heap[E]?=some (.cells #[.int .i64 e.k,.int .i64 e.n,.int .i64 e.v.k,.int .i64 e.v.n,.string e.v.s,.string e.p,u] t fr))(hDE:D E)(h0:e.k=1):Rk m D w (.func (.func 129) #[] #[.pointer (some ⟨E,0,none⟩)]) (f+1) e:=by
 refine⟨_,_,rfl,ent2,fun W v vs r hW hm hv hr=>?_⟩;rcases hr with⟨h,_⟩|⟨h,rfl⟩|⟨h,_⟩|⟨h,_⟩|⟨h,_⟩
 ·exfalso;omega
 ·exact clo2_any ((hW E hDE).trans hE)
 all_goals(exfalso;omega)
structure KidsRk (m:Int)(D:Nat→Prop)(w:World)(K kb c f:Nat)(es:List E7)(cs:List Value):Prop where
 hc:c≤maxLen
 lt:∀b,D b→b<w.heap.size
 dK:D K
 db:es≠ []→D kb
 qK:w.cell? ⟨K,0,none⟩=some (.slice (some ⟨kb,0,none⟩) es.length c)
 len:cs.length=es.length
 at':∀i x y,es[i]?=some x→cs[i]?=some y→w.cell? ⟨kb,i,none⟩=some y∧Rk m D w y f x
theorem KidsRk.pick {es:List E7}(h:KidsRk m D w K kb c f es cs){i:Nat}{x:E7}(hx:es[i]?=some x){W:World}{v:Value}{vs:List V3}{r:V3}(hW:∀b,D b→W.heap[b]?=w.heap[b]?) (hm:W.cell? ⟨0,0,none⟩=some (.int .i64 m)) (hv:RowIs W v vs) (hr:Res m f x vs r):∃fn cap,W.cell? ⟨K,0,none⟩=some (.slice (some ⟨kb,0,none⟩) es.length c)∧W.cell? ⟨kb,i,none⟩=some (.func (.func fn) #[] cap)∧Ent fn∧Ans fn cap v W r:=by
 have hi:i<es.length:=(gE1 hx).1;obtain⟨hq,fn,cap,hy,hE,hC⟩:=h.at' i x (cs[i]'(by rw[h.len];exact hi)) hx (by simp);rw[hy]at hq;have hne:es≠ []:=by rintro rfl;simp at hi
 exact⟨fn,cap,(cb8 (hW K h.dK)).trans h.qK,(cb8 (hW kb (h.db hne))).trans hq,hE,ans_of h.lt hC hW hm hv hr⟩
theorem rk_2 (hE:w.heap[E]?=some (.cells #[.int .i64 e.k,.int .i64 e.n,.int .i64 e.v.k,.int .i64 e.v.n,.string e.v.s,.string e.p,u] t fr))(hDE:D E)(hK:KidsRk m D w K kb c f e.ks cs)(h0:e.k=2):Rk m D w (.func (.func 130) #[] #[.pointer (some ⟨E,0,none⟩),.pointer (some ⟨K,0,none⟩)]) (f+1) e:=by
 refine⟨_,_,rfl,ent3,fun W v vs r hW hm hv hr=>?_⟩;rcases hr with⟨h,_⟩|⟨h,_⟩|⟨_,k0,k1,r0,r1,hk,hr0,hr1,hB⟩|⟨h,_⟩|⟨h,_⟩
 ·exfalso;omega
 ·exfalso;omega
 ·obtain⟨fn,cap,qK,q0,hN,hA⟩:=hK.pick (i:=0) (x:=k0) (by rw[hk];rfl) hW hm hv hr0;obtain⟨fn',cap',_,q1,hN',hA'⟩:=hK.pick (i:=1) (x:=k1) (by rw[hk];rfl) hW hm hv hr1;obtain⟨a',c',rfl⟩:=row_shape hv;rw[hk]at qK;exact clo3_any (E:=E) (K:=K) hK.hc hm (by simp[World.cell?,hW E hDE,hE]) qK q0 q1 hN hN' hA hA' hB
 all_goals(exfalso;omega)
theorem rk_3 (hK:KidsRk m D w K kb c f e.ks cs)(h0:e.k=3):Rk m D w (.func (.func 132) #[] #[.pointer (some ⟨K,0,none⟩)]) (f+1) e:=by
 refine⟨_,_,rfl,ent4,fun W v vs r hW hm hv hr=>?_⟩;rcases hr with⟨h,_⟩|⟨h,_⟩|⟨h,_⟩|⟨_,k0,r0,hk,hr0,rfl⟩|⟨h,_⟩
 ·exfalso;omega
 ·exfalso;omega
 ·exfalso;omega
 ·obtain⟨fn,cap,qK,q0,hN,hA⟩:=hK.pick (i:=0) (x:=k0) (by rw[hk];rfl) hW hm hv hr0;obtain⟨a',c',rfl⟩:=row_shape hv;rw[hk]at qK;exact clo4_any (K:=K) hK.hc qK q0 hN hA
 ·exfalso;omega
theorem rk_4 (hK:KidsRk m D w K kb c f e.ks cs)(h0:e.k=4):Rk m D w (.func (.func 134) #[] #[.pointer (some ⟨K,0,none⟩)]) (f+1) e:=by
 refine⟨_,_,rfl,ent5,fun W v vs r hW hm hv hr=>?_⟩;rcases hr with⟨h,_⟩|⟨h,_⟩|⟨h,_⟩|⟨h,_⟩|⟨_,k0,r0,hk,hr0,rfl⟩
 ·exfalso;omega
 ·exfalso;omega
 ·exfalso;omega
 ·exfalso;omega
 ·obtain⟨fn,cap,qK,q0,hN,hA⟩:=hK.pick (i:=0) (x:=k0) (by rw[hk];rfl) hW hm hv hr0;obtain⟨a',c',rfl⟩:=row_shape hv;rw[hk]at qK;exact clo5_any (K:=K) hK.hc qK q0 hN hA
end
end
section
open Go.RowKit Go.Deep Go.ChangeShapes Go.WideShapes
theorem implCols_any (D:Nat)(e:E7)(u:Value)(F:List Nat)(w:World)(he:e.wf)(hk:KidsIs w (D+1) u e.ks F)(hd:F.Nodup∧∀b∈F,Fr w b)(hn:wtE e≤1048576):Calls Tryz.prog 106 #[(.agg #[.int .i64 e.k,.int .i64 e.n,.int .i64 e.v.k,.int .i64 e.v.n,.string e.v.s,.string e.p,u])] w fun x w'=>(∃v g,x=.returned v∧IntsF w' v (colsL (D+1) e) g∧Own w' w.heap.size g)∧Below w.heap.size w w':=by
 obtain⟨i0,hi,hz0,hz1',hz2'⟩:=info_parts Tryz.infoInt;obtain⟨a,c,rfl,hl,hc⟩:=hk.shape;have hde:=hk.re.de;obtain⟨L,hL⟩:∃L,Hid (colsL (D+1) e=L):=⟨_,rfl⟩;rw[hL.out];go_enter Tryz.func106,Tryz.ntmps106;go_wp2_with fail;have hb0:Below w.heap.size w ((w.alloc (.cells #[.int .i64 e.k,.int .i64 e.n,.int .i64 e.v.k,.int .i64 e.v.n,.string e.v.s,.string e.p,.slice a e.ks.length c] 39)).alloc (.cells #[] 3)):=bex;refine cM8 (copyNodes_any D (ColIn (colsL (D+1) e)) colIn_kid e (.slice a e.ks.length c) F _ he ⟨D+1,hde,fun x h=>h⟩ (hk.below hb0) (.inl ⟨hd.1,fun b hb=>(hd.2 b hb).keep (hb0.block b (hk.lt b hb))⟩) (by omega)) ?_;rintro x w1 ⟨⟨v1,w0,rfl,hw0,ns,hang,hown,h0,hQ,hdis,hlen⟩,hb1⟩;have hz1:=hb1.size;simp only[World.size_alloc]at hz1 hw0;have hQat:=hQ.at';have hmem:∀x,x∈L↔x∈colN ns:=by
  intro x;rw[←hL.out];constructor
  ·exact fun hx=>hQ.cols h0 hde hx
  ·intro hx;obtain⟨y,hy,hy0,rfl⟩:=mem_colN.1 hx;obtain⟨j,hj,rfl⟩:=List.mem_iff_getElem.1 hy;obtain⟨⟨_,⟨d',hd',hin⟩,_⟩,_⟩:=hQ.at' j ns[j] (by simp);cases d' with
   |zero=>exact hd'.elim
   |succ d'=>exact hin _ (mem_colsL.2 (.inl ⟨hy0,rfl⟩))
 have hasc:L.Pairwise (· < ·):=by rw[←hL.out];exact asc_colsL _ _
 have HS:Hid (Lib.compact ((colN ns).mergeSort fun x y=>decide (x≤y))=L):=sortC (colN ns) L hasc hmem;obtain⟨g,cap,rfl,_,hn0,hcap,hcm,hgl,hgN,_⟩:=pts_read hown h0;have hptr:∀k x,ns[k]?=some x→w1.cell? ⟨g,k,none⟩=some (.pointer (some ⟨x.b,x.o,none⟩)):=by
  intro k x hx;obtain⟨g',cap',hv',_,_,_,_,_,_,hp⟩:=pts_read hown hx;injection hv' with e1;injection e1 with e1;injection e1 with e1;subst e1;exact hp
 have hy0:w1.ownsRow (w.heap.size+1) 3 1 (.slice (some ⟨w.heap.size+1,0,none⟩) 0 0) 0 []:=by
  refine ownsE_keep (w:=(w.alloc (.cells #[.int .i64 e.k,.int .i64 e.n,.int .i64 e.v.k,.int .i64 e.v.n,.string e.v.s,.string e.p,.slice a e.ks.length c] 39)).alloc (.cells #[] 3)) (ints_none (by simp) (Nat.le_refl _)) fun b hb=>?_;simp[Value.ownBlock]at hb;subst hb;exact hb1.block _ (by simp)
 have bel1:Below w.heap.size w w1:=bex;have hzw:w.heap.size+1+1≤w1.heap.size:=by omega
 unfold maxLen at hcm;clear hb1 hQ hown h0 hdis hk hmem hasc hd hb0;go_wp2;go_loopw [3,10] (fun y i wr=> ∃ (k yb yc:Nat),k≤ns.length∧i=.int .i64 k∧y=.slice (some ⟨yb,0,none⟩) (colN (ns.take k)).length yc∧wr.ownsRow (w.heap.size+1) 3 1 (.slice (some ⟨yb,0,none⟩) (colN (ns.take k)).length yc) (colN (ns.take k)).length (ints (colN (ns.take k)))∧(yb=w.heap.size+1∨w1.heap.size≤yb)∧(∀b,b<w1.heap.size→b≠w.heap.size+1→wr.heap[b]?=w1.heap[b]?)∧w1.heap.size≤wr.heap.size∧Below w.heap.size w wr) (fun _ i _=>ns.length - (intOf i).toNat)
 case atStart=>exact⟨0,w.heap.size+1,0,Nat.zero_le _,rfl,by simp[colN],by simpa [colN,ints]using hy0,.inl rfl,fun b _ _=>rfl,Nat.le_refl _,bel1⟩
 case round=>
  obtain⟨k,yb,yc,hkl,rfl,rfl,hO,hyb,hblk,hzr,hb⟩:=hrel;by_cases hlt:k<ns.length
  ·obtain⟨x,hx⟩:∃x,ns[k]?=some x:=⟨ns[k],by simp[hlt]⟩;obtain⟨⟨_,_,xN,xl,_,_⟩,⟨c0,c1,_,_,_,_⟩,_⟩:=hQat k x hx;have p1:=(cb8 (o:=k) (hblk g hgl (by omega))).trans (hptr k x hx);have d0:=(cb8 (o:=x.o) (hblk x.b xl (by omega))).trans c0;have d1:=(cb8 (o:=x.o+1) (hblk x.b xl (by omega))).trans c1;have HT:=colN_take hx;have hcl:=colN_len (ns.take k);have hcl2:(ns.take k).length≤k:=by simp;omega
   have hol:=ownsE_lt hO;by_cases h0:x.e.k=0
   ·rw[if_pos h0]at HT;have HT:Hid (colN (ns.take (k+1))=colN (ns.take k)++ [x.e.n]):=HT;rw[h0]at d0;have HB:Hid (∀b,b<w1.heap.size→b≠w.heap.size+1→wr.heap[b]?=w1.heap[b]?):=hblk;generalize colN (ns.take k)=zs at*;have hO3:(wr.alloc (.cells #[.int .i64 x.e.n] 3)).ownsRow (w.heap.size+1) 3 1 (.slice (some ⟨yb,0,none⟩) zs.length yc) zs.length (ints zs):=ownsE_keep hO fun b hb=>bA8 _ _ _ (hol b hb).2;have hnew:∀j' u,[Value.int .i64 x.e.n][j']?=some u→(wr.alloc (.cells #[.int .i64 x.e.n] 3)).cell? ((⟨wr.heap.size,0,none⟩:Addr).add j')=some u:=by
     intro j' u hu
     match j',hu with
     |0,hu=>simp at hu;subst hu;go_simp
    have hybl:yb<wr.heap.size:=(hol yb rfl).2;clear hO hblk hptr hQat hx c0 c1 h0;go_wp2_with(at_builtin;refine wpList_append_own_at _ rfl _ _ 98 rfl (w.heap.size+1) 3 i0 _ 1 8 Tryz.underlying98 hi hz0 hz1' hz2' rfl (by decide) (.slice (some ⟨yb,0,none⟩) zs.length yc) zs.length (ints zs) rfl hO3 ⟨wr.heap.size,0,none⟩ 1 1 [.int .i64 x.e.n] rfl rfl hnew (by simp[Value.oneCell']) ?c3 ?c4 ?c5 ?_)
    case c3=>unfold maxLen;omega
    case c4=>omega
    case c5=>simp;omega
    intro v5 w5 hown5 hgr5 _ hat5;have hsz5:=hgr5.size;simp at hsz5;have hown6:w5.ownsRow (w.heap.size+1) 3 1 v5 (zs++ [x.e.n]).length (ints (zs++ [x.e.n])):=by
     rw[List.length_append]
     simpa [ints]using hown5
    obtain⟨b5,c5,hv5⟩:∃b5 c5,v5=.slice (some ⟨b5,0,none⟩) (zs++ [x.e.n]).length c5:=by
     rcases hown6.2 with⟨_,h⟩|⟨b5,c5,_,hv,_⟩
     ·simp at h
     ·exact⟨b5,c5,hv⟩
    subst hv5;have hyb5:b5=w.heap.size+1∨w1.heap.size≤b5:=by
     rcases hat5 with h|h
     ·simp[Value.ownBlock]at h;rw[h];exact hyb
     ·simp[Value.ownBlock]at h;omega
    have hblk5:∀b,b<w1.heap.size→b≠w.heap.size+1→w5.heap[b]?=w1.heap[b]?:=by
     intro b hb hbg;rw[←HB.out b hb hbg,hgr5.block b (by simp;omega) (by simp[Value.ownBlock];omega)];exact bA8 _ _ _ (by omega)
    have hbw5:Below w.heap.size w w5:=(hb.alloc (by omega) _).grown hgr5 (by simp;omega) (fun q hq=>by simp[Value.ownBlock]at hq;omega);rw[←HT.out]at hown6;have HL5:Hid ((zs++ [x.e.n]).length=(colN (ns.take (k+1))).length):=by show _=_;rw[HT.out]
    clear hown5 hgr5 hat5 hO3 hnew hol;go_wp2;exact⟨⟨k+1,b5,c5,hlt,by simp,by first|(rw[←HL5.out];done)|(rw[←HL5.out];simp),hown6,hyb5,hblk5,by omega,hbw5⟩,by simp[intOf];omega⟩
   ·rw[if_neg h0]at HT;have HT:Hid (colN (ns.take (k+1))=colN (ns.take k)):=HT;have hkb:(x.e.k==0)=false:=by simpa using h0
    have hkd:decide (x.e.k=0)=false:=by simpa using h0
    have HB:Hid (∀b,b<w1.heap.size→b≠w.heap.size+1→wr.heap[b]?=w1.heap[b]?):=hblk;clear hblk hptr hQat hx c0 c1 h0;go_wp2;exact⟨⟨k+1,yb,yc,hlt,by simp,by rw[HT.out],by rw[HT.out];exact hO,hyb,HB.out,hzr,hb⟩,by simp[intOf];omega⟩
  ·obtain rfl:k=ns.length:=by omega
   rw[List.take_length]at hO;simp only[List.take_length];obtain⟨hH,hc1,hc2,hN',hyl,hfz⟩:=own_holds hO;have hcl:=colN_len ns;have hS3:=fun w2 w3 n q os=>sorted_ints (w2:=w2) (w3:=w3) (n:=n) (q:=q) (os:=os) (L:=L) hH hc1 hc2 hN' hyl hfz;have hms:((colN ns).mergeSort fun x y=>decide (x≤y)).length=(colN ns).length:=List.length_mergeSort _;have hCM:=fun w2=>Tryz.slices_Compact_int yb 0 yc ((colN ns).mergeSort fun x y=>decide (x≤y)) w2;have hHM:∀n os,Sort.Holds (Value.int .i64) (Sort.grow (Sort.putRow (Value.int .i64) (Sort.ahead wr n) yb 0 ((colN ns).mergeSort fun x y=>decide (x≤y)).toArray) os) yb 0 ((colN ns).mergeSort fun x y=>decide (x≤y)).toArray:=fun n os=> Sort.holds_grow _ _ _ _ _ _ (by simpa using hyl) (Sort.holds_putRow _ _ _ _ (colN ns).toArray _ (Sort.holds_ahead _ _ _ _ _ _ hH) (by simp));clear hblk hptr hQat hO;go_wp2_with fail;refine cM8 (Tryz.slices_Sort_int yb 0 yc (colN ns) wr hH hyl (by omega)) ?_;rintro q w2 ⟨rfl,n2,os2,h2⟩;have hH2:=hHM n2 os2;rw[←h2]at hH2;have hC2:=hCM w2 hH2 (by rw[hms];omega) (by rw[hms];exact hc1);rw[hms]at hC2;have HS3:=hS3 w2;have H2:Hid (w2=Sort.grow (Sort.putRow (Value.int .i64) (Sort.ahead wr n2) yb 0 ((colN ns).mergeSort fun x y=>decide (x≤y)).toArray) os2):=h2;have hl2:(Lib.compact ((colN ns).mergeSort fun x y=>decide (x≤y))).length=L.length:=by rw[HS.out]
   clear hCM hHM hS3 hH hH2 h2;go_wp2_with fail;refine cM8 hC2 ?_;rintro q w3 ⟨rfl,q3,h3⟩;obtain⟨⟨gg,hI3,hO3⟩,hb3⟩:=HS3 w3 n2 q3 os2 H2.out h3 HS.out;rw[hl2];have hbE:Below w.heap.size w w3:=hb.trans (hb3.mono (by omega));clear hC2 HS3 h3;go_wp2;refine bodyPost_ret (v:=.slice (some ⟨yb,0,none⟩) L.length yc) (by simp[results,Tryz.results106,go_sem]) rfl ⟨⟨_,gg,rfl,hI3,⟨hO3.1,fun b hb'=>⟨by have:=(hO3.2 b hb').1;omega,(hO3.2 b hb').2⟩⟩⟩,hbE⟩
end
section
open Go.RowKit
theorem belowE_all {e:E7}{W:Int}{w:World}{D:Nat}{u:Value}{F:List Nat}(hk:KidsIs w D u e.ks F)(h:okE 13 e=true):bE8 e W=(colsL D e).all fun x=>decide (x<W):=by
 rw[bE8,h,Bool.true_and,Bool.eq_iff_iff,colsBelow_iff W 13 e w D u F hk h,List.all_eq_true];simp
theorem allI_step {l:List Int}{k:Nat}{x:Int}{q:Int→Bool}(h:l[k]?=some x):(l.drop k).all q=(q x && (l.drop (k+1)).all q):=by
 obtain⟨hk,rfl⟩:=gE1 h;rw[List.drop_eq_getElem_cons hk,List.all_cons]
theorem flat_each {G:List (List Nat)}(h:G.flatten.Nodup){k:Nat}{g:List Nat}(hg:G[k]?=some g):g.Nodup∧∀b∈g,b∈G.flatten:=by
 obtain⟨hk,rfl⟩:=gE1 hg;refine⟨?_,fun b hb=>List.mem_flatten.2 ⟨G[k],List.getElem_mem hk,hb⟩⟩;have e:G=G.take k++G[k]::G.drop (k+1):=by rw[←List.drop_eq_getElem_cons hk,List.take_append_drop]
 rw[e,List.flatten_append,List.flatten_cons]at h;exact(List.nodup_append.1 (List.nodup_append.1 h).2.1).1
theorem expsOver_any (v:Value)(es:List E7)(F:List Nat)(D:Nat)(W:Int)(w:World)(hk:KidsIs w D v es F)(hd:F.Nodup∧∀b∈F,Fr w b)(hn:wtEs es≤1048576):Calls Tryz.prog 82 #[.int .i64 W,v] w fun x w'=>x=.returned (.bool (es.all (bE8 · W)))∧Below w.heap.size w w':=by
 obtain⟨D,rfl⟩:=hk.succ;obtain⟨a,c,b,o,G,rfl,hl,hc,hG,_,ha⟩:=hk.pick;unfold maxLen at hc;clear hk;go_enter Tryz.func82,Tryz.ntmps82;go_wp2_with fail;go_loopw [11] (fun i wr=> ∃k:Nat,k≤es.length∧i=.int .i64 k∧es.all (bE8 · W)=(es.drop k).all (bE8 · W)∧Below w.heap.size w wr) (fun i _=>es.length - (intOf i).toNat)
 case atStart=>exact⟨0,Nat.zero_le _,rfl,by simp,bex⟩
 case round=>
  obtain⟨k,hk,rfl,heq,hb⟩:=hrel;have HE:Hid (es.all (bE8 · W)=(es.drop k).all (bE8 · W)):=heq;have hzb:=hb.size;clear heq;by_cases hlt:k<es.length
  ·obtain⟨rfl,hblt,hF,hL⟩:=ha k hlt;obtain⟨x,g,u,hx,hg,hxw,⟨c0,c1,c2,c3,c4,c5⟩,c6,hK,hbr⟩:=hL.at hG hblt hb hlt;obtain⟨ax,cx,rfl,_,_⟩:=hK.shape;obtain⟨D',rfl⟩:=hK.succ;have HS:Hid ((es.drop k).all (bE8 · W)=(bE8 x W && (es.drop (k+1)).all (bE8 · W))):=allB_step hx;have hxn:wtE x≤1048576:=by have:=wtE_mem (mg8 hx);omega
   have hkI:(k:Int)<es.length:=by omega
   have hdg:g.Nodup∧∀t∈g,Fr wr t:=by
    rw[hF]at hd;have h1:=flat_each (List.nodup_cons.1 hd.1).2 hg;refine⟨h1.1,fun t ht=>?_⟩;have h2:=hd.2 t (List.mem_cons_of_mem _ (h1.2 t ht));obtain⟨cc,tt,ll,h3⟩:=h2.1;exact h2.keep (hb.block t (lt_of_blk h3))
   have hO:=fun w2 (hb:Below wr.heap.size wr w2)=>implExpOk_any x _ g (D'+1) w2 hxw (hK.below hb);have hC:=fun w2 (hb:Below wr.heap.size wr w2)=>implCols_any D' x _ g w2 hxw (hK.below hb) ⟨hdg.1,fun t ht=>by
    have h2:=hdg.2 t ht;obtain⟨cc,tt,ll,h3⟩:=h2.1;exact h2.keep (hb.block t (lt_of_blk h3))⟩ hxn
   obtain⟨bo,HO⟩:∃b,Hid (okE 13 x=b):=⟨_,rfl⟩;rw[HO.out]at hO;clear ha hL hx hg hxw hdg hF hd;go_wp2_with fail;refine cM8 (hO _ bex) ?_;rintro y w1 ⟨rfl,hb1⟩;have bel1:Below wr.heap.size wr w1:=bex;have d0:w1.cell? ⟨wr.heap.size,0,none⟩=some (.int .i64 x.k):=cL8 hb1 (by go_simp);have d1:w1.cell? ⟨wr.heap.size,1,none⟩=some (.int .i64 x.n):=cL8 hb1 (by go_simp);have d2:w1.cell? ⟨wr.heap.size,2,none⟩=some (.int .i64 x.v.k):=cL8 hb1 (by go_simp);have d3:w1.cell? ⟨wr.heap.size,3,none⟩=some (.int .i64 x.v.n):=cL8 hb1 (by go_simp);have d4:w1.cell? ⟨wr.heap.size,4,none⟩=some (.string x.v.s):=cL8 hb1 (by go_simp);have d5:w1.cell? ⟨wr.heap.size,5,none⟩=some (.string x.p):=cL8 hb1 (by go_simp);have d6:w1.cell? ⟨wr.heap.size,6,none⟩=some (.slice ax x.ks.length cx):=cL8 hb1 (by go_simp);have belE:=hb.trans (bel1.mono hzb);clear hO hb1 c0 c1 c2 c3 c4 c5 c6;cases bo with
   |false=>
    have HF:Hid (es.all (bE8 · W)=false):=by show _=_;rw[HE.out,HS.out,belowE_no HO.out,Bool.false_and]
    clear hK hC;go_wp2;go_returns;exact⟨by rw[HF.out];rfl,belE⟩
   |true=>
    have HB:Hid (bE8 x W=(colsL (D'+1) x).all fun z=>decide (z<W)):=belowE_all hK HO.out;clear hK;have hlen:(colsL (D'+1) x).length≤1+wtE x:=colsL_len (D'+1) x;obtain⟨L,HL⟩:∃L,Hid (colsL (D'+1) x=L):=⟨_,rfl⟩;rw[HL.out]at hC hlen;go_wp2_with fail;refine cM8 (hC _ bel1) ?_;rintro y w2 ⟨⟨vi,gi,rfl,hI,_⟩,hb2⟩;have bel2:Below w.heap.size w w2:=belE.trans (hb2.mono belE.size);obtain⟨ay,cy,by',oy,rfl,hyl,hyc,_,hyc2⟩:=hI.pick;unfold maxLen at hyc;clear hC hb2 bel1 belE hb hI d0 d1 d2 d3 d4 d5 d6;go_wp2_with fail;go_loopw [21] (fun i wi=> ∃j:Nat,j≤L.length∧i=.int .i64 j∧(L.all fun z=>decide (z<W))=((L.drop j).all fun z=>decide (z<W))∧Below w2.heap.size w2 wi) (fun i _=>L.length - (intOf i).toNat)
    case atStart=>exact⟨0,Nat.zero_le _,rfl,by simp,Below.refl _ _⟩
    case round=>
     obtain⟨j,hj,rfl,hje,hbi⟩:=hrel;have HJ:Hid ((L.all fun z=>decide (z<W))=((L.drop j).all fun z=>decide (z<W))):=hje;have belI:=bel2.trans (hbi.mono bel2.size);clear hje;by_cases hjl:j<L.length
     ·obtain⟨rfl,hyb,_,hcell⟩:=hyc2 j hjl;obtain⟨z,hz⟩:∃z,L[j]?=some z:=⟨L[j],by simp⟩;have cz:=((bc8 hbi).1 _ _ hyb).trans (hcell j z hz);have HZ:Hid (((L.drop j).all fun z=>decide (z<W))=(decide (z<W) && ((L.drop (j+1)).all fun z=>decide (z<W)))):=allI_step hz;have hjI:(j:Int)<L.length:=by omega
      clear hyc2 hcell hz;by_cases hzW:z<W
      ·have hzW':¬z≥W:=by omega
       have HF:Hid ((L.all fun z=>decide (z<W))=((L.drop (j+1)).all fun z=>decide (z<W))):=by show _=_;rw[HJ.out,HZ.out,decide_eq_true hzW,Bool.true_and]
       go_wp2_with fail;exact⟨⟨j+1,hjl,by simp,HF.out,hbi⟩,by simp[intOf];omega⟩
      ·have hzW':z≥W:=by omega
       have HF:Hid (es.all (bE8 · W)=false):=by show _=_;rw[HE.out,HS.out,HB.out,HL.out,HJ.out,HZ.out,decide_eq_false hzW,Bool.false_and,Bool.false_and]
       go_wp2;go_returns;exact⟨by rw[HF.out];rfl,belI⟩
     ·obtain rfl:j=L.length:=by omega
      have HF:Hid (es.all (bE8 · W)=(es.drop (k+1)).all (bE8 · W)):=by show _=_;rw[HE.out,HS.out,HB.out,HL.out,HJ.out,List.drop_length,List.all_nil,Bool.true_and]
      clear hyc2;go_wp2_with fail;exact⟨⟨k+1,hlt,by simp,HF.out,belI⟩,by simp[intOf];omega⟩
  ·obtain rfl:k=es.length:=by omega
   have HF:Hid (es.all (bE8 · W)=true):=by show _=_;rw[HE.out,List.drop_length];rfl
   clear ha;go_wp2;go_returns;exact⟨by rw[HF.out];rfl,hb⟩
end
end Go.Proofs.YtflokiejcjjbiaaGreat
