/- Own texts, joined: contracts that the law's proof goes by. -/
import Derived.Test.YteekfcdllaceoaaGreatDoorGLAnswer4
import Derived.Test.YteekfcdllaceoaaGreatDoorGLAnswer1
import Derived.Handy
import Derived.Deep.RegionHeld3
set_option maxHeartbeats 16000000
set_option maxRecDepth 100000
set_option linter.unusedVariables false
set_option linter.unusedSimpArgs false
namespace Go.Proofs.YteekfcdllaceoaaGreatDoor
section
open Go.RowKit
def SzP (D d:Nat):Prop:=∀ (v:Value) (ps:List P12) (F:List Nat) (left:Int) (w:World),E2 w D d v ps F->0<=left->left<=1048576->
  Calls Tryz.prog 20 #[v,.int .i64 left] w fun e w'=>(∃z:Int,e=.returned (.int .i64 z)/\ -1<=z/\z<=left/\(0<=z->z+(ps.length+J8 ps)=left))/\Below w.heap.size w w'
theorem B0j {D d:Nat}(hS:SzP D d)(p:P12)(ue us u:Value)(g:List Nat)(left:Int)(w:World)(hw:p.wf)(hL:H3 w D (E2 w D d) p ue us u g)(h0:0<=left)(h1:left<=1048576):Calls Tryz.prog 5 #[(.agg #[.int .i64 p.k,.string p.s,.int .i64 p.e.k,.int .i64 p.e.n,.int .i64 p.e.v.k,.int .i64 p.e.v.n,.string p.e.v.s,.string p.e.p,ue,us,.int .i64 p.n,u]),.int .i64 left] w fun x w'=>(∃z:Int,x=.returned (.int .i64 z)/\ -1<=z/\z<=left/\(0<=z->z+wtP p=left))/\Below w.heap.size w w':=by
 obtain⟨_,hs,hwe,_⟩:=hw;rw[f9];unfold maxLen at hs;obtain⟨ae,ce,ak,ck,a,c,rfl,rfl,rfl,_,_,_,_,_,_⟩:=hL.shape;obtain⟨Fe,Fs,h',rfl,ke,kes,kp⟩:=hL;by_cases hbig:left -p.s.size<0
 ·go_enter Tryz.func5,Tryz.ntmps5;go_wp2_with fail;go_returns;exact⟨⟨-1,rfl,by omega,by omega,by omega⟩,bex⟩
 go_enter Tryz.func5,Tryz.ntmps5;go_wp2_with fail;refine cM8 (C1U p.e (.slice ae p.e.ks.length ce) Fe (left -p.s.size) _ hwe (ke.below ?hb) (by omega) (by omega)) ?_
 case hb=>exact bex
 rintro x w1 ⟨⟨z1,rfl,l1,g1,s1⟩,hb1⟩;have hz1:=hb1.size;simp only[World.size_alloc]at hz1;have c91:w1.cell? ⟨w.heap.size,9,none⟩=some (.slice ak p.es.length ck):=cl8 hb1;have B79:w1.cell? ⟨w.heap.size,11,none⟩=some (.slice a p.ks.length c):=cl8 hb1;by_cases hn1:z1<0
 ·go_wp2_with fail;go_returns;exact⟨⟨-1,rfl,by omega,by omega,by omega⟩,bex⟩
 have e1:=s1 (by omega);go_wp2_with fail;refine cM8 (A7q D (.slice ak p.es.length ck) p.es Fs z1 _ (kes.below ?hb) (by omega) (by omega)) ?_
 case hb=>exact bex
 rintro x w2 ⟨⟨z2,rfl,l2,g2,s2⟩,hb2⟩;have hz2:=hb2.size;have B3q:w2.cell? ⟨w.heap.size,11,none⟩=some (.slice a p.ks.length c):=cl8 hb2;by_cases hn2:z2<0
 ·go_wp2_with fail;go_returns;exact⟨⟨-1,rfl,by omega,by omega,by omega⟩,bex⟩
 have e2:=s2 (by omega);go_wp2_with fail;refine cM8 (hS (.slice a p.ks.length c) p.ks h' z2 _ (kp.below ?hb) (by omega) (by omega)) ?_
 case hb=>exact bex
 rintro x w3 ⟨⟨z3,rfl,l3,g3,s3⟩,hb3⟩;have hz3:=hb3.size;by_cases hn3:z3<0
 ·go_wp2_with fail;go_returns;exact⟨⟨-1,rfl,by omega,by omega,by omega⟩,bex⟩
 have e3:=s3 (by omega);go_wp2_with fail;go_returns;exact⟨⟨z3,rfl,by omega,by omega,by omega⟩,bex⟩
theorem B7A {D d:Nat}(hS:SzP D d):SzP D (d+1):=by
 intro v ps F left w hr h0 h1;obtain⟨a,c,b,o,G,rfl,hl,hc,hG,_,ha⟩:=hr.pick;unfold maxLen at hc;by_cases hbig:left -ps.length<0
 ·go_enter Tryz.func20,Tryz.ntmps20;go_wp2;go_returns;exact⟨⟨-1,rfl,by omega,by omega,by omega⟩,by go_grown⟩
 go_enter Tryz.func20,Tryz.ntmps20;go_wp2;go_loopw [1,5] (fun l i wr=> ∃k:Nat,k<=ps.length/\i=.int .i64 k/\l=.int .i64 (left -ps.length -J8 (ps.take k))/\0<=left -ps.length -J8 (ps.take k)/\Below w.heap.size w wr) (fun _ i _=>ps.length - (intOf i).toNat)
 case atStart=>exact⟨0,Nat.zero_le _,rfl,by simp[J8],by simp[J8];omega,by go_grown⟩
 case round=>
  obtain⟨k,hk,rfl,rfl,hp,hb⟩:=hrel;by_cases hlt:k<ps.length
  ·have hzb:=hb.size;obtain⟨rfl,hblt,_,hL⟩:=ha k hlt;obtain⟨x,g,ue,us,u,hx,hg,hxw,⟨c0,c1,c2,c3,c4,c5,c6,c7,c8,c9,c10,c11⟩,hLx,hbr⟩:=hL.at hG hblt hb hlt;have hT:Hid (J8 (ps.take (k+1))=J8 (ps.take k)+wtP x):=B19 hx;have hp1:left -ps.length -J8 (ps.take k)<=1048576:=by omega
   clear ha hL hx;go_wp2_with(go_at_call 5;refine(B0j hS _ _ _ _ _ _ _ hxw hLx hp hp1).mono ?_;rintro e w1 ⟨⟨z1,rfl,l1,g1,s1⟩,hb1⟩)
   ·go_returns;exact⟨⟨-1,rfl,by omega,by omega,by omega⟩,hb.trans (hb1.mono hb.size)⟩
   ·have h9:0<=z1:=by assumption
    have e1:=s1 h9;have hT:=hT.out;refine⟨⟨k+1,hlt,by simp,by congr 1;omega,by omega,hb.trans (hb1.mono hb.size)⟩,by simp[intOf];omega⟩
  ·go_wp2;go_returns;have hkk:k=ps.length:=by omega
   subst hkk;refine⟨⟨_,rfl,by omega,by omega,fun _=>?_⟩,hb⟩;rw[List.take_length];omega
theorem A8N (D:Nat):∀d,SzP D d
 |0=>fun _ _ _ _ _ h=>h.elim
 |d+1=>B7A (A8N D d)
def EqP (D d:Nat):Prop:=∀ (v u:Value) (ps:List P12) (F F':List Nat) (w:World),E2 w D d v ps F->E2 w D d u ps F'->
  Calls Tryz.prog 36 #[v,u] w fun e w'=>e=.returned (.bool true)/\Below w.heap.size w w'
theorem B2C {D d:Nat}(hS:EqP D d)(p:P12)(ue us u ue' us' u':Value)(g g':List Nat)(w:World)(hL:H3 w D (E2 w D d) p ue us u g)(hM:H3 w D (E2 w D d) p ue' us' u' g'):Calls Tryz.prog 12 #[(.agg #[.int .i64 p.k,.string p.s,.int .i64 p.e.k,.int .i64 p.e.n,.int .i64 p.e.v.k,.int .i64 p.e.v.n,.string p.e.v.s,.string p.e.p,ue,us,.int .i64 p.n,u]),(.agg #[.int .i64 p.k,.string p.s,.int .i64 p.e.k,.int .i64 p.e.n,.int .i64 p.e.v.k,.int .i64 p.e.v.n,.string p.e.v.s,.string p.e.p,ue',us',.int .i64 p.n,u'])] w fun x w'=>x=.returned (.bool true)/\Below w.heap.size w w':=by
 obtain⟨ae,ce,ak,ck,a,c,rfl,rfl,rfl,_,_,_,_,_,_⟩:=hL.shape;obtain⟨ae',ce',ak',ck',a',c',rfl,rfl,rfl,_,_,_,_,_,_⟩:=hM.shape;obtain⟨Fe,Fs,h,rfl,ke,kes,kp⟩:=hL;obtain⟨Fe',Fs',h',rfl,ke',kes',kp'⟩:=hM;go_enter Tryz.func12,Tryz.ntmps12;go_wp2_with fail;refine cM8 (B71 p.e (.slice ae p.e.ks.length ce) (.slice ae' p.e.ks.length ce') Fe Fe' _ (ke.below ?hb) (ke'.below ?hb2)) ?_
 case hb=>exact bex
 case hb2=>exact bex
 rintro x w1 ⟨rfl,hb1⟩;have hz1:=hb1.size;simp only[World.size_alloc]at hz1;have c91:w1.cell? ⟨w.heap.size,9,none⟩=some (.slice ak p.es.length ck):=cl8 hb1;have C4d:w1.cell? ⟨w.heap.size,10,none⟩=some (.int .i64 p.n):=cl8 hb1;have B79:w1.cell? ⟨w.heap.size,11,none⟩=some (.slice a p.ks.length c):=cl8 hb1;have d91:w1.cell? ⟨w.heap.size+1,9,none⟩=some (.slice ak' p.es.length ck'):=cl8 hb1;have C5D:w1.cell? ⟨w.heap.size+1,10,none⟩=some (.int .i64 p.n):=cl8 hb1;have C4q:w1.cell? ⟨w.heap.size+1,11,none⟩=some (.slice a' p.ks.length c'):=cl8 hb1;go_wp2_with fail;refine cM8 (A6d D (.slice ak p.es.length ck) (.slice ak' p.es.length ck') p.es Fs Fs' _ (kes.below ?hb) (kes'.below ?hb2)) ?_
 case hb=>exact bex
 case hb2=>exact bex
 rintro x w2 ⟨rfl,hb2⟩;have hz2:=hb2.size;have C45:w2.cell? ⟨w.heap.size,10,none⟩=some (.int .i64 p.n):=cl8 hb2;have B3q:w2.cell? ⟨w.heap.size,11,none⟩=some (.slice a p.ks.length c):=cl8 hb2;have C5U:w2.cell? ⟨w.heap.size+1,10,none⟩=some (.int .i64 p.n):=cl8 hb2;have C5Y:w2.cell? ⟨w.heap.size+1,11,none⟩=some (.slice a' p.ks.length c'):=cl8 hb2;go_wp2_with fail;refine cM8 (hS (.slice a p.ks.length c) (.slice a' p.ks.length c') p.ks h h' _ (kp.below ?hb) (kp'.below ?hb2)) ?_
 case hb=>exact bex
 case hb2=>exact bex
 rintro x w3 ⟨rfl,hb3⟩;have hz3:=hb3.size;go_wp2_with fail;go_returns;exact⟨rfl,bex⟩
theorem C2z {D d:Nat}(hS:EqP D d):EqP D (d+1):=by
 intro v u ps F F' w hr hu;obtain⟨a,c,b,o,G,rfl,hl,hc,hG,_,ha⟩:=hr.pick;obtain⟨a',c',b',o',G',rfl,hl',hc',hG',_,ha'⟩:=hu.pick;unfold maxLen at hc hc';clear hr hu;go_enter Tryz.func36,Tryz.ntmps36;go_wp2;go_loopw [5] (fun i wr=> ∃k:Nat,k<=ps.length/\i=.int .i64 k/\Below w.heap.size w wr) (fun i _=>ps.length - (intOf i).toNat)
 case atStart=>exact⟨0,Nat.zero_le _,rfl,by go_grown⟩
 case round=>
  obtain⟨k,hk,rfl,hb⟩:=hrel;by_cases hlt:k<ps.length
  ·have hzb:=hb.size;obtain⟨rfl,hblt,_,hL⟩:=ha k hlt;obtain⟨rfl,hblt',_,hL'⟩:=ha' k hlt;obtain⟨x,g,ue,us,u,hx,_,_,⟨c0,c1,c2,c3,c4,c5,c6,c7,c8,c9,c10,c11⟩,hLx,hbr⟩:=hL.at hG hblt hb hlt;obtain⟨x',g',ue',us',u',hx',_,_,⟨d0,d1,d2,d3,d4,d5,d6,d7,d8,d9,d10,d11⟩,hLx',A0k⟩:=hL'.at hG' hblt' hb hlt;obtain rfl:x=x':=by rw[hx]at hx';exact Option.some.inj hx'
   clear ha ha' hL hL' hx hx';go_wp2_with fail
   go_region_with (first|(go_at_call 12;refine(B2C hS x ue us u ue' us' u' _ _ _ (hLx.below bex) (hLx'.below bex)).mono ?_;rintro e w1 ⟨rfl,hb1⟩))
   all_goals(go_wp2;exact⟨⟨k+1,hlt,by simp,bex⟩,by simp[intOf];omega⟩)
  ·go_wp2;go_returns;exact⟨rfl,hb⟩
theorem B1N (D:Nat):∀d,EqP D d
 |0=>fun _ _ _ _ _ _ h=>h.elim
 |d+1=>C2z (B1N D d)
end
section
open Go.RowKit Go.Deep
theorem Tryz.infoPlan:(Tryz.prog.info? 45).map (fun i=>(i.zero,i.size,i.bytes))=some (some (.agg #[.int .i64 0,.string ⟨#[]⟩,.int .i64 0,.int .i64 0,.int .i64 0,.int .i64 0,.string ⟨#[]⟩,.string ⟨#[]⟩,.slice none 0 0,.slice none 0 0,.int .i64 0,.slice none 0 0]),12,168):=by kernel_rfl
theorem C1k {w:World}{B t n:Nat}{f:Nat->Value}(h:w.rowIs B t n f)(q:Nat)(v0 v1 v2 v3 v4 v5 v6 v7 v8 v9 v10 v11:Value):∃f',((((((((((((w.setCell ⟨B,q,none⟩ (v0)).setCell ⟨B,q+1,none⟩ (v1)).setCell ⟨B,q+2,none⟩ (v2)).setCell ⟨B,q+3,none⟩ (v3)).setCell ⟨B,q+4,none⟩ (v4)).setCell ⟨B,q+5,none⟩ (v5)).setCell ⟨B,q+6,none⟩ (v6)).setCell ⟨B,q+7,none⟩ (v7)).setCell ⟨B,q+8,none⟩ (v8)).setCell ⟨B,q+9,none⟩ (v9)).setCell ⟨B,q+10,none⟩ (v10)).setCell ⟨B,q+11,none⟩ (v11)).rowIs B t n f'/\(f' q=v0/\f' (q+1)=v1/\f' (q+2)=v2/\f' (q+3)=v3/\f' (q+4)=v4/\f' (q+5)=v5/\f' (q+6)=v6/\f' (q+7)=v7/\f' (q+8)=v8/\f' (q+9)=v9/\f' (q+10)=v10/\f' (q+11)=v11)/\∀x,x<q\/q+12<=x->f' x=f x:=by
 refine⟨_,(((((((((((h.set _ _).set _ _).set _ _).set _ _).set _ _).set _ _).set _ _).set _ _).set _ _).set _ _).set _ _).set _ _,?_,fun x hx=>?_⟩
 ·refine⟨?_,?_,?_,?_,?_,?_,?_,?_,?_,?_,?_,?_⟩<;>simp
 ·have e:∀j,j<12->x≠q+j:=by intro j hj;omega
  have e0:x≠q:=by omega
  simp only[if_neg e0,if_neg (e 1 (by omega)),if_neg (e 2 (by omega)),if_neg (e 3 (by omega)),if_neg (e 4 (by omega)),if_neg (e 5 (by omega)),if_neg (e 6 (by omega)),if_neg (e 7 (by omega)),if_neg (e 8 (by omega)),if_neg (e 9 (by omega)),if_neg (e 10 (by omega)),if_neg (e 11 (by omega))]
theorem C1O (w:World)(B q b:Nat)(v0 v1 v2 v3 v4 v5 v6 v7 v8 v9 v10 v11:Value)(hb:b≠B):((((((((((((w.setCell ⟨B,q,none⟩ (v0)).setCell ⟨B,q+1,none⟩ (v1)).setCell ⟨B,q+2,none⟩ (v2)).setCell ⟨B,q+3,none⟩ (v3)).setCell ⟨B,q+4,none⟩ (v4)).setCell ⟨B,q+5,none⟩ (v5)).setCell ⟨B,q+6,none⟩ (v6)).setCell ⟨B,q+7,none⟩ (v7)).setCell ⟨B,q+8,none⟩ (v8)).setCell ⟨B,q+9,none⟩ (v9)).setCell ⟨B,q+10,none⟩ (v10)).setCell ⟨B,q+11,none⟩ (v11)).heap[b]?=w.heap[b]?:=by
 repeat rw[bS8 _ _ _ _ hb]
def A8J (f:Nat->Value)(q:Nat)(p:P12)(ue us u:Value):Prop:=f (q)=.int .i64 p.k/\f (q+1)=.string p.s/\f (q+2)=.int .i64 p.e.k/\f (q+3)=.int .i64 p.e.n/\f (q+4)=.int .i64 p.e.v.k/\f (q+5)=.int .i64 p.e.v.n/\f (q+6)=.string p.e.v.s/\f (q+7)=.string p.e.p/\f (q+8)=ue/\f (q+9)=us/\f (q+10)=.int .i64 p.n/\f (q+11)=u
structure Z0 (w:World)(D d B:Nat)(ps:List P12)(G:List (List Nat))(k:Nat):Prop where
 row:∃f,w.rowIs B 45 (ps.length*12) f/\∀i p,i<k->ps[i]?=some p->p.wf/\∃ue us u g,A8J f (i*12) p ue us u/\G[i]?=some g/\H3 w D (E2 w D d) p ue us u g
 len:G.length=k
 own:Own w (B+1) G.flatten
theorem Z0.lt {w:World}{D d B:Nat}{ps:List P12}{G:List (List Nat)}{k:Nat}(h:Z0 w D d B ps G k)(hk:k<=ps.length):∀b∈G.flatten,b<w.heap.size:=by
 obtain⟨⟨f,hf,he⟩,hl,_⟩:=h;intro b hb;obtain⟨g,hg,hbg⟩:=List.mem_flatten.1 hb;obtain⟨i,hi,rfl⟩:=List.mem_iff_getElem.1 hg;have hi':i<ps.length:=by omega
 obtain⟨_,ue,us,u,g,_,hg,hK⟩:=he i ps[i] (by omega) (by simp);have:G[i]=g:=by simpa [hi]using hg
 exact hK.lt b (this▸hbg)
theorem Z0.cells {w:World}{D d B:Nat}{ps:List P12}{G:List (List Nat)}{k:Nat}(h:Z0 w D d B ps G k)(hk:k<ps.length):(∃u,w.cell? ⟨B,k*12,none⟩=some u)/\(∃u,w.cell? ⟨B,k*12+1,none⟩=some u)/\(∃u,w.cell? ⟨B,k*12+2,none⟩=some u)/\(∃u,w.cell? ⟨B,k*12+3,none⟩=some u)/\(∃u,w.cell? ⟨B,k*12+4,none⟩=some u)/\(∃u,w.cell? ⟨B,k*12+5,none⟩=some u)/\(∃u,w.cell? ⟨B,k*12+6,none⟩=some u)/\(∃u,w.cell? ⟨B,k*12+7,none⟩=some u)/\(∃u,w.cell? ⟨B,k*12+8,none⟩=some u)/\(∃u,w.cell? ⟨B,k*12+9,none⟩=some u)/\(∃u,w.cell? ⟨B,k*12+10,none⟩=some u)/\(∃u,w.cell? ⟨B,k*12+11,none⟩=some u)/\(∀i,w.frozen? ⟨B,i,none⟩=false)/\B<w.heap.size:=by
 obtain⟨f,h,_⟩:=h.row;exact⟨⟨_,h.cell (by omega)⟩,⟨_,h.cell (by omega)⟩,⟨_,h.cell (by omega)⟩,⟨_,h.cell (by omega)⟩,⟨_,h.cell (by omega)⟩,⟨_,h.cell (by omega)⟩,⟨_,h.cell (by omega)⟩,⟨_,h.cell (by omega)⟩,⟨_,h.cell (by omega)⟩,⟨_,h.cell (by omega)⟩,⟨_,h.cell (by omega)⟩,⟨_,h.cell (by omega)⟩,fun i=>h.frozen i,h.lt⟩
theorem Z0.keep {w w':World}{D d B:Nat}{ps:List P12}{G:List (List Nat)}{k:Nat}(h:Z0 w D d B ps G k)(hs:w.heap.size<=w'.heap.size)(hB:w'.heap[B]?=w.heap[B]?)(hF:∀b∈G.flatten,w'.heap[b]?=w.heap[b]?):Z0 w' D d B ps G k:=by
 obtain⟨⟨f,hf,he⟩,hl,ho⟩:=h;refine⟨⟨f,hf.of_block hB,fun i p hi hx=>?_⟩,hl,ho.keep hF⟩;obtain⟨h0,ue,us,u,g,hr,hg,hK⟩:=he i p hi hx;exact⟨h0,ue,us,u,g,hr,hg,hK.keep hs fun b hb=>hF b (List.mem_flatten.2 ⟨g,mg8 hg,hb⟩)⟩
theorem Z0.below {w w':World}{D d B:Nat}{ps:List P12}{G:List (List Nat)}{k:Nat}(h:Z0 w D d B ps G k)(hk:k<=ps.length)(hb:Below w.heap.size w w'):Z0 w' D d B ps G k:=by
 have hB:B<w.heap.size:=by obtain⟨f,hf,_⟩:=h.row;exact hf.lt
 exact h.keep hb.size (hb.block B hB) fun b hF=>hb.block b (h.lt hk b hF)
theorem Z0.step {w:World}{D d B:Nat}{ps:List P12}{G:List (List Nat)}{k:Nat}{p:P12}{ue us u:Value}{g:List Nat}(h:Z0 w D d B ps G k)(hk:k<=ps.length)(hx:ps[k]?=some p)(hw:p.wf)(hK:H3 w D (E2 w D d) p ue us u g)(hB:Own w (B+1) g)(hd:∀b∈G.flatten,b∉g):Z0 ((((((((((((w.setCell ⟨B,k*12,none⟩ (.int .i64 p.k)).setCell ⟨B,k*12+1,none⟩ (.string p.s)).setCell ⟨B,k*12+2,none⟩ (.int .i64 p.e.k)).setCell ⟨B,k*12+3,none⟩ (.int .i64 p.e.n)).setCell ⟨B,k*12+4,none⟩ (.int .i64 p.e.v.k)).setCell ⟨B,k*12+5,none⟩ (.int .i64 p.e.v.n)).setCell ⟨B,k*12+6,none⟩ (.string p.e.v.s)).setCell ⟨B,k*12+7,none⟩ (.string p.e.p)).setCell ⟨B,k*12+8,none⟩ (ue)).setCell ⟨B,k*12+9,none⟩ (us)).setCell ⟨B,k*12+10,none⟩ (.int .i64 p.n)).setCell ⟨B,k*12+11,none⟩ (u)) D d B ps (G++ [g]) (k+1):=by
 have hlt:=h.lt hk;obtain⟨⟨f,hf,he⟩,hl,ho⟩:=h;obtain⟨f',hf',S2,hold⟩:=C1k hf (k*12) (.int .i64 p.k) (.string p.s) (.int .i64 p.e.k) (.int .i64 p.e.n) (.int .i64 p.e.v.k) (.int .i64 p.e.v.n) (.string p.e.v.s) (.string p.e.p) (ue) (us) (.int .i64 p.n) (u);have H7:∀b,B+1<=b->((((((((((((w.setCell ⟨B,k*12,none⟩ (.int .i64 p.k)).setCell ⟨B,k*12+1,none⟩ (.string p.s)).setCell ⟨B,k*12+2,none⟩ (.int .i64 p.e.k)).setCell ⟨B,k*12+3,none⟩ (.int .i64 p.e.n)).setCell ⟨B,k*12+4,none⟩ (.int .i64 p.e.v.k)).setCell ⟨B,k*12+5,none⟩ (.int .i64 p.e.v.n)).setCell ⟨B,k*12+6,none⟩ (.string p.e.v.s)).setCell ⟨B,k*12+7,none⟩ (.string p.e.p)).setCell ⟨B,k*12+8,none⟩ (ue)).setCell ⟨B,k*12+9,none⟩ (us)).setCell ⟨B,k*12+10,none⟩ (.int .i64 p.n)).setCell ⟨B,k*12+11,none⟩ (u)).heap[b]?=w.heap[b]?:=fun b hb=>C1O w B (k*12) b _ _ _ _ _ _ _ _ _ _ _ _ (by omega);have hsz:w.heap.size<=((((((((((((w.setCell ⟨B,k*12,none⟩ (.int .i64 p.k)).setCell ⟨B,k*12+1,none⟩ (.string p.s)).setCell ⟨B,k*12+2,none⟩ (.int .i64 p.e.k)).setCell ⟨B,k*12+3,none⟩ (.int .i64 p.e.n)).setCell ⟨B,k*12+4,none⟩ (.int .i64 p.e.v.k)).setCell ⟨B,k*12+5,none⟩ (.int .i64 p.e.v.n)).setCell ⟨B,k*12+6,none⟩ (.string p.e.v.s)).setCell ⟨B,k*12+7,none⟩ (.string p.e.p)).setCell ⟨B,k*12+8,none⟩ (ue)).setCell ⟨B,k*12+9,none⟩ (us)).setCell ⟨B,k*12+10,none⟩ (.int .i64 p.n)).setCell ⟨B,k*12+11,none⟩ (u)).heap.size:=by simp
 refine⟨⟨f',hf',fun i y hi hy=>?_⟩,by simp[hl],?_⟩
 ·by_cases ei:i=k
  ·subst ei;obtain rfl:y=p:=by rw[hx]at hy;exact(Option.some.inj hy).symm
   refine⟨hw,ue,us,u,g,S2,?_,hK.keep hsz fun b hb=>H7 b (hB.2 b hb).1⟩;rw[List.getElem?_append_right (by omega)];simp[hl]
  ·obtain⟨a0,ue',us',u',g',hr,hg',hK'⟩:=he i y (by omega) hy;refine⟨a0,ue',us',u',g',?_,?_,hK'.keep hsz fun b hb=>H7 b (ho.2 b (List.mem_flatten.2 ⟨g',mg8 hg',hb⟩)).1⟩
   ·unfold A8J at hr⊢;rw[hold _ (by omega),hold _ (by omega),hold _ (by omega),hold _ (by omega),hold _ (by omega),hold _ (by omega),hold _ (by omega),hold _ (by omega),hold _ (by omega),hold _ (by omega),hold _ (by omega),hold _ (by omega)];exact hr
   ·rw[List.getElem?_append_left (by omega)];exact hg'
 ·have hm:∀b∈(G++ [g]).flatten,b∈G.flatten\/b∈g:=by intro b hb;simpa using hb
  refine Own.keep (w:=w) ⟨?_,fun b hb=>(hm b hb).elim (ho.2 b) (hB.2 b)⟩ fun b hb=>H7 b ((hm b hb).elim (fun h=>(ho.2 b h).1) (fun h=>(hB.2 b h).1));rw[List.flatten_append,List.nodup_append];refine⟨ho.1,by simpa using hB.1,fun a ha b hb=>?_⟩;rintro rfl;exact hd a ha (by simpa using hb)
theorem Z0.plans {w:World}{D d B:Nat}{ps:List P12}{G:List (List Nat)}(h:Z0 w D d B ps G ps.length)(hm:ps.length<=maxLen)(hne:ps≠ []):E2 w D (d+1) (.slice (some ⟨B,0,none⟩) ps.length ps.length) ps (B::G.flatten)/\Own w B (B::G.flatten):=by
 obtain⟨⟨f,hf,he⟩,hl,ho⟩:=h;refine⟨⟨_,_,G,rfl,Nat.le_refl _,hm,hl,fun h=>absurd h hne,fun _=>⟨B,0,rfl,hf.lt,rfl,fun i e g hx hg=>?_⟩⟩,?_,fun b hb=>?_⟩
 ·have hi:i<ps.length:=(gE1 hx).1;obtain⟨a0,ue,us,u,g',⟨r0,r1,r2,r3,r4,r5,r6,r7,r8,r9,r10,r11⟩,hg',hK⟩:=he i e hi hx;obtain rfl:g=g':=by rw[hg]at hg';exact Option.some.inj hg'
  rw[Nat.zero_add];exact⟨a0,ue,us,u,⟨by rw[hf.cell (by omega),r0],by rw[hf.cell (by omega),r1],by rw[hf.cell (by omega),r2],by rw[hf.cell (by omega),r3],by rw[hf.cell (by omega),r4],by rw[hf.cell (by omega),r5],by rw[hf.cell (by omega),r6],by rw[hf.cell (by omega),r7],by rw[hf.cell (by omega),r8],by rw[hf.cell (by omega),r9],by rw[hf.cell (by omega),r10],by rw[hf.cell (by omega),r11]⟩,hK⟩
 ·refine List.nodup_cons.2 ⟨fun h=>?_,ho.1⟩;have:=(ho.2 B h).1;omega
 ·rcases List.mem_cons.1 hb with rfl|hb
  ·exact⟨Nat.le_refl _,fun o=>hf.frozen o⟩
  ·exact⟨Nat.le_of_succ_le (ho.2 b hb).1,(ho.2 b hb).2⟩
theorem C3A (w:World)(z:Array Value)(D d:Nat)(ps:List P12):Z0 (w.alloc (.cells (madeCells z (ps.length*12)) 45)) D d w.heap.size ps [] 0:=
 ⟨⟨fun i=>(madeCells z (ps.length*12))[i]?.getD undef,⟨_,blk_alloc_new _ _,size_madeCells _ _,fun i hi=>by
  have:i<(madeCells z (ps.length*12)).size:=by rw[size_madeCells];exact hi
  simp[this]⟩,fun i x hi=>by omega⟩,rfl,by simp[Own,P8]⟩
def A4g (D d:Nat):Prop:=∀ (v:Value) (ps:List P12) (F:List Nat) (w:World),E2 w D d v ps F->ps.length+J8 ps<=1048576->
  Calls Tryz.prog 28 #[v] w fun e w'=>(∃u F',e=.returned u/\E2 w' D d u ps F'/\Own w' w.heap.size F')/\Below w.heap.size w w'
theorem A3V {D d:Nat}(hS:A4g D d)(p:P12)(ue us u:Value)(g:List Nat)(w:World)(hL:H3 w D (E2 w D d) p ue us u g)(hn:wtP p<=1048576):Calls Tryz.prog 8 #[(.agg #[.int .i64 p.k,.string p.s,.int .i64 p.e.k,.int .i64 p.e.n,.int .i64 p.e.v.k,.int .i64 p.e.v.n,.string p.e.v.s,.string p.e.p,ue,us,.int .i64 p.n,u])] w fun x w'=>(∃ue' us' u' g',x=.returned (.agg #[.int .i64 p.k,.string p.s,.int .i64 p.e.k,.int .i64 p.e.n,.int .i64 p.e.v.k,.int .i64 p.e.v.n,.string p.e.v.s,.string p.e.p,ue',us',.int .i64 p.n,u'])/\H3 w' D (E2 w' D d) p ue' us' u' g'/\Own w' w.heap.size g')/\Below w.heap.size w w':=by
 obtain⟨ae,ce,ak,ck,a,c,rfl,rfl,rfl,_,_,_,_,_,_⟩:=hL.shape;obtain⟨Fe,Fs,h',rfl,ke,kes,kp⟩:=hL;rw[f9]at hn;go_enter Tryz.func8,Tryz.ntmps8;go_wp2_with fail;refine cM8 (C3P p.e (.slice ae p.e.ks.length ce) Fe _ (ke.below ?hb) (by omega)) ?_
 case hb=>exact bex
 rintro x w1 ⟨⟨u1,F1,rfl,hK1,hO1⟩,hb1⟩;have hz1:=hb1.size;simp only[World.size_alloc]at hz1 hO1;try simp only[World.size_setCell]at hz1 hO1
 have hf1:=(bc8 hb1).2;obtain⟨a1,c1,rfl,_⟩:=hK1.shape;have hy2:w.heap.size+1+1<w1.heap.size:=by omega
 have hy1:w.heap.size+1<w1.heap.size:=by omega
 have hy0:w.heap.size<w1.heap.size:=by omega
 have B8I:w1.cell? ⟨w.heap.size,9,none⟩=some (.slice ak p.es.length ck):=cl8 hb1;have B9k:w1.cell? ⟨w.heap.size,10,none⟩=some (.int .i64 p.n):=cl8 hb1;have B2g:w1.cell? ⟨w.heap.size,11,none⟩=some (.slice a p.ks.length c):=cl8 hb1;have B2j:w1.cell? ⟨w.heap.size+1,0,none⟩=some (.int .i64 0):=cl8 hb1;have B3d:w1.cell? ⟨w.heap.size+1,1,none⟩=some (.string ⟨#[]⟩):=cl8 hb1;have C0o:w1.cell? ⟨w.heap.size+1,2,none⟩=some (.int .i64 0):=cl8 hb1;have C1R:w1.cell? ⟨w.heap.size+1,3,none⟩=some (.int .i64 0):=cl8 hb1;have C0t:w1.cell? ⟨w.heap.size+1,4,none⟩=some (.int .i64 0):=cl8 hb1;have B4I:w1.cell? ⟨w.heap.size+1,5,none⟩=some (.int .i64 0):=cl8 hb1;have C26:w1.cell? ⟨w.heap.size+1,6,none⟩=some (.string ⟨#[]⟩):=cl8 hb1;have B5c:w1.cell? ⟨w.heap.size+1,7,none⟩=some (.string ⟨#[]⟩):=cl8 hb1;have B5V:w1.cell? ⟨w.heap.size+1,8,none⟩=some (.slice none 0 0):=cl8 hb1;have B3u:w1.cell? ⟨w.heap.size+1,9,none⟩=some (.slice none 0 0):=cl8 hb1;have B3K:w1.cell? ⟨w.heap.size+1,10,none⟩=some (.int .i64 0):=cl8 hb1;have C2v:w1.cell? ⟨w.heap.size+1,11,none⟩=some (.slice none 0 0):=cl8 hb1;have B4B:w1.cell? ⟨w.heap.size+1+1,0,none⟩=some (.int .i64 p.k):=cl8 hb1;have B6w:w1.cell? ⟨w.heap.size+1+1,1,none⟩=some (.string p.s):=cl8 hb1;have B5b:w1.cell? ⟨w.heap.size+1+1,2,none⟩=some (.int .i64 0):=cl8 hb1
 have B43:w1.cell? ⟨w.heap.size+1+1,3,none⟩=some (.int .i64 0):=cl8 hb1;have C3V:w1.cell? ⟨w.heap.size+1+1,4,none⟩=some (.int .i64 0):=cl8 hb1;have B6U:w1.cell? ⟨w.heap.size+1+1,5,none⟩=some (.int .i64 0):=cl8 hb1;have C16:w1.cell? ⟨w.heap.size+1+1,6,none⟩=some (.string ⟨#[]⟩):=cl8 hb1;have B3J:w1.cell? ⟨w.heap.size+1+1,7,none⟩=some (.string ⟨#[]⟩):=cl8 hb1;have B5z:w1.cell? ⟨w.heap.size+1+1,8,none⟩=some (.slice none 0 0):=cl8 hb1;have B5f:w1.cell? ⟨w.heap.size+1+1,9,none⟩=some (.slice none 0 0):=cl8 hb1;have C0x:w1.cell? ⟨w.heap.size+1+1,10,none⟩=some (.int .i64 0):=cl8 hb1;have B8Q:w1.cell? ⟨w.heap.size+1+1,11,none⟩=some (.slice none 0 0):=cl8 hb1;have F8:Below w.heap.size w w1:=bex;clear hb1;go_wp2_with fail;refine cM8 (A5m D (.slice ak p.es.length ck) p.es Fs _ (kes.below ?hb) (by omega)) ?_
 case hb=>exact bs8
 rintro x w2 ⟨⟨u2,F2,rfl,hK2,hO2⟩,hb2⟩;have A6J:=C1.below (C1.keep (w':=(((((((w1.setCell ⟨w.heap.size+1+1,2,none⟩ (.int .i64 p.e.k)).setCell ⟨w.heap.size+1+1,3,none⟩ (.int .i64 p.e.n)).setCell ⟨w.heap.size+1+1,4,none⟩ (.int .i64 p.e.v.k)).setCell ⟨w.heap.size+1+1,5,none⟩ (.int .i64 p.e.v.n)).setCell ⟨w.heap.size+1+1,6,none⟩ (.string p.e.v.s)).setCell ⟨w.heap.size+1+1,7,none⟩ (.string p.e.p)).setCell ⟨w.heap.size+1+1,8,none⟩ (.slice a1 p.e.ks.length c1))) (by simp) hK1 (fun b hb=>by have:=(hO1.2 b hb).1;repeat rw[bS8 _ _ _ _ (by simp;try omega)])) hb2;have A5E:=Own.below (Own.keep (w':=(((((((w1.setCell ⟨w.heap.size+1+1,2,none⟩ (.int .i64 p.e.k)).setCell ⟨w.heap.size+1+1,3,none⟩ (.int .i64 p.e.n)).setCell ⟨w.heap.size+1+1,4,none⟩ (.int .i64 p.e.v.k)).setCell ⟨w.heap.size+1+1,5,none⟩ (.int .i64 p.e.v.n)).setCell ⟨w.heap.size+1+1,6,none⟩ (.string p.e.v.s)).setCell ⟨w.heap.size+1+1,7,none⟩ (.string p.e.p)).setCell ⟨w.heap.size+1+1,8,none⟩ (.slice a1 p.e.ks.length c1))) hO1 (fun b hb=>by have:=(hO1.2 b hb).1;repeat rw[bS8 _ _ _ _ (by simp;try omega)])) (fun b hb=>by have:=hK1.lt b hb;simpa using this) hb2;have hF1:∀b∈F1,b<w1.heap.size:=hK1.lt;have hz2:=hb2.size;simp only[World.size_setCell]at hz2 hO2;have hf2:=(bc8 hb2).2;obtain⟨a2,c2,rfl,_⟩:=hK2.shape;have hy5:w.heap.size+1+1<w2.heap.size:=by omega
 have hy4:w.heap.size+1<w2.heap.size:=by omega
 have hy3:w.heap.size<w2.heap.size:=by omega
 have B9E:w2.cell? ⟨w.heap.size,10,none⟩=some (.int .i64 p.n):=cl8 hb2;have C1u:w2.cell? ⟨w.heap.size,11,none⟩=some (.slice a p.ks.length c):=cl8 hb2;have B7m:w2.cell? ⟨w.heap.size+1,0,none⟩=some (.int .i64 0):=cl8 hb2;have B7b:w2.cell? ⟨w.heap.size+1,1,none⟩=some (.string ⟨#[]⟩):=cl8 hb2;have B4l:w2.cell? ⟨w.heap.size+1,2,none⟩=some (.int .i64 0):=cl8 hb2;have B62:w2.cell? ⟨w.heap.size+1,3,none⟩=some (.int .i64 0):=cl8 hb2;have C2i:w2.cell? ⟨w.heap.size+1,4,none⟩=some (.int .i64 0):=cl8 hb2;have B9B:w2.cell? ⟨w.heap.size+1,5,none⟩=some (.int .i64 0):=cl8 hb2;have B3s:w2.cell? ⟨w.heap.size+1,6,none⟩=some (.string ⟨#[]⟩):=cl8 hb2;have B2b:w2.cell? ⟨w.heap.size+1,7,none⟩=some (.string ⟨#[]⟩):=cl8 hb2;have C2s:w2.cell? ⟨w.heap.size+1,8,none⟩=some (.slice none 0 0):=cl8 hb2;have B6J:w2.cell? ⟨w.heap.size+1,9,none⟩=some (.slice none 0 0):=cl8 hb2;have B4C:w2.cell? ⟨w.heap.size+1,10,none⟩=some (.int .i64 0):=cl8 hb2;have B41:w2.cell? ⟨w.heap.size+1,11,none⟩=some (.slice none 0 0):=cl8 hb2;have C0R:w2.cell? ⟨w.heap.size+1+1,0,none⟩=some (.int .i64 p.k):=cl8 hb2;have C35:w2.cell? ⟨w.heap.size+1+1,1,none⟩=some (.string p.s):=cl8 hb2;have B4u:w2.cell? ⟨w.heap.size+1+1,2,none⟩=some (.int .i64 p.e.k):=cl8 hb2;have B8F:w2.cell? ⟨w.heap.size+1+1,3,none⟩=some (.int .i64 p.e.n):=cl8 hb2
 have B9M:w2.cell? ⟨w.heap.size+1+1,4,none⟩=some (.int .i64 p.e.v.k):=cl8 hb2;have B4N:w2.cell? ⟨w.heap.size+1+1,5,none⟩=some (.int .i64 p.e.v.n):=cl8 hb2;have B4h:w2.cell? ⟨w.heap.size+1+1,6,none⟩=some (.string p.e.v.s):=cl8 hb2;have C3J:w2.cell? ⟨w.heap.size+1+1,7,none⟩=some (.string p.e.p):=cl8 hb2;have B6W:w2.cell? ⟨w.heap.size+1+1,8,none⟩=some (.slice a1 p.e.ks.length c1):=cl8 hb2;have C2V:w2.cell? ⟨w.heap.size+1+1,9,none⟩=some (.slice none 0 0):=cl8 hb2;have B4a:w2.cell? ⟨w.heap.size+1+1,10,none⟩=some (.int .i64 0):=cl8 hb2;have B4V:w2.cell? ⟨w.heap.size+1+1,11,none⟩=some (.slice none 0 0):=cl8 hb2;have C0:Below w.heap.size w w2:=(by exact bs8:Below w.heap.size w (((((((w1.setCell ⟨w.heap.size+1+1,2,none⟩ (.int .i64 p.e.k)).setCell ⟨w.heap.size+1+1,3,none⟩ (.int .i64 p.e.n)).setCell ⟨w.heap.size+1+1,4,none⟩ (.int .i64 p.e.v.k)).setCell ⟨w.heap.size+1+1,5,none⟩ (.int .i64 p.e.v.n)).setCell ⟨w.heap.size+1+1,6,none⟩ (.string p.e.v.s)).setCell ⟨w.heap.size+1+1,7,none⟩ (.string p.e.p)).setCell ⟨w.heap.size+1+1,8,none⟩ (.slice a1 p.e.ks.length c1))).trans (hb2.mono (by simp;omega));clear hb2 B8I B9k B2g B2j B3d C0o C1R C0t B4I C26 B5c B5V B3u B3K C2v B4B B6w B5b B43 C3V B6U C16 B3J B5z B5f C0x B8Q hK1 hO1;go_wp2_with fail;refine cM8 (hS (.slice a p.ks.length c) p.ks h' _ (kp.below ?hb) (by omega)) ?_
 case hb=>exact bs8
 rintro x w3 ⟨⟨u3,F3,rfl,hK3,hO3⟩,hb3⟩;have A8B:=C1.below (C1.keep (w':=((w2.setCell ⟨w.heap.size+1+1,9,none⟩ (.slice a2 p.es.length c2)).setCell ⟨w.heap.size+1+1,10,none⟩ (.int .i64 p.n))) (by simp) A6J (fun b hb=>by have:=(A5E.2 b hb).1;repeat rw[bS8 _ _ _ _ (by simp;try omega)])) hb3;have B0k:=Own.below (Own.keep (w':=((w2.setCell ⟨w.heap.size+1+1,9,none⟩ (.slice a2 p.es.length c2)).setCell ⟨w.heap.size+1+1,10,none⟩ (.int .i64 p.n))) A5E (fun b hb=>by have:=(A5E.2 b hb).1;repeat rw[bS8 _ _ _ _ (by simp;try omega)])) (fun b hb=>by have:=A6J.lt b hb;simpa using this) hb3;have B1T:=C1.below (C1.keep (w':=((w2.setCell ⟨w.heap.size+1+1,9,none⟩ (.slice a2 p.es.length c2)).setCell ⟨w.heap.size+1+1,10,none⟩ (.int .i64 p.n))) (by simp) hK2 (fun b hb=>by have:=(hO2.2 b hb).1;repeat rw[bS8 _ _ _ _ (by simp;try omega)])) hb3;have B0M:=Own.below (Own.keep (w':=((w2.setCell ⟨w.heap.size+1+1,9,none⟩ (.slice a2 p.es.length c2)).setCell ⟨w.heap.size+1+1,10,none⟩ (.int .i64 p.n))) hO2 (fun b hb=>by have:=(hO2.2 b hb).1;repeat rw[bS8 _ _ _ _ (by simp;try omega)])) (fun b hb=>by have:=hK2.lt b hb;simpa using this) hb3;have hF2:∀b∈F2,b<w2.heap.size:=hK2.lt;have hz3:=hb3.size;simp only[World.size_setCell]at hz3 hO3;have hf3:=(bc8 hb3).2;obtain⟨a3,c3,rfl,_⟩:=hK3.shape;have hy8:w.heap.size+1+1<w3.heap.size:=by omega
 have hy7:w.heap.size+1<w3.heap.size:=by omega
 have C4U:w3.cell? ⟨w.heap.size+1,0,none⟩=some (.int .i64 0):=cl8 hb3;have C4O:w3.cell? ⟨w.heap.size+1,1,none⟩=some (.string ⟨#[]⟩):=cl8 hb3;have C4r:w3.cell? ⟨w.heap.size+1,2,none⟩=some (.int .i64 0):=cl8 hb3;have C5G:w3.cell? ⟨w.heap.size+1,3,none⟩=some (.int .i64 0):=cl8 hb3;have C5O:w3.cell? ⟨w.heap.size+1,4,none⟩=some (.int .i64 0):=cl8 hb3;have C5P:w3.cell? ⟨w.heap.size+1,5,none⟩=some (.int .i64 0):=cl8 hb3;have C4S:w3.cell? ⟨w.heap.size+1,6,none⟩=some (.string ⟨#[]⟩):=cl8 hb3;have C4j:w3.cell? ⟨w.heap.size+1,7,none⟩=some (.string ⟨#[]⟩):=cl8 hb3;have C4e:w3.cell? ⟨w.heap.size+1,8,none⟩=some (.slice none 0 0):=cl8 hb3;have C4M:w3.cell? ⟨w.heap.size+1,9,none⟩=some (.slice none 0 0):=cl8 hb3;have C5F:w3.cell? ⟨w.heap.size+1,10,none⟩=some (.int .i64 0):=cl8 hb3;have C4T:w3.cell? ⟨w.heap.size+1,11,none⟩=some (.slice none 0 0):=cl8 hb3;have C4i:w3.cell? ⟨w.heap.size+1+1,0,none⟩=some (.int .i64 p.k):=cl8 hb3;have C4V:w3.cell? ⟨w.heap.size+1+1,1,none⟩=some (.string p.s):=cl8 hb3;have C4R:w3.cell? ⟨w.heap.size+1+1,2,none⟩=some (.int .i64 p.e.k):=cl8 hb3;have C49:w3.cell? ⟨w.heap.size+1+1,3,none⟩=some (.int .i64 p.e.n):=cl8 hb3;have C4x:w3.cell? ⟨w.heap.size+1+1,4,none⟩=some (.int .i64 p.e.v.k):=cl8 hb3;have C41:w3.cell? ⟨w.heap.size+1+1,5,none⟩=some (.int .i64 p.e.v.n):=cl8 hb3
 have C4L:w3.cell? ⟨w.heap.size+1+1,6,none⟩=some (.string p.e.v.s):=cl8 hb3;have C4t:w3.cell? ⟨w.heap.size+1+1,7,none⟩=some (.string p.e.p):=cl8 hb3;have C4p:w3.cell? ⟨w.heap.size+1+1,8,none⟩=some (.slice a1 p.e.ks.length c1):=cl8 hb3;have C5K:w3.cell? ⟨w.heap.size+1+1,9,none⟩=some (.slice a2 p.es.length c2):=cl8 hb3;have C5B:w3.cell? ⟨w.heap.size+1+1,10,none⟩=some (.int .i64 p.n):=cl8 hb3;have C5J:w3.cell? ⟨w.heap.size+1+1,11,none⟩=some (.slice none 0 0):=cl8 hb3;have D6:Below w.heap.size w w3:=(by exact bs8:Below w.heap.size w ((w2.setCell ⟨w.heap.size+1+1,9,none⟩ (.slice a2 p.es.length c2)).setCell ⟨w.heap.size+1+1,10,none⟩ (.int .i64 p.n))).trans (hb3.mono (by simp;omega));clear hb3 B9E C1u B7m B7b B4l B62 C2i B9B B3s B2b C2s B6J B4C B41 C0R C35 B4u B8F B9M B4N B4h C3J B6W C2V B4a B4V hK2 hO2 A6J A5E;have hOw:Own w3 (w.heap.size+1+1+1) (F1++(F2++F3)):=B0k.app (B0M.app hO3 hF2 (by omega)) (fun b hb=>hF1 b hb) (by omega);have hLL:H3 w3 D (E2 w3 D d) p (.slice a1 p.e.ks.length c1) (.slice a2 p.es.length c2) (.slice a3 p.ks.length c3) (F1++(F2++F3)):=⟨F1,F2,F3,rfl,A8B,B1T,hK3⟩;clear A8B B0k B1T B0M hK3 hO3;go_wp2;refine bodyPost_ret (v:=(.agg #[.int .i64 p.k,.string p.s,.int .i64 p.e.k,.int .i64 p.e.n,.int .i64 p.e.v.k,.int .i64 p.e.v.n,.string p.e.v.s,.string p.e.p,(.slice a1 p.e.ks.length c1),(.slice a2 p.es.length c2),.int .i64 p.n,(.slice a3 p.ks.length c3)])) (by simp[results,Tryz.results8,go_sem, *]) rfl ⟨⟨.slice a1 p.e.ks.length c1,.slice a2 p.es.length c2,.slice a3 p.ks.length c3,F1++(F2++F3),rfl,?_,?_⟩,?_⟩
 ·refine hLL.keep (by simp) fun b hb=>?_;have:=(hOw.2 b hb).1;repeat rw[bS8 _ _ _ _ (by simp;try omega)]
 ·refine Own.keep (w:=w3) (hOw.weak (by omega)) fun b hb=>?_;have:=(hOw.2 b hb).1;repeat rw[bS8 _ _ _ _ (by simp;try omega)]
 ·exact bs8
theorem B5l {D d:Nat}(hS:A4g D d):A4g D (d+1):=by
 intro v ps F w hr hn;obtain⟨a,c,b,o,G,rfl,hl,hc,hG,_,ha⟩:=hr.pick;unfold maxLen at hc;clear hr;have hn1:ps.length<=1048576:=by omega
 have hmk:=A31 (P:=Tryz.prog) 43 45 _ 12 168 Tryz.underlying43 Tryz.infoPlan ps.length (by omega) (by omega);go_enter Tryz.func28,Tryz.ntmps28;go_wp2;go_loopw [4] (fun i wr=> ∃ (k:Nat) (G':List (List Nat)),k<=ps.length/\i=.int .i64 k/\Below w.heap.size w wr/\Z0 wr D d w.heap.size ps G' k) (fun i _=>ps.length - (intOf i).toNat)
 case atStart=>exact⟨0,[],Nat.zero_le _,rfl,by go_grown,C3A _ _ _ _ _⟩
 case round=>
  obtain⟨k,G',hk,rfl,hb,hH⟩:=hrel;clear hmk;by_cases hlt:k<ps.length
  ·have hzb:=hb.size;obtain⟨rfl,hblt,_,hL⟩:=ha k hlt;obtain⟨x,g,ue,us,u,hx,hg,hxw,⟨c0,c1,c2,c3,c4,c5,c6,c7,c8,c9,c10,c11⟩,hK,hbr⟩:=hL.at hG hblt hb hlt;have HX:Hid (ps[k]?=some x):=hx;have hxn:wtP x<=1048576:=by have:=A2X (mg8 hx);omega
   have hBr:=(hH.cells hlt).2.2.2.2.2.2.2.2.2.2.2.2.2;have hHl:=hH.lt hk;clear ha hL hx;go_wp2_with(go_at_call 8;refine(A3V hS _ _ _ _ _ _ hK hxn).mono ?_;rintro e w1 ⟨⟨ue1,us1,u1,F1,rfl,hK1,hO1⟩,hb1⟩;obtain⟨ae1,ce1,ak1,ck1,a1,n1,rfl,rfl,rfl,_⟩:=hK1.shape;have hz1:=hb1.size;have hH1:=hH.below hk hb1;obtain⟨⟨y0,q0⟩,⟨y1,q1⟩,⟨y2,q2⟩,⟨y3,q3⟩,⟨y4,q4⟩,⟨y5,q5⟩,⟨y6,q6⟩,⟨y7,q7⟩,⟨y8,q8⟩,⟨y9,q9⟩,⟨y10,q10⟩,⟨y11,q11⟩,gf,gs⟩:=hH1.cells hlt);refine⟨⟨k+1,_,hlt,by simp,?_,hH1.step hk HX.out hxw hK1 ⟨hO1.1,fun b hb=>⟨by have:=(hO1.2 b hb).1;omega,(hO1.2 b hb).2⟩⟩ (fun b hb hb'=>by have:=(hO1.2 b hb').1;have:=hHl b hb;omega)⟩,by simp[intOf];omega⟩;exact bex
  ·go_wp2;go_returns;obtain rfl:k=ps.length:=by omega
   by_cases hne:ps=[]
   ·subst hne;exact⟨⟨_,[],rfl,⟨_,_,[],rfl,Nat.le_refl _,by simp,rfl,fun _=>rfl,fun h=>absurd rfl h⟩,by simp[Own,P8]⟩,hb⟩
   ·obtain⟨h1,h2⟩:=hH.plans (by unfold maxLen;omega) hne;exact⟨⟨_,_,rfl,h1,h2⟩,hb⟩
theorem A3Z (D:Nat):∀d,A4g D d
 |0=>fun _ _ _ _ h=>h.elim
 |d+1=>B5l (A3Z D d)
end
section
open Go.RowKit
def BxP (w:World)(b:Nat)(p:P12)(ue us u:Value):Prop:=
 b<w.heap.size/\w.cell? ⟨b,0,none⟩=some (.int .i64 p.k)/\w.cell? ⟨b,1,none⟩=some (.string p.s)/\w.cell? ⟨b,2,none⟩=some (.int .i64 p.e.k)/\w.cell? ⟨b,3,none⟩=some (.int .i64 p.e.n)/\w.cell? ⟨b,4,none⟩=some (.int .i64 p.e.v.k)/\w.cell? ⟨b,5,none⟩=some (.int .i64 p.e.v.n)/\w.cell? ⟨b,6,none⟩=some (.string p.e.v.s)/\w.cell? ⟨b,7,none⟩=some (.string p.e.p)/\w.cell? ⟨b,8,none⟩=some ue/\w.cell? ⟨b,9,none⟩=some us/\w.cell? ⟨b,10,none⟩=some (.int .i64 p.n)/\w.cell? ⟨b,11,none⟩=some u
theorem BxP.cellsP {w:World}{b:Nat}{p:P12}{ue us u:Value}(h:BxP w b p ue us u):cellsP w b 0 p ue us u:=by
 obtain⟨hl,h0,h1,h2,h3,h4,h5,h6,h7,h8,h9,h10,h11⟩:=h;exact⟨h0,h1,h2,h3,h4,h5,h6,h7,h8,h9,h10,h11⟩
theorem BxP.below {w w':World}{b:Nat}{p:P12}{ue us u:Value}(h:BxP w b p ue us u)(hb:Below w.heap.size w w'):BxP w' b p ue us u:=by
 have hk:=hb.block b h.1;obtain⟨hl,h0,h1,h2,h3,h4,h5,h6,h7,h8,h9,h10,h11⟩:=h;exact⟨Nat.lt_of_lt_of_le hl hb.size,(cb8 hk).trans h0,(cb8 hk).trans h1,(cb8 hk).trans h2,(cb8 hk).trans h3,(cb8 hk).trans h4,(cb8 hk).trans h5,(cb8 hk).trans h6,(cb8 hk).trans h7,(cb8 hk).trans h8,(cb8 hk).trans h9,(cb8 hk).trans h10,(cb8 hk).trans h11⟩
theorem X2 (w:World)(p:P12)(ue us u:Value)(t:TypeId):BxP (w.alloc (.cells #[.int .i64 p.k,.string p.s,.int .i64 p.e.k,.int .i64 p.e.n,.int .i64 p.e.v.k,.int .i64 p.e.v.n,.string p.e.v.s,.string p.e.p,ue,us,.int .i64 p.n,u] t)) w.heap.size p ue us u:=by
 refine⟨by simp,?_,?_,?_,?_,?_,?_,?_,?_,?_,?_,?_,?_⟩<;>go_simp
end
end Go.Proofs.YteekfcdllaceoaaGreatDoor
