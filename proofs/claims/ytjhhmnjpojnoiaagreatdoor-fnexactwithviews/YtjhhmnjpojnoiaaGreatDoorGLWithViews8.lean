/- Own texts, joined: contracts that the law's proof goes by. -/
import Derived.Test.YtjhhmnjpojnoiaaGreatDoorExpC
import Derived.Test.YtjhhmnjpojnoiaaGreatDoorGLWithViews1
import Derived.Test.YtjhhmnjpojnoiaaGreatDoorGLWithViews2
import Derived.Deep.OwnRows
import Derived.Handy
import Derived.Deep.RegionWith
import Derived.Deep.RegionHeld3
import Derived.Test.YtjhhmnjpojnoiaaGreatDoorAsserts
set_option maxHeartbeats 16000000
set_option maxRecDepth 100000
set_option linter.unusedVariables false
set_option linter.unusedSimpArgs false
namespace Go.Proofs.YtjhhmnjpojnoiaaGreatDoor
section
section
open Go.RowKit Go.Deep
theorem Tryz.infoExp:(Tryz.prog.info? 63).map (fun i=>(i.zero,i.size,i.bytes))=some (some (.agg #[.int .i64 0,.int .i64 0,.int .i64 0,.int .i64 0,.string ⟨#[]⟩,.string ⟨#[]⟩,.slice none 0 0]),7,88):=by kernel_rfl
structure HalfE (w:World)(d B:Nat)(es:List E7)(G:List (List Nat))(k:Nat):Prop where
 row:∃f,w.rowIs B 63 (es.length*7) f∧∀i e,i<k→es[i]?=some e→e.wf∧f (i*7)=.int .i64 e.k∧f (i*7+1)=.int .i64 e.n∧f (i*7+2)=.int .i64 e.v.k∧f (i*7+3)=.int .i64 e.v.n∧f (i*7+4)=.string e.v.s∧f (i*7+5)=.string e.p∧∃g,G[i]?=some g∧KidsIs w d (f (i*7+6)) e.ks g
 len:G.length=k
 own:Own w (B+1) G.flatten
theorem HalfE.lt {w:World}{d B:Nat}{es:List E7}{G:List (List Nat)}{k:Nat}(h:HalfE w d B es G k)(hk:k≤es.length):∀b∈G.flatten,b<w.heap.size:=by
 obtain⟨⟨f,hf,he⟩,hl,_⟩:=h;intro b hb;obtain⟨g,hg,hbg⟩:=List.mem_flatten.1 hb;obtain⟨i,hi,rfl⟩:=List.mem_iff_getElem.1 hg;have hi':i<es.length:=by omega
 obtain⟨_,_,_,_,_,_,_,g,hg,hK⟩:=he i es[i] (by omega) (by simp);have:G[i]=g:=by simpa [hi]using hg
 exact hK.lt b (this▸hbg)
theorem HalfE.cells {w:World}{d B:Nat}{es:List E7}{G:List (List Nat)}{k:Nat}(h:HalfE w d B es G k)(hk:k<es.length):(∃u,w.cell? ⟨B,k*7,none⟩=some u)∧(∃u,w.cell? ⟨B,k*7+1,none⟩=some u)∧(∃u,w.cell? ⟨B,k*7+2,none⟩=some u)∧(∃u,w.cell? ⟨B,k*7+3,none⟩=some u)∧(∃u,w.cell? ⟨B,k*7+4,none⟩=some u)∧(∃u,w.cell? ⟨B,k*7+5,none⟩=some u)∧(∃u,w.cell? ⟨B,k*7+6,none⟩=some u)∧(∀i,w.frozen? ⟨B,i,none⟩=false)∧B<w.heap.size:=by
 obtain⟨f,h,_⟩:=h.row;exact⟨⟨_,h.cell (by omega)⟩,⟨_,h.cell (by omega)⟩,⟨_,h.cell (by omega)⟩,⟨_,h.cell (by omega)⟩,⟨_,h.cell (by omega)⟩,⟨_,h.cell (by omega)⟩,⟨_,h.cell (by omega)⟩,fun i=>h.frozen i,h.lt⟩
theorem HalfE.keep {w w':World}{d B:Nat}{es:List E7}{G:List (List Nat)}{k:Nat}(h:HalfE w d B es G k)(hs:w.heap.size≤w'.heap.size)(hB:w'.heap[B]?=w.heap[B]?)(hF:∀b∈G.flatten,w'.heap[b]?=w.heap[b]?):HalfE w' d B es G k:=by
 obtain⟨⟨f,hf,he⟩,hl,ho⟩:=h;refine⟨⟨f,hf.of_block hB,fun i e hi hx=>?_⟩,hl,ho.keep hF⟩;obtain⟨h0,h1,h2,h3,h4,h5,h6,g,hg,hK⟩:=he i e hi hx;exact⟨h0,h1,h2,h3,h4,h5,h6,g,hg,hK.keep hs fun b hb=>hF b (List.mem_flatten.2 ⟨g,mg8 hg,hb⟩)⟩
theorem HalfE.below {w w':World}{d B:Nat}{es:List E7}{G:List (List Nat)}{k:Nat}(h:HalfE w d B es G k)(hk:k≤es.length)(hb:Below w.heap.size w w'):HalfE w' d B es G k:=by
 have hB:B<w.heap.size:=by obtain⟨f,hf,_⟩:=h.row;exact hf.lt
 exact h.keep hb.size (hb.block B hB) fun b hF=>hb.block b (h.lt hk b hF)
theorem HalfE.step {w:World}{d B:Nat}{es:List E7}{G:List (List Nat)}{k:Nat}{e:E7}{u:Value}{g:List Nat}(h:HalfE w d B es G k)(hk:k≤es.length)(hx:es[k]?=some e)(hw:e.wf)(hK:KidsIs w d u e.ks g)(hB:Own w (B+1) g)(hd:∀b∈G.flatten,b∉g):HalfE (((((((w.setCell ⟨B,k*7,none⟩ (.int .i64 e.k)).setCell ⟨B,k*7+1,none⟩ (.int .i64 e.n)).setCell ⟨B,k*7+2,none⟩ (.int .i64 e.v.k)).setCell ⟨B,k*7+3,none⟩ (.int .i64 e.v.n)).setCell ⟨B,k*7+4,none⟩ (.string e.v.s)).setCell ⟨B,k*7+5,none⟩ (.string e.p)).setCell ⟨B,k*7+6,none⟩ u) d B es (G++ [g]) (k+1):=by
 have hlt:=h.lt hk;obtain⟨⟨f,hf,he⟩,hl,ho⟩:=h;have hblk:∀b,B+1≤b→(((((((w.setCell ⟨B,k*7,none⟩ (.int .i64 e.k)).setCell ⟨B,k*7+1,none⟩ (.int .i64 e.n)).setCell ⟨B,k*7+2,none⟩ (.int .i64 e.v.k)).setCell ⟨B,k*7+3,none⟩ (.int .i64 e.v.n)).setCell ⟨B,k*7+4,none⟩ (.string e.v.s)).setCell ⟨B,k*7+5,none⟩ (.string e.p)).setCell ⟨B,k*7+6,none⟩ u).heap[b]?=w.heap[b]?:=by
  intro b hb;repeat rw[bS8 _ _ _ _ (by show b≠B;omega)]
 have hsz:w.heap.size≤(((((((w.setCell ⟨B,k*7,none⟩ (.int .i64 e.k)).setCell ⟨B,k*7+1,none⟩ (.int .i64 e.n)).setCell ⟨B,k*7+2,none⟩ (.int .i64 e.v.k)).setCell ⟨B,k*7+3,none⟩ (.int .i64 e.v.n)).setCell ⟨B,k*7+4,none⟩ (.string e.v.s)).setCell ⟨B,k*7+5,none⟩ (.string e.p)).setCell ⟨B,k*7+6,none⟩ u).heap.size:=by simp
 refine⟨⟨_,((((((hf.set _ _).set _ _).set _ _).set _ _).set _ _).set _ _).set _ _,fun i y hi hy=>?_⟩,by simp[hl],?_⟩
 ·by_cases ei:i=k
  ·subst ei;obtain rfl:y=e:=by rw[hx]at hy;exact(Option.some.inj hy).symm
   refine⟨hw,by simp,by simp,by simp,by simp,by simp,by simp,g,?_,?_⟩
   ·rw[List.getElem?_append_right (by omega)];simp[hl]
   ·simp only[if_true];exact hK.keep hsz fun b hb=>hblk b (hB.2 b hb).1
  ·obtain⟨a0,a1,a2,a3,a4,a5,a6,g',hg',hK'⟩:=he i y (by omega) hy;have n:∀p q:Nat,p<7→q<7→i*7+p≠k*7+q:=by intro p q hp hq;omega
   have n0:∀q:Nat,q<7→i*7≠k*7+q:=by intro q hq;omega
   have n1:∀p:Nat,p<7→i*7+p≠k*7:=by intro q hq;omega
   have n2:i*7≠k*7:=by omega
   refine⟨a0,?_,?_,?_,?_,?_,?_,g',?_,?_⟩
   ·simp only[if_neg n2,if_neg (n0 1 (by omega)),if_neg (n0 2 (by omega)),if_neg (n0 3 (by omega)),if_neg (n0 4 (by omega)),if_neg (n0 5 (by omega)),if_neg (n0 6 (by omega))];exact a1
   ·simp only[if_neg (n1 1 (by omega)),if_neg (n 1 1 (by omega) (by omega)),if_neg (n 1 2 (by omega) (by omega)),if_neg (n 1 3 (by omega) (by omega)),if_neg (n 1 4 (by omega) (by omega)),if_neg (n 1 5 (by omega) (by omega)),if_neg (n 1 6 (by omega) (by omega))];exact a2
   ·simp only[if_neg (n1 2 (by omega)),if_neg (n 2 1 (by omega) (by omega)),if_neg (n 2 2 (by omega) (by omega)),if_neg (n 2 3 (by omega) (by omega)),if_neg (n 2 4 (by omega) (by omega)),if_neg (n 2 5 (by omega) (by omega)),if_neg (n 2 6 (by omega) (by omega))];exact a3
   ·simp only[if_neg (n1 3 (by omega)),if_neg (n 3 1 (by omega) (by omega)),if_neg (n 3 2 (by omega) (by omega)),if_neg (n 3 3 (by omega) (by omega)),if_neg (n 3 4 (by omega) (by omega)),if_neg (n 3 5 (by omega) (by omega)),if_neg (n 3 6 (by omega) (by omega))];exact a4
   ·simp only[if_neg (n1 4 (by omega)),if_neg (n 4 1 (by omega) (by omega)),if_neg (n 4 2 (by omega) (by omega)),if_neg (n 4 3 (by omega) (by omega)),if_neg (n 4 4 (by omega) (by omega)),if_neg (n 4 5 (by omega) (by omega)),if_neg (n 4 6 (by omega) (by omega))];exact a5
   ·simp only[if_neg (n1 5 (by omega)),if_neg (n 5 1 (by omega) (by omega)),if_neg (n 5 2 (by omega) (by omega)),if_neg (n 5 3 (by omega) (by omega)),if_neg (n 5 4 (by omega) (by omega)),if_neg (n 5 5 (by omega) (by omega)),if_neg (n 5 6 (by omega) (by omega))];exact a6
   ·rw[List.getElem?_append_left (by omega)];exact hg'
   ·simp only[if_neg (n1 6 (by omega)),if_neg (n 6 1 (by omega) (by omega)),if_neg (n 6 2 (by omega) (by omega)),if_neg (n 6 3 (by omega) (by omega)),if_neg (n 6 4 (by omega) (by omega)),if_neg (n 6 5 (by omega) (by omega)),if_neg (n 6 6 (by omega) (by omega))];exact hK'.keep hsz fun b hb=>hblk b (ho.2 b (List.mem_flatten.2 ⟨g',mg8 hg',hb⟩)).1
 ·have hm:∀b∈(G++ [g]).flatten,b∈G.flatten∨b∈g:=by intro b hb;simpa using hb
  refine Own.keep (w:=w) ⟨?_,fun b hb=>(hm b hb).elim (ho.2 b) (hB.2 b)⟩ fun b hb=>hblk b ((hm b hb).elim (fun h=>(ho.2 b h).1) (fun h=>(hB.2 b h).1));rw[List.flatten_append,List.nodup_append];refine⟨ho.1,by simpa using hB.1,fun a ha b hb=>?_⟩;rintro rfl;exact hd a ha (by simpa using hb)
theorem HalfE.kids {w:World}{d B:Nat}{es:List E7}{G:List (List Nat)}(h:HalfE w d B es G es.length)(hm:es.length≤maxLen)(hne:es≠ []):KidsIs w (d+1) (.slice (some ⟨B,0,none⟩) es.length es.length) es (B::G.flatten)∧Own w B (B::G.flatten):=by
 obtain⟨⟨f,hf,he⟩,hl,ho⟩:=h;refine⟨⟨_,_,G,rfl,Nat.le_refl _,hm,hl,fun h=>absurd h hne,fun _=>⟨B,0,rfl,hf.lt,rfl,fun i e g hx hg=>?_⟩⟩,?_,fun b hb=>?_⟩
 ·have hi:i<es.length:=(gE1 hx).1;obtain⟨a0,a1,a2,a3,a4,a5,a6,g',hg',hK⟩:=he i e hi hx;obtain rfl:g=g':=by rw[hg]at hg';exact Option.some.inj hg'
  rw[Nat.zero_add];exact⟨a0,⟨by rw[hf.cell (by omega),a1],by rw[hf.cell (by omega),a2],by rw[hf.cell (by omega),a3],by rw[hf.cell (by omega),a4],by rw[hf.cell (by omega),a5],by rw[hf.cell (by omega),a6]⟩,_,hf.cell (by omega),hK⟩
 ·refine List.nodup_cons.2 ⟨fun h=>?_,ho.1⟩;have:=(ho.2 B h).1;omega
 ·rcases List.mem_cons.1 hb with rfl|hb
  ·exact⟨Nat.le_refl _,fun o=>hf.frozen o⟩
  ·exact⟨Nat.le_of_succ_le (ho.2 b hb).1,(ho.2 b hb).2⟩
theorem halfE_made (w:World)(z:Array Value)(d:Nat)(es:List E7):HalfE (w.alloc (.cells (madeCells z (es.length*7)) 63)) d w.heap.size es [] 0:=
 ⟨⟨fun i=>(madeCells z (es.length*7))[i]?.getD undef,⟨_,blk_alloc_new _ _,size_madeCells _ _,fun i hi=>by
  have:i<(madeCells z (es.length*7)).size:=by rw[size_madeCells];exact hi
  simp[this]⟩,fun i x hi=>by omega⟩,rfl,by simp[Own,OwnN]⟩
def ToS (d:Nat):Prop:=∀ (v:Value) (es:List E7) (F:List Nat) (w:World),KidsIs w d v es F→es.length+wtEs es≤1048576→
  Calls Tryz.prog 66 #[v] w fun e w'=>(∃u F',e=.returned u∧KidsIs w' d u es F'∧Own w' w.heap.size F')∧Below w.heap.size w w'
theorem toExp_of {d:Nat}(hS:ToS d)(e:E7)(u:Value)(F:List Nat)(w:World)(hk:KidsIs w d u e.ks F)(hn:wtE e≤1048576):Calls Tryz.prog 65 #[(.agg #[.int .i64 e.k,.int .i64 e.n,.int .i64 e.v.k,.int .i64 e.v.n,.string e.v.s,.string e.p,u])] w fun x w'=>(∃u' F',x=.returned (.agg #[.int .i64 e.k,.int .i64 e.n,.int .i64 e.v.k,.int .i64 e.v.n,.string e.v.s,.string e.p,u'])∧KidsIs w' d u' e.ks F'∧Own w' w.heap.size F')∧Below w.heap.size w w':=by
 obtain⟨a,c,rfl,_⟩:=hk.shape;have hn1:e.ks.length+wtEs e.ks≤1048576:=by rw[wtE_eq]at hn;omega
 go_enter Tryz.func65,Tryz.ntmps65;go_wp2_with fail;refine cM8 (toValue_any e.v.k e.v.n e.v.s _) ?_;rintro x w1 ⟨rfl,hb1⟩;have hz1:=hb1.size;simp only[World.size_alloc]at hz1;have hf1:=(bc8 hb1).2;have hy2:w.heap.size+1+1<w1.heap.size:=by omega
 have hy1:w.heap.size+1<w1.heap.size:=by omega
 have hy0:w.heap.size<w1.heap.size:=by omega
 have c5:w1.cell? ⟨w.heap.size,5,none⟩=some (.string e.p):=cL8 hb1 (by go_simp);have c6:w1.cell? ⟨w.heap.size,6,none⟩=some (.slice a e.ks.length c):=cL8 hb1 (by go_simp);have r0:w1.cell? ⟨w.heap.size+1,0,none⟩=some (.int .i64 0):=cL8 hb1 (by go_simp);have r1:w1.cell? ⟨w.heap.size+1,1,none⟩=some (.int .i64 0):=cL8 hb1 (by go_simp);have r2:w1.cell? ⟨w.heap.size+1,2,none⟩=some (.int .i64 0):=cL8 hb1 (by go_simp);have r3:w1.cell? ⟨w.heap.size+1,3,none⟩=some (.int .i64 0):=cL8 hb1 (by go_simp);have r4:w1.cell? ⟨w.heap.size+1,4,none⟩=some (.string ⟨#[]⟩):=cL8 hb1 (by go_simp);have r5:w1.cell? ⟨w.heap.size+1,5,none⟩=some (.string ⟨#[]⟩):=cL8 hb1 (by go_simp);have r6:w1.cell? ⟨w.heap.size+1,6,none⟩=some (.slice none 0 0):=cL8 hb1 (by go_simp);have t0:w1.cell? ⟨w.heap.size+1+1,0,none⟩=some (.int .i64 e.k):=cL8 hb1 (by go_simp);have t1:w1.cell? ⟨w.heap.size+1+1,1,none⟩=some (.int .i64 e.n):=cL8 hb1 (by go_simp);have t2:w1.cell? ⟨w.heap.size+1+1,2,none⟩=some (.int .i64 0):=cL8 hb1 (by go_simp);have t3:w1.cell? ⟨w.heap.size+1+1,3,none⟩=some (.int .i64 0):=cL8 hb1 (by go_simp);have t4:w1.cell? ⟨w.heap.size+1+1,4,none⟩=some (.string ⟨#[]⟩):=cL8 hb1 (by go_simp);have t5:w1.cell? ⟨w.heap.size+1+1,5,none⟩=some (.string ⟨#[]⟩):=cL8 hb1 (by go_simp);have t6:w1.cell? ⟨w.heap.size+1+1,6,none⟩=some (.slice none 0 0):=cL8 hb1 (by go_simp);go_wp2_with fail;refine cM8 (hS (.slice a e.ks.length c) e.ks F _ (hk.below ?hb) hn1) ?_
 case hb=>exact bela
 rintro x w2 ⟨⟨u2,F2,rfl,hK2,hO2⟩,hb2⟩;have hz2:=hb2.size;simp only[World.size_setCell]at hz2 hO2;have hf2:=(bc8 hb2).2;obtain⟨a2,c2,rfl,_⟩:=hK2.shape;have hy5:w.heap.size+1+1<w2.heap.size:=by omega
 have hy4:w.heap.size+1<w2.heap.size:=by omega
 have R0:w2.cell? ⟨w.heap.size+1,0,none⟩=some (.int .i64 0):=cL8 hb2 (by go_simp);have R1:w2.cell? ⟨w.heap.size+1,1,none⟩=some (.int .i64 0):=cL8 hb2 (by go_simp);have R2:w2.cell? ⟨w.heap.size+1,2,none⟩=some (.int .i64 0):=cL8 hb2 (by go_simp);have R3:w2.cell? ⟨w.heap.size+1,3,none⟩=some (.int .i64 0):=cL8 hb2 (by go_simp);have R4:w2.cell? ⟨w.heap.size+1,4,none⟩=some (.string ⟨#[]⟩):=cL8 hb2 (by go_simp);have R5:w2.cell? ⟨w.heap.size+1,5,none⟩=some (.string ⟨#[]⟩):=cL8 hb2 (by go_simp);have R6:w2.cell? ⟨w.heap.size+1,6,none⟩=some (.slice none 0 0):=cL8 hb2 (by go_simp);have T0:w2.cell? ⟨w.heap.size+1+1,0,none⟩=some (.int .i64 e.k):=cL8 hb2 (by go_simp);have T1:w2.cell? ⟨w.heap.size+1+1,1,none⟩=some (.int .i64 e.n):=cL8 hb2 (by go_simp);have T2:w2.cell? ⟨w.heap.size+1+1,2,none⟩=some (.int .i64 e.v.k):=cL8 hb2 (by go_simp);have T3:w2.cell? ⟨w.heap.size+1+1,3,none⟩=some (.int .i64 e.v.n):=cL8 hb2 (by go_simp);have T4:w2.cell? ⟨w.heap.size+1+1,4,none⟩=some (.string e.v.s):=cL8 hb2 (by go_simp);have T5:w2.cell? ⟨w.heap.size+1+1,5,none⟩=some (.string e.p):=cL8 hb2 (by go_simp);have T6:w2.cell? ⟨w.heap.size+1+1,6,none⟩=some (.slice none 0 0):=cL8 hb2 (by go_simp);have bel2:Below w.heap.size w w2:=bela;clear hb1 hb2 c5 c6 r0 r1 r2 r3 r4 r5 r6 t0 t1 t2 t3 t4 t5 t6;go_wp2;refine bodyPost_ret (v:=(.agg #[.int .i64 e.k,.int .i64 e.n,.int .i64 e.v.k,.int .i64 e.v.n,.string e.v.s,.string e.p,(.slice a2 e.ks.length c2)])) (by simp[results,Tryz.results65,go_sem, *]) rfl ⟨⟨_,F2,rfl,?_,?_⟩,?_⟩
 ·refine hK2.keep (by simp) fun b hb=>?_;have:=(hO2.2 b hb).1;repeat rw[bS8 _ _ _ _ (by simp;try omega)]
 ·refine Own.keep (w:=w2) ⟨hO2.1,fun b hb=>⟨by have:=(hO2.2 b hb).1;omega,(hO2.2 b hb).2⟩⟩ fun b hb=>?_;have:=(hO2.2 b hb).1;repeat rw[bS8 _ _ _ _ (by simp;try omega)]
 ·repeat (first|(with_reducible exact bel2)|(with_reducible refine Below.setCell ?_ ?hh _;case hh=>(simp;try omega)))
theorem toExpS_step {d:Nat}(hS:ToS d):ToS (d+1):=by
 intro v es F w hr hn;obtain⟨a,c,b,o,G,rfl,hl,hc,hG,_,ha⟩:=hr.pick;unfold maxLen at hc;clear hr;have hn1:es.length≤1048576:=by omega
 have hmk:=run_make_wide (P:=Tryz.prog) 61 63 _ 7 88 Tryz.underlying61 Tryz.infoExp es.length (by omega) (by omega);go_enter Tryz.func66,Tryz.ntmps66;go_wp2;go_loopw [4] (fun i wr=> ∃ (k:Nat) (G':List (List Nat)),k≤es.length∧i=.int .i64 k∧Below w.heap.size w wr∧HalfE wr d w.heap.size es G' k) (fun i _=>es.length - (intOf i).toNat)
 case atStart=>exact⟨0,[],Nat.zero_le _,rfl,by go_grown,halfE_made _ _ _ _⟩
 case round=>
  obtain⟨k,G',hk,rfl,hb,hH⟩:=hrel;clear hmk;by_cases hlt:k<es.length
  ·have hzb:=hb.size;obtain⟨rfl,hblt,_,hL⟩:=ha k hlt;obtain⟨x,g,u,hx,hg,hxw,⟨c0,c1,c2,c3,c4,c5⟩,c6,hK,hbr⟩:=hL.at hG hblt hb hlt;have HX:Hid (es[k]?=some x):=hx;have hxn:wtE x≤1048576:=by have:=wtE_mem (mg8 hx);omega
   have hBr:=(hH.cells hlt).2.2.2.2.2.2.2.2;have hHl:=hH.lt hk;clear ha hL hx;go_wp2_with(go_at_call 65;refine(toExp_of hS _ _ _ _ hK hxn).mono ?_;rintro e w1 ⟨⟨u1,F1,rfl,hK1,hO1⟩,hb1⟩;obtain⟨a1,n1,rfl,_⟩:=hK1.shape;have hz1:=hb1.size;have hH1:=hH.below hk hb1;obtain⟨⟨y0,q0⟩,⟨y1,q1⟩,⟨y2,q2⟩,⟨y3,q3⟩,⟨y4,q4⟩,⟨y5,q5⟩,⟨y6,q6⟩,gf,gs⟩:=hH1.cells hlt);refine⟨⟨k+1,_,hlt,by simp,?_,hH1.step hk HX.out hxw hK1 ⟨hO1.1,fun b hb=>⟨by have:=(hO1.2 b hb).1;omega,(hO1.2 b hb).2⟩⟩ (fun b hb hb'=>by have:=(hO1.2 b hb').1;have:=hHl b hb;omega)⟩,by simp[intOf];omega⟩;exact bex
  ·go_wp2;go_returns;obtain rfl:k=es.length:=by omega
   by_cases hne:es=[]
   ·subst hne;exact⟨⟨_,[],rfl,⟨_,_,[],rfl,Nat.le_refl _,by simp,rfl,fun _=>rfl,fun h=>absurd rfl h⟩,by simp[Own,OwnN]⟩,hb⟩
   ·obtain⟨h1,h2⟩:=hH.kids (by unfold maxLen;omega) hne;exact⟨⟨_,_,rfl,h1,h2⟩,hb⟩
theorem toExpS_any:∀d,ToS d
 |0=>fun _ _ _ _ h=>h.elim
 |d+1=>toExpS_step (toExpS_any d)
theorem toExp_any {d:Nat}(e:E7)(u:Value)(F:List Nat)(w:World)(hk:KidsIs w d u e.ks F)(hn:wtE e≤1048576):Calls Tryz.prog 65 #[(.agg #[.int .i64 e.k,.int .i64 e.n,.int .i64 e.v.k,.int .i64 e.v.n,.string e.v.s,.string e.p,u])] w fun x w'=>(∃u' F',x=.returned (.agg #[.int .i64 e.k,.int .i64 e.n,.int .i64 e.v.k,.int .i64 e.v.n,.string e.v.s,.string e.p,u'])∧KidsIs w' d u' e.ks F'∧Own w' w.heap.size F')∧Below w.heap.size w w':=
 toExp_of (toExpS_any d) e u F w hk hn
end
section
open Go.RowKit
theorem eqV (k n k' n':Int)(s s':ByteArray)(w:World):(binOp .eql 60 (.agg #[.int .i64 k,.int .i64 n,.string s]) (.agg #[.int .i64 k',.int .i64 n',.string s'])).run Tryz.prog w=.ok (.bool (k==k' && (n==n' &&s.toList==s'.toList))) w:=by
 have u3:=Tryz.underlying3;have a3:=Tryz.isAgg3;have z3:=Tryz.sizeOf3;have u9:=Tryz.underlying9;have a9:=Tryz.isAgg9;have z9:=Tryz.sizeOf9;have hS:Tryz.prog.underlying 60=some (.struct (Tryz.prog.fieldsOf 60)):=by kernel_rfl
 have hp:Tryz.prog.stoodInHeld 60=false:=by kernel_rfl
 rw[run_eql_struct,show(10000:Nat)=9999+1 from rfl,run_equalIn_agg w 9999 60 _ _ hS hp];simp only[Program.fieldsOf,Tryz.underlying60];go_simp;by_cases h1:k=k'<;>by_cases h2:n=n'<;>by_cases h3:s.toList=s'.toList<;>simp[h1,h2,h3]
end
section
open Go.RowKit
attribute [local go_sem] ta_nullForm_nullForm ta_nullForm_intForm ta_nullForm_boolForm ta_nullForm_textForm ta_intForm_nullForm ta_intForm_intForm ta_intForm_boolForm ta_intForm_textForm ta_boolForm_nullForm ta_boolForm_intForm ta_boolForm_boolForm ta_boolForm_textForm ta_textForm_nullForm ta_textForm_intForm ta_textForm_boolForm ta_textForm_textForm ta_nil_nullForm ta_nil_intForm ta_nil_boolForm ta_nil_textForm
def okB (k n:Int)(s:ByteArray):Bool:=
 if k=0 then n==0 &&s.toList==[]else if k=1 then s.toList==[]else if k=2 then(n==0||n==1) &&s.toList==[]else if k=3 then n==0 &&decide (s.size≤100)else false
theorem okB_0 (n:Int)(s:ByteArray):okB 0 n s=(n==0 &&s.toList==[]):=rfl
theorem okB_1 (n:Int)(s:ByteArray):okB 1 n s=(s.toList==[]):=rfl
theorem okB_2 (n:Int)(s:ByteArray):okB 2 n s=((n==0||n==1) &&s.toList==[]):=rfl
theorem okB_3 (n:Int)(s:ByteArray):okB 3 n s=(n==0 &&decide (s.size≤100)):=rfl
theorem okB_x (k n:Int)(s:ByteArray)(h0:¬k=0)(h1:¬k=1)(h2:¬k=2)(h3:¬k=3):okB k n s=false:=by simp[okB,h0,h1,h2,h3]
theorem formOf_0 (n:Int)(s:ByteArray)(w:World):Calls Tryz.prog 144 #[(.agg #[.int .i64 0,.int .i64 n,.string s])] w fun e w'=>e=.returned (.iface 246 (.agg #[]))∧w'=w.alloc (.cells #[.int .i64 0,.int .i64 n,.string s] 60):=by
 go_enter Tryz.func144,Tryz.ntmps144;go_wp2;go_returns;exact⟨rfl,rfl⟩
theorem formOf_1 (n:Int)(s:ByteArray)(w:World):Calls Tryz.prog 144 #[(.agg #[.int .i64 1,.int .i64 n,.string s])] w fun e w'=>e=.returned (.iface 248 (.agg #[.int .i64 n]))∧w'=w.alloc (.cells #[.int .i64 1,.int .i64 n,.string s] 60):=by
 go_enter Tryz.func144,Tryz.ntmps144;go_wp2;go_returns;exact⟨rfl,rfl⟩
theorem formOf_2 (n:Int)(s:ByteArray)(w:World):Calls Tryz.prog 144 #[(.agg #[.int .i64 2,.int .i64 n,.string s])] w fun e w'=>e=.returned (.iface 249 (.agg #[.int .i64 n]))∧w'=w.alloc (.cells #[.int .i64 2,.int .i64 n,.string s] 60):=by
 go_enter Tryz.func144,Tryz.ntmps144;go_wp2;go_returns;exact⟨rfl,rfl⟩
theorem formOf_3 (n:Int)(s:ByteArray)(w:World):Calls Tryz.prog 144 #[(.agg #[.int .i64 3,.int .i64 n,.string s])] w fun e w'=>e=.returned (.iface 251 (.agg #[.string s]))∧w'=w.alloc (.cells #[.int .i64 3,.int .i64 n,.string s] 60):=by
 go_enter Tryz.func144,Tryz.ntmps144;go_wp2;go_returns;exact⟨rfl,rfl⟩
theorem formOf_x (k:Int)(n:Int)(s:ByteArray)(w:World)(h0:(k==0)=false)(h1:(k==1)=false)(h2:(k==2)=false)(h3:(k==3)=false):Calls Tryz.prog 144 #[(.agg #[.int .i64 k,.int .i64 n,.string s])] w fun e w'=>e=.returned (.nilIface)∧w'=w.alloc (.cells #[.int .i64 k,.int .i64 n,.string s] 60):=by
 go_enter Tryz.func144,Tryz.ntmps144;go_wp2;go_returns;exact⟨rfl,rfl⟩
theorem valueOf_2 (n:Int)(w:World):Calls Tryz.prog 145 #[.iface 249 (.agg #[.int .i64 n])] w fun e w'=>e=.returned (.agg #[.int .i64 2,.int .i64 n,.string ⟨#[]⟩])∧Below w.heap.size w w':=by
 go_enter Tryz.func145,Tryz.ntmps145;go_wp2;go_returns;refine⟨rfl,?_⟩
 go_grown
theorem valueOf_3 (s:ByteArray)(w:World):Calls Tryz.prog 145 #[.iface 251 (.agg #[.string s])] w fun e w'=>e=.returned (.agg #[.int .i64 3,.int .i64 0,.string s])∧Below w.heap.size w w':=by
 go_enter Tryz.func145,Tryz.ntmps145;go_wp2;go_returns;refine⟨rfl,?_⟩
 go_grown
theorem inRange_2 (n:Int)(w:World)(h:n=0∨n=1):Calls Tryz.prog 208 #[.agg #[.int .i64 n]] w fun e w'=>e=.returned (.bool true)∧Below w.heap.size w w':=by
 rcases h with rfl|rfl
 ·go_enter Tryz.func208,Tryz.ntmps208;go_wp2;go_returns;refine⟨rfl,?_⟩
  go_grown
 ·go_enter Tryz.func208,Tryz.ntmps208;go_wp2;go_returns;refine⟨rfl,?_⟩
  go_grown
theorem inRange_2x (n:Int)(w:World)(h0:(n==0)=false)(h1:(n==1)=false):Calls Tryz.prog 208 #[.agg #[.int .i64 n]] w fun e w'=>e=.returned (.bool false)∧Below w.heap.size w w':=by
 go_enter Tryz.func208,Tryz.ntmps208;go_wp2;go_returns;refine⟨rfl,?_⟩
 go_grown
theorem inRange_3 (s:ByteArray)(w:World)(hs:s.size≤maxLen)(h:(s.size:Int)≤100):Calls Tryz.prog 209 #[.agg #[.string s]] w fun e w'=>e=.returned (.bool true)∧Below w.heap.size w w':=by
 unfold maxLen at hs;go_enter Tryz.func209,Tryz.ntmps209;go_wp2;go_returns;refine⟨rB8 (by first|(simp;done)|(simp;omega)),?_⟩
 go_grown
theorem inRange_3x (s:ByteArray)(w:World)(hs:s.size≤maxLen)(h:100<(s.size:Int)):Calls Tryz.prog 209 #[.agg #[.string s]] w fun e w'=>e=.returned (.bool false)∧Below w.heap.size w w':=by
 unfold maxLen at hs;have hd:decide ((s.size:Int)≤100)=false:=by simp;omega
 go_enter Tryz.func209,Tryz.ntmps209;go_wp2;go_returns;refine⟨rfl,?_⟩
 go_grown
theorem beq0 (n:Int):((0:Int)==n)=(n==0):=by rw[Bool.eq_iff_iff,beq_iff_eq,beq_iff_eq];exact eq_comm
end
section
open Go.RowKit Go.Deep
def sameV (a b:V3):Bool:=a.k==b.k && (a.n==b.n &&a.s.toList==b.s.toList)
end
section
open Go.RowKit
def topB (a b:E7):Bool:=a.k==b.k && (a.n==b.n && (sameV a.v b.v && (a.p.toList==b.p.toList &&a.ks.length==b.ks.length)))
def sameD:Nat→E7→E7→Bool
 |0,_,_=>true
 |d+1,a,b=>topB a b && (a.ks.zip b.ks).all fun p=>sameD d p.1 p.2
def sameL (d:Nat)(xs ys:List E7):Bool:=(xs.zip ys).all fun p=>sameD d p.1 p.2
theorem sameD_eq (d:Nat)(a b:E7):sameD (d+1) a b=(topB a b &&sameL d a.ks b.ks):=rfl
end
end
end Go.Proofs.YtjhhmnjpojnoiaaGreatDoor
