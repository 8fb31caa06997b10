/- Own texts, joined: contracts that the law's proof goes by. -/
import Derived.Test.YtflokiejcjjbiaaGreatGLFits7
import Derived.Test.YtflokiejcjjbiaaGreatGLFits2
import Derived.Test.YtflokiejcjjbiaaGreatGLFits3
import Derived.Deep.OwnRows
import Derived.Handy
import Derived.Below
import Derived.LaidEql
import Derived.WideKeyRuns
import Derived.MapKept
import Derived.Carry
import Derived.Deep.AppendLies
set_option maxHeartbeats 16000000
set_option maxRecDepth 100000
set_option linter.unusedVariables false
set_option linter.unusedSimpArgs false
namespace Go.Proofs.YtflokiejcjjbiaaGreat
section
open Go.RowKit Go.Deep
theorem Tryz.infoExp:(Tryz.prog.info? 39).map (fun i=>(i.zero,i.size,i.bytes))=some (some (.agg #[.int .i64 0,.int .i64 0,.int .i64 0,.int .i64 0,.string ⟨#[]⟩,.string ⟨#[]⟩,.slice none 0 0]),7,88):=by kernel_rfl
structure HalfE (w:World)(d B:Nat)(es:List E7)(G:List (List Nat))(k:Nat):Prop where
 row:∃f,w.rowIs B 39 (es.length*7) f∧∀i e,i<k→es[i]?=some e→e.wf∧f (i*7)=.int .i64 e.k∧f (i*7+1)=.int .i64 e.n∧f (i*7+2)=.int .i64 e.v.k∧f (i*7+3)=.int .i64 e.v.n∧f (i*7+4)=.string e.v.s∧f (i*7+5)=.string e.p∧∃g,G[i]?=some g∧KidsIs w d (f (i*7+6)) e.ks g
 len:G.length=k
 own:Own w (B+1) G.flatten
theorem HalfE.lt {w:World}{d B:Nat}{es:List E7}{G:List (List Nat)}{k:Nat}(h:HalfE w d B es G k)(hk:k≤es.length):∀b∈G.flatten,b<w.heap.size:=by
 obtain⟨⟨f,hf,he⟩,hl,_⟩:=h;intro b hb;obtain⟨g,hg,hbg⟩:=List.mem_flatten.1 hb;obtain⟨i,hi,rfl⟩:=List.mem_iff_getElem.1 hg;have hi':i<es.length:=by omega
 obtain⟨_,_,_,_,_,_,_,g,hg,hK⟩:=he i es[i] (by omega) (by simp);have:G[i]=g:=by simpa [hi]using hg
 exact hK.lt b (this▸hbg)
theorem HalfE.cells {w:World}{d B:Nat}{es:List E7}{G:List (List Nat)}{k:Nat}(h:HalfE w d B es G k)(hk:k<es.length):(∃u,w.cell? ⟨B,k*7,none⟩=some u)∧(∃u,w.cell? ⟨B,k*7+1,none⟩=some u)∧(∃u,w.cell? ⟨B,k*7+2,none⟩=some u)∧(∃u,w.cell? ⟨B,k*7+3,none⟩=some u)∧(∃u,w.cell? ⟨B,k*7+4,none⟩=some u)∧(∃u,w.cell? ⟨B,k*7+5,none⟩=some u)∧(∃u,w.cell? ⟨B,k*7+6,none⟩=some u)∧(∀i,w.frozen? ⟨B,i,none⟩=false)∧B<w.heap.size:=by
 obtain⟨f,h,_⟩:=h.row;exact⟨⟨_,h.cell (by omega)⟩,⟨_,h.cell (by omega)⟩,⟨_,h.cell (by omega)⟩,⟨_,h.cell (by omega)⟩,⟨_,h.cell (by omega)⟩,⟨_,h.cell (by omega)⟩,⟨_,h.cell (by omega)⟩,fun i=>h.frozen i,h.lt⟩
theorem HalfE.keep {w w':World}{d B:Nat}{es:List E7}{G:List (List Nat)}{k:Nat}(h:HalfE w d B es G k)(hs:w.heap.size≤w'.heap.size)(hB:w'.heap[B]?=w.heap[B]?)(hF:∀b∈G.flatten,w'.heap[b]?=w.heap[b]?):HalfE w' d B es G k:=by
 obtain⟨⟨f,hf,he⟩,hl,ho⟩:=h;refine⟨⟨f,hf.of_block hB,fun i e hi hx=>?_⟩,hl,ho.keep hF⟩;obtain⟨h0,h1,h2,h3,h4,h5,h6,g,hg,hK⟩:=he i e hi hx;exact⟨h0,h1,h2,h3,h4,h5,h6,g,hg,hK.keep hs fun b hb=>hF b (List.mem_flatten.2 ⟨g,mg8 hg,hb⟩)⟩
theorem HalfE.below {w w':World}{d B:Nat}{es:List E7}{G:List (List Nat)}{k:Nat}(h:HalfE w d B es G k)(hk:k≤es.length)(hb:Below w.heap.size w w'):HalfE w' d B es G k:=by
 have hB:B<w.heap.size:=by obtain⟨f,hf,_⟩:=h.row;exact hf.lt
 exact h.keep hb.size (hb.block B hB) fun b hF=>hb.block b (h.lt hk b hF)
theorem HalfE.step {w:World}{d B:Nat}{es:List E7}{G:List (List Nat)}{k:Nat}{e:E7}{u:Value}{g:List Nat}(h:HalfE w d B es G k)(hk:k≤es.length)(hx:es[k]?=some e)(hw:e.wf)(hK:KidsIs w d u e.ks g)(hB:Own w (B+1) g)(hd:∀b∈G.flatten,b∉g):HalfE (((((((w.setCell ⟨B,k*7,none⟩ (.int .i64 e.k)).setCell ⟨B,k*7+1,none⟩ (.int .i64 e.n)).setCell ⟨B,k*7+2,none⟩ (.int .i64 e.v.k)).setCell ⟨B,k*7+3,none⟩ (.int .i64 e.v.n)).setCell ⟨B,k*7+4,none⟩ (.string e.v.s)).setCell ⟨B,k*7+5,none⟩ (.string e.p)).setCell ⟨B,k*7+6,none⟩ u) d B es (G++ [g]) (k+1):=by
 have hlt:=h.lt hk;obtain⟨⟨f,hf,he⟩,hl,ho⟩:=h;have hblk:∀b,B+1≤b→(((((((w.setCell ⟨B,k*7,none⟩ (.int .i64 e.k)).setCell ⟨B,k*7+1,none⟩ (.int .i64 e.n)).setCell ⟨B,k*7+2,none⟩ (.int .i64 e.v.k)).setCell ⟨B,k*7+3,none⟩ (.int .i64 e.v.n)).setCell ⟨B,k*7+4,none⟩ (.string e.v.s)).setCell ⟨B,k*7+5,none⟩ (.string e.p)).setCell ⟨B,k*7+6,none⟩ u).heap[b]?=w.heap[b]?:=by
  intro b hb;repeat rw[bS8 _ _ _ _ (by show b≠B;omega)]
 have hsz:w.heap.size≤(((((((w.setCell ⟨B,k*7,none⟩ (.int .i64 e.k)).setCell ⟨B,k*7+1,none⟩ (.int .i64 e.n)).setCell ⟨B,k*7+2,none⟩ (.int .i64 e.v.k)).setCell ⟨B,k*7+3,none⟩ (.int .i64 e.v.n)).setCell ⟨B,k*7+4,none⟩ (.string e.v.s)).setCell ⟨B,k*7+5,none⟩ (.string e.p)).setCell ⟨B,k*7+6,none⟩ u).heap.size:=by simp
 refine⟨⟨_,((((((hf.set _ _).set _ _).set _ _).set _ _).set _ _).set _ _).set _ _,fun i y hi hy=>?_⟩,by simp[hl],?_⟩
 ·by_cases ei:i=k
  ·subst ei;obtain rfl:y=e:=by rw[hx]at hy;exact(Option.some.inj hy).symm
   refine⟨hw,by simp,by simp,by simp,by simp,by simp,by simp,g,?_,?_⟩
   ·rw[List.getElem?_append_right (by omega)];simp[hl]
   ·simp only[if_true];exact hK.keep hsz fun b hb=>hblk b (hB.2 b hb).1
  ·obtain⟨a0,a1,a2,a3,a4,a5,a6,g',hg',hK'⟩:=he i y (by omega) hy;have n:∀p q:Nat,p<7→q<7→i*7+p≠k*7+q:=by intro p q hp hq;omega
   have n0:∀q:Nat,q<7→i*7≠k*7+q:=by intro q hq;omega
   have n1:∀p:Nat,p<7→i*7+p≠k*7:=by intro q hq;omega
   have n2:i*7≠k*7:=by omega
   refine⟨a0,?_,?_,?_,?_,?_,?_,g',?_,?_⟩
   ·simp only[if_neg n2,if_neg (n0 1 (by omega)),if_neg (n0 2 (by omega)),if_neg (n0 3 (by omega)),if_neg (n0 4 (by omega)),if_neg (n0 5 (by omega)),if_neg (n0 6 (by omega))];exact a1
   ·simp only[if_neg (n1 1 (by omega)),if_neg (n 1 1 (by omega) (by omega)),if_neg (n 1 2 (by omega) (by omega)),if_neg (n 1 3 (by omega) (by omega)),if_neg (n 1 4 (by omega) (by omega)),if_neg (n 1 5 (by omega) (by omega)),if_neg (n 1 6 (by omega) (by omega))];exact a2
   ·simp only[if_neg (n1 2 (by omega)),if_neg (n 2 1 (by omega) (by omega)),if_neg (n 2 2 (by omega) (by omega)),if_neg (n 2 3 (by omega) (by omega)),if_neg (n 2 4 (by omega) (by omega)),if_neg (n 2 5 (by omega) (by omega)),if_neg (n 2 6 (by omega) (by omega))];exact a3
   ·simp only[if_neg (n1 3 (by omega)),if_neg (n 3 1 (by omega) (by omega)),if_neg (n 3 2 (by omega) (by omega)),if_neg (n 3 3 (by omega) (by omega)),if_neg (n 3 4 (by omega) (by omega)),if_neg (n 3 5 (by omega) (by omega)),if_neg (n 3 6 (by omega) (by omega))];exact a4
   ·simp only[if_neg (n1 4 (by omega)),if_neg (n 4 1 (by omega) (by omega)),if_neg (n 4 2 (by omega) (by omega)),if_neg (n 4 3 (by omega) (by omega)),if_neg (n 4 4 (by omega) (by omega)),if_neg (n 4 5 (by omega) (by omega)),if_neg (n 4 6 (by omega) (by omega))];exact a5
   ·simp only[if_neg (n1 5 (by omega)),if_neg (n 5 1 (by omega) (by omega)),if_neg (n 5 2 (by omega) (by omega)),if_neg (n 5 3 (by omega) (by omega)),if_neg (n 5 4 (by omega) (by omega)),if_neg (n 5 5 (by omega) (by omega)),if_neg (n 5 6 (by omega) (by omega))];exact a6
   ·rw[List.getElem?_append_left (by omega)];exact hg'
   ·simp only[if_neg (n1 6 (by omega)),if_neg (n 6 1 (by omega) (by omega)),if_neg (n 6 2 (by omega) (by omega)),if_neg (n 6 3 (by omega) (by omega)),if_neg (n 6 4 (by omega) (by omega)),if_neg (n 6 5 (by omega) (by omega)),if_neg (n 6 6 (by omega) (by omega))];exact hK'.keep hsz fun b hb=>hblk b (ho.2 b (List.mem_flatten.2 ⟨g',mg8 hg',hb⟩)).1
 ·have hm:∀b∈(G++ [g]).flatten,b∈G.flatten∨b∈g:=by intro b hb;simpa using hb
  refine Own.keep (w:=w) ⟨?_,fun b hb=>(hm b hb).elim (ho.2 b) (hB.2 b)⟩ fun b hb=>hblk b ((hm b hb).elim (fun h=>(ho.2 b h).1) (fun h=>(hB.2 b h).1));rw[List.flatten_append,List.nodup_append];refine⟨ho.1,by simpa using hB.1,fun a ha b hb=>?_⟩;rintro rfl;exact hd a ha (by simpa using hb)
theorem HalfE.kids {w:World}{d B:Nat}{es:List E7}{G:List (List Nat)}(h:HalfE w d B es G es.length)(hm:es.length≤maxLen)(hne:es≠ []):KidsIs w (d+1) (.slice (some ⟨B,0,none⟩) es.length es.length) es (B::G.flatten)∧Own w B (B::G.flatten):=by
 obtain⟨⟨f,hf,he⟩,hl,ho⟩:=h;refine⟨⟨_,_,G,rfl,Nat.le_refl _,hm,hl,fun h=>absurd h hne,fun _=>⟨B,0,rfl,hf.lt,rfl,fun i e g hx hg=>?_⟩⟩,?_,fun b hb=>?_⟩
 ·have hi:i<es.length:=(gE1 hx).1;obtain⟨a0,a1,a2,a3,a4,a5,a6,g',hg',hK⟩:=he i e hi hx;obtain rfl:g=g':=by rw[hg]at hg';exact Option.some.inj hg'
  rw[Nat.zero_add];exact⟨a0,⟨by rw[hf.cell (by omega),a1],by rw[hf.cell (by omega),a2],by rw[hf.cell (by omega),a3],by rw[hf.cell (by omega),a4],by rw[hf.cell (by omega),a5],by rw[hf.cell (by omega),a6]⟩,_,hf.cell (by omega),hK⟩
 ·refine List.nodup_cons.2 ⟨fun h=>?_,ho.1⟩;have:=(ho.2 B h).1;omega
 ·rcases List.mem_cons.1 hb with rfl|hb
  ·exact⟨Nat.le_refl _,fun o=>hf.frozen o⟩
  ·exact⟨Nat.le_of_succ_le (ho.2 b hb).1,(ho.2 b hb).2⟩
theorem halfE_made (w:World)(z:Array Value)(d:Nat)(es:List E7):HalfE (w.alloc (.cells (madeCells z (es.length*7)) 39)) d w.heap.size es [] 0:=
 ⟨⟨fun i=>(madeCells z (es.length*7))[i]?.getD undef,⟨_,blk_alloc_new _ _,size_madeCells _ _,fun i hi=>by
  have:i<(madeCells z (es.length*7)).size:=by rw[size_madeCells];exact hi
  simp[this]⟩,fun i x hi=>by omega⟩,rfl,by simp[Own,OwnN]⟩
def ToS (d:Nat):Prop:=∀ (v:Value) (es:List E7) (F:List Nat) (w:World),KidsIs w d v es F→es.length+wtEs es≤1048576→
  Calls Tryz.prog 21 #[v] w fun e w'=>(∃u F',e=.returned u∧KidsIs w' d u es F'∧Own w' w.heap.size F')∧Below w.heap.size w w'
theorem toExp_of {d:Nat}(hS:ToS d)(e:E7)(u:Value)(F:List Nat)(w:World)(hk:KidsIs w d u e.ks F)(hn:wtE e≤1048576):Calls Tryz.prog 20 #[(.agg #[.int .i64 e.k,.int .i64 e.n,.int .i64 e.v.k,.int .i64 e.v.n,.string e.v.s,.string e.p,u])] w fun x w'=>(∃u' F',x=.returned (.agg #[.int .i64 e.k,.int .i64 e.n,.int .i64 e.v.k,.int .i64 e.v.n,.string e.v.s,.string e.p,u'])∧KidsIs w' d u' e.ks F'∧Own w' w.heap.size F')∧Below w.heap.size w w':=by
 obtain⟨a,c,rfl,_⟩:=hk.shape;have hn1:e.ks.length+wtEs e.ks≤1048576:=by rw[wtE_eq]at hn;omega
 go_enter Tryz.func20,Tryz.ntmps20;go_wp2_with fail;refine cM8 (toValue_any e.v.k e.v.n e.v.s _) ?_;rintro x w1 ⟨rfl,hb1⟩;have hz1:=hb1.size;simp only[World.size_alloc]at hz1;have hf1:=(bc8 hb1).2;have hy2:w.heap.size+1+1<w1.heap.size:=by omega
 have hy1:w.heap.size+1<w1.heap.size:=by omega
 have hy0:w.heap.size<w1.heap.size:=by omega
 have c5:w1.cell? ⟨w.heap.size,5,none⟩=some (.string e.p):=cL8 hb1 (by go_simp);have c6:w1.cell? ⟨w.heap.size,6,none⟩=some (.slice a e.ks.length c):=cL8 hb1 (by go_simp);have r0:w1.cell? ⟨w.heap.size+1,0,none⟩=some (.int .i64 0):=cL8 hb1 (by go_simp);have r1:w1.cell? ⟨w.heap.size+1,1,none⟩=some (.int .i64 0):=cL8 hb1 (by go_simp);have r2:w1.cell? ⟨w.heap.size+1,2,none⟩=some (.int .i64 0):=cL8 hb1 (by go_simp);have r3:w1.cell? ⟨w.heap.size+1,3,none⟩=some (.int .i64 0):=cL8 hb1 (by go_simp);have r4:w1.cell? ⟨w.heap.size+1,4,none⟩=some (.string ⟨#[]⟩):=cL8 hb1 (by go_simp);have r5:w1.cell? ⟨w.heap.size+1,5,none⟩=some (.string ⟨#[]⟩):=cL8 hb1 (by go_simp);have r6:w1.cell? ⟨w.heap.size+1,6,none⟩=some (.slice none 0 0):=cL8 hb1 (by go_simp);have t0:w1.cell? ⟨w.heap.size+1+1,0,none⟩=some (.int .i64 e.k):=cL8 hb1 (by go_simp);have t1:w1.cell? ⟨w.heap.size+1+1,1,none⟩=some (.int .i64 e.n):=cL8 hb1 (by go_simp);have t2:w1.cell? ⟨w.heap.size+1+1,2,none⟩=some (.int .i64 0):=cL8 hb1 (by go_simp);have t3:w1.cell? ⟨w.heap.size+1+1,3,none⟩=some (.int .i64 0):=cL8 hb1 (by go_simp);have t4:w1.cell? ⟨w.heap.size+1+1,4,none⟩=some (.string ⟨#[]⟩):=cL8 hb1 (by go_simp);have t5:w1.cell? ⟨w.heap.size+1+1,5,none⟩=some (.string ⟨#[]⟩):=cL8 hb1 (by go_simp);have t6:w1.cell? ⟨w.heap.size+1+1,6,none⟩=some (.slice none 0 0):=cL8 hb1 (by go_simp);go_wp2_with fail;refine cM8 (hS (.slice a e.ks.length c) e.ks F _ (hk.below ?hb) hn1) ?_
 case hb=>exact bela
 rintro x w2 ⟨⟨u2,F2,rfl,hK2,hO2⟩,hb2⟩;have hz2:=hb2.size;simp only[World.size_setCell]at hz2 hO2;have hf2:=(bc8 hb2).2;obtain⟨a2,c2,rfl,_⟩:=hK2.shape;have hy5:w.heap.size+1+1<w2.heap.size:=by omega
 have hy4:w.heap.size+1<w2.heap.size:=by omega
 have R0:w2.cell? ⟨w.heap.size+1,0,none⟩=some (.int .i64 0):=cL8 hb2 (by go_simp);have R1:w2.cell? ⟨w.heap.size+1,1,none⟩=some (.int .i64 0):=cL8 hb2 (by go_simp);have R2:w2.cell? ⟨w.heap.size+1,2,none⟩=some (.int .i64 0):=cL8 hb2 (by go_simp);have R3:w2.cell? ⟨w.heap.size+1,3,none⟩=some (.int .i64 0):=cL8 hb2 (by go_simp);have R4:w2.cell? ⟨w.heap.size+1,4,none⟩=some (.string ⟨#[]⟩):=cL8 hb2 (by go_simp);have R5:w2.cell? ⟨w.heap.size+1,5,none⟩=some (.string ⟨#[]⟩):=cL8 hb2 (by go_simp);have R6:w2.cell? ⟨w.heap.size+1,6,none⟩=some (.slice none 0 0):=cL8 hb2 (by go_simp);have T0:w2.cell? ⟨w.heap.size+1+1,0,none⟩=some (.int .i64 e.k):=cL8 hb2 (by go_simp);have T1:w2.cell? ⟨w.heap.size+1+1,1,none⟩=some (.int .i64 e.n):=cL8 hb2 (by go_simp);have T2:w2.cell? ⟨w.heap.size+1+1,2,none⟩=some (.int .i64 e.v.k):=cL8 hb2 (by go_simp);have T3:w2.cell? ⟨w.heap.size+1+1,3,none⟩=some (.int .i64 e.v.n):=cL8 hb2 (by go_simp);have T4:w2.cell? ⟨w.heap.size+1+1,4,none⟩=some (.string e.v.s):=cL8 hb2 (by go_simp);have T5:w2.cell? ⟨w.heap.size+1+1,5,none⟩=some (.string e.p):=cL8 hb2 (by go_simp);have T6:w2.cell? ⟨w.heap.size+1+1,6,none⟩=some (.slice none 0 0):=cL8 hb2 (by go_simp);have bel2:Below w.heap.size w w2:=bela;clear hb1 hb2 c5 c6 r0 r1 r2 r3 r4 r5 r6 t0 t1 t2 t3 t4 t5 t6;go_wp2;refine bodyPost_ret (v:=(.agg #[.int .i64 e.k,.int .i64 e.n,.int .i64 e.v.k,.int .i64 e.v.n,.string e.v.s,.string e.p,(.slice a2 e.ks.length c2)])) (by simp[results,Tryz.results20,go_sem, *]) rfl ⟨⟨_,F2,rfl,?_,?_⟩,?_⟩
 ·refine hK2.keep (by simp) fun b hb=>?_;have:=(hO2.2 b hb).1;repeat rw[bS8 _ _ _ _ (by simp;try omega)]
 ·refine Own.keep (w:=w2) ⟨hO2.1,fun b hb=>⟨by have:=(hO2.2 b hb).1;omega,(hO2.2 b hb).2⟩⟩ fun b hb=>?_;have:=(hO2.2 b hb).1;repeat rw[bS8 _ _ _ _ (by simp;try omega)]
 ·repeat (first|(with_reducible exact bel2)|(with_reducible refine Below.setCell ?_ ?hh _;case hh=>(simp;try omega)))
theorem toExpS_step {d:Nat}(hS:ToS d):ToS (d+1):=by
 intro v es F w hr hn;obtain⟨a,c,b,o,G,rfl,hl,hc,hG,_,ha⟩:=hr.pick;unfold maxLen at hc;clear hr;have hn1:es.length≤1048576:=by omega
 have hmk:=run_make_wide (P:=Tryz.prog) 37 39 _ 7 88 Tryz.underlying37 Tryz.infoExp es.length (by omega) (by omega);go_enter Tryz.func21,Tryz.ntmps21;go_wp2;go_loopw [4] (fun i wr=> ∃ (k:Nat) (G':List (List Nat)),k≤es.length∧i=.int .i64 k∧Below w.heap.size w wr∧HalfE wr d w.heap.size es G' k) (fun i _=>es.length - (intOf i).toNat)
 case atStart=>exact⟨0,[],Nat.zero_le _,rfl,by go_grown,halfE_made _ _ _ _⟩
 case round=>
  obtain⟨k,G',hk,rfl,hb,hH⟩:=hrel;clear hmk;by_cases hlt:k<es.length
  ·have hzb:=hb.size;obtain⟨rfl,hblt,_,hL⟩:=ha k hlt;obtain⟨x,g,u,hx,hg,hxw,⟨c0,c1,c2,c3,c4,c5⟩,c6,hK,hbr⟩:=hL.at hG hblt hb hlt;have HX:Hid (es[k]?=some x):=hx;have hxn:wtE x≤1048576:=by have:=wtE_mem (mg8 hx);omega
   have hBr:=(hH.cells hlt).2.2.2.2.2.2.2.2;have hHl:=hH.lt hk;clear ha hL hx;go_wp2_with(go_at_call 20;refine(toExp_of hS _ _ _ _ hK hxn).mono ?_;rintro e w1 ⟨⟨u1,F1,rfl,hK1,hO1⟩,hb1⟩;obtain⟨a1,n1,rfl,_⟩:=hK1.shape;have hz1:=hb1.size;have hH1:=hH.below hk hb1;obtain⟨⟨y0,q0⟩,⟨y1,q1⟩,⟨y2,q2⟩,⟨y3,q3⟩,⟨y4,q4⟩,⟨y5,q5⟩,⟨y6,q6⟩,gf,gs⟩:=hH1.cells hlt);refine⟨⟨k+1,_,hlt,by simp,?_,hH1.step hk HX.out hxw hK1 ⟨hO1.1,fun b hb=>⟨by have:=(hO1.2 b hb).1;omega,(hO1.2 b hb).2⟩⟩ (fun b hb hb'=>by have:=(hO1.2 b hb').1;have:=hHl b hb;omega)⟩,by simp[intOf];omega⟩;exact bex
  ·go_wp2;go_returns;obtain rfl:k=es.length:=by omega
   by_cases hne:es=[]
   ·subst hne;exact⟨⟨_,[],rfl,⟨_,_,[],rfl,Nat.le_refl _,by simp,rfl,fun _=>rfl,fun h=>absurd rfl h⟩,by simp[Own,OwnN]⟩,hb⟩
   ·obtain⟨h1,h2⟩:=hH.kids (by unfold maxLen;omega) hne;exact⟨⟨_,_,rfl,h1,h2⟩,hb⟩
theorem toExpS_any:∀d,ToS d
 |0=>fun _ _ _ _ h=>h.elim
 |d+1=>toExpS_step (toExpS_any d)
theorem toExp_any {d:Nat}(e:E7)(u:Value)(F:List Nat)(w:World)(hk:KidsIs w d u e.ks F)(hn:wtE e≤1048576):Calls Tryz.prog 20 #[(.agg #[.int .i64 e.k,.int .i64 e.n,.int .i64 e.v.k,.int .i64 e.v.n,.string e.v.s,.string e.p,u])] w fun x w'=>(∃u' F',x=.returned (.agg #[.int .i64 e.k,.int .i64 e.n,.int .i64 e.v.k,.int .i64 e.v.n,.string e.v.s,.string e.p,u'])∧KidsIs w' d u' e.ks F'∧Own w' w.heap.size F')∧Below w.heap.size w w':=
 toExp_of (toExpS_any d) e u F w hk hn
end
section
open Go.RowKit Go.Deep
def Fr (w:World)(b:Nat):Prop:=(∃c t l,w.heap[b]?=some (.cells c t l))∧∀o,w.frozen? ⟨b,o,none⟩=false
theorem Fr.keep {w w':World}{b:Nat}(h:Fr w b)(e:w'.heap[b]?=w.heap[b]?):Fr w' b:=
 ⟨by rw[e];exact h.1,fun o=>by simp only[World.frozen?,e];exact h.2 o⟩
theorem sameAddr_no {P:Program}(w:World){a b:Addr}(hne:a≠b)(ha:Fr w a.block)(hb:Fr w b.block):(sameAddr a b).run P w=.ok false w:=by
 by_cases hbl:a.block=b.block
 ·simp[sameAddr,hbl,hne]
 ·obtain⟨⟨ca,ta,⟨la,la'⟩,ha⟩,fa⟩:=ha;obtain⟨⟨cb,tb,⟨lb,lb'⟩,hb⟩,fb⟩:=hb;have a0:=fa a.off;have a1:=fa ca.size;have b0:=fb b.off;have b1:=fb cb.size;simp only[World.frozen?,ha,hb]at a0 a1 b0 b1;simp[sameAddr,hbl,World.frozen?,ha,hb,noView,viewAt,World.shape?,mayBeOne,stringish,a0,a1,b0,b1]
theorem getD_of {α:Type}{l:List α}{j:Nat}{x:α}(h:l[j]?=some x)(z:α):l.getD j z=x:=by rw[List.getD_eq_getElem?_getD,h];rfl
theorem flat_getD:∀ (G:List (List Nat)),((List.range G.length).map fun j=>G.getD j []).flatten=G.flatten
 | []=>rfl
 |g::G=>by
  rw[List.length_cons,List.range_succ_eq_map,List.map_cons,List.flatten_cons,List.map_map,List.flatten_cons,←flat_getD G];rfl
theorem own_keep2 {w w':World}{N e n s:Nat}{v:Value}{xs:List Value}(h:w.ownsRow N e s v n xs)(hb:Below w.heap.size w w'):w'.ownsRow N e s v n xs:=by
 refine⟨h.1,?_⟩;rcases h.2 with hn|⟨g,cap,cur,rfl,hg,hc,rest⟩
 ·exact .inl hn
 ·have hlt:g<w.heap.size:=by
   rcases Nat.lt_or_ge g w.heap.size with h'|h'
   ·exact h'
   ·simp[Array.getElem?_eq_none h']at hc
  exact .inr ⟨g,cap,cur,rfl,hg,(hb.block g hlt).trans hc,rest⟩
theorem own_keep3 {w w':World}{N e n s:Nat}{v:Value}{xs:List Value}(h:w.ownsRow N e s v n xs)(hb:∀g c t l,v.ownBlock=some g→w.heap[g]?=some (.cells c t l)→w'.heap[g]?=w.heap[g]?):w'.ownsRow N e s v n xs:=by
 refine⟨h.1,?_⟩;rcases h.2 with hn|⟨g,cap,cur,rfl,hg,hc,rest⟩
 ·exact .inl hn
 ·exact .inr ⟨g,cap,cur,rfl,hg,(hb g _ _ _ rfl hc).trans hc,rest⟩
theorem own_shape {w:World}{N e n s:Nat}{v:Value}{xs:List Value}(h:w.ownsRow N e s v n xs)(hn:0<n):∃g cap,v=.slice (some ⟨g,0,none⟩) n cap∧n≤cap∧cap≤maxLen∧N≤g∧g<w.heap.size∧∃c t l,w.heap[g]?=some (.cells c t l):=by
 rcases h.2 with⟨_,h0⟩|⟨g,cap,cur,rfl,hg,hc,hn',hm,_⟩
 ·omega
 ·refine⟨g,cap,rfl,hn',hm,hg,?_,_,_,_,hc⟩;rcases Nat.lt_or_ge g w.heap.size with h'|h'
  ·exact h'
  ·simp[Array.getElem?_eq_none h']at hc
theorem upd_world {w wX:World}{B:Nat}{o o':Obj}(hb:wX.heap[B]?=some o)(hB:w.heap.size≤B)(hX:Below w.heap.size w wX):let wY:World:={wX with heap:=wX.heap.setIfInBounds B o'}
  wY.heap[B]?=some o'∧(∀b,b≠B→wY.heap[b]?=wX.heap[b]?)∧wY.heap.size=wX.heap.size∧Below w.heap.size w wY:=by
 obtain⟨h1,h2⟩:=MapKept.heap_set (w:=wX) (o':=o') hb;refine⟨h1,h2,by simp,hX.os,hX.tape,hX.output,by simpa using hX.size,fun k hk=>(h2 k (by omega)).trans (hX.block k hk)⟩
theorem dN8 (w:World):∀n,Below w.heap.size w (w.drewN n)
 |0=>Below.refl _ _
 |n+1=>(dN8 w n).drew
theorem heap_two (w:World)(X Y:Obj):((w.alloc X).alloc Y).heap[w.heap.size]?=some X∧((w.alloc X).alloc Y).heap[w.heap.size+1]?=some Y:=by
 constructor
 ·show((w.heap.push X).push Y)[w.heap.size]?=some X;simp[Array.getElem?_push]
 ·have:=heap_alloc_new (w.alloc X) Y
  rwa [World.size_alloc]at this
theorem cells_of {w:World}{a:Addr}{v:Value}(h:w.cell? a=some v):∃c t l,w.heap[a.block]?=some (.cells c t l):=by
 unfold World.cell? at h;split at h
 ·rename_i c t l hc
  exact⟨_,_,_,hc⟩
 ·cases h
end
section
open Go.RowKit
theorem ptr_no (w:World){a b:Addr}(hne:a≠b)(ha:Fr w a.block)(hb:Fr w b.block)(d:Nat):(Op.equalIn (d+1) 163 (.pointer (some a)) (.pointer (some b))).run Tryz.prog w=.ok false w:=by
 have hp:Tryz.prog.underlying 163=some (.pointer 39):=by kernel_rfl
 obtain⟨j,hte,hsz⟩:∃j,Tryz.prog.info? 39=some j∧j.size=7:=by
  have:(Tryz.prog.info? 39).map (fun i=>i.size)=some 7:=by kernel_rfl
  obtain⟨j,h1,h2⟩:=Option.map_eq_some_iff.1 this;exact⟨j,h1,h2⟩
 have h7:j.size≠0:=by omega
 simp[Op.equalIn,run_underlying hp,sizeOf,typeInfo,hte,h7,sameAddr_no w hne ha hb]
theorem key_no (w:World){a b a' b':Addr}(hne:a≠b)(ha:Fr w a.block)(hb:Fr w b.block):(Op.equal 187 (.agg #[.pointer (some a),.pointer (some a')]) (.agg #[.pointer (some b),.pointer (some b')])).run Tryz.prog w=.ok false w:=by
 have hS:Tryz.prog.underlying 187=some (.struct (Tryz.prog.fieldsOf 187)):=by kernel_rfl
 have hp:Tryz.prog.stoodInHeld 187=false:=by kernel_rfl
 have u3:=Tryz.underlying163;have a3:=Tryz.isAgg163;have z3:=Tryz.sizeOf163;have hn:=ptr_no w hne ha hb 9998;unfold Op.equal Op.maxDepth;rw[show(10000:Nat)=9999+1 from rfl,run_equalIn_agg w 9999 _ _ _ hS hp];simp only[Program.fieldsOf,Tryz.underlying187];go_simp
theorem find_none (w:World){p q:Addr}(hp:Fr w p.block):∀ (es:List MapEntry) (i:Nat),(∀e∈es,∃a a',e.key=.agg #[.pointer (some a),.pointer (some a')]∧p≠a∧Fr w a.block)→
  (Instr.findAsking 187 (.agg #[.pointer (some p),.pointer (some q)]) es i).run Tryz.prog w=.ok none w
 | [],i,_=>by simp[Instr.findAsking]
 |e::es,i,h=>by
  obtain⟨a,a',he,hne,hF⟩:=h e List.mem_cons_self;have h1:=key_no w (a:=p) (b:=a) (a':=q) (b':=a') hne hp hF;simp[Instr.findAsking,he,h1,find_none w hp es (i+1) fun e' he'=>h e' (List.mem_cons_of_mem _ he')]
theorem check_ptr (w:World)(em:Bool)(n:Nat)(a:Addr):(Instr.checkKey em (n+1) 163 (.pointer (some a))).run Tryz.prog w=.ok () w:=by
 have hp:Tryz.prog.underlying 163=some (.pointer 39):=by kernel_rfl
 simp[Instr.checkKey,run_underlying hp]
theorem check_pair (w:World)(em:Bool)(n:Nat)(p q:Addr):(Instr.checkKey em (n+2) 187 (.agg #[.pointer (some p),.pointer (some q)])).run Tryz.prog w=.ok () w:=by
 have hS:=Tryz.underlying187;have a3:=Tryz.isAgg163;have z3:=Tryz.sizeOf163;have hp1:(part 163 #[.pointer (some p),.pointer (some q)] 0).run Tryz.prog w=.ok (.pointer (some p)) w:=by go_simp
 have hp2:(part 163 #[.pointer (some p),.pointer (some q)] 1).run Tryz.prog w=.ok (.pointer (some q)) w:=by go_simp
 unfold Instr.checkKey;simp[run_underlying hS,hp1,hp2,check_ptr,Result.andThen]
theorem check_key (w:World)(em:Bool)(p q:Addr):(Instr.checkKey em 10000 187 (.agg #[.pointer (some p),.pointer (some q)])).run Tryz.prog w=.ok () w:=check_pair w em 9998 p q
theorem find_key (w:World){p q:Addr}(hp:Fr w p.block)(es:List MapEntry)(h:∀e∈es,∃a a',e.key=.agg #[.pointer (some a),.pointer (some a')]∧p≠a∧Fr w a.block):(Instr.findKey 187 (.agg #[.pointer (some p),.pointer (some q)]) es).run Tryz.prog w=.ok none w:=by
 rw[run_findKey_eq w (by kernel_rfl)];exact find_none w hp es 0 h
theorem look_no (w:World){B:Nat}{es:Array MapEntry}{ck:Nat}{p q:Addr}(hb:w.heap[B]?=some (.map es ck))(hp:Fr w p.block)(h:∀e∈es.toList,∃a a',e.key=.agg #[.pointer (some a),.pointer (some a')]∧p≠a∧Fr w a.block):Sem.run Tryz.prog (Instr.lookup 189 (.map (some B)) (.agg #[.pointer (some p),.pointer (some q)]) true) w=.ok (.tuple #[.int .i64 0,.bool false]) w:=by
 have hm:Tryz.prog.underlying 189=some (.map 187 3):=by kernel_rfl
 have hz:(zeroValue 3).run Tryz.prog w=.ok (.int .i64 0) w:=by go_simp
 simp[Instr.lookup,run_underlying hm,MapKept.run_getObj_map hb,check_key,find_key w hp es.toList h,hz,Result.andThen]
theorem upd_no (w:World){B:Nat}{es:Array MapEntry}{ck:Nat}{p q:Addr}{v:Value}(hb:w.heap[B]?=some (.map es ck))(hp:Fr w p.block)(h:∀e∈es.toList,∃a a',e.key=.agg #[.pointer (some a),.pointer (some a')]∧p≠a∧Fr w a.block):Sem.run Tryz.prog (Instr.mapUpdate 189 (.map (some B)) (.agg #[.pointer (some p),.pointer (some q)]) v) w=.ok () {w with heap:=w.heap.setIfInBounds B (.map (es.push ⟨.agg #[.pointer (some p),.pointer (some q)],v,ck⟩) (ck+1))}:=by
 have hm:Tryz.prog.underlying 189=some (.map 187 3):=by kernel_rfl
 simp[Instr.mapUpdate,run_underlying hm,MapKept.run_getObj_map hb,check_key,find_key w hp es.toList h,MapKept.run_setObj_map _ hb,Result.andThen]
end
section
open Go.RowKit Go.Deep
def FreeE (w:World)(F:List Nat):Prop:=∀b∈F,∀o,w.frozen? ⟨b,o,none⟩=false
structure ChgE (F:List Nat)(w w':World):Prop where
 os:w'.os=w.os
 tape:w'.tape=w.tape
 output:w'.output=w.output
 size:w.heap.size≤w'.heap.size
 block:∀k,k<w.heap.size→k∉F→w'.heap[k]?=w.heap[k]?
 free:FreeE w F→FreeE w' F
theorem ChgE.of_below {w w':World}{F:List Nat}(h:Below w.heap.size w w')(hF:∀b∈F,b<w.heap.size):ChgE F w w':=
 ⟨h.os,h.tape,h.output,h.size,fun k hk _=>h.block k hk,fun f b hb o=>(fb8 (h.block b (hF b hb))).trans (f b hb o)⟩
theorem ChgE.refl (F:List Nat)(w:World):ChgE F w w:=⟨rfl,rfl,rfl,Nat.le_refl _,fun _ _ _=>rfl,id⟩
theorem ChgE.trans {a b c:World}{F:List Nat}(h:ChgE F a b)(k:ChgE F b c):ChgE F a c:=
 ⟨k.os.trans h.os,k.tape.trans h.tape,k.output.trans h.output,Nat.le_trans h.size k.size,fun i hi hF=>(k.block i (Nat.lt_of_lt_of_le hi h.size) hF).trans (h.block i hi hF),fun f=>k.free (h.free f)⟩
theorem ChgE.setCell {w w':World}{F:List Nat}(h:ChgE F w w'){p:Addr}(hp:p.block∈F)(u:Value):ChgE F w (w'.setCell p u):=
 ⟨h.os,h.tape,h.output,by simpa using h.size,fun k hk hF=>(bS8 _ _ _ _ (by rintro rfl;exact hF hp)).trans (h.block k hk hF),fun f b hb o=>by rw[World.frozen?_setCell];exact h.free f b hb o⟩
theorem ChgE.wide {w w':World}{F G:List Nat}(h:ChgE F w w')(hs:∀b∈F,b∈G)(hG:∀b∈G,b∉F→b<w.heap.size):ChgE G w w':=
 ⟨h.os,h.tape,h.output,h.size,fun k hk hF=>h.block k hk fun hx=>hF (hs k hx),fun f b hb o=>by
  by_cases hx:b∈F
  ·exact h.free (fun c hc=>f c (hs c hc)) b hx o
  ·exact(fb8 (h.block b (hG b hb hx) hx)).trans (f b hb o)⟩
theorem ChgE.below {w w':World}{F:List Nat}{N:Nat}(h:ChgE F w w')(hF:∀b∈F,N≤b)(hN:N≤w.heap.size):Below N w w':=
 ⟨h.os,h.tape,h.output,h.size,fun k hk=>h.block k (by omega) fun hx=>by have:=hF k hx;omega⟩
end
section
open Go.RowKit
theorem KidsIs.cellsF {w:World}:∀ {d:Nat} {v:Value} {es:List E7} {F:List Nat},KidsIs w d v es F→∀b∈F,∃c t l,w.heap[b]?=some (.cells c t l)
 |0,_,_,_,h=>h.elim
 |d+1,v,es,F,h=>by
  obtain⟨a,c,G,rfl,_,_,hG,h0,h⟩:=h;by_cases hne:es=[]
  ·rw[h0 hne];intro b hb;cases hb
  obtain⟨b,o,rfl,hlt,rfl,hL⟩:=h hne;intro x hx;have hp:0<es.length:=List.length_pos_iff.2 hne;have hpG:0<G.length:=by omega
  rcases List.mem_cons.1 hx with rfl|hx
  ·obtain⟨_,⟨hc,_⟩,_⟩:=hL 0 es[0] G[0] (by simp) (by simp);exact cells_of hc
  obtain⟨g,hg,hxg⟩:=List.mem_flatten.1 hx;obtain⟨i,hi,rfl⟩:=List.mem_iff_getElem.1 hg;have hi':i<es.length:=by omega
  obtain⟨_,_,u,_,hk⟩:=hL i es[i] G[i] (by simp) (by simp);exact hk.cellsF x hxg
theorem KidsIs.frF {w:World}{d N:Nat}{v:Value}{es:List E7}{F:List Nat}(h:KidsIs w d v es F)(ho:Own w N F):∀b∈F,Fr w b:=fun b hb=>⟨h.cellsF b hb,(ho.2 b hb).2⟩
theorem Own.dst {w:World}{N d:Nat}{v:Value}{es:List E7}{F:List Nat}(ho:Own w N F)(h:KidsIs w d v es F):F.Nodup∧∀b∈F,Fr w b:=⟨ho.1,h.frF ho⟩
end
end Go.Proofs.YtflokiejcjjbiaaGreat
