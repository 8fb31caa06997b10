/- Own text. The contract of toRelS: new relations with the same names and bags, all of it in memory of the call's own. -/
import Derived.Test.YtjhhmnjpojnoiaaGreatDoorGLWithViews4
import Derived.Test.YtjhhmnjpojnoiaaGreatDoorGLWithViews1
import Derived.Test.YtjhhmnjpojnoiaaGreatDoorGLWithViews3
import Derived.Handy
set_option maxHeartbeats 16000000
set_option maxRecDepth 100000
set_option linter.unusedVariables false
set_option linter.unusedSimpArgs false
namespace Go.Proofs.YtjhhmnjpojnoiaaGreatDoor
section
section
open Go.RowKit Go.Deep
theorem Tryz.infoRel:(Tryz.prog.info? 59).map (fun i=>(i.zero,i.size,i.bytes))=some (some (.agg #[.string ⟨#[]⟩,.int .i64 0,.slice none 0 0]),3,48):=by kernel_rfl
def HalfR (w:World)(B0:Nat)(rs:List R3)(k:Nat):Prop:=
 ∃f,w.rowIs B0 59 (rs.length*3) f∧∀i x,i<k→rs[i]?=some x→f (i*3)=.string x.s∧f (i*3+1)=.int .i64 x.W∧∃B g,B0<B∧f (i*3+2)=.slice (some ⟨B,0,none⟩) x.cs.length x.cs.length∧HalfB w B x.cs g x.cs.length
theorem HalfR.cells {w:World}{B:Nat}{rs:List R3}{k:Nat}(h:HalfR w B rs k)(hk:k<rs.length):(∃u,w.cell? ⟨B,k*3,none⟩=some u)∧(∃u,w.cell? ⟨B,k*3+1,none⟩=some u)∧(∃u,w.cell? ⟨B,k*3+2,none⟩=some u)∧(∀i,w.frozen? ⟨B,i,none⟩=false)∧B<w.heap.size:=by
 obtain⟨f,h,_⟩:=h;exact⟨⟨_,h.cell (by omega)⟩,⟨_,h.cell (by omega)⟩,⟨_,h.cell (by omega)⟩,fun i=>h.frozen i,h.lt⟩
theorem HalfR.below {w w':World}{B:Nat}{rs:List R3}{k:Nat}(h:HalfR w B rs k)(hb:Below w.heap.size w w'):HalfR w' B rs k:=by
 obtain⟨f,hf,he⟩:=h;refine⟨f,hf.of_block (hb.block _ hf.lt),fun i x hi hx=>?_⟩;obtain⟨h0,h1,B,g,hB,h2,hH⟩:=he i x hi hx;exact⟨h0,h1,B,g,hB,h2,hH.below (Nat.le_refl _) hb⟩
theorem HalfR.step {w:World}{B D:Nat}{rs:List R3}{g:Nat→Nat}{k:Nat}{x:R3}(h:HalfR w B rs k)(hx:rs[k]?=some x)(hD:HalfB w D x.cs g x.cs.length)(hB:B<D):HalfR (((w.setCell ⟨B,k*3,none⟩ (.string x.s)).setCell ⟨B,k*3+1,none⟩ (.int .i64 x.W)).setCell ⟨B,k*3+2,none⟩ (.slice (some ⟨D,0,none⟩) x.cs.length x.cs.length)) B rs (k+1):=by
 obtain⟨f,hf,he⟩:=h;have hblk:∀b,B<b→(((w.setCell ⟨B,k*3,none⟩ (.string x.s)).setCell ⟨B,k*3+1,none⟩ (.int .i64 x.W)).setCell ⟨B,k*3+2,none⟩ (.slice (some ⟨D,0,none⟩) x.cs.length x.cs.length)).heap[b]?=w.heap[b]?:=by
  intro b hb;repeat rw[bS8 _ _ _ _ (by show b≠B;omega)]
 refine⟨_,((hf.set _ _).set _ _).set _ _,fun i y hi hy=>?_⟩;by_cases e:i=k
 ·subst e;obtain rfl:y=x:=by rw[hx]at hy;exact(Option.some.inj hy).symm
  refine⟨by simp,by simp,D,g,hB,by simp,hD.keep (Nat.le_refl _) fun b hb=>hblk b (by omega)⟩
 ·have n:∀p q:Nat,p<3→q<3→i*3+p≠k*3+q:=by intro p q hp hq;omega
  have n0:∀q:Nat,q<3→i*3≠k*3+q:=by intro q hq;omega
  have n1:∀p:Nat,p<3→i*3+p≠k*3:=by intro q hq;omega
  have n2:i*3≠k*3:=by omega
  obtain⟨h0,h1,D',g',hB',h2,hH⟩:=he i y (by omega) hy;refine⟨?_,?_,D',g',hB',?_,hH.keep (Nat.le_refl _) fun b hb=>hblk b (by omega)⟩
  ·simp only[if_neg n2,if_neg (n0 1 (by omega)),if_neg (n0 2 (by omega))];exact h0
  ·simp only[if_neg (n1 1 (by omega)),if_neg (n 1 1 (by omega) (by omega)),if_neg (n 1 2 (by omega) (by omega))];exact h1
  ·simp only[if_neg (n1 2 (by omega)),if_neg (n 2 1 (by omega) (by omega)),if_neg (n 2 2 (by omega) (by omega))];exact h2
theorem wtb_rows {cs:List C2}(h:wtb cs≤1048576):(∀x∈cs,x.r.length≤maxLen)∧cs.length≤maxLen:=
 ⟨fun x hx=>by have:=wt_mem hx;unfold wt at this;unfold wtb at h;unfold maxLen;omega,by unfold wtb at h;unfold maxLen;omega⟩
theorem toRel_any (s:ByteArray)(W:Int)(v:Value)(cs:List C2)(w:World)(hr:RowsIs w v cs)(hn:wtb cs≤1048576):Calls Tryz.prog 20 #[.agg #[.string s,.int .i64 W,v]] w fun e w'=>(∃B g,w.heap.size≤B∧e=.returned (.agg #[.string s,.int .i64 W,.slice (some ⟨B,0,none⟩) cs.length cs.length])∧HalfB w' B cs g cs.length)∧Below w.heap.size w w':=by
 obtain⟨a,l,c,rfl⟩:=hr.shape;go_enter Tryz.func20,Tryz.ntmps20;go_wp2_with fail;refine cM8 (toBag_any W (.slice a l c) cs _ (hr.below ?hb) hn) ?_
 case hb=>exact bela
 rintro e w1 ⟨⟨B,g,hB,rfl,hH1⟩,hb1⟩;have hz1:=hb1.size;simp only[World.size_alloc]at hz1 hB;have hf1:=(bc8 hb1).2;have hy:w.heap.size+1+1<w1.heap.size:=by omega
 have hy1:w.heap.size+1<w1.heap.size:=by omega
 have hy0:w.heap.size<w1.heap.size:=by omega
 have p0:w1.cell? ⟨w.heap.size+1,0,none⟩=some (.string ⟨#[]⟩):=cL8 hb1 (by go_simp);have p1:w1.cell? ⟨w.heap.size+1,1,none⟩=some (.int .i64 0):=cL8 hb1 (by go_simp);have p2:w1.cell? ⟨w.heap.size+1,2,none⟩=some (.slice none 0 0):=cL8 hb1 (by go_simp);have t0:w1.cell? ⟨w.heap.size+1+1,0,none⟩=some (.string s):=cL8 hb1 (by go_simp);have t1:w1.cell? ⟨w.heap.size+1+1,1,none⟩=some (.int .i64 0):=cL8 hb1 (by go_simp);have t2:w1.cell? ⟨w.heap.size+1+1,2,none⟩=some (.slice none 0 0):=cL8 hb1 (by go_simp);go_wp2;refine bodyPost_ret (v:=.agg #[.string s,.int .i64 W,.slice (some ⟨B,0,none⟩) cs.length cs.length]) (by simp[results,Tryz.results20,go_sem, *]) rfl ⟨⟨B,g,by omega,by simp,?_⟩,?_⟩
 ·refine hH1.keep (Nat.le_refl _) fun b hb=>?_;repeat rw[bS8 _ _ _ _ (by simp;try omega)]
 ·exact bela
end
end
end Go.Proofs.YtjhhmnjpojnoiaaGreatDoor
