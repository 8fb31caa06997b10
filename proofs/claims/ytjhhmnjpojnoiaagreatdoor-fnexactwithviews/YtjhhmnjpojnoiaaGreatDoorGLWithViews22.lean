/- Own texts, joined: contracts that the law's proof goes by. -/
import Derived.Test.YtjhhmnjpojnoiaaGreatDoorToR
import Derived.Test.YtjhhmnjpojnoiaaGreatDoorGLWithViews1
import Derived.Test.YtjhhmnjpojnoiaaGreatDoorGLWithViews4
import Derived.Test.YtjhhmnjpojnoiaaGreatDoorGLWithViews5
import Derived.Handy
import Derived.Test.YtjhhmnjpojnoiaaGreatDoorGLWithViews17
import Derived.Test.YtjhhmnjpojnoiaaGreatDoorVwF
import Derived.Test.YtjhhmnjpojnoiaaGreatDoorVwM
import Derived.Test.YtjhhmnjpojnoiaaGreatDoorVwWS
import Derived.Test.YtjhhmnjpojnoiaaGreatDoorVwWI
import Derived.WalkKit
import Derived.WalkSpells
import Derived.WalkLawsBesides
import Derived.Below
import Derived.Deep.RegionHeld3
import Derived.Deep.DeepCutAuto
set_option maxHeartbeats 16000000
set_option maxRecDepth 100000
set_option linter.unusedVariables false
set_option linter.unusedSimpArgs false
namespace Go.Proofs.YtjhhmnjpojnoiaaGreatDoor
section
open Go.RowKit Go.Deep
structure HalfRF (w:World)(B0:Nat)(rs:List R3)(k:Nat)(G:List (List Nat)):Prop where
 row:∃f,w.rowIs B0 59 (rs.length*3) f∧∀i x g,i<k→rs[i]?=some x→G[i]?=some g→f (i*3)=.string x.s∧f (i*3+1)=.int .i64 x.W∧RowsF w (f (i*3+2)) x.cs g
 gl:G.length=k
 kl:k≤rs.length
 own:OwnB w (B0+1) G.flatten
theorem HalfRF.cells {w:World}{B:Nat}{rs:List R3}{k:Nat}{G:List (List Nat)}(h:HalfRF w B rs k G)(hk:k<rs.length):(∃u,w.cell? ⟨B,k*3,none⟩=some u)∧(∃u,w.cell? ⟨B,k*3+1,none⟩=some u)∧(∃u,w.cell? ⟨B,k*3+2,none⟩=some u)∧(∀i,w.frozen? ⟨B,i,none⟩=false)∧B<w.heap.size:=by
 obtain⟨f,h,_⟩:=h.row;exact⟨⟨_,h.cell (by omega)⟩,⟨_,h.cell (by omega)⟩,⟨_,h.cell (by omega)⟩,fun i=>h.frozen i,h.lt⟩
theorem HalfRF.lt {w:World}{B:Nat}{rs:List R3}{k:Nat}{G:List (List Nat)}(h:HalfRF w B rs k G):∀b∈G.flatten,b<w.heap.size:=by
 intro b hb;obtain⟨g,hg,hbg⟩:=List.mem_flatten.1 hb;obtain⟨i,hi,rfl⟩:=List.mem_iff_getElem.1 hg;have h1:=h.gl;have h2:=h.kl;obtain⟨f,_,he⟩:=h.row;have hi':i<rs.length:=by omega
 exact(he i rs[i] G[i] (by omega) (by simp) (by simp)).2.2.lt b hbg
theorem HalfRF.below {w w':World}{B:Nat}{rs:List R3}{k:Nat}{G:List (List Nat)}(h:HalfRF w B rs k G)(hb:Below w.heap.size w w'):HalfRF w' B rs k G:=by
 have hlt:=h.lt;obtain⟨⟨f,hf,he⟩,gl,kl,own⟩:=h;refine⟨⟨f,hf.of_block (hb.block _ hf.lt),fun i x g hi hx hg=>?_⟩,gl,kl,own.below hlt hb⟩;obtain⟨h0,h1,h2⟩:=he i x g hi hx hg;exact⟨h0,h1,h2.below hb⟩
theorem HalfRF.step {w:World}{B:Nat}{rs:List R3}{k:Nat}{G:List (List Nat)}{x:R3}{u:Value}{g:List Nat}{M:Nat}(h:HalfRF w B rs k G)(hx:rs[k]?=some x)(hR:RowsF w u x.cs g)(hO:OwnB w M g)(hM:B<M)(hd:∀b∈G.flatten,b<M):HalfRF (((w.setCell ⟨B,k*3,none⟩ (.string x.s)).setCell ⟨B,k*3+1,none⟩ (.int .i64 x.W)).setCell ⟨B,k*3+2,none⟩ u) B rs (k+1) (G++ [g]):=by
 obtain⟨⟨f,hf,he⟩,gl,kl,own⟩:=h;have hblk:∀b,B<b→(((w.setCell ⟨B,k*3,none⟩ (.string x.s)).setCell ⟨B,k*3+1,none⟩ (.int .i64 x.W)).setCell ⟨B,k*3+2,none⟩ u).heap[b]?=w.heap[b]?:=by
  intro b hb;repeat rw[bS8 _ _ _ _ (by show b≠B;omega)]
 refine⟨⟨_,((hf.set _ _).set _ _).set _ _,fun i y g' hi hy hg'=>?_⟩,by simp[gl],(gE1 hx).1,?_⟩
 ·by_cases e:i=k
  ·subst e;obtain rfl:y=x:=by rw[hx]at hy;exact(Option.some.inj hy).symm
   obtain rfl:g'=g:=by rw[List.getElem?_append_right (by omega),gl]at hg';simp at hg';exact hg'.symm
   refine⟨by simp,by simp,?_⟩;simp only[if_true];exact hR.keep (by simp) fun b hb=>hblk b (by have:=hO.2.1 b hb;omega)
  ·have n:∀p q:Nat,p<3→q<3→i*3+p≠k*3+q:=by intro p q hp hq;omega
   have n0:∀q:Nat,q<3→i*3≠k*3+q:=by intro q hq;omega
   have n1:∀p:Nat,p<3→i*3+p≠k*3:=by intro q hq;omega
   have n2:i*3≠k*3:=by omega
   rw[List.getElem?_append_left (by omega)]at hg';obtain⟨h0,h1,h2⟩:=he i y g' (by omega) hy hg';refine⟨?_,?_,?_⟩
   ·simp only[if_neg n2,if_neg (n0 1 (by omega)),if_neg (n0 2 (by omega))];exact h0
   ·simp only[if_neg (n1 1 (by omega)),if_neg (n 1 1 (by omega) (by omega)),if_neg (n 1 2 (by omega) (by omega))];exact h1
   ·simp only[if_neg (n1 2 (by omega)),if_neg (n 2 1 (by omega) (by omega)),if_neg (n 2 2 (by omega) (by omega))];exact h2.keep (by simp) fun b hb=>hblk b (by have:=own.2.1 b (List.mem_flatten.2 ⟨g',mg8 hg',hb⟩);omega)
 ·have hm:∀b∈(G++ [g]).flatten,b∈G.flatten∨b∈g:=by intro b hb;simpa using hb
  have hgt:∀b∈(G++ [g]).flatten,B+1≤b:=fun b hb=>(hm b hb).elim (own.2.1 b) (fun h=>by have:=hO.2.1 b h;omega);refine OwnB.keep (w:=w) ⟨?_,hgt,fun b hb=>(hm b hb).elim (own.2.2 b) (hO.2.2 b)⟩ fun b hb=>hblk b (hgt b hb);rw[List.flatten_append,List.nodup_append];refine⟨own.1,by simpa using hO.1,fun a ha b hb=>?_⟩;rintro rfl;have h1:=hd a ha;have h2:=hO.2.1 a (by simpa using hb);omega
theorem HalfRF.relsF {w:World}{B:Nat}{rs:List R3}{G:List (List Nat)}(h:HalfRF w B rs rs.length G)(hn:wtR rs≤1048576):∃F,RelsF w (.slice (some ⟨B,0,none⟩) rs.length rs.length) rs F∧OwnB w B F:=by
 obtain⟨⟨f,hf,he⟩,gl,kl,own⟩:=h;have hm:rs.length≤maxLen:=by unfold wtR at hn;unfold maxLen;omega
 by_cases hne:rs=[]
 ·exact⟨[],⟨_,_,G,rfl,Nat.le_refl _,hm,(fun x=>by cases x),gl,fun _=>rfl,fun x=>absurd hne x⟩,by simp[OwnB,Free]⟩
 refine⟨B::G.flatten,⟨_,_,G,rfl,Nat.le_refl _,hm,(fun x=>by cases x),gl,fun x=>absurd x hne,fun _=>⟨B,0,rfl,hf.lt,rfl,fun i x g hx hg=>?_⟩⟩,List.nodup_cons.2 ⟨fun hb=>by have:=own.2.1 B hb;omega,own.1⟩,fun b hb=>?_,fun b hb o=>?_⟩
 ·have hi:i<rs.length:=(gE1 hx).1;obtain⟨e0,e1,e2⟩:=he i x g hi hx hg;exact⟨_,by rw[Nat.zero_add,hf.cell (by omega),e0],by rw[Nat.zero_add,hf.cell (by omega),e1],by rw[Nat.zero_add,hf.cell (by omega)],e2⟩
 ·rcases List.mem_cons.1 hb with rfl|hb
  ·exact Nat.le_refl _
  ·have:=own.2.1 b hb;omega
 ·rcases List.mem_cons.1 hb with rfl|hb
  ·exact hf.frozen o
  ·exact own.2.2 b hb o
theorem halfRF_made (w:World)(z:Array Value)(rs:List R3):HalfRF (w.alloc (.cells (madeCells z (rs.length*3)) 59)) w.heap.size rs 0 []:=
 ⟨⟨fun i=>(madeCells z (rs.length*3))[i]?.getD undef,⟨_,blk_alloc_new _ _,size_madeCells _ _,fun i hi=>by
  have:i<(madeCells z (rs.length*3)).size:=by rw[size_madeCells];exact hi
  simp[this]⟩,fun i x g hi=>by omega⟩,rfl,Nat.zero_le _,by simp[OwnB,Free]⟩
theorem toRel_F (s:ByteArray)(W:Int)(v:Value)(cs:List C2)(w:World)(hr:RowsIs w v cs)(hn:wtb cs≤1048576):Calls Tryz.prog 20 #[.agg #[.string s,.int .i64 W,v]] w fun e w'=>(∃a l c F,e=.returned (.agg #[.string s,.int .i64 W,.slice a l c])∧RowsF w' (.slice a l c) cs F∧OwnB w' w.heap.size F)∧Below w.heap.size w w':=
 (toRel_any s W v cs w hr hn).mono fun e w' ⟨⟨B,g,hB,he,h⟩,hb⟩=>by
  obtain⟨F,h1,h2⟩:=h.rowsF (wtb_rows hn).1 (wtb_rows hn).2;exact⟨⟨_,_,_,F,he,h1,h2.1,fun b hb=>Nat.le_trans hB (h2.2.1 b hb),h2.2.2⟩,hb⟩
theorem toRelS_F (v:Value)(rs:List R3)(w:World)(hr:RelsIs w v rs)(hn:wtR rs≤1048576):Calls Tryz.prog 7 #[v] w fun e w'=>(∃u F,e=.returned u∧RelsF w' u rs F∧OwnB w' w.heap.size F)∧Below w.heap.size w w':=by
 obtain⟨a,c,b,o,rfl,hl,hc,ha⟩:=hr.pick;unfold maxLen at hc;clear hr;have hn1:rs.length≤1048576:=by unfold wtR at hn;omega
 have hmk:=run_make_wide (P:=Tryz.prog) 26 59 _ 3 48 Tryz.underlying26 Tryz.infoRel rs.length (by omega) (by omega);go_enter Tryz.func7,Tryz.ntmps7;go_wp2;go_loopw [4] (fun i wr=> ∃ (k:Nat) (G:List (List Nat)),k≤rs.length∧i=.int .i64 k∧Below w.heap.size w wr∧HalfRF wr w.heap.size rs k G) (fun i _=>rs.length - (intOf i).toNat)
 case atStart=>exact⟨0,[],Nat.zero_le _,rfl,by go_grown,halfRF_made _ _ _⟩
 case round=>
  obtain⟨k,G,hk,rfl,hb,hH⟩:=hrel;clear hmk;by_cases hlt:k<rs.length
  ·have hzb:=hb.size;obtain⟨rfl,hblt,hL⟩:=ha k hlt;obtain⟨x,u,hx,c0,c1,c2,hR,hbr⟩:=hL.at hblt hb hlt;have HX:Hid (rs[k]?=some x):=hx;have hxn:wtb x.cs≤1048576:=by have:=wtr_mem (mg8 hx);unfold wtr at this;unfold wtR at hn;omega
   have hBr:=(hH.cells hlt).2.2.2.2;have hGl:=hH.lt;clear ha hL hx;go_wp2_with(go_at_call 20;refine(toRel_F _ _ _ _ _ hR hxn).mono ?_;rintro e w1 ⟨⟨a1,l1,d1,g,rfl,hRD,hOD⟩,hb1⟩;have hz1:=hb1.size;have hH1:=hH.below hb1;obtain⟨⟨y0,g0⟩,⟨y1,g1⟩,⟨y2,g2⟩,gf,gs⟩:=hH1.cells hlt);refine⟨⟨k+1,_,hlt,by simp,bela,hH1.step HX.out hRD hOD (by omega) hGl⟩,by simp[intOf];omega⟩
  ·go_wp2;go_returns;obtain rfl:k=rs.length:=by omega
   obtain⟨F,h1,h2⟩:=hH.relsF hn;exact⟨⟨_,F,rfl,h1,h2⟩,hb⟩
end
section
open Go.RowKit Go.Deep
def sC (cs:List C2):Nat:=(cs.map fun x=>3*x.r.length+1).sum
theorem offC_all (k:Nat)(cs:List C2):offC k cs cs.length=k+sC cs:=by unfold offC sC;rw[List.take_length]
theorem sC_le (cs:List C2):sC cs≤3*wtb cs:=sum_le cs
def offR (k:Nat)(rs:List R3)(i:Nat):Nat:=k+((rs.take i).map fun x=>2+sC x.cs).sum
theorem offR_zero (k:Nat)(rs:List R3):offR k rs 0=k:=by simp[offR]
theorem offR_succ {k i:Nat}{rs:List R3}{x:R3}(h:rs[i]?=some x):offR k rs (i+1)=offR k rs i+(2+sC x.cs):=by
 obtain⟨hk,rfl⟩:=gE1 h;unfold offR;rw[List.take_succ_eq_append_getElem hk,List.map_append,List.sum_append];simp only[List.map_cons,List.map_nil,List.sum_cons,List.sum_nil];omega
theorem sumR_le (l:List R3):(l.map fun x=>2+sC x.cs).sum≤3*wtR l:=by
 unfold wtR wtrs;induction l with
 |nil=>simp
 |cons x xs ih=>
  simp only[List.map_cons,List.sum_cons,List.length_cons]at ih⊢;have:=sC_le x.cs;unfold wtr at ih⊢;omega
theorem offR_le (k:Nat)(rs:List R3):∀i,offR k rs i≤k+3*wtR rs:=by
 intro i;have h1:=sumR_le rs;have h2:((rs.take i).map fun x=>2+sC x.cs).sum≤(rs.map fun x=>2+sC x.cs).sum:=by
  conv=>rhs;rw[←List.take_append_drop i rs]
  rw[List.map_append,List.sum_append];omega
 unfold offR;omega
def mRi (k n:Nat)(rs:List R3):List R3:=rs.mapIdx fun i x=>if i<n then⟨mt ((offR k rs i:Nat):Int),((offR k rs i:Nat):Int)+1,mC (offR k rs i+2) x.cs⟩else x
theorem mRi_len (k n:Nat)(rs:List R3):(mRi k n rs).length=rs.length:=by simp[mRi]
theorem mRi_at {k n i:Nat}{rs:List R3}{x:R3}(h:rs[i]?=some x):(mRi k n rs)[i]?=some (if i<n then⟨mt ((offR k rs i:Nat):Int),((offR k rs i:Nat):Int)+1,mC (offR k rs i+2) x.cs⟩else x):=by
 simp[mRi,h]
theorem mRi_zero (k:Nat)(rs:List R3):mRi k 0 rs=rs:=by
 apply List.ext_getElem?;intro i;cases h:rs[i]? with
 |none=>have:=List.getElem?_eq_none_iff.1 h;rw[List.getElem?_eq_none (by rw[mRi_len];exact this)]
 |some x=>rw[mRi_at h,if_neg (by omega)]
theorem RLF.step {w w1 w3:World}{b o k n:Nat}{rs:List R3}{G:List (List Nat)}{x:R3}{g:List Nat}{u:Value}(h:RLF w b o (mRi k n rs) G)(hnd:(b::G.flatten).Nodup)(hb:b<w.heap.size)(hx:rs[n]?=some x)(hg:G[n]?=some g)(hu:w.cell? ⟨b,o+n*3+2,none⟩=some u) (h1:Below w.heap.size w w1)(hR:RowsF w3 u (mC (offR k rs n+2) x.cs) g) (hc:Chg g ((w1.setCell ⟨b,o+n*3,none⟩ (.string (mt ((offR k rs n:Nat):Int)))).setCell ⟨b,o+n*3+1,none⟩ (.int .i64 (((offR k rs n:Nat):Int)+1))) w3):RLF w3 b o (mRi k (n+1) rs) G:=by
 have hb1:b<w1.heap.size:=Nat.lt_of_lt_of_le hb h1.size;have hcell:∀q,w3.cell? ⟨b,q,none⟩=((w1.setCell ⟨b,o+n*3,none⟩ (.string (mt ((offR k rs n:Nat):Int)))).setCell ⟨b,o+n*3+1,none⟩ (.int .i64 (((offR k rs n:Nat):Int)+1))).cell? ⟨b,q,none⟩:=fun q=>cb8 (hc.block b (by simpa using hb1) (head_out hnd hg));have hw1:∀q,w1.cell? ⟨b,q,none⟩=w.cell? ⟨b,q,none⟩:=fun q=>cb8 (h1.block b hb);have hs13:w.heap.size≤w3.heap.size:=Nat.le_trans h1.size (by have:=hc.size;simpa using this);have hblk:∀c,c<w.heap.size→c≠b→c∉g→w3.heap[c]?=w.heap[c]?:=fun c hcw hcb hcg=>by
  rw[hc.block c (by have:=h1.size;simp;omega) hcg,bS8 _ _ _ _ hcb,bS8 _ _ _ _ hcb];exact h1.block c hcw
 intro i y g' hy hg';have hi:i<rs.length:=by have:=(gE1 hy).1;rwa [mRi_len]at this
 obtain⟨z,hz⟩:∃z,rs[i]?=some z:=⟨rs[i],by simp[hi]⟩;rw[mRi_at hz]at hy;have hy:=(Option.some.inj hy).symm;obtain⟨u',a0,a1,a2,a3⟩:=h i _ g' (mRi_at hz) hg';have hgb:b∉g':=head_out hnd hg';rw[hcell,hcell,hcell];by_cases e:i=n
 ·subst e;obtain rfl:z=x:=by rw[hx]at hz;exact(Option.some.inj hz).symm
  obtain rfl:g'=g:=by rw[hg]at hg';exact(Option.some.inj hg').symm
  obtain rfl:u'=u:=by rw[hu]at a2;exact(Option.some.inj a2).symm
  rw[if_pos (by omega)]at hy;subst hy;refine⟨u',?_,?_,?_,hR⟩
  ·rw[cO8 _ _ _ _ (by intro q;have:=congrArg Addr.off q;simp at this)];exact cS8 _ _ _ ((hw1 _).trans a0)
  ·exact cS8 _ _ _ ((cO8 _ _ _ _ (by intro q;have:=congrArg Addr.off q;simp at this)).trans ((hw1 _).trans a1))
  ·rw[cO8 _ _ _ _ (by intro q;have:=congrArg Addr.off q;simp at this),cO8 _ _ _ _ (by intro q;have:=congrArg Addr.off q;simp at this)];exact(hw1 _).trans a2
 ·have ey:y=if i<n then⟨mt ((offR k rs i:Nat):Int),((offR k rs i:Nat):Int)+1,mC (offR k rs i+2) z.cs⟩else z:=by
   rw[hy];by_cases hin:i<n
   ·rw[if_pos hin,if_pos (by omega)]
   ·rw[if_neg hin,if_neg (by omega)]
  rw[←ey]at a0 a1 a3;have hd:=disj_of hnd hg' hg e;have far:∀p q:Nat,p<3→q<3→o+i*3+p≠o+n*3+q:=by intro p q hp hq;omega
  refine⟨u',?_,?_,?_,a3.keep hs13 fun c hcg=>hblk c (a3.lt c hcg) (by rintro rfl;exact hgb hcg) (hd c hcg)⟩
  ·rw[cO8 _ _ _ _ (by intro q;have:=congrArg Addr.off q;simp at this;omega),cO8 _ _ _ _ (by intro q;have:=congrArg Addr.off q;simp at this;omega)];exact(hw1 _).trans a0
  ·rw[cO8 _ _ _ _ (by intro q;have:=congrArg Addr.off q;simp at this;omega),cO8 _ _ _ _ (by intro q;have:=congrArg Addr.off q;simp at this;omega)];exact(hw1 _).trans a1
  ·rw[cO8 _ _ _ _ (by intro q;have:=congrArg Addr.off q;simp at this;omega),cO8 _ _ _ _ (by intro q;have:=congrArg Addr.off q;simp at this;omega)];exact(hw1 _).trans a2
def mR (k:Nat)(rs:List R3):List R3:=mRi k rs.length rs
theorem markRelS_any (k:Nat)(v:Value)(rs:List R3)(F:List Nat)(w:World)(hr:RelsF w v rs F)(hnd:F.Nodup)(hf:Free w F)(h0:0<k)(h1:k+6*wtR rs≤999999800):Calls Tryz.prog 12 #[v,.int .i64 k] w fun e w'=>e=.returned (.int .i64 ((offR k rs rs.length:Nat):Int))∧RelsF w' v (mR k rs) F∧Chg F w w':=by
 obtain⟨a,c,b,o,G,rfl,hl,hc,hzz,hG,hF0,hC,ha⟩:=hr.pick;have hlt0:=hr.lt;have hcm:=hc;unfold maxLen at hc;clear hr;have hoff:=offR_le k rs;go_enter Tryz.func12,Tryz.ntmps12;go_wp2;go_loopw [1,5] (fun kk i wr=> ∃n:Nat,n≤rs.length∧i=.int .i64 n∧kk=.int .i64 ((offR k rs n:Nat):Int)∧RLF wr b o (mRi k n rs) G∧Chg F w wr) (fun _ i _=>rs.length - (intOf i).toNat)
 case atStart=>exact⟨0,Nat.zero_le _,rfl,by rw[offR_zero],by rw[mRi_zero];exact hC,Chg.refl _ _⟩
 case round=>
  obtain⟨n,hn,rfl,rfl,hH,hch⟩:=hrel;by_cases hlt:n<rs.length
  ·obtain⟨rfl,hblt,rfl⟩:=ha n hlt;have hzb:=hch.size;have hbr:b<wr.heap.size:=by omega
   have hlt':n<G.length:=by omega
   obtain⟨x,hx⟩:∃x,rs[n]?=some x:=⟨rs[n],by simp[hlt]⟩;obtain⟨g,hg⟩:∃g,G[n]?=some g:=⟨G[n],by simp[hlt']⟩;obtain⟨u,c0,c1,c2,hR⟩:=hH n _ g (mRi_at hx) hg;rw[if_neg (by omega)]at hR c0 c1;have hgF:∀y∈g,y∈b::G.flatten:=fun y hy=>List.mem_cons_of_mem _ (List.mem_flatten.2 ⟨g,mg8 hg,hy⟩);have hgb:b∉g:=head_out hnd hg;have hgnd:g.Nodup:=by
    have h2:=(List.nodup_cons.1 hnd).2;rw[List.Nodup,List.pairwise_flatten]at h2;exact h2.1 g (mg8 hg)
   have hfr:=hch.free hf;have hfr0:∀i,wr.frozen? ⟨b,i,none⟩=false:=hfr b (by simp);have hgf:Free wr g:=fun y hy=>hfr y (hgF y hy);have hs:=offR_succ (k:=k) hx;have ho1:=hoff n;have ho2:=hoff (n+1);have HS:Hid (offR k rs (n+1)=offR k rs n+2+sC x.cs):=by show _=_;omega
   have hko:0<offR k rs n:=by unfold offR;omega
   have hxw:wtb x.cs≤wtR rs:=by have:=wtr_mem (mg8 hx);unfold wtr at this;unfold wtR;omega
   have hM:=fun w=>markText_any (offR k rs n) w (by omega) (by omega);have hkn:=fun w1 w3=>RLF.step (w1:=w1) (w3:=w3) hH hnd hbr hx hg c2;have hMC:=fun v w'=>markCountedS_any (offR k rs n+2) v x.cs g w';have hT:offR k rs n+2+3*wtb x.cs≤999999900:=by omega
   generalize offR k rs n=t at*;have e2:((t+2:Nat):Int)=(t:Int)+1+1:=by omega
   simp only[e2]at hMC;clear e2;have hRs:=hR.is.shape;obtain⟨au,lu,cu,rfl⟩:=hRs;clear hs hoff ha hC hf;go_wp2_with fail;refine cM8 (hM _) ?_;rintro e w1 ⟨rfl,hb1⟩;have hz1:=hb1.size;(try simp only[World.size_alloc]at hz1);have hbb:w1.heap[b]?=wr.heap[b]?:=hb1.block b hbr;have q0:w1.cell? ⟨b,o+n*3,none⟩=some (.string x.s):=(cb8 hbb).trans c0;have q1:w1.cell? ⟨b,o+n*3+1,none⟩=some (.int .i64 x.W):=(cb8 hbb).trans c1;have q2:w1.cell? ⟨b,o+n*3+2,none⟩=some (.slice au lu cu):=(cb8 hbb).trans c2;have hfr1:∀i,w1.frozen? ⟨b,i,none⟩=false:=fun i=>(fb8 hbb).trans (hfr0 i);have hbr1:b<w1.heap.size:=by omega
   have hR1:RowsF ((w1.setCell ⟨b,o+n*3,none⟩ (.string (mt (t:Int)))).setCell ⟨b,o+n*3+1,none⟩ (.int .i64 ((t:Int)+1))) (.slice au lu cu) x.cs g:= (hR.below hb1).keep (by simp) fun c hc=>by rw[bS8 _ _ _ _ (by rintro rfl;exact hgb hc),bS8 _ _ _ _ (by rintro rfl;exact hgb hc)]
   have hf1:Free ((w1.setCell ⟨b,o+n*3,none⟩ (.string (mt (t:Int)))).setCell ⟨b,o+n*3+1,none⟩ (.int .i64 ((t:Int)+1))) g:=fun y hy i=>by
    simp only[World.frozen?_setCell];exact(fb8 (hb1.block y (hR.lt y hy))).trans (hgf y hy i)
   have hkn1:=fun w3=>hkn w1 w3 hb1;have hch1:Chg (b::G.flatten) w ((w1.setCell ⟨b,o+n*3,none⟩ (.string (mt (t:Int)))).setCell ⟨b,o+n*3+1,none⟩ (.int .i64 ((t:Int)+1))):= ((hch.trans (Chg.of_below hb1 fun y hy=>by have:=hlt0 y hy;omega)).setCell (p:=⟨b,_,none⟩) (by simp) _).setCell (p:=⟨b,_,none⟩) (by simp) _;have hsz1:((w1.setCell ⟨b,o+n*3,none⟩ (.string (mt (t:Int)))).setCell ⟨b,o+n*3+1,none⟩ (.int .i64 ((t:Int)+1))).heap.size=w1.heap.size:=by simp
   clear hkn hb1 hR hH hM hch hfr hfr0 hgf c0 c1 c2 hbb;go_wp2_with fail;refine cM8 (hMC _ _ hR1 hgnd hf1 (by omega) hT) ?_;rintro e w3 ⟨rfl,hR3,hc3⟩;have hS3:=hkn1 w3 hR3 hc3;have hch3:Chg (b::G.flatten) w w3:=hch1.trans (hc3.wide hgF fun y hy _=>by have:=hlt0 y hy;rw[hsz1];omega);have e3:offC (t+2) x.cs x.cs.length=t+2+sC x.cs:=offC_all _ _;rw[e3];clear e3 hc3 hR3 hkn1 hR1 hf1 hch1 hMC hsz1;go_wp2;exact⟨⟨n+1,hlt,by simp,by rw[HS.out];first|(congr 1;done)|(congr 1;omega),hS3,hch3⟩,by simp[intOf];omega⟩
  ·go_wp2;go_returns;obtain rfl:n=rs.length:=by omega
   refine⟨rfl,⟨a,c,G,by rw[mR,mRi_len],by rw[mR,mRi_len];exact hl,hcm,hzz,by rw[mR,mRi_len];exact hG,fun e=>hF0 (by have:=congrArg List.length e;rw[mR,mRi_len]at this;exact List.length_eq_zero_iff.1 this),fun hne=>?_⟩,hch⟩;have hp:0<rs.length:=by have:=List.length_pos_iff.2 hne;rwa [mR,mRi_len]at this
   obtain⟨e,hlt,hF⟩:=ha 0 hp;exact⟨b,o,e,by have:=hch.size;omega,hF,hH⟩
theorem heldRelS_any (k:Nat)(v:Value)(rs:List R3)(w:World)(hr:RelsIs w v (mR k rs))(h0:0<k)(h1:k+6*wtR rs≤999999800):Calls Tryz.prog 14 #[v,.int .i64 k] w fun e w'=>e=.returned (.int .i64 ((offR k rs rs.length:Nat):Int))∧Below w.heap.size w w':=by
 obtain⟨a,c,b,o,rfl,hl,hc,ha⟩:=hr.pick;have hln:(mR k rs).length=rs.length:=mRi_len _ _ _;rw[hln]at hl ha;rw[hln];unfold maxLen at hc;clear hr hln;have hoff:=offR_le k rs;go_enter Tryz.func14,Tryz.ntmps14;go_wp2;go_loopw [1,5] (fun kk i wr=> ∃n:Nat,n≤rs.length∧i=.int .i64 n∧kk=.int .i64 ((offR k rs n:Nat):Int)∧Below w.heap.size w wr) (fun _ i _=>rs.length - (intOf i).toNat)
 case atStart=>exact⟨0,Nat.zero_le _,rfl,by rw[offR_zero],by go_grown⟩
 case round=>
  obtain⟨n,hn,rfl,rfl,hb⟩:=hrel;by_cases hlt:n<rs.length
  ·obtain⟨rfl,hblt,hL⟩:=ha n hlt;have hzb:=hb.size;have hbr:b<wr.heap.size:=by omega
   obtain⟨x,hx⟩:∃x,rs[n]?=some x:=⟨rs[n],by simp[hlt]⟩;obtain⟨u,c0,c1,c2,hR⟩:=hL.below hb hblt n _ (mRi_at hx);rw[if_pos hlt]at hR c0 c1;have hs:=offR_succ (k:=k) hx;have ho1:=hoff n;have ho2:=hoff (n+1);have HS:Hid (offR k rs (n+1)=offR k rs n+2+sC x.cs):=by show _=_;omega
   have hko:0<offR k rs n:=by unfold offR;omega
   have hxw:wtb x.cs≤wtR rs:=by have:=wtr_mem (mg8 hx);unfold wtr at this;unfold wtR;omega
   have hM:=fun w=>markText_any (offR k rs n) w (by omega) (by omega);have hMC:=fun v w'=>heldCountedS_any (offR k rs n+2) v x.cs w';have hT:offR k rs n+2+3*wtb x.cs≤999999900:=by omega
   generalize offR k rs n=t at*;have e2:((t+2:Nat):Int)=(t:Int)+1+1:=by omega
   simp only[e2]at hMC;clear e2;obtain⟨au,lu,cu,rfl⟩:=hR.shape;dsimp only at c0 c1 hR;clear hs hoff ha hL hx;go_wp2_with fail
   go_region_with (first|(go_at_call 30;refine(hM _).mono ?_;rintro x w2 ⟨rfl,hb2⟩;have hz2:=hb2.size;(try simp at hz2);have p0:w2.cell? ⟨b,o+n*3,none⟩=some (.string (mt (t:Int))):=cL8 hb2 (by go_simp);have p1:w2.cell? ⟨b,o+n*3+1,none⟩=some (.int .i64 ((t:Int)+1)):=cL8 hb2 (by go_simp);have p2:w2.cell? ⟨b,o+n*3+2,none⟩=some (.slice au lu cu):=cL8 hb2 (by go_simp)))
   all_goals go_wp2_with fail
   all_goals refine cM8 (hMC _ _ (hR.below bex) (by omega) hT) ?_
   all_goals rintro e w3 ⟨rfl,hb3⟩
   all_goals rw[offC_all]
   all_goals have hz3:=hb3.size
   all_goals go_wp2
   all_goals exact⟨⟨n+1,hlt,by simp,by rw[HS.out];first|(congr 1;done)|(congr 1;omega),bex⟩,by simp[intOf];omega⟩
  ·go_wp2;go_returns;obtain rfl:n=rs.length:=by omega
   exact⟨rfl,hb⟩
end
section
open Go.RowKit Go.Deep
structure StW (w3 wi:World)(x:Value)(X:List R3)(F4:List Nat)(D d B:Nat)(vs:List V15)(GV:List (List Nat×List Nat))(g:Value)(Y:List R3)(F5:List Nat):Prop where
 bel:Below w3.heap.size w3 wi
 xx:RelsF wi x X F4
 vv:ViewsF wi D d B vs GV
 gg:RelsF wi g Y F5
 o4:OwnB wi w3.heap.size F4
 ov:Own wi w3.heap.size (B::blksV GV)
 o5:OwnB wi w3.heap.size F5
 d45:∀b∈F4,b∉F5
 d4v:∀b∈F4,b∉B::blksV GV
 dv5:∀b∈B::blksV GV,b∉F5
structure StG (w3 wi:World)(g:Value)(Y:List R3)(F5:List Nat):Prop where
 bel:Below w3.heap.size w3 wi
 gg:RelsF wi g Y F5
 o5:OwnB wi w3.heap.size F5
section
variable {w3 wi wj:World} {x g:Value} {X Y:List R3} {F4 F5:List Nat} {D d B:Nat} {vs:List V15} {GV:List (List Nat×List Nat)}
theorem StW.below (h:StW w3 wi x X F4 D d B vs GV g Y F5)(hb:Below wi.heap.size wi wj):StW w3 wj x X F4 D d B vs GV g Y F5:=
 ⟨h.bel.trans (hb.mono h.bel.size),h.xx.below hb,h.vv.below hb,h.gg.below hb,h.o4.below h.xx.lt hb,h.ov.below h.vv.lt hb,h.o5.below h.gg.lt hb,h.d45,h.d4v,h.dv5⟩
theorem StW.markX (h:StW w3 wi x X F4 D d B vs GV g Y F5){X':List R3}(hc:Chg F4 wi wj)(hx:RelsF wj x X' F4):StW w3 wj x X' F4 D d B vs GV g Y F5:=
 ⟨h.bel.trans (hc.below h.o4.2.1 h.bel.size),hx,h.vv.keep hc.size (fun b hb=>hc.block b (h.vv.lt b hb) (fun hb'=>h.d4v b hb' hb)),h.gg.chg hc (fun b hb hb'=>h.d45 b hb' hb),⟨h.o4.1,h.o4.2.1,hc.free h.o4.2.2⟩,h.ov.keep (fun b hb=>hc.block b (h.vv.lt b hb) (fun hb'=>h.d4v b hb' hb)),h.o5.keep (fun b hb=>hc.block b (h.gg.lt b hb) (fun hb'=>h.d45 b hb' hb)),h.d45,h.d4v,h.dv5⟩
theorem StW.markV (h:StW w3 wi x X F4 D d B vs GV g Y F5)(hc:ChgE (B::blksV GV) wi wj):StG w3 wj g Y F5:=
 ⟨h.bel.trans ⟨hc.os,hc.tape,hc.output,hc.size,fun k hk=>hc.block k (Nat.lt_of_lt_of_le hk h.bel.size) (fun hm=>by have:=(h.ov.2 k hm).1;omega)⟩,h.gg.keep hc.size (fun b hb=>hc.block b (h.gg.lt b hb) (fun hb'=>h.dv5 b hb' hb)),h.o5.keep (fun b hb=>hc.block b (h.gg.lt b hb) (fun hb'=>h.dv5 b hb' hb))⟩
theorem StG.below (h:StG w3 wi g Y F5)(hb:Below wi.heap.size wi wj):StG w3 wj g Y F5:=
 ⟨h.bel.trans (hb.mono h.bel.size),h.gg.below hb,h.o5.below h.gg.lt hb⟩
theorem StG.markG (h:StG w3 wi g Y F5){Y':List R3}(hc:Chg F5 wi wj)(hy:RelsF wj g Y' F5):StG w3 wj g Y' F5:=
 ⟨h.bel.trans (hc.below h.o5.2.1 h.bel.size),hy,⟨h.o5.1,h.o5.2.1,hc.free h.o5.2.2⟩⟩
end
end
end Go.Proofs.YtjhhmnjpojnoiaaGreatDoor
namespace Go.Proofs.YtjhhmnjpojnoiaaGreatDoor.fnExactWithViews
open Go.RowKit
theorem walk (v:Value)(rs:List R3)(hwr:RsWf rs)(v':Value)(vs:List V15)(D d:Nat)(G:List (List Nat))(w:World)(hq:RelsIs w v rs)(hh:ViewsIs w D d v' vs G)(hE:ErrT w):Calls Tryz.prog 3 #[v,v'] w fun x w'=>x=.returned (.bool true)∧Below w.heap.size w w':=by
 obtain⟨a,l,c,rfl⟩:=hq.shape;obtain⟨a',c',rfl,_⟩:=hh.shape;go_enter Tryz.func3,Tryz.ntmps3;go_wp2_with fail;refine cM8 (szRelS_any (.slice a l c) rs 1048576 w hq hwr (by decide) (by decide)) ?_;rintro x w1 ⟨⟨z1,rfl,l1,g1,s1⟩,hbw⟩;replace hq:=hq.below hbw;replace hh:=hh.below hbw;by_cases hn1:z1<0
 ·go_wp2_with fail;go_returns;exact⟨rfl,hbw⟩
 have hnq:wtR rs≤1048576:=by have:=s1 (by omega);omega
 clear s1;go_wp2_with fail;refine cM8 (szViewS_any D d (.slice a' vs.length c') vs G z1 w1 hh (by omega) (by omega)) ?_;rintro x w2 ⟨⟨z2,rfl,l2,g2,s2⟩,hb2⟩;replace hq:=hq.below hb2;replace hh:=hh.below hb2;replace hbw:Below w.heap.size w w2:=hbw.trans (hb2.mono hbw.size);by_cases hn2:z2<0
 ·go_wp2_with fail;go_returns;exact⟨rfl,hbw⟩
 have hnh:wtV vs≤1048576:=by have:=s2 (by omega);omega
 clear s2 hb2;go_wp2_with fail;refine cM8 (toRelS_F (.slice a l c) rs w2 hq hnq) ?_;rintro x w3 ⟨⟨u3,F3,rfl,hU3,_⟩,hb3⟩;replace hq:=hq.below hb3;replace hh:=hh.below hb3;replace hbw:Below w.heap.size w w3:=hbw.trans (hb3.mono hbw.size);clear hb3;obtain⟨a3,l3,c3,rfl⟩:=hU3.is.shape;go_wp2_with fail;refine cM8 (toViewS_F D d (.slice a' vs.length c') vs G w3 hh hnh) ?_;rintro x w4 ⟨⟨B4,G4,rfl,hU4,_⟩,hb4⟩;replace hq:=hq.below hb4;replace hh:=hh.below hb4;replace hbw:Below w.heap.size w w4:=hbw.trans (hb4.mono hbw.size);replace hU3:=hU3.below hb4;clear hb4;go_wp2_with fail;refine cM8 (specWith_any rs (.slice a3 l3 c3) F3 vs D d B4 G4 w4 hwr hU3 hU4 hnq hnh) ?_;rintro x w5 ⟨⟨u5,L,F5',rfl,hWS,hS5,_⟩,hb5⟩;replace hq:=hq.below hb5;replace hh:=hh.below hb5;replace hbw:Below w.heap.size w w5:=hbw.trans (hb5.mono hbw.size);obtain⟨a5,l5,c5,rfl⟩:=hS5.is.shape;have hS:=hS5.is;have HWS:Hid (WithIs rs vs L):=hWS;have hwt:wtR L≤2097152:=by have:=hWS.wt;omega
 clear hb5 hU3 hU4 hS5 hWS;go_wp2_with fail;refine cM8 (toRelS_F (.slice a l c) rs w5 hq hnq) ?_;rintro x w6 ⟨⟨u6,F6,rfl,hX6,hO6⟩,hb6⟩;obtain⟨a6,l6,c6,rfl⟩:=hX6.is.shape;have hz6:=hb6.size;go_wp2_with fail;refine cM8 (toViewS_F D d (.slice a' vs.length c') vs G w6 (hh.below hb6) hnh) ?_;rintro x w7 ⟨⟨B7,G7,rfl,hV7,hO7⟩,hb7⟩;have hz7:=hb7.size;have hE7:ErrT w7:=hE.below (hbw.trans ((hb6.trans (hb7.mono hz6)).mono hbw.size));go_wp2_with fail;refine cM8 (implWith_any rs (.slice a6 l6 c6) F6 vs D d B7 _ G7 w7 hwr (hX6.below hb7) hV7 hO7 hnq hnh hE7) ?_;rintro x w8 ⟨⟨u8,L',F8,rfl,hWI,hG8,hO8⟩,hb8⟩;obtain rfl:L'=L:=hWI.one HWS.out;obtain⟨a8,l8,c8,rfl⟩:=hG8.is.shape;have hz8:=hb8.size;have st:StW w5 w8 (.slice a6 l6 c6) rs F6 D d B7 vs G7 (.slice a8 l8 c8) L' F8:= ⟨hb6.trans ((hb7.trans (hb8.mono hz7)).mono hz6),(hX6.below hb7).below hb8,hV7.below hb8,hG8,(hO6.below hX6.lt hb7).below (hX6.below hb7).lt hb8,(hO7.below hV7.lt hb8).weak hz6,⟨hO8.1,fun b hb=>by have:=hO8.2.1 b hb;omega,hO8.2.2⟩,fun b hb hb'=>by have:=hX6.lt b hb;have:=hO8.2.1 b hb';omega,fun b hb hb'=>by have:=hX6.lt b hb;have:=(hO7.2 b hb').1;omega,fun b hb hb'=>by have:=hV7.lt b hb;have:=hO8.2.1 b hb';omega⟩;clear hX6 hO6 hV7 hO7 hG8 hO8 hb6 hb7 hb8 hWI hE7;go_wp2_with fail;refine cM8 (eqRelS_same (.slice a8 l8 c8) (.slice a5 l5 c5) L' w8 st.gg.is (hS.below st.bel)) ?_;rintro x w9 ⟨rfl,hb9⟩;have st9:=st.below hb9;clear st hb9;go_wp2_with fail;refine cM8 (toRelS_F (.slice a l c) rs w9 (hq.below st9.bel) hnq) ?_;rintro x w10 ⟨⟨u10,F10,rfl,hX10,_⟩,hb10⟩
 obtain⟨a10,l10,c10,rfl⟩:=hX10.is.shape;have st10:=st9.below hb10;clear st9 hb10;go_wp2_with fail;refine cM8 (eqRelS_same (.slice a6 l6 c6) (.slice a10 l10 c10) rs w10 st10.xx.is hX10.is) ?_;rintro x w11 ⟨rfl,hb11⟩;have st11:=st10.below hb11;clear st10 hb11 hX10;go_wp2_with fail;refine cM8 (toViewS_F D d (.slice a' vs.length c') vs G w11 (hh.below st11.bel) hnh) ?_;rintro x w12 ⟨⟨B12,G12,rfl,hV12,_⟩,hb12⟩;have st12:=st11.below hb12;clear st11 hb12;go_wp2_with fail;refine cM8 (eqViewS_same D d (.slice (some ⟨B7,0,none⟩) vs.length vs.length) (.slice (some ⟨B12,0,none⟩) vs.length vs.length) vs (G7.map Prod.fst) (G12.map Prod.fst) w12 st12.vv.is hV12.is) ?_;rintro x w13 ⟨rfl,hb13⟩;have st13:=st12.below hb13;clear st12 hb13 hV12;go_wp2_with fail;refine cM8 (markRelS_any 1 (.slice a6 l6 c6) rs F6 w13 st13.xx st13.o4.1 st13.o4.2.2 (by decide) (by omega)) ?_;rintro x w14 ⟨rfl,hx14,hc14⟩;have st14:=st13.markX hc14 hx14;have hoff:=offR_le 1 rs rs.length;have hop:0<offR 1 rs rs.length:=by unfold offR;omega
 generalize offR 1 rs rs.length=kx at*;clear st13 hx14 hc14;go_wp2_with fail;refine cM8 (markViewS_any D d kx B7 vs G7 w14 st14.vv st14.ov.1 (fun y hy=>(st14.ov.2 y hy).2) hop (by omega)) ?_;rintro x w15 ⟨⟨kz,rfl,hkz,hkz2⟩,hc15⟩;have st15:=st14.markV hc15;have hkp:(0:Int)<kz:=by omega
 clear st14 hc15 hoff hop;go_wp2_with fail;refine cM8 (eqRelS_same (.slice a8 l8 c8) (.slice a5 l5 c5) L' w15 st15.gg.is (hS.below st15.bel)) ?_;rintro x w16 ⟨rfl,hb16⟩;have st16:=st15.below hb16;clear st15 hb16;go_wp2_with fail;refine cM8 (markRelS_any 1 (.slice a8 l8 c8) L' F8 w16 st16.gg st16.o5.1 st16.o5.2.2 (by decide) (by omega)) ?_;rintro x w17 ⟨rfl,hx17,hc17⟩;have st17:=st16.markG hc17 hx17;have hoff2:=offR_le 1 L' L'.length;have hheld:=fun w'=>heldRelS_any 1 (.slice a8 l8 c8) L' w';generalize offR 1 L' L'.length=kg at*;clear st16 hx17 hc17;go_wp2_with fail;refine cM8 (hheld w17 st17.gg.is (by decide) (by omega)) ?_;rintro x w18 ⟨rfl,hb18⟩;have st18:=st17.below hb18;clear st17 hb18;go_wp2_with fail;refine cM8 (toRelS_F (.slice a l c) rs w18 (hq.below st18.bel) hnq) ?_;rintro x w19 ⟨⟨u19,F19,rfl,hX19,_⟩,hb19⟩;obtain⟨a19,l19,c19,rfl⟩:=hX19.is.shape;have st19:=st18.below hb19;clear st18 hb19;go_wp2_with fail;refine cM8 (toViewS_F D d (.slice a' vs.length c') vs G w19 (hh.below st19.bel) hnh) ?_;rintro x w20 ⟨⟨B20,G20,rfl,hV20,hO20⟩,hb20⟩;have st20:=st19.below hb20;replace hX19:=hX19.below hb20;have hE20:ErrT w20:=hE.below (hbw.trans (st20.bel.mono hbw.size));clear st19 hb20;go_wp2_with fail;refine cM8 (implWith_any rs (.slice a19 l19 c19) F19 vs D d B20 _ G20 w20 hwr hX19 hV20 hO20 hnq hnh hE20) ?_;rintro x w21 ⟨⟨u21,L2,F21,rfl,hWI2,hG21,_⟩,hb21⟩;obtain rfl:L2=L':=hWI2.one HWS.out;obtain⟨a21,l21,c21,rfl⟩:=hG21.is.shape;have st21:=st20.below hb21;clear st20 hb21 hX19 hV20 hO20 hWI2 hE20
 go_wp2_with fail;refine cM8 (eqRelS_same (.slice a21 l21 c21) (.slice a5 l5 c5) L2 w21 hG21.is (hS.below st21.bel)) ?_;rintro x w22 ⟨rfl,hb22⟩;have st22:=st21.below hb22;clear st21 hb22 hG21;go_wp2_with fail;refine cM8 (hheld w22 st22.gg.is (by decide) (by omega)) ?_;rintro x w23 ⟨rfl,hb23⟩;have belE:Below w.heap.size w w23:=hbw.trans ((st22.below hb23).bel.mono hbw.size);clear st22 hb23 hheld;go_wp2;go_returns;exact⟨rfl,belE⟩
end Go.Proofs.YtjhhmnjpojnoiaaGreatDoor.fnExactWithViews
