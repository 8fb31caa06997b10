/- Own texts, joined: contracts that the law's proof goes by. -/
import Derived.Test.YtjhhmnjpojnoiaaGreatDoorGLWithViews1
import Derived.Handy
import Derived.Test.YtjhhmnjpojnoiaaGreatDoorGLWithViews4
import Derived.Deep.RegionHeld3
import Derived.Test.YtjhhmnjpojnoiaaGreatDoorGLWithViews3
import Derived.Deep.DrawnRows
import Derived.Test.YtjhhmnjpojnoiaaGreatDoorToR
import Derived.Deep.AppendLies
import Derived.Test.YtjhhmnjpojnoiaaGreatDoorGLWithViews8
set_option maxHeartbeats 16000000
set_option maxRecDepth 100000
set_option linter.unusedVariables false
set_option linter.unusedSimpArgs false
namespace Go.Proofs.YtjhhmnjpojnoiaaGreatDoor
section
section
open Go.RowKit
def dg (u:Nat):List Int:=if h:u=0 then[]else have:u/10<u:=by omega
 dg (u/10)++ [((48+u %10:Nat):Int)]
theorem dg_step (u:Nat)(h:u≠0):dg u=dg (u/10)++ [((48+u %10:Nat):Int)]:=by rw[dg,dif_neg h]
theorem dg_zero:dg 0=[]:=by rw[dg,dif_pos rfl]
theorem dg_len (u:Nat):(dg u).length≤u:=by
 induction u using Nat.strongRecOn with
 |_ u ih=>
  by_cases h:u=0
  ·subst h;rw[dg_zero];simp
  ·rw[dg_step u h,List.length_append];have:=ih (u/10) (by omega);simp only[List.length_cons,List.length_nil];omega
def mt (u:Int):ByteArray:=⟨#[109]⟩++strOfNums (dg u.toNat)
theorem cat1 (x:Int)(l:List Int):strOfNums [x]++strOfNums l=strOfNums (x::l):=by
 apply ByteArray.ext;rw[ByteArray.data_append];simp[strOfNums]
theorem Tryz.conv1 (w:World)(x:Int)(m:Nat×Nat):(convert 102 9 (.slice (some ⟨w.heap.size,0,none⟩) 1 1)).run Tryz.prog (w.alloc (.cells #[.int .u8 x] 5 m))=.ok (.string (strOfNums [x])) (w.alloc (.cells #[.int .u8 x] 5 m)):=by
 refine run_convert_bytes_arg _ 102 5 Tryz.underlying102 Tryz.underlying5 w.heap.size 0 1 1 [x] rfl ?_ 9 Tryz.underlying9;intro i hi;obtain rfl:i=0:=by omega
 have:=heap_alloc_new w (.cells #[.int .u8 x] 5 m);show(w.alloc (.cells #[.int .u8 x] 5 m)).cell? ⟨w.heap.size,0,none⟩=some (.int .u8 x);simp only[World.cell?,this];rfl
theorem markText_any (u:Nat)(w:World)(h0:u≠0)(h1:u≤1000000000):Calls Tryz.prog 30 #[.int .i64 u] w fun e w'=>e=.returned (.string (mt u))∧Below w.heap.size w w':=by
 have hneg:decide ((u:Int)≤0)=false:=by simp;omega
 have hU:=dg_len u;go_enter Tryz.func30,Tryz.ntmps30;go_wp2;go_loopw [0,3] (fun m o wr=> ∃ (v:Nat) (l:List Int),o=.string (strOfNums l)∧m=.int .i64 v∧v≤u∧dg v++l=dg u∧Below w.heap.size w wr) (fun m _ _=>(intOf m).toNat)
 case atStart=>exact⟨u,[],rfl,rfl,Nat.le_refl _,by simp,by go_grown⟩
 case round=>
  obtain⟨v,l,rfl,rfl,hv,hl0,hb⟩:=hrel;have hzb:=hb.size;have hll:(strOfNums l).size≤1000000000:=by
   have:=congrArg List.length hl0;rw[List.length_append]at this;simp[strOfNums,ByteArray.size];omega
  have hl:Hid (dg v++l=dg u):=hl0;clear hl0;by_cases hz:v=0
  ·subst hz;have hfin:Hid ((⟨#[109]⟩:ByteArray)++strOfNums l=mt u):=by show _=_;rw[mt,Int.toNat_natCast,←hl.out,dg_zero,List.nil_append]
   go_wp2;go_returns;exact⟨by rw[←hfin.out];rfl,hb⟩
  ·have hvp:(0:Int)<v:=by omega
   have hst:Hid (dg (v/10)++(((48+v %10:Nat):Int)::l)=dg u):=by
    show _=_;rw[←hl.out,dg_step v hz,List.append_assoc];rfl
   have hcv:=Tryz.conv1 wr;have hs1:(strOfNums [48+(v:Int) %10]).size≤1:=by simp[strOfNums,ByteArray.size]
   have hct:Hid (strOfNums [48+(v:Int) %10]++strOfNums l=strOfNums (((48+v %10:Nat):Int)::l)):=cat1 _ l;have hdv:Hid (v/10<v):=by show _<_;omega
   go_wp2;exact⟨⟨v/10,_,by rw[←hct.out],by go_num,by omega,hst.out,bex⟩,by have:=hdv.out;simp[intOf];omega⟩
end
section
open Go.RowKit Go.Deep
def mV (k:Nat)(vs:List V3):List V3:=vs.mapIdx fun j _=>⟨((k+3*j:Nat):Int),((k+3*j+1:Nat):Int),mt ((k+3*j+2:Nat):Int)⟩
theorem mV_len (k:Nat)(vs:List V3):(mV k vs).length=vs.length:=by simp[mV]
theorem mV_at {k i:Nat}{vs:List V3}(hi:i<vs.length):(mV k vs)[i]?=some ⟨((k+3*i:Nat):Int),((k+3*i+1:Nat):Int),mt ((k+3*i+2:Nat):Int)⟩:=by
 simp[mV,hi]
def half (k i:Nat)(vs:List V3)(j:Nat):Value:=if j<i*3 then cf (mV k vs) j else cf vs j
theorem half_step {w w2:World}{b o k i:Nat}{vs:List V3}(hi:i<vs.length)(h:CellsAre w b o (vs.length*3) (half k i vs))(h2:w2.heap[b]?=((w.setCell ⟨b,o+i*3,none⟩ (.int .i64 ((k+3*i:Nat):Int))).setCell ⟨b,o+i*3+1,none⟩ (.int .i64 ((k+3*i+1:Nat):Int))).heap[b]?):CellsAre (w2.setCell ⟨b,o+i*3+2,none⟩ (.string (mt ((k+3*i+2:Nat):Int)))) b o (vs.length*3) (half k (i+1) vs):=by
 have h1:=(h.put (j0:=i*3) (by omega) rfl (.int .i64 ((k+3*i:Nat):Int))).put (j0:=i*3+1) (q:=o+i*3+1) (by omega) (by omega) (.int .i64 ((k+3*i+1:Nat):Int));refine((h1.keep h2).put (j0:=i*3+2) (q:=o+i*3+2) (by omega) (by omega) _).congr fun j hj=>?_;obtain⟨e0,e1,e2⟩:=cf_at (mV_at (k:=k) hi);unfold half;by_cases a2:j=i*3+2
 ·subst a2;rw[if_pos rfl,if_pos (by omega),e2]
 by_cases a1:j=i*3+1
 ·subst a1;rw[if_neg a2,if_pos rfl,if_pos (by omega),e1]
 by_cases a0:j=i*3
 ·subst a0;rw[if_neg a2,if_neg a1,if_pos rfl,if_pos (by omega),e0]
 rw[if_neg a2,if_neg a1,if_neg a0];by_cases hlt:j<i*3
 ·rw[if_pos hlt,if_pos (by omega)]
 ·rw[if_neg hlt,if_neg (by omega)]
theorem markValueS_any (k:Nat)(v:Value)(vs:List V3)(g:List Nat)(w:World)(hr:RowF w v vs g)(hf:Free w g)(h0:0<k)(h1:k+3*vs.length≤999999990):Calls Tryz.prog 55 #[v,.int .i64 k] w fun e w'=>e=.returned (.int .i64 ((k+3*vs.length:Nat):Int))∧RowF w' v (mV k vs) g∧Chg g w w':=by
 obtain⟨a,c,b,o,rfl,hl,hc,hz,hC,hg0,ha⟩:=hr.cells;have hlt0:=hr.lt;have hcm:=hc;unfold maxLen at hc;clear hr;go_enter Tryz.func55,Tryz.ntmps55;go_wp2;go_loopw [1,5] (fun kk i wr=> ∃n:Nat,n≤vs.length∧i=.int .i64 n∧kk=.int .i64 ((k+3*n:Nat):Int)∧CellsAre wr b o (vs.length*3) (half k n vs)∧Chg g w wr) (fun _ i _=>vs.length - (intOf i).toNat)
 case atStart=>exact⟨0,Nat.zero_le _,rfl,rfl,hC.congr (fun j hj=>by unfold half;rw[if_neg (by omega)]),Chg.refl _ _⟩
 case round=>
  obtain⟨n,hn,rfl,rfl,hH,hch⟩:=hrel;by_cases hlt:n<vs.length
  ·obtain⟨rfl,hblt,rfl⟩:=ha n hlt;have hzb:=hch.size;have hbr:b<wr.heap.size:=by omega
   have hfr:∀i,wr.frozen? ⟨b,i,none⟩=false:=hch.free hf b (by simp);have c0:wr.cell? ⟨b,o+n*3,none⟩=some (half k n vs (n*3)):=hH _ (by omega);have c1:wr.cell? ⟨b,o+n*3+1,none⟩=some (half k n vs (n*3+1)):=hH (n*3+1) (by omega);have c2:wr.cell? ⟨b,o+n*3+2,none⟩=some (half k n vs (n*3+2)):=hH (n*3+2) (by omega);generalize half k n vs (n*3)=y0 at c0;generalize half k n vs (n*3+1)=y1 at c1;generalize half k n vs (n*3+2)=y2 at c2;clear ha hC;have e0:((k+3*n:Nat):Int)=(k:Int)+3* (n:Int):=by omega
   have e1:((k+3*n+1:Nat):Int)=(k:Int)+3* (n:Int)+1:=by omega
   have e2:((k+3*n+2:Nat):Int)=(k:Int)+3* (n:Int)+1+1:=by omega
   have hM:=fun w=>markText_any (k+3*n+2) w (by omega) (by omega);have hS:=fun w2=>half_step (w2:=w2) hlt hH;rw[e2]at hM;simp only[e0,e1,e2]at hS;clear e0 e1 e2 hH;go_wp2_with fail;refine cM8 (hM _) ?_;rintro x w2 ⟨rfl,hb2⟩;have hz2:=hb2.size;simp only[World.size_setCell]at hz2;have hS2:=hS w2 (hb2.block b (by simpa using hbr));have q2:w2.cell? ⟨b,o+n*3+2,none⟩=some y2:=cL8 hb2 (by go_simp);have hfr2:∀i,w2.frozen? ⟨b,i,none⟩=false:=fun i=>((bc8 hb2).2 b i (by simpa using hbr)).trans (by simpa using hfr i);have hch2:Chg [b] w w2:=((hch.setCell (p:=⟨b,_,none⟩) (by simp) _).setCell (p:=⟨b,_,none⟩) (by simp) _).trans (Chg.of_below hb2 (by simpa using hbr));clear hS hM hb2 hch hf hfr c0 c1 c2;go_wp2;exact⟨⟨n+1,hlt,by simp,by congr 1,hS2,hch2.setCell (p:=⟨b,_,none⟩) (by simp) _⟩,by simp[intOf];omega⟩
  ·go_wp2;go_returns;obtain rfl:n=vs.length:=by omega
   refine⟨rfl,RowF.mk hch.size (mV_len k vs) rfl hl hcm hz hg0 ha ?_,hch⟩;rw[mV_len];exact hH.congr fun j hj=>by unfold half;rw[if_pos hj]
theorem heldValueS_any (k:Nat)(v:Value)(vs:List V3)(w:World)(hr:RowIs w v (mV k vs))(h0:0<k)(h1:k+3*vs.length≤999999990):Calls Tryz.prog 56 #[v,.int .i64 k] w fun e w'=>e=.returned (.int .i64 ((k+3*vs.length:Nat):Int))∧Below w.heap.size w w':=by
 obtain⟨a,c,b,o,rfl,hl,hc,ha⟩:=hr.pick;rw[mV_len]at hl ha;rw[mV_len];unfold maxLen at hc;clear hr;go_enter Tryz.func56,Tryz.ntmps56;go_wp2;go_loopw [1,5] (fun kk i wr=> ∃n:Nat,n≤vs.length∧i=.int .i64 n∧kk=.int .i64 ((k+3*n:Nat):Int)∧Below w.heap.size w wr) (fun _ i _=>vs.length - (intOf i).toNat)
 case atStart=>exact⟨0,Nat.zero_le _,rfl,rfl,by go_grown⟩
 case round=>
  obtain⟨n,hn,rfl,rfl,hb⟩:=hrel;by_cases hlt:n<vs.length
  ·obtain⟨rfl,hblt,hL⟩:=ha n hlt;have hzb:=hb.size;have hbr:b<wr.heap.size:=by omega
   obtain⟨c0,c1,c2⟩:=hL.below hb hblt n _ (mV_at hlt);have e0:((k+3*n:Nat):Int)=(k:Int)+3* (n:Int):=by omega
   have e1:((k+3*n+1:Nat):Int)=(k:Int)+3* (n:Int)+1:=by omega
   have e2:((k+3*n+2:Nat):Int)=(k:Int)+3* (n:Int)+1+1:=by omega
   have hM:=fun w=>markText_any (k+3*n+2) w (by omega) (by omega);rw[e2]at hM c2;rw[e0]at c0;rw[e1]at c1;clear e0 e1 e2 ha hL;go_wp2_with fail
   go_region_with (first|(go_at_call 30;refine(hM _).mono ?_;rintro x w2 ⟨rfl,hb2⟩;have hz2:=hb2.size;(try simp at hz2);have q2:w2.cell? ⟨b,o+n*3+2,none⟩=some (.string (mt ((k:Int)+3* (n:Int)+1+1))):=cL8 hb2 (by go_simp)))
   all_goals go_wp2
   all_goals exact⟨⟨n+1,hlt,by simp,by congr 1,bex⟩,by simp[intOf];omega⟩
  ·go_wp2;go_returns;obtain rfl:n=vs.length:=by omega
   exact⟨rfl,hb⟩
end
section
open Go.RowKit Go.Deep
def offC (k:Nat)(cs:List C2)(i:Nat):Nat:=k+((cs.take i).map fun x=>3*x.r.length+1).sum
theorem offC_zero (k:Nat)(cs:List C2):offC k cs 0=k:=by simp[offC]
theorem offC_succ {k i:Nat}{cs:List C2}{x:C2}(h:cs[i]?=some x):offC k cs (i+1)=offC k cs i+(3*x.r.length+1):=by
 obtain⟨hk,rfl⟩:=gE1 h;unfold offC;rw[List.take_succ_eq_append_getElem hk,List.map_append,List.sum_append];simp only[List.map_cons,List.map_nil,List.sum_cons,List.sum_nil];omega
theorem sum_le (l:List C2):(l.map fun x=>3*x.r.length+1).sum≤3*wtb l:=by
 unfold wtb wtcs;induction l with
 |nil=>simp
 |cons x xs ih=>
  simp only[List.map_cons,List.sum_cons,List.length_cons]at ih⊢;unfold wt at ih⊢;omega
theorem offC_le (k:Nat)(cs:List C2):∀i,offC k cs i≤k+3*wtb cs:=by
 intro i;have h1:=sum_le cs;have h2:((cs.take i).map fun x=>3*x.r.length+1).sum≤(cs.map fun x=>3*x.r.length+1).sum:=by
  conv=>rhs;rw[←List.take_append_drop i cs]
  rw[List.map_append,List.sum_append];omega
 unfold offC;omega
def mCi (k n:Nat)(cs:List C2):List C2:=cs.mapIdx fun i x=>if i<n then⟨mV (offC k cs i) x.r,((offC k cs i+3*x.r.length:Nat):Int)⟩else x
theorem mCi_len (k n:Nat)(cs:List C2):(mCi k n cs).length=cs.length:=by simp[mCi]
theorem mCi_at {k n i:Nat}{cs:List C2}{x:C2}(h:cs[i]?=some x):(mCi k n cs)[i]?=some (if i<n then⟨mV (offC k cs i) x.r,((offC k cs i+3*x.r.length:Nat):Int)⟩else x):=by
 simp[mCi,h]
theorem mCi_zero (k:Nat)(cs:List C2):mCi k 0 cs=cs:=by
 apply List.ext_getElem?;intro i;cases h:cs[i]? with
 |none=>have:=List.getElem?_eq_none_iff.1 h;rw[List.getElem?_eq_none (by rw[mCi_len];exact this)]
 |some x=>rw[mCi_at h,if_neg (by omega)]
theorem CLF.step {w w2:World}{b o k n:Nat}{cs:List C2}{G:List (List Nat)}{x:C2}{g:List Nat}{u:Value}(h:CLF w b o (mCi k n cs) G)(hG:G.length=cs.length)(hnd:(b::G.flatten).Nodup)(hb:b<w.heap.size)(hx:cs[n]?=some x)(hg:G[n]?=some g)(hu:w.cell? ⟨b,o+n*2,none⟩=some u) (hR:RowF w2 u (mV (offC k cs n) x.r) g) (hc:Chg g w w2):CLF (w2.setCell ⟨b,o+n*2+1,none⟩ (.int .i64 ((offC k cs n+3*x.r.length:Nat):Int))) b o (mCi k (n+1) cs) G:=by
 have hbb:w2.heap[b]?=w.heap[b]?:=hc.block b hb (head_out hnd hg);intro i y g' hy hg';have hi:i<cs.length:=by have:=(gE1 hy).1;rwa [mCi_len]at this
 obtain⟨z,hz⟩:∃z,cs[i]?=some z:=⟨cs[i],by simp[hi]⟩;rw[mCi_at hz]at hy;have hy:=(Option.some.inj hy).symm;obtain⟨u',a0,a1,a2⟩:=h i _ g' (mCi_at hz) hg';have hgb:b∉g':=head_out hnd hg';by_cases e:i=n
 ·subst e;obtain rfl:z=x:=by rw[hx]at hz;exact(Option.some.inj hz).symm
  obtain rfl:g'=g:=by rw[hg]at hg';exact(Option.some.inj hg').symm
  obtain rfl:u'=u:=by rw[hu]at a0;exact(Option.some.inj a0).symm
  rw[if_pos (by omega)]at hy;subst hy;refine⟨u',?_,hR.keep (by simp) (fun c hc=>bS8 _ _ _ _ (by rintro rfl;exact hgb hc)),?_⟩
  ·rw[cO8 _ _ _ _ (by intro q;have:=congrArg Addr.off q;simp at this)];exact(cb8 hbb).trans hu
  ·exact cS8 _ _ _ ((cb8 hbb).trans a2)
 ·have ey:y=if i<n then⟨mV (offC k cs i) z.r,((offC k cs i+3*z.r.length:Nat):Int)⟩else z:=by
   rw[hy];by_cases hin:i<n
   ·rw[if_pos hin,if_pos (by omega)]
   ·rw[if_neg hin,if_neg (by omega)]
  rw[←ey]at a1 a2;have hd:=disj_of hnd hg' hg e;have k1:RowF w2 u' y.r g':=a1.keep hc.size fun c hcg=>hc.block c (a1.lt c hcg) (hd c hcg);refine⟨u',?_,k1.keep (by simp) (fun c hc=>bS8 _ _ _ _ (by rintro rfl;exact hgb hc)),?_⟩
  ·rw[cO8 _ _ _ _ (by intro q;have:=congrArg Addr.off q;simp at this;omega)];exact(cb8 hbb).trans a0
  ·rw[cO8 _ _ _ _ (by intro q;have:=congrArg Addr.off q;simp at this;omega)];exact(cb8 hbb).trans a2
def mC (k:Nat)(cs:List C2):List C2:=mCi k cs.length cs
theorem markCountedS_any (k:Nat)(v:Value)(cs:List C2)(F:List Nat)(w:World)(hr:RowsF w v cs F)(hnd:F.Nodup)(hf:Free w F)(h0:0<k)(h1:k+3*wtb cs≤999999900):Calls Tryz.prog 31 #[v,.int .i64 k] w fun e w'=>e=.returned (.int .i64 ((offC k cs cs.length:Nat):Int))∧RowsF w' v (mC k cs) F∧Chg F w w':=by
 obtain⟨a,c,b,o,G,rfl,hl,hc,hzz,hG,hF0,hC,ha⟩:=hr.pick;have hlt0:=hr.lt;have hcm:=hc;unfold maxLen at hc;clear hr;have hoff:=offC_le k cs;go_enter Tryz.func31,Tryz.ntmps31;go_wp2;go_loopw [1,5] (fun kk i wr=> ∃n:Nat,n≤cs.length∧i=.int .i64 n∧kk=.int .i64 ((offC k cs n:Nat):Int)∧CLF wr b o (mCi k n cs) G∧Chg F w wr) (fun _ i _=>cs.length - (intOf i).toNat)
 case atStart=>exact⟨0,Nat.zero_le _,rfl,by rw[offC_zero],by rw[mCi_zero];exact hC,Chg.refl _ _⟩
 case round=>
  obtain⟨n,hn,rfl,rfl,hH,hch⟩:=hrel;by_cases hlt:n<cs.length
  ·obtain⟨rfl,hblt,rfl⟩:=ha n hlt;have hzb:=hch.size;have hbr:b<wr.heap.size:=by omega
   have hlt':n<G.length:=by omega
   obtain⟨x,hx⟩:∃x,cs[n]?=some x:=⟨cs[n],by simp[hlt]⟩;obtain⟨g,hg⟩:∃g,G[n]?=some g:=⟨G[n],by simp[hlt']⟩;obtain⟨u,c0,hR,c1⟩:=hH n _ g (mCi_at hx) hg;rw[if_neg (by omega)]at hR c1;have hgF:∀y∈g,y∈b::G.flatten:=fun y hy=>List.mem_cons_of_mem _ (List.mem_flatten.2 ⟨g,mg8 hg,hy⟩);have hfr:=hch.free hf;have hfr0:∀i,wr.frozen? ⟨b,i,none⟩=false:=hfr b (by simp);have hgf:Free wr g:=fun y hy=>hfr y (hgF y hy);have hs:=offC_succ (k:=k) hx;have ho1:=hoff n;have ho2:=hoff (n+1);have HS:Hid (offC k cs (n+1)=offC k cs n+(3*x.r.length+1)):=hs;have hko:0<offC k cs n:=by unfold offC;omega
   have hb1:offC k cs n+3*x.r.length≤999999990:=by omega
   have hkn:=fun w2=>CLF.step (w2:=w2) hH hG hnd hbr hx hg c0;generalize offC k cs n=t at*;obtain⟨au,cu,rfl,_,_⟩:=hR.is.shape';clear hs hoff ha hC hf;go_wp2_with fail;refine cM8 (markValueS_any t _ x.r g wr hR hgf hko hb1) ?_;rintro e w2 ⟨rfl,hR2,hc2⟩;have hz2:=hc2.size;have hbb:w2.heap[b]?=wr.heap[b]?:=hc2.block b hbr (head_out hnd hg);have q1:w2.cell? ⟨b,o+n*2+1,none⟩=some (.int .i64 x.n):=(cb8 hbb).trans c1;have hfr2:∀i,w2.frozen? ⟨b,i,none⟩=false:=fun i=>(fb8 hbb).trans (hfr0 i);have hS2:=hkn w2 hR2 hc2;have hch2:Chg (b::G.flatten) w w2:=hch.trans (hc2.wide hgF fun y hy _=>by have:=hlt0 y hy;omega);clear hkn hc2 hR2 hch hfr hfr0 hgf c0 c1 hR hbb hH;have e1:((t+3*x.r.length:Nat):Int)=(t:Int)+3* (x.r.length:Int):=by omega
   rw[e1]at hS2;clear e1;go_wp2;exact⟨⟨n+1,hlt,by simp,by rw[HS.out];congr 1,hS2,hch2.setCell (p:=⟨b,_,none⟩) (by simp) _⟩,by simp[intOf];omega⟩
  ·go_wp2;go_returns;obtain rfl:n=cs.length:=by omega
   refine⟨rfl,⟨a,c,G,by rw[mC,mCi_len],by rw[mC,mCi_len];exact hl,hcm,hzz,by rw[mC,mCi_len];exact hG,fun e=>hF0 (by have:=congrArg List.length e;rw[mC,mCi_len]at this;exact List.length_eq_zero_iff.1 this),fun hne=>?_⟩,hch⟩;have hp:0<cs.length:=by have:=List.length_pos_iff.2 hne;rwa [mC,mCi_len]at this
   obtain⟨e,hlt,hF⟩:=ha 0 hp;exact⟨b,o,e,by have:=hch.size;omega,hF,hH⟩
theorem heldCountedS_any (k:Nat)(v:Value)(cs:List C2)(w:World)(hr:RowsIs w v (mC k cs))(h0:0<k)(h1:k+3*wtb cs≤999999900):Calls Tryz.prog 34 #[v,.int .i64 k] w fun e w'=>e=.returned (.int .i64 ((offC k cs cs.length:Nat):Int))∧Below w.heap.size w w':=by
 obtain⟨a,c,b,o,rfl,hl,hc,ha⟩:=hr.pick;have hln:(mC k cs).length=cs.length:=mCi_len _ _ _;rw[hln]at hl ha;rw[hln];unfold maxLen at hc;clear hr hln;have hoff:=offC_le k cs;go_enter Tryz.func34,Tryz.ntmps34;go_wp2;go_loopw [1,5] (fun kk i wr=> ∃n:Nat,n≤cs.length∧i=.int .i64 n∧kk=.int .i64 ((offC k cs n:Nat):Int)∧Below w.heap.size w wr) (fun _ i _=>cs.length - (intOf i).toNat)
 case atStart=>exact⟨0,Nat.zero_le _,rfl,by rw[offC_zero],by go_grown⟩
 case round=>
  obtain⟨n,hn,rfl,rfl,hb⟩:=hrel;by_cases hlt:n<cs.length
  ·obtain⟨rfl,hblt,hL⟩:=ha n hlt;have hzb:=hb.size;have hbr:b<wr.heap.size:=by omega
   obtain⟨x,hx⟩:∃x,cs[n]?=some x:=⟨cs[n],by simp[hlt]⟩;obtain⟨u,c0,hR,c1⟩:=hL.below hb hblt n _ (mCi_at hx);rw[if_pos hlt]at hR c1;have hs:=offC_succ (k:=k) hx;have ho1:=hoff n;have ho2:=hoff (n+1);have HS:Hid (offC k cs (n+1)=offC k cs n+(3*x.r.length+1)):=hs;have hko:0<offC k cs n:=by unfold offC;omega
   have hb1:offC k cs n+3*x.r.length≤999999990:=by omega
   generalize offC k cs n=t at*;have e1:((t+3*x.r.length:Nat):Int)=(t:Int)+3* (x.r.length:Int):=by omega
   obtain⟨au,lu,cu,rfl⟩:=hR.shape;clear hs hoff ha hL hx;go_wp2_with fail;refine cM8 (heldValueS_any t _ x.r wr hR hko hb1) ?_;rintro e w2 ⟨rfl,hb2⟩;have hz2:=hb2.size;have q1:w2.cell? ⟨b,o+n*2+1,none⟩=some (.int .i64 ((t+3*x.r.length:Nat):Int)):=(hb2.cell (p:=⟨b,_,none⟩) hbr).trans c1;rw[e1]at q1;clear e1 c0 c1;go_wp2;exact⟨⟨n+1,hlt,by simp,by rw[HS.out];congr 1,bex⟩,by simp[intOf];omega⟩
  ·go_wp2;go_returns;obtain rfl:n=cs.length:=by omega
   exact⟨rfl,hb⟩
end
section
open Go.RowKit Go.Deep
attribute [local go_sem↓] Go.wp_at_zero Go.wp_at_succ
theorem copyBag_any (W:Int)(v:Value)(cs:List C2)(F:List Nat)(w:World)(hr:RowsF w v cs F)(hn:wtb cs≤1048576):Calls Tryz.prog 24 #[.agg #[.int .i64 W,v]] w fun e w'=>(∃u us G,e=.returned (.agg #[.int .i64 W,u])∧BagOwn w' w.heap.size u cs us G)∧Below w.heap.size w w':=by
 obtain⟨i0,hi,hz0,hz1,hz2⟩:=info_parts Tryz.infoCnt;obtain⟨a,c,b,o,G0,rfl,hl,hc,_,hG0,_,hC,ha⟩:=hr.pick;unfold maxLen at hc;clear hr;have hn1:cs.length≤1048576:=by unfold wtb at hn;omega
 go_enter Tryz.func24,Tryz.ntmps24;go_wp2;go_loopw [12] (fun i wr=> ∃ (k:Nat) (y:Value) (us:List Value) (G:List (List Nat)),k≤cs.length∧i=.int .i64 k∧wr.cell? ⟨w.heap.size+1+1,0,none⟩=some (.int .i64 W)∧wr.cell? ⟨w.heap.size+1+1,1,none⟩=some y∧(∀q,wr.frozen? ⟨w.heap.size+1+1,q,none⟩=false)∧wr.cell? ⟨w.heap.size+1,0,none⟩=some (.int .i64 0)∧wr.cell? ⟨w.heap.size+1,1,none⟩=some (.slice none 0 0)∧(∀q,wr.frozen? ⟨w.heap.size+1,q,none⟩=false)∧BagOwn wr (w.heap.size+1+1+1) y (cs.take k) us G∧Below w.heap.size w wr∧w.heap.size+1+1+1≤wr.heap.size) (fun i _=>cs.length - (intOf i).toNat)
 case atStart=>
  refine⟨0,.slice none 0 0,[],[],Nat.zero_le _,rfl,by go_simp,by go_simp,fun q=>by go_simp,by go_simp,by go_simp,fun q=>by go_simp,BagOwn.nil _ _,bex,by simp⟩
 case round=>
  obtain⟨k,y,us,G,hk,rfl,p0,p1,pf,r0,r1,rf,hB,hb,hzb⟩:=hrel;by_cases hlt:k<cs.length
  ·obtain⟨rfl,hblt,_⟩:=ha k hlt;obtain⟨x,u0,g0,hx,_,c0,hR,c1,hbr⟩:=hC.at hG0 hblt hb hlt;obtain⟨a0,n0,rfl⟩:=hR.shape;have HX:Hid (cs[k]?=some x):=hx;have hxn:x.r.length≤1048576:=by have:=wt_mem (mg8 hx);unfold wt at this;unfold wtb at hn;omega
   have htk:(cs.take k).length=k:=by simp;omega
   have hvl:=oL8 hB.own;have hv2:y.ownBlock≠some (w.heap.size+1+1):=fun e=>by have:=(hvl _ e).1;omega
   have hvr:y.ownBlock≠some (w.heap.size+1):=fun e=>by have:=(hvl _ e).1;omega
   have hvT:y.ownBlock≠some wr.heap.size:=fun e=>by have:=(hvl _ e).2;omega
   have hGl:=hB.lt;have HT:Hid (cs.take (k+1)=cs.take k++ [x]):=take_snoc hx;generalize cs.take k=ct at*;have hml:ct.length+1≤maxLen:=by unfold maxLen;omega
   have hby:(ct.length+1)*32≤140737488355328:=by omega
   clear ha hC hx htk hvl;go_wp2_with fail;refine startE 7 (fun w'=>w'.cell? ⟨w.heap.size+1+1,1,none⟩=some y∧w'.cell? ⟨wr.heap.size,0,none⟩=some (.slice a0 x.r.length n0)∧w'.cell? ⟨wr.heap.size,1,none⟩=some (.int .i64 x.n)) (by kernel_rfl) ?_ (fun hHeld=>?_)
   ·exact⟨(cb8 (bA8 wr _ _ (by omega))).trans p1,by go_simp,by go_simp⟩
   refine tkE 0 16 rfl rfl ?_;refine tkE 1 17 rfl rfl ?_;refine tkE 2 18 rfl rfl ?_;refine onE 3 rfl fun K hK=>?_;go_simp;go_at_call 49;refine cM8 (copyCounted_any (.slice a0 x.r.length n0) x.r g0 x.n _ (hR.below ?hbb) hxn) ?_
   case hbb=>exact bex
   rintro e w2 ⟨⟨u2,g2,rfl,hR2,hO2⟩,hb2⟩;obtain⟨a2,n2,rfl⟩:=hR2.shape;have hzw2:=hb2.size;simp at hzw2;have bel2:Below wr.heap.size wr w2:=bex;have hB2:=hB.below bel2;have pf2:∀q,w2.frozen? ⟨w.heap.size+1+1,q,none⟩=false:=fun q=>((bc8 bel2).2 _ q (by omega)).trans (pf q);have rf2:∀q,w2.frozen? ⟨w.heap.size+1,q,none⟩=false:=fun q=>((bc8 bel2).2 _ q (by omega)).trans (rf q);have p02:=((bc8 bel2).1 (w.heap.size+1+1) 0 (by omega)).trans p0;have p12:=((bc8 bel2).1 (w.heap.size+1+1) 1 (by omega)).trans p1;have r02:=((bc8 bel2).1 (w.heap.size+1) 0 (by omega)).trans r0;have r12:=((bc8 bel2).1 (w.heap.size+1) 1 (by omega)).trans r1;have q0:w2.cell? ⟨wr.heap.size,0,none⟩=some (.slice a0 x.r.length n0):=cL8 hb2 (by go_simp);have q1:w2.cell? ⟨wr.heap.size,1,none⟩=some (.int .i64 x.n):=cL8 hb2 (by go_simp);try go_wp2_with fail
   refine hK.out _ _ ?_ (fun hHeld3=>?_)
   ·intro _;exact⟨p12,q0,q1⟩
   clear hK;replace hHeld3:=hHeld3 (by decide);refine onE 4 rfl fun K hK=>?_;go_simp;refine hK.out _ _ ?_ (fun hHeld4=>?_)
   ·intro _;exact⟨(cb8 (bA8 w2 _ _ (by omega))).trans p12,(cb8 (bA8 w2 _ _ (by omega))).trans q0,(cb8 (bA8 w2 _ _ (by omega))).trans q1⟩
   clear hK;replace hHeld4:=hHeld4 (by decide);refine onE 5 rfl fun K hK=>?_;refine step_append_lies _ (by rfl) _ _ _ (by rfl) (w.heap.size+1+1+1) 91 i0 _ 2 32 Tryz.underlying55 hi hz0 hz1 hz2 rfl (by omega) y ct.length (cc us ct) (by rfl) (hB2.own.alloc _) ⟨w2.heap.size,0,none⟩ 1 1 [.slice a2 x.r.length n2,.int .i64 x.n] (by rfl) (by rfl) (World.news_of_block (cs:=#[.slice a2 x.r.length n2,.int .i64 x.n]) (t:=91) (fr:=(0,0)) (heap_alloc_new w2 _)) (by simp[Value.oneCell']) (by omega) hml hby (by simp;omega) (w2.heap.size+1) (by simp) ?_;intro gg cap w3 hown3 hgrow hat hlt3;have hz3:=hgrow.size;simp at hz3;have far:∀b q,b<w2.heap.size→y.ownBlock≠some b→w3.cell? ⟨b,q,none⟩=w2.cell? ⟨b,q,none⟩:=fun b q hb hne=>(hgrow.cell_far _ (by simp;omega) (Ne.symm hne)).trans (cb8 (bA8 _ _ _ hb));have farf:∀b q,b<w2.heap.size→y.ownBlock≠some b→w3.frozen? ⟨b,q,none⟩=w2.frozen? ⟨b,q,none⟩:=fun b q hb hne=>(hgrow.frozen_far _ (by simp;omega) (Ne.symm hne)).trans (fb8 (bA8 _ _ _ hb));have pf3:∀q,w3.frozen? ⟨w.heap.size+1+1,q,none⟩=false:=fun q=>(farf _ q (by omega) hv2).trans (pf2 q);have rf3:∀q,w3.frozen? ⟨w.heap.size+1,q,none⟩=false:=fun q=>(farf _ q (by omega) hvr).trans (rf2 q);have p03:=(far (w.heap.size+1+1) 0 (by omega) hv2).trans p02;have p13:=(far (w.heap.size+1+1) 1 (by omega) hv2).trans p12;have r03:=(far (w.heap.size+1) 0 (by omega) hvr).trans r02;have r13:=(far (w.heap.size+1) 1 (by omega) hvr).trans r12;have hBp:=BagOwn.push (hB2.below ((Below.refl _ _).alloc (Nat.le_refl _) (.cells #[.slice a2 x.r.length n2,.int .i64 x.n] 91))) (hR2.below ((Below.refl _ _).alloc (Nat.le_refl _) _)) ⟨hO2.1,fun b hb=>by have:=hO2.2.1 b hb;simp at this;omega,fun b hb q=>(fb8 (bA8 _ _ _ (hR2.lt b hb))).trans (hO2.2.2 b hb q)⟩ (fun b hb hb'=>by have:=hO2.2.1 b hb';have:=hGl b hb;simp at*;omega) (fun b hb hb'=>by have:=hO2.2.1 b hb';have:=(oL8 hB.own b hb).2;simp at*;omega) hown3 hgrow (fun b hb=>by simp[Value.ownBlock]at hb;subst hb;rcases hat with h|h;exact .inl h;exact .inr (by simp;omega))
   have far1:=far wr.heap.size 0 (by omega) hvT;have far2:=far wr.heap.size 1 (by omega) hvT;have bel3:Below w.heap.size w w3:=Below.grown bex hgrow (by simp;omega) (fun b hb=>by have:=(oL8 hB.own b hb).1;omega);refine hK.out _ _ ?_ (fun hHeld5=>?_)
   ·intro _;exact⟨p13,far1.trans q0,far2.trans q1⟩
   clear hK;replace hHeld5:=hHeld5 (by decide);refine tkE 6 22 rfl rfl ?_;refine onE 7 rfl fun K hK=>?_;go_simp;refine hK.out _ _ ?_ (fun hHeld7=>?_)
   ·exact fun h=>absurd rfl h
   clear hK hHeld7;refine doneE (by kernel_rfl) ?_ _;have P0:(w3.setCell ⟨w.heap.size+1+1,1,none⟩ (.slice (some ⟨gg,0,none⟩) (ct.length+1) cap)).cell? ⟨w.heap.size+1+1,0,none⟩=some (.int .i64 W):=(cO8 _ _ _ _ (by simp)).trans p03;have P1:(w3.setCell ⟨w.heap.size+1+1,1,none⟩ (.slice (some ⟨gg,0,none⟩) (ct.length+1) cap)).cell? ⟨w.heap.size+1+1,1,none⟩=some (.slice (some ⟨gg,0,none⟩) (ct.length+1) cap):=cS8 _ _ _ p13;have PF:∀q,(w3.setCell ⟨w.heap.size+1+1,1,none⟩ (.slice (some ⟨gg,0,none⟩) (ct.length+1) cap)).frozen? ⟨w.heap.size+1+1,q,none⟩=false:=fun q=>by simpa using pf3 q
   have R0:(w3.setCell ⟨w.heap.size+1+1,1,none⟩ (.slice (some ⟨gg,0,none⟩) (ct.length+1) cap)).cell? ⟨w.heap.size+1,0,none⟩=some (.int .i64 0):=(cO8 _ _ _ _ (by simp)).trans r03;have R1:(w3.setCell ⟨w.heap.size+1+1,1,none⟩ (.slice (some ⟨gg,0,none⟩) (ct.length+1) cap)).cell? ⟨w.heap.size+1,1,none⟩=some (.slice none 0 0):=(cO8 _ _ _ _ (by simp)).trans r13;have RF:∀q,(w3.setCell ⟨w.heap.size+1+1,1,none⟩ (.slice (some ⟨gg,0,none⟩) (ct.length+1) cap)).frozen? ⟨w.heap.size+1,q,none⟩=false:=fun q=>by simpa using rf3 q
   have hBs:=hBp.keep (w':=w3.setCell ⟨w.heap.size+1+1,1,none⟩ (.slice (some ⟨gg,0,none⟩) (ct.length+1) cap)) (by simp) (fun b hb _=>bS8 _ _ _ _ (by simp;omega));rw[←HT.out]at hBs;have belS:Below w.heap.size w (w3.setCell ⟨w.heap.size+1+1,1,none⟩ (.slice (some ⟨gg,0,none⟩) (ct.length+1) cap)):=bel3.setCell (by simp;omega) _;have hzS:w.heap.size+1+1+1≤(w3.setCell ⟨w.heap.size+1+1,1,none⟩ (.slice (some ⟨gg,0,none⟩) (ct.length+1) cap)).heap.size:=by simp;omega
   clear hown3 hgrow hat far farf hBp hB2 hR2 hO2 hb2 hB p03 p13 pf3 r03 r13 rf3 hHeld hHeld3 hHeld4 hHeld5;go_wp2;exact⟨⟨k+1,_,_,_,hlt,by simp,P0,P1,PF,R0,R1,RF,hBs,belS,hzS⟩,by simp[intOf];omega⟩
  ·obtain rfl:k=cs.length:=by omega
   rw[List.take_length]at hB;obtain⟨ay,cy,rfl⟩:=hB.shape;clear ha hC;go_wp2;refine bodyPost_ret (v:=.agg #[.int .i64 W,.slice ay cs.length cy]) (by simp[results,Tryz.results24,go_sem, *]) rfl ⟨⟨_,us,G,rfl,(hB.keep (by simp) fun b hb _=>?_).weak (by omega)⟩,?_⟩
   ·repeat rw[bS8 _ _ _ _ (by simp;omega)]
   ·repeat (first|(with_reducible exact hb)|(with_reducible refine Below.setCell ?_ ?hh _;case hh=>(simp;try omega)))
end
section
open Go.RowKit Go.Deep
attribute [local go_sem↓] Go.wp_at_zero Go.wp_at_succ
theorem copyRels_any (v:Value)(rs:List R3)(F:List Nat)(w:World)(hr:RelsF w v rs F)(hn:wtR rs≤1048576):Calls Tryz.prog 22 #[v] w fun e w'=>(∃u us G g c,e=.returned u∧u=.slice (some ⟨g,0,none⟩) rs.length c∧RelOwn w' w.heap.size u rs us G)∧Below w.heap.size w w':=by
 obtain⟨i0,hi,hz0,hz1,hz2⟩:=info_parts Tryz.infoRel;obtain⟨a,c,b,o,G0,rfl,hl,hc,_,hG0,_,hC,ha⟩:=hr.pick;unfold maxLen at hc;clear hr;have hn1:rs.length≤1048576:=by unfold wtR at hn;omega
 go_enter Tryz.func22,Tryz.ntmps22;go_wp2;go_loopw [3,9] (fun y i wr=> ∃ (k:Nat) (us:List Value) (G:List (List Nat)),k≤rs.length∧i=.int .i64 k∧RelOwn wr w.heap.size y (rs.take k) us G∧(∃g c,y=.slice (some ⟨g,0,none⟩) (rs.take k).length c)∧Below w.heap.size w wr) (fun _ i _=>rs.length - (intOf i).toNat)
 case atStart=>
  refine⟨0,[],[],Nat.zero_le _,rfl,?_,⟨_,_,rfl⟩,bex⟩;exact RelOwn.empty' (by simp)
 case round=>
  obtain⟨k,us,G,hk,rfl,hB,hY,hb⟩:=hrel;have hzb:=hb.size;by_cases hlt:k<rs.length
  ·obtain⟨rfl,hblt,_⟩:=ha k hlt;obtain⟨x,u,g,hx,c0,c1,c2,hR,hbr⟩:=hC.at hG0 hblt hb hlt;obtain⟨au,lu,cu,rfl⟩:=hR.is.shape;have hxm:=mg8 hx;have hxn:wtb x.cs≤1048576:=by have:=wtr_mem hxm;unfold wtr at this;unfold wtR at hn;omega
   have hvl:=oL8 hB.own;have hvb:u3.ownBlock≠some b:=fun e=>by have:=(hvl _ e).1;omega
   have hvT:u3.ownBlock≠some wr.heap.size:=fun e=>by have:=(hvl _ e).2;omega
   have hGl:=hB.lt;have htk:(rs.take k).length=k:=by simp;omega
   have HT:Hid (rs.take (k+1)=rs.take k++ [x]):=take_snoc hx;clear hY;generalize rs.take k=ct at*;have hml:ct.length+1≤maxLen:=by unfold maxLen;omega
   have hby:(ct.length+1)*48≤140737488355328:=by omega
   clear ha hC hx htk hvl;go_wp2_with fail;refine startE 9 (fun w'=>w'.cell? ⟨wr.heap.size,0,none⟩=some (.string x.s)∧w'.cell? ⟨wr.heap.size,1,none⟩=some (.int .i64 x.W)∧w'.cell? ⟨wr.heap.size,2,none⟩=some (.slice au lu cu)) (by kernel_rfl) ?_ (fun hHeld=>?_)
   ·exact⟨by go_simp,by go_simp,by go_simp⟩
   refine tkE 0 13 rfl rfl ?_;refine tkE 1 14 rfl rfl ?_;refine tkE 2 15 rfl rfl ?_;refine tkE 3 16 rfl rfl ?_;refine tkE 4 17 rfl rfl ?_;refine onE 5 rfl fun K hK=>?_;go_simp;go_at_call 24;refine cM8 (copyBag_any x.W (.slice au lu cu) x.cs g _ (hR.below ?hbb) hxn) ?_
   case hbb=>exact bex
   rintro e w2 ⟨⟨u2,us2,G2,rfl,hBo2⟩,hb2⟩;obtain⟨g2,hR2,hO2⟩:=hBo2.rowsF;clear hBo2;obtain⟨a2,l2,n2,rfl⟩:=hR2.is.shape;have hzw2:=hb2.size;(try simp at hzw2);(try simp at hO2);have bel2:Below wr.heap.size wr w2:=bex;have hB2:=hB.below bel2;have d0:w2.cell? ⟨wr.heap.size,0,none⟩=some (.string x.s):=cL8 hb2 (by go_simp);have d1:w2.cell? ⟨wr.heap.size,1,none⟩=some (.int .i64 x.W):=cL8 hb2 (by go_simp);have d2:w2.cell? ⟨wr.heap.size,2,none⟩=some (.slice au lu cu):=cL8 hb2 (by go_simp);try go_wp2_with fail
   refine hK.out _ _ ?_ (fun hHeld5=>?_)
   ·intro _;exact⟨d0,d1,d2⟩
   clear hK;replace hHeld5:=hHeld5 (by decide);refine tkE 6 19 rfl rfl ?_;refine onE 7 rfl fun K hK=>?_;go_simp;refine hK.out _ _ ?_ (fun hHeld7=>?_)
   ·intro _;exact⟨(cb8 (bA8 w2 _ _ (by omega))).trans d0,(cb8 (bA8 w2 _ _ (by omega))).trans d1,(cb8 (bA8 w2 _ _ (by omega))).trans d2⟩
   clear hK;replace hHeld7:=hHeld7 (by decide);refine onE 8 rfl fun K hK=>?_;refine step_append_lies _ (by rfl) _ _ _ (by rfl) w.heap.size 59 i0 _ 3 48 Tryz.underlying26 hi hz0 hz1 hz2 rfl (by omega) u3 ct.length (rcs us ct) (by rfl) (hB2.own.alloc _) ⟨w2.heap.size,0,none⟩ 1 1 [.string x.s,.int .i64 x.W,.slice a2 l2 n2] (by rfl) (by rfl) (World.news_of_block (cs:=#[.string x.s,.int .i64 x.W,.slice a2 l2 n2]) (t:=59) (fr:=(0,0)) (heap_alloc_new w2 _)) (by simp[Value.oneCell']) (by omega) hml hby (by simp;omega) (w2.heap.size+1) (by simp) ?_;intro gg cap w3 hown3 hgrow hat hlt3;have hz3:=hgrow.size;simp at hz3;have far:∀b q,b<w2.heap.size→u3.ownBlock≠some b→w3.cell? ⟨b,q,none⟩=w2.cell? ⟨b,q,none⟩:=fun b q hb hne=>(hgrow.cell_far _ (by simp;omega) (Ne.symm hne)).trans (cb8 (bA8 _ _ _ hb));have f0:=(far wr.heap.size 0 (by omega) hvT).trans d0;have f1:=(far wr.heap.size 1 (by omega) hvT).trans d1;have f2:=(far wr.heap.size 2 (by omega) hvT).trans d2;have hBp:=RelOwn.push (x:=x) (hB2.below ((Below.refl _ _).alloc (Nat.le_refl _) (.cells #[.string x.s,.int .i64 x.W,.slice a2 l2 n2] 59))) (hR2.below ((Below.refl _ _).alloc (Nat.le_refl _) _)) ⟨hO2.1,fun b hb=>by have:=hO2.2.1 b hb;omega,fun b hb q=>(fb8 (bA8 _ _ _ (hR2.lt b hb))).trans (hO2.2.2 b hb q)⟩ (fun b hb hb'=>by have:=hO2.2.1 b hb';have:=hGl b hb;omega) (fun b hb hb'=>by have:=hO2.2.1 b hb';have:=(oL8 hB.own b hb).2;omega) hown3 hgrow (fun b hb=>by simp[Value.ownBlock]at hb;subst hb;rcases hat with h|h;exact .inl h;exact .inr (by simp;omega))
   have bel3:Below w.heap.size w w3:=Below.grown bex hgrow (by simp;omega) (fun b hb=>by have:=(oL8 hB.own b hb).1;omega);refine hK.out _ _ ?_ (fun hHeld8=>?_)
   ·intro _;exact⟨f0,f1,f2⟩
   clear hK;replace hHeld8:=hHeld8 (by decide);refine onE 9 rfl fun K hK=>?_;go_simp;refine hK.out _ _ ?_ (fun hHeld9=>?_)
   ·exact fun h=>absurd rfl h
   clear hK hHeld9;refine doneE (by kernel_rfl) ?_ _;rw[←HT.out]at hBp;clear hown3 hgrow hat far hB2 hR2 hO2 hb2 hB hHeld hHeld5 hHeld7 hHeld8 f0 f1 f2 d0 d1 d2;go_wp2;exact⟨⟨k+1,_,_,hlt,by simp,hBp,⟨gg,cap,by rw[HT.out];simp⟩,bel3⟩,by simp[intOf];omega⟩
  ·obtain rfl:k=rs.length:=by omega
   rw[List.take_length]at hB hY;obtain⟨gy,cy,eY⟩:=hY;go_wp2;go_returns;exact⟨⟨_,us,G,gy,cy,rfl,eY,hB⟩,hb⟩
end
section
open Go.RowKit Go.Deep
def FreeE (w:World)(F:List Nat):Prop:=∀b∈F,∀o,w.frozen? ⟨b,o,none⟩=false
structure ChgE (F:List Nat)(w w':World):Prop where
 os:w'.os=w.os
 tape:w'.tape=w.tape
 output:w'.output=w.output
 size:w.heap.size≤w'.heap.size
 block:∀k,k<w.heap.size→k∉F→w'.heap[k]?=w.heap[k]?
 free:FreeE w F→FreeE w' F
theorem ChgE.of_below {w w':World}{F:List Nat}(h:Below w.heap.size w w')(hF:∀b∈F,b<w.heap.size):ChgE F w w':=
 ⟨h.os,h.tape,h.output,h.size,fun k hk _=>h.block k hk,fun f b hb o=>(fb8 (h.block b (hF b hb))).trans (f b hb o)⟩
theorem ChgE.refl (F:List Nat)(w:World):ChgE F w w:=⟨rfl,rfl,rfl,Nat.le_refl _,fun _ _ _=>rfl,id⟩
theorem ChgE.trans {a b c:World}{F:List Nat}(h:ChgE F a b)(k:ChgE F b c):ChgE F a c:=
 ⟨k.os.trans h.os,k.tape.trans h.tape,k.output.trans h.output,Nat.le_trans h.size k.size,fun i hi hF=>(k.block i (Nat.lt_of_lt_of_le hi h.size) hF).trans (h.block i hi hF),fun f=>k.free (h.free f)⟩
theorem ChgE.setCell {w w':World}{F:List Nat}(h:ChgE F w w'){p:Addr}(hp:p.block∈F)(u:Value):ChgE F w (w'.setCell p u):=
 ⟨h.os,h.tape,h.output,by simpa using h.size,fun k hk hF=>(bS8 _ _ _ _ (by rintro rfl;exact hF hp)).trans (h.block k hk hF),fun f b hb o=>by rw[World.frozen?_setCell];exact h.free f b hb o⟩
theorem ChgE.wide {w w':World}{F G:List Nat}(h:ChgE F w w')(hs:∀b∈F,b∈G)(hG:∀b∈G,b∉F→b<w.heap.size):ChgE G w w':=
 ⟨h.os,h.tape,h.output,h.size,fun k hk hF=>h.block k hk fun hx=>hF (hs k hx),fun f b hb o=>by
  by_cases hx:b∈F
  ·exact h.free (fun c hc=>f c (hs c hc)) b hx o
  ·exact(fb8 (h.block b (hG b hb hx) hx)).trans (f b hb o)⟩
theorem ChgE.below {w w':World}{F:List Nat}{N:Nat}(h:ChgE F w w')(hF:∀b∈F,N≤b)(hN:N≤w.heap.size):Below N w w':=
 ⟨h.os,h.tape,h.output,h.size,fun k hk=>h.block k (by omega) fun hx=>by have:=hF k hx;omega⟩
end
section
open Go.RowKit Go.Deep
def nK:Nat→List E7→Nat
 |0,_=>0
 |d+1,es=>(es.map fun e=>1+nK d e.ks).sum
def offE (d k:Nat)(es:List E7)(i:Nat):Nat:=k+6* ((es.take i).map fun e=>1+nK d e.ks).sum
def mK:Nat→Nat→List E7→List E7
 |0,_,_=>[]
 |d+1,k,es=>es.mapIdx fun i e=>E7.mk (offE d k es i:Nat) ((offE d k es i:Nat)+1) ⟨(offE d k es i:Nat)+1+1,(offE d k es i:Nat)+1+1+1,mt ((offE d k es i:Nat)+1+1+1+1)⟩ (mt ((offE d k es i:Nat)+1+1+1+1+1)) (mK d (offE d k es i+6) e.ks)
def mE (d t:Nat)(e:E7):E7:=E7.mk t ((t:Int)+1) ⟨(t:Int)+1+1,(t:Int)+1+1+1,mt ((t:Int)+1+1+1+1)⟩ (mt ((t:Int)+1+1+1+1+1)) (mK d (t+6) e.ks)
theorem nK_le:∀ (d:Nat) (es:List E7),nK d es≤es.length+wtEs es
 |0,_=>Nat.zero_le _
 |d+1,es=>by
  rw[nK];induction es with
  |nil=>simp
  |cons e es ih=>
   have h1:=nK_le d e.ks;have h2:=wtE_eq e;rw[List.map_cons,List.sum_cons,List.length_cons,wtEs];omega
theorem offE_zero (d k:Nat)(es:List E7):offE d k es 0=k:=by simp[offE]
theorem offE_succ {d k i:Nat}{es:List E7}{e:E7}(h:es[i]?=some e):offE d k es (i+1)=offE d k es i+6+6*nK d e.ks:=by
 obtain⟨hk,rfl⟩:=gE1 h;unfold offE;rw[List.take_succ_eq_append_getElem hk,List.map_append,List.sum_append];simp only[List.map_cons,List.map_nil,List.sum_cons,List.sum_nil];omega
theorem offE_end (d k:Nat)(es:List E7):offE d k es es.length=k+6*nK (d+1) es:=by unfold offE;rw[List.take_length,nK]
theorem offE_le (d k:Nat)(es:List E7)(i:Nat):offE d k es i≤k+6*nK (d+1) es:=by
 rw[nK];have h2:((es.take i).map fun e=>1+nK d e.ks).sum≤(es.map fun e=>1+nK d e.ks).sum:=by
  conv=>rhs;rw[←List.take_append_drop i es]
  rw[List.map_append,List.sum_append];omega
 unfold offE;omega
theorem offE_pos (d k:Nat)(es:List E7)(i:Nat)(h:0<k):0<offE d k es i:=by unfold offE;omega
def mKi (d k n:Nat)(es:List E7):List E7:=es.mapIdx fun i e=>if i<n then mE d (offE d k es i) e else e
theorem mKi_len (d k n:Nat)(es:List E7):(mKi d k n es).length=es.length:=by simp[mKi]
theorem mKi_at {d k n i:Nat}{es:List E7}{e:E7}(h:es[i]?=some e):(mKi d k n es)[i]?=some (if i<n then mE d (offE d k es i) e else e):=by simp[mKi,h]
theorem mKi_zero (d k:Nat)(es:List E7):mKi d k 0 es=es:=by
 apply List.ext_getElem?;intro i;cases h:es[i]? with
 |none=>have:=List.getElem?_eq_none_iff.1 h;rw[List.getElem?_eq_none (by rw[mKi_len];exact this)]
 |some x=>rw[mKi_at h,if_neg (by omega)]
theorem mK_len (d k:Nat)(es:List E7):(mK (d+1) k es).length=es.length:=by simp[mK]
theorem mK_at {d k i:Nat}{es:List E7}{e:E7}(h:es[i]?=some e):(mK (d+1) k es)[i]?=some (mE d (offE d k es i) e):=by simp[mK,h,mE]
theorem mKi_all (d k:Nat)(es:List E7):mKi d k es.length es=mK (d+1) k es:=by
 apply List.ext_getElem?;intro i;cases h:es[i]? with
 |none=>
  have:=List.getElem?_eq_none_iff.1 h;rw[List.getElem?_eq_none (by rw[mKi_len];exact this),List.getElem?_eq_none (by rw[mK_len];exact this)]
 |some x=>
  have:=(gE1 h).1;rw[mKi_at h,if_pos this,mK_at h]
theorem mE_wf (d t:Nat)(e:E7)(h:t≤999999990)(s1:(mt ((t:Int)+1+1+1+1)).size≤maxLen)(s2:(mt ((t:Int)+1+1+1+1+1)).size≤maxLen):(mE d t e).wf:=by
 have e1:IntKind.i64.min= -9223372036854775808:=by decide
 have e2:IntKind.i64.max=9223372036854775807:=by decide
 refine⟨?_,?_,⟨?_,?_,s1⟩,s2⟩<;>(simp only[mE,E7.mk_k,E7.mk_n,E7.mk_v,Lit.wf,Bool.and_eq_true,decide_eq_true_eq,e1,e2];omega)
theorem far_set {w:World}{b q q':Nat}{x:Value}(h:q≠q'):(w.setCell ⟨b,q',none⟩ x).cell? ⟨b,q,none⟩=w.cell? ⟨b,q,none⟩:=
 cO8 _ _ _ _ (by intro e;have:=congrArg Addr.off e;simp at this;omega)
theorem disjE {b:Nat}{G:List (List Nat)}(h:(b::G.flatten).Nodup){i j:Nat}{g g':List Nat}(hi:G[i]?=some g)(hj:G[j]?=some g')(hne:i≠j):∀y∈g,y∉g':=by
 have h2:=(List.nodup_cons.1 h).2;rw[List.Nodup,List.pairwise_flatten]at h2;have h3:=List.pairwise_iff_getElem.1 h2.2;obtain⟨hi',rfl⟩:=gE1 hi;obtain⟨hj',rfl⟩:=gE1 hj;intro y hy hy';rcases Nat.lt_or_gt_of_ne hne with hlt|hlt
 ·exact h3 i j hi' hj' hlt y hy y hy' rfl
 ·exact h3 j i hj' hi' hlt y hy' y hy rfl
theorem headE {b:Nat}{G:List (List Nat)}(h:(b::G.flatten).Nodup){i:Nat}{g:List Nat}(hi:G[i]?=some g):b∉g:=fun hb=>
 (List.nodup_cons.1 h).1 (List.mem_flatten.2 ⟨g,mg8 hi,hb⟩)
theorem ELies.mark {w w3:World}{d b o k n:Nat}{es:List E7}{G:List (List Nat)}{e:E7}{g:List Nat}{u:Value}(h:ELies w d b o (mKi d k n es) G)(hG:G.length=es.length)(hnd:(b::G.flatten).Nodup)(hx:es[n]?=some e)(hg:G[n]?=some g)(hu:w.cell? ⟨b,o+n*7+6,none⟩=some u) (hsz:w.heap.size≤w3.heap.size) (hblk:∀x∈G.flatten,x∉g→w3.heap[x]?=w.heap[x]?)(hcell:∀q,(∀p,p<6→q≠o+n*7+p)→w3.cell? ⟨b,q,none⟩=w.cell? ⟨b,q,none⟩) (hc:cellsE w3 b (o+n*7) (mE d (offE d k es n) e)) (hwf:(mE d (offE d k es n) e).wf)(hK:KidsIs w3 d u (mK d (offE d k es n+6) e.ks) g):ELies w3 d b o (mKi d k (n+1) es) G:=by
 intro i y g' hy hg';have hi:i<es.length:=by have:=(gE1 hy).1;rwa [mKi_len]at this
 obtain⟨z,hz⟩:∃z,es[i]?=some z:=⟨es[i],by simp[hi]⟩;rw[mKi_at hz]at hy;have hy:=(Option.some.inj hy).symm;by_cases ei:i=n
 ·subst ei;obtain rfl:z=e:=by rw[hx]at hz;exact(Option.some.inj hz).symm
  obtain rfl:g'=g:=by rw[hg]at hg';exact(Option.some.inj hg').symm
  rw[if_pos (by omega)]at hy;subst hy;exact⟨hwf,hc,u,(hcell _ (fun p hp=>by omega)).trans hu,hK⟩
 ·obtain⟨a0,⟨c0,c1,c2,c3,c4,c5⟩,u',c6,a2⟩:=h i _ g' (mKi_at hz) hg';have ey:y=if i<n then mE d (offE d k es i) z else z:=by
   rw[hy];by_cases hin:i<n
   ·rw[if_pos hin,if_pos (by omega)]
   ·rw[if_neg hin,if_neg (by omega)]
  rw[←ey]at a0 c0 c1 c2 c3 c4 c5 a2;have hd:=disjE hnd hg' hg ei;exact⟨a0,⟨(hcell _ (fun p hp=>by omega)).trans c0,(hcell _ (fun p hp=>by omega)).trans c1,(hcell _ (fun p hp=>by omega)).trans c2,(hcell _ (fun p hp=>by omega)).trans c3,(hcell _ (fun p hp=>by omega)).trans c4,(hcell _ (fun p hp=>by omega)).trans c5⟩,u',(hcell _ (fun p hp=>by omega)).trans c6,a2.keep hsz fun x hx=>hblk x (List.mem_flatten.2 ⟨g',mg8 hg',hx⟩) (hd x hx)⟩
end
end
end Go.Proofs.YtjhhmnjpojnoiaaGreatDoor
