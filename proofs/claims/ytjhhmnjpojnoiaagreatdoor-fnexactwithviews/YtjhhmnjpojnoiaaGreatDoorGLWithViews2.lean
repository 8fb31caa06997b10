/- Own texts, joined: contracts that the law's proof goes by. -/
import Derived.Test.YtjhhmnjpojnoiaaGreatDoorGLWithViews1
import Derived.Deep.SlicePairs
import Derived.OpenShut
import Derived.ChangeOld
import Derived.Deep.OwnRows
import Derived.Handy
import Derived.Deep.RegionHeld3
set_option maxHeartbeats 16000000
set_option maxRecDepth 100000
set_option linter.unusedVariables false
set_option linter.unusedSimpArgs false
namespace Go.Proofs.YtjhhmnjpojnoiaaGreatDoor
section
section
open Go.RowKit Go.Deep Go.ChangeShapes Go.WideShapes
structure V3 where
 k:Int
 n:Int
 s:ByteArray
def V3.wf (x:V3):Prop:=(Lit.int .i64 x.k).wf=true∧(Lit.int .i64 x.n).wf=true∧x.s.size≤maxLen
def VsWf (vs:List V3):Prop:=∀y∈vs,y.wf
def Lies (w:World)(b o:Nat)(vs:List V3):Prop:=
 ∀i x,vs[i]?=some x→w.cell? ⟨b,o+i*3,none⟩=some (.int .i64 x.k)∧w.cell? ⟨b,o+i*3+1,none⟩=some (.int .i64 x.n)∧w.cell? ⟨b,o+i*3+2,none⟩=some (.string x.s)
def RowIs (w:World)(v:Value)(vs:List V3):Prop:=
 ∃a c,v=.slice a vs.length c∧vs.length≤c∧c≤maxLen∧(vs≠ []→∃b o,a=some ⟨b,o,none⟩∧b<w.heap.size∧Lies w b o vs)
theorem Lies.below {w w':World}{b o:Nat}{vs:List V3}{N:Nat}(h:Lies w b o vs)(hb:Below N w w')(hN:b<N):Lies w' b o vs:=fun i x hx=>by
 obtain⟨h0,h1,h2⟩:=h i x hx;exact⟨(hb.cell (p:=⟨b,o+i*3,none⟩) hN).trans h0,(hb.cell (p:=⟨b,o+i*3+1,none⟩) hN).trans h1,(hb.cell (p:=⟨b,o+i*3+2,none⟩) hN).trans h2⟩
theorem RowIs.below {w w':World}{v:Value}{vs:List V3}(h:RowIs w v vs)(hb:Below w.heap.size w w'):RowIs w' v vs:=by
 obtain⟨a,c,rfl,hl,hc,h⟩:=h;refine⟨a,c,rfl,hl,hc,fun hne=>?_⟩;obtain⟨b,o,rfl,hlt,hL⟩:=h hne;exact⟨b,o,rfl,Nat.lt_of_lt_of_le hlt hb.size,hL.below hb hlt⟩
theorem RowIs.pick {w:World}{v:Value}{vs:List V3}(h:RowIs w v vs):∃a c b o,v=.slice a vs.length c∧vs.length≤c∧c≤maxLen∧∀k,k<vs.length→a=some ⟨b,o,none⟩∧b<w.heap.size∧Lies w b o vs:=by
 obtain⟨a,c,rfl,hl,hc,h⟩:=h;by_cases hne:vs=[]
 ·exact⟨a,c,0,0,rfl,hl,hc,fun k hk=>by rw[hne]at hk;simp at hk⟩
 ·obtain⟨b,o,h⟩:=h hne;exact⟨a,c,b,o,rfl,hl,hc,fun _ _=>h⟩
theorem Lies.at {w w':World}{b o:Nat}{vs:List V3}(h:Lies w b o vs)(hlt:b<w.heap.size)(hb:Below w.heap.size w w'){k:Nat}(hk:k<vs.length):∃x,vs[k]?=some x∧w'.cell? ⟨b,o+k*3,none⟩=some (.int .i64 x.k)∧w'.cell? ⟨b,o+k*3+1,none⟩=some (.int .i64 x.n)∧w'.cell? ⟨b,o+k*3+2,none⟩=some (.string x.s)∧b<w'.heap.size:=
 ⟨vs[k],by simp[hk],by have:=h.below hb hlt k vs[k] (by simp[hk]);exact⟨this.1,this.2.1,this.2.2,Nat.lt_of_lt_of_le hlt hb.size⟩⟩
def cf (vs:List V3)(i:Nat):Value:=if i %3=0 then .int .i64 (vs.getD (i/3) ⟨0,0,⟨#[]⟩⟩).k else if i %3=1 then .int .i64 (vs.getD (i/3) ⟨0,0,⟨#[]⟩⟩).n else .string (vs.getD (i/3) ⟨0,0,⟨#[]⟩⟩).s
theorem cf_at {vs:List V3}{k:Nat}{x:V3}(h:vs[k]?=some x):cf vs (k*3)=.int .i64 x.k∧cf vs (k*3+1)=.int .i64 x.n∧cf vs (k*3+2)=.string x.s:=by
 have e0:k*3/3=k:=by omega
 have e1:(k*3+1)/3=k:=by omega
 have e2:(k*3+2)/3=k:=by omega
 have m0:k*3 %3=0:=by omega
 have m1:(k*3+1) %3=1:=by omega
 have m2:(k*3+2) %3=2:=by omega
 refine⟨?_,?_,?_⟩<;>simp[cf,e0,e1,e2,m0,m1,m2,List.getD,h]
def Half (w:World)(B:Nat)(t:TypeId)(vs:List V3)(k:Nat):Prop:=∃f,w.rowIs B t (vs.length*3) f∧∀i,i<k*3→f i=cf vs i
theorem Half.done {w:World}{B:Nat}{t:TypeId}{vs:List V3}(h:Half w B t vs vs.length):w.rowIs B t (vs.length*3) (cf vs):=by
 obtain⟨f,h,e⟩:=h;exact h.congr e
theorem Half.step {w:World}{B:Nat}{t:TypeId}{vs:List V3}{k:Nat}{x:V3}(h:Half w B t vs k)(hx:vs[k]?=some x):Half (((w.setCell ⟨B,k*3,none⟩ (.int .i64 x.k)).setCell ⟨B,k*3+1,none⟩ (.int .i64 x.n)).setCell ⟨B,k*3+2,none⟩ (.string x.s)) B t vs (k+1):=by
 obtain⟨f,h,e⟩:=h;obtain⟨h0,h1,h2⟩:=cf_at hx;refine⟨_,((h.set _ _).set _ _).set _ _,fun i hi=>?_⟩;by_cases e2:i=k*3+2
 ·simp[e2,h2]
 by_cases e1:i=k*3+1
 ·simp[e1,h1]
 by_cases e0:i=k*3
 ·simp[e0,h0]
 ·simp only[if_neg e0,if_neg e1,if_neg e2];exact e i (by omega)
theorem Half.of_block {w w':World}{B:Nat}{t:TypeId}{vs:List V3}{k:Nat}(h:Half w B t vs k)(e:w'.heap[B]?=w.heap[B]?):Half w' B t vs k:=by
 obtain⟨f,h,g⟩:=h;exact⟨f,h.of_block e,g⟩
theorem Half.cells {w:World}{B:Nat}{t:TypeId}{vs:List V3}{k:Nat}(h:Half w B t vs k)(hk:k<vs.length):(∃u,w.cell? ⟨B,k*3,none⟩=some u)∧(∃u,w.cell? ⟨B,k*3+1,none⟩=some u)∧(∃u,w.cell? ⟨B,k*3+2,none⟩=some u)∧(∀i,w.frozen? ⟨B,i,none⟩=false)∧B<w.heap.size:=by
 obtain⟨f,h,g⟩:=h;exact⟨⟨_,h.cell (by omega)⟩,⟨_,h.cell (by omega)⟩,⟨_,h.cell (by omega)⟩,fun i=>h.frozen i,h.lt⟩
theorem half_made (w:World)(z:Array Value)(t:TypeId)(vs:List V3):Half (w.alloc (.cells (madeCells z (vs.length*3)) t)) w.heap.size t vs 0:=
 ⟨fun i=>(madeCells z (vs.length*3))[i]?.getD undef,⟨_,blk_alloc_new _ _,size_madeCells _ _,fun i hi=>by
  have:i<(madeCells z (vs.length*3)).size:=by rw[size_madeCells];exact hi
  simp[this]⟩,fun i hi=>by omega⟩
theorem run_make_wide {P:Program}(t e:TypeId)(z:Value)(size bytes:Nat)(ht:P.underlying t=some (.slice e))(hinfo:(P.info? e).map (fun i=>(i.zero,i.size,i.bytes))=some (some z,size,bytes))(n:Nat) (hbytes:bytes*n≤281474976710656) (h63:n≤9223372036854775807) (w:World):(Instr.makeSlice t (.int .i64 (n:Int)) (.int .i64 (n:Int))).run P w=.ok (.slice (some ⟨w.heap.size,0,none⟩) n n) (w.alloc (.cells (madeCells z.cells (n*size)) e)):=by
 obtain⟨i,hi,hzz⟩:=Option.map_eq_some_iff.1 hinfo;simp only[Prod.mk.injEq]at hzz;obtain⟨hz,hs,hb⟩:=hzz;have hb':(i.bytes:Int)* (n:Int)≤281474976710656:=by
  have h:((i.bytes*n:Nat):Int)≤281474976710656:=by rw[hb];omega
  rwa [Int.natCast_mul]at h
 have hr:=run_make (P:=P) w t e i z ht hi hz .i64 .i64 n n (by omega) (Int.le_refl _) hb' (by omega);rw[hs]at hr
 simpa using hr
def wts (vs:List V3):Nat:=(vs.map fun x=>x.s.size).sum
def wt (vs:List V3):Nat:=vs.length+wts vs
theorem wts_take {vs:List V3}{k:Nat}{x:V3}(h:vs[k]?=some x):wts (vs.take (k+1))=wts (vs.take k)+x.s.size:=by
 unfold wts;obtain⟨hk,rfl⟩:=gE1 h;rw[List.take_succ_eq_append_getElem hk,List.map_append,List.sum_append];simp only[List.map_cons,List.map_nil,List.sum_cons,List.sum_nil,Nat.add_zero]
structure C2 where
 r:List V3
 n:Int
def C2.wf (x:C2):Prop:=VsWf x.r∧(Lit.int .i64 x.n).wf=true
def CsWf (cs:List C2):Prop:=∀y∈cs,y.wf
def CLies (w:World)(b o:Nat)(cs:List C2):Prop:=
 ∀i x,cs[i]?=some x→∃v,w.cell? ⟨b,o+i*2,none⟩=some v∧RowIs w v x.r∧w.cell? ⟨b,o+i*2+1,none⟩=some (.int .i64 x.n)
def RowsIs (w:World)(v:Value)(cs:List C2):Prop:=
 ∃a c,v=.slice a cs.length c∧cs.length≤c∧c≤maxLen∧(cs≠ []→∃b o,a=some ⟨b,o,none⟩∧b<w.heap.size∧CLies w b o cs)
theorem CLies.below {w w':World}{b o:Nat}{cs:List C2}(h:CLies w b o cs)(hb:Below w.heap.size w w')(hN:b<w.heap.size):CLies w' b o cs:=fun i x hx=>by
 obtain⟨v,h0,h1,h2⟩:=h i x hx;exact⟨v,(hb.cell (p:=⟨b,o+i*2,none⟩) hN).trans h0,h1.below hb,(hb.cell (p:=⟨b,o+i*2+1,none⟩) hN).trans h2⟩
theorem RowsIs.below {w w':World}{v:Value}{cs:List C2}(h:RowsIs w v cs)(hb:Below w.heap.size w w'):RowsIs w' v cs:=by
 obtain⟨a,c,rfl,hl,hc,h⟩:=h;refine⟨a,c,rfl,hl,hc,fun hne=>?_⟩;obtain⟨b,o,rfl,hlt,hL⟩:=h hne;exact⟨b,o,rfl,Nat.lt_of_lt_of_le hlt hb.size,hL.below hb hlt⟩
section
variable {H:Type} {enc:TypeId×Value→H} {P:Program} {w:World} {spare:Nat→Bool} {held:Bool}
theorem open_row {t e:TypeId}{F0 F1 F2:Field}{fuel:Nat}{v:Value}{x:DataW H×List MemPlace}(ht:P.underlying t=some (.slice e))(he:P.underlying e=some (.struct #[F0,F1,F2]))(ce:P.cellsOf e=3) (o0:F0.offset=0) (o1:F1.offset=1) (o2:F2.offset=2) (c0:P.cellsOf F0.type=1) (c1:P.cellsOf F1.type=1) (c2:P.cellsOf F2.type=1)(u0:P.underlying F0.type=some (.int .i64)) (u1:P.underlying F1.type=some (.int .i64)) (u2:P.underlying F2.type=some .string)(h:DataW.trod enc P w 0 spare held fuel t [v]=some x):∃vs,RowIs w v vs∧VsWf vs:=by
 rcases open_slice ht h with⟨h0,_⟩|⟨a,len,cap,m,n,D,Pl,hcs,hb,hl,hm,hmm,rfl,hx⟩
 ·simp at h0;subst h0;exact⟨[],⟨none,0,rfl,by simp,by simp,fun h=>absurd rfl h⟩,by simp[VsWf]⟩
 simp at hcs;subst hcs;have hlm:len≤m:=by rw[hmm];split<;>omega
 have each:∀i,i<len→∃q:V3,w.cell? (a.add (i*3))=some (.int .i64 q.k)∧w.cell? (a.add (i*3+1))=some (.int .i64 q.n)∧w.cell? (a.add (i*3+2))=some (.string q.s)∧q.wf:=by
  intro i hi;obtain⟨cs',h1,h2⟩:=hx i (by omega);rw[ce]at h1;obtain⟨_,hlen,hcell⟩:=World.cells?_some h1;obtain⟨xs,k,hk,hxy,_,hxl,hf⟩:=DataW.trod_struct he h2
  match xs,hxl,cs',hlen with
  | [y0,y1,y2],_,[v0,v1,v2],_=>
   have g0:=hf 0 F0 rfl;have g1:=hf 1 F1 rfl;have g2:=hf 2 F2 rfl;simp[o0,o1,o2,c0,c1,c2]at g0 g1 g2;have e0:=hcell 0 (by omega);have e1:=hcell 1 (by omega);have e2:=hcell 2 (by omega);rw[add_add]at e0 e1 e2;obtain⟨z0,q0,_,w0⟩:=DataW.trod_int u0 g0;obtain⟨z1,q1,_,w1⟩:=DataW.trod_int u1 g1;obtain⟨z2,q2,_,ws⟩:=DataW.trod_string u2 g2;simp at q0 q1 q2;subst q0 q1 q2;exact⟨⟨z0,z1,z2⟩,by simpa using e0,by simpa using e1,by simpa using e2,w0,w1,ws⟩
 have:Inhabited V3:=⟨⟨0,0,⟨#[]⟩⟩⟩;obtain⟨q,hq⟩:=choose_lt each;refine⟨(List.range len).map q,⟨some a,cap,by simp,by simpa using hl,hm,fun hne=>?_⟩,?_⟩
 ·have hpos:0<len:=by
   rcases Nat.eq_zero_or_pos len with h0|h0
   ·subst h0;simp at hne
   ·exact h0
  have hs:a.spot=none:=by have:=World.cell?_spot (hq 0 hpos).1;simpa [Addr.add]using this
  obtain⟨b,o,sp⟩:=a;simp at hs;subst hs;refine⟨b,o,rfl,?_,fun i x hx=>?_⟩
  ·have:=bl8 _ _ (hq 0 hpos).1
   simpa [Addr.add]using this
  ·have hi:i<len:=by
    have:=gE1 hx;obtain⟨h1,_⟩:=this
    simpa using h1
   have ex:x=q i:=by simp[hi]at hx;exact hx.symm
   subst ex;obtain⟨h0,h1,h2,_⟩:=hq i hi;rw[add_plain]at h0 h1 h2;exact⟨h0,by simpa [Nat.add_assoc]using h1,by simpa [Nat.add_assoc]using h2⟩
 ·intro y hy;obtain⟨i,hi,rfl⟩:=List.mem_map.1 hy;exact(hq i (List.mem_range.1 hi)).2.2.2
theorem open_rows {t e e1:TypeId}{G0 G1 F0 F1 F2:Field}{fuel:Nat}{v:Value}{x:DataW H×List MemPlace}(ht:P.underlying t=some (.slice e))(he:P.underlying e=some (.struct #[G0,G1]))(cg:P.cellsOf e=2) (p0:G0.offset=0) (p1:G1.offset=1) (g0:P.cellsOf G0.type=1) (g1:P.cellsOf G1.type=1) (ut:P.underlying G0.type=some (.slice e1)) (un:P.underlying G1.type=some (.int .i64))(he1:P.underlying e1=some (.struct #[F0,F1,F2]))(ce:P.cellsOf e1=3) (o0:F0.offset=0) (o1:F1.offset=1) (o2:F2.offset=2) (c0:P.cellsOf F0.type=1) (c1:P.cellsOf F1.type=1) (c2:P.cellsOf F2.type=1)(u0:P.underlying F0.type=some (.int .i64)) (u1:P.underlying F1.type=some (.int .i64)) (u2:P.underlying F2.type=some .string)(h:DataW.trod enc P w 0 spare held fuel t [v]=some x):∃cs,RowsIs w v cs∧CsWf cs:=by
 rcases open_slice_pairs ht he cg p0 p1 g0 g1 h with⟨h0,_⟩|⟨a,len,cap,m,n,V0,V1,D0,D1,P0,P1,hcs,hb,hl,hm,hmm,rfl,hx⟩
 ·simp at h0;subst h0;exact⟨[],⟨none,0,rfl,by simp,by simp,fun h=>absurd rfl h⟩,by simp[CsWf]⟩
 simp at hcs;subst hcs;have hlm:len≤m:=by rw[hmm];split<;>omega
 have each:∀i,i<len→∃q:Value×C2,w.cell? (a.add (i*2))=some q.1∧RowIs w q.1 q.2.r∧w.cell? (a.add (i*2+1))=some (.int .i64 q.2.n)∧q.2.wf:=by
  intro i hi;obtain⟨h0,h1,h2,h3⟩:=hx i (by omega);obtain⟨vs,hv,hw⟩:=open_row ut he1 ce o0 o1 o2 c0 c1 c2 u0 u1 u2 h2;obtain⟨z1,q1,_,w1⟩:=DataW.trod_int un h3;simp at q1;rw[q1]at h1;exact⟨(V0 i,⟨vs,z1⟩),h0,hv,h1,hw,w1⟩
 have:Inhabited (Value×C2):=⟨⟨.nilFunc,⟨[],0⟩⟩⟩;obtain⟨q,hq⟩:=choose_lt each;refine⟨(List.range len).map fun i=>(q i).2,⟨some a,cap,by simp,by simpa using hl,hm,fun hne=>?_⟩,?_⟩
 ·have hpos:0<len:=by
   rcases Nat.eq_zero_or_pos len with h0|h0
   ·subst h0;simp at hne
   ·exact h0
  have hs:a.spot=none:=by have:=World.cell?_spot (hq 0 hpos).1;simpa [Addr.add]using this
  obtain⟨b,o,sp⟩:=a;simp at hs;subst hs;refine⟨b,o,rfl,?_,fun i x hx=>?_⟩
  ·have:=bl8 _ _ (hq 0 hpos).1
   simpa [Addr.add]using this
  ·have hi:i<len:=by
    have:=gE1 hx;obtain⟨h1,_⟩:=this
    simpa using h1
   have ex:x=(q i).2:=by simp[hi]at hx;exact hx.symm
   subst ex;obtain⟨h0,h1,h2,_⟩:=hq i hi;rw[add_plain]at h0 h2;exact⟨_,h0,h1,by simpa [Nat.add_assoc]using h2⟩
 ·intro y hy;obtain⟨i,hi,rfl⟩:=List.mem_map.1 hy;exact(hq i (List.mem_range.1 hi)).2.2.2
end
end
section
open Go.RowKit
theorem szValue_any (k n left:Int)(s:ByteArray)(w:World)(h0:0≤left)(h1:left≤1048576)(hs:s.size≤maxLen):Calls Tryz.prog 89 #[(.agg #[.int .i64 k,.int .i64 n,.string s]),.int .i64 left] w fun e w'=>e=.returned (.int .i64 (szV s left))∧Below w.heap.size w w':=by
 unfold maxLen at hs;by_cases h:left -s.size<0
 ·go_enter Tryz.func89,Tryz.ntmps89;go_wp2;go_returns;exact⟨by simp[szV,h],by go_grown⟩
 ·go_enter Tryz.func89,Tryz.ntmps89;go_wp2;go_returns;exact⟨ret_int (by simp only[szV];rw[if_neg (by omega)]),by go_grown⟩
end
section
open Go.RowKit
theorem toValue_any (k n:Int)(s:ByteArray)(w:World):Calls Tryz.prog 95 #[(.agg #[.int .i64 k,.int .i64 n,.string s])] w fun e w'=>e=.returned (.agg #[.int .i64 k,.int .i64 n,.string s])∧Below w.heap.size w w':=by
 go_enter Tryz.func95,Tryz.ntmps95;go_wp2;go_returns;refine⟨rfl,?_⟩
 go_grown
end
section
open Go.RowKit
theorem Tryz.infoVal:(Tryz.prog.info? 60).map (fun i=>(i.zero,i.size,i.bytes))=some (some (.agg #[.int .i64 0,.int .i64 0,.string ⟨#[]⟩]),3,32):=by kernel_rfl
theorem toValueS_any (v:Value)(vs:List V3)(w:World)(hr:RowIs w v vs)(hn:vs.length≤1048576):Calls Tryz.prog 114 #[v] w fun e w'=>e=.returned (.slice (some ⟨w.heap.size,0,none⟩) vs.length vs.length)∧w'.rowIs w.heap.size 60 (vs.length*3) (cf vs)∧Below w.heap.size w w':=by
 obtain⟨a,c,b,o,rfl,hl,hc,ha⟩:=hr.pick;unfold maxLen at hc;clear hr;have hmk:=run_make_wide (P:=Tryz.prog) 88 60 _ 3 32 Tryz.underlying88 Tryz.infoVal vs.length (by omega) (by omega);go_enter Tryz.func114,Tryz.ntmps114;go_wp2;go_loopw [4] (fun i wr=> ∃k:Nat,k≤vs.length∧i=.int .i64 k∧Below w.heap.size w wr∧Half wr w.heap.size 60 vs k) (fun i _=>vs.length - (intOf i).toNat)
 case atStart=>exact⟨0,Nat.zero_le _,rfl,by go_grown,half_made _ _ _ _⟩
 case round=>
  obtain⟨k,hk,rfl,hb,hH⟩:=hrel;clear hmk;by_cases hlt:k<vs.length
  ·have hzb:=hb.size;obtain⟨rfl,hblt,hL⟩:=ha k hlt;obtain⟨x,hx,c0,c1,c2,hbr⟩:=hL.at hblt hb hlt;have HX:Hid (vs[k]?=some x):=hx;have hBr:=(hH.cells hlt).2.2.2.2;clear ha hL hx;go_wp2_with(go_at_call 95;refine(toValue_any _ _ _ _).mono ?_;rintro e w1 ⟨rfl,hb1⟩;have hz1:=hb1.size;have hH1:=hH.of_block (hb1.block _ hBr);obtain⟨⟨y0,g0⟩,⟨y1,g1⟩,⟨y2,g2⟩,gf,gs⟩:=hH1.cells hlt);exact⟨⟨k+1,hlt,by simp,bela,hH1.step HX.out⟩,by simp[intOf];omega⟩
  ·go_wp2;go_returns;obtain rfl:k=vs.length:=by omega
   exact⟨rfl,hH.done,hb⟩
end
section
open Go.RowKit
def cmpI (x y:Int):Int:=if x<y then -1 else if y<x then 1 else 0
def cmpS (s t:ByteArray):Int:=if Op.bytesLess s.toList t.toList=true then -1 else if s.toList=t.toList then 0 else 1
def orI (x y z:Int):Int:=if x=0 then(if y=0 then z else y)else x
def cmpV (k n:Int)(s:ByteArray)(k' n':Int)(s':ByteArray):Int:=orI (cmpI k k') (cmpI n n') (cmpS s s')
theorem cmpInt_any (x y:Int)(w:World):Calls Tryz.prog 133 #[.int .i64 x,.int .i64 y] w fun e w'=>e=.returned (.int .i64 (cmpI x y))∧w'=w:=by
 rcases Int.lt_trichotomy x y with h|h|h
 ·go_enter Tryz.func133,Tryz.ntmps133;go_wp2;go_returns;exact⟨by simp[cmpI,h],rfl⟩
 ·subst h;go_enter Tryz.func133,Tryz.ntmps133;go_wp2;go_returns;exact⟨by simp[cmpI],rfl⟩
 ·have h':¬x<y:=by omega
  go_enter Tryz.func133,Tryz.ntmps133;go_wp2;go_returns;exact⟨by simp[cmpI,h,h'],rfl⟩
theorem cmpStr_any (x y:ByteArray)(w:World):Calls Tryz.prog 27 #[.string x,.string y] w fun e w'=>e=.returned (.int .i64 (cmpS x y))∧w'=w:=by
 go_enter Tryz.func27,Tryz.ntmps27;go_wp2;all_goals go_returns
 all_goals(refine⟨ret_int ?_,rfl⟩;simp_all [cmpS])
theorem or_any (b:Nat)(x y z:Int)(w:World)(h0:w.cell? ⟨b,0,none⟩=some (.int .i64 x))(h1:w.cell? ⟨b,1,none⟩=some (.int .i64 y))(h2:w.cell? ⟨b,2,none⟩=some (.int .i64 z)):Calls Tryz.prog 146 #[.slice (some ⟨b,0,none⟩) 3 3] w fun e w'=>e=.returned (.int .i64 (orI x y z))∧w'=w:=by
 go_enter Tryz.func146,Tryz.ntmps146;go_wp2
 go_rounds 4
 all_goals go_returns
 all_goals(refine⟨ret_int ?_,rfl⟩;clear h0 h1 h2;simp_all [orI])
theorem cmpV_lt0 (k n k' n':Int)(s s':ByteArray)(h:k<k'):cmpV k n s k' n' s'= -1:=by simp[cmpV,cmpI,orI,h]
theorem cmpV_gt0 (k n k' n':Int)(s s':ByteArray)(h:k'<k):cmpV k n s k' n' s'=1:=by simp[cmpV,cmpI,orI,h,show ¬k<k' from by omega]
theorem cmpV_lt1 (k n k' n':Int)(s s':ByteArray)(h0:k'≤k)(h1:k≤k')(h:n<n'):cmpV k n s k' n' s'= -1:=by simp[cmpV,cmpI,orI,h,show ¬k<k' from by omega,show ¬k'<k from by omega]
theorem cmpV_gt1 (k n k' n':Int)(s s':ByteArray)(h0:k'≤k)(h1:k≤k')(h:n'<n):cmpV k n s k' n' s'=1:=by simp[cmpV,cmpI,orI,h,show ¬k<k' from by omega,show ¬k'<k from by omega,show ¬n<n' from by omega]
theorem cmpV_s (k n k' n':Int)(s s':ByteArray)(h0:k'≤k)(h1:k≤k')(h2:n'≤n)(h3:n≤n'):cmpV k n s k' n' s'=cmpS s s':=by simp[cmpV,cmpI,orI,show ¬k<k' from by omega,show ¬k'<k from by omega,show ¬n<n' from by omega,show ¬n'<n from by omega]
theorem specCmp_any (k n k' n':Int)(s s':ByteArray)(w:World):Calls Tryz.prog 130 #[(.agg #[.int .i64 k,.int .i64 n,.string s]),(.agg #[.int .i64 k',.int .i64 n',.string s'])] w fun e w'=>e=.returned (.int .i64 (cmpV k n s k' n' s'))∧Below w.heap.size w w':=by
 go_enter Tryz.func130,Tryz.ntmps130;go_wp2;all_goals(go_returns;refine⟨ret_int ?_,?_⟩)
 all_goals first|(go_grown;done)|(rw[cmpV_lt0 _ _ _ _ _ _ (by assumption)];done)|(rw[cmpV_gt0 _ _ _ _ _ _ (by assumption)];done)|(rw[cmpV_lt1 _ _ _ _ _ _ (by assumption) (by assumption) (by assumption)];done)|(rw[cmpV_gt1 _ _ _ _ _ _ (by assumption) (by assumption) (by assumption)];done)|(rw[cmpV_s _ _ _ _ _ _ (by assumption) (by assumption) (by assumption) (by assumption)];simp_all [cmpS];done)
theorem implCmp_any (k n k' n':Int)(s s':ByteArray)(w:World):Calls Tryz.prog 132 #[(.agg #[.int .i64 k,.int .i64 n,.string s]),(.agg #[.int .i64 k',.int .i64 n',.string s'])] w fun e w'=>e=.returned (.int .i64 (cmpV k n s k' n' s'))∧Below w.heap.size w w':=by
 go_enter Tryz.func132,Tryz.ntmps132;go_wp2_with fail;go_region_held3 (fun w'=>w'.cell? ⟨w.heap.size,0,none⟩=some (.int .i64 k)∧w'.cell? ⟨w.heap.size,1,none⟩=some (.int .i64 n)∧w'.cell? ⟨w.heap.size,2,none⟩=some (.string s)∧w'.cell? ⟨w.heap.size+1,0,none⟩=some (.int .i64 k')∧w'.cell? ⟨w.heap.size+1,1,none⟩=some (.int .i64 n')∧w'.cell? ⟨w.heap.size+1,2,none⟩=some (.string s')) (go_keep) (first|(go_at_call 133;refine(cmpInt_any _ _ _).mono ?_;rintro e w' ⟨rfl,rfl⟩)|(go_at_call 27;refine(cmpStr_any _ _ _).mono ?_;rintro e w' ⟨rfl,rfl⟩)|(go_at_call 146;refine cM8 (or_any _ (cmpI k k') (cmpI n n') (cmpS s s') _ ?h0 ?h1 ?h2) ?hk;(case h0=>go_simp);(case h1=>go_simp);(case h2=>go_simp);rintro e w' ⟨rfl,rfl⟩));all_goals go_wp2
 all_goals(go_returns;refine⟨ret_int ?_,?_⟩)
 all_goals first|(go_grown;done)|rfl
end
section
open Go.RowKit
def cmpW (x y:V3):Int:=cmpV x.k x.n x.s y.k y.n y.s
def cR8:List V3→List V3→Int
 | [],[]=>0
 | [],_::_=> -1
 |_::_,[]=>1
 |x::xs,y::ys=>if cmpW x y=0 then cR8 xs ys else cmpW x y
theorem cmpRow_step {vs us:List V3}{k:Nat}{x y:V3}(hx:vs[k]?=some x)(hy:us[k]?=some y):cR8 (vs.drop k) (us.drop k)=if cmpW x y=0 then cR8 (vs.drop (k+1)) (us.drop (k+1))else cmpW x y:=by
 obtain⟨h1,rfl⟩:=gE1 hx;obtain⟨h2,rfl⟩:=gE1 hy;rw[List.drop_eq_getElem_cons h1,List.drop_eq_getElem_cons h2];rfl
theorem cmpRow_end {vs us:List V3}{k:Nat}(hk:k≤vs.length)(hk':k≤us.length)(h:¬ (k<vs.length∧k<us.length)):cR8 (vs.drop k) (us.drop k)=cmpI vs.length us.length:=by
 by_cases h1:k<vs.length
 ·have h2:us.drop k=[]:=by simp;omega
  rw[h2,List.drop_eq_getElem_cons h1];simp only[cR8,cmpI];rw[if_neg (by omega),if_pos (by omega)]
 ·have h2:vs.drop k=[]:=by simp;omega
  rw[h2];by_cases h3:k<us.length
  ·rw[List.drop_eq_getElem_cons h3];simp only[cR8,cmpI];rw[if_pos (by omega)]
  ·have h4:us.drop k=[]:=by simp;omega
   rw[h4];simp only[cR8,cmpI];rw[if_neg (by omega),if_neg (by omega)]
theorem specRow_any (v u:Value)(vs us:List V3)(w:World)(hr:RowIs w v vs)(hu:RowIs w u us):Calls Tryz.prog 113 #[v,u] w fun e w'=>e=.returned (.int .i64 (cR8 vs us))∧Below w.heap.size w w':=by
 obtain⟨a,c,b,o,rfl,hl,hc,ha⟩:=hr.pick;obtain⟨a',c',b',o',rfl,hl',hc',ha'⟩:=hu.pick;unfold maxLen at hc hc';clear hr hu;go_enter Tryz.func113,Tryz.ntmps113;go_wp2;go_loopw [5] (fun i wr=> ∃k:Nat,k≤vs.length∧k≤us.length∧i=.int .i64 k∧Below w.heap.size w wr∧cR8 vs us=cR8 (vs.drop k) (us.drop k)) (fun i _=>vs.length - (intOf i).toNat)
 case atStart=>exact⟨0,Nat.zero_le _,Nat.zero_le _,rfl,by go_grown,by simp⟩
 case round=>
  obtain⟨k,hk,hk',rfl,hb,heq⟩:=hrel;have HE:Hid (cR8 vs us=cR8 (vs.drop k) (us.drop k)):=heq;clear heq;by_cases hlt:k<vs.length
  ·by_cases hlt':k<us.length
   ·have hzb:=hb.size;obtain⟨rfl,hblt,hL⟩:=ha k hlt;obtain⟨rfl,hblt',hL'⟩:=ha' k hlt';obtain⟨x,hx,c0,c1,c2,hbr⟩:=hL.at hblt hb hlt;obtain⟨y,hy,c0',c1',c2',hbr'⟩:=hL'.at hblt' hb hlt';have HS:Hid (cR8 (vs.drop k) (us.drop k)=if cmpW x y=0 then cR8 (vs.drop (k+1)) (us.drop (k+1))else cmpW x y):=cmpRow_step hx hy;clear ha ha' hL hL' hx hy;go_wp2_with fail;go_region_held3 (fun w'=>w'.cell? ⟨b,o+k*3,none⟩=some (.int .i64 x.k)∧w'.cell? ⟨b,o+k*3+1,none⟩=some (.int .i64 x.n)∧w'.cell? ⟨b,o+k*3+2,none⟩=some (.string x.s)∧w'.cell? ⟨b',o'+k*3,none⟩=some (.int .i64 y.k)∧w'.cell? ⟨b',o'+k*3+1,none⟩=some (.int .i64 y.n)∧w'.cell? ⟨b',o'+k*3+2,none⟩=some (.string y.s)) (refine⟨?_,?_,?_,?_,?_,?_⟩<;>first|(go_simp;done)|(exact cL8 (by assumption) (by go_simp))) (first|(go_at_call 130;refine(specCmp_any _ _ _ _ _ _ _).mono ?_;rintro e w1 ⟨rfl,hb1⟩));by_cases hz:cmpV x.k x.n x.s y.k y.n y.s=0
    ·go_wp2
     go_roundw
     case rel=>
      refine⟨k+1,hlt,hlt',by simp,bela,?_⟩;rw[HE.out,HS.out,if_pos (show cmpW x y=0 from hz)]
     case measure=>simp[intOf];omega
    ·go_wp2;go_returns;refine⟨ret_int ?_,bela⟩;rw[HE.out,HS.out,if_neg (show ¬cmpW x y=0 from hz)];rfl
   ·have HN:Hid (cR8 (vs.drop k) (us.drop k)=cmpI vs.length us.length):=cmpRow_end hk hk' (by omega);clear ha ha';go_wp2;all_goals(go_returns;refine⟨ret_int ?_,by first|exact hb|exact bela⟩)
    all_goals(rw[HE.out,HN.out];try rfl)
    all_goals(unfold cmpI;first|(rw[if_pos (by omega)];done)|(rw[if_neg (by omega),if_pos (by omega)];done)|(rw[if_neg (by omega),if_neg (by omega)];done))
  ·have HN:Hid (cR8 (vs.drop k) (us.drop k)=cmpI vs.length us.length):=cmpRow_end hk hk' (by omega);clear ha ha';go_wp2;all_goals(go_returns;refine⟨ret_int ?_,by first|exact hb|exact bela⟩)
   all_goals(rw[HE.out,HN.out];try rfl)
   all_goals(unfold cmpI;first|(rw[if_pos (by omega)];done)|(rw[if_neg (by omega),if_pos (by omega)];done)|(rw[if_neg (by omega),if_neg (by omega)];done))
theorem implRow_any (v u:Value)(vs us:List V3)(w:World)(hr:RowIs w v vs)(hu:RowIs w u us):Calls Tryz.prog 117 #[v,u] w fun e w'=>e=.returned (.int .i64 (cR8 vs us))∧Below w.heap.size w w':=by
 obtain⟨a,c,b,o,rfl,hl,hc,ha⟩:=hr.pick;obtain⟨a',c',b',o',rfl,hl',hc',ha'⟩:=hu.pick;unfold maxLen at hc hc';clear hr hu;go_enter Tryz.func117,Tryz.ntmps117;go_wp2;go_loopw [5] (fun i wr=> ∃k:Nat,k≤vs.length∧k≤us.length∧i=.int .i64 k∧Below w.heap.size w wr∧cR8 vs us=cR8 (vs.drop k) (us.drop k)) (fun i _=>vs.length - (intOf i).toNat)
 case atStart=>exact⟨0,Nat.zero_le _,Nat.zero_le _,rfl,by go_grown,by simp⟩
 case round=>
  obtain⟨k,hk,hk',rfl,hb,heq⟩:=hrel;have HE:Hid (cR8 vs us=cR8 (vs.drop k) (us.drop k)):=heq;clear heq;by_cases hlt:k<vs.length
  ·by_cases hlt':k<us.length
   ·have hzb:=hb.size;obtain⟨rfl,hblt,hL⟩:=ha k hlt;obtain⟨rfl,hblt',hL'⟩:=ha' k hlt';obtain⟨x,hx,c0,c1,c2,hbr⟩:=hL.at hblt hb hlt;obtain⟨y,hy,c0',c1',c2',hbr'⟩:=hL'.at hblt' hb hlt';have HS:Hid (cR8 (vs.drop k) (us.drop k)=if cmpW x y=0 then cR8 (vs.drop (k+1)) (us.drop (k+1))else cmpW x y):=cmpRow_step hx hy;clear ha ha' hL hL' hx hy;go_wp2_with fail;go_region_held3 (fun w'=>w'.cell? ⟨b,o+k*3,none⟩=some (.int .i64 x.k)∧w'.cell? ⟨b,o+k*3+1,none⟩=some (.int .i64 x.n)∧w'.cell? ⟨b,o+k*3+2,none⟩=some (.string x.s)∧w'.cell? ⟨b',o'+k*3,none⟩=some (.int .i64 y.k)∧w'.cell? ⟨b',o'+k*3+1,none⟩=some (.int .i64 y.n)∧w'.cell? ⟨b',o'+k*3+2,none⟩=some (.string y.s)) (refine⟨?_,?_,?_,?_,?_,?_⟩<;>first|(go_simp;done)|(exact cL8 (by assumption) (by go_simp))) (first|(go_at_call 132;refine(implCmp_any _ _ _ _ _ _ _).mono ?_;rintro e w1 ⟨rfl,hb1⟩));by_cases hz:cmpV x.k x.n x.s y.k y.n y.s=0
    ·go_wp2
     go_roundw
     case rel=>
      refine⟨k+1,hlt,hlt',by simp,bela,?_⟩;rw[HE.out,HS.out,if_pos (show cmpW x y=0 from hz)]
     case measure=>simp[intOf];omega
    ·go_wp2;go_returns;refine⟨ret_int ?_,bela⟩;rw[HE.out,HS.out,if_neg (show ¬cmpW x y=0 from hz)];rfl
   ·have HN:Hid (cR8 (vs.drop k) (us.drop k)=cmpI vs.length us.length):=cmpRow_end hk hk' (by omega);clear ha ha';go_wp2_with(go_at_call 133;refine(cmpInt_any _ _ _).mono ?_;rintro e w1 ⟨rfl,rfl⟩);all_goals(go_returns;refine⟨ret_int ?_,by first|exact hb|exact bela⟩)
    all_goals(rw[HE.out,HN.out];try rfl)
    all_goals(unfold cmpI;first|(rw[if_pos (by omega)];done)|(rw[if_neg (by omega),if_pos (by omega)];done)|(rw[if_neg (by omega),if_neg (by omega)];done))
  ·have HN:Hid (cR8 (vs.drop k) (us.drop k)=cmpI vs.length us.length):=cmpRow_end hk hk' (by omega);clear ha ha';go_wp2_with(go_at_call 133;refine(cmpInt_any _ _ _).mono ?_;rintro e w1 ⟨rfl,rfl⟩);all_goals(go_returns;refine⟨ret_int ?_,by first|exact hb|exact bela⟩)
   all_goals(rw[HE.out,HN.out];try rfl)
   all_goals(unfold cmpI;first|(rw[if_pos (by omega)];done)|(rw[if_neg (by omega),if_pos (by omega)];done)|(rw[if_neg (by omega),if_neg (by omega)];done))
end
end
end Go.Proofs.YtjhhmnjpojnoiaaGreatDoor
