/- Own texts, joined: contracts that the law's proof goes by. -/
import Derived.Test.YtjhhmnjpojnoiaaGreatDoorGLWithViews1
import Derived.Test.YtjhhmnjpojnoiaaGreatDoorGLWithViews4
import Derived.Test.YtjhhmnjpojnoiaaGreatDoorGLWithViews5
import Derived.Handy
import Derived.Test.YtjhhmnjpojnoiaaGreatDoorGLWithViews12
import Derived.Test.YtjhhmnjpojnoiaaGreatDoorGLWithViews9
import Derived.Test.YtjhhmnjpojnoiaaGreatDoorGLWithViews13
import Derived.Test.YtjhhmnjpojnoiaaGreatDoorGLWithViews11
import Derived.Test.YtjhhmnjpojnoiaaGreatDoorGLWithViews10
import Derived.Test.YtjhhmnjpojnoiaaGreatDoorGLWithViews8
import Derived.Test.YtjhhmnjpojnoiaaGreatDoorGLWithViews15
import Derived.Test.YtjhhmnjpojnoiaaGreatDoorGLWithViews6
import Derived.Test.YtjhhmnjpojnoiaaGreatDoorSameT
import Derived.Test.YtjhhmnjpojnoiaaGreatDoorExpOkS
import Derived.Test.YtjhhmnjpojnoiaaGreatDoorGLWithViews3
import Derived.Deep.RegionHeld3
import Derived.Deep.DeepCutAuto
import Derived.Deep.AppendLies
import Derived.Lib.SliceRun
import Derived.WideMake
import Derived.Carry
import Derived.Deep.DrawnRows
import Derived.Laws.OwnMore
set_option maxHeartbeats 16000000
set_option maxRecDepth 100000
set_option linter.unusedVariables false
set_option linter.unusedSimpArgs false
namespace Go.Proofs.YtjhhmnjpojnoiaaGreatDoor
section
section
open Go.RowKit Go.Deep Go.ChangeShapes Go.WideShapes
structure V15 where
 s:ByteArray
 p:P12
 W:Int
 cs:List C2
def V15.wf (x:V15):Prop:=x.s.size≤maxLen∧x.p.wf∧(Lit.int .i64 x.W).wf=true∧CsWf x.cs
def cellsV (w:World)(b q:Nat)(x:V15)(ue us u v:Value):Prop:=w.cell? ⟨b,q,none⟩=some (.string x.s)∧w.cell? ⟨b,q+1,none⟩=some (.int .i64 x.p.k)∧w.cell? ⟨b,q+2,none⟩=some (.string x.p.s)∧w.cell? ⟨b,q+3,none⟩=some (.int .i64 x.p.e.k)∧w.cell? ⟨b,q+4,none⟩=some (.int .i64 x.p.e.n)∧w.cell? ⟨b,q+5,none⟩=some (.int .i64 x.p.e.v.k)∧w.cell? ⟨b,q+6,none⟩=some (.int .i64 x.p.e.v.n)∧w.cell? ⟨b,q+7,none⟩=some (.string x.p.e.v.s)∧w.cell? ⟨b,q+8,none⟩=some (.string x.p.e.p)∧w.cell? ⟨b,q+9,none⟩=some (ue)∧w.cell? ⟨b,q+10,none⟩=some (us)∧w.cell? ⟨b,q+11,none⟩=some (.int .i64 x.p.n)∧w.cell? ⟨b,q+12,none⟩=some (u)∧w.cell? ⟨b,q+13,none⟩=some (.int .i64 x.W)∧w.cell? ⟨b,q+14,none⟩=some (v)
theorem cellsV.keep {w w':World}{b q:Nat}{x:V15}{ue us u v:Value}(h:cellsV w b q x ue us u v)(hb:w'.heap[b]?=w.heap[b]?):cellsV w' b q x ue us u v:=by
 obtain⟨h0,h1,h2,h3,h4,h5,h6,h7,h8,h9,h10,h11,h12,h13,h14⟩:=h;exact⟨(cb8 hb).trans h0,(cb8 hb).trans h1,(cb8 hb).trans h2,(cb8 hb).trans h3,(cb8 hb).trans h4,(cb8 hb).trans h5,(cb8 hb).trans h6,(cb8 hb).trans h7,(cb8 hb).trans h8,(cb8 hb).trans h9,(cb8 hb).trans h10,(cb8 hb).trans h11,(cb8 hb).trans h12,(cb8 hb).trans h13,(cb8 hb).trans h14⟩
def VLies (w:World)(D d b o:Nat)(vs:List V15)(G:List (List Nat)):Prop:=
 ∀i x g,vs[i]?=some x→G[i]?=some g→x.wf∧∃ue us u v,cellsV w b (o+i*15) x ue us u v∧ListsP w D (PlansIs w D d) x.p ue us u g∧RowsIs w v x.cs
def ViewsIs (w:World)(D d:Nat)(v:Value)(vs:List V15)(G:List (List Nat)):Prop:=
 ∃a c,v=.slice a vs.length c∧vs.length≤c∧c≤maxLen∧G.length=vs.length∧(vs≠ []→∃b o,a=some ⟨b,o,none⟩∧b<w.heap.size∧VLies w D d b o vs G)
theorem VLies.below {w w':World}{D d b o:Nat}{vs:List V15}{G:List (List Nat)}(h:VLies w D d b o vs G)(hb:Below w.heap.size w w')(hN:b<w.heap.size):VLies w' D d b o vs G:=fun i x g hx hg=>by
 obtain⟨hw,ue,us,u,v,h0,h1,h2⟩:=h i x g hx hg;exact⟨hw,ue,us,u,v,h0.keep (hb.block b hN),h1.below hb,h2.below hb⟩
theorem ViewsIs.below {w w':World}{D d:Nat}{v:Value}{vs:List V15}{G:List (List Nat)}(h:ViewsIs w D d v vs G)(hb:Below w.heap.size w w'):ViewsIs w' D d v vs G:=by
 obtain⟨a,c,rfl,hl,hc,hG,h⟩:=h;refine⟨a,c,rfl,hl,hc,hG,fun hne=>?_⟩;obtain⟨b,o,rfl,hlt,hL⟩:=h hne;exact⟨b,o,rfl,Nat.lt_of_lt_of_le hlt hb.size,hL.below hb hlt⟩
theorem ViewsIs.shape {w:World}{D d:Nat}{v:Value}{vs:List V15}{G:List (List Nat)}(h:ViewsIs w D d v vs G):∃a c,v=.slice a vs.length c∧vs.length≤c∧c≤maxLen:=by
 obtain⟨a,c,h,h1,h2,_⟩:=h;exact⟨a,c,h,h1,h2⟩
theorem ViewsIs.pick {w:World}{D d:Nat}{v:Value}{vs:List V15}{G:List (List Nat)}(h:ViewsIs w D d v vs G):∃a c b o,v=.slice a vs.length c∧vs.length≤c∧c≤maxLen∧G.length=vs.length∧∀k,k<vs.length→a=some ⟨b,o,none⟩∧b<w.heap.size∧VLies w D d b o vs G:=by
 obtain⟨a,c,rfl,hl,hc,hG,h⟩:=h;by_cases hne:vs=[]
 ·exact⟨a,c,0,0,rfl,hl,hc,hG,fun k hk=>by rw[hne]at hk;simp at hk⟩
 ·obtain⟨b,o,h⟩:=h hne;exact⟨a,c,b,o,rfl,hl,hc,hG,fun _ _=>h⟩
theorem VLies.at {w w':World}{D d b o:Nat}{vs:List V15}{G:List (List Nat)}(h:VLies w D d b o vs G)(hG:G.length=vs.length)(hlt:b<w.heap.size)(hb:Below w.heap.size w w'){k:Nat}(hk:k<vs.length):∃x g ue us u v,vs[k]?=some x∧G[k]?=some g∧x.wf∧cellsV w' b (o+k*15) x ue us u v∧ListsP w' D (PlansIs w' D d) x.p ue us u g∧RowsIs w' v x.cs∧b<w'.heap.size:=by
 have hk':k<G.length:=by omega
 obtain⟨hw,ue,us,u,v,h0,h1,h2⟩:=h k vs[k] G[k] (by simp) (by simp);exact⟨vs[k],G[k],ue,us,u,v,by simp,by simp,hw,h0.keep (hb.block b hlt),h1.below hb,h2.below hb,Nat.lt_of_lt_of_le hlt hb.size⟩
def wtv (x:V15):Nat:=x.s.size+wtP x.p+wtb x.cs
def wtvs (vs:List V15):Nat:=(vs.map wtv).sum
def wtV (vs:List V15):Nat:=vs.length+wtvs vs
theorem wtvs_take {vs:List V15}{k:Nat}{x:V15}(h:vs[k]?=some x):wtvs (vs.take (k+1))=wtvs (vs.take k)+wtv x:=by
 unfold wtvs;obtain⟨hk,rfl⟩:=gE1 h;rw[List.take_succ_eq_append_getElem hk,List.map_append,List.sum_append];simp only[List.map_cons,List.map_nil,List.sum_cons,List.sum_nil,Nat.add_zero]
theorem wtv_mem {vs:List V15}{x:V15}(h:x∈vs):wtv x≤wtvs vs:=by
 unfold wtvs;induction vs with
 |nil=>cases h
 |cons y ys ih=>
  simp only[List.map_cons,List.sum_cons];rcases List.mem_cons.1 h with rfl|h
  ·omega
  ·have:=ih h;omega
theorem cellsView:Tryz.prog.cellsOf 52=15:=by kernel_rfl
theorem cellsBagV:Tryz.prog.cellsOf 39=2:=by kernel_rfl
theorem cellsRowsV:Tryz.prog.cellsOf 37=1:=by kernel_rfl
section
variable {H:Type} {enc:TypeId×Value→H} {w:World} {spare:Nat→Bool} {held:Bool}
theorem open_views {fuel:Nat}{v:Value}{x:DataW H×List MemPlace}(h:DataW.trod enc Tryz.prog w 0 spare held fuel 23 [v]=some x):∃vs D d G,ViewsIs w D d v vs G:=by
 rcases DataW.trod_slice Tryz.underlying23 h with⟨h0,_⟩|⟨a,len,cap,elems,rest,N,hfn,hcs,rfl,hb,hl,hm,hlen,hel,hsp,hns⟩
 ·simp at h0;subst h0;exact⟨[],0,0,[],none,0,rfl,by simp,by simp,rfl,fun h=>absurd rfl h⟩
 simp at hcs;subst hcs;have each:∀i,i<len→∃q:V15×List Nat×Value×Value×Value×Value,q.1.wf∧(w.cell? (a.add (i*15))=some (.string q.1.s)∧w.cell? (a.add (i*15+1))=some (.int .i64 q.1.p.k)∧w.cell? (a.add (i*15+2))=some (.string q.1.p.s)∧w.cell? (a.add (i*15+3))=some (.int .i64 q.1.p.e.k)∧w.cell? (a.add (i*15+4))=some (.int .i64 q.1.p.e.n)∧w.cell? (a.add (i*15+5))=some (.int .i64 q.1.p.e.v.k)∧w.cell? (a.add (i*15+6))=some (.int .i64 q.1.p.e.v.n)∧w.cell? (a.add (i*15+7))=some (.string q.1.p.e.v.s)∧w.cell? (a.add (i*15+8))=some (.string q.1.p.e.p)∧w.cell? (a.add (i*15+9))=some (q.2.2.1)∧w.cell? (a.add (i*15+10))=some (q.2.2.2.1)∧w.cell? (a.add (i*15+11))=some (.int .i64 q.1.p.n)∧w.cell? (a.add (i*15+12))=some (q.2.2.2.2.1)∧w.cell? (a.add (i*15+13))=some (.int .i64 q.1.W)∧w.cell? (a.add (i*15+14))=some (q.2.2.2.2.2))∧ListsP w (N+2) (PlansIs w (N+2) (N+1)) q.1.p q.2.2.1 q.2.2.2.1 q.2.2.2.2.1 q.2.1∧RowsIs w q.2.2.2.2.2 q.1.cs:=by
  intro i hi;have hi1:=hel i hi;have hie:elems[i]?=some elems[i]:=by simp[hlen,hi]
  rw[hie,Option.bind_eq_some_iff]at hi1;obtain⟨cs',h1,h2⟩:=hi1;rw[cellsView]at h1;obtain⟨_,hlen15,hcell⟩:=World.cells?_some h1
  match cs',hlen15 with
  | [z0,z1,z2,z3,z4,z5,z6,z7,z8,z9,z10,z11,z12,z13,z14],_=>
   obtain⟨xs,k,hk,_,_,hxl,hfld⟩:=DataW.trod_struct Tryz.underlying52 h2
   match xs,hxl with
   | [y0,y1,y2],_=>
    have a0:=hfld 0 _ rfl;have a1:=hfld 1 _ rfl;have a2:=hfld 2 _ rfl;simp[cellsStr,cellsPlan,cellsBagV]at a0 a1 a2;obtain⟨s0,r0,_,ws⟩:=DataW.trod_string Tryz.underlying9 a0;obtain⟨p,g,r1,r2,r3,r4,r5,r6,r7,r8,r11,hw,hL⟩:=open_plan12 (N:=N) (by omega) (fun f hf'=>open_plans N f hf') a1;obtain⟨ys,k2,hk2,_,_,hyl,hf2⟩:=DataW.trod_struct Tryz.underlying39 a2
    match ys,hyl with
    | [b0,b1],_=>
     have q0:=hf2 0 _ rfl;have q1:=hf2 1 _ rfl;simp[cellsInt,cellsRowsV]at q0 q1;obtain⟨i0,r13,_,wi⟩:=DataW.trod_int Tryz.underlying3 q0;simp at r0 r13;obtain⟨cs0,hr0,hw0⟩:=open_rows Tryz.underlying37 Tryz.underlying144 (by kernel_rfl) rfl rfl (by kernel_rfl) (by kernel_rfl) Tryz.underlying142 Tryz.underlying3 Tryz.underlying44 (by kernel_rfl) rfl rfl rfl (by kernel_rfl) (by kernel_rfl) (by kernel_rfl) Tryz.underlying3 Tryz.underlying3 Tryz.underlying9 q1;have e0:=hcell 0 (by omega);have e1:=hcell 1 (by omega);have e2:=hcell 2 (by omega);have e3:=hcell 3 (by omega);have e4:=hcell 4 (by omega);have e5:=hcell 5 (by omega);have e6:=hcell 6 (by omega);have e7:=hcell 7 (by omega);have e8:=hcell 8 (by omega);have e9:=hcell 9 (by omega);have e10:=hcell 10 (by omega);have e11:=hcell 11 (by omega);have e12:=hcell 12 (by omega);have e13:=hcell 13 (by omega);have e14:=hcell 14 (by omega);rw[add_add]at e0 e1 e2 e3 e4 e5 e6 e7 e8 e9 e10 e11 e12 e13 e14;subst r0 r1 r2 r3 r4 r5 r6 r7 r8 r11 r13;exact⟨⟨⟨s0,p,i0,cs0⟩,g,z9,z10,z12,z14⟩,⟨ws,hw,wi,hw0⟩,⟨by simpa using e0,by simpa using e1,by simpa using e2,by simpa using e3,by simpa using e4,by simpa using e5,by simpa using e6,by simpa using e7,by simpa using e8,by simpa using e9,by simpa using e10,by simpa using e11,by simpa using e12,by simpa using e13,by simpa using e14⟩,hL,hr0⟩
 have:Inhabited (V15×List Nat×Value×Value×Value×Value):=⟨⟨⟨⟨#[]⟩,.nil,0,[]⟩,[],.nilFunc,.nilFunc,.nilFunc,.nilFunc⟩⟩;obtain⟨q,hq⟩:=choose_lt each;refine⟨(List.range len).map fun i=>(q i).1,N+2,N+1,(List.range len).map fun i=>(q i).2.1,some a,cap,by simp,by simpa using hl,hm,by simp,fun hne=>?_⟩;have hpos:0<len:=by
  rcases Nat.eq_zero_or_pos len with h0|h0
  ·subst h0;simp at hne
  ·exact h0
 have hs:a.spot=none:=by have:=World.cell?_spot (hq 0 hpos).2.1.1;simpa [Addr.add]using this
 obtain⟨b,o,sp⟩:=a;simp at hs;subst hs;refine⟨b,o,rfl,?_,fun i x g hx hg=>?_⟩
 ·have:=bl8 _ _ (hq 0 hpos).2.1.1
  simpa [Addr.add]using this
 ·have hi:i<len:=by
   obtain⟨h1,_⟩:=gE1 hx
   simpa using h1
  have ex:x=(q i).1:=by simp[hi]at hx;exact hx.symm
  have eg:g=(q i).2.1:=by simp[hi]at hg;exact hg.symm
  subst ex eg;obtain⟨hw,⟨h0,h1,h2,h3,h4,h5,h6,h7,h8,h9,h10,h11,h12,h13,h14⟩,hL,hR⟩:=hq i hi;rw[add_plain]at h0 h1 h2 h3 h4 h5 h6 h7 h8 h9 h10 h11 h12 h13 h14;exact⟨hw,_,_,_,_,⟨h0,by simpa [Nat.add_assoc]using h1,by simpa [Nat.add_assoc]using h2,by simpa [Nat.add_assoc]using h3,by simpa [Nat.add_assoc]using h4,by simpa [Nat.add_assoc]using h5,by simpa [Nat.add_assoc]using h6,by simpa [Nat.add_assoc]using h7,by simpa [Nat.add_assoc]using h8,by simpa [Nat.add_assoc]using h9,by simpa [Nat.add_assoc]using h10,by simpa [Nat.add_assoc]using h11,by simpa [Nat.add_assoc]using h12,by simpa [Nat.add_assoc]using h13,by simpa [Nat.add_assoc]using h14⟩,hL,hR⟩
end
end
section
open Go.RowKit
def goodV (x:V3):Prop:=okW x=true∧x.wf
theorem goodV.R {x:V3}(h:goodV x):goodR x:=by
 obtain⟨h1,h2,h3,h4⟩:=h;refine⟨wf_inN h3,?_⟩;have:x.s.data.toList.length=x.s.size:=Array.length_toList;unfold okW okB at h1;have nl:x.s.toList=[]→x.s.size=0:=fun e=>by
  have e2:x.s=⟨#[]⟩:=by rw[ByteArray.toList_eq]at e;exact ByteArray.ext (Array.toList_inj.1 e)
  rw[e2];rfl
 split at h1
 ·simp at h1;have:=nl h1.2;omega
 ·split at h1
  ·simp at h1;have:=nl h1;omega
  ·split at h1
   ·simp at h1;have:=nl h1.2;omega
   ·split at h1
    ·simp at h1;omega
    ·cases h1
def GoodE (e:E7):Prop:=e.wf∧okE 13 e=true∧wtE e≤1048576∧∃ (w:World) (d:Nat) (u:Value) (F:List Nat),KidsIs w d u e.ks F
def RowV (vs:List V3):Prop:=∀x∈vs,goodV x
end
section
open Go.RowKit
def colsBelow (W:Int):Nat→E7→Bool
 |0,_=>true
 |f+1,e=>(e.k !=0||decide (e.n<W)) &&e.ks.all (colsBelow W f)
def bE8 (e:E7)(W:Int):Bool:=okE 13 e &&colsBelow W 13 e
theorem colsBelow_iff (W:Int):∀ (f:Nat) (e:E7) (w:World) (d:Nat) (u:Value) (F:List Nat),KidsIs w d u e.ks F→okE f e=true→(colsBelow W f e=true↔∀x∈colsL d e,x<W)
 |0,_,_,_,_,_,_,h=>by cases h
 |f+1,e,w,d,u,F,hk,h=>by
  simp only[okE,Bool.and_eq_true,List.all_eq_true]at h;obtain⟨d,rfl⟩:=hk.succ;have ih:∀k∈e.ks,(colsBelow W f k=true↔∀x∈colsL d k,x<W):=fun k hkm=>by
   obtain⟨_,u',F',hK⟩:=kid_of hk hkm;exact colsBelow_iff W f k w d u' F' hK (h.2 k hkm)
  simp only[colsBelow,Bool.and_eq_true,Bool.or_eq_true,bne_iff_ne,decide_eq_true_eq,List.all_eq_true];constructor
  ·rintro⟨h1,h2⟩ x hx;rcases mem_colsL.1 hx with⟨h0,rfl⟩|⟨k,hkm,hxk⟩
   ·exact h1.elim (fun h=>absurd h0 h) id
   ·exact(ih k hkm).1 (h2 k hkm) x hxk
  ·intro hx;refine⟨?_,fun k hkm=>(ih k hkm).2 fun x hxk=>hx x (mem_colsL.2 (.inr ⟨k,hkm,hxk⟩))⟩;by_cases h0:e.k=0
   ·exact .inr (hx _ (mem_colsL.2 (.inl ⟨h0,rfl⟩)))
   ·exact .inl h0
theorem asc_last {l:List Int}(h:l.Pairwise (· < ·)){W:Int}(hn:l≠ []):(∀x∈l,x<W)↔l.getLast hn<W:=by
 constructor
 ·intro hx;exact hx _ (List.getLast_mem hn)
 ·intro hl x hx;have:l=l.dropLast++ [l.getLast hn]:=(List.dropLast_concat_getLast hn).symm;rw[this]at h hx;rcases List.mem_append.1 hx with hx|hx
  ·have:=(List.pairwise_append.1 h).2.2 x hx _ (List.mem_singleton.2 rfl);omega
  ·rw[List.mem_singleton.1 hx];exact hl
def noneE (e:E7):Bool:=e.k==0 && (e.n==0 && (zeroV e.v && (e.p.toList==[] &&e.ks.length==0)))
def kidsK (k:Int):Int:=if k=0 then 0 else if k=1 then 1 else if k=2 then 1 else if k=3 then 2 else if k=4 then 2 else if k=5 then 1 else if k=6 then 1 else -1
def formP (p:P12):Bool:=(p.k==0||p.s.toList==[]) && ((p.k==1||p.k==3||noneE p.e) && ((p.k==2||p.k==6||p.es.length==0) && ((p.k==6||p.n==0) && ((p.ks.length:Int)==kidsK p.k))))
def relW (rs:List R3)(s:ByteArray):Int:=match relOf rs s with
 |none=>0
 |some x=>x.W
def outW (rs:List R3)(p:P12)(v u:Int):Int:=
 if p.k=0 then relW rs p.s else if p.k=2 then(p.es.length:Int)else if p.k=3 then v+u else if p.k=6 then p.n+1+(p.es.length:Int)else v
def okTop (rs:List R3)(p:P12)(v u:Int):Bool:=
 if p.k=0 then(relOf rs p.s).isSome else if p.k=1 then bE8 p.e v else if p.k=2 then decide (0<p.es.length) &&p.es.all (bE8 · v)else if p.k=3 then bE8 p.e (v+u)else if p.k=4 then v==u else if p.k=6 then(decide (0≤p.n) &&decide (p.n≤v)) &&decide (p.es.length≤1) &&p.es.all (bE8 · v)else true
def wP8 (rs:List R3):Nat→P12→Int
 |0,_=> -1
 |f+1,p=>if((formP p &&p.ks.all fun q=>decide (0≤wP8 rs f q)) && (okTop rs p (wP8 rs f (p.ks.getD 0 .nil)) (wP8 rs f (p.ks.getD 1 .nil)) &&decide (outW rs p (wP8 rs f (p.ks.getD 0 .nil)) (wP8 rs f (p.ks.getD 1 .nil))≤12)))=true
   then outW rs p (wP8 rs f (p.ks.getD 0 .nil)) (wP8 rs f (p.ks.getD 1 .nil))else -1
theorem wL8 (rs:List R3)(f:Nat)(p:P12):wP8 rs f p≤12:=by
 cases f with
 |zero=>unfold wP8;omega
 |succ f=>
  unfold wP8;split
  ·rename_i h;simp only[Bool.and_eq_true,decide_eq_true_eq]at h;exact h.2.2
  ·omega
theorem form_kids {p:P12}(h:formP p=true):(p.ks.length:Int)=kidsK p.k:=by
 simp only[formP,Bool.and_eq_true,beq_iff_eq]at h;exact h.2.2.2.2
theorem kidsK_in {k:Int}(h:0≤kidsK k):k=0∨k=1∨k=2∨k=3∨k=4∨k=5∨k=6:=by
 unfold kidsK at h;split at h;exact .inl ‹_›;split at h;exact .inr (.inl ‹_›);split at h;exact .inr (.inr (.inl ‹_›));split at h;exact .inr (.inr (.inr (.inl ‹_›)));split at h;exact .inr (.inr (.inr (.inr (.inl ‹_›))));split at h;exact .inr (.inr (.inr (.inr (.inr (.inl ‹_›)))));split at h;exact .inr (.inr (.inr (.inr (.inr (.inr ‹_›)))));omega
theorem one_kid {l:List P12}(h:(l.length:Int)=1):∃q,l=[q]:=by
 match l,h with
 | [q],_=>exact⟨q,rfl⟩
theorem two_kids {l:List P12}(h:(l.length:Int)=2):∃q r,l=[q,r]:=by
 match l,h with
 | [q,r],_=>exact⟨q,r,rfl⟩
theorem no_kid {l:List P12}(h:(l.length:Int)=0):l=[]:=by
 match l,h with
 | [],_=>rfl
section
variable {rs:List R3} {f:Nat} {p:P12} (h:0≤wP8 rs (f+1) p)
include h
end
section
variable (V:E7→List V3→V3)
def sameKey (p:Option (List V3))(k:List V3):Bool:=match p with
 |none=>false
 |some q=>decide (cR8 q k=0)
end
end
section
open Go.RowKit
def okPrevV (p:Option V15)(x:V15):Bool:=match p with
 |none=>true
 |some y=>Op.bytesLess y.s.toList x.s.toList
def okVw (rs:List R3)(p:Option V15)(x:V15):Bool:=nameB x.s && (relOf rs x.s).isNone &&decide (0≤wP8 rs 9 x.p) &&okPrevV p x
def okVs (rs:List R3):Option V15→List V15→Bool
 |_,[]=>true
 |p,x::xs=>okVw rs p x &&okVs rs (some x) xs
def prevV (vs:List V15)(k:Nat):Option V15:=if k=0 then none else vs[k -1]?
def viewsP (rs:List R3)(vs:List V15):Bool:=okDb rs &&decide (vs.length≤10) &&okVs rs none vs
theorem okVs_step {rs:List R3}{vs:List V15}{k:Nat}{x:V15}(h:vs[k]?=some x):okVs rs (prevV vs k) (vs.drop k)=(okVw rs (prevV vs k) x &&okVs rs (prevV vs (k+1)) (vs.drop (k+1))):=by
 obtain⟨hk,rfl⟩:=gE1 h;rw[List.drop_eq_getElem_cons hk];simp[okVs,prevV,hk]
theorem prevV_zero (vs:List V15):prevV vs 0=none:=rfl
theorem prevV_succ {vs:List V15}{j:Nat}{y:V15}(h:vs[j]?=some y):prevV vs (j+1)=some y:=by simp[prevV,h]
end
section
open Go.RowKit
structure Raw (W:Int)(cs:List C2):Prop where
 asc:Asc cs
 row:∀c∈cs,(c.r.length:Int)=W∧RowV c.r
 num:∀c∈cs,0<c.n∧c.n≤1000000000000000000
theorem rowV_good {W:Int}{r:List V3}:gR8 W r↔(r.length:Int)=W∧RowV r:=by
 unfold gR8 okRow RowV VsWf goodV;simp only[Bool.and_eq_true,decide_eq_true_eq,List.all_eq_true];exact⟨fun⟨⟨h1,h2⟩,h3⟩=>⟨h1,fun x hx=>⟨h2 x hx,h3 x hx⟩⟩,fun⟨h1,h2⟩=>⟨⟨h1,fun x hx=>(h2 x hx).1⟩,fun x hx=>(h2 x hx).2⟩⟩
theorem Raw.good {W:Int}{cs:List C2}(h:Raw W cs):∀c∈cs,gR8 W c.r:=fun c hc=>rowV_good.2 (h.row c hc)
theorem Raw.wf {W:Int}{cs:List C2}(h:Raw W cs):CsWf cs:=fun c hc=>⟨(h.good c hc).2,wf_small (by have:=h.num c hc;omega)⟩
structure Mean (W:Int)(cs:List C2):Prop extends Raw W cs where
 ok:okBag W cs=true
theorem Mean.all {W:Int}{cs:List C2}(h:Mean W cs):0≤W∧W≤12∧cs.length≤400∧∀c∈cs,0<c.n∧c.n≤1000000000:=by
 obtain⟨h1,h2,h3,_,h4⟩:=okBag_all h.ok h.wf;exact⟨h1,h2,h3,fun c hc=>⟨(h.num c hc).1,(h4 c hc).2.2.2⟩⟩
section
end
def PreE (e:E7):Prop:=e.wf∧wtE e≤1048576∧∃ (w:World) (d:Nat) (u:Value) (F:List Nat),KidsIs w d u e.ks F
theorem PreE.good {e:E7}{W:Int}(h:PreE e)(hb:bE8 e W=true):GoodE e:=by
 unfold bE8 at hb;rw[Bool.and_eq_true]at hb;exact⟨h.1,hb.1,h.2.1,h.2.2⟩
theorem kid0 {l:List P12}{q:P12}(h:l=[q]):l.getD 0 .nil=q:=by rw[h];rfl
theorem kid00 {l:List P12}{q r:P12}(h:l=[q,r]):l.getD 0 .nil=q∧l.getD 1 .nil=r:=by rw[h];exact⟨rfl,rfl⟩
section
end
end
section
open Go.RowKit
def Box7 (w:World)(b:Nat)(e:E7)(u:Value):Prop:=
 b<w.heap.size∧w.cell? ⟨b,0,none⟩=some (.int .i64 e.k)∧w.cell? ⟨b,1,none⟩=some (.int .i64 e.n)∧w.cell? ⟨b,2,none⟩=some (.int .i64 e.v.k)∧w.cell? ⟨b,3,none⟩=some (.int .i64 e.v.n)∧w.cell? ⟨b,4,none⟩=some (.string e.v.s)∧w.cell? ⟨b,5,none⟩=some (.string e.p)∧w.cell? ⟨b,6,none⟩=some u
theorem Box7.keep {w w':World}{b:Nat}{e:E7}{u:Value}(h:Box7 w b e u)(hs:w.heap.size≤w'.heap.size)(hb:w'.heap[b]?=w.heap[b]?):Box7 w' b e u:=by
 obtain⟨hl,h0,h1,h2,h3,h4,h5,h6⟩:=h;exact⟨Nat.lt_of_lt_of_le hl hs,(cb8 hb).trans h0,(cb8 hb).trans h1,(cb8 hb).trans h2,(cb8 hb).trans h3,(cb8 hb).trans h4,(cb8 hb).trans h5,(cb8 hb).trans h6⟩
theorem Box7.below {w w':World}{b:Nat}{e:E7}{u:Value}(h:Box7 w b e u)(hb:Below w.heap.size w w'):Box7 w' b e u:=h.keep hb.size (hb.block b h.1)
theorem box7_new (w:World)(e:E7)(u:Value)(t:TypeId):Box7 (w.alloc (.cells #[.int .i64 e.k,.int .i64 e.n,.int .i64 e.v.k,.int .i64 e.v.n,.string e.v.s,.string e.p,u] t)) w.heap.size e u:=by
 refine⟨by simp,?_,?_,?_,?_,?_,?_,?_⟩<;>go_simp
theorem Box7.cellsE {w:World}{b:Nat}{e:E7}{u:Value}(h:Box7 w b e u):cellsE w b 0 e:=by
 obtain⟨hl,h0,h1,h2,h3,h4,h5,h6⟩:=h;exact⟨h0,h1,h2,h3,h4,h5⟩
theorem KidsIs.cells {w:World}:∀ {d:Nat} {v:Value} {es:List E7} {F:List Nat},KidsIs w d v es F→∀b∈F,∃c t l,w.heap[b]?=some (.cells c t l)
 |0,_,_,_,h=>h.elim
 |d+1,v,es,F,h=>by
  obtain⟨a,c,G,rfl,_,_,hG,h0,h⟩:=h;by_cases hne:es=[]
  ·rw[h0 hne];intro b hb;cases hb
  obtain⟨b,o,rfl,hlt,rfl,hL⟩:=h hne;intro x hx;have hp:0<es.length:=List.length_pos_iff.2 hne;have hpG:0<G.length:=by omega
  rcases List.mem_cons.1 hx with rfl|hx
  ·obtain⟨_,⟨hc,_⟩,_⟩:=hL 0 es[0] G[0] (by simp) (by simp);exact cells_of hc
  obtain⟨g,hg,hxg⟩:=List.mem_flatten.1 hx;obtain⟨i,hi,rfl⟩:=List.mem_iff_getElem.1 hg;have hi':i<es.length:=by omega
  obtain⟨_,_,u,_,hk⟩:=hL i es[i] G[i] (by simp) (by simp);exact hk.cells x hxg
theorem KidsIs.fr {w:World}{d N:Nat}{v:Value}{es:List E7}{F:List Nat}(h:KidsIs w d v es F)(ho:Own w N F):∀b∈F,Fr w b:=fun b hb=>⟨h.cells b hb,(ho.2 b hb).2⟩
end
section
open Go.RowKit
def relV (x:V15):R3:=⟨x.s,x.W,x.cs⟩
def UpR (x y:R3):Prop:=Op.bytesLess y.s.toList x.s.toList=false
def WithIs (rs:List R3)(vs:List V15)(l:List R3):Prop:=
 (viewsP rs vs=true∧rs.length+vs.length≤20→l.Perm (rs++vs.map relV)∧l.Pairwise UpR)∧(¬ (viewsP rs vs=true∧rs.length+vs.length≤20)→l=rs)
theorem okRs_up:∀ {rs:List R3} {p:Option R3},okRs p rs=true→(∀y,p=some y→∀x∈rs,Op.bytesLess y.s.toList x.s.toList=true)∧rs.Pairwise fun x y=>Op.bytesLess x.s.toList y.s.toList=true
 | [],_,_=>⟨fun _ _ x hx=>by simp at hx,List.Pairwise.nil⟩
 |x::xs,p,h=>by
  simp only[okRs,Bool.and_eq_true]at h;obtain⟨h1,h2⟩:=okRs_up h.2;have hx:=h1 x rfl;refine⟨fun y hy z hz=>?_,List.Pairwise.cons hx h2⟩;have hyx:Op.bytesLess y.s.toList x.s.toList=true:=by have:=h.1.2;rw[hy]at this;exact this
  rcases List.mem_cons.1 hz with rfl|hz
  ·exact hyx
  ·exact bl_trans hyx (hx z hz)
theorem okVs_up:∀ {vs:List V15} {rs:List R3} {p:Option V15},okVs rs p vs=true→(∀y,p=some y→∀x∈vs,Op.bytesLess y.s.toList x.s.toList=true)∧(vs.Pairwise fun x y=>Op.bytesLess x.s.toList y.s.toList=true)∧∀x∈vs,(relOf rs x.s).isNone=true
 | [],_,_,_=>⟨fun _ _ x hx=>by simp at hx,List.Pairwise.nil,fun x hx=>by simp at hx⟩
 |x::xs,rs,p,h=>by
  simp only[okVs,okVw,Bool.and_eq_true]at h;obtain⟨h1,h2,h3⟩:=okVs_up h.2;have hx:=h1 x rfl;refine⟨fun y hy z hz=>?_,List.Pairwise.cons hx h2,fun z hz=>?_⟩
  ·have hyx:Op.bytesLess y.s.toList x.s.toList=true:=by have:=h.1.2;rw[hy]at this;exact this
   rcases List.mem_cons.1 hz with rfl|hz
   ·exact hyx
   ·exact bl_trans hyx (hx z hz)
  ·rcases List.mem_cons.1 hz with rfl|hz
   ·exact h.1.1.1.2
   ·exact h3 z hz
theorem pw_mono {α:Type}{R S:α→α→Prop}(f:∀a b,R a b→S a b):∀ {l:List α},l.Pairwise R→l.Pairwise S
 | [],_=>List.Pairwise.nil
 |x::xs,h=>List.Pairwise.cons (fun a ha=>f _ _ ((List.pairwise_cons.1 h).1 a ha)) (pw_mono f (List.pairwise_cons.1 h).2)
theorem less_ne {x y:List UInt8}(h:Op.bytesLess x y=true):x≠y:=by
 rintro rfl;rw[bless_irrefl]at h;cases h
theorem viewsP_ne {rs:List R3}{vs:List V15}(h:viewsP rs vs=true):(rs++vs.map relV).Pairwise fun x y=>x.s.toList≠y.s.toList:=by
 simp only[viewsP,okDb,Bool.and_eq_true]at h;obtain⟨_,h2,h3⟩:=okVs_up h.2;rw[List.pairwise_append,List.pairwise_map];refine⟨pw_mono (fun _ _=>less_ne) (okRs_up h.1.1.2).2,pw_mono (fun _ _=>less_ne) h2,fun a ha b hb e=>?_⟩;obtain⟨x,hx,rfl⟩:=List.mem_map.1 hb;have hn:=h3 x hx;rw[Option.isNone_iff_eq_none]at hn;have:=List.find?_eq_none.1 hn a ha;exact this (by simpa [relV]using e)
theorem name_inj:∀ {L:List R3},(L.Pairwise fun x y=>x.s.toList≠y.s.toList)→∀ {a b:R3},a∈L→b∈L→a.s.toList=b.s.toList→a=b
 | [],_,a,_,ha,_,_=>by simp at ha
 |x::xs,h,a,b,ha,hb,e=>by
  obtain⟨h1,h2⟩:=List.pairwise_cons.1 h;rcases List.mem_cons.1 ha with ea|ha2<;>rcases List.mem_cons.1 hb with eb|hb2
  ·rw[ea,eb]
  ·rw[ea]at e;exact absurd e (h1 b hb2)
  ·rw[eb]at e;exact absurd e.symm (h1 a ha2)
  ·exact name_inj h2 ha2 hb2 e
theorem WithIs.one {rs:List R3}{vs:List V15}{l l':List R3}(h:WithIs rs vs l)(h':WithIs rs vs l'):l=l':=by
 by_cases hc:viewsP rs vs=true∧rs.length+vs.length≤20
 ·obtain⟨p,s⟩:=h.1 hc;obtain⟨p',s'⟩:=h'.1 hc;refine List.Perm.eq_of_pairwise (fun a b ha hb h1 h2=>?_) s s' (p.trans p'.symm);refine name_inj (viewsP_ne hc.1) (p.mem_iff.1 ha) (p'.mem_iff.1 hb) ?_;by_cases e:a.s.toList=b.s.toList
  ·exact e
  ·have:=bless_total h2 e;rw[h1]at this;cases this
 ·rw[h.2 hc,h'.2 hc]
theorem wtR_views (vs:List V15):wtR (vs.map relV)≤wtV vs:=by
 unfold wtR wtrs wtV wtvs;rw[List.length_map,List.map_map];induction vs with
 |nil=>simp
 |cons x xs ih=>
  simp only[List.map_cons,List.sum_cons,List.length_cons,Function.comp]at ih⊢;have h1:wtr (relV x)≤wtv x:=by unfold wtr wtv relV;dsimp only;omega
  omega
theorem wtR_app (rs rs':List R3):wtR (rs++rs')=wtR rs+wtR rs':=by
 unfold wtR wtrs;rw[List.length_append,List.map_append,List.sum_append];omega
theorem wtR_perm {rs rs':List R3}(h:rs.Perm rs'):wtR rs=wtR rs':=by
 unfold wtR wtrs;rw[h.length_eq,(h.map wtr).sum_nat]
theorem WithIs.wt {rs:List R3}{vs:List V15}{l:List R3}(h:WithIs rs vs l):wtR l≤wtR rs+wtV vs:=by
 by_cases hc:viewsP rs vs=true∧rs.length+vs.length≤20
 ·rw[wtR_perm (h.1 hc).1,wtR_app];have:=wtR_views vs;omega
 ·rw[h.2 hc];omega
theorem WithIs.wf {rs:List R3}{vs:List V15}{l:List R3}(h:WithIs rs vs l)(hr:RsWf rs)(hv:∀x∈vs,x.wf):RsWf l:=by
 by_cases hc:viewsP rs vs=true∧rs.length+vs.length≤20
 ·intro x hx;rcases List.mem_append.1 ((h.1 hc).1.mem_iff.1 hx)with hx|hx
  ·exact hr x hx
  ·obtain⟨y,hy,rfl⟩:=List.mem_map.1 hx;obtain⟨w1,_,w2,w3⟩:=hv y hy;exact⟨w1,w2,w3⟩
 ·rw[h.2 hc];exact hr
theorem up_put {l:List R3}{x:R3}{j:Nat}(h:l.Pairwise UpR)(h1:∀i y,i<j→l[i]?=some y→Op.bytesLess y.s.toList x.s.toList=true)(h2:∀y,l[j]?=some y→Op.bytesLess y.s.toList x.s.toList=false):(l.take j++x::l.drop j).Pairwise UpR:=by
 have hs:=h;rw[←List.take_append_drop j l,List.pairwise_append]at hs;obtain⟨s1,s2,s3⟩:=hs;have hle:∀a∈l.take j,UpR a x:=by
  intro a ha;obtain⟨i,hi,rfl⟩:=List.mem_iff_getElem.1 ha;have hij:i<j:=by simp at hi;omega
  have e:l[i]?=some (l.take j)[i]:=by rw[←List.getElem?_eq_getElem hi,List.getElem?_take,if_pos hij]
  exact bless_asymm (h1 i _ hij e)
 have hge:∀b∈l.drop j,UpR x b:=by
  cases hd:l.drop j with
  |nil=>intro b hb;simp at hb
  |cons y ys=>
   have hy:l[j]?=some y:=by have:=congrArg (fun q=>q[0]?) hd;simpa using this
   have hxy:UpR x y:=h2 y hy;rw[hd]at s2;intro b hb;rcases List.mem_cons.1 hb with rfl|hb
   ·exact hxy
   ·have h4:Op.bytesLess b.s.toList y.s.toList=false:=(List.pairwise_cons.1 s2).1 b hb;show Op.bytesLess b.s.toList x.s.toList=false;cases h5:Op.bytesLess b.s.toList x.s.toList with
    |false=>rfl
    |true=>
     by_cases e:b.s.toList=y.s.toList
     ·rw[e]at h5;rw[show Op.bytesLess y.s.toList x.s.toList=false from hxy]at h5;cases h5
     ·have:=bl_trans (bless_total h4 e) h5;rw[show Op.bytesLess y.s.toList x.s.toList=false from hxy]at this;cases this
 rw[List.pairwise_append];refine⟨s1,List.pairwise_cons.2 ⟨hge,s2⟩,fun a ha b hb=>?_⟩;rcases List.mem_cons.1 hb with rfl|hb
 ·exact hle a ha
 ·exact s3 a ha b hb
theorem up_rs {rs:List R3}(h:okDb rs=true):rs.Pairwise UpR:=by
 simp only[okDb,Bool.and_eq_true]at h;exact pw_mono (fun _ _=>bless_asymm) (okRs_up h.2).2
theorem perm_put {l m:List R3}{x:R3}(h:l.Perm m)(j:Nat):(l.take j++x::l.drop j).Perm (m++ [x]):=by
 have h1:(l.take j++x::l.drop j).Perm (x::(l.take j++l.drop j)):=List.perm_middle;rw[List.take_append_drop]at h1;have h2:(m++ [x]).Perm (x::(m++ [])):=List.perm_middle;rw[List.append_nil]at h2;exact h1.trans ((h.cons x).trans h2.symm)
end
section
open Go.RowKit
def partsP (p:P12):Bool:=formP p && ((p.k !=2||(decide (1≤p.es.length) &&decide (p.es.length≤12))) && (p.k !=6||decide (p.es.length≤1)))
theorem parts_no {rs:List R3}{f:Nat}{p:P12}(h:partsP p=false):wP8 rs (f+1) p= -1:=by
 rw[wP8,if_neg];intro hc;simp only[Bool.and_eq_true,decide_eq_true_eq,List.all_eq_true]at hc;obtain⟨⟨h1,_⟩,h3,h4⟩:=hc;have:partsP p=true:=by
  unfold partsP;rw[h1,Bool.true_and];simp only[Bool.and_eq_true,Bool.or_eq_true,bne_iff_ne,decide_eq_true_eq];constructor
  ·by_cases hk:p.k=2
   ·right;simp[okTop,outW,hk]at h3 h4;exact⟨h3.1,by omega⟩
   ·exact .inl hk
  ·by_cases hk:p.k=6
   ·right;simp[okTop,hk]at h3;exact h3.1.2
   ·exact .inl hk
 rw[h]at this;cases this
theorem kid_no {rs:List R3}{f:Nat}{p q:P12}(hq:q∈p.ks)(h:wP8 rs f q<0):wP8 rs (f+1) p= -1:=by
 rw[wP8,if_neg];intro hc;simp only[Bool.and_eq_true,decide_eq_true_eq,List.all_eq_true]at hc;have:=hc.1.2 q hq;omega
theorem top_no {rs:List R3}{f:Nat}{p:P12}(h:okTop rs p (wP8 rs f (p.ks.getD 0 .nil)) (wP8 rs f (p.ks.getD 1 .nil))=false):wP8 rs (f+1) p= -1:=by
 rw[wP8,if_neg];intro hc;simp only[Bool.and_eq_true,decide_eq_true_eq,List.all_eq_true]at hc;rw[h]at hc;cases hc.2.1
theorem wide_no {rs:List R3}{f:Nat}{p:P12}(h:12<outW rs p (wP8 rs f (p.ks.getD 0 .nil)) (wP8 rs f (p.ks.getD 1 .nil))):wP8 rs (f+1) p= -1:=by
 rw[wP8,if_neg];intro hc;simp only[Bool.and_eq_true,decide_eq_true_eq,List.all_eq_true]at hc;have:=hc.2.2;omega
theorem width_yes {rs:List R3}{f:Nat}{p:P12}(h1:partsP p=true)(h2:∀q∈p.ks,0≤wP8 rs f q)(h3:okTop rs p (wP8 rs f (p.ks.getD 0 .nil)) (wP8 rs f (p.ks.getD 1 .nil))=true)(h4:outW rs p (wP8 rs f (p.ks.getD 0 .nil)) (wP8 rs f (p.ks.getD 1 .nil))≤12):wP8 rs (f+1) p=outW rs p (wP8 rs f (p.ks.getD 0 .nil)) (wP8 rs f (p.ks.getD 1 .nil)):=by
 rw[wP8,if_pos];simp only[partsP,Bool.and_eq_true]at h1;simp only[Bool.and_eq_true,decide_eq_true_eq,List.all_eq_true];exact⟨⟨h1.1,h2⟩,h3,h4⟩
theorem relOf_pos {rs:List R3}(hdb:okDb rs=true){s:ByteArray}{x:R3}(h:relOf rs s=some x):0≤x.W:=by
 have:=okDb_each hdb (relOf_mem h);simp only[okBag,Bool.and_eq_true,decide_eq_true_eq]at this;exact this.1.1.1
theorem parts_kids {p:P12}(h:partsP p=true):(p.ks.length:Int)=kidsK p.k:=by
 simp only[partsP,Bool.and_eq_true]at h;exact form_kids h.1
theorem parts_in {p:P12}(h:partsP p=true):p.k=0∨p.k=1∨p.k=2∨p.k=3∨p.k=4∨p.k=5∨p.k=6:=by
 have:=parts_kids h;exact kidsK_in (by omega)
def FormR (w:World)(rs:List R3)(p:P12)(W:Int)(us v:Value):Prop:=
 (p.k=0∧us=.slice none 0 0∧∃x u,relOf rs p.s=some x∧x.W=W∧(∃F,RowsF w u x.cs F)∧v=.iface 214 (.agg #[.int .i64 0,.int .i64 W,us,.string p.s,.int .i64 W,u]))∨
 (p.k=1∧∃ue F D,KidsIs w D ue p.e.ks F∧v=.iface 179 (.agg #[.int .i64 1,.int .i64 W,us,.int .i64 p.e.k,.int .i64 p.e.n,.int .i64 p.e.v.k,.int .i64 p.e.v.n,.string p.e.v.s,.string p.e.p,ue]))∨
 (p.k=2∧∃ue F D,KidsIs w D ue p.es F∧v=.iface 181 (.agg #[.int .i64 2,.int .i64 W,us,ue]))∨
 (p.k=3∧∃ue F D,KidsIs w D ue p.e.ks F∧v=.iface 182 (.agg #[.int .i64 3,.int .i64 W,us,.int .i64 p.e.k,.int .i64 p.e.n,.int .i64 p.e.v.k,.int .i64 p.e.v.n,.string p.e.v.s,.string p.e.p,ue]))∨
 (p.k=4∧v=.iface 184 (.agg #[.int .i64 4,.int .i64 W,us]))∨
 (p.k=5∧v=.iface 185 (.agg #[.int .i64 5,.int .i64 W,us]))∨
 (p.k=6∧∃ue F D,KidsIs w D ue p.es F∧v=.iface 187 (.agg #[.int .i64 6,.int .i64 W,us,.int .i64 p.n,ue]))
def UnderIs (D:Nat→Prop)(w:World)(us:Value)(vals:List Value):Prop:=∃a c,us=.slice a vals.length c∧c≤maxLen∧(0<vals.length→∃g,a=some ⟨g,0,none⟩∧D g∧∀k x,vals[k]?=some x→w.cell? ⟨g,k,none⟩=some x)
theorem UnderIs.keep {D D':Nat→Prop}{w w':World}{us:Value}{vals:List Value}(h:UnderIs D w us vals)(hD:∀b,D b→D' b)(hw:∀b,D b→w'.heap[b]?=w.heap[b]?):UnderIs D' w' us vals:=by
 obtain⟨a,c,rfl,hc,h⟩:=h;refine⟨a,c,rfl,hc,fun h0=>?_⟩;obtain⟨g,rfl,hg,hx⟩:=h h0;exact⟨g,rfl,hD g hg,fun k x hk=>(cb8 (hw g hg)).trans (hx k x hk)⟩
def RightIs (W0:World)(rs:List R3):Nat→(Nat→Prop)→World→Value→P12→Prop
 |0,_,_,_,_=>False
 |f+1,D,w,v,p=> ∃ (us:Value) (vals:List Value),FormR W0 rs p (wP8 rs (f+1) p) us v∧UnderIs D w us vals∧vals.length=p.ks.length∧∀ (k:Nat) (q:P12) (x:Value),p.ks[k]?=some q→vals[k]?=some x→RightIs W0 rs f D w x q
theorem RightIs.keep {W0:World}{rs:List R3}{D D':Nat→Prop}{w w':World}(hD:∀b,D b→D' b)(hw:∀b,D b→w'.heap[b]?=w.heap[b]?):∀ {f:Nat} {v:Value} {p:P12},RightIs W0 rs f D w v p→RightIs W0 rs f D' w' v p
 |0,_,_,h=>h.elim
 |f+1,v,p,⟨us,vals,h1,h2,h3,h4⟩=>⟨us,vals,h1,h2.keep hD hw,h3,fun k q x hq hx=>RightIs.keep hD hw (h4 k q x hq hx)⟩
end
section
open Go.RowKit
attribute [local go_sem] ta_nullForm_nullForm ta_nullForm_intForm ta_nullForm_boolForm ta_nullForm_textForm ta_intForm_nullForm ta_intForm_intForm ta_intForm_boolForm ta_intForm_textForm ta_boolForm_nullForm ta_boolForm_intForm ta_boolForm_boolForm ta_boolForm_textForm ta_textForm_nullForm ta_textForm_intForm ta_textForm_boolForm ta_textForm_textForm ta_nil_nullForm ta_nil_intForm ta_nil_boolForm ta_nil_textForm
end
section
open Go.RowKit
theorem frameWidth_any (k W:Int)(a:Option Addr)(l c:Nat)(w:World):Calls Tryz.prog 191 #[.agg #[.int .i64 k,.int .i64 W,.slice a l c]] w fun e w'=>e=.returned (.int .i64 W)∧Below w.heap.size w w':=by
 go_enter Tryz.func191,Tryz.ntmps191;go_wp2;go_returns;exact⟨rfl,bex⟩
end
section
open Go.RowKit
def Wid (v:Value)(W:Int)(us:Value):Prop:=∃ (t:TypeId) (x:Value) (k:Int),v=.iface t x∧(∀w,Sem.run Tryz.prog (Go.method 400 t x "loop.example/g00312/impl.width") w=.ok (191,.agg #[.int .i64 k,.int .i64 W,us]) w)∧∀w,Sem.run Tryz.prog (Go.method 400 t x "loop.example/g00312/impl.kids") w=.ok (189,.agg #[.int .i64 k,.int .i64 W,us]) w
theorem FormR.wid {w:World}{rs:List R3}{p:P12}{W:Int}{us v:Value}(h:FormR w rs p W us v):Wid v W us:=by
 rcases h with⟨_,rfl,x,u,_,_,_,rfl⟩|⟨_,ue,F,D,_,rfl⟩|⟨_,ue,F,D,_,rfl⟩|⟨_,ue,F,D,_,rfl⟩|⟨_,rfl⟩|⟨_,rfl⟩|⟨_,ue,F,D,_,rfl⟩
 ·exact⟨_,_,0,rfl,fun w=>by kernel_rfl,fun w=>by kernel_rfl⟩
 ·exact⟨_,_,1,rfl,fun w=>by kernel_rfl,fun w=>by kernel_rfl⟩
 ·exact⟨_,_,2,rfl,fun w=>by kernel_rfl,fun w=>by kernel_rfl⟩
 ·exact⟨_,_,3,rfl,fun w=>by kernel_rfl,fun w=>by kernel_rfl⟩
 ·exact⟨_,_,4,rfl,fun w=>by kernel_rfl,fun w=>by kernel_rfl⟩
 ·exact⟨_,_,5,rfl,fun w=>by kernel_rfl,fun w=>by kernel_rfl⟩
 ·exact⟨_,_,6,rfl,fun w=>by kernel_rfl,fun w=>by kernel_rfl⟩
end
section
open Go.RowKit
theorem implSame_any {d N:Nat}(e f:E7)(v u:Value)(F F':List Nat)(w:World)(hv:KidsIs w d v e.ks F)(hu:KidsIs w d u f.ks F')(ho:Own w N F)(hn:wtE e≤1048576):Calls Tryz.prog 118 #[(.agg #[.int .i64 e.k,.int .i64 e.n,.int .i64 e.v.k,.int .i64 e.v.n,.string e.v.s,.string e.p,v]),(.agg #[.int .i64 f.k,.int .i64 f.n,.int .i64 f.v.k,.int .i64 f.v.n,.string f.v.s,.string f.p,u])] w fun x w'=>x=.returned (.bool (sameD d e f))∧Below w.heap.size w w':=by
 obtain⟨a,c,rfl,_,_⟩:=hv.shape;obtain⟨a',c',rfl,_,_⟩:=hu.shape;go_enter Tryz.func118,Tryz.ntmps118;go_wp2_with fail;have hA:=(box7_new w e (.slice a e.ks.length c) 63).below ((Below.refl _ (w.alloc (.cells #[.int .i64 e.k,.int .i64 e.n,.int .i64 e.v.k,.int .i64 e.v.n,.string e.v.s,.string e.p,.slice a e.ks.length c] 63))).alloc (Nat.le_refl _) (.cells #[.int .i64 f.k,.int .i64 f.n,.int .i64 f.v.k,.int .i64 f.v.n,.string f.v.s,.string f.p,.slice a' f.ks.length c'] 63));have hB:=box7_new (w.alloc (.cells #[.int .i64 e.k,.int .i64 e.n,.int .i64 e.v.k,.int .i64 e.v.n,.string e.v.s,.string e.p,.slice a e.ks.length c] 63)) f (.slice a' f.ks.length c') 63;rw[World.size_alloc]at hB;have hv2:=hv.below (show Below w.heap.size w ((w.alloc (.cells #[.int .i64 e.k,.int .i64 e.n,.int .i64 e.v.k,.int .i64 e.v.n,.string e.v.s,.string e.p,.slice a e.ks.length c] 63)).alloc (.cells #[.int .i64 f.k,.int .i64 f.n,.int .i64 f.v.k,.int .i64 f.v.n,.string f.v.s,.string f.p,.slice a' f.ks.length c'] 63))from bex);have hu2:=hu.below (show Below w.heap.size w ((w.alloc (.cells #[.int .i64 e.k,.int .i64 e.n,.int .i64 e.v.k,.int .i64 e.v.n,.string e.v.s,.string e.p,.slice a e.ks.length c] 63)).alloc (.cells #[.int .i64 f.k,.int .i64 f.n,.int .i64 f.v.k,.int .i64 f.v.n,.string f.v.s,.string f.p,.slice a' f.ks.length c'] 63))from bex);have ho2:=ho.below hv.lt (show Below w.heap.size w ((w.alloc (.cells #[.int .i64 e.k,.int .i64 e.n,.int .i64 e.v.k,.int .i64 e.v.n,.string e.v.s,.string e.p,.slice a e.ks.length c] 63)).alloc (.cells #[.int .i64 f.k,.int .i64 f.n,.int .i64 f.v.k,.int .i64 f.v.n,.string f.v.s,.string f.p,.slice a' f.ks.length c'] 63))from bex)
 refine cM8 (sameTrees_any d w.heap.size 0 (w.heap.size+1) 0 e f F F' _ ⟨hA.1,hA.cellsE,_,hA.2.2.2.2.2.2.2,hv2⟩ ⟨hB.1,hB.cellsE,_,hB.2.2.2.2.2.2.2,hu2⟩ ho.1 (hv2.fr ho2) hn) ?_;rintro x w1 ⟨rfl,hb1⟩;have hz1:=hb1.size;simp only[World.size_alloc]at hz1;clear hA hB hv2 hu2 ho2;go_wp2_with fail;go_returns;exact⟨rfl,bex⟩
end
section
open Go.RowKit Go.Deep Go.ChangeShapes Go.WideShapes
section
variable (V:E7→List V3→V3) (e:E7)
end
structure JnW (w:World)(W U:Int)(a a':Option Addr)(lc c ld c':Nat)(e:E7)(ue:Value)(V:E7→List V3→V3)(acc:List C2)(y:Value)(us:List Value)(G:List (List Nat))(wr:World):Prop where
 a0:wr.cell? ⟨w.heap.size,0,none⟩=some (.int .i64 W)
 a1:wr.cell? ⟨w.heap.size,1,none⟩=some (.slice a lc c)
 b0:wr.cell? ⟨w.heap.size+1,0,none⟩=some (.int .i64 U)
 b1:wr.cell? ⟨w.heap.size+1,1,none⟩=some (.slice a' ld c')
 bx:Box7 wr (w.heap.size+1+1) e ue
 r0:wr.cell? ⟨w.heap.size+1+1+1,0,none⟩=some (.int .i64 0)
 r1:wr.cell? ⟨w.heap.size+1+1+1,1,none⟩=some (.slice none 0 0)
 rf:∀q,wr.frozen? ⟨w.heap.size+1+1+1,q,none⟩=false
 p0:wr.cell? ⟨w.heap.size+1+1+1+1,0,none⟩=some (.int .i64 (W+U))
 p1:wr.cell? ⟨w.heap.size+1+1+1+1,1,none⟩=some y
 pf:∀q,wr.frozen? ⟨w.heap.size+1+1+1+1,q,none⟩=false
 own:BagOwn wr (w.heap.size+1+1+1+1+1) y acc us G
 bel:Below w.heap.size w wr
 big:w.heap.size+1+1+1+1<wr.heap.size
theorem JnW.below {w wr w':World}{W U:Int}{a a':Option Addr}{lc c ld c':Nat}{e:E7}{ue:Value}{V:E7→List V3→V3}{acc:List C2}{y:Value}{us:List Value}{G:List (List Nat)}(h:JnW w W U a a' lc c ld c' e ue V acc y us G wr)(hb:Below wr.heap.size wr w'):JnW w W U a a' lc c ld c' e ue V acc y us G w':=by
 have hz:=h.big;have hs:=hb.size;exact⟨((bc8 hb).1 _ _ (by omega)).trans h.a0,((bc8 hb).1 _ _ (by omega)).trans h.a1,((bc8 hb).1 _ _ (by omega)).trans h.b0,((bc8 hb).1 _ _ (by omega)).trans h.b1,h.bx.below hb,((bc8 hb).1 _ _ (by omega)).trans h.r0,((bc8 hb).1 _ _ (by omega)).trans h.r1,fun q=>((bc8 hb).2 _ q (by omega)).trans (h.rf q),((bc8 hb).1 _ _ (by omega)).trans h.p0,((bc8 hb).1 _ _ (by omega)).trans h.p1,fun q=>((bc8 hb).2 _ q (by omega)).trans (h.pf q),h.own.below hb,h.bel.trans (hb.mono h.bel.size),by omega⟩
theorem JnW.put {w wr w5:World}{W U:Int}{a a':Option Addr}{lc c ld c':Nat}{e:E7}{ue:Value}{V:E7→List V3→V3}{acc acc5:List C2}{y y5:Value}{us us5:List Value}{G G5:List (List Nat)}(h:JnW w W U a a' lc c ld c' e ue V acc y us G wr)(hb:Below (w.heap.size+1+1+1+1+1) wr w5)(hB:BagOwn w5 (w.heap.size+1+1+1+1+1) y5 acc5 us5 G5):JnW w W U a a' lc c ld c' e ue V acc5 y5 us5 G5 ((w5.setCell ⟨w.heap.size+1+1+1+1,0,none⟩ (.int .i64 (W+U))).setCell ⟨w.heap.size+1+1+1+1,1,none⟩ y5):=by
 have hz:=h.big;have hs:=hb.size;have kB:∀q,q<w.heap.size+1+1+1+1+1→w5.heap[q]?=wr.heap[q]?:=fun q hq=>hb.block q hq;have kS:∀q,q<w.heap.size+1+1+1+1→((w5.setCell ⟨w.heap.size+1+1+1+1,0,none⟩ (.int .i64 (W+U))).setCell ⟨w.heap.size+1+1+1+1,1,none⟩ y5).heap[q]?=wr.heap[q]?:=fun q hq=>(bS8 _ _ _ _ (by simp;omega)).trans ((bS8 _ _ _ _ (by simp;omega)).trans (kB q (by omega)));have p0:=(cb8 (kB (w.heap.size+1+1+1+1) (by omega))).trans h.p0;have p1:=(cb8 (kB (w.heap.size+1+1+1+1) (by omega))).trans h.p1;have belw:Below w.heap.size w w5:=h.bel.trans ((show Below (w.heap.size+1+1+1+1+1) wr w5 from⟨hb.os,hb.tape,hb.output,hb.size,hb.block⟩).mono (by omega));exact⟨(cb8 (kS _ (by omega))).trans h.a0,(cb8 (kS _ (by omega))).trans h.a1,(cb8 (kS _ (by omega))).trans h.b0,(cb8 (kS _ (by omega))).trans h.b1,h.bx.keep (by simp;omega) (kS _ (by omega)),(cb8 (kS _ (by omega))).trans h.r0,(cb8 (kS _ (by omega))).trans h.r1,fun q=>(fb8 (kS _ (by omega))).trans (h.rf q),(cO8 _ _ _ _ (by simp)).trans (cS8 _ _ _ p0),cS8 _ _ _ ((cO8 _ _ _ _ (by simp)).trans p1),fun q=>by have:=(fb8 (kB (w.heap.size+1+1+1+1) (by omega)) (o:=q)).trans (h.pf q);simpa using this,hB.keep (by simp) (fun t ht _=>(bS8 _ _ _ _ (by simp;omega)).trans (bS8 _ _ _ _ (by simp;omega))),(belw.setCell (by simp;try omega) _).setCell (by simp;try omega) _,by simp;omega⟩
end
section
open Go.RowKit Go.Deep Go.ChangeShapes Go.WideShapes
theorem RowIs.take {w:World}{a:Option Addr}{c:Nat}{vs:List V3}(h:RowIs w (.slice a vs.length c) vs){n:Nat}(hn:n≤vs.length):RowIs w (.slice a n c) (vs.take n):=by
 obtain⟨a',c',e,hl,hc,h⟩:=h;injection e with e1 e2 e3;subst e1 e3;have hlen:(vs.take n).length=n:=by simp;omega
 refine⟨a,c,by rw[hlen],by omega,hc,fun hne=>?_⟩;obtain⟨b,o,hb,hlt,hL⟩:=h (by rintro rfl;simp at hne);refine⟨b,o,hb,hlt,fun i x hx=>hL i x ?_⟩;rw[List.getElem?_take]at hx;split at hx
 ·exact hx
 ·cases hx
end
section
open Go.RowKit Go.Deep Go.ChangeShapes Go.WideShapes
theorem RowF.take {w:World}{a:Option Addr}{c:Nat}{vs:List V3}{g:List Nat}(h:RowF w (.slice a vs.length c) vs g){n:Nat}(hn:n≤vs.length):∃g',RowF w (.slice a n c) (vs.take n) g':=by
 obtain⟨a',c',e,hl,hc,hz,_,h⟩:=h;injection e with e1 e2 e3;subst e1 e3;have hlen:(vs.take n).length=n:=by simp;omega
 by_cases hne:vs.take n=[]
 ·exact⟨[],a,c,by rw[hlen],by omega,hc,hz,fun _=>rfl,fun hx=>absurd hne hx⟩
 ·obtain⟨b,o,hb,hlt,hg,hL⟩:=h (by rintro rfl;simp at hne);refine⟨g,a,c,by rw[hlen],by omega,hc,hz,fun hx=>absurd hx hne,fun _=>⟨b,o,hb,hlt,hg,fun i x hx=>hL i x ?_⟩⟩;rw[List.getElem?_take]at hx;split at hx
  ·exact hx
  ·cases hx
structure GrW (w:World)(W T:Int)(a:Option Addr)(lc c:Nat)(acc:List C2)(y:Value)(us:List Value)(G:List (List Nat))(wr:World):Prop where
 a0:wr.cell? ⟨w.heap.size,0,none⟩=some (.int .i64 W)
 a1:wr.cell? ⟨w.heap.size,1,none⟩=some (.slice a lc c)
 r0:wr.cell? ⟨w.heap.size+1,0,none⟩=some (.int .i64 0)
 r1:wr.cell? ⟨w.heap.size+1,1,none⟩=some (.slice none 0 0)
 rf:∀q,wr.frozen? ⟨w.heap.size+1,q,none⟩=false
 p0:wr.cell? ⟨w.heap.size+1+1,0,none⟩=some (.int .i64 T)
 p1:wr.cell? ⟨w.heap.size+1+1,1,none⟩=some y
 pf:∀q,wr.frozen? ⟨w.heap.size+1+1,q,none⟩=false
 own:BagOwn wr (w.heap.size+1+1+1) y acc us G
 bel:Below w.heap.size w wr
 big:w.heap.size+1+1<wr.heap.size
theorem GrW.below {w wr w':World}{W T:Int}{a:Option Addr}{lc c:Nat}{acc:List C2}{y:Value}{us:List Value}{G:List (List Nat)}(h:GrW w W T a lc c acc y us G wr)(hb:Below wr.heap.size wr w'):GrW w W T a lc c acc y us G w':=by
 have hz:=h.big;have hs:=hb.size;exact⟨((bc8 hb).1 _ _ (by omega)).trans h.a0,((bc8 hb).1 _ _ (by omega)).trans h.a1,((bc8 hb).1 _ _ (by omega)).trans h.r0,((bc8 hb).1 _ _ (by omega)).trans h.r1,fun q=>((bc8 hb).2 _ q (by omega)).trans (h.rf q),((bc8 hb).1 _ _ (by omega)).trans h.p0,((bc8 hb).1 _ _ (by omega)).trans h.p1,fun q=>((bc8 hb).2 _ q (by omega)).trans (h.pf q),h.own.below hb,h.bel.trans (hb.mono h.bel.size),by omega⟩
theorem GrW.put {w wr w5:World}{W T:Int}{a:Option Addr}{lc c:Nat}{acc acc5:List C2}{y y5:Value}{us us5:List Value}{G G5:List (List Nat)}(h:GrW w W T a lc c acc y us G wr)(hb:Below (w.heap.size+1+1+1) wr w5)(hB:BagOwn w5 (w.heap.size+1+1+1) y5 acc5 us5 G5):GrW w W T a lc c acc5 y5 us5 G5 ((w5.setCell ⟨w.heap.size+1+1,0,none⟩ (.int .i64 T)).setCell ⟨w.heap.size+1+1,1,none⟩ y5):=by
 have hz:=h.big;have hs:=hb.size;have kB:∀q,q<w.heap.size+1+1+1→w5.heap[q]?=wr.heap[q]?:=fun q hq=>hb.block q hq;have kS:∀q,q<w.heap.size+1+1→((w5.setCell ⟨w.heap.size+1+1,0,none⟩ (.int .i64 T)).setCell ⟨w.heap.size+1+1,1,none⟩ y5).heap[q]?=wr.heap[q]?:=fun q hq=>(bS8 _ _ _ _ (by simp;omega)).trans ((bS8 _ _ _ _ (by simp;omega)).trans (kB q (by omega)));have p0:=(cb8 (kB (w.heap.size+1+1) (by omega))).trans h.p0;have p1:=(cb8 (kB (w.heap.size+1+1) (by omega))).trans h.p1;have belw:Below w.heap.size w w5:=h.bel.trans ((show Below (w.heap.size+1+1+1) wr w5 from⟨hb.os,hb.tape,hb.output,hb.size,hb.block⟩).mono (by omega));exact⟨(cb8 (kS _ (by omega))).trans h.a0,(cb8 (kS _ (by omega))).trans h.a1,(cb8 (kS _ (by omega))).trans h.r0,(cb8 (kS _ (by omega))).trans h.r1,fun q=>(fb8 (kS _ (by omega))).trans (h.rf q),(cO8 _ _ _ _ (by simp)).trans (cS8 _ _ _ p0),cS8 _ _ _ ((cO8 _ _ _ _ (by simp)).trans p1),fun q=>by have:=(fb8 (kB (w.heap.size+1+1) (by omega)) (o:=q)).trans (h.pf q);simpa using this,hB.keep (by simp) (fun t ht _=>(bS8 _ _ _ _ (by simp;omega)).trans (bS8 _ _ _ _ (by simp;omega))),(belw.setCell (by simp;try omega) _).setCell (by simp;try omega) _,by simp;omega⟩
end
section
open Go.RowKit Go.Deep
attribute [local go_sem↓] Go.wp_at_zero Go.wp_at_succ
attribute [local go_sem] Go.run_makeMap_plain
theorem ownsRow_blk {w w':World}{N e s n:Nat}{v:Value}{xs:List Value}(h:w.ownsRow N e s v n xs)(hb:Below w.heap.size w w'):w'.ownsRow N e s v n xs:=by
 refine⟨h.1,?_⟩;rcases h.2 with h0|⟨g,cap,cur,hv,hg,hc,h3⟩
 ·exact .inl h0
 ·exact .inr ⟨g,cap,cur,hv,hg,(hb.block g (lt_of_blk hc)).trans hc,h3⟩
end
end
end Go.Proofs.YtjhhmnjpojnoiaaGreatDoor
