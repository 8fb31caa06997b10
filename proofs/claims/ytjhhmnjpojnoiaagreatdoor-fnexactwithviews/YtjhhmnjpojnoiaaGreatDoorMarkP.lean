/- Own text. The contracts of markPlanS and markPlan: only the blocks of the plans are written. -/
import Derived.Test.YtjhhmnjpojnoiaaGreatDoorGLWithViews1
import Derived.Test.YtjhhmnjpojnoiaaGreatDoorToP
import Derived.Test.YtjhhmnjpojnoiaaGreatDoorGLWithViews19
import Derived.Test.YtjhhmnjpojnoiaaGreatDoorGLWithViews16
import Derived.Handy
import Derived.Deep.RegionHeld3
set_option maxHeartbeats 16000000
set_option maxRecDepth 100000
set_option linter.unusedVariables false
set_option linter.unusedSimpArgs false
namespace Go.Proofs.YtjhhmnjpojnoiaaGreatDoor
section
section
open Go.RowKit Go.Deep
theorem wtPs_take_le (ps:List P12)(m:Nat):wtPs (ps.take m)≤wtPs ps:=by
 conv=>rhs;rw[←List.take_append_drop m ps]
 rw[wtPs_app];omega
structure Mch (b q:Nat)(g:List Nat)(w w':World):Prop where
 os:w'.os=w.os
 tape:w'.tape=w.tape
 output:w'.output=w.output
 size:w.heap.size≤w'.heap.size
 block:∀y,y<w.heap.size→y≠b→y∉g→w'.heap[y]?=w.heap[y]?
 cell:∀i,(i<q∨q+12≤i)→w'.cell? ⟨b,i,none⟩=w.cell? ⟨b,i,none⟩
 free:∀y,y<w.heap.size→(∀o,w.frozen? ⟨y,o,none⟩=false)→∀o,w'.frozen? ⟨y,o,none⟩=false
theorem Mch.refl (b q:Nat)(g:List Nat)(w:World):Mch b q g w w:=⟨rfl,rfl,rfl,Nat.le_refl _,fun _ _ _ _=>rfl,fun _ _=>rfl,fun _ _ h=>h⟩
theorem Mch.set {b q:Nat}{g:List Nat}{w w':World}(h:Mch b q g w w')(j:Nat)(hj:j<12)(x:Value):Mch b q g w (w'.setCell ⟨b,q+j,none⟩ x):=
 ⟨h.os,h.tape,h.output,by simpa using h.size,fun y hy hb hg=>(bS8 _ _ _ _ (by simpa using hb)).trans (h.block y hy hb hg),fun i hi=>(far_set (by omega)).trans (h.cell i hi),fun y hy f o=>by rw[World.frozen?_setCell];exact h.free y hy f o⟩
theorem Mch.below {b q:Nat}{g:List Nat}{w w' w2:World}(h:Mch b q g w w')(hlt:b<w.heap.size)(hb:Below w'.heap.size w' w2):Mch b q g w w2:=
 ⟨hb.os.trans h.os,hb.tape.trans h.tape,hb.output.trans h.output,Nat.le_trans h.size hb.size,fun y hy hy1 hy2=>(hb.block y (Nat.lt_of_lt_of_le hy h.size)).trans (h.block y hy hy1 hy2),fun i hi=>((bc8 hb).1 b i (Nat.lt_of_lt_of_le hlt h.size)).trans (h.cell i hi),fun y hy f o=>(fb8 (hb.block y (Nat.lt_of_lt_of_le hy h.size))).trans (h.free y hy f o)⟩
theorem Mch.chg {b q:Nat}{g g':List Nat}{w w' w2:World}(h:Mch b q g w w')(hlt:b<w.heap.size)(hbg:b∉g')(hb:ChgE g' w' w2)(hf:FreeE w' g'):Mch b q (g++g') w w2:=by
 refine⟨hb.os.trans h.os,hb.tape.trans h.tape,hb.output.trans h.output,Nat.le_trans h.size hb.size,fun y hy hy1 hy2=>(hb.block y (Nat.lt_of_lt_of_le hy h.size) (fun hx=>hy2 (List.mem_append_right _ hx))).trans (h.block y hy hy1 (fun hx=>hy2 (List.mem_append_left _ hx))),fun i hi=>?_,fun y hy f o=>?_⟩
 ·exact(cb8 (hb.block b (Nat.lt_of_lt_of_le hlt h.size) hbg)).trans (h.cell i hi)
 ·by_cases hx:y∈g'
  ·exact hb.free hf y hx o
  ·exact(fb8 (hb.block y (Nat.lt_of_lt_of_le hy h.size) hx)).trans (h.free y hy f o)
theorem Mch.wide {b q:Nat}{g g':List Nat}{w w':World}(h:Mch b q g w w')(hs:∀y∈g,y∈g'):Mch b q g' w w':=
 ⟨h.os,h.tape,h.output,h.size,fun y hy h1 h2=>h.block y hy h1 (fun hx=>h2 (hs y hx)),h.cell,h.free⟩
theorem ListsP.mch {w w':World}{D d b q:Nat}{g g':List Nat}{p:P12}{ue us u:Value}(h:ListsP w D (PlansIs w D d) p ue us u g')(hm:Mch b q g w w')(hb:b∉g')(hd:∀y∈g',y∉g):ListsP w' D (PlansIs w' D d) p ue us u g':=
 h.keep hm.size fun y hy=>hm.block y (h.lt y hy) (by rintro rfl;exact hb hy) (hd y hy)
def RestP (w:World)(D d b o n:Nat)(ps:List P12)(G:List (List Nat)):Prop:=
 ∀i p g,n≤i→ps[i]?=some p→G[i]?=some g→∃ue us u,cellsP w b (o+i*12) p ue us u∧ListsP w D (PlansIs w D d) p ue us u g
theorem RestP.next {w w':World}{D d b o n:Nat}{ps:List P12}{G:List (List Nat)}{g:List Nat}(h:RestP w D d b o n ps G)(hnd:(b::G.flatten).Nodup)(hg:G[n]?=some g)(hm:Mch b (o+n*12) g w w'):RestP w' D d b o (n+1) ps G:=by
 intro i p g' hi hp hg';obtain⟨ue,us,u,⟨c0,c1,c2,c3,c4,c5,c6,c7,c8,c9,c10,c11⟩,hL⟩:=h i p g' (by omega) hp hg';have hc:=fun j (hj:j<12)=>hm.cell (o+i*12+j) (by omega);refine⟨ue,us,u,⟨(hc 0 (by omega)).trans c0,(hc 1 (by omega)).trans c1,(hc 2 (by omega)).trans c2,(hc 3 (by omega)).trans c3,(hc 4 (by omega)).trans c4,(hc 5 (by omega)).trans c5,(hc 6 (by omega)).trans c6,(hc 7 (by omega)).trans c7,(hc 8 (by omega)).trans c8,(hc 9 (by omega)).trans c9,(hc 10 (by omega)).trans c10,(hc 11 (by omega)).trans c11⟩,?_⟩;exact hL.mch hm (headE hnd hg') (disjE hnd hg' hg (by omega))
def MkP (D d:Nat):Prop:=∀ (k:Nat) (v:Value) (ps:List P12) (F:List Nat) (w:World),PlansIs w D d v ps F→F.Nodup→FreeE w F→0<k→k+9* (ps.length+wtPs ps)≤999999900→
  Calls Tryz.prog 33 #[v,.int .i64 k] w fun e w'=>(∃z:Nat,e=.returned (.int .i64 (z:Int))∧k≤z∧z≤k+9* (ps.length+wtPs ps))∧ChgE F w w'
theorem markPlanS_any (D:Nat):∀d,MkP D d
 |0=>fun k v ps F w hr=>hr.elim
 |d+1=>by
  have ih:=markPlanS_any D d;intro k v ps F w hr hnd hf h0 h1;have hlt0:=hr.lt;obtain⟨a,c,b,o,G,rfl,hl,hc,hG,hF0,ha⟩:=hr.pick;have hcm:=hc;unfold maxLen at hc;clear hr;go_enter Tryz.func33,Tryz.ntmps33;go_wp2;go_loopw [1,5] (fun kk i wr=> ∃n z:Nat,n≤ps.length∧i=.int .i64 n∧kk=.int .i64 (z:Int)∧k≤z∧z≤k+9* (n+wtPs (ps.take n))∧(∀j,j<ps.length→RestP wr D d b o n ps G)∧ChgE F w wr) (fun _ i _=>ps.length - (intOf i).toNat)
  case atStart=>exact⟨0,k,Nat.zero_le _,rfl,rfl,Nat.le_refl _,by omega,fun j hj i p g _ hp hg=>((ha j hj).2.2.2 i p g hp hg).2,ChgE.refl _ _⟩
  case round=>
   obtain⟨n,z,hn,rfl,rfl,hkz,hz,hH0,hch⟩:=hrel;by_cases hlt:n<ps.length
   ·have hH:=hH0 n hlt;obtain⟨rfl,hblt,rfl,_⟩:=ha n hlt;have hzb:=hch.size;have hbr:b<wr.heap.size:=by omega
    have hlt':n<G.length:=by omega
    obtain⟨x,hx⟩:∃x,ps[n]?=some x:=⟨ps[n],by simp[hlt]⟩;obtain⟨g,hg⟩:∃g,G[n]?=some g:=⟨G[n],by simp[hlt']⟩;obtain⟨ue,us,u,⟨c0,c1,c2,c3,c4,c5,c6,c7,c8,c9,c10,c11⟩,hL⟩:=hH n x g (Nat.le_refl _) hx hg;have hgF:∀y∈g,y∈G.flatten:=fun y hy=>List.mem_flatten.2 ⟨g,mg8 hg,hy⟩;have hfr:=hch.free hf;have hgb:b∉g:=headE hnd hg;have hgn:g.Nodup:=by
     have h2:=(List.nodup_cons.1 hnd).2;rw[List.Nodup,List.pairwise_flatten]at h2;exact h2.1 g (mg8 hg)
    have hfg:FreeE wr (b::g):=fun y hy=>hfr y (by rcases List.mem_cons.1 hy with rfl|hy;exact List.mem_cons_self;exact List.mem_cons_of_mem _ (hgF y hy));have hfin:∀w3,Mch b (o+n*12) g wr w3→RestP w3 D d b o (n+1) ps G∧ChgE (b::G.flatten) w w3:=fun w3 hm=>⟨hH.next hnd hg hm,hch.trans ⟨hm.os,hm.tape,hm.output,hm.size,fun y hy hyF=>hm.block y hy (fun e=>hyF (by rw[e];exact List.mem_cons_self)) (fun hx=>hyF (List.mem_cons_of_mem _ (hgF y hx))),fun f y hy o'=>hm.free y (by have:=hlt0 y hy;omega) (f y hy) o'⟩⟩;have hw1:=wtPs_take hx;have hw2:=wtPs_take_le ps (n+1);have hw3:=wtP_eq x;have hw4:=wtE_eq x.e;have hk1:=nK_le D x.e.ks;have hk2:=nK_le D x.es;have HB:Hid (9+6*nK D x.e.ks+6*nK D x.es+9* (x.ks.length+wtPs x.ks)+z≤k+9* (n+1+wtPs (ps.take (n+1)))):=by show _≤_;omega
    have HC:Hid (k+9* (n+1+wtPs (ps.take (n+1)))≤999999900):=by show _≤_;omega
    obtain⟨Fe,Fs,h,rfl,ke,kes,kp⟩:=hL;obtain⟨ae,ce,rfl,_,_⟩:=ke.shape;obtain⟨az,cs,rfl,_,_⟩:=kes.shape;obtain⟨ak,ck,rfl,_,_⟩:=kp.shape;have nde:Fe.Nodup:=(List.sublist_append_left Fe _).nodup hgn;have nds:Fs.Nodup:=((List.sublist_append_left Fs h).trans (List.sublist_append_right Fe _)).nodup hgn;have ndh:h.Nodup:=((List.sublist_append_right Fs h).trans (List.sublist_append_right Fe _)).nodup hgn;have dsj:=List.nodup_append.1 hgn;have ds1:∀y∈Fs,y∉Fe:=fun y hy hy'=>(dsj.2.2 y hy' y (List.mem_append_left _ hy)) rfl;have ds2:∀y∈h,y∉Fe:=fun y hy hy'=>(dsj.2.2 y hy' y (List.mem_append_right _ hy)) rfl;have ds3:∀y∈h,y∉Fs:=fun y hy hy'=>((List.nodup_append.1 dsj.2.1).2.2 y hy' y hy) rfl;have ine:∀y∈Fe,y∈Fe++(Fs++h):=fun y hy=>List.mem_append_left _ hy;have ins:∀y∈Fs,y∈Fe++(Fs++h):=fun y hy=>List.mem_append_right _ (List.mem_append_left _ hy);have inh:∀y∈h,y∈Fe++(Fs++h):=fun y hy=>List.mem_append_right _ (List.mem_append_right _ hy);have be:b∉Fe:=fun hb=>hgb (ine b hb);have bs:b∉Fs:=fun hb=>hgb (ins b hb);have bh:b∉h:=fun hb=>hgb (inh b hb);have hfr0:∀i,wr.frozen? ⟨b,i,none⟩=false:=hfg b List.mem_cons_self;have hzz:z+9+6*nK D x.e.ks+6*nK D x.es+9* (x.ks.length+wtPs x.ks)≤999999900:=by have:=HB.out;have:=HC.out;omega
    have hzp:0<z:=by omega
    have m0:=Mch.refl b (o+n*12) [] wr;have e1:((z+1:Nat):Int)=(z:Int)+1:=by omega
    have e6:((z+6:Nat):Int)=(z:Int)+1+1+1+1+1+1:=by omega
    have e7:((z+7:Nat):Int)=(z:Int)+1+1+1+1+1+1+1:=by omega
    have e8:((z+8:Nat):Int)=(z:Int)+1+1+1+1+1+1+1+1:=by omega
    have hM1:=fun w=>markText_any (z+1) w (by omega) (by omega);have hM6:=fun w=>markText_any (z+6) w (by omega) (by omega);have hM7:=fun w=>markText_any (z+7) w (by omega) (by omega);have hI8:=fun w hk hf=>markExpS_any D (z+8) (.slice ae x.e.ks.length ce) x.e.ks Fe w hk nde hf (by omega) (by omega);rw[e1]at hM1;rw[e6]at hM6;rw[e7]at hM7;rw[e8]at hI8;have htI:(z:Int)≤999999891:=by omega
    have htP:(0:Int)<(z:Int):=by omega
    have HK:Hid (k≤z):=hkz;clear e1 e6 e7 e8 hH hH0 ha hf hfr hw1 hw2 hw3 hw4 hk1 hk2 hch hgF hgn dsj hkz hz h1 h0;go_wp2_with fail;refine cM8 (hM1 _) ?_;rintro e wA ⟨rfl,hbA⟩;have mA:Mch b (o+n*12) [] wr wA:=Mch.below (m0.set 0 (by decide) (.int .i64 ((z:Int)))) hbr hbA;have A1:wA.cell? ⟨b,o+n*12+1,none⟩=some (.string x.s):=cL8 hbA (by go_simp);have A2:wA.cell? ⟨b,o+n*12+2,none⟩=some (.int .i64 x.e.k):=cL8 hbA (by go_simp);have A3:wA.cell? ⟨b,o+n*12+3,none⟩=some (.int .i64 x.e.n):=cL8 hbA (by go_simp);have A4:wA.cell? ⟨b,o+n*12+4,none⟩=some (.int .i64 x.e.v.k):=cL8 hbA (by go_simp);have A5:wA.cell? ⟨b,o+n*12+5,none⟩=some (.int .i64 x.e.v.n):=cL8 hbA (by go_simp);have A6:wA.cell? ⟨b,o+n*12+6,none⟩=some (.string x.e.v.s):=cL8 hbA (by go_simp);have A7:wA.cell? ⟨b,o+n*12+7,none⟩=some (.string x.e.p):=cL8 hbA (by go_simp);have A8:wA.cell? ⟨b,o+n*12+8,none⟩=some (.slice ae x.e.ks.length ce):=cL8 hbA (by go_simp);have A9:wA.cell? ⟨b,o+n*12+9,none⟩=some (.slice az x.es.length cs):=cL8 hbA (by go_simp);have A10:wA.cell? ⟨b,o+n*12+10,none⟩=some (.int .i64 x.n):=cL8 hbA (by go_simp);have A11:wA.cell? ⟨b,o+n*12+11,none⟩=some (.slice ak x.ks.length ck):=cL8 hbA (by go_simp);have Af:∀i,wA.frozen? ⟨b,i,none⟩=false:=fun i=>mA.free b hbr hfr0 i;have Al:b<wA.heap.size:=Nat.lt_of_lt_of_le hbr mA.size;clear hbA hM1;clear m0 c0 c1 c2 c3 c4 c5 c6 c7 c8 c9 c10 c11;go_wp2_with fail;refine cM8 (hM6 _) ?_;rintro e wB ⟨rfl,hbB⟩;have mB:Mch b (o+n*12) [] wr wB:=Mch.below (((((mA.set 1 (by decide) (.string (mt ((z:Int)+1)))).set 2 (by decide) (.int .i64 ((z:Int)+1+1))).set 3 (by decide) (.int .i64 ((z:Int)+1+1+1))).set 4 (by decide) (.int .i64 ((z:Int)+1+1+1+1))).set 5 (by decide) (.int .i64 ((z:Int)+1+1+1+1+1))) hbr hbB
    have B6:wB.cell? ⟨b,o+n*12+6,none⟩=some (.string x.e.v.s):=cL8 hbB (by go_simp);have B7:wB.cell? ⟨b,o+n*12+7,none⟩=some (.string x.e.p):=cL8 hbB (by go_simp);have B8:wB.cell? ⟨b,o+n*12+8,none⟩=some (.slice ae x.e.ks.length ce):=cL8 hbB (by go_simp);have B9:wB.cell? ⟨b,o+n*12+9,none⟩=some (.slice az x.es.length cs):=cL8 hbB (by go_simp);have B10:wB.cell? ⟨b,o+n*12+10,none⟩=some (.int .i64 x.n):=cL8 hbB (by go_simp);have B11:wB.cell? ⟨b,o+n*12+11,none⟩=some (.slice ak x.ks.length ck):=cL8 hbB (by go_simp);have Bf:∀i,wB.frozen? ⟨b,i,none⟩=false:=fun i=>mB.free b hbr hfr0 i;have Bl:b<wB.heap.size:=Nat.lt_of_lt_of_le hbr mB.size;clear hbB hM6;clear mA A1 A2 A3 A4 A5 A6 A7 A8 A9 A10 A11 Af Al;go_wp2_with fail;refine cM8 (hM7 _) ?_;rintro e wC ⟨rfl,hbC⟩;have mC:Mch b (o+n*12) [] wr wC:=Mch.below (mB.set 6 (by decide) (.string (mt ((z:Int)+1+1+1+1+1+1)))) hbr hbC;have C7:wC.cell? ⟨b,o+n*12+7,none⟩=some (.string x.e.p):=cL8 hbC (by go_simp);have C8:wC.cell? ⟨b,o+n*12+8,none⟩=some (.slice ae x.e.ks.length ce):=cL8 hbC (by go_simp);have C9:wC.cell? ⟨b,o+n*12+9,none⟩=some (.slice az x.es.length cs):=cL8 hbC (by go_simp);have C10:wC.cell? ⟨b,o+n*12+10,none⟩=some (.int .i64 x.n):=cL8 hbC (by go_simp);have C11:wC.cell? ⟨b,o+n*12+11,none⟩=some (.slice ak x.ks.length ck):=cL8 hbC (by go_simp);have Cf:∀i,wC.frozen? ⟨b,i,none⟩=false:=fun i=>mC.free b hbr hfr0 i;have Cl:b<wC.heap.size:=Nat.lt_of_lt_of_le hbr mC.size;clear hbC hM7;clear mB B6 B7 B8 B9 B10 B11 Bf Bl;have mD:Mch b (o+n*12) [] wr (wC.setCell ⟨b,o+n*12+7,none⟩ (.string (mt ((z:Int)+1+1+1+1+1+1+1)))):=mC.set 7 (by decide) _
    have keD:KidsIs (wC.setCell ⟨b,o+n*12+7,none⟩ (.string (mt ((z:Int)+1+1+1+1+1+1+1)))) D (.slice ae x.e.ks.length ce) x.e.ks Fe:=ke.keep mD.size fun y hy=>mD.block y (ke.lt y hy) (by rintro rfl;exact be hy) (by simp);have feD:FreeE (wC.setCell ⟨b,o+n*12+7,none⟩ (.string (mt ((z:Int)+1+1+1+1+1+1+1)))) Fe:=fun y hy=>mD.free y (ke.lt y hy) (hfg y (List.mem_cons_of_mem _ (ine y hy)));go_wp2_with fail;refine cM8 (hI8 _ keD feD) ?_;rintro e wE ⟨rfl,_,hcE⟩;have mE:Mch b (o+n*12) ([]++Fe) wr wE:=mD.chg hbr be hcE feD;have blkE:wE.heap[b]?=(wC.setCell ⟨b,o+n*12+7,none⟩ (.string (mt ((z:Int)+1+1+1+1+1+1+1)))).heap[b]?:=hcE.block b (by simpa using Cl) be;have E9:wE.cell? ⟨b,o+n*12+9,none⟩=some (.slice az x.es.length cs):=(cb8 blkE).trans (by go_simp);have E10:wE.cell? ⟨b,o+n*12+10,none⟩=some (.int .i64 x.n):=(cb8 blkE).trans (by go_simp);have E11:wE.cell? ⟨b,o+n*12+11,none⟩=some (.slice ak x.ks.length ck):=(cb8 blkE).trans (by go_simp);have El:b<wE.heap.size:=Nat.lt_of_lt_of_le hbr mE.size;have Ef:∀i,wE.frozen? ⟨b,i,none⟩=false:=fun i=>mE.free b hbr hfr0 i;have ksE:KidsIs wE D (.slice az x.es.length cs) x.es Fs:=kes.keep mE.size fun y hy=>mE.block y (kes.lt y hy) (by rintro rfl;exact bs hy) (by simpa using ds1 y hy);have fsE:FreeE wE Fs:=fun y hy=>mE.free y (kes.lt y hy) (hfg y (List.mem_cons_of_mem _ (ins y hy)));clear blkE hcE keD feD mD mC C7 C8 C9 C10 C11 Cf Cl hI8;obtain⟨zE,hzE⟩:∃q,q=z+8+6*nK D x.e.ks:=⟨_,rfl⟩;rw[←hzE];have hI9:=fun w hk hf=>markExpS_any D zE (.slice az x.es.length cs) x.es Fs w hk nds hf (by omega) (by omega)
    have hzEI:(zE:Int)≤999999899:=by omega
    have HE:Hid (zE=z+8+6*nK D x.e.ks):=hzE;clear hzE;go_wp2_with fail;refine cM8 (hI9 _ ksE fsE) ?_;rintro e wG ⟨rfl,_,hcG⟩;have mG:Mch b (o+n*12) (([]++Fe)++Fs) wr wG:=mE.chg hbr bs hcG fsE;have blkG:wG.heap[b]?=wE.heap[b]?:=hcG.block b El bs;have G10:wG.cell? ⟨b,o+n*12+10,none⟩=some (.int .i64 x.n):=(cb8 blkG).trans E10;have G11:wG.cell? ⟨b,o+n*12+11,none⟩=some (.slice ak x.ks.length ck):=(cb8 blkG).trans E11;have Gl:b<wG.heap.size:=Nat.lt_of_lt_of_le hbr mG.size;have Gf:∀i,wG.frozen? ⟨b,i,none⟩=false:=fun i=>mG.free b hbr hfr0 i;clear blkG hcG ksE fsE mE E9 E10 E11 Ef El hI9;obtain⟨zG,hzG⟩:∃q,q=zE+6*nK D x.es:=⟨_,rfl⟩;rw[←hzG];have hzGI:(zG:Int)≤999999899:=by have:=HE.out;omega
    have eG:((zG+1:Nat):Int)=(zG:Int)+1:=by omega
    have hI10:=fun w hk hf=>ih (zG+1) (.slice ak x.ks.length ck) x.ks h w hk ndh hf (by omega) (by have:=HE.out;omega);rw[eG]at hI10;have HG:Hid (zG=zE+6*nK D x.es):=hzG;clear hzG eG;have mK:Mch b (o+n*12) (([]++Fe)++Fs) wr (wG.setCell ⟨b,o+n*12+10,none⟩ (.int .i64 (zG:Int))):=mG.set 10 (by decide) _;have kpK:PlansIs (wG.setCell ⟨b,o+n*12+10,none⟩ (.int .i64 (zG:Int))) D d (.slice ak x.ks.length ck) x.ks h:=kp.keep mK.size fun y hy=>mK.block y (kp.lt y hy) (by rintro rfl;exact bh hy) (by
     intro hm;rcases List.mem_append.1 hm with hm|hm
     ·exact ds2 y hy (by simpa using hm)
     ·exact ds3 y hy hm)
    have fhK:FreeE (wG.setCell ⟨b,o+n*12+10,none⟩ (.int .i64 (zG:Int))) h:=fun y hy=>mK.free y (kp.lt y hy) (hfg y (List.mem_cons_of_mem _ (inh y hy)));go_wp2_with fail;refine cM8 (hI10 _ kpK fhK) ?_;rintro e wL ⟨⟨zL,rfl,hz1,hz2⟩,hcL⟩;have mL:=(mK.chg hbr bh hcL fhK).wide (g':=Fe++(Fs++h)) (by
     intro y hm;rcases List.mem_append.1 hm with hm|hm
     ·rcases List.mem_append.1 hm with hm|hm
      ·exact ine y (by simpa using hm)
      ·exact ins y hm
     ·exact inh y hm)
    obtain⟨hR,hC⟩:=hfin wL mL;clear hfin mL mK mG kpK fhK hcL hI10 G10 G11 Gf Gl;go_wp2_with fail;exact⟨⟨n+1,zL,hlt,by simp,rfl,by have:=HE.out;have:=HG.out;have:=HK.out;omega,by have:=HE.out;have:=HG.out;have:=HB.out;omega,fun _ _=>hR,hC⟩,by simp[intOf];omega⟩
   ·go_wp2;go_returns;obtain rfl:n=ps.length:=by omega
    rw[List.take_length]at hz;exact⟨⟨z,rfl,hkz,hz⟩,hch⟩
end
end
end Go.Proofs.YtjhhmnjpojnoiaaGreatDoor
