/- Own texts, joined: contracts that the law's proof goes by. -/
import Derived.Test.YtflokiejcjjbiaaGreatGLFits18
import Derived.Test.YtflokiejcjjbiaaGreatGLFits2
import Derived.Test.YtflokiejcjjbiaaGreatGLFits3
import Derived.Handy
import Derived.Laws.AppendOwnNone
import Derived.Deep.AppendLies
import Derived.Deep.RegionHeld3
import Derived.Deep.DrawnRows
set_option maxHeartbeats 16000000
set_option maxRecDepth 100000
set_option linter.unusedVariables false
set_option linter.unusedSimpArgs false
namespace Go.Proofs.YtflokiejcjjbiaaGreat
section
open Go.RowKit Go.Deep Go.ChangeShapes Go.WideShapes
def rc (vs:List V3):List Value:=(List.range (vs.length*3)).map (cf vs)
theorem rc_len (vs:List V3):(rc vs).length=vs.length*3:=by simp[rc]
theorem rc_one (vs:List V3):∀u∈rc vs,u.oneCell'=true:=by
 intro u hu;obtain⟨j,_,rfl⟩:=List.mem_map.1 hu;unfold cf;split
 ·rfl
 ·split<;>rfl
theorem rc_cells {w:World}{b o:Nat}{vs:List V3}(h:Lies w b o vs):∀j u,(rc vs)[j]?=some u→w.cell? ((⟨b,o,none⟩:Addr).add j)=some u:=by
 intro j u hu;have hj:j<vs.length*3:=by have:=(gE1 hu).1;rwa [rc_len]at this
 have e:u=cf vs j:=by simp[rc,hj]at hu;exact hu.symm
 rw[add_plain,e];exact lies_cells.1 h j hj
theorem own_rowF {w:World}{N n:Nat}{v:Value}{vs:List V3}{t:TypeId}(h:w.ownsRow N t 3 v n (rc vs)):∃g,RowF w v vs g∧OwnB w N g:=by
 obtain⟨hl,h⟩:=h;rw[rc_len]at hl;obtain rfl:n=vs.length:=by omega
 by_cases hne:vs=[]
 ·refine⟨[],?_,by simp[OwnB,Free]⟩;subst hne;rcases h with⟨rfl,_⟩|⟨g,cap,cur,rfl,_,_,hn,hm,_⟩
  ·exact⟨none,0,rfl,Nat.le_refl _,by simp,fun _=>rfl,fun _=>rfl,fun x=>absurd rfl x⟩
  ·exact⟨_,cap,rfl,hn,hm,(fun x=>by cases x),fun _=>rfl,fun x=>absurd rfl x⟩
 have hp:0<vs.length:=List.length_pos_iff.2 hne;rcases h with⟨_,h0⟩|⟨g,cap,cur,rfl,hg,hc,hn,hm,hs,ht⟩
 ·omega
 have hlt:g<w.heap.size:=by
  rcases Nat.lt_or_ge g w.heap.size with h'|h'
  ·exact h'
  ·simp[Array.getElem?_eq_none h']at hc
 refine⟨[g],⟨_,cap,rfl,hn,hm,(fun x=>by cases x),fun x=>absurd x hne,fun _=>⟨g,0,rfl,hlt,rfl,lies_cells.2 fun j hj=>?_⟩⟩,by simp,by simpa using hg,fun b hb o=>?_⟩
 ·rw[Nat.zero_add];simp only[World.cell?,hc];have h1:(cur.toList.take (vs.length*3))[j]?=some (cf vs j):=by rw[ht];simp[rc,hj]
  rw[List.getElem?_take,if_pos hj,Array.getElem?_toList]at h1
  simpa using h1
 ·rcases List.mem_singleton.1 hb with rfl;simp[World.frozen?,hc]
theorem own_empty (w:World)(t:TypeId)(n:Nat):(w.alloc (.cells #[] t)).ownsRow w.heap.size t n (.slice (some ⟨w.heap.size,0,none⟩) 0 0) 0 []:=
 ⟨by simp,.inr ⟨w.heap.size,0,#[],rfl,Nat.le_refl _,heap_alloc_new w _,Nat.le_refl _,by simp,by simp,by simp⟩⟩
theorem own_none {w:World}{N H:Nat}(hH:w.heap.size=H)(hN:N≤H)(t:TypeId)(n:Nat):(w.alloc (.cells #[] t)).ownsRow N t n (.slice (some ⟨H,0,none⟩) 0 0) 0 []:=by
 subst hH;exact⟨by simp,.inr ⟨w.heap.size,0,#[],rfl,hN,heap_alloc_new w _,Nat.le_refl _,by simp,by simp,by simp⟩⟩
theorem l02CopyRow_any (v:Value)(vs:List V3)(g0:List Nat)(w:World)(hr:RowF w v vs g0)(hn:vs.length≤1048576):Calls Tryz.prog 72 #[v] w fun e w'=>(∃u g,e=.returned u∧RowF w' u vs g∧OwnB w' w.heap.size g)∧Below w.heap.size w w':=by
 obtain⟨i0,hi,hz0,hz1,hz2⟩:=info_parts Tryz.infoVal;obtain⟨a,c,rfl,hl,hc,hz,_,h⟩:=hr;have he:=own_empty w 36 3;have hb0:Below w.heap.size w (w.alloc (.cells #[] 36)):=(Below.refl _ _).alloc (Nat.le_refl _) _;cases a with
 |none=>
  obtain rfl:=hz rfl;obtain rfl:vs=[]:=List.length_eq_zero_iff.1 (by omega);go_enter Tryz.func72,Tryz.ntmps72;go_wp2;go_returns;obtain⟨g,hg⟩:=own_rowF (vs:=[]) he
  first|exact⟨⟨_,g,rfl,hg⟩,bex⟩|exact⟨⟨_,rfl,g,hg⟩,bex⟩
 |some ad=>
  have hcl:∀j u,(rc vs)[j]?=some u→(w.alloc (.cells #[] 36)).cell? (ad.add j)=some u:=by
   by_cases hne:vs=[]
   ·subst hne;intro j u hu;simp[rc]at hu
   ·obtain⟨b,o,hb,hlt,_,hL⟩:=h hne;cases hb;exact rc_cells (hL.below hb0 hlt)
  go_enter Tryz.func72,Tryz.ntmps72;go_wp2_with(at_builtin;refine wpList_append_own _ rfl _ _ 94 rfl w.heap.size 36 i0 _ 3 32 Tryz.underlying94 hi hz0 hz1 hz2 rfl (by decide) _ _ _ rfl he ad vs.length c (rc vs) rfl (rc_len vs) hcl (rc_one vs) ?c3 ?c4 ?c5 ?_)
  case c3=>unfold maxLen;omega
  case c4=>omega
  case c5=>simp
  intro v5 w5 hown5 hgr5 _;obtain⟨g,hg⟩:=own_rowF (vs:=vs) (by simpa using hown5);have bel:Below w.heap.size w w5:=hb0.grown hgr5 (by simp) (fun k hk=>by simp[Value.ownBlock]at hk;omega);clear hown5 hgr5 hcl he;go_wp2;go_returns;exact⟨⟨_,g,rfl,hg⟩,bel⟩
end
section
open Go.RowKit Go.Deep
attribute [local go_sem↓] Go.wp_at_zero Go.wp_at_succ
theorem copyCounted_some (ad:Addr)(c:Nat)(vs:List V3)(n:Int)(w:World)(hl:vs.length≤c)(hc:c≤maxLen)(hn:vs.length≤1048576)(hne:vs≠ [])(hcl:∀j u,(rc vs)[j]?=some u→∀w',Below w.heap.size w w'→w'.cell? (ad.add j)=some u):Calls Tryz.prog 107 #[.agg #[.slice (some ad) vs.length c,.int .i64 n]] w fun e w'=>(∃u g,e=.returned (.agg #[u,.int .i64 n])∧RowF w' u vs g∧OwnB w' w.heap.size g)∧Below w.heap.size w w':=by
 obtain⟨i0,hi,hz0,hz1,hz2⟩:=info_parts Tryz.infoVal;have hp:0<vs.length:=List.length_pos_iff.2 hne;have hml:0+vs.length≤maxLen:=by omega
 have hby:(0+vs.length)*32≤140737488355328:=by omega
 go_enter Tryz.func107,Tryz.ntmps107;go_wp2_with fail;go_region_held3 (fun w'=>w'.cell? ⟨w.heap.size,0,none⟩=some (.slice (some ad) vs.length c)∧w'.cell? ⟨w.heap.size,1,none⟩=some (.int .i64 n)) (first
   |go_keep
   |(go_split_ands
     refine⟨?_,?_⟩
     ·(rw[hgrow.cell_far _ (by simp;omega) (by simp[Value.ownBlock];try omega)];assumption)
     ·(rw[hgrow.cell_far _ (by simp;omega) (by simp[Value.ownBlock];try omega)];assumption)))
  ((refine step_append_lies _ (by rfl) _ _ _ (by rfl) (w.heap.size+1+1) 36 i0 _ 3 32 Tryz.underlying94 hi hz0 hz1 hz2 rfl (by omega) (.slice (some ⟨w.heap.size+1+1,0,none⟩) 0 0) 0 [] (by rfl) (own_none (by simp) (Nat.le_refl _) 36 3) ad vs.length c (rc vs) (by rfl) (rc_len vs) (fun j u h=>hcl j u h _ bex) (rc_one vs) hp hml hby (by simp) (w.heap.size+1+1+1) (by simp) ?_;intro g cap w1 hown1 hgrow hat hlt;have hsg:=hgrow.size;simp at hsg;have r0:w1.cell? ⟨w.heap.size+1,0,none⟩=some (.slice none 0 0):=(hgrow.cell_far _ (by simp;try omega) (by simp[Value.ownBlock];try omega)).trans (by go_simp);have r1:w1.cell? ⟨w.heap.size+1,1,none⟩=some (.int .i64 0):=(hgrow.cell_far _ (by simp;try omega) (by simp[Value.ownBlock];try omega)).trans (by go_simp);have rf:∀o,w1.frozen? ⟨w.heap.size+1,o,none⟩=false:=fun o=>(hgrow.frozen_far _ (by simp;try omega) (by simp[Value.ownBlock];try omega)).trans (by go_simp)))
 obtain⟨g',hR,hO⟩:=own_rowF (vs:=vs) (show w1.ownsRow (w.heap.size+1+1) 36 3 (.slice (some ⟨g,0,none⟩) (0+vs.length) cap) (0+vs.length) (rc vs)from hown1);have bel1:Below w.heap.size w w1:=Below.grown bex hgrow (by simp;omega) (fun k hk=>by simp[Value.ownBlock]at hk;omega);have hb':∀b∈g',b≠w.heap.size+1:=fun b hb=>by have:=hO.2.1 b hb;omega
 clear hown1 hgrow hat hcl;go_wp2;refine bodyPost_ret (v:=.agg #[.slice (some ⟨g,0,none⟩) (0+vs.length) cap,.int .i64 n]) (by simp[results,Tryz.results107,go_sem, *]) rfl ⟨⟨_,g',rfl,hR.keep (by simp) fun b hb=>?_,⟨hO.1,fun b hb=>by have:=hO.2.1 b hb;omega,fun b hb o=>by simpa using hO.2.2 b hb o⟩⟩,?_⟩
 ·repeat rw[bS8 _ _ _ _ (hb' b hb)]
 ·repeat (first|(with_reducible exact bel1)|(with_reducible refine Below.setCell ?_ ?hh _;case hh=>(simp;try omega)))
theorem copyCounted_none (n:Int)(w:World):Calls Tryz.prog 107 #[.agg #[.slice none 0 0,.int .i64 n]] w fun e w'=>(∃u g,e=.returned (.agg #[u,.int .i64 n])∧RowF w' u [] g∧OwnB w' w.heap.size g)∧Below w.heap.size w w':=by
 go_enter Tryz.func107,Tryz.ntmps107;go_wp2_with fail;go_region_held3 (fun w'=>w'.cell? ⟨w.heap.size,0,none⟩=some (.slice none 0 0)∧w'.cell? ⟨w.heap.size,1,none⟩=some (.int .i64 n)) (go_keep) (fail);go_wp2;refine bodyPost_ret (v:=.agg #[.slice (some ⟨w.heap.size+1+1,0,none⟩) 0 0,.int .i64 n]) (by simp[results,Tryz.results107,go_sem, *]) rfl ⟨⟨_,[],rfl,⟨_,0,rfl,Nat.le_refl _,by simp,fun _=>rfl,fun _=>rfl,fun x=>absurd rfl x⟩,by simp[OwnB,Free]⟩,?_⟩;exact bex
theorem copyCounted_zero (ad:Addr)(c:Nat)(n:Int)(w:World)(hc:c≤maxLen):Calls Tryz.prog 107 #[.agg #[.slice (some ad) 0 c,.int .i64 n]] w fun e w'=>(∃u g,e=.returned (.agg #[u,.int .i64 n])∧RowF w' u [] g∧OwnB w' w.heap.size g)∧Below w.heap.size w w':=by
 go_enter Tryz.func107,Tryz.ntmps107;go_wp2_with fail;go_region_held3 (fun w'=>w'.cell? ⟨w.heap.size,0,none⟩=some (.slice (some ad) 0 c)∧w'.cell? ⟨w.heap.size,1,none⟩=some (.int .i64 n)) (go_keep) (fail);go_wp2;refine bodyPost_ret (v:=.agg #[.slice (some ⟨w.heap.size+1+1,0,none⟩) 0 0,.int .i64 n]) (by simp[results,Tryz.results107,go_sem, *]) rfl ⟨⟨_,[],rfl,⟨_,0,rfl,Nat.le_refl _,by simp,fun _=>rfl,fun _=>rfl,fun x=>absurd rfl x⟩,by simp[OwnB,Free]⟩,?_⟩;exact bex
theorem copyCounted_any (v:Value)(vs:List V3)(g0:List Nat)(n:Int)(w:World)(hr:RowF w v vs g0)(hn:vs.length≤1048576):Calls Tryz.prog 107 #[.agg #[v,.int .i64 n]] w fun e w'=>(∃u g,e=.returned (.agg #[u,.int .i64 n])∧RowF w' u vs g∧OwnB w' w.heap.size g)∧Below w.heap.size w w':=by
 obtain⟨a,c,rfl,hl,hc,hz,_,h⟩:=hr;by_cases hne:vs=[]
 ·subst hne;cases a with
  |none=>obtain rfl:=hz rfl;exact copyCounted_none n w
  |some ad=>exact copyCounted_zero ad c n w hc
 ·obtain⟨b,o,rfl,hlt,_,hL⟩:=h hne;exact copyCounted_some ⟨b,o,none⟩ c vs n w hl hc hn hne fun j u hu w' hb=>rc_cells (hL.below hb hlt) j u hu
end
section
open Go.RowKit Go.Deep Go.ChangeShapes Go.WideShapes
def cc (us:List Value)(cs:List C2):List Value:=(us.zip cs).flatMap fun p=>[p.1,.int .i64 p.2.n]
theorem cc_len {us:List Value}{cs:List C2}(h:us.length=cs.length):(cc us cs).length=cs.length*2:=by
 unfold cc;induction us generalizing cs with
 |nil=>cases cs with|nil=>rfl|cons=>simp at h
 |cons u us ih=>
  cases cs with
  |nil=>simp at h
  |cons c cs=>
   have:=ih (cs:=cs) (by simpa using h);rw[List.zip_cons_cons,List.flatMap_cons,List.length_append,this];simp;omega
theorem cc_push {us:List Value}{cs:List C2}(h:us.length=cs.length)(u:Value)(x:C2):cc (us++ [u]) (cs++ [x])=cc us cs++ [u,.int .i64 x.n]:=by
 unfold cc;rw[List.zip_append h,List.flatMap_append];simp
theorem cc_at {us:List Value}{cs:List C2}(h:us.length=cs.length):∀ {i:Nat} {u:Value} {x:C2},us[i]?=some u→cs[i]?=some x→(cc us cs)[i*2]?=some u∧(cc us cs)[i*2+1]?=some (.int .i64 x.n):=by
 induction us generalizing cs with
 |nil=>intro i u x hu;simp at hu
 |cons v us ih=>
  cases cs with
  |nil=>simp at h
  |cons c cs=>
   intro i u x hu hx;have e:cc (v::us) (c::cs)=v:: .int .i64 c.n::cc us cs:=by unfold cc;rw[List.zip_cons_cons,List.flatMap_cons];rfl
   rw[e];cases i with
   |zero=>simp at hu hx;subst hu hx;simp
   |succ i=>
    have:=ih (cs:=cs) (by simpa using h) (i:=i) (u:=u) (x:=x) (by simpa using hu) (by simpa using hx);rw[show(i+1)*2=i*2+1+1 from by omega]
    simpa using this
structure BagOwn (w:World)(N:Nat)(v:Value)(cs:List C2)(us:List Value)(G:List (List Nat)):Prop where
 own:w.ownsRow N 96 2 v cs.length (cc us cs)
 ul:us.length=cs.length
 gl:G.length=cs.length
 row:∀ (i:Nat) (x:C2) (u:Value) (g:List Nat),cs[i]?=some x→us[i]?=some u→G[i]?=some g→RowF w u x.r g
 free:OwnB w N G.flatten
 out:∀b,v.ownBlock=some b→b∉G.flatten
theorem BagOwn.nil (w:World)(N:Nat):BagOwn w N (.slice none 0 0) [] [] []:=
 ⟨⟨rfl,.inl ⟨rfl,rfl⟩⟩,rfl,rfl,fun i x u g hx=>by simp at hx,by simp[OwnB,Free],fun b _=>by simp⟩
theorem oL8 {w:World}{N e n s:Nat}{v:Value}{xs:List Value}(h:w.ownsRow N e s v n xs):∀b,v.ownBlock=some b→N≤b∧b<w.heap.size:=by
 intro b hb;rcases h.2 with⟨rfl,_⟩|⟨g,cap,cur,rfl,hg,hc,_⟩
 ·simp[Value.ownBlock]at hb
 ·simp[Value.ownBlock]at hb;subst hb;refine⟨hg,?_⟩;rcases Nat.lt_or_ge g w.heap.size with h'|h'
  ·exact h'
  ·simp[Array.getElem?_eq_none h']at hc
theorem oK8 {w w':World}{N e n s:Nat}{v:Value}{xs:List Value}(h:w.ownsRow N e s v n xs)(hb:∀b,v.ownBlock=some b→w'.heap[b]?=w.heap[b]?):w'.ownsRow N e s v n xs:=by
 refine⟨h.1,?_⟩;rcases h.2 with hn|⟨g,cap,cur,rfl,hg,hc,rest⟩
 ·exact .inl hn
 ·exact .inr ⟨g,cap,cur,rfl,hg,(hb g rfl).trans hc,rest⟩
theorem BagOwn.lt {w:World}{N:Nat}{v:Value}{cs:List C2}{us:List Value}{G:List (List Nat)}(h:BagOwn w N v cs us G):∀b∈G.flatten,b<w.heap.size:=by
 intro b hb;obtain⟨g,hg,hbg⟩:=List.mem_flatten.1 hb;obtain⟨i,hi,rfl⟩:=List.mem_iff_getElem.1 hg;have h1:=h.gl;have h2:=h.ul;have hi1:i<cs.length:=by omega
 have hi2:i<us.length:=by omega
 exact(h.row i cs[i] us[i] G[i] (by simp) (by simp) (by simp)).lt b hbg
theorem BagOwn.keep {w w':World}{N:Nat}{v:Value}{cs:List C2}{us:List Value}{G:List (List Nat)}(h:BagOwn w N v cs us G)(hs:w.heap.size≤w'.heap.size)(hb:∀b,N≤b→b<w.heap.size→w'.heap[b]?=w.heap[b]?):BagOwn w' N v cs us G:=by
 have hk:∀b∈G.flatten,w'.heap[b]?=w.heap[b]?:=fun b hbG=>hb b (h.free.2.1 b hbG) (h.lt b hbG);refine⟨oK8 h.own fun b hv=>hb b (oL8 h.own b hv).1 (oL8 h.own b hv).2,h.ul,h.gl,fun i x u g hx hu hg=>(h.row i x u g hx hu hg).keep hs fun b hbg=>hk b (List.mem_flatten.2 ⟨g,mg8 hg,hbg⟩),h.free.keep hk,h.out⟩
theorem BagOwn.below {w w':World}{N:Nat}{v:Value}{cs:List C2}{us:List Value}{G:List (List Nat)}(h:BagOwn w N v cs us G)(hb:Below w.heap.size w w'):BagOwn w' N v cs us G:=h.keep hb.size fun b _ hlt=>hb.block b hlt
theorem BagOwn.push {w w':World}{N:Nat}{v v' u:Value}{cs:List C2}{us:List Value}{G:List (List Nat)}{x:C2}{g:List Nat}(h:BagOwn w N v cs us G)(hR:RowF w u x.r g)(hO:OwnB w N g)(hd1:∀b∈G.flatten,b∉g)(hd2:∀b,v.ownBlock=some b→b∉g)(ho:w'.ownsRow N 96 2 v' (cs.length+1) (cc us cs++ [u,.int .i64 x.n])) (hg:w.grownBy w' v.ownBlock) (hat:∀b,v'.ownBlock=some b→v.ownBlock=some b∨w.heap.size≤b):BagOwn w' N v' (cs++ [x]) (us++ [u]) (G++ [g]):=by
 have hG:=h.lt;have hm:∀b∈(G++ [g]).flatten,b∈G.flatten∨b∈g:=by intro b hb;simpa using hb
 have hlt:∀b∈(G++ [g]).flatten,b<w.heap.size:=fun b hb=>(hm b hb).elim (hG b) (hR.lt b);have hne:∀b∈(G++ [g]).flatten,some b≠v.ownBlock:=fun b hb e=>(hm b hb).elim (h.out b e.symm) (hd2 b e.symm);have hk:∀b∈(G++ [g]).flatten,w'.heap[b]?=w.heap[b]?:=fun b hb=>hg.block b (hlt b hb) (hne b hb);refine⟨?_,by simp[h.ul],by simp[h.gl],fun i y z q hy hz hq=>?_,?_,fun b hb=>?_⟩
 ·rw[cc_push h.ul];simpa using ho
 ·by_cases hi:i<cs.length
  ·rw[List.getElem?_append_left hi]at hy;rw[List.getElem?_append_left (by rw[h.ul];exact hi)]at hz;rw[List.getElem?_append_left (by rw[h.gl];exact hi)]at hq;exact(h.row i y z q hy hz hq).keep hg.size fun b hb=>hk b (by simp;exact .inl ⟨q,mg8 hq,hb⟩)
  ·have hl:i<(cs++ [x]).length:=(gE1 hy).1;obtain rfl:i=cs.length:=by simp at hl;omega
   rw[List.getElem?_append_right (Nat.le_refl _)]at hy;rw[List.getElem?_append_right (by rw[h.ul];exact Nat.le_refl _)]at hz;rw[List.getElem?_append_right (by rw[h.gl];exact Nat.le_refl _)]at hq;simp[h.ul,h.gl]at hy hz hq;subst hy hz hq;exact hR.keep hg.size fun b hb=>hk b (by simp;exact .inr hb)
 ·refine OwnB.keep (w:=w) ⟨?_,fun b hb=>(hm b hb).elim (h.free.2.1 b) (hO.2.1 b),fun b hb=>(hm b hb).elim (h.free.2.2 b) (hO.2.2 b)⟩ hk;rw[List.flatten_append,List.nodup_append];refine⟨h.free.1,by simpa using hO.1,fun a ha b hb=>?_⟩;rintro rfl;exact hd1 a ha (by simpa using hb)
 ·intro hx;rcases hat b hb with e|e
  ·exact hne b hx e.symm
  ·have:=hlt b hx;omega
theorem BagOwn.weak {w:World}{N M:Nat}{v:Value}{cs:List C2}{us:List Value}{G:List (List Nat)}(h:BagOwn w N v cs us G)(hM:M≤N):BagOwn w M v cs us G:=by
 refine⟨⟨h.own.1,?_⟩,h.ul,h.gl,h.row,⟨h.free.1,fun b hb=>Nat.le_trans hM (h.free.2.1 b hb),h.free.2.2⟩,h.out⟩;rcases h.own.2 with hn|⟨g,cap,cur,hv,hg,rest⟩
 ·exact .inl hn
 ·exact .inr ⟨g,cap,cur,hv,Nat.le_trans hM hg,rest⟩
theorem BagOwn.shape {w:World}{N:Nat}{v:Value}{cs:List C2}{us:List Value}{G:List (List Nat)}(h:BagOwn w N v cs us G):∃a c,v=.slice a cs.length c:=by
 rcases h.own.2 with⟨rfl,h0⟩|⟨g,cap,cur,hv,_⟩
 ·exact⟨none,0,by rw[h0]⟩
 ·exact⟨_,cap,hv⟩
theorem BagOwn.rowsF {w:World}{N:Nat}{v:Value}{cs:List C2}{us:List Value}{G:List (List Nat)}(h:BagOwn w N v cs us G):∃F,RowsF w v cs F∧OwnB w N F:=by
 have hlt:=oL8 h.own;have hGl:=h.lt;by_cases hne:cs=[]
 ·refine⟨[],?_,by simp[OwnB,Free]⟩;have hG:G=[]:=List.length_eq_zero_iff.1 (by rw[h.gl,hne];rfl);subst hne;rcases h.own.2 with⟨rfl,_⟩|⟨g,cap,cur,rfl,_,_,hn,hm,_⟩
  ·exact⟨none,0,G,rfl,Nat.le_refl _,by simp,fun _=>rfl,h.gl,fun _=>rfl,fun x=>absurd rfl x⟩
  ·exact⟨_,cap,G,rfl,hn,hm,(fun x=>by cases x),h.gl,fun _=>rfl,fun x=>absurd rfl x⟩
 have hp:0<cs.length:=List.length_pos_iff.2 hne;obtain⟨hl,ho⟩:=h.own;rcases ho with⟨_,h0⟩|⟨g,cap,cur,rfl,hg,hc,hn,hm,hs,ht⟩
 ·omega
 have hgo:g∉G.flatten:=h.out g rfl;refine⟨g::G.flatten,⟨_,cap,G,rfl,hn,hm,(fun x=>by cases x),h.gl,fun x=>absurd x hne,fun _=>⟨g,0,rfl,(hlt g rfl).2,rfl,fun i x q hx hq=>?_⟩⟩,List.nodup_cons.2 ⟨hgo,h.free.1⟩,fun b hb=>?_,fun b hb o=>?_⟩
 ·have hi:i<cs.length:=(gE1 hx).1;have hiu:i<us.length:=by rw[h.ul];exact hi
  obtain⟨e0,e1⟩:=cc_at h.ul (i:=i) (u:=us[i]) (x:=x) (by simp) hx;have get:∀j u,j<cs.length*2→(cc us cs)[j]?=some u→w.cell? ⟨g,j,none⟩=some u:=by
   intro j u hj hu;simp only[World.cell?,hc];rw[←ht,List.getElem?_take,if_pos hj,Array.getElem?_toList]at hu
   simpa using hu
  exact⟨us[i],by rw[Nat.zero_add];exact get _ _ (by omega) e0,h.row i x us[i] q hx (by simp) hq,by rw[Nat.zero_add];exact get _ _ (by omega) e1⟩
 ·rcases List.mem_cons.1 hb with rfl|hb
  ·exact hg
  ·exact h.free.2.1 b hb
 ·rcases List.mem_cons.1 hb with rfl|hb
  ·simp[World.frozen?,hc]
  ·exact h.free.2.2 b hb o
end
section
open Go.RowKit Go.Deep Go.ChangeShapes Go.WideShapes
theorem cc_set {us:List Value}{cs:List C2}(h:us.length=cs.length){k:Nat}{x:C2}(hk:cs[k]?=some x)(m:Int):cc us (cs.set k ⟨x.r,m⟩)=(cc us cs).set (k*2+1) (.int .i64 m):=by
 induction us generalizing cs k with
 |nil=>cases cs with|nil=>simp at hk|cons=>simp at h
 |cons v us ih=>
  cases cs with
  |nil=>simp at h
  |cons c cs=>
   have e:∀ (c:C2) (cs:List C2),cc (v::us) (c::cs)=v:: .int .i64 c.n::cc us cs:=by intro c cs;unfold cc;rw[List.zip_cons_cons,List.flatMap_cons];rfl
   cases k with
   |zero=>rw[List.set_cons_zero,e,e];rfl
   |succ k=>
    rw[List.set_cons_succ,e,e,ih (cs:=cs) (by simpa using h) (by simpa using hk)];rw[show(k+1)*2+1=(k*2+1)+1+1 from by omega];rfl
theorem BagOwn.setN {w:World}{N g l cap:Nat}{cs:List C2}{us:List Value}{G:List (List Nat)}(h:BagOwn w N (.slice (some ⟨g,0,none⟩) l cap) cs us G){k:Nat}{x:C2}(hk:cs[k]?=some x)(m:Int):BagOwn (w.setCell ⟨g,k*2+1,none⟩ (.int .i64 m)) N (.slice (some ⟨g,0,none⟩) l cap) (cs.set k ⟨x.r,m⟩) us G:=by
 have hkl:k<cs.length:=(gE1 hk).1;have hout:g∉G.flatten:=h.out g rfl;have hb:∀b∈G.flatten,(w.setCell ⟨g,k*2+1,none⟩ (.int .i64 m)).heap[b]?=w.heap[b]?:=fun b hb=>bS8 _ _ _ _ (by rintro rfl;exact hout hb);refine⟨?_,by rw[List.length_set];exact h.ul,by rw[List.length_set];exact h.gl,fun i y u q hy hu hq=>?_,h.free.keep hb,h.out⟩
 ·obtain⟨hl,ho⟩:=h.own;rw[List.length_set,cc_set h.ul hk];refine⟨by rw[List.length_set];exact hl,.inr ?_⟩;rcases ho with⟨h0,_⟩|⟨g',cap',cur,hv,hg,hc,hn,hm,hs,ht⟩
  ·cases h0
  cases hv;refine⟨g,cap,cur.setIfInBounds (k*2+1) (.int .i64 m),rfl,hg,?_,hn,hm,by simpa using hs,?_⟩
  ·simp[World.setCell,Array.getElem?_modify,hc]
  ·rw[←ht,Array.toList_setIfInBounds,List.take_set]
 ·by_cases e:i=k
  ·subst e;rw[List.getElem?_set_self (by omega)]at hy;have hy:=Option.some.inj hy;subst hy;exact(h.row i x u q hk hu hq).keep (by simp) fun b hbq=>hb b (List.mem_flatten.2 ⟨q,mg8 hq,hbq⟩)
  ·rw[List.getElem?_set_ne (Ne.symm e)]at hy;exact(h.row i y u q hy hu hq).keep (by simp) fun b hbq=>hb b (List.mem_flatten.2 ⟨q,mg8 hq,hbq⟩)
end
end Go.Proofs.YtflokiejcjjbiaaGreat
