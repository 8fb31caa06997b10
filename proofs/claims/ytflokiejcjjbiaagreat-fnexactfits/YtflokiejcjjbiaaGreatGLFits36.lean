/- Own texts, joined: contracts that the law's proof goes by. -/
import Derived.Test.YtflokiejcjjbiaaGreatGLFits27
import Derived.Test.YtflokiejcjjbiaaGreatGLFits2
import Derived.Test.YtflokiejcjjbiaaGreatGLFits31
import Derived.Test.YtflokiejcjjbiaaGreatGLFits35
import Derived.Deep.RegionHeld3
import Derived.Test.YtflokiejcjjbiaaGreatGLFits29
import Derived.Test.YtflokiejcjjbiaaGreatGLFits37
set_option maxHeartbeats 16000000
set_option maxRecDepth 100000
set_option linter.unusedVariables false
set_option linter.unusedSimpArgs false
namespace Go.Proofs.YtflokiejcjjbiaaGreat
section
open Go.RowKit Go.Deep Go.ChangeShapes Go.WideShapes
theorem rc_snoc (vs:List V3)(x:V3):rc (vs++ [x])=rc vs++ [.int .i64 x.k,.int .i64 x.n,.string x.s]:=by
 unfold rc;have hl:(vs++ [x]).length*3=vs.length*3+3:=by simp;omega
 rw[hl,List.range_add,List.map_append];congr 1
 ·refine List.map_congr_left fun j hj=>?_;have hj':=List.mem_range.1 hj;unfold cf;have e:(vs++ [x]).getD (j/3) ⟨0,0,⟨#[]⟩⟩=vs.getD (j/3) ⟨0,0,⟨#[]⟩⟩:=by
   rw[List.getD_eq_getElem?_getD,List.getD_eq_getElem?_getD,List.getElem?_append_left (by omega)]
  rw[e]
 ·obtain⟨h0,h1,h2⟩:=cf_at (vs:=vs++ [x]) (k:=vs.length) (x:=x) (by simp);rw[show List.range 3=[0,1,2]from rfl];simp[h0,h1,h2]
theorem projR_snoc (V:E7→List V3→V3){es:List E7}{j:Nat}{x:E7}(r:List V3)(h:es[j]?=some x):projR V (es.take (j+1)) r=projR V (es.take j) r++ [V x r]:=by
 obtain⟨hk,rfl⟩:=gE1 h;unfold projR;rw[List.take_succ_eq_append_getElem hk,List.map_append];rfl
theorem projC_snoc (V:E7→List V3→V3)(es:List E7){cs:List C2}{k:Nat}{x:C2}(h:cs[k]?=some x):projC V es (cs.take (k+1))=putC (projC V es (cs.take k)) (projR V es x.r) x.n:=by
 unfold projC projL;rw[take_snoc h,List.map_append,List.map_singleton,sumC_snoc,Int.one_mul]
theorem projC_bd (V:E7→List V3→V3)(es:List E7){cs:List C2}(hl:cs.length≤400)(hn:∀c∈cs,0<c.n∧c.n≤1000000000):(projC V es cs).length≤400∧Asc (projC V es cs)∧∀c∈projC V es cs,-4000000000000000000≤c.n∧c.n≤4000000000000000000:=by
 have hm:∀x∈projL V es cs,-1000000000≤1*x.n∧1*x.n≤1000000000:=fun x hx=>by
  obtain⟨c,hc,rfl⟩:=List.mem_map.1 hx;have:=hn c hc;simp only[Int.one_mul];omega
 obtain⟨h1,h2⟩:=sumC_bound (n:=1) (M:=0) (m:=1000000000) (cs:=[]) (ds:=projL V es cs) (fun c hc=>by cases hc) (by omega) (by omega) hm;have hpl:(projL V es cs).length=cs.length:=by unfold projL;rw[List.length_map]
 rw[hpl]at h1 h2;refine⟨by unfold projC;simp at h1;omega,(sumC_all List.Pairwise.nil (fun c hc=>by cases hc)).1,fun c hc=>?_⟩;have:=h2 c hc;omega
theorem l04Project_any {m:Int}{V:E7→List V3→V3}(hV:VOk m V)(W:Int)(v:Value)(cs:List C2)(F:List Nat)(ve:Value)(es:List E7)(Fs:List Nat)(D:Nat)(w:World)(hr:RowsF w v cs F)(hn:wtb cs≤1048576)(hl4:cs.length≤400)(hes:es.length≤12)(hk0:KidsIs w D ve es Fs)(hok:∀e∈es,okE 13 e=true)(hne:∀e∈es,wtE e≤1048576)(hrow:∀c∈cs,RowV c.r)(hcn:∀c∈cs,0<c.n∧c.n≤1000000000)(P:List C2)(hP:Hid (projC V es cs=P)):Calls Tryz.prog 52 #[.agg #[.int .i64 W,v],ve] w fun q w'=>(∃u us G,q=.returned (.agg #[.int .i64 es.length,u])∧BagOwn w' w.heap.size u P us G)∧Below w.heap.size w w':=by
 obtain⟨D,rfl⟩:=hk0.succ;have hkk:=hk0;obtain⟨ae,ce,be,oe,Ge,rfl,hle,hce,hGe,_,hae⟩:=hk0.pick;obtain⟨i0,hi,hz0,hz1,hz2'⟩:=info_parts Tryz.infoVal;obtain⟨a,c,b,o,G0,rfl,hl,hc,_,hG0,_,hC,ha⟩:=hr.pick;unfold maxLen at hc hce;have hn1:cs.length≤1048576:=by omega
 clear hr;go_enter Tryz.func52,Tryz.ntmps52;go_wp2_with fail;go_loopw [6] (fun i wr=> ∃ (k:Nat) (y:Value) (us:List Value) (G:List (List Nat)),k≤cs.length∧i=.int .i64 k∧wr.cell? ⟨w.heap.size,0,none⟩=some (.int .i64 W)∧wr.cell? ⟨w.heap.size,1,none⟩=some (.slice a cs.length c)∧wr.cell? ⟨w.heap.size+1,0,none⟩=some (.int .i64 0)∧wr.cell? ⟨w.heap.size+1,1,none⟩=some (.slice none 0 0)∧(∀q,wr.frozen? ⟨w.heap.size+1,q,none⟩=false)∧wr.cell? ⟨w.heap.size+1+1,0,none⟩=some (.int .i64 es.length)∧wr.cell? ⟨w.heap.size+1+1,1,none⟩=some y∧(∀q,wr.frozen? ⟨w.heap.size+1+1,q,none⟩=false)∧BagOwn wr (w.heap.size+1+1+1) y (projC V es (cs.take k)) us G∧Below w.heap.size w wr∧w.heap.size+1+1<wr.heap.size) (fun i _=>cs.length - (intOf i).toNat)
 case atStart=>
  exact⟨0,.slice none 0 0,[],[],Nat.zero_le _,rfl,by go_simp,by go_simp,by go_simp,by go_simp,fun q=>by go_simp,by go_simp,by go_simp,fun q=>by go_simp,BagOwn.nil _ _,bex,by simp⟩
 case round=>
  obtain⟨k,y,us,G,hk,rfl,b0,b1,r0,r1,rf,p0,p1,pf,hB,hb,hzb⟩:=hrel;have hzw:=hb.size;by_cases hlt:k<cs.length
  ·obtain⟨rfl,hblt,_⟩:=ha k hlt;obtain⟨x,u0,g0,hx,_,c0,hR,c1,hbr⟩:=hC.at hG0 hblt hb hlt;obtain⟨a0,n0,rfl⟩:=hR.shape;obtain⟨ay,cy,rfl⟩:=hB.shape;have hxm:=mg8 hx;have hxc:=hcn x hxm;have hxn:x.r.length≤1048576:=by have:=wt_mem hxm;unfold wt at this;unfold wtb at hn;omega
   have hkI:(k:Int)<cs.length:=by omega
   have hxV:RowV x.r:=hrow x hxm;have HT:Hid (projC V es (cs.take (k+1))=putC (projC V es (cs.take k)) (projR V es x.r) x.n):=projC_snoc V es hx;obtain⟨hsl,hsA,hsb⟩:=projC_bd V es (cs:=cs.take k) (by simp;omega) (fun c h=>hcn c (List.mem_of_mem_take h));have HSb:Hid (∀c∈projC V es (cs.take k),-4000000000000000000≤c.n∧c.n≤4000000000000000000):=hsb;clear hsb;generalize projC V es (cs.take k)=ct at*;have hEv:=fun(e:E7) (ue:Value) (Fe:List Nat) (d:Nat) (w2:World) (he:e.wf) (hke:KidsIs w2 d ue e.ks Fe) (h1:okE 13 e=true) (h2:Res m 13 e x.r (V e x.r)) (hRi:RowIs w2 (.slice a0 x.r.length n0) x.r)=>specEval_yes he hke hRi h1 h2;clear hC hx ha hxm;obtain⟨wo,hwo⟩:∃x,x=wr:=⟨_,rfl⟩;subst hwo;go_wp2_with fail;go_loopw [7,8] (fun z i wr=> ∃ (j:Nat),j≤es.length∧i=.int .i64 j∧wr.ownsRow wo.heap.size 36 3 z j (rc (projR V (es.take j) x.r))∧(∃az cz,z=.slice az j cz)∧Below wo.heap.size wo wr) (fun _ i _=>es.length - (intOf i).toNat)
   case atStart=>exact⟨0,Nat.zero_le _,rfl,own_none rfl (Nat.le_refl _) _ _,⟨_,_,rfl⟩,bex⟩
   case round=>
    obtain⟨j,hj,rfl,hz,⟨az,cz,rfl⟩,hbi⟩:=hrel;have hzi:=hbi.size;have q0:=((bc8 hbi).1 w.heap.size 0 (by omega)).trans b0;have q1:=((bc8 hbi).1 w.heap.size 1 (by omega)).trans b1;have d0:=((bc8 hbi).1 b (o+k*2) (by omega)).trans c0;have d1:=((bc8 hbi).1 b (o+k*2+1) (by omega)).trans c1;have hRi:=hR.below hbi;have hbW:Below w.heap.size w wr:=hb.trans (hbi.mono hzw);by_cases hjl:j<es.length
    ·obtain⟨rfl,hblte,_,hL⟩:=hae j hjl;obtain⟨e,ge,ue,hxe,hge,hew,⟨e0,e1,e2,e3,e4,e5⟩,e6,hKe,hbre⟩:=hL.at hGe hblte hbW hjl;obtain⟨au,cu,rfl,_,_⟩:=hKe.shape;have hem:=mg8 hxe;have hoe:=hok e hem;have hwe:=hne e hem;have hRes:=hV.res e x.r ⟨hew,hoe,hwe,wr,D,_,ge,hKe⟩ hxV;have HJ:Hid (rc (projR V (es.take (j+1)) x.r)=rc (projR V (es.take j) x.r)++ [.int .i64 (V e x.r).k,.int .i64 (V e x.r).n,.string (V e x.r).s]):=by show _=_;rw[projR_snoc V x.r hxe,rc_snoc]
     have hV1:=fun(w2:World) (hb2:Below wr.heap.size wr w2)=>hEv e (.slice au e.ks.length cu) ge D w2 hew (hKe.below hb2) hoe hRes ((hRi.below hb2).is);have hol:=oL8 hz;have hjI:(j:Int)<es.length:=by omega
     generalize V e x.r=vx at*;have hml:j+1≤maxLen:=by unfold maxLen;omega
     have hby:(j+1)*32≤140737488355328:=by omega
     generalize rc (projR V (es.take j) x.r)=rz at*;clear hae hL hxe hge hem hEv hKe hRes;go_wp2_with fail;refine startE 14 (fun w'=>w'.cell? ⟨be,oe+j*7,none⟩=some (.int .i64 e.k)∧w'.cell? ⟨be,oe+j*7+1,none⟩=some (.int .i64 e.n)∧w'.cell? ⟨be,oe+j*7+2,none⟩=some (.int .i64 e.v.k)∧w'.cell? ⟨be,oe+j*7+3,none⟩=some (.int .i64 e.v.n)∧w'.cell? ⟨be,oe+j*7+4,none⟩=some (.string e.v.s)∧w'.cell? ⟨be,oe+j*7+5,none⟩=some (.string e.p)∧w'.cell? ⟨be,oe+j*7+6,none⟩=some (.slice au e.ks.length cu)∧w'.cell? ⟨w.heap.size,1,none⟩=some (.slice (some ⟨b,o,none⟩) cs.length c)∧w'.cell? ⟨b,o+k*2,none⟩=some (.slice a0 x.r.length n0)) (by kernel_rfl) ?_ (fun hHeld=>?_)
     ·exact⟨e0,e1,e2,e3,e4,e5,e6,q1,d0⟩
     refine tkE 0 26 rfl rfl ?_;refine tkE 1 27 rfl rfl ?_;refine tkE 2 28 rfl rfl ?_;refine tkE 3 29 rfl rfl ?_;refine tkE 4 30 rfl rfl ?_;refine tkE 5 31 rfl rfl ?_;refine tkE 6 32 rfl rfl ?_;refine tkE 7 33 rfl rfl ?_;refine tkE 8 34 rfl rfl ?_;refine tkE 9 35 rfl rfl ?_;refine tkE 10 36 rfl rfl ?_;refine onE 11 rfl fun K hK=>?_;go_simp;go_at_call 74;refine cM8 (hV1 _ bex) ?_;rintro zz w2 ⟨rfl,hb2⟩;have hzw2:=hb2.size;(try rw[show wr.drew.heap.size=wr.heap.size from rfl]at hzw2);have bel2:Below wr.heap.size wr w2:=bex;have e0b:=((bc8 bel2).1 be (oe+j*7) (by omega)).trans e0;have e1b:=((bc8 bel2).1 be (oe+j*7+1) (by omega)).trans e1;have e2b:=((bc8 bel2).1 be (oe+j*7+2) (by omega)).trans e2;have e3b:=((bc8 bel2).1 be (oe+j*7+3) (by omega)).trans e3;have e4b:=((bc8 bel2).1 be (oe+j*7+4) (by omega)).trans e4;have e5b:=((bc8 bel2).1 be (oe+j*7+5) (by omega)).trans e5;have e6b:=((bc8 bel2).1 be (oe+j*7+6) (by omega)).trans e6;have q1b:=((bc8 bel2).1 w.heap.size 1 (by omega)).trans q1;have d0b:=((bc8 bel2).1 b (o+k*2) (by omega)).trans d0;have hz2:w2.ownsRow wo.heap.size 36 3 (.slice az j cz) j rz:=oK8 hz fun t ht=>bel2.block t (hol t ht).2;try go_wp2_with fail
     refine hK.out _ _ ?_ (fun hHeld11=>?_)
     ·intro _;exact⟨e0b,e1b,e2b,e3b,e4b,e5b,e6b,q1b,d0b⟩
     clear hK;replace hHeld11:=hHeld11 (by decide);refine onE 12 rfl fun K hK=>?_;go_simp;refine hK.out _ _ ?_ (fun hHeld12=>?_)
     ·intro _;exact⟨(cb8 (bA8 w2 _ _ (by omega))).trans e0b,(cb8 (bA8 w2 _ _ (by omega))).trans e1b,(cb8 (bA8 w2 _ _ (by omega))).trans e2b,(cb8 (bA8 w2 _ _ (by omega))).trans e3b,(cb8 (bA8 w2 _ _ (by omega))).trans e4b,(cb8 (bA8 w2 _ _ (by omega))).trans e5b,(cb8 (bA8 w2 _ _ (by omega))).trans e6b,(cb8 (bA8 w2 _ _ (by omega))).trans q1b,(cb8 (bA8 w2 _ _ (by omega))).trans d0b⟩
     clear hK;replace hHeld12:=hHeld12 (by decide);refine onE 13 rfl fun K hK=>?_;refine step_append_lies _ (by rfl) _ _ _ (by rfl) wo.heap.size 36 i0 _ 3 32 Tryz.underlying94 hi hz0 hz1 hz2' rfl (by omega) (.slice az j cz) j rz (by rfl) (hz2.alloc _) ⟨w2.heap.size,0,none⟩ 1 1 [.int .i64 vx.k,.int .i64 vx.n,.string vx.s] (by rfl) (by rfl) (World.news_of_block (cs:=#[.int .i64 vx.k,.int .i64 vx.n,.string vx.s]) (t:=36) (fr:=(0,0)) (heap_alloc_new w2 _)) (by simp[Value.oneCell']) (by omega) hml hby (by simp;omega) (w2.heap.size+1) (by simp) ?_;intro gg cap w3 hown3 hgrow hat hlt3;have hz3:=hgrow.size;simp at hz3;have far:∀b q,b<w2.heap.size→(Value.slice az j cz).ownBlock≠some b→w3.cell? ⟨b,q,none⟩=w2.cell? ⟨b,q,none⟩:=fun b q hb hne=>(hgrow.cell_far _ (by simp;omega) (Ne.symm hne)).trans (cb8 (bA8 _ _ _ hb));have hfb:∀t,t<wo.heap.size→(Value.slice az j cz).ownBlock≠some t:=fun t ht ee=>by have:=(hol t ee).1;omega
     have e0c:=(far be (oe+j*7) (by omega) (hfb _ (by omega))).trans e0b;have e1c:=(far be (oe+j*7+1) (by omega) (hfb _ (by omega))).trans e1b;have e2c:=(far be (oe+j*7+2) (by omega) (hfb _ (by omega))).trans e2b;have e3c:=(far be (oe+j*7+3) (by omega) (hfb _ (by omega))).trans e3b;have e4c:=(far be (oe+j*7+4) (by omega) (hfb _ (by omega))).trans e4b;have e5c:=(far be (oe+j*7+5) (by omega) (hfb _ (by omega))).trans e5b;have e6c:=(far be (oe+j*7+6) (by omega) (hfb _ (by omega))).trans e6b;have q1c:=(far w.heap.size 1 (by omega) (hfb _ (by omega))).trans q1b;have d0c:=(far b (o+k*2) (by omega) (hfb _ (by omega))).trans d0b;have b2w:Below wo.heap.size wo w2:=hbi.trans (bel2.mono hzi);have bel3:Below wo.heap.size wo w3:=Below.grown (b2w.alloc b2w.size _) hgrow (by simp;omega) (fun t ht=>by have:=(hol t ht).1;omega);refine hK.out _ _ ?_ (fun hHeld13=>?_)
     ·intro _;exact⟨e0c,e1c,e2c,e3c,e4c,e5c,e6c,q1c,d0c⟩
     clear hK;replace hHeld13:=hHeld13 (by decide);refine onE 14 rfl fun K hK=>?_;go_simp;refine hK.out _ _ ?_ (fun hHeld14=>?_)
     ·exact fun h=>absurd rfl h
     clear hK hHeld14;refine doneE (by kernel_rfl) ?_ _;rw[←HJ.out]at hown3;clear hz2 hgrow hat far e0b e0c e1b e1c e2b e2c e3b e3c e4b e4c e5b e5c e6b e6c q1b q1c d0b d0c;go_wp2_with fail;exact⟨⟨j+1,hjl,by simp,hown3,⟨_,_,rfl⟩,bel3⟩,by simp[intOf];omega⟩
    ·obtain rfl:j=es.length:=by omega
     rw[List.take_length]at hz;obtain⟨gz,hrz,hOz⟩:=own_rowF hz;have p0i:=((bc8 hbi).1 (w.heap.size+1+1) 0 (by omega)).trans p0;have p1i:=((bc8 hbi).1 (w.heap.size+1+1) 1 (by omega)).trans p1;have pfi:∀q,wr.frozen? ⟨w.heap.size+1+1,q,none⟩=false:=fun q=>((bc8 hbi).2 _ q (by omega)).trans (pf q);have r0i:=((bc8 hbi).1 (w.heap.size+1) 0 (by omega)).trans r0;have r1i:=((bc8 hbi).1 (w.heap.size+1) 1 (by omega)).trans r1;have rfi:∀q,wr.frozen? ⟨w.heap.size+1,q,none⟩=false:=fun q=>((bc8 hbi).2 _ q (by omega)).trans (rf q);have hBi:=hB.below hbi;have hvl:=oL8 hBi.own;have hGl:=hBi.free;have hyX:(Value.slice ay ct.length cy).ownBlock≠some (w.heap.size+1+1):=fun e=>by have:=(hvl _ e).1;omega
     have hGX:(w.heap.size+1+1)∉G.flatten:=fun e=>by have:=hGl.2.1 _ e;omega
     have hXw:w.heap.size+1+1<wr.heap.size:=by omega
     obtain⟨row,hrow'⟩:∃row,row=projR V es x.r:=⟨_,rfl⟩;have hrl:row.length≤12:=by rw[hrow'];simp[projR];omega
     rw[←hrow']at hrz;have HT':Hid (projC V es (cs.take (k+1))=putC ct row x.n):=by show _=_;rw[HT.out,hrow']
     have HPP:=l02Put_any (es.length:Int) x.n (.slice ay ct.length cy) (.slice az es.length cz) ct us G row gz (w.heap.size+1+1+1);clear hrow' HT hae hEv hz hOz;go_wp2_with fail;refine startE 9 (fun w'=>w'.cell? ⟨w.heap.size+1+1,0,none⟩=some (.int .i64 es.length)∧w'.cell? ⟨w.heap.size+1+1,1,none⟩=some (.slice ay ct.length cy)∧w'.cell? ⟨w.heap.size,1,none⟩=some (.slice (some ⟨b,o,none⟩) cs.length c)∧w'.cell? ⟨b,o+k*2+1,none⟩=some (.int .i64 x.n)) (by kernel_rfl) ?_ (fun hHeld=>?_)
     ·exact⟨p0i,p1i,q1,d1⟩
     refine tkE 0 40 rfl rfl ?_;refine tkE 1 41 rfl rfl ?_;refine tkE 2 42 rfl rfl ?_;refine tkE 3 43 rfl rfl ?_;refine tkE 4 44 rfl rfl ?_;refine tkE 5 45 rfl rfl ?_;refine tkE 6 46 rfl rfl ?_;refine tkE 7 47 rfl rfl ?_;refine onE 8 rfl fun K hK=>?_;go_simp;go_at_call 75;refine cM8 (HPP _ (hBi.below bex) (hrz.below bex) hsA (by simp;omega) (by omega) (by omega) (by omega) (by omega) HSb.out _ rfl) ?_;rintro zz w5 ⟨v5,us5,G5,rfl,hB5,hv5,hG5,hb5,hgr5⟩;obtain⟨a5,c5,rfl⟩:=hB5.shape;have hz5:=hb5.size;simp at hz5;have kX:w5.heap[w.heap.size+1+1]?=wr.heap[w.heap.size+1+1]?:=hb5.block _ (by omega);have kB:∀q,q<w.heap.size+1+1+1→w5.heap[q]?=wr.heap[q]?:=fun q hq=>hb5.block q hq;have p05:=(cb8 kX).trans p0i;have p15:=(cb8 kX).trans p1i;have pf5:∀q,w5.frozen? ⟨w.heap.size+1+1,q,none⟩=false:=fun q=>(fb8 kX).trans (pfi q);have q05:=(cb8 (kB w.heap.size (by omega))).trans q0;have q15:=(cb8 (kB w.heap.size (by omega))).trans q1;have r05:=(cb8 (kB (w.heap.size+1) (by omega))).trans r0i;have r15:=(cb8 (kB (w.heap.size+1) (by omega))).trans r1i;have rf5:∀q,w5.frozen? ⟨w.heap.size+1,q,none⟩=false:=fun q=>(fb8 (kB (w.heap.size+1) (by omega))).trans (rfi q);have d15:=(cb8 (kB b (by omega))).trans d1;have bel5:Below w.heap.size w w5:=hbW.trans ((show Below (w.heap.size+1+1+1) wr w5 from⟨hb5.os,hb5.tape,hb5.output,hb5.size,hb5.block⟩).mono (by omega));try go_wp2_with fail
     refine hK.out _ _ ?_ (fun hHeld8=>?_)
     ·intro _;exact⟨p05,p15,q15,d15⟩
     clear hK;replace hHeld8:=hHeld8 (by decide);refine onE 9 rfl fun K hK=>?_;go_simp;refine hK.out _ _ ?_ (fun hHeld9=>?_)
     ·exact fun h=>absurd rfl h
     clear hK hHeld9;refine doneE (by kernel_rfl) ?_ _;have hvl5:=oL8 hB5.own;have hGl5:=hB5.free;have hBs:BagOwn ((w5.setCell ⟨w.heap.size+1+1,0,none⟩ (.int .i64 es.length)).setCell ⟨w.heap.size+1+1,1,none⟩ (.slice a5 (putC ct row x.n).length c5)) (w.heap.size+1+1+1) (.slice a5 (putC ct row x.n).length c5) (projC V es (cs.take (k+1))) us5 G5:=by
      rw[HT'.out];exact hB5.keep (by simp) (fun t ht _=>(bS8 _ _ _ _ (by simp;omega)).trans (bS8 _ _ _ _ (by simp;omega)))
     have P0:((w5.setCell ⟨w.heap.size+1+1,0,none⟩ (.int .i64 es.length)).setCell ⟨w.heap.size+1+1,1,none⟩ (.slice a5 (putC ct row x.n).length c5)).cell? ⟨w.heap.size+1+1,0,none⟩=some (.int .i64 es.length):=(cO8 _ _ _ _ (by simp)).trans (cS8 _ _ _ p05);have P1:((w5.setCell ⟨w.heap.size+1+1,0,none⟩ (.int .i64 es.length)).setCell ⟨w.heap.size+1+1,1,none⟩ (.slice a5 (putC ct row x.n).length c5)).cell? ⟨w.heap.size+1+1,1,none⟩=some (.slice a5 (putC ct row x.n).length c5):=cS8 _ _ _ ((cO8 _ _ _ _ (by simp)).trans p15);have PF:∀q,((w5.setCell ⟨w.heap.size+1+1,0,none⟩ (.int .i64 es.length)).setCell ⟨w.heap.size+1+1,1,none⟩ (.slice a5 (putC ct row x.n).length c5)).frozen? ⟨w.heap.size+1+1,q,none⟩=false:=fun q=>by simpa using pf5 q
     have keep:∀b q,b<w.heap.size+1+1→((w5.setCell ⟨w.heap.size+1+1,0,none⟩ (.int .i64 es.length)).setCell ⟨w.heap.size+1+1,1,none⟩ (.slice a5 (putC ct row x.n).length c5)).cell? ⟨b,q,none⟩=w5.cell? ⟨b,q,none⟩:=fun b q h=>(cO8 _ _ _ _ (by simp;try omega)).trans (cO8 _ _ _ _ (by simp;try omega));have Q0:=(keep w.heap.size 0 (by omega)).trans q05;have Q1:=(keep w.heap.size 1 (by omega)).trans q15;have R0:=(keep (w.heap.size+1) 0 (by omega)).trans r05;have R1:=(keep (w.heap.size+1) 1 (by omega)).trans r15;have RF:∀q,((w5.setCell ⟨w.heap.size+1+1,0,none⟩ (.int .i64 es.length)).setCell ⟨w.heap.size+1+1,1,none⟩ (.slice a5 (putC ct row x.n).length c5)).frozen? ⟨w.heap.size+1,q,none⟩=false:=fun q=>by simpa using rf5 q
     have belS:Below w.heap.size w ((w5.setCell ⟨w.heap.size+1+1,0,none⟩ (.int .i64 es.length)).setCell ⟨w.heap.size+1+1,1,none⟩ (.slice a5 (putC ct row x.n).length c5)):=(bel5.setCell (by simp;try omega) _).setCell (by simp;try omega) _;have hzS:w.heap.size+1+1<((w5.setCell ⟨w.heap.size+1+1,0,none⟩ (.int .i64 es.length)).setCell ⟨w.heap.size+1+1,1,none⟩ (.slice a5 (putC ct row x.n).length c5)).heap.size:=by simp;omega
     clear hB5 hgr5 keep p05 p15 q05 q15 r05 r15 rf5 pf5 d15 hsA HT' hvl5 hGl5 HPP;go_wp2_with fail;exact⟨⟨k+1,_,_,_,hlt,by simp,Q0,Q1,R0,R1,RF,P0,P1,PF,hBs,belS,hzS⟩,by simp[intOf];omega⟩
  ·obtain rfl:k=cs.length:=by omega
   rw[List.take_length,hP.out]at hB;obtain⟨ay,cy,rfl⟩:=hB.shape;clear ha hC hP;go_wp2;refine bodyPost_ret (v:=.agg #[.int .i64 es.length,.slice ay P.length cy]) (by simp[results,Tryz.results52,go_sem, *]) rfl ⟨⟨_,us,G,rfl,(hB.keep (by simp) fun b hb _=>?_).weak (by omega)⟩,?_⟩
   ·repeat rw[bS8 _ _ _ _ (by simp;omega)]
   ·repeat (first|(with_reducible exact hb)|(with_reducible refine Below.setCell ?_ ?hh _;case hh=>(simp;try omega)))
end
section
open Go.RowKit Go.Deep Go.ChangeShapes Go.WideShapes
theorem l02CopyRowO_any (v:Value)(vs:List V3)(g0:List Nat)(w:World)(hr:RowF w v vs g0)(hn:vs.length≤1048576):Calls Tryz.prog 72 #[v] w fun e w'=>(∃u,e=.returned u∧w'.ownsRow w.heap.size 36 3 u vs.length (rc vs))∧Below w.heap.size w w':=by
 obtain⟨i0,hi,hz0,hz1,hz2⟩:=info_parts Tryz.infoVal;obtain⟨a,c,rfl,hl,hc,hz,_,h⟩:=hr;have he:=own_empty w 36 3;have hb0:Below w.heap.size w (w.alloc (.cells #[] 36)):=(Below.refl _ _).alloc (Nat.le_refl _) _;cases a with
 |none=>
  obtain rfl:=hz rfl;obtain rfl:vs=[]:=List.length_eq_zero_iff.1 (by omega);go_enter Tryz.func72,Tryz.ntmps72;go_wp2;go_returns
  first|exact⟨⟨_,rfl,he⟩,bex⟩|exact⟨he,bex⟩
 |some ad=>
  have hcl:∀j u,(rc vs)[j]?=some u→(w.alloc (.cells #[] 36)).cell? (ad.add j)=some u:=by
   by_cases hne:vs=[]
   ·subst hne;intro j u hu;simp[rc]at hu
   ·obtain⟨b,o,hb,hlt,_,hL⟩:=h hne;cases hb;exact rc_cells (hL.below hb0 hlt)
  go_enter Tryz.func72,Tryz.ntmps72;go_wp2_with(at_builtin;refine wpList_append_own _ rfl _ _ 94 rfl w.heap.size 36 i0 _ 3 32 Tryz.underlying94 hi hz0 hz1 hz2 rfl (by decide) _ _ _ rfl he ad vs.length c (rc vs) rfl (rc_len vs) hcl (rc_one vs) ?c3 ?c4 ?c5 ?_)
  case c3=>unfold maxLen;omega
  case c4=>omega
  case c5=>simp
  intro v5 w5 hown5 hgr5 _;have hown6:w5.ownsRow w.heap.size 36 3 v5 vs.length (rc vs):=by simpa using hown5
  have bel:Below w.heap.size w w5:=hb0.grown hgr5 (by simp) (fun k hk=>by simp[Value.ownBlock]at hk;omega);clear hown5 hgr5 hcl he;go_wp2;go_returns;exact⟨⟨_,rfl,hown6⟩,bel⟩
theorem rowSrc {w:World}{v:Value}{vs:List V3}{g:List Nat}(h:RowF w v vs g):SrcIs w 3 v vs.length (rc vs):=by
 obtain⟨a,c,rfl,hl,hc,hz,_,h⟩:=h;refine⟨rc_len vs,?_⟩;cases a with
 |none=>
  obtain rfl:=hz rfl;obtain rfl:vs=[]:=List.length_eq_zero_iff.1 (by omega);exact .inl ⟨rfl,rfl⟩
 |some ad=>
  refine .inr ⟨ad,c,rfl,?_⟩;by_cases hne:vs=[]
  ·subst hne;intro j u hu;simp[rc]at hu
  ·obtain⟨b,o,hb,hlt,_,hL⟩:=h hne;cases hb;exact rc_cells hL
theorem rc_app (vs us:List V3):rc (vs++us)=rc vs++rc us:=by
 induction us generalizing vs with
 |nil=>simp[rc]
 |cons u us ih=>
  have e:vs++u::us=(vs++ [u])++us:=by simp
  have h2:rc (u::us)=rc [u]++rc us:=by have:=ih [u];simpa using this
  have h3:rc [u]=[.int .i64 u.k,.int .i64 u.n,.string u.s]:=by have:=rc_snoc [] u;simpa [rc]using this
  rw[e,ih,rc_snoc,h2,h3,List.append_assoc]
theorem ahead_all:∀ {cs:List C2} {row:List V3},(∀c∈cs,cR8 c.r row<0)→ahead cs row=cs.length
 | [],_,_=>rfl
 |x::xs,row,h=>by
  have h1:=h x (by simp);have h2:ahead xs row=xs.length:=ahead_all fun c hc=>h c (by simp[hc]);unfold ahead at h2⊢;rw[List.takeWhile_cons,if_pos (by simpa using h1),List.length_cons,h2,List.length_cons]
theorem putC_last {cs:List C2}{row:List V3}{n:Int}(h:Asc (cs++ [⟨row,n⟩]))(hn:n≠0):putC cs row n=cs++ [⟨row,n⟩]:=by
 have h1:∀c∈cs,cR8 c.r row<0:=fun c hc=>(List.pairwise_append.1 h).2.2 c hc ⟨row,n⟩ (by simp);unfold putC;rw[ahead_all h1,List.getElem?_eq_none (Nat.le_refl _)];simp[hn]
section
variable (V:E7→List V3→V3) (e:E7)
theorem joinR_snoc (x:C2){ds:List C2}{j:Nat}{z:C2}(h:ds[j]?=some z):joinR V e x (ds.take (j+1))=joinR V e x (ds.take j)++(if isTV (V e (x.r++z.r))=true then[⟨x.r++z.r,x.n*z.n⟩]else[]):=by
 unfold joinR;rw[take_snoc h,List.filter_append,List.map_append];congr 1;by_cases hT:isTV (V e (x.r++z.r))=true
 ·simp[hT]
 ·simp[hT]
theorem joinC_snoc {cs ds:List C2}{k:Nat}{x:C2}(h:cs[k]?=some x):joinC V e (cs.take (k+1)) ds=joinC V e (cs.take k) ds++joinR V e x ds:=by
 unfold joinC;rw[take_snoc h,List.flatMap_append];simp
theorem joinR_len (x:C2)(ds:List C2):(joinR V e x ds).length≤ds.length:=by
 unfold joinR;rw[List.length_map];exact List.length_filter_le _ _
theorem joinC_len (ds:List C2):∀ (cs:List C2),(joinC V e cs ds).length≤cs.length*ds.length
 | []=>by simp[joinC]
 |x::xs=>by
  have h1:=joinC_len ds xs;have h2:=joinR_len V e x ds;unfold joinC at h1⊢;rw[List.flatMap_cons,List.length_append,List.length_cons,Nat.succ_mul];omega
def accJ (cs ds:List C2)(x:C2)(k j:Nat):List C2:=joinC V e (cs.take k) ds++joinR V e x (ds.take j)
theorem accJ_pre {cs ds:List C2}{x:C2}{k:Nat}(hx:cs[k]?=some x)(j:Nat):∃t,joinC V e cs ds=accJ V e cs ds x k j++t:=by
 obtain⟨hk,rfl⟩:=gE1 hx;refine⟨joinR V e cs[k] (ds.drop j)++joinC V e (cs.drop (k+1)) ds,?_⟩;have e1:joinR V e cs[k] ds=joinR V e cs[k] (ds.take j)++joinR V e cs[k] (ds.drop j):=by
  unfold joinR;rw[←List.map_append,←List.filter_append,List.take_append_drop]
 have e2:joinC V e cs ds=joinC V e (cs.take k) ds++(joinR V e cs[k] ds++joinC V e (cs.drop (k+1)) ds):=by
  have:cs=cs.take k++cs[k]::cs.drop (k+1):=by rw[←List.drop_eq_getElem_cons hk,List.take_append_drop]
  conv=>lhs;rw[this]
  unfold joinC;rw[List.flatMap_append,List.flatMap_cons]
 rw[e2,e1];unfold accJ;simp[List.append_assoc]
theorem accJ_zero (cs ds:List C2)(x:C2)(k:Nat):accJ V e cs ds x k 0=joinC V e (cs.take k) ds:=by simp[accJ,joinR]
theorem accJ_all {cs ds:List C2}{x:C2}{k:Nat}(hx:cs[k]?=some x):accJ V e cs ds x k ds.length=joinC V e (cs.take (k+1)) ds:=by rw[accJ,List.take_length,joinC_snoc V e hx]
end
theorem accJ_bd {V:E7→List V3→V3}{W U:Int}{cs ds:List C2}(e:E7)(hc:Mean W cs)(hd:Mean U ds){x:C2}{k:Nat}(hx:cs[k]?=some x)(j:Nat):Asc (accJ V e cs ds x k j)∧(accJ V e cs ds x k j).length≤160000∧∀c∈accJ V e cs ds x k j,-4000000000000000000≤c.n∧c.n≤4000000000000000000:=by
 have hR:=raw_join (V:=V) e hc hd;obtain⟨t,ht⟩:=accJ_pre V e (ds:=ds) hx j;rw[ht]at hR;have hl:=joinC_len V e ds cs;rw[ht,List.length_append]at hl;have h4:cs.length*ds.length≤400*400:=Nat.mul_le_mul hc.all.2.2.1 hd.all.2.2.1;exact⟨(List.pairwise_append.1 hR.asc).1,by omega,fun c hcm=>by have:=hR.num c (List.mem_append_left _ hcm);omega⟩
theorem accJ_yes {V:E7→List V3→V3}{W U:Int}{cs ds:List C2}(e:E7)(hc:Mean W cs)(hd:Mean U ds){x z:C2}{k j:Nat}(hx:cs[k]?=some x)(hz:ds[j]?=some z)(hT:isTV (V e (x.r++z.r))=true):accJ V e cs ds x k (j+1)=putC (accJ V e cs ds x k j) (x.r++z.r) (x.n*z.n):=by
 have e1:accJ V e cs ds x k (j+1)=accJ V e cs ds x k j++ [⟨x.r++z.r,x.n*z.n⟩]:=by
  unfold accJ;rw[joinR_snoc V e x hz,if_pos hT,List.append_assoc]
 have h1:=(accJ_bd (V:=V) e hc hd hx (j+1)).1;rw[e1]at h1⊢;have a0:=(hc.all.2.2.2 x (mg8 hx)).1;have b0:=(hd.all.2.2.2 z (mg8 hz)).1;have:=Int.mul_pos a0 b0;exact(putC_last h1 (by omega)).symm
theorem accJ_no {V:E7→List V3→V3}{cs ds:List C2}(e:E7){x z:C2}{k j:Nat}(hz:ds[j]?=some z)(hT:isTV (V e (x.r++z.r))=false):accJ V e cs ds x k (j+1)=accJ V e cs ds x k j:=by
 unfold accJ;rw[joinR_snoc V e x hz,hT];simp
structure JnW (w:World)(W U:Int)(a a':Option Addr)(lc c ld c':Nat)(e:E7)(ue:Value)(V:E7→List V3→V3)(acc:List C2)(y:Value)(us:List Value)(G:List (List Nat))(wr:World):Prop where
 a0:wr.cell? ⟨w.heap.size,0,none⟩=some (.int .i64 W)
 a1:wr.cell? ⟨w.heap.size,1,none⟩=some (.slice a lc c)
 b0:wr.cell? ⟨w.heap.size+1,0,none⟩=some (.int .i64 U)
 b1:wr.cell? ⟨w.heap.size+1,1,none⟩=some (.slice a' ld c')
 bx:Box7 wr (w.heap.size+1+1) e ue
 r0:wr.cell? ⟨w.heap.size+1+1+1,0,none⟩=some (.int .i64 0)
 r1:wr.cell? ⟨w.heap.size+1+1+1,1,none⟩=some (.slice none 0 0)
 rf:∀q,wr.frozen? ⟨w.heap.size+1+1+1,q,none⟩=false
 p0:wr.cell? ⟨w.heap.size+1+1+1+1,0,none⟩=some (.int .i64 (W+U))
 p1:wr.cell? ⟨w.heap.size+1+1+1+1,1,none⟩=some y
 pf:∀q,wr.frozen? ⟨w.heap.size+1+1+1+1,q,none⟩=false
 own:BagOwn wr (w.heap.size+1+1+1+1+1) y acc us G
 bel:Below w.heap.size w wr
 big:w.heap.size+1+1+1+1<wr.heap.size
theorem JnW.below {w wr w':World}{W U:Int}{a a':Option Addr}{lc c ld c':Nat}{e:E7}{ue:Value}{V:E7→List V3→V3}{acc:List C2}{y:Value}{us:List Value}{G:List (List Nat)}(h:JnW w W U a a' lc c ld c' e ue V acc y us G wr)(hb:Below wr.heap.size wr w'):JnW w W U a a' lc c ld c' e ue V acc y us G w':=by
 have hz:=h.big;have hs:=hb.size;exact⟨((bc8 hb).1 _ _ (by omega)).trans h.a0,((bc8 hb).1 _ _ (by omega)).trans h.a1,((bc8 hb).1 _ _ (by omega)).trans h.b0,((bc8 hb).1 _ _ (by omega)).trans h.b1,h.bx.below hb,((bc8 hb).1 _ _ (by omega)).trans h.r0,((bc8 hb).1 _ _ (by omega)).trans h.r1,fun q=>((bc8 hb).2 _ q (by omega)).trans (h.rf q),((bc8 hb).1 _ _ (by omega)).trans h.p0,((bc8 hb).1 _ _ (by omega)).trans h.p1,fun q=>((bc8 hb).2 _ q (by omega)).trans (h.pf q),h.own.below hb,h.bel.trans (hb.mono h.bel.size),by omega⟩
theorem JnW.put {w wr w5:World}{W U:Int}{a a':Option Addr}{lc c ld c':Nat}{e:E7}{ue:Value}{V:E7→List V3→V3}{acc acc5:List C2}{y y5:Value}{us us5:List Value}{G G5:List (List Nat)}(h:JnW w W U a a' lc c ld c' e ue V acc y us G wr)(hb:Below (w.heap.size+1+1+1+1+1) wr w5)(hB:BagOwn w5 (w.heap.size+1+1+1+1+1) y5 acc5 us5 G5):JnW w W U a a' lc c ld c' e ue V acc5 y5 us5 G5 ((w5.setCell ⟨w.heap.size+1+1+1+1,0,none⟩ (.int .i64 (W+U))).setCell ⟨w.heap.size+1+1+1+1,1,none⟩ y5):=by
 have hz:=h.big;have hs:=hb.size;have kB:∀q,q<w.heap.size+1+1+1+1+1→w5.heap[q]?=wr.heap[q]?:=fun q hq=>hb.block q hq;have kS:∀q,q<w.heap.size+1+1+1+1→((w5.setCell ⟨w.heap.size+1+1+1+1,0,none⟩ (.int .i64 (W+U))).setCell ⟨w.heap.size+1+1+1+1,1,none⟩ y5).heap[q]?=wr.heap[q]?:=fun q hq=>(bS8 _ _ _ _ (by simp;omega)).trans ((bS8 _ _ _ _ (by simp;omega)).trans (kB q (by omega)));have p0:=(cb8 (kB (w.heap.size+1+1+1+1) (by omega))).trans h.p0;have p1:=(cb8 (kB (w.heap.size+1+1+1+1) (by omega))).trans h.p1;have belw:Below w.heap.size w w5:=h.bel.trans ((show Below (w.heap.size+1+1+1+1+1) wr w5 from⟨hb.os,hb.tape,hb.output,hb.size,hb.block⟩).mono (by omega));exact⟨(cb8 (kS _ (by omega))).trans h.a0,(cb8 (kS _ (by omega))).trans h.a1,(cb8 (kS _ (by omega))).trans h.b0,(cb8 (kS _ (by omega))).trans h.b1,h.bx.keep (by simp;omega) (kS _ (by omega)),(cb8 (kS _ (by omega))).trans h.r0,(cb8 (kS _ (by omega))).trans h.r1,fun q=>(fb8 (kS _ (by omega))).trans (h.rf q),(cO8 _ _ _ _ (by simp)).trans (cS8 _ _ _ p0),cS8 _ _ _ ((cO8 _ _ _ _ (by simp)).trans p1),fun q=>by have:=(fb8 (kB (w.heap.size+1+1+1+1) (by omega)) (o:=q)).trans (h.pf q);simpa using this,hB.keep (by simp) (fun t ht _=>(bS8 _ _ _ _ (by simp;omega)).trans (bS8 _ _ _ _ (by simp;omega))),(belw.setCell (by simp;try omega) _).setCell (by simp;try omega) _,by simp;omega⟩
theorem l04Join_any {m:Int}{V:E7→List V3→V3}(hV:VOk m V)(W U:Int)(v v':Value)(cs ds:List C2)(F F':List Nat)(e:E7)(ue:Value)(Fe:List Nat)(D:Nat)(w:World)(hr:RowsF w v cs F)(hr':RowsF w v' ds F')(hM:Mean W cs)(hM':Mean U ds)(hn:wtb cs≤1048576)(hn':wtb ds≤1048576)(he:e.wf)(hok:okE 13 e=true)(hne:wtE e≤1048576)(hk0:KidsIs w D ue e.ks Fe)(P:List C2)(hP:Hid (joinC V e cs ds=P)):Calls Tryz.prog 53 #[.agg #[.int .i64 W,v],.agg #[.int .i64 U,v'],(.agg #[.int .i64 e.k,.int .i64 e.n,.int .i64 e.v.k,.int .i64 e.v.n,.string e.v.s,.string e.p,ue])] w fun q w'=>(∃u us G,q=.returned (.agg #[.int .i64 (W+U),u])∧BagOwn w' w.heap.size u P us G)∧Below w.heap.size w w':=by
 obtain⟨ae,ce,rfl,_,_⟩:=hk0.shape;have hGE:GoodE e:=⟨he,hok,hne,w,D,_,Fe,hk0⟩;obtain⟨i0,hi,hz0,hz1,hz2'⟩:=info_parts Tryz.infoVal;obtain⟨a,c,b,o,G0,rfl,hl,hc,_,hG0,_,hC,ha⟩:=hr.pick;obtain⟨a',c',b',o',G0',rfl,hl',hc',_,hG0',_,hC',ha'⟩:=hr'.pick;unfold maxLen at hc hc';have hal:=hM.all;have hal':=hM'.all;have hwu:IntKind.i64.wrap (W+U)=W+U:=by rw[IntKind.wrap_i64];omega
 have hwu2:wrap64 (W+U)=W+U:=by unfold wrap64;omega
 clear hr hr';go_enter Tryz.func53,Tryz.ntmps53;go_wp2_with fail;go_loopw [8] (fun i wr=> ∃ (k:Nat) (y:Value) (us:List Value) (G:List (List Nat)),k≤cs.length∧i=.int .i64 k∧JnW w W U a a' cs.length c ds.length c' e (.slice ae e.ks.length ce) V (joinC V e (cs.take k) ds) y us G wr) (fun i _=>cs.length - (intOf i).toNat)
 case atStart=>
  refine⟨0,.slice none 0 0,[],[],Nat.zero_le _,rfl,⟨by go_simp,by go_simp,by go_simp,by go_simp,⟨by simp,by go_simp,by go_simp,by go_simp,by go_simp,by go_simp,by go_simp,by go_simp⟩,by go_simp,by go_simp,fun q=>by go_simp,by go_simp,by go_simp,fun q=>by go_simp,BagOwn.nil _ _,bex,by simp⟩⟩
 case round=>
  obtain⟨k,y,us,G,hk,rfl,hJ⟩:=hrel;by_cases hlt:k<cs.length
  ·obtain⟨rfl,hblt,_⟩:=ha k hlt;obtain⟨x,u0,g0,hx,_,c0,hR,c1,hbr⟩:=hC.at hG0 hblt (Below.refl _ _) hlt;obtain⟨a0,n0,rfl⟩:=hR.shape;have hxm:=mg8 hx;have hxc:=hal.2.2.2 x hxm;have hxn:x.r.length≤1048576:=by have:=wt_mem hxm;unfold wt at this;unfold wtb at hn;omega
   have hxr:=hM.row x hxm;have HX:Hid (cs[k]?=some x):=hx;have hkI:(k:Int)<cs.length:=by omega
   have HT0:Hid (joinC V e (cs.take k) ds=accJ V e cs ds x k 0):=(accJ_zero V e cs ds x k).symm;have HT1:Hid (accJ V e cs ds x k ds.length=joinC V e (cs.take (k+1)) ds):=accJ_all V e hx;rw[HT0.out]at hJ;clear hC hx ha hxm HT0;have q1:=hJ.a1;have s1:=hJ.b1;go_wp2_with fail;go_loopw [9] (fun i wr=> ∃ (j:Nat) (y:Value) (us:List Value) (G:List (List Nat)),j≤ds.length∧i=.int .i64 j∧JnW w W U (some ⟨b,o,none⟩) a' cs.length c ds.length c' e (.slice ae e.ks.length ce) V (accJ V e cs ds x k j) y us G wr) (fun i _=>ds.length - (intOf i).toNat)
   case atStart=>exact⟨0,y,us,G,Nat.zero_le _,rfl,hJ⟩
   case round=>
    clear hJ q1 s1;obtain⟨j,y,us,G,hj,rfl,hJ⟩:=hrel;by_cases hjl:j<ds.length
    ·obtain⟨rfl,hblt',_⟩:=ha' j hjl;obtain⟨z,u1,g1,hz,_,d0,hZ,d1,hbr'⟩:=hC'.at hG0' hblt' (Below.refl _ _) hjl;obtain⟨a1,n1,rfl⟩:=hZ.shape;have hzm:=mg8 hz;have hzc:=hal'.2.2.2 z hzm;have hzn:z.r.length≤1048576:=by have:=wt_mem hzm;unfold wt at this;unfold wtb at hn';omega
     have hzr:=hM'.row z hzm;have hjI:(j:Int)<ds.length:=by omega
     have hb:=hJ.bel;have hbig:=hJ.big;have hzw:=hb.size;have hrV:RowV (x.r++z.r):=fun q hq=>(List.mem_append.1 hq).elim (hxr.2 q) (hzr.2 q);have hlx:(x.r.length:Int)≤12:=by omega
     have hlz:(z.r.length:Int)≤12:=by omega
     have hRes:=hV.res e (x.r++z.r) hGE hrV;have hmul:0<x.n*z.n∧x.n*z.n≤1000000000000000000:=⟨Int.mul_pos hxc.1 hzc.1,by have:=Int.mul_le_mul hxc.2 hzc.2 (by omega) (by decide);simpa using this⟩;have hwm:IntKind.i64.wrap (x.n*z.n)=x.n*z.n:=by rw[IntKind.wrap_i64];omega
     have hwm2:wrap64 (x.n*z.n)=x.n*z.n:=by unfold wrap64;omega
     obtain⟨hsA,hsl,hsb⟩:=accJ_bd (V:=V) e hM hM' HX.out j;have HSb:Hid (∀c∈accJ V e cs ds x k j,-4000000000000000000≤c.n∧c.n≤4000000000000000000):=hsb;have HNo:Hid (isTV (V e (x.r++z.r))=false→accJ V e cs ds x k (j+1)=accJ V e cs ds x k j):=fun hT=>accJ_no (V:=V) (cs:=cs) (x:=x) (k:=k) e hz hT;have HYes:Hid (isTV (V e (x.r++z.r))=true→accJ V e cs ds x k (j+1)=putC (accJ V e cs ds x k j) (x.r++z.r) (x.n*z.n)):=fun hT=>accJ_yes (V:=V) e hM hM' HX.out hz hT;have q1:=hJ.a1;have s1:=hJ.b1;have e0:=((bc8 hb).1 b (o+k*2) hblt).trans c0;have e1:=((bc8 hb).1 b (o+k*2+1) hblt).trans c1;have f0:=((bc8 hb).1 b' (o'+j*2) hblt').trans d0;have f1:=((bc8 hb).1 b' (o'+j*2+1) hblt').trans d1;have hRw:=hR.below hb;have hZw:=hZ.below hb;have hEv:=fun(w2:World) (hb2:Below w.heap.size w w2) (v2:Value) (hv2:RowIs w2 v2 (x.r++z.r))=>specEval_yes (w:=w2) he (hk0.below hb2) hv2 hok hRes;have hml:x.r.length+z.r.length≤maxLen:=by unfold maxLen;omega
     have hby:(x.r.length+z.r.length)*32≤140737488355328:=by omega
     obtain⟨row,hrow⟩:∃row,row=x.r++z.r:=⟨_,rfl⟩;have hrl:row.length=x.r.length+z.r.length:=by rw[hrow];simp
     rw[←hrow]at hEv hRes HNo HYes;clear hsb ha' hC' hz hzm hRes;clear hrl;have hrl:row.length≤1048576:=by rw[hrow];simp;omega
     have HROW:Hid (row=x.r++z.r):=hrow;clear hrow;go_wp2_with fail;refine startE 14 (fun w'=>w'.cell? ⟨w.heap.size,1,none⟩=some (.slice (some ⟨b,o,none⟩) cs.length c)∧w'.cell? ⟨b,o+k*2,none⟩=some (.slice a0 x.r.length n0)∧w'.cell? ⟨w.heap.size+1,1,none⟩=some (.slice (some ⟨b',o',none⟩) ds.length c')∧w'.cell? ⟨b',o'+j*2,none⟩=some (.slice a1 z.r.length n1)) (by kernel_rfl) ?_ (fun hHeld=>?_)
     ·exact⟨q1,e0,s1,f0⟩
     refine tkE 0 31 rfl rfl ?_;refine tkE 1 32 rfl rfl ?_;refine tkE 2 33 rfl rfl ?_;refine tkE 3 34 rfl rfl ?_;refine tkE 4 35 rfl rfl ?_;refine tkE 5 36 rfl rfl ?_;refine tkE 7 38 rfl rfl ?_;refine tkE 8 39 rfl rfl ?_;refine tkE 9 40 rfl rfl ?_;refine tkE 10 41 rfl rfl ?_;refine tkE 11 42 rfl rfl ?_;refine tkE 12 43 rfl rfl ?_;refine onE 6 rfl fun K hK=>?_;go_simp;go_at_call 72;refine cM8 (l02CopyRowO_any (.slice a0 x.r.length n0) x.r g0 _ (hRw.below ?hbb) hxn) ?_
     case hbb=>exact bex
     rintro q w2 ⟨⟨u2,rfl,hown2⟩,hb2⟩;have hzw2:=hb2.size;rw[show wr.drew.heap.size=wr.heap.size from rfl]at hzw2 hown2;have bel2:Below wr.heap.size wr w2:=bex;have hol:=oL8 hown2;have q1b:=((bc8 bel2).1 w.heap.size 1 (by omega)).trans q1;have e0b:=((bc8 bel2).1 b (o+k*2) (by omega)).trans e0;have s1b:=((bc8 bel2).1 (w.heap.size+1) 1 (by omega)).trans s1;have f0b:=((bc8 bel2).1 b' (o'+j*2) (by omega)).trans f0;have hZ2:=hZw.below bel2;obtain⟨a2,c2,e2⟩:∃a2 c2,u2=.slice a2 x.r.length c2:=by rcases hown2.2 with⟨rfl,h0⟩|⟨g,cap,cur,hv,_⟩;exact⟨none,0,by rw[h0]⟩;exact⟨_,cap,hv⟩
     subst e2;try go_wp2_with fail
     refine hK.out _ _ ?_ (fun hHeld6=>?_)
     ·intro _;exact⟨q1b,e0b,s1b,f0b⟩
     clear hK;replace hHeld6:=hHeld6 (by decide);refine onE 13 rfl fun K hK=>?_;refine step_append_src _ (by rfl) _ _ _ (by rfl) wr.heap.size 36 i0 _ 3 32 Tryz.underlying94 hi hz0 hz1 hz2' rfl (by omega) (.slice a2 x.r.length c2) x.r.length (rc x.r) (by rfl) hown2 (.slice a1 z.r.length n1) z.r.length (rc z.r) (by rfl) (rowSrc hZ2) (rc_one z.r) hml hby (by omega) ?_;intro v3 w3 hown3 hgrow hat;have hz3:=hgrow.size;rw[←rc_app,←HROW.out]at hown3;have hfb:∀t,t<wr.heap.size→(Value.slice a2 x.r.length c2).ownBlock≠some t:=fun t ht ee=>by have:=(hol t ee).1;omega
     have far:∀b q,b<wr.heap.size→w3.cell? ⟨b,q,none⟩=w2.cell? ⟨b,q,none⟩:=fun b q hb=>hgrow.cell_far _ (by simp;omega) (Ne.symm (hfb b hb));have q1c:=(far w.heap.size 1 (by omega)).trans q1b;have e0c:=(far b (o+k*2) (by omega)).trans e0b;have s1c:=(far (w.heap.size+1) 1 (by omega)).trans s1b;have f0c:=(far b' (o'+j*2) (by omega)).trans f0b;have bel3:Below wr.heap.size wr w3:=Below.grown bel2 hgrow (by omega) (fun t ht=>by have:=(hol t ht).1;omega);refine hK.out _ _ ?_ (fun hHeld13=>?_)
     ·intro _;exact⟨q1c,e0c,s1c,f0c⟩
     clear hK;replace hHeld13:=hHeld13 (by decide);refine onE 14 rfl fun K hK=>?_;go_simp;refine hK.out _ _ ?_ (fun hHeld14=>?_)
     ·exact fun h=>absurd rfl h
     clear hK hHeld14;refine doneE (by kernel_rfl) ?_ _;clear hgrow hat far hown2 hb2 hZ2 hol q1b e0b s1b f0b;obtain⟨gr,hrF,hrO⟩:=own_rowF hown3;have bel3':Below w.heap.size w w3:=hb.trans (bel3.mono hzw);have hJ3:=hJ.below bel3;obtain⟨ar,cr,rfl⟩:=hrF.shape;clear hJ hown3 hrO q1c s1c e0c f0c e0 e1 f0 f1 q1 s1;obtain⟨_,x0,x1,x2,x3,x4,x5,x6⟩:=id hJ3.bx;obtain⟨vv,HVV⟩:∃q,Hid (V e row=q):=⟨_,rfl⟩;rw[HVV.out]at hEv;go_wp2_with fail;refine cM8 (hEv _ bel3' _ hrF.is) ?_;rintro zz w4 ⟨rfl,hb4⟩;have hz4:=hb4.size;go_wp2_with fail;refine cM8 (specIsTv_any vv _) ?_;rintro zz w5 ⟨rfl,hb5⟩;have hz5:=hb5.size;cases hT:isTV vv
     ·have HA:Hid (_):=HNo.out (by rw[HVV.out];exact hT);have hJ5:=hJ3.below (hb4.trans (hb5.mono hz4));rw[←HA.out]at hJ5;clear x0 x1 x2 x3 x4 x5 x6 hJ3 hEv HYes HNo hT HVV;go_wp2_with fail;exact⟨⟨j+1,_,_,_,hjl,by simp,hJ5⟩,by simp[intOf];omega⟩
     ·have HA:Hid (_):=HYes.out (by rw[HVV.out];exact hT);have bel5:Below w3.heap.size w3 w5:=hb4.trans (hb5.mono hz4);have hJ5:=hJ3.below bel5;have hrF5:=hrF.below bel5;have hb5':=hJ5.bel;have hbig5:=hJ5.big;have hzw5:=hb5'.size;have q1:=hJ5.a1;have s1:=hJ5.b1;have p0:=hJ5.p0;have p1:=hJ5.p1;have e1:=((bc8 hb5').1 b (o+k*2+1) hblt).trans c1;have f1:=((bc8 hb5').1 b' (o'+j*2+1) hblt').trans d1;have hown5:=hJ5.own;obtain⟨ay,cy,rfl⟩:=hown5.shape;have hm0: -1000000000000000000≤x.n*z.n:=by omega
      have hm1:x.n*z.n≤1000000000000000000:=hmul.2;have hct:(accJ V e cs ds x k j).length≤2097152:=by omega
      have HPP:=l02Put_any (W+U) (x.n*z.n) (.slice ay (accJ V e cs ds x k j).length cy) (.slice ar row.length cr) (accJ V e cs ds x k j) us G row gr (w.heap.size+1+1+1+1+1);have HA':Hid (accJ V e cs ds x k (j+1)=putC (accJ V e cs ds x k j) row (x.n*z.n)):=HA;clear x0 x1 x2 x3 x4 x5 x6 hJ3 hEv HYes HNo hT HVV HA hrF hb4 hb5 hz4 hz5 hwm2 hwu hwu2 hmul hal hal' hxc hzc hsl hml hby;generalize accJ V e cs ds x k j=ct at*;go_wp2_with fail;refine startE 16 (fun w'=>w'.cell? ⟨w.heap.size+1+1+1+1,0,none⟩=some (.int .i64 (W+U))∧w'.cell? ⟨w.heap.size+1+1+1+1,1,none⟩=some (.slice ay ct.length cy)∧w'.cell? ⟨w.heap.size,1,none⟩=some (.slice (some ⟨b,o,none⟩) cs.length c)∧w'.cell? ⟨b,o+k*2+1,none⟩=some (.int .i64 x.n)∧w'.cell? ⟨w.heap.size+1,1,none⟩=some (.slice (some ⟨b',o',none⟩) ds.length c')∧w'.cell? ⟨b',o'+j*2+1,none⟩=some (.int .i64 z.n)) (by kernel_rfl) ?_ (fun hHeld=>?_)
      ·exact⟨p0,p1,q1,e1,s1,f1⟩
      refine tkE 0 49 rfl rfl ?_;refine tkE 1 50 rfl rfl ?_;refine tkE 2 51 rfl rfl ?_;refine tkE 3 52 rfl rfl ?_;refine tkE 4 53 rfl rfl ?_;refine tkE 5 54 rfl rfl ?_;refine tkE 6 55 rfl rfl ?_;refine tkE 7 56 rfl rfl ?_;refine tkE 8 57 rfl rfl ?_;refine tkE 9 58 rfl rfl ?_;refine tkE 10 59 rfl rfl ?_;refine tkE 11 60 rfl rfl ?_;refine tkE 12 61 rfl rfl ?_;refine tkE 13 62 rfl rfl ?_;refine tkE 14 63 rfl rfl ?_;refine onE 15 rfl fun K hK=>?_;go_simp;go_at_call 75;refine cM8 (HPP _ (hown5.below bex) (hrF5.below bex) hsA (by simp;omega) hct hrl hm0 hm1 HSb.out _ rfl) ?_;rintro zz w6 ⟨v6,us6,G6,rfl,hB6,hv6,hG6,hb6,hgr6⟩;obtain⟨a6,c6,rfl⟩:=hB6.shape;have hz6:=hb6.size;simp at hz6;have kB:∀q,q<w.heap.size+1+1+1+1+1→w6.heap[q]?=w5.heap[q]?:=fun q hq=>hb6.block q hq;have p06:=(cb8 (kB (w.heap.size+1+1+1+1) (by omega))).trans p0;have p16:=(cb8 (kB (w.heap.size+1+1+1+1) (by omega))).trans p1;have pf6:∀q,w6.frozen? ⟨w.heap.size+1+1+1+1,q,none⟩=false:=fun q=>(fb8 (kB (w.heap.size+1+1+1+1) (by omega))).trans (hJ5.pf q);have q16:=(cb8 (kB w.heap.size (by omega))).trans q1;have s16:=(cb8 (kB (w.heap.size+1) (by omega))).trans s1;have e16:=(cb8 (kB b (by omega))).trans e1;have f16:=(cb8 (kB b' (by omega))).trans f1;try go_wp2_with fail
      refine hK.out _ _ ?_ (fun hHeld15=>?_)
      ·intro _;exact⟨p06,p16,q16,e16,s16,f16⟩
      clear hK;replace hHeld15:=hHeld15 (by decide);refine onE 16 rfl fun K hK=>?_;go_simp;refine hK.out _ _ ?_ (fun hHeld16=>?_)
      ·exact fun h=>absurd rfl h
      clear hK hHeld16;refine doneE (by kernel_rfl) ?_ _;have hJ6:=hJ5.put (show Below (w.heap.size+1+1+1+1+1) w5 w6 from⟨hb6.os,hb6.tape,hb6.output,hb6.size,hb6.block⟩) hB6;clear hB6 hgr6 kB p06 p16 q16 s16 e16 f16 hJ5 hown5 HPP hsA p0 p1 q1 s1 e1 f1;go_wp2_with fail;exact⟨⟨j+1,.slice a6 (putC ct row (x.n*z.n)).length c6,us6,G6,hjl,by simp,by rw[HA'.out];exact hJ6⟩,by simp[intOf];omega⟩
    ·obtain rfl:j=ds.length:=by omega
     rw[HT1.out]at hJ;clear ha' hC';obtain⟨z0,z1,z2,z3,z4,z5,z6,z7,z8,z9,z10,z11,z12,z13⟩:=id hJ;go_wp2_with fail;exact⟨⟨k+1,_,_,_,hlt,by simp,hJ⟩,by simp[intOf];omega⟩
  ·obtain rfl:k=cs.length:=by omega
   rw[List.take_length,hP.out]at hJ;obtain⟨z0,z1,z2,z3,z4,z5,z6,z7,z8,z9,z10,hB,hb,hzb⟩:=hJ;obtain⟨ay,cy,rfl⟩:=hB.shape;clear ha hC hP ha' hC';go_wp2;refine bodyPost_ret (v:=.agg #[.int .i64 (W+U),.slice ay P.length cy]) (by simp[results,Tryz.results53,go_sem, *]) rfl ⟨⟨_,us,G,rfl,(hB.keep (by simp) fun b hb _=>?_).weak (by omega)⟩,?_⟩
   ·repeat rw[bS8 _ _ _ _ (by simp;omega)]
   ·repeat (first|(with_reducible exact hb)|(with_reducible refine Below.setCell ?_ ?hh _;case hh=>(simp;try omega)))
end
end Go.Proofs.YtflokiejcjjbiaaGreat
