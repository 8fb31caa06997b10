/- Own texts, joined: contracts that the law's proof goes by. -/
import Derived.Test.YtflokiejcjjbiaaGreatGLFits3
import Derived.Test.YtflokiejcjjbiaaGreatGLFits2
set_option maxHeartbeats 16000000
set_option maxRecDepth 100000
set_option linter.unusedVariables false
set_option linter.unusedSimpArgs false
namespace Go.Proofs.YtflokiejcjjbiaaGreat
section
open Go.RowKit Go.Deep
theorem cb8 {w w':World}{b o:Nat}(h:w'.heap[b]?=w.heap[b]?):w'.cell? ⟨b,o,none⟩=w.cell? ⟨b,o,none⟩:=by
 simp only[World.cell?,h]
theorem fb8 {w w':World}{b o:Nat}(h:w'.heap[b]?=w.heap[b]?):w'.frozen? ⟨b,o,none⟩=w.frozen? ⟨b,o,none⟩:=by
 simp only[World.frozen?,h]
def OwnN (w:World)(N:Nat)(F:List Nat):Prop:=F.Nodup∧∀b∈F,N≤b∧∀o,w.frozen? ⟨b,o,none⟩=false
theorem OwnN.keep {w w':World}{N:Nat}{F:List Nat}(h:OwnN w N F)(hF:∀b∈F,w'.heap[b]?=w.heap[b]?):OwnN w' N F:=
 ⟨h.1,fun b hb=>⟨(h.2 b hb).1,fun o=>(fb8 (hF b hb)).trans ((h.2 b hb).2 o)⟩⟩
theorem OwnN.below {w w':World}{N:Nat}{F:List Nat}(h:OwnN w N F)(hl:∀b∈F,b<w.heap.size)(hb:Below w.heap.size w w'):OwnN w' N F:=h.keep fun b hF=>hb.block b (hl b hF)
theorem OwnN.app {w:World}{N M:Nat}{F G:List Nat}(h:OwnN w N F)(k:OwnN w M G)(hM:∀b∈F,b<M)(hNM:N≤M):OwnN w N (F++G):=by
 refine⟨List.nodup_append.2 ⟨h.1,k.1,fun a ha b hb=>?_⟩,fun b hb=>?_⟩
 ·rintro rfl;have:=hM a ha;have:=(k.2 a hb).1;omega
 ·rcases List.mem_append.1 hb with hb|hb
  ·exact h.2 b hb
  ·exact⟨Nat.le_trans hNM (k.2 b hb).1,(k.2 b hb).2⟩
theorem OwnN.weak {w:World}{N M:Nat}{F:List Nat}(h:OwnN w N F)(hM:M≤N):OwnN w M F:=⟨h.1,fun b hb=>⟨Nat.le_trans hM (h.2 b hb).1,(h.2 b hb).2⟩⟩
end
section
open Go.RowKit Go.Deep
abbrev Own (w:World) (N:Nat) (F:List Nat):Prop:=OwnN w N F
theorem Own.keep {w w':World}{N:Nat}{F:List Nat}(h:Own w N F)(hF:∀b∈F,w'.heap[b]?=w.heap[b]?):Own w' N F:=
 ⟨h.1,fun b hb=>⟨(h.2 b hb).1,fun o=>(fb8 (hF b hb)).trans ((h.2 b hb).2 o)⟩⟩
theorem Own.below {w w':World}{N:Nat}{F:List Nat}(h:Own w N F)(hl:∀b∈F,b<w.heap.size)(hb:Below w.heap.size w w'):Own w' N F:=h.keep fun b hF=>hb.block b (hl b hF)
theorem Own.app {w:World}{N M:Nat}{F G:List Nat}(h:Own w N F)(k:Own w M G)(hM:∀b∈F,b<M)(hNM:N≤M):Own w N (F++G):=by
 refine⟨List.nodup_append.2 ⟨h.1,k.1,fun a ha b hb=>?_⟩,fun b hb=>?_⟩
 ·rintro rfl;have:=hM a ha;have:=(k.2 a hb).1;omega
 ·rcases List.mem_append.1 hb with hb|hb
  ·exact h.2 b hb
  ·exact⟨Nat.le_trans hNM (k.2 b hb).1,(k.2 b hb).2⟩
theorem Own.weak {w:World}{N M:Nat}{F:List Nat}(h:Own w N F)(hM:M≤N):Own w M F:=⟨h.1,fun b hb=>⟨Nat.le_trans hM (h.2 b hb).1,(h.2 b hb).2⟩⟩
end
section
open Go.RowKit Go.Deep Go.ChangeShapes Go.WideShapes
abbrev E7:Type:=DataW (Int×Int×V3×ByteArray)
namespace E7
def mk (k n:Int)(v:V3)(p:ByteArray)(ks:List E7):E7:=.agg (.held (k,n,v,p)::ks)
def k (e:E7):Int:=match e with| .agg (.held q::_)=>q.1|_=>0
def n (e:E7):Int:=match e with| .agg (.held q::_)=>q.2.1|_=>0
def v (e:E7):V3:=match e with| .agg (.held q::_)=>q.2.2.1|_=>⟨0,0,⟨#[]⟩⟩
def p (e:E7):ByteArray:=match e with| .agg (.held q::_)=>q.2.2.2|_=>⟨#[]⟩
def ks (e:E7):List E7:=match e with| .agg (.held _::l)=>l|_=>[]
theorem mk_k (k n:Int)(v:V3)(p:ByteArray)(ks:List E7):(E7.mk k n v p ks).k=k:=rfl
theorem mk_n (k n:Int)(v:V3)(p:ByteArray)(ks:List E7):(E7.mk k n v p ks).n=n:=rfl
theorem mk_v (k n:Int)(v:V3)(p:ByteArray)(ks:List E7):(E7.mk k n v p ks).v=v:=rfl
theorem mk_p (k n:Int)(v:V3)(p:ByteArray)(ks:List E7):(E7.mk k n v p ks).p=p:=rfl
def wf (e:E7):Prop:=(Lit.int .i64 e.k).wf=true∧(Lit.int .i64 e.n).wf=true∧e.v.wf∧e.p.size≤maxLen
end E7
def wtE:DataW (Int×Int×V3×ByteArray)→Nat
 | .agg (.held q::l)=>q.2.2.1.s.size+q.2.2.2.size+(l.length+(l.attach.map fun x=>have:=List.sizeOf_lt_of_mem x.2;wtE x.1).sum)
 |_=>0
def wtEs:List E7→Nat
 | []=>0
 |e::es=>wtE e+wtEs es
theorem wtEs_sum (l:List E7):(l.map wtE).sum=wtEs l:=by
 induction l with
 |nil=>rfl
 |cons e es ih=>rw[List.map_cons,List.sum_cons,wtEs,ih]
theorem wtE_eq (e:E7):wtE e=e.v.s.size+e.p.size+(e.ks.length+wtEs e.ks):=by
 rw[wtE.eq_def];split
 ·rename_i q l
  have:(l.attach.map fun x=>wtE x.1)=l.map wtE:=by simp
  show q.2.2.1.s.size+q.2.2.2.size+(l.length+(l.attach.map fun x=>wtE x.1).sum)=q.2.2.1.s.size+q.2.2.2.size+(l.length+wtEs l);rw[this,wtEs_sum]
 ·rename_i h
  have hv:E7.v e=⟨0,0,⟨#[]⟩⟩:=by unfold E7.v;split;exact absurd rfl (h _ _);rfl
  have hp:E7.p e=⟨#[]⟩:=by unfold E7.p;split;exact absurd rfl (h _ _);rfl
  have hk:E7.ks e=[]:=by unfold E7.ks;split;exact absurd rfl (h _ _);rfl
  rw[hv,hp,hk];rfl
theorem wtEs_app (a b:List E7):wtEs (a++b)=wtEs a+wtEs b:=by
 induction a with
 |nil=>simp[wtEs]
 |cons x xs ih=>rw[List.cons_append,wtEs,wtEs,ih];omega
theorem wtEs_take {es:List E7}{k:Nat}{e:E7}(h:es[k]?=some e):wtEs (es.take (k+1))=wtEs (es.take k)+wtE e:=by
 obtain⟨hk,rfl⟩:=gE1 h;rw[List.take_succ_eq_append_getElem hk,wtEs_app];simp[wtEs]
theorem wtE_mem {es:List E7}{e:E7}(h:e∈es):wtE e≤wtEs es:=by
 induction es with
 |nil=>cases h
 |cons y ys ih=>
  rw[wtEs];rcases List.mem_cons.1 h with rfl|h
  ·omega
  ·have:=ih h;omega
def cellsE (w:World)(b q:Nat)(e:E7):Prop:=
 w.cell? ⟨b,q,none⟩=some (.int .i64 e.k)∧w.cell? ⟨b,q+1,none⟩=some (.int .i64 e.n)∧w.cell? ⟨b,q+2,none⟩=some (.int .i64 e.v.k)∧w.cell? ⟨b,q+3,none⟩=some (.int .i64 e.v.n)∧w.cell? ⟨b,q+4,none⟩=some (.string e.v.s)∧w.cell? ⟨b,q+5,none⟩=some (.string e.p)
def KidsIs (w:World):Nat→Value→List E7→List Nat→Prop
 |0,_,_,_=>False
 |d+1,v,es,F=> ∃ (a:Option Addr) (c:Nat) (G:List (List Nat)),v=.slice a es.length c∧es.length≤c∧c≤maxLen∧G.length=es.length∧(es=[]→F=[])∧
   (es≠ []→∃b o,a=some ⟨b,o,none⟩∧b<w.heap.size∧F=b::G.flatten∧ ∀i e g,es[i]?=some e→G[i]?=some g→e.wf∧cellsE w b (o+i*7) e∧∃u,w.cell? ⟨b,o+i*7+6,none⟩=some u∧KidsIs w d u e.ks g)
def ELies (w:World)(d b o:Nat)(es:List E7)(G:List (List Nat)):Prop:=
 ∀i e g,es[i]?=some e→G[i]?=some g→e.wf∧cellsE w b (o+i*7) e∧∃u,w.cell? ⟨b,o+i*7+6,none⟩=some u∧KidsIs w d u e.ks g
theorem cellsE.keep {w w':World}{b q:Nat}{e:E7}(h:cellsE w b q e)(hb:w'.heap[b]?=w.heap[b]?):cellsE w' b q e:=by
 obtain⟨h0,h1,h2,h3,h4,h5⟩:=h;exact⟨(cb8 hb).trans h0,(cb8 hb).trans h1,(cb8 hb).trans h2,(cb8 hb).trans h3,(cb8 hb).trans h4,(cb8 hb).trans h5⟩
theorem KidsIs.lt {w:World}:∀ {d:Nat} {v:Value} {es:List E7} {F:List Nat},KidsIs w d v es F→∀b∈F,b<w.heap.size
 |0,_,_,_,h=>h.elim
 |d+1,v,es,F,h=>by
  obtain⟨a,c,G,rfl,_,_,hG,h0,h⟩:=h;by_cases hne:es=[]
  ·rw[h0 hne];intro b hb;cases hb
  obtain⟨b,o,rfl,hlt,rfl,hL⟩:=h hne;intro x hx;rcases List.mem_cons.1 hx with rfl|hx
  ·exact hlt
  obtain⟨g,hg,hxg⟩:=List.mem_flatten.1 hx;obtain⟨i,hi,rfl⟩:=List.mem_iff_getElem.1 hg;have hi':i<es.length:=by omega
  obtain⟨_,_,u,_,hk⟩:=hL i es[i] G[i] (by simp) (by simp);exact hk.lt x hxg
theorem KidsIs.keep {w w':World}(hs:w.heap.size≤w'.heap.size):∀ {d:Nat} {v:Value} {es:List E7} {F:List Nat},KidsIs w d v es F→(∀b∈F,w'.heap[b]?=w.heap[b]?)→KidsIs w' d v es F
 |0,_,_,_,h,_=>h.elim
 |d+1,v,es,F,h,hF=>by
  obtain⟨a,c,G,rfl,hl,hc,hG,h0,h⟩:=h;refine⟨a,c,G,rfl,hl,hc,hG,h0,fun hne=>?_⟩;obtain⟨b,o,rfl,hlt,rfl,hL⟩:=h hne;refine⟨b,o,rfl,Nat.lt_of_lt_of_le hlt hs,rfl,fun i e g he hg=>?_⟩;obtain⟨hw,hc,u,hu,hk⟩:=hL i e g he hg;have hb:=hF b List.mem_cons_self;exact⟨hw,hc.keep hb,u,(cb8 hb).trans hu,hk.keep hs fun x hx=>hF x (List.mem_cons_of_mem _ (List.mem_flatten.2 ⟨g,mg8 hg,hx⟩))⟩
theorem KidsIs.below {w w':World}{d:Nat}{v:Value}{es:List E7}{F:List Nat}(h:KidsIs w d v es F)(hb:Below w.heap.size w w'):KidsIs w' d v es F:=
 h.keep hb.size fun b hF=>hb.block b (h.lt b hF)
theorem KidsIs.up {w:World}:∀ {d d':Nat} {v:Value} {es:List E7} {F:List Nat},KidsIs w d v es F→d≤d'→KidsIs w d' v es F
 |0,_,_,_,_,h,_=>h.elim
 |d+1,0,_,_,_,_,hd=>absurd hd (by omega)
 |d+1,d'+1,v,es,F,h,hd=>by
  obtain⟨a,c,G,rfl,hl,hc,hG,h0,h⟩:=h;refine⟨a,c,G,rfl,hl,hc,hG,h0,fun hne=>?_⟩;obtain⟨b,o,rfl,hlt,rfl,hL⟩:=h hne;refine⟨b,o,rfl,hlt,rfl,fun i e g he hg=>?_⟩;obtain⟨hw,hc,u,hu,hk⟩:=hL i e g he hg;exact⟨hw,hc,u,hu,hk.up (by omega)⟩
theorem KidsIs.pick {w:World}{d:Nat}{v:Value}{es:List E7}{F:List Nat}(h:KidsIs w (d+1) v es F):∃a c b o G,v=.slice a es.length c∧es.length≤c∧c≤maxLen∧G.length=es.length∧(es=[]→F=[])∧∀k,k<es.length→a=some ⟨b,o,none⟩∧b<w.heap.size∧F=b::G.flatten∧ELies w d b o es G:=by
 obtain⟨a,c,G,rfl,hl,hc,hG,h0,h⟩:=h;by_cases hne:es=[]
 ·exact⟨a,c,0,0,G,rfl,hl,hc,hG,h0,fun k hk=>by rw[hne]at hk;simp at hk⟩
 ·obtain⟨b,o,h⟩:=h hne;exact⟨a,c,b,o,G,rfl,hl,hc,hG,h0,fun _ _=>h⟩
theorem KidsIs.shape {w:World}{d:Nat}{v:Value}{es:List E7}{F:List Nat}(h:KidsIs w d v es F):∃a c,v=.slice a es.length c∧es.length≤c∧c≤maxLen:=by
 cases d with
 |zero=>exact h.elim
 |succ d=>
  obtain⟨a,c,G,rfl,hl,hc,_⟩:=h;exact⟨a,c,rfl,hl,hc⟩
theorem ELies.at {w w':World}{d b o:Nat}{es:List E7}{G:List (List Nat)}(h:ELies w d b o es G)(hG:G.length=es.length)(hlt:b<w.heap.size)(hb:Below w.heap.size w w'){k:Nat}(hk:k<es.length):∃e g u,es[k]?=some e∧G[k]?=some g∧e.wf∧cellsE w' b (o+k*7) e∧w'.cell? ⟨b,o+k*7+6,none⟩=some u∧KidsIs w' d u e.ks g∧b<w'.heap.size:=by
 have hk':k<G.length:=by omega
 obtain⟨hw,hc,u,hu,hK⟩:=h k es[k] G[k] (by simp) (by simp);exact⟨es[k],G[k],u,by simp,by simp,hw,hc.keep (hb.block b hlt),(hb.cell (p:=⟨b,_,none⟩) hlt).trans hu,hK.below hb,Nat.lt_of_lt_of_le hlt hb.size⟩
section
variable {H:Type} {enc:TypeId×Value→H} {P:Program} {w:World} {spare:Nat→Bool} {held:Bool}
theorem open_kids {t e:TypeId}{G0 G1 G2 G3 G4 F0 F1 F2:Field}(ht:P.underlying t=some (.slice e))(he:P.underlying e=some (.struct #[G0,G1,G2,G3,G4]))(cg:P.cellsOf e=7) (p0:G0.offset=0) (p1:G1.offset=1) (p2:G2.offset=2) (p3:G3.offset=5) (p4:G4.offset=6) (g0:P.cellsOf G0.type=1) (g1:P.cellsOf G1.type=1) (g2:P.cellsOf G2.type=3) (g3:P.cellsOf G3.type=1) (g4:P.cellsOf G4.type=1)(v0:P.underlying G0.type=some (.int .i64)) (v1:P.underlying G1.type=some (.int .i64)) (v2:P.underlying G2.type=some (.struct #[F0,F1,F2])) (v3:P.underlying G3.type=some .string) (v4:G4.type=t)(o0:F0.offset=0) (o1:F1.offset=1) (o2:F2.offset=2) (c0:P.cellsOf F0.type=1) (c1:P.cellsOf F1.type=1) (c2:P.cellsOf F2.type=1)(u0:P.underlying F0.type=some (.int .i64)) (u1:P.underlying F1.type=some (.int .i64)) (u2:P.underlying F2.type=some .string):∀ (N fuel:Nat),fuel≤N→∀ {v:Value} {x:DataW H×List MemPlace},DataW.trod enc P w 0 spare held fuel t [v]=some x→∃es F,KidsIs w (N+1) v es F:=by
 intro N;induction N with
 |zero=>
  intro fuel hf v x h;obtain rfl:fuel=0:=by omega
  simp[DataW.trod]at h
 |succ N ih=>
  intro fuel hf v x h;rcases DataW.trod_slice ht h with⟨h0,_⟩|⟨a,len,cap,elems,rest,n,hfn,hcs,rfl,hb,hl,hm,hlen,hel,hsp,hns⟩
  ·simp at h0;subst h0;exact⟨[],[],none,0,[],rfl,by simp,by simp,rfl,fun _=>rfl,fun h=>absurd rfl h⟩
  simp at hcs;subst hcs;have each:∀i,i<len→∃q:E7×List Nat,q.1.wf∧(w.cell? (a.add (i*7))=some (.int .i64 q.1.k)∧w.cell? (a.add (i*7+1))=some (.int .i64 q.1.n)∧w.cell? (a.add (i*7+2))=some (.int .i64 q.1.v.k)∧w.cell? (a.add (i*7+3))=some (.int .i64 q.1.v.n)∧w.cell? (a.add (i*7+4))=some (.string q.1.v.s)∧w.cell? (a.add (i*7+5))=some (.string q.1.p))∧∃u,w.cell? (a.add (i*7+6))=some u∧KidsIs w (N+1) u q.1.ks q.2:=by
   intro i hi;have hi1:=hel i hi;have hie:elems[i]?=some elems[i]:=by simp[hlen,hi]
   rw[hie,Option.bind_eq_some_iff]at hi1;obtain⟨cs',h1,h2⟩:=hi1;rw[cg]at h1;obtain⟨_,hlen7,hcell⟩:=World.cells?_some h1;obtain⟨xs,k,hk,hxy,_,hxl,hfld⟩:=DataW.trod_struct he h2
   match xs,hxl,cs',hlen7 with
   | [y0,y1,y2,y3,y4],_,[z0,z1,z2,z3,z4,z5,z6],_=>
    have a0:=hfld 0 G0 rfl;have a1:=hfld 1 G1 rfl;have a2:=hfld 2 G2 rfl;have a3:=hfld 3 G3 rfl;have a4:=hfld 4 G4 rfl;simp[p0,p1,p2,p3,p4,g0,g1,g2,g3,g4]at a0 a1 a2 a3 a4;have e0:=hcell 0 (by omega);have e1:=hcell 1 (by omega);have e2:=hcell 2 (by omega);have e3:=hcell 3 (by omega);have e4:=hcell 4 (by omega);have e5:=hcell 5 (by omega);have e6:=hcell 6 (by omega);rw[add_add]at e0 e1 e2 e3 e4 e5 e6;obtain⟨n0,q0,_,w0⟩:=DataW.trod_int v0 a0;obtain⟨n1,q1,_,w1⟩:=DataW.trod_int v1 a1;obtain⟨n3,q3,_,w3⟩:=DataW.trod_string v3 a3;obtain⟨ys,k2,hk2,_,_,hyl,hfl2⟩:=DataW.trod_struct v2 a2
    match ys,hyl with
    | [b0,b1,b2],_=>
     have r0:=hfl2 0 F0 rfl;have r1:=hfl2 1 F1 rfl;have r2:=hfl2 2 F2 rfl;simp[o0,o1,o2,c0,c1,c2]at r0 r1 r2;obtain⟨m0,s0,_,x0⟩:=DataW.trod_int u0 r0;obtain⟨m1,s1,_,x1⟩:=DataW.trod_int u1 r1;obtain⟨m2,s2,_,x2⟩:=DataW.trod_string u2 r2;simp at q0 q1 q3 s0 s1 s2;subst q0 q1 q3 s0 s1 s2;rw[v4]at a4;obtain⟨ks,F,hK⟩:=ih k (by omega) a4;exact⟨⟨.mk n0 n1 ⟨m0,m1,m2⟩ n3 ks,F⟩,⟨w0,w1,⟨x0,x1,x2⟩,w3⟩,⟨by simpa [E7.mk_k,E7.mk_n,E7.mk_v,E7.mk_p]using e0,by simpa [E7.mk_k,E7.mk_n,E7.mk_v,E7.mk_p]using e1,by simpa [E7.mk_k,E7.mk_n,E7.mk_v,E7.mk_p]using e2,by simpa [E7.mk_k,E7.mk_n,E7.mk_v,E7.mk_p]using e3,by simpa [E7.mk_k,E7.mk_n,E7.mk_v,E7.mk_p]using e4,by simpa [E7.mk_k,E7.mk_n,E7.mk_v,E7.mk_p]using e5⟩,z6,by simpa using e6,hK⟩
  have:Inhabited (E7×List Nat):=⟨⟨E7.mk 0 0 ⟨0,0,⟨#[]⟩⟩ ⟨#[]⟩ [],[]⟩⟩;obtain⟨q,hq⟩:=choose_lt each;refine⟨(List.range len).map fun i=>(q i).1,if len=0 then[]else a.block::((List.range len).map fun i=>(q i).2).flatten,some a,cap,(List.range len).map fun i=>(q i).2,by simp,by simpa using hl,hm,by simp,fun hne=>?_,fun hne=>?_⟩
  ·have:len=0:=by simpa using congrArg List.length hne
   simp[this]
  ·have hpos:0<len:=by
    rcases Nat.eq_zero_or_pos len with h0|h0
    ·subst h0;simp at hne
    ·exact h0
   have hs:a.spot=none:=by have:=World.cell?_spot (hq 0 hpos).2.1.1;simpa [Addr.add]using this
   obtain⟨b,o,sp⟩:=a;simp at hs;subst hs;refine⟨b,o,rfl,?_,by simp;omega,fun i x g hx hg=>?_⟩
   ·have:=bl8 _ _ (hq 0 hpos).2.1.1
    simpa [Addr.add]using this
   ·have hi:i<len:=by
     obtain⟨h1,_⟩:=gE1 hx
     simpa using h1
    have ex:x=(q i).1:=by simp[hi]at hx;exact hx.symm
    have eg:g=(q i).2:=by simp[hi]at hg;exact hg.symm
    subst ex eg;obtain⟨hw,⟨h0,h1,h2,h3,h4,h5⟩,u,h6,hK⟩:=hq i hi;rw[add_plain]at h0 h1 h2 h3 h4 h5 h6;exact⟨hw,⟨h0,by simpa [Nat.add_assoc]using h1,by simpa [Nat.add_assoc]using h2,by simpa [Nat.add_assoc]using h3,by simpa [Nat.add_assoc]using h4,by simpa [Nat.add_assoc]using h5⟩,u,by simpa [Nat.add_assoc]using h6,hK⟩
end
end
end Go.Proofs.YtflokiejcjjbiaaGreat
