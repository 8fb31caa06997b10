/- Own texts, joined: contracts that the law's proof goes by. -/
import Derived.Test.YteekfcdllaceoaaGreatDoorGLAnswer1
import Derived.Handy
import Derived.Laws.RangeAny
import Derived.Deep.RegionHeld3
import Derived.Deep.OwnRows
import Derived.Laws.AppendOwnNone
import Derived.Maps.AppendAt
import Derived.Deep.AppendLies
import Derived.Lib.SliceRun
import Derived.Lib.SlicesCompact
import Derived.Below
import Derived.LaidEql
import Derived.WideKeyRuns
import Derived.MapKept
import Derived.Carry
import Derived.Deep.DrawnRows
import Derived.Laws.AppendOwn
import Derived.Lib.SmallJoins
set_option maxHeartbeats 16000000
set_option maxRecDepth 100000
set_option linter.unusedVariables false
set_option linter.unusedSimpArgs false
namespace Go.Proofs.YteekfcdllaceoaaGreatDoor
section
open Go.RowKit Go.Deep Go.ChangeShapes Go.WideShapes
abbrev E7:Type:=DataW (Int×Int×V3×ByteArray)
namespace E7
def mk (k n:Int)(v:V3)(p:ByteArray)(ks:List E7):E7:=.agg (.held (k,n,v,p)::ks)
def k (e:E7):Int:=match e with| .agg (.held q::_)=>q.1|_=>0
def n (e:E7):Int:=match e with| .agg (.held q::_)=>q.2.1|_=>0
def v (e:E7):V3:=match e with| .agg (.held q::_)=>q.2.2.1|_=>⟨0,0,⟨#[]⟩⟩
def p (e:E7):ByteArray:=match e with| .agg (.held q::_)=>q.2.2.2|_=>⟨#[]⟩
def ks (e:E7):List E7:=match e with| .agg (.held _::l)=>l|_=>[]
theorem mk_k (k n:Int)(v:V3)(p:ByteArray)(ks:List E7):(E7.mk k n v p ks).k=k:=rfl
theorem mk_n (k n:Int)(v:V3)(p:ByteArray)(ks:List E7):(E7.mk k n v p ks).n=n:=rfl
theorem mk_v (k n:Int)(v:V3)(p:ByteArray)(ks:List E7):(E7.mk k n v p ks).v=v:=rfl
theorem mk_p (k n:Int)(v:V3)(p:ByteArray)(ks:List E7):(E7.mk k n v p ks).p=p:=rfl
def wf (e:E7):Prop:=(Lit.int .i64 e.k).wf=true/\(Lit.int .i64 e.n).wf=true/\e.v.wf/\e.p.size<=maxLen
end E7
def wtE:DataW (Int×Int×V3×ByteArray)->Nat
 | .agg (.held q::l)=>q.2.2.1.s.size+q.2.2.2.size+(l.length+(l.attach.map fun x=>have:=List.sizeOf_lt_of_mem x.2;wtE x.1).sum)
 |_=>0
def H4:List E7->Nat
 | []=>0
 |e::es=>wtE e+H4 es
theorem A3K (l:List E7):(l.map wtE).sum=H4 l:=by
 induction l with
 |nil=>rfl
 |cons e es ih=>rw[List.map_cons,List.sum_cons,H4,ih]
theorem j3 (e:E7):wtE e=e.v.s.size+e.p.size+(e.ks.length+H4 e.ks):=by
 rw[wtE.eq_def];split
 ·rename_i q l
  have:(l.attach.map fun x=>wtE x.1)=l.map wtE:=by simp
  show q.2.2.1.s.size+q.2.2.2.size+(l.length+(l.attach.map fun x=>wtE x.1).sum)=q.2.2.1.s.size+q.2.2.2.size+(l.length+H4 l);rw[this,A3K]
 ·rename_i h
  have hv:E7.v e=⟨0,0,⟨#[]⟩⟩:=by unfold E7.v;split;exact absurd rfl (h _ _);rfl
  have hp:E7.p e=⟨#[]⟩:=by unfold E7.p;split;exact absurd rfl (h _ _);rfl
  have hk:E7.ks e=[]:=by unfold E7.ks;split;exact absurd rfl (h _ _);rfl
  rw[hv,hp,hk];rfl
theorem B1e (a b:List E7):H4 (a++b)=H4 a+H4 b:=by
 induction a with
 |nil=>simp[H4]
 |cons x xs ih=>rw[List.cons_append,H4,H4,ih];omega
theorem C25 {es:List E7}{k:Nat}{e:E7}(h:es[k]?=some e):H4 (es.take (k+1))=H4 (es.take k)+wtE e:=by
 obtain⟨hk,rfl⟩:=gE1 h;rw[List.take_succ_eq_append_getElem hk,B1e];simp[H4]
theorem A0a {es:List E7}{e:E7}(h:e∈es):wtE e<=H4 es:=by
 induction es with
 |nil=>cases h
 |cons y ys ih=>
  rw[H4];rcases List.mem_cons.1 h with rfl|h
  ·omega
  ·have:=ih h;omega
def cellsE (w:World)(b q:Nat)(e:E7):Prop:=
 w.cell? ⟨b,q,none⟩=some (.int .i64 e.k)/\w.cell? ⟨b,q+1,none⟩=some (.int .i64 e.n)/\w.cell? ⟨b,q+2,none⟩=some (.int .i64 e.v.k)/\w.cell? ⟨b,q+3,none⟩=some (.int .i64 e.v.n)/\w.cell? ⟨b,q+4,none⟩=some (.string e.v.s)/\w.cell? ⟨b,q+5,none⟩=some (.string e.p)
def C1 (w:World):Nat->Value->List E7->List Nat->Prop
 |0,_,_,_=>False
 |d+1,v,es,F=> ∃ (a:Option Addr) (c:Nat) (G:List (List Nat)),v=.slice a es.length c/\es.length<=c/\c<=maxLen/\G.length=es.length/\(es=[]->F=[])/\
   (es≠ []->∃b o,a=some ⟨b,o,none⟩/\b<w.heap.size/\F=b::G.flatten/\ ∀i e g,es[i]?=some e->G[i]?=some g->e.wf/\cellsE w b (o+i*7) e/\∃u,w.cell? ⟨b,o+i*7+6,none⟩=some u/\C1 w d u e.ks g)
def A0b (w:World)(d b o:Nat)(es:List E7)(G:List (List Nat)):Prop:=
 ∀i e g,es[i]?=some e->G[i]?=some g->e.wf/\cellsE w b (o+i*7) e/\∃u,w.cell? ⟨b,o+i*7+6,none⟩=some u/\C1 w d u e.ks g
theorem cellsE.keep {w w':World}{b q:Nat}{e:E7}(h:cellsE w b q e)(hb:w'.heap[b]?=w.heap[b]?):cellsE w' b q e:=by
 obtain⟨h0,h1,h2,h3,h4,h5⟩:=h;exact⟨(cb8 hb).trans h0,(cb8 hb).trans h1,(cb8 hb).trans h2,(cb8 hb).trans h3,(cb8 hb).trans h4,(cb8 hb).trans h5⟩
theorem C1.lt {w:World}:∀ {d:Nat} {v:Value} {es:List E7} {F:List Nat},C1 w d v es F->∀b∈F,b<w.heap.size
 |0,_,_,_,h=>h.elim
 |d+1,v,es,F,h=>by
  obtain⟨a,c,G,rfl,_,_,hG,h0,h⟩:=h;by_cases hne:es=[]
  ·rw[h0 hne];intro b hb;cases hb
  obtain⟨b,o,rfl,hlt,rfl,hL⟩:=h hne;intro x hx;rcases List.mem_cons.1 hx with rfl|hx
  ·exact hlt
  obtain⟨g,hg,hxg⟩:=List.mem_flatten.1 hx;obtain⟨i,hi,rfl⟩:=List.mem_iff_getElem.1 hg;have hi':i<es.length:=by omega
  obtain⟨_,_,u,_,hk⟩:=hL i es[i] G[i] (by simp) (by simp);exact hk.lt x hxg
theorem C1.keep {w w':World}(hs:w.heap.size<=w'.heap.size):∀ {d:Nat} {v:Value} {es:List E7} {F:List Nat},C1 w d v es F->(∀b∈F,w'.heap[b]?=w.heap[b]?)->C1 w' d v es F
 |0,_,_,_,h,_=>h.elim
 |d+1,v,es,F,h,hF=>by
  obtain⟨a,c,G,rfl,hl,hc,hG,h0,h⟩:=h;refine⟨a,c,G,rfl,hl,hc,hG,h0,fun hne=>?_⟩;obtain⟨b,o,rfl,hlt,rfl,hL⟩:=h hne;refine⟨b,o,rfl,Nat.lt_of_lt_of_le hlt hs,rfl,fun i e g he hg=>?_⟩;obtain⟨hw,hc,u,hu,hk⟩:=hL i e g he hg;have hb:=hF b List.mem_cons_self;exact⟨hw,hc.keep hb,u,(cb8 hb).trans hu,hk.keep hs fun x hx=>hF x (List.mem_cons_of_mem _ (List.mem_flatten.2 ⟨g,mg8 hg,hx⟩))⟩
theorem C1.below {w w':World}{d:Nat}{v:Value}{es:List E7}{F:List Nat}(h:C1 w d v es F)(hb:Below w.heap.size w w'):C1 w' d v es F:=
 h.keep hb.size fun b hF=>hb.block b (h.lt b hF)
theorem C1.up {w:World}:∀ {d d':Nat} {v:Value} {es:List E7} {F:List Nat},C1 w d v es F->d<=d'->C1 w d' v es F
 |0,_,_,_,_,h,_=>h.elim
 |d+1,0,_,_,_,_,hd=>absurd hd (by omega)
 |d+1,d'+1,v,es,F,h,hd=>by
  obtain⟨a,c,G,rfl,hl,hc,hG,h0,h⟩:=h;refine⟨a,c,G,rfl,hl,hc,hG,h0,fun hne=>?_⟩;obtain⟨b,o,rfl,hlt,rfl,hL⟩:=h hne;refine⟨b,o,rfl,hlt,rfl,fun i e g he hg=>?_⟩;obtain⟨hw,hc,u,hu,hk⟩:=hL i e g he hg;exact⟨hw,hc,u,hu,hk.up (by omega)⟩
theorem C1.pick {w:World}{d:Nat}{v:Value}{es:List E7}{F:List Nat}(h:C1 w (d+1) v es F):∃a c b o G,v=.slice a es.length c/\es.length<=c/\c<=maxLen/\G.length=es.length/\(es=[]->F=[])/\∀k,k<es.length->a=some ⟨b,o,none⟩/\b<w.heap.size/\F=b::G.flatten/\A0b w d b o es G:=by
 obtain⟨a,c,G,rfl,hl,hc,hG,h0,h⟩:=h;by_cases hne:es=[]
 ·exact⟨a,c,0,0,G,rfl,hl,hc,hG,h0,fun k hk=>by rw[hne]at hk;simp at hk⟩
 ·obtain⟨b,o,h⟩:=h hne;exact⟨a,c,b,o,G,rfl,hl,hc,hG,h0,fun _ _=>h⟩
theorem C1.shape {w:World}{d:Nat}{v:Value}{es:List E7}{F:List Nat}(h:C1 w d v es F):∃a c,v=.slice a es.length c/\es.length<=c/\c<=maxLen:=by
 cases d with
 |zero=>exact h.elim
 |succ d=>
  obtain⟨a,c,G,rfl,hl,hc,_⟩:=h;exact⟨a,c,rfl,hl,hc⟩
theorem A0b.at {w w':World}{d b o:Nat}{es:List E7}{G:List (List Nat)}(h:A0b w d b o es G)(hG:G.length=es.length)(hlt:b<w.heap.size)(hb:Below w.heap.size w w'){k:Nat}(hk:k<es.length):∃e g u,es[k]?=some e/\G[k]?=some g/\e.wf/\cellsE w' b (o+k*7) e/\w'.cell? ⟨b,o+k*7+6,none⟩=some u/\C1 w' d u e.ks g/\b<w'.heap.size:=by
 have hk':k<G.length:=by omega
 obtain⟨hw,hc,u,hu,hK⟩:=h k es[k] G[k] (by simp) (by simp);exact⟨es[k],G[k],u,by simp,by simp,hw,hc.keep (hb.block b hlt),(hb.cell (p:=⟨b,_,none⟩) hlt).trans hu,hK.below hb,Nat.lt_of_lt_of_le hlt hb.size⟩
section
variable {H:Type} {enc:TypeId×Value->H} {P:Program} {w:World} {spare:Nat->Bool} {held:Bool}
theorem C03 {t e:TypeId}{G0 G1 G2 G3 G4 F0 F1 F2:Field}(ht:P.underlying t=some (.slice e))(he:P.underlying e=some (.struct #[G0,G1,G2,G3,G4]))(cg:P.cellsOf e=7) (p0:G0.offset=0) (p1:G1.offset=1) (p2:G2.offset=2) (p3:G3.offset=5) (p4:G4.offset=6) (g0:P.cellsOf G0.type=1) (g1:P.cellsOf G1.type=1) (g2:P.cellsOf G2.type=3) (g3:P.cellsOf G3.type=1) (g4:P.cellsOf G4.type=1)(v0:P.underlying G0.type=some (.int .i64)) (v1:P.underlying G1.type=some (.int .i64)) (v2:P.underlying G2.type=some (.struct #[F0,F1,F2])) (v3:P.underlying G3.type=some .string) (v4:G4.type=t)(o0:F0.offset=0) (o1:F1.offset=1) (o2:F2.offset=2) (c0:P.cellsOf F0.type=1) (c1:P.cellsOf F1.type=1) (c2:P.cellsOf F2.type=1)(u0:P.underlying F0.type=some (.int .i64)) (u1:P.underlying F1.type=some (.int .i64)) (u2:P.underlying F2.type=some .string):∀ (N fuel:Nat),fuel<=N->∀ {v:Value} {x:DataW H×List MemPlace},DataW.trod enc P w 0 spare held fuel t [v]=some x->∃es F,C1 w (N+1) v es F:=by
 intro N;induction N with
 |zero=>
  intro fuel hf v x h;obtain rfl:fuel=0:=by omega
  simp[DataW.trod]at h
 |succ N ih=>
  intro fuel hf v x h;rcases DataW.trod_slice ht h with⟨h0,_⟩|⟨a,len,cap,elems,rest,n,hfn,hcs,rfl,hb,hl,hm,D3,hel,hsp,hns⟩
  ·simp at h0;subst h0;exact⟨[],[],none,0,[],rfl,by simp,by simp,rfl,fun _=>rfl,fun h=>absurd rfl h⟩
  simp at hcs;subst hcs;have i2:∀i,i<len->∃q:E7×List Nat,q.1.wf/\(w.cell? (a.add (i*7))=some (.int .i64 q.1.k)/\w.cell? (a.add (i*7+1))=some (.int .i64 q.1.n)/\w.cell? (a.add (i*7+2))=some (.int .i64 q.1.v.k)/\w.cell? (a.add (i*7+3))=some (.int .i64 q.1.v.n)/\w.cell? (a.add (i*7+4))=some (.string q.1.v.s)/\w.cell? (a.add (i*7+5))=some (.string q.1.p))/\∃u,w.cell? (a.add (i*7+6))=some u/\C1 w (N+1) u q.1.ks q.2:=by
   intro i hi;have hi1:=hel i hi;have hie:elems[i]?=some elems[i]:=by simp[D3,hi]
   rw[hie,Option.bind_eq_some_iff]at hi1;obtain⟨cs',h1,h2⟩:=hi1;rw[cg]at h1;obtain⟨_,hlen7,C5⟩:=World.cells?_some h1;obtain⟨xs,k,hk,hxy,_,hxl,T9⟩:=DataW.trod_struct he h2
   match xs,hxl,cs',hlen7 with
   | [y0,y1,y2,y3,y4],_,[z0,z1,z2,z3,z4,z5,z6],_=>
    have a0:=T9 0 G0 rfl;have a1:=T9 1 G1 rfl;have a2:=T9 2 G2 rfl;have a3:=T9 3 G3 rfl;have a4:=T9 4 G4 rfl;simp[p0,p1,p2,p3,p4,g0,g1,g2,g3,g4]at a0 a1 a2 a3 a4;have e0:=C5 0 (by omega);have e1:=C5 1 (by omega);have e2:=C5 2 (by omega);have e3:=C5 3 (by omega);have e4:=C5 4 (by omega);have e5:=C5 5 (by omega);have e6:=C5 6 (by omega);rw[add_add]at e0 e1 e2 e3 e4 e5 e6;obtain⟨n0,q0,_,w0⟩:=DataW.trod_int v0 a0;obtain⟨n1,q1,_,w1⟩:=DataW.trod_int v1 a1;obtain⟨n3,q3,_,w3⟩:=DataW.trod_string v3 a3;obtain⟨ys,k2,hk2,_,_,hyl,A1A⟩:=DataW.trod_struct v2 a2
    match ys,hyl with
    | [b0,b1,b2],_=>
     have r0:=A1A 0 F0 rfl;have r1:=A1A 1 F1 rfl;have r2:=A1A 2 F2 rfl;simp[o0,o1,o2,c0,c1,c2]at r0 r1 r2;obtain⟨m0,s0,_,x0⟩:=DataW.trod_int u0 r0;obtain⟨m1,s1,_,x1⟩:=DataW.trod_int u1 r1;obtain⟨m2,s2,_,x2⟩:=DataW.trod_string u2 r2;simp at q0 q1 q3 s0 s1 s2;subst q0 q1 q3 s0 s1 s2;rw[v4]at a4;obtain⟨ks,F,hK⟩:=ih k (by omega) a4;exact⟨⟨.mk n0 n1 ⟨m0,m1,m2⟩ n3 ks,F⟩,⟨w0,w1,⟨x0,x1,x2⟩,w3⟩,⟨by simpa [E7.mk_k,E7.mk_n,E7.mk_v,E7.mk_p]using e0,by simpa [E7.mk_k,E7.mk_n,E7.mk_v,E7.mk_p]using e1,by simpa [E7.mk_k,E7.mk_n,E7.mk_v,E7.mk_p]using e2,by simpa [E7.mk_k,E7.mk_n,E7.mk_v,E7.mk_p]using e3,by simpa [E7.mk_k,E7.mk_n,E7.mk_v,E7.mk_p]using e4,by simpa [E7.mk_k,E7.mk_n,E7.mk_v,E7.mk_p]using e5⟩,z6,by simpa using e6,hK⟩
  have:Inhabited (E7×List Nat):=⟨⟨E7.mk 0 0 ⟨0,0,⟨#[]⟩⟩ ⟨#[]⟩ [],[]⟩⟩;obtain⟨q,hq⟩:=choose_lt i2;refine⟨(List.range len).map fun i=>(q i).1,if len=0 then[]else a.block::((List.range len).map fun i=>(q i).2).flatten,some a,cap,(List.range len).map fun i=>(q i).2,by simp,by simpa using hl,hm,by simp,fun hne=>?_,fun hne=>?_⟩
  ·have:len=0:=by simpa using congrArg List.length hne
   simp[this]
  ·have P3:0<len:=by
    rcases Nat.eq_zero_or_pos len with h0|h0
    ·subst h0;simp at hne
    ·exact h0
   have hs:a.spot=none:=by have:=World.cell?_spot (hq 0 P3).2.1.1;simpa [Addr.add]using this
   obtain⟨b,o,sp⟩:=a;simp at hs;subst hs;refine⟨b,o,rfl,?_,by simp;omega,fun i x g hx hg=>?_⟩
   ·have:=bl8 _ _ (hq 0 P3).2.1.1
    simpa [Addr.add]using this
   ·have hi:i<len:=by
     obtain⟨h1,_⟩:=gE1 hx
     simpa using h1
    have ex:x=(q i).1:=by simp[hi]at hx;exact hx.symm
    have eg:g=(q i).2:=by simp[hi]at hg;exact hg.symm
    subst ex eg;obtain⟨hw,⟨h0,h1,h2,h3,h4,h5⟩,u,h6,hK⟩:=hq i hi;rw[add_plain]at h0 h1 h2 h3 h4 h5 h6;exact⟨hw,⟨h0,by simpa [Nat.add_assoc]using h1,by simpa [Nat.add_assoc]using h2,by simpa [Nat.add_assoc]using h3,by simpa [Nat.add_assoc]using h4,by simpa [Nat.add_assoc]using h5⟩,u,by simpa [Nat.add_assoc]using h6,hK⟩
end
end
section
open Go.RowKit
def s8:List ByteArray:=[⟨#[43]⟩,⟨#[45]⟩,⟨#[42]⟩,⟨#[47]⟩,⟨#[61]⟩,⟨#[60]⟩,⟨#[126]⟩,⟨#[97,110,100]⟩,⟨#[111,114]⟩]
def U2 (l:List ByteArray)(p:ByteArray):Bool:=l.any fun q=>q.toList==p.toList
def opB (p:ByteArray):Bool:=U2 s8 p
theorem A8S {l:List ByteArray}{k:Nat}{q p:ByteArray}(h:l[k]?=some q):U2 (l.take (k+1)) p=(U2 (l.take k) p||q.toList==p.toList):=by
 obtain⟨hk,rfl⟩:=gE1 h;unfold U2;rw[List.take_succ_eq_append_getElem hk,List.any_append];simp
theorem B0t {l:List ByteArray}{k:Nat}{p:ByteArray}(h:U2 (l.take k) p=true):U2 l p=true:=by
 unfold U2 at h⊢;obtain⟨q,hq,e⟩:=List.any_eq_true.1 h;exact List.any_eq_true.2 ⟨q,List.mem_of_mem_take hq,e⟩
theorem C0c (b o c:Nat)(l:List ByteArray)(p:ByteArray)(w:World)(hl:l.length<=c)(hc:c<=1000)(hlt:b<w.heap.size)(h:∀i q,l[i]?=some q->w.cell? ⟨b,o+i,none⟩=some (.string q)):Calls Tryz.prog 145 #[.slice (some ⟨b,o,none⟩) l.length c,.string p] w fun e w'=>e=.returned (.bool (U2 l p))/\Below w.heap.size w w':=by
 go_enter Tryz.func145,Tryz.ntmps145;go_wp2;go_loopw [5] (fun i wr=> ∃k:Nat,k<=l.length/\i=.int .i64 k/\U2 (l.take k) p=false/\Below w.heap.size w wr) (fun i _=>l.length - (intOf i).toNat)
 case atStart=>exact⟨0,Nat.zero_le _,rfl,rfl,by go_grown⟩
 case round=>
  obtain⟨k,hk,rfl,hf,hb⟩:=hrel;by_cases hkt:k<l.length
  ·obtain⟨q,hq⟩:∃q,l[k]?=some q:=⟨l[k],by simp[hkt]⟩;have c0:wr.cell? ⟨b,o+k,none⟩=some (.string q):=(hb.cell (p:=⟨b,o+k,none⟩) hlt).trans (h k q hq);have H1:Hid (U2 (l.take (k+1)) p=(q.toList==p.toList)):=by show _=_;rw[A8S hq,hf,Bool.false_or]
   have HF:Hid (U2 (l.take k) p=false):=hf;clear h hq hf;by_cases he:(q.toList==p.toList)=true
   ·go_wp2;go_returns;refine⟨rB8 ?_,hb⟩;rw[B0t (H1.out.trans he)]
   ·have he':(q.toList==p.toList)=false:=by simpa using he
    go_wp2;exact⟨⟨k+1,hkt,by simp,H1.out.trans he',bex⟩,by simp[intOf];omega⟩
  ·have hkk:k=l.length:=by omega
   subst hkk;rw[List.take_length]at hf;have HF:Hid (U2 l p=false):=hf;clear hf h;go_wp2;go_returns;exact⟨rB8 HF.out.symm,hb⟩
theorem Tryz.next7 (w:World)(ty:TypeId)(k:Nat)(hk:k<7):(Instr.next (.pointer (some ⟨w.heap.size,0,none⟩)) true ty).run Tryz.prog (w.iter ⟨#[43,45,42,47,61,60,126]⟩ k)=.ok (.tuple #[.bool true,.int .i64 k,.int .i32 (([43,45,42,47,61,60,126]:List Int)[k]'hk)]) (w.iter ⟨#[43,45,42,47,61,60,126]⟩ (k+1)):=by
 rw[run_next_any w ⟨#[43,45,42,47,61,60,126]⟩ k ty hk]
 match k,hk with
 |0,_=>rfl
 |1,_=>rfl
 |2,_=>rfl
 |3,_=>rfl
 |4,_=>rfl
 |5,_=>rfl
 |6,_=>rfl
theorem C39 (k:Nat)(hk:k<7):∃q,s8[k]?=some q/\(Utf8.encode (([43,45,42,47,61,60,126]:List Int)[k]'hk)).toList=q.toList:=by
 match k,hk with
 |0,_=>exact⟨_,rfl,rfl⟩
 |1,_=>exact⟨_,rfl,rfl⟩
 |2,_=>exact⟨_,rfl,rfl⟩
 |3,_=>exact⟨_,rfl,rfl⟩
 |4,_=>exact⟨_,rfl,rfl⟩
 |5,_=>exact⟨_,rfl,rfl⟩
 |6,_=>exact⟨_,rfl,rfl⟩
theorem A6D (a b:List UInt8):(a==b)=(b==a):=by rw[Bool.eq_iff_iff,beq_iff_eq,beq_iff_eq];exact eq_comm
theorem C2w {p:ByteArray}(h:U2 (s8.take 7) p=false):opB p=(p.toList==[97,110,100]||p.toList==[111,114]):=by
 have e:opB p=(U2 (s8.take 7) p||U2 (s8.drop 7) p):=by unfold opB U2;rw[<-List.any_append,List.take_append_drop]
 rw[e,h,Bool.false_or];have e1:(⟨#[97,110,100]⟩:ByteArray).toList=[97,110,100]:=by first|(simp;done)|kernel_rfl
 have e2:(⟨#[111,114]⟩:ByteArray).toList=[111,114]:=by first|(simp;done)|kernel_rfl
 simp only[U2,s8,List.drop_succ_cons,List.drop_zero,List.any_cons,List.any_nil,Bool.or_false,e1,e2];rw[A6D [97,110,100],A6D [111,114]]
theorem B2a (p:ByteArray)(w:World):Calls Tryz.prog 192 #[.string p] w fun e w'=>e=.returned (.bool (opB p))/\Below w.heap.size w w':=by
 go_enter Tryz.func192,Tryz.ntmps192;go_wp2;go_loopw [] (fun w'=> ∃k:Nat,k<=7/\w'=w.iter ⟨#[43,45,42,47,61,60,126]⟩ k/\U2 (s8.take k) p=false) (fun w'=>7 -w'.iterPos w.heap.size)
 case atStart=>exact⟨0,by omega,rfl,rfl⟩
 case round=>
  obtain⟨k,hk,rfl,hf⟩:=hrel;have A0D:∀j,Below w.heap.size w (w.iter ⟨#[43,45,42,47,61,60,126]⟩ j):=fun j=>(Below.refl _ _).alloc lr8 _;have HF:Hid (U2 (s8.take k) p=false):=hf;by_cases hp:k<7
  ·have hnx:∀ty,(Instr.next (.pointer (some ⟨w.heap.size,0,none⟩)) true ty).run Tryz.prog (w.iter ⟨#[43,45,42,47,61,60,126]⟩ k)=_:=fun ty=>Tryz.next7 w ty k hp;obtain⟨q,hq,he⟩:=C39 k hp;have H1:Hid (U2 (s8.take (k+1)) p=(p.toList==q.toList)):=by show _=_;rw[A8S hq,hf,Bool.false_or,A6D]
   generalize([43,45,42,47,61,60,126]:List Int)[k]'hp=z at hnx he;have HE:Hid ((Utf8.encode z).toList=q.toList):=he;clear hf hq he;go_wp2;all_goals rename_i h
   all_goals rw[HE.out]at h
   all_goals first
    |(go_returns;exact⟨rB8 (B0t (H1.out.trans h)).symm,A0D _⟩)
    |exact⟨⟨k+1,hp,rfl,H1.out.trans h⟩,by simp;omega⟩
  ·have hnx:∀ty,(Instr.next (.pointer (some ⟨w.heap.size,0,none⟩)) true ty).run Tryz.prog (w.iter ⟨#[43,45,42,47,61,60,126]⟩ k)=_:=fun ty=>run_next_end w ⟨#[43,45,42,47,61,60,126]⟩ k ty hp;obtain rfl:k=7:=by omega
   have HO:=C2w hf;have HO:Hid (opB p=(p.toList==[97,110,100]||p.toList==[111,114])):=HO;clear hf;go_wp2;all_goals(go_returns;refine⟨rB8 ?_,A0D _⟩;first|(rw[HO.out];done)|(rw[HO.out];simp_all))
def SzS (d:Nat):Prop:=∀ (v:Value) (es:List E7) (F:List Nat) (left:Int) (w:World),C1 w d v es F->0<=left->left<=1048576->
  Calls Tryz.prog 19 #[v,.int .i64 left] w fun e w'=>(∃z:Int,e=.returned (.int .i64 z)/\ -1<=z/\z<=left/\(0<=z->z+(es.length+H4 es)=left))/\Below w.heap.size w w'
theorem B04 {d:Nat}(hS:SzS d)(e:E7)(u:Value)(F:List Nat)(left:Int)(w:World)(hw:e.wf)(hk:C1 w d u e.ks F)(h0:0<=left)(h1:left<=1048576):Calls Tryz.prog 18 #[(.agg #[.int .i64 e.k,.int .i64 e.n,.int .i64 e.v.k,.int .i64 e.v.n,.string e.v.s,.string e.p,u]),.int .i64 left] w fun x w'=>(∃z:Int,x=.returned (.int .i64 z)/\ -1<=z/\z<=left/\(0<=z->z+wtE e=left))/\Below w.heap.size w w':=by
 obtain⟨_,_,⟨_,_,hs⟩,hp⟩:=hw;rw[j3];have hp':=hp;unfold maxLen at hp';obtain⟨a,c,rfl,_⟩:=hk.shape;go_enter Tryz.func18,Tryz.ntmps18;go_wp2_with fail;refine cM8 (B0B e.v.k e.v.n left e.v.s _ h0 h1 hs) ?_;rintro x w1 ⟨rfl,hb1⟩;have hz1:=hb1.size;simp only[World.size_alloc]at hz1;have c5:w1.cell? ⟨w.heap.size,5,none⟩=some (.string e.p):=cl8 hb1;have c6:w1.cell? ⟨w.heap.size,6,none⟩=some (.slice a e.ks.length c):=cl8 hb1;have hz:szV e.v.s left<=left:=by unfold szV;split<;>omega
 have hz0:0<=szV e.v.s left->szV e.v.s left+e.v.s.size=left:=by unfold szV;split<;>omega
 have hzm: -1<=szV e.v.s left:=by unfold szV;split<;>omega
 generalize szV e.v.s left=z1 at*;by_cases hn1:z1<0
 ·go_wp2_with fail;go_returns;exact⟨⟨-1,rfl,by omega,by omega,by omega⟩,C3⟩
 by_cases hn2:z1 -e.p.size<0
 ·go_wp2_with fail;go_returns;exact⟨⟨-1,rfl,by omega,by omega,by omega⟩,C3⟩
 go_wp2_with fail;refine cM8 (hS (.slice a e.ks.length c) e.ks F (z1 -e.p.size) _ (hk.below ?hb) (by omega) (by omega)) ?_
 case hb=>exact C3
 rintro x w2 ⟨⟨z2,rfl,l2,g2,s2⟩,hb2⟩;have hz2:=hb2.size;by_cases hn3:z2<0
 ·go_wp2_with fail;go_returns;exact⟨⟨-1,rfl,by omega,by omega,by omega⟩,C3⟩
 go_wp2_with fail;go_returns;exact⟨⟨z2,rfl,by omega,by omega,by omega⟩,C3⟩
theorem B73 {d:Nat}(hS:SzS d):SzS (d+1):=by
 intro v es F left w hr h0 h1;obtain⟨a,c,b,o,G,rfl,hl,hc,hG,_,ha⟩:=hr.pick;unfold maxLen at hc;by_cases hbig:left -es.length<0
 ·go_enter Tryz.func19,Tryz.ntmps19;go_wp2;go_returns;exact⟨⟨-1,rfl,by omega,by omega,by omega⟩,by go_grown⟩
 go_enter Tryz.func19,Tryz.ntmps19;go_wp2;go_loopw [1,5] (fun l i wr=> ∃k:Nat,k<=es.length/\i=.int .i64 k/\l=.int .i64 (left -es.length -H4 (es.take k))/\0<=left -es.length -H4 (es.take k)/\Below w.heap.size w wr) (fun _ i _=>es.length - (intOf i).toNat)
 case atStart=>exact⟨0,Nat.zero_le _,rfl,by simp[H4],by simp[H4];omega,by go_grown⟩
 case round=>
  obtain⟨k,hk,rfl,rfl,hp,hb⟩:=hrel;by_cases hlt:k<es.length
  ·have hzb:=hb.size;obtain⟨rfl,hblt,_,hL⟩:=ha k hlt;obtain⟨x,g,u,hx,hg,hxw,⟨c0,c1,c2,c3,c4,c5⟩,c6,hK,hbr⟩:=hL.at hG hblt hb hlt;have hT:Hid (H4 (es.take (k+1))=H4 (es.take k)+wtE x):=C25 hx;have hp1:left -es.length -H4 (es.take k)<=1048576:=by omega
   clear ha hL hx;go_wp2_with(go_at_call 18;refine(B04 hS _ _ _ _ _ hxw hK hp hp1).mono ?_;rintro e w1 ⟨⟨z1,rfl,l1,g1,s1⟩,hb1⟩)
   ·go_returns;exact⟨⟨-1,rfl,by omega,by omega,by omega⟩,hb.trans (hb1.mono hb.size)⟩
   ·have h9:0<=z1:=by assumption
    have e1:=s1 h9;have hT:=hT.out;refine⟨⟨k+1,hlt,by simp,by congr 1;omega,by omega,hb.trans (hb1.mono hb.size)⟩,by simp[intOf];omega⟩
  ·go_wp2;go_returns;have hkk:k=es.length:=by omega
   subst hkk;refine⟨⟨_,rfl,by omega,by omega,fun _=>?_⟩,hb⟩;rw[List.take_length];omega
theorem A7q:∀d,SzS d
 |0=>fun _ _ _ _ _ h=>h.elim
 |d+1=>B73 (A7q d)
theorem C1U {d:Nat}(e:E7)(u:Value)(F:List Nat)(left:Int)(w:World)(hw:e.wf)(hk:C1 w d u e.ks F)(h0:0<=left)(h1:left<=1048576):Calls Tryz.prog 18 #[(.agg #[.int .i64 e.k,.int .i64 e.n,.int .i64 e.v.k,.int .i64 e.v.n,.string e.v.s,.string e.p,u]),.int .i64 left] w fun x w'=>(∃z:Int,x=.returned (.int .i64 z)/\ -1<=z/\z<=left/\(0<=z->z+wtE e=left))/\Below w.heap.size w w':=
 B04 (A7q d) e u F left w hw hk h0 h1
def EqS (d:Nat):Prop:=∀ (v u:Value) (es:List E7) (F F':List Nat) (w:World),C1 w d v es F->C1 w d u es F'->
  Calls Tryz.prog 35 #[v,u] w fun e w'=>e=.returned (.bool true)/\Below w.heap.size w w'
theorem A9P {d:Nat}(hS:EqS d)(e:E7)(v u:Value)(F F':List Nat)(w:World)(hv:C1 w d v e.ks F)(hu:C1 w d u e.ks F'):Calls Tryz.prog 34 #[(.agg #[.int .i64 e.k,.int .i64 e.n,.int .i64 e.v.k,.int .i64 e.v.n,.string e.v.s,.string e.p,v]),(.agg #[.int .i64 e.k,.int .i64 e.n,.int .i64 e.v.k,.int .i64 e.v.n,.string e.v.s,.string e.p,u])] w fun x w'=>x=.returned (.bool true)/\Below w.heap.size w w':=by
 obtain⟨a,c,rfl,_⟩:=hv.shape;obtain⟨a',c',rfl,_⟩:=hu.shape;go_enter Tryz.func34,Tryz.ntmps34;go_wp2_with fail;refine cM8 (A9q e.v.k e.v.n e.v.s _) ?_;rintro x w1 ⟨rfl,hb1⟩;have hz1:=hb1.size;simp only[World.size_alloc]at hz1;have c5:w1.cell? ⟨w.heap.size,5,none⟩=some (.string e.p):=cl8 hb1;have c6:w1.cell? ⟨w.heap.size,6,none⟩=some (.slice a e.ks.length c):=cl8 hb1;have d5:w1.cell? ⟨w.heap.size+1,5,none⟩=some (.string e.p):=cl8 hb1;have d6:w1.cell? ⟨w.heap.size+1,6,none⟩=some (.slice a' e.ks.length c'):=cl8 hb1;go_wp2_with fail;refine cM8 (hS (.slice a e.ks.length c) (.slice a' e.ks.length c') e.ks F F' _ (hv.below ?hb) (hu.below ?hb2)) ?_
 case hb=>exact C3
 case hb2=>exact C3
 rintro x w2 ⟨rfl,hb2⟩;have hz2:=hb2.size;go_wp2_with fail;go_returns;exact⟨rfl,C3⟩
theorem C1e {d:Nat}(hS:EqS d):EqS (d+1):=by
 intro v u es F F' w hr hu;obtain⟨a,c,b,o,G,rfl,hl,hc,hG,_,ha⟩:=hr.pick;obtain⟨a',c',b',o',G',rfl,hl',hc',hG',_,ha'⟩:=hu.pick;unfold maxLen at hc hc';clear hr hu;go_enter Tryz.func35,Tryz.ntmps35;go_wp2;go_loopw [5] (fun i wr=> ∃k:Nat,k<=es.length/\i=.int .i64 k/\Below w.heap.size w wr) (fun i _=>es.length - (intOf i).toNat)
 case atStart=>exact⟨0,Nat.zero_le _,rfl,by go_grown⟩
 case round=>
  obtain⟨k,hk,rfl,hb⟩:=hrel;by_cases hlt:k<es.length
  ·have hzb:=hb.size;obtain⟨rfl,hblt,_,hL⟩:=ha k hlt;obtain⟨rfl,hblt',_,hL'⟩:=ha' k hlt;obtain⟨x,g,v,hx,_,_,⟨c0,c1,c2,c3,c4,c5⟩,c6,hK,hbr⟩:=hL.at hG hblt hb hlt;obtain⟨x',g',u,hx',_,_,⟨d0,d1,d2,d3,d4,d5⟩,d6,hK',A0k⟩:=hL'.at hG' hblt' hb hlt;obtain rfl:x=x':=by rw[hx]at hx';exact Option.some.inj hx'
   clear ha ha' hL hL' hx hx';go_wp2_with fail
   go_region_with (first|(go_at_call 34;refine(A9P hS x v u _ _ _ (hK.below C3) (hK'.below C3)).mono ?_;rintro e w1 ⟨rfl,hb1⟩))
   all_goals(go_wp2;exact⟨⟨k+1,hlt,by simp,C3⟩,by simp[intOf];omega⟩)
  ·go_wp2;go_returns;exact⟨rfl,hb⟩
theorem A6d:∀d,EqS d
 |0=>fun _ _ _ _ _ _ h=>h.elim
 |d+1=>C1e (A6d d)
theorem B71 {d d':Nat}(e:E7)(v u:Value)(F F':List Nat)(w:World)(hv:C1 w d v e.ks F)(hu:C1 w d' u e.ks F'):Calls Tryz.prog 34 #[(.agg #[.int .i64 e.k,.int .i64 e.n,.int .i64 e.v.k,.int .i64 e.v.n,.string e.v.s,.string e.p,v]),(.agg #[.int .i64 e.k,.int .i64 e.n,.int .i64 e.v.k,.int .i64 e.v.n,.string e.v.s,.string e.p,u])] w fun x w'=>x=.returned (.bool true)/\Below w.heap.size w w':=
 A9P (A6d (max d d')) e v u F F' w (hv.up (Nat.le_max_left _ _)) (hu.up (Nat.le_max_right _ _))
end
section
open Go.RowKit Go.Deep Go.ChangeShapes Go.WideShapes
abbrev P12:Type:=DataW (Int×ByteArray×E7×List E7×Int)
namespace P12
def mk (k:Int)(s:ByteArray)(e:E7)(es:List E7)(n:Int)(ks:List P12):P12:=.agg (.held (k,s,e,es,n)::ks)
def k (p:P12):Int:=match p with| .agg (.held q::_)=>q.1|_=>0
def s (p:P12):ByteArray:=match p with| .agg (.held q::_)=>q.2.1|_=>⟨#[]⟩
def e (p:P12):E7:=match p with| .agg (.held q::_)=>q.2.2.1|_=> .nil
def es (p:P12):List E7:=match p with| .agg (.held q::_)=>q.2.2.2.1|_=>[]
def n (p:P12):Int:=match p with| .agg (.held q::_)=>q.2.2.2.2|_=>0
def ks (p:P12):List P12:=match p with| .agg (.held _::l)=>l|_=>[]
def wf (p:P12):Prop:=(Lit.int .i64 p.k).wf=true/\p.s.size<=maxLen/\p.e.wf/\(Lit.int .i64 p.n).wf=true
end P12
def wtP:DataW (Int×ByteArray×E7×List E7×Int)->Nat
 | .agg (.held q::l)=>q.2.1.size+wtE q.2.2.1+(q.2.2.2.1.length+H4 q.2.2.2.1)+(l.length+(l.attach.map fun x=>have:=List.sizeOf_lt_of_mem x.2;wtP x.1).sum)
 |_=>0
def J8:List P12->Nat
 | []=>0
 |p::ps=>wtP p+J8 ps
theorem C04 (l:List P12):(l.map wtP).sum=J8 l:=by
 induction l with
 |nil=>rfl
 |cons e es ih=>rw[List.map_cons,List.sum_cons,J8,ih]
theorem B4O:wtE (DataW.nil:E7)=0:=by rw[wtE.eq_def]
theorem f9 (p:P12):wtP p=p.s.size+wtE p.e+(p.es.length+H4 p.es)+(p.ks.length+J8 p.ks):=by
 rw[wtP.eq_def];split
 ·rename_i q l
  have:(l.attach.map fun x=>wtP x.1)=l.map wtP:=by simp
  show q.2.1.size+wtE q.2.2.1+(q.2.2.2.1.length+H4 q.2.2.2.1)+(l.length+(l.attach.map fun x=>wtP x.1).sum)=q.2.1.size+wtE q.2.2.1+(q.2.2.2.1.length+H4 q.2.2.2.1)+(l.length+J8 l);rw[this,C04]
 ·rename_i h
  have hs:P12.s p=⟨#[]⟩:=by unfold P12.s;split;exact absurd rfl (h _ _);rfl
  have he:P12.e p=.nil:=by unfold P12.e;split;exact absurd rfl (h _ _);rfl
  have hes:P12.es p=[]:=by unfold P12.es;split;exact absurd rfl (h _ _);rfl
  have hk:P12.ks p=[]:=by unfold P12.ks;split;exact absurd rfl (h _ _);rfl
  rw[hs,he,hes,hk,B4O];rfl
theorem A77 (a b:List P12):J8 (a++b)=J8 a+J8 b:=by
 induction a with
 |nil=>simp[J8]
 |cons x xs ih=>rw[List.cons_append,J8,J8,ih];omega
theorem B19 {ps:List P12}{k:Nat}{p:P12}(h:ps[k]?=some p):J8 (ps.take (k+1))=J8 (ps.take k)+wtP p:=by
 obtain⟨hk,rfl⟩:=gE1 h;rw[List.take_succ_eq_append_getElem hk,A77];simp[J8]
theorem A2X {ps:List P12}{p:P12}(h:p∈ps):wtP p<=J8 ps:=by
 induction ps with
 |nil=>cases h
 |cons y ys ih=>
  rw[J8];rcases List.mem_cons.1 h with rfl|h
  ·omega
  ·have:=ih h;omega
def cellsP (w:World)(b q:Nat)(p:P12)(ue us u:Value):Prop:=
 w.cell? ⟨b,q,none⟩=some (.int .i64 p.k)/\w.cell? ⟨b,q+1,none⟩=some (.string p.s)/\w.cell? ⟨b,q+2,none⟩=some (.int .i64 p.e.k)/\w.cell? ⟨b,q+3,none⟩=some (.int .i64 p.e.n)/\w.cell? ⟨b,q+4,none⟩=some (.int .i64 p.e.v.k)/\w.cell? ⟨b,q+5,none⟩=some (.int .i64 p.e.v.n)/\w.cell? ⟨b,q+6,none⟩=some (.string p.e.v.s)/\w.cell? ⟨b,q+7,none⟩=some (.string p.e.p)/\w.cell? ⟨b,q+8,none⟩=some ue/\w.cell? ⟨b,q+9,none⟩=some us/\w.cell? ⟨b,q+10,none⟩=some (.int .i64 p.n)/\w.cell? ⟨b,q+11,none⟩=some u
theorem cellsP.keep {w w':World}{b q:Nat}{p:P12}{ue us u:Value}(h:cellsP w b q p ue us u)(hb:w'.heap[b]?=w.heap[b]?):cellsP w' b q p ue us u:=by
 obtain⟨h0,h1,h2,h3,h4,h5,h6,h7,h8,h9,h10,h11⟩:=h;exact⟨(cb8 hb).trans h0,(cb8 hb).trans h1,(cb8 hb).trans h2,(cb8 hb).trans h3,(cb8 hb).trans h4,(cb8 hb).trans h5,(cb8 hb).trans h6,(cb8 hb).trans h7,(cb8 hb).trans h8,(cb8 hb).trans h9,(cb8 hb).trans h10,(cb8 hb).trans h11⟩
def H3 (w:World)(D:Nat)(R:Value->List P12->List Nat->Prop)(p:P12)(ue us u:Value)(g:List Nat):Prop:=
 ∃Fe Fs h,g=Fe++(Fs++h)/\C1 w D ue p.e.ks Fe/\C1 w D us p.es Fs/\R u p.ks h
def E2 (w:World)(D:Nat):Nat->Value->List P12->List Nat->Prop
 |0,_,_,_=>False
 |d+1,v,ps,F=> ∃ (a:Option Addr) (c:Nat) (G:List (List Nat)),v=.slice a ps.length c/\ps.length<=c/\c<=maxLen/\G.length=ps.length/\(ps=[]->F=[])/\
   (ps≠ []->∃b o,a=some ⟨b,o,none⟩/\b<w.heap.size/\F=b::G.flatten/\ ∀i p g,ps[i]?=some p->G[i]?=some g->p.wf/\∃ue us u,cellsP w b (o+i*12) p ue us u/\H3 w D (E2 w D d) p ue us u g)
def A4O (w:World)(D d b o:Nat)(ps:List P12)(G:List (List Nat)):Prop:=
 ∀i p g,ps[i]?=some p->G[i]?=some g->p.wf/\∃ue us u,cellsP w b (o+i*12) p ue us u/\H3 w D (E2 w D d) p ue us u g
theorem E2.lt {w:World}{D:Nat}:∀ {d:Nat} {v:Value} {ps:List P12} {F:List Nat},E2 w D d v ps F->∀b∈F,b<w.heap.size
 |0,_,_,_,h=>h.elim
 |d+1,v,ps,F,h=>by
  obtain⟨a,c,G,rfl,_,_,hG,h0,h⟩:=h;by_cases hne:ps=[]
  ·rw[h0 hne];intro b hb;cases hb
  obtain⟨b,o,rfl,hlt,rfl,hL⟩:=h hne;intro x hx;rcases List.mem_cons.1 hx with rfl|hx
  ·exact hlt
  obtain⟨g,hg,hxg⟩:=List.mem_flatten.1 hx;obtain⟨i,hi,rfl⟩:=List.mem_iff_getElem.1 hg;have hi':i<ps.length:=by omega
  obtain⟨_,ue,us,u,_,Fe,Fs,h',hgg,ke,kes,kp⟩:=hL i ps[i] G[i] (by simp) (by simp);rw[hgg]at hxg;rcases List.mem_append.1 hxg with hx|hx
  ·exact ke.lt x hx
  rcases List.mem_append.1 hx with hx|hx
  ·exact kes.lt x hx
  ·exact kp.lt x hx
theorem E2.keep {w w':World}{D:Nat}(hs:w.heap.size<=w'.heap.size):∀ {d:Nat} {v:Value} {ps:List P12} {F:List Nat},E2 w D d v ps F->(∀b∈F,w'.heap[b]?=w.heap[b]?)->E2 w' D d v ps F
 |0,_,_,_,h,_=>h.elim
 |d+1,v,ps,F,h,hF=>by
  obtain⟨a,c,G,rfl,hl,hc,hG,h0,h⟩:=h;refine⟨a,c,G,rfl,hl,hc,hG,h0,fun hne=>?_⟩;obtain⟨b,o,rfl,hlt,rfl,hL⟩:=h hne;refine⟨b,o,rfl,Nat.lt_of_lt_of_le hlt hs,rfl,fun i e g he hg=>?_⟩;obtain⟨hw,ue,us,u,hc,Fe,Fs,h',rfl,ke,kes,kp⟩:=hL i e g he hg;have hb:=hF b List.mem_cons_self;have hg':∀x∈Fe++(Fs++h'),w'.heap[x]?=w.heap[x]?:=fun x hx=>hF x (List.mem_cons_of_mem _ (List.mem_flatten.2 ⟨_,mg8 hg,hx⟩));exact⟨hw,ue,us,u,hc.keep hb,Fe,Fs,h',rfl,ke.keep hs fun x hx=>hg' x (List.mem_append_left _ hx),kes.keep hs fun x hx=>hg' x (List.mem_append_right _ (List.mem_append_left _ hx)),kp.keep hs fun x hx=>hg' x (List.mem_append_right _ (List.mem_append_right _ hx))⟩
theorem E2.below {w w':World}{D d:Nat}{v:Value}{ps:List P12}{F:List Nat}(h:E2 w D d v ps F)(hb:Below w.heap.size w w'):E2 w' D d v ps F:=
 h.keep hb.size fun b hF=>hb.block b (h.lt b hF)
theorem E2.up {w:World}{D D':Nat}(hD:D<=D'):∀ {d d':Nat} {v:Value} {ps:List P12} {F:List Nat},E2 w D d v ps F->d<=d'->E2 w D' d' v ps F
 |0,_,_,_,_,h,_=>h.elim
 |d+1,0,_,_,_,_,hd=>absurd hd (by omega)
 |d+1,d'+1,v,es,F,h,hd=>by
  obtain⟨a,c,G,rfl,hl,hc,hG,h0,h⟩:=h;refine⟨a,c,G,rfl,hl,hc,hG,h0,fun hne=>?_⟩;obtain⟨b,o,rfl,hlt,rfl,hL⟩:=h hne;refine⟨b,o,rfl,hlt,rfl,fun i e g he hg=>?_⟩;obtain⟨hw,ue,us,u,hc,Fe,Fs,h',hg',ke,kes,kp⟩:=hL i e g he hg;exact⟨hw,ue,us,u,hc,Fe,Fs,h',hg',ke.up hD,kes.up hD,kp.up hD (by omega)⟩
theorem E2.pick {w:World}{D d:Nat}{v:Value}{ps:List P12}{F:List Nat}(h:E2 w D (d+1) v ps F):∃a c b o G,v=.slice a ps.length c/\ps.length<=c/\c<=maxLen/\G.length=ps.length/\(ps=[]->F=[])/\∀k,k<ps.length->a=some ⟨b,o,none⟩/\b<w.heap.size/\F=b::G.flatten/\A4O w D d b o ps G:=by
 obtain⟨a,c,G,rfl,hl,hc,hG,h0,h⟩:=h;by_cases hne:ps=[]
 ·exact⟨a,c,0,0,G,rfl,hl,hc,hG,h0,fun k hk=>by rw[hne]at hk;simp at hk⟩
 ·obtain⟨b,o,h⟩:=h hne;exact⟨a,c,b,o,G,rfl,hl,hc,hG,h0,fun _ _=>h⟩
theorem E2.shape {w:World}{D d:Nat}{v:Value}{ps:List P12}{F:List Nat}(h:E2 w D d v ps F):∃a c,v=.slice a ps.length c/\ps.length<=c/\c<=maxLen:=by
 cases d with
 |zero=>exact h.elim
 |succ d=>
  obtain⟨a,c,G,rfl,hl,hc,_⟩:=h;exact⟨a,c,rfl,hl,hc⟩
theorem H3.below {w w':World}{D d:Nat}{p:P12}{ue us u:Value}{g:List Nat}(h:H3 w D (E2 w D d) p ue us u g)(hb:Below w.heap.size w w'):H3 w' D (E2 w' D d) p ue us u g:=by
 obtain⟨Fe,Fs,h',hg,ke,kes,kp⟩:=h;exact⟨Fe,Fs,h',hg,ke.below hb,kes.below hb,kp.below hb⟩
theorem H3.lt {w:World}{D d:Nat}{p:P12}{ue us u:Value}{g:List Nat}(h:H3 w D (E2 w D d) p ue us u g):∀b∈g,b<w.heap.size:=by
 obtain⟨Fe,Fs,h',rfl,ke,kes,kp⟩:=h;intro x hx;rcases List.mem_append.1 hx with hx|hx
 ·exact ke.lt x hx
 rcases List.mem_append.1 hx with hx|hx
 ·exact kes.lt x hx
 ·exact kp.lt x hx
theorem H3.keep {w w':World}{D d:Nat}{p:P12}{ue us u:Value}{g:List Nat}(h:H3 w D (E2 w D d) p ue us u g)(hs:w.heap.size<=w'.heap.size)(hF:∀b∈g,w'.heap[b]?=w.heap[b]?):H3 w' D (E2 w' D d) p ue us u g:=by
 obtain⟨Fe,Fs,h',rfl,ke,kes,kp⟩:=h;exact⟨Fe,Fs,h',rfl,ke.keep hs fun x hx=>hF x (List.mem_append_left _ hx),kes.keep hs fun x hx=>hF x (List.mem_append_right _ (List.mem_append_left _ hx)),kp.keep hs fun x hx=>hF x (List.mem_append_right _ (List.mem_append_right _ hx))⟩
theorem H3.shape {w:World}{D d:Nat}{p:P12}{ue us u:Value}{g:List Nat}(h:H3 w D (E2 w D d) p ue us u g):∃ae ce ak ck a c,ue=.slice ae p.e.ks.length ce/\us=.slice ak p.es.length ck/\u=.slice a p.ks.length c/\p.e.ks.length<=ce/\ce<=maxLen/\p.es.length<=ck/\ck<=maxLen/\p.ks.length<=c/\c<=maxLen:=by
 obtain⟨Fe,Fs,h',hg,ke,kes,kp⟩:=h;obtain⟨ae,ce,h1,h2,h3⟩:=ke.shape;obtain⟨ak,ck,h4,h5,h6⟩:=kes.shape;obtain⟨a,c,h7,h8,h9⟩:=kp.shape;exact⟨ae,ce,ak,ck,a,c,h1,h4,h7,h2,h3,h5,h6,h8,h9⟩
theorem A4O.at {w w':World}{D d b o:Nat}{ps:List P12}{G:List (List Nat)}(h:A4O w D d b o ps G)(hG:G.length=ps.length)(hlt:b<w.heap.size)(hb:Below w.heap.size w w'){k:Nat}(hk:k<ps.length):∃p g ue us u,ps[k]?=some p/\G[k]?=some g/\p.wf/\cellsP w' b (o+k*12) p ue us u/\H3 w' D (E2 w' D d) p ue us u g/\b<w'.heap.size:=by
 have hk':k<G.length:=by omega
 obtain⟨hw,ue,us,u,hc,hL⟩:=h k ps[k] G[k] (by simp) (by simp);exact⟨ps[k],G[k],ue,us,u,by simp,by simp,hw,hc.keep (hb.block b hlt),hL.below hb,Nat.lt_of_lt_of_le hlt hb.size⟩
end
section
open Go.RowKit Go.Deep
theorem Tryz.infoExp:(Tryz.prog.info? 42).map (fun i=>(i.zero,i.size,i.bytes))=some (some (.agg #[.int .i64 0,.int .i64 0,.int .i64 0,.int .i64 0,.string ⟨#[]⟩,.string ⟨#[]⟩,.slice none 0 0]),7,88):=by kernel_rfl
structure Y7 (w:World)(d B:Nat)(es:List E7)(G:List (List Nat))(k:Nat):Prop where
 row:∃f,w.rowIs B 42 (es.length*7) f/\∀i e,i<k->es[i]?=some e->e.wf/\f (i*7)=.int .i64 e.k/\f (i*7+1)=.int .i64 e.n/\f (i*7+2)=.int .i64 e.v.k/\f (i*7+3)=.int .i64 e.v.n/\f (i*7+4)=.string e.v.s/\f (i*7+5)=.string e.p/\∃g,G[i]?=some g/\C1 w d (f (i*7+6)) e.ks g
 len:G.length=k
 own:Own w (B+1) G.flatten
theorem Y7.lt {w:World}{d B:Nat}{es:List E7}{G:List (List Nat)}{k:Nat}(h:Y7 w d B es G k)(hk:k<=es.length):∀b∈G.flatten,b<w.heap.size:=by
 obtain⟨⟨f,hf,he⟩,hl,_⟩:=h;intro b hb;obtain⟨g,hg,hbg⟩:=List.mem_flatten.1 hb;obtain⟨i,hi,rfl⟩:=List.mem_iff_getElem.1 hg;have hi':i<es.length:=by omega
 obtain⟨_,_,_,_,_,_,_,g,hg,hK⟩:=he i es[i] (by omega) (by simp);have:G[i]=g:=by simpa [hi]using hg
 exact hK.lt b (this▸hbg)
theorem Y7.cells {w:World}{d B:Nat}{es:List E7}{G:List (List Nat)}{k:Nat}(h:Y7 w d B es G k)(hk:k<es.length):(∃u,w.cell? ⟨B,k*7,none⟩=some u)/\(∃u,w.cell? ⟨B,k*7+1,none⟩=some u)/\(∃u,w.cell? ⟨B,k*7+2,none⟩=some u)/\(∃u,w.cell? ⟨B,k*7+3,none⟩=some u)/\(∃u,w.cell? ⟨B,k*7+4,none⟩=some u)/\(∃u,w.cell? ⟨B,k*7+5,none⟩=some u)/\(∃u,w.cell? ⟨B,k*7+6,none⟩=some u)/\(∀i,w.frozen? ⟨B,i,none⟩=false)/\B<w.heap.size:=by
 obtain⟨f,h,_⟩:=h.row;exact⟨⟨_,h.cell (by omega)⟩,⟨_,h.cell (by omega)⟩,⟨_,h.cell (by omega)⟩,⟨_,h.cell (by omega)⟩,⟨_,h.cell (by omega)⟩,⟨_,h.cell (by omega)⟩,⟨_,h.cell (by omega)⟩,fun i=>h.frozen i,h.lt⟩
theorem Y7.keep {w w':World}{d B:Nat}{es:List E7}{G:List (List Nat)}{k:Nat}(h:Y7 w d B es G k)(hs:w.heap.size<=w'.heap.size)(hB:w'.heap[B]?=w.heap[B]?)(hF:∀b∈G.flatten,w'.heap[b]?=w.heap[b]?):Y7 w' d B es G k:=by
 obtain⟨⟨f,hf,he⟩,hl,ho⟩:=h;refine⟨⟨f,hf.of_block hB,fun i e hi hx=>?_⟩,hl,ho.keep hF⟩;obtain⟨h0,h1,h2,h3,h4,h5,h6,g,hg,hK⟩:=he i e hi hx;exact⟨h0,h1,h2,h3,h4,h5,h6,g,hg,hK.keep hs fun b hb=>hF b (List.mem_flatten.2 ⟨g,mg8 hg,hb⟩)⟩
theorem Y7.below {w w':World}{d B:Nat}{es:List E7}{G:List (List Nat)}{k:Nat}(h:Y7 w d B es G k)(hk:k<=es.length)(hb:Below w.heap.size w w'):Y7 w' d B es G k:=by
 have hB:B<w.heap.size:=by obtain⟨f,hf,_⟩:=h.row;exact hf.lt
 exact h.keep hb.size (hb.block B hB) fun b hF=>hb.block b (h.lt hk b hF)
theorem Y7.step {w:World}{d B:Nat}{es:List E7}{G:List (List Nat)}{k:Nat}{e:E7}{u:Value}{g:List Nat}(h:Y7 w d B es G k)(hk:k<=es.length)(hx:es[k]?=some e)(hw:e.wf)(hK:C1 w d u e.ks g)(hB:Own w (B+1) g)(hd:∀b∈G.flatten,b∉g):Y7 (((((((w.setCell ⟨B,k*7,none⟩ (.int .i64 e.k)).setCell ⟨B,k*7+1,none⟩ (.int .i64 e.n)).setCell ⟨B,k*7+2,none⟩ (.int .i64 e.v.k)).setCell ⟨B,k*7+3,none⟩ (.int .i64 e.v.n)).setCell ⟨B,k*7+4,none⟩ (.string e.v.s)).setCell ⟨B,k*7+5,none⟩ (.string e.p)).setCell ⟨B,k*7+6,none⟩ u) d B es (G++ [g]) (k+1):=by
 have hlt:=h.lt hk;obtain⟨⟨f,hf,he⟩,hl,ho⟩:=h;have H7:∀b,B+1<=b->(((((((w.setCell ⟨B,k*7,none⟩ (.int .i64 e.k)).setCell ⟨B,k*7+1,none⟩ (.int .i64 e.n)).setCell ⟨B,k*7+2,none⟩ (.int .i64 e.v.k)).setCell ⟨B,k*7+3,none⟩ (.int .i64 e.v.n)).setCell ⟨B,k*7+4,none⟩ (.string e.v.s)).setCell ⟨B,k*7+5,none⟩ (.string e.p)).setCell ⟨B,k*7+6,none⟩ u).heap[b]?=w.heap[b]?:=by
  intro b hb;repeat rw[bS8 _ _ _ _ (by show b≠B;omega)]
 have hsz:w.heap.size<=(((((((w.setCell ⟨B,k*7,none⟩ (.int .i64 e.k)).setCell ⟨B,k*7+1,none⟩ (.int .i64 e.n)).setCell ⟨B,k*7+2,none⟩ (.int .i64 e.v.k)).setCell ⟨B,k*7+3,none⟩ (.int .i64 e.v.n)).setCell ⟨B,k*7+4,none⟩ (.string e.v.s)).setCell ⟨B,k*7+5,none⟩ (.string e.p)).setCell ⟨B,k*7+6,none⟩ u).heap.size:=by simp
 refine⟨⟨_,((((((hf.set _ _).set _ _).set _ _).set _ _).set _ _).set _ _).set _ _,fun i y hi hy=>?_⟩,by simp[hl],?_⟩
 ·by_cases ei:i=k
  ·subst ei;obtain rfl:y=e:=by rw[hx]at hy;exact(Option.some.inj hy).symm
   refine⟨hw,by simp,by simp,by simp,by simp,by simp,by simp,g,?_,?_⟩
   ·rw[List.getElem?_append_right (by omega)];simp[hl]
   ·simp only[if_true];exact hK.keep hsz fun b hb=>H7 b (hB.2 b hb).1
  ·obtain⟨a0,a1,a2,a3,a4,a5,a6,g',hg',hK'⟩:=he i y (by omega) hy;have n:∀p q:Nat,p<7->q<7->i*7+p≠k*7+q:=by intro p q hp hq;omega
   have n0:∀q:Nat,q<7->i*7≠k*7+q:=by intro q hq;omega
   have n1:∀p:Nat,p<7->i*7+p≠k*7:=by intro q hq;omega
   have n2:i*7≠k*7:=by omega
   refine⟨a0,?_,?_,?_,?_,?_,?_,g',?_,?_⟩
   ·simp only[if_neg n2,if_neg (n0 1 (by omega)),if_neg (n0 2 (by omega)),if_neg (n0 3 (by omega)),if_neg (n0 4 (by omega)),if_neg (n0 5 (by omega)),if_neg (n0 6 (by omega))];exact a1
   ·simp only[if_neg (n1 1 (by omega)),if_neg (n 1 1 (by omega) (by omega)),if_neg (n 1 2 (by omega) (by omega)),if_neg (n 1 3 (by omega) (by omega)),if_neg (n 1 4 (by omega) (by omega)),if_neg (n 1 5 (by omega) (by omega)),if_neg (n 1 6 (by omega) (by omega))];exact a2
   ·simp only[if_neg (n1 2 (by omega)),if_neg (n 2 1 (by omega) (by omega)),if_neg (n 2 2 (by omega) (by omega)),if_neg (n 2 3 (by omega) (by omega)),if_neg (n 2 4 (by omega) (by omega)),if_neg (n 2 5 (by omega) (by omega)),if_neg (n 2 6 (by omega) (by omega))];exact a3
   ·simp only[if_neg (n1 3 (by omega)),if_neg (n 3 1 (by omega) (by omega)),if_neg (n 3 2 (by omega) (by omega)),if_neg (n 3 3 (by omega) (by omega)),if_neg (n 3 4 (by omega) (by omega)),if_neg (n 3 5 (by omega) (by omega)),if_neg (n 3 6 (by omega) (by omega))];exact a4
   ·simp only[if_neg (n1 4 (by omega)),if_neg (n 4 1 (by omega) (by omega)),if_neg (n 4 2 (by omega) (by omega)),if_neg (n 4 3 (by omega) (by omega)),if_neg (n 4 4 (by omega) (by omega)),if_neg (n 4 5 (by omega) (by omega)),if_neg (n 4 6 (by omega) (by omega))];exact a5
   ·simp only[if_neg (n1 5 (by omega)),if_neg (n 5 1 (by omega) (by omega)),if_neg (n 5 2 (by omega) (by omega)),if_neg (n 5 3 (by omega) (by omega)),if_neg (n 5 4 (by omega) (by omega)),if_neg (n 5 5 (by omega) (by omega)),if_neg (n 5 6 (by omega) (by omega))];exact a6
   ·rw[List.getElem?_append_left (by omega)];exact hg'
   ·simp only[if_neg (n1 6 (by omega)),if_neg (n 6 1 (by omega) (by omega)),if_neg (n 6 2 (by omega) (by omega)),if_neg (n 6 3 (by omega) (by omega)),if_neg (n 6 4 (by omega) (by omega)),if_neg (n 6 5 (by omega) (by omega)),if_neg (n 6 6 (by omega) (by omega))];exact hK'.keep hsz fun b hb=>H7 b (ho.2 b (List.mem_flatten.2 ⟨g',mg8 hg',hb⟩)).1
 ·have hm:∀b∈(G++ [g]).flatten,b∈G.flatten\/b∈g:=by intro b hb;simpa using hb
  refine Own.keep (w:=w) ⟨?_,fun b hb=>(hm b hb).elim (ho.2 b) (hB.2 b)⟩ fun b hb=>H7 b ((hm b hb).elim (fun h=>(ho.2 b h).1) (fun h=>(hB.2 b h).1));rw[List.flatten_append,List.nodup_append];refine⟨ho.1,by simpa using hB.1,fun a ha b hb=>?_⟩;rintro rfl;exact hd a ha (by simpa using hb)
theorem Y7.kids {w:World}{d B:Nat}{es:List E7}{G:List (List Nat)}(h:Y7 w d B es G es.length)(hm:es.length<=maxLen)(hne:es≠ []):C1 w (d+1) (.slice (some ⟨B,0,none⟩) es.length es.length) es (B::G.flatten)/\Own w B (B::G.flatten):=by
 obtain⟨⟨f,hf,he⟩,hl,ho⟩:=h;refine⟨⟨_,_,G,rfl,Nat.le_refl _,hm,hl,fun h=>absurd h hne,fun _=>⟨B,0,rfl,hf.lt,rfl,fun i e g hx hg=>?_⟩⟩,?_,fun b hb=>?_⟩
 ·have hi:i<es.length:=(gE1 hx).1;obtain⟨a0,a1,a2,a3,a4,a5,a6,g',hg',hK⟩:=he i e hi hx;obtain rfl:g=g':=by rw[hg]at hg';exact Option.some.inj hg'
  rw[Nat.zero_add];exact⟨a0,⟨by rw[hf.cell (by omega),a1],by rw[hf.cell (by omega),a2],by rw[hf.cell (by omega),a3],by rw[hf.cell (by omega),a4],by rw[hf.cell (by omega),a5],by rw[hf.cell (by omega),a6]⟩,_,hf.cell (by omega),hK⟩
 ·refine List.nodup_cons.2 ⟨fun h=>?_,ho.1⟩;have:=(ho.2 B h).1;omega
 ·rcases List.mem_cons.1 hb with rfl|hb
  ·exact⟨Nat.le_refl _,fun o=>hf.frozen o⟩
  ·exact⟨Nat.le_of_succ_le (ho.2 b hb).1,(ho.2 b hb).2⟩
theorem B6q (w:World)(z:Array Value)(d:Nat)(es:List E7):Y7 (w.alloc (.cells (madeCells z (es.length*7)) 42)) d w.heap.size es [] 0:=
 ⟨⟨fun i=>(madeCells z (es.length*7))[i]?.getD undef,⟨_,blk_alloc_new _ _,size_madeCells _ _,fun i hi=>by
  have:i<(madeCells z (es.length*7)).size:=by rw[size_madeCells];exact hi
  simp[this]⟩,fun i x hi=>by omega⟩,rfl,by simp[Own,P8]⟩
def ToS (d:Nat):Prop:=∀ (v:Value) (es:List E7) (F:List Nat) (w:World),C1 w d v es F->es.length+H4 es<=1048576->
  Calls Tryz.prog 27 #[v] w fun e w'=>(∃u F',e=.returned u/\C1 w' d u es F'/\Own w' w.heap.size F')/\Below w.heap.size w w'
theorem B0L {d:Nat}(hS:ToS d)(e:E7)(u:Value)(F:List Nat)(w:World)(hk:C1 w d u e.ks F)(hn:wtE e<=1048576):Calls Tryz.prog 26 #[(.agg #[.int .i64 e.k,.int .i64 e.n,.int .i64 e.v.k,.int .i64 e.v.n,.string e.v.s,.string e.p,u])] w fun x w'=>(∃u' F',x=.returned (.agg #[.int .i64 e.k,.int .i64 e.n,.int .i64 e.v.k,.int .i64 e.v.n,.string e.v.s,.string e.p,u'])/\C1 w' d u' e.ks F'/\Own w' w.heap.size F')/\Below w.heap.size w w':=by
 obtain⟨a,c,rfl,_⟩:=hk.shape;have hn1:e.ks.length+H4 e.ks<=1048576:=by rw[j3]at hn;omega
 go_enter Tryz.func26,Tryz.ntmps26;go_wp2_with fail;refine cM8 (A90 e.v.k e.v.n e.v.s _) ?_;rintro x w1 ⟨rfl,hb1⟩;have hz1:=hb1.size;simp only[World.size_alloc]at hz1;have hf1:=(bc8 hb1).2;have hy2:w.heap.size+1+1<w1.heap.size:=by omega
 have hy1:w.heap.size+1<w1.heap.size:=by omega
 have hy0:w.heap.size<w1.heap.size:=by omega
 have c5:w1.cell? ⟨w.heap.size,5,none⟩=some (.string e.p):=cl8 hb1;have c6:w1.cell? ⟨w.heap.size,6,none⟩=some (.slice a e.ks.length c):=cl8 hb1;have r0:w1.cell? ⟨w.heap.size+1,0,none⟩=some (.int .i64 0):=cl8 hb1;have r1:w1.cell? ⟨w.heap.size+1,1,none⟩=some (.int .i64 0):=cl8 hb1;have r2:w1.cell? ⟨w.heap.size+1,2,none⟩=some (.int .i64 0):=cl8 hb1;have r3:w1.cell? ⟨w.heap.size+1,3,none⟩=some (.int .i64 0):=cl8 hb1;have r4:w1.cell? ⟨w.heap.size+1,4,none⟩=some (.string ⟨#[]⟩):=cl8 hb1;have r5:w1.cell? ⟨w.heap.size+1,5,none⟩=some (.string ⟨#[]⟩):=cl8 hb1;have r6:w1.cell? ⟨w.heap.size+1,6,none⟩=some (.slice none 0 0):=cl8 hb1;have t0:w1.cell? ⟨w.heap.size+1+1,0,none⟩=some (.int .i64 e.k):=cl8 hb1;have t1:w1.cell? ⟨w.heap.size+1+1,1,none⟩=some (.int .i64 e.n):=cl8 hb1;have t2:w1.cell? ⟨w.heap.size+1+1,2,none⟩=some (.int .i64 0):=cl8 hb1;have t3:w1.cell? ⟨w.heap.size+1+1,3,none⟩=some (.int .i64 0):=cl8 hb1;have t4:w1.cell? ⟨w.heap.size+1+1,4,none⟩=some (.string ⟨#[]⟩):=cl8 hb1;have t5:w1.cell? ⟨w.heap.size+1+1,5,none⟩=some (.string ⟨#[]⟩):=cl8 hb1;have t6:w1.cell? ⟨w.heap.size+1+1,6,none⟩=some (.slice none 0 0):=cl8 hb1;go_wp2_with fail;refine cM8 (hS (.slice a e.ks.length c) e.ks F _ (hk.below ?hb) hn1) ?_
 case hb=>exact C3
 rintro x w2 ⟨⟨u2,F2,rfl,hK2,hO2⟩,hb2⟩;have hz2:=hb2.size;simp only[World.size_setCell]at hz2 hO2;have hf2:=(bc8 hb2).2;obtain⟨a2,c2,rfl,_⟩:=hK2.shape;have hy5:w.heap.size+1+1<w2.heap.size:=by omega
 have hy4:w.heap.size+1<w2.heap.size:=by omega
 have R0:w2.cell? ⟨w.heap.size+1,0,none⟩=some (.int .i64 0):=cl8 hb2;have R1:w2.cell? ⟨w.heap.size+1,1,none⟩=some (.int .i64 0):=cl8 hb2;have R2:w2.cell? ⟨w.heap.size+1,2,none⟩=some (.int .i64 0):=cl8 hb2;have R3:w2.cell? ⟨w.heap.size+1,3,none⟩=some (.int .i64 0):=cl8 hb2;have R4:w2.cell? ⟨w.heap.size+1,4,none⟩=some (.string ⟨#[]⟩):=cl8 hb2;have R5:w2.cell? ⟨w.heap.size+1,5,none⟩=some (.string ⟨#[]⟩):=cl8 hb2;have R6:w2.cell? ⟨w.heap.size+1,6,none⟩=some (.slice none 0 0):=cl8 hb2;have T0:w2.cell? ⟨w.heap.size+1+1,0,none⟩=some (.int .i64 e.k):=cl8 hb2;have T1:w2.cell? ⟨w.heap.size+1+1,1,none⟩=some (.int .i64 e.n):=cl8 hb2;have T2:w2.cell? ⟨w.heap.size+1+1,2,none⟩=some (.int .i64 e.v.k):=cl8 hb2;have T3:w2.cell? ⟨w.heap.size+1+1,3,none⟩=some (.int .i64 e.v.n):=cl8 hb2;have T4:w2.cell? ⟨w.heap.size+1+1,4,none⟩=some (.string e.v.s):=cl8 hb2;have T5:w2.cell? ⟨w.heap.size+1+1,5,none⟩=some (.string e.p):=cl8 hb2;have T6:w2.cell? ⟨w.heap.size+1+1,6,none⟩=some (.slice none 0 0):=cl8 hb2;have C0:Below w.heap.size w w2:=C3;clear hb1 hb2 c5 c6 r0 r1 r2 r3 r4 r5 r6 t0 t1 t2 t3 t4 t5 t6;go_wp2;refine bodyPost_ret (v:=(.agg #[.int .i64 e.k,.int .i64 e.n,.int .i64 e.v.k,.int .i64 e.v.n,.string e.v.s,.string e.p,(.slice a2 e.ks.length c2)])) (by simp[results,Tryz.results26,go_sem, *]) rfl ⟨⟨_,F2,rfl,?_,?_⟩,?_⟩
 ·refine hK2.keep (by simp) fun b hb=>?_;have:=(hO2.2 b hb).1;repeat rw[bS8 _ _ _ _ (by simp;try omega)]
 ·refine Own.keep (w:=w2) ⟨hO2.1,fun b hb=>⟨by have:=(hO2.2 b hb).1;omega,(hO2.2 b hb).2⟩⟩ fun b hb=>?_;have:=(hO2.2 b hb).1;repeat rw[bS8 _ _ _ _ (by simp;try omega)]
 ·exact bs8
theorem B9m {d:Nat}(hS:ToS d):ToS (d+1):=by
 intro v es F w hr hn;obtain⟨a,c,b,o,G,rfl,hl,hc,hG,_,ha⟩:=hr.pick;unfold maxLen at hc;clear hr;have hn1:es.length<=1048576:=by omega
 have hmk:=A31 (P:=Tryz.prog) 40 42 _ 7 88 Tryz.underlying40 Tryz.infoExp es.length (by omega) (by omega);go_enter Tryz.func27,Tryz.ntmps27;go_wp2;go_loopw [4] (fun i wr=> ∃ (k:Nat) (G':List (List Nat)),k<=es.length/\i=.int .i64 k/\Below w.heap.size w wr/\Y7 wr d w.heap.size es G' k) (fun i _=>es.length - (intOf i).toNat)
 case atStart=>exact⟨0,[],Nat.zero_le _,rfl,by go_grown,B6q _ _ _ _⟩
 case round=>
  obtain⟨k,G',hk,rfl,hb,hH⟩:=hrel;clear hmk;by_cases hlt:k<es.length
  ·have hzb:=hb.size;obtain⟨rfl,hblt,_,hL⟩:=ha k hlt;obtain⟨x,g,u,hx,hg,hxw,⟨c0,c1,c2,c3,c4,c5⟩,c6,hK,hbr⟩:=hL.at hG hblt hb hlt;have HX:Hid (es[k]?=some x):=hx;have hxn:wtE x<=1048576:=by have:=A0a (mg8 hx);omega
   have hBr:=(hH.cells hlt).2.2.2.2.2.2.2.2;have hHl:=hH.lt hk;clear ha hL hx;go_wp2_with(go_at_call 26;refine(B0L hS _ _ _ _ hK hxn).mono ?_;rintro e w1 ⟨⟨u1,F1,rfl,hK1,hO1⟩,hb1⟩;obtain⟨a1,n1,rfl,_⟩:=hK1.shape;have hz1:=hb1.size;have hH1:=hH.below hk hb1;obtain⟨⟨y0,q0⟩,⟨y1,q1⟩,⟨y2,q2⟩,⟨y3,q3⟩,⟨y4,q4⟩,⟨y5,q5⟩,⟨y6,q6⟩,gf,gs⟩:=hH1.cells hlt);refine⟨⟨k+1,_,hlt,by simp,?_,hH1.step hk HX.out hxw hK1 ⟨hO1.1,fun b hb=>⟨by have:=(hO1.2 b hb).1;omega,(hO1.2 b hb).2⟩⟩ (fun b hb hb'=>by have:=(hO1.2 b hb').1;have:=hHl b hb;omega)⟩,by simp[intOf];omega⟩;exact bex
  ·go_wp2;go_returns;obtain rfl:k=es.length:=by omega
   by_cases hne:es=[]
   ·subst hne;exact⟨⟨_,[],rfl,⟨_,_,[],rfl,Nat.le_refl _,by simp,rfl,fun _=>rfl,fun h=>absurd rfl h⟩,by simp[Own,P8]⟩,hb⟩
   ·obtain⟨h1,h2⟩:=hH.kids (by unfold maxLen;omega) hne;exact⟨⟨_,_,rfl,h1,h2⟩,hb⟩
theorem A5m:∀d,ToS d
 |0=>fun _ _ _ _ h=>h.elim
 |d+1=>B9m (A5m d)
theorem C3P {d:Nat}(e:E7)(u:Value)(F:List Nat)(w:World)(hk:C1 w d u e.ks F)(hn:wtE e<=1048576):Calls Tryz.prog 26 #[(.agg #[.int .i64 e.k,.int .i64 e.n,.int .i64 e.v.k,.int .i64 e.v.n,.string e.v.s,.string e.p,u])] w fun x w'=>(∃u' F',x=.returned (.agg #[.int .i64 e.k,.int .i64 e.n,.int .i64 e.v.k,.int .i64 e.v.n,.string e.v.s,.string e.p,u'])/\C1 w' d u' e.ks F'/\Own w' w.heap.size F')/\Below w.heap.size w w':=
 B0L (A5m d) e u F w hk hn
end
section
open Go.RowKit Go.Deep Go.ChangeShapes Go.WideShapes
def c7 (u:Value)(e:E7):List Value:=[.int .i64 e.k,.int .i64 e.n,.int .i64 e.v.k,.int .i64 e.v.n,.string e.v.s,.string e.p,u]
def ec (us:List Value)(es:List E7):List Value:=(us.zip es).flatMap fun p=>c7 p.1 p.2
theorem B7p {us:List Value}{es:List E7}(h:us.length=es.length)(u:Value)(e:E7):ec (us++ [u]) (es++ [e])=ec us es++c7 u e:=by
 unfold ec;rw[List.zip_append h,List.flatMap_append];simp
theorem A9Y {us:List Value}{es:List E7}(h:us.length=es.length):∀ {i:Nat} {u:Value} {e:E7},us[i]?=some u->es[i]?=some e->∀j,j<7->(ec us es)[i*7+j]?=(c7 u e)[j]?:=by
 induction us generalizing es with
 |nil=>intro i u x hu;simp at hu
 |cons v us ih=>
  cases es with
  |nil=>simp at h
  |cons c es=>
   intro i u x hu hx j hj;have e:ec (v::us) (c::es)=c7 v c++ec us es:=by unfold ec;rw[List.zip_cons_cons,List.flatMap_cons]
   rw[e];have hl:(c7 v c).length=7:=rfl;cases i with
   |zero=>simp at hu hx;subst hu hx;rw[List.getElem?_append_left (by omega)];simp
   |succ i=>
    have:=ih (es:=es) (by simpa using h) (i:=i) (u:=u) (e:=x) (by simpa using hu) (by simpa using hx) j hj;rw[List.getElem?_append_right (by omega),show(i+1)*7+j - (c7 v c).length=i*7+j from by omega];exact this
structure Q2 (w:World)(N d:Nat)(v:Value)(es:List E7)(us:List Value)(G:List (List Nat)):Prop where
 own:w.ownsRow N 42 7 v es.length (ec us es)
 ul:us.length=es.length
 gl:G.length=es.length
 wf:∀e∈es,e.wf
 kid:∀ (i:Nat) (e:E7) (u:Value) (g:List Nat),es[i]?=some e->us[i]?=some u->G[i]?=some g->C1 w d u e.ks g
 free:Own w N G.flatten
 out:∀b,v.ownBlock=some b->b∉G.flatten
theorem Q2.nil (w:World)(N d:Nat):Q2 w N d (.slice none 0 0) [] [] []:=
 ⟨⟨rfl,.inl ⟨rfl,rfl⟩⟩,rfl,rfl,by simp,fun i x u g hx=>by simp at hx,by simp[Own,P8],fun b _=>by simp⟩
theorem O5 {w:World}{N e n s:Nat}{v:Value}{xs:List Value}(h:w.ownsRow N e s v n xs):∀b,v.ownBlock=some b->N<=b/\b<w.heap.size:=by
 intro b hb;rcases h.2 with⟨rfl,_⟩|⟨g,cap,cur,rfl,hg,hc,_⟩
 ·simp[Value.ownBlock]at hb
 ·simp[Value.ownBlock]at hb;subst hb;refine⟨hg,?_⟩;rcases Nat.lt_or_ge g w.heap.size with h'|h'
  ·exact h'
  ·simp[Array.getElem?_eq_none h']at hc
theorem p6 {w w':World}{N e n s:Nat}{v:Value}{xs:List Value}(h:w.ownsRow N e s v n xs)(hb:∀b,v.ownBlock=some b->w'.heap[b]?=w.heap[b]?):w'.ownsRow N e s v n xs:=by
 refine⟨h.1,?_⟩;rcases h.2 with hn|⟨g,cap,cur,rfl,hg,hc,rest⟩
 ·exact .inl hn
 ·exact .inr ⟨g,cap,cur,rfl,hg,(hb g rfl).trans hc,rest⟩
theorem Q2.empty (w:World)(d:Nat):Q2 (w.alloc (.cells #[] 42)) w.heap.size d (.slice (some ⟨w.heap.size,0,none⟩) 0 0) [] [] []:=
 ⟨⟨by simp[ec],.inr ⟨w.heap.size,0,#[],rfl,Nat.le_refl _,heap_alloc_new w _,Nat.le_refl _,by simp,by simp,by simp[ec]⟩⟩,rfl,rfl,by simp,fun i x u g hx=>by simp at hx,by simp[Own,P8],fun b _=>by simp⟩
theorem Q2.empty' {w:World}{N:Nat}(hN:N=w.heap.size)(d:Nat):Q2 (w.alloc (.cells #[] 42)) N d (.slice (some ⟨N,0,none⟩) 0 0) [] [] []:=by subst hN;exact Q2.empty w d
section
variable {w w':World} {N d:Nat} {v:Value} {es:List E7} {us:List Value} {G:List (List Nat)}
theorem Q2.lt (h:Q2 w N d v es us G):∀b∈G.flatten,b<w.heap.size:=by
 intro b hb;obtain⟨g,hg,hbg⟩:=List.mem_flatten.1 hb;obtain⟨i,hi,rfl⟩:=List.mem_iff_getElem.1 hg;have h1:=h.gl;have h2:=h.ul;have hi1:i<es.length:=by omega
 have hi2:i<us.length:=by omega
 exact(h.kid i es[i] us[i] G[i] (by simp) (by simp) (by simp)).lt b hbg
theorem Q2.keep (h:Q2 w N d v es us G)(hs:w.heap.size<=w'.heap.size)(hb:∀b,N<=b->b<w.heap.size->w'.heap[b]?=w.heap[b]?):Q2 w' N d v es us G:=by
 have hk:∀b∈G.flatten,w'.heap[b]?=w.heap[b]?:=fun b hbG=>hb b (h.free.2 b hbG).1 (h.lt b hbG);refine⟨p6 h.own fun b hv=>hb b (O5 h.own b hv).1 (O5 h.own b hv).2,h.ul,h.gl,h.wf,fun i x u g hx hu hg=>(h.kid i x u g hx hu hg).keep hs fun b hbg=>hk b (List.mem_flatten.2 ⟨g,mg8 hg,hbg⟩),h.free.keep hk,h.out⟩
theorem Q2.below (h:Q2 w N d v es us G)(hb:Below w.heap.size w w'):Q2 w' N d v es us G:=h.keep hb.size fun b _ hlt=>hb.block b hlt
theorem Q2.push {v' u:Value}{e:E7}{g:List Nat}(h:Q2 w N d v es us G)(hw:e.wf)(hK:C1 w d u e.ks g)(hO:Own w N g)(hd1:∀b∈G.flatten,b∉g)(hd2:∀b,v.ownBlock=some b->b∉g)(ho:w'.ownsRow N 42 7 v' (es.length+1) (ec us es++c7 u e)) (hg:w.grownBy w' v.ownBlock) (hat:∀b,v'.ownBlock=some b->v.ownBlock=some b\/w.heap.size<=b):Q2 w' N d v' (es++ [e]) (us++ [u]) (G++ [g]):=by
 have hG:=h.lt;have hm:∀b∈(G++ [g]).flatten,b∈G.flatten\/b∈g:=by intro b hb;simpa using hb
 have hlt:∀b∈(G++ [g]).flatten,b<w.heap.size:=fun b hb=>(hm b hb).elim (hG b) (hK.lt b);have hne:∀b∈(G++ [g]).flatten,some b≠v.ownBlock:=fun b hb e=>(hm b hb).elim (h.out b e.symm) (hd2 b e.symm);have hk:∀b∈(G++ [g]).flatten,w'.heap[b]?=w.heap[b]?:=fun b hb=>hg.block b (hlt b hb) (hne b hb);refine⟨?_,by simp[h.ul],by simp[h.gl],fun y hy=>?_,fun i y z q hy hz hq=>?_,?_,fun b hb=>?_⟩
 ·rw[B7p h.ul];simpa using ho
 ·rcases List.mem_append.1 hy with hy|hy
  ·exact h.wf y hy
  ·rcases List.mem_singleton.1 hy with rfl;exact hw
 ·by_cases hi:i<es.length
  ·rw[List.getElem?_append_left hi]at hy;rw[List.getElem?_append_left (by rw[h.ul];exact hi)]at hz;rw[List.getElem?_append_left (by rw[h.gl];exact hi)]at hq;exact(h.kid i y z q hy hz hq).keep hg.size fun b hb=>hk b (by simp;exact .inl ⟨q,mg8 hq,hb⟩)
  ·have hl:i<(es++ [e]).length:=(gE1 hy).1;obtain rfl:i=es.length:=by simp at hl;omega
   rw[List.getElem?_append_right lr8]at hy;rw[List.getElem?_append_right (by rw[h.ul];exact Nat.le_refl _)]at hz;rw[List.getElem?_append_right (by rw[h.gl];exact Nat.le_refl _)]at hq;simp[h.ul,h.gl]at hy hz hq;subst hy hz hq;exact hK.keep hg.size fun b hb=>hk b (by simp;exact .inr hb)
 ·refine Own.keep (w:=w) ⟨?_,fun b hb=>(hm b hb).elim (h.free.2 b) (hO.2 b)⟩ hk;rw[List.flatten_append,List.nodup_append];refine⟨h.free.1,by simpa using hO.1,fun a ha b hb=>?_⟩;rintro rfl;exact hd1 a ha (by simpa using hb)
 ·intro hx;rcases hat b hb with e|e
  ·exact hne b hx e.symm
  ·have:=hlt b hx;omega
theorem Q2.shape (h:Q2 w N d v es us G):∃a c,v=.slice a es.length c:=by
 rcases h.own.2 with⟨rfl,h0⟩|⟨g,cap,cur,hv,_⟩
 ·exact⟨none,0,by rw[h0]⟩
 ·exact⟨_,cap,hv⟩
theorem Q2.kids (h:Q2 w N d v es us G):∃F,C1 w (d+1) v es F/\Own w N F:=by
 have hlt:=O5 h.own;by_cases hne:es=[]
 ·refine⟨[],?_,by simp[Own,P8]⟩;have hgl:=h.gl;subst hne;rcases h.own.2 with⟨rfl,_⟩|⟨g,cap,cur,rfl,_,_,hn,hm,_⟩
  ·exact⟨none,0,G,rfl,Nat.le_refl _,by simp,hgl,fun _=>rfl,fun x=>absurd rfl x⟩
  ·exact⟨_,cap,G,rfl,hn,hm,hgl,fun _=>rfl,fun x=>absurd rfl x⟩
 have hp:0<es.length:=List.length_pos_iff.2 hne;obtain⟨hl,ho⟩:=h.own;rcases ho with⟨_,h0⟩|⟨g,cap,cur,rfl,hg,hc,hn,hm,hs,ht⟩
 ·omega
 have hgo:g∉G.flatten:=h.out g rfl;refine⟨g::G.flatten,⟨_,cap,G,rfl,hn,hm,h.gl,fun x=>absurd x hne,fun _=>⟨g,0,rfl,(hlt g rfl).2,rfl,fun i x q hx hq=>?_⟩⟩,List.nodup_cons.2 ⟨hgo,h.free.1⟩,fun b hb=>?_⟩
 ·have hi:i<es.length:=(gE1 hx).1;have hiu:i<us.length:=by rw[h.ul];exact hi
  have hat:=A9Y h.ul (i:=i) (u:=us[i]) (e:=x) (by simp) hx;have get:∀j u,j<7->(c7 us[i] x)[j]?=some u->w.cell? ⟨g,i*7+j,none⟩=some u:=by
   intro j u hj hu;have hu:=(hat j hj).trans hu;simp only[World.cell?,hc];rw[<-ht,List.getElem?_take,if_pos (by omega),Array.getElem?_toList]at hu
   simpa using hu
  rw[Nat.zero_add];exact⟨h.wf x (mg8 hx),⟨get 0 _ (by omega) rfl,get 1 _ (by omega) rfl,get 2 _ (by omega) rfl,get 3 _ (by omega) rfl,get 4 _ (by omega) rfl,get 5 _ (by omega) rfl⟩,us[i],get 6 _ (by omega) rfl,h.kid i x us[i] q hx (by simp) hq⟩
 ·rcases List.mem_cons.1 hb with rfl|hb
  ·exact⟨hg,fun o=>by simp[World.frozen?,hc]⟩
  ·exact h.free.2 b hb
end
end
section
open Go.RowKit Go.Deep Go.ChangeShapes Go.WideShapes
theorem A6l {us:List Value}{es:List E7}(h:us.length=es.length):(ec us es).length=es.length*7:=by
 unfold ec;induction us generalizing es with
 |nil=>cases es with|nil=>rfl|cons=>simp at h
 |cons u us ih=>
  cases es with
  |nil=>simp at h
  |cons c es=>
   have:=ih (es:=es) (by simpa using h);rw[List.zip_cons_cons,List.flatMap_cons,List.length_append,this];simp[c7];omega
theorem B9Z {us:List Value}{es:List E7}(h:∀u∈us,u.oneCell'=true):∀u∈ec us es,u.oneCell'=true:=by
 intro u hu;unfold ec at hu;obtain⟨p,hp,hup⟩:=List.mem_flatMap.1 hu;have h1:=h p.1 (List.of_mem_zip hp).1;simp only[c7,List.mem_cons,List.not_mem_nil,or_false]at hup;rcases hup with rfl|rfl|rfl|rfl|rfl|rfl|rfl<;>first|rfl|exact h1
theorem C1.flat {w:World}{d b o:Nat}{es:List E7}{G:List (List Nat)}(hG:G.length=es.length)(hL:A0b w d b o es G):∃us:List Value,us.length=es.length/\(∀ (i:Nat) (e:E7) (u:Value) (g:List Nat),es[i]?=some e->us[i]?=some u->G[i]?=some g->e.wf/\C1 w d u e.ks g)/\(∀u∈us,u.oneCell'=true)/\∀j u,(ec us es)[j]?=some u->w.cell? ((⟨b,o,none⟩:Addr).add j)=some u:=by
 have i2:∀i,i<es.length->∃u:Value,∀ (e:E7) (g:List Nat),es[i]?=some e->G[i]?=some g->e.wf/\cellsE w b (o+i*7) e/\w.cell? ⟨b,o+i*7+6,none⟩=some u/\C1 w d u e.ks g:=by
  intro i hi;have hi':i<G.length:=by omega
  obtain⟨hw,hc,u,hu,hk⟩:=hL i es[i] G[i] (by simp) (by simp);refine⟨u,fun e g he hg=>?_⟩;obtain rfl:es[i]=e:=by simpa [hi]using he
  obtain rfl:G[i]=g:=by simpa [hi']using hg
  exact⟨hw,hc,hu,hk⟩
 have:Inhabited Value:=⟨.slice none 0 0⟩;obtain⟨q,hq⟩:=choose_lt i2;have hul:((List.range es.length).map q).length=es.length:=by simp
 refine⟨(List.range es.length).map q,hul,fun i e u g he hu hg=>?_,fun u hu=>?_,fun j u hu=>?_⟩
 ·have hi:i<es.length:=(gE1 he).1;obtain rfl:q i=u:=by simpa [hi]using hu
  obtain⟨hw,_,_,hk⟩:=hq i hi e g he hg;exact⟨hw,hk⟩
 ·obtain⟨i,hi,rfl⟩:=List.mem_map.1 hu;have hi:=List.mem_range.1 hi;have hi':i<G.length:=by omega
  obtain⟨_,_,_,hk⟩:=hq i hi es[i] G[i] (by simp) (by simp);obtain⟨a,c,e,_⟩:=hk.shape;rw[e];rfl
 ·have hj:j<es.length*7:=by have:=(gE1 hu).1;rwa [A6l hul]at this
  have hi:j/7<es.length:=by omega
  have hi':j/7<G.length:=by omega
  obtain⟨_,⟨c0,c1,c2,c3,c4,c5⟩,c6,_⟩:=hq (j/7) hi es[j/7] G[j/7] (by simp) (by simp);have hat:=A9Y hul (i:=j/7) (u:=q (j/7)) (e:=es[j/7]) (by simp[hi]) (by simp) (j %7) (by omega);rw[show j/7*7+j %7=j from by omega,hu]at hat;rw[add_plain];have hr:j %7=0\/j %7=1\/j %7=2\/j %7=3\/j %7=4\/j %7=5\/j %7=6:=by omega
  rcases hr with e|e|e|e|e|e|e<;>rw[e]at hat<;>simp only[c7,List.getElem?_cons_zero,List.getElem?_cons_succ,Option.some.injEq]at hat<;>subst hat
  ·rw[show o+j=o+j/7*7 from by omega];exact c0
  ·rw[show o+j=o+j/7*7+1 from by omega];exact c1
  ·rw[show o+j=o+j/7*7+2 from by omega];exact c2
  ·rw[show o+j=o+j/7*7+3 from by omega];exact c3
  ·rw[show o+j=o+j/7*7+4 from by omega];exact c4
  ·rw[show o+j=o+j/7*7+5 from by omega];exact c5
  ·rw[show o+j=o+j/7*7+6 from by omega];exact c6
theorem C22 (c:Nat)(w:World):Calls Tryz.prog 193 #[.slice none 0 c] w fun e w'=>e=.returned (.slice none 0 0)/\w'=w:=by
 have A2E:∀ (w:World) (a:Option Addr) (n c n' c':Nat),(binOp .eql 40 (.slice a n c) (.slice none n' c')).run Tryz.prog w=.ok (.bool a.isNone) w:=fun w a n c n' c'=>Lib.run_eql_slice_nil w _ _ a n c n' c' Tryz.underlying40;go_enter Tryz.func193,Tryz.ntmps193;go_wp2;go_returns
 first|done|exact⟨rfl,rfl⟩|rfl
end
section
open Go.RowKit Go.Deep
def RE (w:World):Nat->Value->List E7->Prop
 |0,_,_=>False
 |d+1,v,es=> ∃ (a:Option Addr) (c:Nat),v=.slice a es.length c/\es.length<=c/\c<=maxLen/\
   (es≠ []->∃b o,a=some ⟨b,o,none⟩/\b<w.heap.size/\ ∀i e,es[i]?=some e->e.wf/\cellsE w b (o+i*7) e/\∃u,w.cell? ⟨b,o+i*7+6,none⟩=some u/\RE w d u e.ks)
theorem C1.re {w:World}:∀ {d:Nat} {v:Value} {es:List E7} {F:List Nat},C1 w d v es F->RE w d v es
 |0,_,_,_,h=>h.elim
 |d+1,v,es,F,h=>by
  obtain⟨a,c,G,rfl,hl,hc,hG,h0,h⟩:=h;refine⟨a,c,rfl,hl,hc,fun hne=>?_⟩;obtain⟨b,o,rfl,hlt,rfl,hL⟩:=h hne;refine⟨b,o,rfl,hlt,fun i e he=>?_⟩;have hi:i<G.length:=by have:=(gE1 he).1;omega
  obtain⟨hw,hc,u,hu,hk⟩:=hL i e G[i] he (by simp);exact⟨hw,hc,u,hu,hk.re⟩
theorem RE.below {w w':World}(hb:Below w.heap.size w w'):∀ {d:Nat} {v:Value} {es:List E7},RE w d v es->RE w' d v es
 |0,_,_,h=>h.elim
 |d+1,v,es,h=>by
  obtain⟨a,c,rfl,hl,hc,h⟩:=h;refine⟨a,c,rfl,hl,hc,fun hne=>?_⟩;obtain⟨b,o,rfl,hlt,hL⟩:=h hne;refine⟨b,o,rfl,Nat.lt_of_lt_of_le hlt hb.size,fun i e he=>?_⟩;obtain⟨hw,hc,u,hu,hk⟩:=hL i e he;exact⟨hw,hc.keep (hb.block b hlt),u,(cb8 (hb.block b hlt)).trans hu,RE.below hb hk⟩
theorem RE.up {w:World}:∀ {d d':Nat} {v:Value} {es:List E7},RE w d v es->d<=d'->RE w d' v es
 |0,_,_,_,h,_=>h.elim
 |d+1,0,_,_,_,hd=>absurd hd (by omega)
 |d+1,d'+1,v,es,h,hd=>by
  obtain⟨a,c,rfl,hl,hc,h⟩:=h;refine⟨a,c,rfl,hl,hc,fun hne=>?_⟩;obtain⟨b,o,rfl,hlt,hL⟩:=h hne;refine⟨b,o,rfl,hlt,fun i e he=>?_⟩;obtain⟨hw,hc,u,hu,hk⟩:=hL i e he;exact⟨hw,hc,u,hu,RE.up hk (by omega)⟩
theorem RE.shape {w:World}{d:Nat}{v:Value}{es:List E7}(h:RE w d v es):∃a c,v=.slice a es.length c/\es.length<=c/\c<=maxLen:=by
 cases d with
 |zero=>exact h.elim
 |succ d=>
  obtain⟨a,c,rfl,hl,hc,_⟩:=h;exact⟨a,c,rfl,hl,hc⟩
theorem RE.kids {w:World}:∀ {d:Nat} {v:Value} {es:List E7},RE w d v es->∃F,C1 w d v es F
 |0,_,_,h=>h.elim
 |d+1,v,es,h=>by
  obtain⟨a,c,rfl,hl,hc,h⟩:=h;by_cases hne:es=[]
  ·subst hne;exact⟨[],a,c,[],rfl,hl,hc,rfl,fun _=>rfl,fun h=>absurd rfl h⟩
  obtain⟨b,o,rfl,hlt,hL⟩:=h hne;have i2:∀i,i<es.length->∃g:List Nat,∀e,es[i]?=some e->e.wf/\cellsE w b (o+i*7) e/\∃u,w.cell? ⟨b,o+i*7+6,none⟩=some u/\C1 w d u e.ks g:=by
   intro i hi;obtain⟨hw,hc,u,hu,hk⟩:=hL i es[i] (by simp);obtain⟨g,hg⟩:=RE.kids hk;refine⟨g,fun e he=>?_⟩;obtain rfl:es[i]=e:=by simpa [hi]using he
   exact⟨hw,hc,u,hu,hg⟩
  obtain⟨q,hq⟩:=choose_lt i2;refine⟨b::((List.range es.length).map q).flatten,some ⟨b,o,none⟩,c,(List.range es.length).map q,rfl,hl,hc,by simp,fun h=>absurd h hne,fun _=>⟨b,o,rfl,hlt,rfl,fun i e g he hg=>?_⟩⟩;have hi:i<es.length:=(gE1 he).1;obtain rfl:q i=g:=by simpa [hi]using hg
  exact hq i hi e he
def A3x (w:World)(N:Nat)(v u:Value)(n:Nat):Prop:=
 (n=0/\∃a c,u=.slice a 0 c/\c<=maxLen)\/∃b o c g cap,v=.slice (some ⟨b,o,none⟩) n c/\u=.slice (some ⟨g,0,none⟩) n cap/\N<=g/\g<w.heap.size/\n<=cap/\cap<=maxLen/\(∀q,w.frozen? ⟨g,q,none⟩=false)/\∀j,j<n*7->w.cell? ⟨g,j,none⟩=w.cell? ⟨b,o+j,none⟩
theorem A3x.re {w:World}{N n:Nat}{v u:Value}(h:A3x w N v u n):∀d ks,ks.length=n->RE w d v ks->RE w d u ks:=by
 intro d ks hn hr;cases d with
 |zero=>exact hr.elim
 |succ d=>
  obtain⟨a,c,rfl,hl,hc,hr⟩:=hr;rcases h with⟨h0,a',c',rfl,hc'⟩|⟨b,o,c',g,cap,hv,rfl,_,hg,Q9,hm,_,C5⟩
  ·obtain rfl:ks=[]:=List.length_eq_zero_iff.1 (by omega);exact⟨a',c',rfl,Nat.zero_le _,hc',fun h=>absurd rfl h⟩
  ·refine⟨some ⟨g,0,none⟩,cap,by rw[hn],by omega,hm,fun hne=>⟨g,0,rfl,hg,fun i e he=>?_⟩⟩;obtain⟨b',o',ea,hlt,hL⟩:=hr hne;have hi:i<ks.length:=(gE1 he).1;injection hv with ha;rw[ea]at ha;injection ha with ha;injection ha with hb ho;subst hb ho;obtain⟨hw,⟨e0,e1,e2,e3,e4,e5⟩,x,e6,hk⟩:=hL i e he;have cell:∀r,r<7->w.cell? ⟨g,0+i*7+r,none⟩=w.cell? ⟨b',o'+i*7+r,none⟩:=by
    intro r hr;have:=C5 (i*7+r) (by omega);rw[Nat.zero_add,this,Nat.add_assoc]
   exact⟨hw,⟨(cell 0 (by omega)).trans e0,(cell 1 (by omega)).trans e1,(cell 2 (by omega)).trans e2,(cell 3 (by omega)).trans e3,(cell 4 (by omega)).trans e4,(cell 5 (by omega)).trans e5⟩,x,(cell 6 (by omega)).trans e6,hk⟩
def upB (hang:Nat->Nat×Nat):Nat->Nat->Nat
 |0,c=>c
 |n+1,c=>upB hang n (hang c).1
def A1T (hang:Nat->Nat×Nat)(c:Nat)(p:Nat×Nat):Prop:=∃n,hang (upB hang n c)=p
def A2O (hang:Nat->Nat×Nat):Prop:=(hang 0).1=0/\∀c,0<c->(hang c).1<c
theorem A6L (hang:Nat->Nat×Nat):∀a b c,upB hang (a+b) c=upB hang b (upB hang a c)
 |0,b,c=>by rw[Nat.zero_add];rfl
 |a+1,b,c=>by rw[Nat.add_right_comm];exact A6L hang a b (hang c).1
theorem A75 {hang:Nat->Nat×Nat}(h:A2O hang):∀n c,upB hang n c<=c
 |0,c=>Nat.le_refl _
 |n+1,c=>by
  have h1:upB hang (n+1) c<=(hang c).1:=A75 h n (hang c).1;rcases Nat.eq_zero_or_pos c with rfl|hc
  ·rw[h.1]at h1;exact h1
  ·have:=h.2 c hc;omega
theorem B1D {hang:Nat->Nat×Nat}(h:A2O hang)(n:Nat){c:Nat}(hc:0<c):upB hang (n+1) c<c:=by
 have h1:upB hang (n+1) c<=(hang c).1:=A75 h n (hang c).1;have:=h.2 c hc;omega
theorem A5M {hang:Nat->Nat×Nat}{n c:Nat}{p:Nat×Nat}(h:hang (upB hang n c)=p):upB hang (n+1) c=p.1:=by
 rw[A6L hang n 1 c];show(hang (upB hang n c)).1=p.1;rw[h]
theorem B5A {hang:Nat->Nat×Nat}(h:A2O hang){c:Nat}{p:Nat×Nat}(hc:0<c)(hp:A1T hang c p):p.1<c:=by
 obtain⟨n,hn⟩:=hp;rw[<-A5M hn];exact B1D h n hc
theorem B1n {hang:Nat->Nat×Nat}(h:A2O hang){c n m:Nat}{p p':Nat×Nat}(hp:hang (upB hang n c)=p)(hp':hang (upB hang m c)=p')(he:p.1=p'.1)(h0:0<p.1)(hnm:n<m):False:=by
 obtain⟨t,rfl⟩:∃t,m=n+1+t:=⟨m - (n+1),by omega⟩;have h1:=A5M hp';rw[show n+1+t+1=n+1+(t+1)from by omega,A6L,A5M hp]at h1;have:=B1D h t h0;omega
theorem B5h {hang:Nat->Nat×Nat}(h:A2O hang){c:Nat}{p p':Nat×Nat}(hp:A1T hang c p)(hp':A1T hang c p')(he:p.1=p'.1)(h0:0<p.1):p=p':=by
 obtain⟨n,hn⟩:=hp;obtain⟨m,hm⟩:=hp';rcases Nat.lt_trichotomy n m with hl|rfl|hl
 ·exact(B1n h hn hm he h0 hl).elim
 ·exact hn.symm.trans hm
 ·exact(B1n h hm hn he.symm (by omega) hl).elim
theorem B7F {hang:Nat->Nat×Nat}{c b q:Nat}(h:A1T hang c (b,q)):A1T hang c (hang b):=by
 obtain⟨n,hn⟩:=h;exact⟨n+1,by rw[A5M hn]⟩
def A2v (w:World)(N:Nat)(hang:Nat->Nat×Nat):Nat->Value->List E7->Nat×Nat->Prop
 |0,_,_,_=>False
 |d+1,v,es,p=> ∃ (a:Option Addr) (c:Nat),v=.slice a es.length c/\es.length<=c/\c<=maxLen/\
   (es≠ []->∃b,a=some ⟨b,0,none⟩/\b<w.heap.size/\N<=b/\(∀q,w.frozen? ⟨b,q,none⟩=false)/\hang b=p/\ ∀i e,es[i]?=some e->e.wf/\cellsE w b (0+i*7) e/\∃u,w.cell? ⟨b,0+i*7+6,none⟩=some u/\A2v w N hang d u e.ks (b,i*7+6))
theorem A2v.kids {w:World}{N:Nat}{hang:Nat->Nat×Nat}(hd:A2O hang)(hN:0<N):∀ {d:Nat} {v:Value} {es:List E7} {p:Nat×Nat},A2v w N hang d v es p->∃F,C1 w d v es F/\Own w N F/\∀c∈F,A1T hang c p
 |0,_,_,_,h=>h.elim
 |d+1,v,es,p,h=>by
  obtain⟨a,c,rfl,hl,hc,h⟩:=h;by_cases hne:es=[]
  ·subst hne;exact⟨[],⟨a,c,[],rfl,hl,hc,rfl,fun _=>rfl,fun h=>absurd rfl h⟩,by simp[Own,P8],by simp⟩
  obtain⟨b,rfl,hlt,hNb,hfr,hp,hL⟩:=h hne;have i2:∀i,i<es.length->∃g:List Nat,(∀e,es[i]?=some e->e.wf/\cellsE w b (0+i*7) e/\∃u,w.cell? ⟨b,0+i*7+6,none⟩=some u/\C1 w d u e.ks g)/\Own w N g/\∀c∈g,A1T hang c (b,i*7+6):=by
   intro i hi;obtain⟨hw,hc,u,hu,hk⟩:=hL i es[i] (by simp);obtain⟨g,hg,ho,hh⟩:=A2v.kids hd hN hk;refine⟨g,fun e he=>?_,ho,hh⟩;obtain rfl:es[i]=e:=by simpa [hi]using he
   exact⟨hw,hc,u,hu,hg⟩
  obtain⟨q,hq⟩:=choose_lt i2;have O9:∀c∈((List.range es.length).map q).flatten,∃i,i<es.length/\c∈q i:=by
   intro c hc;obtain⟨g,hg,hcg⟩:=List.mem_flatten.1 hc;obtain⟨i,hi,rfl⟩:=List.mem_map.1 hg;exact⟨i,List.mem_range.1 hi,hcg⟩
  have hbig:∀i,i<es.length->∀c∈q i,b<c:=fun i hi c hc=>B5A (p:=(b,i*7+6)) hd (by have:=((hq i hi).2.1.2 c hc).1;omega) ((hq i hi).2.2 c hc);refine⟨b::((List.range es.length).map q).flatten,⟨some ⟨b,0,none⟩,c,(List.range es.length).map q,rfl,hl,hc,by simp,fun h=>absurd h hne,fun _=>⟨b,0,rfl,hlt,rfl,fun i e g he hg=>?_⟩⟩,⟨?_,fun c hc=>?_⟩,fun c hc=>?_⟩
  ·have hi:i<es.length:=(gE1 he).1;obtain rfl:q i=g:=by simpa [hi]using hg
   exact(hq i hi).1 e he
  ·refine List.nodup_cons.2 ⟨fun hb=>?_,?_⟩
   ·obtain⟨i,hi,hc⟩:=O9 b hb;have:=hbig i hi b hc;omega
   ·rw[List.Nodup,List.pairwise_flatten];constructor
    ·intro g hg;obtain⟨i,hi,rfl⟩:=List.mem_map.1 hg;exact(hq i (List.mem_range.1 hi)).2.1.1
    ·rw[List.pairwise_iff_getElem];intro i j hi hj hij x hx y hy;have hi':i<es.length:=by simpa using hi
     have hj':j<es.length:=by simpa using hj
     have hx:x∈q i:=by simpa using hx
     have hy:y∈q j:=by simpa using hy
     rintro rfl;have:=B5h hd ((hq i hi').2.2 x hx) ((hq j hj').2.2 x hy) rfl (by show 0<b;omega);injection this with _ h;omega
  ·rcases List.mem_cons.1 hc with rfl|hc
   ·exact⟨hNb,hfr⟩
   ·obtain⟨i,hi,hci⟩:=O9 c hc;exact(hq i hi).2.1.2 c hci
  ·rcases List.mem_cons.1 hc with rfl|hc
   ·exact⟨0,hp⟩
   ·obtain⟨i,hi,hci⟩:=O9 c hc;rw[<-hp];exact B7F ((hq i hi).2.2 c hci)
def DE:Nat->List E7->Prop
 |0,_=>False
 |d+1,es=> ∀e∈es,DE d e.ks
theorem RE.de {w:World}:∀ {d:Nat} {v:Value} {es:List E7},RE w d v es->DE d es
 |0,_,_,h=>h.elim
 |d+1,v,es,h=>by
  obtain⟨a,c,rfl,hl,hc,h⟩:=h;intro e he;obtain⟨b,o,_,_,hL⟩:=h (by rintro rfl;cases he);obtain⟨i,hi,rfl⟩:=List.mem_iff_getElem.1 he;obtain⟨_,_,u,_,hk⟩:=hL i es[i] (by simp);exact hk.de
structure Nd where
 b:Nat
 o:Nat
 e:E7
def A5S (w:World)(N:Nat)(hang:Nat->Nat×Nat)(ns:List Nd)(u:Value)(ks:List E7)(p:Nat×Nat):Prop:=
 ∃ (a:Option Addr) (c:Nat),u=.slice a ks.length c/\ks.length<=c/\c<=maxLen/\(ks≠ []->∃b,a=some ⟨b,0,none⟩/\N<=b/\b<w.heap.size/\hang b=p/\∀ (t:Nat) (e:E7),ks[t]?=some e->∃m:Nat,ns[m]?=some (Nd.mk b (t*7) e))
structure NQ (w:World)(D:Nat)(hang:Nat->Nat×Nat)(P:E7->Prop)(wr:World)(i:Nat)(ns:List Nd):Prop where
 at':∀ (j:Nat) (x:Nd),ns[j]?=some x->(x.e.wf/\P x.e/\w.heap.size<=x.b/\x.b<wr.heap.size/\(∀q,wr.frozen? ⟨x.b,q,none⟩=false)/\x.o %7=0)/\cellsE wr x.b x.o x.e/\∃u,wr.cell? ⟨x.b,x.o+6,none⟩=some u/\(i<=j->RE w (D+1) u x.e.ks)/\(j<i->A5S wr w.heap.size hang ns u x.e.ks (x.b,x.o+6))
 dist:∀ (j k:Nat) (x y:Nd),ns[j]?=some x->ns[k]?=some y->x.b=y.b->x.o=y.o->j=k
 dn:A2O hang
def news (ks:List E7)(g:Nat):List Nd:=ks.mapIdx fun t e=>⟨g,t*7,e⟩
theorem A44 (ks:List E7)(g:Nat):(news ks g).length=ks.length:=by simp[news]
theorem A55 {ks:List E7}{g t:Nat}{e:E7}(h:ks[t]?=some e):(news ks g)[t]?=some ⟨g,t*7,e⟩:=by simp[news,h]
theorem A1k {ks:List E7}{g t:Nat}{y:Nd}(h:(news ks g)[t]?=some y):∃e,ks[t]?=some e/\y=⟨g,t*7,e⟩:=by
 have ht:t<ks.length:=by have:=(gE1 h).1;rwa [A44]at this
 refine⟨ks[t],by simp,?_⟩;rw[A55 (e:=ks[t]) (by simp)]at h;exact(Option.some.inj h).symm
theorem A5S.mono {w w':World}{N:Nat}{hang hang':Nat->Nat×Nat}{ns ms:List Nd}{u:Value}{ks:List E7}{p:Nat×Nat}(h:A5S w N hang ns u ks p)(hs:w.heap.size<=w'.heap.size)(hh:∀c,c<w.heap.size->hang' c=hang c):A5S w' N hang' (ns++ms) u ks p:=by
 obtain⟨a,c,hu,hl,hc,h⟩:=h;refine⟨a,c,hu,hl,hc,fun hne=>?_⟩;obtain⟨b,ha,hN,hlt,hp,hm⟩:=h hne;refine⟨b,ha,hN,Nat.lt_of_lt_of_le hlt hs,(hh b hlt).trans hp,fun t e he=>?_⟩;obtain⟨m,hm⟩:=hm t e he;exact⟨m,by rw[List.getElem?_append_left (gE1 hm).1];exact hm⟩
theorem NQ.step {w wr w3:World}{D i g:Nat}{hang:Nat->Nat×Nat}{P:E7->Prop}{ns:List Nd}{x:Nd}{u v:Value}(h:NQ w D hang P wr i ns)(hx:ns[i]?=some x)(hP:∀e,P e->∀k∈e.ks,P k)(hu:wr.cell? ⟨x.b,x.o+6,none⟩=some u)(hs:wr.heap.size<=w3.heap.size) (hN:w.heap.size<=wr.heap.size)(C5:∀ (j:Nat) (y:Nd),ns[j]?=some y->∀q,(y.b≠x.b\/q≠x.o+6)->w3.cell? ⟨y.b,q,none⟩=wr.cell? ⟨y.b,q,none⟩)(hfr:∀ (j:Nat) (y:Nd),ns[j]?=some y->∀q,w3.frozen? ⟨y.b,q,none⟩=wr.frozen? ⟨y.b,q,none⟩)(hv:w3.cell? ⟨x.b,x.o+6,none⟩=some v) (hg:wr.heap.size<=g)(hvs:∃a c,v=.slice a x.e.ks.length c/\x.e.ks.length<=c/\c<=maxLen/\(x.e.ks≠ []->a=some ⟨g,0,none⟩))(hgl:x.e.ks≠ []->g<w3.heap.size/\(∀q,w3.frozen? ⟨g,q,none⟩=false)/\∀b o n c,u=.slice (some ⟨b,o,none⟩) n c->b<w.heap.size->∀j,j<x.e.ks.length*7->w3.cell? ⟨g,j,none⟩=w.cell? ⟨b,o+j,none⟩):NQ w D (fun c=>if c=g then(x.b,x.o+6)else hang c) P w3 (i+1) (ns++news x.e.ks g):=by
 obtain⟨⟨xw,xP,xN,xl,xf,xo⟩,xc,u',xu,xre,_⟩:=h.at' i x hx;obtain rfl:u'=u:=by rw[hu]at xu;exact(Option.some.inj xu).symm
 have hre:=xre lr8;have hil:i<ns.length:=(gE1 hx).1;have hh:∀c,c<wr.heap.size->(fun c=>if c=g then(x.b,x.o+6)else hang c) c=hang c:=fun c hc=>if_neg (by omega);refine⟨fun j y hy=>?_,fun j k y z hy hz hb ho=>?_,?_,fun c hc=>?_⟩
 ·by_cases hj:j<ns.length
  ·rw[List.getElem?_append_left hj]at hy;obtain⟨⟨yw,yP,yN,yl,yf,yo⟩,⟨e0,e1,e2,e3,e4,e5⟩,uy,hy6,yre,ydn⟩:=h.at' j y hy;have far:∀r,r<6->w3.cell? ⟨y.b,y.o+r,none⟩=wr.cell? ⟨y.b,y.o+r,none⟩:=fun r hr=>C5 j y hy _ (.inr (by omega));refine⟨⟨yw,yP,yN,Nat.lt_of_lt_of_le yl hs,fun q=>(hfr j y hy q).trans (yf q),yo⟩,⟨(far 0 (by omega)).trans e0,(far 1 (by omega)).trans e1,(far 2 (by omega)).trans e2,(far 3 (by omega)).trans e3,(far 4 (by omega)).trans e4,(far 5 (by omega)).trans e5⟩,?_⟩;by_cases hji:j=i
   ·subst hji;obtain rfl:y=x:=by rw[hx]at hy;exact(Option.some.inj hy).symm
    refine⟨v,hv,fun h=>by omega,fun _=>?_⟩;obtain⟨a,c,hve,hl,hc,ha⟩:=hvs;refine⟨a,c,hve,hl,hc,fun hne=>⟨g,ha hne,by omega,(hgl hne).1,if_pos rfl,fun t e he=>⟨ns.length+t,?_⟩⟩⟩;rw[List.getElem?_append_right (by omega),Nat.add_sub_cancel_left];exact A55 he
   ·have hne:y.b≠x.b\/y.o+6≠x.o+6:=by
     by_cases hb:y.b=x.b
     ·right;intro ho;exact hji (h.dist j i y x hy hx hb (by omega))
     ·exact .inl hb
    refine⟨uy,(C5 j y hy _ hne).trans hy6,fun h=>yre (by omega),fun h=>(ydn (by omega)).mono hs hh⟩
  ·rw[List.getElem?_append_right (by omega)]at hy;obtain⟨e,he,rfl⟩:=A1k hy;have hne:x.e.ks≠ []:=by intro h0;rw[h0]at he;simp at he
   obtain⟨hgl1,hgf,hgc⟩:=hgl hne;obtain⟨a,c,rfl,hl,hc,hr⟩:=hre;obtain⟨b,o,rfl,hlt,hL⟩:=hr hne;obtain⟨hw,⟨e0,e1,e2,e3,e4,e5⟩,ut,e6,hk⟩:=hL (j -ns.length) e he;have ht:j -ns.length<x.e.ks.length:=(gE1 he).1;have cell:∀r,r<7->w3.cell? ⟨g,(j -ns.length)*7+r,none⟩=w.cell? ⟨b,o+(j -ns.length)*7+r,none⟩:=fun r hr=>by
    rw[hgc b o _ _ rfl hlt _ (by omega),Nat.add_assoc]
   exact⟨⟨hw,hP x.e xP e (mg8 he),by show w.heap.size<=g;omega,hgl1,hgf,by show(j -ns.length)*7 %7=0;omega⟩,⟨(cell 0 (by omega)).trans e0,(cell 1 (by omega)).trans e1,(cell 2 (by omega)).trans e2,(cell 3 (by omega)).trans e3,(cell 4 (by omega)).trans e4,(cell 5 (by omega)).trans e5⟩,ut,(cell 6 (by omega)).trans e6,fun _=>hk.up (by omega),fun h=>by omega⟩
 ·have old:∀j y,j<ns.length->ns[j]?=some y->y.b<wr.heap.size:=fun j y _ hy=>(h.at' j y hy).1.2.2.2.1;by_cases hj:j<ns.length
  ·rw[List.getElem?_append_left hj]at hy;by_cases hk:k<ns.length
   ·rw[List.getElem?_append_left hk]at hz;exact h.dist j k y z hy hz hb ho
   ·rw[List.getElem?_append_right (by omega)]at hz;obtain⟨e,he,rfl⟩:=A1k hz;have:=old j y hj hy;dsimp only at hb;omega
  ·rw[List.getElem?_append_right (by omega)]at hy;obtain⟨e,he,rfl⟩:=A1k hy;by_cases hk:k<ns.length
   ·rw[List.getElem?_append_left hk]at hz;have:=old k z hk hz;dsimp only at hb;omega
   ·rw[List.getElem?_append_right (by omega)]at hz;obtain⟨e',he',rfl⟩:=A1k hz;dsimp only at ho;omega
 ·by_cases h0:0=g
  ·exact absurd h0 (by omega)
  ·show(if(0:Nat)=g then(x.b,x.o+6)else hang 0).1=0;rw[if_neg h0];exact h.dn.1
 ·show(if c=g then(x.b,x.o+6)else hang c).1<c;by_cases hcg:c=g
  ·rw[if_pos hcg];show x.b<c;omega
  ·rw[if_neg hcg];exact h.dn.2 c hc
theorem NQ.kids {w wr:World}{D:Nat}{hang:Nat->Nat×Nat}{P:E7->Prop}{ns:List Nd}(h:NQ w D hang P wr ns.length ns):∀ {d j:Nat} {x:Nd} {u:Value},ns[j]?=some x->DE d x.e.ks->wr.cell? ⟨x.b,x.o+6,none⟩=some u->A2v wr w.heap.size hang d u x.e.ks (x.b,x.o+6)
 |0,_,_,_,_,hd,_=>hd.elim
 |d+1,j,x,u,hx,hd,hu=>by
  have hj:j<ns.length:=(gE1 hx).1;obtain⟨_,_,u',hu',_,hdn⟩:=h.at' j x hx;obtain rfl:u'=u:=by rw[hu]at hu';exact(Option.some.inj hu').symm
  obtain⟨a,c,he,hl,hc,hk⟩:=hdn hj;refine⟨a,c,he,hl,hc,fun hne=>?_⟩;obtain⟨b,ha,hN,hlt,hp,hm⟩:=hk hne;have h0:0<x.e.ks.length:=List.length_pos_iff.2 hne;obtain⟨m0,hm0⟩:=hm 0 x.e.ks[0] (by simp);refine⟨b,ha,hlt,hN,(h.at' m0 _ hm0).1.2.2.2.2.1,hp,fun i e he=>?_⟩;obtain⟨m,hm⟩:=hm i e he;obtain⟨⟨ew,_⟩,ec,ue,hue,_⟩:=h.at' m _ hm;rw[Nat.zero_add];exact⟨ew,ec,ue,hue,NQ.kids h hm (hd e (mg8 he)) hue⟩
def rem (i:Nat)(ns:List Nd):Nat:=((ns.drop i).map fun x=>1+wtE x.e).sum
theorem A8G {i:Nat}{ns:List Nd}{x:Nd}(h:ns[i]?=some x):rem i ns=1+wtE x.e+rem (i+1) ns:=by
 obtain⟨hi,rfl⟩:=gE1 h;unfold rem;rw[List.drop_eq_getElem_cons hi];simp only[List.map_cons,List.sum_cons]
theorem B6Y (ks:List E7)(g:Nat):((news ks g).map fun x=>1+wtE x.e).sum=ks.length+H4 ks:=by
 have e:(news ks g).map (fun x=>1+wtE x.e)=ks.map (fun e=>1+wtE e):=by
  apply List.ext_getElem?;intro i;simp[news];cases ks[i]?<;>rfl
 rw[e,<-A3K];clear e;induction ks with
 |nil=>rfl
 |cons x xs ih=>simp only[List.map_cons,List.sum_cons,List.length_cons]at ih⊢;omega
theorem C37 {i:Nat}{ns:List Nd}{x:Nd}(g:Nat)(h:ns[i]?=some x):rem (i+1) (ns++news x.e.ks g)+1<=rem i ns:=by
 have hi:i<ns.length:=(gE1 h).1;rw[A8G h];have e:rem (i+1) (ns++news x.e.ks g)=rem (i+1) ns+(x.e.ks.length+H4 x.e.ks):=by
  unfold rem;rw[List.drop_append_of_le_length (by omega),List.map_append,List.sum_append,B6Y]
 have:=j3 x.e;omega
theorem B3Q (i:Nat)(ns:List Nd):ns.length -i<=rem i ns:=by
 unfold rem;rw[<-List.length_drop];generalize ns.drop i=l;induction l with
 |nil=>simp
 |cons x xs ih=>simp only[List.map_cons,List.sum_cons,List.length_cons]at ih⊢;omega
def E6:List Int->Int->List Int
 | [],x=>[x]
 |y::ys,x=>if y<x then y::E6 ys x else if y=x then y::ys else x::y::ys
theorem A9h:∀ {ns:List Int} {x:Int} {k:Nat},(∀i n,i<k->ns[i]?=some n->n<x)->ns[k]?=some x->E6 ns x=ns
 | [],x,k,_,h=>by simp at h
 |y::ys,x,0,h0,h=>by
  simp at h;subst h;rw[E6,if_neg (by omega),if_pos rfl]
 |y::ys,x,k+1,h0,h=>by
  have h1:=h0 0 y (by omega) rfl;rw[E6,if_pos h1,A9h (k:=k) (fun i n hi hn=>h0 (i+1) n (by omega) (by simpa using hn)) (by simpa using h)]
theorem A2N:∀ {ns:List Int} {x:Int} {k:Nat},k<=ns.length->(∀i n,i<k->ns[i]?=some n->n<x)->(∀n,ns[k]?=some n->x<n)->E6 ns x=ns.take k++ [x]++ns.drop k
 | [],x,k,hk,_,_=>by simp[E6]
 |y::ys,x,0,hk,h0,h=>by
  have h1:=h y rfl;rw[E6,if_neg (by omega),if_neg (by omega)];simp
 |y::ys,x,k+1,hk,h0,h=>by
  have h1:=h0 0 y (by omega) rfl;rw[E6,if_pos h1,A2N (k:=k) (by simpa using hk) (fun i n hi hn=>h0 (i+1) n (by omega) (by simpa using hn)) (fun n hn=>h n (by simpa using hn))];simp
theorem A5w:∀ {ns:List Int} {x y:Int},y∈E6 ns x↔y=x\/y∈ns
 | [],x,y=>by simp[E6]
 |z::zs,x,y=>by
  rw[E6];split
  ·rw[List.mem_cons,A5w,List.mem_cons];constructor
   ·rintro(h|h|h)
    ·exact .inr (.inl h)
    ·exact .inl h
    ·exact .inr (.inr h)
   ·rintro(h|h|h)
    ·exact .inr (.inl h)
    ·exact .inl h
    ·exact .inr (.inr h)
  ·split
   ·rename_i h
    subst h;simp
   ·simp
theorem A9c:∀ {ns:List Int} {x:Int},ns.Pairwise (· < ·)->(E6 ns x).Pairwise (· < ·)
 | [],x,_=>by simp[E6]
 |z::zs,x,h=>by
  obtain⟨h1,h2⟩:=List.pairwise_cons.1 h;rw[E6];split
  ·rename_i hz
   refine List.pairwise_cons.2 ⟨fun y hy=>?_,A9c h2⟩;rcases A5w.1 hy with rfl|hy
   ·exact hz
   ·exact h1 y hy
  ·split
   ·exact h
   ·rename_i hz hn
    refine List.pairwise_cons.2 ⟨fun y hy=>?_,h⟩;rcases List.mem_cons.1 hy with rfl|hy
    ·omega
    ·have:=h1 y hy;omega
theorem B3N (ns:List Int)(x:Int):(E6 ns x).length<=ns.length+1:=by
 induction ns with
 |nil=>simp[E6]
 |cons y ys ih=>
  rw[E6];split
  ·simp;exact ih
  ·split<;>simp
def H0:Nat->E7->List Int
 |0,_=>[]
 |d+1,e=>e.ks.foldl (fun acc k=>(H0 d k).foldl E6 acc) (if e.k=0 then[e.n]else[])
theorem B0Z:∀ (l:List Int) (acc:List Int) (x:Int),x∈l.foldl E6 acc↔x∈acc\/x∈l
 | [],acc,x=>by simp
 |y::ys,acc,x=>by
  rw[List.foldl_cons,B0Z ys (E6 acc y) x,A5w,List.mem_cons];constructor
  ·rintro((h|h)|h)
   ·exact .inr (.inl h)
   ·exact .inl h
   ·exact .inr (.inr h)
  ·rintro(h|h|h)
   ·exact .inl (.inr h)
   ·exact .inl (.inl h)
   ·exact .inr h
theorem A9b:∀ (l:List Int) {acc:List Int},acc.Pairwise (· < ·)->(l.foldl E6 acc).Pairwise (· < ·)
 | [],acc,h=>h
 |y::ys,acc,h=>A9b ys (A9c h)
theorem B2F (f:E7->List Int):∀ (ks:List E7) (acc:List Int) (x:Int),x∈ks.foldl (fun acc k=>(f k).foldl E6 acc) acc↔x∈acc\/∃k∈ks,x∈f k
 | [],acc,x=>by simp
 |k::ks,acc,x=>by
  rw[List.foldl_cons,B2F f ks _ x,B0Z];constructor
  ·rintro((h|h)|⟨q,hq,h⟩)
   ·exact .inl h
   ·exact .inr ⟨k,List.mem_cons_self,h⟩
   ·exact .inr ⟨q,List.mem_cons_of_mem _ hq,h⟩
  ·rintro(h|⟨q,hq,h⟩)
   ·exact .inl (.inl h)
   ·rcases List.mem_cons.1 hq with rfl|hq
    ·exact .inl (.inr h)
    ·exact .inr ⟨q,hq,h⟩
theorem B1H (f:E7->List Int):∀ (ks:List E7) {acc:List Int},acc.Pairwise (· < ·)->(ks.foldl (fun acc k=>(f k).foldl E6 acc) acc).Pairwise (· < ·)
 | [],acc,h=>h
 |k::ks,acc,h=>B1H f ks (A9b (f k) h)
theorem A2x {d:Nat}{e:E7}{x:Int}:x∈H0 (d+1) e↔(e.k=0/\x=e.n)\/∃k∈e.ks,x∈H0 d k:=by
 rw[H0,B2F];constructor
 ·rintro(h|h)
  ·left;split at h
   ·rename_i h0;exact⟨h0,by simpa using h⟩
   ·cases h
  ·exact .inr h
 ·rintro(⟨h0,rfl⟩|h)
  ·left;rw[if_pos h0];simp
  ·exact .inr h
theorem A8P:∀ (d:Nat) (e:E7),(H0 d e).Pairwise (· < ·)
 |0,e=>by simp[H0]
 |d+1,e=>by
  rw[H0];apply B1H;split<;>simp
theorem B1f:∀ {l m:List Int},l.Pairwise (· < ·)->m.Pairwise (· < ·)->(∀x,x∈l↔x∈m)->l=m
 | [],[],_,_,_=>rfl
 | [],b::bs,_,_,h=>by have:=(h b).2 List.mem_cons_self;cases this
 |a::r,[],_,_,h=>by have:=(h a).1 List.mem_cons_self;cases this
 |a::r,b::bs,hl,hm,h=>by
  obtain⟨ha,hl2⟩:=List.pairwise_cons.1 hl;obtain⟨hb,hm2⟩:=List.pairwise_cons.1 hm;have e1:a=b:=by
   rcases List.mem_cons.1 ((h a).1 List.mem_cons_self)with h1|h1
   ·exact h1
   ·rcases List.mem_cons.1 ((h b).2 List.mem_cons_self)with h2|h2
    ·exact h2.symm
    ·have:=hb a h1;have:=ha b h2;omega
  subst e1;refine congrArg (List.cons a) (B1f hl2 hm2 fun x=>?_);constructor
  ·intro hx;rcases List.mem_cons.1 ((h x).1 (List.mem_cons_of_mem _ hx))with rfl|h1
   ·have:=ha x hx;omega
   ·exact h1
  ·intro hx;rcases List.mem_cons.1 ((h x).2 (List.mem_cons_of_mem _ hx))with rfl|h1
   ·have:=hb x hx;omega
   ·exact h1
theorem B1y (zs:List Int)(hs:∀i j,i<=j->j<zs.length->zs.toArray[i]!<=zs.toArray[j]!):∀m,m<=zs.length->
  (Lib.compactUpTo zs.toArray m).Pairwise (· < ·)/\∀x,x∈Lib.compactUpTo zs.toArray m↔∃j,j<m/\zs.toArray[j]! =x
 |0,_=>by simp[Lib.compactUpTo]
 |m+1,hm=>by
  obtain⟨h1,h2⟩:=B1y zs hs m (by omega);rw[Lib.compactUpTo_succ];by_cases hk:Lib.keeps zs.toArray m=true
  ·rw[if_pos hk];refine⟨List.pairwise_append.2 ⟨h1,by simp,fun a ha b hb=>?_⟩,fun x=>?_⟩
   ·rcases List.mem_singleton.1 hb with rfl;obtain⟨j,hj,rfl⟩:=(h2 a).1 ha;have hk':=hk;simp only[Lib.keeps,decide_eq_true_eq]at hk';have l1:=hs j (m -1) (by omega) (by omega);have l2:=hs (m -1) m (by omega) (by omega);rcases hk' with h0|hne
    ·omega
    ·omega
   ·rw[List.mem_append,h2,List.mem_singleton];constructor
    ·rintro(⟨j,hj,h⟩|h)
     ·exact⟨j,by omega,h⟩
     ·exact⟨m,by omega,h.symm⟩
    ·rintro⟨j,hj,h⟩;by_cases hjm:j=m
     ·subst hjm;exact .inr h.symm
     ·exact .inl ⟨j,by omega,h⟩
  ·rw[if_neg hk,List.append_nil];refine⟨h1,fun x=>?_⟩;rw[h2];have hk':¬ (m=0\/zs.toArray[m]!≠zs.toArray[m -1]!):=by simpa [Lib.keeps]using hk
   have hm0:m≠0:=fun h=>hk' (.inl h);have hmm:zs.toArray[m]! =zs.toArray[m -1]!:=Classical.byContradiction fun h=>hk' (.inr h);constructor
   ·rintro⟨j,hj,h⟩;exact⟨j,by omega,h⟩
   ·rintro⟨j,hj,h⟩;by_cases hjm:j=m
    ·subst hjm;exact⟨j -1,by omega,by rw[<-hmm];exact h⟩
    ·exact⟨j,by omega,h⟩
theorem B7C (zs ls:List Int)(hl:ls.Pairwise (· < ·))(h:∀x,x∈ls↔x∈zs):Lib.compact (zs.mergeSort fun x y=>decide (x<=y))=ls:=by
 have hp:(zs.mergeSort fun x y=>decide (x<=y)).Pairwise (fun x y=>decide (x<=y)=true):=List.pairwise_mergeSort (fun a b c h1 h2=>by simp at*;omega) (fun a b=>by simp;omega) zs;have hm:∀x,x∈(zs.mergeSort fun x y=>decide (x<=y))↔x∈zs:=fun x=>List.mem_mergeSort;generalize(zs.mergeSort fun x y=>decide (x<=y))=ms at*;have hs:∀i j,i<=j->j<ms.length->ms.toArray[i]!<=ms.toArray[j]!:=by
  intro i j hij hj;have hi:i<ms.length:=by omega
  rw[getElem!_pos ms.toArray i (by simpa using hi),getElem!_pos ms.toArray j (by simpa using hj)];by_cases e:i=j
  ·subst e;exact Int.le_refl _
  ·have:=List.pairwise_iff_getElem.1 hp i j hi hj (by omega)
   simpa using this
 obtain⟨h1,h2⟩:=B1y ms hs ms.length lr8;refine B1f h1 hl fun x=>?_;show x∈Lib.compactUpTo ms.toArray ms.length↔_;rw[h2,h,<-hm x];constructor
 ·rintro⟨j,hj,rfl⟩;rw[getElem!_pos ms.toArray j (by simpa using hj)];simp
 ·intro hx;obtain⟨j,hj,rfl⟩:=List.mem_iff_getElem.1 hx;exact⟨j,hj,by rw[getElem!_pos ms.toArray j (by simpa using hj)];simp⟩
def K4 (ns:List Nd):List Int:=(ns.filter fun x=>x.e.k==0).map fun x=>x.e.n
theorem B0T {ns:List Nd}{x:Int}:x∈K4 ns↔∃y∈ns,y.e.k=0/\y.e.n=x:=by
 unfold K4;rw[List.mem_map];constructor
 ·rintro⟨y,hy,rfl⟩;rw[List.mem_filter]at hy;exact⟨y,hy.1,by simpa using hy.2,rfl⟩
 ·rintro⟨y,hy,h0,rfl⟩;exact⟨y,List.mem_filter.2 ⟨hy,by simpa using h0⟩,rfl⟩
def A7Z (L:List Int)(e:E7):Prop:=∃d,DE d e.ks/\∀x,x∈H0 d e->x∈L
theorem B3I {L:List Int}:∀e,A7Z L e->∀k∈e.ks,A7Z L k:=by
 rintro e ⟨d,hd,h⟩ k hk;cases d with
 |zero=>exact hd.elim
 |succ d=>exact⟨d,hd k hk,fun x hx=>h x (A2x.2 (.inr ⟨k,hk,hx⟩))⟩
theorem NQ.cols {w wr:World}{D:Nat}{hang:Nat->Nat×Nat}{P:E7->Prop}{ns:List Nd}(h:NQ w D hang P wr ns.length ns):∀ {d j:Nat} {y:Nd} {x:Int},ns[j]?=some y->DE d y.e.ks->x∈H0 d y.e->x∈K4 ns
 |0,_,_,_,_,hd,_=>hd.elim
 |d+1,j,y,x,hy,hd,hx=>by
  rcases A2x.1 hx with⟨h0,rfl⟩|⟨k,hk,hxk⟩
  ·exact B0T.2 ⟨y,mg8 hy,h0,rfl⟩
  ·have hj:j<ns.length:=(gE1 hy).1;obtain⟨_,_,u,_,_,hdn⟩:=h.at' j y hy;obtain⟨a,c,_,_,_,hkk⟩:=hdn hj;obtain⟨b,_,_,_,_,hm⟩:=hkk (by intro h;rw[h]at hk;cases hk);obtain⟨t,ht,rfl⟩:=List.mem_iff_getElem.1 hk;obtain⟨m,hm⟩:=hm t y.e.ks[t] (by simp);exact NQ.cols h hm (hd _ hk) hxk
def Fr (w:World)(b:Nat):Prop:=(∃c t l,w.heap[b]?=some (.cells c t l))/\∀o,w.frozen? ⟨b,o,none⟩=false
theorem Fr.keep {w w':World}{b:Nat}(h:Fr w b)(e:w'.heap[b]?=w.heap[b]?):Fr w' b:=
 ⟨by rw[e];exact h.1,fun o=>by simp only[World.frozen?,e];exact h.2 o⟩
theorem A7y {P:Program}(w:World){a b:Addr}(hne:a≠b)(ha:Fr w a.block)(hb:Fr w b.block):(sameAddr a b).run P w=.ok false w:=by
 by_cases hbl:a.block=b.block
 ·simp[sameAddr,hbl,hne]
 ·obtain⟨⟨ca,ta,⟨la,la'⟩,ha⟩,fa⟩:=ha;obtain⟨⟨cb,tb,⟨lb,lb'⟩,hb⟩,fb⟩:=hb;have a0:=fa a.off;have a1:=fa ca.size;have b0:=fb b.off;have b1:=fb cb.size;simp only[World.frozen?,ha,hb]at a0 a1 b0 b1;simp[sameAddr,hbl,World.frozen?,ha,hb,noView,viewAt,World.shape?,mayBeOne,stringish,a0,a1,b0,b1]
theorem A4B {α:Type}{l:List α}{j:Nat}{x:α}(h:l[j]?=some x)(z:α):l.getD j z=x:=by rw[List.getD_eq_getElem?_getD,h];rfl
theorem A8d:∀ (G:List (List Nat)),((List.range G.length).map fun j=>G.getD j []).flatten=G.flatten
 | []=>rfl
 |g::G=>by
  rw[List.length_cons,List.range_succ_eq_map,List.map_cons,List.flatten_cons,List.map_map,List.flatten_cons,<-A8d G];rfl
theorem A61 {w w':World}{N e n s:Nat}{v:Value}{xs:List Value}(h:w.ownsRow N e s v n xs)(hb:Below w.heap.size w w'):w'.ownsRow N e s v n xs:=by
 refine⟨h.1,?_⟩;rcases h.2 with hn|⟨g,cap,cur,rfl,hg,hc,rest⟩
 ·exact .inl hn
 ·have hlt:g<w.heap.size:=by
   rcases Nat.lt_or_ge g w.heap.size with h'|h'
   ·exact h'
   ·simp[Array.getElem?_eq_none h']at hc
  exact .inr ⟨g,cap,cur,rfl,hg,(hb.block g hlt).trans hc,rest⟩
theorem B46 {w w':World}{N e n s:Nat}{v:Value}{xs:List Value}(h:w.ownsRow N e s v n xs)(hb:∀g c t l,v.ownBlock=some g->w.heap[g]?=some (.cells c t l)->w'.heap[g]?=w.heap[g]?):w'.ownsRow N e s v n xs:=by
 refine⟨h.1,?_⟩;rcases h.2 with hn|⟨g,cap,cur,rfl,hg,hc,rest⟩
 ·exact .inl hn
 ·exact .inr ⟨g,cap,cur,rfl,hg,(hb g _ _ _ rfl hc).trans hc,rest⟩
theorem B1J {w:World}{N e n s:Nat}{v:Value}{xs:List Value}(h:w.ownsRow N e s v n xs)(hn:0<n):∃g cap,v=.slice (some ⟨g,0,none⟩) n cap/\n<=cap/\cap<=maxLen/\N<=g/\g<w.heap.size/\∃c t l,w.heap[g]?=some (.cells c t l):=by
 rcases h.2 with⟨_,h0⟩|⟨g,cap,cur,rfl,hg,hc,hn',hm,_⟩
 ·omega
 ·refine⟨g,cap,rfl,hn',hm,hg,?_,_,_,_,hc⟩;rcases Nat.lt_or_ge g w.heap.size with h'|h'
  ·exact h'
  ·simp[Array.getElem?_eq_none h']at hc
theorem A93 {w wX:World}{B:Nat}{o o':Obj}(hb:wX.heap[B]?=some o)(hB:w.heap.size<=B)(hX:Below w.heap.size w wX):let wY:World:={wX with heap:=wX.heap.setIfInBounds B o'}
  wY.heap[B]?=some o'/\(∀b,b≠B->wY.heap[b]?=wX.heap[b]?)/\wY.heap.size=wX.heap.size/\Below w.heap.size w wY:=by
 obtain⟨h1,h2⟩:=MapKept.heap_set (w:=wX) (o':=o') hb;refine⟨h1,h2,by simp,hX.os,hX.tape,hX.output,by simpa using hX.size,fun k hk=>(h2 k (by omega)).trans (hX.block k hk)⟩
theorem dN8 (w:World):∀n,Below w.heap.size w (w.drewN n)
 |0=>Below.refl _ _
 |n+1=>(dN8 w n).drew
theorem A5L (w:World)(X Y:Obj):((w.alloc X).alloc Y).heap[w.heap.size]?=some X/\((w.alloc X).alloc Y).heap[w.heap.size+1]?=some Y:=by
 constructor
 ·show((w.heap.push X).push Y)[w.heap.size]?=some X;simp[Array.getElem?_push]
 ·have:=heap_alloc_new (w.alloc X) Y
  rwa [World.size_alloc]at this
theorem A9G {w:World}{a:Addr}{v:Value}(h:w.cell? a=some v):∃c t l,w.heap[a.block]?=some (.cells c t l):=by
 unfold World.cell? at h;split at h
 ·rename_i c t l hc
  exact⟨_,_,_,hc⟩
 ·cases h
end
section
open Go.RowKit Go.Deep Go.ChangeShapes Go.WideShapes
theorem Tryz.infoInt:(Tryz.prog.info? 3).map (fun i=>(i.zero,i.size,i.bytes))=some (some (.int .i64 0),1,8):=by kernel_rfl
section
variable {P:Program} (w:World)
theorem X5 {ops:Array Oper}{o:Oper}{a:Act}{K:Act->World->Prop}{Q:Exit->Act->World->Prop}{E:Prop}(hgd:o.guard=none)(s x:Operand)(t:TypeId)(ho:o.op=.call {callee:=.builtin .append,args:=#[s,x],argTypes:=#[t,t]})(base:Nat) (e:TypeId) (i:TypeInfo) (z:Value) (size bytes:Nat) (ht:P.underlying t=some (.slice e)) (hi:P.info? e=some i) (hz:i.zero=some z)(hsize:i.size=size) (hby:i.bytes=bytes) (hzs:z.cells.size=size) (hsz:0<size)(v:Value) (n:Nat) (xs:List Value) (hs:a.eval s=v) (D2:w.ownsRow base e size v n xs)(ad:Addr) (m c:Nat) (news:List Value) (hx:a.eval x=.slice (some ad) m c) (hl:news.length=m*size) (hnews:∀j u,news[j]?=some u->w.cell? (ad.add j)=some u) (h1:∀u∈news,u.oneCell'=true)(h63:n+m<=maxLen) (hbytes:(n+m)*bytes<=140737488355328) (A1V:base<=w.heap.size)(h:∀v' w',w'.ownsRow base e size v' (n+m) (xs++news)->w.grownBy w' v.ownBlock->K (a.put o.dst v') w'):if Region.wanted o (yielded ops a.tmps)=true then Oper.wp P o a w K Q else E:=by
 have hw:Region.wanted o (yielded ops a.tmps)=true:=by simp[Region.wanted,hgd]
 rw[if_pos hw];exact wp_append_own w s x t ho base e i z size bytes ht hi hz hsize hby hzs hsz v n xs hs D2 ad m c news hx hl hnews h1 h63 hbytes A1V fun v' w' h2 h3 _=>h v' w' h2 h3
end
def N1 (w:World)(v:Value)(ns:List Int):Prop:=
 ∃b o c,v=.slice (some ⟨b,o,none⟩) ns.length c/\ns.length<=c/\c<=maxLen/\b<w.heap.size/\∀i n,ns[i]?=some n->w.cell? ⟨b,o+i,none⟩=some (.int .i64 n)
theorem N1.below {w w':World}{v:Value}{ns:List Int}(h:N1 w v ns)(hb:Below w.heap.size w w'):N1 w' v ns:=by
 obtain⟨b,o,c,hv,hl,hc,hlt,C5⟩:=h;exact⟨b,o,c,hv,hl,hc,Nat.lt_of_lt_of_le hlt hb.size,fun i n hn=>((bc8 hb).1 _ _ hlt).trans (C5 i n hn)⟩
def D8 (ns:List Int):List Value:=ns.map (Value.int .i64)
theorem p8 (ns:List Int):∀u∈D8 ns,u.oneCell'=true:=by
 intro u hu;obtain⟨n,_,rfl⟩:=List.mem_map.1 hu;rfl
theorem A2A {w:World}{N H:Nat}(hH:w.heap.size=H)(hN:N<=H){t:TypeId}:(w.alloc (.cells #[] t)).ownsRow N t 1 (.slice (some ⟨H,0,none⟩) 0 0) 0 []:=by
 subst hH;exact⟨by simp,.inr ⟨w.heap.size,0,#[],rfl,hN,heap_alloc_new w _,Nat.le_refl _,by simp,by simp,by simp⟩⟩
theorem A23 {w:World}{N n:Nat}{v:Value}{ns:List Int}{t:TypeId}(h:w.ownsRow N t 1 v n (D8 ns))(hn:0<ns.length):N1 w v ns:=by
 have hlt:=O5 h;obtain⟨hl,ho⟩:=h;have hl:ns.length=n:=by simpa [D8]using hl
 subst hl;rcases ho with⟨_,h0⟩|⟨g,cap,cur,rfl,hg,hc,hn',hm,hs,ht⟩
 ·omega
 refine⟨g,0,cap,rfl,hn',hm,(hlt g rfl).2,fun i n hi=>?_⟩;have hi':i<ns.length:=(gE1 hi).1;have hu:(D8 ns)[i]?=some (.int .i64 n):=by simp[D8,hi]
 simp only[World.cell?,hc];rw[<-ht,List.getElem?_take,if_pos (by omega),Array.getElem?_toList]at hu
 simpa using hu
theorem A5g (v:Value)(ns:List Int)(x:Int)(w:World)(h:N1 w v ns)(hn:ns.length<=4194304):Calls Tryz.prog 120 #[v,.int .i64 x] w fun e w'=>(∃v',e=.returned v'/\N1 w' v' (E6 ns x))/\Below w.heap.size w w':=by
 obtain⟨i0,hi,hz0,hz1,hz2⟩:=info_parts Tryz.infoInt;have hI:=h;obtain⟨b,o,c,rfl,hl,hc,hlt,C5⟩:=h;unfold maxLen at hc;go_enter Tryz.func120,Tryz.ntmps120;go_wp2;go_loopw [5] (fun i wr=> ∃k:Nat,k<=ns.length/\i=.int .i64 k/\wr=w/\∀i n,i<k->ns[i]?=some n->n<x) (fun i _=>ns.length - (intOf i).toNat)
 case atStart=>exact⟨0,Nat.zero_le _,rfl,rfl,fun i n hi=>by omega⟩
 case round=>
  obtain⟨k,hk,rfl,hwr,hless⟩:=hrel;replace hwr:=hwr.symm;subst hwr;by_cases hin:k<ns.length/\∀n,ns[k]?=some n->n<x
  ·obtain⟨hkl,hkx⟩:=hin;obtain⟨m,hm⟩:∃m,ns[k]?=some m:=⟨ns[k],by simp[hkl]⟩;have hc0:=C5 k m hm;have hmx:=hkx m hm;have HL:Hid (∀i n,i<k+1->ns[i]?=some n->n<x):=fun i n hi hn=>by
    by_cases e:i=k
    ·subst e;exact hkx n hn
    ·exact hless i n (by omega) hn
   clear hless hkx hm C5 hI;go_wp2;exact⟨⟨k+1,hkl,by simp,by first|rfl|trivial,HL.out⟩,by simp[intOf];omega⟩
  by_cases hkl:k<ns.length
  ·obtain⟨m,hm⟩:∃m,ns[k]?=some m:=⟨ns[k],by simp[hkl]⟩;have hc0:=C5 k m hm;have hmx:¬m<x:=fun h=>hin ⟨hkl,fun n hn=>by rw[hm]at hn;cases hn;exact h⟩;by_cases hmx2:m=x
   ·subst hmx2;have HI:Hid (N1 w (.slice (some ⟨b,o,none⟩) ns.length c) (E6 ns m)):=by
     show N1 _ _ _;rw[A9h hless hm];exact hI
    clear hless hin hm C5 hI;go_wp2;refine bodyPost_ret (v:=.slice (some ⟨b,o,none⟩) ns.length c) (by simp[results,Tryz.results120,go_sem]) rfl ⟨⟨_,rfl,HI.out⟩,Below.refl _ _⟩
   ·have A1g:∀n,ns[k]?=some n->x<n:=fun n hn=>by rw[hm]at hn;cases hn;omega
    have A2F:∀W,Below w.heap.size w W->∀j u,(D8 (ns.take k))[j]?=some u->W.cell? ⟨b,o+j,none⟩=some u:=by
     intro W hW j u hu;have hj:j<k:=by have:=(gE1 hu).1;simp[D8]at this;omega
     have hjl:j<ns.length:=by omega
     have e:u=Value.int .i64 ns[j]:=by simp[D8,hj,hjl]at hu;exact hu.symm
     rw[e];exact((bc8 hW).1 _ _ hlt).trans (C5 j ns[j] (by simp))
    obtain⟨ad,hif,hcellD⟩:∃ad:Addr,(if c=k then some (⟨b,o,none⟩:Addr)else some ⟨b,o+k,none⟩)=some ad/\∀W,Below w.heap.size w W->∀j u,(D8 (ns.drop k))[j]?=some u->W.cell? (ad.add j)=some u:=by
     by_cases hck:c=k
     ·refine⟨_,if_pos hck,fun W hW j u hu=>?_⟩;have:=(gE1 hu).1;simp[D8]at this;omega
     ·refine⟨_,if_neg hck,fun W hW j u hu=>?_⟩;have hjl:k+j<ns.length:=by have:=(gE1 hu).1;simp[D8]at this;omega
      have e:u=Value.int .i64 ns[k+j]:=by simp[D8,hjl]at hu;exact hu.symm
      rw[e,add_plain,Nat.add_assoc];exact((bc8 hW).1 _ _ hlt).trans (C5 (k+j) ns[k+j] (by simp))
    have hkc:k<=c:=by omega
    clear C5;have hmd:decide (m<x)=false:=decide_eq_false hmx;have hme:(m==x)=false:=by simpa using hmx2
    have C4c:decide (m=x)=false:=decide_eq_false hmx2;clear hin hm hI;go_wp2_with fail;refine wp_region_held_drew (S:=fun _=>True) (by kernel_rfl) ?_ (fun hHeld=>?_)
    ·trivial
    refine tkX (i:=1) (d:=34) (v:=?_) rfl rfl ?_ ?_ (hS:=trivial);rotate_left
    ·intro w' _;go_simp;try exact rfl
    refine tkX (i:=2) (d:=35) (v:=?_) rfl rfl ?_ ?_ (hS:=trivial);rotate_left
    ·intro w' _;go_simp;try exact rfl
    refine tkX (i:=3) (d:=36) (v:=?_) rfl rfl ?_ ?_ (hS:=trivial);rotate_left
    ·intro w' _;go_simp;try exact rfl
    refine tkX (i:=5) (d:=38) (v:=?_) rfl rfl ?_ ?_ (hS:=trivial);rotate_left
    ·intro w' _;go_simp;try exact rfl
    refine tkX (i:=8) (d:=41) (v:=?_) rfl rfl ?_ ?_ (hS:=trivial);rotate_left
    ·intro w' _;go_simp;try exact rfl
    refine tkX (i:=9) (d:=42) (v:=?_) rfl rfl ?_ ?_ (hS:=trivial);rotate_left
    ·intro w' _;go_simp;try exact rfl
    refine tkX (i:=10) (d:=43) (v:=?_) rfl rfl ?_ ?_ (hS:=trivial);rotate_left
    ·intro w' _;go_simp;try exact rfl
    refine wpAnyH_ready (rs:=[0,6]) (by kernel_rfl) (by simp) ?_;refine AllReadyH.cons rfl (fun K hK=>?_) (AllReadyH.cons rfl (fun K hK=>?_) AllReadyH.nil)
    ·go_simp;refine hK.out _ _ ?_ (fun Z9=>?_)
     ·trivial
     clear hK Z9;refine wpAnyH_ready (rs:=[4,6]) (by kernel_rfl) (by simp) ?_;refine AllReadyH.cons rfl (fun K hK=>?_) (AllReadyH.cons rfl (fun K hK=>?_) AllReadyH.nil)
     ·have A0T:(w.drew.alloc (.cells #[] 3)).ownsRow w.heap.size 3 1 (.slice (some ⟨w.heap.size,0,none⟩) 0 0) 0 []:=A2A rfl lr8;have hBW:Below w.heap.size w (w.drew.alloc (.cells #[] 3)):=bex;refine X5 _ (by rfl) _ _ 122 (by rfl) w.heap.size 3 i0 _ 1 8 Tryz.underlying122 hi hz0 hz1 hz2 rfl (by omega) (.slice (some ⟨w.heap.size,0,none⟩) 0 0) 0 [] (by rfl) A0T ⟨b,o,none⟩ k c (D8 (ns.take k)) (by rfl) (by simp[D8];omega) (fun j u hu=>by rw[add_plain];exact A2F _ hBW j u hu) (p8 _) (by unfold maxLen;omega) (by omega) (by simp;try omega) ?_;intro v4 w4 hO4 hG4;have hz4:=hG4.size;(try simp at hz4);have hB4:Below w.heap.size w w4:=hBW.grown hG4 (by simp;try omega) (fun q hq=>by simp[Value.ownBlock]at hq;omega);refine hK.out _ _ ?_ (fun L2=>?_)
      ·trivial
      clear hK L2;refine rdH 6 rfl fun K hK=>?_;go_simp;refine hK.out _ _ ?_ (fun Q6=>?_)
      ·trivial
      clear hK Q6;have hx4:(w4.alloc (.cells #[.int .i64 x] 3)).cell? ⟨w4.heap.size,0,none⟩=some (.int .i64 x):=by go_simp
      replace hO4:=p6 (w':=w4.alloc (.cells #[.int .i64 x] 3)) hO4 fun q hq=>bA8 _ _ _ (O5 hO4 q hq).2;replace hB4:Below w.heap.size w (w4.alloc (.cells #[.int .i64 x] 3)):=hB4.alloc (by omega) _;have hzz:(w4.alloc (.cells #[.int .i64 x] 3)).heap.size=w4.heap.size+1:=by simp
      refine rdH 7 rfl fun K hK=>?_;refine X5 _ (by rfl) _ _ 122 (by rfl) w.heap.size 3 i0 _ 1 8 Tryz.underlying122 hi hz0 hz1 hz2 rfl (by omega) v4 (0+k) ([]++D8 (ns.take k)) (by rfl) hO4 ⟨w4.heap.size,0,none⟩ 1 1 [.int .i64 x] (by rfl) (by rfl) (fun j u hu=>by match j,hu with|0,hu=>simp at hu;subst hu;rw[add_plain];exact hx4) (by simp[Value.oneCell']) (by unfold maxLen;omega) (by omega) (by omega) ?_;intro v7 w7 hO7 hG7;have hz7:=hG7.size;have hB7:Below w.heap.size w w7:=hB4.grown hG7 (by omega) (fun q hq=>(O5 hO4 q hq).1);refine hK.out _ _ ?_ (fun S9=>?_)
      ·trivial
      clear hK S9;refine rdH 11 rfl fun K hK=>?_;refine X5 _ (by rfl) _ _ 122 (by rfl) w.heap.size 3 i0 _ 1 8 Tryz.underlying122 hi hz0 hz1 hz2 rfl (by omega) v7 (0+k+1) ([]++D8 (ns.take k)++ [.int .i64 x]) (by rfl) hO7 ad (ns.length -k) (c -k) (D8 (ns.drop k)) (by rfl) (by simp[D8]) (fun j u hu=>hcellD _ hB7 j u hu) (p8 _) (by unfold maxLen;omega) (by omega) (by omega) ?_;intro v11 w11 hO11 hG11;have A0I:Below w.heap.size w w11:=hB7.grown hG11 (by omega) (fun q hq=>(O5 hO7 q hq).1);refine hK.out _ _ ?_ (fun J3=>?_)
      ·trivial
      clear hK J3;refine tkX (i:=12) (d:=4) (v:=?_) rfl rfl ?_ ?_ (hS:=trivial);rotate_left
      ·intro w' _;go_simp;try exact rfl
      refine wpAnyH_done (by kernel_rfl) ?_ _;have HI:Hid (N1 w11 v11 (E6 ns x)):=by
       show N1 _ _ _;rw[A2N hk hless A1g];exact A23 (N:=w.heap.size) (by simpa [D8,List.map_append]using hO11) (by simp;omega)
      obtain⟨b',o',c',e',_⟩:=HI.out;subst e';clear hO4 hO7 hO11 hG4 hG7 hG11 hHeld;go_wp2;refine bodyPost_ret (v:=.slice (some ⟨b',o',none⟩) (E6 ns x).length c') (by simp[results,Tryz.results120,go_sem]) rfl ⟨⟨_,rfl,HI.out⟩,A0I⟩
     ·go_simp;refine hK.out _ _ ?_ (fun Q6=>?_)
      ·trivial
      clear hK Q6;have A0T:((w.drew.alloc (.cells #[] 3)).alloc (.cells #[.int .i64 x] 3)).ownsRow w.heap.size 3 1 (.slice (some ⟨w.heap.size,0,none⟩) 0 0) 0 []:=p6 (A2A rfl lr8) fun q hq=>bA8 _ _ _ (by simp[Value.ownBlock]at hq;subst hq;simp);have hBW:Below w.heap.size w ((w.drew.alloc (.cells #[] 3)).alloc (.cells #[.int .i64 x] 3)):=bex;have A1p:((w.drew.alloc (.cells #[] 3)).alloc (.cells #[.int .i64 x] 3)).cell? ⟨w.heap.size+1,0,none⟩=some (.int .i64 x):=by go_simp
      refine rdH 4 rfl fun K hK=>?_;refine X5 _ (by rfl) _ _ 122 (by rfl) w.heap.size 3 i0 _ 1 8 Tryz.underlying122 hi hz0 hz1 hz2 rfl (by omega) (.slice (some ⟨w.heap.size,0,none⟩) 0 0) 0 [] (by rfl) A0T ⟨b,o,none⟩ k c (D8 (ns.take k)) (by rfl) (by simp[D8];omega) (fun j u hu=>by rw[add_plain];exact A2F _ hBW j u hu) (p8 _) (by unfold maxLen;omega) (by omega) (by simp;try omega) ?_;intro v4 w4 hO4 hG4;have hz4:=hG4.size;(try simp at hz4);have hB4:Below w.heap.size w w4:=hBW.grown hG4 (by simp;try omega) (fun q hq=>by simp[Value.ownBlock]at hq;omega);have hx4:w4.cell? ⟨w.heap.size+1,0,none⟩=some (.int .i64 x):=(hG4.cell_far _ (by simp;try omega) (by simp[Value.ownBlock];try omega)).trans A1p;have A2u:=O5 hO4;refine hK.out _ _ ?_ (fun L2=>?_)
      ·trivial
      clear hK L2;refine rdH 7 rfl fun K hK=>?_;refine X5 _ (by rfl) _ _ 122 (by rfl) w.heap.size 3 i0 _ 1 8 Tryz.underlying122 hi hz0 hz1 hz2 rfl (by omega) v4 (0+k) ([]++D8 (ns.take k)) (by rfl) hO4 ⟨w.heap.size+1,0,none⟩ 1 1 [.int .i64 x] (by rfl) (by rfl) (fun j u hu=>by match j,hu with|0,hu=>simp at hu;subst hu;rw[add_plain];exact hx4) (by simp[Value.oneCell']) (by unfold maxLen;omega) (by omega) (by omega) ?_;intro v7 w7 hO7 hG7;have hz7:=hG7.size;have hB7:Below w.heap.size w w7:=hB4.grown hG7 (by omega) (fun q hq=>(O5 hO4 q hq).1);refine hK.out _ _ ?_ (fun S9=>?_)
      ·trivial
      clear hK S9;refine rdH 11 rfl fun K hK=>?_;refine X5 _ (by rfl) _ _ 122 (by rfl) w.heap.size 3 i0 _ 1 8 Tryz.underlying122 hi hz0 hz1 hz2 rfl (by omega) v7 (0+k+1) ([]++D8 (ns.take k)++ [.int .i64 x]) (by rfl) hO7 ad (ns.length -k) (c -k) (D8 (ns.drop k)) (by rfl) (by simp[D8]) (fun j u hu=>hcellD _ hB7 j u hu) (p8 _) (by unfold maxLen;omega) (by omega) (by omega) ?_;intro v11 w11 hO11 hG11;have A0I:Below w.heap.size w w11:=hB7.grown hG11 (by omega) (fun q hq=>(O5 hO7 q hq).1);refine hK.out _ _ ?_ (fun J3=>?_)
      ·trivial
      clear hK J3;refine tkX (i:=12) (d:=4) (v:=?_) rfl rfl ?_ ?_ (hS:=trivial);rotate_left
      ·intro w' _;go_simp;try exact rfl
      refine wpAnyH_done (by kernel_rfl) ?_ _;have HI:Hid (N1 w11 v11 (E6 ns x)):=by
       show N1 _ _ _;rw[A2N hk hless A1g];exact A23 (N:=w.heap.size) (by simpa [D8,List.map_append]using hO11) (by simp;omega)
      obtain⟨b',o',c',e',_⟩:=HI.out;subst e';clear hO4 hO7 hO11 hG4 hG7 hG11 hHeld;go_wp2;refine bodyPost_ret (v:=.slice (some ⟨b',o',none⟩) (E6 ns x).length c') (by simp[results,Tryz.results120,go_sem]) rfl ⟨⟨_,rfl,HI.out⟩,A0I⟩
    ·go_simp;refine hK.out _ _ ?_ (fun Q6=>?_)
     ·trivial
     clear hK Q6;refine rdH 0 rfl fun K hK=>?_;go_simp;refine hK.out _ _ ?_ (fun Z9=>?_)
     ·trivial
     clear hK Z9;have A0T:((w.drew.alloc (.cells #[.int .i64 x] 3)).alloc (.cells #[] 3)).ownsRow w.heap.size 3 1 (.slice (some ⟨w.heap.size+1,0,none⟩) 0 0) 0 []:=A2A (by simp) (by omega);have hBW:Below w.heap.size w ((w.drew.alloc (.cells #[.int .i64 x] 3)).alloc (.cells #[] 3)):=bex;have A1p:((w.drew.alloc (.cells #[.int .i64 x] 3)).alloc (.cells #[] 3)).cell? ⟨w.heap.size,0,none⟩=some (.int .i64 x):=by go_simp
     refine rdH 4 rfl fun K hK=>?_;refine X5 _ (by rfl) _ _ 122 (by rfl) w.heap.size 3 i0 _ 1 8 Tryz.underlying122 hi hz0 hz1 hz2 rfl (by omega) (.slice (some ⟨w.heap.size+1,0,none⟩) 0 0) 0 [] (by rfl) A0T ⟨b,o,none⟩ k c (D8 (ns.take k)) (by rfl) (by simp[D8];omega) (fun j u hu=>by rw[add_plain];exact A2F _ hBW j u hu) (p8 _) (by unfold maxLen;omega) (by omega) (by simp;try omega) ?_;intro v4 w4 hO4 hG4;have hz4:=hG4.size;(try simp at hz4);have hB4:Below w.heap.size w w4:=hBW.grown hG4 (by simp;try omega) (fun q hq=>by simp[Value.ownBlock]at hq;omega);have hx4:w4.cell? ⟨w.heap.size,0,none⟩=some (.int .i64 x):=(hG4.cell_far _ (by simp;try omega) (by simp[Value.ownBlock];try omega)).trans A1p;have A2u:=O5 hO4;refine hK.out _ _ ?_ (fun L2=>?_)
     ·trivial
     clear hK L2;refine rdH 7 rfl fun K hK=>?_;refine X5 _ (by rfl) _ _ 122 (by rfl) w.heap.size 3 i0 _ 1 8 Tryz.underlying122 hi hz0 hz1 hz2 rfl (by omega) v4 (0+k) ([]++D8 (ns.take k)) (by rfl) hO4 ⟨w.heap.size,0,none⟩ 1 1 [.int .i64 x] (by rfl) (by rfl) (fun j u hu=>by match j,hu with|0,hu=>simp at hu;subst hu;rw[add_plain];exact hx4) (by simp[Value.oneCell']) (by unfold maxLen;omega) (by omega) (by omega) ?_;intro v7 w7 hO7 hG7;have hz7:=hG7.size;have hB7:Below w.heap.size w w7:=hB4.grown hG7 (by omega) (fun q hq=>(O5 hO4 q hq).1);refine hK.out _ _ ?_ (fun S9=>?_)
     ·trivial
     clear hK S9;refine rdH 11 rfl fun K hK=>?_;refine X5 _ (by rfl) _ _ 122 (by rfl) w.heap.size 3 i0 _ 1 8 Tryz.underlying122 hi hz0 hz1 hz2 rfl (by omega) v7 (0+k+1) ([]++D8 (ns.take k)++ [.int .i64 x]) (by rfl) hO7 ad (ns.length -k) (c -k) (D8 (ns.drop k)) (by rfl) (by simp[D8]) (fun j u hu=>hcellD _ hB7 j u hu) (p8 _) (by unfold maxLen;omega) (by omega) (by omega) ?_;intro v11 w11 hO11 hG11;have A0I:Below w.heap.size w w11:=hB7.grown hG11 (by omega) (fun q hq=>(O5 hO7 q hq).1);refine hK.out _ _ ?_ (fun J3=>?_)
     ·trivial
     clear hK J3;refine tkX (i:=12) (d:=4) (v:=?_) rfl rfl ?_ ?_ (hS:=trivial);rotate_left
     ·intro w' _;go_simp;try exact rfl
     refine wpAnyH_done (by kernel_rfl) ?_ _;have HI:Hid (N1 w11 v11 (E6 ns x)):=by
      show N1 _ _ _;rw[A2N hk hless A1g];exact A23 (N:=w.heap.size) (by simpa [D8,List.map_append]using hO11) (by simp;omega)
     obtain⟨b',o',c',e',_⟩:=HI.out;subst e';clear hO4 hO7 hO11 hG4 hG7 hG11 hHeld;go_wp2;refine bodyPost_ret (v:=.slice (some ⟨b',o',none⟩) (E6 ns x).length c') (by simp[results,Tryz.results120,go_sem]) rfl ⟨⟨_,rfl,HI.out⟩,A0I⟩
  ·have A1g:∀n,ns[k]?=some n->x<n:=fun n hn=>by rw[List.getElem?_eq_none (by omega)]at hn;cases hn
   have A2F:∀W,Below w.heap.size w W->∀j u,(D8 (ns.take k))[j]?=some u->W.cell? ⟨b,o+j,none⟩=some u:=by
    intro W hW j u hu;have hj:j<k:=by have:=(gE1 hu).1;simp[D8]at this;omega
    have hjl:j<ns.length:=by omega
    have e:u=Value.int .i64 ns[j]:=by simp[D8,hj,hjl]at hu;exact hu.symm
    rw[e];exact((bc8 hW).1 _ _ hlt).trans (C5 j ns[j] (by simp))
   obtain⟨ad,hif,hcellD⟩:∃ad:Addr,(if c=k then some (⟨b,o,none⟩:Addr)else some ⟨b,o+k,none⟩)=some ad/\∀W,Below w.heap.size w W->∀j u,(D8 (ns.drop k))[j]?=some u->W.cell? (ad.add j)=some u:=by
    by_cases hck:c=k
    ·refine⟨_,if_pos hck,fun W hW j u hu=>?_⟩;have:=(gE1 hu).1;simp[D8]at this;omega
    ·refine⟨_,if_neg hck,fun W hW j u hu=>?_⟩;have hjl:k+j<ns.length:=by have:=(gE1 hu).1;simp[D8]at this;omega
     have e:u=Value.int .i64 ns[k+j]:=by simp[D8,hjl]at hu;exact hu.symm
     rw[e,add_plain,Nat.add_assoc];exact((bc8 hW).1 _ _ hlt).trans (C5 (k+j) ns[k+j] (by simp))
   have hkc:k<=c:=by omega
   clear C5;clear hin hI;go_wp2_with fail;refine wp_region_held_drew (S:=fun _=>True) (by kernel_rfl) ?_ (fun hHeld=>?_)
   ·trivial
   refine tkX (i:=1) (d:=34) (v:=?_) rfl rfl ?_ ?_ (hS:=trivial);rotate_left
   ·intro w' _;go_simp;try exact rfl
   refine tkX (i:=2) (d:=35) (v:=?_) rfl rfl ?_ ?_ (hS:=trivial);rotate_left
   ·intro w' _;go_simp;try exact rfl
   refine tkX (i:=3) (d:=36) (v:=?_) rfl rfl ?_ ?_ (hS:=trivial);rotate_left
   ·intro w' _;go_simp;try exact rfl
   refine tkX (i:=5) (d:=38) (v:=?_) rfl rfl ?_ ?_ (hS:=trivial);rotate_left
   ·intro w' _;go_simp;try exact rfl
   refine tkX (i:=8) (d:=41) (v:=?_) rfl rfl ?_ ?_ (hS:=trivial);rotate_left
   ·intro w' _;go_simp;try exact rfl
   refine tkX (i:=9) (d:=42) (v:=?_) rfl rfl ?_ ?_ (hS:=trivial);rotate_left
   ·intro w' _;go_simp;try exact rfl
   refine tkX (i:=10) (d:=43) (v:=?_) rfl rfl ?_ ?_ (hS:=trivial);rotate_left
   ·intro w' _;go_simp;try exact rfl
   refine wpAnyH_ready (rs:=[0,6]) (by kernel_rfl) (by simp) ?_;refine AllReadyH.cons rfl (fun K hK=>?_) (AllReadyH.cons rfl (fun K hK=>?_) AllReadyH.nil)
   ·go_simp;refine hK.out _ _ ?_ (fun Z9=>?_)
    ·trivial
    clear hK Z9;refine wpAnyH_ready (rs:=[4,6]) (by kernel_rfl) (by simp) ?_;refine AllReadyH.cons rfl (fun K hK=>?_) (AllReadyH.cons rfl (fun K hK=>?_) AllReadyH.nil)
    ·have A0T:(w.drew.alloc (.cells #[] 3)).ownsRow w.heap.size 3 1 (.slice (some ⟨w.heap.size,0,none⟩) 0 0) 0 []:=A2A rfl lr8;have hBW:Below w.heap.size w (w.drew.alloc (.cells #[] 3)):=bex;refine X5 _ (by rfl) _ _ 122 (by rfl) w.heap.size 3 i0 _ 1 8 Tryz.underlying122 hi hz0 hz1 hz2 rfl (by omega) (.slice (some ⟨w.heap.size,0,none⟩) 0 0) 0 [] (by rfl) A0T ⟨b,o,none⟩ k c (D8 (ns.take k)) (by rfl) (by simp[D8];omega) (fun j u hu=>by rw[add_plain];exact A2F _ hBW j u hu) (p8 _) (by unfold maxLen;omega) (by omega) (by simp;try omega) ?_;intro v4 w4 hO4 hG4;have hz4:=hG4.size;(try simp at hz4);have hB4:Below w.heap.size w w4:=hBW.grown hG4 (by simp;try omega) (fun q hq=>by simp[Value.ownBlock]at hq;omega);refine hK.out _ _ ?_ (fun L2=>?_)
     ·trivial
     clear hK L2;refine rdH 6 rfl fun K hK=>?_;go_simp;refine hK.out _ _ ?_ (fun Q6=>?_)
     ·trivial
     clear hK Q6;have hx4:(w4.alloc (.cells #[.int .i64 x] 3)).cell? ⟨w4.heap.size,0,none⟩=some (.int .i64 x):=by go_simp
     replace hO4:=p6 (w':=w4.alloc (.cells #[.int .i64 x] 3)) hO4 fun q hq=>bA8 _ _ _ (O5 hO4 q hq).2;replace hB4:Below w.heap.size w (w4.alloc (.cells #[.int .i64 x] 3)):=hB4.alloc (by omega) _;have hzz:(w4.alloc (.cells #[.int .i64 x] 3)).heap.size=w4.heap.size+1:=by simp
     refine rdH 7 rfl fun K hK=>?_;refine X5 _ (by rfl) _ _ 122 (by rfl) w.heap.size 3 i0 _ 1 8 Tryz.underlying122 hi hz0 hz1 hz2 rfl (by omega) v4 (0+k) ([]++D8 (ns.take k)) (by rfl) hO4 ⟨w4.heap.size,0,none⟩ 1 1 [.int .i64 x] (by rfl) (by rfl) (fun j u hu=>by match j,hu with|0,hu=>simp at hu;subst hu;rw[add_plain];exact hx4) (by simp[Value.oneCell']) (by unfold maxLen;omega) (by omega) (by omega) ?_;intro v7 w7 hO7 hG7;have hz7:=hG7.size;have hB7:Below w.heap.size w w7:=hB4.grown hG7 (by omega) (fun q hq=>(O5 hO4 q hq).1);refine hK.out _ _ ?_ (fun S9=>?_)
     ·trivial
     clear hK S9;refine rdH 11 rfl fun K hK=>?_;refine X5 _ (by rfl) _ _ 122 (by rfl) w.heap.size 3 i0 _ 1 8 Tryz.underlying122 hi hz0 hz1 hz2 rfl (by omega) v7 (0+k+1) ([]++D8 (ns.take k)++ [.int .i64 x]) (by rfl) hO7 ad (ns.length -k) (c -k) (D8 (ns.drop k)) (by rfl) (by simp[D8]) (fun j u hu=>hcellD _ hB7 j u hu) (p8 _) (by unfold maxLen;omega) (by omega) (by omega) ?_;intro v11 w11 hO11 hG11;have A0I:Below w.heap.size w w11:=hB7.grown hG11 (by omega) (fun q hq=>(O5 hO7 q hq).1);refine hK.out _ _ ?_ (fun J3=>?_)
     ·trivial
     clear hK J3;refine tkX (i:=12) (d:=4) (v:=?_) rfl rfl ?_ ?_ (hS:=trivial);rotate_left
     ·intro w' _;go_simp;try exact rfl
     refine wpAnyH_done (by kernel_rfl) ?_ _;have HI:Hid (N1 w11 v11 (E6 ns x)):=by
      show N1 _ _ _;rw[A2N hk hless A1g];exact A23 (N:=w.heap.size) (by simpa [D8,List.map_append]using hO11) (by simp;omega)
     obtain⟨b',o',c',e',_⟩:=HI.out;subst e';clear hO4 hO7 hO11 hG4 hG7 hG11 hHeld;go_wp2;refine bodyPost_ret (v:=.slice (some ⟨b',o',none⟩) (E6 ns x).length c') (by simp[results,Tryz.results120,go_sem]) rfl ⟨⟨_,rfl,HI.out⟩,A0I⟩
    ·go_simp;refine hK.out _ _ ?_ (fun Q6=>?_)
     ·trivial
     clear hK Q6;have A0T:((w.drew.alloc (.cells #[] 3)).alloc (.cells #[.int .i64 x] 3)).ownsRow w.heap.size 3 1 (.slice (some ⟨w.heap.size,0,none⟩) 0 0) 0 []:=p6 (A2A rfl lr8) fun q hq=>bA8 _ _ _ (by simp[Value.ownBlock]at hq;subst hq;simp);have hBW:Below w.heap.size w ((w.drew.alloc (.cells #[] 3)).alloc (.cells #[.int .i64 x] 3)):=bex;have A1p:((w.drew.alloc (.cells #[] 3)).alloc (.cells #[.int .i64 x] 3)).cell? ⟨w.heap.size+1,0,none⟩=some (.int .i64 x):=by go_simp
     refine rdH 4 rfl fun K hK=>?_;refine X5 _ (by rfl) _ _ 122 (by rfl) w.heap.size 3 i0 _ 1 8 Tryz.underlying122 hi hz0 hz1 hz2 rfl (by omega) (.slice (some ⟨w.heap.size,0,none⟩) 0 0) 0 [] (by rfl) A0T ⟨b,o,none⟩ k c (D8 (ns.take k)) (by rfl) (by simp[D8];omega) (fun j u hu=>by rw[add_plain];exact A2F _ hBW j u hu) (p8 _) (by unfold maxLen;omega) (by omega) (by simp;try omega) ?_;intro v4 w4 hO4 hG4;have hz4:=hG4.size;(try simp at hz4);have hB4:Below w.heap.size w w4:=hBW.grown hG4 (by simp;try omega) (fun q hq=>by simp[Value.ownBlock]at hq;omega);have hx4:w4.cell? ⟨w.heap.size+1,0,none⟩=some (.int .i64 x):=(hG4.cell_far _ (by simp;try omega) (by simp[Value.ownBlock];try omega)).trans A1p;have A2u:=O5 hO4;refine hK.out _ _ ?_ (fun L2=>?_)
     ·trivial
     clear hK L2;refine rdH 7 rfl fun K hK=>?_;refine X5 _ (by rfl) _ _ 122 (by rfl) w.heap.size 3 i0 _ 1 8 Tryz.underlying122 hi hz0 hz1 hz2 rfl (by omega) v4 (0+k) ([]++D8 (ns.take k)) (by rfl) hO4 ⟨w.heap.size+1,0,none⟩ 1 1 [.int .i64 x] (by rfl) (by rfl) (fun j u hu=>by match j,hu with|0,hu=>simp at hu;subst hu;rw[add_plain];exact hx4) (by simp[Value.oneCell']) (by unfold maxLen;omega) (by omega) (by omega) ?_;intro v7 w7 hO7 hG7;have hz7:=hG7.size;have hB7:Below w.heap.size w w7:=hB4.grown hG7 (by omega) (fun q hq=>(O5 hO4 q hq).1);refine hK.out _ _ ?_ (fun S9=>?_)
     ·trivial
     clear hK S9;refine rdH 11 rfl fun K hK=>?_;refine X5 _ (by rfl) _ _ 122 (by rfl) w.heap.size 3 i0 _ 1 8 Tryz.underlying122 hi hz0 hz1 hz2 rfl (by omega) v7 (0+k+1) ([]++D8 (ns.take k)++ [.int .i64 x]) (by rfl) hO7 ad (ns.length -k) (c -k) (D8 (ns.drop k)) (by rfl) (by simp[D8]) (fun j u hu=>hcellD _ hB7 j u hu) (p8 _) (by unfold maxLen;omega) (by omega) (by omega) ?_;intro v11 w11 hO11 hG11;have A0I:Below w.heap.size w w11:=hB7.grown hG11 (by omega) (fun q hq=>(O5 hO7 q hq).1);refine hK.out _ _ ?_ (fun J3=>?_)
     ·trivial
     clear hK J3;refine tkX (i:=12) (d:=4) (v:=?_) rfl rfl ?_ ?_ (hS:=trivial);rotate_left
     ·intro w' _;go_simp;try exact rfl
     refine wpAnyH_done (by kernel_rfl) ?_ _;have HI:Hid (N1 w11 v11 (E6 ns x)):=by
      show N1 _ _ _;rw[A2N hk hless A1g];exact A23 (N:=w.heap.size) (by simpa [D8,List.map_append]using hO11) (by simp;omega)
     obtain⟨b',o',c',e',_⟩:=HI.out;subst e';clear hO4 hO7 hO11 hG4 hG7 hG11 hHeld;go_wp2;refine bodyPost_ret (v:=.slice (some ⟨b',o',none⟩) (E6 ns x).length c') (by simp[results,Tryz.results120,go_sem]) rfl ⟨⟨_,rfl,HI.out⟩,A0I⟩
   ·go_simp;refine hK.out _ _ ?_ (fun Q6=>?_)
    ·trivial
    clear hK Q6;refine rdH 0 rfl fun K hK=>?_;go_simp;refine hK.out _ _ ?_ (fun Z9=>?_)
    ·trivial
    clear hK Z9;have A0T:((w.drew.alloc (.cells #[.int .i64 x] 3)).alloc (.cells #[] 3)).ownsRow w.heap.size 3 1 (.slice (some ⟨w.heap.size+1,0,none⟩) 0 0) 0 []:=A2A (by simp) (by omega);have hBW:Below w.heap.size w ((w.drew.alloc (.cells #[.int .i64 x] 3)).alloc (.cells #[] 3)):=bex;have A1p:((w.drew.alloc (.cells #[.int .i64 x] 3)).alloc (.cells #[] 3)).cell? ⟨w.heap.size,0,none⟩=some (.int .i64 x):=by go_simp
    refine rdH 4 rfl fun K hK=>?_;refine X5 _ (by rfl) _ _ 122 (by rfl) w.heap.size 3 i0 _ 1 8 Tryz.underlying122 hi hz0 hz1 hz2 rfl (by omega) (.slice (some ⟨w.heap.size+1,0,none⟩) 0 0) 0 [] (by rfl) A0T ⟨b,o,none⟩ k c (D8 (ns.take k)) (by rfl) (by simp[D8];omega) (fun j u hu=>by rw[add_plain];exact A2F _ hBW j u hu) (p8 _) (by unfold maxLen;omega) (by omega) (by simp;try omega) ?_;intro v4 w4 hO4 hG4;have hz4:=hG4.size;(try simp at hz4);have hB4:Below w.heap.size w w4:=hBW.grown hG4 (by simp;try omega) (fun q hq=>by simp[Value.ownBlock]at hq;omega);have hx4:w4.cell? ⟨w.heap.size,0,none⟩=some (.int .i64 x):=(hG4.cell_far _ (by simp;try omega) (by simp[Value.ownBlock];try omega)).trans A1p;have A2u:=O5 hO4;refine hK.out _ _ ?_ (fun L2=>?_)
    ·trivial
    clear hK L2;refine rdH 7 rfl fun K hK=>?_;refine X5 _ (by rfl) _ _ 122 (by rfl) w.heap.size 3 i0 _ 1 8 Tryz.underlying122 hi hz0 hz1 hz2 rfl (by omega) v4 (0+k) ([]++D8 (ns.take k)) (by rfl) hO4 ⟨w.heap.size,0,none⟩ 1 1 [.int .i64 x] (by rfl) (by rfl) (fun j u hu=>by match j,hu with|0,hu=>simp at hu;subst hu;rw[add_plain];exact hx4) (by simp[Value.oneCell']) (by unfold maxLen;omega) (by omega) (by omega) ?_;intro v7 w7 hO7 hG7;have hz7:=hG7.size;have hB7:Below w.heap.size w w7:=hB4.grown hG7 (by omega) (fun q hq=>(O5 hO4 q hq).1);refine hK.out _ _ ?_ (fun S9=>?_)
    ·trivial
    clear hK S9;refine rdH 11 rfl fun K hK=>?_;refine X5 _ (by rfl) _ _ 122 (by rfl) w.heap.size 3 i0 _ 1 8 Tryz.underlying122 hi hz0 hz1 hz2 rfl (by omega) v7 (0+k+1) ([]++D8 (ns.take k)++ [.int .i64 x]) (by rfl) hO7 ad (ns.length -k) (c -k) (D8 (ns.drop k)) (by rfl) (by simp[D8]) (fun j u hu=>hcellD _ hB7 j u hu) (p8 _) (by unfold maxLen;omega) (by omega) (by omega) ?_;intro v11 w11 hO11 hG11;have A0I:Below w.heap.size w w11:=hB7.grown hG11 (by omega) (fun q hq=>(O5 hO7 q hq).1);refine hK.out _ _ ?_ (fun J3=>?_)
    ·trivial
    clear hK J3;refine tkX (i:=12) (d:=4) (v:=?_) rfl rfl ?_ ?_ (hS:=trivial);rotate_left
    ·intro w' _;go_simp;try exact rfl
    refine wpAnyH_done (by kernel_rfl) ?_ _;have HI:Hid (N1 w11 v11 (E6 ns x)):=by
     show N1 _ _ _;rw[A2N hk hless A1g];exact A23 (N:=w.heap.size) (by simpa [D8,List.map_append]using hO11) (by simp;omega)
    obtain⟨b',o',c',e',_⟩:=HI.out;subst e';clear hO4 hO7 hO11 hG4 hG7 hG11 hHeld;go_wp2;refine bodyPost_ret (v:=.slice (some ⟨b',o',none⟩) (E6 ns x).length c') (by simp[results,Tryz.results120,go_sem]) rfl ⟨⟨_,rfl,HI.out⟩,A0I⟩
end
section
open Go.RowKit Go.Deep Go.ChangeShapes Go.WideShapes
theorem A5T {α:Type}{l:List α}{k:Nat}{x:α}(h:l[k]?=some x):l.take (k+1)=l.take k++ [x]:=by
 obtain⟨hk,rfl⟩:=gE1 h;exact List.take_succ_eq_append_getElem hk
def N3 (d:Nat)(e:E7)(k:Nat):List Int:=(e.ks.take k).foldl (fun acc k=>(H0 d k).foldl E6 acc) (if e.k=0 then[e.n]else[])
theorem A9p (d:Nat)(e:E7):N3 d e 0=if e.k=0 then[e.n]else[]:=by simp[N3]
theorem A76 (d:Nat)(e:E7):N3 d e e.ks.length=H0 (d+1) e:=by rw[N3,List.take_length,H0]
theorem B0G {d:Nat}{e:E7}{k:Nat}{x:E7}(h:e.ks[k]?=some x):N3 d e (k+1)=(H0 d x).foldl E6 (N3 d e k):=by
 unfold N3;rw[A5T h,List.foldl_append];rfl
theorem A47:∀ (l acc:List Int),(l.foldl E6 acc).length<=acc.length+l.length
 | [],acc=>by simp
 |x::l,acc=>by
  have h1:=A47 l (E6 acc x);have h2:=B3N acc x;simp only[List.foldl_cons,List.length_cons];omega
theorem A6F (f:E7->List Int)(hf:∀k,(f k).length<=1+wtE k):∀ (ks:List E7) (acc:List Int),(ks.foldl (fun acc k=>(f k).foldl E6 acc) acc).length<=acc.length+(ks.length+H4 ks)
 | [],acc=>by simp
 |k::ks,acc=>by
  have h1:=A6F f hf ks ((f k).foldl E6 acc);have h2:=A47 (f k) acc;have h3:=hf k;have h4:H4 (k::ks)=wtE k+H4 ks:=by rw[<-A3K,<-A3K];simp
  simp only[List.foldl_cons,List.length_cons];omega
theorem A22:∀ (d:Nat) (e:E7),(H0 d e).length<=1+wtE e
 |0,e=>by simp[H0]
 |d+1,e=>by
  rw[H0];have h1:=A6F (H0 d) (A22 d) e.ks (if e.k=0 then[e.n]else[]);have h2:(if e.k=0 then[e.n]else[]).length<=1:=by split<;>simp
  have h3:=j3 e;omega
theorem B0s (d:Nat)(e:E7)(k:Nat):(N3 d e k).length<=1+wtE e:=by
 unfold N3;have h1:=A6F (H0 d) (A22 d) (e.ks.take k) (if e.k=0 then[e.n]else[]);have h2:(if e.k=0 then[e.n]else[]).length<=1:=by split<;>simp
 have h3:=j3 e;have h4:(e.ks.take k).length+H4 (e.ks.take k)<=e.ks.length+H4 e.ks:=by
  have:H4 e.ks=H4 (e.ks.take k)+H4 (e.ks.drop k):=by rw[<-B1e,List.take_append_drop]
  simp;omega
 omega
def ClS (d:Nat):Prop:=∀ (e:E7) (u:Value) (F:List Nat) (w:World),C1 w d u e.ks F->wtE e<=1048576->
  Calls Tryz.prog 94 #[(.agg #[.int .i64 e.k,.int .i64 e.n,.int .i64 e.v.k,.int .i64 e.v.n,.string e.v.s,.string e.p,u])] w fun x w'=>(∃v,x=.returned v/\N1 w' v (H0 d e))/\Below w.heap.size w w'
theorem C2d {d:Nat}(ih:ClS d):ClS (d+1):=by
 intro e u F w hk hn;have ih:∀ (e:E7) (u:Value) (F:List Nat) (w:World),C1 w d u e.ks F->wtE e<=1048576-> Calls Tryz.prog 94 #[(.agg #[.int .i64 e.k,.int .i64 e.n,.int .i64 e.v.k,.int .i64 e.v.n,.string e.v.s,.string e.p,u])] w fun x w'=>(∃v,x=.returned v/\N1 w' v (H0 d e))/\Below w.heap.size w w':=ih;obtain⟨a,c,b,o,G0,rfl,hl,hc,hG0,_,ha⟩:=hk.pick;unfold maxLen at hc;have hwe:=j3 e;clear hk;by_cases hk0:e.k=0
 ·have HA:Hid (N3 d e 0=[e.n]):=by show _=_;rw[A9p,if_pos hk0]
  have hkb:(e.k==0)=true:=by simpa using hk0
  have hkd:decide (e.k=0)=true:=by simpa using hk0
  clear hk0;go_enter Tryz.func94,Tryz.ntmps94;go_wp2_with fail;refine cM8 (A5g (.slice (some ⟨w.heap.size+1,0,none⟩) 0 0) [] e.n _ ⟨w.heap.size+1,0,0,rfl,Nat.le_refl _,by simp,by simp,fun i n h=>by simp at h⟩ (by simp)) ?_;rintro q W ⟨⟨v0,rfl,hI0⟩,hbW0⟩;have hW0:=hbW0.size;have B9Y:W.cell? ⟨w.heap.size,6,none⟩=some (.slice a e.ks.length c):=cl8 hbW0;have hbW:Below w.heap.size w W:=bex;rw[show E6 [] e.n=[e.n]from rfl]at hI0;obtain⟨yb,yo,yc,e0,_⟩:=id hI0;subst e0;clear hbW0;go_wp2;go_loopw [3,4] (fun y i wr=> ∃ (k:Nat) (yb yo yc:Nat),k<=e.ks.length/\i=.int .i64 k/\y=.slice (some ⟨yb,yo,none⟩) (N3 d e k).length yc/\N1 wr (.slice (some ⟨yb,yo,none⟩) (N3 d e k).length yc) (N3 d e k)/\wr.cell? ⟨w.heap.size,6,none⟩=some (.slice a e.ks.length c)/\Below w.heap.size w wr/\w.heap.size<wr.heap.size) (fun _ i _=>e.ks.length - (intOf i).toNat)
  case atStart=>exact⟨0,yb,yo,yc,Nat.zero_le _,rfl,by first|(rw[HA.out];done)|(rw[HA.out];rfl)|(rw[HA.out];simp),by rw[HA.out];exact hI0,B9Y,hbW,by simp at hW0⊢;omega⟩
  case round=>
   obtain⟨k,yb,yo,yc,hk,rfl,rfl,hI,hbx,hb,hz⟩:=hrel;have hzb:=hb.size;by_cases hlt:k<e.ks.length
   ·obtain⟨rfl,hblt,_,hL⟩:=ha k hlt;obtain⟨x,g0,u0,hx,_,hxw,⟨c0,c1,c2,c3,c4,c5⟩,c6,hKx,hbr⟩:=hL.at hG0 hblt hb hlt;obtain⟨a0,n0,rfl,_,_⟩:=hKx.shape;have hxm:=mg8 hx;have hxn:wtE x<=1048576:=by have:=A0a hxm;omega
    have hAk:=B0s d e k;have hXl:=A22 d x;have HK:Hid (N3 d e (k+1)=(H0 d x).foldl E6 (N3 d e k)):=B0G hx;clear hL hx HA hI0 hbW hW0;go_wp2_with fail;refine cM8 (ih x (.slice a0 x.ks.length n0) g0 wr hKx hxn) ?_;rintro q w1 ⟨⟨v1,rfl,hI1⟩,hb1⟩;have hz1:=hb1.size;have L3:Below w.heap.size w w1:=hb.trans (hb1.mono hzb);have hIy:=hI.below hb1;have A5h:=((bc8 hb1).1 _ _ hz).trans hbx;have A51:w.heap.size<w1.heap.size:=by omega
    obtain⟨mb,mo,mc,rfl,hml,hmc,hmlt,hmcell⟩:=hI1;unfold maxLen at hmc;generalize N3 d e k=ac at*;generalize H0 d x=xl at*;clear hI hbx hb1 hb c0 c1 c2 c3 c4 c5 c6 hKx;go_wp2;go_loopw [3,6] (fun y j wr'=> ∃ (m:Nat) (yb yo yc:Nat),m<=xl.length/\j=.int .i64 m/\y=.slice (some ⟨yb,yo,none⟩) ((xl.take m).foldl E6 ac).length yc/\N1 wr' (.slice (some ⟨yb,yo,none⟩) ((xl.take m).foldl E6 ac).length yc) ((xl.take m).foldl E6 ac)/\Below w1.heap.size w1 wr') (fun _ j _=>xl.length - (intOf j).toNat)
    case atStart=>exact⟨0,yb,yo,yc,Nat.zero_le _,rfl,by simp,by simpa using hIy,Below.refl _ _⟩
    case round=>
     obtain⟨m,yb,yo,yc,hm,rfl,rfl,hIm,hbm⟩:=hrel;have hzm:=hbm.size;by_cases hml2:m<xl.length
     ·obtain⟨z,hz0⟩:∃z,xl[m]?=some z:=⟨xl[m],by simp[hml2]⟩;have cz:=((bc8 hbm).1 _ _ hmlt).trans (hmcell m z hz0);have HF:Hid ((xl.take (m+1)).foldl E6 ac=E6 ((xl.take m).foldl E6 ac) z):=by
       show _=_;rw[A5T hz0,List.foldl_append];rfl
      have hfl:=A47 (xl.take m) ac;have A1A:(xl.take m).length<=m:=by simp;omega
      generalize(xl.take m).foldl E6 ac=af at*;clear hmcell hIy hz0;go_wp2_with fail;refine cM8 (A5g (.slice (some ⟨yb,yo,none⟩) af.length yc) af z _ hIm (by omega)) ?_;rintro q w2 ⟨⟨v2,rfl,hI2⟩,hb2⟩;have A1j:=hI2;rw[<-HF.out]at A1j;obtain⟨b2,o2,k2,e2,_⟩:=id A1j;subst e2;have A6s:Below w1.heap.size w1 w2:=hbm.trans (hb2.mono hzm);clear hI2 hb2 hIm;go_wp2;exact⟨⟨m+1,b2,o2,k2,hml2,by simp,rfl,A1j,A6s⟩,by simp[intOf];omega⟩
     ·obtain rfl:m=xl.length:=by omega
      rw[List.take_length]at hIm;have A6Z:=((bc8 hbm).1 _ _ A51).trans A5h;have Q5:Below w.heap.size w wr:=L3.trans (hbm.mono (by omega));have A6H:w.heap.size<wr.heap.size:=by omega
      clear hmcell hIy hbm;simp only[List.take_length];go_wp2;exact⟨⟨k+1,yb,yo,yc,hlt,by simp,by rw[HK.out],by rw[HK.out];exact hIm,A6Z,Q5,A6H⟩,by simp[intOf];omega⟩
   ·obtain rfl:k=e.ks.length:=by omega
    have HC:Hid (N1 wr (.slice (some ⟨yb,yo,none⟩) (N3 d e e.ks.length).length yc) (H0 (d+1) e)):=by
     have:=hI;rw[show H0 (d+1) e=N3 d e e.ks.length from(A76 d e).symm];exact hI
    clear hI HA hI0 hbW hW0;go_wp2;refine bodyPost_ret (v:=.slice (some ⟨yb,yo,none⟩) (N3 d e e.ks.length).length yc) (by simp[results,Tryz.results94,go_sem]) rfl ⟨⟨_,rfl,HC.out⟩,hb⟩
 ·have HA:Hid (N3 d e 0=[]):=by show _=_;rw[A9p,if_neg hk0]
  have hkb:(e.k==0)=false:=by simpa using hk0
  have hkd:decide (e.k=0)=false:=by simpa using hk0
  clear hk0;have hI0:N1 ((w.alloc (.cells #[.int .i64 e.k,.int .i64 e.n,.int .i64 e.v.k,.int .i64 e.v.n,.string e.v.s,.string e.p,.slice a e.ks.length c] 42)).alloc (.cells #[] 3)) (.slice (some ⟨w.heap.size+1,0,none⟩) 0 0) []:=⟨w.heap.size+1,0,0,rfl,Nat.le_refl _,by simp,by simp,fun i n h=>by simp at h⟩;have hbW:Below w.heap.size w ((w.alloc (.cells #[.int .i64 e.k,.int .i64 e.n,.int .i64 e.v.k,.int .i64 e.v.n,.string e.v.s,.string e.p,.slice a e.ks.length c] 42)).alloc (.cells #[] 3)):=bex;have hW0:w.heap.size+1+1<=((w.alloc (.cells #[.int .i64 e.k,.int .i64 e.n,.int .i64 e.v.k,.int .i64 e.v.n,.string e.v.s,.string e.p,.slice a e.ks.length c] 42)).alloc (.cells #[] 3)).heap.size:=by simp
  obtain⟨yb,hyb⟩:∃yb,yb=w.heap.size+1:=⟨_,rfl⟩;obtain⟨yo,hyo⟩:∃yo,yo=0:=⟨_,rfl⟩;obtain⟨yc,hyc⟩:∃yc,yc=0:=⟨_,rfl⟩;go_enter Tryz.func94,Tryz.ntmps94;go_wp2;go_loopw [3,4] (fun y i wr=> ∃ (k:Nat) (yb yo yc:Nat),k<=e.ks.length/\i=.int .i64 k/\y=.slice (some ⟨yb,yo,none⟩) (N3 d e k).length yc/\N1 wr (.slice (some ⟨yb,yo,none⟩) (N3 d e k).length yc) (N3 d e k)/\wr.cell? ⟨w.heap.size,6,none⟩=some (.slice a e.ks.length c)/\Below w.heap.size w wr/\w.heap.size<wr.heap.size) (fun _ i _=>e.ks.length - (intOf i).toNat)
  case atStart=>exact⟨0,w.heap.size+1,0,0,Nat.zero_le _,rfl,by rw[HA.out];rfl,by rw[HA.out];exact hI0,by go_simp,hbW,by simp;omega⟩
  case round=>
   obtain⟨k,yb,yo,yc,hk,rfl,rfl,hI,hbx,hb,hz⟩:=hrel;have hzb:=hb.size;by_cases hlt:k<e.ks.length
   ·obtain⟨rfl,hblt,_,hL⟩:=ha k hlt;obtain⟨x,g0,u0,hx,_,hxw,⟨c0,c1,c2,c3,c4,c5⟩,c6,hKx,hbr⟩:=hL.at hG0 hblt hb hlt;obtain⟨a0,n0,rfl,_,_⟩:=hKx.shape;have hxm:=mg8 hx;have hxn:wtE x<=1048576:=by have:=A0a hxm;omega
    have hAk:=B0s d e k;have hXl:=A22 d x;have HK:Hid (N3 d e (k+1)=(H0 d x).foldl E6 (N3 d e k)):=B0G hx;clear hL hx HA hI0 hbW hW0 hyb hyo hyc;go_wp2_with fail;refine cM8 (ih x (.slice a0 x.ks.length n0) g0 wr hKx hxn) ?_;rintro q w1 ⟨⟨v1,rfl,hI1⟩,hb1⟩;have hz1:=hb1.size;have L3:Below w.heap.size w w1:=hb.trans (hb1.mono hzb);have hIy:=hI.below hb1;have A5h:=((bc8 hb1).1 _ _ hz).trans hbx;have A51:w.heap.size<w1.heap.size:=by omega
    obtain⟨mb,mo,mc,rfl,hml,hmc,hmlt,hmcell⟩:=hI1;unfold maxLen at hmc;generalize N3 d e k=ac at*;generalize H0 d x=xl at*;clear hI hbx hb1 hb c0 c1 c2 c3 c4 c5 c6 hKx;go_wp2;go_loopw [3,6] (fun y j wr'=> ∃ (m:Nat) (yb yo yc:Nat),m<=xl.length/\j=.int .i64 m/\y=.slice (some ⟨yb,yo,none⟩) ((xl.take m).foldl E6 ac).length yc/\N1 wr' (.slice (some ⟨yb,yo,none⟩) ((xl.take m).foldl E6 ac).length yc) ((xl.take m).foldl E6 ac)/\Below w1.heap.size w1 wr') (fun _ j _=>xl.length - (intOf j).toNat)
    case atStart=>exact⟨0,yb,yo,yc,Nat.zero_le _,rfl,by simp,by simpa using hIy,Below.refl _ _⟩
    case round=>
     obtain⟨m,yb,yo,yc,hm,rfl,rfl,hIm,hbm⟩:=hrel;have hzm:=hbm.size;by_cases hml2:m<xl.length
     ·obtain⟨z,hz0⟩:∃z,xl[m]?=some z:=⟨xl[m],by simp[hml2]⟩;have cz:=((bc8 hbm).1 _ _ hmlt).trans (hmcell m z hz0);have HF:Hid ((xl.take (m+1)).foldl E6 ac=E6 ((xl.take m).foldl E6 ac) z):=by
       show _=_;rw[A5T hz0,List.foldl_append];rfl
      have hfl:=A47 (xl.take m) ac;have A1A:(xl.take m).length<=m:=by simp;omega
      generalize(xl.take m).foldl E6 ac=af at*;clear hmcell hIy hz0;go_wp2_with fail;refine cM8 (A5g (.slice (some ⟨yb,yo,none⟩) af.length yc) af z _ hIm (by omega)) ?_;rintro q w2 ⟨⟨v2,rfl,hI2⟩,hb2⟩;have A1j:=hI2;rw[<-HF.out]at A1j;obtain⟨b2,o2,k2,e2,_⟩:=id A1j;subst e2;have A6s:Below w1.heap.size w1 w2:=hbm.trans (hb2.mono hzm);clear hI2 hb2 hIm;go_wp2;exact⟨⟨m+1,b2,o2,k2,hml2,by simp,rfl,A1j,A6s⟩,by simp[intOf];omega⟩
     ·obtain rfl:m=xl.length:=by omega
      rw[List.take_length]at hIm;have A6Z:=((bc8 hbm).1 _ _ A51).trans A5h;have Q5:Below w.heap.size w wr:=L3.trans (hbm.mono (by omega));have A6H:w.heap.size<wr.heap.size:=by omega
      clear hmcell hIy hbm;simp only[List.take_length];go_wp2;exact⟨⟨k+1,yb,yo,yc,hlt,by simp,by rw[HK.out],by rw[HK.out];exact hIm,A6Z,Q5,A6H⟩,by simp[intOf];omega⟩
   ·obtain rfl:k=e.ks.length:=by omega
    have HC:Hid (N1 wr (.slice (some ⟨yb,yo,none⟩) (N3 d e e.ks.length).length yc) (H0 (d+1) e)):=by
     have:=hI;rw[show H0 (d+1) e=N3 d e e.ks.length from(A76 d e).symm];exact hI
    clear hI HA hI0 hbW hW0;go_wp2;refine bodyPost_ret (v:=.slice (some ⟨yb,yo,none⟩) (N3 d e e.ks.length).length yc) (by simp[results,Tryz.results94,go_sem]) rfl ⟨⟨_,rfl,HC.out⟩,hb⟩
theorem A82:∀d,ClS d
 |0=>fun e u F w h=>h.elim
 |d+1=>C2d (A82 d)
end
section
open Go.RowKit Go.Deep
def Z2:DataW (Int×Int×V3×ByteArray)->Nat
 | .agg (.held _::l)=>1+(l.attach.map fun x=>have:=List.sizeOf_lt_of_mem x.2;Z2 x.1).sum
 |_=>1
def A1l:List E7->Nat
 | []=>0
 |e::es=>Z2 e+A1l es
theorem B1b (l:List E7):(l.map Z2).sum=A1l l:=by
 induction l with
 |nil=>rfl
 |cons e es ih=>rw[List.map_cons,List.sum_cons,A1l,ih]
theorem A53 (e:E7):Z2 e=1+A1l e.ks:=by
 rw[Z2.eq_def];split
 ·rename_i q l
  have:(l.attach.map fun x=>Z2 x.1)=l.map Z2:=by simp
  show 1+(l.attach.map fun x=>Z2 x.1).sum=1+A1l l;rw[this,B1b]
 ·rename_i h
  have hk:E7.ks e=[]:=by unfold E7.ks;split;exact absurd rfl (h _ _);rfl
  rw[hk];rfl
def o9 (i:Nat)(ns:List Nd):Nat:=((ns.drop i).map fun x=>Z2 x.e).sum
theorem A8m {i:Nat}{ns:List Nd}{x:Nd}(h:ns[i]?=some x):o9 i ns=Z2 x.e+o9 (i+1) ns:=by
 obtain⟨hi,rfl⟩:=gE1 h;unfold o9;rw[List.drop_eq_getElem_cons hi];simp only[List.map_cons,List.sum_cons]
theorem B2e (ks:List E7)(g:Nat):((news ks g).map fun x=>Z2 x.e).sum=A1l ks:=by
 have e:(news ks g).map (fun x=>Z2 x.e)=ks.map Z2:=by
  apply List.ext_getElem?;intro i;simp[news];cases ks[i]?<;>rfl
 rw[e,B1b]
theorem B4G {i:Nat}{ns:List Nd}{x:Nd}(g:Nat)(h:ns[i]?=some x):i+1+o9 (i+1) (ns++news x.e.ks g)=i+o9 i ns:=by
 have hi:i<ns.length:=(gE1 h).1;rw[A8m h,A53];have e:o9 (i+1) (ns++news x.e.ks g)=o9 (i+1) ns+A1l x.e.ks:=by
  unfold o9;rw[List.drop_append_of_le_length (by omega),List.map_append,List.sum_append,B2e]
 omega
theorem B7P (i:Nat)(ns:List Nd):ns.length -i<=o9 i ns:=by
 unfold o9;rw[<-List.length_drop];generalize ns.drop i=l;induction l with
 |nil=>simp
 |cons x xs ih=>
  have:=A53 x.e;simp only[List.map_cons,List.sum_cons,List.length_cons]at ih⊢;omega
structure KQ (w:World)(D:Nat)(F0:List Nat)(wr:World)(i:Nat)(ns:List Nd)(Fs:List (List Nat))(es:Array MapEntry):Prop where
 len:Fs.length=ns.length
 kid:∀ (j:Nat) (x:Nd) (F:List Nat),i<=j->ns[j]?=some x->Fs[j]?=some F->∃u,wr.cell? ⟨x.b,x.o+6,none⟩=some u/\C1 w (D+1) u x.e.ks F
 nd:(Fs.drop i).flatten.Nodup
 sub:∀F∈Fs.drop i,∀b∈F,b∈F0
 keys:∀e∈es.toList,∃ (a:Addr) (m:Int),e.key=.agg #[.pointer (some a),.int .i64 m]/\a.block∈F0/\∀F∈Fs.drop i,a.block∉F
 fr:∀x∈F0,Fr w x/\x<w.heap.size
def MQ (w:World)(D:Nat)(F0:List Nat)(wr:World)(i:Nat)(ns:List Nd)(es:Array MapEntry):Prop:=
 (es=#[]/\i+o9 i ns<=8191)\/∃Fs,KQ w D F0 wr i ns Fs es
theorem MQ.few {w:World}{D:Nat}{F0:List Nat}{wr:World}{i:Nat}{ns:List Nd}{es:Array MapEntry}(h:MQ w D F0 wr i ns es)(hl:8192<=ns.length):∃Fs,KQ w D F0 wr i ns Fs es:=by
 rcases h with⟨_,h⟩|h
 ·have:=B7P i ns;omega
 ·exact h
theorem KQ.here {w:World}{D:Nat}{F0:List Nat}{wr:World}{i:Nat}{ns:List Nd}{Fs:List (List Nat)}{es:Array MapEntry}{x:Nd}{b o n c:Nat}(h:KQ w D F0 wr i ns Fs es)(hx:ns[i]?=some x)(hu:wr.cell? ⟨x.b,x.o+6,none⟩=some (.slice (some ⟨b,o,none⟩) n c))(hne:x.e.ks≠ []):∃G,Fs.drop i=(b::G.flatten)::Fs.drop (i+1)/\G.length=x.e.ks.length/\A0b w D b o x.e.ks G:=by
 have hi:i<Fs.length:=by rw[h.len];exact(gE1 hx).1
 obtain⟨u,hu',hK⟩:=h.kid i x Fs[i] lr8 hx (by simp);rw[hu]at hu';obtain rfl:=Option.some.inj hu';obtain⟨a,c',b',o',G,e,_,_,hG,_,ha⟩:=hK.pick;obtain⟨rfl,_,hF,hL⟩:=ha 0 (List.length_pos_iff.2 hne);injection e with e1;injection e1 with e1;injection e1 with e1 e2;subst e1 e2;exact⟨G,by rw[List.drop_eq_getElem_cons hi,hF],hG,hL⟩
theorem MQ.miss {w:World}{D:Nat}{F0:List Nat}{wr wX:World}{i:Nat}{ns:List Nd}{es:Array MapEntry}{x:Nd}{b o n c:Nat}(h:MQ w D F0 wr i ns es)(hx:ns[i]?=some x)(hu:wr.cell? ⟨x.b,x.o+6,none⟩=some (.slice (some ⟨b,o,none⟩) n c))(hne:x.e.ks≠ [])(hX:Below w.heap.size w wX):∀e∈es.toList,∃ (a:Addr) (m:Int),e.key=.agg #[.pointer (some a),.int .i64 m]/\(⟨b,o,none⟩:Addr)≠a/\Fr wX (⟨b,o,none⟩:Addr).block/\Fr wX a.block:=by
 rcases h with⟨rfl,_⟩|⟨Fs,h⟩
 ·intro e he;simp at he
 ·obtain⟨G,hd,_,_⟩:=h.here hx hu hne;intro e he;obtain⟨a,m,hk,ha,hF⟩:=h.keys e he;have hb0:b∈F0:=h.sub (b::G.flatten) (by rw[hd];exact List.mem_cons_self) b List.mem_cons_self;have fr:∀y∈F0,Fr wX y:=fun y hy=>(h.fr y hy).1.keep (hX.block y (h.fr y hy).2);refine⟨a,m,hk,?_,fr b hb0,fr _ ha⟩;rintro rfl;exact hF (b::G.flatten) (by rw[hd];exact List.mem_cons_self) List.mem_cons_self
theorem MQ.skip {w:World}{D:Nat}{F0:List Nat}{wr w3:World}{i:Nat}{ns:List Nd}{es:Array MapEntry}{x:Nd}(h:MQ w D F0 wr i ns es)(hx:ns[i]?=some x)(C5:∀ (j:Nat) (y:Nd),ns[j]?=some y->j≠i->w3.cell? ⟨y.b,y.o+6,none⟩=wr.cell? ⟨y.b,y.o+6,none⟩):MQ w D F0 w3 (i+1) ns es:=by
 rcases h with⟨he,h⟩|⟨Fs,h⟩
 ·left;refine⟨he,?_⟩;have:=A8m hx;have:=A53 x.e;omega
 ·right;have hi:i<Fs.length:=by rw[h.len];exact(gE1 hx).1
  have hd:Fs.drop i=Fs[i]::Fs.drop (i+1):=List.drop_eq_getElem_cons hi;refine⟨Fs,h.len,fun j y F hj hy hF=>?_,?_,fun F hF=>h.sub F (by rw[hd];exact List.mem_cons_of_mem _ hF),fun e he=>?_,h.fr⟩
  ·obtain⟨u,hu,hK⟩:=h.kid j y F (by omega) hy hF;exact⟨u,(C5 j y hy (by omega)).trans hu,hK⟩
  ·have:=h.nd;rw[hd,List.flatten_cons,List.nodup_append]at this;exact this.2.1
  ·obtain⟨a,m,hk,ha,hF⟩:=h.keys e he;exact⟨a,m,hk,ha,fun F hF'=>hF F (by rw[hd];exact List.mem_cons_of_mem _ hF')⟩
theorem KQ.step {w:World}{D:Nat}{F0:List Nat}{wr w3:World}{i gg:Nat}{ns:List Nd}{Fs:List (List Nat)}{es es':Array MapEntry}{x:Nd}{b o n c:Nat}(h:KQ w D F0 wr i ns Fs es)(hx:ns[i]?=some x)(hu:wr.cell? ⟨x.b,x.o+6,none⟩=some (.slice (some ⟨b,o,none⟩) n c))(hne:x.e.ks≠ [])(C5:∀ (j:Nat) (y:Nd),ns[j]?=some y->j≠i->w3.cell? ⟨y.b,y.o+6,none⟩=wr.cell? ⟨y.b,y.o+6,none⟩)(hgg:∀j,j<x.e.ks.length*7->w3.cell? ⟨gg,j,none⟩=w.cell? ⟨b,o+j,none⟩)(hes:∀e∈es'.toList,e∈es.toList\/∃m:Int,e.key=.agg #[.pointer (some ⟨b,o,none⟩),.int .i64 m]):∃Fs',KQ w D F0 w3 (i+1) (ns++news x.e.ks gg) Fs' es':=by
 obtain⟨G,hd,hG,hL⟩:=h.here hx hu hne;have hil:i<ns.length:=(gE1 hx).1;have D3:=h.len;have hdr:(Fs++G).drop (i+1)=Fs.drop (i+1)++G:=List.drop_append_of_le_length (by omega);have hnd:=h.nd;rw[hd,List.flatten_cons,List.nodup_append]at hnd;obtain⟨n1,n2,n3⟩:=hnd;obtain⟨nb,nG⟩:=List.nodup_cons.1 n1;have mem:∀F∈G,∀y∈F,y∈b::G.flatten:=fun F hF y hy=>List.mem_cons_of_mem _ (List.mem_flatten.2 ⟨F,hF,hy⟩);refine⟨Fs++G,by rw[List.length_append,List.length_append,D3,A44,hG],fun j y F hj hy hF=>?_,?_,fun F hF=>?_,fun e he=>?_,h.fr⟩
 ·by_cases hjl:j<ns.length
  ·rw[List.getElem?_append_left hjl]at hy;rw[List.getElem?_append_left (by omega)]at hF;obtain⟨u,hu2,hK⟩:=h.kid j y F (by omega) hy hF;exact⟨u,(C5 j y hy (by omega)).trans hu2,hK⟩
  ·rw[List.getElem?_append_right (by omega)]at hy;rw[List.getElem?_append_right (by omega),D3]at hF;obtain⟨e,he,rfl⟩:=A1k hy;have ht:j -ns.length<x.e.ks.length:=(gE1 he).1;obtain⟨_,_,u,hu2,hK⟩:=hL (j -ns.length) e F he hF;refine⟨u,?_,hK.up (by omega)⟩;rw[<-hu2];show w3.cell? ⟨gg,(j -ns.length)*7+6,none⟩=_;rw[hgg _ (by omega),Nat.add_assoc]
 ·rw[hdr,List.flatten_append,List.nodup_append];refine⟨n2,nG,fun p hp q hq=>?_⟩;rintro rfl;exact n3 p (List.mem_cons_of_mem _ hq) p hp rfl
 ·rw[hdr]at hF;rcases List.mem_append.1 hF with hF|hF
  ·exact h.sub F (by rw[hd];exact List.mem_cons_of_mem _ hF)
  ·exact fun y hy=>h.sub (b::G.flatten) (by rw[hd];exact List.mem_cons_self) y (mem F hF y hy)
 ·rw[hdr];rcases hes e he with hold|⟨m,hk⟩
  ·obtain⟨a,m,hk,ha,hF⟩:=h.keys e hold;refine⟨a,m,hk,ha,fun F hF' hb=>?_⟩;rcases List.mem_append.1 hF' with hF'|hF'
   ·exact hF F (by rw[hd];exact List.mem_cons_of_mem _ hF') hb
   ·exact hF (b::G.flatten) (by rw[hd];exact List.mem_cons_self) (mem F hF' _ hb)
  ·refine⟨⟨b,o,none⟩,m,hk,h.sub (b::G.flatten) (by rw[hd];exact List.mem_cons_self) b List.mem_cons_self,fun F hF' hb=>?_⟩;rcases List.mem_append.1 hF' with hF'|hF'
   ·exact n3 b List.mem_cons_self b (List.mem_flatten.2 ⟨F,hF',hb⟩) rfl
   ·exact nb (List.mem_flatten.2 ⟨F,hF',hb⟩)
theorem MQ.step {w:World}{D:Nat}{F0:List Nat}{wr w3:World}{i gg:Nat}{ns:List Nd}{es:Array MapEntry}{x:Nd}{b o n c:Nat}(h:MQ w D F0 wr i ns es)(hx:ns[i]?=some x)(hu:wr.cell? ⟨x.b,x.o+6,none⟩=some (.slice (some ⟨b,o,none⟩) n c))(hne:x.e.ks≠ [])(C5:∀ (j:Nat) (y:Nd),ns[j]?=some y->j≠i->w3.cell? ⟨y.b,y.o+6,none⟩=wr.cell? ⟨y.b,y.o+6,none⟩)(hgg:∀j,j<x.e.ks.length*7->w3.cell? ⟨gg,j,none⟩=w.cell? ⟨b,o+j,none⟩):MQ w D F0 w3 (i+1) (ns++news x.e.ks gg) es:=by
 rcases h with⟨he,h⟩|⟨Fs,h⟩
 ·left;exact⟨he,by have:=B4G gg hx;omega⟩
 ·right;exact h.step hx hu hne C5 hgg fun e he=> .inl he
theorem MQ.note {w:World}{D:Nat}{F0:List Nat}{wr w3:World}{i gg ck:Nat}{ns:List Nd}{es:Array MapEntry}{x:Nd}{b o n c:Nat}{m:Int}{v:Value}(h:MQ w D F0 wr i ns es)(hl:8192<=ns.length)(hx:ns[i]?=some x)(hu:wr.cell? ⟨x.b,x.o+6,none⟩=some (.slice (some ⟨b,o,none⟩) n c))(hne:x.e.ks≠ [])(C5:∀ (j:Nat) (y:Nd),ns[j]?=some y->j≠i->w3.cell? ⟨y.b,y.o+6,none⟩=wr.cell? ⟨y.b,y.o+6,none⟩)(hgg:∀j,j<x.e.ks.length*7->w3.cell? ⟨gg,j,none⟩=w.cell? ⟨b,o+j,none⟩):MQ w D F0 w3 (i+1) (ns++news x.e.ks gg) (es.push ⟨.agg #[.pointer (some ⟨b,o,none⟩),.int .i64 m],v,ck⟩):=by
 obtain⟨Fs,h⟩:=h.few hl;right;refine h.step hx hu hne C5 hgg fun e he=>?_;rw[Array.toList_push]at he;rcases List.mem_append.1 he with he|he
 ·exact .inl he
 ·rcases List.mem_singleton.1 he with rfl;exact .inr ⟨m,rfl⟩
theorem C0z {w:World}{D:Nat}{F:List Nat}{wr:World}{x:Nd}{u:Value}(h:(F.Nodup/\∀b∈F,Fr w b)\/Z2 x.e<=8191)(hu:wr.cell? ⟨x.b,x.o+6,none⟩=some u)(hk:C1 w (D+1) u x.e.ks F):MQ w D F wr 0 [x] #[]:=by
 rcases h with⟨hn,hf⟩|h
 ·right;refine⟨[F],rfl,fun j y G _ hy hG=>?_,by simpa using hn,fun G hG=>by simp at hG;subst hG;exact fun b hb=>hb,fun e he=>by simp at he,fun b hb=>⟨hf b hb,hk.lt b hb⟩⟩;cases j with
  |zero=>simp at hy hG;subst hy hG;exact⟨u,hu,hk⟩
  |succ j=>simp at hy
 ·left;exact⟨rfl,by simpa [o9]using h⟩
end
section
open Go.RowKit
theorem C3w (w:World){a b:Addr}(hne:a≠b)(ha:Fr w a.block)(hb:Fr w b.block)(d:Nat):(Op.equalIn (d+1) 206 (.pointer (some a)) (.pointer (some b))).run Tryz.prog w=.ok false w:=by
 have hp:Tryz.prog.underlying 206=some (.pointer 42):=by kernel_rfl
 obtain⟨j,hte,hsz⟩:∃j,Tryz.prog.info? 42=some j/\j.size=7:=by
  have:(Tryz.prog.info? 42).map (fun i=>i.size)=some 7:=by kernel_rfl
  obtain⟨j,h1,h2⟩:=Option.map_eq_some_iff.1 this;exact⟨j,h1,h2⟩
 have h7:j.size≠0:=by omega
 simp[Op.equalIn,run_underlying hp,sizeOf,typeInfo,hte,h7,A7y w hne ha hb]
theorem B4j (w:World){a b:Addr}{m n':Int}(hne:a≠b)(ha:Fr w a.block)(hb:Fr w b.block):(Op.equal 282 (.agg #[.pointer (some a),.int .i64 m]) (.agg #[.pointer (some b),.int .i64 n'])).run Tryz.prog w=.ok false w:=by
 have hS:Tryz.prog.underlying 282=some (.struct (Tryz.prog.fieldsOf 282)):=by kernel_rfl
 have hp:Tryz.prog.stoodInHeld 282=false:=by kernel_rfl
 have u3:=Tryz.underlying206;have a3:=Tryz.isAgg206;have u4:=Tryz.underlying3;have a4:=Tryz.isAgg3;have z4:=Tryz.sizeOf3;have z3:=Tryz.sizeOf206;have hn:=C3w w hne ha hb 9998;unfold Op.equal Op.maxDepth;rw[show(10000:Nat)=9999+1 from rfl,run_equalIn_agg w 9999 _ _ _ hS hp];simp only[Program.fieldsOf,Tryz.underlying282];go_simp
theorem A92 (w:World){p:Addr}{n:Int}:∀ (es:List MapEntry) (i:Nat),(∀e∈es,∃ (a:Addr) (m:Int),e.key=.agg #[.pointer (some a),.int .i64 m]/\p≠a/\Fr w p.block/\Fr w a.block)->
  (Instr.findAsking 282 (.agg #[.pointer (some p),.int .i64 n]) es i).run Tryz.prog w=.ok none w
 | [],i,_=>by simp[Instr.findAsking]
 |e::es,i,h=>by
  obtain⟨a,m,he,hne,hp,hF⟩:=h e List.mem_cons_self;have h1:=B4j w (a:=p) (b:=a) (m:=n) (n':=m) hne hp hF;simp[Instr.findAsking,he,h1,A92 w es (i+1) fun e' he'=>h e' (List.mem_cons_of_mem _ he')]
theorem B5C (w:World)(em:Bool)(n:Nat)(a:Addr):(Instr.checkKey em (n+1) 206 (.pointer (some a))).run Tryz.prog w=.ok () w:=by
 have hp:Tryz.prog.underlying 206=some (.pointer 42):=by kernel_rfl
 simp[Instr.checkKey,run_underlying hp]
theorem C3m (w:World)(em:Bool)(k:Nat)(n:Int):(Instr.checkKey em (k+1) 3 (.int .i64 n)).run Tryz.prog w=.ok () w:=by
 simp[Instr.checkKey,run_underlying Tryz.underlying3]
theorem B4d (w:World)(em:Bool)(k:Nat)(p:Addr)(n:Int):(Instr.checkKey em (k+2) 282 (.agg #[.pointer (some p),.int .i64 n])).run Tryz.prog w=.ok () w:=by
 have hS:=Tryz.underlying282;have a3:=Tryz.isAgg206;have u4:=Tryz.underlying3;have a4:=Tryz.isAgg3;have z4:=Tryz.sizeOf3;have z3:=Tryz.sizeOf206;have hp1:(part 206 #[.pointer (some p),.int .i64 n] 0).run Tryz.prog w=.ok (.pointer (some p)) w:=by go_simp
 have hp2:(part 3 #[.pointer (some p),.int .i64 n] 1).run Tryz.prog w=.ok (.int .i64 n) w:=by go_simp
 unfold Instr.checkKey;simp[run_underlying hS,hp1,hp2,B5C,C3m,Result.andThen]
theorem A8b (w:World)(em:Bool)(p:Addr)(n:Int):(Instr.checkKey em 10000 282 (.agg #[.pointer (some p),.int .i64 n])).run Tryz.prog w=.ok () w:=B4d w em 9998 p n
theorem A9v (w:World){p:Addr}{n:Int}(es:List MapEntry)(h:∀e∈es,∃ (a:Addr) (m:Int),e.key=.agg #[.pointer (some a),.int .i64 m]/\p≠a/\Fr w p.block/\Fr w a.block):(Instr.findKey 282 (.agg #[.pointer (some p),.int .i64 n]) es).run Tryz.prog w=.ok none w:=by
 rw[run_findKey_eq w (by kernel_rfl)];exact A92 w es 0 h
theorem C2x (w:World){B:Nat}{es:Array MapEntry}{ck:Nat}{p:Addr}{n:Int}(hb:w.heap[B]?=some (.map es ck))(h:∀e∈es.toList,∃ (a:Addr) (m:Int),e.key=.agg #[.pointer (some a),.int .i64 m]/\p≠a/\Fr w p.block/\Fr w a.block):Sem.run Tryz.prog (Instr.lookup 280 (.map (some B)) (.agg #[.pointer (some p),.int .i64 n]) true) w=.ok (.tuple #[.slice none 0 0,.bool false]) w:=by
 have hm:Tryz.prog.underlying 280=some (.map 282 40):=by kernel_rfl
 have hz:(zeroValue 40).run Tryz.prog w=.ok (.slice none 0 0) w:=by go_simp
 simp[Instr.lookup,run_underlying hm,MapKept.run_getObj_map hb,A8b,A9v w es.toList h,hz,Result.andThen]
theorem B9T (w:World){B:Nat}{es:Array MapEntry}{ck:Nat}{p:Addr}{n:Int}{v:Value}(hb:w.heap[B]?=some (.map es ck))(h:∀e∈es.toList,∃ (a:Addr) (m:Int),e.key=.agg #[.pointer (some a),.int .i64 m]/\p≠a/\Fr w p.block/\Fr w a.block):Sem.run Tryz.prog (Instr.mapUpdate 280 (.map (some B)) (.agg #[.pointer (some p),.int .i64 n]) v) w=.ok () {w with heap:=w.heap.setIfInBounds B (.map (es.push ⟨.agg #[.pointer (some p),.int .i64 n],v,ck⟩) (ck+1))}:=by
 have hm:Tryz.prog.underlying 280=some (.map 282 40):=by kernel_rfl
 simp[Instr.mapUpdate,run_underlying hm,MapKept.run_getObj_map hb,A8b,A9v w es.toList h,MapKept.run_setObj_map _ hb,Result.andThen]
end
section
open Go.RowKit Go.Deep Go.ChangeShapes Go.WideShapes
theorem B39 (d:Nat)(v:Value)(es:List E7)(w:World)(h:RE w (d+1) v es)(hn:es.length<=2097152):Calls Tryz.prog 193 #[v] w fun e w'=>(∃u,e=.returned u/\A3x w' w.heap.size v u es.length)/\Below w.heap.size w w':=by
 obtain⟨F,hr⟩:=h.kids;obtain⟨i0,hi,hz0,hz1,hz2⟩:=info_parts Tryz.infoExp;obtain⟨a,c,b,o,G,rfl,hl,hc,hG,_,ha⟩:=hr.pick;clear hr h;have A2E:∀ (w:World) (a:Option Addr) (n c n' c':Nat),(binOp .eql 40 (.slice a n c) (.slice none n' c')).run Tryz.prog w=.ok (.bool a.isNone) w:=fun w a n c n' c'=>Lib.run_eql_slice_nil w _ _ a n c n' c' Tryz.underlying40;have he:=(Q2.empty w d).own;have hb0:Below w.heap.size w (w.alloc (.cells #[] 42)):=(Below.refl _ _).alloc lr8 _;cases a with
 |none=>
  obtain rfl:es=[]:=by
   cases es with
   |nil=>rfl
   |cons x xs=>have:=(ha 0 (by simp)).1;cases this
  exact(C22 c w).mono fun e w' ⟨he,hw⟩=>⟨⟨.slice none 0 0,he,.inl ⟨rfl,none,0,rfl,Nat.zero_le _⟩⟩,hw▸Below.refl _ _⟩
 |some ad=>
  have hfl:∃us:List Value,us.length=es.length/\(∀u∈us,u.oneCell'=true)/\(∀j u,(ec us es)[j]?=some u->(w.alloc (.cells #[] 42)).cell? (ad.add j)=some u)/\(es≠ []->ad=⟨b,o,none⟩/\b<w.heap.size/\∀j u,(ec us es)[j]?=some u->w.cell? ⟨b,o+j,none⟩=some u):=by
   by_cases hne:es=[]
   ·subst hne;exact⟨[],rfl,by simp,fun j u hu=>by simp[ec]at hu,fun h=>absurd rfl h⟩
   ·obtain⟨hb,hlt,_,hL⟩:=ha 0 (List.length_pos_iff.2 hne);cases hb;obtain⟨us,h1,h2,h3,h4⟩:=C1.flat hG hL;have h5:∀j u,(ec us es)[j]?=some u->w.cell? ⟨b,o+j,none⟩=some u:=fun j u hu=>by have:=h4 j u hu;rwa [add_plain]at this
    exact⟨us,h1,h3,fun j u hu=>by rw[add_plain];exact(cb8 (bA8 _ _ _ hlt)).trans (h5 j u hu),fun _=>⟨rfl,hlt,h5⟩⟩
  obtain⟨us,hul,hone,hcl,hold⟩:=hfl;go_enter Tryz.func193,Tryz.ntmps193;go_wp2_with(at_builtin;refine wpList_append_own _ rfl _ _ 40 rfl w.heap.size 42 i0 _ 7 88 Tryz.underlying40 hi hz0 hz1 hz2 rfl (by decide) _ _ _ rfl he ad es.length c (ec us es) rfl (A6l hul) hcl (B9Z hone) ?c3 ?c4 ?c5 ?_)
  case c3=>unfold maxLen;simp;omega
  case c4=>simp;omega
  case c5=>simp
  intro v5 w5 D4 hgr5 _;have H6:w5.ownsRow w.heap.size 42 7 v5 es.length (ec us es):=by simpa [ec]using D4
  have bel:Below w.heap.size w w5:=hb0.grown hgr5 (by simp) (fun k hk=>by simp[Value.ownBlock]at hk;omega);have B5k:A3x w5 w.heap.size (.slice (some ad) es.length c) v5 es.length:=by
   have B0a:=O5 H6;rcases H6.2 with⟨rfl,h0⟩|⟨g,cap,cur,rfl,hg,hcc,hn',hm,hsz,ht⟩
   ·exact .inl ⟨h0,none,0,rfl,Nat.zero_le _⟩
   ·by_cases hne:es=[]
    ·left;subst hne;exact⟨rfl,_,cap,rfl,hm⟩
    ·right;obtain⟨rfl,hbl,C5⟩:=hold hne;refine⟨b,o,c,g,cap,rfl,rfl,hg,(B0a g rfl).2,hn',hm,fun q=>by simp[World.frozen?,hcc],fun j hj=>?_⟩;have hj':j<(ec us es).length:=by rw[A6l hul];exact hj
     obtain⟨x,h1⟩:∃x,(ec us es)[j]?=some x:=⟨(ec us es)[j],by simp[hj']⟩;rw[(cb8 (bel.block b hbl)).trans (C5 j _ h1)];simp only[World.cell?,hcc];rw[<-ht,List.getElem?_take,if_pos hj,Array.getElem?_toList]at h1
     simpa using h1
  clear D4 hgr5 hcl he H6 hold ha;go_wp2;refine bodyPost_ret (v:=v5) (by simp[results,Tryz.results193,go_sem]) rfl ⟨⟨v5,rfl,B5k⟩,bel⟩
end
section
open Go.RowKit
theorem C1.cellsF {w:World}:∀ {d:Nat} {v:Value} {es:List E7} {F:List Nat},C1 w d v es F->∀b∈F,∃c t l,w.heap[b]?=some (.cells c t l)
 |0,_,_,_,h=>h.elim
 |d+1,v,es,F,h=>by
  obtain⟨a,c,G,rfl,_,_,hG,h0,h⟩:=h;by_cases hne:es=[]
  ·rw[h0 hne];intro b hb;cases hb
  obtain⟨b,o,rfl,hlt,rfl,hL⟩:=h hne;intro x hx;have hp:0<es.length:=List.length_pos_iff.2 hne;have hpG:0<G.length:=by omega
  rcases List.mem_cons.1 hx with rfl|hx
  ·obtain⟨_,⟨hc,_⟩,_⟩:=hL 0 es[0] G[0] (by simp) (by simp);exact A9G hc
  obtain⟨g,hg,hxg⟩:=List.mem_flatten.1 hx;obtain⟨i,hi,rfl⟩:=List.mem_iff_getElem.1 hg;have hi':i<es.length:=by omega
  obtain⟨_,_,u,_,hk⟩:=hL i es[i] G[i] (by simp) (by simp);exact hk.cellsF x hxg
theorem C1.frF {w:World}{d N:Nat}{v:Value}{es:List E7}{F:List Nat}(h:C1 w d v es F)(ho:Own w N F):∀b∈F,Fr w b:=fun b hb=>⟨h.cellsF b hb,(ho.2 b hb).2⟩
theorem Own.dst {w:World}{N d:Nat}{v:Value}{es:List E7}{F:List Nat}(ho:Own w N F)(h:C1 w d v es F):F.Nodup/\∀b∈F,Fr w b:=⟨ho.1,h.frF ho⟩
end
section
open Go.RowKit Go.Deep Go.ChangeShapes Go.WideShapes Go.Joins
theorem B1q:Tryz.prog.cellsOf 27=7:=by kernel_rfl
theorem A9B:Tryz.prog.cellsOf 24=3:=by kernel_rfl
theorem A2Q:Tryz.prog.cellsOf 3=1:=by kernel_rfl
theorem A3M:Tryz.prog.cellsOf 9=1:=by kernel_rfl
theorem A5o:Tryz.prog.cellsOf 25=1:=by kernel_rfl
section
variable {H:Type} {enc:TypeId×Value->H} {w:World} {spare:Nat->Bool} {held:Bool}
theorem A8z {fuel:Nat}{v:Value}{x:DataW H×List MemPlace}(h:DataW.trod enc Tryz.prog w 0 spare held fuel 25 [v]=some x):∃es F,C1 w (fuel+1) v es F:=
 C03 (P:=Tryz.prog) Tryz.underlying25 Tryz.underlying27 B1q rfl rfl rfl rfl rfl A2Q A2Q A9B A3M A5o Tryz.underlying3 Tryz.underlying3 Tryz.underlying24 Tryz.underlying9 rfl rfl rfl rfl A2Q A2Q A3M Tryz.underlying3 Tryz.underlying3 Tryz.underlying9 fuel fuel lr8 h
end
end
section
open Go.RowKit Go.Deep Go.ChangeShapes Go.WideShapes Go.Joins
theorem B2D:Tryz.prog.cellsOf 30=12:=by kernel_rfl
theorem C0I:Tryz.prog.cellsOf 28=1:=by kernel_rfl
section
variable {H:Type} {enc:TypeId×Value->H} {w:World} {spare:Nat->Bool} {held:Bool}
theorem C2J {fuel:Nat}{z0 z1 z2 z3 z4 z5 z6:Value}{x:DataW H×List MemPlace}(h:DataW.trod enc Tryz.prog w 0 spare held fuel 27 [z0,z1,z2,z3,z4,z5,z6]=some x):∃ (e:E7) (F:List Nat) (n:Nat),n<=fuel/\z0=.int .i64 e.k/\z1=.int .i64 e.n/\z2=.int .i64 e.v.k/\z3=.int .i64 e.v.n/\z4=.string e.v.s/\z5=.string e.p/\e.wf/\C1 w n z6 e.ks F:=by
 obtain⟨xs,k,hk,_,_,hxl,T9⟩:=DataW.trod_struct Tryz.underlying27 h
 match xs,hxl with
 | [y0,y1,y2,y3,y4],_=>
  have a0:=T9 0 _ rfl;have a1:=T9 1 _ rfl;have a2:=T9 2 _ rfl;have a3:=T9 3 _ rfl;have a4:=T9 4 _ rfl;simp[A2Q,A9B,A3M,A5o]at a0 a1 a2 a3 a4;obtain⟨n0,q0,_,w0⟩:=DataW.trod_int Tryz.underlying3 a0;obtain⟨n1,q1,_,w1⟩:=DataW.trod_int Tryz.underlying3 a1;obtain⟨n3,q3,_,w3⟩:=DataW.trod_string Tryz.underlying9 a3;obtain⟨ys,k2,hk2,_,_,hyl,A1A⟩:=DataW.trod_struct Tryz.underlying24 a2
  match ys,hyl with
  | [b0,b1,b2],_=>
   have r0:=A1A 0 _ rfl;have r1:=A1A 1 _ rfl;have r2:=A1A 2 _ rfl;simp[A2Q,A3M]at r0 r1 r2;obtain⟨m0,s0,_,x0⟩:=DataW.trod_int Tryz.underlying3 r0;obtain⟨m1,s1,_,x1⟩:=DataW.trod_int Tryz.underlying3 r1;obtain⟨m2,s2,_,x2⟩:=DataW.trod_string Tryz.underlying9 r2;simp at q0 q1 q3 s0 s1 s2;subst q0 q1 q3 s0 s1 s2;obtain⟨ks,F,hK⟩:=A8z a4;exact⟨.mk n0 n1 ⟨m0,m1,m2⟩ n3 ks,F,k+1,by omega,rfl,rfl,rfl,rfl,rfl,rfl,⟨w0,w1,⟨x0,x1,x2⟩,w3⟩,hK⟩
theorem A9g {fuel N:Nat}(hN:fuel<=N+1)(ih:∀ (f:Nat),f<=N->∀ {v:Value} {x:DataW H×List MemPlace},DataW.trod enc Tryz.prog w 0 spare held f 28 [v]=some x->∃ps F,E2 w (N+2) (N+1) v ps F){z0 z1 z2 z3 z4 z5 z6 z7 z8 z9 z10 z11:Value} {x:DataW H×List MemPlace} (h:DataW.trod enc Tryz.prog w 0 spare held fuel 30 [z0,z1,z2,z3,z4,z5,z6,z7,z8,z9,z10,z11]=some x):∃ (p:P12) (g:List Nat),z0=.int .i64 p.k/\z1=.string p.s/\z2=.int .i64 p.e.k/\z3=.int .i64 p.e.n/\z4=.int .i64 p.e.v.k/\z5=.int .i64 p.e.v.n/\z6=.string p.e.v.s/\z7=.string p.e.p/\z10=.int .i64 p.n/\p.wf/\H3 w (N+2) (E2 w (N+2) (N+1)) p z8 z9 z11 g:=by
 obtain⟨xs,k,hk,_,_,hxl,T9⟩:=DataW.trod_struct Tryz.underlying30 h
 match xs,hxl with
 | [y0,y1,y2,y3,y4,y5],_=>
  have a0:=T9 0 _ rfl;have a1:=T9 1 _ rfl;have a2:=T9 2 _ rfl;have a3:=T9 3 _ rfl;have a4:=T9 4 _ rfl;have a5:=T9 5 _ rfl;simp[A2Q,A3M,B1q,A5o,C0I]at a0 a1 a2 a3 a4 a5;obtain⟨n0,q0,_,w0⟩:=DataW.trod_int Tryz.underlying3 a0;obtain⟨n1,q1,_,w1⟩:=DataW.trod_string Tryz.underlying9 a1;obtain⟨n4,q4,_,w4⟩:=DataW.trod_int Tryz.underlying3 a4;simp at q0 q1 q4;obtain⟨e,Fe,m,hm,e0,e1,e2,e3,e4,e5,ew,ke⟩:=C2J a2;obtain⟨es,Fs,ks⟩:=A8z a3;obtain⟨ps,F,kp⟩:=ih k (by omega) a5;exact⟨.mk n0 n1 e es n4 ps,Fe++(Fs++F),q0,q1,e0,e1,e2,e3,e4,e5,q4,⟨w0,w1,ew,w4⟩,Fe,Fs,F,rfl,ke.up (by omega),ks.up (by omega),kp⟩
theorem B4n:∀ (N fuel:Nat),fuel<=N->∀ {v:Value} {x:DataW H×List MemPlace},DataW.trod enc Tryz.prog w 0 spare held fuel 28 [v]=some x->∃ps F,E2 w (N+2) (N+1) v ps F:=by
 intro N;induction N with
 |zero=>
  intro fuel hf v x h;obtain rfl:fuel=0:=by omega
  simp[DataW.trod]at h
 |succ N ih=>
  intro fuel hf v x h;rcases DataW.trod_slice Tryz.underlying28 h with⟨h0,_⟩|⟨a,len,cap,elems,rest,n,hfn,hcs,rfl,hb,hl,hm,D3,hel,hsp,hns⟩
  ·simp at h0;subst h0;exact⟨[],[],none,0,[],rfl,by simp,by simp,rfl,fun _=>rfl,fun h=>absurd rfl h⟩
  simp at hcs;subst hcs;have i2:∀i,i<len->∃q:P12×List Nat×Value×Value×Value,q.1.wf/\(w.cell? (a.add (i*12))=some (.int .i64 q.1.k)/\w.cell? (a.add (i*12+1))=some (.string q.1.s)/\w.cell? (a.add (i*12+2))=some (.int .i64 q.1.e.k)/\w.cell? (a.add (i*12+3))=some (.int .i64 q.1.e.n)/\w.cell? (a.add (i*12+4))=some (.int .i64 q.1.e.v.k)/\w.cell? (a.add (i*12+5))=some (.int .i64 q.1.e.v.n)/\w.cell? (a.add (i*12+6))=some (.string q.1.e.v.s)/\w.cell? (a.add (i*12+7))=some (.string q.1.e.p)/\w.cell? (a.add (i*12+8))=some q.2.2.1/\w.cell? (a.add (i*12+9))=some q.2.2.2.1/\w.cell? (a.add (i*12+10))=some (.int .i64 q.1.n)/\w.cell? (a.add (i*12+11))=some q.2.2.2.2)/\H3 w (N+2) (E2 w (N+2) (N+1)) q.1 q.2.2.1 q.2.2.2.1 q.2.2.2.2 q.2.1:=by
   intro i hi;have hi1:=hel i hi;have hie:elems[i]?=some elems[i]:=by simp[D3,hi]
   rw[hie,Option.bind_eq_some_iff]at hi1;obtain⟨cs',h1,h2⟩:=hi1;rw[B2D]at h1;obtain⟨_,hlen12,C5⟩:=World.cells?_some h1
   match cs',hlen12 with
   | [z0,z1,z2,z3,z4,z5,z6,z7,z8,z9,z10,z11],_=>
    obtain⟨p,g,r0,r1,r2,r3,r4,r5,r6,r7,r10,hw,hL⟩:=A9g (N:=N) (by omega) ih h2;have e0:=C5 0 (by omega);have e1:=C5 1 (by omega);have e2:=C5 2 (by omega);have e3:=C5 3 (by omega);have e4:=C5 4 (by omega);have e5:=C5 5 (by omega);have e6:=C5 6 (by omega);have e7:=C5 7 (by omega);have e8:=C5 8 (by omega);have e9:=C5 9 (by omega);have e10:=C5 10 (by omega);have e11:=C5 11 (by omega);rw[add_add]at e0 e1 e2 e3 e4 e5 e6 e7 e8 e9 e10 e11;subst r0 r1 r2 r3 r4 r5 r6 r7 r10;exact⟨⟨p,g,z8,z9,z11⟩,hw,⟨by simpa using e0,by simpa using e1,by simpa using e2,by simpa using e3,by simpa using e4,by simpa using e5,by simpa using e6,by simpa using e7,by simpa using e8,by simpa using e9,by simpa using e10,by simpa using e11⟩,hL⟩
  have:Inhabited (P12×List Nat×Value×Value×Value):=⟨⟨.nil,[],.nilFunc,.nilFunc,.nilFunc⟩⟩;obtain⟨q,hq⟩:=choose_lt i2;refine⟨(List.range len).map fun i=>(q i).1,if len=0 then[]else a.block::((List.range len).map fun i=>(q i).2.1).flatten,some a,cap,(List.range len).map fun i=>(q i).2.1,by simp,by simpa using hl,hm,by simp,fun hne=>?_,fun hne=>?_⟩
  ·have:len=0:=by simpa using congrArg List.length hne
   simp[this]
  ·have P3:0<len:=by
    rcases Nat.eq_zero_or_pos len with h0|h0
    ·subst h0;simp at hne
    ·exact h0
   have hs:a.spot=none:=by have:=World.cell?_spot (hq 0 P3).2.1.1;simpa [Addr.add]using this
   obtain⟨b,o,sp⟩:=a;simp at hs;subst hs;refine⟨b,o,rfl,?_,by simp;omega,fun i x g hx hg=>?_⟩
   ·have:=bl8 _ _ (hq 0 P3).2.1.1
    simpa [Addr.add]using this
   ·have hi:i<len:=by
     obtain⟨h1,_⟩:=gE1 hx
     simpa using h1
    have ex:x=(q i).1:=by simp[hi]at hx;exact hx.symm
    have eg:g=(q i).2.1:=by simp[hi]at hg;exact hg.symm
    subst ex eg;obtain⟨hw,⟨h0,h1,h2,h3,h4,h5,h6,h7,h8,h9,h10,h11⟩,Fe,Fs,k,hgg,ke,kes,kp⟩:=hq i hi;rw[add_plain]at h0 h1 h2 h3 h4 h5 h6 h7 h8 h9 h10 h11;exact⟨hw,_,_,_,⟨h0,by simpa [Nat.add_assoc]using h1,by simpa [Nat.add_assoc]using h2,by simpa [Nat.add_assoc]using h3,by simpa [Nat.add_assoc]using h4,by simpa [Nat.add_assoc]using h5,by simpa [Nat.add_assoc]using h6,by simpa [Nat.add_assoc]using h7,by simpa [Nat.add_assoc]using h8,by simpa [Nat.add_assoc]using h9,by simpa [Nat.add_assoc]using h10,by simpa [Nat.add_assoc]using h11⟩,Fe,Fs,k,hgg,ke.up (by omega),kes.up (by omega),kp.up (by omega) lr8⟩
theorem C2u {r:Reach}{b0:Nat}{v:Value}{d:DataW H}{ps:List MemPlace}(hv:Value.okWide Tryz.prog w r b0 30 v)(h:DataW.Trod enc Tryz.prog w 0 spare held 30 v d ps):∃ (p:P12) (ue us u:Value) (F:List Nat) (D n:Nat),v=(.agg #[.int .i64 p.k,.string p.s,.int .i64 p.e.k,.int .i64 p.e.n,.int .i64 p.e.v.k,.int .i64 p.e.v.n,.string p.e.v.s,.string p.e.p,ue,us,.int .i64 p.n,u])/\p.wf/\H3 w D (E2 w D n) p ue us u F:=by
 obtain⟨⟨cs⟩,rfl,hsz⟩:=okWide_struct Tryz.underlying30 hv;obtain⟨fuel,hf⟩:=h;have C0N:cs.length=12:=by have:=hsz.trans B2D;simpa using this
 match cs,C0N with
 | [z0,z1,z2,z3,z4,z5,z6,z7,z8,z9,z10,z11],_=>
  obtain⟨p,g,r0,r1,r2,r3,r4,r5,r6,r7,r10,hw,hL⟩:=A9g (N:=fuel) (fuel:=fuel) (by omega) (fun f hf'=>B4n fuel f hf') (by simpa [Value.cells]using hf);subst r0 r1 r2 r3 r4 r5 r6 r7 r10;exact⟨p,z8,z9,z11,g,_,_,rfl,hw,hL⟩
end
end
end Go.Proofs.YteekfcdllaceoaaGreatDoor
