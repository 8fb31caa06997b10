/- Own texts, joined: contracts that the law's proof goes by. -/
import Derived.Test.YteekfcdllaceoaaGreatDoorRgtI
import Derived.Test.YteekfcdllaceoaaGreatDoorPartI
import Derived.Test.YteekfcdllaceoaaGreatDoorGLAnswer1
import Derived.Test.YteekfcdllaceoaaGreatDoorGLAnswer15
import Derived.LaidEql
import Derived.Stop.Asserts
import Derived.RowKitTokens
import Derived.Handy
import Derived.Below
import Derived.WalkKit
set_option maxHeartbeats 16000000
set_option maxRecDepth 100000
set_option linter.unusedVariables false
set_option linter.unusedSimpArgs false
namespace Go.Proofs.YteekfcdllaceoaaGreatDoor
section
open Go.RowKit
theorem i6.parts {W0:World}{rs:List R3}{D:Nat->Prop}{w:World}{f:Nat}{v:Value}{p:P12}(h:i6 W0 rs f D w v p):∃us vals,A2d W0 rs p (wP8 rs f p) us v/\A3F D w us vals/\vals.length=p.ks.length/\Wid v (wP8 rs f p) us/\∃a l c,us=.slice a l c:=by
 cases f with
 |zero=>exact h.elim
 |succ f=>
  obtain⟨us,vals,h1,h2,h3,h4⟩:=h;obtain⟨a,c,e,_⟩:=id h2;exact⟨us,vals,h1,h2,h3,h1.wid,a,_,c,e⟩
theorem B7R {W0 w:World}{rs:List R3}{p:P12}{ue us uk vd:Value}{g Fd:List Nat}{Dd d N f:Nat}{D:Nat->Prop}(hb0:Below W0.heap.size W0 w)(hdb:G9 rs=true)(hR:H8 W0 vd rs Fd)(hw:p.wf)(hn:wtP p<=1048576)(hL:H3 W0 Dd (E2 W0 Dd d) p ue us uk g)(ho:Own W0 N g)(hp:I8 p=true)(gb c:Nat)(vals:List Value)(hvl:vals.length=p.ks.length)(Q9:vals.length<=c/\c<=maxLen)(C5:∀k x,vals[k]?=some x->w.cell? ⟨gb,k,none⟩=some x)(hK:∀ (k:Nat) (q:P12) (x:Value),p.ks[k]?=some q->vals[k]?=some x->i6 W0 rs f D w x q)(hkw:∀q∈p.ks,0<=wP8 rs f q):Calls Tryz.prog 83 #[vd,(.agg #[.int .i64 p.k,.string p.s,.int .i64 p.e.k,.int .i64 p.e.n,.int .i64 p.e.v.k,.int .i64 p.e.v.n,.string p.e.v.s,.string p.e.p,ue,us,.int .i64 p.n,uk]),.slice (some ⟨gb,0,none⟩) vals.length c] w fun x w'=>A1I W0 rs p (wP8 rs f (p.ks.getD 0 .nil)) (wP8 rs f (p.ks.getD 1 .nil)) (.slice (some ⟨gb,0,none⟩) vals.length c) vals.length x/\Below w.heap.size w w':=by
 have hsh:∃a c,uk=.slice a p.ks.length c:=by obtain⟨_,_,_,_,a,c,_,_,h,_⟩:=hL.shape;exact⟨a,c,h⟩
 obtain⟨Fe,Fs,h,rfl,ke,kes,kp⟩:=hL;have hnd:=List.nodup_append.1 ho.1;have ae:Own W0 N Fe:=⟨hnd.1,fun b hb=>ho.2 b (List.mem_append_left _ hb)⟩;have aq:Own W0 N Fs:=⟨(List.nodup_append.1 hnd.2.1).1,fun b hb=>ho.2 b (List.mem_append_right _ (List.mem_append_left _ hb))⟩;have hks:=A60 hp;clear hnd ho kp;rcases A7P hp with hk|hk|hk|hk|hk|hk|hk
 ·rw[hk]at hks;have hq:=B0S hks;obtain rfl:vals=[]:=List.length_eq_zero_iff.1 (by rw[hvl,hq];rfl);exact B9c hb0 hdb hR hw hn ke kes ae aq hsh hp hk _ _ _ c Q9
 ·rw[hk]at hks;obtain⟨q,hq⟩:=j8 hks;obtain⟨x0,rfl⟩:=List.length_eq_one_iff.1 (show vals.length=1 by rw[hvl,hq];rfl);rw[hq]at hK hkw;obtain⟨t0,_,_,_,_,w0,s0⟩:=(hK 0 q x0 rfl rfl).parts;have e0:p.ks.getD 0 .nil=q:=V7 hq;rw[e0];exact B9z hb0 hdb hR hw hn ke kes ae aq hsh hp hk _ _ none c Q9 gb x0 t0 w0 ⟨hkw q (by simp),wL8 _ _ _⟩ s0 (C5 0 x0 rfl)
 ·rw[hk]at hks;obtain⟨q,hq⟩:=j8 hks;obtain⟨x0,rfl⟩:=List.length_eq_one_iff.1 (show vals.length=1 by rw[hvl,hq];rfl);rw[hq]at hK hkw;obtain⟨t0,_,_,_,_,w0,s0⟩:=(hK 0 q x0 rfl rfl).parts;have e0:p.ks.getD 0 .nil=q:=V7 hq;rw[e0];exact C0E hb0 hdb hR hw hn ke kes ae aq hsh hp hk _ _ none c Q9 gb x0 t0 w0 ⟨hkw q (by simp),wL8 _ _ _⟩ s0 (C5 0 x0 rfl)
 ·rw[hk]at hks;obtain⟨q,r,hq⟩:=A1b hks;obtain⟨x0,x1,rfl⟩:∃x0 x1,vals=[x0,x1]:=by
   match vals,(show vals.length=2 by rw[hvl,hq];rfl)with
   | [x0,x1],_=>exact⟨x0,x1,rfl⟩
  rw[hq]at hK hkw;obtain⟨t0,_,_,_,_,w0,s0⟩:=(hK 0 q x0 rfl rfl).parts;obtain⟨t1,_,_,_,_,w1,s1⟩:=(hK 1 r x1 rfl rfl).parts;obtain⟨e0,e1⟩:=Y0 hq;rw[e0,e1];exact B9V hb0 hdb hR hw hn ke kes ae aq hsh hp hk _ _ none c Q9 gb x0 t0 w0 ⟨hkw q (by simp),wL8 _ _ _⟩ s0 (C5 0 x0 rfl) x1 t1 w1 ⟨hkw r (by simp),wL8 _ _ _⟩ s1 (C5 1 x1 rfl)
 ·rw[hk]at hks;obtain⟨q,r,hq⟩:=A1b hks;obtain⟨x0,x1,rfl⟩:∃x0 x1,vals=[x0,x1]:=by
   match vals,(show vals.length=2 by rw[hvl,hq];rfl)with
   | [x0,x1],_=>exact⟨x0,x1,rfl⟩
  rw[hq]at hK hkw;obtain⟨t0,_,_,_,_,w0,s0⟩:=(hK 0 q x0 rfl rfl).parts;obtain⟨t1,_,_,_,_,w1,s1⟩:=(hK 1 r x1 rfl rfl).parts;obtain⟨e0,e1⟩:=Y0 hq;rw[e0,e1];exact C1T hb0 hdb hR hw hn ke kes ae aq hsh hp hk _ _ none c Q9 gb x0 t0 w0 ⟨hkw q (by simp),wL8 _ _ _⟩ s0 (C5 0 x0 rfl) x1 t1 w1 ⟨hkw r (by simp),wL8 _ _ _⟩ s1 (C5 1 x1 rfl)
 ·rw[hk]at hks;obtain⟨q,hq⟩:=j8 hks;obtain⟨x0,rfl⟩:=List.length_eq_one_iff.1 (show vals.length=1 by rw[hvl,hq];rfl);rw[hq]at hK hkw;obtain⟨t0,_,_,_,_,w0,s0⟩:=(hK 0 q x0 rfl rfl).parts;have e0:p.ks.getD 0 .nil=q:=V7 hq;rw[e0];exact B32 hb0 hdb hR hw hn ke kes ae aq hsh hp hk _ _ none c Q9 gb x0 t0 w0 ⟨hkw q (by simp),wL8 _ _ _⟩ s0 (C5 0 x0 rfl)
 ·rw[hk]at hks;obtain⟨q,hq⟩:=j8 hks;obtain⟨x0,rfl⟩:=List.length_eq_one_iff.1 (show vals.length=1 by rw[hvl,hq];rfl);rw[hq]at hK hkw;obtain⟨t0,_,_,_,_,w0,s0⟩:=(hK 0 q x0 rfl rfl).parts;have e0:p.ks.getD 0 .nil=q:=V7 hq;rw[e0];exact C1C hb0 hdb hR hw hn ke kes ae aq hsh hp hk _ _ none c Q9 gb x0 t0 w0 ⟨hkw q (by simp),wL8 _ _ _⟩ s0 (C5 0 x0 rfl)
theorem C4H {p:P12}(hk:p.k=0):I8 p=(p.n==0 && (S8 p.e && (p.es.length==0 &&p.ks.length==0))):=by
 have h0:((p.ks.length:Nat):Int)=O7 0↔p.ks.length=0:=by simp[O7];try omega
 rw[Bool.eq_iff_iff];simp only[I8,X1,Bool.and_eq_true,Bool.or_eq_true,beq_iff_eq,bne_iff_ne,decide_eq_true_eq,hk,h0];clear h0 hk;constructor
 ·rintro⟨⟨h1,h2,h3,h4,h5⟩,h6,h7⟩;simp_all
 ·intro h1;simp_all
theorem C0T {p:P12}(hk:p.k=1):I8 p=(p.s.toList==[] && (p.n==0 && (p.es.length==0 &&p.ks.length==1))):=by
 have h0:((p.ks.length:Nat):Int)=O7 1↔p.ks.length=1:=by simp[O7];try omega
 rw[Bool.eq_iff_iff];simp only[I8,X1,Bool.and_eq_true,Bool.or_eq_true,beq_iff_eq,bne_iff_ne,decide_eq_true_eq,hk,h0];clear h0 hk;constructor
 ·rintro⟨⟨h1,h2,h3,h4,h5⟩,h6,h7⟩;simp_all
 ·intro h1;simp_all
theorem B6a {p:P12}(hk:p.k=2):I8 p=(p.s.toList==[] && (p.n==0 && (S8 p.e && (decide (1<=p.es.length) && (decide (p.es.length<=12) &&p.ks.length==1))))):=by
 have h0:((p.ks.length:Nat):Int)=O7 2↔p.ks.length=1:=by simp[O7];try omega
 rw[Bool.eq_iff_iff];simp only[I8,X1,Bool.and_eq_true,Bool.or_eq_true,beq_iff_eq,bne_iff_ne,decide_eq_true_eq,hk,h0];clear h0 hk;constructor
 ·rintro⟨⟨h1,h2,h3,h4,h5⟩,h6,h7⟩;simp_all
 ·intro h1;simp_all
theorem B9I {p:P12}(hk:p.k=3):I8 p=(p.s.toList==[] && (p.n==0 && (p.es.length==0 &&p.ks.length==2))):=by
 have h0:((p.ks.length:Nat):Int)=O7 3↔p.ks.length=2:=by simp[O7];try omega
 rw[Bool.eq_iff_iff];simp only[I8,X1,Bool.and_eq_true,Bool.or_eq_true,beq_iff_eq,bne_iff_ne,decide_eq_true_eq,hk,h0];clear h0 hk;constructor
 ·rintro⟨⟨h1,h2,h3,h4,h5⟩,h6,h7⟩;simp_all
 ·intro h1;simp_all
theorem C3R {p:P12}(hk:p.k=4):I8 p=(p.s.toList==[] && (p.n==0 && (S8 p.e && (p.es.length==0 &&p.ks.length==2)))):=by
 have h0:((p.ks.length:Nat):Int)=O7 4↔p.ks.length=2:=by simp[O7];try omega
 rw[Bool.eq_iff_iff];simp only[I8,X1,Bool.and_eq_true,Bool.or_eq_true,beq_iff_eq,bne_iff_ne,decide_eq_true_eq,hk,h0];clear h0 hk;constructor
 ·rintro⟨⟨h1,h2,h3,h4,h5⟩,h6,h7⟩;simp_all
 ·intro h1;simp_all
theorem B2i {p:P12}(hk:p.k=5):I8 p=(p.s.toList==[] && (p.n==0 && (S8 p.e && (p.es.length==0 &&p.ks.length==1)))):=by
 have h0:((p.ks.length:Nat):Int)=O7 5↔p.ks.length=1:=by simp[O7];try omega
 rw[Bool.eq_iff_iff];simp only[I8,X1,Bool.and_eq_true,Bool.or_eq_true,beq_iff_eq,bne_iff_ne,decide_eq_true_eq,hk,h0];clear h0 hk;constructor
 ·rintro⟨⟨h1,h2,h3,h4,h5⟩,h6,h7⟩;simp_all
 ·intro h1;simp_all
theorem B6m {p:P12}(hk:p.k=6):I8 p=(p.s.toList==[] && (S8 p.e && (decide (p.es.length<=1) &&p.ks.length==1))):=by
 have h0:((p.ks.length:Nat):Int)=O7 6↔p.ks.length=1:=by simp[O7];try omega
 rw[Bool.eq_iff_iff];simp only[I8,X1,Bool.and_eq_true,Bool.or_eq_true,beq_iff_eq,bne_iff_ne,decide_eq_true_eq,hk,h0];clear h0 hk;constructor
 ·rintro⟨⟨h1,h2,h3,h4,h5⟩,h6,h7⟩;simp_all
 ·intro h1;simp_all
theorem B75 {p:P12}(h0:¬p.k=0)(h1:¬p.k=1)(h2:¬p.k=2)(h3:¬p.k=3)(h4:¬p.k=4)(h5:¬p.k=5)(h6:¬p.k=6):I8 p=false:=by
 cases e:I8 p with
 |false=>rfl
 |true=>
  rcases A7P e with h|h|h|h|h|h|h
  ·exact absurd h h0
  ·exact absurd h h1
  ·exact absurd h h2
  ·exact absurd h h3
  ·exact absurd h h4
  ·exact absurd h h5
  ·exact absurd h h6
theorem B7S (p:P12)(a1 a2 a3:Option Addr)(c1 c2 c3 D N:Nat)(Fe:List Nat)(w:World)(ke:C1 w D (.slice a1 p.e.ks.length c1) p.e.ks Fe)(ae:Own w N Fe)(hn:wtE p.e<=1048576)(hes:p.es.length<=maxLen)(hks:p.ks.length<=maxLen):Calls Tryz.prog 82 #[(.agg #[.int .i64 p.k,.string p.s,.int .i64 p.e.k,.int .i64 p.e.n,.int .i64 p.e.v.k,.int .i64 p.e.v.n,.string p.e.v.s,.string p.e.p,(.slice a1 p.e.ks.length c1),(.slice a2 p.es.length c2),.int .i64 p.n,(.slice a3 p.ks.length c3)])] w fun x w'=>x=.returned (.bool (I8 p))/\Below w.heap.size w w':=by
 obtain⟨D,rfl⟩:=ke.succ;have hS:∀w2,Below w.heap.size w w2->Calls Tryz.prog 103 #[(.agg #[.int .i64 p.e.k,.int .i64 p.e.n,.int .i64 p.e.v.k,.int .i64 p.e.v.n,.string p.e.v.s,.string p.e.p,(.slice a1 p.e.ks.length c1)]),.agg #[.int .i64 0,.int .i64 0,.int .i64 0,.int .i64 0,.string ⟨#[]⟩,.string ⟨#[]⟩,.slice none 0 0]] w2 fun x w'=>x=.returned (.bool (S8 p.e))/\Below w2.heap.size w2 w':=fun w2 hb=>by
  have h:=B4b (d:=D+1) p.e (E7.mk 0 0 ⟨0,0,⟨#[]⟩⟩ ⟨#[]⟩ []) _ (.slice none 0 0) Fe [] w2 (ke.below hb) (B5T none 0 (Nat.zero_le _)) (ae.below ke.lt hb) hn;rw[C1x]at h;exact h
 clear ke ae hn;by_cases h0:p.k=0
 ·rw[C4H h0,h0];exact B8t 0 p.s p.e p.n a1 a2 a3 p.e.ks.length c1 p.es.length c2 p.ks.length c3 w (S8 p.e) hes hks hS
 by_cases h1:p.k=1
 ·rw[C0T h1,h1];exact B94 0 p.s p.e p.n a1 a2 a3 p.e.ks.length c1 p.es.length c2 p.ks.length c3 w (S8 p.e) hes hks hS
 by_cases h2:p.k=2
 ·rw[B6a h2,h2];exact C4J 0 p.s p.e p.n a1 a2 a3 p.e.ks.length c1 p.es.length c2 p.ks.length c3 w (S8 p.e) hes hks hS
 by_cases h3:p.k=3
 ·rw[B9I h3,h3];exact C05 0 p.s p.e p.n a1 a2 a3 p.e.ks.length c1 p.es.length c2 p.ks.length c3 w (S8 p.e) hes hks hS
 by_cases h4:p.k=4
 ·rw[C3R h4,h4];exact B2Q 0 p.s p.e p.n a1 a2 a3 p.e.ks.length c1 p.es.length c2 p.ks.length c3 w (S8 p.e) hes hks hS
 by_cases h5:p.k=5
 ·rw[B2i h5,h5];exact B3X 0 p.s p.e p.n a1 a2 a3 p.e.ks.length c1 p.es.length c2 p.ks.length c3 w (S8 p.e) hes hks hS
 by_cases h6:p.k=6
 ·rw[B6m h6,h6];exact B8w 0 p.s p.e p.n a1 a2 a3 p.e.ks.length c1 p.es.length c2 p.ks.length c3 w (S8 p.e) hes hks hS
 rw[B75 h0 h1 h2 h3 h4 h5 h6];exact B7E p.k p.s p.e p.n a1 a2 a3 p.e.ks.length c1 p.es.length c2 p.ks.length c3 w (S8 p.e) hes hks h0 h1 h2 h3 h4 h5 h6 hS
end
section
open Go.RowKit Go.Deep
theorem Tryz.infoRp:(Tryz.prog.info? 106).map (fun i=>(i.zero,i.size,i.bytes))=some (some .nilIface,1,16):=by kernel_rfl
def RdS (W0:World)(rs:List R3)(vd:Value)(f:Nat):Prop:=∀ (p:P12) (ue us u:Value) (g:List Nat) (Dd d N:Nat) (dp:Int) (w:World),Below W0.heap.size W0 w->p.wf->H3 W0 Dd (E2 W0 Dd d) p ue us u g->Own W0 N g->wtP p<=1048576->dp+f=9->0<=dp->
  Calls Tryz.prog 60 #[vd,(.agg #[.int .i64 p.k,.string p.s,.int .i64 p.e.k,.int .i64 p.e.n,.int .i64 p.e.v.k,.int .i64 p.e.v.n,.string p.e.v.s,.string p.e.p,ue,us,.int .i64 p.n,u]),.int .i64 dp] w fun x w'=>((0<=wP8 rs f p/\∃v,x=.returned (.tuple #[v,.nilIface])/\i6 W0 rs f (fun b=>w.heap.size<=b/\b<w'.heap.size) w' v p)\/(wP8 rs f p<0/\x=.returned (.tuple #[.nilIface,.iface 104 (.agg #[.int .i64 1])])))/\Below w.heap.size w w'
theorem B51 (W0:World)(rs:List R3)(vd:Value)(hvd:∃a l c,vd=.slice a l c):RdS W0 rs vd 0:=by
 intro p ue us u g Dd d N dp w hb0 hw hL ho hn hd hd0;obtain⟨a1,c1,a2,c2,a3,c3,rfl,rfl,rfl,_⟩:=hL.shape;obtain⟨ad,ld,cd,rfl⟩:=hvd;obtain rfl:dp=9:=by omega
 have hW:wP8 rs 0 p<0:=by rw[wP8];omega
 clear hL ho hn hw hd;go_enter Tryz.func60,Tryz.ntmps60;go_wp2;go_returns;exact⟨.inr ⟨hW,rfl⟩,bex⟩
theorem B5i {w:World}{N b:Nat}{G:List (List Nat)}{k:Nat}{g:List Nat}(h:Own w N (b::G.flatten))(hg:G[k]?=some g):Own w N g:=by
 have hm:∀x∈g,x∈G.flatten:=fun x hx=>List.mem_flatten.2 ⟨g,mg8 hg,hx⟩;refine⟨?_,fun x hx=>h.2 x (List.mem_cons_of_mem _ (hm x hx))⟩;obtain⟨hk,rfl⟩:=gE1 hg;have e:G=G.take k++G[k]::G.drop (k+1):=by rw[<-List.drop_eq_getElem_cons hk,List.take_append_drop]
 have h1:=(List.nodup_cons.1 h.1).2;rw[e,List.flatten_append,List.flatten_cons]at h1;exact(List.nodup_append.1 (List.nodup_append.1 h1).2.1).1
theorem B57 {rs:List R3}{f:Nat}{p:P12}(hdb:G9 rs=true)(hp:I8 p=true)(hk:∀q∈p.ks,0<=wP8 rs f q)(h:I2 rs p (wP8 rs f (p.ks.getD 0 .nil)) (wP8 rs f (p.ks.getD 1 .nil))=true):0<=G8 rs p (wP8 rs f (p.ks.getD 0 .nil)) (wP8 rs f (p.ks.getD 1 .nil)):=by
 have hks:=A60 hp;rcases A7P hp with e|e|e|e|e|e|e
 ·unfold G8;rw[if_pos e];unfold A3P;split
  ·omega
  ·exact A86 hdb ‹_›
 ·rw[e]at hks;obtain⟨q,hq⟩:=j8 hks;have:=hk q (by simp[hq]);rw[V7 hq];simp[G8,e];exact this
 ·simp[G8,e];try omega
 ·rw[e]at hks;obtain⟨q,r,hq⟩:=A1b hks;have h1:=hk q (by simp[hq]);have h2:=hk r (by simp[hq]);rw[(Y0 hq).1,(Y0 hq).2];simp[G8,e];omega
 ·rw[e]at hks;obtain⟨q,r,hq⟩:=A1b hks;have h1:=hk q (by simp[hq]);rw[(Y0 hq).1];simp[G8,e];exact h1
 ·rw[e]at hks;obtain⟨q,hq⟩:=j8 hks;have:=hk q (by simp[hq]);rw[V7 hq];simp[G8,e];exact this
 ·simp[I2,e]at h;simp[G8,e];omega
theorem C2I {W0:World}{rs:List R3}{vd:Value}{Fd:List Nat}(hdb:G9 rs=true)(hR:H8 W0 vd rs Fd){f:Nat}(ih:RdS W0 rs vd f):RdS W0 rs vd (f+1):=by
 intro p ue us u g Dd d N dp w hb0 hw hL ho hn hd hd0;have hwt:=f9 p;have hzw:=hb0.size;have HL:=hL;obtain⟨i0,hi,hz0,hz1,hz2⟩:=info_parts Tryz.infoRp;obtain⟨a1,c1,a2,c2,a3,c3,rfl,rfl,rfl,s1,s2,s3,s4,s5,s6⟩:=hL.shape;obtain⟨ad,ld,cd,rfl⟩:=hR.is.shape;obtain⟨Fe,Fs,h,rfl,ke,kes,kp⟩:=hL;have hnd:=List.nodup_append.1 ho.1;have ae:Own W0 N Fe:=⟨hnd.1,fun b hb=>ho.2 b (List.mem_append_left _ hb)⟩;have ah:Own W0 N h:=⟨(List.nodup_append.1 hnd.2.1).2.1,fun b hb=>ho.2 b (List.mem_append_right _ (List.mem_append_right _ hb))⟩;obtain⟨d,rfl⟩:∃d',d=d'+1:=by cases d with|zero=>exact kp.elim|succ d=>exact⟨d,rfl⟩
 obtain⟨a,c,b,o,G0,e0,hl,hc,hG0,_,ha⟩:=kp.pick;injection e0 with e1 e2 e3;subst e1 e3;unfold maxLen at hc s2 s4 s6;have hB:=X2 w p (.slice a1 p.e.ks.length c1) (.slice a2 p.es.length c2) (.slice a3 p.ks.length c3) 45;have hI:=fun(x:P12) (y1 y2 y3:Value) (gx:List Nat) (w2:World) (hb:Below w.heap.size w w2) (hx:x.wf) (hLx:H3 W0 Dd (E2 W0 Dd d) x y1 y2 y3 gx) (hO:Own W0 N gx) (hnx:wtP x<=1048576)=>ih x y1 y2 y3 gx Dd d N (dp+1) w2 (hb0.trans (hb.mono hzw)) hx hLx hO hnx (by omega) (by omega);have hPt:=fun(w2:World) (hb:Below w.heap.size w w2)=>B7S p a1 a2 a3 c1 c2 c3 Dd N Fe w2 (ke.below (hb0.trans (hb.mono hzw))) (ae.below ke.lt (hb0.trans (hb.mono hzw))) (by omega) (by unfold maxLen;omega) (by unfold maxLen;omega);have HRg:Hid (∀ (w2:World),Below w.heap.size w w2->∀ (D:Nat->Prop) (gb c:Nat) (vals:List Value),vals.length=p.ks.length->(vals.length<=c/\c<=maxLen)->(∀k x,vals[k]?=some x->w2.cell? ⟨gb,k,none⟩=some x)->(∀ (k:Nat) (q:P12) (x:Value),p.ks[k]?=some q->vals[k]?=some x->i6 W0 rs f D w2 x q)->(∀q∈p.ks,0<=wP8 rs f q)->I8 p=true->_):=fun w2 hb D gb c vals hvl Q9 C5 hK hkw hp=>B7R (f:=f) (hb0.trans (hb.mono hzw)) hdb hR hw hn HL ho hp gb c vals hvl Q9 C5 hK hkw;obtain⟨bo,HBO⟩:∃q,Hid (I8 p=q):=⟨_,rfl⟩;rw[HBO.out]at hPt;have hdp:¬dp>8:=by omega
 have hdw:wrap64 (dp+1)=dp+1:=by unfold wrap64;omega
 have HA:Hid (∀ (k:Nat),k<p.ks.length->a3=some ⟨b,o,none⟩/\b<W0.heap.size/\h=b::G0.flatten/\A4O W0 Dd d b o p.ks G0):=ha;clear ih kes s1 s3 s5 HL ha;go_enter Tryz.func60,Tryz.ntmps60;go_wp2_with fail;refine cM8 (hPt _ bex) ?_;rintro z w1 ⟨rfl,hb1⟩;have A21:=hb1.size;simp at A21;have hB1:=hB.below hb1;have F8:Below w.heap.size w w1:=bex;clear hPt hb1 hB;cases bo with
 |false=>
  have HF:Hid (wP8 rs (f+1) p<0):=by show _<_;rw[B30 HBO.out];decide
  clear HRg hI;go_wp2;go_returns;exact⟨.inr ⟨HF.out,rfl⟩,F8⟩
 |true=>
  obtain⟨_,_,_,_,_,_,_,_,_,_,_,_,b11⟩:=id hB1;go_wp2_with fail;go_loopw [8,27] (fun y i wr=> ∃ (k gb cp:Nat) (vals:List Value) (D:Nat->Prop),k<=p.ks.length/\i=.int .i64 k/\y=.slice (some ⟨gb,0,none⟩) k cp/\wr.ownsRow w1.heap.size 106 1 y k vals/\(∀b,D b->w1.heap.size<=b/\b<wr.heap.size/\b≠gb)/\(∀ (j:Nat) (q:P12) (v:Value),p.ks[j]?=some q->vals[j]?=some v->i6 W0 rs f D wr v q)/\(∀q∈p.ks.take k,0<=wP8 rs f q)/\BxP wr w.heap.size p (.slice a1 p.e.ks.length c1) (.slice a2 p.es.length c2) (.slice a3 p.ks.length c3)/\Below w.heap.size w wr/\w1.heap.size<=wr.heap.size) (fun _ i _=>p.ks.length - (intOf i).toNat)
  case atStart=>exact⟨0,w1.heap.size,0,[],fun _=>False,Nat.zero_le _,rfl,rfl,A1G (by simp) lr8 _ _,fun _ h=>h.elim,fun j q v _ h=>by simp at h,fun q h=>by simp at h,hB1.below bex,bex,by simp⟩
  case round=>
   obtain⟨k,gb,cp,vals,D,hkk,rfl,rfl,hO,hD,hRi,hwd,hBr,hb,hzr⟩:=hrel;have hzb:=hb.size;have hgb:=hO.lt gb rfl;have hfl:vals.length=k:=by have:=hO.1;omega
   have A09:Below W0.heap.size W0 wr:=hb0.trans (hb.mono hzw);by_cases hlt:k<p.ks.length
   ·obtain⟨rfl,hblt,hFh,hLk⟩:=HA.out k hlt;obtain⟨x,g,ue,us',u,hx,hg,hxw,hcl,hLx,_⟩:=hLk.at hG0 hblt (Below.refl _ _) hlt;obtain⟨q0,q1,q2,q3,q4,q5,q6,q7,q8,q9,q10,q11⟩:=hcl.keep (A09.block b hblt);obtain⟨x_e,x_E,x_s,x_S,x_k,x_K,rfl,rfl,rfl,_,_,_,_,_,_⟩:=hLx.shape;have hbr:b<wr.heap.size:=Nat.lt_of_lt_of_le hblt A09.size;have hxm:=mg8 hx;have hxn:wtP x<=1048576:=by have:=A2X hxm;omega
    have hOx:Own W0 N g:=B5i (hFh▸ah) hg;have hkI:(k:Int)<p.ks.length:=by omega
    have HX:Hid (p.ks[k]?=some x):=hx;have hIx:=fun(X:World) (hX:Below wr.heap.size wr X)=>hI x _ _ _ g X (hb.trans (hX.mono hzb)) hxw hLx hOx hxn;have hkl:p.ks.length<=1048576:=by omega
    clear hLk hx hg hxw hcl hLx hOx hxn hI hFh ah hwt;go_wp2_with fail;refine cM8 (hIx _ bex) ?_;rintro z w2 ⟨hres,hb2⟩;have A8Q:=hb2.size;simp at A8Q;have C0:Below wr.heap.size wr w2:=bex;have A02:Below w.heap.size w w2:=hb.trans (C0.mono hzb);have A4V:=hBr.below C0;have hO2:=A25 hO C0;clear hIx q0 q1 q2 q3 q4 q5 q6 q7 q8 q9 q10 q11 hb2 hBr;rcases hres with⟨hwx,v,rfl,hRv⟩|⟨hwx,rfl⟩
    ·obtain⟨_,_,_,_,_,⟨tt,xx,kk,rfl,_,_⟩,_⟩:=hRv.parts;clear hO;go_wp2_with(at_builtin;refine wpList_append_own_at _ rfl _ _ 134 rfl w1.heap.size 106 i0 _ 1 16 Tryz.underlying134 hi hz0 hz1 hz2 rfl (by decide) _ _ _ rfl (hO2.alloc _) ⟨w2.heap.size,0,none⟩ 1 1 [.iface tt xx] rfl rfl ?c2 (by simp[Value.oneCell']) ?c3 ?c4 ?c5 ?_)
     case c2=>exact World.news_of_block (cs:=#[.iface tt xx]) (t:=106) (fr:=(0,0)) (heap_alloc_new w2 _)
     case c3=>unfold maxLen;omega
     case c4=>omega
     case c5=>first|omega|(simp;omega)
     intro v3 w3 H5 hgrow _ hat;have hz3:=hgrow.size;simp at hz3;obtain⟨gg,cap,rfl⟩:=ownsRow_succ H5;have hgg:gg=gb\/gg=w2.heap.size+1:=by
      rcases hat with h|h
      ·exact .inl (by simpa [Value.ownBlock]using h)
      ·exact .inr (by simpa [Value.ownBlock]using h)
     have i1:∀b,b<w2.heap.size->b≠gb->w3.heap[b]?=w2.heap[b]?:=fun b hb hne=>(hgrow.block b (by simp;omega) (by simp[Value.ownBlock];exact fun h=>hne h)).trans (bA8 _ _ _ hb);have D1:∀b,(D b\/(wr.heap.size+1<=b/\b<w2.heap.size))->w1.heap.size<=b/\b<w3.heap.size/\b≠gg:=by
      intro b hb;rcases hb with hb|hb
      ·have:=hD b hb;omega
      ·omega
     have R1:∀ (j:Nat) (q:P12) (y:Value),p.ks[j]?=some q->(vals++ [.iface tt xx])[j]?=some y->i6 W0 rs f (fun b=>D b\/(wr.heap.size+1<=b/\b<w2.heap.size)) w3 y q:=by
      intro j x' y hx' hy;rcases Nat.lt_or_ge j k with hj|hj
      ·rw[List.getElem?_append_left (by omega)]at hy;refine(hRi j x' y hx' hy).keep (fun b hb=> .inl hb) fun b hb=>?_;have:=hD b hb;exact(i1 b (by omega) (by omega)).trans (C0.block b (by omega))
      ·rw[List.getElem?_append_right (by omega)]at hy;have hjk:j=k:=by
        have:j -vals.length=0:=by
         rcases Nat.eq_zero_or_pos (j -vals.length)with h|h
         ·exact h
         ·rw[List.getElem?_eq_none (by simp;omega)]at hy;cases hy
        omega
       subst hjk;rw[hfl,Nat.sub_self]at hy;simp at hy;subst hy;obtain rfl:x=x':=Option.some.inj (HX.out.symm.trans hx');refine hRv.keep (fun b hb=> .inr ?_) fun b hb=>?_
       ·simp at hb;exact i1 b (by omega) (by omega)
       ·simp at hb;omega
     have B6Q:∀q∈p.ks.take (k+1),0<=wP8 rs f q:=fun q hq=>by
      obtain⟨hk',e⟩:=gE1 HX.out;rw[List.take_succ_eq_append_getElem hk',e]at hq;rcases List.mem_append.1 hq with hq|hq
      ·exact hwd q hq
      ·rw[List.mem_singleton.1 hq];exact hwx
     have D6:Below w.heap.size w w3:=Below.grown (A02.alloc A02.size _) hgrow (by simp;omega) (fun b hb=>by simp[Value.ownBlock]at hb;omega);have B8c:BxP w3 w.heap.size p (.slice a1 p.e.ks.length c1) (.slice a2 p.es.length c2) (.slice (some ⟨b,o,none⟩) p.ks.length c3):=by
      have hk:=i1 w.heap.size (by omega) (by omega);obtain⟨hl,h0,h1,h2,h3,h4,h5,h6,h7,h8,h9,h10,h11⟩:=A4V;exact⟨by omega,(cb8 hk).trans h0,(cb8 hk).trans h1,(cb8 hk).trans h2,(cb8 hk).trans h3,(cb8 hk).trans h4,(cb8 hk).trans h5,(cb8 hk).trans h6,(cb8 hk).trans h7,(cb8 hk).trans h8,(cb8 hk).trans h9,(cb8 hk).trans h10,(cb8 hk).trans h11⟩
     clear hgrow hat i1 hRv hRi hO2 A4V;go_wp2_with fail;exact⟨⟨k+1,gg,cap,_,_,hlt,by simp,rfl,H5,D1,R1,B6Q,B8c,D6,by omega⟩,by simp[intOf];omega⟩
    ·have HF:Hid (wP8 rs (f+1) p<0):=by show _<_;rw[B3O (mg8 HX.out) hwx];decide
     clear hO HRg;go_wp2;go_returns;exact⟨.inr ⟨HF.out,rfl⟩,A02⟩
   ·obtain rfl:k=p.ks.length:=by omega
    rw[List.take_length]at hwd;have Q9:vals.length<=cp/\cp<=maxLen:=by
     rcases hO.2 with⟨h,_⟩|⟨g,cap,cur,h,_,_,h3,h4,_⟩
     ·cases h
     ·injection h with h1 h2 h3';subst h3';exact⟨by omega,h4⟩
    have C5:∀j x,vals[j]?=some x->wr.cell? ⟨gb,j,none⟩=some x:=fun j x hj=>by
     obtain⟨hj',rfl⟩:=gE1 hj;exact(hO.cellAt j (by omega)).trans (by simp)
    have hRr:=HRg.out wr hb D gb cp vals hfl Q9 C5 hRi hwd HBO.out;have HW:Hid (I2 rs p (wP8 rs f (p.ks.getD 0 .nil)) (wP8 rs f (p.ks.getD 1 .nil))=true->G8 rs p (wP8 rs f (p.ks.getD 0 .nil)) (wP8 rs f (p.ks.getD 1 .nil))<=12->wP8 rs (f+1) p=G8 rs p (wP8 rs f (p.ks.getD 0 .nil)) (wP8 rs f (p.ks.getD 1 .nil))):=fun h1 h2=>B4y HBO.out hwd h1 h2;have HN1:Hid (I2 rs p (wP8 rs f (p.ks.getD 0 .nil)) (wP8 rs f (p.ks.getD 1 .nil))=false->wP8 rs (f+1) p= -1):=fun h=>C2p h;have HN2:Hid (12<G8 rs p (wP8 rs f (p.ks.getD 0 .nil)) (wP8 rs f (p.ks.getD 1 .nil))->wP8 rs (f+1) p= -1):=fun h=>C0j h;have HP:Hid (I2 rs p (wP8 rs f (p.ks.getD 0 .nil)) (wP8 rs f (p.ks.getD 1 .nil))=true->0<=G8 rs p (wP8 rs f (p.ks.getD 0 .nil)) (wP8 rs f (p.ks.getD 1 .nil))):=fun h=>B57 hdb HBO.out hwd h;generalize wP8 rs f (p.ks.getD 0 .nil)=wv at*;generalize wP8 rs f (p.ks.getD 1 .nil)=wu at*;rw[hfl]at hRr;obtain⟨_,b0,b1,b2,b3,b4,b5,b6,b7,b8,b9,b10,b11'⟩:=id hBr;clear HRg HA hI ah;go_wp2_with fail;refine cM8 hRr ?_;rintro z w2 ⟨A2o,hb2⟩;have A02:Below w.heap.size w w2:=hb.trans (hb2.mono hzb);have A8Q:=hb2.size;clear hRr b0 b1 b2 b3 b4 b5 b6 b7 b8 b9 b10 b11' b11;rcases A2o with⟨hok,y,ut,rfl,hF,hut⟩|⟨hok,rfl⟩
    ·obtain⟨tt,xx,kk,rfl,hM0,_⟩:=hF.wid;obtain⟨ta,tl,tc,rfl⟩:∃a l c,ut=.slice a l c:=by rcases hut with rfl|⟨_,rfl⟩<;>exact⟨_,_,_,rfl⟩
     have HUT:Hid (_\/_):=hut;obtain⟨ow,HOW⟩:∃q,Hid (G8 rs p wv wu=q):=⟨_,rfl⟩;rw[HOW.out]at hM0;clear hut;by_cases h12:ow>12
     ·have HF:Hid (wP8 rs (f+1) p= -1):=HN2.out (by rw[HOW.out];exact h12);go_wp2_with(go_at_call 264;refine cM8 (l4 _ _ _ _ _ _) ?_;rintro z w3 ⟨rfl,hb3⟩);go_returns;exact⟨.inr ⟨by rw[HF.out];decide,rfl⟩,A02.trans (hb3.mono A02.size)⟩
     ·have HF:Hid (wP8 rs (f+1) p=ow):=(HW.out hok (by rw[HOW.out];omega)).trans HOW.out;go_wp2_with(go_at_call 264;refine cM8 (l4 _ _ _ _ _ _) ?_;rintro z w3 ⟨rfl,hb3⟩);go_returns;have hz3:=hb3.size;refine⟨.inl ⟨by rw[HF.out,<-HOW.out];exact HP.out hok,_,rfl,?_⟩,A02.trans (hb3.mono A02.size)⟩;have B4i:∀j x,vals[j]?=some x->w3.cell? ⟨gb,j,none⟩=some x:=fun j x hj=>bt8 hb3 (bt8 hb2 (C5 j x hj));refine⟨_,vals,by rw[HF.out,<-HOW.out];exact hF,?_,hfl,fun j q x hq hx=>(hRi j q x hq hx).keep (fun b hb=>?_) fun b hb=>?_⟩
      ·rcases HUT.out with e|⟨h0,e⟩
       ·rw[e];exact⟨some ⟨gb,0,none⟩,cp,by rw[hfl],Q9.2,fun _=>⟨gb,rfl,⟨by omega,by omega⟩,B4i⟩⟩
       ·rw[e];exact⟨none,0,by rw[hfl,h0],by decide,fun h=>by omega⟩
      ·have:=hD b hb;exact⟨by omega,by omega⟩
      ·have:=hD b hb;exact(hb3.block b (by omega)).trans (hb2.block b (by omega))
    ·have HF:Hid (wP8 rs (f+1) p= -1):=HN1.out hok;go_wp2;go_returns;exact⟨.inr ⟨by rw[HF.out];decide,rfl⟩,A02⟩
theorem A5d {W0:World}{rs:List R3}{vd:Value}{Fd:List Nat}(hdb:G9 rs=true)(hR:H8 W0 vd rs Fd):∀f,RdS W0 rs vd f
 |0=>B51 W0 rs vd hR.is.shape
 |f+1=>C2I hdb hR (A5d hdb hR f)
end
section
open Go.RowKit Go.Extern.Stop Go.Stop Go.Extern
theorem B5q (t:Value)(w:World):Calls Tryz.prog 62 #[.nilIface,t] w fun e w'=>e=.returned (.bool false)/\w'=w:=by
 go_enter Tryz.func62,Tryz.ntmps62;go_wp2
 go_ret
 exact⟨rfl,rfl⟩
theorem B5w (t:Addr)(w:World):(ReflectliteValue.unpack (.iface 111 (.pointer (some t)))).run Tryz.prog w
  =.ok (.agg #[.pointer (some ⟨2,111,none⟩),.pointer (some ⟨w.heap.size,0,none⟩),.int .u64 150]) (w.alloc (.cells #[.pointer (some t)] 111)):=by kernel_rfl
theorem B6S (a:Addr)(w:World):(ReflectliteValue.methodAny (ReflectliteValue.valueError "reflectlite.Value.Type" 0) (fun t _ _ _=>ReflectliteType.toType t) #[.agg #[.pointer (some ⟨2,111,none⟩),.pointer (some a),.int .u64 150]]).run Tryz.prog w
  =.ok (.iface 187 (.agg #[.pointer (some ⟨2,111,none⟩)])) w:=by kernel_rfl
theorem C3s (h:Value)(w:World):(Go.method 449 187 (.agg #[h]) "Kind").run Tryz.prog w=.ok (255,h) w:=by kernel_rfl
theorem C23 (w:World):((ReflectliteType.abiMethod fun t=>(fun a:Nat=>Value.int IntKind.u8 (a:Int))<$>Rtype.kind t) #[.pointer (some ⟨2,111,none⟩)]).run Tryz.prog w=.ok (.int .u8 22) w:=by kernel_rfl
theorem C3j (w:World):((ReflectliteType.abiMethod fun t=>(fun a:Nat=>Value.int IntKind.u8 (a:Int))<$>Rtype.kind t) #[.pointer (some ⟨2,104,none⟩)]).run Tryz.prog w=.ok (.int .u8 25) w:=by kernel_rfl
theorem B0C (z:Sem Value)(f:TypeId->Addr->Nat->Nat->Sem Value)(v:Value):ReflectliteValue.method z f #[v]=(do match<-ReflectliteValue.parts v with|none=>z|some (t,a,fl)=>f t a fl (fl %32)):=rfl
theorem A9N (a:Addr)(w:World):(ReflectliteValue.parts (.agg #[.pointer (some ⟨2,111,none⟩),.pointer (some a),.int .u64 150])).run Tryz.prog w=.ok (some (111,a,150)) w:=by kernel_rfl
theorem B4E (a p:Addr)(W:World)(ha:W.cell? a=some (.pointer (some p))):(ReflectliteValue.method (ReflectliteValue.valueError "reflectlite.Value.IsNil" 0) ReflectliteValue.isNil #[.agg #[.pointer (some ⟨2,111,none⟩),.pointer (some a),.int .u64 150]]).run Tryz.prog W=.ok (.bool false) W:=by
 rw[B0C];simp only[Sem.run_bind,A9N,Result.andThen];simp[ReflectliteValue.isNil,loadVar,isAgg,underlying,Tryz.underlying111,ha,Result.andThen]
theorem B53 (h:Value)(w:World):(Go.method 449 187 (.agg #[h]) "Elem").run Tryz.prog w=.ok (268,.agg #[h]) w:=by kernel_rfl
theorem C1S (h:Value)(w:World):(Go.method 449 187 (.agg #[h]) "Implements").run Tryz.prog w=.ok (269,.agg #[h]) w:=by kernel_rfl
theorem B25 (h:Value)(w:World):(Go.method 449 187 (.agg #[h]) "AssignableTo").run Tryz.prog w=.ok (266,.agg #[h]) w:=by kernel_rfl
theorem B3m (w:World):(ReflectliteType.method ReflectliteType.elem #[.agg #[.pointer (some ⟨2,111,none⟩)]]).run Tryz.prog w=.ok (.iface 187 (.agg #[.pointer (some ⟨2,104,none⟩)])) w:=by kernel_rfl
theorem B8U (w:World):(ReflectliteType.relation "Implements" ReflectliteType.implements_ #[.agg #[.pointer (some ⟨2,104,none⟩)],.iface 187 (.agg #[.pointer (some ⟨2,73,none⟩)])]).run Tryz.prog w=.ok (.bool true) w:=by kernel_rfl
theorem C1i (v:Value)(w:World):(ReflectliteType.typeOf #[.iface 104 v]).run Tryz.prog w=.ok (.iface 187 (.agg #[.pointer (some ⟨2,104,none⟩)])) w:=by kernel_rfl
theorem C2H (w:World):(ReflectliteType.relation "AssignableTo" ReflectliteType.assignableTo #[.agg #[.pointer (some ⟨2,104,none⟩)],.iface 187 (.agg #[.pointer (some ⟨2,104,none⟩)])]).run Tryz.prog w=.ok (.bool true) w:=by kernel_rfl
theorem B7u (k:Int)(w:World):(ReflectliteValue.unpack (.iface 104 (.agg #[.int .i64 k]))).run Tryz.prog w
  =.ok (.agg #[.pointer (some ⟨2,104,none⟩),.pointer (some ⟨w.heap.size,0,none⟩),.int .u64 153]) (w.alloc (.cells #[.int .i64 k] 104)):=by kernel_rfl
theorem B3r (w:World):(Rtype.elem? 111).run Tryz.prog w=.ok (some 104) w:=by kernel_rfl
theorem B8h (p:Addr)(w:World):(ReflectliteValue.mk 104 p ReflectliteValue.flagAddr).run Tryz.prog w=.ok (.agg #[.pointer (some ⟨2,104,none⟩),.pointer (some p),.int .u64 409]) w:=by kernel_rfl
theorem B8b (a p:Addr)(W:World)(ha:W.cell? a=some (.pointer (some p))):(ReflectliteValue.method (ReflectliteValue.valueError "reflectlite.Value.Elem" 0) ReflectliteValue.elem #[.agg #[.pointer (some ⟨2,111,none⟩),.pointer (some a),.int .u64 150]]).run Tryz.prog W
   =.ok (.agg #[.pointer (some ⟨2,104,none⟩),.pointer (some p),.int .u64 409]) W:=by
 rw[B0C];simp only[Sem.run_bind,A9N,Result.andThen];simp[ReflectliteValue.elem,loadVar,isAgg,underlying,Tryz.underlying111,ha,Result.andThen,B3r,B8h]
theorem B9D (v x:Value):ReflectliteValue.set #[v,x]=(do
  let(some (dst,a,fl),some (src,b,_)):=(<-ReflectliteValue.parts v,<-ReflectliteValue.parts x)
   |unsupported (.noEntry "extern/(internal/reflectlite.Value).Set.zeroValue")
  if fl/ReflectliteValue.flagAddr %2==0 then unsupported (.noEntry "extern/(internal/reflectlite.Value).Set.unaddressable")
  let val<-loadVar src b
  if<-Rtype.directlyAssignable dst src then storeVar dst a val
  else if<-Rtype.implements dst src then
   if(<-Rtype.kind src)==20 then
    match val with
    | .nilIface=>unsupported (.noEntry "extern/reflectlite: a nil value of one interface type handed on as a value of another")
    |_=>storeVar dst a val
   else storeVar dst a (.iface src val)
  else panicString ("reflectlite.Set: value of type " ++(<-Rtype.spelt src)++ " is not assignable to type " ++(<-Rtype.spelt dst))
  pure (.tuple #[])):=rfl
theorem B5W (a:Addr)(w:World):(ReflectliteValue.parts (.agg #[.pointer (some ⟨2,104,none⟩),.pointer (some a),.int .u64 409])).run Tryz.prog w=.ok (some (104,a,409)) w:=by kernel_rfl
theorem C2y (a:Addr)(w:World):(ReflectliteValue.parts (.agg #[.pointer (some ⟨2,104,none⟩),.pointer (some a),.int .u64 153])).run Tryz.prog w=.ok (some (104,a,153)) w:=by kernel_rfl
theorem C1Z (w:World):(Rtype.directlyAssignable 104 104).run Tryz.prog w=.ok true w:=by kernel_rfl
theorem B67 (w:World):(sizeOf 104).run Tryz.prog w=.ok 1 w:=by kernel_rfl
theorem C32 (w:World):(isAgg 104).run Tryz.prog w=.ok true w:=by kernel_rfl
theorem C3g (ta:Nat)(b:Nat)(k:Int)(old:Value)(W:World)(hb:W.cell? ⟨b,0,none⟩=some (.int .i64 k))(ht:W.cell? ⟨ta,0,none⟩=some old)(hf:W.frozen? ⟨ta,0,none⟩=false):(ReflectliteValue.set #[.agg #[.pointer (some ⟨2,104,none⟩),.pointer (some ⟨ta,0,none⟩),.int .u64 409],.agg #[.pointer (some ⟨2,104,none⟩),.pointer (some ⟨b,0,none⟩),.int .u64 153]]).run Tryz.prog W
   =.ok (.tuple #[]) (W.setCell ⟨ta,0,none⟩ (.int .i64 k)):=by
 rw[B9D];simp only[Sem.run_bind,B5W,C2y,Result.andThen];simp[ReflectliteValue.flagAddr,loadVar,C32,B67,loadCells,loadCellsFrom,Addr.add,hb,Result.andThen,C1Z,storeVar,Value.cells,storeCells];rw[run_store Tryz.prog W _ _ _ (by rfl)];simp[ht,hf]
def o6 (w:World):Prop:=w.cell? ⟨0,0,none⟩=some (.iface 187 (.agg #[.pointer (some ⟨2,73,none⟩)]))
theorem o6.lt {w:World}(h:o6 w):0<w.heap.size:=bl8 _ _ h
theorem o6.below {w w':World}(h:o6 w)(hb:Below w.heap.size w w'):o6 w':=((bc8 hb).1 _ 0 h.lt).trans h
theorem C1K (k:Int)(tb:Nat)(old:Value)(w:World)(hg:o6 w)(ht0:w.cell? ⟨tb,0,none⟩=some old)(hf0:w.frozen? ⟨tb,0,none⟩=false):Calls Tryz.prog 62 #[.iface 104 (.agg #[.int .i64 k]),.iface 111 (.pointer (some ⟨tb,0,none⟩))] w fun ev w'=>ev=.returned (.bool true)/\w'=((((w.alloc (.cells #[.pointer (some ⟨tb,0,none⟩)] 111)).alloc (.cells #[.pointer (some ⟨2,111,none⟩),.pointer (some ⟨w.heap.size,0,none⟩),.int .u64 150] 141)).alloc (.cells #[.pointer (some ⟨2,111,none⟩),.pointer (some ⟨w.heap.size,0,none⟩),.int .u64 150] 141)).alloc (.cells #[.int .i64 k] 104)).setCell ⟨tb,0,none⟩ (.int .i64 k):=by
 have h6:= @run_callFunc_extern Tryz.prog 86 _ (fun args=>ReflectliteValue.unpack (args.getD 0 (.tuple #[]))) Tryz.func86 (by kernel_rfl) (by kernel_rfl) (by kernel_rfl) (by kernel_rfl);have h7:= @run_callFunc_extern Tryz.prog 87 _ (ReflectliteValue.methodAny (ReflectliteValue.valueError "reflectlite.Value.Type" 0) (fun t _ _ _=>ReflectliteType.toType t)) Tryz.func87 (by kernel_rfl) (by kernel_rfl) (by kernel_rfl) (by kernel_rfl);have h8:= @run_callFunc_extern Tryz.prog 88 _ (ReflectliteValue.method (ReflectliteValue.valueError "reflectlite.Value.IsNil" 0) ReflectliteValue.isNil) Tryz.func88 (by kernel_rfl) (by kernel_rfl) (by kernel_rfl) (by kernel_rfl);have h27:= @run_callFunc_extern Tryz.prog 255 _ (ReflectliteType.abiMethod fun t=>do pure (.int .u8 (<-Rtype.kind t))) Tryz.func255 (by kernel_rfl) (by kernel_rfl) (by kernel_rfl) (by kernel_rfl);have h37:= @run_callFunc_extern Tryz.prog 268 _ (ReflectliteType.method ReflectliteType.elem) Tryz.func268 (by kernel_rfl) (by kernel_rfl) (by kernel_rfl) (by kernel_rfl);have h38:= @run_callFunc_extern Tryz.prog 269 _ (ReflectliteType.relation "Implements" ReflectliteType.implements_) Tryz.func269 (by kernel_rfl) (by kernel_rfl) (by kernel_rfl) (by kernel_rfl);have h10:= @run_callFunc_extern Tryz.prog 116 _ ReflectliteType.typeOf Tryz.func116 (by kernel_rfl) (by kernel_rfl) (by kernel_rfl) (by kernel_rfl);have h35:= @run_callFunc_extern Tryz.prog 266 _ (ReflectliteType.relation "AssignableTo" ReflectliteType.assignableTo) Tryz.func266 (by kernel_rfl) (by kernel_rfl) (by kernel_rfl) (by kernel_rfl)
 have h11:= @run_callFunc_extern Tryz.prog 117 _ (ReflectliteValue.method (ReflectliteValue.valueError "reflectlite.Value.Elem" 0) ReflectliteValue.elem) Tryz.func117 (by kernel_rfl) (by kernel_rfl) (by kernel_rfl) (by kernel_rfl);have h12:= @run_callFunc_extern Tryz.prog 118 _ ReflectliteValue.set Tryz.func118 (by kernel_rfl) (by kernel_rfl) (by kernel_rfl) (by kernel_rfl);have tO:=C1i;have mA:=B25;have a25:=C2H;have v25:=B7u;have f6:=B5w;have f7:=B6S;have mK:=C3s;have mE:=B53;have mI:=C1S;have k27:=C23;have k25:=C3j;have e27:=B3m;have i25:=B8U;have hlt:=hg.lt;have htl:tb<w.heap.size:=bl8 _ _ ht0;have n8:=B4E ⟨w.heap.size,0,none⟩ ⟨tb,0,none⟩ ((w.alloc (.cells #[.pointer (some ⟨tb,0,none⟩)] 111)).alloc (.cells #[.pointer (some ⟨2,111,none⟩),.pointer (some ⟨w.heap.size,0,none⟩),.int .u64 150] 141)) (by simp);have hg2:((w.alloc (.cells #[.pointer (some ⟨tb,0,none⟩)] 111)).alloc (.cells #[.pointer (some ⟨2,111,none⟩),.pointer (some ⟨w.heap.size,0,none⟩),.int .u64 150] 141)).cell? ⟨0,0,none⟩=some (.iface 187 (.agg #[.pointer (some ⟨2,73,none⟩)])):=by
  rw[World.cell?_alloc_lt _ _ ⟨0,0,none⟩ (by first|(simp;done)|(simp;omega)),World.cell?_alloc_lt _ _ ⟨0,0,none⟩ hlt];exact hg
 have el:=B8b ⟨w.heap.size,0,none⟩ ⟨tb,0,none⟩ (((w.alloc (.cells #[.pointer (some ⟨tb,0,none⟩)] 111)).alloc (.cells #[.pointer (some ⟨2,111,none⟩),.pointer (some ⟨w.heap.size,0,none⟩),.int .u64 150] 141)).alloc (.cells #[.pointer (some ⟨2,111,none⟩),.pointer (some ⟨w.heap.size,0,none⟩),.int .u64 150] 141)) (by rw[World.cell?_alloc_lt _ _ ⟨w.heap.size,0,none⟩ (by simp;omega)];simp);have st:=C3g tb (w.heap.size+1+1+1) k old ((((w.alloc (.cells #[.pointer (some ⟨tb,0,none⟩)] 111)).alloc (.cells #[.pointer (some ⟨2,111,none⟩),.pointer (some ⟨w.heap.size,0,none⟩),.int .u64 150] 141)).alloc (.cells #[.pointer (some ⟨2,111,none⟩),.pointer (some ⟨w.heap.size,0,none⟩),.int .u64 150] 141)).alloc (.cells #[.int .i64 k] 104)) (by rw[World.cell?_alloc_at _ _ _ _ (by simp)];rfl) (by rw[World.cell?_alloc_lt _ _ ⟨tb,0,none⟩ (by simp;omega),World.cell?_alloc_lt _ _ ⟨tb,0,none⟩ (by simp;omega),World.cell?_alloc_lt _ _ ⟨tb,0,none⟩ (by simp;omega),World.cell?_alloc_lt _ _ ⟨tb,0,none⟩ htl];exact ht0) (by rw[World.frozen?_alloc_old _ _ ⟨tb,0,none⟩ (by simp;omega),World.frozen?_alloc_old _ _ ⟨tb,0,none⟩ (by simp;omega),World.frozen?_alloc_old _ _ ⟨tb,0,none⟩ (by simp;omega),World.frozen?_alloc_old _ _ ⟨tb,0,none⟩ (Nat.ne_of_lt htl)];exact hf0);clear hg;go_enter Tryz.func62,Tryz.ntmps62;go_wp2;refine wp_loop_rounds 1 ?_;rw[rounds_succ];go_wp2
 go_ret
 exact⟨rfl,rfl⟩
theorem B2M (k:Int)(w:World):Calls Tryz.prog 30 #[.nilIface,.int .i64 k] w fun e w'=>e=.returned (.bool false)/\Below w.heap.size w w':=by
 have hA:=B5q;go_enter Tryz.func30,Tryz.ntmps30;go_wp2_with fail;refine cM8 (hA _ _) ?_;rintro z w1 ⟨rfl,rfl⟩;go_wp2;go_returns;exact⟨rfl,bex⟩
theorem A38 (j k:Int)(w:World)(hg:o6 w):Calls Tryz.prog 30 #[.iface 104 (.agg #[.int .i64 j]),.int .i64 k] w fun e w'=>e=.returned (.bool (j==k))/\Below w.heap.size w w':=by
 have hA:=fun(old:Value) (X:World) (hX:Below w.heap.size w X) (h1:X.cell? ⟨w.heap.size,0,none⟩=some old) (h2:X.frozen? ⟨w.heap.size,0,none⟩=false)=>C1K j w.heap.size old X (hg.below hX) h1 h2;go_enter Tryz.func30,Tryz.ntmps30;go_wp2_with fail;refine cM8 (hA (.int .i64 0) _ bex (by go_simp) (by go_simp)) ?_;rintro z w1 ⟨rfl,rfl⟩;go_wp2;go_returns;exact⟨rfl,bex⟩
end
section
open Go.RowKit Go.Deep
theorem B4t (rs:List R3)(p:P12)(ue us u:Value)(g:List Nat)(D d N:Nat)(vd:Value)(Fd:List Nat)(W0 w:World)(hb0:Below W0.heap.size W0 w)(hdb:G9 rs=true)(hw:p.wf)(hL:H3 W0 D (E2 W0 D d) p ue us u g)(ho:Own W0 N g)(hn:wtP p<=1048576)(hR:H8 W0 vd rs Fd)(hE:o6 W0):Calls Tryz.prog 31 #[vd,(.agg #[.int .i64 p.k,.string p.s,.int .i64 p.e.k,.int .i64 p.e.n,.int .i64 p.e.v.k,.int .i64 p.e.v.n,.string p.e.v.s,.string p.e.p,ue,us,.int .i64 p.n,u])] w fun x w'=>(∃z:Int,x=.returned (.int .i64 z)/\(0<=wP8 rs 9 p->z=wP8 rs 9 p)/\(wP8 rs 9 p<0->z= -1))/\Below w.heap.size w w':=by
 have hzw:=hb0.size;have hRd:=fun(X:World) (hX:Below w.heap.size w X)=>A5d hdb hR 9 p ue us u g D d N 0 X (hb0.trans (hX.mono hzw)) hw hL ho hn (by omega) (by omega);have hIf:=fun(X:World) (hX:Below w.heap.size w X)=>A38 1 1 X (hE.below (hb0.trans (hX.mono hzw)));obtain⟨a1,c1,a2,c2,a3,c3,rfl,rfl,rfl,_,_,_,_,_,_⟩:=hL.shape;obtain⟨ad,ld,cd,rfl⟩:=hR.is.shape;have hB:=X2 w p (.slice a1 p.e.ks.length c1) (.slice a2 p.es.length c2) (.slice a3 p.ks.length c3) 45;clear hL hR ho hw hb0 hE;go_enter Tryz.func31,Tryz.ntmps31;go_wp2_with fail;refine cM8 (hRd _ bex) ?_;rintro z w2 ⟨hres,hb2⟩;have hz2:=hb2.size;(try simp at hz2);have C0:Below w.heap.size w w2:=bex;clear hRd hb2;rcases hres with⟨hW,v,rfl,hRt⟩|⟨hW,rfl⟩
 ·obtain⟨us1,vals,_,_,_,⟨tt,xx,kk,rfl,hM0,_⟩,ta,tl,tc,rfl⟩:=hRt.parts;have HW:Hid (0<=wP8 rs 9 p):=hW;obtain⟨ow,HOW⟩:∃q,Hid (wP8 rs 9 p=q):=⟨_,rfl⟩;rw[HOW.out]at hM0;clear hRt hW;go_wp2_with fail;refine cM8 (B2M _ _) ?_;rintro z w3 ⟨rfl,hb3⟩;have D6:Below w.heap.size w w3:=bex;clear hb3;go_wp2_with(go_at_call 264;refine cM8 (l4 _ _ _ _ _ _) ?_;rintro z w4 ⟨rfl,hb4⟩);go_returns;exact⟨⟨ow,rfl,fun _=>HOW.out.symm,fun h=>by have:=HW.out;omega⟩,D6.trans (hb4.mono D6.size)⟩
 ·have HW:Hid (wP8 rs 9 p<0):=hW;clear hW;go_wp2_with fail;refine cM8 (hIf _ bex) ?_;rintro z w3 ⟨rfl,hb3⟩;have D6:Below w.heap.size w w3:=bex;clear hb3;go_wp2;go_returns;exact⟨⟨-1,rfl,fun h=>by have:=HW.out;omega,fun _=>rfl⟩,D6⟩
end
end Go.Proofs.YteekfcdllaceoaaGreatDoor
