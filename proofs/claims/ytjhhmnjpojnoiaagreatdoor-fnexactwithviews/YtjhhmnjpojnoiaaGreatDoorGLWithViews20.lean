/- Own texts, joined: contracts that the law's proof goes by. -/
import Derived.Test.YtjhhmnjpojnoiaaGreatDoorRgtI
import Derived.Test.YtjhhmnjpojnoiaaGreatDoorPartI
import Derived.Test.YtjhhmnjpojnoiaaGreatDoorGLWithViews1
import Derived.Test.YtjhhmnjpojnoiaaGreatDoorGLWithViews7
set_option maxHeartbeats 16000000
set_option maxRecDepth 100000
set_option linter.unusedVariables false
set_option linter.unusedSimpArgs false
namespace Go.Proofs.YtjhhmnjpojnoiaaGreatDoor
section
section
open Go.RowKit
theorem RightIs.parts {W0:World}{rs:List R3}{D:Nat→Prop}{w:World}{f:Nat}{v:Value}{p:P12}(h:RightIs W0 rs f D w v p):∃us vals,FormR W0 rs p (wP8 rs f p) us v∧UnderIs D w us vals∧vals.length=p.ks.length∧Wid v (wP8 rs f p) us∧∃a l c,us=.slice a l c:=by
 cases f with
 |zero=>exact h.elim
 |succ f=>
  obtain⟨us,vals,h1,h2,h3,h4⟩:=h;obtain⟨a,c,e,_⟩:=id h2;exact⟨us,vals,h1,h2,h3,h1.wid,a,_,c,e⟩
theorem rightOf_any {W0 w:World}{rs:List R3}{p:P12}{ue us uk vd:Value}{g Fd:List Nat}{Dd d N f:Nat}{D:Nat→Prop}(hb0:Below W0.heap.size W0 w)(hdb:okDb rs=true)(hR:RelsF W0 vd rs Fd)(hw:p.wf)(hn:wtP p≤1048576)(hL:ListsP W0 Dd (PlansIs W0 Dd d) p ue us uk g)(ho:Own W0 N g)(hp:partsP p=true)(gb c:Nat)(vals:List Value)(hvl:vals.length=p.ks.length)(hcap:vals.length≤c∧c≤maxLen)(hcell:∀k x,vals[k]?=some x→w.cell? ⟨gb,k,none⟩=some x)(hK:∀ (k:Nat) (q:P12) (x:Value),p.ks[k]?=some q→vals[k]?=some x→RightIs W0 rs f D w x q)(hkw:∀q∈p.ks,0≤wP8 rs f q):Calls Tryz.prog 98 #[vd,(.agg #[.int .i64 p.k,.string p.s,.int .i64 p.e.k,.int .i64 p.e.n,.int .i64 p.e.v.k,.int .i64 p.e.v.n,.string p.e.v.s,.string p.e.p,ue,us,.int .i64 p.n,uk]),.slice (some ⟨gb,0,none⟩) vals.length c] w fun x w'=>RgtOut W0 rs p (wP8 rs f (p.ks.getD 0 .nil)) (wP8 rs f (p.ks.getD 1 .nil)) (.slice (some ⟨gb,0,none⟩) vals.length c) vals.length x∧Below w.heap.size w w':=by
 have hsh:∃a c,uk=.slice a p.ks.length c:=by obtain⟨_,_,_,_,a,c,_,_,h,_⟩:=hL.shape;exact⟨a,c,h⟩
 obtain⟨Fe,Fs,h,rfl,ke,kes,kp⟩:=hL;have hnd:=List.nodup_append.1 ho.1;have ae:Own W0 N Fe:=⟨hnd.1,fun b hb=>ho.2 b (List.mem_append_left _ hb)⟩;have aq:Own W0 N Fs:=⟨(List.nodup_append.1 hnd.2.1).1,fun b hb=>ho.2 b (List.mem_append_right _ (List.mem_append_left _ hb))⟩;have hks:=parts_kids hp;clear hnd ho kp;rcases parts_in hp with hk|hk|hk|hk|hk|hk|hk
 ·rw[hk]at hks;have hq:=no_kid hks;obtain rfl:vals=[]:=List.length_eq_zero_iff.1 (by rw[hvl,hq];rfl);exact right_0 hb0 hdb hR hw hn ke kes ae aq hsh hp hk _ _ _ c hcap
 ·rw[hk]at hks;obtain⟨q,hq⟩:=one_kid hks;obtain⟨x0,rfl⟩:=List.length_eq_one_iff.1 (show vals.length=1 by rw[hvl,hq];rfl);rw[hq]at hK hkw;obtain⟨t0,_,_,_,_,w0,s0⟩:=(hK 0 q x0 rfl rfl).parts;have e0:p.ks.getD 0 .nil=q:=kid0 hq;rw[e0];exact right_1 hb0 hdb hR hw hn ke kes ae aq hsh hp hk _ _ none c hcap gb x0 t0 w0 ⟨hkw q (by simp),wL8 _ _ _⟩ s0 (hcell 0 x0 rfl)
 ·rw[hk]at hks;obtain⟨q,hq⟩:=one_kid hks;obtain⟨x0,rfl⟩:=List.length_eq_one_iff.1 (show vals.length=1 by rw[hvl,hq];rfl);rw[hq]at hK hkw;obtain⟨t0,_,_,_,_,w0,s0⟩:=(hK 0 q x0 rfl rfl).parts;have e0:p.ks.getD 0 .nil=q:=kid0 hq;rw[e0];exact right_2 hb0 hdb hR hw hn ke kes ae aq hsh hp hk _ _ none c hcap gb x0 t0 w0 ⟨hkw q (by simp),wL8 _ _ _⟩ s0 (hcell 0 x0 rfl)
 ·rw[hk]at hks;obtain⟨q,r,hq⟩:=two_kids hks;obtain⟨x0,x1,rfl⟩:∃x0 x1,vals=[x0,x1]:=by
   match vals,(show vals.length=2 by rw[hvl,hq];rfl)with
   | [x0,x1],_=>exact⟨x0,x1,rfl⟩
  rw[hq]at hK hkw;obtain⟨t0,_,_,_,_,w0,s0⟩:=(hK 0 q x0 rfl rfl).parts;obtain⟨t1,_,_,_,_,w1,s1⟩:=(hK 1 r x1 rfl rfl).parts;obtain⟨e0,e1⟩:=kid00 hq;rw[e0,e1];exact right_3 hb0 hdb hR hw hn ke kes ae aq hsh hp hk _ _ none c hcap gb x0 t0 w0 ⟨hkw q (by simp),wL8 _ _ _⟩ s0 (hcell 0 x0 rfl) x1 t1 w1 ⟨hkw r (by simp),wL8 _ _ _⟩ s1 (hcell 1 x1 rfl)
 ·rw[hk]at hks;obtain⟨q,r,hq⟩:=two_kids hks;obtain⟨x0,x1,rfl⟩:∃x0 x1,vals=[x0,x1]:=by
   match vals,(show vals.length=2 by rw[hvl,hq];rfl)with
   | [x0,x1],_=>exact⟨x0,x1,rfl⟩
  rw[hq]at hK hkw;obtain⟨t0,_,_,_,_,w0,s0⟩:=(hK 0 q x0 rfl rfl).parts;obtain⟨t1,_,_,_,_,w1,s1⟩:=(hK 1 r x1 rfl rfl).parts;obtain⟨e0,e1⟩:=kid00 hq;rw[e0,e1];exact right_4 hb0 hdb hR hw hn ke kes ae aq hsh hp hk _ _ none c hcap gb x0 t0 w0 ⟨hkw q (by simp),wL8 _ _ _⟩ s0 (hcell 0 x0 rfl) x1 t1 w1 ⟨hkw r (by simp),wL8 _ _ _⟩ s1 (hcell 1 x1 rfl)
 ·rw[hk]at hks;obtain⟨q,hq⟩:=one_kid hks;obtain⟨x0,rfl⟩:=List.length_eq_one_iff.1 (show vals.length=1 by rw[hvl,hq];rfl);rw[hq]at hK hkw;obtain⟨t0,_,_,_,_,w0,s0⟩:=(hK 0 q x0 rfl rfl).parts;have e0:p.ks.getD 0 .nil=q:=kid0 hq;rw[e0];exact right_5 hb0 hdb hR hw hn ke kes ae aq hsh hp hk _ _ none c hcap gb x0 t0 w0 ⟨hkw q (by simp),wL8 _ _ _⟩ s0 (hcell 0 x0 rfl)
 ·rw[hk]at hks;obtain⟨q,hq⟩:=one_kid hks;obtain⟨x0,rfl⟩:=List.length_eq_one_iff.1 (show vals.length=1 by rw[hvl,hq];rfl);rw[hq]at hK hkw;obtain⟨t0,_,_,_,_,w0,s0⟩:=(hK 0 q x0 rfl rfl).parts;have e0:p.ks.getD 0 .nil=q:=kid0 hq;rw[e0];exact right_6 hb0 hdb hR hw hn ke kes ae aq hsh hp hk _ _ none c hcap gb x0 t0 w0 ⟨hkw q (by simp),wL8 _ _ _⟩ s0 (hcell 0 x0 rfl)
end
section
open Go.RowKit
theorem partsP_0 {p:P12}(hk:p.k=0):partsP p=(p.n==0 && (noneE p.e && (p.es.length==0 &&p.ks.length==0))):=by
 have h0:((p.ks.length:Nat):Int)=kidsK 0↔p.ks.length=0:=by simp[kidsK];try omega
 rw[Bool.eq_iff_iff];simp only[partsP,formP,Bool.and_eq_true,Bool.or_eq_true,beq_iff_eq,bne_iff_ne,decide_eq_true_eq,hk,h0];clear h0 hk;constructor
 ·rintro⟨⟨h1,h2,h3,h4,h5⟩,h6,h7⟩;simp_all
 ·intro h1;simp_all
theorem partsP_1 {p:P12}(hk:p.k=1):partsP p=(p.s.toList==[] && (p.n==0 && (p.es.length==0 &&p.ks.length==1))):=by
 have h0:((p.ks.length:Nat):Int)=kidsK 1↔p.ks.length=1:=by simp[kidsK];try omega
 rw[Bool.eq_iff_iff];simp only[partsP,formP,Bool.and_eq_true,Bool.or_eq_true,beq_iff_eq,bne_iff_ne,decide_eq_true_eq,hk,h0];clear h0 hk;constructor
 ·rintro⟨⟨h1,h2,h3,h4,h5⟩,h6,h7⟩;simp_all
 ·intro h1;simp_all
theorem partsP_2 {p:P12}(hk:p.k=2):partsP p=(p.s.toList==[] && (p.n==0 && (noneE p.e && (decide (1≤p.es.length) && (decide (p.es.length≤12) &&p.ks.length==1))))):=by
 have h0:((p.ks.length:Nat):Int)=kidsK 2↔p.ks.length=1:=by simp[kidsK];try omega
 rw[Bool.eq_iff_iff];simp only[partsP,formP,Bool.and_eq_true,Bool.or_eq_true,beq_iff_eq,bne_iff_ne,decide_eq_true_eq,hk,h0];clear h0 hk;constructor
 ·rintro⟨⟨h1,h2,h3,h4,h5⟩,h6,h7⟩;simp_all
 ·intro h1;simp_all
theorem partsP_3 {p:P12}(hk:p.k=3):partsP p=(p.s.toList==[] && (p.n==0 && (p.es.length==0 &&p.ks.length==2))):=by
 have h0:((p.ks.length:Nat):Int)=kidsK 3↔p.ks.length=2:=by simp[kidsK];try omega
 rw[Bool.eq_iff_iff];simp only[partsP,formP,Bool.and_eq_true,Bool.or_eq_true,beq_iff_eq,bne_iff_ne,decide_eq_true_eq,hk,h0];clear h0 hk;constructor
 ·rintro⟨⟨h1,h2,h3,h4,h5⟩,h6,h7⟩;simp_all
 ·intro h1;simp_all
theorem partsP_4 {p:P12}(hk:p.k=4):partsP p=(p.s.toList==[] && (p.n==0 && (noneE p.e && (p.es.length==0 &&p.ks.length==2)))):=by
 have h0:((p.ks.length:Nat):Int)=kidsK 4↔p.ks.length=2:=by simp[kidsK];try omega
 rw[Bool.eq_iff_iff];simp only[partsP,formP,Bool.and_eq_true,Bool.or_eq_true,beq_iff_eq,bne_iff_ne,decide_eq_true_eq,hk,h0];clear h0 hk;constructor
 ·rintro⟨⟨h1,h2,h3,h4,h5⟩,h6,h7⟩;simp_all
 ·intro h1;simp_all
theorem partsP_5 {p:P12}(hk:p.k=5):partsP p=(p.s.toList==[] && (p.n==0 && (noneE p.e && (p.es.length==0 &&p.ks.length==1)))):=by
 have h0:((p.ks.length:Nat):Int)=kidsK 5↔p.ks.length=1:=by simp[kidsK];try omega
 rw[Bool.eq_iff_iff];simp only[partsP,formP,Bool.and_eq_true,Bool.or_eq_true,beq_iff_eq,bne_iff_ne,decide_eq_true_eq,hk,h0];clear h0 hk;constructor
 ·rintro⟨⟨h1,h2,h3,h4,h5⟩,h6,h7⟩;simp_all
 ·intro h1;simp_all
theorem partsP_6 {p:P12}(hk:p.k=6):partsP p=(p.s.toList==[] && (noneE p.e && (decide (p.es.length≤1) &&p.ks.length==1))):=by
 have h0:((p.ks.length:Nat):Int)=kidsK 6↔p.ks.length=1:=by simp[kidsK];try omega
 rw[Bool.eq_iff_iff];simp only[partsP,formP,Bool.and_eq_true,Bool.or_eq_true,beq_iff_eq,bne_iff_ne,decide_eq_true_eq,hk,h0];clear h0 hk;constructor
 ·rintro⟨⟨h1,h2,h3,h4,h5⟩,h6,h7⟩;simp_all
 ·intro h1;simp_all
theorem partsP_x {p:P12}(h0:¬p.k=0)(h1:¬p.k=1)(h2:¬p.k=2)(h3:¬p.k=3)(h4:¬p.k=4)(h5:¬p.k=5)(h6:¬p.k=6):partsP p=false:=by
 cases e:partsP p with
 |false=>rfl
 |true=>
  rcases parts_in e with h|h|h|h|h|h|h
  ·exact absurd h h0
  ·exact absurd h h1
  ·exact absurd h h2
  ·exact absurd h h3
  ·exact absurd h h4
  ·exact absurd h h5
  ·exact absurd h h6
theorem planOk_any (p:P12)(a1 a2 a3:Option Addr)(c1 c2 c3 D N:Nat)(Fe:List Nat)(w:World)(ke:KidsIs w D (.slice a1 p.e.ks.length c1) p.e.ks Fe)(ae:Own w N Fe)(hn:wtE p.e≤1048576)(hes:p.es.length≤maxLen)(hks:p.ks.length≤maxLen):Calls Tryz.prog 97 #[(.agg #[.int .i64 p.k,.string p.s,.int .i64 p.e.k,.int .i64 p.e.n,.int .i64 p.e.v.k,.int .i64 p.e.v.n,.string p.e.v.s,.string p.e.p,(.slice a1 p.e.ks.length c1),(.slice a2 p.es.length c2),.int .i64 p.n,(.slice a3 p.ks.length c3)])] w fun x w'=>x=.returned (.bool (partsP p))∧Below w.heap.size w w':=by
 obtain⟨D,rfl⟩:=ke.succ;have hS:∀w2,Below w.heap.size w w2→Calls Tryz.prog 118 #[(.agg #[.int .i64 p.e.k,.int .i64 p.e.n,.int .i64 p.e.v.k,.int .i64 p.e.v.n,.string p.e.v.s,.string p.e.p,(.slice a1 p.e.ks.length c1)]),.agg #[.int .i64 0,.int .i64 0,.int .i64 0,.int .i64 0,.string ⟨#[]⟩,.string ⟨#[]⟩,.slice none 0 0]] w2 fun x w'=>x=.returned (.bool (noneE p.e))∧Below w2.heap.size w2 w':=fun w2 hb=>by
  have h:=implSame_any (d:=D+1) p.e (E7.mk 0 0 ⟨0,0,⟨#[]⟩⟩ ⟨#[]⟩ []) _ (.slice none 0 0) Fe [] w2 (ke.below hb) (nil_kids none 0 (Nat.zero_le _)) (ae.below ke.lt hb) hn;rw[noneE_same]at h;exact h
 clear ke ae hn;by_cases h0:p.k=0
 ·rw[partsP_0 h0,h0];exact parts_0 0 p.s p.e p.n a1 a2 a3 p.e.ks.length c1 p.es.length c2 p.ks.length c3 w (noneE p.e) hes hks hS
 by_cases h1:p.k=1
 ·rw[partsP_1 h1,h1];exact parts_1 0 p.s p.e p.n a1 a2 a3 p.e.ks.length c1 p.es.length c2 p.ks.length c3 w (noneE p.e) hes hks hS
 by_cases h2:p.k=2
 ·rw[partsP_2 h2,h2];exact parts_2 0 p.s p.e p.n a1 a2 a3 p.e.ks.length c1 p.es.length c2 p.ks.length c3 w (noneE p.e) hes hks hS
 by_cases h3:p.k=3
 ·rw[partsP_3 h3,h3];exact parts_3 0 p.s p.e p.n a1 a2 a3 p.e.ks.length c1 p.es.length c2 p.ks.length c3 w (noneE p.e) hes hks hS
 by_cases h4:p.k=4
 ·rw[partsP_4 h4,h4];exact parts_4 0 p.s p.e p.n a1 a2 a3 p.e.ks.length c1 p.es.length c2 p.ks.length c3 w (noneE p.e) hes hks hS
 by_cases h5:p.k=5
 ·rw[partsP_5 h5,h5];exact parts_5 0 p.s p.e p.n a1 a2 a3 p.e.ks.length c1 p.es.length c2 p.ks.length c3 w (noneE p.e) hes hks hS
 by_cases h6:p.k=6
 ·rw[partsP_6 h6,h6];exact parts_6 0 p.s p.e p.n a1 a2 a3 p.e.ks.length c1 p.es.length c2 p.ks.length c3 w (noneE p.e) hes hks hS
 rw[partsP_x h0 h1 h2 h3 h4 h5 h6];exact parts_x p.k p.s p.e p.n a1 a2 a3 p.e.ks.length c1 p.es.length c2 p.ks.length c3 w (noneE p.e) hes hks h0 h1 h2 h3 h4 h5 h6 hS
end
section
open Go.RowKit Go.Deep
theorem Tryz.infoRp:(Tryz.prog.info? 117).map (fun i=>(i.zero,i.size,i.bytes))=some (some .nilIface,1,16):=by kernel_rfl
def RdS (W0:World)(rs:List R3)(vd:Value)(f:Nat):Prop:=∀ (p:P12) (ue us u:Value) (g:List Nat) (Dd d N:Nat) (dp:Int) (w:World),Below W0.heap.size W0 w→p.wf→ListsP W0 Dd (PlansIs W0 Dd d) p ue us u g→Own W0 N g→wtP p≤1048576→dp+f=9→0≤dp→
  Calls Tryz.prog 71 #[vd,(.agg #[.int .i64 p.k,.string p.s,.int .i64 p.e.k,.int .i64 p.e.n,.int .i64 p.e.v.k,.int .i64 p.e.v.n,.string p.e.v.s,.string p.e.p,ue,us,.int .i64 p.n,u]),.int .i64 dp] w fun x w'=>((0≤wP8 rs f p∧∃v,x=.returned (.tuple #[v,.nilIface])∧RightIs W0 rs f (fun b=>w.heap.size≤b∧b<w'.heap.size) w' v p)∨(wP8 rs f p<0∧x=.returned (.tuple #[.nilIface,.iface 153 (.agg #[.int .i64 1])])))∧Below w.heap.size w w'
theorem rd_zero (W0:World)(rs:List R3)(vd:Value)(hvd:∃a l c,vd=.slice a l c):RdS W0 rs vd 0:=by
 intro p ue us u g Dd d N dp w hb0 hw hL ho hn hd hd0;obtain⟨a1,c1,a2,c2,a3,c3,rfl,rfl,rfl,_⟩:=hL.shape;obtain⟨ad,ld,cd,rfl⟩:=hvd;obtain rfl:dp=9:=by omega
 have hW:wP8 rs 0 p<0:=by rw[wP8];omega
 clear hL ho hn hw hd;go_enter Tryz.func71,Tryz.ntmps71;go_wp2;go_returns;exact⟨.inr ⟨hW,rfl⟩,bex⟩
theorem own_kid {w:World}{N b:Nat}{G:List (List Nat)}{k:Nat}{g:List Nat}(h:Own w N (b::G.flatten))(hg:G[k]?=some g):Own w N g:=by
 have hm:∀x∈g,x∈G.flatten:=fun x hx=>List.mem_flatten.2 ⟨g,mg8 hg,hx⟩;refine⟨?_,fun x hx=>h.2 x (List.mem_cons_of_mem _ (hm x hx))⟩;obtain⟨hk,rfl⟩:=gE1 hg;have e:G=G.take k++G[k]::G.drop (k+1):=by rw[←List.drop_eq_getElem_cons hk,List.take_append_drop]
 have h1:=(List.nodup_cons.1 h.1).2;rw[e,List.flatten_append,List.flatten_cons]at h1;exact(List.nodup_append.1 (List.nodup_append.1 h1).2.1).1
theorem out_pos' {rs:List R3}{f:Nat}{p:P12}(hdb:okDb rs=true)(hp:partsP p=true)(hk:∀q∈p.ks,0≤wP8 rs f q)(h:okTop rs p (wP8 rs f (p.ks.getD 0 .nil)) (wP8 rs f (p.ks.getD 1 .nil))=true):0≤outW rs p (wP8 rs f (p.ks.getD 0 .nil)) (wP8 rs f (p.ks.getD 1 .nil)):=by
 have hks:=parts_kids hp;rcases parts_in hp with e|e|e|e|e|e|e
 ·unfold outW;rw[if_pos e];unfold relW;split
  ·omega
  ·exact relOf_pos hdb ‹_›
 ·rw[e]at hks;obtain⟨q,hq⟩:=one_kid hks;have:=hk q (by simp[hq]);rw[kid0 hq];simp[outW,e];exact this
 ·simp[outW,e];try omega
 ·rw[e]at hks;obtain⟨q,r,hq⟩:=two_kids hks;have h1:=hk q (by simp[hq]);have h2:=hk r (by simp[hq]);rw[(kid00 hq).1,(kid00 hq).2];simp[outW,e];omega
 ·rw[e]at hks;obtain⟨q,r,hq⟩:=two_kids hks;have h1:=hk q (by simp[hq]);rw[(kid00 hq).1];simp[outW,e];exact h1
 ·rw[e]at hks;obtain⟨q,hq⟩:=one_kid hks;have:=hk q (by simp[hq]);rw[kid0 hq];simp[outW,e];exact this
 ·simp[okTop,e]at h;simp[outW,e];omega
theorem rd_step {W0:World}{rs:List R3}{vd:Value}{Fd:List Nat}(hdb:okDb rs=true)(hR:RelsF W0 vd rs Fd){f:Nat}(ih:RdS W0 rs vd f):RdS W0 rs vd (f+1):=by
 intro p ue us u g Dd d N dp w hb0 hw hL ho hn hd hd0;have hwt:=wtP_eq p;have hzw:=hb0.size;have HL:=hL;obtain⟨i0,hi,hz0,hz1,hz2⟩:=info_parts Tryz.infoRp;obtain⟨a1,c1,a2,c2,a3,c3,rfl,rfl,rfl,s1,s2,s3,s4,s5,s6⟩:=hL.shape;obtain⟨ad,ld,cd,rfl⟩:=hR.is.shape;obtain⟨Fe,Fs,h,rfl,ke,kes,kp⟩:=hL;have hnd:=List.nodup_append.1 ho.1;have ae:Own W0 N Fe:=⟨hnd.1,fun b hb=>ho.2 b (List.mem_append_left _ hb)⟩;have ah:Own W0 N h:=⟨(List.nodup_append.1 hnd.2.1).2.1,fun b hb=>ho.2 b (List.mem_append_right _ (List.mem_append_right _ hb))⟩;obtain⟨d,rfl⟩:∃d',d=d'+1:=by cases d with|zero=>exact kp.elim|succ d=>exact⟨d,rfl⟩
 obtain⟨a,c,b,o,G0,e0,hl,hc,hG0,_,ha⟩:=kp.pick;injection e0 with e1 e2 e3;subst e1 e3;unfold maxLen at hc s2 s4 s6;have hB:=bxP_new w p (.slice a1 p.e.ks.length c1) (.slice a2 p.es.length c2) (.slice a3 p.ks.length c3) 66;have hI:=fun(x:P12) (y1 y2 y3:Value) (gx:List Nat) (w2:World) (hb:Below w.heap.size w w2) (hx:x.wf) (hLx:ListsP W0 Dd (PlansIs W0 Dd d) x y1 y2 y3 gx) (hO:Own W0 N gx) (hnx:wtP x≤1048576)=>ih x y1 y2 y3 gx Dd d N (dp+1) w2 (hb0.trans (hb.mono hzw)) hx hLx hO hnx (by omega) (by omega);have hPt:=fun(w2:World) (hb:Below w.heap.size w w2)=>planOk_any p a1 a2 a3 c1 c2 c3 Dd N Fe w2 (ke.below (hb0.trans (hb.mono hzw))) (ae.below ke.lt (hb0.trans (hb.mono hzw))) (by omega) (by unfold maxLen;omega) (by unfold maxLen;omega);have HRg:Hid (∀ (w2:World),Below w.heap.size w w2→∀ (D:Nat→Prop) (gb c:Nat) (vals:List Value),vals.length=p.ks.length→(vals.length≤c∧c≤maxLen)→(∀k x,vals[k]?=some x→w2.cell? ⟨gb,k,none⟩=some x)→(∀ (k:Nat) (q:P12) (x:Value),p.ks[k]?=some q→vals[k]?=some x→RightIs W0 rs f D w2 x q)→(∀q∈p.ks,0≤wP8 rs f q)→partsP p=true→_):=fun w2 hb D gb c vals hvl hcap hcell hK hkw hp=>rightOf_any (f:=f) (hb0.trans (hb.mono hzw)) hdb hR hw hn HL ho hp gb c vals hvl hcap hcell hK hkw;obtain⟨bo,HBO⟩:∃q,Hid (partsP p=q):=⟨_,rfl⟩;rw[HBO.out]at hPt;have hdp:¬dp>8:=by omega
 have hdw:wrap64 (dp+1)=dp+1:=by unfold wrap64;omega
 have HA:Hid (∀ (k:Nat),k<p.ks.length→a3=some ⟨b,o,none⟩∧b<W0.heap.size∧h=b::G0.flatten∧PLies W0 Dd d b o p.ks G0):=ha;clear ih kes s1 s3 s5 HL ha;go_enter Tryz.func71,Tryz.ntmps71;go_wp2_with fail;refine cM8 (hPt _ bex) ?_;rintro z w1 ⟨rfl,hb1⟩;have hzv1:=hb1.size;simp at hzv1;have hB1:=hB.below hb1;have bel1:Below w.heap.size w w1:=bex;clear hPt hb1 hB;cases bo with
 |false=>
  have HF:Hid (wP8 rs (f+1) p<0):=by show _<_;rw[parts_no HBO.out];decide
  clear HRg hI;go_wp2;go_returns;exact⟨.inr ⟨HF.out,rfl⟩,bel1⟩
 |true=>
  obtain⟨_,_,_,_,_,_,_,_,_,_,_,_,b11⟩:=id hB1;go_wp2_with fail;go_loopw [8,27] (fun y i wr=> ∃ (k gb cp:Nat) (vals:List Value) (D:Nat→Prop),k≤p.ks.length∧i=.int .i64 k∧y=.slice (some ⟨gb,0,none⟩) k cp∧wr.ownsRow w1.heap.size 117 1 y k vals∧(∀b,D b→w1.heap.size≤b∧b<wr.heap.size∧b≠gb)∧(∀ (j:Nat) (q:P12) (v:Value),p.ks[j]?=some q→vals[j]?=some v→RightIs W0 rs f D wr v q)∧(∀q∈p.ks.take k,0≤wP8 rs f q)∧BxP wr w.heap.size p (.slice a1 p.e.ks.length c1) (.slice a2 p.es.length c2) (.slice a3 p.ks.length c3)∧Below w.heap.size w wr∧w1.heap.size≤wr.heap.size) (fun _ i _=>p.ks.length - (intOf i).toNat)
  case atStart=>exact⟨0,w1.heap.size,0,[],fun _=>False,Nat.zero_le _,rfl,rfl,own_none (by simp) (Nat.le_refl _) _ _,fun _ h=>h.elim,fun j q v _ h=>by simp at h,fun q h=>by simp at h,hB1.below bex,bex,by simp⟩
  case round=>
   obtain⟨k,gb,cp,vals,D,hkk,rfl,rfl,hO,hD,hRi,hwd,hBr,hb,hzr⟩:=hrel;have hzb:=hb.size;have hgb:=hO.lt gb rfl;have hfl:vals.length=k:=by have:=hO.1;omega
   have belW:Below W0.heap.size W0 wr:=hb0.trans (hb.mono hzw);by_cases hlt:k<p.ks.length
   ·obtain⟨rfl,hblt,hFh,hLk⟩:=HA.out k hlt;obtain⟨x,g,ue,us',u,hx,hg,hxw,hcl,hLx,_⟩:=hLk.at hG0 hblt (Below.refl _ _) hlt;obtain⟨q0,q1,q2,q3,q4,q5,q6,q7,q8,q9,q10,q11⟩:=hcl.keep (belW.block b hblt);obtain⟨x_e,x_E,x_s,x_S,x_k,x_K,rfl,rfl,rfl,_,_,_,_,_,_⟩:=hLx.shape;have hbr:b<wr.heap.size:=Nat.lt_of_lt_of_le hblt belW.size;have hxm:=mg8 hx;have hxn:wtP x≤1048576:=by have:=wtP_mem hxm;omega
    have hOx:Own W0 N g:=own_kid (hFh▸ah) hg;have hkI:(k:Int)<p.ks.length:=by omega
    have HX:Hid (p.ks[k]?=some x):=hx;have hIx:=fun(X:World) (hX:Below wr.heap.size wr X)=>hI x _ _ _ g X (hb.trans (hX.mono hzb)) hxw hLx hOx hxn;have hkl:p.ks.length≤1048576:=by omega
    clear hLk hx hg hxw hcl hLx hOx hxn hI hFh ah hwt;go_wp2_with fail;refine cM8 (hIx _ bex) ?_;rintro z w2 ⟨hres,hb2⟩;have hzv2:=hb2.size;simp at hzv2;have bel2:Below wr.heap.size wr w2:=bex;have belw2:Below w.heap.size w w2:=hb.trans (bel2.mono hzb);have hBr2:=hBr.below bel2;have hO2:=ownsRow_blk hO bel2;clear hIx q0 q1 q2 q3 q4 q5 q6 q7 q8 q9 q10 q11 hb2 hBr;rcases hres with⟨hwx,v,rfl,hRv⟩|⟨hwx,rfl⟩
    ·obtain⟨_,_,_,_,_,⟨tt,xx,kk,rfl,_,_⟩,_⟩:=hRv.parts;clear hO;go_wp2_with(at_builtin;refine wpList_append_own_at _ rfl _ _ 154 rfl w1.heap.size 117 i0 _ 1 16 Tryz.underlying154 hi hz0 hz1 hz2 rfl (by decide) _ _ _ rfl (hO2.alloc _) ⟨w2.heap.size,0,none⟩ 1 1 [.iface tt xx] rfl rfl ?c2 (by simp[Value.oneCell']) ?c3 ?c4 ?c5 ?_)
     case c2=>exact World.news_of_block (cs:=#[.iface tt xx]) (t:=117) (fr:=(0,0)) (heap_alloc_new w2 _)
     case c3=>unfold maxLen;omega
     case c4=>omega
     case c5=>first|omega|(simp;omega)
     intro v3 w3 hown3 hgrow _ hat;have hz3:=hgrow.size;simp at hz3;obtain⟨gg,cap,rfl⟩:=ownsRow_succ hown3;have hgg:gg=gb∨gg=w2.heap.size+1:=by
      rcases hat with h|h
      ·exact .inl (by simpa [Value.ownBlock]using h)
      ·exact .inr (by simpa [Value.ownBlock]using h)
     have farb:∀b,b<w2.heap.size→b≠gb→w3.heap[b]?=w2.heap[b]?:=fun b hb hne=>(hgrow.block b (by simp;omega) (by simp[Value.ownBlock];exact fun h=>hne h)).trans (bA8 _ _ _ hb);have D1:∀b,(D b∨(wr.heap.size+1≤b∧b<w2.heap.size))→w1.heap.size≤b∧b<w3.heap.size∧b≠gg:=by
      intro b hb;rcases hb with hb|hb
      ·have:=hD b hb;omega
      ·omega
     have R1:∀ (j:Nat) (q:P12) (y:Value),p.ks[j]?=some q→(vals++ [.iface tt xx])[j]?=some y→RightIs W0 rs f (fun b=>D b∨(wr.heap.size+1≤b∧b<w2.heap.size)) w3 y q:=by
      intro j x' y hx' hy;rcases Nat.lt_or_ge j k with hj|hj
      ·rw[List.getElem?_append_left (by omega)]at hy;refine(hRi j x' y hx' hy).keep (fun b hb=> .inl hb) fun b hb=>?_;have:=hD b hb;exact(farb b (by omega) (by omega)).trans (bel2.block b (by omega))
      ·rw[List.getElem?_append_right (by omega)]at hy;have hjk:j=k:=by
        have:j -vals.length=0:=by
         rcases Nat.eq_zero_or_pos (j -vals.length)with h|h
         ·exact h
         ·rw[List.getElem?_eq_none (by simp;omega)]at hy;cases hy
        omega
       subst hjk;rw[hfl,Nat.sub_self]at hy;simp at hy;subst hy;obtain rfl:x=x':=Option.some.inj (HX.out.symm.trans hx');refine hRv.keep (fun b hb=> .inr ?_) fun b hb=>?_
       ·simp at hb;exact farb b (by omega) (by omega)
       ·simp at hb;omega
     have hwd':∀q∈p.ks.take (k+1),0≤wP8 rs f q:=fun q hq=>by
      obtain⟨hk',e⟩:=gE1 HX.out;rw[List.take_succ_eq_append_getElem hk',e]at hq;rcases List.mem_append.1 hq with hq|hq
      ·exact hwd q hq
      ·rw[List.mem_singleton.1 hq];exact hwx
     have bel3:Below w.heap.size w w3:=Below.grown (belw2.alloc belw2.size _) hgrow (by simp;omega) (fun b hb=>by simp[Value.ownBlock]at hb;omega);have hBr3:BxP w3 w.heap.size p (.slice a1 p.e.ks.length c1) (.slice a2 p.es.length c2) (.slice (some ⟨b,o,none⟩) p.ks.length c3):=by
      have hk:=farb w.heap.size (by omega) (by omega);obtain⟨hl,h0,h1,h2,h3,h4,h5,h6,h7,h8,h9,h10,h11⟩:=hBr2;exact⟨by omega,(cb8 hk).trans h0,(cb8 hk).trans h1,(cb8 hk).trans h2,(cb8 hk).trans h3,(cb8 hk).trans h4,(cb8 hk).trans h5,(cb8 hk).trans h6,(cb8 hk).trans h7,(cb8 hk).trans h8,(cb8 hk).trans h9,(cb8 hk).trans h10,(cb8 hk).trans h11⟩
     clear hgrow hat farb hRv hRi hO2 hBr2;go_wp2_with fail;exact⟨⟨k+1,gg,cap,_,_,hlt,by simp,rfl,hown3,D1,R1,hwd',hBr3,bel3,by omega⟩,by simp[intOf];omega⟩
    ·have HF:Hid (wP8 rs (f+1) p<0):=by show _<_;rw[kid_no (mg8 HX.out) hwx];decide
     clear hO HRg;go_wp2;go_returns;exact⟨.inr ⟨HF.out,rfl⟩,belw2⟩
   ·obtain rfl:k=p.ks.length:=by omega
    rw[List.take_length]at hwd;have hcap:vals.length≤cp∧cp≤maxLen:=by
     rcases hO.2 with⟨h,_⟩|⟨g,cap,cur,h,_,_,h3,h4,_⟩
     ·cases h
     ·injection h with h1 h2 h3';subst h3';exact⟨by omega,h4⟩
    have hcell:∀j x,vals[j]?=some x→wr.cell? ⟨gb,j,none⟩=some x:=fun j x hj=>by
     obtain⟨hj',rfl⟩:=gE1 hj;exact(hO.cellAt j (by omega)).trans (by simp)
    have hRr:=HRg.out wr hb D gb cp vals hfl hcap hcell hRi hwd HBO.out;have HW:Hid (okTop rs p (wP8 rs f (p.ks.getD 0 .nil)) (wP8 rs f (p.ks.getD 1 .nil))=true→outW rs p (wP8 rs f (p.ks.getD 0 .nil)) (wP8 rs f (p.ks.getD 1 .nil))≤12→wP8 rs (f+1) p=outW rs p (wP8 rs f (p.ks.getD 0 .nil)) (wP8 rs f (p.ks.getD 1 .nil))):=fun h1 h2=>width_yes HBO.out hwd h1 h2;have HN1:Hid (okTop rs p (wP8 rs f (p.ks.getD 0 .nil)) (wP8 rs f (p.ks.getD 1 .nil))=false→wP8 rs (f+1) p= -1):=fun h=>top_no h;have HN2:Hid (12<outW rs p (wP8 rs f (p.ks.getD 0 .nil)) (wP8 rs f (p.ks.getD 1 .nil))→wP8 rs (f+1) p= -1):=fun h=>wide_no h;have HP:Hid (okTop rs p (wP8 rs f (p.ks.getD 0 .nil)) (wP8 rs f (p.ks.getD 1 .nil))=true→0≤outW rs p (wP8 rs f (p.ks.getD 0 .nil)) (wP8 rs f (p.ks.getD 1 .nil))):=fun h=>out_pos' hdb HBO.out hwd h;generalize wP8 rs f (p.ks.getD 0 .nil)=wv at*;generalize wP8 rs f (p.ks.getD 1 .nil)=wu at*;rw[hfl]at hRr;obtain⟨_,b0,b1,b2,b3,b4,b5,b6,b7,b8,b9,b10,b11'⟩:=id hBr;clear HRg HA hI ah;go_wp2_with fail;refine cM8 hRr ?_;rintro z w2 ⟨hout,hb2⟩;have belw2:Below w.heap.size w w2:=hb.trans (hb2.mono hzb);have hzv2:=hb2.size;clear hRr b0 b1 b2 b3 b4 b5 b6 b7 b8 b9 b10 b11' b11;rcases hout with⟨hok,y,ut,rfl,hF,hut⟩|⟨hok,rfl⟩
    ·obtain⟨tt,xx,kk,rfl,hM0,_⟩:=hF.wid;obtain⟨ta,tl,tc,rfl⟩:∃a l c,ut=.slice a l c:=by rcases hut with rfl|⟨_,rfl⟩<;>exact⟨_,_,_,rfl⟩
     have HUT:Hid (_∨_):=hut;obtain⟨ow,HOW⟩:∃q,Hid (outW rs p wv wu=q):=⟨_,rfl⟩;rw[HOW.out]at hM0;clear hut;by_cases h12:ow>12
     ·have HF:Hid (wP8 rs (f+1) p= -1):=HN2.out (by rw[HOW.out];exact h12);go_wp2_with(go_at_call 191;refine cM8 (frameWidth_any _ _ _ _ _ _) ?_;rintro z w3 ⟨rfl,hb3⟩);go_returns;exact⟨.inr ⟨by rw[HF.out];decide,rfl⟩,belw2.trans (hb3.mono belw2.size)⟩
     ·have HF:Hid (wP8 rs (f+1) p=ow):=(HW.out hok (by rw[HOW.out];omega)).trans HOW.out;go_wp2_with(go_at_call 191;refine cM8 (frameWidth_any _ _ _ _ _ _) ?_;rintro z w3 ⟨rfl,hb3⟩);go_returns;have hz3:=hb3.size;refine⟨.inl ⟨by rw[HF.out,←HOW.out];exact HP.out hok,_,rfl,?_⟩,belw2.trans (hb3.mono belw2.size)⟩;have hcell3:∀j x,vals[j]?=some x→w3.cell? ⟨gb,j,none⟩=some x:=fun j x hj=>((bc8 hb3).1 gb j (by omega)).trans (((bc8 hb2).1 gb j (by omega)).trans (hcell j x hj));refine⟨_,vals,by rw[HF.out,←HOW.out];exact hF,?_,hfl,fun j q x hq hx=>(hRi j q x hq hx).keep (fun b hb=>?_) fun b hb=>?_⟩
      ·rcases HUT.out with e|⟨h0,e⟩
       ·rw[e];exact⟨some ⟨gb,0,none⟩,cp,by rw[hfl],hcap.2,fun _=>⟨gb,rfl,⟨by omega,by omega⟩,hcell3⟩⟩
       ·rw[e];exact⟨none,0,by rw[hfl,h0],by decide,fun h=>by omega⟩
      ·have:=hD b hb;exact⟨by omega,by omega⟩
      ·have:=hD b hb;exact(hb3.block b (by omega)).trans (hb2.block b (by omega))
    ·have HF:Hid (wP8 rs (f+1) p= -1):=HN1.out hok;go_wp2;go_returns;exact⟨.inr ⟨by rw[HF.out];decide,rfl⟩,belw2⟩
end
end
end Go.Proofs.YtjhhmnjpojnoiaaGreatDoor
