/- Own texts, joined: contracts that the law's proof goes by. -/
import Derived.Test.YtflokiejcjjbiaaGreatGLFits45
import Derived.Test.YtflokiejcjjbiaaGreatGLFits2
import Derived.Test.YtflokiejcjjbiaaGreatGLFits19
import Derived.Test.YtflokiejcjjbiaaGreatGLFits20
import Derived.Test.YtflokiejcjjbiaaGreatGLFits48
import Derived.Test.YtflokiejcjjbiaaGreatGLFits51
set_option maxHeartbeats 16000000
set_option maxRecDepth 100000
set_option linter.unusedVariables false
set_option linter.unusedSimpArgs false
namespace Go.Proofs.YtflokiejcjjbiaaGreat
section
open Go.RowKit Go.Deep Go.ChangeShapes Go.WideShapes
def FtS (V:E7→List V3→V3)(rs:List R3)(f:Nat):Prop:=∀ (p:P12) (ue us u:Value) (g:List Nat) (D d:Nat) (vd:Value) (Fd:List Nat) (w:World),p.wf→ListsP w D (PlansIs w D d) p ue us u g→wtP p≤1048576→RelsF w vd rs Fd→PreP f p→0≤wP8 rs f p→
  Calls Tryz.prog 18 #[vd,(.agg #[.int .i64 p.k,.string p.s,.int .i64 p.e.k,.int .i64 p.e.n,.int .i64 p.e.v.k,.int .i64 p.e.v.n,.string p.e.v.s,.string p.e.p,ue,us,.int .i64 p.n,u])] w fun x w'=>x=.returned (.bool (mP8 V rs f p).1)∧Below w.heap.size w w'
theorem mean_eq (V:E7→List V3→V3)(rs:List R3)(f:Nat)(p:P12):(mP8 V rs (f+1) p).1=(p.ks.all (fun q=>(mP8 V rs f q).1) &&okBag (wP8 rs (f+1) p) (mP8 V rs (f+1) p).2):=by rw[mP8]
theorem ftS_step {m:Int}{V:E7→List V3→V3}(hV:VOk m V){rs:List R3}(hdb:okDb rs=true)(hrw:RsWf rs){f:Nat}(ih:FtS V rs f):FtS V rs (f+1):=by
 intro p ue us u g D d vd Fd w hw hL hn hR hP hW;have hwt:=wtP_eq p;have hL0:=hL;obtain⟨a1,c1,a2,c2,a3,c3,rfl,rfl,rfl,s1,s2,s3,s4,s5,s6⟩:=hL.shape;obtain⟨ad,ld,cd,rfl⟩:=hR.is.shape;obtain⟨Fe,Fs,h,rfl,ke,kes,kp⟩:=hL;obtain⟨d,rfl⟩:∃d',d=d'+1:=by cases d with|zero=>exact kp.elim|succ d=>exact⟨d,rfl⟩
 obtain⟨a,c,b,o,G0,e0,hl,hc,hG0,_,ha⟩:=kp.pick;injection e0 with e1 e2 e3;subst e1 e3;unfold maxLen at hc;have hkw:∀q∈p.ks,0≤wP8 rs f q:=(widthP_inv hW).2.1;have hI:=fun(x:P12) (y1 y2 y3:Value) (gx:List Nat) (w2:World) (hw2:x.wf) (hL2:ListsP w2 D (PlansIs w2 D d) x y1 y2 y3 gx) (hn2:wtP x≤1048576) (hb:Below w.heap.size w w2) (hx:x∈p.ks)=>ih x y1 y2 y3 gx D d _ Fd w2 hw2 hL2 hn2 (hR.below hb) (hP.2.2 x hx) (hkw x hx);have hA:=fun(w2:World) (hb:Below w.heap.size w w2) (hK:∀q∈p.ks,(mP8 V rs f q).1=true)=>anS_any hV hdb hrw (f+1) p _ _ _ _ D (d+1) _ Fd w2 hw (hL0.below hb) hn (hR.below hb) hP hW (by rw[Nat.add_sub_cancel];exact hK);have hRaw:=fun(hK:∀q∈p.ks,(mP8 V rs f q).1=true)=>raw_mean hV hdb hrw (f+1) p hP hW (by rw[Nat.add_sub_cancel];exact hK);obtain⟨r,HR⟩:=hidW (mP8 V rs (f+1) p).1;have HE:Hid (r=(p.ks.all (fun q=>(mP8 V rs f q).1) &&okBag (wP8 rs (f+1) p) (mP8 V rs (f+1) p).2)):=HR.out.symm.trans (mean_eq V rs f p);rw[HR.out];have hB:=bxP_new w p (.slice a1 p.e.ks.length c1) (.slice a2 p.es.length c2) (.slice a3 p.ks.length c3) 42;have hWl: -9223372036854775808≤wP8 rs (f+1) p∧wP8 rs (f+1) p≤12:=⟨by omega,wL8 _ _ _⟩;clear ih s1 s2 s3 s4 s5 s6 hL0;go_enter Tryz.func18,Tryz.ntmps18;go_wp2_with fail;go_loopw [5] (fun i wr=> ∃k:Nat,k≤p.ks.length∧i=.int .i64 k∧(p.ks.take k).all (fun q=>(mP8 V rs f q).1)=true∧BxP wr w.heap.size p (.slice a1 p.e.ks.length c1) (.slice a2 p.es.length c2) (.slice a3 p.ks.length c3)∧Below w.heap.size w wr) (fun i _=>p.ks.length - (intOf i).toNat)
 case atStart=>exact⟨0,Nat.zero_le _,rfl,by simp,hB.below bex,bex⟩
 case round=>
  obtain⟨k,hk,rfl,hall,hBr,hb⟩:=hrel;have HALL:Hid ((p.ks.take k).all (fun q=>(mP8 V rs f q).1)=true):=hall;have hzb:=hb.size;clear hall;by_cases hlt:k<p.ks.length
  ·obtain⟨rfl,hblt,_,hL⟩:=ha k hlt;obtain⟨x,g,ue,us',u,hx,hg,hxw,⟨q0,q1,q2,q3,q4,q5,q6,q7,q8,q9,q10,q11⟩,hLx,hbr⟩:=hL.at hG0 hblt hb hlt;obtain⟨x_e,x_E,x_s,x_S,x_k,x_K,rfl,rfl,rfl,_,_,_,_,_,_⟩:=hLx.shape;have hxm:=mg8 hx;have hxn:wtP x≤1048576:=by have:=wtP_mem hxm;omega
   have hV1:=hI x _ _ _ g wr hxw hLx hxn hb hxm;obtain⟨_,_,_,_,_,_,_,_,_,_,_,_,b11⟩:=id hBr;obtain⟨bo,HBO⟩:=hidW (mP8 V rs f x).1;rw[HBO.out]at hV1;have HT:Hid (p.ks.take (k+1)=p.ks.take k++ [x]):=by
    obtain⟨hk',rfl⟩:=gE1 hx;exact List.take_succ_eq_append_getElem hk'
   have HMEM:Hid (x∈p.ks):=hxm;clear ha hL hx hg hI hA hRaw hxw hLx hxn hxm;go_wp2_with fail;refine cM8 hV1 ?_;rintro z w2 ⟨rfl,hb2⟩;have bel2:Below w.heap.size w w2:=hb.trans (hb2.mono hzb);have hBr2:=hBr.below hb2;clear hV1 hb2 q0 q1 q2 q3 q4 q5 q6 q7 q8 q9 q10 q11 b11 hBr;cases bo with
   |false=>
    have HF:Hid (r=false):=by
     show _=_;rw[HE.out,Bool.and_eq_false_iff];left;rw[List.all_eq_false];exact⟨x,HMEM.out,by rw[HBO.out];decide⟩
    go_wp2;go_returns;exact⟨by rw[HF.out];rfl,bel2⟩
   |true=>
    have HN:Hid ((p.ks.take (k+1)).all (fun q=>(mP8 V rs f q).1)=true):=by
     show _=_;rw[HT.out,List.all_append,HALL.out];simp[HBO.out]
    go_wp2_with fail;exact⟨⟨k+1,hlt,by simp,HN.out,hBr2,bel2⟩,by simp[intOf];omega⟩
  ·obtain rfl:k=p.ks.length:=by omega
   have hall:=HALL.out;rw[List.take_length]at hall;have hK:∀q∈p.ks,(mP8 V rs f q).1=true:=fun q hq=>List.all_eq_true.1 hall q hq;have HF:Hid (r=okBag (wP8 rs (f+1) p) (mP8 V rs (f+1) p).2):=by show _=_;rw[HE.out,hall,Bool.true_and]
   have hAn:=fun w2 hb2=>hA w2 hb2 hK;have hwf:=(hRaw hK).wf;generalize wP8 rs (f+1) p=RW at*;generalize(mP8 V rs (f+1) p).2=RC at*;obtain⟨_,b0,b1,b2,b3,b4,b5,b6,b7,b8,b9,b10,b11⟩:=hBr;clear ha hI hA hRaw HALL hall hK;go_wp2_with fail;refine cM8 (hAn _ hb) ?_;rintro z w2 ⟨⟨u2,us2,G2,rfl,hB2⟩,hb2⟩;obtain⟨F2,hF2,_⟩:=hB2.rowsF;obtain⟨a5,c5,rfl⟩:=hB2.shape;have bel2:Below w.heap.size w w2:=hb.trans (hb2.mono hzb);clear hAn hb2 hB2 b0 b1 b2 b3 b4 b5 b6 b7 b8 b9 b10 b11;go_wp2_with fail;refine cM8 (specBagOk_any RW (.slice a5 RC.length c5) RC w2 hwf hF2.is) ?_;rintro z w3 ⟨rfl,hb3⟩;have bel3:Below w.heap.size w w3:=bel2.trans (hb3.mono bel2.size);go_wp2;go_returns;exact⟨by rw[HF.out];rfl,bel3⟩
theorem ftS_any {m:Int}{V:E7→List V3→V3}(hV:VOk m V){rs:List R3}(hdb:okDb rs=true)(hrw:RsWf rs):∀f,FtS V rs f
 |0=>fun p ue us u g D d vd Fd w hw hL hn hR hP hW=>absurd hW (by rw[wP8];omega)
 |f+1=>ftS_step hV hdb hrw (ftS_any hV hdb hrw f)
theorem specWidth_any (rs:List R3)(p:P12)(ue us u:Value)(g:List Nat)(D d:Nat)(vd:Value)(Fd:List Nat)(w:World)(hw:p.wf)(hL:ListsP w D (PlansIs w D d) p ue us u g)(hn:wtP p≤1048576)(hR:RelsF w vd rs Fd):Calls Tryz.prog 17 #[vd,(.agg #[.int .i64 p.k,.string p.s,.int .i64 p.e.k,.int .i64 p.e.n,.int .i64 p.e.v.k,.int .i64 p.e.v.n,.string p.e.v.s,.string p.e.p,ue,us,.int .i64 p.n,u])] w fun x w'=>x=.returned (.int .i64 (wP8 rs 9 p))∧Below w.heap.size w w':=by
 obtain⟨a1,c1,a2,c2,a3,c3,rfl,rfl,rfl,_,_,_,_,_,_⟩:=hL.shape;obtain⟨ad,ld,cd,rfl⟩:=hR.is.shape;have hI:∀w2,Below w.heap.size w w2→Calls Tryz.prog 32 #[.slice ad ld cd,(.agg #[.int .i64 p.k,.string p.s,.int .i64 p.e.k,.int .i64 p.e.n,.int .i64 p.e.v.k,.int .i64 p.e.v.n,.string p.e.v.s,.string p.e.p,(.slice a1 p.e.ks.length c1),(.slice a2 p.es.length c2),.int .i64 p.n,(.slice a3 p.ks.length c3)]),.int .i64 8] w2 fun x w'=>x=.returned (.int .i64 (wP8 rs 9 p))∧Below w2.heap.size w2 w':=fun w2 hb=>wdI_any rs 9 p _ _ _ g D d _ Fd w2 hw (hL.below hb) hn (hR.below hb) (Nat.le_refl _);clear hL hR;go_enter Tryz.func17,Tryz.ntmps17;go_wp2_with fail;refine cM8 (hI _ bex) ?_;rintro z w2 ⟨rfl,hb2⟩;have hz2:=hb2.size;(try simp at hz2);go_wp2;go_returns;exact⟨rfl,bex⟩
theorem specFits_any {m:Int}{V:E7→List V3→V3}(hV:VOk m V)(rs:List R3)(p:P12)(ue us u:Value)(g:List Nat)(D d:Nat)(vd:Value)(Fd:List Nat)(w:World)(hw:p.wf)(hL:ListsP w D (PlansIs w D d) p ue us u g)(hn:wtP p≤1048576)(hR:RelsF w vd rs Fd)(hrw:RsWf rs):Calls Tryz.prog 6 #[vd,(.agg #[.int .i64 p.k,.string p.s,.int .i64 p.e.k,.int .i64 p.e.n,.int .i64 p.e.v.k,.int .i64 p.e.v.n,.string p.e.v.s,.string p.e.p,ue,us,.int .i64 p.n,u])] w fun x w'=>x=.returned (.bool (fitsP V rs p))∧Below w.heap.size w w':=by
 have hP:PreP 9 p:=preP_of 9 p w D d ue us u g hw hL hn;obtain⟨a1,c1,a2,c2,a3,c3,rfl,rfl,rfl,_,_,_,_,_,_⟩:=hL.shape;obtain⟨ad,ld,cd,rfl⟩:=hR.is.shape;have hDb:=fun(w2:World) (hb:Below w.heap.size w w2)=>specDbOk_any (.slice ad ld cd) rs w2 hrw (hR.is.below hb);have hWd:=fun(w2:World) (hb:Below w.heap.size w w2)=>specWidth_any rs p _ _ _ g D d (.slice ad ld cd) Fd w2 hw (hL.below hb) hn (hR.below hb);have hFt:=fun(hdb:okDb rs=true) (hW:0≤wP8 rs 9 p) (w2:World) (hb:Below w.heap.size w w2)=>ftS_any hV hdb hrw 9 p _ _ _ g D d (.slice ad ld cd) Fd w2 hw (hL.below hb) hn (hR.below hb) hP hW;have hB:=bxP_new w p (.slice a1 p.e.ks.length c1) (.slice a2 p.es.length c2) (.slice a3 p.ks.length c3) 42;obtain⟨r,HR⟩:=hidW (fitsP V rs p);have HE:Hid (r=(okDb rs &&decide (0≤wP8 rs 9 p) && (mP8 V rs 9 p).1)):=HR.out.symm;rw[HR.out];obtain⟨bo,HBO⟩:=hidW (okDb rs);rw[HBO.out]at hDb;have hFt':Hid (bo=true→0≤wP8 rs 9 p→∀ (w2:World),Below w.heap.size w w2→_):=fun h=>hFt (HBO.out.trans h);clear hL hR hP hFt;go_enter Tryz.func6,Tryz.ntmps6;go_wp2_with fail;refine cM8 (hDb _ bex) ?_;rintro z w1 ⟨rfl,hb1⟩;have hB1:=hB.below hb1;have bel1:Below w.heap.size w w1:=bex;clear hDb hb1 hB;cases bo with
 |false=>
  have HF:Hid (r=false):=by show _=_;rw[HE.out,HBO.out];rfl
  clear hFt';go_wp2;go_returns;exact⟨by rw[HF.out];rfl,bel1⟩
 |true=>
  obtain⟨_,b0,b1,b2,b3,b4,b5,b6,b7,b8,b9,b10,b11⟩:=id hB1;obtain⟨W,HW⟩:=hidW (wP8 rs 9 p);rw[HW.out]at hWd;go_wp2_with fail;refine cM8 (hWd _ bel1) ?_;rintro z w2 ⟨rfl,hb2⟩;have hB2:=hB1.below hb2;have bel2:Below w.heap.size w w2:=bel1.trans (hb2.mono bel1.size);clear hWd hb2 hB1 b0 b1 b2 b3 b4 b5 b6 b7 b8 b9 b10 b11;by_cases h0:0≤W
  ·have hF2:=hFt'.out (by first|rfl|trivial) (by rw[HW.out];exact h0);have HF:Hid (r=(mP8 V rs 9 p).1):=by show _=_;rw[HE.out,HBO.out,HW.out,show decide (0≤W)=true by simpa using h0];rfl
   obtain⟨_,b0,b1,b2,b3,b4,b5,b6,b7,b8,b9,b10,b11⟩:=hB2;clear hFt';go_wp2_with fail;refine cM8 (hF2 _ bel2) ?_;rintro z w3 ⟨rfl,hb3⟩;have bel3:Below w.heap.size w w3:=bel2.trans (hb3.mono bel2.size);go_wp2;go_returns;exact⟨by rw[HF.out];rfl,bel3⟩
  ·have HF:Hid (r=false):=by show _=_;rw[HE.out,HW.out,show decide (0≤W)=false by simpa using h0];simp
   clear hFt';go_wp2;go_returns;exact⟨by rw[HF.out];rfl,bel2⟩
end
section
open Go.RowKit Go.Deep Go.ChangeShapes Go.WideShapes
theorem rd_any {W0:World}{rs:List R3}{vd:Value}{Fd:List Nat}(hdb:okDb rs=true)(hR:RelsF W0 vd rs Fd):∀f,RdS W0 rs vd f
 |0=>rd_zero W0 rs vd hR.is.shape
 |f+1=>rd_step hdb hR (rd_any hdb hR f)
def AnO (V:E7→List V3→V3)(rs:List R3)(p:P12)(N:Nat)(x:Ending)(w':World):Prop:=
 (okDb rs=false∧x=.returned (.tuple #[.agg #[.int .i64 0,.slice none 0 0],.iface 84 (.agg #[.int .i64 0])]))∨
 (okDb rs=true∧wP8 rs 9 p<0∧x=.returned (.tuple #[.agg #[.int .i64 0,.slice none 0 0],.iface 84 (.agg #[.int .i64 1])]))∨
 (okDb rs=true∧0≤wP8 rs 9 p∧(mP8 V rs 9 p).1=false∧x=.returned (.tuple #[.agg #[.int .i64 0,.slice none 0 0],.iface 84 (.agg #[.int .i64 2])]))∨
 (okDb rs=true∧0≤wP8 rs 9 p∧(mP8 V rs 9 p).1=true∧∃u us G,x=.returned (.tuple #[.agg #[.int .i64 (wP8 rs 9 p),u],.nilIface])∧BagOwn w' N u (mP8 V rs 9 p).2 us G)
theorem answerOf_any {m:Int}{V:E7→List V3→V3}(hV:VOk m V)(rs:List R3)(p:P12)(ue us u:Value)(g:List Nat)(D d N:Nat)(vd:Value)(Fd:List Nat)(w:World)(hw:p.wf)(hL:ListsP w D (PlansIs w D d) p ue us u g)(ho:Own w N g)(hn:wtP p≤1048576)(hR:RelsF w vd rs Fd)(hrw:RsWf rs)(hm:w.cell? ⟨0,0,none⟩=some (.int .i64 m)):Calls Tryz.prog 23 #[vd,(.agg #[.int .i64 p.k,.string p.s,.int .i64 p.e.k,.int .i64 p.e.n,.int .i64 p.e.v.k,.int .i64 p.e.v.n,.string p.e.v.s,.string p.e.p,ue,us,.int .i64 p.n,u])] w fun x w'=>AnO V rs p w.heap.size x w'∧Below w.heap.size w w':=by
 have hP:PreP 9 p:=preP_of 9 p w D d ue us u g hw hL hn;have h00:0<w.heap.size:=bl8 _ _ hm;have hRd:=fun(hdb:okDb rs=true) (X:World) (hX:Below w.heap.size w X)=>rd_any hdb hR 9 p ue us u g D d N 0 X hX hw hL ho hn (by omega) (by omega);have hMe:=fun(hdb:okDb rs=true) (v:Value) (D:Nat→Prop) (X:World) (hX:Below w.heap.size w X) (hRt:RightIs w rs 9 D X v p) (hD:∀b,D b→b<X.heap.size) (hW:0≤wP8 rs 9 p)=>me_any hV hdb hrw 9 p v D X hRt hD hX (((bc8 hX).1 0 0 h00).trans hm) hP hW;obtain⟨a1,c1,a2,c2,a3,c3,rfl,rfl,rfl,_,_,_,_,_,_⟩:=hL.shape;obtain⟨ad,ld,cd,rfl⟩:=hR.is.shape;have hDb:=fun(w2:World) (hb:Below w.heap.size w w2)=>implDbOk_any (.slice ad ld cd) rs w2 hrw (hR.is.below hb);have hB:=bxP_new w p (.slice a1 p.e.ks.length c1) (.slice a2 p.es.length c2) (.slice a3 p.ks.length c3) 42;obtain⟨bo,HBO⟩:∃q,Hid (okDb rs=q):=⟨_,rfl⟩;rw[HBO.out]at hDb;have HRd:Hid (bo=true→∀ (X:World),Below w.heap.size w X→_):=fun h=>hRd (HBO.out.trans h);have HMe:Hid (bo=true→∀ (v:Value) (D:Nat→Prop) (X:World),Below w.heap.size w X→RightIs w rs 9 D X v p→(∀b,D b→b<X.heap.size)→0≤wP8 rs 9 p→_):=fun h=>hMe (HBO.out.trans h);clear hL hR hP hRd hMe ho;go_enter Tryz.func23,Tryz.ntmps23;go_wp2_with fail;refine cM8 (hDb _ bex) ?_;rintro z w1 ⟨rfl,hb1⟩;have hz1:=hb1.size;(try simp at hz1);have hB0:BxP w1 w.heap.size p (.slice a1 p.e.ks.length c1) (.slice a2 p.es.length c2) (.slice a3 p.ks.length c3):=(hB.below ((Below.refl _ _).alloc (Nat.le_refl _) _)).below hb1;have r0:w1.cell? ⟨w.heap.size+1,0,none⟩=some (.int .i64 0):=cL8 hb1 (by go_simp)
 have r1:w1.cell? ⟨w.heap.size+1,1,none⟩=some (.slice none 0 0):=cL8 hb1 (by go_simp);have rf:∀q,w1.frozen? ⟨w.heap.size+1,q,none⟩=false:=fun q=>((bc8 hb1).2 _ q (by simp;try omega)).trans (by go_simp);have bel1:Below w.heap.size w w1:=bex;clear hDb hb1 hB;cases bo with
 |false=>
  clear HRd HMe;go_wp2_with fail;refine bodyPost_ret (v:=.tuple #[.agg #[.int .i64 0,.slice none 0 0],.iface 84 (.agg #[.int .i64 0])]) (by simp[results,Tryz.results23,go_sem, *]) rfl ⟨.inl ⟨HBO.out,rfl⟩,?_⟩;repeat (first|(with_reducible exact bel1)|(with_reducible refine Below.setCell ?_ ?hh _;case hh=>(simp;try omega)))
 |true=>
  have hRd1:=HRd.out rfl w1 bel1;obtain⟨_,b0,b1,b2,b3,b4,b5,b6,b7,b8,b9,b10,b11⟩:=id hB0;clear HRd;go_wp2_with fail;refine cM8 hRd1 ?_;rintro z w2 ⟨hres,hb2⟩;have hz2:=hb2.size;have bel2:Below w.heap.size w w2:=bel1.trans (hb2.mono bel1.size);have hs1:w.heap.size+1<w1.heap.size:=by omega
  have hs2:w.heap.size+1<w2.heap.size:=by omega
  have r02:=((bc8 hb2).1 _ 0 hs1).trans r0;have r12:=((bc8 hb2).1 _ 1 hs1).trans r1;have rf2:∀q,w2.frozen? ⟨w.heap.size+1,q,none⟩=false:=fun q=>((bc8 hb2).2 _ q hs1).trans (rf q);clear hRd1 hB0 b0 b1 b2 b3 b4 b5 b6 b7 b8 b9 b10 b11 r0 r1 rf;rcases hres with⟨hW,v,rfl,hRt⟩|⟨hW,rfl⟩
  ·have hMe2:=HMe.out (by first|rfl|trivial) v _ w2 bel2 hRt (fun b hb=>hb.2) hW;clear HMe hRt;go_wp2_with fail;refine cM8 hMe2 ?_;rintro z w3 ⟨hres,hb3⟩;have hz3:=hb3.size;have bel3:Below w.heap.size w w3:=bel2.trans (hb3.mono bel2.size);have r03:=((bc8 hb3).1 _ 0 hs2).trans r02;have r13:=((bc8 hb3).1 _ 1 hs2).trans r12;have rf3:∀q,w3.frozen? ⟨w.heap.size+1,q,none⟩=false:=fun q=>((bc8 hb3).2 _ q hs2).trans (rf2 q);clear hMe2 hb3 r02 r12 rf2;rcases hres with⟨h1,u3,us3,G3,rfl,hB3⟩|⟨h1,rfl⟩
   ·obtain⟨a4,c4,rfl⟩:=hB3.shape;go_wp2_with fail;refine bodyPost_ret (v:=.tuple #[.agg #[.int .i64 (wP8 rs 9 p),.slice a4 (mP8 V rs 9 p).2.length c4],.nilIface]) (by simp[results,Tryz.results23,go_sem, *]) rfl ⟨.inr (.inr (.inr ⟨HBO.out,hW,h1,_,us3,G3,rfl,(hB3.keep (by simp) fun b hb _=>?_).weak (by omega)⟩)),?_⟩
    ·repeat rw[bS8 _ _ _ _ (by simp;omega)]
    ·repeat (first|(with_reducible exact bel3)|(with_reducible refine Below.setCell ?_ ?hh _;case hh=>(simp;try omega)))
   ·go_wp2_with fail;refine bodyPost_ret (v:=.tuple #[.agg #[.int .i64 0,.slice none 0 0],.iface 84 (.agg #[.int .i64 2])]) (by simp[results,Tryz.results23,go_sem, *]) rfl ⟨.inr (.inr (.inl ⟨HBO.out,hW,h1,rfl⟩)),?_⟩;repeat (first|(with_reducible exact bel3)|(with_reducible refine Below.setCell ?_ ?hh _;case hh=>(simp;try omega)))
  ·clear HMe;go_wp2_with fail;refine bodyPost_ret (v:=.tuple #[.agg #[.int .i64 0,.slice none 0 0],.iface 84 (.agg #[.int .i64 1])]) (by simp[results,Tryz.results23,go_sem, *]) rfl ⟨.inr (.inl ⟨HBO.out,hW,rfl⟩),?_⟩;repeat (first|(with_reducible exact bel2)|(with_reducible refine Below.setCell ?_ ?hh _;case hh=>(simp;try omega)))
theorem implFits_any {m:Int}{V:E7→List V3→V3}(hV:VOk m V)(rs:List R3)(p:P12)(ue us u:Value)(g:List Nat)(D d N:Nat)(vd:Value)(Fd:List Nat)(w:World)(hw:p.wf)(hL:ListsP w D (PlansIs w D d) p ue us u g)(ho:Own w N g)(hn:wtP p≤1048576)(hR:RelsF w vd rs Fd)(hrw:RsWf rs)(hm:w.cell? ⟨0,0,none⟩=some (.int .i64 m)):Calls Tryz.prog 9 #[vd,(.agg #[.int .i64 p.k,.string p.s,.int .i64 p.e.k,.int .i64 p.e.n,.int .i64 p.e.v.k,.int .i64 p.e.v.n,.string p.e.v.s,.string p.e.p,ue,us,.int .i64 p.n,u])] w fun x w'=>x=.returned (.bool (fitsP V rs p))∧Below w.heap.size w w':=by
 have h00:0<w.heap.size:=bl8 _ _ hm;have hA:=fun(X:World) (hX:Below w.heap.size w X)=>answerOf_any hV rs p ue us u g D d N vd Fd X hw (hL.below hX) (ho.below hL.lt hX) hn (hR.below hX) hrw (((bc8 hX).1 0 0 h00).trans hm);obtain⟨a1,c1,a2,c2,a3,c3,rfl,rfl,rfl,_,_,_,_,_,_⟩:=hL.shape;obtain⟨ad,ld,cd,rfl⟩:=hR.is.shape;have HF:Hid (fitsP V rs p=(okDb rs &&decide (0≤wP8 rs 9 p) && (mP8 V rs 9 p).1)):=rfl;obtain⟨r,HR⟩:∃q,Hid (fitsP V rs p=q):=⟨_,rfl⟩;rw[HR.out]at HF⊢;clear hL hR ho;go_enter Tryz.func9,Tryz.ntmps9;go_wp2_with fail;refine cM8 (hA _ bex) ?_;rintro z w1 ⟨hres,hb1⟩;have bel1:Below w.heap.size w w1:=bex;clear hA hb1;rcases hres with⟨h1,rfl⟩|⟨h1,h2,rfl⟩|⟨h1,h2,h3,rfl⟩|⟨h1,h2,h3,u3,us3,G3,rfl,hB3⟩
 ·have HG:Hid (r=false):=by show _=_;rw[HF.out,h1];rfl
  go_wp2;go_returns;exact⟨by rw[HG.out];rfl,bel1.alloc bel1.size _⟩
 ·have HG:Hid (r=false):=by show _=_;rw[HF.out,decide_eq_false (by omega)];simp
  go_wp2;go_returns;exact⟨by rw[HG.out];rfl,bel1.alloc bel1.size _⟩
 ·have HG:Hid (r=false):=by show _=_;rw[HF.out,h3];simp
  go_wp2;go_returns;exact⟨by rw[HG.out];rfl,bel1.alloc bel1.size _⟩
 ·have HG:Hid (r=true):=by show _=_;rw[HF.out,h1,h3,decide_eq_true h2];rfl
  obtain⟨a4,c4,rfl⟩:=hB3.shape;clear hB3;go_wp2;go_returns;exact⟨by rw[HG.out];rfl,bel1.alloc bel1.size _⟩
end
end Go.Proofs.YtflokiejcjjbiaaGreat
