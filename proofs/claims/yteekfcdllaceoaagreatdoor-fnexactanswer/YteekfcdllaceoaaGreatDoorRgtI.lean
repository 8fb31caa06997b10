/- Own text. The contract of impl.rightOf. -/
import Derived.Test.YteekfcdllaceoaaGreatDoorGLAnswer7
import Derived.Test.YteekfcdllaceoaaGreatDoorGLAnswer1
import Derived.Test.YteekfcdllaceoaaGreatDoorGLAnswer14
import Derived.Test.YteekfcdllaceoaaGreatDoorGLAnswer4
import Derived.Test.YteekfcdllaceoaaGreatDoorGLAnswer12
import Derived.Handy
import Derived.BigQuiet
import Derived.Deep.RegionHeld3
set_option maxHeartbeats 16000000
set_option maxRecDepth 100000
set_option linter.unusedVariables false
set_option linter.unusedSimpArgs false
namespace Go.Proofs.YteekfcdllaceoaaGreatDoor
section
open Go.RowKit
theorem B5G {w:World}{e:E7}{ue:Value}{Fe:List Nat}{D:Nat}(hk:C1 w D ue e.ks Fe)(he:e.wf):C1 (w.alloc (.cells #[.int .i64 e.k,.int .i64 e.n,.int .i64 e.v.k,.int .i64 e.v.n,.string e.v.s,.string e.p,ue] 42)) (D+1) (.slice (some ⟨w.heap.size,0,none⟩) 1 1) [e] (w.heap.size::Fe):=by
 refine⟨_,1,[Fe],rfl,Nat.le_refl _,by decide,rfl,(fun h=>by cases h),(fun _=>⟨w.heap.size,0,rfl,by simp,by simp,?_⟩)⟩;intro i x g hx hg;rcases i with _|i
 ·simp at hx hg;subst hx hg;exact⟨he,⟨by go_simp,by go_simp,by go_simp,by go_simp,by go_simp,by go_simp⟩,ue,by go_simp,hk.below ((Below.refl _ _).alloc lr8 _)⟩
 ·simp at hx
theorem B0p {w:World}{e:E7}{ue:Value}{Fe:List Nat}{D:Nat}(hk:C1 w D ue e.ks Fe)(he:e.wf)(hd:Fe.Nodup/\∀b∈Fe,Fr w b)(hn:wtE e<=1048576)(W:Int):Calls Tryz.prog 105 #[.int .i64 W,.slice (some ⟨w.heap.size,0,none⟩) 1 1] (w.alloc (.cells #[.int .i64 e.k,.int .i64 e.n,.int .i64 e.v.k,.int .i64 e.v.n,.string e.v.s,.string e.p,ue] 42)) fun x w'=>x=.returned (.bool (bE8 e W))/\Below w.heap.size w w':=by
 have hlt:=hk.lt;refine cM8 (A67 _ [e] (w.heap.size::Fe) (D+1) W _ (B5G hk he) ⟨List.nodup_cons.2 ⟨fun h=>by have:=hlt _ h;omega,hd.1⟩,fun b hb=>?_⟩ (by simp[H4];omega)) ?_
 ·rcases List.mem_cons.1 hb with rfl|hb
  ·exact⟨⟨_,_,_,heap_alloc_new w _⟩,fun o=>by go_simp⟩
  ·exact(hd.2 b hb).keep (bA8 _ _ _ (hlt b hb))
 ·rintro x w' ⟨rfl,hb⟩;refine⟨by simp,?_⟩;have h1:Below w.heap.size w (w.alloc (.cells #[.int .i64 e.k,.int .i64 e.n,.int .i64 e.v.k,.int .i64 e.v.n,.string e.v.s,.string e.p,ue] 42)):=(Below.refl _ _).alloc lr8 _;exact h1.trans (hb.mono h1.size)
def A1I (W0:World)(rs:List R3)(p:P12)(v u:Int)(us:Value)(n:Nat)(x:Ending):Prop:=
 (I2 rs p v u=true/\∃y ut,x=.returned y/\A2d W0 rs p (G8 rs p v u) ut y/\(ut=us\/n=0/\ut=.slice none 0 0))\/(I2 rs p v u=false/\x=.returned .nilIface)
theorem B9c {W0 w:World}{rs:List R3}{p:P12}{ue us uk vd:Value}{Fe Fs Fd:List Nat}{D N:Nat}(hb0:Below W0.heap.size W0 w)(hdb:G9 rs=true)(hR:H8 W0 vd rs Fd)(hw:p.wf)(hn:wtP p<=1048576)(ke:C1 W0 D ue p.e.ks Fe)(kes:C1 W0 D us p.es Fs)(ae:Own W0 N Fe)(aq:Own W0 N Fs)(huk:∃a c,uk=.slice a p.ks.length c)(hp:I8 p=true)(hk:p.k=0)(v u:Int)(a:Option Addr)(c:Nat)(hc:0<=c/\c<=maxLen):Calls Tryz.prog 83 #[vd,(.agg #[.int .i64 p.k,.string p.s,.int .i64 p.e.k,.int .i64 p.e.n,.int .i64 p.e.v.k,.int .i64 p.e.v.n,.string p.e.v.s,.string p.e.p,ue,us,.int .i64 p.n,uk]),.slice a 0 c] w fun x w'=>A1I W0 rs p v u (.slice a 0 c) 0 x/\Below w.heap.size w w':=by
 have hwt:=f9 p;have hzw:=hb0.size;unfold maxLen at hc;obtain⟨aE,cE,rfl,hE1,hE2⟩:=ke.shape;obtain⟨aS,cS,rfl,hS1,hS2⟩:=kes.shape;obtain⟨aK,cK,rfl⟩:=huk;unfold maxLen at hE2 hS2;obtain⟨ad,ld,cd,rfl⟩:=hR.is.shape;have hT0:=fun(w2:World) (hb:Below w.heap.size w w2)=>C1w p.s _ rs w2 ((hR.below hb0).is.below hb);have hT1:=fun(w2:World) (hb:Below w.heap.size w w2) (x:R3)=>B4o W0 p.s _ rs Fd x w2 hR (hb0.trans (hb.mono hzw));have hB:=X2 w p (.slice aE p.e.ks.length cE) (.slice aS p.es.length cS) (.slice aK p.ks.length cK) 45;have HK:Hid (p.k=0):=hk;clear hk;go_enter Tryz.func83,Tryz.ntmps83;go_wp2_with fail;go_loopw [7,12] (fun s i wr=> ∃k:Nat,k<=0/\i=.int .i64 k/\s=.int .i64 0/\BxP wr w.heap.size p (.slice aE p.e.ks.length cE) (.slice aS p.es.length cS) (.slice aK p.ks.length cK)/\Below w.heap.size w wr) (fun _ i _=>0 - (intOf i).toNat)
 case atStart=>exact⟨0,Nat.zero_le _,rfl,rfl,hB.below bex,bex⟩
 case round=>
  obtain⟨k,hkn,rfl,rfl,hBr,hb⟩:=hrel;have hzb:=hb.size;obtain rfl:k=0:=by omega
  have hBk:=hBr;obtain⟨b',b0,b1,b2,b3,b4,b5,b6,b7,b8,b9,b10,b11⟩:=hBr;rw[HK.out]at b0;have A6y:=hT0 wr hb;have A7f:=hT1 wr hb;clear hT0 hT1;cases hr:I9 rs p.s with
  |none=>
   have hq:=A6y hr;clear A6y A7f;go_wp2_with fail;go_at_call 104;refine cM8 hq ?_;rintro z w2 ⟨rfl,hb2⟩;go_wp2_with fail;go_returns;have hk:=HK.out;exact⟨.inr ⟨by simp[I2,hk,hr],rfl⟩,hb.trans (hb2.mono hzb)⟩
  |some x=>
   have hq:=A7f x hr (A86 hdb hr);clear A6y A7f;go_wp2_with fail;go_at_call 104;refine cM8 hq ?_;rintro z w2 ⟨⟨y,G,rfl,hF⟩,hb2⟩;go_wp2_with fail;go_returns;have hk:=HK.out;have e1:G8 rs p v u=x.W:=by simp[G8,hk,A3P,hr]
   exact⟨.inl ⟨by simp[I2,hk,hr],_,_,rfl,by rw[e1];exact .inl ⟨hk,rfl,x,y,hr,rfl,⟨G,hF⟩,rfl⟩,.inr ⟨rfl,rfl⟩⟩,hb.trans (hb2.mono hzb)⟩
theorem B9z {W0 w:World}{rs:List R3}{p:P12}{ue us uk vd:Value}{Fe Fs Fd:List Nat}{D N:Nat}(hb0:Below W0.heap.size W0 w)(hdb:G9 rs=true)(hR:H8 W0 vd rs Fd)(hw:p.wf)(hn:wtP p<=1048576)(ke:C1 W0 D ue p.e.ks Fe)(kes:C1 W0 D us p.es Fs)(ae:Own W0 N Fe)(aq:Own W0 N Fs)(huk:∃a c,uk=.slice a p.ks.length c)(hp:I8 p=true)(hk:p.k=1)(v u:Int)(a:Option Addr)(c:Nat)(hc:1<=c/\c<=maxLen)(gk:Nat)(x0 t0:Value)(w0:Wid x0 v t0)(v0:0<=v/\v<=12)(s0:∃a l c,t0=.slice a l c)(c0:w.cell? ⟨gk,0,none⟩=some x0):Calls Tryz.prog 83 #[vd,(.agg #[.int .i64 p.k,.string p.s,.int .i64 p.e.k,.int .i64 p.e.n,.int .i64 p.e.v.k,.int .i64 p.e.v.n,.string p.e.v.s,.string p.e.p,ue,us,.int .i64 p.n,uk]),.slice (some ⟨gk,0,none⟩) 1 c] w fun x w'=>A1I W0 rs p v u (.slice (some ⟨gk,0,none⟩) 1 c) 1 x/\Below w.heap.size w w':=by
 have hwt:=f9 p;have hzw:=hb0.size;unfold maxLen at hc;obtain⟨aE,cE,rfl,hE1,hE2⟩:=ke.shape;obtain⟨aS,cS,rfl,hS1,hS2⟩:=kes.shape;obtain⟨aK,cK,rfl⟩:=huk;unfold maxLen at hE2 hS2;have hO:=fun(w2:World) (hb:Below w.heap.size w w2)=>B0p (ke.below (hb0.trans (hb.mono hzw))) hw.2.2.1 ⟨ae.1,fun b hb'=>((ae.dst ke).2 b hb').keep ((hb0.trans (hb.mono hzw)).block b (ke.lt b hb'))⟩ (by omega) v;obtain⟨bo,HO⟩:∃b,Hid (bE8 p.e v=b):=⟨_,rfl⟩;rw[HO.out]at hO;obtain⟨t0',y0,k0,rfl,hM0,_⟩:=w0;obtain⟨z0,z1,z2,rfl⟩:=s0;have hgk:gk<w.heap.size:=bl8 _ _ c0;have hB:=X2 w p (.slice aE p.e.ks.length cE) (.slice aS p.es.length cS) (.slice aK p.ks.length cK) 45;have HK:Hid (p.k=1):=hk;clear hk;go_enter Tryz.func83,Tryz.ntmps83;go_wp2_with fail;go_loopw [7,12] (fun s i wr=> ∃k:Nat,k<=1/\i=.int .i64 k/\s=.int .i64 (if k=0 then 0 else v)/\BxP wr w.heap.size p (.slice aE p.e.ks.length cE) (.slice aS p.es.length cS) (.slice aK p.ks.length cK)/\Below w.heap.size w wr) (fun _ i _=>1 - (intOf i).toNat)
 case atStart=>exact⟨0,Nat.zero_le _,rfl,rfl,hB.below bex,bex⟩
 case round=>
  obtain⟨k,hkn,rfl,rfl,hBr,hb⟩:=hrel;have hzb:=hb.size;rcases Nat.lt_or_ge k 1 with hlt|hge
  ·obtain rfl:k=0:=by omega
   have d0:=((bc8 hb).1 gk 0 hgk).trans c0;have hgr:gk<wr.heap.size:=by omega
   go_wp2_with(go_at_call 264;refine cM8 (l4 _ _ _ _ _ _) ?_;rintro z w2 ⟨rfl,hb2⟩);exact⟨⟨1,by omega,rfl,by simp[wrap64];try omega,hBr.below hb2,hb.trans (hb2.mono hzb)⟩,by simp[intOf]⟩
  ·obtain rfl:k=1:=by omega
   have hBk:=hBr;obtain⟨b',b0,b1,b2,b3,b4,b5,b6,b7,b8,b9,b10,b11⟩:=hBr;rw[HK.out]at b0;cases bo with
   |true=>
    go_wp2_with(go_at_call 105;refine cM8 (hO _ hb) ?_;rintro z w2 ⟨rfl,hb2⟩;have C0:Below w.heap.size w w2:=hb.trans (hb2.mono hzb);have B2:=hBk.below hb2;clear b0 b1 b2 b3 b4 b5 b6 b7 b8 b9 b10 b11 hO hb2;obtain⟨_,b0,b1,b2,b3,b4,b5,b6,b7,b8,b9,b10,b11⟩:=B2;rw[HK.out]at b0);go_returns;have hk:=HK.out;have e1:G8 rs p v u=v:=by simp[G8,hk]
    exact⟨.inl ⟨by simp[I2,hk,HO.out],_,_,rfl,by rw[e1];exact(.inr (.inl ⟨hk,_,Fe,D,ke,rfl⟩)),.inl rfl⟩,C0⟩
   |false=>
    go_wp2_with(go_at_call 105;refine cM8 (hO _ hb) ?_;rintro z w2 ⟨rfl,hb2⟩;have C0:Below w.heap.size w w2:=hb.trans (hb2.mono hzb);have B2:=hBk.below hb2;clear b0 b1 b2 b3 b4 b5 b6 b7 b8 b9 b10 b11 hO hb2;obtain⟨_,b0,b1,b2,b3,b4,b5,b6,b7,b8,b9,b10,b11⟩:=B2;rw[HK.out]at b0);go_quiet (fail);go_wp2_with fail;go_returns;have hk:=HK.out;exact⟨.inr ⟨by simp[I2,hk,HO.out],rfl⟩,C0.trans ((dN8 w2 _).mono C0.size)⟩
theorem C0E {W0 w:World}{rs:List R3}{p:P12}{ue us uk vd:Value}{Fe Fs Fd:List Nat}{D N:Nat}(hb0:Below W0.heap.size W0 w)(hdb:G9 rs=true)(hR:H8 W0 vd rs Fd)(hw:p.wf)(hn:wtP p<=1048576)(ke:C1 W0 D ue p.e.ks Fe)(kes:C1 W0 D us p.es Fs)(ae:Own W0 N Fe)(aq:Own W0 N Fs)(huk:∃a c,uk=.slice a p.ks.length c)(hp:I8 p=true)(hk:p.k=2)(v u:Int)(a:Option Addr)(c:Nat)(hc:1<=c/\c<=maxLen)(gk:Nat)(x0 t0:Value)(w0:Wid x0 v t0)(v0:0<=v/\v<=12)(s0:∃a l c,t0=.slice a l c)(c0:w.cell? ⟨gk,0,none⟩=some x0):Calls Tryz.prog 83 #[vd,(.agg #[.int .i64 p.k,.string p.s,.int .i64 p.e.k,.int .i64 p.e.n,.int .i64 p.e.v.k,.int .i64 p.e.v.n,.string p.e.v.s,.string p.e.p,ue,us,.int .i64 p.n,uk]),.slice (some ⟨gk,0,none⟩) 1 c] w fun x w'=>A1I W0 rs p v u (.slice (some ⟨gk,0,none⟩) 1 c) 1 x/\Below w.heap.size w w':=by
 have hwt:=f9 p;have hzw:=hb0.size;unfold maxLen at hc;obtain⟨aE,cE,rfl,hE1,hE2⟩:=ke.shape;obtain⟨aS,cS,rfl,hS1,hS2⟩:=kes.shape;obtain⟨aK,cK,rfl⟩:=huk;unfold maxLen at hE2 hS2;have hO:=fun(w2:World) (hb:Below w.heap.size w w2)=>A67 _ p.es Fs D v w2 (kes.below (hb0.trans (hb.mono hzw))) ⟨aq.1,fun b hb'=>((aq.dst kes).2 b hb').keep ((hb0.trans (hb.mono hzw)).block b (kes.lt b hb'))⟩ (by omega);obtain⟨bo,HO⟩:∃b,Hid (p.es.all (bE8 · v)=b):=⟨_,rfl⟩;rw[HO.out]at hO;obtain⟨t0',y0,k0,rfl,hM0,_⟩:=w0;obtain⟨z0,z1,z2,rfl⟩:=s0;have hgk:gk<w.heap.size:=bl8 _ _ c0;have hB:=X2 w p (.slice aE p.e.ks.length cE) (.slice aS p.es.length cS) (.slice aK p.ks.length cK) 45;have HK:Hid (p.k=2):=hk;clear hk;go_enter Tryz.func83,Tryz.ntmps83;go_wp2_with fail;go_loopw [7,12] (fun s i wr=> ∃k:Nat,k<=1/\i=.int .i64 k/\s=.int .i64 (if k=0 then 0 else v)/\BxP wr w.heap.size p (.slice aE p.e.ks.length cE) (.slice aS p.es.length cS) (.slice aK p.ks.length cK)/\Below w.heap.size w wr) (fun _ i _=>1 - (intOf i).toNat)
 case atStart=>exact⟨0,Nat.zero_le _,rfl,rfl,hB.below bex,bex⟩
 case round=>
  obtain⟨k,hkn,rfl,rfl,hBr,hb⟩:=hrel;have hzb:=hb.size;rcases Nat.lt_or_ge k 1 with hlt|hge
  ·obtain rfl:k=0:=by omega
   have d0:=((bc8 hb).1 gk 0 hgk).trans c0;have hgr:gk<wr.heap.size:=by omega
   go_wp2_with(go_at_call 264;refine cM8 (l4 _ _ _ _ _ _) ?_;rintro z w2 ⟨rfl,hb2⟩);exact⟨⟨1,by omega,rfl,by simp[wrap64];try omega,hBr.below hb2,hb.trans (hb2.mono hzb)⟩,by simp[intOf]⟩
  ·obtain rfl:k=1:=by omega
   have hBk:=hBr;obtain⟨b',b0,b1,b2,b3,b4,b5,b6,b7,b8,b9,b10,b11⟩:=hBr;rw[HK.out]at b0;have hes:1<=p.es.length/\p.es.length<=12:=by have h1:=hp;simp[I8,HK.out]at h1;omega
   cases bo with
   |true=>
    go_wp2_with(go_at_call 105;refine cM8 (hO _ hb) ?_;rintro z w2 ⟨rfl,hb2⟩;have C0:Below w.heap.size w w2:=hb.trans (hb2.mono hzb);have B2:=hBk.below hb2;clear b0 b1 b2 b3 b4 b5 b6 b7 b8 b9 b10 b11 hO hb2;obtain⟨_,b0,b1,b2,b3,b4,b5,b6,b7,b8,b9,b10,b11⟩:=B2;rw[HK.out]at b0);go_returns;have hk:=HK.out;have e1:G8 rs p v u=p.es.length:=by simp[G8,hk]
    exact⟨.inl ⟨by have h1:=HO.out;simp at h1;simp[I2,hk];exact⟨by omega,h1⟩,_,_,rfl,by rw[e1];exact(.inr (.inr (.inl ⟨hk,_,Fs,D,kes,rfl⟩))),.inl rfl⟩,C0⟩
   |false=>
    go_wp2_with(go_at_call 105;refine cM8 (hO _ hb) ?_;rintro z w2 ⟨rfl,hb2⟩;have C0:Below w.heap.size w w2:=hb.trans (hb2.mono hzb);have B2:=hBk.below hb2;clear b0 b1 b2 b3 b4 b5 b6 b7 b8 b9 b10 b11 hO hb2;obtain⟨_,b0,b1,b2,b3,b4,b5,b6,b7,b8,b9,b10,b11⟩:=B2;rw[HK.out]at b0);go_quiet (fail);go_wp2_with fail;go_returns;have hk:=HK.out;exact⟨.inr ⟨by have h1:=HO.out;rw[I2,if_neg (by omega),if_neg (by omega),if_pos hk,h1,Bool.and_false],rfl⟩,C0.trans ((dN8 w2 _).mono C0.size)⟩
theorem B9V {W0 w:World}{rs:List R3}{p:P12}{ue us uk vd:Value}{Fe Fs Fd:List Nat}{D N:Nat}(hb0:Below W0.heap.size W0 w)(hdb:G9 rs=true)(hR:H8 W0 vd rs Fd)(hw:p.wf)(hn:wtP p<=1048576)(ke:C1 W0 D ue p.e.ks Fe)(kes:C1 W0 D us p.es Fs)(ae:Own W0 N Fe)(aq:Own W0 N Fs)(huk:∃a c,uk=.slice a p.ks.length c)(hp:I8 p=true)(hk:p.k=3)(v u:Int)(a:Option Addr)(c:Nat)(hc:2<=c/\c<=maxLen)(gk:Nat)(x0 t0:Value)(w0:Wid x0 v t0)(v0:0<=v/\v<=12)(s0:∃a l c,t0=.slice a l c)(c0:w.cell? ⟨gk,0,none⟩=some x0)(x1 t1:Value)(w1:Wid x1 u t1)(v1:0<=u/\u<=12)(s1:∃a l c,t1=.slice a l c)(c1:w.cell? ⟨gk,1,none⟩=some x1):Calls Tryz.prog 83 #[vd,(.agg #[.int .i64 p.k,.string p.s,.int .i64 p.e.k,.int .i64 p.e.n,.int .i64 p.e.v.k,.int .i64 p.e.v.n,.string p.e.v.s,.string p.e.p,ue,us,.int .i64 p.n,uk]),.slice (some ⟨gk,0,none⟩) 2 c] w fun x w'=>A1I W0 rs p v u (.slice (some ⟨gk,0,none⟩) 2 c) 2 x/\Below w.heap.size w w':=by
 have hwt:=f9 p;have hzw:=hb0.size;unfold maxLen at hc;obtain⟨aE,cE,rfl,hE1,hE2⟩:=ke.shape;obtain⟨aS,cS,rfl,hS1,hS2⟩:=kes.shape;obtain⟨aK,cK,rfl⟩:=huk;unfold maxLen at hE2 hS2;have hO:=fun(w2:World) (hb:Below w.heap.size w w2)=>B0p (ke.below (hb0.trans (hb.mono hzw))) hw.2.2.1 ⟨ae.1,fun b hb'=>((ae.dst ke).2 b hb').keep ((hb0.trans (hb.mono hzw)).block b (ke.lt b hb'))⟩ (by omega) (v+u);obtain⟨bo,HO⟩:∃b,Hid (bE8 p.e (v+u)=b):=⟨_,rfl⟩;rw[HO.out]at hO;obtain⟨t0',y0,k0,rfl,hM0,_⟩:=w0;obtain⟨z0,z1,z2,rfl⟩:=s0;obtain⟨t1',y1,k1,rfl,hM1,_⟩:=w1;obtain⟨z3,z4,z5,rfl⟩:=s1;have hgk:gk<w.heap.size:=bl8 _ _ c0;have hB:=X2 w p (.slice aE p.e.ks.length cE) (.slice aS p.es.length cS) (.slice aK p.ks.length cK) 45;have HK:Hid (p.k=3):=hk;clear hk;go_enter Tryz.func83,Tryz.ntmps83;go_wp2_with fail;go_loopw [7,12] (fun s i wr=> ∃k:Nat,k<=2/\i=.int .i64 k/\s=.int .i64 (if k=0 then 0 else if k=1 then v else v+u)/\BxP wr w.heap.size p (.slice aE p.e.ks.length cE) (.slice aS p.es.length cS) (.slice aK p.ks.length cK)/\Below w.heap.size w wr) (fun _ i _=>2 - (intOf i).toNat)
 case atStart=>exact⟨0,Nat.zero_le _,rfl,rfl,hB.below bex,bex⟩
 case round=>
  obtain⟨k,hkn,rfl,rfl,hBr,hb⟩:=hrel;have hzb:=hb.size;rcases Nat.lt_or_ge k 1 with hlt|hge
  ·obtain rfl:k=0:=by omega
   have d0:=((bc8 hb).1 gk 0 hgk).trans c0;have hgr:gk<wr.heap.size:=by omega
   go_wp2_with(go_at_call 264;refine cM8 (l4 _ _ _ _ _ _) ?_;rintro z w2 ⟨rfl,hb2⟩);exact⟨⟨1,by omega,rfl,by simp[wrap64];try omega,hBr.below hb2,hb.trans (hb2.mono hzb)⟩,by simp[intOf]⟩
  ·rcases Nat.lt_or_ge k 2 with hlt|hge
   ·obtain rfl:k=1:=by omega
    have d1:=((bc8 hb).1 gk 1 hgk).trans c1;have hgr:gk<wr.heap.size:=by omega
    go_wp2_with(go_at_call 264;refine cM8 (l4 _ _ _ _ _ _) ?_;rintro z w2 ⟨rfl,hb2⟩);exact⟨⟨2,by omega,rfl,by simp[wrap64];try omega,hBr.below hb2,hb.trans (hb2.mono hzb)⟩,by simp[intOf]⟩
   ·obtain rfl:k=2:=by omega
    have hBk:=hBr;obtain⟨b',b0,b1,b2,b3,b4,b5,b6,b7,b8,b9,b10,b11⟩:=hBr;rw[HK.out]at b0;cases bo with
    |true=>
     go_wp2_with(go_at_call 105;refine cM8 (hO _ hb) ?_;rintro z w2 ⟨rfl,hb2⟩;have C0:Below w.heap.size w w2:=hb.trans (hb2.mono hzb);have B2:=hBk.below hb2;clear b0 b1 b2 b3 b4 b5 b6 b7 b8 b9 b10 b11 hO hb2;obtain⟨_,b0,b1,b2,b3,b4,b5,b6,b7,b8,b9,b10,b11⟩:=B2;rw[HK.out]at b0);go_returns;have hk:=HK.out;have e1:G8 rs p v u=v+u:=by simp[G8,hk]
     exact⟨.inl ⟨by simp[I2,hk,HO.out],_,_,rfl,by rw[e1];exact(.inr (.inr (.inr (.inl ⟨hk,_,Fe,D,ke,rfl⟩)))),.inl rfl⟩,C0⟩
    |false=>
     go_wp2_with(go_at_call 105;refine cM8 (hO _ hb) ?_;rintro z w2 ⟨rfl,hb2⟩;have C0:Below w.heap.size w w2:=hb.trans (hb2.mono hzb);have B2:=hBk.below hb2;clear b0 b1 b2 b3 b4 b5 b6 b7 b8 b9 b10 b11 hO hb2;obtain⟨_,b0,b1,b2,b3,b4,b5,b6,b7,b8,b9,b10,b11⟩:=B2;rw[HK.out]at b0);go_quiet (fail);go_wp2_with fail;go_returns;have hk:=HK.out;exact⟨.inr ⟨by simp[I2,hk,HO.out],rfl⟩,C0.trans ((dN8 w2 _).mono C0.size)⟩
theorem C1T {W0 w:World}{rs:List R3}{p:P12}{ue us uk vd:Value}{Fe Fs Fd:List Nat}{D N:Nat}(hb0:Below W0.heap.size W0 w)(hdb:G9 rs=true)(hR:H8 W0 vd rs Fd)(hw:p.wf)(hn:wtP p<=1048576)(ke:C1 W0 D ue p.e.ks Fe)(kes:C1 W0 D us p.es Fs)(ae:Own W0 N Fe)(aq:Own W0 N Fs)(huk:∃a c,uk=.slice a p.ks.length c)(hp:I8 p=true)(hk:p.k=4)(v u:Int)(a:Option Addr)(c:Nat)(hc:2<=c/\c<=maxLen)(gk:Nat)(x0 t0:Value)(w0:Wid x0 v t0)(v0:0<=v/\v<=12)(s0:∃a l c,t0=.slice a l c)(c0:w.cell? ⟨gk,0,none⟩=some x0)(x1 t1:Value)(w1:Wid x1 u t1)(v1:0<=u/\u<=12)(s1:∃a l c,t1=.slice a l c)(c1:w.cell? ⟨gk,1,none⟩=some x1):Calls Tryz.prog 83 #[vd,(.agg #[.int .i64 p.k,.string p.s,.int .i64 p.e.k,.int .i64 p.e.n,.int .i64 p.e.v.k,.int .i64 p.e.v.n,.string p.e.v.s,.string p.e.p,ue,us,.int .i64 p.n,uk]),.slice (some ⟨gk,0,none⟩) 2 c] w fun x w'=>A1I W0 rs p v u (.slice (some ⟨gk,0,none⟩) 2 c) 2 x/\Below w.heap.size w w':=by
 have hwt:=f9 p;have hzw:=hb0.size;unfold maxLen at hc;obtain⟨aE,cE,rfl,hE1,hE2⟩:=ke.shape;obtain⟨aS,cS,rfl,hS1,hS2⟩:=kes.shape;obtain⟨aK,cK,rfl⟩:=huk;unfold maxLen at hE2 hS2;obtain⟨t0',y0,k0,rfl,hM0,_⟩:=w0;obtain⟨z0,z1,z2,rfl⟩:=s0;obtain⟨t1',y1,k1,rfl,hM1,_⟩:=w1;obtain⟨z3,z4,z5,rfl⟩:=s1;have hgk:gk<w.heap.size:=bl8 _ _ c0;have hB:=X2 w p (.slice aE p.e.ks.length cE) (.slice aS p.es.length cS) (.slice aK p.ks.length cK) 45;have HK:Hid (p.k=4):=hk;clear hk;go_enter Tryz.func83,Tryz.ntmps83;go_wp2_with fail;go_loopw [7,12] (fun s i wr=> ∃k:Nat,k<=2/\i=.int .i64 k/\s=.int .i64 (if k=0 then 0 else if k=1 then v else v+u)/\BxP wr w.heap.size p (.slice aE p.e.ks.length cE) (.slice aS p.es.length cS) (.slice aK p.ks.length cK)/\Below w.heap.size w wr) (fun _ i _=>2 - (intOf i).toNat)
 case atStart=>exact⟨0,Nat.zero_le _,rfl,rfl,hB.below bex,bex⟩
 case round=>
  obtain⟨k,hkn,rfl,rfl,hBr,hb⟩:=hrel;have hzb:=hb.size;rcases Nat.lt_or_ge k 1 with hlt|hge
  ·obtain rfl:k=0:=by omega
   have d0:=((bc8 hb).1 gk 0 hgk).trans c0;have hgr:gk<wr.heap.size:=by omega
   go_wp2_with(go_at_call 264;refine cM8 (l4 _ _ _ _ _ _) ?_;rintro z w2 ⟨rfl,hb2⟩);exact⟨⟨1,by omega,rfl,by simp[wrap64];try omega,hBr.below hb2,hb.trans (hb2.mono hzb)⟩,by simp[intOf]⟩
  ·rcases Nat.lt_or_ge k 2 with hlt|hge
   ·obtain rfl:k=1:=by omega
    have d1:=((bc8 hb).1 gk 1 hgk).trans c1;have hgr:gk<wr.heap.size:=by omega
    go_wp2_with(go_at_call 264;refine cM8 (l4 _ _ _ _ _ _) ?_;rintro z w2 ⟨rfl,hb2⟩);exact⟨⟨2,by omega,rfl,by simp[wrap64];try omega,hBr.below hb2,hb.trans (hb2.mono hzb)⟩,by simp[intOf]⟩
   ·obtain rfl:k=2:=by omega
    have hBk:=hBr;obtain⟨b',b0,b1,b2,b3,b4,b5,b6,b7,b8,b9,b10,b11⟩:=hBr;rw[HK.out]at b0;have d0:=((bc8 hb).1 gk 0 hgk).trans c0;have d1:=((bc8 hb).1 gk 1 hgk).trans c1;have hgr:gk<wr.heap.size:=by omega
    by_cases hvu:v=u
    ·have hq:decide (v=u)=true:=decide_eq_true hvu;go_wp2_with fail;go_region_held3 (fun w'=>w'.cell? ⟨w.heap.size,0,none⟩=some (.int .i64 4)/\w'.cell? ⟨gk,0,none⟩=some (.iface t0' y0)/\w'.cell? ⟨gk,1,none⟩=some (.iface t1' y1)) (refine⟨?_,?_,?_⟩<;>exact kp8) (first|(go_at_call 264;refine cM8 (l4 _ _ _ _ _ _) ?_;rintro z w4 ⟨rfl,hb4⟩;have hz4:=hb4.size;(try simp at hz4)));have I3:Below w.heap.size w w4:=bex;have C0W:=I3.size;have hh:w4.cell? ⟨w.heap.size,0,none⟩=some (.int .i64 4)/\w4.cell? ⟨gk,0,none⟩=some (.iface t0' y0)/\w4.cell? ⟨gk,1,none⟩=some (.iface t1' y1):=by assumption
     obtain⟨p0,p1,p2⟩:=hh;have hg4:gk<w4.heap.size:=by omega
     have hw4:w.heap.size<w4.heap.size:=bl8 _ _ p0;clear b0 b1 b2 b3 b4 b5 b6 b7 b8 b9 b10 b11 d0 d1;go_wp2_with fail;go_region_held3 (fun w'=>w'.cell? ⟨w.heap.size,0,none⟩=some (.int .i64 4)/\w'.cell? ⟨gk,0,none⟩=some (.iface t0' y0)) (refine⟨?_,?_⟩<;>exact kp8) (first|(go_at_call 264;refine cM8 (l4 _ _ _ _ _ _) ?_;rintro z w5 ⟨rfl,hb5⟩;have hz5:=hb5.size;(try simp at hz5)));go_wp2_with fail;go_returns;have hk:=HK.out;have e1:G8 rs p v u=u:=by simp[G8,hk,hvu]
     exact⟨.inl ⟨by simp[I2,hk,hvu],_,_,rfl,by rw[e1];exact(.inr (.inr (.inr (.inr (.inl ⟨hk,rfl⟩))))),.inl rfl⟩,bex⟩
    ·have hq:decide (v=u)=false:=decide_eq_false hvu;go_wp2_with fail;go_region_held3 (fun w'=>w'.cell? ⟨w.heap.size,0,none⟩=some (.int .i64 4)/\w'.cell? ⟨gk,0,none⟩=some (.iface t0' y0)/\w'.cell? ⟨gk,1,none⟩=some (.iface t1' y1)) (refine⟨?_,?_,?_⟩<;>exact kp8) (first|(go_at_call 264;refine cM8 (l4 _ _ _ _ _ _) ?_;rintro z w4 ⟨rfl,hb4⟩;have hz4:=hb4.size;(try simp at hz4)));have I3:Below w.heap.size w w4:=bex;have C0W:=I3.size;have hh:w4.cell? ⟨w.heap.size,0,none⟩=some (.int .i64 4)/\w4.cell? ⟨gk,0,none⟩=some (.iface t0' y0)/\w4.cell? ⟨gk,1,none⟩=some (.iface t1' y1):=by assumption
     obtain⟨p0,p1,p2⟩:=hh;have hw4:w.heap.size<w4.heap.size:=bl8 _ _ p0;clear b0 b1 b2 b3 b4 b5 b6 b7 b8 b9 b10 b11 d0 d1;go_wp2_with fail;go_returns;have hk:=HK.out;exact⟨.inr ⟨by simp[I2,hk,hvu],rfl⟩,bex⟩
theorem B32 {W0 w:World}{rs:List R3}{p:P12}{ue us uk vd:Value}{Fe Fs Fd:List Nat}{D N:Nat}(hb0:Below W0.heap.size W0 w)(hdb:G9 rs=true)(hR:H8 W0 vd rs Fd)(hw:p.wf)(hn:wtP p<=1048576)(ke:C1 W0 D ue p.e.ks Fe)(kes:C1 W0 D us p.es Fs)(ae:Own W0 N Fe)(aq:Own W0 N Fs)(huk:∃a c,uk=.slice a p.ks.length c)(hp:I8 p=true)(hk:p.k=5)(v u:Int)(a:Option Addr)(c:Nat)(hc:1<=c/\c<=maxLen)(gk:Nat)(x0 t0:Value)(w0:Wid x0 v t0)(v0:0<=v/\v<=12)(s0:∃a l c,t0=.slice a l c)(c0:w.cell? ⟨gk,0,none⟩=some x0):Calls Tryz.prog 83 #[vd,(.agg #[.int .i64 p.k,.string p.s,.int .i64 p.e.k,.int .i64 p.e.n,.int .i64 p.e.v.k,.int .i64 p.e.v.n,.string p.e.v.s,.string p.e.p,ue,us,.int .i64 p.n,uk]),.slice (some ⟨gk,0,none⟩) 1 c] w fun x w'=>A1I W0 rs p v u (.slice (some ⟨gk,0,none⟩) 1 c) 1 x/\Below w.heap.size w w':=by
 have hwt:=f9 p;have hzw:=hb0.size;unfold maxLen at hc;obtain⟨aE,cE,rfl,hE1,hE2⟩:=ke.shape;obtain⟨aS,cS,rfl,hS1,hS2⟩:=kes.shape;obtain⟨aK,cK,rfl⟩:=huk;unfold maxLen at hE2 hS2;obtain⟨t0',y0,k0,rfl,hM0,_⟩:=w0;obtain⟨z0,z1,z2,rfl⟩:=s0;have hgk:gk<w.heap.size:=bl8 _ _ c0;have hB:=X2 w p (.slice aE p.e.ks.length cE) (.slice aS p.es.length cS) (.slice aK p.ks.length cK) 45;have HK:Hid (p.k=5):=hk;clear hk;go_enter Tryz.func83,Tryz.ntmps83;go_wp2_with fail;go_loopw [7,12] (fun s i wr=> ∃k:Nat,k<=1/\i=.int .i64 k/\s=.int .i64 (if k=0 then 0 else v)/\BxP wr w.heap.size p (.slice aE p.e.ks.length cE) (.slice aS p.es.length cS) (.slice aK p.ks.length cK)/\Below w.heap.size w wr) (fun _ i _=>1 - (intOf i).toNat)
 case atStart=>exact⟨0,Nat.zero_le _,rfl,rfl,hB.below bex,bex⟩
 case round=>
  obtain⟨k,hkn,rfl,rfl,hBr,hb⟩:=hrel;have hzb:=hb.size;rcases Nat.lt_or_ge k 1 with hlt|hge
  ·obtain rfl:k=0:=by omega
   have d0:=((bc8 hb).1 gk 0 hgk).trans c0;have hgr:gk<wr.heap.size:=by omega
   go_wp2_with(go_at_call 264;refine cM8 (l4 _ _ _ _ _ _) ?_;rintro z w2 ⟨rfl,hb2⟩);exact⟨⟨1,by omega,rfl,by simp[wrap64];try omega,hBr.below hb2,hb.trans (hb2.mono hzb)⟩,by simp[intOf]⟩
  ·obtain rfl:k=1:=by omega
   have hBk:=hBr;obtain⟨b',b0,b1,b2,b3,b4,b5,b6,b7,b8,b9,b10,b11⟩:=hBr;rw[HK.out]at b0;go_wp2_with fail;go_quiet (fail);go_wp2_with fail;go_returns;have hk:=HK.out;have e1:G8 rs p v u=v:=by simp[G8,hk]
   exact⟨.inl ⟨by simp[I2,hk],_,_,rfl,by rw[e1];exact(.inr (.inr (.inr (.inr (.inr (.inl ⟨hk,rfl⟩)))))),.inl rfl⟩,hb.trans ((dN8 wr _).mono hzb)⟩
theorem C1C {W0 w:World}{rs:List R3}{p:P12}{ue us uk vd:Value}{Fe Fs Fd:List Nat}{D N:Nat}(hb0:Below W0.heap.size W0 w)(hdb:G9 rs=true)(hR:H8 W0 vd rs Fd)(hw:p.wf)(hn:wtP p<=1048576)(ke:C1 W0 D ue p.e.ks Fe)(kes:C1 W0 D us p.es Fs)(ae:Own W0 N Fe)(aq:Own W0 N Fs)(huk:∃a c,uk=.slice a p.ks.length c)(hp:I8 p=true)(hk:p.k=6)(v u:Int)(a:Option Addr)(c:Nat)(hc:1<=c/\c<=maxLen)(gk:Nat)(x0 t0:Value)(w0:Wid x0 v t0)(v0:0<=v/\v<=12)(s0:∃a l c,t0=.slice a l c)(c0:w.cell? ⟨gk,0,none⟩=some x0):Calls Tryz.prog 83 #[vd,(.agg #[.int .i64 p.k,.string p.s,.int .i64 p.e.k,.int .i64 p.e.n,.int .i64 p.e.v.k,.int .i64 p.e.v.n,.string p.e.v.s,.string p.e.p,ue,us,.int .i64 p.n,uk]),.slice (some ⟨gk,0,none⟩) 1 c] w fun x w'=>A1I W0 rs p v u (.slice (some ⟨gk,0,none⟩) 1 c) 1 x/\Below w.heap.size w w':=by
 have hwt:=f9 p;have hzw:=hb0.size;unfold maxLen at hc;obtain⟨aE,cE,rfl,hE1,hE2⟩:=ke.shape;obtain⟨aS,cS,rfl,hS1,hS2⟩:=kes.shape;obtain⟨aK,cK,rfl⟩:=huk;unfold maxLen at hE2 hS2;have hO:=fun(w2:World) (hb:Below w.heap.size w w2)=>A67 _ p.es Fs D v w2 (kes.below (hb0.trans (hb.mono hzw))) ⟨aq.1,fun b hb'=>((aq.dst kes).2 b hb').keep ((hb0.trans (hb.mono hzw)).block b (kes.lt b hb'))⟩ (by omega);obtain⟨bo,HO⟩:∃b,Hid (p.es.all (bE8 · v)=b):=⟨_,rfl⟩;rw[HO.out]at hO;obtain⟨t0',y0,k0,rfl,hM0,_⟩:=w0;obtain⟨z0,z1,z2,rfl⟩:=s0;have hgk:gk<w.heap.size:=bl8 _ _ c0;have hB:=X2 w p (.slice aE p.e.ks.length cE) (.slice aS p.es.length cS) (.slice aK p.ks.length cK) 45;have HK:Hid (p.k=6):=hk;clear hk;go_enter Tryz.func83,Tryz.ntmps83;go_wp2_with fail;go_loopw [7,12] (fun s i wr=> ∃k:Nat,k<=1/\i=.int .i64 k/\s=.int .i64 (if k=0 then 0 else v)/\BxP wr w.heap.size p (.slice aE p.e.ks.length cE) (.slice aS p.es.length cS) (.slice aK p.ks.length cK)/\Below w.heap.size w wr) (fun _ i _=>1 - (intOf i).toNat)
 case atStart=>exact⟨0,Nat.zero_le _,rfl,rfl,hB.below bex,bex⟩
 case round=>
  obtain⟨k,hkn,rfl,rfl,hBr,hb⟩:=hrel;have hzb:=hb.size;rcases Nat.lt_or_ge k 1 with hlt|hge
  ·obtain rfl:k=0:=by omega
   have d0:=((bc8 hb).1 gk 0 hgk).trans c0;have hgr:gk<wr.heap.size:=by omega
   go_wp2_with(go_at_call 264;refine cM8 (l4 _ _ _ _ _ _) ?_;rintro z w2 ⟨rfl,hb2⟩);exact⟨⟨1,by omega,rfl,by simp[wrap64];try omega,hBr.below hb2,hb.trans (hb2.mono hzb)⟩,by simp[intOf]⟩
  ·obtain rfl:k=1:=by omega
   have hBk:=hBr;obtain⟨b',b0,b1,b2,b3,b4,b5,b6,b7,b8,b9,b10,b11⟩:=hBr;rw[HK.out]at b0;have hes:p.es.length<=1:=by have h1:=hp;simp[I8,HK.out]at h1;omega
   go_wp2_with fail;go_quiet (fail);by_cases hn0:0<=p.n
   ·by_cases hnv:p.n<=v
    ·cases bo with
     |true=>
      go_wp2_with(go_at_call 105;refine cM8 (hO _ (hb.trans ((dN8 wr _).mono hzb))) ?_;rintro z w2 ⟨rfl,hb2⟩;have hb3:Below wr.heap.size wr w2:=(dN8 wr _).trans (hb2.mono (dN8 wr _).size);have C0:Below w.heap.size w w2:=hb.trans (hb3.mono hzb);have B2:=hBk.below hb3;clear b0 b1 b2 b3 b4 b5 b6 b7 b8 b9 b10 b11 hO hb2 hb3;obtain⟨_,b0,b1,b2,b3,b4,b5,b6,b7,b8,b9,b10,b11⟩:=B2;rw[HK.out]at b0);go_returns;have hk:=HK.out;have e1:G8 rs p v u=p.n+1+p.es.length:=by simp[G8,hk]
      exact⟨.inl ⟨by have h1:=HO.out;simp at h1;simp[I2,hk];exact⟨⟨⟨hn0,hnv⟩,hes⟩,h1⟩,_,_,rfl,by rw[e1];exact(.inr (.inr (.inr (.inr (.inr (.inr ⟨hk,_,Fs,D,kes,rfl⟩)))))),.inl rfl⟩,C0⟩
     |false=>
      go_wp2_with(go_at_call 105;refine cM8 (hO _ (hb.trans ((dN8 wr _).mono hzb))) ?_;rintro z w2 ⟨rfl,hb2⟩;have hb3:Below wr.heap.size wr w2:=(dN8 wr _).trans (hb2.mono (dN8 wr _).size);have C0:Below w.heap.size w w2:=hb.trans (hb3.mono hzb);have B2:=hBk.below hb3;clear b0 b1 b2 b3 b4 b5 b6 b7 b8 b9 b10 b11 hO hb2 hb3;obtain⟨_,b0,b1,b2,b3,b4,b5,b6,b7,b8,b9,b10,b11⟩:=B2;rw[HK.out]at b0);go_returns;have hk:=HK.out;exact⟨.inr ⟨by have h1:=HO.out;rw[I2,if_neg (by omega),if_neg (by omega),if_neg (by omega),if_neg (by omega),if_neg (by omega),if_pos hk,h1,Bool.and_false],rfl⟩,C0⟩
    ·go_wp2_with fail;go_returns;have hk:=HK.out;exact⟨.inr ⟨by simp[I2,hk];intros;omega,rfl⟩,hb.trans ((dN8 wr _).mono hzb)⟩
   ·go_wp2_with fail;go_returns;have hk:=HK.out;exact⟨.inr ⟨by simp[I2,hk];intros;omega,rfl⟩,hb.trans ((dN8 wr _).mono hzb)⟩
end
end Go.Proofs.YteekfcdllaceoaaGreatDoor
