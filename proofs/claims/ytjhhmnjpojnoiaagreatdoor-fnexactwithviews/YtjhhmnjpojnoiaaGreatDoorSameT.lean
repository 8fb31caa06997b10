/- Own text. The contract of impl.sameTrees at expressions. -/
import Derived.Test.YtjhhmnjpojnoiaaGreatDoorGLWithViews15
import Derived.Test.YtjhhmnjpojnoiaaGreatDoorGLWithViews1
import Derived.Handy
import Derived.WideMake
import Derived.Deep.RegionHeld3
set_option maxHeartbeats 16000000
set_option maxRecDepth 100000
set_option linter.unusedVariables false
set_option linter.unusedSimpArgs false
namespace Go.Proofs.YtjhhmnjpojnoiaaGreatDoor
section
section
open Go.RowKit Go.Deep
theorem wf_sub {m:M8}{w:World}(h:PtE w m.d m.lb m.lo m.l m.F):∃d u,m.d=d+1∧w.cell? ⟨m.lb,m.lo+6,none⟩=some u∧KidsIs w (d+1) u m.l.ks m.F:=by
 obtain⟨_,_,u,hu,hk⟩:=h;cases hd:m.d with
 |zero=>rw[hd]at hk;exact hk.elim
 |succ d=>rw[hd]at hk;exact⟨d,u,rfl,hu,hk⟩
attribute [local go_sem] Go.run_makeMap_plain
theorem sameTrees_any (d b q b' q':Nat)(e f:E7)(F F':List Nat)(w:World)(h:PtE w d b q e F)(h':PtE w d b' q' f F')(hnd:F.Nodup)(hFr:∀x∈F,Fr w x)(hn:wtE e≤1048576):Calls Tryz.prog 134 #[.pointer (some ⟨b,q,none⟩),.pointer (some ⟨b',q',none⟩),.func (.func 135) #[] #[],.func (.func 136) #[] #[]] w fun x w'=>x=.returned (.bool (sameD d e f))∧Below w.heap.size w w':=by
 have hFr':∀x∈F,Fr w x∧x<w.heap.size:=fun x hx=>⟨hFr x hx,by obtain⟨_,_,_,_,hk⟩:=h;exact hk.lt x hx⟩;go_enter Tryz.func134,Tryz.ntmps134;go_wp2_with fail;go_loopw [9,11] (fun v i wr=> ∃ (k:Nat) (ms:List M8) (es:Array MapEntry) (ck:Nat),i=.int .i64 k∧Que w F (w.heap.size+1) (sameD d e f) (1+wtE e) wr v k ms es ck) (fun _ i _=>1+wtE e - (intOf i).toNat)
 case atStart=>
  refine⟨0,[⟨b,q,b',q',d,e,f,F,F'⟩],#[],0,rfl,⟨by simp,⟨by simp[mc],.inr ⟨w.heap.size,1,#[.pointer (some ⟨b,q,none⟩),.pointer (some ⟨b',q',none⟩)],rfl,Nat.le_refl _,?_,by simp,by simp[maxLen],by simp,by simp[mc]⟩⟩,?_,bex,?_,by simp,by simp,by simpa using hnd,by simp[M8.same],by simp⟩⟩
  ·exact(heap_two w _ _).1
  ·exact(heap_two w _ _).2
  ·intro m hm;rcases List.mem_singleton.1 hm with rfl;exact⟨h,h'⟩
 case round=>
  obtain⟨k,ms,es,ck,rfl,hQ⟩:=hrel;have hb:=hQ.bel;have hzb:=hb.size;have htot:=hQ.tot;by_cases hlt:k<ms.length
  ·have hm:ms[k]?=some ms[k]:=by simp
   generalize ms[k]=m at hm;obtain⟨g,cap,hv,hnl,hik,hcap,hmx,hglt,hNg,c0,c1⟩:=own_read hQ.own hm;subst hv;have hPl:=(hQ.ok m (mg8 hm)).1;have hPr:=(hQ.ok m (mg8 hm)).2;unfold maxLen at hmx;obtain⟨d1,ul,hd1,hul,hKl⟩:=wf_sub hPl;obtain⟨ur,hur,hKr⟩:∃ur,w.cell? ⟨m.rb,m.ro+6,none⟩=some ur∧KidsIs w (d1+1) ur m.r.ks m.H:=by
    obtain⟨_,_,ur,hur,hK⟩:=hPr;exact⟨ur,hur,by rw[←hd1];exact hK⟩
   have hPl1:=hPl.below hb;have hPr1:=hPr.below hb;have hlbw:=hPl.1;have hrbw:=hPr.1;have hdr:ms.drop k=m::ms.drop (k+1):=by
    obtain⟨_,rfl⟩:=gE1 hm;exact List.drop_eq_getElem_cons hlt
   have HQ:Hid (Que w F (w.heap.size+1) (sameD d e f) (1+wtE e) wr (.slice (some ⟨g,0,none⟩) ms.length cap) k ms es ck):=hQ;have HM:Hid (ms[k]?=some m):=hm;by_cases htop:topB m.l m.r=true;rotate_left
   ·replace htop:topB m.l m.r=false:=by simpa using htop
    have HR:Hid (sameD d e f=false):=by
     show sameD d e f=false;rw[hQ.res,hdr,List.all_cons];show(sameD m.d m.l m.r &&_)=false;rw[hd1,sameD_eq,htop];rfl
    clear hQ hm hdr hd1 hKl hKr hul hur;go_wp2_with(first|(go_at_call 135;refine(sameNode_any _ _ _ _ _ _ m.l m.r _ _ _ (hPl1.below bex) (hPr1.below bex)).mono ?_;rintro z w1 ⟨rfl,hb1⟩;have hz1:=hb1.size;(try simp at hz1))|fail);go_returns;exact⟨rB8 HR.out.symm,bex⟩
   have HT:Hid (topB m.l m.r=true):=htop;have HD:Hid (m.d=d1+1):=hd1;obtain⟨al,cl,bl,ol,G,rfl,hll,hcl,hG,hF0,hal⟩:=hKl.pick;obtain⟨ar,cr,br,or,G',rfl,hlr,hcr,hG',_,har⟩:=hKr.pick;unfold maxLen at hcl hcr;clear hQ hm hdr hd1 hKl hKr;go_wp2_with(first|(go_at_call 135;refine(sameNode_any _ _ _ _ _ _ m.l m.r _ _ _ (hPl1.below bex) (hPr1.below bex)).mono ?_;rintro z w1 ⟨rfl,hb1⟩;have hz1:=hb1.size;(try simp at hz1))|fail);have hul1:w1.cell? ⟨m.lb,m.lo+6,none⟩=some (.slice al m.l.ks.length cl):=by
    rw[(Below.cell (p:=⟨m.lb,m.lo+6,none⟩) (show Below w.heap.size w w1 from bex) hlbw)];exact hul
   have hur1:w1.cell? ⟨m.rb,m.ro+6,none⟩=some (.slice ar m.r.ks.length cr):=by
    rw[(Below.cell (p:=⟨m.rb,m.ro+6,none⟩) (show Below w.heap.size w w1 from bex) hrbw)];exact hur
   have q0:w1.cell? ⟨wr.heap.size,0,none⟩=some (.pointer (some ⟨m.lb,m.lo,none⟩)):=cL8 hb1 (by go_simp);have q1:w1.cell? ⟨wr.heap.size,1,none⟩=some (.pointer (some ⟨m.rb,m.ro,none⟩)):=cL8 hb1 (by go_simp);clear htop hul hur c0 c1;go_region_held3 (fun w'=>w'.cell? ⟨wr.heap.size,0,none⟩=some (.pointer (some ⟨m.lb,m.lo,none⟩))∧w'.cell? ⟨wr.heap.size,1,none⟩=some (.pointer (some ⟨m.rb,m.ro,none⟩))∧w'.cell? ⟨m.lb,m.lo+6,none⟩=some (.slice al m.l.ks.length cl)∧w'.cell? ⟨m.rb,m.ro+6,none⟩=some (.slice ar m.r.ks.length cr)) (refine⟨?_,?_,?_,?_⟩<;>go_simp) ((go_at_call 136;(first|(with_reducible refine cM8 (kidsOfExp_any m.lb m.lo (.slice al m.l.ks.length cl) _ ?h1 ?h2) ?_)|(with_reducible refine cM8 (kidsOfExp_any m.rb m.ro (.slice ar m.r.ks.length cr) _ ?h1 ?h2) ?_));(case h1=>first|omega|(simp;omega));(case h2=>go_simp);rintro z w2 ⟨rfl,rfl⟩));have hI0:Inn w F (w.heap.size+1) w1.drew (.slice (some ⟨g,0,none⟩) ms.length cap) k ms m d1 bl ol br or G G' 0 es ck:=HQ.out.inn bex;have HLn:Hid (m.l.ks.length=m.r.ks.length):=by
    have ht:=HT.out;unfold topB at ht;simp at ht;show m.l.ks.length=m.r.ks.length;omega
   have htl:ms.length+m.l.ks.length≤1048577:=by
    have:=HQ.out.tot;have e:=wtE_eq m.l;obtain⟨hkl,rfl⟩:=gE1 HM.out;rw[List.drop_eq_getElem_cons hkl,List.map_cons,List.sum_cons]at this;omega
   clear hb1 hul1 hur1 q0 q1 hPl1 hPr1 hlbw hrbw hPl hPr;go_wp2_with fail;go_loopw [9,55] (fun v' kk w'=> ∃ (j:Nat) (es':Array MapEntry) (ck':Nat),j≤m.l.ks.length∧kk=.int .i64 j∧Inn w F (w.heap.size+1) w' v' k ms m d1 bl ol br or G G' j es' ck') (fun _ kk _=>m.l.ks.length - (intOf kk).toNat)
   case atStart=>exact⟨0,es,ck,Nat.zero_le _,rfl,hI0⟩
   case round=>
    clear hI0;obtain⟨j,es',ck',hj,rfl,hI⟩:=hrel;by_cases hjl:j<m.l.ks.length
    ·have hjr:j<m.r.ks.length:=by have:=HLn.out;omega
     obtain⟨rfl,hblt,hFl,hLl⟩:=hal j hjl;obtain⟨rfl,hbrt,_,hLr⟩:=har j hjr;clear hal har hcap hmx;go_wp2_with fail;go_region_held3 (fun w'=>True) (trivial) (fail);have hX:Below w.heap.size w (World.drew (World.alloc wr (.cells #[.pointer (some ⟨bl,ol+j*7,none⟩),.pointer (some ⟨br,or+j*7,none⟩)] 237))):=by
      have hb2:=hI.bel;have hz2:=hb2.size;exact bex
     have hBz:w.heap.size+1<wr.heap.size:=(Array.getElem?_eq_some_iff.1 hI.map).1;have hbX:Below wr.heap.size wr (World.drew (World.alloc wr (.cells #[.pointer (some ⟨bl,ol+j*7,none⟩),.pointer (some ⟨br,or+j*7,none⟩)] 237))):=bex;have x0:(World.drew (World.alloc wr (.cells #[.pointer (some ⟨bl,ol+j*7,none⟩),.pointer (some ⟨br,or+j*7,none⟩)] 237))).cell? ⟨wr.heap.size,0,none⟩=some (.pointer (some ⟨bl,ol+j*7,none⟩)):=by go_simp
     have x1:(World.drew (World.alloc wr (.cells #[.pointer (some ⟨bl,ol+j*7,none⟩),.pointer (some ⟨br,or+j*7,none⟩)] 237))).cell? ⟨wr.heap.size,1,none⟩=some (.pointer (some ⟨br,or+j*7,none⟩)):=by go_simp
     have xz:(World.drew (World.alloc wr (.cells #[.pointer (some ⟨bl,ol+j*7,none⟩),.pointer (some ⟨br,or+j*7,none⟩)] 237))).heap.size=wr.heap.size+1:=by simp
     generalize World.drew (World.alloc wr (.cells #[.pointer (some ⟨bl,ol+j*7,none⟩),.pointer (some ⟨br,or+j*7,none⟩)] 237))=wX at*;have hmX:wX.heap[w.heap.size+1]?=some (.map es' ck'):=(hbX.block _ hBz).trans hI.map;have hoX:=own_keep2 hI.own hbX;have hfX:=hI.fresh HM.out hFl hFr' hX;have hblF:bl∈F:=HQ.out.sub m (by
      obtain⟨hkl,rfl⟩:=gE1 HM.out;rw[List.drop_eq_getElem_cons hkl];exact List.mem_cons_self) bl (by rw[hFl];exact List.mem_cons_self)
     have hpX:Fr wX bl:=(hFr' bl hblF).1.keep (hX.block bl (hFr' bl hblF).2);obtain⟨n,hn'⟩:∃n,n=ms.length+j:=⟨_,rfl⟩;rw[←hn']at hoX;obtain⟨g2,cap2,rfl,hc2,hm2,hN2,hlt2,hcl2⟩:=own_shape hoX (by omega);unfold maxLen at hm2;have hlook:=look_no wX (p:=⟨bl,ol+j*7,none⟩) (q:=⟨br,or+j*7,none⟩) hmX hpX hfX;have hupd:=upd_no wX (p:=⟨bl,ol+j*7,none⟩) (q:=⟨br,or+j*7,none⟩) (v:=.int .i64 n) hmX hpX hfX;obtain⟨y0,y1,y2,y3⟩:=upd_world (o':=.map (es'.push ⟨.agg #[.pointer (some ⟨bl,ol+j*7,none⟩),.pointer (some ⟨br,or+j*7,none⟩)],.int .i64 n,ck'⟩) (ck'+1)) hmX (by omega) hX;generalize({wX with heap:=wX.heap.setIfInBounds (w.heap.size+1) (.map (es'.push ⟨.agg #[.pointer (some ⟨bl,ol+j*7,none⟩),.pointer (some ⟨br,or+j*7,none⟩)],.int .i64 n,ck'⟩) (ck'+1))}:World)=wY at*;have z0:wY.cell? ⟨wr.heap.size,0,none⟩=some (.pointer (some ⟨bl,ol+j*7,none⟩)):=(cb8 (y1 _ (by omega))).trans x0;have z1:wY.cell? ⟨wr.heap.size,1,none⟩=some (.pointer (some ⟨br,or+j*7,none⟩)):=(cb8 (y1 _ (by omega))).trans x1;have hgB:g2≠w.heap.size+1:=by
      rintro rfl;obtain⟨c,t,l,hc⟩:=hcl2;rw[hmX]at hc;cases hc
     have hoY:wY.ownsRow w.heap.size 237 2 (.slice (some ⟨g2,0,none⟩) n cap2) n (mc (ms++kms m d1 bl ol br or G G' j)):=own_keep3 hoX fun g' c t l hg' _=>by
      simp[Value.ownBlock]at hg';subst hg';exact y1 _ hgB
     have HI:Hid (Inn w F (w.heap.size+1) wr (.slice (some ⟨g2,0,none⟩) n cap2) k ms m d1 bl ol br or G G' j es' ck'):=hI;have HN:Hid (n=ms.length+j):=hn';have hn2:n+1≤1048577:=by omega
     obtain⟨i0,hi,hz0,hz1,hz2⟩:=info_parts Tryz.infoMatch;have hnew:∀j' u,[Value.pointer (some ⟨bl,ol+j*7,none⟩),Value.pointer (some ⟨br,or+j*7,none⟩)][j']?=some u→(wY.alloc (.cells #[.pointer (some ⟨bl,ol+j*7,none⟩),.pointer (some ⟨br,or+j*7,none⟩)] 237)).cell? ((⟨wY.heap.size,0,none⟩:Addr).add j')=some u:=by
      intro j' u hu
      match j',hu with
      |0,hu=>simp at hu;subst hu;go_simp
      |1,hu=>simp at hu;subst hu;go_simp
     have hoZ:(wY.alloc (.cells #[.pointer (some ⟨bl,ol+j*7,none⟩),.pointer (some ⟨br,or+j*7,none⟩)] 237)).ownsRow w.heap.size 237 2 (.slice (some ⟨g2,0,none⟩) n cap2) n (mc (ms++kms m d1 bl ol br or G G' j)):=own_keep2 hoY ((Below.refl _ _).alloc (Nat.le_refl _) _);have hyz:w.heap.size+1<wY.heap.size:=by omega
     have hrz:wr.heap.size<wY.heap.size:=by omega
     clear hI hn' hoX hfX hpX hX hbX hmX hcl2 y2 xz;go_wp2_with(at_builtin;refine wpList_append_own _ rfl _ _ 238 rfl w.heap.size 237 i0 _ 2 16 Tryz.underlying238 hi hz0 hz1 hz2 rfl (by decide) _ _ _ rfl hoZ ⟨wY.heap.size,0,none⟩ 1 1 [.pointer (some ⟨bl,ol+j*7,none⟩),.pointer (some ⟨br,or+j*7,none⟩)] rfl rfl hnew (by simp[Value.oneCell']) ?c3 ?c4 ?c5 ?_)
     case c3=>unfold maxLen;omega
     case c4=>omega
     case c5=>simp;omega
     intro v5 w5 hown5 hgr5 _;have hB5:w5.heap[w.heap.size+1]?=some (.map (es'.push ⟨.agg #[.pointer (some ⟨bl,ol+j*7,none⟩),.pointer (some ⟨br,or+j*7,none⟩)],.int .i64 n,ck'⟩) (ck'+1)):=by
      rw[hgr5.block _ (by simp;omega) (by simp[Value.ownBlock];omega)];rw[Below.block ((Below.refl _ _).alloc (Nat.le_refl _) _) _ hyz];exact y0
     have hbel5:Below w.heap.size w w5:=(Below.alloc y3 (by omega) _).grown hgr5 (by simp;omega) (fun k' hk'=>by simp[Value.ownBlock]at hk';omega);have hI5:=HI.out.step hblF (by rw[HN.out]at hown5;exact hown5) hB5 hbel5;clear hown5 hgr5 hB5 hbel5;go_wp2;exact⟨⟨j+1,_,_,hjl,by simp,hI5⟩,by simp[intOf];omega⟩
    ·obtain rfl:j=m.l.ks.length:=by omega
     have hF1:m.l.ks≠ []→m.F=bl::G.flatten:=fun hne=>(hal 0 (List.length_pos_iff.2 hne)).2.2.1;have hok:∀i,i<m.l.ks.length→(km m d1 bl ol br or G G' i).ok w:=by
      intro i hi;have hi':i<m.r.ks.length:=by have:=HLn.out;omega
      obtain⟨_,hblt,_,hLl⟩:=hal i hi;obtain⟨_,hbrt,_,hLr⟩:=har i hi';have hiG:i<G.length:=by omega
      have hiG':i<G'.length:=by omega
      have e1:m.l.ks[i]?=some m.l.ks[i]:=by simp
      have e2:m.r.ks[i]?=some m.r.ks[i]:=by simp
      have e3:G[i]?=some G[i]:=by simp
      have e4:G'[i]?=some G'[i]:=by simp
      obtain⟨_,p1,p2⟩:=hLl i _ _ e1 e3;obtain⟨_,r1,r2⟩:=hLr i _ _ e2 e4;unfold M8.ok km;dsimp only;rw[getD_of e1,getD_of e2,getD_of e3,getD_of e4];exact⟨⟨hblt,p1,p2⟩,⟨hbrt,r1,r2⟩⟩
     have hQ':=Inn.done HQ.out HM.out HD.out HT.out hG hG' hF0 hF1 hok hI;have hkt:k<1+wtE e:=by omega
     clear hok hF1 hI hal har;go_wp2_with fail;exact⟨⟨k+1,_,es',ck',by simp,hQ'⟩,by simp[intOf];omega⟩
  ·have HR:Hid (sameD d e f=true):=by
    show sameD d e f=true;rw[hQ.res,List.drop_eq_nil_of_le (by omega)];rfl
   obtain⟨ao,cap,hv,hmx⟩:∃ao cap,u9=.slice ao ms.length cap∧ms.length≤maxLen:=by
    rcases hQ.own.2 with⟨hv,h0⟩|⟨g,cap,cur,hv,_,_,hn',hm,_⟩
    ·exact⟨none,0,by rw[h0];exact hv,by rw[h0];simp⟩
    ·exact⟨_,cap,hv,by omega⟩
   unfold maxLen at hmx;subst hv;clear hQ;go_wp2_with fail;go_returns;exact⟨rB8 HR.out.symm,hb⟩
end
end
end Go.Proofs.YtjhhmnjpojnoiaaGreatDoor
