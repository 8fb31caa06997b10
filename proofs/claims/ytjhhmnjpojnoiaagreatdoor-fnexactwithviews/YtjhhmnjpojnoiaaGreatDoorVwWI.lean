/- Own text. The contract of impl.WithViews. -/
import Derived.Test.YtjhhmnjpojnoiaaGreatDoorGLWithViews17
import Derived.Test.YtjhhmnjpojnoiaaGreatDoorGLWithViews1
import Derived.Test.YtjhhmnjpojnoiaaGreatDoorVwF
import Derived.Test.YtjhhmnjpojnoiaaGreatDoorVwI
import Derived.Test.YtjhhmnjpojnoiaaGreatDoorGLWithViews7
import Derived.Test.YtjhhmnjpojnoiaaGreatDoorGLWithViews11
import Derived.Handy
import Derived.Deep.DrawnRows
import Derived.Deep.AppendLies
set_option maxHeartbeats 16000000
set_option maxRecDepth 100000
set_option linter.unusedVariables false
set_option linter.unusedSimpArgs false
namespace Go.Proofs.YtjhhmnjpojnoiaaGreatDoor
section
section
open Go.RowKit Go.Deep
attribute [local go_sem↓] Go.wp_at_zero Go.wp_at_succ
theorem implWith_any (rs:List R3)(vd:Value)(Fd:List Nat)(vs:List V15)(D d B N:Nat)(GV:List (List Nat×List Nat))(w:World)(hrw:RsWf rs)(hR:RelsF w vd rs Fd)(hV:ViewsF w D d B vs GV)(hO:Own w N (B::blksV GV))(hn:wtR rs≤1048576)(hnv:wtV vs≤1048576)(hE:ErrT w):Calls Tryz.prog 9 #[vd,.slice (some ⟨B,0,none⟩) vs.length vs.length] w fun e w'=>(∃u l F,e=.returned u∧WithIs rs vs l∧RelsF w' u l F∧OwnB w' w.heap.size F)∧Below w.heap.size w w':=by
 obtain⟨i0,hi,hz0,hz1,hz2⟩:=info_parts Tryz.infoRel;have hC:=fun(X:World) (hX:Below w.heap.size w X)=>copyRels_any vd rs Fd X (hR.below hX) hn;have hW:=fun(X:World) (hX:Below w.heap.size w X)=>implViews_any rs vd Fd vs D d N (.slice (some ⟨B,0,none⟩) vs.length vs.length) (GV.map Prod.fst) X hrw (hR.below hX) (hV.below hX).is (ViewsF.own (hO.below hV.lt hX)) hnv (hE.below hX);obtain⟨ad,cd,bd,od,Gd,rfl,hld,hcd,_,_,_,_,_⟩:=hR.pick;have hrl:rs.length≤1048576:=by unfold wtR at hn;omega
 have hvl:vs.length≤1048576:=by unfold wtV at hnv;omega
 unfold maxLen at hcd;have hwr:IntKind.i64.wrap ((rs.length:Int)+vs.length)=rs.length+vs.length:=by rw[IntKind.wrap_i64];omega
 obtain⟨vb,HVB⟩:∃q,Hid (viewsP rs vs=q):=⟨_,rfl⟩;rw[HVB.out]at hW;cases vb with
 |false=>
  clear hV hO hR hE;go_enter Tryz.func9,Tryz.ntmps9;go_wp2_with(first|(go_at_call 22;refine cM8 (hC _ bex) ?_;rintro e w1 ⟨⟨u1,us1,G1,g1,c1,rfl,eY,hB1⟩,hb1⟩;subst eY;have hq1:=hb1.size)|(go_at_call 23;refine cM8 (hW _ bex) ?_;rintro e w2 ⟨rfl,hb2⟩;have hq2:=hb2.size;have hB2:=hB1.below hb2)|fail);go_returns;obtain⟨F',h1,h2⟩:=hB2.relsF;exact⟨⟨_,rs,F',rfl,⟨fun h=>absurd (HVB.out.symm.trans h.1) (by simp),fun _=>rfl⟩,h1,h2⟩,bex⟩
 |true=>
  by_cases h20:rs.length+vs.length≤20
  case neg=>
   have h21:(20:Int)<(rs.length:Int)+vs.length:=by omega
   have H20:Hid (¬rs.length+vs.length≤20):=h20;clear hV hO hR hE h20;go_enter Tryz.func9,Tryz.ntmps9;go_wp2_with(first|(go_at_call 22;refine cM8 (hC _ bex) ?_;rintro e w1 ⟨⟨u1,us1,G1,g1,c1,rfl,eY,hB1⟩,hb1⟩;subst eY;have hq1:=hb1.size)|(go_at_call 23;refine cM8 (hW _ bex) ?_;rintro e w2 ⟨rfl,hb2⟩;have hq2:=hb2.size;have hB2:=hB1.below hb2)|fail);go_returns;obtain⟨F',h1,h2⟩:=hB2.relsF;exact⟨⟨_,rs,F',rfl,⟨fun h=>absurd h.2 H20.out,fun _=>rfl⟩,h1,h2⟩,bex⟩
  have h21:¬ (20:Int)<(rs.length:Int)+vs.length:=by omega
  have h22:(rs.length:Int)+vs.length≤20:=by omega
  go_enter Tryz.func9,Tryz.ntmps9;go_wp2_with(first|(go_at_call 22;refine cM8 (hC _ bex) ?_;rintro e w1 ⟨⟨u1,us1,G1,g1,c1,rfl,eY,hB1⟩,hb1⟩;subst eY;have hq1:=hb1.size)|(go_at_call 23;refine cM8 (hW _ bex) ?_;rintro e w2 ⟨rfl,hb2⟩;have hq2:=hb2.size;have hB2:=hB1.below hb2)|fail);have belA:Below w.heap.size w w2:=bex;clear hb1 hb2 hC hW hR hO;go_loopw [5,25] (fun y i wr=> ∃ (k:Nat) (us:List Value) (G:List (List Nat)),k≤vs.length∧i=.int .i64 k∧RelOwn wr w.heap.size y (rs++(vs.take k).map relV) us G∧(∃g c,y=.slice (some ⟨g,0,none⟩) (rs++(vs.take k).map relV).length c)∧Below w.heap.size w wr) (fun _ i _=>vs.length - (intOf i).toNat)
  case atStart=>exact⟨0,us1,G1,Nat.zero_le _,rfl,by simpa using hB2,⟨g1,c1,by simp⟩,belA⟩
  case round=>
   obtain⟨k,us,G,hk,rfl,hB,hY,hb⟩:=hrel;have hzb:=hb.size;by_cases hlt:k<vs.length
   ·have hblt:=hV.1;obtain⟨x,hx⟩:∃x,vs[k]?=some x:=⟨vs[k],by simp[hlt]⟩;obtain⟨⟨gp,g⟩,hg⟩:∃q,GV[k]?=some q:=⟨GV[k]'(by rw[hV.2.2.1];exact hlt),by simp⟩;obtain⟨hxw,ue,uk,uq,uv,hcl,hLx,hR⟩:=(hV.below hb).2.2.2 k x gp g hx hg;obtain⟨ae,ce,ak,ck,aq,cq,rfl,rfl,rfl,_,_,_,_,_,_⟩:=hLx.shape;obtain⟨au,lu,cu,rfl⟩:=hR.is.shape;obtain⟨c0,c1',c2,c3,c4,c5,c6,c7,c8,c9,c10,c11,c12,c13,c14⟩:=hcl;have hxn:wtb x.cs≤1048576:=by have:=wtv_mem (mg8 hx);unfold wtv at this;unfold wtV at hnv;omega
    have hbr:B<wr.heap.size:=by omega
    have hvl2:=oL8 hB.own;have hvT:u5.ownBlock≠some wr.heap.size:=fun e=>by have:=(hvl2 _ e).2;omega
    have hGl:=hB.lt;have htk:(rs++(vs.take k).map relV).length=rs.length+k:=by simp;omega
    have HT:Hid (rs++(vs.take (k+1)).map relV=rs++(vs.take k).map relV++ [relV x]):=by show _=_;rw[take_snoc hx];simp
    clear hY hLx;generalize rs++(vs.take k).map relV=ct at*;have hml:ct.length+1≤maxLen:=by unfold maxLen;omega
    have hby:(ct.length+1)*48≤140737488355328:=by omega
    clear hx hg htk hvl2 hV;go_wp2_with fail;refine startE 9 (fun w'=>w'.cell? ⟨wr.heap.size,0,none⟩=some (.string x.s)∧w'.cell? ⟨wr.heap.size,13,none⟩=some (.int .i64 x.W)∧w'.cell? ⟨wr.heap.size,14,none⟩=some (.slice au lu cu)) (by kernel_rfl) ?_ (fun hHeld=>?_)
    ·exact⟨by go_simp,by go_simp,by go_simp⟩
    refine tkE 0 29 rfl rfl ?_;refine tkE 1 30 rfl rfl ?_;refine tkE 2 31 rfl rfl ?_;refine tkE 3 32 rfl rfl ?_;refine tkE 4 33 rfl rfl ?_;refine onE 5 rfl fun K hK=>?_;go_simp;go_at_call 24;refine cM8 (copyBag_any x.W (.slice au lu cu) x.cs g _ (hR.below ?hbb) hxn) ?_
    case hbb=>exact bex
    rintro e w2 ⟨⟨u2,us2,G2,rfl,hBo2⟩,hb2⟩;obtain⟨g2,hR2,hO2⟩:=hBo2.rowsF;clear hBo2;obtain⟨a2,l2,n2,rfl⟩:=hR2.is.shape;have hzw2:=hb2.size;(try simp at hzw2);(try simp at hO2);have bel2:Below wr.heap.size wr w2:=bex;have hB2:=hB.below bel2;have d0:w2.cell? ⟨wr.heap.size,0,none⟩=some (.string x.s):=cL8 hb2 (by go_simp);have d1:w2.cell? ⟨wr.heap.size,13,none⟩=some (.int .i64 x.W):=cL8 hb2 (by go_simp);have d2:w2.cell? ⟨wr.heap.size,14,none⟩=some (.slice au lu cu):=cL8 hb2 (by go_simp);try go_wp2_with fail
    refine hK.out _ _ ?_ (fun hHeld5=>?_)
    ·intro _;exact⟨d0,d1,d2⟩
    clear hK;replace hHeld5:=hHeld5 (by decide);refine tkE 6 35 rfl rfl ?_;refine onE 7 rfl fun K hK=>?_;go_simp;refine hK.out _ _ ?_ (fun hHeld7=>?_)
    ·intro _;exact⟨(cb8 (bA8 w2 _ _ (by omega))).trans d0,(cb8 (bA8 w2 _ _ (by omega))).trans d1,(cb8 (bA8 w2 _ _ (by omega))).trans d2⟩
    clear hK;replace hHeld7:=hHeld7 (by decide);refine onE 8 rfl fun K hK=>?_;refine step_append_lies _ (by rfl) _ _ _ (by rfl) w.heap.size 59 i0 _ 3 48 Tryz.underlying26 hi hz0 hz1 hz2 rfl (by omega) u5 ct.length (rcs us ct) (by rfl) (hB2.own.alloc _) ⟨w2.heap.size,0,none⟩ 1 1 [.string x.s,.int .i64 x.W,.slice a2 l2 n2] (by rfl) (by rfl) (World.news_of_block (cs:=#[.string x.s,.int .i64 x.W,.slice a2 l2 n2]) (t:=59) (fr:=(0,0)) (heap_alloc_new w2 _)) (by simp[Value.oneCell']) (by omega) hml hby (by simp;omega) (w2.heap.size+1) (by simp) ?_;intro gg cap w3 hown3 hgrow hat hlt3;have hz3:=hgrow.size;simp at hz3;have far:∀b q,b<w2.heap.size→u5.ownBlock≠some b→w3.cell? ⟨b,q,none⟩=w2.cell? ⟨b,q,none⟩:=fun b q hb hne=>(hgrow.cell_far _ (by simp;omega) (Ne.symm hne)).trans (cb8 (bA8 _ _ _ hb));have f0:=(far wr.heap.size 0 (by omega) hvT).trans d0;have f1:=(far wr.heap.size 13 (by omega) hvT).trans d1;have f2:=(far wr.heap.size 14 (by omega) hvT).trans d2;have hBp:=RelOwn.push (x:=relV x) (hB2.below ((Below.refl _ _).alloc (Nat.le_refl _) (.cells #[.string x.s,.int .i64 x.W,.slice a2 l2 n2] 59))) (hR2.below ((Below.refl _ _).alloc (Nat.le_refl _) _)) ⟨hO2.1,fun b hb=>by have:=hO2.2.1 b hb;omega,fun b hb q=>(fb8 (bA8 _ _ _ (hR2.lt b hb))).trans (hO2.2.2 b hb q)⟩ (fun b hb hb'=>by have:=hO2.2.1 b hb';have:=hGl b hb;omega) (fun b hb hb'=>by have:=hO2.2.1 b hb';have:=(oL8 hB.own b hb).2;omega) hown3 hgrow (fun b hb=>by simp[Value.ownBlock]at hb;subst hb;rcases hat with h|h;exact .inl h;exact .inr (by simp;omega))
    have bel3:Below w.heap.size w w3:=Below.grown bex hgrow (by simp;omega) (fun b hb=>by have:=(oL8 hB.own b hb).1;omega);refine hK.out _ _ ?_ (fun hHeld8=>?_)
    ·intro _;exact⟨f0,f1,f2⟩
    clear hK;replace hHeld8:=hHeld8 (by decide);refine onE 9 rfl fun K hK=>?_;go_simp;refine hK.out _ _ ?_ (fun hHeld9=>?_)
    ·exact fun h=>absurd rfl h
    clear hK hHeld9;refine doneE (by kernel_rfl) ?_ _;rw[←HT.out]at hBp;clear hown3 hgrow hat far hB2 hR2 hO2 hb2 hB hHeld hHeld5 hHeld7 hHeld8 f0 f1 f2 d0 d1 d2;go_wp2;exact⟨⟨k+1,_,_,hlt,by simp,hBp,⟨gg,cap,by rw[HT.out];simp⟩,bel3⟩,by simp[intOf];omega⟩
   ·obtain rfl:k=vs.length:=by omega
    rw[List.take_length]at hB hY;obtain⟨gy,cy,rfl⟩:=hY;have hS:=sortRel_any wr w.heap.size gy cy _ us G hB (by simp;omega);clear hV hB2 hB1 hB;obtain⟨nn,hnn⟩:∃q,q=(rs++vs.map relV).length:=⟨_,rfl⟩;rw[←hnn]at hS⊢;clear hnn;go_wp2_with fail;refine cM8 hS ?_;rintro e w3 ⟨rfl,l,F,hp,hpw,hRl,hOl,hbl⟩;go_wp2;go_returns;exact⟨⟨_,l,F,rfl,⟨fun _=>⟨hp,hpw⟩,fun h=>absurd ⟨HVB.out,h20⟩ h⟩,hRl,hOl⟩,hb.trans hbl⟩
end
end
end Go.Proofs.YtjhhmnjpojnoiaaGreatDoor
