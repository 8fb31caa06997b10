/- Own text. The contract of spec.WithViews. -/
import Derived.Test.YtjhhmnjpojnoiaaGreatDoorGLWithViews6
import Derived.Test.YtjhhmnjpojnoiaaGreatDoorGLWithViews1
import Derived.Test.YtjhhmnjpojnoiaaGreatDoorVwF
import Derived.Test.YtjhhmnjpojnoiaaGreatDoorVwS
import Derived.Test.YtjhhmnjpojnoiaaGreatDoorGLWithViews7
import Derived.Handy
import Derived.Deep.DrawnRows
import Derived.Deep.AppendLies
import Derived.Lib.QuietBelow
set_option maxHeartbeats 16000000
set_option maxRecDepth 100000
set_option linter.unusedVariables false
set_option linter.unusedSimpArgs false
namespace Go.Proofs.YtjhhmnjpojnoiaaGreatDoor
section
section
open Go.RowKit Go.Deep
attribute [local go_sem↓] Go.wp_at_zero Go.wp_at_succ
theorem specWith_any (rs:List R3)(vd:Value)(Fd:List Nat)(vs:List V15)(D d B:Nat)(GV:List (List Nat×List Nat))(w:World)(hrw:RsWf rs)(hR:RelsF w vd rs Fd)(hV:ViewsF w D d B vs GV)(hn:wtR rs≤1048576)(hnv:wtV vs≤1048576):Calls Tryz.prog 6 #[vd,.slice (some ⟨B,0,none⟩) vs.length vs.length] w fun e w'=>(∃u l F,e=.returned u∧WithIs rs vs l∧RelsF w' u l F∧OwnB w' w.heap.size F)∧Below w.heap.size w w':=by
 obtain⟨i0,fi,f0,f1,f2⟩:=info_parts Tryz.infoRel;have hC:=fun(X:World) (hX:Below w.heap.size w X)=>l05Copy_any vd rs Fd X (hR.below hX) hn;have hW:=fun(X:World) (hX:Below w.heap.size w X)=>specViews_any rs vd Fd vs D d (.slice (some ⟨B,0,none⟩) vs.length vs.length) (GV.map Prod.fst) X hrw (hR.below hX) (hV.below hX).is hnv;obtain⟨ad,cd,bd,od,Gd,rfl,hld,hcd,_,_,_,_,_⟩:=hR.pick;have hrl:rs.length≤1048576:=by unfold wtR at hn;omega
 have hvl:vs.length≤1048576:=by unfold wtV at hnv;omega
 unfold maxLen at hcd;have hwr:IntKind.i64.wrap ((rs.length:Int)+vs.length)=rs.length+vs.length:=by rw[IntKind.wrap_i64];omega
 obtain⟨vb,HVB⟩:∃q,Hid (viewsP rs vs=q):=⟨_,rfl⟩;rw[HVB.out]at hW;cases vb with
 |false=>
  clear hV hR;go_enter Tryz.func6,Tryz.ntmps6;go_wp2_with(first|(go_at_call 17;refine cM8 (hC _ bex) ?_;rintro e w1 ⟨⟨u1,us1,G1,g1,c1,rfl,eY,hB1⟩,hb1⟩;subst eY;have hq1:=hb1.size)|(go_at_call 18;refine cM8 (hW _ bex) ?_;rintro e w2 ⟨rfl,hb2⟩;have hq2:=hb2.size;have hB2:=hB1.below hb2)|fail);go_returns;obtain⟨F',h1,h2⟩:=hB2.relsF;exact⟨⟨_,rs,F',rfl,⟨fun h=>absurd (HVB.out.symm.trans h.1) (by simp),fun _=>rfl⟩,h1,h2⟩,bex⟩
 |true=>
  by_cases h20:rs.length+vs.length≤20
  case neg=>
   have h21:(20:Int)<(rs.length:Int)+vs.length:=by omega
   have H20:Hid (¬rs.length+vs.length≤20):=h20;clear hV hR h20;go_enter Tryz.func6,Tryz.ntmps6;go_wp2_with(first|(go_at_call 17;refine cM8 (hC _ bex) ?_;rintro e w1 ⟨⟨u1,us1,G1,g1,c1,rfl,eY,hB1⟩,hb1⟩;subst eY;have hq1:=hb1.size)|(go_at_call 18;refine cM8 (hW _ bex) ?_;rintro e w2 ⟨rfl,hb2⟩;have hq2:=hb2.size;have hB2:=hB1.below hb2)|fail);go_returns;obtain⟨F',h1,h2⟩:=hB2.relsF;exact⟨⟨_,rs,F',rfl,⟨fun h=>absurd h.2 H20.out,fun _=>rfl⟩,h1,h2⟩,bex⟩
  have h21:¬ (20:Int)<(rs.length:Int)+vs.length:=by omega
  have h22:(rs.length:Int)+vs.length≤20:=by omega
  have hdb:okDb rs=true:=by have:=HVB.out;simp only[viewsP,Bool.and_eq_true]at this;exact this.1.1
  have HUP:Hid (rs.Pairwise UpR):=up_rs hdb;clear hdb;go_enter Tryz.func6,Tryz.ntmps6;go_wp2_with(first|(go_at_call 17;refine cM8 (hC _ bex) ?_;rintro e w1 ⟨⟨u1,us1,G1,g1,c1,rfl,eY,hB1⟩,hb1⟩;subst eY;have hq1:=hb1.size)|(go_at_call 18;refine cM8 (hW _ bex) ?_;rintro e w2 ⟨rfl,hb2⟩;have hq2:=hb2.size;have hB2:=hB1.below hb2)|fail);have belA:Below w.heap.size w w2:=bex;clear hb1 hb2 hC hW hR;go_loopw [5,6] (fun y i wr=> ∃ (k:Nat) (us:List Value) (G:List (List Nat)) (l:List R3),k≤vs.length∧i=.int .i64 k∧RelOwn wr w.heap.size y l us G∧(∃g c,y=.slice (some ⟨g,0,none⟩) l.length c)∧l.Perm (rs++(vs.take k).map relV)∧l.Pairwise UpR∧Below w.heap.size w wr) (fun _ i _=>vs.length - (intOf i).toNat)
  case atStart=>exact⟨0,us1,G1,rs,Nat.zero_le _,rfl,hB2,⟨_,_,rfl⟩,by simp,HUP.out,belA⟩
  case round=>
   obtain⟨k,us,G,l,hk,rfl,hB,⟨g,cy,rfl⟩,hp,hu,hb⟩:=hrel;have hzb:=hb.size;clear hB2 hB1;by_cases hlt:k<vs.length
   ·have hblt:=hV.1;obtain⟨x,hx⟩:∃x,vs[k]?=some x:=⟨vs[k],by simp[hlt]⟩;obtain⟨⟨gp,F⟩,hg⟩:∃q,GV[k]?=some q:=⟨GV[k]'(by rw[hV.2.2.1];exact hlt),by simp⟩;obtain⟨hxw,ue,uk,uq,uv,hcl,hLx,hRx⟩:=(hV.below hb).2.2.2 k x gp F hx hg;obtain⟨au,lu,cu,rfl⟩:=hRx.is.shape;obtain⟨d0,_,_,_,_,_,_,_,_,_,_,_,_,d13,d14⟩:=hcl;have hxn:wtb x.cs≤1048576:=by have:=wtv_mem (mg8 hx);unfold wtv at this;unfold wtV at hnv;omega
    have hbr:B<wr.heap.size:=by omega
    have hlb:l.length≤20:=by
     have h9:l.length=rs.length+k:=by rw[hp.length_eq];simp;omega
     omega
    have hcap:=hB.capR;have HT:Hid (rs++(vs.take (k+1)).map relV=rs++(vs.take k).map relV++ [relV x]):=by show _=_;rw[take_snoc hx];simp
    have HP:Hid (∀m,(l.take m++relV x::l.drop m).Perm (rs++(vs.take (k+1)).map relV)):=by show∀m,_;intro m;rw[HT.out];exact perm_put hp m
    have HL:Hid (l.Pairwise UpR):=hu;have hkI:(k:Int)<vs.length:=by omega
    unfold maxLen at hcap;clear hx hg hLx hp hu HT hV;obtain⟨wo,hwo⟩:∃q,q=wr:=⟨wr,rfl⟩;subst hwo;go_wp2_with fail;go_loopw [7] (fun j wi=> ∃m:Nat,m≤l.length∧j=.int .i64 m∧(∀i y,i<m→l[i]?=some y→Op.bytesLess y.s.toList x.s.toList=true)∧Below wo.heap.size wo wi) (fun j _=>l.length - (intOf j).toNat)
    case atStart=>exact⟨0,Nat.zero_le _,rfl,fun i y hi=>by omega,bex⟩
    case round=>
     obtain⟨m,hm,rfl,hless,hbi⟩:=hrel;have hzi:=hbi.size;have c0:=(cb8 (hbi.block B hbr)).trans d0;have c13:=(cb8 (hbi.block B hbr)).trans d13;have c14:=(cb8 (hbi.block B hbr)).trans d14;have hB1:=hB.below hbi;have hRv:=hRx.below hbi;have hbw:Below w.heap.size w wr:=hb.trans (hbi.mono hzb);have hI1:(m:Int)≤l.length:=by omega
     have hBi:B<wr.heap.size:=by omega
     have hGi:g<wr.heap.size:=by omega
     have hmc:m≤cy:=by omega
     have hmcI:(m:Int)≤cy:=by omega
     by_cases hml:m<l.length
     ·obtain⟨y,hy⟩:∃y,l[m]?=some y:=⟨l[m],by simp[hml]⟩;have hcy:=(hB1.cellR hy).1;have hmI:(m:Int)<l.length:=by omega
      have hd:decide ((m:Int)<l.length)=true:=decide_eq_true hmI;cases hh:Op.bytesLess y.s.toList x.s.toList with
      |true=>
       have HS:Hid (∀i q,i<m+1→l[i]?=some q→Op.bytesLess q.s.toList x.s.toList=true):=by
        show∀i q,_;intro i q hi hq;by_cases him:i=m
        ·subst him;rw[hy]at hq;cases hq;exact hh
        ·exact hless i q (by omega) hq
       clear hless hy hB hRx hb hB1 hRv hbw d0 d13 d14 c13 c14;go_wp2_with fail;go_quiet (fail);go_wp2_with fail;exact⟨⟨m+1,by omega,by simp,HS.out,⟨hbi.os,hbi.tape,hbi.output,hbi.size,hbi.block⟩⟩,by simp[intOf];omega⟩
      |false=>
       have HU:Hid ((l.take m++relV x::l.drop m).Pairwise UpR):=up_put HL.out (fun i q hi hq=>hless i q hi hq) (fun q hq=>by rw[hy]at hq;cases hq;exact hh);have hmc2:¬cy=m:=by omega
       clear hless hy hB hRx hb d0 d13 d14;go_wp2_with fail;go_quiet (fail);go_wp2_with fail;refine startE 23 (fun w'=>w'.cell? ⟨B,k*15,none⟩=some (.string x.s)∧w'.cell? ⟨B,k*15+13,none⟩=some (.int .i64 x.W)∧w'.cell? ⟨B,k*15+14,none⟩=some (.slice au lu cu)) (by kernel_rfl) ?_ (fun hHeld=>?_)
       ·exact⟨c0,c13,c14⟩
       refine tkE 1 49 rfl rfl ?_;refine tkE 2 50 rfl rfl ?_;refine tkE 3 51 rfl rfl ?_;refine tkE 5 53 rfl rfl ?_;refine tkE 6 54 rfl rfl ?_;refine tkE 7 55 rfl rfl ?_;refine tkE 8 56 rfl rfl ?_;refine tkE 9 57 rfl rfl ?_;refine tkE 10 58 rfl rfl ?_;refine tkE 11 59 rfl rfl ?_;refine tkE 12 60 rfl rfl ?_;refine tkE 13 61 rfl rfl ?_;refine tkE 14 62 rfl rfl ?_;refine tkE 19 67 rfl rfl ?_;refine tkE 20 68 rfl rfl ?_;refine tkE 21 69 rfl rfl ?_;refine onE 0 rfl fun K hK=>?_;go_simp;refine hK.out _ _ ?_ (fun hHeld0=>?_)
       ·intro _;exact⟨(cb8 (bA8 wr _ _ (by omega))).trans (c0),(cb8 (bA8 wr _ _ (by omega))).trans (c13),(cb8 (bA8 wr _ _ (by omega))).trans (c14)⟩
       clear hK;replace hHeld0:=hHeld0 (by decide);refine onE 4 rfl fun K hK=>?_;refine step_append_src _ (by rfl) _ _ _ (by rfl) wr.heap.size 59 i0 _ 3 48 Tryz.underlying26 fi f0 f1 f2 rfl (by omega) (.slice (some ⟨wr.heap.size,0,none⟩) 0 0) 0 [] (by rfl) (own_none (w:=wr) rfl (Nat.le_refl _) _ 3) (.slice (some ⟨g,0,none⟩) m cy) m _ (by rfl) (hB1.src1 (Below.alloc (belowQ (Below.refl _ _) _) (Nat.le_refl _) _) (by omega)) (rcs_one fun u hu=>hB1.one u (List.mem_of_mem_take hu)) (by simp only[maxLen];omega) (by omega) (by simp) ?_;intro v5 w5 hown5 hgrow5 hat5;rw[List.nil_append,Nat.zero_add]at hown5;have hz5:=hgrow5.size;simp at hz5;have bel5:Below wr.heap.size wr w5:=Below.grown (show Below wr.heap.size wr _ from Below.alloc (belowQ (Below.refl _ _) _) (Nat.le_refl _) _) hgrow5 (by simp) (fun b hb=>by simp[Value.ownBlock]at hb;omega);refine hK.out _ _ ?_ (fun hHeld4=>?_)
       ·intro _;exact⟨((bc8 bel5).1 _ _ (by omega)).trans c0,((bc8 bel5).1 _ _ (by omega)).trans c13,((bc8 bel5).1 _ _ (by omega)).trans c14⟩
       clear hK;replace hHeld4:=hHeld4 (by decide);refine onE 15 rfl fun K hK=>?_;go_simp;go_at_call 19;refine cM8 (l02Copy_any x.W (.slice au lu cu) x.cs F _ (hRv.below ?hbb) hxn) ?_
       case hbb=>exact bel5
       rintro e w7 ⟨⟨u7,us7,G7,rfl,hBo7⟩,hb7⟩;obtain⟨g7,hR7,hO7⟩:=hBo7.rowsF;obtain⟨a7,l7,c7,rfl⟩:=hR7.is.shape;have hz7:=hb7.size;have bel7:Below wr.heap.size wr w7:=bel5.trans (hb7.mono bel5.size);have hown7:=oK8 hown5 (fun b hb=>hb7.block b (oL8 hown5 b hb).2);have hR7l:=hR7.lt;clear hBo7;try go_wp2_with fail
       refine hK.out _ _ ?_ (fun hHeld15=>?_)
       ·intro _;exact⟨((bc8 bel7).1 _ _ (by omega)).trans c0,((bc8 bel7).1 _ _ (by omega)).trans c13,((bc8 bel7).1 _ _ (by omega)).trans c14⟩
       clear hK;replace hHeld15:=hHeld15 (by decide);refine tkE 16 64 rfl rfl ?_;refine onE 17 rfl fun K hK=>?_;go_simp;refine hK.out _ _ ?_ (fun hHeld17=>?_)
       ·intro _;exact⟨(cb8 (bA8 w7 _ _ (by omega))).trans (((bc8 bel7).1 _ _ (by omega)).trans c0),(cb8 (bA8 w7 _ _ (by omega))).trans (((bc8 bel7).1 _ _ (by omega)).trans c13),(cb8 (bA8 w7 _ _ (by omega))).trans (((bc8 bel7).1 _ _ (by omega)).trans c14)⟩
       clear hK;replace hHeld17:=hHeld17 (by decide);refine onE 18 rfl fun K hK=>?_;refine step_append_src _ (by rfl) _ _ _ (by rfl) wr.heap.size 59 i0 _ 3 48 Tryz.underlying26 fi f0 f1 f2 rfl (by omega) v5 m _ (by rfl) (oK8 hown7 fun b hb=>bA8 w7 _ _ (oL8 hown7 b hb).2) (.slice (some ⟨w7.heap.size,0,none⟩) 1 1) 1 [.string x.s,.int .i64 x.W,.slice a7 l7 c7] (by rfl) ⟨by rfl,.inr ⟨_,_,rfl,World.news_of_block (cs:=#[.string x.s,.int .i64 x.W,.slice a7 l7 c7]) (t:=59) (fr:=(0,0)) (heap_alloc_new w7 _)⟩⟩ (by simp[Value.oneCell']) (by simp only[maxLen];omega) (by omega) (by simp;omega) ?_;intro v11 w11 hown11 hgrow11 hat11;have hz11:=hgrow11.size;simp at hz11;have bel11:Below wr.heap.size wr w11:=Below.grown (bel7.alloc (by omega) _) hgrow11 (by simp;omega) (fun b hb=>(oL8 hown7 b hb).1);refine hK.out _ _ ?_ (fun hHeld18=>?_)
       ·intro _;exact⟨((bc8 bel11).1 _ _ (by omega)).trans c0,((bc8 bel11).1 _ _ (by omega)).trans c13,((bc8 bel11).1 _ _ (by omega)).trans c14⟩
       clear hK;replace hHeld18:=hHeld18 (by decide);refine onE 22 rfl fun K hK=>?_;refine step_append_src _ (by rfl) _ _ _ (by rfl) wr.heap.size 59 i0 _ 3 48 Tryz.underlying26 fi f0 f1 f2 rfl (by omega) v11 (m+1) _ (by rfl) hown11 _ (l.length -m) _ (by rfl) (by have hsr:=hB1.src3 (k:=m) bel11 (by omega);rw[if_neg hmc2]at hsr;exact hsr) (rcs_one fun u hu=>hB1.one u (List.mem_of_mem_drop hu)) (by simp only[maxLen];omega) (by omega) (by omega) ?_;intro v16 w16 hown16 hgrow16 hat16;have hz16:=hgrow16.size;obtain⟨a16,c16,rfl⟩:=own_someX hown16 (by omega);have bel16:Below wr.heap.size wr w16:=Below.grown bel11 hgrow16 (by omega) (fun b hb=>(oL8 hown11 b hb).1);have hv11:∀b,v11.ownBlock=some b→b∉g7:=by
        intro b hb hm;have h1:=hO7.2.1 b hm;have h2:=hR7l b hm;rcases hat11 with h|h
        ·have:=(oL8 hown5 b (h.symm.trans hb)).2;omega
        ·rw[h]at hb;have:=Option.some.inj hb;simp at this;omega
       have hv16:∀b,(Value.slice (some ⟨a16,0,none⟩) (m+1+(l.length -m)) c16).ownBlock=some b→b∉g7:=by
        intro b hb hm;have h2:=hR7l b hm;rcases hat16 with h|h
        ·exact hv11 b (h.symm.trans hb) hm
        ·rw[h]at hb;have:=Option.some.inj hb;omega
       have hk16:∀b,b<wr.heap.size∨b∈g7→w16.heap[b]?=w7.heap[b]?:=by
        intro b hb;rcases hb with hb|hb
        ·exact(bel16.block b hb).trans (bel7.block b hb).symm
        ·have h1:=hO7.2.1 b hb;have h2:=hR7l b hb;refine(hgrow16.block b (by omega) (fun e=>hv11 b e.symm hb)).trans ((hgrow11.block b (by simp;omega) (fun e=>?_)).trans (bA8 w7 _ _ h2));have:=(oL8 hown5 b e.symm).2;omega
       have hBc:=hB1.put (x:=relV x) (by omega) bel7 hR7 ⟨hO7.1,fun b hb=>Nat.le_trans bel5.size (hO7.2.1 b hb),hO7.2.2⟩ hk16 (by omega) (k:=m) (by omega) (Nat.le_refl _) hv16 hown16;refine hK.out _ _ ?_ (fun hHeld22=>?_)
       ·intro _;exact⟨((bc8 bel16).1 _ _ (by omega)).trans c0,((bc8 bel16).1 _ _ (by omega)).trans c13,((bc8 bel16).1 _ _ (by omega)).trans c14⟩
       clear hK;replace hHeld22:=hHeld22 (by decide);refine onE 23 rfl fun K hK=>?_;go_simp;refine hK.out _ _ ?_ (fun hHeld23=>?_)
       ·exact fun h=>absurd rfl h
       clear hK hHeld23;refine doneE (by kernel_rfl) ?_ _;have belw:Below w.heap.size w w16:=hbw.trans (bel16.mono hbw.size);clear hB1 hown5 hown7 hown11 hown16 hgrow5 hgrow11 hgrow16 hat5 hat11 hat16 hv11 hv16 hk16 hR7 hO7 hb7 hRv hHeld;go_wp2;exact⟨⟨k+1,_,_,_,hlt,by simp,hBc,⟨a16,c16,by rw[show(l.take m++relV x::l.drop m).length=m+1+(l.length -m)from by simp;omega]⟩,HP.out m,HU.out,belw⟩,by simp[intOf];omega⟩
     ·have hmI:¬ (m:Int)<l.length:=by omega
      have hd:decide ((m:Int)<l.length)=false:=decide_eq_false hmI;have HU:Hid ((l.take m++relV x::l.drop m).Pairwise UpR):=up_put HL.out (fun i q hi hq=>hless i q hi hq) (fun q hq=>by have:=(gE1 hq).1;omega);clear hless hB hRx hb d0 d13 d14;by_cases hmc2:cy=m
      ·have hmc3:m=cy:=hmc2.symm;subst hmc3;go_wp2_with fail;go_quiet (fail);go_wp2_with fail;refine startE 23 (fun w'=>w'.cell? ⟨B,k*15,none⟩=some (.string x.s)∧w'.cell? ⟨B,k*15+13,none⟩=some (.int .i64 x.W)∧w'.cell? ⟨B,k*15+14,none⟩=some (.slice au lu cu)) (by kernel_rfl) ?_ (fun hHeld=>?_)
       ·exact⟨c0,c13,c14⟩
       refine tkE 1 49 rfl rfl ?_;refine tkE 2 50 rfl rfl ?_;refine tkE 3 51 rfl rfl ?_;refine tkE 5 53 rfl rfl ?_;refine tkE 6 54 rfl rfl ?_;refine tkE 7 55 rfl rfl ?_;refine tkE 8 56 rfl rfl ?_;refine tkE 9 57 rfl rfl ?_;refine tkE 10 58 rfl rfl ?_;refine tkE 11 59 rfl rfl ?_;refine tkE 12 60 rfl rfl ?_;refine tkE 13 61 rfl rfl ?_;refine tkE 14 62 rfl rfl ?_;refine tkE 19 67 rfl rfl ?_;refine tkE 20 68 rfl rfl ?_;refine tkE 21 69 rfl rfl ?_;refine onE 0 rfl fun K hK=>?_;go_simp;refine hK.out _ _ ?_ (fun hHeld0=>?_)
       ·intro _;exact⟨(cb8 (bA8 wr _ _ (by omega))).trans (c0),(cb8 (bA8 wr _ _ (by omega))).trans (c13),(cb8 (bA8 wr _ _ (by omega))).trans (c14)⟩
       clear hK;replace hHeld0:=hHeld0 (by decide);refine onE 4 rfl fun K hK=>?_;refine step_append_src _ (by rfl) _ _ _ (by rfl) wr.heap.size 59 i0 _ 3 48 Tryz.underlying26 fi f0 f1 f2 rfl (by omega) (.slice (some ⟨wr.heap.size,0,none⟩) 0 0) 0 [] (by rfl) (own_none (w:=wr) rfl (Nat.le_refl _) _ 3) (.slice (some ⟨g,0,none⟩) m m) m _ (by rfl) (hB1.src1 (Below.alloc (belowQ (Below.refl _ _) _) (Nat.le_refl _) _) (by omega)) (rcs_one fun u hu=>hB1.one u (List.mem_of_mem_take hu)) (by simp only[maxLen];omega) (by omega) (by simp) ?_;intro v5 w5 hown5 hgrow5 hat5;rw[List.nil_append,Nat.zero_add]at hown5;have hz5:=hgrow5.size;simp at hz5;have bel5:Below wr.heap.size wr w5:=Below.grown (show Below wr.heap.size wr _ from Below.alloc (belowQ (Below.refl _ _) _) (Nat.le_refl _) _) hgrow5 (by simp) (fun b hb=>by simp[Value.ownBlock]at hb;omega);refine hK.out _ _ ?_ (fun hHeld4=>?_)
       ·intro _;exact⟨((bc8 bel5).1 _ _ (by omega)).trans c0,((bc8 bel5).1 _ _ (by omega)).trans c13,((bc8 bel5).1 _ _ (by omega)).trans c14⟩
       clear hK;replace hHeld4:=hHeld4 (by decide);refine onE 15 rfl fun K hK=>?_;go_simp;go_at_call 19;refine cM8 (l02Copy_any x.W (.slice au lu cu) x.cs F _ (hRv.below ?hbb) hxn) ?_
       case hbb=>exact bel5
       rintro e w7 ⟨⟨u7,us7,G7,rfl,hBo7⟩,hb7⟩;obtain⟨g7,hR7,hO7⟩:=hBo7.rowsF;obtain⟨a7,l7,c7,rfl⟩:=hR7.is.shape;have hz7:=hb7.size;have bel7:Below wr.heap.size wr w7:=bel5.trans (hb7.mono bel5.size);have hown7:=oK8 hown5 (fun b hb=>hb7.block b (oL8 hown5 b hb).2);have hR7l:=hR7.lt;clear hBo7;try go_wp2_with fail
       refine hK.out _ _ ?_ (fun hHeld15=>?_)
       ·intro _;exact⟨((bc8 bel7).1 _ _ (by omega)).trans c0,((bc8 bel7).1 _ _ (by omega)).trans c13,((bc8 bel7).1 _ _ (by omega)).trans c14⟩
       clear hK;replace hHeld15:=hHeld15 (by decide);refine tkE 16 64 rfl rfl ?_;refine onE 17 rfl fun K hK=>?_;go_simp;refine hK.out _ _ ?_ (fun hHeld17=>?_)
       ·intro _;exact⟨(cb8 (bA8 w7 _ _ (by omega))).trans (((bc8 bel7).1 _ _ (by omega)).trans c0),(cb8 (bA8 w7 _ _ (by omega))).trans (((bc8 bel7).1 _ _ (by omega)).trans c13),(cb8 (bA8 w7 _ _ (by omega))).trans (((bc8 bel7).1 _ _ (by omega)).trans c14)⟩
       clear hK;replace hHeld17:=hHeld17 (by decide);refine onE 18 rfl fun K hK=>?_;refine step_append_src _ (by rfl) _ _ _ (by rfl) wr.heap.size 59 i0 _ 3 48 Tryz.underlying26 fi f0 f1 f2 rfl (by omega) v5 m _ (by rfl) (oK8 hown7 fun b hb=>bA8 w7 _ _ (oL8 hown7 b hb).2) (.slice (some ⟨w7.heap.size,0,none⟩) 1 1) 1 [.string x.s,.int .i64 x.W,.slice a7 l7 c7] (by rfl) ⟨by rfl,.inr ⟨_,_,rfl,World.news_of_block (cs:=#[.string x.s,.int .i64 x.W,.slice a7 l7 c7]) (t:=59) (fr:=(0,0)) (heap_alloc_new w7 _)⟩⟩ (by simp[Value.oneCell']) (by simp only[maxLen];omega) (by omega) (by simp;omega) ?_;intro v11 w11 hown11 hgrow11 hat11;have hz11:=hgrow11.size;simp at hz11;have bel11:Below wr.heap.size wr w11:=Below.grown (bel7.alloc (by omega) _) hgrow11 (by simp;omega) (fun b hb=>(oL8 hown7 b hb).1);refine hK.out _ _ ?_ (fun hHeld18=>?_)
       ·intro _;exact⟨((bc8 bel11).1 _ _ (by omega)).trans c0,((bc8 bel11).1 _ _ (by omega)).trans c13,((bc8 bel11).1 _ _ (by omega)).trans c14⟩
       clear hK;replace hHeld18:=hHeld18 (by decide);refine onE 22 rfl fun K hK=>?_;refine step_append_src _ (by rfl) _ _ _ (by rfl) wr.heap.size 59 i0 _ 3 48 Tryz.underlying26 fi f0 f1 f2 rfl (by omega) v11 (m+1) _ (by rfl) hown11 _ (l.length -m) _ (by rfl) (by have hsr:=hB1.src3 (k:=m) bel11 (by omega);rw[if_pos rfl,Nat.sub_self]at hsr;have hz0:l.length -m=0:=(by omega);have hs2:SrcIs w11 3 (.slice (some ⟨g,0,none⟩) 0 0) (l.length -m) (rcs (us.drop m) (l.drop m)):=(by rw[hz0];rw[hz0]at hsr;exact hsr);replace hsr:=hs2;exact hsr) (rcs_one fun u hu=>hB1.one u (List.mem_of_mem_drop hu)) (by simp only[maxLen];omega) (by omega) (by omega) ?_;intro v16 w16 hown16 hgrow16 hat16;have hz16:=hgrow16.size;obtain⟨a16,c16,rfl⟩:=own_someX hown16 (by omega);have bel16:Below wr.heap.size wr w16:=Below.grown bel11 hgrow16 (by omega) (fun b hb=>(oL8 hown11 b hb).1);have hv11:∀b,v11.ownBlock=some b→b∉g7:=by
        intro b hb hm;have h1:=hO7.2.1 b hm;have h2:=hR7l b hm;rcases hat11 with h|h
        ·have:=(oL8 hown5 b (h.symm.trans hb)).2;omega
        ·rw[h]at hb;have:=Option.some.inj hb;simp at this;omega
       have hv16:∀b,(Value.slice (some ⟨a16,0,none⟩) (m+1+(l.length -m)) c16).ownBlock=some b→b∉g7:=by
        intro b hb hm;have h2:=hR7l b hm;rcases hat16 with h|h
        ·exact hv11 b (h.symm.trans hb) hm
        ·rw[h]at hb;have:=Option.some.inj hb;omega
       have hk16:∀b,b<wr.heap.size∨b∈g7→w16.heap[b]?=w7.heap[b]?:=by
        intro b hb;rcases hb with hb|hb
        ·exact(bel16.block b hb).trans (bel7.block b hb).symm
        ·have h1:=hO7.2.1 b hb;have h2:=hR7l b hb;refine(hgrow16.block b (by omega) (fun e=>hv11 b e.symm hb)).trans ((hgrow11.block b (by simp;omega) (fun e=>?_)).trans (bA8 w7 _ _ h2));have:=(oL8 hown5 b e.symm).2;omega
       have hBc:=hB1.put (x:=relV x) (by omega) bel7 hR7 ⟨hO7.1,fun b hb=>Nat.le_trans bel5.size (hO7.2.1 b hb),hO7.2.2⟩ hk16 (by omega) (k:=m) (by omega) (Nat.le_refl _) hv16 hown16;refine hK.out _ _ ?_ (fun hHeld22=>?_)
       ·intro _;exact⟨((bc8 bel16).1 _ _ (by omega)).trans c0,((bc8 bel16).1 _ _ (by omega)).trans c13,((bc8 bel16).1 _ _ (by omega)).trans c14⟩
       clear hK;replace hHeld22:=hHeld22 (by decide);refine onE 23 rfl fun K hK=>?_;go_simp;refine hK.out _ _ ?_ (fun hHeld23=>?_)
       ·exact fun h=>absurd rfl h
       clear hK hHeld23;refine doneE (by kernel_rfl) ?_ _;have belw:Below w.heap.size w w16:=hbw.trans (bel16.mono hbw.size);clear hB1 hown5 hown7 hown11 hown16 hgrow5 hgrow11 hgrow16 hat5 hat11 hat16 hv11 hv16 hk16 hR7 hO7 hb7 hRv hHeld;go_wp2;have hz0:l.length -m=0:=(by omega);rw[hz0]at hBc;exact⟨⟨k+1,_,_,_,hlt,by simp,hBc,⟨a16,c16,by rw[show(l.take m++relV x::l.drop m).length=m+1 from by simp;omega]⟩,HP.out m,HU.out,belw⟩,by simp[intOf];omega⟩
      ·go_wp2_with fail;go_quiet (fail);go_wp2_with fail;refine startE 23 (fun w'=>w'.cell? ⟨B,k*15,none⟩=some (.string x.s)∧w'.cell? ⟨B,k*15+13,none⟩=some (.int .i64 x.W)∧w'.cell? ⟨B,k*15+14,none⟩=some (.slice au lu cu)) (by kernel_rfl) ?_ (fun hHeld=>?_)
       ·exact⟨c0,c13,c14⟩
       refine tkE 1 49 rfl rfl ?_;refine tkE 2 50 rfl rfl ?_;refine tkE 3 51 rfl rfl ?_;refine tkE 5 53 rfl rfl ?_;refine tkE 6 54 rfl rfl ?_;refine tkE 7 55 rfl rfl ?_;refine tkE 8 56 rfl rfl ?_;refine tkE 9 57 rfl rfl ?_;refine tkE 10 58 rfl rfl ?_;refine tkE 11 59 rfl rfl ?_;refine tkE 12 60 rfl rfl ?_;refine tkE 13 61 rfl rfl ?_;refine tkE 14 62 rfl rfl ?_;refine tkE 19 67 rfl rfl ?_;refine tkE 20 68 rfl rfl ?_;refine tkE 21 69 rfl rfl ?_;refine onE 0 rfl fun K hK=>?_;go_simp;refine hK.out _ _ ?_ (fun hHeld0=>?_)
       ·intro _;exact⟨(cb8 (bA8 wr _ _ (by omega))).trans (c0),(cb8 (bA8 wr _ _ (by omega))).trans (c13),(cb8 (bA8 wr _ _ (by omega))).trans (c14)⟩
       clear hK;replace hHeld0:=hHeld0 (by decide);refine onE 4 rfl fun K hK=>?_;refine step_append_src _ (by rfl) _ _ _ (by rfl) wr.heap.size 59 i0 _ 3 48 Tryz.underlying26 fi f0 f1 f2 rfl (by omega) (.slice (some ⟨wr.heap.size,0,none⟩) 0 0) 0 [] (by rfl) (own_none (w:=wr) rfl (Nat.le_refl _) _ 3) (.slice (some ⟨g,0,none⟩) m cy) m _ (by rfl) (hB1.src1 (Below.alloc (belowQ (Below.refl _ _) _) (Nat.le_refl _) _) (by omega)) (rcs_one fun u hu=>hB1.one u (List.mem_of_mem_take hu)) (by simp only[maxLen];omega) (by omega) (by simp) ?_;intro v5 w5 hown5 hgrow5 hat5;rw[List.nil_append,Nat.zero_add]at hown5;have hz5:=hgrow5.size;simp at hz5;have bel5:Below wr.heap.size wr w5:=Below.grown (show Below wr.heap.size wr _ from Below.alloc (belowQ (Below.refl _ _) _) (Nat.le_refl _) _) hgrow5 (by simp) (fun b hb=>by simp[Value.ownBlock]at hb;omega);refine hK.out _ _ ?_ (fun hHeld4=>?_)
       ·intro _;exact⟨((bc8 bel5).1 _ _ (by omega)).trans c0,((bc8 bel5).1 _ _ (by omega)).trans c13,((bc8 bel5).1 _ _ (by omega)).trans c14⟩
       clear hK;replace hHeld4:=hHeld4 (by decide);refine onE 15 rfl fun K hK=>?_;go_simp;go_at_call 19;refine cM8 (l02Copy_any x.W (.slice au lu cu) x.cs F _ (hRv.below ?hbb) hxn) ?_
       case hbb=>exact bel5
       rintro e w7 ⟨⟨u7,us7,G7,rfl,hBo7⟩,hb7⟩;obtain⟨g7,hR7,hO7⟩:=hBo7.rowsF;obtain⟨a7,l7,c7,rfl⟩:=hR7.is.shape;have hz7:=hb7.size;have bel7:Below wr.heap.size wr w7:=bel5.trans (hb7.mono bel5.size);have hown7:=oK8 hown5 (fun b hb=>hb7.block b (oL8 hown5 b hb).2);have hR7l:=hR7.lt;clear hBo7;try go_wp2_with fail
       refine hK.out _ _ ?_ (fun hHeld15=>?_)
       ·intro _;exact⟨((bc8 bel7).1 _ _ (by omega)).trans c0,((bc8 bel7).1 _ _ (by omega)).trans c13,((bc8 bel7).1 _ _ (by omega)).trans c14⟩
       clear hK;replace hHeld15:=hHeld15 (by decide);refine tkE 16 64 rfl rfl ?_;refine onE 17 rfl fun K hK=>?_;go_simp;refine hK.out _ _ ?_ (fun hHeld17=>?_)
       ·intro _;exact⟨(cb8 (bA8 w7 _ _ (by omega))).trans (((bc8 bel7).1 _ _ (by omega)).trans c0),(cb8 (bA8 w7 _ _ (by omega))).trans (((bc8 bel7).1 _ _ (by omega)).trans c13),(cb8 (bA8 w7 _ _ (by omega))).trans (((bc8 bel7).1 _ _ (by omega)).trans c14)⟩
       clear hK;replace hHeld17:=hHeld17 (by decide);refine onE 18 rfl fun K hK=>?_;refine step_append_src _ (by rfl) _ _ _ (by rfl) wr.heap.size 59 i0 _ 3 48 Tryz.underlying26 fi f0 f1 f2 rfl (by omega) v5 m _ (by rfl) (oK8 hown7 fun b hb=>bA8 w7 _ _ (oL8 hown7 b hb).2) (.slice (some ⟨w7.heap.size,0,none⟩) 1 1) 1 [.string x.s,.int .i64 x.W,.slice a7 l7 c7] (by rfl) ⟨by rfl,.inr ⟨_,_,rfl,World.news_of_block (cs:=#[.string x.s,.int .i64 x.W,.slice a7 l7 c7]) (t:=59) (fr:=(0,0)) (heap_alloc_new w7 _)⟩⟩ (by simp[Value.oneCell']) (by simp only[maxLen];omega) (by omega) (by simp;omega) ?_;intro v11 w11 hown11 hgrow11 hat11;have hz11:=hgrow11.size;simp at hz11;have bel11:Below wr.heap.size wr w11:=Below.grown (bel7.alloc (by omega) _) hgrow11 (by simp;omega) (fun b hb=>(oL8 hown7 b hb).1);refine hK.out _ _ ?_ (fun hHeld18=>?_)
       ·intro _;exact⟨((bc8 bel11).1 _ _ (by omega)).trans c0,((bc8 bel11).1 _ _ (by omega)).trans c13,((bc8 bel11).1 _ _ (by omega)).trans c14⟩
       clear hK;replace hHeld18:=hHeld18 (by decide);refine onE 22 rfl fun K hK=>?_;refine step_append_src _ (by rfl) _ _ _ (by rfl) wr.heap.size 59 i0 _ 3 48 Tryz.underlying26 fi f0 f1 f2 rfl (by omega) v11 (m+1) _ (by rfl) hown11 _ (l.length -m) _ (by rfl) (by have hsr:=hB1.src3 (k:=m) bel11 (by omega);rw[if_neg hmc2]at hsr;exact hsr) (rcs_one fun u hu=>hB1.one u (List.mem_of_mem_drop hu)) (by simp only[maxLen];omega) (by omega) (by omega) ?_;intro v16 w16 hown16 hgrow16 hat16;have hz16:=hgrow16.size;obtain⟨a16,c16,rfl⟩:=own_someX hown16 (by omega);have bel16:Below wr.heap.size wr w16:=Below.grown bel11 hgrow16 (by omega) (fun b hb=>(oL8 hown11 b hb).1);have hv11:∀b,v11.ownBlock=some b→b∉g7:=by
        intro b hb hm;have h1:=hO7.2.1 b hm;have h2:=hR7l b hm;rcases hat11 with h|h
        ·have:=(oL8 hown5 b (h.symm.trans hb)).2;omega
        ·rw[h]at hb;have:=Option.some.inj hb;simp at this;omega
       have hv16:∀b,(Value.slice (some ⟨a16,0,none⟩) (m+1+(l.length -m)) c16).ownBlock=some b→b∉g7:=by
        intro b hb hm;have h2:=hR7l b hm;rcases hat16 with h|h
        ·exact hv11 b (h.symm.trans hb) hm
        ·rw[h]at hb;have:=Option.some.inj hb;omega
       have hk16:∀b,b<wr.heap.size∨b∈g7→w16.heap[b]?=w7.heap[b]?:=by
        intro b hb;rcases hb with hb|hb
        ·exact(bel16.block b hb).trans (bel7.block b hb).symm
        ·have h1:=hO7.2.1 b hb;have h2:=hR7l b hb;refine(hgrow16.block b (by omega) (fun e=>hv11 b e.symm hb)).trans ((hgrow11.block b (by simp;omega) (fun e=>?_)).trans (bA8 w7 _ _ h2));have:=(oL8 hown5 b e.symm).2;omega
       have hBc:=hB1.put (x:=relV x) (by omega) bel7 hR7 ⟨hO7.1,fun b hb=>Nat.le_trans bel5.size (hO7.2.1 b hb),hO7.2.2⟩ hk16 (by omega) (k:=m) (by omega) (Nat.le_refl _) hv16 hown16;refine hK.out _ _ ?_ (fun hHeld22=>?_)
       ·intro _;exact⟨((bc8 bel16).1 _ _ (by omega)).trans c0,((bc8 bel16).1 _ _ (by omega)).trans c13,((bc8 bel16).1 _ _ (by omega)).trans c14⟩
       clear hK;replace hHeld22:=hHeld22 (by decide);refine onE 23 rfl fun K hK=>?_;go_simp;refine hK.out _ _ ?_ (fun hHeld23=>?_)
       ·exact fun h=>absurd rfl h
       clear hK hHeld23;refine doneE (by kernel_rfl) ?_ _;have belw:Below w.heap.size w w16:=hbw.trans (bel16.mono hbw.size);clear hB1 hown5 hown7 hown11 hown16 hgrow5 hgrow11 hgrow16 hat5 hat11 hat16 hv11 hv16 hk16 hR7 hO7 hb7 hRv hHeld;go_wp2;exact⟨⟨k+1,_,_,_,hlt,by simp,hBc,⟨a16,c16,by rw[show(l.take m++relV x::l.drop m).length=m+1+(l.length -m)from by simp;omega]⟩,HP.out m,HU.out,belw⟩,by simp[intOf];omega⟩
   ·obtain rfl:k=vs.length:=by omega
    rw[List.take_length]at hp;obtain⟨F,h1,h2⟩:=hB.relsF;clear hV;go_wp2;go_returns;exact⟨⟨_,l,F,rfl,⟨fun _=>⟨hp,hu⟩,fun h=>absurd ⟨HVB.out,h20⟩ h⟩,h1,h2⟩,hb⟩
end
end
end Go.Proofs.YtjhhmnjpojnoiaaGreatDoor
