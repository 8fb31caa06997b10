/- Own texts, joined: contracts that the law's proof goes by. -/
import Derived.Test.YtjhhmnjpojnoiaaGreatDoorGLWithViews13
import Derived.Test.YtjhhmnjpojnoiaaGreatDoorGLWithViews1
import Derived.Handy
import Derived.Deep.DrawnRows
import Derived.Deep.RegionHeld3
import Derived.Laws.AppendOwn
set_option maxHeartbeats 16000000
set_option maxRecDepth 100000
set_option linter.unusedVariables false
set_option linter.unusedSimpArgs false
namespace Go.Proofs.YtjhhmnjpojnoiaaGreatDoor
section
section
open Go.RowKit Go.Deep Go.ChangeShapes Go.WideShapes
theorem Tryz.infoInt:(Tryz.prog.info? 3).map (fun i=>(i.zero,i.size,i.bytes))=some (some (.int .i64 0),1,8):=by kernel_rfl
section
variable {P:Program} (w:World)
theorem step_append_own {ops:Array Oper}{o:Oper}{a:Act}{K:Act→World→Prop}{Q:Exit→Act→World→Prop}{E:Prop}(hgd:o.guard=none)(s x:Operand)(t:TypeId)(ho:o.op=.call {callee:=.builtin .append,args:=#[s,x],argTypes:=#[t,t]})(base:Nat) (e:TypeId) (i:TypeInfo) (z:Value) (size bytes:Nat) (ht:P.underlying t=some (.slice e)) (hi:P.info? e=some i) (hz:i.zero=some z)(hsize:i.size=size) (hby:i.bytes=bytes) (hzs:z.cells.size=size) (hsz:0<size)(v:Value) (n:Nat) (xs:List Value) (hs:a.eval s=v) (hown:w.ownsRow base e size v n xs)(ad:Addr) (m c:Nat) (news:List Value) (hx:a.eval x=.slice (some ad) m c) (hl:news.length=m*size) (hnews:∀j u,news[j]?=some u→w.cell? (ad.add j)=some u) (h1:∀u∈news,u.oneCell'=true)(h63:n+m≤maxLen) (hbytes:(n+m)*bytes≤140737488355328) (hbase:base≤w.heap.size)(h:∀v' w',w'.ownsRow base e size v' (n+m) (xs++news)→w.grownBy w' v.ownBlock→K (a.put o.dst v') w'):if Region.wanted o (yielded ops a.tmps)=true then Oper.wp P o a w K Q else E:=by
 have hw:Region.wanted o (yielded ops a.tmps)=true:=by simp[Region.wanted,hgd]
 rw[if_pos hw];exact wp_append_own w s x t ho base e i z size bytes ht hi hz hsize hby hzs hsz v n xs hs hown ad m c news hx hl hnews h1 h63 hbytes hbase fun v' w' h2 h3 _=>h v' w' h2 h3
end
def IntsI (w:World)(v:Value)(ns:List Int):Prop:=
 ∃b o c,v=.slice (some ⟨b,o,none⟩) ns.length c∧ns.length≤c∧c≤maxLen∧b<w.heap.size∧∀i n,ns[i]?=some n→w.cell? ⟨b,o+i,none⟩=some (.int .i64 n)
theorem IntsI.below {w w':World}{v:Value}{ns:List Int}(h:IntsI w v ns)(hb:Below w.heap.size w w'):IntsI w' v ns:=by
 obtain⟨b,o,c,hv,hl,hc,hlt,hcell⟩:=h;exact⟨b,o,c,hv,hl,hc,Nat.lt_of_lt_of_le hlt hb.size,fun i n hn=>((bc8 hb).1 _ _ hlt).trans (hcell i n hn)⟩
def ints (ns:List Int):List Value:=ns.map (Value.int .i64)
theorem ints_one (ns:List Int):∀u∈ints ns,u.oneCell'=true:=by
 intro u hu;obtain⟨n,_,rfl⟩:=List.mem_map.1 hu;rfl
theorem ints_none {w:World}{N H:Nat}(hH:w.heap.size=H)(hN:N≤H){t:TypeId}:(w.alloc (.cells #[] t)).ownsRow N t 1 (.slice (some ⟨H,0,none⟩) 0 0) 0 []:=by
 subst hH;exact⟨by simp,.inr ⟨w.heap.size,0,#[],rfl,hN,heap_alloc_new w _,Nat.le_refl _,by simp,by simp,by simp⟩⟩
theorem ints_own {w:World}{N n:Nat}{v:Value}{ns:List Int}{t:TypeId}(h:w.ownsRow N t 1 v n (ints ns))(hn:0<ns.length):IntsI w v ns:=by
 have hlt:=ownsE_lt h;obtain⟨hl,ho⟩:=h;have hl:ns.length=n:=by simpa [ints]using hl
 subst hl;rcases ho with⟨_,h0⟩|⟨g,cap,cur,rfl,hg,hc,hn',hm,hs,ht⟩
 ·omega
 refine⟨g,0,cap,rfl,hn',hm,(hlt g rfl).2,fun i n hi=>?_⟩;have hi':i<ns.length:=(gE1 hi).1;have hu:(ints ns)[i]?=some (.int .i64 n):=by simp[ints,hi]
 simp only[World.cell?,hc];rw[←ht,List.getElem?_take,if_pos (by omega),Array.getElem?_toList]at hu
 simpa using hu
theorem l03Add_any (v:Value)(ns:List Int)(x:Int)(w:World)(h:IntsI w v ns)(hn:ns.length≤4194304):Calls Tryz.prog 127 #[v,.int .i64 x] w fun e w'=>(∃v',e=.returned v'∧IntsI w' v' (addL ns x))∧Below w.heap.size w w':=by
 obtain⟨i0,hi,hz0,hz1,hz2⟩:=info_parts Tryz.infoInt;have hI:=h;obtain⟨b,o,c,rfl,hl,hc,hlt,hcell⟩:=h;unfold maxLen at hc;go_enter Tryz.func127,Tryz.ntmps127;go_wp2;go_loopw [5] (fun i wr=> ∃k:Nat,k≤ns.length∧i=.int .i64 k∧wr=w∧∀i n,i<k→ns[i]?=some n→n<x) (fun i _=>ns.length - (intOf i).toNat)
 case atStart=>exact⟨0,Nat.zero_le _,rfl,rfl,fun i n hi=>by omega⟩
 case round=>
  obtain⟨k,hk,rfl,hwr,hless⟩:=hrel;replace hwr:=hwr.symm;subst hwr;by_cases hin:k<ns.length∧∀n,ns[k]?=some n→n<x
  ·obtain⟨hkl,hkx⟩:=hin;obtain⟨m,hm⟩:∃m,ns[k]?=some m:=⟨ns[k],by simp[hkl]⟩;have hc0:=hcell k m hm;have hmx:=hkx m hm;have HL:Hid (∀i n,i<k+1→ns[i]?=some n→n<x):=fun i n hi hn=>by
    by_cases e:i=k
    ·subst e;exact hkx n hn
    ·exact hless i n (by omega) hn
   clear hless hkx hm hcell hI;go_wp2;exact⟨⟨k+1,hkl,by simp,by first|rfl|trivial,HL.out⟩,by simp[intOf];omega⟩
  by_cases hkl:k<ns.length
  ·obtain⟨m,hm⟩:∃m,ns[k]?=some m:=⟨ns[k],by simp[hkl]⟩;have hc0:=hcell k m hm;have hmx:¬m<x:=fun h=>hin ⟨hkl,fun n hn=>by rw[hm]at hn;cases hn;exact h⟩;by_cases hmx2:m=x
   ·subst hmx2;have HI:Hid (IntsI w (.slice (some ⟨b,o,none⟩) ns.length c) (addL ns m)):=by
     show IntsI _ _ _;rw[addL_same hless hm];exact hI
    clear hless hin hm hcell hI;go_wp2;refine bodyPost_ret (v:=.slice (some ⟨b,o,none⟩) ns.length c) (by simp[results,Tryz.results127,go_sem]) rfl ⟨⟨_,rfl,HI.out⟩,Below.refl _ _⟩
   ·have hmore:∀n,ns[k]?=some n→x<n:=fun n hn=>by rw[hm]at hn;cases hn;omega
    have hcellT:∀W,Below w.heap.size w W→∀j u,(ints (ns.take k))[j]?=some u→W.cell? ⟨b,o+j,none⟩=some u:=by
     intro W hW j u hu;have hj:j<k:=by have:=(gE1 hu).1;simp[ints]at this;omega
     have hjl:j<ns.length:=by omega
     have e:u=Value.int .i64 ns[j]:=by simp[ints,hj,hjl]at hu;exact hu.symm
     rw[e];exact((bc8 hW).1 _ _ hlt).trans (hcell j ns[j] (by simp))
    obtain⟨ad,hif,hcellD⟩:∃ad:Addr,(if c=k then some (⟨b,o,none⟩:Addr)else some ⟨b,o+k,none⟩)=some ad∧∀W,Below w.heap.size w W→∀j u,(ints (ns.drop k))[j]?=some u→W.cell? (ad.add j)=some u:=by
     by_cases hck:c=k
     ·refine⟨_,if_pos hck,fun W hW j u hu=>?_⟩;have:=(gE1 hu).1;simp[ints]at this;omega
     ·refine⟨_,if_neg hck,fun W hW j u hu=>?_⟩;have hjl:k+j<ns.length:=by have:=(gE1 hu).1;simp[ints]at this;omega
      have e:u=Value.int .i64 ns[k+j]:=by simp[ints,hjl]at hu;exact hu.symm
      rw[e,add_plain,Nat.add_assoc];exact((bc8 hW).1 _ _ hlt).trans (hcell (k+j) ns[k+j] (by simp))
    have hkc:k≤c:=by omega
    clear hcell;have hmd:decide (m<x)=false:=decide_eq_false hmx;have hme:(m==x)=false:=by simpa using hmx2
    have hme':decide (m=x)=false:=decide_eq_false hmx2;clear hin hm hI;go_wp2_with fail;refine wp_region_held_drew (S:=fun _=>True) (by kernel_rfl) ?_ (fun hHeld=>?_)
    ·trivial
    refine tkX (i:=1) (d:=34) (v:=?_) rfl rfl ?_ ?_ (hS:=trivial);rotate_left
    ·intro w' _;go_simp;try exact rfl
    refine tkX (i:=2) (d:=35) (v:=?_) rfl rfl ?_ ?_ (hS:=trivial);rotate_left
    ·intro w' _;go_simp;try exact rfl
    refine tkX (i:=3) (d:=36) (v:=?_) rfl rfl ?_ ?_ (hS:=trivial);rotate_left
    ·intro w' _;go_simp;try exact rfl
    refine tkX (i:=5) (d:=38) (v:=?_) rfl rfl ?_ ?_ (hS:=trivial);rotate_left
    ·intro w' _;go_simp;try exact rfl
    refine tkX (i:=8) (d:=41) (v:=?_) rfl rfl ?_ ?_ (hS:=trivial);rotate_left
    ·intro w' _;go_simp;try exact rfl
    refine tkX (i:=9) (d:=42) (v:=?_) rfl rfl ?_ ?_ (hS:=trivial);rotate_left
    ·intro w' _;go_simp;try exact rfl
    refine tkX (i:=10) (d:=43) (v:=?_) rfl rfl ?_ ?_ (hS:=trivial);rotate_left
    ·intro w' _;go_simp;try exact rfl
    refine wpAnyH_ready (rs:=[0,6]) (by kernel_rfl) (by simp) ?_;refine AllReadyH.cons rfl (fun K hK=>?_) (AllReadyH.cons rfl (fun K hK=>?_) AllReadyH.nil)
    ·go_simp;refine hK.out _ _ ?_ (fun hHeld0=>?_)
     ·trivial
     clear hK hHeld0;refine wpAnyH_ready (rs:=[4,6]) (by kernel_rfl) (by simp) ?_;refine AllReadyH.cons rfl (fun K hK=>?_) (AllReadyH.cons rfl (fun K hK=>?_) AllReadyH.nil)
     ·have hO33:(w.drew.alloc (.cells #[] 3)).ownsRow w.heap.size 3 1 (.slice (some ⟨w.heap.size,0,none⟩) 0 0) 0 []:=ints_none rfl (Nat.le_refl _);have hBW:Below w.heap.size w (w.drew.alloc (.cells #[] 3)):=bex;refine step_append_own _ (by rfl) _ _ 147 (by rfl) w.heap.size 3 i0 _ 1 8 Tryz.underlying147 hi hz0 hz1 hz2 rfl (by omega) (.slice (some ⟨w.heap.size,0,none⟩) 0 0) 0 [] (by rfl) hO33 ⟨b,o,none⟩ k c (ints (ns.take k)) (by rfl) (by simp[ints];omega) (fun j u hu=>by rw[add_plain];exact hcellT _ hBW j u hu) (ints_one _) (by unfold maxLen;omega) (by omega) (by simp;try omega) ?_;intro v4 w4 hO4 hG4;have hz4:=hG4.size;(try simp at hz4);have hB4:Below w.heap.size w w4:=hBW.grown hG4 (by simp;try omega) (fun q hq=>by simp[Value.ownBlock]at hq;omega);refine hK.out _ _ ?_ (fun hHeld4=>?_)
      ·trivial
      clear hK hHeld4;refine rdH 6 rfl fun K hK=>?_;go_simp;refine hK.out _ _ ?_ (fun hHeld6=>?_)
      ·trivial
      clear hK hHeld6;have hx4:(w4.alloc (.cells #[.int .i64 x] 3)).cell? ⟨w4.heap.size,0,none⟩=some (.int .i64 x):=by go_simp
      replace hO4:=ownsE_keep (w':=w4.alloc (.cells #[.int .i64 x] 3)) hO4 fun q hq=>bA8 _ _ _ (ownsE_lt hO4 q hq).2;replace hB4:Below w.heap.size w (w4.alloc (.cells #[.int .i64 x] 3)):=hB4.alloc (by omega) _;have hzz:(w4.alloc (.cells #[.int .i64 x] 3)).heap.size=w4.heap.size+1:=by simp
      refine rdH 7 rfl fun K hK=>?_;refine step_append_own _ (by rfl) _ _ 147 (by rfl) w.heap.size 3 i0 _ 1 8 Tryz.underlying147 hi hz0 hz1 hz2 rfl (by omega) v4 (0+k) ([]++ints (ns.take k)) (by rfl) hO4 ⟨w4.heap.size,0,none⟩ 1 1 [.int .i64 x] (by rfl) (by rfl) (fun j u hu=>by match j,hu with|0,hu=>simp at hu;subst hu;rw[add_plain];exact hx4) (by simp[Value.oneCell']) (by unfold maxLen;omega) (by omega) (by omega) ?_;intro v7 w7 hO7 hG7;have hz7:=hG7.size;have hB7:Below w.heap.size w w7:=hB4.grown hG7 (by omega) (fun q hq=>(ownsE_lt hO4 q hq).1);refine hK.out _ _ ?_ (fun hHeld7=>?_)
      ·trivial
      clear hK hHeld7;refine rdH 11 rfl fun K hK=>?_;refine step_append_own _ (by rfl) _ _ 147 (by rfl) w.heap.size 3 i0 _ 1 8 Tryz.underlying147 hi hz0 hz1 hz2 rfl (by omega) v7 (0+k+1) ([]++ints (ns.take k)++ [.int .i64 x]) (by rfl) hO7 ad (ns.length -k) (c -k) (ints (ns.drop k)) (by rfl) (by simp[ints]) (fun j u hu=>hcellD _ hB7 j u hu) (ints_one _) (by unfold maxLen;omega) (by omega) (by omega) ?_;intro v11 w11 hO11 hG11;have hB11:Below w.heap.size w w11:=hB7.grown hG11 (by omega) (fun q hq=>(ownsE_lt hO7 q hq).1);refine hK.out _ _ ?_ (fun hHeld11=>?_)
      ·trivial
      clear hK hHeld11;refine tkX (i:=12) (d:=4) (v:=?_) rfl rfl ?_ ?_ (hS:=trivial);rotate_left
      ·intro w' _;go_simp;try exact rfl
      refine wpAnyH_done (by kernel_rfl) ?_ _;have HI:Hid (IntsI w11 v11 (addL ns x)):=by
       show IntsI _ _ _;rw[addL_new hk hless hmore];exact ints_own (N:=w.heap.size) (by simpa [ints,List.map_append]using hO11) (by simp;omega)
      obtain⟨b',o',c',e',_⟩:=HI.out;subst e';clear hO4 hO7 hO11 hG4 hG7 hG11 hHeld;go_wp2;refine bodyPost_ret (v:=.slice (some ⟨b',o',none⟩) (addL ns x).length c') (by simp[results,Tryz.results127,go_sem]) rfl ⟨⟨_,rfl,HI.out⟩,hB11⟩
     ·go_simp;refine hK.out _ _ ?_ (fun hHeld6=>?_)
      ·trivial
      clear hK hHeld6;have hO33:((w.drew.alloc (.cells #[] 3)).alloc (.cells #[.int .i64 x] 3)).ownsRow w.heap.size 3 1 (.slice (some ⟨w.heap.size,0,none⟩) 0 0) 0 []:=ownsE_keep (ints_none rfl (Nat.le_refl _)) fun q hq=>bA8 _ _ _ (by simp[Value.ownBlock]at hq;subst hq;simp);have hBW:Below w.heap.size w ((w.drew.alloc (.cells #[] 3)).alloc (.cells #[.int .i64 x] 3)):=bex;have hx39:((w.drew.alloc (.cells #[] 3)).alloc (.cells #[.int .i64 x] 3)).cell? ⟨w.heap.size+1,0,none⟩=some (.int .i64 x):=by go_simp
      refine rdH 4 rfl fun K hK=>?_;refine step_append_own _ (by rfl) _ _ 147 (by rfl) w.heap.size 3 i0 _ 1 8 Tryz.underlying147 hi hz0 hz1 hz2 rfl (by omega) (.slice (some ⟨w.heap.size,0,none⟩) 0 0) 0 [] (by rfl) hO33 ⟨b,o,none⟩ k c (ints (ns.take k)) (by rfl) (by simp[ints];omega) (fun j u hu=>by rw[add_plain];exact hcellT _ hBW j u hu) (ints_one _) (by unfold maxLen;omega) (by omega) (by simp;try omega) ?_;intro v4 w4 hO4 hG4;have hz4:=hG4.size;(try simp at hz4);have hB4:Below w.heap.size w w4:=hBW.grown hG4 (by simp;try omega) (fun q hq=>by simp[Value.ownBlock]at hq;omega);have hx4:w4.cell? ⟨w.heap.size+1,0,none⟩=some (.int .i64 x):=(hG4.cell_far _ (by simp;try omega) (by simp[Value.ownBlock];try omega)).trans hx39;have hlt4:=ownsE_lt hO4;refine hK.out _ _ ?_ (fun hHeld4=>?_)
      ·trivial
      clear hK hHeld4;refine rdH 7 rfl fun K hK=>?_;refine step_append_own _ (by rfl) _ _ 147 (by rfl) w.heap.size 3 i0 _ 1 8 Tryz.underlying147 hi hz0 hz1 hz2 rfl (by omega) v4 (0+k) ([]++ints (ns.take k)) (by rfl) hO4 ⟨w.heap.size+1,0,none⟩ 1 1 [.int .i64 x] (by rfl) (by rfl) (fun j u hu=>by match j,hu with|0,hu=>simp at hu;subst hu;rw[add_plain];exact hx4) (by simp[Value.oneCell']) (by unfold maxLen;omega) (by omega) (by omega) ?_;intro v7 w7 hO7 hG7;have hz7:=hG7.size;have hB7:Below w.heap.size w w7:=hB4.grown hG7 (by omega) (fun q hq=>(ownsE_lt hO4 q hq).1);refine hK.out _ _ ?_ (fun hHeld7=>?_)
      ·trivial
      clear hK hHeld7;refine rdH 11 rfl fun K hK=>?_;refine step_append_own _ (by rfl) _ _ 147 (by rfl) w.heap.size 3 i0 _ 1 8 Tryz.underlying147 hi hz0 hz1 hz2 rfl (by omega) v7 (0+k+1) ([]++ints (ns.take k)++ [.int .i64 x]) (by rfl) hO7 ad (ns.length -k) (c -k) (ints (ns.drop k)) (by rfl) (by simp[ints]) (fun j u hu=>hcellD _ hB7 j u hu) (ints_one _) (by unfold maxLen;omega) (by omega) (by omega) ?_;intro v11 w11 hO11 hG11;have hB11:Below w.heap.size w w11:=hB7.grown hG11 (by omega) (fun q hq=>(ownsE_lt hO7 q hq).1);refine hK.out _ _ ?_ (fun hHeld11=>?_)
      ·trivial
      clear hK hHeld11;refine tkX (i:=12) (d:=4) (v:=?_) rfl rfl ?_ ?_ (hS:=trivial);rotate_left
      ·intro w' _;go_simp;try exact rfl
      refine wpAnyH_done (by kernel_rfl) ?_ _;have HI:Hid (IntsI w11 v11 (addL ns x)):=by
       show IntsI _ _ _;rw[addL_new hk hless hmore];exact ints_own (N:=w.heap.size) (by simpa [ints,List.map_append]using hO11) (by simp;omega)
      obtain⟨b',o',c',e',_⟩:=HI.out;subst e';clear hO4 hO7 hO11 hG4 hG7 hG11 hHeld;go_wp2;refine bodyPost_ret (v:=.slice (some ⟨b',o',none⟩) (addL ns x).length c') (by simp[results,Tryz.results127,go_sem]) rfl ⟨⟨_,rfl,HI.out⟩,hB11⟩
    ·go_simp;refine hK.out _ _ ?_ (fun hHeld6=>?_)
     ·trivial
     clear hK hHeld6;refine rdH 0 rfl fun K hK=>?_;go_simp;refine hK.out _ _ ?_ (fun hHeld0=>?_)
     ·trivial
     clear hK hHeld0;have hO33:((w.drew.alloc (.cells #[.int .i64 x] 3)).alloc (.cells #[] 3)).ownsRow w.heap.size 3 1 (.slice (some ⟨w.heap.size+1,0,none⟩) 0 0) 0 []:=ints_none (by simp) (by omega);have hBW:Below w.heap.size w ((w.drew.alloc (.cells #[.int .i64 x] 3)).alloc (.cells #[] 3)):=bex;have hx39:((w.drew.alloc (.cells #[.int .i64 x] 3)).alloc (.cells #[] 3)).cell? ⟨w.heap.size,0,none⟩=some (.int .i64 x):=by go_simp
     refine rdH 4 rfl fun K hK=>?_;refine step_append_own _ (by rfl) _ _ 147 (by rfl) w.heap.size 3 i0 _ 1 8 Tryz.underlying147 hi hz0 hz1 hz2 rfl (by omega) (.slice (some ⟨w.heap.size+1,0,none⟩) 0 0) 0 [] (by rfl) hO33 ⟨b,o,none⟩ k c (ints (ns.take k)) (by rfl) (by simp[ints];omega) (fun j u hu=>by rw[add_plain];exact hcellT _ hBW j u hu) (ints_one _) (by unfold maxLen;omega) (by omega) (by simp;try omega) ?_;intro v4 w4 hO4 hG4;have hz4:=hG4.size;(try simp at hz4);have hB4:Below w.heap.size w w4:=hBW.grown hG4 (by simp;try omega) (fun q hq=>by simp[Value.ownBlock]at hq;omega);have hx4:w4.cell? ⟨w.heap.size,0,none⟩=some (.int .i64 x):=(hG4.cell_far _ (by simp;try omega) (by simp[Value.ownBlock];try omega)).trans hx39;have hlt4:=ownsE_lt hO4;refine hK.out _ _ ?_ (fun hHeld4=>?_)
     ·trivial
     clear hK hHeld4;refine rdH 7 rfl fun K hK=>?_;refine step_append_own _ (by rfl) _ _ 147 (by rfl) w.heap.size 3 i0 _ 1 8 Tryz.underlying147 hi hz0 hz1 hz2 rfl (by omega) v4 (0+k) ([]++ints (ns.take k)) (by rfl) hO4 ⟨w.heap.size,0,none⟩ 1 1 [.int .i64 x] (by rfl) (by rfl) (fun j u hu=>by match j,hu with|0,hu=>simp at hu;subst hu;rw[add_plain];exact hx4) (by simp[Value.oneCell']) (by unfold maxLen;omega) (by omega) (by omega) ?_;intro v7 w7 hO7 hG7;have hz7:=hG7.size;have hB7:Below w.heap.size w w7:=hB4.grown hG7 (by omega) (fun q hq=>(ownsE_lt hO4 q hq).1);refine hK.out _ _ ?_ (fun hHeld7=>?_)
     ·trivial
     clear hK hHeld7;refine rdH 11 rfl fun K hK=>?_;refine step_append_own _ (by rfl) _ _ 147 (by rfl) w.heap.size 3 i0 _ 1 8 Tryz.underlying147 hi hz0 hz1 hz2 rfl (by omega) v7 (0+k+1) ([]++ints (ns.take k)++ [.int .i64 x]) (by rfl) hO7 ad (ns.length -k) (c -k) (ints (ns.drop k)) (by rfl) (by simp[ints]) (fun j u hu=>hcellD _ hB7 j u hu) (ints_one _) (by unfold maxLen;omega) (by omega) (by omega) ?_;intro v11 w11 hO11 hG11;have hB11:Below w.heap.size w w11:=hB7.grown hG11 (by omega) (fun q hq=>(ownsE_lt hO7 q hq).1);refine hK.out _ _ ?_ (fun hHeld11=>?_)
     ·trivial
     clear hK hHeld11;refine tkX (i:=12) (d:=4) (v:=?_) rfl rfl ?_ ?_ (hS:=trivial);rotate_left
     ·intro w' _;go_simp;try exact rfl
     refine wpAnyH_done (by kernel_rfl) ?_ _;have HI:Hid (IntsI w11 v11 (addL ns x)):=by
      show IntsI _ _ _;rw[addL_new hk hless hmore];exact ints_own (N:=w.heap.size) (by simpa [ints,List.map_append]using hO11) (by simp;omega)
     obtain⟨b',o',c',e',_⟩:=HI.out;subst e';clear hO4 hO7 hO11 hG4 hG7 hG11 hHeld;go_wp2;refine bodyPost_ret (v:=.slice (some ⟨b',o',none⟩) (addL ns x).length c') (by simp[results,Tryz.results127,go_sem]) rfl ⟨⟨_,rfl,HI.out⟩,hB11⟩
  ·have hmore:∀n,ns[k]?=some n→x<n:=fun n hn=>by rw[List.getElem?_eq_none (by omega)]at hn;cases hn
   have hcellT:∀W,Below w.heap.size w W→∀j u,(ints (ns.take k))[j]?=some u→W.cell? ⟨b,o+j,none⟩=some u:=by
    intro W hW j u hu;have hj:j<k:=by have:=(gE1 hu).1;simp[ints]at this;omega
    have hjl:j<ns.length:=by omega
    have e:u=Value.int .i64 ns[j]:=by simp[ints,hj,hjl]at hu;exact hu.symm
    rw[e];exact((bc8 hW).1 _ _ hlt).trans (hcell j ns[j] (by simp))
   obtain⟨ad,hif,hcellD⟩:∃ad:Addr,(if c=k then some (⟨b,o,none⟩:Addr)else some ⟨b,o+k,none⟩)=some ad∧∀W,Below w.heap.size w W→∀j u,(ints (ns.drop k))[j]?=some u→W.cell? (ad.add j)=some u:=by
    by_cases hck:c=k
    ·refine⟨_,if_pos hck,fun W hW j u hu=>?_⟩;have:=(gE1 hu).1;simp[ints]at this;omega
    ·refine⟨_,if_neg hck,fun W hW j u hu=>?_⟩;have hjl:k+j<ns.length:=by have:=(gE1 hu).1;simp[ints]at this;omega
     have e:u=Value.int .i64 ns[k+j]:=by simp[ints,hjl]at hu;exact hu.symm
     rw[e,add_plain,Nat.add_assoc];exact((bc8 hW).1 _ _ hlt).trans (hcell (k+j) ns[k+j] (by simp))
   have hkc:k≤c:=by omega
   clear hcell;clear hin hI;go_wp2_with fail;refine wp_region_held_drew (S:=fun _=>True) (by kernel_rfl) ?_ (fun hHeld=>?_)
   ·trivial
   refine tkX (i:=1) (d:=34) (v:=?_) rfl rfl ?_ ?_ (hS:=trivial);rotate_left
   ·intro w' _;go_simp;try exact rfl
   refine tkX (i:=2) (d:=35) (v:=?_) rfl rfl ?_ ?_ (hS:=trivial);rotate_left
   ·intro w' _;go_simp;try exact rfl
   refine tkX (i:=3) (d:=36) (v:=?_) rfl rfl ?_ ?_ (hS:=trivial);rotate_left
   ·intro w' _;go_simp;try exact rfl
   refine tkX (i:=5) (d:=38) (v:=?_) rfl rfl ?_ ?_ (hS:=trivial);rotate_left
   ·intro w' _;go_simp;try exact rfl
   refine tkX (i:=8) (d:=41) (v:=?_) rfl rfl ?_ ?_ (hS:=trivial);rotate_left
   ·intro w' _;go_simp;try exact rfl
   refine tkX (i:=9) (d:=42) (v:=?_) rfl rfl ?_ ?_ (hS:=trivial);rotate_left
   ·intro w' _;go_simp;try exact rfl
   refine tkX (i:=10) (d:=43) (v:=?_) rfl rfl ?_ ?_ (hS:=trivial);rotate_left
   ·intro w' _;go_simp;try exact rfl
   refine wpAnyH_ready (rs:=[0,6]) (by kernel_rfl) (by simp) ?_;refine AllReadyH.cons rfl (fun K hK=>?_) (AllReadyH.cons rfl (fun K hK=>?_) AllReadyH.nil)
   ·go_simp;refine hK.out _ _ ?_ (fun hHeld0=>?_)
    ·trivial
    clear hK hHeld0;refine wpAnyH_ready (rs:=[4,6]) (by kernel_rfl) (by simp) ?_;refine AllReadyH.cons rfl (fun K hK=>?_) (AllReadyH.cons rfl (fun K hK=>?_) AllReadyH.nil)
    ·have hO33:(w.drew.alloc (.cells #[] 3)).ownsRow w.heap.size 3 1 (.slice (some ⟨w.heap.size,0,none⟩) 0 0) 0 []:=ints_none rfl (Nat.le_refl _);have hBW:Below w.heap.size w (w.drew.alloc (.cells #[] 3)):=bex;refine step_append_own _ (by rfl) _ _ 147 (by rfl) w.heap.size 3 i0 _ 1 8 Tryz.underlying147 hi hz0 hz1 hz2 rfl (by omega) (.slice (some ⟨w.heap.size,0,none⟩) 0 0) 0 [] (by rfl) hO33 ⟨b,o,none⟩ k c (ints (ns.take k)) (by rfl) (by simp[ints];omega) (fun j u hu=>by rw[add_plain];exact hcellT _ hBW j u hu) (ints_one _) (by unfold maxLen;omega) (by omega) (by simp;try omega) ?_;intro v4 w4 hO4 hG4;have hz4:=hG4.size;(try simp at hz4);have hB4:Below w.heap.size w w4:=hBW.grown hG4 (by simp;try omega) (fun q hq=>by simp[Value.ownBlock]at hq;omega);refine hK.out _ _ ?_ (fun hHeld4=>?_)
     ·trivial
     clear hK hHeld4;refine rdH 6 rfl fun K hK=>?_;go_simp;refine hK.out _ _ ?_ (fun hHeld6=>?_)
     ·trivial
     clear hK hHeld6;have hx4:(w4.alloc (.cells #[.int .i64 x] 3)).cell? ⟨w4.heap.size,0,none⟩=some (.int .i64 x):=by go_simp
     replace hO4:=ownsE_keep (w':=w4.alloc (.cells #[.int .i64 x] 3)) hO4 fun q hq=>bA8 _ _ _ (ownsE_lt hO4 q hq).2;replace hB4:Below w.heap.size w (w4.alloc (.cells #[.int .i64 x] 3)):=hB4.alloc (by omega) _;have hzz:(w4.alloc (.cells #[.int .i64 x] 3)).heap.size=w4.heap.size+1:=by simp
     refine rdH 7 rfl fun K hK=>?_;refine step_append_own _ (by rfl) _ _ 147 (by rfl) w.heap.size 3 i0 _ 1 8 Tryz.underlying147 hi hz0 hz1 hz2 rfl (by omega) v4 (0+k) ([]++ints (ns.take k)) (by rfl) hO4 ⟨w4.heap.size,0,none⟩ 1 1 [.int .i64 x] (by rfl) (by rfl) (fun j u hu=>by match j,hu with|0,hu=>simp at hu;subst hu;rw[add_plain];exact hx4) (by simp[Value.oneCell']) (by unfold maxLen;omega) (by omega) (by omega) ?_;intro v7 w7 hO7 hG7;have hz7:=hG7.size;have hB7:Below w.heap.size w w7:=hB4.grown hG7 (by omega) (fun q hq=>(ownsE_lt hO4 q hq).1);refine hK.out _ _ ?_ (fun hHeld7=>?_)
     ·trivial
     clear hK hHeld7;refine rdH 11 rfl fun K hK=>?_;refine step_append_own _ (by rfl) _ _ 147 (by rfl) w.heap.size 3 i0 _ 1 8 Tryz.underlying147 hi hz0 hz1 hz2 rfl (by omega) v7 (0+k+1) ([]++ints (ns.take k)++ [.int .i64 x]) (by rfl) hO7 ad (ns.length -k) (c -k) (ints (ns.drop k)) (by rfl) (by simp[ints]) (fun j u hu=>hcellD _ hB7 j u hu) (ints_one _) (by unfold maxLen;omega) (by omega) (by omega) ?_;intro v11 w11 hO11 hG11;have hB11:Below w.heap.size w w11:=hB7.grown hG11 (by omega) (fun q hq=>(ownsE_lt hO7 q hq).1);refine hK.out _ _ ?_ (fun hHeld11=>?_)
     ·trivial
     clear hK hHeld11;refine tkX (i:=12) (d:=4) (v:=?_) rfl rfl ?_ ?_ (hS:=trivial);rotate_left
     ·intro w' _;go_simp;try exact rfl
     refine wpAnyH_done (by kernel_rfl) ?_ _;have HI:Hid (IntsI w11 v11 (addL ns x)):=by
      show IntsI _ _ _;rw[addL_new hk hless hmore];exact ints_own (N:=w.heap.size) (by simpa [ints,List.map_append]using hO11) (by simp;omega)
     obtain⟨b',o',c',e',_⟩:=HI.out;subst e';clear hO4 hO7 hO11 hG4 hG7 hG11 hHeld;go_wp2;refine bodyPost_ret (v:=.slice (some ⟨b',o',none⟩) (addL ns x).length c') (by simp[results,Tryz.results127,go_sem]) rfl ⟨⟨_,rfl,HI.out⟩,hB11⟩
    ·go_simp;refine hK.out _ _ ?_ (fun hHeld6=>?_)
     ·trivial
     clear hK hHeld6;have hO33:((w.drew.alloc (.cells #[] 3)).alloc (.cells #[.int .i64 x] 3)).ownsRow w.heap.size 3 1 (.slice (some ⟨w.heap.size,0,none⟩) 0 0) 0 []:=ownsE_keep (ints_none rfl (Nat.le_refl _)) fun q hq=>bA8 _ _ _ (by simp[Value.ownBlock]at hq;subst hq;simp);have hBW:Below w.heap.size w ((w.drew.alloc (.cells #[] 3)).alloc (.cells #[.int .i64 x] 3)):=bex;have hx39:((w.drew.alloc (.cells #[] 3)).alloc (.cells #[.int .i64 x] 3)).cell? ⟨w.heap.size+1,0,none⟩=some (.int .i64 x):=by go_simp
     refine rdH 4 rfl fun K hK=>?_;refine step_append_own _ (by rfl) _ _ 147 (by rfl) w.heap.size 3 i0 _ 1 8 Tryz.underlying147 hi hz0 hz1 hz2 rfl (by omega) (.slice (some ⟨w.heap.size,0,none⟩) 0 0) 0 [] (by rfl) hO33 ⟨b,o,none⟩ k c (ints (ns.take k)) (by rfl) (by simp[ints];omega) (fun j u hu=>by rw[add_plain];exact hcellT _ hBW j u hu) (ints_one _) (by unfold maxLen;omega) (by omega) (by simp;try omega) ?_;intro v4 w4 hO4 hG4;have hz4:=hG4.size;(try simp at hz4);have hB4:Below w.heap.size w w4:=hBW.grown hG4 (by simp;try omega) (fun q hq=>by simp[Value.ownBlock]at hq;omega);have hx4:w4.cell? ⟨w.heap.size+1,0,none⟩=some (.int .i64 x):=(hG4.cell_far _ (by simp;try omega) (by simp[Value.ownBlock];try omega)).trans hx39;have hlt4:=ownsE_lt hO4;refine hK.out _ _ ?_ (fun hHeld4=>?_)
     ·trivial
     clear hK hHeld4;refine rdH 7 rfl fun K hK=>?_;refine step_append_own _ (by rfl) _ _ 147 (by rfl) w.heap.size 3 i0 _ 1 8 Tryz.underlying147 hi hz0 hz1 hz2 rfl (by omega) v4 (0+k) ([]++ints (ns.take k)) (by rfl) hO4 ⟨w.heap.size+1,0,none⟩ 1 1 [.int .i64 x] (by rfl) (by rfl) (fun j u hu=>by match j,hu with|0,hu=>simp at hu;subst hu;rw[add_plain];exact hx4) (by simp[Value.oneCell']) (by unfold maxLen;omega) (by omega) (by omega) ?_;intro v7 w7 hO7 hG7;have hz7:=hG7.size;have hB7:Below w.heap.size w w7:=hB4.grown hG7 (by omega) (fun q hq=>(ownsE_lt hO4 q hq).1);refine hK.out _ _ ?_ (fun hHeld7=>?_)
     ·trivial
     clear hK hHeld7;refine rdH 11 rfl fun K hK=>?_;refine step_append_own _ (by rfl) _ _ 147 (by rfl) w.heap.size 3 i0 _ 1 8 Tryz.underlying147 hi hz0 hz1 hz2 rfl (by omega) v7 (0+k+1) ([]++ints (ns.take k)++ [.int .i64 x]) (by rfl) hO7 ad (ns.length -k) (c -k) (ints (ns.drop k)) (by rfl) (by simp[ints]) (fun j u hu=>hcellD _ hB7 j u hu) (ints_one _) (by unfold maxLen;omega) (by omega) (by omega) ?_;intro v11 w11 hO11 hG11;have hB11:Below w.heap.size w w11:=hB7.grown hG11 (by omega) (fun q hq=>(ownsE_lt hO7 q hq).1);refine hK.out _ _ ?_ (fun hHeld11=>?_)
     ·trivial
     clear hK hHeld11;refine tkX (i:=12) (d:=4) (v:=?_) rfl rfl ?_ ?_ (hS:=trivial);rotate_left
     ·intro w' _;go_simp;try exact rfl
     refine wpAnyH_done (by kernel_rfl) ?_ _;have HI:Hid (IntsI w11 v11 (addL ns x)):=by
      show IntsI _ _ _;rw[addL_new hk hless hmore];exact ints_own (N:=w.heap.size) (by simpa [ints,List.map_append]using hO11) (by simp;omega)
     obtain⟨b',o',c',e',_⟩:=HI.out;subst e';clear hO4 hO7 hO11 hG4 hG7 hG11 hHeld;go_wp2;refine bodyPost_ret (v:=.slice (some ⟨b',o',none⟩) (addL ns x).length c') (by simp[results,Tryz.results127,go_sem]) rfl ⟨⟨_,rfl,HI.out⟩,hB11⟩
   ·go_simp;refine hK.out _ _ ?_ (fun hHeld6=>?_)
    ·trivial
    clear hK hHeld6;refine rdH 0 rfl fun K hK=>?_;go_simp;refine hK.out _ _ ?_ (fun hHeld0=>?_)
    ·trivial
    clear hK hHeld0;have hO33:((w.drew.alloc (.cells #[.int .i64 x] 3)).alloc (.cells #[] 3)).ownsRow w.heap.size 3 1 (.slice (some ⟨w.heap.size+1,0,none⟩) 0 0) 0 []:=ints_none (by simp) (by omega);have hBW:Below w.heap.size w ((w.drew.alloc (.cells #[.int .i64 x] 3)).alloc (.cells #[] 3)):=bex;have hx39:((w.drew.alloc (.cells #[.int .i64 x] 3)).alloc (.cells #[] 3)).cell? ⟨w.heap.size,0,none⟩=some (.int .i64 x):=by go_simp
    refine rdH 4 rfl fun K hK=>?_;refine step_append_own _ (by rfl) _ _ 147 (by rfl) w.heap.size 3 i0 _ 1 8 Tryz.underlying147 hi hz0 hz1 hz2 rfl (by omega) (.slice (some ⟨w.heap.size+1,0,none⟩) 0 0) 0 [] (by rfl) hO33 ⟨b,o,none⟩ k c (ints (ns.take k)) (by rfl) (by simp[ints];omega) (fun j u hu=>by rw[add_plain];exact hcellT _ hBW j u hu) (ints_one _) (by unfold maxLen;omega) (by omega) (by simp;try omega) ?_;intro v4 w4 hO4 hG4;have hz4:=hG4.size;(try simp at hz4);have hB4:Below w.heap.size w w4:=hBW.grown hG4 (by simp;try omega) (fun q hq=>by simp[Value.ownBlock]at hq;omega);have hx4:w4.cell? ⟨w.heap.size,0,none⟩=some (.int .i64 x):=(hG4.cell_far _ (by simp;try omega) (by simp[Value.ownBlock];try omega)).trans hx39;have hlt4:=ownsE_lt hO4;refine hK.out _ _ ?_ (fun hHeld4=>?_)
    ·trivial
    clear hK hHeld4;refine rdH 7 rfl fun K hK=>?_;refine step_append_own _ (by rfl) _ _ 147 (by rfl) w.heap.size 3 i0 _ 1 8 Tryz.underlying147 hi hz0 hz1 hz2 rfl (by omega) v4 (0+k) ([]++ints (ns.take k)) (by rfl) hO4 ⟨w.heap.size,0,none⟩ 1 1 [.int .i64 x] (by rfl) (by rfl) (fun j u hu=>by match j,hu with|0,hu=>simp at hu;subst hu;rw[add_plain];exact hx4) (by simp[Value.oneCell']) (by unfold maxLen;omega) (by omega) (by omega) ?_;intro v7 w7 hO7 hG7;have hz7:=hG7.size;have hB7:Below w.heap.size w w7:=hB4.grown hG7 (by omega) (fun q hq=>(ownsE_lt hO4 q hq).1);refine hK.out _ _ ?_ (fun hHeld7=>?_)
    ·trivial
    clear hK hHeld7;refine rdH 11 rfl fun K hK=>?_;refine step_append_own _ (by rfl) _ _ 147 (by rfl) w.heap.size 3 i0 _ 1 8 Tryz.underlying147 hi hz0 hz1 hz2 rfl (by omega) v7 (0+k+1) ([]++ints (ns.take k)++ [.int .i64 x]) (by rfl) hO7 ad (ns.length -k) (c -k) (ints (ns.drop k)) (by rfl) (by simp[ints]) (fun j u hu=>hcellD _ hB7 j u hu) (ints_one _) (by unfold maxLen;omega) (by omega) (by omega) ?_;intro v11 w11 hO11 hG11;have hB11:Below w.heap.size w w11:=hB7.grown hG11 (by omega) (fun q hq=>(ownsE_lt hO7 q hq).1);refine hK.out _ _ ?_ (fun hHeld11=>?_)
    ·trivial
    clear hK hHeld11;refine tkX (i:=12) (d:=4) (v:=?_) rfl rfl ?_ ?_ (hS:=trivial);rotate_left
    ·intro w' _;go_simp;try exact rfl
    refine wpAnyH_done (by kernel_rfl) ?_ _;have HI:Hid (IntsI w11 v11 (addL ns x)):=by
     show IntsI _ _ _;rw[addL_new hk hless hmore];exact ints_own (N:=w.heap.size) (by simpa [ints,List.map_append]using hO11) (by simp;omega)
    obtain⟨b',o',c',e',_⟩:=HI.out;subst e';clear hO4 hO7 hO11 hG4 hG7 hG11 hHeld;go_wp2;refine bodyPost_ret (v:=.slice (some ⟨b',o',none⟩) (addL ns x).length c') (by simp[results,Tryz.results127,go_sem]) rfl ⟨⟨_,rfl,HI.out⟩,hB11⟩
end
section
open Go.RowKit Go.Deep Go.ChangeShapes Go.WideShapes
theorem take_snocC {α:Type}{l:List α}{k:Nat}{x:α}(h:l[k]?=some x):l.take (k+1)=l.take k++ [x]:=by
 obtain⟨hk,rfl⟩:=gE1 h;exact List.take_succ_eq_append_getElem hk
def accC (d:Nat)(e:E7)(k:Nat):List Int:=(e.ks.take k).foldl (fun acc k=>(colsL d k).foldl addL acc) (if e.k=0 then[e.n]else[])
theorem accC_zero (d:Nat)(e:E7):accC d e 0=if e.k=0 then[e.n]else[]:=by simp[accC]
theorem accC_all (d:Nat)(e:E7):accC d e e.ks.length=colsL (d+1) e:=by rw[accC,List.take_length,colsL]
theorem accC_succ {d:Nat}{e:E7}{k:Nat}{x:E7}(h:e.ks[k]?=some x):accC d e (k+1)=(colsL d x).foldl addL (accC d e k):=by
 unfold accC;rw[take_snocC h,List.foldl_append];rfl
theorem foldl_addL_len:∀ (l acc:List Int),(l.foldl addL acc).length≤acc.length+l.length
 | [],acc=>by simp
 |x::l,acc=>by
  have h1:=foldl_addL_len l (addL acc x);have h2:=addL_len acc x;simp only[List.foldl_cons,List.length_cons];omega
theorem foldl_cols_len (f:E7→List Int)(hf:∀k,(f k).length≤1+wtE k):∀ (ks:List E7) (acc:List Int),(ks.foldl (fun acc k=>(f k).foldl addL acc) acc).length≤acc.length+(ks.length+wtEs ks)
 | [],acc=>by simp
 |k::ks,acc=>by
  have h1:=foldl_cols_len f hf ks ((f k).foldl addL acc);have h2:=foldl_addL_len (f k) acc;have h3:=hf k;have h4:wtEs (k::ks)=wtE k+wtEs ks:=by rw[←wtEs_sum,←wtEs_sum];simp
  simp only[List.foldl_cons,List.length_cons];omega
theorem colsL_len:∀ (d:Nat) (e:E7),(colsL d e).length≤1+wtE e
 |0,e=>by simp[colsL]
 |d+1,e=>by
  rw[colsL];have h1:=foldl_cols_len (colsL d) (colsL_len d) e.ks (if e.k=0 then[e.n]else[]);have h2:(if e.k=0 then[e.n]else[]).length≤1:=by split<;>simp
  have h3:=wtE_eq e;omega
theorem accC_len (d:Nat)(e:E7)(k:Nat):(accC d e k).length≤1+wtE e:=by
 unfold accC;have h1:=foldl_cols_len (colsL d) (colsL_len d) (e.ks.take k) (if e.k=0 then[e.n]else[]);have h2:(if e.k=0 then[e.n]else[]).length≤1:=by split<;>simp
 have h3:=wtE_eq e;have h4:(e.ks.take k).length+wtEs (e.ks.take k)≤e.ks.length+wtEs e.ks:=by
  have:wtEs e.ks=wtEs (e.ks.take k)+wtEs (e.ks.drop k):=by rw[←wtEs_app,List.take_append_drop]
  simp;omega
 omega
def ClS (d:Nat):Prop:=∀ (e:E7) (u:Value) (F:List Nat) (w:World),KidsIs w d u e.ks F→wtE e≤1048576→
  Calls Tryz.prog 110 #[(.agg #[.int .i64 e.k,.int .i64 e.n,.int .i64 e.v.k,.int .i64 e.v.n,.string e.v.s,.string e.p,u])] w fun x w'=>(∃v,x=.returned v∧IntsI w' v (colsL d e))∧Below w.heap.size w w'
theorem specCols_step {d:Nat}(ih:ClS d):ClS (d+1):=by
 intro e u F w hk hn;have ih:∀ (e:E7) (u:Value) (F:List Nat) (w:World),KidsIs w d u e.ks F→wtE e≤1048576→ Calls Tryz.prog 110 #[(.agg #[.int .i64 e.k,.int .i64 e.n,.int .i64 e.v.k,.int .i64 e.v.n,.string e.v.s,.string e.p,u])] w fun x w'=>(∃v,x=.returned v∧IntsI w' v (colsL d e))∧Below w.heap.size w w':=ih;obtain⟨a,c,b,o,G0,rfl,hl,hc,hG0,_,ha⟩:=hk.pick;unfold maxLen at hc;have hwe:=wtE_eq e;clear hk;by_cases hk0:e.k=0
 ·have HA:Hid (accC d e 0=[e.n]):=by show _=_;rw[accC_zero,if_pos hk0]
  have hkb:(e.k==0)=true:=by simpa using hk0
  have hkd:decide (e.k=0)=true:=by simpa using hk0
  clear hk0;go_enter Tryz.func110,Tryz.ntmps110;go_wp2_with fail;refine cM8 (l03Add_any (.slice (some ⟨w.heap.size+1,0,none⟩) 0 0) [] e.n _ ⟨w.heap.size+1,0,0,rfl,Nat.le_refl _,by simp,by simp,fun i n h=>by simp at h⟩ (by simp)) ?_;rintro q W ⟨⟨v0,rfl,hI0⟩,hbW0⟩;have hW0:=hbW0.size;have hbx0:W.cell? ⟨w.heap.size,6,none⟩=some (.slice a e.ks.length c):=cL8 hbW0 (by go_simp);have hbW:Below w.heap.size w W:=bex;rw[show addL [] e.n=[e.n]from rfl]at hI0;obtain⟨yb,yo,yc,e0,_⟩:=id hI0;subst e0;clear hbW0;go_wp2;go_loopw [3,4] (fun y i wr=> ∃ (k:Nat) (yb yo yc:Nat),k≤e.ks.length∧i=.int .i64 k∧y=.slice (some ⟨yb,yo,none⟩) (accC d e k).length yc∧IntsI wr (.slice (some ⟨yb,yo,none⟩) (accC d e k).length yc) (accC d e k)∧wr.cell? ⟨w.heap.size,6,none⟩=some (.slice a e.ks.length c)∧Below w.heap.size w wr∧w.heap.size<wr.heap.size) (fun _ i _=>e.ks.length - (intOf i).toNat)
  case atStart=>exact⟨0,yb,yo,yc,Nat.zero_le _,rfl,by first|(rw[HA.out];done)|(rw[HA.out];rfl)|(rw[HA.out];simp),by rw[HA.out];exact hI0,hbx0,hbW,by simp at hW0⊢;omega⟩
  case round=>
   obtain⟨k,yb,yo,yc,hk,rfl,rfl,hI,hbx,hb,hz⟩:=hrel;have hzb:=hb.size;by_cases hlt:k<e.ks.length
   ·obtain⟨rfl,hblt,_,hL⟩:=ha k hlt;obtain⟨x,g0,u0,hx,_,hxw,⟨c0,c1,c2,c3,c4,c5⟩,c6,hKx,hbr⟩:=hL.at hG0 hblt hb hlt;obtain⟨a0,n0,rfl,_,_⟩:=hKx.shape;have hxm:=mg8 hx;have hxn:wtE x≤1048576:=by have:=wtE_mem hxm;omega
    have hAk:=accC_len d e k;have hXl:=colsL_len d x;have HK:Hid (accC d e (k+1)=(colsL d x).foldl addL (accC d e k)):=accC_succ hx;clear hL hx HA hI0 hbW hW0;go_wp2_with fail;refine cM8 (ih x (.slice a0 x.ks.length n0) g0 wr hKx hxn) ?_;rintro q w1 ⟨⟨v1,rfl,hI1⟩,hb1⟩;have hz1:=hb1.size;have hbw1:Below w.heap.size w w1:=hb.trans (hb1.mono hzb);have hIy:=hI.below hb1;have hbx1:=((bc8 hb1).1 _ _ hz).trans hbx;have hz1w:w.heap.size<w1.heap.size:=by omega
    obtain⟨mb,mo,mc,rfl,hml,hmc,hmlt,hmcell⟩:=hI1;unfold maxLen at hmc;generalize accC d e k=ac at*;generalize colsL d x=xl at*;clear hI hbx hb1 hb c0 c1 c2 c3 c4 c5 c6 hKx;go_wp2;go_loopw [3,6] (fun y j wr'=> ∃ (m:Nat) (yb yo yc:Nat),m≤xl.length∧j=.int .i64 m∧y=.slice (some ⟨yb,yo,none⟩) ((xl.take m).foldl addL ac).length yc∧IntsI wr' (.slice (some ⟨yb,yo,none⟩) ((xl.take m).foldl addL ac).length yc) ((xl.take m).foldl addL ac)∧Below w1.heap.size w1 wr') (fun _ j _=>xl.length - (intOf j).toNat)
    case atStart=>exact⟨0,yb,yo,yc,Nat.zero_le _,rfl,by simp,by simpa using hIy,Below.refl _ _⟩
    case round=>
     obtain⟨m,yb,yo,yc,hm,rfl,rfl,hIm,hbm⟩:=hrel;have hzm:=hbm.size;by_cases hml2:m<xl.length
     ·obtain⟨z,hz0⟩:∃z,xl[m]?=some z:=⟨xl[m],by simp[hml2]⟩;have cz:=((bc8 hbm).1 _ _ hmlt).trans (hmcell m z hz0);have HF:Hid ((xl.take (m+1)).foldl addL ac=addL ((xl.take m).foldl addL ac) z):=by
       show _=_;rw[take_snocC hz0,List.foldl_append];rfl
      have hfl:=foldl_addL_len (xl.take m) ac;have hfl2:(xl.take m).length≤m:=by simp;omega
      generalize(xl.take m).foldl addL ac=af at*;clear hmcell hIy hz0;go_wp2_with fail;refine cM8 (l03Add_any (.slice (some ⟨yb,yo,none⟩) af.length yc) af z _ hIm (by omega)) ?_;rintro q w2 ⟨⟨v2,rfl,hI2⟩,hb2⟩;have hI2':=hI2;rw[←HF.out]at hI2';obtain⟨b2,o2,k2,e2,_⟩:=id hI2';subst e2;have hbm2:Below w1.heap.size w1 w2:=hbm.trans (hb2.mono hzm);clear hI2 hb2 hIm;go_wp2;exact⟨⟨m+1,b2,o2,k2,hml2,by simp,rfl,hI2',hbm2⟩,by simp[intOf];omega⟩
     ·obtain rfl:m=xl.length:=by omega
      rw[List.take_length]at hIm;have hbx2:=((bc8 hbm).1 _ _ hz1w).trans hbx1;have hbw2:Below w.heap.size w wr:=hbw1.trans (hbm.mono (by omega));have hz2w:w.heap.size<wr.heap.size:=by omega
      clear hmcell hIy hbm;simp only[List.take_length];go_wp2;exact⟨⟨k+1,yb,yo,yc,hlt,by simp,by rw[HK.out],by rw[HK.out];exact hIm,hbx2,hbw2,hz2w⟩,by simp[intOf];omega⟩
   ·obtain rfl:k=e.ks.length:=by omega
    have HC:Hid (IntsI wr (.slice (some ⟨yb,yo,none⟩) (accC d e e.ks.length).length yc) (colsL (d+1) e)):=by
     have:=hI;rw[show colsL (d+1) e=accC d e e.ks.length from(accC_all d e).symm];exact hI
    clear hI HA hI0 hbW hW0;go_wp2;refine bodyPost_ret (v:=.slice (some ⟨yb,yo,none⟩) (accC d e e.ks.length).length yc) (by simp[results,Tryz.results110,go_sem]) rfl ⟨⟨_,rfl,HC.out⟩,hb⟩
 ·have HA:Hid (accC d e 0=[]):=by show _=_;rw[accC_zero,if_neg hk0]
  have hkb:(e.k==0)=false:=by simpa using hk0
  have hkd:decide (e.k=0)=false:=by simpa using hk0
  clear hk0;have hI0:IntsI ((w.alloc (.cells #[.int .i64 e.k,.int .i64 e.n,.int .i64 e.v.k,.int .i64 e.v.n,.string e.v.s,.string e.p,.slice a e.ks.length c] 63)).alloc (.cells #[] 3)) (.slice (some ⟨w.heap.size+1,0,none⟩) 0 0) []:=⟨w.heap.size+1,0,0,rfl,Nat.le_refl _,by simp,by simp,fun i n h=>by simp at h⟩;have hbW:Below w.heap.size w ((w.alloc (.cells #[.int .i64 e.k,.int .i64 e.n,.int .i64 e.v.k,.int .i64 e.v.n,.string e.v.s,.string e.p,.slice a e.ks.length c] 63)).alloc (.cells #[] 3)):=bex;have hW0:w.heap.size+1+1≤((w.alloc (.cells #[.int .i64 e.k,.int .i64 e.n,.int .i64 e.v.k,.int .i64 e.v.n,.string e.v.s,.string e.p,.slice a e.ks.length c] 63)).alloc (.cells #[] 3)).heap.size:=by simp
  obtain⟨yb,hyb⟩:∃yb,yb=w.heap.size+1:=⟨_,rfl⟩;obtain⟨yo,hyo⟩:∃yo,yo=0:=⟨_,rfl⟩;obtain⟨yc,hyc⟩:∃yc,yc=0:=⟨_,rfl⟩;go_enter Tryz.func110,Tryz.ntmps110;go_wp2;go_loopw [3,4] (fun y i wr=> ∃ (k:Nat) (yb yo yc:Nat),k≤e.ks.length∧i=.int .i64 k∧y=.slice (some ⟨yb,yo,none⟩) (accC d e k).length yc∧IntsI wr (.slice (some ⟨yb,yo,none⟩) (accC d e k).length yc) (accC d e k)∧wr.cell? ⟨w.heap.size,6,none⟩=some (.slice a e.ks.length c)∧Below w.heap.size w wr∧w.heap.size<wr.heap.size) (fun _ i _=>e.ks.length - (intOf i).toNat)
  case atStart=>exact⟨0,w.heap.size+1,0,0,Nat.zero_le _,rfl,by rw[HA.out];rfl,by rw[HA.out];exact hI0,by go_simp,hbW,by simp;omega⟩
  case round=>
   obtain⟨k,yb,yo,yc,hk,rfl,rfl,hI,hbx,hb,hz⟩:=hrel;have hzb:=hb.size;by_cases hlt:k<e.ks.length
   ·obtain⟨rfl,hblt,_,hL⟩:=ha k hlt;obtain⟨x,g0,u0,hx,_,hxw,⟨c0,c1,c2,c3,c4,c5⟩,c6,hKx,hbr⟩:=hL.at hG0 hblt hb hlt;obtain⟨a0,n0,rfl,_,_⟩:=hKx.shape;have hxm:=mg8 hx;have hxn:wtE x≤1048576:=by have:=wtE_mem hxm;omega
    have hAk:=accC_len d e k;have hXl:=colsL_len d x;have HK:Hid (accC d e (k+1)=(colsL d x).foldl addL (accC d e k)):=accC_succ hx;clear hL hx HA hI0 hbW hW0 hyb hyo hyc;go_wp2_with fail;refine cM8 (ih x (.slice a0 x.ks.length n0) g0 wr hKx hxn) ?_;rintro q w1 ⟨⟨v1,rfl,hI1⟩,hb1⟩;have hz1:=hb1.size;have hbw1:Below w.heap.size w w1:=hb.trans (hb1.mono hzb);have hIy:=hI.below hb1;have hbx1:=((bc8 hb1).1 _ _ hz).trans hbx;have hz1w:w.heap.size<w1.heap.size:=by omega
    obtain⟨mb,mo,mc,rfl,hml,hmc,hmlt,hmcell⟩:=hI1;unfold maxLen at hmc;generalize accC d e k=ac at*;generalize colsL d x=xl at*;clear hI hbx hb1 hb c0 c1 c2 c3 c4 c5 c6 hKx;go_wp2;go_loopw [3,6] (fun y j wr'=> ∃ (m:Nat) (yb yo yc:Nat),m≤xl.length∧j=.int .i64 m∧y=.slice (some ⟨yb,yo,none⟩) ((xl.take m).foldl addL ac).length yc∧IntsI wr' (.slice (some ⟨yb,yo,none⟩) ((xl.take m).foldl addL ac).length yc) ((xl.take m).foldl addL ac)∧Below w1.heap.size w1 wr') (fun _ j _=>xl.length - (intOf j).toNat)
    case atStart=>exact⟨0,yb,yo,yc,Nat.zero_le _,rfl,by simp,by simpa using hIy,Below.refl _ _⟩
    case round=>
     obtain⟨m,yb,yo,yc,hm,rfl,rfl,hIm,hbm⟩:=hrel;have hzm:=hbm.size;by_cases hml2:m<xl.length
     ·obtain⟨z,hz0⟩:∃z,xl[m]?=some z:=⟨xl[m],by simp[hml2]⟩;have cz:=((bc8 hbm).1 _ _ hmlt).trans (hmcell m z hz0);have HF:Hid ((xl.take (m+1)).foldl addL ac=addL ((xl.take m).foldl addL ac) z):=by
       show _=_;rw[take_snocC hz0,List.foldl_append];rfl
      have hfl:=foldl_addL_len (xl.take m) ac;have hfl2:(xl.take m).length≤m:=by simp;omega
      generalize(xl.take m).foldl addL ac=af at*;clear hmcell hIy hz0;go_wp2_with fail;refine cM8 (l03Add_any (.slice (some ⟨yb,yo,none⟩) af.length yc) af z _ hIm (by omega)) ?_;rintro q w2 ⟨⟨v2,rfl,hI2⟩,hb2⟩;have hI2':=hI2;rw[←HF.out]at hI2';obtain⟨b2,o2,k2,e2,_⟩:=id hI2';subst e2;have hbm2:Below w1.heap.size w1 w2:=hbm.trans (hb2.mono hzm);clear hI2 hb2 hIm;go_wp2;exact⟨⟨m+1,b2,o2,k2,hml2,by simp,rfl,hI2',hbm2⟩,by simp[intOf];omega⟩
     ·obtain rfl:m=xl.length:=by omega
      rw[List.take_length]at hIm;have hbx2:=((bc8 hbm).1 _ _ hz1w).trans hbx1;have hbw2:Below w.heap.size w wr:=hbw1.trans (hbm.mono (by omega));have hz2w:w.heap.size<wr.heap.size:=by omega
      clear hmcell hIy hbm;simp only[List.take_length];go_wp2;exact⟨⟨k+1,yb,yo,yc,hlt,by simp,by rw[HK.out],by rw[HK.out];exact hIm,hbx2,hbw2,hz2w⟩,by simp[intOf];omega⟩
   ·obtain rfl:k=e.ks.length:=by omega
    have HC:Hid (IntsI wr (.slice (some ⟨yb,yo,none⟩) (accC d e e.ks.length).length yc) (colsL (d+1) e)):=by
     have:=hI;rw[show colsL (d+1) e=accC d e e.ks.length from(accC_all d e).symm];exact hI
    clear hI HA hI0 hbW hW0;go_wp2;refine bodyPost_ret (v:=.slice (some ⟨yb,yo,none⟩) (accC d e e.ks.length).length yc) (by simp[results,Tryz.results110,go_sem]) rfl ⟨⟨_,rfl,HC.out⟩,hb⟩
theorem specCols_any:∀d,ClS d
 |0=>fun e u F w h=>h.elim
 |d+1=>specCols_step (specCols_any d)
end
end
end Go.Proofs.YtjhhmnjpojnoiaaGreatDoor
