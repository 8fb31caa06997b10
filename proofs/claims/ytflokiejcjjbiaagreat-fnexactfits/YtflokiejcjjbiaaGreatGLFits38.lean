/- Own texts, joined: contracts that the law's proof goes by. -/
import Derived.Test.YtflokiejcjjbiaaGreatGLFits36
import Derived.Test.YtflokiejcjjbiaaGreatGLFits2
import Derived.Deep.DeepCutAuto
import Derived.Handy
import Derived.Deep.AppendLies
import Derived.Lib.SliceRun
set_option maxHeartbeats 16000000
set_option maxRecDepth 100000
set_option linter.unusedVariables false
set_option linter.unusedSimpArgs false
namespace Go.Proofs.YtflokiejcjjbiaaGreat
section
open Go.RowKit Go.Deep Go.ChangeShapes Go.WideShapes
theorem l01IntV_any (n:Int)(w:World):Calls Tryz.prog 98 #[.int .i64 n] w fun e w'=>e=.returned (.agg #[.int .i64 1,.int .i64 n,.string ⟨#[]⟩])∧Below w.heap.size w w':=by
 go_enter Tryz.func98,Tryz.ntmps98;go_wp2;go_returns;exact⟨rfl,bex⟩
theorem RowIs.take {w:World}{a:Option Addr}{c:Nat}{vs:List V3}(h:RowIs w (.slice a vs.length c) vs){n:Nat}(hn:n≤vs.length):RowIs w (.slice a n c) (vs.take n):=by
 obtain⟨a',c',e,hl,hc,h⟩:=h;injection e with e1 e2 e3;subst e1 e3;have hlen:(vs.take n).length=n:=by simp;omega
 refine⟨a,c,by rw[hlen],by omega,hc,fun hne=>?_⟩;obtain⟨b,o,hb,hlt,hL⟩:=h (by rintro rfl;simp at hne);refine⟨b,o,hb,hlt,fun i x hx=>hL i x ?_⟩;rw[List.getElem?_take]at hx;split at hx
 ·exact hx
 ·cases hx
theorem runC_snoc (key:List V3){cs:List C2}{k:Nat}{x:C2}(h:cs[k]?=some x):runC key (cs.take (k+1))=runC key (cs.take k)++(if cR8 (x.r.take key.length) key=0 then[x]else[]):=by
 unfold runC;rw[take_snoc h,List.filter_append];congr 1;by_cases h0:cR8 (x.r.take key.length) key=0
 ·simp[h0]
 ·simp[h0]
theorem numC_app (a b:List C2):numC (a++b)=numC a+numC b:=by unfold numC;rw[List.map_append,List.sum_append]
theorem sumS_app (V:E7→List V3→V3)(e:E7)(a:List C2)(x:C2):sumS V e (a++ [x])=addS V e (sumS V e a) x:=by unfold sumS;rw[List.foldl_append];rfl
def StS (s:Option Int)(b:Bool)(sm:Int):Prop:=(s=none∧b=false∧sm=0)∨(s=some sm∧b=true)
theorem run_bd {W:Int}{cs:List C2}(hM:Mean W cs)(key:List V3)(k:Nat):0≤numC (runC key (cs.take k))∧numC (runC key (cs.take k))≤400000000000:=by
 have h1:=num_bound (cs:=runC key (cs.take k)) fun c hc=>hM.all.2.2.2 c (List.mem_of_mem_take (List.mem_filter.1 hc).1);have h2:(runC key (cs.take k)).length≤(cs.take k).length:=List.length_filter_le _ _;have h3:=hM.all.2.2.1;have h4:(cs.take k).length≤400:=by simp;omega
 omega
theorem l04Total_nil {m:Int}{V:E7→List V3→V3}(hV:VOk m V)(W B0:Int)(v kv ev:Value)(cs:List C2)(F g0:List Nat)(key:List V3)(w:World)(hr:RowsF w v cs F)(hM:Mean W cs)(hn:wtb cs≤1048576)(hk:RowF w kv key g0)(hkW:(key.length:Int)≤W)(hev:∃a c,ev=.slice a 0 c):Calls Tryz.prog 76 #[.agg #[.int .i64 B0,v],kv,ev] w fun q w'=>(∃u g,q=.returned u∧RowF w' u (tR8 V [] key (runC key cs)) g∧OwnB w' w.heap.size g)∧Below w.heap.size w w':=by
 obtain⟨av,cv,rfl⟩:=hev;obtain⟨i0,hi,hz0,hz1,hz2'⟩:=info_parts Tryz.infoVal;obtain⟨a,c,b,o,G0,rfl,hl,hc,_,hG0,_,hC,ha⟩:=hr.pick;unfold maxLen at hc;have hal:=hM.all;obtain⟨ak,ck,rfl⟩:=hk.shape;have hkl:key.length≤12:=by omega
 clear hr;obtain⟨rr,HRR⟩:∃rr,Hid (tR8 V [] key (runC key cs)=rr):=⟨_,rfl⟩;rw[HRR.out];go_enter Tryz.func76,Tryz.ntmps76;go_wp2_with fail;go_loopw [7,8,9,10] (fun n s so i wr=> ∃ (k:Nat) (N sm:Int) (bo:Bool),k≤cs.length∧i=.int .i64 k∧n=.int .i64 N∧s=.int .i64 sm∧so=.bool bo∧N=numC (runC key (cs.take k))∧(bo=false∧sm=0)∧Below w.heap.size w wr∧w.heap.size<wr.heap.size∧wr.cell? ⟨w.heap.size,1,none⟩=some (.slice a cs.length c)) (fun _ _ _ i _=>cs.length - (intOf i).toNat)
 case atStart=>exact⟨0,0,0,false,Nat.zero_le _,rfl,rfl,rfl,rfl,rfl,⟨rfl,rfl⟩,bex,by simp,by go_simp⟩
 case round=>
  obtain⟨k,N,sm,bo,hkk,rfl,rfl,rfl,rfl,hN,hS,hb,hsz,b1⟩:=hrel;have HN:Hid (N=numC (runC key (cs.take k))):=hN;have HS:Hid (bo=false∧sm=0):=hS;have hNb:0≤N∧N≤400000000000:=by rw[hN];exact run_bd hM key k
  clear hN hS;have hzw:=hb.size;by_cases hlt:k<cs.length
  ·obtain⟨rfl,hblt,_⟩:=ha k hlt;obtain⟨x,u0,gx,hx,_,c0,hR,c1,hbr⟩:=hC.at hG0 hblt hb hlt;obtain⟨a0,n0,rfl⟩:=hR.shape;have hxm:=mg8 hx;have hxc:=hal.2.2.2 x hxm;have hxr:=hM.row x hxm;have hkI:(k:Int)<cs.length:=by omega
   have hkx:key.length≤x.r.length:=by omega
   have hRi:=hR.is;have hn0:x.r.length≤n0∧n0≤9223372036854775807:=by obtain⟨a',c',ee,h1,h2,_⟩:=id hRi;injection ee with _ _ e3;subst e3;unfold maxLen at h2;exact⟨h1,by omega⟩
   have hRt:=hRi.take hkx;have HX:Hid (runC key (cs.take (k+1))=runC key (cs.take k)++(if cR8 (x.r.take key.length) key=0 then[x]else[])):=runC_snoc key hx;have hKr:=hk.below hb;have hCmp:=specRow_any (.slice a0 key.length n0) (.slice ak key.length ck) (x.r.take key.length) key wr hRt hKr.is;have hkn:(key.length:Int)≤n0:=by omega
   obtain⟨cp,HCP⟩:∃q,Hid (cR8 (x.r.take key.length) key=q):=⟨_,rfl⟩;rw[HCP.out]at hCmp;have hwN:IntKind.i64.wrap (N+x.n)=N+x.n:=by rw[IntKind.wrap_i64];omega
   clear ha hC hx;go_wp2_with fail;refine cM8 hCmp ?_;rintro z w3 ⟨rfl,hb3⟩;have hz3:=hb3.size;have bel3:Below w.heap.size w w3:=hb.trans (hb3.mono hzw);have b13:=((bc8 hb3).1 _ _ hsz).trans b1;have c03:=((bc8 hb3).1 _ _ hbr).trans c0;have c13:=((bc8 hb3).1 _ _ hbr).trans c1;have hsz3:w.heap.size<w3.heap.size:=by omega
   have hbr3:b<w3.heap.size:=by omega
   have hR3:=hR.below hb3;clear hCmp b1 c0 c1 hb3 hR hRi hRt hKr hb hsz hbr;by_cases hcp:cp=0
   ·subst hcp;have HX2:Hid (runC key (cs.take (k+1))=runC key (cs.take k)++ [x]):=by show _=_;rw[HX.out,if_pos HCP.out]
    have HN2:Hid (N+x.n=numC (runC key (cs.take (k+1)))):=by show _=_;rw[HX2.out,numC_app,HN.out];simp[numC]
    clear HX;go_wp2_with fail;exact⟨⟨k+1,N+x.n,sm,bo,hlt,by simp,rfl,rfl,rfl,HN2.out,HS.out,bel3,hsz3,b13⟩,by simp[intOf];omega⟩
   ·have hcpb:(cp !=0)=true:=by simpa using hcp
    have HX2:Hid (runC key (cs.take (k+1))=runC key (cs.take k)):=by show _=_;rw[HX.out,if_neg (by rw[HCP.out];exact hcp),List.append_nil]
    clear hcp HX;go_wp2_with fail;exact⟨⟨k+1,N,sm,bo,hlt,by simp,rfl,rfl,rfl,by rw[HX2.out];exact HN.out,HS.out,bel3,hsz3,b13⟩,by simp[intOf];omega⟩
  ·obtain rfl:k=cs.length:=by omega
   have HNE:Hid (N=numC (runC key cs)):=by have:=HN.out;rw[List.take_length]at this;exact this
   have HSE:Hid (bo=false∧sm=0):=by have:=HS.out;exact this
   clear ha hC HN HS;have hkw:=hk.below hb;have hcl:∀ (w2:World) (q1 q2:Int) (q3:ByteArray),∀j u,([.int .i64 q1,.int .i64 q2,.string q3]:List Value)[j]?=some u→(w2.alloc (.cells #[.int .i64 q1,.int .i64 q2,.string q3] 36)).cell? ((⟨w2.heap.size,0,none⟩:Addr).add j)=some u:=fun w2 q1 q2 q3=>World.news_of_block (cs:=#[.int .i64 q1,.int .i64 q2,.string q3]) (t:=36) (fr:=(0,0)) (heap_alloc_new w2 _);go_wp2_with fail;refine cM8 (l02CopyRowO_any (.slice ak key.length ck) key g0 _ hkw (by omega)) ?_;rintro z w4 ⟨⟨u4,rfl,hown4⟩,hb4⟩;have hz4:=hb4.size;have bel4:Below w.heap.size w w4:=hb.trans (hb4.mono hzw);have hol4:=oL8 hown4;obtain⟨a4,c4,e4'⟩:∃a4 c4,u4=.slice a4 key.length c4:=by
    rcases hown4.2 with⟨rfl,h0⟩|⟨g,cap,cur,hv,_⟩
    ·exact⟨none,0,by rw[h0]⟩
    ·exact⟨_,cap,hv⟩
   subst e4';go_wp2_with fail;refine cM8 (l01IntV_any N _) ?_;rintro z w5 ⟨rfl,hb5⟩;have hz5:=hb5.size;have bel5:Below w.heap.size w w5:=bel4.trans (hb5.mono bel4.size);have hown5:w5.ownsRow w.heap.size 36 3 (.slice a4 key.length c4) key.length (rc key):=by
    obtain⟨h0,h1|⟨g,cap,cur,h1,h2,h3⟩⟩:=oK8 hown4 fun t ht=>hb5.block t (hol4 t ht).2
    ·exact⟨h0,.inl h1⟩
    ·exact⟨h0,.inr ⟨g,cap,cur,h1,by omega,h3⟩⟩
   clear hown4 hb4 hb5 hkw;go_wp2_with(at_builtin;refine wpList_append_own _ rfl _ _ 94 rfl w.heap.size 36 i0 _ 3 32 Tryz.underlying94 hi hz0 hz1 hz2' rfl (by decide) _ _ _ rfl (hown5.alloc _) ⟨w5.heap.size,0,none⟩ 1 1 [.int .i64 1,.int .i64 N,.string ⟨#[]⟩] rfl rfl (hcl _ _ _ _) (by simp[Value.oneCell']) ?c36 ?c46 ?c56 ?_)
   case c36=>unfold maxLen;omega
   case c46=>omega
   case c56=>simp;omega
   intro v6 w6 hown6 hgr6 _;have hgz6:=hgr6.size;simp at hgz6;have bel6:Below w.heap.size w w6:=(bel5.alloc bel5.size _).grown hgr6 (by simp;omega) (fun t ht=>by have:=(oL8 hown5 t ht).1;omega);have HR6:Hid (rc key++ [.int .i64 1,.int .i64 N,.string ⟨#[]⟩]=rc (key++ [⟨1,N,⟨#[]⟩⟩])):=(rc_snoc key ⟨1,N,⟨#[]⟩⟩).symm;rw[HR6.out]at hown6;obtain⟨g6,hg6⟩:=own_rowF (vs:=key++ [⟨1,N,⟨#[]⟩⟩]) (by simpa using hown6);have HT:Hid (tR8 V [] key (runC key cs)=key++ [⟨1,N,⟨#[]⟩⟩]):=by show _=_;unfold tR8;rw[←HNE.out];rfl
   clear hown6 hgr6 hown5 HR6 HNE HSE hcl;go_wp2;go_returns;exact⟨⟨_,g6,rfl,(by rw[←HRR.out,HT.out];exact hg6.1),hg6.2⟩,bel6⟩
theorem l04Total_one {m:Int}{V:E7→List V3→V3}(hV:VOk m V)(W B0:Int)(v kv ev:Value)(cs:List C2)(F g0:List Nat)(key:List V3)(e:E7)(Fs:List Nat)(D:Nat)(w:World)(hr:RowsF w v cs F)(hM:Mean W cs)(hn:wtb cs≤1048576)(hk:RowF w kv key g0)(hkW:(key.length:Int)≤W)(he:okE 13 e=true)(hne:wtE e≤1048576)(hk0:KidsIs w (D+1) ev [e] Fs):Calls Tryz.prog 76 #[.agg #[.int .i64 B0,v],kv,ev] w fun q w'=>(∃u g,q=.returned u∧RowF w' u (tR8 V [e] key (runC key cs)) g∧OwnB w' w.heap.size g)∧Below w.heap.size w w':=by
 obtain⟨ae,ce,be,oe,Ge,rfl,hle,hce,hGe,_,hae⟩:=hk0.pick;obtain⟨rfl,hblte,_,hLe⟩:=hae 0 (by simp);obtain⟨e',ge,ue,hxe,hge,hew,⟨e0,e1,e2,e3,e4,e5⟩,e6,hKe,hbre⟩:=hLe.at (k:=0) hGe hblte (Below.refl _ _) (by simp);obtain rfl:e=e':=by simpa using hxe
 obtain⟨au,cu,rfl,_,_⟩:=hKe.shape;simp only[Nat.zero_mul,Nat.add_zero]at e0 e1 e2 e3 e4 e5 e6;unfold maxLen at hce;simp only[List.length_singleton]at hle;clear hae hLe hge hxe hGe;obtain⟨i0,hi,hz0,hz1,hz2'⟩:=info_parts Tryz.infoVal;obtain⟨a,c,b,o,G0,rfl,hl,hc,_,hG0,_,hC,ha⟩:=hr.pick;unfold maxLen at hc;have hal:=hM.all;obtain⟨ak,ck,rfl⟩:=hk.shape;have hkl:key.length≤12:=by omega
 clear hr;obtain⟨rr,HRR⟩:∃rr,Hid (tR8 V [e] key (runC key cs)=rr):=⟨_,rfl⟩;rw[HRR.out];go_enter Tryz.func76,Tryz.ntmps76;go_wp2_with fail;go_loopw [7,8,9,10] (fun n s so i wr=> ∃ (k:Nat) (N sm:Int) (bo:Bool),k≤cs.length∧i=.int .i64 k∧n=.int .i64 N∧s=.int .i64 sm∧so=.bool bo∧N=numC (runC key (cs.take k))∧StS (sumS V e (runC key (cs.take k))) bo sm∧Below w.heap.size w wr∧w.heap.size<wr.heap.size∧wr.cell? ⟨w.heap.size,1,none⟩=some (.slice a cs.length c)) (fun _ _ _ i _=>cs.length - (intOf i).toNat)
 case atStart=>exact⟨0,0,0,false,Nat.zero_le _,rfl,rfl,rfl,rfl,rfl,.inl ⟨rfl,rfl,rfl⟩,bex,by simp,by go_simp⟩
 case round=>
  obtain⟨k,N,sm,bo,hkk,rfl,rfl,rfl,rfl,hN,hS,hb,hsz,b1⟩:=hrel;have HN:Hid (N=numC (runC key (cs.take k))):=hN;have HS:Hid (StS (sumS V e (runC key (cs.take k))) bo sm):=hS;have hNb:0≤N∧N≤400000000000:=by rw[hN];exact run_bd hM key k
  clear hN hS;have hzw:=hb.size;by_cases hlt:k<cs.length
  ·obtain⟨rfl,hblt,_⟩:=ha k hlt;obtain⟨x,u0,gx,hx,_,c0,hR,c1,hbr⟩:=hC.at hG0 hblt hb hlt;obtain⟨a0,n0,rfl⟩:=hR.shape;have hxm:=mg8 hx;have hxc:=hal.2.2.2 x hxm;have hxr:=hM.row x hxm;have hkI:(k:Int)<cs.length:=by omega
   have hkx:key.length≤x.r.length:=by omega
   have hRi:=hR.is;have hn0:x.r.length≤n0∧n0≤9223372036854775807:=by obtain⟨a',c',ee,h1,h2,_⟩:=id hRi;injection ee with _ _ e3;subst e3;unfold maxLen at h2;exact⟨h1,by omega⟩
   have hRt:=hRi.take hkx;have HX:Hid (runC key (cs.take (k+1))=runC key (cs.take k)++(if cR8 (x.r.take key.length) key=0 then[x]else[])):=runC_snoc key hx;have hKr:=hk.below hb;have hCmp:=specRow_any (.slice a0 key.length n0) (.slice ak key.length ck) (x.r.take key.length) key wr hRt hKr.is;have hkn:(key.length:Int)≤n0:=by omega
   obtain⟨cp,HCP⟩:∃q,Hid (cR8 (x.r.take key.length) key=q):=⟨_,rfl⟩;rw[HCP.out]at hCmp;have hwN:IntKind.i64.wrap (N+x.n)=N+x.n:=by rw[IntKind.wrap_i64];omega
   clear ha hC hx;go_wp2_with fail;refine cM8 hCmp ?_;rintro z w3 ⟨rfl,hb3⟩;have hz3:=hb3.size;have bel3:Below w.heap.size w w3:=hb.trans (hb3.mono hzw);have b13:=((bc8 hb3).1 _ _ hsz).trans b1;have c03:=((bc8 hb3).1 _ _ hbr).trans c0;have c13:=((bc8 hb3).1 _ _ hbr).trans c1;have hsz3:w.heap.size<w3.heap.size:=by omega
   have hbr3:b<w3.heap.size:=by omega
   have hR3:=hR.below hb3;clear hCmp b1 c0 c1 hb3 hR hRi hRt hKr hb hsz hbr;by_cases hcp:cp=0
   ·subst hcp;have HX2:Hid (runC key (cs.take (k+1))=runC key (cs.take k)++ [x]):=by show _=_;rw[HX.out,if_pos HCP.out]
    have HN2:Hid (N+x.n=numC (runC key (cs.take (k+1)))):=by show _=_;rw[HX2.out,numC_app,HN.out];simp[numC]
    have hV0:=hV.res e x.r ⟨hew,he,hne,w,D,_,ge,hKe⟩ hxr.2;obtain⟨vx,HVX⟩:∃q,Hid (V e x.r=q):=⟨_,rfl⟩;rw[HVX.out]at hV0;have hEv:=fun(w2:World) (hb4:Below w3.heap.size w3 w2)=>specEval_yes (w:=w2) hew (hKe.below (bel3.trans (hb4.mono bel3.size))) ((hR3.below hb4).is) he hV0;have HAD:Hid (sumS V e (runC key (cs.take (k+1)))=addS V e (sumS V e (runC key (cs.take k))) x):=by show _=_;rw[HX2.out,sumS_app]
    have f0:=((bc8 bel3).1 _ _ hblte).trans e0;have f1:=((bc8 bel3).1 _ _ hblte).trans e1;have f2:=((bc8 bel3).1 _ _ hblte).trans e2;have f3:=((bc8 bel3).1 _ _ hblte).trans e3;have f4:=((bc8 bel3).1 _ _ hblte).trans e4;have f5:=((bc8 bel3).1 _ _ hblte).trans e5;have f6:=((bc8 bel3).1 _ _ hblte).trans e6;have hzw3:=bel3.size;clear HX hV0;go_wp2_with fail
    go_cut [11] (fun p wz=> ∃q,p=.pointer (some ⟨q,0,none⟩)∧q<wz.heap.size∧wz.cell? ⟨q,0,none⟩=some (.int .i64 vx.k)∧wz.cell? ⟨q,1,none⟩=some (.int .i64 vx.n)∧Below w3.heap.size w3 wz)
    case first=>
     refine wp_region_held_drew (S:=(fun w'=>w'.cell? ⟨be,oe,none⟩=some (.int .i64 e.k)∧w'.cell? ⟨be,oe+1,none⟩=some (.int .i64 e.n)∧w'.cell? ⟨be,oe+2,none⟩=some (.int .i64 e.v.k)∧w'.cell? ⟨be,oe+3,none⟩=some (.int .i64 e.v.n)∧w'.cell? ⟨be,oe+4,none⟩=some (.string e.v.s)∧w'.cell? ⟨be,oe+5,none⟩=some (.string e.p)∧w'.cell? ⟨be,oe+6,none⟩=some (.slice au e.ks.length cu)∧w'.cell? ⟨w.heap.size,1,none⟩=some (.slice (some ⟨b,o,none⟩) cs.length c)∧w'.cell? ⟨b,o+k*2,none⟩=some (.slice a0 x.r.length n0))) (by kernel_rfl) ?_ (fun hHeld=>?_)
     ·(try dsimp only);exact⟨f0,f1,f2,f3,f4,f5,f6,b13,c03⟩
     refine tkY 0 43 rfl rfl ?_;refine tkY 1 44 rfl rfl ?_;refine tkY 2 45 rfl rfl ?_;refine tkY 3 46 rfl rfl ?_;refine tkY 4 47 rfl rfl ?_;refine tkY 5 48 rfl rfl ?_;refine tkY 6 49 rfl rfl ?_;refine tkY 7 50 rfl rfl ?_;refine tkY 8 51 rfl rfl ?_;refine wpAnyH_ready (rs:=[9,10]) (by kernel_rfl) (by simp) ?_;refine AllReadyH.cons rfl (fun KK hKK=>?_) (AllReadyH.cons rfl (fun KK hKK=>?_) AllReadyH.nil)
     ·go_simp;go_at_call 74;refine cM8 (hEv _ bex) ?_;rintro z w5 ⟨rfl,hb5⟩;have hz5:=hb5.size;(try simp at hz5);have belV:Below w3.heap.size w3 w5:=bex;have f0v:=((bc8 belV).1 be (oe) (by omega)).trans f0;have f1v:=((bc8 belV).1 be (oe+1) (by omega)).trans f1;have f2v:=((bc8 belV).1 be (oe+2) (by omega)).trans f2;have f3v:=((bc8 belV).1 be (oe+3) (by omega)).trans f3;have f4v:=((bc8 belV).1 be (oe+4) (by omega)).trans f4;have f5v:=((bc8 belV).1 be (oe+5) (by omega)).trans f5;have f6v:=((bc8 belV).1 be (oe+6) (by omega)).trans f6;have b13v:=((bc8 belV).1 w.heap.size (1) (by omega)).trans b13;have c03v:=((bc8 belV).1 b (o+k*2) (by omega)).trans c03;try go_wp2_with fail
      refine hKK.out _ _ ?_ (fun hHeld9=>?_)
      ·(try dsimp only);exact⟨f0v,f1v,f2v,f3v,f4v,f5v,f6v,b13v,c03v⟩
      clear hKK;refine wpAnyH_ready (rs:=[10]) (by kernel_rfl) (by simp) ?_;refine AllReadyH.cons rfl (fun KK hKK=>?_) AllReadyH.nil;go_simp;refine hKK.out _ _ ?_ (fun hHeld10=>?_)
      ·(try dsimp only);exact⟨(cb8 (bA8 w5 _ _ (by omega))).trans f0v,(cb8 (bA8 w5 _ _ (by omega))).trans f1v,(cb8 (bA8 w5 _ _ (by omega))).trans f2v,(cb8 (bA8 w5 _ _ (by omega))).trans f3v,(cb8 (bA8 w5 _ _ (by omega))).trans f4v,(cb8 (bA8 w5 _ _ (by omega))).trans f5v,(cb8 (bA8 w5 _ _ (by omega))).trans f6v,(cb8 (bA8 w5 _ _ (by omega))).trans b13v,(cb8 (bA8 w5 _ _ (by omega))).trans c03v⟩
      clear hKK;refine wpAnyH_ready (rs:=[11]) (by kernel_rfl) (by simp) ?_;refine AllReadyH.cons rfl (fun KK hKK=>?_) AllReadyH.nil;go_simp;refine hKK.out _ _ ?_ (fun hHeld11=>?_)
      ·(try dsimp only);exact⟨(cb8 (bA8 w5 _ _ (by omega))).trans f0v,(cb8 (bA8 w5 _ _ (by omega))).trans f1v,(cb8 (bA8 w5 _ _ (by omega))).trans f2v,(cb8 (bA8 w5 _ _ (by omega))).trans f3v,(cb8 (bA8 w5 _ _ (by omega))).trans f4v,(cb8 (bA8 w5 _ _ (by omega))).trans f5v,(cb8 (bA8 w5 _ _ (by omega))).trans f6v,(cb8 (bA8 w5 _ _ (by omega))).trans b13v,(cb8 (bA8 w5 _ _ (by omega))).trans c03v⟩
      clear hKK;refine wpAnyH_done (by kernel_rfl) ?_ _;try go_wp2_with fail
      try go_meet
      exact⟨_,rfl,by simp,by go_simp,by go_simp,belV.alloc belV.size _⟩
     ·go_simp;refine hKK.out _ _ ?_ (fun hHeld10=>?_)
      ·(try dsimp only);exact⟨(cb8 (bA8 w3 _ _ (by omega))).trans f0,(cb8 (bA8 w3 _ _ (by omega))).trans f1,(cb8 (bA8 w3 _ _ (by omega))).trans f2,(cb8 (bA8 w3 _ _ (by omega))).trans f3,(cb8 (bA8 w3 _ _ (by omega))).trans f4,(cb8 (bA8 w3 _ _ (by omega))).trans f5,(cb8 (bA8 w3 _ _ (by omega))).trans f6,(cb8 (bA8 w3 _ _ (by omega))).trans b13,(cb8 (bA8 w3 _ _ (by omega))).trans c03⟩
      clear hKK;refine wpAnyH_ready (rs:=[9]) (by kernel_rfl) (by simp) ?_;refine AllReadyH.cons rfl (fun KK hKK=>?_) AllReadyH.nil;go_simp;go_at_call 74;refine cM8 (hEv _ bex) ?_;rintro z w5 ⟨rfl,hb5⟩;have hz5:=hb5.size;(try simp at hz5);have belV:Below w3.heap.size w3 w5:=bex;have f0v:=((bc8 belV).1 be (oe) (by omega)).trans f0;have f1v:=((bc8 belV).1 be (oe+1) (by omega)).trans f1;have f2v:=((bc8 belV).1 be (oe+2) (by omega)).trans f2;have f3v:=((bc8 belV).1 be (oe+3) (by omega)).trans f3;have f4v:=((bc8 belV).1 be (oe+4) (by omega)).trans f4;have f5v:=((bc8 belV).1 be (oe+5) (by omega)).trans f5;have f6v:=((bc8 belV).1 be (oe+6) (by omega)).trans f6;have b13v:=((bc8 belV).1 w.heap.size (1) (by omega)).trans b13;have c03v:=((bc8 belV).1 b (o+k*2) (by omega)).trans c03;have v0:w5.cell? ⟨w3.heap.size,0,none⟩=some (.int .i64 0):=cL8 hb5 (by go_simp);have v1:w5.cell? ⟨w3.heap.size,1,none⟩=some (.int .i64 0):=cL8 hb5 (by go_simp);have v2:w5.cell? ⟨w3.heap.size,2,none⟩=some (.string ⟨#[]⟩):=cL8 hb5 (by go_simp);have vf:∀q,w5.frozen? ⟨w3.heap.size,q,none⟩=false:=fun q=>((bc8 hb5).2 _ q (by simp)).trans (by go_simp);try go_wp2_with fail
      refine hKK.out _ _ ?_ (fun hHeld9=>?_)
      ·(try dsimp only);exact⟨f0v,f1v,f2v,f3v,f4v,f5v,f6v,b13v,c03v⟩
      clear hKK;refine wpAnyH_ready (rs:=[11]) (by kernel_rfl) (by simp) ?_;refine AllReadyH.cons rfl (fun KK hKK=>?_) AllReadyH.nil;go_simp;refine hKK.out _ _ ?_ (fun hHeld11=>?_)
      ·refine⟨?_,?_,?_,?_,?_,?_,?_,?_,?_⟩<;>(go_simp;done)
      clear hKK;refine wpAnyH_done (by kernel_rfl) ?_ _;try go_wp2_with fail
      try go_meet
      exact⟨_,rfl,by simp;omega,by go_simp,by go_simp,((belV.setCell (by simp) _).setCell (by simp) _).setCell (by simp) _⟩
    case rest=>
     obtain⟨q,rfl,hql,g0',g1',hbc⟩:=hcut;have bel4:Below w.heap.size w wc:=bel3.trans (hbc.mono hzw3);have b14:=((bc8 hbc).1 _ _ hsz3).trans b13;have c14:=((bc8 hbc).1 _ _ hbr3).trans c13;have hsz4:w.heap.size<wc.heap.size:=by have:=hbc.size;omega
     clear hbc f0 f1 f2 f3 f4 f5 f6 b13 c13 c03 bel3 hEv hR3;by_cases hv1:vx.k=1
     ·have hv1b:(vx.k==1)=true:=by simpa using hv1
      have HS2:Hid (StS (sumS V e (runC key (cs.take (k+1)))) true (IntKind.i64.wrap (sm+IntKind.i64.wrap (vx.n*x.n)))):=by
       have hw:∀z:Int,IntKind.i64.wrap z=wrap64 z:=fun z=>by rw[IntKind.wrap_i64,wrap64]
       rw[hw,hw];refine .inr ⟨?_,rfl⟩;rw[HAD.out];unfold addS;rw[HVX.out,if_pos hv1];rcases HS.out with⟨q1,q2,q3⟩|⟨q1,q2⟩
       ·rw[q1,q3];rfl
       ·rw[q1];rfl
      clear hv1 HAD HVX;go_wp2_with fail;go_region_held3 (fun w'=>w'.cell? ⟨q,1,none⟩=some (.int .i64 vx.n)∧w'.cell? ⟨w.heap.size,1,none⟩=some (.slice (some ⟨b,o,none⟩) cs.length c)∧w'.cell? ⟨b,o+k*2+1,none⟩=some (.int .i64 x.n)) (refine⟨?_,?_,?_⟩<;>first|(with_reducible assumption)|(go_simp;done)) (fail);go_wp2_with fail;exact⟨⟨k+1,N+x.n,_,true,hlt,by simp,rfl,rfl,rfl,HN2.out,HS2.out,(by first|exact bel4|exact bex),(by first|exact hsz4|(simp;omega)),(by first|exact b14|go_simp)⟩,by simp[intOf];omega⟩
     ·have hv1b:(vx.k==1)=false:=by simpa using hv1
      have HS2:Hid (StS (sumS V e (runC key (cs.take (k+1)))) bo sm):=by
       show StS _ _ _;rw[HAD.out];unfold addS;rw[HVX.out,if_neg hv1];exact HS.out
      clear hv1 HAD HVX;go_wp2_with fail;exact⟨⟨k+1,N+x.n,sm,bo,hlt,by simp,rfl,rfl,rfl,HN2.out,HS2.out,bel4,hsz4,b14⟩,by simp[intOf];omega⟩
   ·have hcpb:(cp !=0)=true:=by simpa using hcp
    have HX2:Hid (runC key (cs.take (k+1))=runC key (cs.take k)):=by show _=_;rw[HX.out,if_neg (by rw[HCP.out];exact hcp),List.append_nil]
    clear hcp HX;go_wp2_with fail;exact⟨⟨k+1,N,sm,bo,hlt,by simp,rfl,rfl,rfl,by rw[HX2.out];exact HN.out,by rw[HX2.out];exact HS.out,bel3,hsz3,b13⟩,by simp[intOf];omega⟩
  ·obtain rfl:k=cs.length:=by omega
   have HNE:Hid (N=numC (runC key cs)):=by have:=HN.out;rw[List.take_length]at this;exact this
   have HSE:Hid (StS (sumS V e (runC key cs)) bo sm):=by have:=HS.out;rw[List.take_length]at this;exact this
   clear ha hC HN HS;have hkw:=hk.below hb;have hcl:∀ (w2:World) (q1 q2:Int) (q3:ByteArray),∀j u,([.int .i64 q1,.int .i64 q2,.string q3]:List Value)[j]?=some u→(w2.alloc (.cells #[.int .i64 q1,.int .i64 q2,.string q3] 36)).cell? ((⟨w2.heap.size,0,none⟩:Addr).add j)=some u:=fun w2 q1 q2 q3=>World.news_of_block (cs:=#[.int .i64 q1,.int .i64 q2,.string q3]) (t:=36) (fr:=(0,0)) (heap_alloc_new w2 _);go_wp2_with fail;refine cM8 (l02CopyRowO_any (.slice ak key.length ck) key g0 _ hkw (by omega)) ?_;rintro z w4 ⟨⟨u4,rfl,hown4⟩,hb4⟩;have hz4:=hb4.size;have bel4:Below w.heap.size w w4:=hb.trans (hb4.mono hzw);have hol4:=oL8 hown4;obtain⟨a4,c4,e4'⟩:∃a4 c4,u4=.slice a4 key.length c4:=by
    rcases hown4.2 with⟨rfl,h0⟩|⟨g,cap,cur,hv,_⟩
    ·exact⟨none,0,by rw[h0]⟩
    ·exact⟨_,cap,hv⟩
   subst e4';go_wp2_with fail;refine cM8 (l01IntV_any N _) ?_;rintro z w5 ⟨rfl,hb5⟩;have hz5:=hb5.size;have bel5:Below w.heap.size w w5:=bel4.trans (hb5.mono bel4.size);have hown5:w5.ownsRow w.heap.size 36 3 (.slice a4 key.length c4) key.length (rc key):=by
    obtain⟨h0,h1|⟨g,cap,cur,h1,h2,h3⟩⟩:=oK8 hown4 fun t ht=>hb5.block t (hol4 t ht).2
    ·exact⟨h0,.inl h1⟩
    ·exact⟨h0,.inr ⟨g,cap,cur,h1,by omega,h3⟩⟩
   clear hown4 hb4 hb5 hkw;go_wp2_with(at_builtin;refine wpList_append_own _ rfl _ _ 94 rfl w.heap.size 36 i0 _ 3 32 Tryz.underlying94 hi hz0 hz1 hz2' rfl (by decide) _ _ _ rfl (hown5.alloc _) ⟨w5.heap.size,0,none⟩ 1 1 [.int .i64 1,.int .i64 N,.string ⟨#[]⟩] rfl rfl (hcl _ _ _ _) (by simp[Value.oneCell']) ?c36 ?c46 ?c56 ?_)
   case c36=>unfold maxLen;omega
   case c46=>omega
   case c56=>simp;omega
   intro v6 w6 hown6 hgr6 _;have hgz6:=hgr6.size;simp at hgz6;have bel6:Below w.heap.size w w6:=(bel5.alloc bel5.size _).grown hgr6 (by simp;omega) (fun t ht=>by have:=(oL8 hown5 t ht).1;omega);have HR6:Hid (rc key++ [.int .i64 1,.int .i64 N,.string ⟨#[]⟩]=rc (key++ [⟨1,N,⟨#[]⟩⟩])):=(rc_snoc key ⟨1,N,⟨#[]⟩⟩).symm;rw[HR6.out]at hown6;obtain⟨a6,c6,e6'⟩:∃a6 c6,v6=.slice a6 (key.length+1) c6:=by
    rcases hown6.2 with⟨rfl,h0⟩|⟨g,cap,cur,hv,_⟩
    ·exact absurd h0 (by omega)
    ·exact⟨_,cap,hv⟩
   subst e6';have hz6:=bel6.size;have hol6:=oL8 hown6;have HT:Hid (tR8 V [e] key (runC key cs)=(key++ [⟨1,N,⟨#[]⟩⟩])++ [sumV (sumS V e (runC key cs))]):=by show _=_;unfold tR8;rw[←HNE.out];simp
   clear hgr6 hown5 HR6 HNE;cases bo with
   |false=>
    have HT2:Hid (tR8 V [e] key (runC key cs)=(key++ [⟨1,N,⟨#[]⟩⟩])++ [⟨0,0,⟨#[]⟩⟩]):=by
     show _=_;rw[HT.out];rcases HSE.out with⟨q1,_,_⟩|⟨_,q2⟩
     ·rw[q1];rfl
     ·cases q2
    clear HT HSE;go_wp2_with(at_builtin;refine wpList_append_own _ rfl _ _ 94 rfl w.heap.size 36 i0 _ 3 32 Tryz.underlying94 hi hz0 hz1 hz2' rfl (by decide) _ _ _ rfl (hown6.alloc _) ⟨w6.heap.size,0,none⟩ 1 1 [.int .i64 0,.int .i64 0,.string ⟨#[]⟩] rfl rfl (hcl _ _ _ _) (by simp[Value.oneCell']) ?c37 ?c47 ?c57 ?_)
    case c37=>unfold maxLen;omega
    case c47=>omega
    case c57=>simp;omega
    intro v7 w7 hown7 hgr7 _;have hgz7:=hgr7.size;simp at hgz7;have bel7:Below w.heap.size w w7:=(bel6.alloc bel6.size _).grown hgr7 (by simp;omega) (fun t ht=>by have:=(oL8 hown6 t ht).1;omega);have HR7:Hid (rc (key++ [⟨1,N,⟨#[]⟩⟩])++ [.int .i64 0,.int .i64 0,.string ⟨#[]⟩]=rc ((key++ [⟨1,N,⟨#[]⟩⟩])++ [⟨0,0,⟨#[]⟩⟩])):=(rc_snoc _ ⟨0,0,⟨#[]⟩⟩).symm;rw[HR7.out]at hown7;obtain⟨g7,hg7⟩:=own_rowF (vs:=(key++ [⟨1,N,⟨#[]⟩⟩])++ [⟨0,0,⟨#[]⟩⟩]) hown7;clear hown7 hgr7 hown6 HR7 hcl;go_wp2;go_returns;exact⟨⟨_,g7,rfl,(by rw[←HRR.out,HT2.out];exact hg7.1),hg7.2⟩,bel7⟩
   |true=>
    have HT2:Hid (tR8 V [e] key (runC key cs)=(key++ [⟨1,N,⟨#[]⟩⟩])++ [⟨1,sm,⟨#[]⟩⟩]):=by
     show _=_;rw[HT.out];rcases HSE.out with⟨_,q2,_⟩|⟨q1,_⟩
     ·cases q2
     ·rw[q1];rfl
    clear HT HSE;go_wp2_with fail;refine cM8 (l01IntV_any sm _) ?_;rintro z w8 ⟨rfl,hb8⟩;have hz8:=hb8.size;have bel8:Below w.heap.size w w8:=bel6.trans (hb8.mono bel6.size);have hown8:w8.ownsRow w.heap.size 36 3 (.slice a6 (key.length+1) c6) (key.length+1) (rc (key++ [⟨1,N,⟨#[]⟩⟩])):=oK8 hown6 fun t ht=>hb8.block t (hol6 t ht).2;clear hown6 hb8;go_wp2_with(at_builtin;refine wpList_append_own _ rfl _ _ 94 rfl w.heap.size 36 i0 _ 3 32 Tryz.underlying94 hi hz0 hz1 hz2' rfl (by decide) _ _ _ rfl (hown8.alloc _) ⟨w8.heap.size,0,none⟩ 1 1 [.int .i64 1,.int .i64 sm,.string ⟨#[]⟩] rfl rfl (hcl _ _ _ _) (by simp[Value.oneCell']) ?c37 ?c47 ?c57 ?_)
    case c37=>unfold maxLen;omega
    case c47=>omega
    case c57=>simp;omega
    intro v7 w7 hown7 hgr7 _;have hgz7:=hgr7.size;simp at hgz7;have bel7:Below w.heap.size w w7:=(bel8.alloc bel8.size _).grown hgr7 (by simp;omega) (fun t ht=>by have:=(oL8 hown8 t ht).1;omega);have HR7:Hid (rc (key++ [⟨1,N,⟨#[]⟩⟩])++ [.int .i64 1,.int .i64 sm,.string ⟨#[]⟩]=rc ((key++ [⟨1,N,⟨#[]⟩⟩])++ [⟨1,sm,⟨#[]⟩⟩])):=(rc_snoc _ ⟨1,sm,⟨#[]⟩⟩).symm;rw[HR7.out]at hown7;obtain⟨g7,hg7⟩:=own_rowF (vs:=(key++ [⟨1,N,⟨#[]⟩⟩])++ [⟨1,sm,⟨#[]⟩⟩]) hown7;clear hown7 hgr7 hown8 HR7 hcl;go_wp2;go_returns;exact⟨⟨_,g7,rfl,(by rw[←HRR.out,HT2.out];exact hg7.1),hg7.2⟩,bel7⟩
end
section
open Go.RowKit Go.Deep Go.ChangeShapes Go.WideShapes
theorem l04Total_any {m:Int}{V:E7→List V3→V3}(hV:VOk m V)(W B0:Int)(v kv ev:Value)(cs:List C2)(F g0:List Nat)(key:List V3)(es:List E7)(Fs:List Nat)(D:Nat)(w:World)(hr:RowsF w v cs F)(hM:Mean W cs)(hn:wtb cs≤1048576)(hk:RowF w kv key g0)(hkW:(key.length:Int)≤W)(hes:es.length≤1)(hk0:KidsIs w D ev es Fs)(hok:∀e∈es,okE 13 e=true)(hne:∀e∈es,wtE e≤1048576):Calls Tryz.prog 76 #[.agg #[.int .i64 B0,v],kv,ev] w fun q w'=>(∃u g,q=.returned u∧RowF w' u (tR8 V es key (runC key cs)) g∧OwnB w' w.heap.size g)∧Below w.heap.size w w':=by
 obtain⟨D,rfl⟩:=hk0.succ
 match es,hes with
 | [],_=>
  obtain⟨a,c,rfl,_,_⟩:=hk0.shape;exact l04Total_nil hV W B0 v kv _ cs F g0 key w hr hM hn hk hkW ⟨a,c,rfl⟩
 | [e],_=>exact l04Total_one hV W B0 v kv ev cs F g0 key e Fs D w hr hM hn hk hkW (hok e (by simp)) (hne e (by simp)) hk0
 |_::_::_,h=>simp at h
theorem RowF.take {w:World}{a:Option Addr}{c:Nat}{vs:List V3}{g:List Nat}(h:RowF w (.slice a vs.length c) vs g){n:Nat}(hn:n≤vs.length):∃g',RowF w (.slice a n c) (vs.take n) g':=by
 obtain⟨a',c',e,hl,hc,hz,_,h⟩:=h;injection e with e1 e2 e3;subst e1 e3;have hlen:(vs.take n).length=n:=by simp;omega
 by_cases hne:vs.take n=[]
 ·exact⟨[],a,c,by rw[hlen],by omega,hc,hz,fun _=>rfl,fun hx=>absurd hne hx⟩
 ·obtain⟨b,o,hb,hlt,hg,hL⟩:=h (by rintro rfl;simp at hne);refine⟨g,a,c,by rw[hlen],by omega,hc,hz,fun hx=>absurd hx hne,fun _=>⟨b,o,hb,hlt,hg,fun i x hx=>hL i x ?_⟩⟩;rw[List.getElem?_take]at hx;split at hx
  ·exact hx
  ·cases hx
def prevK (n:Nat)(p:Option (List V3))(l:List C2):Option (List V3):=match l.getLast? with
 |none=>p
 |some y=>some (y.r.take n)
theorem keys_snoc (n:Nat)(x:C2):∀ (l:List C2) (p:Option (List V3)),keysC n p (l++ [x])=keysC n p l++(if sameKey (prevK n p l) (x.r.take n)=true then[]else[x.r.take n])
 | [],p=>by
  simp only[List.nil_append,keysC,prevK,List.getLast?_nil]
  first|rfl|(split<;>rfl)
 |c::l,p=>by
  rw[List.cons_append,keysC,keysC];have hp:∀q:Option (List V3),q=some (c.r.take n)→prevK n q l=prevK n p (c::l):=fun q hq=>by
   subst hq;unfold prevK;cases l with
   |nil=>simp
   |cons y l=>rw[List.getLast?_cons_cons];cases hh:(y::l).getLast? with
    |none=>simp at hh
    |some z=>rfl
  by_cases h:sameKey p (c.r.take n)=true
  ·rw[if_pos h,if_pos h,keys_snoc n x l p];have:p=some (c.r.take n):=by
    unfold sameKey at h;split at h
    ·cases h
    ·rw[decide_eq_true_eq]at h;rw[(cmpRow_0 _ _).1 h]
   rw[hp p this]
  ·rw[if_neg h,if_neg h,keys_snoc n x l _,hp _ rfl,List.cons_append]
theorem keys_len (n:Nat):∀ (l:List C2) (p:Option (List V3)),(keysC n p l).length≤l.length
 | [],_=>by simp[keysC]
 |c::l,p=>by
  rw[keysC];split
  ·have:=keys_len n l p;simp;omega
  ·have:=keys_len n l (some (c.r.take n));simp;omega
def accG (V:E7→List V3→V3)(n:Nat)(es:List E7)(cs:List C2)(k:Nat):List C2:=(keysC n none (cs.take k)).map fun key=>⟨tR8 V es key (runC key cs),1⟩
theorem accG_all (V:E7→List V3→V3)(n:Nat)(es:List E7)(cs:List C2):accG V n es cs cs.length=groupC V n es cs:=by rw[accG,List.take_length];rfl
theorem accG_bd {V:E7→List V3→V3}{W:Int}{n:Nat}{es:List E7}{cs:List C2}(hM:Mean W cs)(hn:(n:Int)≤W)(k:Nat):Asc (accG V n es cs k)∧(accG V n es cs k).length≤400∧∀c∈accG V n es cs k,c.n=1:=by
 have hl:=hM.all.2.2.1;have hA:Asc (cs.take k):=List.Pairwise.sublist (List.take_sublist k cs) hM.asc;obtain⟨h1,h2⟩:=keys_all (n:=n) (p:=none) hA (fun c hc=>(hM.row c (List.mem_of_mem_take hc)).1) (fun k hk=>by cases hk);have hlen:∀q∈keysC n none (cs.take k),q.length=n:=fun q hq=>by
  obtain⟨_,c,hcm,rfl⟩:=h2 q hq;have:=(hM.row c (List.mem_of_mem_take hcm)).1;simp;omega
 refine⟨?_,?_,fun c hc=>?_⟩
 ·unfold Asc accG;rw[List.pairwise_map];refine List.Pairwise.imp_of_mem (fun{a b} ha hb h=>?_) h1;show cR8 (tR8 V es a _) (tR8 V es b _)<0;unfold tR8;have:=hlen a ha;have:=hlen b hb;rw[cmpRow_app (by omega),if_neg (by omega)];exact h
 ·unfold accG;rw[List.length_map];have:=keys_len n (cs.take k) none;have:(cs.take k).length≤cs.length:=by simp;omega
  omega
 ·obtain⟨q,_,rfl⟩:=List.mem_map.1 hc;rfl
theorem accG_snoc {V:E7→List V3→V3}{n:Nat}{es:List E7}{cs:List C2}{k:Nat}{x:C2}(hx:cs[k]?=some x):accG V n es cs (k+1)=accG V n es cs k++(if sameKey (prevK n none (cs.take k)) (x.r.take n)=true then[]else[⟨tR8 V es (x.r.take n) (runC (x.r.take n) cs),1⟩]):=by
 unfold accG;rw[take_snoc hx,keys_snoc,List.map_append];congr 1;split<;>rfl
theorem accG_new {V:E7→List V3→V3}{W:Int}{n:Nat}{es:List E7}{cs:List C2}{k:Nat}{x:C2}(hM:Mean W cs)(hn:(n:Int)≤W)(hx:cs[k]?=some x)(h:sameKey (prevK n none (cs.take k)) (x.r.take n)=false):accG V n es cs (k+1)=putC (accG V n es cs k) (tR8 V es (x.r.take n) (runC (x.r.take n) cs)) 1:=by
 have e:=accG_snoc (V:=V) (n:=n) (es:=es) hx;rw[h]at e;simp only[Bool.false_eq_true,if_false]at e;have h1:=(accG_bd (V:=V) (es:=es) hM hn (k+1)).1;rw[e]at h1⊢;exact(putC_last h1 (by decide)).symm
theorem accG_old {V:E7→List V3→V3}{n:Nat}{es:List E7}{cs:List C2}{k:Nat}{x:C2}(hx:cs[k]?=some x)(h:sameKey (prevK n none (cs.take k)) (x.r.take n)=true):accG V n es cs (k+1)=accG V n es cs k:=by
 rw[accG_snoc hx,h];simp
theorem prevK_zero (n:Nat)(cs:List C2):prevK n none (cs.take 0)=none:=rfl
theorem prevK_succ (n:Nat){cs:List C2}{j:Nat}{y:C2}(hy:cs[j]?=some y):prevK n none (cs.take (j+1))=some (y.r.take n):=by
 rw[take_snoc hy];simp[prevK]
structure GrW (w:World)(W T:Int)(a:Option Addr)(lc c:Nat)(acc:List C2)(y:Value)(us:List Value)(G:List (List Nat))(wr:World):Prop where
 a0:wr.cell? ⟨w.heap.size,0,none⟩=some (.int .i64 W)
 a1:wr.cell? ⟨w.heap.size,1,none⟩=some (.slice a lc c)
 r0:wr.cell? ⟨w.heap.size+1,0,none⟩=some (.int .i64 0)
 r1:wr.cell? ⟨w.heap.size+1,1,none⟩=some (.slice none 0 0)
 rf:∀q,wr.frozen? ⟨w.heap.size+1,q,none⟩=false
 p0:wr.cell? ⟨w.heap.size+1+1,0,none⟩=some (.int .i64 T)
 p1:wr.cell? ⟨w.heap.size+1+1,1,none⟩=some y
 pf:∀q,wr.frozen? ⟨w.heap.size+1+1,q,none⟩=false
 own:BagOwn wr (w.heap.size+1+1+1) y acc us G
 bel:Below w.heap.size w wr
 big:w.heap.size+1+1<wr.heap.size
theorem GrW.below {w wr w':World}{W T:Int}{a:Option Addr}{lc c:Nat}{acc:List C2}{y:Value}{us:List Value}{G:List (List Nat)}(h:GrW w W T a lc c acc y us G wr)(hb:Below wr.heap.size wr w'):GrW w W T a lc c acc y us G w':=by
 have hz:=h.big;have hs:=hb.size;exact⟨((bc8 hb).1 _ _ (by omega)).trans h.a0,((bc8 hb).1 _ _ (by omega)).trans h.a1,((bc8 hb).1 _ _ (by omega)).trans h.r0,((bc8 hb).1 _ _ (by omega)).trans h.r1,fun q=>((bc8 hb).2 _ q (by omega)).trans (h.rf q),((bc8 hb).1 _ _ (by omega)).trans h.p0,((bc8 hb).1 _ _ (by omega)).trans h.p1,fun q=>((bc8 hb).2 _ q (by omega)).trans (h.pf q),h.own.below hb,h.bel.trans (hb.mono h.bel.size),by omega⟩
theorem GrW.put {w wr w5:World}{W T:Int}{a:Option Addr}{lc c:Nat}{acc acc5:List C2}{y y5:Value}{us us5:List Value}{G G5:List (List Nat)}(h:GrW w W T a lc c acc y us G wr)(hb:Below (w.heap.size+1+1+1) wr w5)(hB:BagOwn w5 (w.heap.size+1+1+1) y5 acc5 us5 G5):GrW w W T a lc c acc5 y5 us5 G5 ((w5.setCell ⟨w.heap.size+1+1,0,none⟩ (.int .i64 T)).setCell ⟨w.heap.size+1+1,1,none⟩ y5):=by
 have hz:=h.big;have hs:=hb.size;have kB:∀q,q<w.heap.size+1+1+1→w5.heap[q]?=wr.heap[q]?:=fun q hq=>hb.block q hq;have kS:∀q,q<w.heap.size+1+1→((w5.setCell ⟨w.heap.size+1+1,0,none⟩ (.int .i64 T)).setCell ⟨w.heap.size+1+1,1,none⟩ y5).heap[q]?=wr.heap[q]?:=fun q hq=>(bS8 _ _ _ _ (by simp;omega)).trans ((bS8 _ _ _ _ (by simp;omega)).trans (kB q (by omega)));have p0:=(cb8 (kB (w.heap.size+1+1) (by omega))).trans h.p0;have p1:=(cb8 (kB (w.heap.size+1+1) (by omega))).trans h.p1;have belw:Below w.heap.size w w5:=h.bel.trans ((show Below (w.heap.size+1+1+1) wr w5 from⟨hb.os,hb.tape,hb.output,hb.size,hb.block⟩).mono (by omega));exact⟨(cb8 (kS _ (by omega))).trans h.a0,(cb8 (kS _ (by omega))).trans h.a1,(cb8 (kS _ (by omega))).trans h.r0,(cb8 (kS _ (by omega))).trans h.r1,fun q=>(fb8 (kS _ (by omega))).trans (h.rf q),(cO8 _ _ _ _ (by simp)).trans (cS8 _ _ _ p0),cS8 _ _ _ ((cO8 _ _ _ _ (by simp)).trans p1),fun q=>by have:=(fb8 (kB (w.heap.size+1+1) (by omega)) (o:=q)).trans (h.pf q);simpa using this,hB.keep (by simp) (fun t ht _=>(bS8 _ _ _ _ (by simp;omega)).trans (bS8 _ _ _ _ (by simp;omega))),(belw.setCell (by simp;try omega) _).setCell (by simp;try omega) _,by simp;omega⟩
theorem l04Group_any {m:Int}{V:E7→List V3→V3}(hV:VOk m V)(W:Int)(nn:Nat)(v ev:Value)(cs:List C2)(F:List Nat)(es:List E7)(Fs:List Nat)(D:Nat)(w:World)(hr:RowsF w v cs F)(hM:Mean W cs)(hn:wtb cs≤1048576)(hnW:(nn:Int)≤W)(hes:es.length≤1)(hk0:KidsIs w D ev es Fs)(hok:∀e∈es,okE 13 e=true)(hne:∀e∈es,wtE e≤1048576)(P:List C2)(hP:Hid (groupC V nn es cs=P)):Calls Tryz.prog 56 #[.agg #[.int .i64 W,v],.int .i64 nn,ev] w fun q w'=>(∃u us G,q=.returned (.agg #[.int .i64 ((nn:Int)+1+es.length),u])∧BagOwn w' w.heap.size u P us G)∧Below w.heap.size w w':=by
 obtain⟨ae,ce,rfl,_,_⟩:=hk0.shape;have hrr:=hr;obtain⟨a,c,b,o,G0,rfl,hl,hc,_,hG0,_,hC,ha⟩:=hr.pick;unfold maxLen at hc;have hal:=hM.all;have hw1:IntKind.i64.wrap ((nn:Int)+1)=(nn:Int)+1:=by rw[IntKind.wrap_i64];omega
 have hw2:IntKind.i64.wrap ((nn:Int)+1+es.length)=(nn:Int)+1+es.length:=by rw[IntKind.wrap_i64];omega
 obtain⟨T,HTT⟩:∃T,Hid ((nn:Int)+1+es.length=T):=⟨_,rfl⟩;rw[HTT.out];clear hr;go_enter Tryz.func56,Tryz.ntmps56;go_wp2_with fail;go_loopw [8] (fun i wr=> ∃ (k:Nat) (y:Value) (us:List Value) (G:List (List Nat)),k≤cs.length∧i=.int .i64 k∧GrW w W T a cs.length c (accG V nn es cs k) y us G wr) (fun i _=>cs.length - (intOf i).toNat)
 case atStart=>
  refine⟨0,.slice none 0 0,[],[],Nat.zero_le _,rfl,⟨by go_simp,by go_simp,by go_simp,by go_simp,fun q=>by go_simp,by first|(go_simp;done)|(go_simp;exact HTT.out),by go_simp,fun q=>by go_simp,BagOwn.nil _ _,bex,by simp⟩⟩
 case round=>
  obtain⟨k,y,us,G,hk,rfl,hJ⟩:=hrel;have q0:=hJ.a0;have q1:=hJ.a1;by_cases hlt:k<cs.length
  ·obtain⟨rfl,hblt,_⟩:=ha k hlt;obtain⟨x,u0,g0,hx,_,c0,hR,c1,hbr⟩:=hC.at hG0 hblt (Below.refl _ _) hlt;obtain⟨a0,n0,rfl⟩:=hR.shape;have hxm:=mg8 hx;have hxr:=hM.row x hxm;have hkI:(k:Int)<cs.length:=by omega
   have hnx:nn≤x.r.length:=by omega
   have hn0:x.r.length≤n0∧n0≤9223372036854775807:=by obtain⟨a',c',ee,h1,h2,_⟩:=id hR;injection ee with _ _ e3;subst e3;unfold maxLen at h2;exact⟨h1,by omega⟩
   have hnn0:(nn:Int)≤n0:=by omega
   obtain⟨gk,hRk⟩:=hR.take hnx;have hkl:(x.r.take nn).length=nn:=by simp;omega
   have hb:=hJ.bel;have hzw:=hb.size;have hbig:=hJ.big;have d0:=((bc8 hb).1 b (o+k*2) hblt).trans c0;have hKw:=hRk.below hb;have HX:Hid (cs[k]?=some x):=hx;have hTot:=fun(w2:World) (hb2:Below w.heap.size w w2) (hk2:RowF w2 (.slice a0 nn n0) (x.r.take nn) gk)=>l04Total_any hV W W (.slice (some ⟨b,o,none⟩) cs.length c) (.slice a0 nn n0) (.slice ae es.length ce) cs F gk (x.r.take nn) es Fs D w2 (hrr.below hb2) hM hn hk2 (by rw[hkl];exact hnW) hes (hk0.below hb2) hok hne;obtain⟨bs,HBS⟩:∃q,Hid (sameKey (prevK nn none (cs.take k)) (x.r.take nn)=q):=⟨_,rfl⟩;have HOld:Hid (bs=true→accG V nn es cs (k+1)=accG V nn es cs k):=fun hb=>accG_old HX.out (HBS.out.trans hb);have HNew:Hid (bs=false→accG V nn es cs (k+1)=putC (accG V nn es cs k) (tR8 V es (x.r.take nn) (runC (x.r.take nn) cs)) 1):=fun hb=>accG_new hM hnW HX.out (HBS.out.trans hb);obtain⟨hsA,hsl,hs1⟩:=accG_bd (V:=V) (es:=es) hM hnW k;have HSb:Hid (∀c∈accG V nn es cs k,-4000000000000000000≤c.n∧c.n≤4000000000000000000):=fun c hc=>by rw[hs1 c hc];decide
   have hrl:(tR8 V es (x.r.take nn) (runC (x.r.take nn) cs)).length≤1048576:=by unfold tR8;simp;omega
   obtain⟨row,HROW⟩:∃q,Hid (tR8 V es (x.r.take nn) (runC (x.r.take nn) cs)=q):=⟨_,rfl⟩;rw[HROW.out]at hrl;have HNew':Hid (bs=false→accG V nn es cs (k+1)=putC (accG V nn es cs k) row 1):=fun hb=>by rw[←HROW.out];exact HNew.out hb
   have hTot':∀ (w2:World),Below w.heap.size w w2→RowF w2 (.slice a0 nn n0) (x.r.take nn) gk→Calls Tryz.prog 76 #[.agg #[.int .i64 W,.slice (some ⟨b,o,none⟩) cs.length c],.slice a0 nn n0,.slice ae es.length ce] w2 fun q w'=>(∃u g,q=.returned u∧RowF w' u row g∧OwnB w' w2.heap.size g)∧Below w2.heap.size w2 w':=by rw[←HROW.out];exact hTot
   have hct:(accG V nn es cs k).length≤2097152:=by omega
   clear hs1 HNew hTot hx hxm hkl;by_cases hk00:k=0
   ·subst hk00;obtain rfl:bs=false:=by rw[←HBS.out,prevK_zero];rfl
    have hK0:(((0:Nat):Int)==0)=true:=rfl;have hJJ:=hJ;obtain⟨ww,hww⟩:∃q,q=wr:=⟨_,rfl⟩;subst hww;have hKK:=hKw;simp only[Nat.zero_mul,Nat.add_zero]at d0;clear hJ hK0;go_wp2_with fail;have p0:=hJJ.p0;have p1:=hJJ.p1;have q0:=hJJ.a0;have q1:=hJJ.a1;have hbw:=hJJ.bel;have hbg:=hJJ.big;have hzww:=hbw.size;have hownJ:=hJJ.own;obtain⟨ay,cy,rfl⟩:=hownJ.shape;have HA:Hid (accG V nn es cs (0+1)=putC (accG V nn es cs 0) row 1):=HNew'.out (by first|rfl|trivial);have HPP:=fun a6 c6 g6 w6=>l02Put_any T 1 (.slice ay (accG V nn es cs 0).length cy) (.slice a6 row.length c6) (accG V nn es cs 0) us G row g6 (w.heap.size+1+1+1) w6;clear hownJ HNew' HOld HROW HBS HX;generalize accG V nn es cs 0=ct at*;go_wp2_with fail;refine startE 6 (fun w'=>w'.cell? ⟨w.heap.size+1+1,0,none⟩=some (.int .i64 T)∧w'.cell? ⟨w.heap.size+1+1,1,none⟩=some (.slice ay ct.length cy)∧w'.cell? ⟨w.heap.size,0,none⟩=some (.int .i64 W)∧w'.cell? ⟨w.heap.size,1,none⟩=some (.slice (some ⟨b,o,none⟩) cs.length c)) (by kernel_rfl) ?_ (fun hHeld=>?_)
    ·exact⟨p0,p1,q0,q1⟩
    refine tkE 0 47 rfl rfl ?_;refine tkE 1 48 rfl rfl ?_;refine tkE 2 49 rfl rfl ?_;refine tkE 3 50 rfl rfl ?_;refine onE 4 rfl fun K hK=>?_;go_simp;go_at_call 76;refine cM8 (hTot' _ bex (hKK.below bex)) ?_;rintro zz w6 ⟨⟨u6,g6,rfl,hR6,hO6⟩,hb6⟩;obtain⟨a6,c6,rfl⟩:=hR6.shape;have hz6:=hb6.size;rw[show ww.drew.heap.size=ww.heap.size from rfl]at hz6;have bel6:Below ww.heap.size ww w6:=bex;have p06:=((bc8 bel6).1 (w.heap.size+1+1) 0 (by omega)).trans p0;have p16:=((bc8 bel6).1 (w.heap.size+1+1) 1 (by omega)).trans p1;have q06:=((bc8 bel6).1 w.heap.size 0 (by omega)).trans q0;have q16:=((bc8 bel6).1 w.heap.size 1 (by omega)).trans q1;have hJ6:=hJJ.below bel6;have hown6:=hJ6.own;try go_wp2_with fail
    refine hK.out _ _ ?_ (fun hHeld4=>?_)
    ·intro _;exact⟨p06,p16,q06,q16⟩
    clear hK;replace hHeld4:=hHeld4 (by decide);refine onE 5 rfl fun K hK=>?_;go_simp;go_at_call 75;refine cM8 (HPP a6 c6 g6 _ hown6 hR6 hsA (by omega) hct hrl (by decide) (by decide) HSb.out _ rfl) ?_;rintro zz w7 ⟨v7,us7,G7,rfl,hB7,hv7,hG7,hb7,hgr7⟩;obtain⟨a7,c7,rfl⟩:=hB7.shape;have hz7:=hb7.size;(try simp at hz7);have kB:∀q,q<w.heap.size+1+1+1→w7.heap[q]?=w6.heap[q]?:=fun q hq=>hb7.block q hq;have p07:=(cb8 (kB (w.heap.size+1+1) (by omega))).trans p06;have p17:=(cb8 (kB (w.heap.size+1+1) (by omega))).trans p16;have q07:=(cb8 (kB w.heap.size (by omega))).trans q06;have q17:=(cb8 (kB w.heap.size (by omega))).trans q16;have pf7:∀q,w7.frozen? ⟨w.heap.size+1+1,q,none⟩=false:=fun q=>(fb8 (kB (w.heap.size+1+1) (by omega))).trans (hJ6.pf q);try go_wp2_with fail
    refine hK.out _ _ ?_ (fun hHeld5=>?_)
    ·intro _;exact⟨p07,p17,q07,q17⟩
    clear hK;replace hHeld5:=hHeld5 (by decide);refine onE 6 rfl fun K hK=>?_;go_simp;refine hK.out _ _ ?_ (fun hHeld6=>?_)
    ·exact fun h=>absurd rfl h
    clear hK hHeld6;refine doneE (by kernel_rfl) ?_ _;have hJ7:=hJ6.put (show Below (w.heap.size+1+1+1) w6 w7 from⟨hb7.os,hb7.tape,hb7.output,hb7.size,hb7.block⟩) hB7;clear hB7 hgr7 kB p07 p17 q07 q17 hJ6 hown6 HPP hsA p0 p1 q0 q1 hR6 hO6;go_wp2_with fail;exact⟨⟨0+1,.slice a7 (putC ct row 1).length c7,us7,G7,hlt,by simp,by rw[HA.out];exact hJ7⟩,by simp[intOf];omega⟩
   ·obtain⟨j,rfl⟩:∃j,k=j+1:=⟨k -1,by omega⟩;have hKb:(((j+1:Nat):Int)==0)=false:=by simp;omega
    have hjl:j<cs.length:=by omega
    obtain⟨z,u1,g1,hz,_,e0,hZ,e1,hbz⟩:=hC.at hG0 hblt (Below.refl _ _) hjl;obtain⟨a1,n1,rfl⟩:=hZ.shape;have hzr:=hM.row z (mg8 hz);have hnz:nn≤z.r.length:=by omega
    have hn1:z.r.length≤n1∧n1≤9223372036854775807:=by obtain⟨a',c',ee,h1,h2,_⟩:=id hZ;injection ee with _ _ e3;subst e3;unfold maxLen at h2;exact⟨h1,by omega⟩
    have hnn1:(nn:Int)≤n1:=by omega
    obtain⟨gz,hRz⟩:=hZ.take hnz;have f0:=((bc8 hb).1 b (o+j*2) hblt).trans e0;have hZw:=hRz.below hb;have hCmp:=specRow_any (.slice a1 nn n1) (.slice a0 nn n0) (z.r.take nn) (x.r.take nn) wr hZw.is hKw.is;have hjI:(j:Int)<cs.length:=by omega
    have hwj:IntKind.i64.wrap (j:Int)=j:=by rw[IntKind.wrap_i64];omega
    have hwj2:IntKind.i64.wrap ((j:Int)+1 -1)=j:=by rw[IntKind.wrap_i64];omega
    obtain⟨cp,HCP⟩:∃q,Hid (cR8 (z.r.take nn) (x.r.take nn)=q):=⟨_,rfl⟩;have HBC:Hid (bs=decide (cp=0)):=by show _=_;rw[←HBS.out,prevK_succ nn hz,←HCP.out];rfl
    rw[HCP.out]at hCmp;clear hz e0 e1 hZ;go_wp2_with fail;refine cM8 hCmp ?_;rintro zz ww ⟨rfl,hbq⟩;have hJJ:=hJ.below hbq;have hKK:=hKw.below hbq;clear hJ hKw hZw f0 d0 hCmp q0 q1;by_cases hcp:cp=0
    ·subst hcp;obtain rfl:bs=true:=by rw[HBC.out];rfl
     have HA:Hid (accG V nn es cs (j+1+1)=accG V nn es cs (j+1)):=HOld.out (by first|rfl|trivial);have q1:=hJJ.a1;go_wp2_with fail;exact⟨⟨j+1+1,_,_,_,hlt,by simp,by rw[HA.out];exact hJJ⟩,by simp[intOf];omega⟩
    ·obtain rfl:bs=false:=by rw[HBC.out];simpa using hcp
     have hcpb:(cp !=0)=true:=by simpa using hcp
     clear hcp HBC hwj hwj2;go_wp2_with fail;have p0:=hJJ.p0;have p1:=hJJ.p1;have q0:=hJJ.a0;have q1:=hJJ.a1;have hbw:=hJJ.bel;have hbg:=hJJ.big;have hzww:=hbw.size;have hownJ:=hJJ.own;obtain⟨ay,cy,rfl⟩:=hownJ.shape;have HA:Hid (accG V nn es cs (j+1+1)=putC (accG V nn es cs (j+1)) row 1):=HNew'.out (by first|rfl|trivial);have HPP:=fun a6 c6 g6 w6=>l02Put_any T 1 (.slice ay (accG V nn es cs (j+1)).length cy) (.slice a6 row.length c6) (accG V nn es cs (j+1)) us G row g6 (w.heap.size+1+1+1) w6;clear hownJ HNew' HOld HROW HBS HX;generalize accG V nn es cs (j+1)=ct at*;go_wp2_with fail;refine startE 6 (fun w'=>w'.cell? ⟨w.heap.size+1+1,0,none⟩=some (.int .i64 T)∧w'.cell? ⟨w.heap.size+1+1,1,none⟩=some (.slice ay ct.length cy)∧w'.cell? ⟨w.heap.size,0,none⟩=some (.int .i64 W)∧w'.cell? ⟨w.heap.size,1,none⟩=some (.slice (some ⟨b,o,none⟩) cs.length c)) (by kernel_rfl) ?_ (fun hHeld=>?_)
     ·exact⟨p0,p1,q0,q1⟩
     refine tkE 0 47 rfl rfl ?_;refine tkE 1 48 rfl rfl ?_;refine tkE 2 49 rfl rfl ?_;refine tkE 3 50 rfl rfl ?_;refine onE 4 rfl fun K hK=>?_;go_simp;go_at_call 76;refine cM8 (hTot' _ bex (hKK.below bex)) ?_;rintro zz w6 ⟨⟨u6,g6,rfl,hR6,hO6⟩,hb6⟩;obtain⟨a6,c6,rfl⟩:=hR6.shape;have hz6:=hb6.size;rw[show ww.drew.heap.size=ww.heap.size from rfl]at hz6;have bel6:Below ww.heap.size ww w6:=bex;have p06:=((bc8 bel6).1 (w.heap.size+1+1) 0 (by omega)).trans p0;have p16:=((bc8 bel6).1 (w.heap.size+1+1) 1 (by omega)).trans p1;have q06:=((bc8 bel6).1 w.heap.size 0 (by omega)).trans q0;have q16:=((bc8 bel6).1 w.heap.size 1 (by omega)).trans q1;have hJ6:=hJJ.below bel6;have hown6:=hJ6.own;try go_wp2_with fail
     refine hK.out _ _ ?_ (fun hHeld4=>?_)
     ·intro _;exact⟨p06,p16,q06,q16⟩
     clear hK;replace hHeld4:=hHeld4 (by decide);refine onE 5 rfl fun K hK=>?_;go_simp;go_at_call 75;refine cM8 (HPP a6 c6 g6 _ hown6 hR6 hsA (by omega) hct hrl (by decide) (by decide) HSb.out _ rfl) ?_;rintro zz w7 ⟨v7,us7,G7,rfl,hB7,hv7,hG7,hb7,hgr7⟩;obtain⟨a7,c7,rfl⟩:=hB7.shape;have hz7:=hb7.size;(try simp at hz7);have kB:∀q,q<w.heap.size+1+1+1→w7.heap[q]?=w6.heap[q]?:=fun q hq=>hb7.block q hq;have p07:=(cb8 (kB (w.heap.size+1+1) (by omega))).trans p06;have p17:=(cb8 (kB (w.heap.size+1+1) (by omega))).trans p16;have q07:=(cb8 (kB w.heap.size (by omega))).trans q06;have q17:=(cb8 (kB w.heap.size (by omega))).trans q16;have pf7:∀q,w7.frozen? ⟨w.heap.size+1+1,q,none⟩=false:=fun q=>(fb8 (kB (w.heap.size+1+1) (by omega))).trans (hJ6.pf q);try go_wp2_with fail
     refine hK.out _ _ ?_ (fun hHeld5=>?_)
     ·intro _;exact⟨p07,p17,q07,q17⟩
     clear hK;replace hHeld5:=hHeld5 (by decide);refine onE 6 rfl fun K hK=>?_;go_simp;refine hK.out _ _ ?_ (fun hHeld6=>?_)
     ·exact fun h=>absurd rfl h
     clear hK hHeld6;refine doneE (by kernel_rfl) ?_ _;have hJ7:=hJ6.put (show Below (w.heap.size+1+1+1) w6 w7 from⟨hb7.os,hb7.tape,hb7.output,hb7.size,hb7.block⟩) hB7;clear hB7 hgr7 kB p07 p17 q07 q17 hJ6 hown6 HPP hsA p0 p1 q0 q1 hR6 hO6;go_wp2_with fail;exact⟨⟨j+1+1,.slice a7 (putC ct row 1).length c7,us7,G7,hlt,by simp,by rw[HA.out];exact hJ7⟩,by simp[intOf];omega⟩
  ·obtain rfl:k=cs.length:=by omega
   rw[accG_all,hP.out]at hJ;obtain⟨z0,z1,z2,z3,z4,z5,z6,z7,hB,hb,hzb⟩:=hJ;obtain⟨ay,cy,rfl⟩:=hB.shape;clear ha hC hP;go_wp2;refine bodyPost_ret (v:=.agg #[.int .i64 T,.slice ay P.length cy]) (by simp[results,Tryz.results56,go_sem, *]) rfl ⟨⟨_,us,G,rfl,(hB.keep (by simp) fun b hb _=>?_).weak (by omega)⟩,?_⟩
   ·repeat rw[bS8 _ _ _ _ (by simp;omega)]
   ·repeat (first|(with_reducible exact hb)|(with_reducible refine Below.setCell ?_ ?hh _;case hh=>(simp;try omega)))
end
section
open Go.RowKit Go.Deep Go.ChangeShapes Go.WideShapes
theorem cloneV_any (v:Value)(vs:List V3)(g0:List Nat)(w:World)(hr:RowF w v vs g0)(hn:vs.length≤1048576):Calls Tryz.prog 140 #[v] w fun e w'=>(∃u,e=.returned u∧w'.ownsRow w.heap.size 36 3 u vs.length (rc vs))∧Below w.heap.size w w':=by
 obtain⟨i0,hi,hz0,hz1,hz2⟩:=info_parts Tryz.infoVal;obtain⟨a,c,rfl,hl,hc,hz,_,h⟩:=hr;have hnil:∀ (w:World) (a:Option Addr) (n c n' c':Nat),(binOp .eql 94 (.slice a n c) (.slice none n' c')).run Tryz.prog w=.ok (.bool a.isNone) w:=fun w a n c n' c'=>Lib.run_eql_slice_nil w _ _ a n c n' c' Tryz.underlying94;have he:=own_empty w 36 3;have hb0:Below w.heap.size w (w.alloc (.cells #[] 36)):=(Below.refl _ _).alloc (Nat.le_refl _) _;cases a with
 |none=>
  obtain rfl:=hz rfl;obtain rfl:vs=[]:=List.length_eq_zero_iff.1 (by omega);go_enter Tryz.func140,Tryz.ntmps140;go_wp2;go_returns;exact⟨⟨_,rfl,by simp[rc],.inl ⟨rfl,rfl⟩⟩,Below.refl _ _⟩
 |some ad=>
  have hcl:∀j u,(rc vs)[j]?=some u→(w.alloc (.cells #[] 36)).cell? (ad.add j)=some u:=by
   by_cases hne:vs=[]
   ·subst hne;intro j u hu;simp[rc]at hu
   ·obtain⟨b,o,hb,hlt,_,hL⟩:=h hne;cases hb;exact rc_cells (hL.below hb0 hlt)
  go_enter Tryz.func140,Tryz.ntmps140;go_wp2_with(at_builtin;refine wpList_append_own _ rfl _ _ 94 rfl w.heap.size 36 i0 _ 3 32 Tryz.underlying94 hi hz0 hz1 hz2 rfl (by decide) _ _ _ rfl he ad vs.length c (rc vs) rfl (rc_len vs) hcl (rc_one vs) ?c3 ?c4 ?c5 ?_)
  case c3=>unfold maxLen;omega
  case c4=>omega
  case c5=>simp
  intro v5 w5 hown5 hgr5 _;have hown6:w5.ownsRow w.heap.size 36 3 v5 vs.length (rc vs):=by simpa using hown5
  have bel:Below w.heap.size w w5:=hb0.grown hgr5 (by simp) (fun k hk=>by simp[Value.ownBlock]at hk;omega);clear hown5 hgr5 hcl he;go_wp2;refine bodyPost_ret (v:=v5) (by simp[results,Tryz.results140,go_sem]) rfl ⟨⟨v5,rfl,hown6⟩,bel⟩
end
end Go.Proofs.YtflokiejcjjbiaaGreat
