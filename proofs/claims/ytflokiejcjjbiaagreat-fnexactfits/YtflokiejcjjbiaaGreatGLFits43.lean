/- Own texts, joined: contracts that the law's proof goes by. -/
import Derived.Test.YtflokiejcjjbiaaGreatGLFits2
import Derived.Test.YtflokiejcjjbiaaGreatGLFits31
import Derived.Test.YtflokiejcjjbiaaGreatGLFits42
import Derived.Deep.RegionHeld3
import Derived.BigQuiet
import Derived.Test.YtflokiejcjjbiaaGreatGLFits39
import Derived.Deep.AppendLies
set_option maxHeartbeats 16000000
set_option maxRecDepth 100000
set_option linter.unusedVariables false
set_option linter.unusedSimpArgs false
namespace Go.Proofs.YtflokiejcjjbiaaGreat
section
open Go.RowKit
theorem key_le {W:Int}{n:Nat}{cs:List C2}(h:Raw W cs){i j:Nat}(hij:i≤j){x y:C2}(hx:cs[i]?=some x)(hy:cs[j]?=some y):cR8 (x.r.take n) (y.r.take n)≤0:=by
 obtain⟨hi,rfl⟩:=gE1 hx;obtain⟨hj,rfl⟩:=gE1 hy;rcases Nat.lt_or_ge i j with hlt|hge
 ·exact take_le n (h.row _ (List.getElem_mem hi)).1 (h.row _ (List.getElem_mem hj)).1 (List.pairwise_iff_getElem.1 h.asc i j hi hj hlt)
 ·obtain rfl:i=j:=by omega
  rw[cmpRow_irr];exact Int.le_refl _
theorem keys_skip {n:Nat}{K:List V3}{cs:List C2}{j:Nat}:∀ (d m:Nat),m+d=j→j≤cs.length→(∀k y,m≤k→k<j→cs[k]?=some y→y.r.take n=K)→keysC n (some K) (cs.drop m)=keysC n (some K) (cs.drop j)
 |0,m,h,_,_=>by rw[←h,Nat.add_zero]
 |d+1,m,h,hj,hs=>by
  have hm:m<cs.length:=by omega
  rw[List.drop_eq_getElem_cons hm,keysC];have e:cs[m].r.take n=K:=hs m cs[m] (Nat.le_refl _) (by omega) (by simp);rw[if_pos (by rw[e,sameKey,cmpRow_irr];rfl)];exact keys_skip d (m+1) (by omega) hj fun k y h1 h2=>hs k y (by omega) h2
structure Run (n:Nat)(cs:List C2)(i j:Nat)(K:List V3):Prop where
 lt:i<j
 le:j≤cs.length
 same:∀k y,i≤k→k<j→cs[k]?=some y→y.r.take n=K
 next:∀z,cs[j]?=some z→z.r.take n≠K
def Edge (n:Nat)(cs:List C2)(i:Nat):Prop:=∀z,cs[i]?=some z→∀k y,k<i→cs[k]?=some y→y.r.take n≠z.r.take n
section
variable {W:Int} {n:Nat} {cs:List C2} {i j:Nat} {K:List V3} (h:Raw W cs)
theorem Run.keys (hr:Run n cs i j K):keysC n none (cs.drop i)=K::keysC n none (cs.drop j):=by
 have h1:=hr.lt;have h2:=hr.le;have hi:i<cs.length:=by omega
 have e:cs[i].r.take n=K:=hr.same i cs[i] (Nat.le_refl _) hr.lt (by simp);rw[List.drop_eq_getElem_cons hi,keysC,if_neg (by simp[sameKey]),e,keys_skip (j - (i+1)) (i+1) (by omega) hr.le fun k y h1 h2=>hr.same k y (by omega) h2];congr 1;by_cases hj:j<cs.length
 ·have h3:¬sameKey (some K) (cs[j].r.take n)=true:=by
   have h4:=hr.next cs[j] (by simp);simp only[sameKey,decide_eq_true_eq];exact fun e=>h4 ((cmpRow_0 _ _).1 e).symm
  rw[List.drop_eq_getElem_cons hj,keysC,keysC,if_neg h3,if_neg (by simp[sameKey])]
 ·rw[List.drop_eq_nil_of_le (by omega)];rfl
include h
theorem Run.edge (hr:Run n cs i j K)(he:Edge n cs i):Edge n cs j:=by
 have h1:=hr.lt;have h2:=hr.le;have hi:i<cs.length:=by omega
 have e:cs[i].r.take n=K:=hr.same i cs[i] (Nat.le_refl _) hr.lt (by simp);intro z hz k y hk hy;rcases Nat.lt_or_ge k i with hki|hki
 ·have h3:=he cs[i] (by simp) k y hki hy;have h4:=key_le (n:=n) h (Nat.le_of_lt hki) hy (y:=cs[i]) (by simp);have h5:=key_le (n:=n) h (Nat.le_of_lt hr.lt) (x:=cs[i]) (by simp) hz;have h6:cR8 (y.r.take n) (cs[i].r.take n)≠0:=fun e=>h3 ((cmpRow_0 _ _).1 e);have h7:cR8 (cs[i].r.take n) (z.r.take n)≠0:=fun e'=>hr.next z hz (by rw[←e];exact((cmpRow_0 _ _).1 e').symm);have h8:=cmpRow_trans (show cR8 (y.r.take n) (cs[i].r.take n)<0 by omega) (show cR8 (cs[i].r.take n) (z.r.take n)<0 by omega);intro e2;rw[e2,cmpRow_irr]at h8;omega
 ·rw[hr.same k y hki hk hy];exact fun e2=>hr.next z hz e2.symm
theorem Run.rows (hr:Run n cs i j K)(he:Edge n cs i)(hn:(n:Int)≤W):runC K cs=(cs.drop i).take (j -i):=by
 have h1:=hr.lt;have h2:=hr.le;have hi:i<cs.length:=by omega
 have e:cs[i].r.take n=K:=hr.same i cs[i] (Nat.le_refl _) hr.lt (by simp);have hK:K.length=n:=by
  have:=(h.row _ (List.getElem_mem hi)).1;rw[←e];simp;omega
 unfold runC;rw[hK];have e3:cs=cs.take i++((cs.drop i).take (j -i)++cs.drop j):=by
  have:cs.drop j=(cs.drop i).drop (j -i):=by rw[List.drop_drop];congr 1;omega
  rw[this,List.take_append_drop,List.take_append_drop]
 conv=>lhs;rw[e3]
 rw[List.filter_append,List.filter_append];have f1:(cs.take i).filter (fun c=>decide (cR8 (c.r.take n) K=0))=[]:=by
  rw[List.filter_eq_nil_iff];intro y hy;obtain⟨k,hk,rfl⟩:=List.mem_iff_getElem.1 hy;have hk':k<i:=by simp at hk;omega
  have:=he cs[i] (by simp) k (cs.take i)[k] hk' (by simp;try omega);rw[e]at this;simp only[decide_eq_true_eq];exact fun e=>this ((cmpRow_0 _ _).1 e)
 have f2:((cs.drop i).take (j -i)).filter (fun c=>decide (cR8 (c.r.take n) K=0))=(cs.drop i).take (j -i):=by
  rw[List.filter_eq_self];intro y hy;obtain⟨k,hk,rfl⟩:=List.mem_iff_getElem.1 hy;have hk':k<j -i:=by simp at hk;omega
  have:=hr.same (i+k) ((cs.drop i).take (j -i))[k] (by omega) (by omega) (by simp;try omega);rw[this,cmpRow_irr];rfl
 have f3:(cs.drop j).filter (fun c=>decide (cR8 (c.r.take n) K=0))=[]:=by
  rw[List.filter_eq_nil_iff];intro y hy;obtain⟨k,hk,rfl⟩:=List.mem_iff_getElem.1 hy;have hk':j+k<cs.length:=by simp at hk;omega
  have hj:j<cs.length:=by omega
  have h5:=key_le (n:=n) h (Nat.le_of_lt hr.lt) (x:=cs[i]) (y:=cs[j]) (by simp) (by simp);have h6:=key_le (n:=n) h (Nat.le_add_right j k) (x:=cs[j]) (y:=(cs.drop j)[k]) (by simp) (by simp);have h7:cR8 (cs[i].r.take n) (cs[j].r.take n)≠0:=fun e'=>hr.next cs[j] (by simp) (by rw[←e];exact((cmpRow_0 _ _).1 e').symm);rw[e]at h5 h7;simp only[decide_eq_true_eq];intro e4;rw[(cmpRow_0 _ _).1 e4]at h6;have h8:=cmpRow_flip K (cs[j].r.take n);omega
 rw[f1,f2,f3,List.nil_append,List.append_nil]
end
theorem Run.end_ {n:Nat}{cs:List C2}:Edge n cs 0:=fun _ _ k _ hk=>absurd hk (by omega)
end
section
open Go.RowKit Go.Deep
theorem sameV_iff (a b:V3):sameV a b=true↔a=b:=by
 obtain⟨k,n,⟨⟨s⟩⟩⟩:=a;obtain⟨k',n',⟨⟨s'⟩⟩⟩:=b;simp[sameV,ByteArray.toList_eq]
theorem take_eq_succ {vs us:List V3}{k:Nat}{x y:V3}(hx:vs[k]?=some x)(hy:us[k]?=some y):vs.take (k+1)=us.take (k+1)↔vs.take k=us.take k∧x=y:=by
 obtain⟨h1,rfl⟩:=gE1 hx;obtain⟨h2,rfl⟩:=gE1 hy;rw[List.take_succ_eq_append_getElem h1,List.take_succ_eq_append_getElem h2];constructor
 ·intro h;have:=List.append_inj h (by simp;omega);exact⟨this.1,by simpa using this.2⟩
 ·rintro⟨h1,h2⟩;rw[h1,h2]
theorem drewN_bel (w:World)(n:Nat):Below w.heap.size w (w.drewN n):=(Below.refl _ w).trans ⟨rfl,rfl,rfl,Nat.le_refl _,fun _ _=>rfl⟩
def eqR (vs us:List V3):Bool:=decide (cR8 vs us=0)
theorem eqR_iff {vs us:List V3}:eqR vs us=true↔vs=us:=by unfold eqR;rw[decide_eq_true_eq];exact cmpRow_0 _ _
theorem eqR_no {vs us:List V3}(h:¬vs=us):eqR vs us=false:=by
 cases e:eqR vs us with
 |false=>rfl
 |true=>exact absurd (eqR_iff.1 e) h
theorem equalV_any (v u:Value)(vs us:List V3)(w:World)(hr:RowIs w v vs)(hu:RowIs w u us):Calls Tryz.prog 114 #[v,u] w fun e w'=>e=.returned (.bool (eqR vs us))∧∃m,w'=w.drewN m:=by
 obtain⟨a,c,b,o,rfl,hl,hc,ha⟩:=hr.pick;obtain⟨a',c',b',o',rfl,hl',hc',ha'⟩:=hu.pick;unfold maxLen at hc hc';clear hr hu;by_cases hlen:vs.length=us.length
 ·go_enter Tryz.func114,Tryz.ntmps114;go_wp2;go_loopw [13] (fun i wr=> ∃k m:Nat,k≤vs.length∧i=.int .i64 k∧vs.take k=us.take k∧wr=w.drewN m) (fun i _=>vs.length - (intOf i).toNat)
  case atStart=>exact⟨0,0,Nat.zero_le _,rfl,by simp,rfl⟩
  case round=>
   obtain⟨k,m,hk,rfl,hT,rfl⟩:=hrel;have hb:Below w.heap.size w (w.drewN m):=drewN_bel _ _;have HT:Hid (vs.take k=us.take k):=hT;clear hT;by_cases hlt:k<vs.length
   ·have hzb:=hb.size;obtain⟨rfl,hblt,hL⟩:=ha k hlt;obtain⟨rfl,hblt',hL'⟩:=ha' k (by omega);obtain⟨x,hx,c0,c1,c2,hbr⟩:=hL.at hblt (Below.refl _ _) hlt;obtain⟨x',hx',c0',c1',c2',hbr'⟩:=hL'.at hblt' (Below.refl _ _) (by omega:k<us.length);have HS:=take_eq_succ hx hx';have q2:=fun w=>neV x.k x.n x'.k x'.n x.s x'.s w;have HN:(x.k==x'.k && (x.n==x'.n &&x.s.toList==x'.s.toList))=sameV x x':=rfl;simp only[HN]at q2;have hkI:(k:Int)<us.length:=by omega
    have hkV:(k:Int)<vs.length:=by omega
    clear ha ha' hL hL' hx hx';cases hS:sameV x x' with
    |true=>
     have H2:Hid (vs.take (k+1)=us.take (k+1)):=HS.2 ⟨HT.out,(sameV_iff _ _).1 hS⟩;simp only[hS]at q2;(try simp only[Bool.not_true]at q2);(try simp only[Bool.not_false]at q2);clear HN HS hS;go_wp2_with fail;go_quiet (fail);go_wp2_with fail;exact⟨⟨k+1,_,hlt,by simp,H2.out,by first|rfl|rw[World.drewN_drewN]⟩,by simp[intOf];omega⟩
    |false=>
     have H2:Hid (¬vs=us):=by
      show ¬_;intro e;have:x=x':=(HS.1 (by rw[e])).2;rw[(sameV_iff _ _).2 this]at hS;cases hS
     simp only[hS]at q2;(try simp only[Bool.not_true]at q2);(try simp only[Bool.not_false]at q2);clear HN HS hS;go_wp2_with fail;go_quiet (fail);go_wp2_with fail;go_returns;exact⟨by rw[eqR_no H2.out];rfl,by first|exact⟨_,rfl⟩|exact⟨_,by rw[World.drewN_drewN]⟩⟩
   ·obtain rfl:k=vs.length:=by omega
    have HE:Hid (vs=us):=by
     have:=HT.out;rw[List.take_length,hlen,List.take_length]at this;exact this
    clear ha ha';go_wp2;go_returns;exact⟨by rw[eqR_iff.2 HE.out];rfl,_,rfl⟩
 ·have H2:Hid (¬vs=us):=fun e=>hlen (by rw[e]);have hlI:¬ (vs.length:Int)=us.length:=by omega
  clear ha ha';go_enter Tryz.func114,Tryz.ntmps114;go_wp2;go_returns;exact⟨by rw[eqR_no H2.out];rfl,0,rfl⟩
end
section
open Go.RowKit Go.Deep Go.ChangeShapes Go.WideShapes
theorem grouped_any {m:Int}{V:E7→List V3→V3}(hV:VOk m V)(wh W Wk Wx:Int)(nk:Nat)(au:Option Addr)(lu cu:Nat)(ev:Value)(es:List E7)(Fs:List Nat)(D:Nat)(v:Value)(cs:List C2)(F:List Nat)(w:World)(hr:RowsF w v cs F)(hM:Mean Wk cs)(hnk:(nk:Int)≤Wk)(hm:w.cell? ⟨0,0,none⟩=some (.int .i64 m))(hes:es.length≤1)(hk0:KidsIs w D ev es Fs)(hok:∀e∈es,okE 13 e=true)(hne:∀e∈es,wtE e≤1048576):Calls Tryz.prog 89 #[.agg #[.int .i64 wh,.int .i64 W,.slice au lu cu,.int .i64 nk,ev],.agg #[.int .i64 Wx,v]] w fun q w'=>(∃u us' G',q=.returned (.agg #[.int .i64 W,u])∧BagOwn w' w.heap.size u (groupC V nk es cs) us' G')∧Below w.heap.size w w':=by
 obtain⟨i0,hi,hz0,hz1,hz2'⟩:=info_parts Tryz.infoCnt;obtain⟨ae,ce,rfl,_,_⟩:=hk0.shape;have h00:0<w.heap.size:=bl8 _ _ hm;have hal:=hM.all;obtain⟨a,c,b,o,G0,rfl,hl,hc,_,hG0,_,hC,ha⟩:=hr.pick;unfold maxLen at hc;have hsub:∀k j,k<j→j≤cs.length→∃F',RowsF w (.slice (some ⟨b,o+k*2,none⟩) (j -k) (c -k)) ((cs.drop k).take (j -k)) F':=fun k j hkj hj=>by
  obtain⟨rfl,_,_⟩:=ha k (by omega);exact hr.sub hkj hj
 have hGr:∀k j K,Run nk cs k j K→(∃x,cs[k]?=some x∧x.r.take nk=K)→∀X,Below w.heap.size w X→Calls Tryz.prog 115 #[.agg #[.int .i64 wh,.int .i64 W,.slice au lu cu,.int .i64 nk,.slice ae es.length ce],.slice (some ⟨b,o+k*2,none⟩) (j -k) (c -k)] X fun q w'=>(∃u g,q=.returned u∧RowF w' u (tR8 V es K ((cs.drop k).take (j -k))) g∧OwnB w' X.heap.size g)∧Below X.heap.size X w':=fun k j K hRun hx X hX=>by
  obtain⟨F',hF'⟩:=hsub k j hRun.lt hRun.le;have h1:=hRun.lt;have h2:=hRun.le;have hmem:∀y∈(cs.drop k).take (j -k),y∈cs:=fun y hy=>List.mem_of_mem_drop (List.mem_of_mem_take hy);refine groupRow_any hV wh W nk au lu cu _ es Fs D _ _ F' X (hF'.below hX) (fun e=>by have:=congrArg List.length e;simp at this;omega) (by simp;omega) (fun y hy=>hal.2.2.2 y (hmem y hy)) (fun y hy=>⟨(hM.row y (hmem y hy)).2,by have:=(hM.row y (hmem y hy)).1;omega⟩) K (fun y hy=>?_) (((bc8 hX).1 0 0 h00).trans hm) hes (hk0.below hX) hok hne;rw[List.getElem?_take,if_pos (by omega),List.getElem?_drop,Nat.add_zero]at hy;obtain⟨x,hx,hxK⟩:=hx;rw[hx]at hy;have ex:x=y:=Option.some.inj hy;rw[←ex];exact⟨by have:=(hM.row x (mg8 hx)).1;omega,hxK⟩
 have hM12:nk≤12:=by omega
 clear hr hk0 hok hne hm hsub;go_enter Tryz.func89,Tryz.ntmps89;go_wp2_with fail;go_loopw [6] (fun i wr=> ∃ (M:World) (k:Nat) (y:Value) (us:List Value) (G:List (List Nat)) (acc:List C2),GdW M (w.heap.size+1+1) (w.heap.size+1+1+1+1) W acc y us G wr∧k≤cs.length∧i=.int .i64 k∧Edge nk cs k∧groupC V nk es cs=acc++((keysC nk none (cs.drop k)).map fun key=>(⟨tR8 V es key (runC key cs),1⟩:C2))∧acc.length≤k∧Below w.heap.size w M∧M.cell? ⟨w.heap.size,0,none⟩=some (.int .i64 wh)∧M.cell? ⟨w.heap.size,1,none⟩=some (.int .i64 W)∧M.cell? ⟨w.heap.size,2,none⟩=some (.slice au lu cu)∧M.cell? ⟨w.heap.size,3,none⟩=some (.int .i64 nk)∧M.cell? ⟨w.heap.size,4,none⟩=some (.slice ae es.length ce)∧M.cell? ⟨w.heap.size+1,1,none⟩=some (.slice a cs.length c)) (fun i _=>cs.length - (intOf i).toNat)
 case atStart=>exact⟨_,0,.slice none 0 0,[],[],[],⟨by go_simp,by go_simp,fun q=>by go_simp,by go_simp,by go_simp,fun q=>by go_simp,BagOwn.nil _ _,Below.refl _ _,fun b h1 h2=>by omega,Nat.le_refl _,by simp⟩,Nat.zero_le _,rfl,Run.end_,rfl,Nat.zero_le _,bex,by go_simp,by go_simp,by go_simp,by go_simp,by go_simp,by go_simp⟩
 case round=>
  obtain⟨M,k,y,us,G,acc,hS,hk,rfl,hE,hG,hacc,hbM,m0,m1,m2,m3,m4,m6⟩:=hrel;have HG:Hid (groupC V nk es cs=acc++((keysC nk none (cs.drop k)).map fun key=>(⟨tR8 V es key (runC key cs),1⟩:C2))):=hG;clear hG;have hbig0:=hS.big;have hzM:=bl8 _ _ m6;simp at hzM;have hb:Below w.heap.size w wr:=hbM.trans (hS.bel.mono (by omega));have k6:=(hS.bel.cell (p:=⟨w.heap.size+1,1,none⟩) (by show w.heap.size+1<w.heap.size+1+1;omega)).trans m6;have k3:=(hS.bel.cell (p:=⟨w.heap.size,3,none⟩) (by show w.heap.size<w.heap.size+1+1;omega)).trans m3;have hzb:=hb.size;obtain⟨ay,cy,rfl⟩:=hS.own.shape;by_cases hlt:k<cs.length
  ·obtain⟨rfl,hblt,_⟩:=ha k hlt;obtain⟨x,ux,gx,hx,_,cx0,hRx,_,_⟩:=hC.at hG0 hblt (Below.refl _ _) hlt;obtain⟨ax,nx,rfl⟩:=hRx.shape;have hxW:=(hM.row x (mg8 hx)).1;have hkx:nk≤x.r.length:=by omega
   have hnx:x.r.length≤nx∧nx≤9223372036854775807:=by obtain⟨a',c',ee,h1,h2,_⟩:=id hRx.is;injection ee with _ _ e3;subst e3;unfold maxLen at h2;exact⟨h1,by omega⟩
   have hkI:(k:Int)<cs.length:=by omega
   have hnkx:(nk:Int)≤nx:=by omega
   have hRtx:=hRx.is.take hkx;go_wp2_with fail;go_loopw [7] (fun i wi=> ∃ (j:Nat),k<j∧j≤cs.length∧i=.int .i64 j∧(∀q z,k≤q→q<j→cs[q]?=some z→z.r.take nk=x.r.take nk)∧Below wr.heap.size wr wi) (fun i _=>cs.length - (intOf i).toNat)
   case atStart=>
    refine⟨k+1,by omega,by omega,by simp,fun q z h1 h2 hz=>?_,Below.refl _ _⟩;obtain rfl:q=k:=by omega
    rw[hx]at hz;cases hz;rfl
   case round=>
    obtain⟨wi,HWwi⟩:∃x,x=wr:=⟨wr,rfl⟩;subst HWwi;obtain⟨j,hkj,hjn0,rfl,hsame,hbi⟩:=hrel;have hzi:=hbi.size;have t6:=((bc8 hbi).1 (w.heap.size+1) 1 (by omega)).trans k6;have t3:=((bc8 hbi).1 w.heap.size 3 (by omega)).trans k3;have hbw:Below w.heap.size w wi:=hb.trans (hbi.mono hb.size);by_cases hjl:j<cs.length
    ·obtain⟨z,uz,gz,hzz,_,cz0,hRz,_,_⟩:=hC.at hG0 hblt hbw hjl;obtain⟨az,nz,rfl⟩:=hRz.shape;have hzW:=(hM.row z (mg8 hzz)).1;have hkz:nk≤z.r.length:=by omega
     have hnz:z.r.length≤nz∧nz≤9223372036854775807:=by obtain⟨a',c',ee,h1,h2,_⟩:=id hRz.is;injection ee with _ _ e3;subst e3;unfold maxLen at h2;exact⟨h1,by omega⟩
     have hjI:(j:Int)<cs.length:=by omega
     have hnkz:(nk:Int)≤nz:=by omega
     have hRtz:=hRz.is.take hkz;have cx1:=((bc8 hbw).1 _ _ hblt).trans cx0;have hEq:∀n,Calls Tryz.prog 114 #[.slice ax nk nx,.slice az nk nz] (wi.drewN n) fun e w'=>e=.returned (.bool (eqR (x.r.take nk) (z.r.take nk)))∧∃m,w'=(wi.drewN n).drewN m:=fun n=>equalV_any _ _ _ _ _ (hRtx.below (hbw.trans ((drewN_bel _ _).mono hbw.size))) (hRtz.below (drewN_bel _ _));cases hT:eqR (x.r.take nk) (z.r.take nk)with
     |true=>
      rw[hT]at hEq;have hT':=eqR_iff.1 hT;have hs2:∀q z',k≤q→q<j+1→cs[q]?=some z'→z'.r.take nk=x.r.take nk:=fun q z' h1 h2 h3=>by
       by_cases hq:q<j
       ·exact hsame q z' h1 hq h3
       ·obtain rfl:q=j:=by omega
        rw[hzz]at h3;cases h3;exact hT'.symm
      clear hT hT' hsame hC ha hRx hRz hRtx hRtz hx hzz;go_wp2_with fail;go_quiet (first|(go_at_call 114;refine Calls.quiet_of (hEq _))|fail);go_wp2_with fail;exact⟨⟨j+1,by omega,hjl,by simp,hs2,⟨hbi.os,hbi.tape,hbi.output,hbi.size,hbi.block⟩⟩,by simp[intOf];omega⟩
     |false=>
      rw[hT]at hEq;have hT':¬x.r.take nk=z.r.take nk:=fun e=>by rw[eqR_iff.2 e]at hT;cases hT
      clear hT;go_wp2_with fail;go_quiet (first|(go_at_call 114;refine Calls.quiet_of (hEq _))|fail);have hdq:=drewN_bel wi nq;obtain⟨wq,hwq⟩:∃x,x=wi.drewN nq:=⟨_,rfl⟩;rw[←hwq]at hdq⊢;have hbq:Below wr.heap.size wr wq:=hbi.trans (hdq.mono hzi);have hzq:=hbq.size;clear hwq hdq;have hRun:Run nk cs k j (x.r.take nk):=⟨hkj,hjn0,hsame,fun z' hz' e=>by rw[hzz]at hz';cases hz';exact hT' e.symm⟩;have HK:=hRun.keys;have HR:=hRun.rows hM.toRaw hE hnk;have hE2:=hRun.edge hM.toRaw hE;obtain⟨K,HKK⟩:∃K,Hid (x.r.take nk=K):=⟨_,rfl⟩;rw[HKK.out]at hRun HK HR;have hSi:=hS.below hbq;have hRow:=hGr k j K hRun ⟨x,hx,HKK.out⟩;obtain⟨rr,HRR⟩:∃rr,Hid (tR8 V es K ((cs.drop k).take (j -k))=rr):=⟨_,rfl⟩;rw[HRR.out]at hRow;have HG2:Hid (groupC V nk es cs=(acc++ [⟨rr,1⟩])++(keysC nk none (cs.drop j)).map fun key=>(⟨tR8 V es key (runC key cs),1⟩:C2)):=by
       show _=_;rw[HG.out,HK,List.map_cons,HR,HRR.out,List.append_assoc];rfl
      have hjk:k<j:=hRun.lt;have hjn:j≤cs.length:=hRun.le;have hck:¬ (c=k):=by omega
      have hkI2:(k:Int)≤j:=by omega
      have hjI2:(j:Int)≤c:=by omega
      have hbelM:=hS.bel;have belI:Below (w.heap.size+1+1) M wq:=hbelM.trans (hbq.mono (by have:=hS.big;omega));have i0':=((bcellN belI).1 w.heap.size 0 (by omega)).trans m0;have i1':=((bcellN belI).1 w.heap.size 1 (by omega)).trans m1;have i2':=((bcellN belI).1 w.heap.size 2 (by omega)).trans m2;have i3':=((bcellN belI).1 w.heap.size 3 (by omega)).trans m3;have i4':=((bcellN belI).1 w.heap.size 4 (by omega)).trans m4;have i6':=((bcellN belI).1 (w.heap.size+1) 1 (by omega)).trans m6;have j1':=hSi.p1;have jf:=hSi.pf;have hbig:=hSi.big;have belW:Below w.heap.size w wq:=hbM.trans (belI.mono (by omega));have hml:acc.length+1≤maxLen:=by unfold maxLen;omega
      have hby:(acc.length+1)*32≤140737488355328:=by omega
      have hKl:rr.length≤1048576:=by rw[←HRR.out];unfold tR8;rw[←HKK.out];simp;omega
      clear hGr hRun HK HR hC ha hS hx belI hbelM HKK;go_wp2_with fail;refine startE 13 (fun w'=>w'.cell? ⟨w.heap.size,0,none⟩=some (.int .i64 wh)∧w'.cell? ⟨w.heap.size,1,none⟩=some (.int .i64 W)∧w'.cell? ⟨w.heap.size,2,none⟩=some (.slice au lu cu)∧w'.cell? ⟨w.heap.size,3,none⟩=some (.int .i64 nk)∧w'.cell? ⟨w.heap.size,4,none⟩=some (.slice ae es.length ce)∧w'.cell? ⟨w.heap.size+1,1,none⟩=some (.slice (some ⟨b,o,none⟩) cs.length c)∧w'.cell? ⟨w.heap.size+1+1+1,1,none⟩=some (.slice ay acc.length cy)) (by kernel_rfl) ?_ (fun hHeld=>?_)
      ·(try dsimp only);exact⟨i0',i1',i2',i3',i4',i6',j1'⟩
      refine tkE 0 47 rfl rfl ?_;refine tkE 1 48 rfl rfl ?_;refine tkE 2 49 rfl rfl ?_;refine tkE 3 50 rfl rfl ?_;refine tkE 4 51 rfl rfl ?_;refine tkE 5 52 rfl rfl ?_;refine tkE 6 53 rfl rfl ?_;refine tkE 7 54 rfl rfl ?_;refine oneE (i:=8) (by kernel_rfl) rfl (fun KK hKK=>?_);go_simp;go_at_call 115;refine cM8 (hRow _ bex) ?_;rintro q w2 ⟨⟨u2,g2,rfl,hR2,hO2⟩,hb2⟩;obtain⟨a2,n2,rfl⟩:=hR2.shape;have hz2:=hb2.size;simp at hz2;have bel2:Below wq.heap.size wq w2:=bex;have q0:=((bc8 bel2).1 w.heap.size 0 (by omega)).trans i0';have q1:=((bc8 bel2).1 w.heap.size 1 (by omega)).trans i1';have q2:=((bc8 bel2).1 w.heap.size 2 (by omega)).trans i2';have q3:=((bc8 bel2).1 w.heap.size 3 (by omega)).trans i3';have q4:=((bc8 bel2).1 w.heap.size 4 (by omega)).trans i4';have q6:=((bc8 bel2).1 (w.heap.size+1) 1 (by omega)).trans i6';have q7:=((bc8 bel2).1 (w.heap.size+1+1+1) 1 (by omega)).trans j1';try go_wp2_with fail
      refine hKK.out _ _ ?_ (fun hHeld8=>?_)
      ·intro _
       (try dsimp only);exact⟨q0,q1,q2,q3,q4,q6,q7⟩
      clear hKK;replace hHeld8:=hHeld8 (by decide);refine tkE 9 56 rfl rfl ?_;refine oneE (i:=10) (by kernel_rfl) rfl (fun KK hKK=>?_);go_simp;refine hKK.out _ _ ?_ (fun hHeld10=>?_)
      ·intro _
       (try dsimp only);exact⟨(cb8 (bA8 w2 _ _ (by omega))).trans q0,(cb8 (bA8 w2 _ _ (by omega))).trans q1,(cb8 (bA8 w2 _ _ (by omega))).trans q2,(cb8 (bA8 w2 _ _ (by omega))).trans q3,(cb8 (bA8 w2 _ _ (by omega))).trans q4,(cb8 (bA8 w2 _ _ (by omega))).trans q6,(cb8 (bA8 w2 _ _ (by omega))).trans q7⟩
      clear hKK;replace hHeld10:=hHeld10 (by decide);refine oneE (i:=11) (by kernel_rfl) rfl (fun KK hKK=>?_);have hS2:=hSi.below bel2;have hyl:=oL8 hSi.own.own;refine step_append_lies _ (by rfl) _ _ _ (by rfl) (w.heap.size+1+1+1+1) 96 i0 _ 2 32 Tryz.underlying58 hi hz0 hz1 hz2' rfl (by omega) (.slice ay acc.length cy) acc.length (cc us acc) (by rfl) (hS2.own.own.alloc _) ⟨w2.heap.size,0,none⟩ 1 1 [.slice a2 rr.length n2,.int .i64 1] (by rfl) (by rfl) (World.news_of_block (cs:=#[.slice a2 rr.length n2,.int .i64 1]) (t:=96) (fr:=(0,0)) (heap_alloc_new w2 _)) (by simp[Value.oneCell']) (by omega) hml hby (by simp;omega) (w2.heap.size+1) (by simp) ?_;intro gg cap w3 hown3 hgrow hat hlt3;have hz3:=hgrow.size;simp at hz3;have hat3:(Value.slice (some ⟨gg,0,none⟩) (acc.length+1) cap).ownBlock=(Value.slice ay acc.length cy).ownBlock∨(Value.slice (some ⟨gg,0,none⟩) (acc.length+1) cap).ownBlock=some (w2.heap.size+1):=by
       rcases hat with h|h
       ·left;rw[h];rfl
       ·right;rw[h];rfl
      have far:∀t q,t<w.heap.size+1+1+1+1→w3.cell? ⟨t,q,none⟩=w2.cell? ⟨t,q,none⟩:=fun t q ht=>(cb8 (hgrow.block t (by simp;omega) (fun e=>by have:=(hyl t e.symm).1;omega))).trans (cb8 (bA8 _ _ _ (by omega)));obtain⟨e7,hSp⟩:=GdW.push (x:=⟨rr,1⟩) hSi bel2 hR2 ⟨hO2.1,fun t ht=>by have:=hO2.2.1 t ht;simp at this;omega,hO2.2.2⟩ hown3 hgrow (by simpa using hat3);refine hKK.out _ _ ?_ (fun hHeld11=>?_)
      ·intro _
       (try dsimp only);exact⟨(far _ _ (by omega)).trans q0,(far _ _ (by omega)).trans q1,(far _ _ (by omega)).trans q2,(far _ _ (by omega)).trans q3,(far _ _ (by omega)).trans q4,(far _ _ (by omega)).trans q6,(far _ _ (by omega)).trans q7⟩
      clear hKK;replace hHeld11:=hHeld11 (by decide);refine tkE 12 59 rfl rfl ?_;have f7:∀q,w3.frozen? ⟨w.heap.size+1+1+1,q,none⟩=false:=fun q=>by have:=hSp.pf q;simpa using this
      refine oneE (i:=13) (by kernel_rfl) rfl (fun KK hKK=>?_);go_simp;refine hKK.out _ _ ?_ (fun hHeld13=>?_)
      ·exact fun h=>absurd rfl h
      clear hKK hHeld13;refine doneE (by kernel_rfl) ?_ _;have hal2:(acc++ [(⟨rr,1⟩:C2)]).length≤j:=by simp;omega
      clear hown3 hgrow hat hat3 far hS2 hR2 hO2 hb2 hSi hHeld hHeld8 hHeld10 hHeld11 hRow e7 q0 q1 q2 q3 q4 q6 q7 i0' i1' i2' i3' i4' i6' j1' bel2;go_wp2_with fail;exact⟨⟨M,j,_,_,_,_,hSp,hjn,rfl,hE2,HG2.out,hal2,hbM,m0,m1,m2,m3,m4,m6⟩,by simp[intOf];omega⟩
    ·obtain rfl:j=cs.length:=by omega
     go_wp2_with fail;go_quiet (fail);have hdq:=drewN_bel wi nq;obtain⟨wq,hwq⟩:∃x,x=wi.drewN nq:=⟨_,rfl⟩;rw[←hwq]at hdq⊢;have hbq:Below wr.heap.size wr wq:=hbi.trans (hdq.mono hzi);have hzq:=hbq.size;clear hwq hdq;have hRun:Run nk cs k cs.length (x.r.take nk):=⟨hkj,hjn0,hsame,fun z' hz'=>by rw[List.getElem?_eq_none (Nat.le_refl _)]at hz';cases hz'⟩;have HK:=hRun.keys;have HR:=hRun.rows hM.toRaw hE hnk;have hE2:=hRun.edge hM.toRaw hE;obtain⟨K,HKK⟩:∃K,Hid (x.r.take nk=K):=⟨_,rfl⟩;rw[HKK.out]at hRun HK HR;have hSi:=hS.below hbq;have hRow:=hGr k cs.length K hRun ⟨x,hx,HKK.out⟩;obtain⟨rr,HRR⟩:∃rr,Hid (tR8 V es K ((cs.drop k).take (cs.length -k))=rr):=⟨_,rfl⟩;rw[HRR.out]at hRow;have HG2:Hid (groupC V nk es cs=(acc++ [⟨rr,1⟩])++(keysC nk none (cs.drop cs.length)).map fun key=>(⟨tR8 V es key (runC key cs),1⟩:C2)):=by
      show _=_;rw[HG.out,HK,List.map_cons,HR,HRR.out,List.append_assoc];rfl
     have hjk:k<cs.length:=hRun.lt;have hjn:cs.length≤cs.length:=hRun.le;have hck:¬ (c=k):=by omega
     have hkI2:(k:Int)≤cs.length:=by omega
     have hjI2:(cs.length:Int)≤c:=by omega
     have hbelM:=hS.bel;have belI:Below (w.heap.size+1+1) M wq:=hbelM.trans (hbq.mono (by have:=hS.big;omega));have i0':=((bcellN belI).1 w.heap.size 0 (by omega)).trans m0;have i1':=((bcellN belI).1 w.heap.size 1 (by omega)).trans m1;have i2':=((bcellN belI).1 w.heap.size 2 (by omega)).trans m2;have i3':=((bcellN belI).1 w.heap.size 3 (by omega)).trans m3;have i4':=((bcellN belI).1 w.heap.size 4 (by omega)).trans m4;have i6':=((bcellN belI).1 (w.heap.size+1) 1 (by omega)).trans m6;have j1':=hSi.p1;have jf:=hSi.pf;have hbig:=hSi.big;have belW:Below w.heap.size w wq:=hbM.trans (belI.mono (by omega));have hml:acc.length+1≤maxLen:=by unfold maxLen;omega
     have hby:(acc.length+1)*32≤140737488355328:=by omega
     have hKl:rr.length≤1048576:=by rw[←HRR.out];unfold tR8;rw[←HKK.out];simp;omega
     clear hGr hRun HK HR hC ha hS hx belI hbelM HKK;go_wp2_with fail;refine startE 13 (fun w'=>w'.cell? ⟨w.heap.size,0,none⟩=some (.int .i64 wh)∧w'.cell? ⟨w.heap.size,1,none⟩=some (.int .i64 W)∧w'.cell? ⟨w.heap.size,2,none⟩=some (.slice au lu cu)∧w'.cell? ⟨w.heap.size,3,none⟩=some (.int .i64 nk)∧w'.cell? ⟨w.heap.size,4,none⟩=some (.slice ae es.length ce)∧w'.cell? ⟨w.heap.size+1,1,none⟩=some (.slice (some ⟨b,o,none⟩) cs.length c)∧w'.cell? ⟨w.heap.size+1+1+1,1,none⟩=some (.slice ay acc.length cy)) (by kernel_rfl) ?_ (fun hHeld=>?_)
     ·(try dsimp only);exact⟨i0',i1',i2',i3',i4',i6',j1'⟩
     refine tkE 0 47 rfl rfl ?_;refine tkE 1 48 rfl rfl ?_;refine tkE 2 49 rfl rfl ?_;refine tkE 3 50 rfl rfl ?_;refine tkE 4 51 rfl rfl ?_;refine tkE 5 52 rfl rfl ?_;refine tkE 6 53 rfl rfl ?_;refine tkE 7 54 rfl rfl ?_;refine oneE (i:=8) (by kernel_rfl) rfl (fun KK hKK=>?_);go_simp;go_at_call 115;refine cM8 (hRow _ bex) ?_;rintro q w2 ⟨⟨u2,g2,rfl,hR2,hO2⟩,hb2⟩;obtain⟨a2,n2,rfl⟩:=hR2.shape;have hz2:=hb2.size;simp at hz2;have bel2:Below wq.heap.size wq w2:=bex;have q0:=((bc8 bel2).1 w.heap.size 0 (by omega)).trans i0';have q1:=((bc8 bel2).1 w.heap.size 1 (by omega)).trans i1';have q2:=((bc8 bel2).1 w.heap.size 2 (by omega)).trans i2';have q3:=((bc8 bel2).1 w.heap.size 3 (by omega)).trans i3';have q4:=((bc8 bel2).1 w.heap.size 4 (by omega)).trans i4';have q6:=((bc8 bel2).1 (w.heap.size+1) 1 (by omega)).trans i6';have q7:=((bc8 bel2).1 (w.heap.size+1+1+1) 1 (by omega)).trans j1';try go_wp2_with fail
     refine hKK.out _ _ ?_ (fun hHeld8=>?_)
     ·intro _
      (try dsimp only);exact⟨q0,q1,q2,q3,q4,q6,q7⟩
     clear hKK;replace hHeld8:=hHeld8 (by decide);refine tkE 9 56 rfl rfl ?_;refine oneE (i:=10) (by kernel_rfl) rfl (fun KK hKK=>?_);go_simp;refine hKK.out _ _ ?_ (fun hHeld10=>?_)
     ·intro _
      (try dsimp only);exact⟨(cb8 (bA8 w2 _ _ (by omega))).trans q0,(cb8 (bA8 w2 _ _ (by omega))).trans q1,(cb8 (bA8 w2 _ _ (by omega))).trans q2,(cb8 (bA8 w2 _ _ (by omega))).trans q3,(cb8 (bA8 w2 _ _ (by omega))).trans q4,(cb8 (bA8 w2 _ _ (by omega))).trans q6,(cb8 (bA8 w2 _ _ (by omega))).trans q7⟩
     clear hKK;replace hHeld10:=hHeld10 (by decide);refine oneE (i:=11) (by kernel_rfl) rfl (fun KK hKK=>?_);have hS2:=hSi.below bel2;have hyl:=oL8 hSi.own.own;refine step_append_lies _ (by rfl) _ _ _ (by rfl) (w.heap.size+1+1+1+1) 96 i0 _ 2 32 Tryz.underlying58 hi hz0 hz1 hz2' rfl (by omega) (.slice ay acc.length cy) acc.length (cc us acc) (by rfl) (hS2.own.own.alloc _) ⟨w2.heap.size,0,none⟩ 1 1 [.slice a2 rr.length n2,.int .i64 1] (by rfl) (by rfl) (World.news_of_block (cs:=#[.slice a2 rr.length n2,.int .i64 1]) (t:=96) (fr:=(0,0)) (heap_alloc_new w2 _)) (by simp[Value.oneCell']) (by omega) hml hby (by simp;omega) (w2.heap.size+1) (by simp) ?_;intro gg cap w3 hown3 hgrow hat hlt3;have hz3:=hgrow.size;simp at hz3;have hat3:(Value.slice (some ⟨gg,0,none⟩) (acc.length+1) cap).ownBlock=(Value.slice ay acc.length cy).ownBlock∨(Value.slice (some ⟨gg,0,none⟩) (acc.length+1) cap).ownBlock=some (w2.heap.size+1):=by
      rcases hat with h|h
      ·left;rw[h];rfl
      ·right;rw[h];rfl
     have far:∀t q,t<w.heap.size+1+1+1+1→w3.cell? ⟨t,q,none⟩=w2.cell? ⟨t,q,none⟩:=fun t q ht=>(cb8 (hgrow.block t (by simp;omega) (fun e=>by have:=(hyl t e.symm).1;omega))).trans (cb8 (bA8 _ _ _ (by omega)));obtain⟨e7,hSp⟩:=GdW.push (x:=⟨rr,1⟩) hSi bel2 hR2 ⟨hO2.1,fun t ht=>by have:=hO2.2.1 t ht;simp at this;omega,hO2.2.2⟩ hown3 hgrow (by simpa using hat3);refine hKK.out _ _ ?_ (fun hHeld11=>?_)
     ·intro _
      (try dsimp only);exact⟨(far _ _ (by omega)).trans q0,(far _ _ (by omega)).trans q1,(far _ _ (by omega)).trans q2,(far _ _ (by omega)).trans q3,(far _ _ (by omega)).trans q4,(far _ _ (by omega)).trans q6,(far _ _ (by omega)).trans q7⟩
     clear hKK;replace hHeld11:=hHeld11 (by decide);refine tkE 12 59 rfl rfl ?_;have f7:∀q,w3.frozen? ⟨w.heap.size+1+1+1,q,none⟩=false:=fun q=>by have:=hSp.pf q;simpa using this
     refine oneE (i:=13) (by kernel_rfl) rfl (fun KK hKK=>?_);go_simp;refine hKK.out _ _ ?_ (fun hHeld13=>?_)
     ·exact fun h=>absurd rfl h
     clear hKK hHeld13;refine doneE (by kernel_rfl) ?_ _;have hal2:(acc++ [(⟨rr,1⟩:C2)]).length≤cs.length:=by simp;omega
     clear hown3 hgrow hat hat3 far hS2 hR2 hO2 hb2 hSi hHeld hHeld8 hHeld10 hHeld11 hRow e7 q0 q1 q2 q3 q4 q6 q7 i0' i1' i2' i3' i4' i6' j1' bel2;go_wp2_with fail;exact⟨⟨M,cs.length,_,_,_,_,hSp,hjn,rfl,hE2,HG2.out,hal2,hbM,m0,m1,m2,m3,m4,m6⟩,by simp[intOf];omega⟩
  ·obtain rfl:k=cs.length:=by omega
   have HE:groupC V nk es cs=acc:=by have:=HG.out;rw[List.drop_length]at this;rw[this];exact List.append_nil _
   obtain⟨z0,z1,z2,z3,z4,z5,hBo,z6,z7,z8,hzb'⟩:=hS;clear ha hC hGr;go_wp2;refine bodyPost_ret (v:=.agg #[.int .i64 W,.slice ay acc.length cy]) (by simp[results,Tryz.results89,go_sem, *]) rfl ⟨⟨_,us,G,rfl,?_⟩,?_⟩
   ·rw[HE];refine(hBo.keep (by simp) fun b hb _=>?_).weak (by omega);repeat rw[bS8 _ _ _ _ (by simp;omega)]
   ·repeat (first|(with_reducible exact hb)|(with_reducible refine Below.setCell ?_ ?hh _;case hh=>(simp;try omega)))
end
end Go.Proofs.YtflokiejcjjbiaaGreat
