/- Own texts, joined: contracts that the law's proof goes by. -/
import Derived.Test.YtflokiejcjjbiaaGreatGLFits2
import Derived.Test.YtflokiejcjjbiaaGreatGLFits1
import Derived.Handy
import Derived.Deep.RegionHeld3
import Derived.Test.YtflokiejcjjbiaaGreatGLFits3
set_option maxHeartbeats 16000000
set_option maxRecDepth 100000
set_option linter.unusedVariables false
set_option linter.unusedSimpArgs false
namespace Go.Proofs.YtflokiejcjjbiaaGreat
section
open Go.RowKit
def cmpI (x y:Int):Int:=if x<y then -1 else if y<x then 1 else 0
def cmpS (s t:ByteArray):Int:=if Op.bytesLess s.toList t.toList=true then -1 else if s.toList=t.toList then 0 else 1
def orI (x y z:Int):Int:=if x=0 then(if y=0 then z else y)else x
def cmpV (k n:Int)(s:ByteArray)(k' n':Int)(s':ByteArray):Int:=orI (cmpI k k') (cmpI n n') (cmpS s s')
theorem cmpInt_any (x y:Int)(w:World):Calls Tryz.prog 118 #[.int .i64 x,.int .i64 y] w fun e w'=>e=.returned (.int .i64 (cmpI x y))∧w'=w:=by
 rcases Int.lt_trichotomy x y with h|h|h
 ·go_enter Tryz.func118,Tryz.ntmps118;go_wp2;go_returns;exact⟨by simp[cmpI,h],rfl⟩
 ·subst h;go_enter Tryz.func118,Tryz.ntmps118;go_wp2;go_returns;exact⟨by simp[cmpI],rfl⟩
 ·have h':¬x<y:=by omega
  go_enter Tryz.func118,Tryz.ntmps118;go_wp2;go_returns;exact⟨by simp[cmpI,h,h'],rfl⟩
theorem cmpStr_any (x y:ByteArray)(w:World):Calls Tryz.prog 145 #[.string x,.string y] w fun e w'=>e=.returned (.int .i64 (cmpS x y))∧w'=w:=by
 go_enter Tryz.func145,Tryz.ntmps145;go_wp2;all_goals go_returns
 all_goals(refine⟨ret_int ?_,rfl⟩;simp_all [cmpS])
theorem or_any (b:Nat)(x y z:Int)(w:World)(h0:w.cell? ⟨b,0,none⟩=some (.int .i64 x))(h1:w.cell? ⟨b,1,none⟩=some (.int .i64 y))(h2:w.cell? ⟨b,2,none⟩=some (.int .i64 z)):Calls Tryz.prog 144 #[.slice (some ⟨b,0,none⟩) 3 3] w fun e w'=>e=.returned (.int .i64 (orI x y z))∧w'=w:=by
 go_enter Tryz.func144,Tryz.ntmps144;go_wp2
 go_rounds 4
 all_goals go_returns
 all_goals(refine⟨ret_int ?_,rfl⟩;clear h0 h1 h2;simp_all [orI])
theorem cmpV_lt0 (k n k' n':Int)(s s':ByteArray)(h:k<k'):cmpV k n s k' n' s'= -1:=by simp[cmpV,cmpI,orI,h]
theorem cmpV_gt0 (k n k' n':Int)(s s':ByteArray)(h:k'<k):cmpV k n s k' n' s'=1:=by simp[cmpV,cmpI,orI,h,show ¬k<k' from by omega]
theorem cmpV_lt1 (k n k' n':Int)(s s':ByteArray)(h0:k'≤k)(h1:k≤k')(h:n<n'):cmpV k n s k' n' s'= -1:=by simp[cmpV,cmpI,orI,h,show ¬k<k' from by omega,show ¬k'<k from by omega]
theorem cmpV_gt1 (k n k' n':Int)(s s':ByteArray)(h0:k'≤k)(h1:k≤k')(h:n'<n):cmpV k n s k' n' s'=1:=by simp[cmpV,cmpI,orI,h,show ¬k<k' from by omega,show ¬k'<k from by omega,show ¬n<n' from by omega]
theorem cmpV_s (k n k' n':Int)(s s':ByteArray)(h0:k'≤k)(h1:k≤k')(h2:n'≤n)(h3:n≤n'):cmpV k n s k' n' s'=cmpS s s':=by simp[cmpV,cmpI,orI,show ¬k<k' from by omega,show ¬k'<k from by omega,show ¬n<n' from by omega,show ¬n'<n from by omega]
theorem specCmp_any (k n k' n':Int)(s s':ByteArray)(w:World):Calls Tryz.prog 71 #[(.agg #[.int .i64 k,.int .i64 n,.string s]),(.agg #[.int .i64 k',.int .i64 n',.string s'])] w fun e w'=>e=.returned (.int .i64 (cmpV k n s k' n' s'))∧Below w.heap.size w w':=by
 go_enter Tryz.func71,Tryz.ntmps71;go_wp2;all_goals(go_returns;refine⟨ret_int ?_,?_⟩)
 all_goals first|(go_grown;done)|(rw[cmpV_lt0 _ _ _ _ _ _ (by assumption)];done)|(rw[cmpV_gt0 _ _ _ _ _ _ (by assumption)];done)|(rw[cmpV_lt1 _ _ _ _ _ _ (by assumption) (by assumption) (by assumption)];done)|(rw[cmpV_gt1 _ _ _ _ _ _ (by assumption) (by assumption) (by assumption)];done)|(rw[cmpV_s _ _ _ _ _ _ (by assumption) (by assumption) (by assumption) (by assumption)];simp_all [cmpS];done)
theorem implCmp_any (k n k' n':Int)(s s':ByteArray)(w:World):Calls Tryz.prog 117 #[(.agg #[.int .i64 k,.int .i64 n,.string s]),(.agg #[.int .i64 k',.int .i64 n',.string s'])] w fun e w'=>e=.returned (.int .i64 (cmpV k n s k' n' s'))∧Below w.heap.size w w':=by
 go_enter Tryz.func117,Tryz.ntmps117;go_wp2_with fail;go_region_held3 (fun w'=>w'.cell? ⟨w.heap.size,0,none⟩=some (.int .i64 k)∧w'.cell? ⟨w.heap.size,1,none⟩=some (.int .i64 n)∧w'.cell? ⟨w.heap.size,2,none⟩=some (.string s)∧w'.cell? ⟨w.heap.size+1,0,none⟩=some (.int .i64 k')∧w'.cell? ⟨w.heap.size+1,1,none⟩=some (.int .i64 n')∧w'.cell? ⟨w.heap.size+1,2,none⟩=some (.string s')) (go_keep) (first|(go_at_call 118;refine(cmpInt_any _ _ _).mono ?_;rintro e w' ⟨rfl,rfl⟩)|(go_at_call 145;refine(cmpStr_any _ _ _).mono ?_;rintro e w' ⟨rfl,rfl⟩)|(go_at_call 144;refine cM8 (or_any _ (cmpI k k') (cmpI n n') (cmpS s s') _ ?h0 ?h1 ?h2) ?hk;(case h0=>go_simp);(case h1=>go_simp);(case h2=>go_simp);rintro e w' ⟨rfl,rfl⟩));all_goals go_wp2
 all_goals(go_returns;refine⟨ret_int ?_,?_⟩)
 all_goals first|(go_grown;done)|rfl
end
section
open Go.RowKit
def cmpW (x y:V3):Int:=cmpV x.k x.n x.s y.k y.n y.s
def cR8:List V3→List V3→Int
 | [],[]=>0
 | [],_::_=> -1
 |_::_,[]=>1
 |x::xs,y::ys=>if cmpW x y=0 then cR8 xs ys else cmpW x y
theorem cmpRow_step {vs us:List V3}{k:Nat}{x y:V3}(hx:vs[k]?=some x)(hy:us[k]?=some y):cR8 (vs.drop k) (us.drop k)=if cmpW x y=0 then cR8 (vs.drop (k+1)) (us.drop (k+1))else cmpW x y:=by
 obtain⟨h1,rfl⟩:=gE1 hx;obtain⟨h2,rfl⟩:=gE1 hy;rw[List.drop_eq_getElem_cons h1,List.drop_eq_getElem_cons h2];rfl
theorem cmpRow_end {vs us:List V3}{k:Nat}(hk:k≤vs.length)(hk':k≤us.length)(h:¬ (k<vs.length∧k<us.length)):cR8 (vs.drop k) (us.drop k)=cmpI vs.length us.length:=by
 by_cases h1:k<vs.length
 ·have h2:us.drop k=[]:=by simp;omega
  rw[h2,List.drop_eq_getElem_cons h1];simp only[cR8,cmpI];rw[if_neg (by omega),if_pos (by omega)]
 ·have h2:vs.drop k=[]:=by simp;omega
  rw[h2];by_cases h3:k<us.length
  ·rw[List.drop_eq_getElem_cons h3];simp only[cR8,cmpI];rw[if_pos (by omega)]
  ·have h4:us.drop k=[]:=by simp;omega
   rw[h4];simp only[cR8,cmpI];rw[if_neg (by omega),if_neg (by omega)]
theorem specRow_any (v u:Value)(vs us:List V3)(w:World)(hr:RowIs w v vs)(hu:RowIs w u us):Calls Tryz.prog 49 #[v,u] w fun e w'=>e=.returned (.int .i64 (cR8 vs us))∧Below w.heap.size w w':=by
 obtain⟨a,c,b,o,rfl,hl,hc,ha⟩:=hr.pick;obtain⟨a',c',b',o',rfl,hl',hc',ha'⟩:=hu.pick;unfold maxLen at hc hc';clear hr hu;go_enter Tryz.func49,Tryz.ntmps49;go_wp2;go_loopw [5] (fun i wr=> ∃k:Nat,k≤vs.length∧k≤us.length∧i=.int .i64 k∧Below w.heap.size w wr∧cR8 vs us=cR8 (vs.drop k) (us.drop k)) (fun i _=>vs.length - (intOf i).toNat)
 case atStart=>exact⟨0,Nat.zero_le _,Nat.zero_le _,rfl,by go_grown,by simp⟩
 case round=>
  obtain⟨k,hk,hk',rfl,hb,heq⟩:=hrel;have HE:Hid (cR8 vs us=cR8 (vs.drop k) (us.drop k)):=heq;clear heq;by_cases hlt:k<vs.length
  ·by_cases hlt':k<us.length
   ·have hzb:=hb.size;obtain⟨rfl,hblt,hL⟩:=ha k hlt;obtain⟨rfl,hblt',hL'⟩:=ha' k hlt';obtain⟨x,hx,c0,c1,c2,hbr⟩:=hL.at hblt hb hlt;obtain⟨y,hy,c0',c1',c2',hbr'⟩:=hL'.at hblt' hb hlt';have HS:Hid (cR8 (vs.drop k) (us.drop k)=if cmpW x y=0 then cR8 (vs.drop (k+1)) (us.drop (k+1))else cmpW x y):=cmpRow_step hx hy;clear ha ha' hL hL' hx hy;go_wp2_with fail;go_region_held3 (fun w'=>w'.cell? ⟨b,o+k*3,none⟩=some (.int .i64 x.k)∧w'.cell? ⟨b,o+k*3+1,none⟩=some (.int .i64 x.n)∧w'.cell? ⟨b,o+k*3+2,none⟩=some (.string x.s)∧w'.cell? ⟨b',o'+k*3,none⟩=some (.int .i64 y.k)∧w'.cell? ⟨b',o'+k*3+1,none⟩=some (.int .i64 y.n)∧w'.cell? ⟨b',o'+k*3+2,none⟩=some (.string y.s)) (refine⟨?_,?_,?_,?_,?_,?_⟩<;>first|(go_simp;done)|(exact cL8 (by assumption) (by go_simp))) (first|(go_at_call 71;refine(specCmp_any _ _ _ _ _ _ _).mono ?_;rintro e w1 ⟨rfl,hb1⟩));by_cases hz:cmpV x.k x.n x.s y.k y.n y.s=0
    ·go_wp2
     go_roundw
     case rel=>
      refine⟨k+1,hlt,hlt',by simp,bela,?_⟩;rw[HE.out,HS.out,if_pos (show cmpW x y=0 from hz)]
     case measure=>simp[intOf];omega
    ·go_wp2;go_returns;refine⟨ret_int ?_,bela⟩;rw[HE.out,HS.out,if_neg (show ¬cmpW x y=0 from hz)];rfl
   ·have HN:Hid (cR8 (vs.drop k) (us.drop k)=cmpI vs.length us.length):=cmpRow_end hk hk' (by omega);clear ha ha';go_wp2;all_goals(go_returns;refine⟨ret_int ?_,by first|exact hb|exact bela⟩)
    all_goals(rw[HE.out,HN.out];try rfl)
    all_goals(unfold cmpI;first|(rw[if_pos (by omega)];done)|(rw[if_neg (by omega),if_pos (by omega)];done)|(rw[if_neg (by omega),if_neg (by omega)];done))
  ·have HN:Hid (cR8 (vs.drop k) (us.drop k)=cmpI vs.length us.length):=cmpRow_end hk hk' (by omega);clear ha ha';go_wp2;all_goals(go_returns;refine⟨ret_int ?_,by first|exact hb|exact bela⟩)
   all_goals(rw[HE.out,HN.out];try rfl)
   all_goals(unfold cmpI;first|(rw[if_pos (by omega)];done)|(rw[if_neg (by omega),if_pos (by omega)];done)|(rw[if_neg (by omega),if_neg (by omega)];done))
theorem implRow_any (v u:Value)(vs us:List V3)(w:World)(hr:RowIs w v vs)(hu:RowIs w u us):Calls Tryz.prog 92 #[v,u] w fun e w'=>e=.returned (.int .i64 (cR8 vs us))∧Below w.heap.size w w':=by
 obtain⟨a,c,b,o,rfl,hl,hc,ha⟩:=hr.pick;obtain⟨a',c',b',o',rfl,hl',hc',ha'⟩:=hu.pick;unfold maxLen at hc hc';clear hr hu;go_enter Tryz.func92,Tryz.ntmps92;go_wp2;go_loopw [5] (fun i wr=> ∃k:Nat,k≤vs.length∧k≤us.length∧i=.int .i64 k∧Below w.heap.size w wr∧cR8 vs us=cR8 (vs.drop k) (us.drop k)) (fun i _=>vs.length - (intOf i).toNat)
 case atStart=>exact⟨0,Nat.zero_le _,Nat.zero_le _,rfl,by go_grown,by simp⟩
 case round=>
  obtain⟨k,hk,hk',rfl,hb,heq⟩:=hrel;have HE:Hid (cR8 vs us=cR8 (vs.drop k) (us.drop k)):=heq;clear heq;by_cases hlt:k<vs.length
  ·by_cases hlt':k<us.length
   ·have hzb:=hb.size;obtain⟨rfl,hblt,hL⟩:=ha k hlt;obtain⟨rfl,hblt',hL'⟩:=ha' k hlt';obtain⟨x,hx,c0,c1,c2,hbr⟩:=hL.at hblt hb hlt;obtain⟨y,hy,c0',c1',c2',hbr'⟩:=hL'.at hblt' hb hlt';have HS:Hid (cR8 (vs.drop k) (us.drop k)=if cmpW x y=0 then cR8 (vs.drop (k+1)) (us.drop (k+1))else cmpW x y):=cmpRow_step hx hy;clear ha ha' hL hL' hx hy;go_wp2_with fail;go_region_held3 (fun w'=>w'.cell? ⟨b,o+k*3,none⟩=some (.int .i64 x.k)∧w'.cell? ⟨b,o+k*3+1,none⟩=some (.int .i64 x.n)∧w'.cell? ⟨b,o+k*3+2,none⟩=some (.string x.s)∧w'.cell? ⟨b',o'+k*3,none⟩=some (.int .i64 y.k)∧w'.cell? ⟨b',o'+k*3+1,none⟩=some (.int .i64 y.n)∧w'.cell? ⟨b',o'+k*3+2,none⟩=some (.string y.s)) (refine⟨?_,?_,?_,?_,?_,?_⟩<;>first|(go_simp;done)|(exact cL8 (by assumption) (by go_simp))) (first|(go_at_call 117;refine(implCmp_any _ _ _ _ _ _ _).mono ?_;rintro e w1 ⟨rfl,hb1⟩));by_cases hz:cmpV x.k x.n x.s y.k y.n y.s=0
    ·go_wp2
     go_roundw
     case rel=>
      refine⟨k+1,hlt,hlt',by simp,bela,?_⟩;rw[HE.out,HS.out,if_pos (show cmpW x y=0 from hz)]
     case measure=>simp[intOf];omega
    ·go_wp2;go_returns;refine⟨ret_int ?_,bela⟩;rw[HE.out,HS.out,if_neg (show ¬cmpW x y=0 from hz)];rfl
   ·have HN:Hid (cR8 (vs.drop k) (us.drop k)=cmpI vs.length us.length):=cmpRow_end hk hk' (by omega);clear ha ha';go_wp2_with(go_at_call 118;refine(cmpInt_any _ _ _).mono ?_;rintro e w1 ⟨rfl,rfl⟩);all_goals(go_returns;refine⟨ret_int ?_,by first|exact hb|exact bela⟩)
    all_goals(rw[HE.out,HN.out];try rfl)
    all_goals(unfold cmpI;first|(rw[if_pos (by omega)];done)|(rw[if_neg (by omega),if_pos (by omega)];done)|(rw[if_neg (by omega),if_neg (by omega)];done))
  ·have HN:Hid (cR8 (vs.drop k) (us.drop k)=cmpI vs.length us.length):=cmpRow_end hk hk' (by omega);clear ha ha';go_wp2_with(go_at_call 118;refine(cmpInt_any _ _ _).mono ?_;rintro e w1 ⟨rfl,rfl⟩);all_goals(go_returns;refine⟨ret_int ?_,by first|exact hb|exact bela⟩)
   all_goals(rw[HE.out,HN.out];try rfl)
   all_goals(unfold cmpI;first|(rw[if_pos (by omega)];done)|(rw[if_neg (by omega),if_pos (by omega)];done)|(rw[if_neg (by omega),if_neg (by omega)];done))
end
section
open Go.RowKit
theorem blQ_irrefl:∀ (x:List UInt8),Op.bytesLess x x=false
 | []=>by simp[Op.bytesLess]
 |a::x=>by
  have e:¬a<a:=by simp
  simp[Op.bytesLess,e,blQ_irrefl x]
theorem blQ_total:∀ {x y:List UInt8},Op.bytesLess x y=false→x≠y→Op.bytesLess y x=true
 | [],[],_,h=>absurd rfl h
 | [],b::y,h,_=>by simp[Op.bytesLess]at h
 |a::x,[],_,_=>by simp[Op.bytesLess]
 |a::x,b::y,h,hn=>by
  simp only[Op.bytesLess]at h⊢;rcases Nat.lt_trichotomy a.toNat b.toNat with h1|h1|h1
  ·have e:a<b:=by simp[UInt8.lt_iff_toNat_lt];omega
   simp[e]at h
  ·obtain rfl:a=b:=UInt8.toNat_inj.1 h1;have e:¬a<a:=by simp
   simp[e]at h⊢;exact blQ_total h (by rintro rfl;exact hn rfl)
  ·have e:b<a:=by simp[UInt8.lt_iff_toNat_lt];omega
   simp[e]
theorem blQ_asymm:∀ {x y:List UInt8},Op.bytesLess x y=true→Op.bytesLess y x=false
 | [],[],h=>by simp[Op.bytesLess]at h
 | [],b::y,_=>by simp[Op.bytesLess]
 |a::x,[],h=>by simp[Op.bytesLess]at h
 |a::x,b::y,h=>by
  simp only[Op.bytesLess]at h⊢;rcases Nat.lt_trichotomy a.toNat b.toNat with h1|h1|h1
  ·have e:¬b<a:=by simp[UInt8.lt_iff_toNat_lt];omega
   have e':¬b=a:=by rintro rfl;omega
   simp[e,e']
  ·obtain rfl:a=b:=UInt8.toNat_inj.1 h1;have e:¬a<a:=by simp
   simp[e]at h⊢;exact blQ_asymm h
  ·have e:¬a<b:=by simp[UInt8.lt_iff_toNat_lt];omega
   have e':¬a=b:=by rintro rfl;omega
   simp[e,e']at h
theorem cmpI_flip (x y:Int):cmpI y x= -cmpI x y:=by
 unfold cmpI;rcases Int.lt_trichotomy x y with h|h|h
 ·rw[if_neg (by omega),if_pos h,if_pos h];rfl
 ·rw[if_neg (by omega),if_neg (by omega),if_neg (by omega),if_neg (by omega)];rfl
 ·rw[if_pos h,if_neg (by omega),if_pos h]
theorem cmpS_flip (s t:ByteArray):cmpS t s= -cmpS s t:=by
 unfold cmpS;by_cases h:Op.bytesLess s.toList t.toList=true
 ·have h':=blQ_asymm h;have hne:¬t.toList=s.toList:=fun e=>by rw[e,blQ_irrefl]at h;cases h
  rw[if_neg (by rw[h'];simp),if_neg hne,if_pos h];rfl
 ·by_cases he:s.toList=t.toList
  ·rw[if_neg (by rw[he,blQ_irrefl];simp),if_pos he.symm,if_neg h,if_pos he];rfl
  ·rw[if_pos (blQ_total (by simpa using h) he),if_neg h,if_neg he]
theorem cmpV_flip (k n:Int)(s:ByteArray)(k' n':Int)(s':ByteArray):cmpV k' n' s' k n s= -cmpV k n s k' n' s':=by
 unfold cmpV;rw[cmpI_flip k k',cmpI_flip n n',cmpS_flip s s'];unfold orI;by_cases h:cmpI k k'=0
 ·rw[if_pos (by omega),if_pos h];by_cases h2:cmpI n n'=0
  ·rw[if_pos (by omega),if_pos h2]
  ·rw[if_neg (by omega),if_neg h2]
 ·rw[if_neg (by omega),if_neg h]
end
section
open Go.RowKit
def Onw (w w':World):Prop:=Below w.heap.size w w'∧w.drawn≤w'.drawn
theorem Onw.refl (w:World):Onw w w:=⟨Below.refl _ _,Nat.le_refl _⟩
theorem Onw.trans {a b c:World}(h:Onw a b)(k:Onw b c):Onw a c:=⟨h.1.trans (k.1.mono h.1.size),Nat.le_trans h.2 k.2⟩
theorem Onw.alloc {a b:World}(h:Onw a b)(o:Obj):Onw a (b.alloc o):=⟨h.1.alloc h.1.size o,h.2⟩
theorem Onw.drew {a b:World}(h:Onw a b):Onw a b.drew:=⟨h.1.drew,Nat.le_trans h.2 (Nat.le_succ _)⟩
theorem implCmpD_any (k n k' n':Int)(s s':ByteArray)(w:World):Calls Tryz.prog 117 #[(.agg #[.int .i64 k,.int .i64 n,.string s]),(.agg #[.int .i64 k',.int .i64 n',.string s'])] w fun e w'=>e=.returned (.int .i64 (cmpV k n s k' n' s'))∧Onw w w':=by
 go_enter Tryz.func117,Tryz.ntmps117;go_wp2_with fail;go_region_held3 (fun w'=>w'.cell? ⟨w.heap.size,0,none⟩=some (.int .i64 k)∧w'.cell? ⟨w.heap.size,1,none⟩=some (.int .i64 n)∧w'.cell? ⟨w.heap.size,2,none⟩=some (.string s)∧w'.cell? ⟨w.heap.size+1,0,none⟩=some (.int .i64 k')∧w'.cell? ⟨w.heap.size+1,1,none⟩=some (.int .i64 n')∧w'.cell? ⟨w.heap.size+1,2,none⟩=some (.string s')) (go_keep) (first|(go_at_call 118;refine(cmpInt_any _ _ _).mono ?_;rintro e w' ⟨rfl,rfl⟩)|(go_at_call 145;refine(cmpStr_any _ _ _).mono ?_;rintro e w' ⟨rfl,rfl⟩)|(go_at_call 144;refine cM8 (or_any _ (cmpI k k') (cmpI n n') (cmpS s s') _ ?h0 ?h1 ?h2) ?hk;(case h0=>go_simp);(case h1=>go_simp);(case h2=>go_simp);rintro e w' ⟨rfl,rfl⟩));all_goals go_wp2
 all_goals(go_returns;refine⟨ret_int ?_,?_⟩)
 all_goals first|rfl|(repeat (first|exact Onw.refl _|refine Onw.drew ?_|refine Onw.alloc ?_ _))
theorem implRowD_any (v u:Value)(vs us:List V3)(w:World)(hr:RowIs w v vs)(hu:RowIs w u us):Calls Tryz.prog 92 #[v,u] w fun e w'=>e=.returned (.int .i64 (cR8 vs us))∧Onw w w':=by
 obtain⟨a,c,b,o,rfl,hl,hc,ha⟩:=hr.pick;obtain⟨a',c',b',o',rfl,hl',hc',ha'⟩:=hu.pick;unfold maxLen at hc hc';clear hr hu;go_enter Tryz.func92,Tryz.ntmps92;go_wp2;go_loopw [5] (fun i wr=> ∃k:Nat,k≤vs.length∧k≤us.length∧i=.int .i64 k∧Onw w wr∧cR8 vs us=cR8 (vs.drop k) (us.drop k)) (fun i _=>vs.length - (intOf i).toNat)
 case atStart=>exact⟨0,Nat.zero_le _,Nat.zero_le _,rfl,Onw.refl _,by simp⟩
 case round=>
  obtain⟨k,hk,hk',rfl,hO,heq⟩:=hrel;have hb:=hO.1;have HE:Hid (cR8 vs us=cR8 (vs.drop k) (us.drop k)):=heq;clear heq;by_cases hlt:k<vs.length
  ·by_cases hlt':k<us.length
   ·have hzb:=hb.size;obtain⟨rfl,hblt,hL⟩:=ha k hlt;obtain⟨rfl,hblt',hL'⟩:=ha' k hlt';obtain⟨x,hx,c0,c1,c2,hbr⟩:=hL.at hblt hb hlt;obtain⟨y,hy,c0',c1',c2',hbr'⟩:=hL'.at hblt' hb hlt';have HS:Hid (cR8 (vs.drop k) (us.drop k)=if cmpW x y=0 then cR8 (vs.drop (k+1)) (us.drop (k+1))else cmpW x y):=cmpRow_step hx hy;clear ha ha' hL hL' hx hy;go_wp2_with fail;go_region_held3 (fun w'=>w'.cell? ⟨b,o+k*3,none⟩=some (.int .i64 x.k)∧w'.cell? ⟨b,o+k*3+1,none⟩=some (.int .i64 x.n)∧w'.cell? ⟨b,o+k*3+2,none⟩=some (.string x.s)∧w'.cell? ⟨b',o'+k*3,none⟩=some (.int .i64 y.k)∧w'.cell? ⟨b',o'+k*3+1,none⟩=some (.int .i64 y.n)∧w'.cell? ⟨b',o'+k*3+2,none⟩=some (.string y.s)) (refine⟨?_,?_,?_,?_,?_,?_⟩<;>first|(go_simp;done)|(exact cL8 (by assumption) (by go_simp))) (first|(go_at_call 117;refine(implCmpD_any _ _ _ _ _ _ _).mono ?_;rintro e w1 ⟨rfl,hO1⟩;have hb1:=hO1.1));by_cases hz:cmpV x.k x.n x.s y.k y.n y.s=0
    ·go_wp2
     go_roundw
     case rel=>
      refine⟨k+1,hlt,hlt',by simp,?_,?_⟩
      ·repeat (first|exact hO|refine Onw.drew ?_|refine Onw.trans ?_ hO1)
      rw[HE.out,HS.out,if_pos (show cmpW x y=0 from hz)]
     case measure=>simp[intOf];omega
    ·go_wp2;go_returns;refine⟨ret_int ?_,by(repeat (first|exact hO|refine Onw.drew ?_|refine Onw.trans ?_ hO1))⟩;rw[HE.out,HS.out,if_neg (show ¬cmpW x y=0 from hz)];rfl
   ·have HN:Hid (cR8 (vs.drop k) (us.drop k)=cmpI vs.length us.length):=cmpRow_end hk hk' (by omega);clear ha ha';go_wp2_with(go_at_call 118;refine(cmpInt_any _ _ _).mono ?_;rintro e w1 ⟨rfl,rfl⟩);all_goals(go_returns;refine⟨ret_int ?_,by(repeat (first|exact hO|refine Onw.drew ?_))⟩)
    all_goals(rw[HE.out,HN.out];try rfl)
    all_goals(unfold cmpI;first|(rw[if_pos (by omega)];done)|(rw[if_neg (by omega),if_pos (by omega)];done)|(rw[if_neg (by omega),if_neg (by omega)];done))
  ·have HN:Hid (cR8 (vs.drop k) (us.drop k)=cmpI vs.length us.length):=cmpRow_end hk hk' (by omega);clear ha ha';go_wp2_with(go_at_call 118;refine(cmpInt_any _ _ _).mono ?_;rintro e w1 ⟨rfl,rfl⟩);all_goals(go_returns;refine⟨ret_int ?_,by(repeat (first|exact hO|refine Onw.drew ?_))⟩)
   all_goals(rw[HE.out,HN.out];try rfl)
   all_goals(unfold cmpI;first|(rw[if_pos (by omega)];done)|(rw[if_neg (by omega),if_pos (by omega)];done)|(rw[if_neg (by omega),if_neg (by omega)];done))
theorem ascCmp_any (v u:Value)(vs us:List V3)(n m:Int)(w:World)(hr:RowIs w v vs)(hu:RowIs w u us):Calls Tryz.prog 164 #[.agg #[v,.int .i64 n],.agg #[u,.int .i64 m]] w fun e w'=>e=.returned (.int .i64 (cR8 vs us))∧Onw w w':=by
 obtain⟨a,c,b,o,rfl,_⟩:=hr.pick;obtain⟨a',c',b',o',rfl,_⟩:=hu.pick;have h0:Onw w ((w.alloc (.cells #[.slice a vs.length c,.int .i64 n] 96)).alloc (.cells #[.slice a' us.length c',.int .i64 m] 96)):=((Onw.refl w).alloc _).alloc _;have hcall:=implRowD_any _ _ vs us _ (hr.below h0.1) (hu.below h0.1);go_enter Tryz.func164,Tryz.ntmps164;go_wp2_with(go_at_call 92;refine cM8 hcall ?_;rintro e w1 ⟨rfl,hO1⟩);go_returns;exact⟨rfl,h0.trans hO1⟩
end
end Go.Proofs.YtflokiejcjjbiaaGreat
