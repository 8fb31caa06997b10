/- Own texts, joined: contracts that the law's proof goes by. -/
import Derived.Test.YtflokiejcjjbiaaGreatGLFits2
import Derived.Test.YtflokiejcjjbiaaGreatGLFits22
import Derived.Maps.RangeWalk
import Derived.Handy
import Derived.Test.YtflokiejcjjbiaaGreatGLFits24
import Derived.Test.YtflokiejcjjbiaaGreatGLFits9
import Derived.Test.YtflokiejcjjbiaaGreatGLFits10
import Derived.Shelf.SlSortCmp.WholeK
import Derived.Lib.QuietBelow
set_option maxHeartbeats 16000000
set_option maxRecDepth 100000
set_option linter.unusedVariables false
set_option linter.unusedSimpArgs false
namespace Go.Proofs.YtflokiejcjjbiaaGreat
section
open Go.RowKit
def Rc (v:Value):Option (DataW (Value×Int)×List MemPlace):=match v with
 | .agg cs=>match cs.toList with
  | [.slice a l c,.int .i64 n]=>some (.held (.slice a l c,n),[])
  |_=>none
 |_=>none
theorem Rc_mk (a:Option Addr)(l c:Nat)(n:Int):Rc (.agg #[.slice a l c,.int .i64 n])=some (.held (.slice a l c,n),[]):=rfl
theorem Rc_inv {v:Value}{z:DataW (Value×Int)×List MemPlace}(h:Rc v=some z):∃a l c n,v=.agg #[.slice a l c,.int .i64 n]∧z=(.held (.slice a l c,n),[]):=by
 unfold Rc at h;split at h
 ·rename_i cs
  split at h
  ·rename_i a l c n e
   refine⟨a,l,c,n,?_,(Option.some.inj h).symm⟩;congr 1;exact Array.toList_inj.1 e
  ·cases h
 ·cases h
abbrev DT:=DataW (Value×Int)
def klit (r:List V3):Lit:=.string (rowU r)
theorem klit_key (r:List V3):WideAt.IsKeyLit (klit r):=trivial
theorem klit_inj {W:Int}{r q:List V3}(hr:gR8 W r)(hq:gR8 W q)(h:klit r=klit q):r=q:=hr.inj hq (by unfold klit at h;simpa using h)
def RowB (w:World)(b:Nat)(v:Value)(r:List V3):Prop:=∃g,RowF w v r g∧∀x∈g,x<b
theorem RowB.below {w w':World}{b:Nat}{v:Value}{r:List V3}(h:RowB w b v r)(hb:Below b w w'):RowB w' b v r:=by
 obtain⟨g,hg,hl⟩:=h;exact⟨g,hg.keep hb.size fun x hx=>hb.block x (hl x hx),hl⟩
theorem RowB.mono {w:World}{b b':Nat}{v:Value}{r:List V3}(h:RowB w b v r)(hb:b≤b'):RowB w b' v r:=by
 obtain⟨g,hg,hl⟩:=h;exact⟨g,hg,fun x hx=>Nat.lt_of_lt_of_le (hl x hx) hb⟩
structure TallyOf (w:World)(b:Nat)(D:DT)(W:Int)(cs:List C2):Prop where
 no:∀r,gR8 W r→totC cs r=0→Maps.has D (klit r)=false
 yes:∀r,gR8 W r→totC cs r≠0→∃v,(∀z,D.atKey (klit r) z=.held (v,totC cs r))∧RowB w b v r
 only:∀kl,Maps.has D kl=true→∃r,gR8 W r∧kl=klit r
theorem TallyOf.below {w w':World}{b:Nat}{D:DT}{W:Int}{cs:List C2}(h:TallyOf w b D W cs)(hb:Below b w w'):TallyOf w' b D W cs:=
 ⟨h.no,fun r hr hn=>by obtain⟨v,h1,h2⟩:=h.yes r hr hn;exact⟨v,h1,h2.below hb⟩,h.only⟩
theorem TallyOf.start (w:World)(b:Nat)(W:Int):TallyOf w b (.map []) W []:=
 ⟨fun _ _ _=>rfl,fun _ _ h=>absurd rfl h,fun kl h=>by cases h⟩
theorem TallyOf.at {w:World}{b:Nat}{D:DT}{W:Int}{cs:List C2}(h:TallyOf w b D W cs){r:List V3}(hr:gR8 W r):∃a l c,D.atKey (klit r) (.held (.slice none 0 0,0))=.held (.slice a l c,totC cs r):=by
 by_cases hn:totC cs r=0
 ·exact⟨none,0,0,by rw[hn];exact Maps.atKey_of_not_has (h.no r hr hn) _⟩
 ·obtain⟨v,h1,g,⟨a,c,rfl,_⟩,_⟩:=h.yes r hr hn;exact⟨a,_,c,h1 _⟩
theorem TallyOf.put {w:World}{b:Nat}{D:DT}{W:Int}{cs:List C2}(h:TallyOf w b D W cs)(hD:Maps.IsMap D){r:List V3}(hr:gR8 W r){m:Int}{v:Value}(hv:RowB w b v r)(hs:totC cs r+m≠0):TallyOf w b (D.put (klit r) (.held (v,totC cs r+m))) W (cs++ [⟨r,m⟩]):=by
 refine⟨fun q hq hz=>?_,fun q hq hz=>?_,fun kl hk=>?_⟩
 ·rw[totC_snoc]at hz;by_cases e:r=q
  ·subst e;rw[if_pos (cmpRow_irr _)]at hz;exact absurd hz hs
  ·rw[if_neg (fun e'=>e ((cmpRow_0 _ _).1 e')),Int.add_zero]at hz;rw[Maps.has_put_other (fun e'=>e (klit_inj hq hr e').symm)];exact h.no q hq hz
 ·rw[totC_snoc]at hz⊢;by_cases e:r=q
  ·subst e;rw[if_pos (cmpRow_irr _)];exact⟨v,fun z=>Maps.atKey_put_same hD (klit_key _) _ _,hv⟩
  ·rw[if_neg (fun e'=>e ((cmpRow_0 _ _).1 e')),Int.add_zero]at hz⊢;obtain⟨u,h1,h2⟩:=h.yes q hq hz;exact⟨u,fun z=>by rw[Maps.atKey_put_other (fun e'=>e (klit_inj hq hr e').symm)];exact h1 z,h2⟩
 ·by_cases e:kl=klit r
  ·exact⟨r,hr,e⟩
  ·rw[Maps.has_put_other e]at hk;exact h.only kl hk
theorem TallyOf.del {w:World}{b:Nat}{D:DT}{W:Int}{cs:List C2}(h:TallyOf w b D W cs){r:List V3}(hr:gR8 W r){m:Int}(hs:totC cs r+m=0):TallyOf w b (D.del (klit r)) W (cs++ [⟨r,m⟩]):=by
 refine⟨fun q hq hz=>?_,fun q hq hz=>?_,fun kl hk=>?_⟩
 ·by_cases e:r=q
  ·subst e;exact Maps.has_del_same
  ·rw[totC_snoc,if_neg (fun e'=>e ((cmpRow_0 _ _).1 e')),Int.add_zero]at hz;rw[Maps.has_del_other (fun e'=>e (klit_inj hq hr e').symm)];exact h.no q hq hz
 ·by_cases e:r=q
  ·subst e;rw[totC_snoc,if_pos (cmpRow_irr _)]at hz;exact absurd hs hz
  ·rw[totC_snoc,if_neg (fun e'=>e ((cmpRow_0 _ _).1 e')),Int.add_zero]at hz⊢;obtain⟨u,h1,h2⟩:=h.yes q hq hz;exact⟨u,fun z=>by rw[Maps.atKey_del_other (fun e'=>e (klit_inj hq hr e').symm)];exact h1 z,h2⟩
 ·by_cases e:kl=klit r
  ·rw[e,Maps.has_del_same]at hk;cases hk
  ·rw[Maps.has_del_other e]at hk;exact h.only kl hk
theorem zeroCnt (w:World):(zeroValue 96).run Tryz.prog w=.ok (.agg #[.slice none 0 0,.int .i64 0]) w:=by kernel_rfl
theorem fldCnt (a:Option Addr)(l c:Nat)(n:Int)(w:World):(Instr.field 96 (.agg #[.slice a l c,.int .i64 n]) 1).run Tryz.prog w=.ok (.int .i64 n) w:=by kernel_rfl
def TalIs (w:World)(b n:Nat)(W:Int)(cs:List C2):Prop:=∃D:DT,w.ownsMap Tryz.prog 9 Rc b n D∧TallyOf w b D W cs
def TalAt (w:World)(b B n:Nat)(W:Int)(cs:List C2):Prop:=∃D:DT,w.ownsMap Tryz.prog 9 Rc b n D∧TallyOf w B D W cs
theorem TalAt.lt {w:World}{b B n:Nat}{W:Int}{cs:List C2}(h:TalAt w b B n W cs):b<w.heap.size:=by
 obtain⟨D,h,_⟩:=h;exact h.lt
theorem TalAt.keep {w w':World}{b B n:Nat}{W:Int}{cs:List C2}(h:TalAt w b B n W cs)(hB:B≤w.heap.size)(hb:Below w.heap.size w w'):TalAt w' b B n W cs:=by
 obtain⟨D,h,hT⟩:=h;exact⟨D,h.kept (row:=none) ⟨hb.os,hb.tape,hb.output,hb.size,fun k hk _=>hb.block k hk⟩ (by simp),hT.below (hb.mono hB)⟩
theorem TalIs.lt {w:World}{b n:Nat}{W:Int}{cs:List C2}(h:TalIs w b n W cs):b<w.heap.size:=by
 obtain⟨D,h,_⟩:=h;exact h.lt
theorem TalIs.keep {w w':World}{b n:Nat}{W:Int}{cs:List C2}(h:TalIs w b n W cs)(hb:Below w.heap.size w w'):TalIs w' b n W cs:=by
 have hl:=h.lt;obtain⟨D,h,hT⟩:=h;exact⟨D,h.kept (row:=none) ⟨hb.os,hb.tape,hb.output,hb.size,fun k hk _=>hb.block k hk⟩ (by simp),hT.below (hb.mono (Nat.le_of_lt hl))⟩
theorem add_any (b n:Nat)(W:Int)(cs:List C2)(v:Value)(r:List V3)(m:Int)(w:World)(hT:TalIs w b n W cs)(hv:RowB w b v r)(hr:gR8 W r)(hlen:r.length≤1048576)(hn:n≤4611686018427387904)(hm: -4611686018427387904≤totC cs r+m∧totC cs r+m≤4611686018427387904):Calls Tryz.prog 110 #[.map (some b),v,.int .i64 m] w fun e w'=>e=.returned (.tuple #[])∧TalIs w' b (n+1) W (cs++ [⟨r,m⟩])∧Below b w w':=by
 have hlb:=hT.lt;have hrow:=rowBytes_any v r w (by obtain⟨g,hg,_⟩:=hv;exact hg.is) hr.2 hlen;have hsz:(ByteArray.mk (rowU r).toArray).size≤maxLen:=by
  have:=rowU_len r;show(rowU r).toArray.size≤maxLen;unfold maxLen;simp;omega
 have hkey:keyOf Tryz.prog 9 (.string ⟨(rowU r).toArray⟩)=some (klit r):=by
  rw[WideMaps.keyOf_string_mk Tryz.underlying9 hsz];rfl
 obtain⟨av,cv,rfl⟩:∃a c,v=.slice a r.length c:=by obtain⟨g,⟨a,c,e,_⟩,_⟩:=hv;exact⟨a,c,e⟩
 obtain⟨S,HS⟩:∃S,Hid (totC cs r=S):=⟨_,rfl⟩;rw[HS.out]at hm;have hwi:IntKind.i64.wrap (S+m)=S+m:=by rw[IntKind.wrap_i64];omega
 have hwr:wrap64 (S+m)=S+m:=by unfold wrap64;omega
 go_enter Tryz.func110,Tryz.ntmps110;go_wp2_with fail;refine cM8 hrow ?_;rintro e w1 ⟨rfl,hb1⟩;have hT1:=hT.keep hb1;have hbb:Below b w w1:=hb1.mono (Nat.le_of_lt hlb);have hv1:=hv.below hbb;have hl1:b<w1.heap.size:=hT1.lt;clear hT hv hrow;obtain⟨D,hown,hTD⟩:=hT1;obtain⟨ua,ul,uc,hat⟩:=hTD.at hr;obtain⟨q,ps,hlook,hq⟩:=hown.lookup (t:=174) (e:=96) (Maps.string_keyed Tryz.underlying9) Tryz.underlying174 (zeroCnt w1) (Rc_mk _ _ _ _) hkey;rw[hat,HS.out]at hq;obtain⟨ra,rl,rq,n0,rfl,e0⟩:=Rc_inv hq;obtain⟨⟨⟨rfl,rfl,rfl⟩,rfl⟩,_⟩:((ua=ra∧ul=rl∧uc=rq)∧S=n0)∧ps=[]:=by simpa using e0
 clear hq e0 hat;have hfld:=fldCnt ua ul uc S w1;by_cases hz:S+m=0
 ·have hzb:(S+m==0)=true:=by simpa using hz
  have hTd:=hTD.del hr (m:=m) (by rw[HS.out];exact hz);go_wp2_with(at_delete;refine wpList_delete_own _ rfl _ _ 174 9 rfl 96 (Maps.string_keyed Tryz.underlying9) Tryz.underlying174 _ b n D rfl hown _ _ rfl hkey ?_;intro w2 hown2 hturn2);refine bodyPost_ret (results_none rfl _ _ _) rfl ?_;have hb2:Below b w1 w2:=(Below.refl b w1).grown hturn2.grown (Nat.le_of_lt hl1) (fun k e=>by cases e;exact Nat.le_refl _);exact⟨rfl,⟨_,hown2.mono (Nat.le_succ _),hTd.below hb2⟩,hbb.trans hb2⟩
 ·have hzb:(S+m==0)=false:=by simpa using hz
  have hTp:=hTD.put hown.isMap hr (m:=m) hv1 (by rw[HS.out];exact hz);rw[HS.out]at hTp;go_wp2_with(at_mapUpdate;refine wpList_mapUpdate_in _ rfl _ _ _ 174 rfl 9 96 (Maps.string_keyed Tryz.underlying9) Tryz.underlying174 _ b n D rfl hown (by unfold maxLen;omega) _ _ (klit r) rfl rfl hkey (.held (.slice av r.length cv,S+m)) [] (Rc_mk _ _ _ _) ?_;intro w2 hown2 hturn2)
  go_end0
  have hb2:Below b w1 w2:=(Below.refl b w1).grown hturn2.grown (Nat.le_of_lt hl1) (fun k e=>by cases e;exact Nat.le_refl _);exact⟨rfl,⟨_,hown2,hTp.below hb2⟩,hbb.trans hb2⟩
end
section
open Go.RowKit
theorem RowsF.nth {w w':World}{v:Value}{ds:List C2}{F:List Nat}{b:Nat}(h:RowsF w v ds F)(hF:∀x∈F,x<b)(hb:Below b w w'){k:Nat}(hk:k<ds.length):∃bb oo c x a0 n0,v=.slice (some ⟨bb,oo,none⟩) ds.length c∧ds[k]?=some x∧w'.cell? ⟨bb,oo+k*2,none⟩=some (.slice a0 x.r.length n0)∧w'.cell? ⟨bb,oo+k*2+1,none⟩=some (.int .i64 x.n)∧bb<w'.heap.size∧RowB w' b (.slice a0 x.r.length n0) x.r:=by
 obtain⟨a,c,bb,oo,G,rfl,hl,hc,_,hG,_,hC,ha⟩:=h.pick;obtain⟨rfl,hlt,rfl⟩:=ha k hk;have hbb:bb<b:=hF bb (by simp);have hkG:k<G.length:=by omega
 obtain⟨u,h0,h1,h2⟩:=hC k ds[k] G[k] (by simp) (by simp);have hg:∀x∈G[k],x<b:=fun x hx=>hF x (by simp only[List.mem_cons,List.mem_flatten];exact .inr ⟨G[k],List.getElem_mem hkG,hx⟩);obtain⟨a0,n0,rfl⟩:=h1.shape;exact⟨bb,oo,c,ds[k],a0,n0,rfl,by simp,(cb8 (hb.block bb hbb)).trans h0,(cb8 (hb.block bb hbb)).trans h2,Nat.lt_of_lt_of_le hlt hb.size,G[k],h1.keep hb.size (fun x hx=>hb.block x (hg x hx)),hg⟩
def SmallC (cs:List C2):Prop:=(∀c∈cs,-1000000000≤c.n∧c.n≤1000000000)∧cs.length≤4194304
theorem SmallC.tot {cs ds:List C2}(h:SmallC ds)(hs:∃t,ds=cs++t)(r:List V3): -4294967296000000000≤totC cs r∧totC cs r≤4294967296000000000:=by
 obtain⟨t,rfl⟩:=hs;have h1:=totC_bound (cs:=cs) (M:=1000000000) (fun c hc=>h.1 c (by simp[hc])) (by decide) r;have h2:=h.2;rw[List.length_append]at h2;have:(cs.length:Int)≤4194304:=by omega
 omega
theorem addAll_any (b n:Nat)(W X:Int)(cs ds:List C2)(v:Value)(F:List Nat)(w:World)(hT:TalIs w b n W cs)(hr:RowsF w v ds F)(hF:∀x∈F,x<b)(hg:∀x∈ds,gR8 W x.r)(hwt:wtb ds≤1048576)(hS:SmallC (cs++ds))(hn:n≤1099511627776):Calls Tryz.prog 113 #[.map (some b),.agg #[.int .i64 X,v]] w fun e w'=>e=.returned (.tuple #[])∧TalIs w' b (n+ds.length) W (cs++ds)∧Below b w w':=by
 have hlb:=hT.lt;have hlen:ds.length≤1048576:=by unfold wtb at hwt;omega
 obtain⟨a,c,hv,hcl,hcm⟩:∃a c,v=.slice a ds.length c∧ds.length≤c∧c≤maxLen:=by
  obtain⟨a,c,G,e,h1,h2,_⟩:=hr;exact⟨a,c,e,h1,h2⟩
 unfold maxLen at hcm;subst hv;go_enter Tryz.func113,Tryz.ntmps113;go_wp2;go_loopw [9] (fun i wr=> ∃k:Nat,k≤ds.length∧i=.int .i64 k∧TalIs wr b (n+k) W (cs++ds.take k)∧Below b w wr) (fun i _=>ds.length - (intOf i).toNat)
 case atStart=>
  refine⟨0,Nat.zero_le _,rfl,?_,?_⟩
  ·rw[List.take_zero,List.append_nil];exact hT.keep ((Below.refl _ _).alloc (Nat.le_refl _) _)
  ·exact(Below.refl _ _).alloc (Nat.le_of_lt hlb) _
 case round=>
  obtain⟨k,hk,rfl,hTr,hb⟩:=hrel;by_cases hlt:k<ds.length
  ·obtain⟨bb,oo,c',x,a0,n0,e,hx,c0,c1,hbb,hRow⟩:=hr.nth hF hb hlt;obtain⟨rfl,_,rfl⟩:a=some ⟨bb,oo,none⟩∧ds.length=ds.length∧c=c':=by injection e with e1 e2 e3;exact⟨e1,e2,e3⟩
   have hxg:=hg x (mg8 hx);have hxl:x.r.length≤1048576:=by have:=wt_mem (mg8 hx);unfold wt at this;unfold wtb at hwt;omega
   have HT:Hid (ds.take (k+1)=ds.take k++ [x]):=take_snoc hx;have hlw:=hTr.lt;have hb0:Below wr.heap.size wr (wr.alloc (.cells #[.slice a0 x.r.length n0,.int .i64 x.n] 96)):=(Below.refl _ _).alloc (Nat.le_refl _) _;have hbd1:=hS.tot (cs:=cs++ds.take k++ [x]) ⟨ds.drop (k+1),by rw[List.append_assoc cs,←HT.out,List.append_assoc,List.take_append_drop]⟩ x.r;rw[totC_snoc,if_pos (cmpRow_irr _)]at hbd1;have hcall:=add_any b (n+k) W (cs++ds.take k) (.slice a0 x.r.length n0) x.r x.n _ (hTr.keep hb0) (hRow.below (hb0.mono (Nat.le_of_lt hlw))) hxg hxl (by omega) (by omega);rw[List.append_assoc]at hcall;clear hr hg hx e hRow hS hTr hbd1;go_wp2_with(go_at_call 110;refine cM8 hcall ?_;rintro q w2 ⟨rfl,hT2,hb2⟩);refine⟨⟨k+1,hlt,by simp,by rw[HT.out];exact hT2,hb.trans ((hb0.mono (Nat.le_of_lt hlw)).trans hb2)⟩,by simp[intOf];omega⟩
  ·obtain rfl:k=ds.length:=by omega
   rw[List.take_length]at hTr;clear hr hg hS;go_wp2
   go_end0
   exact⟨rfl,hTr,hb⟩
end
section
open Go.RowKit Go.Sort Go.Shelf Go.Lib
abbrev RowT (w0:World) (b:Nat):={p:Value×C2//RowB w0 b p.1 p.2.r∧p.2.r.length≤1048576}
def rowT0 (w0:World)(b:Nat):RowT w0 b:=⟨(.slice none 0 0,⟨[],0⟩),⟨[],⟨none,0,rfl,by simp,by simp,fun _=>rfl,fun _=>rfl,fun h=>absurd rfl h⟩,fun x hx=>(by cases hx)⟩,by simp⟩
def encT {w0:World}{b:Nat}(x:RowT w0 b):List Value:=[x.1.1,.int .i64 x.1.2.n]
def cfT {w0:World}{b:Nat}(x y:RowT w0 b):Int:=cR8 x.1.2.r y.1.2.r
theorem encT_one {w0:World}{b:Nat}(x:RowT w0 b):∀v∈encT x,v.oneCell'=true:=by
 intro v hv;obtain⟨⟨u,c⟩,⟨g,⟨a,n,e,_⟩,_⟩,_⟩:=x;simp only[encT,List.mem_cons,List.not_mem_nil,or_false]at hv;rcases hv with rfl|rfl
 ·dsimp only at e;rw[e];rfl
 ·rfl
theorem cmpRow_nlt {a c:List V3}(h:¬cR8 a c<0):a=c∨cR8 c a<0:=by
 by_cases e:a=c
 ·exact .inl e
 ·exact .inr (gt_of h e)
theorem ltT {w0:World}{b:Nat}(x y:RowT w0 b):ltOf cfT x y=true↔cR8 x.1.2.r y.1.2.r<0:=by unfold ltOf cfT;exact decide_eq_true_iff
theorem ltF {w0:World}{b:Nat}(x y:RowT w0 b):ltOf cfT x y=false↔¬cR8 x.1.2.r y.1.2.r<0:=by rw[←ltT];simp
theorem cfT_swo {w0:World}{b:Nat}:SWO (ltOf (cfT (w0:=w0) (b:=b))):=by
 refine⟨fun x=>?_,fun x y z h1 h2=>?_,fun x y z h1 h2=>?_⟩
 ·rw[ltF,cmpRow_irr];omega
 ·rw[ltT]at*;exact cmpRow_trans h1 h2
 ·rw[ltF]at*;intro h3;rcases cmpRow_nlt h1 with e|e
  ·rw[←e]at h2;exact h2 h3
  ·exact h2 (cmpRow_trans e h3)
theorem mapBlock_other (w:World)(blk k:Nat)(f:Array Value→Array Value)(h:k≠blk):(mapBlock w blk f).heap[k]?=w.heap[k]?:=by
 simp only[mapBlock,Array.getElem?_modify];rw[if_neg (fun e=>h e.symm)]
theorem sortWorld_kept {α:Type}[Inhabited α](enc:α→List Value)(w:World)(blk off m:Nat)(dk:Array α)(os:Array Obj):(sortWorldK enc 2 w blk off m dk os).os=w.os∧(sortWorldK enc 2 w blk off m dk os).tape=w.tape∧(sortWorldK enc 2 w blk off m dk os).output=w.output∧w.heap.size≤(sortWorldK enc 2 w blk off m dk os).heap.size∧
  ∀k,k<w.heap.size→k≠blk→(sortWorldK enc 2 w blk off m dk os).heap[k]?=w.heap[k]?:=by
 refine⟨rfl,rfl,rfl,size_sortWorldK_c enc 2 w blk off m dk os,fun k hk hne=>?_⟩;unfold sortWorldK;rw[heap_grow_old _ _ (by rw[size_putRowK];exact hk)];exact mapBlock_other _ _ _ _ hne
theorem onw_grow {w w':World}(h:Onw w w'):∃q os',w'=grow (w.drewN q) os':=by
 obtain⟨⟨d,os⟩,e⟩:=regrown_of_below h.1;have hd:w'.drawn=d:=by rw[e];rfl
 refine⟨d -w.drawn,os,?_⟩;rw[e];have h2:=h.2;rw[hd]at h2;show grow {w with drawn:=d} os=grow {w with drawn:=w.drawn+(d -w.drawn)} os;rw[Nat.add_sub_cancel' h2]
theorem sortT_any (w0 w:World)(b blk cap:Nat)(hb:Below b w0 w)(hbb:b≤blk)(hblk:blk<w.heap.size)(ds:List (RowT w0 b))(hlen:ds.length≤4194304)(hH:∀ (i:Nat) (x:RowT w0 b),ds[i]?=some x→w.cell? ⟨blk,i*2,none⟩=some x.1.1∧w.cell? ⟨blk,i*2+1,none⟩=some (.int .i64 x.1.2.n)) (hF:∀o,w.frozen? ⟨blk,o,none⟩=false):Calls Tryz.prog 163 #[.slice (some ⟨blk,0,none⟩) ds.length cap,.func (.func 164) #[] #[]] w fun e w'=>e=.returned (.tuple #[])∧
   ∃ds':List (RowT w0 b),ds'.Perm ds∧(ds'.Pairwise fun x y=>¬cR8 y.1.2.r x.1.2.r<0)∧(∀ (i:Nat) (x:RowT w0 b),ds'[i]?=some x→w'.cell? ⟨blk,i*2,none⟩=some x.1.1∧w'.cell? ⟨blk,i*2+1,none⟩=some (.int .i64 x.1.2.n))∧
   w'.os=w.os∧w'.tape=w.tape∧w'.output=w.output∧w.heap.size≤w'.heap.size∧∀k,k<w.heap.size→k≠blk→w'.heap[k]?=w.heap[k]?:=by
 letI:Inhabited (RowT w0 b):=⟨rowT0 w0 b⟩
 have eg:∀args w,(callFunc 164 args).run Tryz.prog w=.ok (.enter 164 args) w:=enters_of Tryz.func164 (by kernel_rfl) rfl;have hcmp:CmpLays Tryz.prog 164 #[] (encT (w0:=w0) (b:=b)) 2 cfT blk 0 ds.toArray.size w:=by
  intro m os dk _ x y;have hk:=sortWorld_kept (encT (w0:=w0) (b:=b)) w blk 0 m dk os;generalize sortWorldK encT 2 w blk 0 m dk os=W at hk⊢;have hbW:Below b w W:=⟨hk.1,hk.2.1,hk.2.2.1,hk.2.2.2.1,fun k hk1=>hk.2.2.2.2 k (by omega) (by omega)⟩;have hx:RowIs W x.1.1 x.1.2.r:=by obtain⟨g,hg,_⟩:=x.2.1.below (hb.trans hbW);exact hg.is
  have hy:RowIs W y.1.1 y.1.2.r:=by obtain⟨g,hg,_⟩:=y.2.1.below (hb.trans hbW);exact hg.is
  refine cM8 (ascCmp_any x.1.1 y.1.1 x.1.2.r y.1.2.r x.1.2.n y.1.2.n W hx hy) ?_;rintro e w' ⟨rfl,hO⟩;exact⟨rfl,onw_grow hO⟩
 have hH':HoldsK (encT (w0:=w0) (b:=b)) 2 w blk 0 ds.toArray:=by
  intro j hj;rw[size_flatK]at hj;refine⟨?_,hF _⟩;rw[get_flatK _ _ _ _ hj];have hj2:j/2<ds.length:=by simp at hj;omega
  have hx:ds[j/2]?=some ds[j/2]:=by simp[hj2]
  obtain⟨h0,h1⟩:=hH (j/2) ds[j/2] hx;have he:ds.toArray[j/2]! =ds[j/2]:=by simp[hj2]
  rw[he];rcases Nat.mod_two_eq_zero_or_one j with e|e
  ·have:0+j=j/2*2:=by omega
   rw[this,h0,e];rfl
  ·have:0+j=j/2*2+1:=by omega
   rw[this,h1,e];rfl
 have hcon:=AnyQ.slices_SortFunc Tryz.laysSort 2 Tryz.isAgg96 Tryz.sizeOf96 (encT (w0:=w0) (b:=b)) (fun _=>rfl) encT_one cfT cfT_swo 164 #[] blk 0 cap ds.toArray w eg hcmp hH' hblk (by simp;omega);change Calls Tryz.prog 163 _ _ _ at hcon;have hsz:ds.toArray.size=ds.length:=by simp
 rw[hsz]at hcon;refine cM8 hcon ?_;rintro e w' ⟨rfl,d',n,os,hp,hs,rfl⟩;have hk:=sortWorld_kept (encT (w0:=w0) (b:=b)) w blk 0 n d' os;have hds:d'.size=ds.length:=by rw[hp.1];simp
 have hhold:=holdsK_sortWorldK_c (encT (w0:=w0) (b:=b)) 2 w blk 0 ds.toArray d' n os hH' hblk (by rw[hds];simp);refine⟨rfl,d'.toList,?_,?_,?_,hk.1,hk.2.1,hk.2.2.1,hk.2.2.2.1,hk.2.2.2.2⟩
 ·have h3:=hp.2.2;rw[Array.extract_eq_self_of_le (by omega),Array.extract_eq_self_of_le (by simp)]at h3
  simpa using h3
 ·rw[List.pairwise_iff_getElem];intro i j hi hj hij;have hi':i<d'.size:=by simpa using hi
  have hj':j<d'.size:=by simpa using hj
  have h4:=hs i j (Nat.zero_le _) hij (by omega);rw[getElem!_pos d' j hj',getElem!_pos d' i hi',ltF]at h4
  simpa using h4
 ·intro i x hx;obtain⟨hi,rfl⟩:=gE1 hx;have hi':i<d'.size:=by simpa using hi
  have c0:=hhold.cell hi' (show 0<2 by decide);have c1:=hhold.cell hi' (show 1<2 by decide);rw[getElem!_pos d' i hi']at c0 c1;constructor
  ·simpa [encT]using c0.1
  ·simpa [encT]using c1.1
end
section
open Go.RowKit
structure But (b:Nat)(w w':World):Prop where
 os:w'.os=w.os
 tape:w'.tape=w.tape
 output:w'.output=w.output
 size:w.heap.size≤w'.heap.size
 block:∀k,k<w.heap.size→k≠b→w'.heap[k]?=w.heap[k]?
theorem But.of {b:Nat}{w w':World}(h:Below w.heap.size w w'):But b w w':=⟨h.os,h.tape,h.output,h.size,fun k hk _=>h.block k hk⟩
theorem But.trans {b:Nat}{w w1 w2:World}(h:But b w w1)(g:But b w1 w2):But b w w2:=
 ⟨g.os.trans h.os,g.tape.trans h.tape,g.output.trans h.output,Nat.le_trans h.size g.size,fun k hk hn=>(g.block k (Nat.lt_of_lt_of_le hk h.size) hn).trans (h.block k hk hn)⟩
theorem But.below {b N:Nat}{w w':World}(h:But b w w')(hN:N≤b)(hs:b≤w.heap.size):Below N w w':=⟨h.os,h.tape,h.output,h.size,fun k hk=>h.block k (by omega) (by omega)⟩
def RowX (w:World)(b:Nat)(v:Value)(r:List V3):Prop:=∃g,RowF w v r g∧∀x∈g,x≠b
theorem RowX.but {w w':World}{b:Nat}{v:Value}{r:List V3}(h:RowX w b v r)(hb:But b w w'):RowX w' b v r:=by
 obtain⟨g,hg,hl⟩:=h;exact⟨g,hg.keep hb.size fun x hx=>hb.block x (hg.lt x hx) (hl x hx),hl⟩
structure TallyX (w:World)(b:Nat)(D:DT)(W:Int)(cs:List C2):Prop where
 no:∀r,gR8 W r→totC cs r=0→Maps.has D (klit r)=false
 yes:∀r,gR8 W r→totC cs r≠0→∃v,(∀z,D.atKey (klit r) z=.held (v,totC cs r))∧RowX w b v r
 only:∀kl,Maps.has D kl=true→∃r,gR8 W r∧kl=klit r
theorem TallyX.but {w w':World}{b:Nat}{D:DT}{W:Int}{cs:List C2}(h:TallyX w b D W cs)(hb:But b w w'):TallyX w' b D W cs:=
 ⟨h.no,fun r hr hn=>by obtain⟨v,h1,h2⟩:=h.yes r hr hn;exact⟨v,h1,h2.but hb⟩,h.only⟩
theorem TallyX.start (w:World)(b:Nat)(W:Int):TallyX w b (.map []) W []:=
 ⟨fun _ _ _=>rfl,fun _ _ h=>absurd rfl h,fun kl h=>by cases h⟩
theorem TallyX.of {w:World}{b:Nat}{D:DT}{W:Int}{cs:List C2}(h:TallyX w b D W cs):TallyOf w w.heap.size D W cs:=
 ⟨h.no,fun r hr hn=>by obtain⟨v,h1,g,h2,_⟩:=h.yes r hr hn;exact⟨v,h1,g,h2,h2.lt⟩,h.only⟩
theorem TallyX.at {w:World}{b:Nat}{D:DT}{W:Int}{cs:List C2}(h:TallyX w b D W cs){r:List V3}(hr:gR8 W r):∃a l c,D.atKey (klit r) (.held (.slice none 0 0,0))=.held (.slice a l c,totC cs r):=h.of.at hr
theorem TallyX.put {w:World}{b:Nat}{D:DT}{W:Int}{cs:List C2}(h:TallyX w b D W cs)(hD:Maps.IsMap D){r:List V3}(hr:gR8 W r){m:Int}{v:Value}(hv:RowX w b v r)(hs:totC cs r+m≠0):TallyX w b (D.put (klit r) (.held (v,totC cs r+m))) W (cs++ [⟨r,m⟩]):=by
 refine⟨fun q hq hz=>?_,fun q hq hz=>?_,fun kl hk=>?_⟩
 ·rw[totC_snoc]at hz;by_cases e:r=q
  ·subst e;rw[if_pos (cmpRow_irr _)]at hz;exact absurd hz hs
  ·rw[if_neg (fun e'=>e ((cmpRow_0 _ _).1 e')),Int.add_zero]at hz;rw[Maps.has_put_other (fun e'=>e (klit_inj hq hr e').symm)];exact h.no q hq hz
 ·rw[totC_snoc]at hz⊢;by_cases e:r=q
  ·subst e;rw[if_pos (cmpRow_irr _)];exact⟨v,fun z=>Maps.atKey_put_same hD (klit_key _) _ _,hv⟩
  ·rw[if_neg (fun e'=>e ((cmpRow_0 _ _).1 e')),Int.add_zero]at hz⊢;obtain⟨u,h1,h2⟩:=h.yes q hq hz;exact⟨u,fun z=>by rw[Maps.atKey_put_other (fun e'=>e (klit_inj hq hr e').symm)];exact h1 z,h2⟩
 ·by_cases e:kl=klit r
  ·exact⟨r,hr,e⟩
  ·rw[Maps.has_put_other e]at hk;exact h.only kl hk
theorem TallyX.del {w:World}{b:Nat}{D:DT}{W:Int}{cs:List C2}(h:TallyX w b D W cs){r:List V3}(hr:gR8 W r){m:Int}(hs:totC cs r+m=0):TallyX w b (D.del (klit r)) W (cs++ [⟨r,m⟩]):=by
 refine⟨fun q hq hz=>?_,fun q hq hz=>?_,fun kl hk=>?_⟩
 ·by_cases e:r=q
  ·subst e;exact Maps.has_del_same
  ·rw[totC_snoc,if_neg (fun e'=>e ((cmpRow_0 _ _).1 e')),Int.add_zero]at hz;rw[Maps.has_del_other (fun e'=>e (klit_inj hq hr e').symm)];exact h.no q hq hz
 ·by_cases e:r=q
  ·subst e;rw[totC_snoc,if_pos (cmpRow_irr _)]at hz;exact absurd hs hz
  ·rw[totC_snoc,if_neg (fun e'=>e ((cmpRow_0 _ _).1 e')),Int.add_zero]at hz⊢;obtain⟨u,h1,h2⟩:=h.yes q hq hz;exact⟨u,fun z=>by rw[Maps.atKey_del_other (fun e'=>e (klit_inj hq hr e').symm)];exact h1 z,h2⟩
 ·by_cases e:kl=klit r
  ·rw[e,Maps.has_del_same]at hk;cases hk
  ·rw[Maps.has_del_other e]at hk;exact h.only kl hk
def TalX (w:World)(b n:Nat)(W:Int)(cs:List C2):Prop:=∃D:DT,w.ownsMap Tryz.prog 9 Rc b n D∧TallyX w b D W cs
theorem TalX.lt {w:World}{b n:Nat}{W:Int}{cs:List C2}(h:TalX w b n W cs):b<w.heap.size:=by
 obtain⟨D,h,_⟩:=h;exact h.lt
theorem TalX.keep {w w':World}{b n:Nat}{W:Int}{cs:List C2}(h:TalX w b n W cs)(hb:Below w.heap.size w w'):TalX w' b n W cs:=by
 obtain⟨D,h,hT⟩:=h;exact⟨D,h.kept (row:=none) ⟨hb.os,hb.tape,hb.output,hb.size,fun k hk _=>hb.block k hk⟩ (by simp),hT.but (.of hb)⟩
theorem TalX.of {w:World}{b n:Nat}{W:Int}{cs:List C2}(h:TalX w b n W cs):TalAt w b w.heap.size n W cs:=by
 obtain⟨D,h,hT⟩:=h;exact⟨D,h,hT.of⟩
theorem but_of {w w':World}{b:Nat}(h:w.grownBy w' (some b)):But b w w':=by
 have h1:=(Below.refl 0 w).grown h (Nat.zero_le _) (fun k e=>Nat.zero_le _);exact⟨h1.os,h1.tape,h1.output,h.size,fun k hk hn=>h.block k hk (fun e=>hn (by cases e;rfl))⟩
theorem add_x (b n:Nat)(W:Int)(cs:List C2)(v:Value)(r:List V3)(m:Int)(w:World)(hT:TalX w b n W cs)(hv:RowX w b v r)(hr:gR8 W r)(hlen:r.length≤1048576)(hn:n≤4611686018427387904)(hm: -4611686018427387904≤totC cs r+m∧totC cs r+m≤4611686018427387904):Calls Tryz.prog 110 #[.map (some b),v,.int .i64 m] w fun e w'=>e=.returned (.tuple #[])∧TalX w' b (n+1) W (cs++ [⟨r,m⟩])∧But b w w':=by
 have hlb:=hT.lt;have hrow:=rowBytes_any v r w (by obtain⟨g,hg,_⟩:=hv;exact hg.is) hr.2 hlen;have hsz:(ByteArray.mk (rowU r).toArray).size≤maxLen:=by
  have:=rowU_len r;show(rowU r).toArray.size≤maxLen;unfold maxLen;simp;omega
 have hkey:keyOf Tryz.prog 9 (.string ⟨(rowU r).toArray⟩)=some (klit r):=by
  rw[WideMaps.keyOf_string_mk Tryz.underlying9 hsz];rfl
 obtain⟨av,cv,rfl⟩:∃a c,v=.slice a r.length c:=by obtain⟨g,⟨a,c,e,_⟩,_⟩:=hv;exact⟨a,c,e⟩
 obtain⟨S,HS⟩:∃S,Hid (totC cs r=S):=⟨_,rfl⟩;rw[HS.out]at hm;have hwi:IntKind.i64.wrap (S+m)=S+m:=by rw[IntKind.wrap_i64];omega
 have hwr:wrap64 (S+m)=S+m:=by unfold wrap64;omega
 go_enter Tryz.func110,Tryz.ntmps110;go_wp2_with fail;refine cM8 hrow ?_;rintro e w1 ⟨rfl,hb1⟩;have hT1:=hT.keep hb1;have hbb:But b w w1:=.of hb1;have hv1:=hv.but hbb;have hl1:b<w1.heap.size:=hT1.lt;clear hT hv hrow;obtain⟨D,hown,hTD⟩:=hT1;obtain⟨ua,ul,uc,hat⟩:=hTD.at hr;obtain⟨q,ps,hlook,hq⟩:=hown.lookup (t:=174) (e:=96) (Maps.string_keyed Tryz.underlying9) Tryz.underlying174 (zeroCnt w1) (Rc_mk _ _ _ _) hkey;rw[hat,HS.out]at hq;obtain⟨ra,rl,rq,n0,rfl,e0⟩:=Rc_inv hq;obtain⟨⟨⟨rfl,rfl,rfl⟩,rfl⟩,_⟩:((ua=ra∧ul=rl∧uc=rq)∧S=n0)∧ps=[]:=by simpa using e0
 clear hq e0 hat;have hfld:=fldCnt ua ul uc S w1;by_cases hz:S+m=0
 ·have hzb:(S+m==0)=true:=by simpa using hz
  have hTd:=hTD.del hr (m:=m) (by rw[HS.out];exact hz);go_wp2_with(at_delete;refine wpList_delete_own _ rfl _ _ 174 9 rfl 96 (Maps.string_keyed Tryz.underlying9) Tryz.underlying174 _ b n D rfl hown _ _ rfl hkey ?_;intro w2 hown2 hturn2);refine bodyPost_ret (results_none rfl _ _ _) rfl ?_;have hb2:But b w1 w2:=but_of hturn2.grown;exact⟨rfl,⟨_,hown2.mono (Nat.le_succ _),hTd.but hb2⟩,hbb.trans hb2⟩
 ·have hzb:(S+m==0)=false:=by simpa using hz
  have hTp:=hTD.put hown.isMap hr (m:=m) hv1 (by rw[HS.out];exact hz);rw[HS.out]at hTp;go_wp2_with(at_mapUpdate;refine wpList_mapUpdate_in _ rfl _ _ _ 174 rfl 9 96 (Maps.string_keyed Tryz.underlying9) Tryz.underlying174 _ b n D rfl hown (by unfold maxLen;omega) _ _ (klit r) rfl rfl hkey (.held (.slice av r.length cv,S+m)) [] (Rc_mk _ _ _ _) ?_;intro w2 hown2 hturn2)
  go_end0
  have hb2:But b w1 w2:=but_of hturn2.grown;exact⟨rfl,⟨_,hown2,hTp.but hb2⟩,hbb.trans hb2⟩
end
end Go.Proofs.YtflokiejcjjbiaaGreat
