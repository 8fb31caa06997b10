/- Own texts, joined: contracts that the law's proof goes by. -/
import Derived.Test.YtflokiejcjjbiaaGreatGLFits28
import Derived.Test.YtflokiejcjjbiaaGreatGLFits19
import Derived.Test.YtflokiejcjjbiaaGreatGLFits2
import Derived.Handy
import Derived.Deep.RegionHeld3
import Derived.Test.YtflokiejcjjbiaaGreatGLFits20
import Derived.Test.YtflokiejcjjbiaaGreatGLFits13
import Derived.Test.YtflokiejcjjbiaaGreatGLFits14
import Derived.Test.YtflokiejcjjbiaaGreatGLFits17
import Derived.Test.YtflokiejcjjbiaaGreatGLFits6
set_option maxHeartbeats 16000000
set_option maxRecDepth 100000
set_option linter.unusedVariables false
set_option linter.unusedSimpArgs false
namespace Go.Proofs.YtflokiejcjjbiaaGreat
section
open Go.RowKit
def relOf (db:List R3)(s:ByteArray):Option R3:=db.find? fun x=>x.s.toList==s.toList
theorem relOf_step {db:List R3}{s:ByteArray}{k:Nat}{x:R3}(h:db[k]?=some x):relOf (db.drop k) s=if(x.s.toList==s.toList)=true then some x else relOf (db.drop (k+1)) s:=by
 obtain⟨hk,rfl⟩:=gE1 h;unfold relOf;rw[List.drop_eq_getElem_cons hk,List.find?_cons];cases(db[k].s.toList==s.toList)<;>rfl
theorem relOf_mem {db:List R3}{s:ByteArray}{x:R3}(h:relOf db s=some x):x∈db:=List.mem_of_find?_eq_some h
theorem okRs_each:∀ {rs:List R3} {p:Option R3},okRs p rs=true→∀r∈rs,okPlain r.W r.cs=true
 | [],_,_,c,hc=>by cases hc
 |x::r,p,h,c,hc=>by
  rw[okRs,Bool.and_eq_true,Bool.and_eq_true,Bool.and_eq_true]at h;rcases List.mem_cons.1 hc with rfl|hc
  ·exact h.1.1.2
  ·exact okRs_each h.2 c hc
theorem okDb_each {db:List R3}(h:okDb db=true){x:R3}(hx:x∈db):okBag x.W x.cs=true:=by
 simp only[okDb,Bool.and_eq_true]at h;have:=okRs_each h.2 x hx;simp only[okPlain,Bool.and_eq_true]at this;exact this.2
end
section
open Go.RowKit
def colsBelow (W:Int):Nat→E7→Bool
 |0,_=>true
 |f+1,e=>(e.k !=0||decide (e.n<W)) &&e.ks.all (colsBelow W f)
def bE8 (e:E7)(W:Int):Bool:=okE 13 e &&colsBelow W 13 e
theorem colsBelow_iff (W:Int):∀ (f:Nat) (e:E7) (w:World) (d:Nat) (u:Value) (F:List Nat),KidsIs w d u e.ks F→okE f e=true→(colsBelow W f e=true↔∀x∈colsL d e,x<W)
 |0,_,_,_,_,_,_,h=>by cases h
 |f+1,e,w,d,u,F,hk,h=>by
  simp only[okE,Bool.and_eq_true,List.all_eq_true]at h;obtain⟨d,rfl⟩:=hk.succ;have ih:∀k∈e.ks,(colsBelow W f k=true↔∀x∈colsL d k,x<W):=fun k hkm=>by
   obtain⟨_,u',F',hK⟩:=kid_of hk hkm;exact colsBelow_iff W f k w d u' F' hK (h.2 k hkm)
  simp only[colsBelow,Bool.and_eq_true,Bool.or_eq_true,bne_iff_ne,decide_eq_true_eq,List.all_eq_true];constructor
  ·rintro⟨h1,h2⟩ x hx;rcases mem_colsL.1 hx with⟨h0,rfl⟩|⟨k,hkm,hxk⟩
   ·exact h1.elim (fun h=>absurd h0 h) id
   ·exact(ih k hkm).1 (h2 k hkm) x hxk
  ·intro hx;refine⟨?_,fun k hkm=>(ih k hkm).2 fun x hxk=>hx x (mem_colsL.2 (.inr ⟨k,hkm,hxk⟩))⟩;by_cases h0:e.k=0
   ·exact .inr (hx _ (mem_colsL.2 (.inl ⟨h0,rfl⟩)))
   ·exact .inl h0
theorem asc_last {l:List Int}(h:l.Pairwise (· < ·)){W:Int}(hn:l≠ []):(∀x∈l,x<W)↔l.getLast hn<W:=by
 constructor
 ·intro hx;exact hx _ (List.getLast_mem hn)
 ·intro hl x hx;have:l=l.dropLast++ [l.getLast hn]:=(List.dropLast_concat_getLast hn).symm;rw[this]at h hx;rcases List.mem_append.1 hx with hx|hx
  ·have:=(List.pairwise_append.1 h).2.2 x hx _ (List.mem_singleton.2 rfl);omega
  ·rw[List.mem_singleton.1 hx];exact hl
def noneE (e:E7):Bool:=e.k==0 && (e.n==0 && (zeroV e.v && (e.p.toList==[] &&e.ks.length==0)))
def kidsK (k:Int):Int:=if k=0 then 0 else if k=1 then 1 else if k=2 then 1 else if k=3 then 2 else if k=4 then 2 else if k=5 then 1 else if k=6 then 1 else -1
def formP (p:P12):Bool:=(p.k==0||p.s.toList==[]) && ((p.k==1||p.k==3||noneE p.e) && ((p.k==2||p.k==6||p.es.length==0) && ((p.k==6||p.n==0) && ((p.ks.length:Int)==kidsK p.k))))
def relW (rs:List R3)(s:ByteArray):Int:=match relOf rs s with
 |none=>0
 |some x=>x.W
def outW (rs:List R3)(p:P12)(v u:Int):Int:=
 if p.k=0 then relW rs p.s else if p.k=2 then(p.es.length:Int)else if p.k=3 then v+u else if p.k=6 then p.n+1+(p.es.length:Int)else v
def okTop (rs:List R3)(p:P12)(v u:Int):Bool:=
 if p.k=0 then(relOf rs p.s).isSome else if p.k=1 then bE8 p.e v else if p.k=2 then decide (0<p.es.length) &&p.es.all (bE8 · v)else if p.k=3 then bE8 p.e (v+u)else if p.k=4 then v==u else if p.k=6 then(decide (0≤p.n) &&decide (p.n≤v)) &&decide (p.es.length≤1) &&p.es.all (bE8 · v)else true
def wP8 (rs:List R3):Nat→P12→Int
 |0,_=> -1
 |f+1,p=>if((formP p &&p.ks.all fun q=>decide (0≤wP8 rs f q)) && (okTop rs p (wP8 rs f (p.ks.getD 0 .nil)) (wP8 rs f (p.ks.getD 1 .nil)) &&decide (outW rs p (wP8 rs f (p.ks.getD 0 .nil)) (wP8 rs f (p.ks.getD 1 .nil))≤12)))=true
   then outW rs p (wP8 rs f (p.ks.getD 0 .nil)) (wP8 rs f (p.ks.getD 1 .nil))else -1
theorem wL8 (rs:List R3)(f:Nat)(p:P12):wP8 rs f p≤12:=by
 cases f with
 |zero=>unfold wP8;omega
 |succ f=>
  unfold wP8;split
  ·rename_i h;simp only[Bool.and_eq_true,decide_eq_true_eq]at h;exact h.2.2
  ·omega
theorem widthP_inv {rs:List R3}{f:Nat}{p:P12}(h:0≤wP8 rs (f+1) p):formP p=true∧(∀q∈p.ks,0≤wP8 rs f q)∧okTop rs p (wP8 rs f (p.ks.getD 0 .nil)) (wP8 rs f (p.ks.getD 1 .nil))=true∧wP8 rs (f+1) p=outW rs p (wP8 rs f (p.ks.getD 0 .nil)) (wP8 rs f (p.ks.getD 1 .nil)):=by
 unfold wP8 at h;split at h
 ·rename_i h'
  have h0:=h';simp only[Bool.and_eq_true,List.all_eq_true,decide_eq_true_eq]at h';exact⟨h'.1.1,h'.1.2,h'.2.1,by rw[wP8,if_pos h0]⟩
 ·omega
theorem form_kids {p:P12}(h:formP p=true):(p.ks.length:Int)=kidsK p.k:=by
 simp only[formP,Bool.and_eq_true,beq_iff_eq]at h;exact h.2.2.2.2
theorem kidsK_in {k:Int}(h:0≤kidsK k):k=0∨k=1∨k=2∨k=3∨k=4∨k=5∨k=6:=by
 unfold kidsK at h;split at h;exact .inl ‹_›;split at h;exact .inr (.inl ‹_›);split at h;exact .inr (.inr (.inl ‹_›));split at h;exact .inr (.inr (.inr (.inl ‹_›)));split at h;exact .inr (.inr (.inr (.inr (.inl ‹_›))));split at h;exact .inr (.inr (.inr (.inr (.inr (.inl ‹_›)))));split at h;exact .inr (.inr (.inr (.inr (.inr (.inr ‹_›)))));omega
theorem one_kid {l:List P12}(h:(l.length:Int)=1):∃q,l=[q]:=by
 match l,h with
 | [q],_=>exact⟨q,rfl⟩
theorem two_kids {l:List P12}(h:(l.length:Int)=2):∃q r,l=[q,r]:=by
 match l,h with
 | [q,r],_=>exact⟨q,r,rfl⟩
theorem no_kid {l:List P12}(h:(l.length:Int)=0):l=[]:=by
 match l,h with
 | [],_=>rfl
section
variable {rs:List R3} {f:Nat} {p:P12} (h:0≤wP8 rs (f+1) p)
include h
theorem wk_0 (hk:p.k=0):p.ks=[]∧∃x,relOf rs p.s=some x∧wP8 rs (f+1) p=x.W:=by
 obtain⟨h1,h2,h3,h4⟩:=widthP_inv h;have hf:=form_kids h1;rw[hk]at hf;refine⟨no_kid hf,?_⟩;rw[h4];simp only[okTop,outW,hk,if_true]at h3⊢;obtain⟨x,hx⟩:=Option.isSome_iff_exists.1 h3;exact⟨x,hx,by simp[relW,hx]⟩
theorem wk_1 (hk:p.k=1):∃q,p.ks=[q]∧0≤wP8 rs f q∧bE8 p.e (wP8 rs f q)=true∧wP8 rs (f+1) p=wP8 rs f q:=by
 obtain⟨h1,h2,h3,h4⟩:=widthP_inv h;have hf:=form_kids h1;rw[hk]at hf;obtain⟨q,hq⟩:=one_kid hf;rw[h4];rw[hq]at h2 h3⊢;simp[okTop,outW,hk]at h2 h3⊢;exact⟨h2,h3⟩
theorem wk_2 (hk:p.k=2):∃q,p.ks=[q]∧0≤wP8 rs f q∧0<p.es.length∧(∀e∈p.es,bE8 e (wP8 rs f q)=true)∧wP8 rs (f+1) p=p.es.length:=by
 obtain⟨h1,h2,h3,h4⟩:=widthP_inv h;have hf:=form_kids h1;rw[hk]at hf;obtain⟨q,hq⟩:=one_kid hf;rw[h4];rw[hq]at h2 h3⊢;simp[okTop,outW,hk]at h2 h3⊢;exact⟨h2,h3⟩
theorem wk_3 (hk:p.k=3):∃q r,p.ks=[q,r]∧0≤wP8 rs f q∧0≤wP8 rs f r∧bE8 p.e (wP8 rs f q+wP8 rs f r)=true∧wP8 rs (f+1) p=wP8 rs f q+wP8 rs f r:=by
 obtain⟨h1,h2,h3,h4⟩:=widthP_inv h;have hf:=form_kids h1;rw[hk]at hf;obtain⟨q,r,hq⟩:=two_kids hf;rw[h4];refine⟨q,r,hq,?_⟩;rw[hq]at h2 h3⊢;simp[okTop,outW,hk]at h2 h3⊢;exact⟨h2.1,h2.2,h3⟩
theorem wk_4 (hk:p.k=4):∃q r,p.ks=[q,r]∧0≤wP8 rs f q∧wP8 rs f q=wP8 rs f r∧wP8 rs (f+1) p=wP8 rs f q:=by
 obtain⟨h1,h2,h3,h4⟩:=widthP_inv h;have hf:=form_kids h1;rw[hk]at hf;obtain⟨q,r,hq⟩:=two_kids hf;rw[h4];refine⟨q,r,hq,?_⟩;rw[hq]at h2 h3⊢;simp[okTop,outW,hk]at h2 h3⊢;exact⟨h2.1,h3⟩
theorem wk_5 (hk:p.k=5):∃q,p.ks=[q]∧0≤wP8 rs f q∧wP8 rs (f+1) p=wP8 rs f q:=by
 obtain⟨h1,h2,h3,h4⟩:=widthP_inv h;have hf:=form_kids h1;rw[hk]at hf;obtain⟨q,hq⟩:=one_kid hf;rw[h4];rw[hq]at h2⊢;simp[outW,hk]at h2⊢;exact h2
theorem wk_6 (hk:p.k=6):∃q,p.ks=[q]∧0≤wP8 rs f q∧0≤p.n∧p.n≤wP8 rs f q∧p.es.length≤1∧(∀e∈p.es,bE8 e (wP8 rs f q)=true)∧wP8 rs (f+1) p=p.n+1+p.es.length:=by
 obtain⟨h1,h2,h3,h4⟩:=widthP_inv h;have hf:=form_kids h1;rw[hk]at hf;obtain⟨q,hq⟩:=one_kid hf;rw[h4];rw[hq]at h2 h3⊢;simp[okTop,outW,hk]at h2 h3⊢;exact⟨h2,h3.1.1.1,h3.1.1.2,h3.1.2,h3.2⟩
theorem wk_in:p.k=0∨p.k=1∨p.k=2∨p.k=3∨p.k=4∨p.k=5∨p.k=6:=by
 have:=form_kids (widthP_inv h).1;exact kidsK_in (by omega)
end
def isTV (x:V3):Bool:=x.k==2 &&x.n==1
section
variable (V:E7→List V3→V3)
def filtC (e:E7)(cs:List C2):List C2:=cs.filter fun c=>isTV (V e c.r)
def projR (es:List E7)(r:List V3):List V3:=es.map fun e=>V e r
def projL (es:List E7)(cs:List C2):List C2:=cs.map fun c=>⟨projR V es c.r,c.n⟩
def projC (es:List E7)(cs:List C2):List C2:=sumC [] (projL V es cs) 1
def joinR (e:E7)(a:C2)(ds:List C2):List C2:=(ds.filter fun b=>isTV (V e (a.r++b.r))).map fun b=>⟨a.r++b.r,a.n*b.n⟩
def joinC (e:E7)(cs ds:List C2):List C2:=cs.flatMap fun a=>joinR V e a ds
def distC (cs:List C2):List C2:=cs.map fun c=>⟨c.r,1⟩
def runC (key:List V3)(cs:List C2):List C2:=cs.filter fun c=>decide (cR8 (c.r.take key.length) key=0)
def numC (cs:List C2):Int:=(cs.map fun c=>c.n).sum
def addS (e:E7)(s:Option Int)(c:C2):Option Int:=if(V e c.r).k=1 then some (wrap64 (s.getD 0+wrap64 ((V e c.r).n*c.n)))else s
def sumS (e:E7)(cs:List C2):Option Int:=cs.foldl (addS V e) none
def sumV (s:Option Int):V3:=match s with
 |none=>zeroR
 |some x=>⟨1,x,⟨#[]⟩⟩
def tR8 (es:List E7)(key:List V3)(cs:List C2):List V3:=key++⟨1,numC cs,⟨#[]⟩⟩::(es.map fun e=>sumV (sumS V e cs))
def sameKey (p:Option (List V3))(k:List V3):Bool:=match p with
 |none=>false
 |some q=>decide (cR8 q k=0)
def keysC (n:Nat):Option (List V3)→List C2→List (List V3)
 |_,[]=>[]
 |p,c::cs=>if sameKey p (c.r.take n)=true then keysC n p cs else c.r.take n::keysC n (some (c.r.take n)) cs
def groupC (n:Nat)(es:List E7)(cs:List C2):List C2:=(keysC n none cs).map fun key=>⟨tR8 V es key (runC key cs),1⟩
def overC (p:P12)(c d:List C2):List C2:=
 if p.k=1 then filtC V p.e c else if p.k=2 then projC V p.es c else if p.k=3 then joinC V p.e c d else if p.k=4 then sumC c d 1 else if p.k=5 then distC c else groupC V p.n.toNat p.es c
def relC (rs:List R3)(s:ByteArray):List C2:=match relOf rs s with
 |none=>[]
 |some x=>x.cs
def mP8 (rs:List R3):Nat→P12→Bool×List C2
 |0,_=>(false,[])
 |f+1,p=>
  (p.ks.all (fun q=>(mP8 rs f q).1) &&okBag (wP8 rs (f+1) p) (if p.k=0 then relC rs p.s else overC V p (mP8 rs f (p.ks.getD 0 .nil)).2 (mP8 rs f (p.ks.getD 1 .nil)).2),if p.k=0 then relC rs p.s else overC V p (mP8 rs f (p.ks.getD 0 .nil)).2 (mP8 rs f (p.ks.getD 1 .nil)).2)
end
def fitsP (V:E7→List V3→V3)(rs:List R3)(p:P12):Bool:=okDb rs &&decide (0≤wP8 rs 9 p) && (mP8 V rs 9 p).1
end
section
open Go.RowKit
attribute [local go_sem] ta_nullForm_nullForm ta_nullForm_intForm ta_nullForm_boolForm ta_nullForm_textForm ta_intForm_nullForm ta_intForm_intForm ta_intForm_boolForm ta_intForm_textForm ta_boolForm_nullForm ta_boolForm_intForm ta_boolForm_boolForm ta_boolForm_textForm ta_textForm_nullForm ta_textForm_intForm ta_textForm_boolForm ta_textForm_textForm ta_nil_nullForm ta_nil_intForm ta_nil_boolForm ta_nil_textForm
theorem ret_bT {b b':Bool}(h:b=b'):Ending.returned (.bool b)=.returned (.bool b'):=by rw[h]
theorem implIsTv_any (x:V3)(w:World):Calls Tryz.prog 109 #[(.agg #[.int .i64 x.k,.int .i64 x.n,.string x.s])] w fun e w'=>e=.returned (.bool (isTV x))∧Below w.heap.size w w':=by
 unfold isTV;generalize x.k=k;generalize x.n=n;generalize x.s=s;go_enter Tryz.func109,Tryz.ntmps109;go_wp2;all_goals(go_returns;refine⟨ret_bT ?_,by go_grown⟩)
 all_goals first|(simp_all;done)|(simp_all;omega)
theorem specIsTv_any (x:V3)(w:World):Calls Tryz.prog 73 #[(.agg #[.int .i64 x.k,.int .i64 x.n,.string x.s])] w fun e w'=>e=.returned (.bool (isTV x))∧Below w.heap.size w w':=by
 unfold isTV;generalize x.k=k;generalize x.n=n;generalize x.s=s;go_enter Tryz.func73,Tryz.ntmps73;go_wp2;all_goals(go_returns;refine⟨ret_bT ?_,by go_grown⟩)
 all_goals first|(simp_all;done)|(simp_all;omega)
end
end Go.Proofs.YtflokiejcjjbiaaGreat
