/- Own texts, joined: contracts that the law's proof goes by. -/
import Derived.Test.YteekfcdllaceoaaGreatDoorGLAnswer1
import Derived.Handy
import Derived.Deep.RegionHeld3
import Derived.Laws.Bits64b
import Derived.OwnWalk
import Derived.Lib.SmallJoins
import Derived.Lib.AppendStr
import Derived.Laws.BytesArg
import Derived.Laws.OwnMore
import Derived.Shelf.Strings.Builder1
import Derived.Maps.RangeWalk
set_option maxHeartbeats 16000000
set_option maxRecDepth 100000
set_option linter.unusedVariables false
set_option linter.unusedSimpArgs false
namespace Go.Proofs.YteekfcdllaceoaaGreatDoor
section
open Go.RowKit
theorem A5Z:∀ (x:List UInt8),Op.bytesLess x x=false
 | []=>rfl
 |a::l=>by
  have ih:=A5Z l;simp[Op.bytesLess,ih]
theorem A8x:∀ {x y z:List UInt8},Op.bytesLess x y=true->Op.bytesLess y z=true->Op.bytesLess x z=true
 | [],[],_,h,_=>by simp[Op.bytesLess]at h
 | [],_::_,[],_,h=>by simp[Op.bytesLess]at h
 | [],_::_,_::_,_,_=>by simp[Op.bytesLess]
 |_::_,[],_,h,_=>by simp[Op.bytesLess]at h
 |_::_,_::_,[],_,h=>by simp[Op.bytesLess]at h
 |a::l,b::m,c::n,h,k=>by
  have ih:= @A8x l m n;simp only[Op.bytesLess,Bool.or_eq_true,Bool.and_eq_true,decide_eq_true_eq,beq_iff_eq]at h k⊢;rcases h with h|⟨rfl,h⟩
  ·rcases k with k|⟨rfl,k⟩
   ·exact Or.inl (UInt8.lt_trans h k)
   ·exact Or.inl h
  ·rcases k with k|⟨rfl,k⟩
   ·exact Or.inl k
   ·exact Or.inr ⟨rfl,ih h k⟩
theorem A4N (x y:Int):I0 x y=0↔x=y:=by unfold I0;split<;>(try split)<;>omega
theorem A7t (x y:Int):I0 x y<0↔x<y:=by unfold I0;split<;>(try split)<;>omega
theorem B9P (s t:ByteArray):V8 s t=0↔s.toList=t.toList:=by
 unfold V8;by_cases h:s.toList=t.toList
 ·rw[h,A5Z];simp
 ·simp[h];split<;>simp
theorem A5t (s t:ByteArray):V8 s t<=0↔(Op.bytesLess s.toList t.toList=true\/s.toList=t.toList):=by
 unfold V8;by_cases h:Op.bytesLess s.toList t.toList=true
 ·simp[h]
 ·by_cases e:s.toList=t.toList
  ·rw[e,A5Z];simp
  ·simp[h,e]
theorem B4m (k n:Int)(s:ByteArray)(k' n':Int)(s':ByteArray):(I5 k n s k' n' s'==0)=(k==k' && (n==n' &&s.toList==s'.toList)):=by
 have a:=A4N k k';have b:=A4N n n';have c:=B9P s s';have:(I5 k n s k' n' s'=0)↔(k=k'/\n=n'/\s.toList=s'.toList):=by
  unfold I5 orI;rw[<-a,<-b,<-c];by_cases h:I0 k k'=0
  ·by_cases g:I0 n n'=0
   ·simp[h,g]
   ·simp[h,g]
  ·simp[h]
 rw[Bool.eq_iff_iff];simp[this]
theorem B23 (k n:Int)(s:ByteArray)(k' n':Int)(s':ByteArray):I5 k n s k' n' s'<=0↔(k<k'\/(k=k'/\(n<n'\/(n=n'/\V8 s s'<=0)))):=by
 have a:=A4N k k';have b:=A4N n n';have a':=A7t k k';have b':=A7t n n';unfold I5 orI;by_cases h:I0 k k'=0
 ·by_cases g:I0 n n'=0
  ·simp only[h,g,if_true];omega
  ·simp only[h,g,if_true,if_false];omega
 ·simp only[h,if_false];omega
theorem B8H {k n:Int}{s:ByteArray}{k' n':Int}{s':ByteArray}{k2 n2:Int}{s2:ByteArray}(h:I5 k n s k' n' s'<=0)(g:I5 k' n' s' k2 n2 s2<=0):I5 k n s k2 n2 s2<=0:=by
 have st:V8 s s'<=0->V8 s' s2<=0->V8 s s2<=0:=by
  rw[A5t,A5t,A5t];rintro(h|h) (g|g)
  ·exact Or.inl (A8x h g)
  ·exact Or.inl (g▸h)
  ·exact Or.inl (h▸g)
  ·exact Or.inr (h.trans g)
 rw[B23]at*;rcases h with h|⟨rfl,h⟩
 ·rcases g with g|⟨rfl,g⟩
  ·exact Or.inl (by omega)
  ·exact Or.inl h
 ·rcases g with g|⟨rfl,g⟩
  ·exact Or.inl g
  ·refine Or.inr ⟨rfl,?_⟩;rcases h with h|⟨rfl,h⟩
   ·rcases g with g|⟨rfl,g⟩
    ·exact Or.inl (by omega)
    ·exact Or.inl h
   ·rcases g with g|⟨rfl,g⟩
    ·exact Or.inl g
    ·exact Or.inr ⟨rfl,st h g⟩
theorem A56:∀ (x:List UInt8),Op.bytesLess x x=false
 | []=>by simp[Op.bytesLess]
 |a::x=>by
  have e:¬a<a:=by simp
  simp[Op.bytesLess,e,A56 x]
theorem B2H:∀ {x y:List UInt8},Op.bytesLess x y=false->x≠y->Op.bytesLess y x=true
 | [],[],_,h=>absurd rfl h
 | [],b::y,h,_=>by simp[Op.bytesLess]at h
 |a::x,[],_,_=>by simp[Op.bytesLess]
 |a::x,b::y,h,hn=>by
  simp only[Op.bytesLess]at h⊢;rcases Nat.lt_trichotomy a.toNat b.toNat with h1|h1|h1
  ·have e:a<b:=by simp[UInt8.lt_iff_toNat_lt];omega
   simp[e]at h
  ·obtain rfl:a=b:=UInt8.toNat_inj.1 h1;have e:¬a<a:=by simp
   simp[e]at h⊢;exact B2H h (by rintro rfl;exact hn rfl)
  ·have e:b<a:=by simp[UInt8.lt_iff_toNat_lt];omega
   simp[e]
theorem A8C:∀ {x y:List UInt8},Op.bytesLess x y=true->Op.bytesLess y x=false
 | [],[],h=>by simp[Op.bytesLess]at h
 | [],b::y,_=>by simp[Op.bytesLess]
 |a::x,[],h=>by simp[Op.bytesLess]at h
 |a::x,b::y,h=>by
  simp only[Op.bytesLess]at h⊢;rcases Nat.lt_trichotomy a.toNat b.toNat with h1|h1|h1
  ·have e:¬b<a:=by simp[UInt8.lt_iff_toNat_lt];omega
   have e':¬b=a:=by rintro rfl;omega
   simp[e,e']
  ·obtain rfl:a=b:=UInt8.toNat_inj.1 h1;have e:¬a<a:=by simp
   simp[e]at h⊢;exact A8C h
  ·have e:¬a<b:=by simp[UInt8.lt_iff_toNat_lt];omega
   have e':¬a=b:=by rintro rfl;omega
   simp[e,e']at h
theorem B0J (x y:Int):I0 y x= -I0 x y:=by
 unfold I0;rcases Int.lt_trichotomy x y with h|h|h
 ·rw[if_neg (by omega),if_pos h,if_pos h];rfl
 ·rw[if_neg (by omega),if_neg (by omega),if_neg (by omega),if_neg (by omega)];rfl
 ·rw[if_pos h,if_neg (by omega),if_pos h]
theorem B5Z (s t:ByteArray):V8 t s= -V8 s t:=by
 unfold V8;by_cases h:Op.bytesLess s.toList t.toList=true
 ·have h':=A8C h;have hne:¬t.toList=s.toList:=fun e=>by rw[e,A56]at h;cases h
  rw[if_neg (by rw[h'];simp),if_neg hne,if_pos h];rfl
 ·by_cases he:s.toList=t.toList
  ·rw[if_neg (by rw[he,A56];simp),if_pos he.symm,if_neg h,if_pos he];rfl
  ·rw[if_pos (B2H (by simpa using h) he),if_neg h,if_neg he]
theorem C1v (k n:Int)(s:ByteArray)(k' n':Int)(s':ByteArray):I5 k' n' s' k n s= -I5 k n s k' n' s':=by
 unfold I5;rw[B0J k k',B0J n n',B5Z s s'];unfold orI;by_cases h:I0 k k'=0
 ·rw[if_pos (by omega),if_pos h];by_cases h2:I0 n n'=0
  ·rw[if_pos (by omega),if_pos h2]
  ·rw[if_neg (by omega),if_neg h2]
 ·rw[if_neg (by omega),if_neg h]
theorem B3n {s t:ByteArray}(h:s.toList=t.toList):s=t:=by
 rw[ByteArray.toList_eq,ByteArray.toList_eq]at h;cases s;cases t;simp at h;rw[h]
theorem A34 (x y:V3):M2 x y=0↔x=y:=by
 have h:=B4m x.k x.n x.s y.k y.n y.s;rw[Bool.eq_iff_iff]at h;simp only[beq_iff_eq,Bool.and_eq_true]at h;unfold M2;rw[h];constructor
 ·rintro⟨h1,h2,h3⟩;obtain⟨k,n,s⟩:=x;obtain⟨k',n',s'⟩:=y;have:=B3n h3;simp at h1 h2 this;rw[h1,h2,this]
 ·rintro rfl;exact⟨rfl,rfl,rfl⟩
theorem A7v (x y:V3):M2 y x= -M2 x y:=C1v _ _ _ _ _ _
theorem C09 {x y z:V3}(h:M2 x y<=0)(g:M2 y z<=0):M2 x z<=0:=B8H h g
theorem A49:∀ (a b:List V3),cR8 b a= -cR8 a b
 | [],[]=>rfl
 | [],_::_=>rfl
 |_::_,[]=>rfl
 |x::xs,y::ys=>by
  have h:=A7v x y;simp only[cR8];rw[h,A49 xs ys];by_cases h0:M2 x y=0
  ·rw[if_pos (by omega),if_pos h0]
  ·rw[if_neg (by omega),if_neg h0]
theorem K7:∀ (a b:List V3),cR8 a b=0↔a=b
 | [],[]=>by simp[cR8]
 | [],_::_=>by simp[cR8]
 |_::_,[]=>by simp[cR8]
 |x::xs,y::ys=>by
  simp only[cR8];by_cases h0:M2 x y=0
  ·rw[if_pos h0,K7 xs ys,(A34 x y).1 h0];simp
  ·rw[if_neg h0];constructor
   ·intro h;exact absurd h h0
   ·intro h;injection h with h1 _;exact absurd ((A34 x y).2 h1) h0
theorem A1F:∀ {a b c:List V3},cR8 a b<0->cR8 b c<0->cR8 a c<0
 | [],[],_,h,_=>by simp[cR8]at h
 | [],_::_,[],_,h=>by simp[cR8]at h
 | [],_::_,_::_,_,_=>by simp[cR8]
 |_::_,[],_,h,_=>by simp[cR8]at h
 |_::_,_::_,[],_,h=>by simp[cR8]at h
 |x::xs,y::ys,z::zs,h,k=>by
  have ih:= @A1F xs ys zs;simp only[cR8]at h k⊢;by_cases h0:M2 x y=0
  ·rw[if_pos h0]at h;obtain rfl:=(A34 x y).1 h0;by_cases k0:M2 x z=0
   ·rw[if_pos k0]at k⊢;exact ih h k
   ·rw[if_neg k0]at k⊢;exact k
  ·rw[if_neg h0]at h;by_cases k0:M2 y z=0
   ·obtain rfl:=(A34 y z).1 k0;rw[if_neg h0];exact h
   ·rw[if_neg k0]at k;have h1:=C09 (x:=x) (y:=y) (z:=z) (by omega) (by omega);have h2:M2 x z≠0:=by
     intro e;obtain rfl:=(A34 x z).1 e;have:=A7v x y;omega
    rw[if_neg h2];omega
theorem Y8 (a:List V3):cR8 a a=0:=(K7 a a).2 rfl
def Asc (cs:List C2):Prop:=cs.Pairwise fun x y=>cR8 x.r y.r<0
def ahead (cs:List C2)(row:List V3):Nat:=(cs.takeWhile fun c=>decide (cR8 c.r row<0)).length
theorem B2L (cs:List C2)(row:List V3):ahead cs row<=cs.length:=by
 unfold ahead;induction cs with
 |nil=>simp
 |cons c cs ih=>
  rw[List.takeWhile_cons];split
  ·simp only[List.length_cons];omega
  ·simp
theorem A42:∀ {cs:List C2} {row:List V3} {i:Nat} {c:C2},Asc cs->cs[i]?=some c->(i<ahead cs row↔cR8 c.r row<0)
 | [],_,i,c,_,h=>by simp at h
 |x::cs,row,i,c,ha,h=>by
  have ha':=List.pairwise_cons.1 ha;unfold ahead;rw[List.takeWhile_cons];by_cases hx:cR8 x.r row<0
  ·rw[if_pos (by simpa using hx),List.length_cons];cases i with
   |zero=>simp at h;subst h;simp[hx]
   |succ i=>
    have:=A42 (row:=row) ha'.2 (i:=i) (c:=c) (by simpa using h);unfold ahead at this;rw[<-this];omega
  ·rw[if_neg (by simpa using hx)];cases i with
   |zero=>simp at h;subst h;simp;omega
   |succ i=>
    have hc:cR8 x.r c.r<0:=ha'.1 c (mg8 (by simpa using h));have:¬cR8 c.r row<0:=fun hcr=>hx (A1F hc hcr);simp[this]
def E5 (cs:List C2)(row:List V3)(n:Int):List C2:=
 match cs[ahead cs row]? with
 |some c=>if cR8 c.r row=0 then(if n+c.n≠0 then cs.set (ahead cs row) ⟨c.r,n+c.n⟩else cs.take (ahead cs row)++cs.drop (ahead cs row+1))else if n≠0 then cs.take (ahead cs row)++⟨row,n⟩::cs.drop (ahead cs row)else cs
 |none=>if n≠0 then cs.take (ahead cs row)++⟨row,n⟩::cs.drop (ahead cs row)else cs
def K6 (cs:List C2)(row:List V3):Int:=match cs.find? (fun c=>decide (cR8 c.r row=0))with|some c=>c.n|none=>0
theorem A9t (row:List V3):K6 [] row=0:=rfl
theorem A1o (c:C2)(cs:List C2)(row:List V3):K6 (c::cs) row=if cR8 c.r row=0 then c.n else K6 cs row:=by
 unfold K6;rw[List.find?_cons];by_cases h:cR8 c.r row=0
 ·rw[if_pos h];simp[h]
 ·rw[if_neg h];simp[h]
theorem A1R (c:C2)(cs:List C2):K6 (c::cs) c.r=c.n:=by rw[A1o,if_pos (Y8 _)]
theorem A2a {c:C2}{row:List V3}(cs:List C2)(h:c.r≠row):K6 (c::cs) row=K6 cs row:=by rw[A1o,if_neg (fun e=>h ((K7 _ _).1 e))]
theorem A2W {cs:List C2}{row:List V3}(h:∀c∈cs,c.r≠row):K6 cs row=0:=by
 induction cs with
 |nil=>rfl
 |cons c cs ih=>rw[A2a _ (h c List.mem_cons_self)];exact ih fun x hx=>h x (List.mem_cons_of_mem _ hx)
theorem A3O {a b:List C2}{row:List V3}(h:∀c∈a,c.r≠row):K6 (a++b) row=K6 b row:=by
 induction a with
 |nil=>rfl
 |cons c cs ih=>rw[List.cons_append,A2a _ (h c List.mem_cons_self)];exact ih fun x hx=>h x (List.mem_cons_of_mem _ hx)
theorem Asc.ne {c:C2}{cs:List C2}(h:Asc (c::cs)):∀x∈cs,x.r≠c.r:=fun x hx e=>by
 have:=(List.pairwise_cons.1 h).1 x hx;rw[e,Y8]at this;omega
theorem A6S:∀ {cs ds:List C2},Asc cs->Asc ds->(∀c∈cs,c.n≠0)->(∀c∈ds,c.n≠0)->(∀row,K6 cs row=K6 ds row)->cs=ds
 | [],[],_,_,_,_,_=>rfl
 | [],d::ds,_,_,_,hz,h=>by
  have:=h d.r;rw[A9t,A1R]at this;exact absurd this.symm (hz d List.mem_cons_self)
 |c::cs,[],_,_,hz,_,h=>by
  have:=h c.r;rw[A9t,A1R]at this;exact absurd this (hz c List.mem_cons_self)
 |c::cs,d::ds,hc,hd,zc,zd,h=>by
  have hc':=List.pairwise_cons.1 hc;have hd':=List.pairwise_cons.1 hd;have hin:∀ {x:C2} {xs ys:List C2},(∀y∈ys,y.n≠0)->K6 (x::xs) x.r=K6 ys x.r->x.n≠0->∃y∈ys,y.r=x.r:=by
   intro x xs ys _ e hx;rw[A1R]at e;rcases Classical.em (∃y∈ys,y.r=x.r)with hy|hy
   ·exact hy
   ·rw[A2W (fun y hy' e'=>hy ⟨y,hy',e'⟩)]at e;exact absurd e hx
  have hr:c.r=d.r:=by
   obtain⟨y,hy,ey⟩:=hin zd (h c.r) (zc c List.mem_cons_self);obtain⟨z,hz,ez⟩:=hin zc (h d.r).symm (zd d List.mem_cons_self);rcases List.mem_cons.1 hy with rfl|hy
   ·exact ey.symm
   rcases List.mem_cons.1 hz with rfl|hz
   ·exact ez
   have h1:=hd'.1 y hy;have h2:=hc'.1 z hz;rw[ey]at h1;rw[ez]at h2;have:=A49 c.r d.r;omega
  have hn:c.n=d.n:=by
   have:=h c.r;rw[A1R,hr,A1R]at this;exact this
  have hcd:c=d:=by
   obtain⟨r,n⟩:=c;obtain⟨r',n'⟩:=d;simp at hr hn;rw[hr,hn]
  subst hcd;congr 1;refine A6S hc'.2 hd'.2 (fun x hx=>zc x (List.mem_cons_of_mem _ hx)) (fun x hx=>zd x (List.mem_cons_of_mem _ hx)) fun row=>?_;have:=h row;by_cases e:c.r=row
  ·subst e;rw[A2W hc.ne,A2W hd.ne]
  ·rw[A2a _ e,A2a _ e]at this;exact this
theorem B9x {cs:List C2}(row:List V3)(h:Asc cs):(∀c∈cs.take (ahead cs row),cR8 c.r row<0)/\(∀c∈cs.drop (ahead cs row),¬cR8 c.r row<0):=by
 constructor
 ·intro c hc;obtain⟨i,hi,rfl⟩:=List.mem_iff_getElem.1 hc;have hi':i<ahead cs row/\i<cs.length:=by simp at hi;omega
  have:=(A42 (row:=row) h (i:=i) (c:=cs[i]) (by simp)).1 hi'.1
  simpa using this
 ·intro c hc;obtain⟨i,hi,rfl⟩:=List.mem_iff_getElem.1 hc;have hi':ahead cs row+i<cs.length:=by simp at hi;omega
  intro hl;have:=(A42 (row:=row) h (i:=ahead cs row+i) (c:=cs[ahead cs row+i]) (by simp)).2 (by simpa using hl);omega
theorem A78 {a b:List C2}{x:C2}(ha:Asc (a++b))(h1:∀c∈a,cR8 c.r x.r<0)(h2:∀c∈b,cR8 x.r c.r<0):Asc (a++x::b):=by
 unfold Asc at*;rw[List.pairwise_append]at ha⊢;refine⟨ha.1,List.pairwise_cons.2 ⟨h2,ha.2.1⟩,fun y hy z hz=>?_⟩;rcases List.mem_cons.1 hz with rfl|hz
 ·exact h1 y hy
 ·exact ha.2.2 y hy z hz
theorem A3E {a b:List V3}(h:cR8 a b<0):a≠b:=by rintro rfl;rw[Y8]at h;omega
theorem A5O {a b:List V3}(h:¬cR8 a b<0)(hne:a≠b):cR8 b a<0:=by
 have:=A49 a b;have h0:cR8 a b≠0:=fun e=>hne ((K7 a b).1 e);omega
theorem B4w {cs:List C2}(row:List V3)(n:Int)(h:Asc cs)(hz:∀c∈cs,c.n≠0):Asc (E5 cs row n)/\(∀c∈E5 cs row n,c.n≠0)/\∀q,K6 (E5 cs row n) q=K6 cs q+(if cR8 row q=0 then n else 0):=by
 obtain⟨hp1,hp2⟩:=B9x row h;have hsp:cs=cs.take (ahead cs row)++cs.drop (ahead cs row):=(List.take_append_drop _ _).symm;have ins:(∀c∈cs.drop (ahead cs row),c.r≠row)->(if n≠0 then cs.take (ahead cs row)++(⟨row,n⟩:C2)::cs.drop (ahead cs row)else cs)=E5 cs row n-> Asc (E5 cs row n)/\(∀c∈E5 cs row n,c.n≠0)/\∀q,K6 (E5 cs row n) q=K6 cs q+(if cR8 row q=0 then n else 0):=by
  intro hne e;rw[<-e];by_cases hn:n≠0
  ·rw[if_pos hn];refine⟨A78 (by rw[<-hsp];exact h) hp1 (fun c hc=>A5O (hp2 c hc) (hne c hc)),fun c hc=>?_,fun q=>?_⟩
   ·rcases List.mem_append.1 hc with hc|hc
    ·exact hz c (List.mem_of_mem_take hc)
    ·rcases List.mem_cons.1 hc with rfl|hc
     ·exact hn
     ·exact hz c (List.mem_of_mem_drop hc)
   ·by_cases hq:cR8 row q=0
    ·obtain rfl:=(K7 row q).1 hq;rw[if_pos hq,A3O (fun c hc=>A3E (hp1 c hc)),A1R];have:K6 cs row=0:=by rw[hsp,A3O (fun c hc=>A3E (hp1 c hc))];exact A2W hne
     rw[this];show n=0+n;omega
    ·rw[if_neg hq];have hqr:row≠q:=fun e=>hq ((K7 _ _).2 e);have key:∀ (a:List C2) (b:List C2),K6 (a++(⟨row,n⟩:C2)::b) q=K6 (a++b) q:=by
      intro a b;induction a with
      |nil=>exact A2a _ hqr
      |cons c a ih=>rw[List.cons_append,List.cons_append,A1o,A1o,ih]
     rw[key,<-hsp];omega
  ·have hn0:n=0:=by omega
   rw[if_neg hn];refine⟨h,hz,fun q=>?_⟩;rw[hn0];split<;>omega
 unfold E5 at ins⊢;cases hc:cs[ahead cs row]? with
 |none=>
  rw[hc]at ins;have hl:cs.drop (ahead cs row)=[]:=List.drop_eq_nil_of_le (List.getElem?_eq_none_iff.1 hc);exact ins (fun c hc'=>by rw[hl]at hc';cases hc') rfl
 |some c=>
  rw[hc]at ins;have hi:ahead cs row<cs.length:=(gE1 hc).1;have hcc:cs[ahead cs row]=c:=(gE1 hc).2;have hdr:cs.drop (ahead cs row)=c::cs.drop (ahead cs row+1):=by rw[List.drop_eq_getElem_cons hi,hcc]
  dsimp only;by_cases hr:cR8 c.r row=0
  ·rw[if_pos hr];obtain rfl:=(K7 c.r row).1 hr;have hA:Asc (cs.take (ahead cs c.r)++c::cs.drop (ahead cs c.r+1)):=by rw[<-hdr,<-hsp];exact h
   have A6P:∀x∈cs.take (ahead cs c.r),x.r≠c.r:=fun x hx=>A3E (hp1 x hx);have hA2:=List.pairwise_append.1 hA;have hhi:∀x∈cs.drop (ahead cs c.r+1),x.r≠c.r:=Asc.ne hA2.2.1;have B1g:K6 cs c.r=c.n:=by rw[hsp,A3O A6P,hdr,A1R]
   have far:∀ (x:C2) (q:List V3),x.r=c.r->c.r≠q->∀a b:List C2,K6 (a++x::b) q=K6 (a++b) q:=by
    intro x q hx hq a b;induction a with
    |nil=>exact A2a _ (by rw[hx];exact hq)
    |cons y a ih=>rw[List.cons_append,List.cons_append,A1o,A1o,ih]
   have A1V:∀q,c.r≠q->K6 cs q=K6 (cs.take (ahead cs c.r)++cs.drop (ahead cs c.r+1)) q:=by
    intro q hq
    conv=>lhs;rw[hsp,hdr]
    exact far c q rfl hq _ _
   by_cases hm:n+c.n≠0
   ·rw[if_pos hm];have C4G:cs.set (ahead cs c.r) (⟨c.r,n+c.n⟩:C2)=cs.take (ahead cs c.r)++(⟨c.r,n+c.n⟩:C2)::cs.drop (ahead cs c.r+1):=List.set_eq_take_append_cons_drop.trans (by rw[if_pos hi]);rw[C4G];refine⟨A78 (List.pairwise_append.2 ⟨hA2.1,(List.pairwise_cons.1 hA2.2.1).2,fun y hy z hz'=>hA2.2.2 y hy z (List.mem_cons_of_mem _ hz')⟩) hp1 (List.pairwise_cons.1 hA2.2.1).1,fun x hx=>?_,fun q=>?_⟩
    ·rcases List.mem_append.1 hx with hx|hx
     ·exact hz x (List.mem_of_mem_take hx)
     ·rcases List.mem_cons.1 hx with rfl|hx
      ·exact hm
      ·exact hz x (List.mem_of_mem_drop hx)
    ·by_cases hq:cR8 c.r q=0
     ·obtain rfl:=(K7 c.r q).1 hq;rw[if_pos hq,A3O A6P,B1g];have:=A1R (⟨c.r,n+c.n⟩:C2) (cs.drop (ahead cs c.r+1));dsimp only at this;rw[this];omega
     ·have hqr:c.r≠q:=fun e=>hq ((K7 _ _).2 e);rw[if_neg hq,A1V q hqr,far (⟨c.r,n+c.n⟩:C2) q rfl hqr];omega
   ·rw[if_neg hm];refine⟨List.pairwise_append.2 ⟨hA2.1,(List.pairwise_cons.1 hA2.2.1).2,fun y hy z hz'=>hA2.2.2 y hy z (List.mem_cons_of_mem _ hz')⟩,fun x hx=>?_,fun q=>?_⟩
    ·rcases List.mem_append.1 hx with hx|hx
     ·exact hz x (List.mem_of_mem_take hx)
     ·exact hz x (List.mem_of_mem_drop hx)
    ·by_cases hq:cR8 c.r q=0
     ·obtain rfl:=(K7 c.r q).1 hq;rw[if_pos hq,A3O A6P,B1g,A2W hhi];omega
     ·have hqr:c.r≠q:=fun e=>hq ((K7 _ _).2 e);rw[if_neg hq,A1V q hqr];omega
  ·dsimp only at ins;rw[if_neg hr];rw[if_neg hr]at ins;refine ins (fun x hx=>?_) rfl;rw[hdr]at hx;rcases List.mem_cons.1 hx with rfl|hx
   ·exact fun e=>hr ((K7 _ _).2 e)
   ·have h1:cR8 row c.r<0:=A5O (hp2 c (by rw[hdr];exact List.mem_cons_self)) (fun e=>hr ((K7 _ _).2 e));have hA2:=List.pairwise_append.1 (show Asc (cs.take (ahead cs row)++c::cs.drop (ahead cs row+1))by rw[<-hdr,<-hsp];exact h);have h2:=(List.pairwise_cons.1 hA2.2.1).1 x hx;exact fun e=>A3E (A1F h1 h2) e.symm
end
section
open Go.RowKit
attribute [local go_sem] A1s A1B A17 A1C A1m A1x A18 A1Q A2T A1K A2S A1W A12 A1e A1y A2V A1i A1Y A1z A1M
theorem C1M (n:Int)(s:ByteArray)(w:World):Calls Tryz.prog 142 #[(.agg #[.int .i64 0,.int .i64 n,.string s])] w fun e w'=>e=.returned (.bool (okB 0 n s))/\Below w.heap.size w w':=by
 have hq:=eqV;go_enter Tryz.func142,Tryz.ntmps142;go_wp2_with(first|(go_at_call 162;refine(A4y _ _ _).mono ?_;rintro e w1 ⟨rfl,rfl⟩))
 first|go_region_calls|fail
 all_goals(go_wp2;go_returns;refine⟨rB8 ?_,?_⟩)
 all_goals first|(go_grown;done)|((repeat (first|exact Below.refl _ _|refine Below.drew ?_|refine Below.alloc ?_ (by first|(simp;done)|(simp;omega)|omega) _|refine U5 (by assumption) (by first|(simp;done)|(simp;omega)|omega) ?_));done)|(clear hq;rw[A8k];simp[B1s])
theorem C3h (n:Int)(s:ByteArray)(w:World):Calls Tryz.prog 142 #[(.agg #[.int .i64 1,.int .i64 n,.string s])] w fun e w'=>e=.returned (.bool (okB 1 n s))/\Below w.heap.size w w':=by
 have hq:=eqV;go_enter Tryz.func142,Tryz.ntmps142;go_wp2_with(first|(go_at_call 162;refine(A0m _ _ _).mono ?_;rintro e w1 ⟨rfl,rfl⟩))
 first|go_region_calls|fail
 all_goals(go_wp2;go_returns;refine⟨rB8 ?_,?_⟩)
 all_goals first|(go_grown;done)|((repeat (first|exact Below.refl _ _|refine Below.drew ?_|refine Below.alloc ?_ (by first|(simp;done)|(simp;omega)|omega) _|refine U5 (by assumption) (by first|(simp;done)|(simp;omega)|omega) ?_));done)|(clear hq;rw[A8R];simp)
theorem B5H (n:Int)(s:ByteArray)(w:World):Calls Tryz.prog 142 #[(.agg #[.int .i64 2,.int .i64 n,.string s])] w fun e w'=>e=.returned (.bool (okB 2 n s))/\Below w.heap.size w w':=by
 have hq:=eqV;by_cases hc:n=0\/n=1
 ·go_enter Tryz.func142,Tryz.ntmps142;go_wp2_with(first|(go_at_call 162;refine(A3H _ _ _).mono ?_;rintro e w1 ⟨rfl,rfl⟩))
  first|go_region_held3 (fun w'=>w'.cell? ⟨w.heap.size,0,none⟩=some (.int .i64 2)/\w'.cell? ⟨w.heap.size,1,none⟩=some (.int .i64 n)/\w'.cell? ⟨w.heap.size,2,none⟩=some (.string s)) (refine⟨?_,?_,?_⟩<;>first|(go_simp;done)|(exact cL8 (by assumption) (by go_simp))) (first|(go_at_call 276;refine(B3M _ _ hc).mono ?_;rintro e w1 ⟨rfl,hb1⟩;have hz1:=hb1.size;(try simp at hz1);have hy1:w.heap.size<w1.heap.size:=(by omega))|(go_at_call 169;refine(B7J _ _).mono ?_;rintro e w2 ⟨rfl,hb2⟩;have hz2:=hb2.size;(try simp at hz2);have hy2:w.heap.size<w2.heap.size:=(by omega)))|fail
  all_goals(go_wp2;go_returns;refine⟨rB8 ?_,?_⟩)
  all_goals first|(go_grown;done)|((repeat (first|exact Below.refl _ _|refine Below.drew ?_|refine Below.alloc ?_ (by first|(simp;done)|(simp;omega)|omega) _|refine U5 (by assumption) (by first|(simp;done)|(simp;omega)|omega) ?_));done)|(clear hq;rw[A4U];rcases hc with rfl|rfl<;>simp)
 have hx0:(n==0)=false:=by simp;omega
 have hx1:(n==1)=false:=by simp;omega
 go_enter Tryz.func142,Tryz.ntmps142;go_wp2_with(first|(go_at_call 162;refine(A3H _ _ _).mono ?_;rintro e w1 ⟨rfl,rfl⟩))
 first|go_region_with (first|(go_at_call 276;refine(B9R _ _ hx0 hx1).mono ?_;rintro e w1 ⟨rfl,hb1⟩;have hz1:=hb1.size;(try simp at hz1);have hy1:w.heap.size<w1.heap.size:=(by omega)))|fail
 all_goals(go_wp2;go_returns;refine⟨rB8 ?_,?_⟩)
 all_goals first|(go_grown;done)|((repeat (first|exact Below.refl _ _|refine Below.drew ?_|refine Below.alloc ?_ (by first|(simp;done)|(simp;omega)|omega) _|refine U5 (by assumption) (by first|(simp;done)|(simp;omega)|omega) ?_));done)|(clear hq;rw[A4U];simp[hx0,hx1])
theorem B89 (n:Int)(s:ByteArray)(w:World)(hs:s.size<=maxLen):Calls Tryz.prog 142 #[(.agg #[.int .i64 3,.int .i64 n,.string s])] w fun e w'=>e=.returned (.bool (okB 3 n s))/\Below w.heap.size w w':=by
 have hq:=eqV;by_cases hc:(s.size:Int)<=100
 ·go_enter Tryz.func142,Tryz.ntmps142;go_wp2_with(first|(go_at_call 162;refine(A2H _ _ _).mono ?_;rintro e w1 ⟨rfl,rfl⟩))
  first|go_region_held3 (fun w'=>w'.cell? ⟨w.heap.size,0,none⟩=some (.int .i64 3)/\w'.cell? ⟨w.heap.size,1,none⟩=some (.int .i64 n)/\w'.cell? ⟨w.heap.size,2,none⟩=some (.string s)) (refine⟨?_,?_,?_⟩<;>first|(go_simp;done)|(exact cL8 (by assumption) (by go_simp))) (first|(go_at_call 279;refine(B52 _ _ hs hc).mono ?_;rintro e w1 ⟨rfl,hb1⟩;have hz1:=hb1.size;(try simp at hz1);have hy1:w.heap.size<w1.heap.size:=(by omega))|(go_at_call 169;refine(B4T _ _).mono ?_;rintro e w2 ⟨rfl,hb2⟩;have hz2:=hb2.size;(try simp at hz2);have hy2:w.heap.size<w2.heap.size:=(by omega)))|fail
  all_goals(go_wp2;go_returns;refine⟨rB8 ?_,?_⟩)
  all_goals first|(go_grown;done)|((repeat (first|exact Below.refl _ _|refine Below.drew ?_|refine Below.alloc ?_ (by first|(simp;done)|(simp;omega)|omega) _|refine U5 (by assumption) (by first|(simp;done)|(simp;omega)|omega) ?_));done)|(clear hq;rw[A4w];have hc':s.size<=100:=(by omega);simp[B1s,hc'])
 ·go_enter Tryz.func142,Tryz.ntmps142;go_wp2_with(first|(go_at_call 162;refine(A2H _ _ _).mono ?_;rintro e w1 ⟨rfl,rfl⟩))
  first|go_region_with (first|(go_at_call 279;refine(B7M _ _ hs (by omega)).mono ?_;rintro e w1 ⟨rfl,hb1⟩;have hz1:=hb1.size;(try simp at hz1);have hy1:w.heap.size<w1.heap.size:=(by omega)))|fail
  all_goals(go_wp2;go_returns;refine⟨rB8 ?_,?_⟩)
  all_goals first|(go_grown;done)|((repeat (first|exact Below.refl _ _|refine Below.drew ?_|refine Below.alloc ?_ (by first|(simp;done)|(simp;omega)|omega) _|refine U5 (by assumption) (by first|(simp;done)|(simp;omega)|omega) ?_));done)|(clear hq;rw[A4w];have hc':¬s.size<=100:=(by omega);simp[hc'])
theorem B4L (k:Int)(n:Int)(s:ByteArray)(w:World)(h0:(k==0)=false)(h1:(k==1)=false)(h2:(k==2)=false)(h3:(k==3)=false):Calls Tryz.prog 142 #[(.agg #[.int .i64 k,.int .i64 n,.string s])] w fun e w'=>e=.returned (.bool (okB k n s))/\Below w.heap.size w w':=by
 have hq:=eqV;go_enter Tryz.func142,Tryz.ntmps142;go_wp2_with(first|(go_at_call 162;refine(A7h _ _ _ _ h0 h1 h2 h3).mono ?_;rintro e w1 ⟨rfl,rfl⟩))
 first|go_region_calls|fail
 all_goals(go_wp2;go_returns;refine⟨rB8 ?_,?_⟩)
 all_goals first|(go_grown;done)|((repeat (first|exact Below.refl _ _|refine Below.drew ?_|refine Below.alloc ?_ (by first|(simp;done)|(simp;omega)|omega) _|refine U5 (by assumption) (by first|(simp;done)|(simp;omega)|omega) ?_));done)|(clear hq;rw[A4A k n s (by simpa using h0) (by simpa using h1) (by simpa using h2) (by simpa using h3)])
theorem A1X (k n:Int)(s:ByteArray)(w:World)(hs:s.size<=maxLen):Calls Tryz.prog 142 #[(.agg #[.int .i64 k,.int .i64 n,.string s])] w fun e w'=>e=.returned (.bool (okB k n s))/\Below w.heap.size w w':=by
 by_cases h0:k=0
 ·subst h0;exact C1M n s w
 by_cases h1:k=1
 ·subst h1;exact C3h n s w
 by_cases h2:k=2
 ·subst h2;exact B5H n s w
 by_cases h3:k=3
 ·subst h3;exact B89 n s w hs
 exact B4L k n s w (by simp[h0]) (by simp[h1]) (by simp[h2]) (by simp[h3])
end
section
open Go.RowKit
theorem B9C {b:Bool}{k n:Int}{s:ByteArray}(h:b=okB k n s):Ending.returned (.bool b)=.returned (.bool (okB k n s)):=by rw[h]
theorem A6C (k n:Int)(s:ByteArray)(w:World)(hs:s.size<=maxLen):Calls Tryz.prog 96 #[(.agg #[.int .i64 k,.int .i64 n,.string s])] w fun e w'=>e=.returned (.bool (okB k n s))/\Below w.heap.size w w':=by
 unfold maxLen at hs;go_enter Tryz.func96,Tryz.ntmps96;go_wp2;all_goals(go_returns;refine⟨B9C ?_,?_⟩)
 all_goals first|(go_grown;done)|(simp_all [okB];done)|(simp_all [okB];omega)
def okW (x:V3):Bool:=okB x.k x.n x.s
def T8 (vs:List V3)(W:Int):Bool:=decide ((vs.length:Int)=W) &&vs.all okW
theorem B1i {vs:List V3}{k:Nat}{x:V3}(h:vs[k]?=some x):(vs.drop k).all okW=(okW x && (vs.drop (k+1)).all okW):=by
 obtain⟨hk,rfl⟩:=gE1 h;rw[List.drop_eq_getElem_cons hk];rfl
theorem A28 (v:Value)(vs:List V3)(W:Int)(w:World)(hr:E3 w v vs)(hw:j2 vs):Calls Tryz.prog 72 #[v,.int .i64 W] w fun e w'=>e=.returned (.bool (T8 vs W))/\Below w.heap.size w w':=by
 obtain⟨a,c,b,o,rfl,hl,hc,ha⟩:=hr.pick;unfold maxLen at hc;clear hr;go_enter Tryz.func72,Tryz.ntmps72;go_wp2;go_loopw [5] (fun i wr=> ∃k:Nat,k<=vs.length/\i=.int .i64 k/\Below w.heap.size w wr/\vs.all okW=(vs.drop k).all okW) (fun i _=>vs.length - (intOf i).toNat)
 case atStart=>exact⟨0,Nat.zero_le _,rfl,by go_grown,by simp⟩
 case round=>
  obtain⟨k,hk,rfl,hb,heq⟩:=hrel;have HE:Hid (vs.all okW=(vs.drop k).all okW):=heq;have hzb:=hb.size;clear heq;by_cases hlt:k<vs.length
  ·obtain⟨rfl,hblt,hL⟩:=ha k hlt;obtain⟨x,hx,c0,c1,c2,hbr⟩:=hL.at hblt hb hlt;have hxs:x.s.size<=maxLen:=(hw x (mg8 hx)).2.2;have HS:Hid ((vs.drop k).all okW=(okW x && (vs.drop (k+1)).all okW)):=B1i hx;clear ha hL hx hw;by_cases hok:okB x.k x.n x.s=true
   ·go_wp2_with(go_at_call 96;refine(A6C _ _ _ _ hxs).mono ?_;rintro e w1 ⟨rfl,hb1⟩)
    go_roundw
    case rel=>
     refine⟨k+1,hlt,by simp,C3,?_⟩;rw[HE.out,HS.out,show okW x=true from hok,Bool.true_and]
    case measure=>simp[intOf];omega
   ·go_wp2_with(go_at_call 96;refine(A6C _ _ _ _ hxs).mono ?_;rintro e w1 ⟨rfl,hb1⟩);go_returns;refine⟨rB8 ?_,C3⟩;have hf:okW x=false:=by unfold okW;simpa using hok
    unfold T8;rw[HE.out,HS.out,hf];simp
  ·clear ha hw;go_wp2;go_returns;refine⟨rB8 ?_,hb⟩;unfold T8;rw[HE.out,List.drop_eq_nil_of_le (by omega)];simp;try rfl
theorem A4n (v:Value)(vs:List V3)(W:Int)(w:World)(hr:E3 w v vs)(hw:j2 vs):Calls Tryz.prog 113 #[v,.int .i64 W] w fun e w'=>e=.returned (.bool (T8 vs W))/\Below w.heap.size w w':=by
 obtain⟨a,c,b,o,rfl,hl,hc,ha⟩:=hr.pick;unfold maxLen at hc;clear hr;by_cases hW:(vs.length:Int)=W
 ·subst hW;go_enter Tryz.func113,Tryz.ntmps113;go_wp2;go_loopw [13] (fun i wr=> ∃k:Nat,k<=vs.length/\i=.int .i64 k/\Below w.heap.size w wr/\vs.all okW=(vs.drop k).all okW) (fun i _=>vs.length - (intOf i).toNat)
  case atStart=>exact⟨0,Nat.zero_le _,rfl,by go_grown,by simp⟩
  case round=>
   obtain⟨k,hk,rfl,hb,heq⟩:=hrel;have HE:Hid (vs.all okW=(vs.drop k).all okW):=heq;have hzb:=hb.size;clear heq;by_cases hlt:k<vs.length
   ·obtain⟨rfl,hblt,hL⟩:=ha k hlt;obtain⟨x,hx,c0,c1,c2,hbr⟩:=hL.at hblt hb hlt;have hxs:x.s.size<=maxLen:=(hw x (mg8 hx)).2.2;have HS:Hid ((vs.drop k).all okW=(okW x && (vs.drop (k+1)).all okW)):=B1i hx;clear ha hL hx hw;by_cases hok:okB x.k x.n x.s=true
    ·go_wp2_with(go_at_call 142;refine(A1X _ _ _ _ hxs).mono ?_;rintro e w1 ⟨rfl,hb1⟩;have hz1:=hb1.size;(try simp at hz1))
     go_roundw
     case rel=>
      refine⟨k+1,hlt,by simp,C3,?_⟩;rw[HE.out,HS.out,show okW x=true from hok,Bool.true_and]
     case measure=>simp[intOf];omega
    ·go_wp2_with(go_at_call 142;refine(A1X _ _ _ _ hxs).mono ?_;rintro e w1 ⟨rfl,hb1⟩;have hz1:=hb1.size;(try simp at hz1));go_returns;refine⟨rB8 ?_,C3⟩;have hf:okW x=false:=by unfold okW;simpa using hok
     unfold T8;rw[HE.out,HS.out,hf];simp
   ·clear ha hw;go_wp2;go_returns;refine⟨rB8 ?_,hb⟩;unfold T8;rw[HE.out,List.drop_eq_nil_of_le (by omega)];simp
 ·go_enter Tryz.func113,Tryz.ntmps113;go_wp2;go_returns;exact⟨rB8 (by simp[T8,hW]),by go_grown⟩
def okN (n:Int):Bool:=decide (n≠0) &&decide (-1000000000<=n) &&decide (n<=1000000000)
theorem A48 (n:Int)(w:World):Calls Tryz.prog 114 #[.int .i64 n] w fun e w'=>e=.returned (.bool (okN n))/\Below w.heap.size w w':=by
 by_cases h0:n=0
 ·subst h0;go_enter Tryz.func114,Tryz.ntmps114;go_wp2;go_returns;exact⟨rB8 (by simp[okN]),by go_grown⟩
 ·by_cases h1: -1000000000<=n
  ·go_enter Tryz.func114,Tryz.ntmps114;go_wp2;go_returns;exact⟨rB8 (by simp[okN,h0,h1]),by go_grown⟩
  ·go_enter Tryz.func114,Tryz.ntmps114;go_wp2;go_returns;exact⟨rB8 (by simp[okN,h0];omega),by go_grown⟩
theorem A37 (n a b:Int)(w:World):Calls Tryz.prog 71 #[.int .i64 n,.int .i64 a,.int .i64 b] w fun e w'=>e=.returned (.bool (decide (a<=n) &&decide (n<=b)))/\Below w.heap.size w w':=by
 by_cases h1:a<=n
 ·go_enter Tryz.func71,Tryz.ntmps71;go_wp2;go_returns;exact⟨rB8 (by simp[h1]),by go_grown⟩
 ·go_enter Tryz.func71,Tryz.ntmps71;go_wp2;go_returns;exact⟨rB8 (by simp;omega),by go_grown⟩
def A08 (p:Option C2)(x:C2):Bool:=match p with
 |none=>true
 |some y=>decide (cR8 y.r x.r<0)
def S6 (W:Int):Option C2->List C2->Bool
 |_,[]=>true
 |p,x::xs=>T8 x.r W &&okN x.n &&A08 p x &&S6 W (some x) xs
def P9 (cs:List C2)(k:Nat):Option C2:=if k=0 then none else cs[k -1]?
def J2 (W:Int)(cs:List C2):Bool:=decide (0<=W) &&decide (W<=12) &&decide (cs.length<=400) &&S6 W none cs
theorem A95 {W:Int}{cs:List C2}{k:Nat}{x:C2}(h:cs[k]?=some x):S6 W (P9 cs k) (cs.drop k)=(T8 x.r W &&okN x.n &&A08 (P9 cs k) x &&S6 W (P9 cs (k+1)) (cs.drop (k+1))):=by
 obtain⟨hk,rfl⟩:=gE1 h;rw[List.drop_eq_getElem_cons hk];simp[S6,P9,hk]
theorem A9H (cs:List C2):P9 cs 0=none:=rfl
theorem B13 {cs:List C2}{j:Nat}{y:C2}(h:cs[j]?=some y):P9 cs (j+1)=some y:=by simp[P9,h]
theorem A8v (W:Int)(v:Value)(cs:List C2)(w:World)(hw:X7 cs)(hr:J7 w v cs):Calls Tryz.prog 85 #[.agg #[.int .i64 W,v]] w fun e w'=>e=.returned (.bool (J2 W cs))/\Below w.heap.size w w':=by
 obtain⟨a,c,b,o,rfl,hl,hc,ha⟩:=hr.pick;unfold maxLen at hc;clear hr;by_cases h0:W<0
 ·go_enter Tryz.func85,Tryz.ntmps85;go_wp2;go_returns;exact⟨rB8 (by simp[J2,show ¬0<=W from by omega]),by go_grown⟩
 by_cases h1:12<W
 ·go_enter Tryz.func85,Tryz.ntmps85;go_wp2;go_returns;exact⟨rB8 (by simp[J2,show ¬W<=12 from by omega]),by go_grown⟩
 by_cases h2:400<(cs.length:Int)
 ·go_enter Tryz.func85,Tryz.ntmps85;go_wp2;go_returns;exact⟨rB8 (by simp[J2,show ¬cs.length<=400 from by omega]),by go_grown⟩
 have HB:Hid (J2 W cs=S6 W none cs):=by simp[Hid,J2,show 0<=W from by omega,show W<=12 from by omega,show cs.length<=400 from by omega]
 go_enter Tryz.func85,Tryz.ntmps85;go_wp2;go_loopw [22] (fun i wr=> ∃ (k:Nat) (q:Int),k<=cs.length/\q=k/\i=.int .i64 q/\Below w.heap.size w wr/\w.heap.size<wr.heap.size/\wr.cell? ⟨w.heap.size,0,none⟩=some (.int .i64 W)/\wr.cell? ⟨w.heap.size,1,none⟩=some (.slice a cs.length c)/\S6 W none cs=S6 W (P9 cs k) (cs.drop k)) (fun i _=>cs.length - (intOf i).toNat)
 case atStart=>exact⟨0,0,Nat.zero_le _,rfl,rfl,by go_grown,by simp,by go_simp,by go_simp,by simp[P9]⟩
 case round=>
  obtain⟨k,q,hk,hq,rfl,hb,hsz,p0,p1,heq⟩:=hrel;have HE:Hid (S6 W none cs=S6 W (P9 cs k) (cs.drop k)):=heq;have hzb:=hb.size;clear heq;by_cases hlt:k<cs.length
  ·obtain⟨rfl,hblt,hL⟩:=ha k hlt;obtain⟨x,u,hx,c0,hR,c1,hbr⟩:=hL.at hblt hb hlt;obtain⟨ur,lr,cr,rfl⟩:=hR.shape;have hxw:j2 x.r:=(hw x (mg8 hx)).1;have HS:Hid (S6 W (P9 cs k) (cs.drop k)=(T8 x.r W &&okN x.n &&A08 (P9 cs k) x &&S6 W (P9 cs (k+1)) (cs.drop (k+1)))):=A95 hx;by_cases hok:T8 x.r W=true
   ·by_cases hcn:okN x.n=true
    ·rcases Nat.eq_zero_or_pos k with hk0|hk0
     ·subst hk0;obtain rfl:q=0:=by simpa using hq
      rw[Nat.zero_mul,Nat.add_zero]at c0;rw[Nat.zero_mul,Nat.add_zero]at c1;clear ha hw hL hx hq;go_wp2_with(first|(go_at_call 113;refine cM8 (A4n _ x.r W _ (hR.below C3) hxw) ?_;rintro e w1 ⟨rfl,hb1⟩;have hz1:=hb1.size;(try simp at hz1);have hf1:=(bc8 hb1).2;have q0:w1.cell? ⟨wr.heap.size,0,none⟩=some (.slice ur lr cr):=cl8 hb1;have q1:w1.cell? ⟨wr.heap.size,1,none⟩=some (.int .i64 x.n):=cl8 hb1;have p0':w1.cell? ⟨w.heap.size,0,none⟩=some (.int .i64 W):=cl8 hb1;have p1':w1.cell? ⟨w.heap.size,1,none⟩=some (.slice (some ⟨b,o,none⟩) cs.length c):=cl8 hb1)|(go_at_call 114;refine(A48 _ _).mono ?_;rintro e w2 ⟨rfl,hb2⟩;have hz2:=hb2.size;(try simp at hz2);have A5z:w2.cell? ⟨wr.heap.size,0,none⟩=some (.slice ur lr cr):=cl8 hb2;have A5C:w2.cell? ⟨w.heap.size,0,none⟩=some (.int .i64 W):=cl8 hb2;have A5J:w2.cell? ⟨w.heap.size,1,none⟩=some (.slice (some ⟨b,o,none⟩) cs.length c):=cl8 hb2)|fail)
      go_region
      go_wp2
      go_roundw
      case rel=>
       refine⟨1,1,hlt,rfl,by simp,C3,by(first|omega|(simp;omega)),A5C,A5J,?_⟩;rw[HE.out,HS.out,hok,hcn,A9H];simp[A08]
      case measure=>simp[intOf];omega
     ·obtain⟨j,rfl⟩:∃j,k=j+1:=⟨k -1,by omega⟩;obtain rfl:q=(j:Int)+1:=by omega
      obtain⟨y,t,hy,d0,hT,d1,_⟩:=hL.at hblt hb (show j<cs.length by omega);have HP:Hid (P9 cs (j+1)=some y):=B13 hy;clear ha hw hL hx hy hq;go_wp2_with(first|(go_at_call 113;refine cM8 (A4n _ x.r W _ (hR.below C3) hxw) ?_;rintro e w1 ⟨rfl,hb1⟩;have hz1:=hb1.size;(try simp at hz1);have hf1:=(bc8 hb1).2;have q0:w1.cell? ⟨wr.heap.size,0,none⟩=some (.slice ur lr cr):=cl8 hb1;have q1:w1.cell? ⟨wr.heap.size,1,none⟩=some (.int .i64 x.n):=cl8 hb1;have p0':w1.cell? ⟨w.heap.size,0,none⟩=some (.int .i64 W):=cl8 hb1;have p1':w1.cell? ⟨w.heap.size,1,none⟩=some (.slice (some ⟨b,o,none⟩) cs.length c):=cl8 hb1;have d1':w1.cell? ⟨b,o+j*2,none⟩=some t:=cl8 hb1)|(go_at_call 114;refine(A48 _ _).mono ?_;rintro e w2 ⟨rfl,hb2⟩;have hz2:=hb2.size;(try simp at hz2);have A5z:w2.cell? ⟨wr.heap.size,0,none⟩=some (.slice ur lr cr):=cl8 hb2;have A5C:w2.cell? ⟨w.heap.size,0,none⟩=some (.int .i64 W):=cl8 hb2;have A5J:w2.cell? ⟨w.heap.size,1,none⟩=some (.slice (some ⟨b,o,none⟩) cs.length c):=cl8 hb2;have d2:w2.cell? ⟨b,o+j*2,none⟩=some t:=cl8 hb2)|fail);have hT2:E3 w2 t y.r:=hT.below C3;have hR2:E3 w2 (.slice ur lr cr) x.r:=hR.below C3;have hw1:IntKind.i64.wrap (j:Int)=j:=by rw[IntKind.wrap_i64];omega
      have hw2:IntKind.i64.wrap ((j:Int)+1 -1)=j:=by rw[IntKind.wrap_i64];omega
      have hi0:(0:Int)<=j:=by omega
      have hi1:(j:Int)<cs.length:=by omega
      have hi2:(0:Int)<(j:Int)+1:=by omega
      go_region_held3 (fun w'=>w'.cell? ⟨w.heap.size,0,none⟩=some (.int .i64 W)/\w'.cell? ⟨w.heap.size,1,none⟩=some (.slice (some ⟨b,o,none⟩) cs.length c)/\w'.cell? ⟨wr.heap.size,0,none⟩=some (.slice ur lr cr)/\w'.cell? ⟨b,o+j*2,none⟩=some t) (refine⟨?_,?_,?_,?_⟩<;>first|(go_simp;done)|(exact cL8 (by assumption) (by go_simp))) (first|(go_at_call 115;refine cM8 (C1F t (.slice ur lr cr) y.r x.r _ (hT2.below C3) (hR2.below C3)) ?_;rintro e w3 ⟨rfl,hb3⟩));have hz3:=hb3.size;simp at hz3;have HQ:Hid (A08 (P9 cs (j+1)) x=decide (cR8 y.r x.r<0)):=by rw[HP.out];rfl
      have r0:w3.cell? ⟨w.heap.size,0,none⟩=some (.int .i64 W):=cl8 hb3;have r1:w3.cell? ⟨w.heap.size,1,none⟩=some (.slice (some ⟨b,o,none⟩) cs.length c):=cl8 hb3;by_cases hcmp:0<=cR8 y.r x.r
      ·go_wp2;go_returns;refine⟨rB8 ?_,C3⟩;rw[HB.out,HE.out,HS.out,HQ.out];simp[show ¬cR8 y.r x.r<0 from by omega]
      ·go_wp2
       go_roundw
       case rel=>
        refine⟨j+1+1,(j:Int)+1+1,hlt,by omega,by simp,C3,by(first|omega|(simp;omega)),r0,r1,?_⟩;rw[HE.out,HS.out,HQ.out,hok,hcn];simp[show cR8 y.r x.r<0 from by omega]
       case measure=>simp[intOf];omega
    ·clear ha hw hL hx;go_wp2_with(first|(go_at_call 113;refine cM8 (A4n _ x.r W _ (hR.below C3) hxw) ?_;rintro e w1 ⟨rfl,hb1⟩;have hz1:=hb1.size;(try simp at hz1);have hf1:=(bc8 hb1).2;have q0:w1.cell? ⟨wr.heap.size,0,none⟩=some (.slice ur lr cr):=cl8 hb1;have q1:w1.cell? ⟨wr.heap.size,1,none⟩=some (.int .i64 x.n):=cl8 hb1;have p0':w1.cell? ⟨w.heap.size,0,none⟩=some (.int .i64 W):=cl8 hb1;have p1':w1.cell? ⟨w.heap.size,1,none⟩=some (.slice (some ⟨b,o,none⟩) cs.length c):=cl8 hb1)|(go_at_call 114;refine(A48 _ _).mono ?_;rintro e w2 ⟨rfl,hb2⟩;have hz2:=hb2.size;(try simp at hz2);have A5z:w2.cell? ⟨wr.heap.size,0,none⟩=some (.slice ur lr cr):=cl8 hb2;have A5C:w2.cell? ⟨w.heap.size,0,none⟩=some (.int .i64 W):=cl8 hb2;have A5J:w2.cell? ⟨w.heap.size,1,none⟩=some (.slice (some ⟨b,o,none⟩) cs.length c):=cl8 hb2)|fail);go_returns;refine⟨rB8 ?_,C3⟩;have hf:okN x.n=false:=by simpa using hcn
     rw[HB.out,HE.out,HS.out,hf];simp
   ·clear ha hw hL hx;go_wp2_with(first|(go_at_call 113;refine cM8 (A4n _ x.r W _ (hR.below C3) hxw) ?_;rintro e w1 ⟨rfl,hb1⟩;have hz1:=hb1.size;(try simp at hz1);have hf1:=(bc8 hb1).2;have q0:w1.cell? ⟨wr.heap.size,0,none⟩=some (.slice ur lr cr):=cl8 hb1;have q1:w1.cell? ⟨wr.heap.size,1,none⟩=some (.int .i64 x.n):=cl8 hb1;have p0':w1.cell? ⟨w.heap.size,0,none⟩=some (.int .i64 W):=cl8 hb1;have p1':w1.cell? ⟨w.heap.size,1,none⟩=some (.slice (some ⟨b,o,none⟩) cs.length c):=cl8 hb1)|(go_at_call 114;refine(A48 _ _).mono ?_;rintro e w2 ⟨rfl,hb2⟩;have hz2:=hb2.size;(try simp at hz2);have A5z:w2.cell? ⟨wr.heap.size,0,none⟩=some (.slice ur lr cr):=cl8 hb2;have A5C:w2.cell? ⟨w.heap.size,0,none⟩=some (.int .i64 W):=cl8 hb2;have A5J:w2.cell? ⟨w.heap.size,1,none⟩=some (.slice (some ⟨b,o,none⟩) cs.length c):=cl8 hb2)|fail);go_returns;refine⟨rB8 ?_,C3⟩;have hf:T8 x.r W=false:=by simpa using hok
    rw[HB.out,HE.out,HS.out,hf];simp
  ·clear ha hw;go_wp2;go_returns;refine⟨rB8 ?_,hb⟩;rw[HB.out,HE.out,List.drop_eq_nil_of_le (by omega)];rfl
theorem A98:(Tryz.prog.info? 5).map (fun i=>(i.zero,i.size,i.bytes))=some (some (.int .u8 0),1,1):=by kernel_rfl
def A0Y (n:Int)(j:Nat):Int:=IntKind.u64.wrap n/2 ^ (8* (7 -j)) %256
def s9 (n:Int)(j:Nat):List Int:=1::(List.range j).map (A0Y n)
theorem B7k (n:Int)(j:Nat):(s9 n j).length=1+j:=by simp[s9];omega
theorem C4E (n:Int)(j:Nat):s9 n (j+1)=s9 n j++ [A0Y n j]:=by simp[s9,List.range_succ]
theorem B74 (w:World)(x:Int):(w.alloc (Obj.cells #[Value.int .u8 x] 5)).ownsRow w.heap.size 5 1 (.slice (some ⟨w.heap.size,0,none⟩) 1 1) 1 ([x].map (Value.int .u8)):=by
 refine⟨rfl,.inr ⟨w.heap.size,1,#[Value.int .u8 x],rfl,Nat.le_refl _,heap_alloc_new w _,Nat.le_refl _,by unfold maxLen;decide,rfl,rfl⟩⟩
theorem B4X {w wr w1:World}{v:Value}{o:Obj}{B n:Nat}{xs:List Value}(D2:wr.ownsRow B 5 1 v n xs)(A0D:Below B w wr)(hB:B<=wr.heap.size)(hg:(wr.alloc o).grownBy w1 v.ownBlock):Below B w w1:=by
 refine Below.grown (A0D.alloc hB o) hg (by simp;omega) ?_;intro k hk;rcases D2.2 with⟨hv,_⟩|⟨g,cap,cur,hv,hb,_⟩
 ·rw[hv]at hk;simp[Value.ownBlock]at hk
 ·rw[hv]at hk;simp[Value.ownBlock]at hk;omega
theorem C3f (n:Int)(w:World):Calls Tryz.prog 220 #[.int .i64 n] w fun e w'=> ∃v,e=.returned v/\w'.ownsRow w.heap.size 5 1 v 9 ((s9 n 8).map (Value.int .u8))/\Below w.heap.size w w':=by
 obtain⟨i0,hi,hz0,hz1,hz2⟩:=info_parts A98;go_enter Tryz.func220,Tryz.ntmps220;go_wp2;go_loopw [3,4] (fun v i wr=> ∃j:Nat,j<=8/\i=.int .i64 (7 - (j:Int))/\wr.ownsRow w.heap.size 5 1 v (1+j) ((s9 n j).map (Value.int .u8))/\Below w.heap.size w wr) (fun _ i _=>(intOf i+1).toNat)
 case atStart=>exact⟨0,by omega,rfl,B74 w 1,(Below.refl _ _).alloc lr8 _⟩
 case round=>
  obtain⟨j,hj,rfl,D2,A0D⟩:=hrel;have hB:=A0D.size;by_cases hlt:j<8
  ·go_wp2_with(at_builtin;refine wpList_append_own _ rfl _ _ 118 rfl w.heap.size 5 i0 (.int .u8 0) 1 1 Tryz.underlying118 hi hz0 hz1 hz2 rfl (by decide) _ _ _ rfl (D2.alloc _) ⟨wr.heap.size,0,none⟩ 1 1 [.int .u8 (IntKind.u64.wrap n/2 ^ (8* (7 -j)) %256)] rfl rfl ?c1 ?c2 ?c3 ?c4 ?c5 ?_)
   case c1=>
    intro q u hq
    match q,hq with
    |0,hq=>simp at hq;subst hq;simp[Addr.add]
   case c2=>intro u hu;simp at hu;subst hu;rfl
   case c3=>unfold maxLen;omega
   case c4=>omega
   case c5=>simp;omega
   ·intro v' w1 hown' hgrow _;have R1:w1.ownsRow w.heap.size 5 1 v' (1+(j+1)) ((s9 n (j+1)).map (Value.int .u8)):=by
     rw[C4E,List.map_append];exact hown'
    have R2:=B4X D2 A0D hB hgrow;clear hown' hgrow D2;go_wp2
    go_roundw
    case rel=>exact⟨j+1,by omega,by go_num,R1,R2⟩
    case measure=>simp[intOf];omega
  ·have hj8:j=8:=by omega
   subst hj8;go_wp2;go_returns;exact⟨_,rfl,D2,A0D⟩
end
section
open Go.RowKit
attribute [local go_sem] A1s A1B A17 A1C A1m A1x A18 A1Q A2T A1K A2S A1W A12 A1e A1y A2V A1i A1Y A1z A1M
theorem B7y (s:ByteArray)(w:World):(Instr.typeAssert (.iface 267 (.agg #[.string s])) 244 267 false).run Tryz.prog w=.ok (.agg #[.string s]) w:=by kernel_rfl
theorem C0a (s:ByteArray)(w:World):(Instr.field 267 (.agg #[.string s]) 0).run Tryz.prog w=.ok (.string s) w:=by kernel_rfl
attribute [local go_sem] B7y C0a
theorem B8K (W:World)(B:Nat)(xs:List Int)(hB:B<=W.heap.size)(hl:xs.length<=100):(W.alloc (Obj.cells (xs.map (Value.int .u8)).toArray 5)).ownsRow B 5 1 (.slice (some ⟨W.heap.size,0,none⟩) xs.length xs.length) xs.length (xs.map (Value.int .u8)):=by
 refine⟨by simp,.inr ⟨W.heap.size,xs.length,(xs.map (Value.int .u8)).toArray,rfl,hB,heap_alloc_new W _,Nat.le_refl _,by unfold maxLen;omega,by simp,?_⟩⟩;rw[List.take_of_length_le (by simp)]
theorem A6A (W:World)(B g:Nat)(xs:List Int)(hg:g=W.heap.size)(hB:B<=W.heap.size)(hl:xs.length<=100):(W.alloc (Obj.cells (xs.map (Value.int .u8)).toArray 5)).ownsRow B 5 1 (.slice (some ⟨g,0,none⟩) xs.length xs.length) xs.length (xs.map (Value.int .u8)):=by
 subst hg;exact B8K W B xs hB hl
theorem B5L {w:World}{B B' e size n:Nat}{v:Value}{xs:List Value}(h:w.ownsRow B e size v n xs)(hb:B'<=B):w.ownsRow B' e size v n xs:=by
 obtain⟨h1,h2⟩:=h;refine⟨h1,?_⟩;rcases h2 with h2|⟨g,cap,cur,hv,hg,r⟩
 ·exact .inl h2
 ·exact .inr ⟨g,cap,cur,hv,Nat.le_trans hb hg,r⟩
theorem A4M {w:World}{B n:Nat}{v:Value}(xs:List Int)(h:w.ownsRow B 5 1 v n (xs.map (Value.int .u8)))(hn:0<n):(convert 118 9 v).run Tryz.prog w=.ok (.string (strOfNums xs)) w:=by
 have D3:xs.length=n:=by have:=h.1;simpa using this
 obtain⟨g,cap,rfl⟩:=Go.Joins.ownsRow_form h hn;refine run_convert_bytes_arg w 118 5 Tryz.underlying118 Tryz.underlying5 g 0 n cap xs D3 ?_ 9 Tryz.underlying9;intro i hi;rw[Nat.zero_add,h.cellAt i (by omega)];have hi':i<xs.length:=by omega
 simp[List.getD,List.getElem?_eq_getElem hi']
theorem C2A (w:World):Calls Tryz.prog 211 #[.iface 263 (.agg #[])] w fun e w'=> ∃v,e=.returned v/\w'.ownsRow w.heap.size 5 1 v 1 ([(0:Int)].map (Value.int .u8))/\Below w.heap.size w w':=by
 go_enter Tryz.func211,Tryz.ntmps211;go_wp2;go_returns;refine⟨_,rfl,A6A _ _ _ [0] ?_ ?_ (by decide),?_⟩
 ·first|(simp;done)|(simp;omega)
 ·first|(simp;done)|(simp;omega)
 ·go_grown
theorem C00 (n:Int)(w:World):Calls Tryz.prog 211 #[.iface 265 (.agg #[.int .i64 n])] w fun e w'=> ∃v,e=.returned v/\w'.ownsRow w.heap.size 5 1 v 9 ((s9 n 8).map (Value.int .u8))/\Below w.heap.size w w':=by
 go_enter Tryz.func211,Tryz.ntmps211;go_wp2_with fail;refine(C3f _ _).mono ?_;rintro e w1 ⟨v,rfl,D2,hb1⟩;have hz1:=hb1.size;simp only[World.size_alloc]at hz1;go_wp2_with fail;go_returns;refine⟨_,rfl,B5L D2 (by simp;omega),?_⟩;exact C3
theorem B9g (n:Int)(w:World)(h:n=0\/n=1):Calls Tryz.prog 211 #[.iface 241 (.agg #[.int .i64 n])] w fun e w'=> ∃v,e=.returned v/\w'.ownsRow w.heap.size 5 1 v 2 ([(2:Int),n].map (Value.int .u8))/\Below w.heap.size w w':=by
 have hm:n %256=n:=by omega
 go_enter Tryz.func211,Tryz.ntmps211;go_wp2;go_returns;refine⟨_,rfl,A6A _ _ _ [2,n] ?_ ?_ (by simp),?_⟩
 ·first|(simp;done)|(simp;omega)
 ·first|(simp;done)|(simp;omega)
 ·go_grown
theorem C2G (s:ByteArray)(w:World)(h:s.size<=100):Calls Tryz.prog 211 #[.iface 267 (.agg #[.string s])] w fun e w'=> ∃v,e=.returned v/\w'.ownsRow w.heap.size 5 1 v (2+s.size) (([(3:Int),(s.size:Int)]++s.data.toList.map (fun b=>(b.toNat:Int))).map (Value.int .u8))/\Below w.heap.size w w':=by
 have hm:(s.size:Int) %256=s.size:=by omega
 obtain⟨i0,hi,hz0,hz1,hz2⟩:=info_parts A98;go_enter Tryz.func211,Tryz.ntmps211;go_wp2_with(at_builtin;refine Go.Lib.wpList_append_own_string _ rfl _ _ 118 9 rfl w.heap.size 5 i0 Tryz.underlying118 Tryz.underlying9 hi hz0 hz1 hz2 _ 2 ([(3:Int),(s.size:Int)].map (Value.int .u8)) rfl (A6A _ _ _ [3,(s.size:Int)] ?c0 ?c1 (by simp)) s rfl ?c2 ?c3 ?c4 ?_)
 case c0=>first|(simp;done)|(simp;omega)
 case c1=>first|(simp;done)|(simp;omega)
 case c2=>unfold maxLen;omega
 case c3=>omega
 case c4=>first|(simp;done)|(simp;omega)
 intro v' w1 D2 hgrow _;go_wp2_with fail;go_returns;refine⟨_,rfl,?_,?_⟩
 ·simp only[List.map_cons,List.map_map];exact D2
 ·refine Below.grown ?_ hgrow (by simp;omega) ?_
  ·go_grown
  ·intro k hk;simp[Value.ownBlock]at hk;omega
end
section
open Go.RowKit
def L9 (k n:Int)(s:ByteArray):ByteArray:=
 if okB k n s=true then(if k=0 then strOfNums [0]else if k=1 then strOfNums (s9 n 8)else if k=2 then strOfNums [2,n]else strOfNums [3,(s.size:Int)]++s)else⟨#[]⟩
theorem B3x (k n:Int)(s:ByteArray)(h:okB k n s=false):L9 k n s=⟨#[]⟩:=by rw[L9,h];rfl
theorem B0E (n:Int)(s:ByteArray)(h:okB 0 n s=true):L9 0 n s=strOfNums [0]:=by rw[L9,if_pos h];rfl
theorem B16 (n:Int)(s:ByteArray)(h:okB 1 n s=true):L9 1 n s=strOfNums (s9 n 8):=by rw[L9,if_pos h];rfl
theorem B12 (n:Int)(s:ByteArray)(h:okB 2 n s=true):L9 2 n s=strOfNums [2,n]:=by rw[L9,if_pos h];rfl
theorem A8i (n:Int)(s:ByteArray)(h:okB 3 n s=true):L9 3 n s=strOfNums [3,(s.size:Int)]++s:=by rw[L9,if_pos h];rfl
theorem B5j (xs:List Int)(s:ByteArray):strOfNums (xs++s.data.toList.map (fun b=>(b.toNat:Int)))=strOfNums xs++s:=by
 apply ByteArray.ext;apply Array.toList_inj.1;rw[ByteArray.data_append,Array.toList_append];have e:((fun n:Int=>UInt8.ofNat n.toNat)∘fun b:UInt8=>(b.toNat:Int))=id:=by funext b;simp
 simp only[strOfNums,List.map_append,List.map_map,e,List.map_id]
theorem A43 (xs:List Int):(strOfNums xs).size=xs.length:=by
 show(xs.map fun n=>UInt8.ofNat n.toNat).toArray.size=_;simp
theorem A3l {a b:ByteArray}(h:a=b):Ending.returned (.string a)=.returned (.string b):=by rw[h]
theorem A5W (n:Int)(s:ByteArray)(h:okB 3 n s=true):s.size<=100:=by rw[A4w]at h;simp at h;exact h.2
theorem A9e (n:Int)(s:ByteArray)(h:okB 2 n s=true):n=0\/n=1:=by rw[A4U]at h;simp at h;exact h.1
theorem B65 (k n:Int)(s:ByteArray)(w:World)(hs:s.size<=maxLen)(hok:okB k n s=false):Calls Tryz.prog 186 #[(.agg #[.int .i64 k,.int .i64 n,.string s])] w fun e w'=>e=.returned (.string (L9 k n s))/\Below w.heap.size w w':=by
 have hp:Hid (L9 k n s=⟨#[]⟩):=B3x k n s hok;go_enter Tryz.func186,Tryz.ntmps186;go_wp2_with fail;refine(A1X _ _ _ _ hs).mono ?_;rintro e w1 ⟨rfl,hb1⟩;rw[hok];go_wp2_with fail;go_returns;refine⟨A3l hp.out.symm,?_⟩;exact C3
theorem C1g (n:Int)(s:ByteArray)(w:World)(hs:s.size<=maxLen)(hok:okB 0 n s=true):Calls Tryz.prog 186 #[(.agg #[.int .i64 0,.int .i64 n,.string s])] w fun e w'=>e=.returned (.string (L9 0 n s))/\Below w.heap.size w w':=by
 have hp:Hid (L9 0 n s=_):=B0E n s hok;have A35:Hid (okB 0 n s=true):=hok;go_enter Tryz.func186,Tryz.ntmps186;go_wp2_with fail;refine(A1X _ _ _ _ hs).mono ?_;rintro e w1 ⟨rfl,hb1⟩;rw[hok];clear hok;have hz1:=hb1.size;simp only[World.size_alloc]at hz1;have hy1:w.heap.size<w1.heap.size:=by omega
 have qa:w1.cell? ⟨w.heap.size,0,none⟩=some (.int .i64 0):=cl8 hb1;have qb:w1.cell? ⟨w.heap.size,1,none⟩=some (.int .i64 n):=cl8 hb1;have qc:w1.cell? ⟨w.heap.size,2,none⟩=some (.string s):=cl8 hb1;go_wp2_with fail;refine(A4y _ _ _).mono ?_;rintro e w2 ⟨rfl,rfl⟩;go_wp2_with fail;refine(C2A _).mono ?_;rintro e w3 ⟨v,rfl,D2,hb3⟩;have hz3:=hb3.size;simp only[World.size_alloc]at hz3;have hcv:=A4M _ D2 (by omega);clear D2;go_wp2_with fail;go_returns;refine⟨A3l (hp.out.symm),?_⟩;exact C3
theorem C4F (n:Int)(s:ByteArray)(w:World)(hs:s.size<=maxLen)(hok:okB 1 n s=true):Calls Tryz.prog 186 #[(.agg #[.int .i64 1,.int .i64 n,.string s])] w fun e w'=>e=.returned (.string (L9 1 n s))/\Below w.heap.size w w':=by
 have hp:Hid (L9 1 n s=_):=B16 n s hok;have A35:Hid (okB 1 n s=true):=hok;go_enter Tryz.func186,Tryz.ntmps186;go_wp2_with fail;refine(A1X _ _ _ _ hs).mono ?_;rintro e w1 ⟨rfl,hb1⟩;rw[hok];clear hok;have hz1:=hb1.size;simp only[World.size_alloc]at hz1;have hy1:w.heap.size<w1.heap.size:=by omega
 have qa:w1.cell? ⟨w.heap.size,0,none⟩=some (.int .i64 1):=cl8 hb1;have qb:w1.cell? ⟨w.heap.size,1,none⟩=some (.int .i64 n):=cl8 hb1;have qc:w1.cell? ⟨w.heap.size,2,none⟩=some (.string s):=cl8 hb1;go_wp2_with fail;refine(A0m _ _ _).mono ?_;rintro e w2 ⟨rfl,rfl⟩;go_wp2_with fail;refine(C00 _ _).mono ?_;rintro e w3 ⟨v,rfl,D2,hb3⟩;have hz3:=hb3.size;simp only[World.size_alloc]at hz3;have hcv:=A4M _ D2 (by omega);clear D2;go_wp2_with fail;go_returns;refine⟨A3l (hp.out.symm),?_⟩;exact C3
theorem C2e (n:Int)(s:ByteArray)(w:World)(hs:s.size<=maxLen)(hok:okB 2 n s=true):Calls Tryz.prog 186 #[(.agg #[.int .i64 2,.int .i64 n,.string s])] w fun e w'=>e=.returned (.string (L9 2 n s))/\Below w.heap.size w w':=by
 have hp:Hid (L9 2 n s=_):=B12 n s hok;have A35:Hid (okB 2 n s=true):=hok;go_enter Tryz.func186,Tryz.ntmps186;go_wp2_with fail;refine(A1X _ _ _ _ hs).mono ?_;rintro e w1 ⟨rfl,hb1⟩;rw[hok];clear hok;have hz1:=hb1.size;simp only[World.size_alloc]at hz1;have hy1:w.heap.size<w1.heap.size:=by omega
 have qa:w1.cell? ⟨w.heap.size,0,none⟩=some (.int .i64 2):=cl8 hb1;have qb:w1.cell? ⟨w.heap.size,1,none⟩=some (.int .i64 n):=cl8 hb1;have qc:w1.cell? ⟨w.heap.size,2,none⟩=some (.string s):=cl8 hb1;go_wp2_with fail;refine(A3H _ _ _).mono ?_;rintro e w2 ⟨rfl,rfl⟩;go_wp2_with fail;refine(B9g _ _ (A9e n s A35.out)).mono ?_;rintro e w3 ⟨v,rfl,D2,hb3⟩;have hz3:=hb3.size;simp only[World.size_alloc]at hz3;have hcv:=A4M _ D2 (by omega);clear D2;go_wp2_with fail;go_returns;refine⟨A3l (hp.out.symm),?_⟩;exact C3
theorem B2O (n:Int)(s:ByteArray)(w:World)(hs:s.size<=maxLen)(hok:okB 3 n s=true):Calls Tryz.prog 186 #[(.agg #[.int .i64 3,.int .i64 n,.string s])] w fun e w'=>e=.returned (.string (L9 3 n s))/\Below w.heap.size w w':=by
 have hp:Hid (L9 3 n s=_):=A8i n s hok;have A35:Hid (okB 3 n s=true):=hok;go_enter Tryz.func186,Tryz.ntmps186;go_wp2_with fail;refine(A1X _ _ _ _ hs).mono ?_;rintro e w1 ⟨rfl,hb1⟩;rw[hok];clear hok;have hz1:=hb1.size;simp only[World.size_alloc]at hz1;have hy1:w.heap.size<w1.heap.size:=by omega
 have qa:w1.cell? ⟨w.heap.size,0,none⟩=some (.int .i64 3):=cl8 hb1;have qb:w1.cell? ⟨w.heap.size,1,none⟩=some (.int .i64 n):=cl8 hb1;have qc:w1.cell? ⟨w.heap.size,2,none⟩=some (.string s):=cl8 hb1;go_wp2_with fail;refine(A2H _ _ _).mono ?_;rintro e w2 ⟨rfl,rfl⟩;go_wp2_with fail;refine(C2G _ _ (A5W n s A35.out)).mono ?_;rintro e w3 ⟨v,rfl,D2,hb3⟩;have hz3:=hb3.size;simp only[World.size_alloc]at hz3;have hcv:=A4M _ D2 (by omega);clear D2;go_wp2_with fail;go_returns;refine⟨A3l ((B5j [3,(s.size:Int)] s).trans hp.out.symm),?_⟩;exact C3
theorem B8N (k n:Int)(s:ByteArray)(w:World)(hs:s.size<=maxLen):Calls Tryz.prog 186 #[(.agg #[.int .i64 k,.int .i64 n,.string s])] w fun e w'=>e=.returned (.string (L9 k n s))/\Below w.heap.size w w':=by
 by_cases hok:okB k n s=true
 ·by_cases h0:k=0
  ·subst h0;exact C1g n s w hs hok
  by_cases h1:k=1
  ·subst h1;exact C4F n s w hs hok
  by_cases h2:k=2
  ·subst h2;exact C2e n s w hs hok
  by_cases h3:k=3
  ·subst h3;exact B2O n s w hs hok
  ·rw[A4A k n s h0 h1 h2 h3]at hok;cases hok
 ·exact B65 k n s w hs (by simpa using hok)
theorem B1X:(Tryz.prog.info? 270).map (·.size)=some 2:=by kernel_rfl
theorem C0g:liesAt Tryz.prog Tryz.prog.depth 270 (2/Tryz.prog.cellsOf 270) 0 270 1=true:=by kernel_rfl
theorem B6u:(Tryz.prog.info? 5).map (fun i=>(i.zero,i.size,i.bytes))=some (some (.int .u8 0),1,1):=by kernel_rfl
theorem C1H (b:Nat)(w:World)(h0:w.cell? ⟨b,0,none⟩=some (.pointer (some ⟨b,0,none⟩))):Calls Tryz.prog 210 #[.pointer (some ⟨b,0,none⟩)] w fun e w'=>e=.returned (.tuple #[])/\w'=w:=by
 obtain⟨j,hj,_⟩:=Option.map_eq_some_iff.1 B1X;go_enter Tryz.func210,Tryz.ntmps210;go_wp2;rw[Lib.run_neq_ptr_same w _ Tryz.underlying268 hj];go_wp2
 go_end0
 exact⟨rfl,rfl⟩
theorem B2x (b:Nat)(w:World)(h0:w.cell? ⟨b,0,none⟩=some (.pointer none))(hsh:w.shape? b=some (270,2))(hfz:w.frozen? ⟨b,0,none⟩=false):Calls Tryz.prog 210 #[.pointer (some ⟨b,0,none⟩)] w fun e w'=>e=.returned (.tuple #[])/\w'=w.setCell ⟨b,0,none⟩ (.pointer (some ⟨b,0,none⟩)):=by
 obtain⟨j,hj,hjs⟩:=Option.map_eq_some_iff.1 B1X;go_enter Tryz.func210,Tryz.ntmps210;go_wp2;rw[Lib.run_to_unsafe w ⟨b,0,none⟩ Tryz.underlying268 Tryz.underlying138 hj (by rw[hjs];decide) hsh (Nat.zero_lt_succ 1)];simp only[Result.andThen];rw[Oper.upon_value];go_wp2;rw[run_callFunc_extern Tryz.func219 (by kernel_rfl) (by kernel_rfl) (by kernel_rfl) (e:=Extern.AbiNoEscape.same) (by kernel_rfl)];rw[Lib.run_noEscape];simp only[Result.andThen];rw[Oper.upon_value];go_wp2;rw[Lib.run_from_unsafe w ⟨b,0,none⟩ Tryz.underlying138 Tryz.underlying268 hj hsh C0g];simp only[Result.andThen];rw[Oper.upon_value];go_wp2
 go_end0
 exact⟨rfl,rfl⟩
theorem C2E (B b:Nat)(bs:List Value)(w:World)(h:Lib.IsBuilder 270 5 B b bs w):Calls Tryz.prog 210 #[.pointer (some ⟨b,0,none⟩)] w fun e w'=>e=.returned (.tuple #[])/\(Lib.BuilderAt 270 5 B b (.pointer (some ⟨b,0,none⟩)) bs w'/\Below B w w'):=by
 rcases h with h|h
 ·refine(B2x b w h.cell0 h.shape h.frozen0).mono ?_;rintro e w' ⟨rfl,rfl⟩;exact⟨rfl,h.used _,(Below.refl B w).setCell (p:=⟨b,0,none⟩) h.1 _⟩
 ·refine(C1H b w h.cell0).mono ?_;rintro e w' ⟨rfl,rfl⟩;exact⟨rfl,h,Below.refl B _⟩
theorem B8A (B b:Nat)(bs:List Value)(s:ByteArray)(w:World)(h:Lib.IsBuilder 270 5 B b bs w)(D3:bs.length+s.size<=140737488355328)(hBw:B<=w.heap.size):Calls Tryz.prog 185 #[.pointer (some ⟨b,0,none⟩),.string s] w fun e w'=>e=.returned (.tuple #[.int .i64 s.size,.nilIface])/\(Lib.BuilderAt 270 5 B b (.pointer (some ⟨b,0,none⟩)) (bs++Lib.strCells s) w'/\Below B w w'):=by
 obtain⟨i0,hi,hz0,hz1,hz2⟩:=info_parts B6u;go_enter Tryz.func185,Tryz.ntmps185;go_wp2_with fail;refine(C2E B b bs _ h).mono ?_;rintro e w1 ⟨rfl,h1,hb1⟩;obtain⟨hB,v,hbk,D2,hne⟩:=h1;have c0:w1.cell? ⟨b,0,none⟩=some (.pointer (some ⟨b,0,none⟩)):=by rw[Lib.cell_of_heap hbk];rfl
 have c1:w1.cell? ⟨b,1,none⟩=some v:=by rw[Lib.cell_of_heap hbk];rfl
 go_wp2_with(at_builtin;refine Lib.wpList_append_own_string _ rfl _ _ 118 9 rfl B 5 i0 Tryz.underlying118 Tryz.underlying9 hi hz0 hz1 hz2 _ _ _ rfl D2 s rfl ?c3 ?c4 ?c5 ?_)
 case c3=>unfold maxLen;omega
 case c4=>omega
 case c5=>have:=hb1.size;omega
 intro v' w2 hown' hgrow _;have hlt:b<w1.heap.size:=by
  rcases Nat.lt_or_ge b w1.heap.size with h'|h'
  ·exact h'
  ·simp[Array.getElem?_eq_none h']at hbk
 have hb2:w2.heap[b]?=some (.cells #[.pointer (some ⟨b,0,none⟩),v] 270 (0,0)):=(hgrow.block b hlt (fun e=>hne e.symm)).trans hbk;have d0:w2.cell? ⟨b,0,none⟩=some (.pointer (some ⟨b,0,none⟩)):=by rw[Lib.cell_of_heap hb2];rfl
 have d1:w2.cell? ⟨b,1,none⟩=some v:=by rw[Lib.cell_of_heap hb2];rfl
 have f1:w2.frozen? ⟨b,1,none⟩=false:=Lib.frozen_of_heap hb2 1;have hs:∃ao n' cap,v'=.slice ao n' cap:=by
  rcases hown'.2 with⟨hv,_⟩|⟨g,cap,cur,hv,_⟩<;>exact⟨_,_,_,hv⟩
 obtain⟨ao,n',cap,rfl⟩:=hs;go_wp2
 go_ret2
 exact⟨rfl,Lib.BuilderAt.put (T:=270) (e:=5) hB hb2 (bs':=bs++Lib.strCells s) (by simpa [Lib.strCells_length]using hown') (by decide),(hb1.grown hgrow (by have:=hb1.size;omega) (fun k hk=>(D2.lt k hk).1)).setCell (p:=⟨b,1,none⟩) hB _⟩
def O4 (vs:List V3):List UInt8:=vs.flatMap fun x=>(L9 x.k x.n x.s).data.toList
theorem C1G {vs:List V3}{k:Nat}{x:V3}(h:vs[k]?=some x):O4 (vs.take (k+1))=O4 (vs.take k)++(L9 x.k x.n x.s).data.toList:=by
 obtain⟨hk,rfl⟩:=gE1 h;unfold O4;rw[List.take_succ_eq_append_getElem hk,List.flatMap_append];simp
theorem A79 (k n:Int)(s:ByteArray):(L9 k n s).size<=102:=by
 unfold L9;split
 ·rename_i h
  split
  ·rw[A43];simp
  ·split
   ·rw[A43,B7k];omega
   ·split
    ·rw[A43];simp
    ·have h3:k=3:=by
      by_cases h3:k=3
      ·exact h3
      ·rw[A4A k n s (by assumption) (by assumption) (by assumption) h3]at h;cases h
     subst h3;have:=A5W n s h;rw[ByteArray.size_append,A43];simp;omega
 ·exact Nat.zero_le _
theorem A6Y (vs:List V3):(O4 vs).length<=102*vs.length:=by
 induction vs with
 |nil=>simp[O4]
 |cons x xs ih=>
  have h:=A79 x.k x.n x.s;have e:O4 (x::xs)=(L9 x.k x.n x.s).data.toList++O4 xs:=by unfold O4;rw[List.flatMap_cons]
  rw[e,List.length_append,List.length_cons];have:(L9 x.k x.n x.s).data.toList.length=(L9 x.k x.n x.s).size:=Array.length_toList;omega
theorem B0Y {T e:TypeId}{B b:Nat}{p:Value}{bs:List Value}{w w':World}(h:Lib.BuilderAt T e B b p bs w)(hb:Below w.heap.size w w'):Lib.BuilderAt T e B b p bs w':=by
 obtain⟨h0,v,h1,h2,h3⟩:=h;have hlt:b<w.heap.size:=by
  rcases Nat.lt_or_ge b w.heap.size with h'|h'
  ·exact h'
  ·simp[Array.getElem?_eq_none h']at h1
 refine⟨h0,v,(hb.block b hlt).trans h1,⟨h2.1,?_⟩,h3⟩;rcases h2.2 with hn|⟨g,cap,cur,hv,hg,hc,rest⟩
 ·exact .inl hn
 ·have hgl:g<w.heap.size:=by
   rcases Nat.lt_or_ge g w.heap.size with h'|h'
   ·exact h'
   ·simp[Array.getElem?_eq_none h']at hc
  exact .inr ⟨g,cap,cur,hv,hg,(hb.block g hgl).trans hc,rest⟩
theorem C0A {T e:TypeId}{B b:Nat}{bs:List Value}{w w':World}(h:Lib.IsBuilder T e B b bs w)(hb:Below w.heap.size w w'):Lib.IsBuilder T e B b bs w':=
 h.elim (fun h=> .inl (B0Y h hb)) (fun h=> .inr (B0Y h hb))
theorem B0z (v:Value)(vs:List V3)(w:World)(hr:E3 w v vs)(hw:j2 vs)(hn:vs.length<=1048576):Calls Tryz.prog 163 #[v] w fun e w'=>e=.returned (.string ⟨(O4 vs).toArray⟩)/\Below w.heap.size w w':=by
 obtain⟨a,c,b,o,rfl,hl,hc,ha⟩:=hr.pick;unfold maxLen at hc;clear hr;go_enter Tryz.func163,Tryz.ntmps163;go_wp2;go_loopw [8] (fun i wr=> ∃k:Nat,k<=vs.length/\i=.int .i64 k/\Below w.heap.size w wr/\Lib.IsBuilder 270 5 w.heap.size w.heap.size (Lib.byteCells (O4 (vs.take k))) wr) (fun i _=>vs.length - (intOf i).toNat)
 case atStart=>
  refine⟨0,Nat.zero_le _,rfl,by go_grown,.inl ⟨Nat.le_refl _,.slice none 0 0,?_,?_,by simp[Value.ownBlock]⟩⟩
  ·exact heap_alloc_new w _
  ·simpa [O4,Lib.byteCells]using World.ownsRow_nil _ _ _ _
 case round=>
  obtain⟨k,hk,rfl,hb,hB⟩:=hrel;have hzb:=hb.size;have hsz:w.heap.size<wr.heap.size:=by rcases hB with h|h<;>exact h.lt
  by_cases hlt:k<vs.length
  ·obtain⟨rfl,hblt,hL⟩:=ha k hlt;obtain⟨x,hx,c0,c1,c2,hbr⟩:=hL.at hblt hb hlt;have hxs:x.s.size<=maxLen:=(hw x (mg8 hx)).2.2;have HX:Hid (vs[k]?=some x):=hx;have hl1:(Lib.byteCells (O4 (vs.take k))).length+(L9 x.k x.n x.s).size<=140737488355328:=by
    have h1:=A6Y (vs.take k);have h2:=A79 x.k x.n x.s;rw[Lib.byteCells_length];have:(vs.take k).length<=1048576:=by simp;omega
    omega
   clear ha hL hx hw;go_wp2_with(first|(go_at_call 186;refine cM8 (B8N _ _ _ _ hxs) ?_;rintro e w1 ⟨rfl,hb1⟩;have hz1:=hb1.size;(try simp at hz1))|fail);have hB1:=C0A hB (w':=w1) C3;refine cM8 (B8A w.heap.size w.heap.size _ (L9 x.k x.n x.s) w1 hB1 hl1 (by omega)) ?_;rintro e w2 ⟨rfl,hB2,hb2⟩;have hz2:=hb2.size;go_wp2
   go_roundw
   case rel=>
    refine⟨k+1,hlt,by simp,(show Below w.heap.size w w1 from C3).trans hb2,.inr ?_⟩;rw[C1G HX.out,Lib.byteCells_append,<-Lib.strCells_eq];exact hB2
   case measure=>simp[intOf];omega
  ·clear ha hw;obtain rfl:k=vs.length:=by omega
   rw[List.take_length]at hB;go_wp2_with fail;refine cM8 (Tryz.Builder_String_any w.heap.size w.heap.size (O4 vs) wr hB hzb) ?_;rintro e w1 ⟨rfl,hb1⟩;go_wp2;go_returns;exact⟨rfl,hb.trans hb1⟩
theorem A7l {n:Int}(h:(Lit.int .i64 n).wf=true): -9223372036854775808<=n/\n<=9223372036854775807:=by
 have e1:IntKind.i64.min= -9223372036854775808:=rfl;have e2:IntKind.i64.max=9223372036854775807:=rfl;simp[Lit.wf,e1,e2]at h;omega
theorem A2B {x y M:Int}(hM:0<M)(h1:x/ (M*256)=y/ (M*256))(h2:x/M %256=y/M %256):x/M=y/M:=by
 have a:x/M/256=x/ (M*256):=Int.ediv_ediv_of_nonneg (Int.le_of_lt hM);have b:y/M/256=y/ (M*256):=Int.ediv_ediv_of_nonneg (Int.le_of_lt hM);rw[<-a,<-b]at h1;omega
theorem C1Y {n m:Int}(hn:(Lit.int .i64 n).wf=true)(hm:(Lit.int .i64 m).wf=true)(h:∀j,j<8->A0Y n j=A0Y m j):n=m:=by
 have e0:=h 0 (by omega);have e1:=h 1 (by omega);have e2:=h 2 (by omega);have e3:=h 3 (by omega);have e4:=h 4 (by omega);have e5:=h 5 (by omega);have e6:=h 6 (by omega);have e7:=h 7 (by omega);have bn:=A7l hn;have bm:=A7l hm;have wn:IntKind.u64.wrap n=n %18446744073709551616:=by simp[IntKind.wrap,IntKind.bits,IntKind.signed]
 have wm:IntKind.u64.wrap m=m %18446744073709551616:=by simp[IntKind.wrap,IntKind.bits,IntKind.signed]
 simp only[A0Y,wn,wm]at e0 e1 e2 e3 e4 e5 e6 e7;have key:n %18446744073709551616=m %18446744073709551616:=by
  have a1:=Int.emod_nonneg n (show(18446744073709551616:Int)≠0 by decide);have a2:=Int.emod_lt_of_pos n (show(0:Int)<18446744073709551616 by decide);have b1:=Int.emod_nonneg m (show(18446744073709551616:Int)≠0 by decide);have b2:=Int.emod_lt_of_pos m (show(0:Int)<18446744073709551616 by decide);generalize n %18446744073709551616=x at*;generalize m %18446744073709551616=y at*;have s7:x/72057594037927936=y/72057594037927936:=by
   have e:x/72057594037927936 %256=y/72057594037927936 %256:=e0;clear e0 e1 e2 e3 e4 e5 e6 e7;omega
  have s6:=A2B (M:=281474976710656) (by decide) s7 e1;have s5:=A2B (M:=1099511627776) (by decide) s6 e2;have s4:=A2B (M:=4294967296) (by decide) s5 e3;have s3:=A2B (M:=16777216) (by decide) s4 e4;have s2:=A2B (M:=65536) (by decide) s3 e5;have s1:=A2B (M:=256) (by decide) s2 e6;have s0:=A2B (M:=1) (by decide) s1 e7
  simpa using s0
 omega
def vU (x:V3):List UInt8:=(L9 x.k x.n x.s).data.toList
theorem A4P (xs:List Int):(strOfNums xs).data.toList=xs.map fun n=>UInt8.ofNat n.toNat:=rfl
theorem A69 {s:ByteArray}(h:(s.toList==[])=true):s=⟨#[]⟩:=by
 rw[beq_iff_eq,ByteArray.toList_eq]at h;exact ByteArray.ext (Array.toList_inj.1 h)
theorem B0h {x:V3}(h:okW x=true):(x=⟨0,0,⟨#[]⟩⟩/\vU x=[0])\/(x=⟨1,x.n,⟨#[]⟩⟩/\vU x=1::(List.range 8).map (fun j=>UInt8.ofNat (A0Y x.n j).toNat))\/
  (x=⟨2,x.n,⟨#[]⟩⟩/\(x.n=0\/x.n=1)/\vU x=[2,UInt8.ofNat x.n.toNat])\/(x=⟨3,0,x.s⟩/\x.s.size<=100/\vU x=3::UInt8.ofNat x.s.size::x.s.data.toList):=by
 obtain⟨k,n,s⟩:=x;unfold okW at h;dsimp only at h⊢;by_cases h0:k=0
 ·subst h0;have hp:=B0E n s h;rw[A8k]at h;simp only[Bool.and_eq_true,beq_iff_eq]at h;obtain⟨rfl,hs⟩:=h;obtain rfl:=A69 (s:=s) (by rw[beq_iff_eq];exact hs);exact .inl ⟨rfl,by unfold vU;dsimp only;rw[hp,A4P];rfl⟩
 by_cases h1:k=1
 ·subst h1;have hp:=B16 n s h;rw[A8R]at h;obtain rfl:=A69 h;refine .inr (.inl ⟨rfl,?_⟩);unfold vU;dsimp only;rw[hp,A4P,s9,List.map_cons,List.map_map];rfl
 by_cases h2:k=2
 ·subst h2;have hp:=B12 n s h;have hn:=A9e n s h;rw[A4U]at h;simp only[Bool.and_eq_true]at h;obtain rfl:=A69 h.2;exact .inr (.inr (.inl ⟨rfl,hn,by unfold vU;dsimp only;rw[hp,A4P];rfl⟩))
 by_cases h3:k=3
 ·subst h3;have hp:=A8i n s h;have hs:=A5W n s h;rw[A4w]at h;simp only[Bool.and_eq_true,beq_iff_eq]at h;obtain⟨rfl,_⟩:=h;refine .inr (.inr (.inr ⟨rfl,hs,?_⟩));unfold vU;dsimp only;rw[hp,ByteArray.data_append,Array.toList_append,A4P];simp
 ·rw[A4A k n s h0 h1 h2 h3]at h;cases h
theorem A5v {a b:Nat}(ha:a<256)(hb:b<256)(h:UInt8.ofNat a=UInt8.ofNat b):a=b:=by
 have:=congrArg UInt8.toNat h;simp[UInt8.toNat_ofNat']at this;omega
theorem A9a (n:Int)(j:Nat):0<=A0Y n j/\A0Y n j<256:=by unfold A0Y;omega
theorem B4k {x y:V3}{l l':List UInt8}(hx:okW x=true)(hy:okW y=true)(wx:x.wf)(wy:y.wf)(h:vU x++l=vU y++l'):x=y/\l=l':=by
 rcases B0h hx with⟨ex,fx⟩|⟨ex,fx⟩|⟨ex,nx,fx⟩|⟨ex,sx,fx⟩<;>rcases B0h hy with⟨ey,fy⟩|⟨ey,fy⟩|⟨ey,ny,fy⟩|⟨ey,sy,fy⟩<;>rw[fx,fy]at h
 all_goals first|(exfalso;simp at h;done)|skip
 ·rw[ex,ey];exact⟨rfl,by simpa using h⟩
 ·have hl:((List.range 8).map (fun j=>UInt8.ofNat (A0Y x.n j).toNat)).length=((List.range 8).map (fun j=>UInt8.ofNat (A0Y y.n j).toNat)).length:=by simp
  rw[List.cons_append,List.cons_append,List.cons.injEq]at h;obtain⟨h1,h2⟩:=List.append_inj h.2 hl;have hn:x.n=y.n:=C1Y wx.2.1 wy.2.1 fun j hj=>by
   have e:=congrArg (fun l=>l[j]?) h1;simp only[List.getElem?_map,List.getElem?_range hj,Option.map_some,Option.some.injEq]at e;have b1:=A9a x.n j;have b2:=A9a y.n j;have:=A5v (by omega) (by omega) e;omega
  rw[ex,ey,hn];exact⟨rfl,h2⟩
 ·simp only[List.cons_append,List.nil_append,List.cons.injEq,true_and]at h;have hn:=A5v (by omega) (by omega) h.1;have:x.n=y.n:=by omega
  rw[ex,ey,this];exact⟨rfl,h.2⟩
 ·simp only[List.cons_append,List.cons.injEq,true_and]at h;have hn:=A5v (by omega) (by omega) h.1;obtain⟨h1,h2⟩:=List.append_inj h.2 (by simpa using hn);have:x.s=y.s:=ByteArray.ext (Array.toList_inj.1 h1);rw[ex,ey,this];exact⟨rfl,h2⟩
theorem A94 (x:V3)(r:List V3):O4 (x::r)=vU x++O4 r:=by unfold O4 vU;rw[List.flatMap_cons]
theorem B2B:∀ {r q:List V3},r.length=q.length->r.all okW=true->q.all okW=true->j2 r->j2 q->O4 r=O4 q->r=q
 | [],[],_,_,_,_,_,_=>rfl
 |x::r,y::q,hl,hr,hq,wr,wq,h=>by
  rw[A94,A94]at h;rw[List.all_cons,Bool.and_eq_true]at hr hq;obtain⟨rfl,h2⟩:=B4k hr.1 hq.1 (wr x (by simp)) (wq y (by simp)) h;rw[B2B (by simpa using hl) hr.2 hq.2 (fun z hz=>wr z (by simp[hz])) (fun z hz=>wq z (by simp[hz])) h2]
def gR8 (W:Int)(r:List V3):Prop:=T8 r W=true/\j2 r
theorem gR8.inj {W:Int}{r q:List V3}(hr:gR8 W r)(hq:gR8 W q)(h:O4 r=O4 q):r=q:=by
 have a:=hr.1;have b:=hq.1;simp only[T8,Bool.and_eq_true,decide_eq_true_eq]at a b;exact B2B (by omega) a.2 b.2 hr.2 hq.2 h
def E4:List C2->List V3->Int
 | [],_=>0
 |c::cs,r=>(if cR8 c.r r=0 then c.n else 0)+E4 cs r
theorem A74 (cs ds:List C2)(r:List V3):E4 (cs++ds) r=E4 cs r+E4 ds r:=by
 induction cs with
 |nil=>simp[E4]
 |cons c cs ih=>rw[List.cons_append,E4,E4,ih];omega
theorem A0Z (cs:List C2)(c:C2)(r:List V3):E4 (cs++ [c]) r=E4 cs r+if cR8 c.r r=0 then c.n else 0:=by
 rw[A74];simp[E4]
theorem A3d {cs:List C2}{r:List V3}(h:∀c∈cs,c.r≠r):E4 cs r=0:=by
 induction cs with
 |nil=>rfl
 |cons c cs ih=>
  rw[E4,if_neg (fun e=>h c (by simp) ((K7 _ _).1 e)),ih fun x hx=>h x (by simp[hx])];rfl
theorem A2n:∀ {cs:List C2} (r:List V3),Asc cs->E4 cs r=K6 cs r
 | [],_,_=>rfl
 |c::cs,r,h=>by
  rw[E4,A1o];by_cases e:cR8 c.r r=0
  ·have:E4 cs r=0:=A3d fun x hx=>by
    have:=(K7 _ _).1 e;rw[<-this];exact h.ne x hx
   rw[if_pos e,if_pos e,this];omega
  ·rw[if_neg e,if_neg e,A2n r (List.pairwise_cons.1 h).2];omega
theorem A5y {cs:List C2}{M:Int}(h:∀c∈cs,-M<=c.n/\c.n<=M)(hM:0<=M)(r:List V3): -(M*cs.length)<=E4 cs r/\E4 cs r<=M*cs.length:=by
 induction cs with
 |nil=>simp[E4]
 |cons c cs ih=>
  have h1:=h c (by simp);have h2:=ih fun x hx=>h x (by simp[hx]);rw[E4,List.length_cons];have e:M* ((cs.length+1:Nat):Int)=M*cs.length+M:=by rw[Int.natCast_add,Int.mul_add];simp
  rw[e];generalize M* (cs.length:Int)=Q at*;split<;>omega
def Rc (v:Value):Option (DataW (Value×Int)×List MemPlace):=match v with
 | .agg cs=>match cs.toList with
  | [.slice a l c,.int .i64 n]=>some (.held (.slice a l c,n),[])
  |_=>none
 |_=>none
theorem A3n (a:Option Addr)(l c:Nat)(n:Int):Rc (.agg #[.slice a l c,.int .i64 n])=some (.held (.slice a l c,n),[]):=rfl
theorem A5u {v:Value}{z:DataW (Value×Int)×List MemPlace}(h:Rc v=some z):∃a l c n,v=.agg #[.slice a l c,.int .i64 n]/\z=(.held (.slice a l c,n),[]):=by
 unfold Rc at h;split at h
 ·rename_i cs
  split at h
  ·rename_i a l c n e
   refine⟨a,l,c,n,?_,(Option.some.inj h).symm⟩;congr 1;exact Array.toList_inj.1 e
  ·cases h
 ·cases h
abbrev DT:=DataW (Value×Int)
def K8 (r:List V3):Lit:=.string (O4 r)
theorem A7Y (r:List V3):WideAt.IsKeyLit (K8 r):=trivial
theorem A0n {W:Int}{r q:List V3}(hr:gR8 W r)(hq:gR8 W q)(h:K8 r=K8 q):r=q:=hr.inj hq (by unfold K8 at h;simpa using h)
def A0L (w:World)(b:Nat)(v:Value)(r:List V3):Prop:=∃g,D9 w v r g/\∀x∈g,x<b
theorem A0L.below {w w':World}{b:Nat}{v:Value}{r:List V3}(h:A0L w b v r)(hb:Below b w w'):A0L w' b v r:=by
 obtain⟨g,hg,hl⟩:=h;exact⟨g,hg.keep hb.size fun x hx=>hb.block x (hl x hx),hl⟩
theorem A0L.mono {w:World}{b b':Nat}{v:Value}{r:List V3}(h:A0L w b v r)(hb:b<=b'):A0L w b' v r:=by
 obtain⟨g,hg,hl⟩:=h;exact⟨g,hg,fun x hx=>Nat.lt_of_lt_of_le (hl x hx) hb⟩
structure U4 (w:World)(b:Nat)(D:DT)(W:Int)(cs:List C2):Prop where
 no:∀r,gR8 W r->E4 cs r=0->Maps.has D (K8 r)=false
 yes:∀r,gR8 W r->E4 cs r≠0->∃v,(∀z,D.atKey (K8 r) z=.held (v,E4 cs r))/\A0L w b v r
 only:∀kl,Maps.has D kl=true->∃r,gR8 W r/\kl=K8 r
theorem U4.below {w w':World}{b:Nat}{D:DT}{W:Int}{cs:List C2}(h:U4 w b D W cs)(hb:Below b w w'):U4 w' b D W cs:=
 ⟨h.no,fun r hr hn=>by obtain⟨v,h1,h2⟩:=h.yes r hr hn;exact⟨v,h1,h2.below hb⟩,h.only⟩
theorem U4.start (w:World)(b:Nat)(W:Int):U4 w b (.map []) W []:=
 ⟨fun _ _ _=>rfl,fun _ _ h=>absurd rfl h,fun kl h=>by cases h⟩
theorem U4.at {w:World}{b:Nat}{D:DT}{W:Int}{cs:List C2}(h:U4 w b D W cs){r:List V3}(hr:gR8 W r):∃a l c,D.atKey (K8 r) (.held (.slice none 0 0,0))=.held (.slice a l c,E4 cs r):=by
 by_cases hn:E4 cs r=0
 ·exact⟨none,0,0,by rw[hn];exact Maps.atKey_of_not_has (h.no r hr hn) _⟩
 ·obtain⟨v,h1,g,⟨a,c,rfl,_⟩,_⟩:=h.yes r hr hn;exact⟨a,_,c,h1 _⟩
theorem U4.put {w:World}{b:Nat}{D:DT}{W:Int}{cs:List C2}(h:U4 w b D W cs)(hD:Maps.IsMap D){r:List V3}(hr:gR8 W r){m:Int}{v:Value}(hv:A0L w b v r)(hs:E4 cs r+m≠0):U4 w b (D.put (K8 r) (.held (v,E4 cs r+m))) W (cs++ [⟨r,m⟩]):=by
 refine⟨fun q hq hz=>?_,fun q hq hz=>?_,fun kl hk=>?_⟩
 ·rw[A0Z]at hz;by_cases e:r=q
  ·subst e;rw[if_pos (Y8 _)]at hz;exact absurd hz hs
  ·rw[if_neg (fun e'=>e ((K7 _ _).1 e')),Int.add_zero]at hz;rw[Maps.has_put_other (fun e'=>e (A0n hq hr e').symm)];exact h.no q hq hz
 ·rw[A0Z]at hz⊢;by_cases e:r=q
  ·subst e;rw[if_pos (Y8 _)];exact⟨v,fun z=>Maps.atKey_put_same hD (A7Y _) _ _,hv⟩
  ·rw[if_neg (fun e'=>e ((K7 _ _).1 e')),Int.add_zero]at hz⊢;obtain⟨u,h1,h2⟩:=h.yes q hq hz;exact⟨u,fun z=>by rw[Maps.atKey_put_other (fun e'=>e (A0n hq hr e').symm)];exact h1 z,h2⟩
 ·by_cases e:kl=K8 r
  ·exact⟨r,hr,e⟩
  ·rw[Maps.has_put_other e]at hk;exact h.only kl hk
theorem U4.del {w:World}{b:Nat}{D:DT}{W:Int}{cs:List C2}(h:U4 w b D W cs){r:List V3}(hr:gR8 W r){m:Int}(hs:E4 cs r+m=0):U4 w b (D.del (K8 r)) W (cs++ [⟨r,m⟩]):=by
 refine⟨fun q hq hz=>?_,fun q hq hz=>?_,fun kl hk=>?_⟩
 ·by_cases e:r=q
  ·subst e;exact Maps.has_del_same
  ·rw[A0Z,if_neg (fun e'=>e ((K7 _ _).1 e')),Int.add_zero]at hz;rw[Maps.has_del_other (fun e'=>e (A0n hq hr e').symm)];exact h.no q hq hz
 ·by_cases e:r=q
  ·subst e;rw[A0Z,if_pos (Y8 _)]at hz;exact absurd hs hz
  ·rw[A0Z,if_neg (fun e'=>e ((K7 _ _).1 e')),Int.add_zero]at hz⊢;obtain⟨u,h1,h2⟩:=h.yes q hq hz;exact⟨u,fun z=>by rw[Maps.atKey_del_other (fun e'=>e (A0n hq hr e').symm)];exact h1 z,h2⟩
 ·by_cases e:kl=K8 r
  ·rw[e,Maps.has_del_same]at hk;cases hk
  ·rw[Maps.has_del_other e]at hk;exact h.only kl hk
theorem B1m (w:World):(zeroValue 116).run Tryz.prog w=.ok (.agg #[.slice none 0 0,.int .i64 0]) w:=by kernel_rfl
theorem A83 (a:Option Addr)(l c:Nat)(n:Int)(w:World):(Instr.field 116 (.agg #[.slice a l c,.int .i64 n]) 1).run Tryz.prog w=.ok (.int .i64 n) w:=by kernel_rfl
def m8 (w:World)(b n:Nat)(W:Int)(cs:List C2):Prop:=∃D:DT,w.ownsMap Tryz.prog 9 Rc b n D/\U4 w b D W cs
def A1c (w:World)(b B n:Nat)(W:Int)(cs:List C2):Prop:=∃D:DT,w.ownsMap Tryz.prog 9 Rc b n D/\U4 w B D W cs
theorem A1c.lt {w:World}{b B n:Nat}{W:Int}{cs:List C2}(h:A1c w b B n W cs):b<w.heap.size:=by
 obtain⟨D,h,_⟩:=h;exact h.lt
theorem A1c.keep {w w':World}{b B n:Nat}{W:Int}{cs:List C2}(h:A1c w b B n W cs)(hB:B<=w.heap.size)(hb:Below w.heap.size w w'):A1c w' b B n W cs:=by
 obtain⟨D,h,hT⟩:=h;exact⟨D,h.kept (row:=none) ⟨hb.os,hb.tape,hb.output,hb.size,fun k hk _=>hb.block k hk⟩ (by simp),hT.below (hb.mono hB)⟩
theorem m8.lt {w:World}{b n:Nat}{W:Int}{cs:List C2}(h:m8 w b n W cs):b<w.heap.size:=by
 obtain⟨D,h,_⟩:=h;exact h.lt
theorem m8.keep {w w':World}{b n:Nat}{W:Int}{cs:List C2}(h:m8 w b n W cs)(hb:Below w.heap.size w w'):m8 w' b n W cs:=by
 have hl:=h.lt;obtain⟨D,h,hT⟩:=h;exact⟨D,h.kept (row:=none) ⟨hb.os,hb.tape,hb.output,hb.size,fun k hk _=>hb.block k hk⟩ (by simp),hT.below (hb.mono (Nat.le_of_lt hl))⟩
theorem C3t (b n:Nat)(W:Int)(cs:List C2)(v:Value)(r:List V3)(m:Int)(w:World)(hT:m8 w b n W cs)(hv:A0L w b v r)(hr:gR8 W r)(D3:r.length<=1048576)(hn:n<=4611686018427387904)(hm: -4611686018427387904<=E4 cs r+m/\E4 cs r+m<=4611686018427387904):Calls Tryz.prog 136 #[.map (some b),v,.int .i64 m] w fun e w'=>e=.returned (.tuple #[])/\m8 w' b (n+1) W (cs++ [⟨r,m⟩])/\Below b w w':=by
 have hlb:=hT.lt;have J5:=B0z v r w (by obtain⟨g,hg,_⟩:=hv;exact hg.is) hr.2 D3;have hsz:(ByteArray.mk (O4 r).toArray).size<=maxLen:=by
  have:=A6Y r;show(O4 r).toArray.size<=maxLen;unfold maxLen;simp;omega
 have A0o:keyOf Tryz.prog 9 (.string ⟨(O4 r).toArray⟩)=some (K8 r):=by
  rw[WideMaps.keyOf_string_mk Tryz.underlying9 hsz];rfl
 obtain⟨av,cv,rfl⟩:∃a c,v=.slice a r.length c:=by obtain⟨g,⟨a,c,e,_⟩,_⟩:=hv;exact⟨a,c,e⟩
 obtain⟨S,HS⟩:∃S,Hid (E4 cs r=S):=⟨_,rfl⟩;rw[HS.out]at hm;have hwi:IntKind.i64.wrap (S+m)=S+m:=by rw[IntKind.wrap_i64];omega
 have hwr:wrap64 (S+m)=S+m:=by unfold wrap64;omega
 go_enter Tryz.func136,Tryz.ntmps136;go_wp2_with fail;refine cM8 J5 ?_;rintro e w1 ⟨rfl,hb1⟩;have hT1:=hT.keep hb1;have hbb:Below b w w1:=hb1.mono (Nat.le_of_lt hlb);have hv1:=hv.below hbb;have hl1:b<w1.heap.size:=hT1.lt;clear hT hv J5;obtain⟨D,D2,hTD⟩:=hT1;obtain⟨ua,ul,uc,hat⟩:=hTD.at hr;obtain⟨q,ps,A4D,hq⟩:=D2.lookup (t:=217) (e:=116) (Maps.string_keyed Tryz.underlying9) Tryz.underlying217 (B1m w1) (A3n _ _ _ _) A0o;rw[hat,HS.out]at hq;obtain⟨ra,rl,rq,n0,rfl,e0⟩:=A5u hq;obtain⟨⟨⟨rfl,rfl,rfl⟩,rfl⟩,_⟩:((ua=ra/\ul=rl/\uc=rq)/\S=n0)/\ps=[]:=by simpa using e0
 clear hq e0 hat;have T9:=A83 ua ul uc S w1;by_cases hz:S+m=0
 ·have hzb:(S+m==0)=true:=by simpa using hz
  have hTd:=hTD.del hr (m:=m) (by rw[HS.out];exact hz);go_wp2_with(at_delete;refine wpList_delete_own _ rfl _ _ 217 9 rfl 116 (Maps.string_keyed Tryz.underlying9) Tryz.underlying217 _ b n D rfl D2 _ _ rfl A0o ?_;intro w2 H9 hturn2);refine bodyPost_ret (results_none rfl _ _ _) rfl ?_;have hb2:Below b w1 w2:=(Below.refl b w1).grown hturn2.grown (Nat.le_of_lt hl1) (fun k e=>by cases e;exact Nat.le_refl _);exact⟨rfl,⟨_,H9.mono (Nat.le_succ _),hTd.below hb2⟩,hbb.trans hb2⟩
 ·have hzb:(S+m==0)=false:=by simpa using hz
  have hTp:=hTD.put D2.isMap hr (m:=m) hv1 (by rw[HS.out];exact hz);rw[HS.out]at hTp;go_wp2_with(at_mapUpdate;refine wpList_mapUpdate_in _ rfl _ _ _ 217 rfl 9 116 (Maps.string_keyed Tryz.underlying9) Tryz.underlying217 _ b n D rfl D2 (by unfold maxLen;omega) _ _ (K8 r) rfl rfl A0o (.held (.slice av r.length cv,S+m)) [] (A3n _ _ _ _) ?_;intro w2 H9 hturn2)
  go_end0
  have hb2:Below b w1 w2:=(Below.refl b w1).grown hturn2.grown (Nat.le_of_lt hl1) (fun k e=>by cases e;exact Nat.le_refl _);exact⟨rfl,⟨_,H9,hTp.below hb2⟩,hbb.trans hb2⟩
structure But (b:Nat)(w w':World):Prop where
 os:w'.os=w.os
 tape:w'.tape=w.tape
 output:w'.output=w.output
 size:w.heap.size<=w'.heap.size
 block:∀k,k<w.heap.size->k≠b->w'.heap[k]?=w.heap[k]?
theorem But.of {b:Nat}{w w':World}(h:Below w.heap.size w w'):But b w w':=⟨h.os,h.tape,h.output,h.size,fun k hk _=>h.block k hk⟩
theorem But.trans {b:Nat}{w w1 w2:World}(h:But b w w1)(g:But b w1 w2):But b w w2:=
 ⟨g.os.trans h.os,g.tape.trans h.tape,g.output.trans h.output,Nat.le_trans h.size g.size,fun k hk hn=>(g.block k (Nat.lt_of_lt_of_le hk h.size) hn).trans (h.block k hk hn)⟩
theorem But.below {b N:Nat}{w w':World}(h:But b w w')(hN:N<=b)(hs:b<=w.heap.size):Below N w w':=⟨h.os,h.tape,h.output,h.size,fun k hk=>h.block k (by omega) (by omega)⟩
def A1D (w:World)(b:Nat)(v:Value)(r:List V3):Prop:=∃g,D9 w v r g/\∀x∈g,x≠b
theorem A1D.but {w w':World}{b:Nat}{v:Value}{r:List V3}(h:A1D w b v r)(hb:But b w w'):A1D w' b v r:=by
 obtain⟨g,hg,hl⟩:=h;exact⟨g,hg.keep hb.size fun x hx=>hb.block x (hg.lt x hx) (hl x hx),hl⟩
structure Y4 (w:World)(b:Nat)(D:DT)(W:Int)(cs:List C2):Prop where
 no:∀r,gR8 W r->E4 cs r=0->Maps.has D (K8 r)=false
 yes:∀r,gR8 W r->E4 cs r≠0->∃v,(∀z,D.atKey (K8 r) z=.held (v,E4 cs r))/\A1D w b v r
 only:∀kl,Maps.has D kl=true->∃r,gR8 W r/\kl=K8 r
theorem Y4.but {w w':World}{b:Nat}{D:DT}{W:Int}{cs:List C2}(h:Y4 w b D W cs)(hb:But b w w'):Y4 w' b D W cs:=
 ⟨h.no,fun r hr hn=>by obtain⟨v,h1,h2⟩:=h.yes r hr hn;exact⟨v,h1,h2.but hb⟩,h.only⟩
theorem Y4.start (w:World)(b:Nat)(W:Int):Y4 w b (.map []) W []:=
 ⟨fun _ _ _=>rfl,fun _ _ h=>absurd rfl h,fun kl h=>by cases h⟩
theorem Y4.of {w:World}{b:Nat}{D:DT}{W:Int}{cs:List C2}(h:Y4 w b D W cs):U4 w w.heap.size D W cs:=
 ⟨h.no,fun r hr hn=>by obtain⟨v,h1,g,h2,_⟩:=h.yes r hr hn;exact⟨v,h1,g,h2,h2.lt⟩,h.only⟩
theorem Y4.at {w:World}{b:Nat}{D:DT}{W:Int}{cs:List C2}(h:Y4 w b D W cs){r:List V3}(hr:gR8 W r):∃a l c,D.atKey (K8 r) (.held (.slice none 0 0,0))=.held (.slice a l c,E4 cs r):=h.of.at hr
theorem Y4.put {w:World}{b:Nat}{D:DT}{W:Int}{cs:List C2}(h:Y4 w b D W cs)(hD:Maps.IsMap D){r:List V3}(hr:gR8 W r){m:Int}{v:Value}(hv:A1D w b v r)(hs:E4 cs r+m≠0):Y4 w b (D.put (K8 r) (.held (v,E4 cs r+m))) W (cs++ [⟨r,m⟩]):=by
 refine⟨fun q hq hz=>?_,fun q hq hz=>?_,fun kl hk=>?_⟩
 ·rw[A0Z]at hz;by_cases e:r=q
  ·subst e;rw[if_pos (Y8 _)]at hz;exact absurd hz hs
  ·rw[if_neg (fun e'=>e ((K7 _ _).1 e')),Int.add_zero]at hz;rw[Maps.has_put_other (fun e'=>e (A0n hq hr e').symm)];exact h.no q hq hz
 ·rw[A0Z]at hz⊢;by_cases e:r=q
  ·subst e;rw[if_pos (Y8 _)];exact⟨v,fun z=>Maps.atKey_put_same hD (A7Y _) _ _,hv⟩
  ·rw[if_neg (fun e'=>e ((K7 _ _).1 e')),Int.add_zero]at hz⊢;obtain⟨u,h1,h2⟩:=h.yes q hq hz;exact⟨u,fun z=>by rw[Maps.atKey_put_other (fun e'=>e (A0n hq hr e').symm)];exact h1 z,h2⟩
 ·by_cases e:kl=K8 r
  ·exact⟨r,hr,e⟩
  ·rw[Maps.has_put_other e]at hk;exact h.only kl hk
theorem Y4.del {w:World}{b:Nat}{D:DT}{W:Int}{cs:List C2}(h:Y4 w b D W cs){r:List V3}(hr:gR8 W r){m:Int}(hs:E4 cs r+m=0):Y4 w b (D.del (K8 r)) W (cs++ [⟨r,m⟩]):=by
 refine⟨fun q hq hz=>?_,fun q hq hz=>?_,fun kl hk=>?_⟩
 ·by_cases e:r=q
  ·subst e;exact Maps.has_del_same
  ·rw[A0Z,if_neg (fun e'=>e ((K7 _ _).1 e')),Int.add_zero]at hz;rw[Maps.has_del_other (fun e'=>e (A0n hq hr e').symm)];exact h.no q hq hz
 ·by_cases e:r=q
  ·subst e;rw[A0Z,if_pos (Y8 _)]at hz;exact absurd hs hz
  ·rw[A0Z,if_neg (fun e'=>e ((K7 _ _).1 e')),Int.add_zero]at hz⊢;obtain⟨u,h1,h2⟩:=h.yes q hq hz;exact⟨u,fun z=>by rw[Maps.atKey_del_other (fun e'=>e (A0n hq hr e').symm)];exact h1 z,h2⟩
 ·by_cases e:kl=K8 r
  ·rw[e,Maps.has_del_same]at hk;cases hk
  ·rw[Maps.has_del_other e]at hk;exact h.only kl hk
def A0W (w:World)(b n:Nat)(W:Int)(cs:List C2):Prop:=∃D:DT,w.ownsMap Tryz.prog 9 Rc b n D/\Y4 w b D W cs
theorem A0W.lt {w:World}{b n:Nat}{W:Int}{cs:List C2}(h:A0W w b n W cs):b<w.heap.size:=by
 obtain⟨D,h,_⟩:=h;exact h.lt
theorem A0W.keep {w w':World}{b n:Nat}{W:Int}{cs:List C2}(h:A0W w b n W cs)(hb:Below w.heap.size w w'):A0W w' b n W cs:=by
 obtain⟨D,h,hT⟩:=h;exact⟨D,h.kept (row:=none) ⟨hb.os,hb.tape,hb.output,hb.size,fun k hk _=>hb.block k hk⟩ (by simp),hT.but (.of hb)⟩
theorem A0W.of {w:World}{b n:Nat}{W:Int}{cs:List C2}(h:A0W w b n W cs):A1c w b w.heap.size n W cs:=by
 obtain⟨D,h,hT⟩:=h;exact⟨D,h,hT.of⟩
theorem A8j {w w':World}{b:Nat}(h:w.grownBy w' (some b)):But b w w':=by
 have h1:=(Below.refl 0 w).grown h (Nat.zero_le _) (fun k e=>Nat.zero_le _);exact⟨h1.os,h1.tape,h1.output,h.size,fun k hk hn=>h.block k hk (fun e=>hn (by cases e;rfl))⟩
theorem B2S (b n:Nat)(W:Int)(cs:List C2)(v:Value)(r:List V3)(m:Int)(w:World)(hT:A0W w b n W cs)(hv:A1D w b v r)(hr:gR8 W r)(D3:r.length<=1048576)(hn:n<=4611686018427387904)(hm: -4611686018427387904<=E4 cs r+m/\E4 cs r+m<=4611686018427387904):Calls Tryz.prog 136 #[.map (some b),v,.int .i64 m] w fun e w'=>e=.returned (.tuple #[])/\A0W w' b (n+1) W (cs++ [⟨r,m⟩])/\But b w w':=by
 have hlb:=hT.lt;have J5:=B0z v r w (by obtain⟨g,hg,_⟩:=hv;exact hg.is) hr.2 D3;have hsz:(ByteArray.mk (O4 r).toArray).size<=maxLen:=by
  have:=A6Y r;show(O4 r).toArray.size<=maxLen;unfold maxLen;simp;omega
 have A0o:keyOf Tryz.prog 9 (.string ⟨(O4 r).toArray⟩)=some (K8 r):=by
  rw[WideMaps.keyOf_string_mk Tryz.underlying9 hsz];rfl
 obtain⟨av,cv,rfl⟩:∃a c,v=.slice a r.length c:=by obtain⟨g,⟨a,c,e,_⟩,_⟩:=hv;exact⟨a,c,e⟩
 obtain⟨S,HS⟩:∃S,Hid (E4 cs r=S):=⟨_,rfl⟩;rw[HS.out]at hm;have hwi:IntKind.i64.wrap (S+m)=S+m:=by rw[IntKind.wrap_i64];omega
 have hwr:wrap64 (S+m)=S+m:=by unfold wrap64;omega
 go_enter Tryz.func136,Tryz.ntmps136;go_wp2_with fail;refine cM8 J5 ?_;rintro e w1 ⟨rfl,hb1⟩;have hT1:=hT.keep hb1;have hbb:But b w w1:=.of hb1;have hv1:=hv.but hbb;have hl1:b<w1.heap.size:=hT1.lt;clear hT hv J5;obtain⟨D,D2,hTD⟩:=hT1;obtain⟨ua,ul,uc,hat⟩:=hTD.at hr;obtain⟨q,ps,A4D,hq⟩:=D2.lookup (t:=217) (e:=116) (Maps.string_keyed Tryz.underlying9) Tryz.underlying217 (B1m w1) (A3n _ _ _ _) A0o;rw[hat,HS.out]at hq;obtain⟨ra,rl,rq,n0,rfl,e0⟩:=A5u hq;obtain⟨⟨⟨rfl,rfl,rfl⟩,rfl⟩,_⟩:((ua=ra/\ul=rl/\uc=rq)/\S=n0)/\ps=[]:=by simpa using e0
 clear hq e0 hat;have T9:=A83 ua ul uc S w1;by_cases hz:S+m=0
 ·have hzb:(S+m==0)=true:=by simpa using hz
  have hTd:=hTD.del hr (m:=m) (by rw[HS.out];exact hz);go_wp2_with(at_delete;refine wpList_delete_own _ rfl _ _ 217 9 rfl 116 (Maps.string_keyed Tryz.underlying9) Tryz.underlying217 _ b n D rfl D2 _ _ rfl A0o ?_;intro w2 H9 hturn2);refine bodyPost_ret (results_none rfl _ _ _) rfl ?_;have hb2:But b w1 w2:=A8j hturn2.grown;exact⟨rfl,⟨_,H9.mono (Nat.le_succ _),hTd.but hb2⟩,hbb.trans hb2⟩
 ·have hzb:(S+m==0)=false:=by simpa using hz
  have hTp:=hTD.put D2.isMap hr (m:=m) hv1 (by rw[HS.out];exact hz);rw[HS.out]at hTp;go_wp2_with(at_mapUpdate;refine wpList_mapUpdate_in _ rfl _ _ _ 217 rfl 9 116 (Maps.string_keyed Tryz.underlying9) Tryz.underlying217 _ b n D rfl D2 (by unfold maxLen;omega) _ _ (K8 r) rfl rfl A0o (.held (.slice av r.length cv,S+m)) [] (A3n _ _ _ _) ?_;intro w2 H9 hturn2)
  go_end0
  have hb2:But b w1 w2:=A8j hturn2.grown;exact⟨rfl,⟨_,H9,hTp.but hb2⟩,hbb.trans hb2⟩
end
end Go.Proofs.YteekfcdllaceoaaGreatDoor
