/- Own texts, joined: contracts that the law's proof goes by. -/
import Derived.Test.YtflokiejcjjbiaaGreatGLFits1
import Derived.Handy
import Derived.OwnWalk
import Derived.Lib.SmallJoins
import Derived.Shelf.Strings.Builder1
import Derived.Test.YtflokiejcjjbiaaGreatGLFits13
import Derived.Test.YtflokiejcjjbiaaGreatGLFits2
import Derived.Test.YtflokiejcjjbiaaGreatGLFits21
import Derived.Test.YtflokiejcjjbiaaGreatGLFits10
import Derived.Test.YtflokiejcjjbiaaGreatGLFits9
import Derived.Test.YtflokiejcjjbiaaGreatGLFits18
import Derived.Maps.RangeWalk
set_option maxHeartbeats 16000000
set_option maxRecDepth 100000
set_option linter.unusedVariables false
set_option linter.unusedSimpArgs false
namespace Go.Proofs.YtflokiejcjjbiaaGreat
section
open Go.RowKit
theorem bldSize:(Tryz.prog.info? 231).map (·.size)=some 2:=by kernel_rfl
theorem bldLies:liesAt Tryz.prog Tryz.prog.depth 231 (2/Tryz.prog.cellsOf 231) 0 231 1=true:=by kernel_rfl
theorem bldByte:(Tryz.prog.info? 5).map (fun i=>(i.zero,i.size,i.bytes))=some (some (.int .u8 0),1,1):=by kernel_rfl
theorem copyCheck_used (b:Nat)(w:World)(h0:w.cell? ⟨b,0,none⟩=some (.pointer (some ⟨b,0,none⟩))):Calls Tryz.prog 188 #[.pointer (some ⟨b,0,none⟩)] w fun e w'=>e=.returned (.tuple #[])∧w'=w:=by
 obtain⟨j,hj,_⟩:=Option.map_eq_some_iff.1 bldSize;go_enter Tryz.func188,Tryz.ntmps188;go_wp2;rw[Lib.run_neq_ptr_same w _ Tryz.underlying228 hj];go_wp2
 go_end0
 exact⟨rfl,rfl⟩
theorem copyCheck_fresh (b:Nat)(w:World)(h0:w.cell? ⟨b,0,none⟩=some (.pointer none))(hsh:w.shape? b=some (231,2))(hfz:w.frozen? ⟨b,0,none⟩=false):Calls Tryz.prog 188 #[.pointer (some ⟨b,0,none⟩)] w fun e w'=>e=.returned (.tuple #[])∧w'=w.setCell ⟨b,0,none⟩ (.pointer (some ⟨b,0,none⟩)):=by
 obtain⟨j,hj,hjs⟩:=Option.map_eq_some_iff.1 bldSize;go_enter Tryz.func188,Tryz.ntmps188;go_wp2;rw[Lib.run_to_unsafe w ⟨b,0,none⟩ Tryz.underlying228 Tryz.underlying269 hj (by rw[hjs];decide) hsh (Nat.zero_lt_succ 1)];simp only[Result.andThen];rw[Oper.upon_value];go_wp2;rw[run_callFunc_extern Tryz.func197 (by kernel_rfl) (by kernel_rfl) (by kernel_rfl) (e:=Extern.AbiNoEscape.same) (by kernel_rfl)];rw[Lib.run_noEscape];simp only[Result.andThen];rw[Oper.upon_value];go_wp2;rw[Lib.run_from_unsafe w ⟨b,0,none⟩ Tryz.underlying269 Tryz.underlying228 hj hsh bldLies];simp only[Result.andThen];rw[Oper.upon_value];go_wp2
 go_end0
 exact⟨rfl,rfl⟩
theorem copyCheck_any (B b:Nat)(bs:List Value)(w:World)(h:Lib.IsBuilder 231 5 B b bs w):Calls Tryz.prog 188 #[.pointer (some ⟨b,0,none⟩)] w fun e w'=>e=.returned (.tuple #[])∧(Lib.BuilderAt 231 5 B b (.pointer (some ⟨b,0,none⟩)) bs w'∧Below B w w'):=by
 rcases h with h|h
 ·refine(copyCheck_fresh b w h.cell0 h.shape h.frozen0).mono ?_;rintro e w' ⟨rfl,rfl⟩;exact⟨rfl,h.used _,(Below.refl B w).setCell (p:=⟨b,0,none⟩) h.1 _⟩
 ·refine(copyCheck_used b w h.cell0).mono ?_;rintro e w' ⟨rfl,rfl⟩;exact⟨rfl,h,Below.refl B _⟩
theorem wstr_any (B b:Nat)(bs:List Value)(s:ByteArray)(w:World)(h:Lib.IsBuilder 231 5 B b bs w)(hlen:bs.length+s.size≤140737488355328)(hBw:B≤w.heap.size):Calls Tryz.prog 160 #[.pointer (some ⟨b,0,none⟩),.string s] w fun e w'=>e=.returned (.tuple #[.int .i64 s.size,.nilIface])∧(Lib.BuilderAt 231 5 B b (.pointer (some ⟨b,0,none⟩)) (bs++Lib.strCells s) w'∧Below B w w'):=by
 obtain⟨i0,hi,hz0,hz1,hz2⟩:=info_parts bldByte;go_enter Tryz.func160,Tryz.ntmps160;go_wp2_with fail;refine(copyCheck_any B b bs _ h).mono ?_;rintro e w1 ⟨rfl,h1,hb1⟩;obtain⟨hB,v,hbk,hown,hne⟩:=h1;have c0:w1.cell? ⟨b,0,none⟩=some (.pointer (some ⟨b,0,none⟩)):=by rw[Lib.cell_of_heap hbk];rfl
 have c1:w1.cell? ⟨b,1,none⟩=some v:=by rw[Lib.cell_of_heap hbk];rfl
 go_wp2_with(at_builtin;refine Lib.wpList_append_own_string _ rfl _ _ 229 9 rfl B 5 i0 Tryz.underlying229 Tryz.underlying9 hi hz0 hz1 hz2 _ _ _ rfl hown s rfl ?c3 ?c4 ?c5 ?_)
 case c3=>unfold maxLen;omega
 case c4=>omega
 case c5=>have:=hb1.size;omega
 intro v' w2 hown' hgrow _;have hlt:b<w1.heap.size:=by
  rcases Nat.lt_or_ge b w1.heap.size with h'|h'
  ·exact h'
  ·simp[Array.getElem?_eq_none h']at hbk
 have hb2:w2.heap[b]?=some (.cells #[.pointer (some ⟨b,0,none⟩),v] 231 (0,0)):=(hgrow.block b hlt (fun e=>hne e.symm)).trans hbk;have d0:w2.cell? ⟨b,0,none⟩=some (.pointer (some ⟨b,0,none⟩)):=by rw[Lib.cell_of_heap hb2];rfl
 have d1:w2.cell? ⟨b,1,none⟩=some v:=by rw[Lib.cell_of_heap hb2];rfl
 have f1:w2.frozen? ⟨b,1,none⟩=false:=Lib.frozen_of_heap hb2 1;have hs:∃ao n' cap,v'=.slice ao n' cap:=by
  rcases hown'.2 with⟨hv,_⟩|⟨g,cap,cur,hv,_⟩<;>exact⟨_,_,_,hv⟩
 obtain⟨ao,n',cap,rfl⟩:=hs;go_wp2
 go_ret2
 exact⟨rfl,Lib.BuilderAt.put (T:=231) (e:=5) hB hb2 (bs':=bs++Lib.strCells s) (by simpa [Lib.strCells_length]using hown') (by decide),(hb1.grown hgrow (by have:=hb1.size;omega) (fun k hk=>(hown.lt k hk).1)).setCell (p:=⟨b,1,none⟩) hB _⟩
end
section
open Go.RowKit
def rowU (vs:List V3):List UInt8:=vs.flatMap fun x=>(putS x.k x.n x.s).data.toList
theorem rowU_take {vs:List V3}{k:Nat}{x:V3}(h:vs[k]?=some x):rowU (vs.take (k+1))=rowU (vs.take k)++(putS x.k x.n x.s).data.toList:=by
 obtain⟨hk,rfl⟩:=gE1 h;unfold rowU;rw[List.take_succ_eq_append_getElem hk,List.flatMap_append];simp
theorem putS_size (k n:Int)(s:ByteArray):(putS k n s).size≤102:=by
 unfold putS;split
 ·rename_i h
  split
  ·rw[nums_size];simp
  ·split
   ·rw[nums_size,numL_len];omega
   ·split
    ·rw[nums_size];simp
    ·have h3:k=3:=by
      by_cases h3:k=3
      ·exact h3
      ·rw[okB_x k n s (by assumption) (by assumption) (by assumption) h3]at h;cases h
     subst h3;have:=okB_3s n s h;rw[ByteArray.size_append,nums_size];simp;omega
 ·exact Nat.zero_le _
theorem rowU_len (vs:List V3):(rowU vs).length≤102*vs.length:=by
 induction vs with
 |nil=>simp[rowU]
 |cons x xs ih=>
  have h:=putS_size x.k x.n x.s;have e:rowU (x::xs)=(putS x.k x.n x.s).data.toList++rowU xs:=by unfold rowU;rw[List.flatMap_cons]
  rw[e,List.length_append,List.length_cons];have:(putS x.k x.n x.s).data.toList.length=(putS x.k x.n x.s).size:=Array.length_toList;omega
theorem builder_below {T e:TypeId}{B b:Nat}{p:Value}{bs:List Value}{w w':World}(h:Lib.BuilderAt T e B b p bs w)(hb:Below w.heap.size w w'):Lib.BuilderAt T e B b p bs w':=by
 obtain⟨h0,v,h1,h2,h3⟩:=h;have hlt:b<w.heap.size:=by
  rcases Nat.lt_or_ge b w.heap.size with h'|h'
  ·exact h'
  ·simp[Array.getElem?_eq_none h']at h1
 refine⟨h0,v,(hb.block b hlt).trans h1,⟨h2.1,?_⟩,h3⟩;rcases h2.2 with hn|⟨g,cap,cur,hv,hg,hc,rest⟩
 ·exact .inl hn
 ·have hgl:g<w.heap.size:=by
   rcases Nat.lt_or_ge g w.heap.size with h'|h'
   ·exact h'
   ·simp[Array.getElem?_eq_none h']at hc
  exact .inr ⟨g,cap,cur,hv,hg,(hb.block g hgl).trans hc,rest⟩
theorem isBuilder_below {T e:TypeId}{B b:Nat}{bs:List Value}{w w':World}(h:Lib.IsBuilder T e B b bs w)(hb:Below w.heap.size w w'):Lib.IsBuilder T e B b bs w':=
 h.elim (fun h=> .inl (builder_below h hb)) (fun h=> .inr (builder_below h hb))
theorem rowBytes_any (v:Value)(vs:List V3)(w:World)(hr:RowIs w v vs)(hw:VsWf vs)(hn:vs.length≤1048576):Calls Tryz.prog 137 #[v] w fun e w'=>e=.returned (.string ⟨(rowU vs).toArray⟩)∧Below w.heap.size w w':=by
 obtain⟨a,c,b,o,rfl,hl,hc,ha⟩:=hr.pick;unfold maxLen at hc;clear hr;go_enter Tryz.func137,Tryz.ntmps137;go_wp2;go_loopw [8] (fun i wr=> ∃k:Nat,k≤vs.length∧i=.int .i64 k∧Below w.heap.size w wr∧Lib.IsBuilder 231 5 w.heap.size w.heap.size (Lib.byteCells (rowU (vs.take k))) wr) (fun i _=>vs.length - (intOf i).toNat)
 case atStart=>
  refine⟨0,Nat.zero_le _,rfl,by go_grown,.inl ⟨Nat.le_refl _,.slice none 0 0,?_,?_,by simp[Value.ownBlock]⟩⟩
  ·exact heap_alloc_new w _
  ·simpa [rowU,Lib.byteCells]using World.ownsRow_nil _ _ _ _
 case round=>
  obtain⟨k,hk,rfl,hb,hB⟩:=hrel;have hzb:=hb.size;have hsz:w.heap.size<wr.heap.size:=by rcases hB with h|h<;>exact h.lt
  by_cases hlt:k<vs.length
  ·obtain⟨rfl,hblt,hL⟩:=ha k hlt;obtain⟨x,hx,c0,c1,c2,hbr⟩:=hL.at hblt hb hlt;have hxs:x.s.size≤maxLen:=(hw x (mg8 hx)).2.2;have HX:Hid (vs[k]?=some x):=hx;have hl1:(Lib.byteCells (rowU (vs.take k))).length+(putS x.k x.n x.s).size≤140737488355328:=by
    have h1:=rowU_len (vs.take k);have h2:=putS_size x.k x.n x.s;rw[Lib.byteCells_length];have:(vs.take k).length≤1048576:=by simp;omega
    omega
   clear ha hL hx hw;go_wp2_with(first|(go_at_call 161;refine cM8 (implPut_any _ _ _ _ hxs) ?_;rintro e w1 ⟨rfl,hb1⟩;have hz1:=hb1.size;(try simp at hz1))|fail);have hB1:=isBuilder_below hB (w':=w1) bela;refine cM8 (wstr_any w.heap.size w.heap.size _ (putS x.k x.n x.s) w1 hB1 hl1 (by omega)) ?_;rintro e w2 ⟨rfl,hB2,hb2⟩;have hz2:=hb2.size;go_wp2
   go_roundw
   case rel=>
    refine⟨k+1,hlt,by simp,(show Below w.heap.size w w1 from bela).trans hb2,.inr ?_⟩;rw[rowU_take HX.out,Lib.byteCells_append,←Lib.strCells_eq];exact hB2
   case measure=>simp[intOf];omega
  ·clear ha hw;obtain rfl:k=vs.length:=by omega
   rw[List.take_length]at hB;go_wp2_with fail;refine cM8 (Tryz.Builder_String_any w.heap.size w.heap.size (rowU vs) wr hB hzb) ?_;rintro e w1 ⟨rfl,hb1⟩;go_wp2;go_returns;exact⟨rfl,hb.trans hb1⟩
end
section
open Go.RowKit
theorem bl_irrefl:∀ (x:List UInt8),Op.bytesLess x x=false
 | []=>rfl
 |a::l=>by
  have ih:=bl_irrefl l;simp[Op.bytesLess,ih]
theorem bl_trans:∀ {x y z:List UInt8},Op.bytesLess x y=true→Op.bytesLess y z=true→Op.bytesLess x z=true
 | [],[],_,h,_=>by simp[Op.bytesLess]at h
 | [],_::_,[],_,h=>by simp[Op.bytesLess]at h
 | [],_::_,_::_,_,_=>by simp[Op.bytesLess]
 |_::_,[],_,h,_=>by simp[Op.bytesLess]at h
 |_::_,_::_,[],_,h=>by simp[Op.bytesLess]at h
 |a::l,b::m,c::n,h,k=>by
  have ih:= @bl_trans l m n;simp only[Op.bytesLess,Bool.or_eq_true,Bool.and_eq_true,decide_eq_true_eq,beq_iff_eq]at h k⊢;rcases h with h|⟨rfl,h⟩
  ·rcases k with k|⟨rfl,k⟩
   ·exact Or.inl (UInt8.lt_trans h k)
   ·exact Or.inl h
  ·rcases k with k|⟨rfl,k⟩
   ·exact Or.inl k
   ·exact Or.inr ⟨rfl,ih h k⟩
theorem cmpI_0 (x y:Int):cmpI x y=0↔x=y:=by unfold cmpI;split<;>(try split)<;>omega
theorem cmpI_n (x y:Int):cmpI x y<0↔x<y:=by unfold cmpI;split<;>(try split)<;>omega
theorem cmpS_0 (s t:ByteArray):cmpS s t=0↔s.toList=t.toList:=by
 unfold cmpS;by_cases h:s.toList=t.toList
 ·rw[h,bl_irrefl];simp
 ·simp[h];split<;>simp
theorem cmpS_le (s t:ByteArray):cmpS s t≤0↔(Op.bytesLess s.toList t.toList=true∨s.toList=t.toList):=by
 unfold cmpS;by_cases h:Op.bytesLess s.toList t.toList=true
 ·simp[h]
 ·by_cases e:s.toList=t.toList
  ·rw[e,bl_irrefl];simp
  ·simp[h,e]
theorem cmpV_0 (k n:Int)(s:ByteArray)(k' n':Int)(s':ByteArray):(cmpV k n s k' n' s'==0)=(k==k' && (n==n' &&s.toList==s'.toList)):=by
 have a:=cmpI_0 k k';have b:=cmpI_0 n n';have c:=cmpS_0 s s';have:(cmpV k n s k' n' s'=0)↔(k=k'∧n=n'∧s.toList=s'.toList):=by
  unfold cmpV orI;rw[←a,←b,←c];by_cases h:cmpI k k'=0
  ·by_cases g:cmpI n n'=0
   ·simp[h,g]
   ·simp[h,g]
  ·simp[h]
 rw[Bool.eq_iff_iff];simp[this]
theorem cmpV_le (k n:Int)(s:ByteArray)(k' n':Int)(s':ByteArray):cmpV k n s k' n' s'≤0↔(k<k'∨(k=k'∧(n<n'∨(n=n'∧cmpS s s'≤0)))):=by
 have a:=cmpI_0 k k';have b:=cmpI_0 n n';have a':=cmpI_n k k';have b':=cmpI_n n n';unfold cmpV orI;by_cases h:cmpI k k'=0
 ·by_cases g:cmpI n n'=0
  ·simp only[h,g,if_true];omega
  ·simp only[h,g,if_true,if_false];omega
 ·simp only[h,if_false];omega
theorem cmpV_trans {k n:Int}{s:ByteArray}{k' n':Int}{s':ByteArray}{k2 n2:Int}{s2:ByteArray}(h:cmpV k n s k' n' s'≤0)(g:cmpV k' n' s' k2 n2 s2≤0):cmpV k n s k2 n2 s2≤0:=by
 have st:cmpS s s'≤0→cmpS s' s2≤0→cmpS s s2≤0:=by
  rw[cmpS_le,cmpS_le,cmpS_le];rintro(h|h) (g|g)
  ·exact Or.inl (bl_trans h g)
  ·exact Or.inl (g▸h)
  ·exact Or.inl (h▸g)
  ·exact Or.inr (h.trans g)
 rw[cmpV_le]at*;rcases h with h|⟨rfl,h⟩
 ·rcases g with g|⟨rfl,g⟩
  ·exact Or.inl (by omega)
  ·exact Or.inl h
 ·rcases g with g|⟨rfl,g⟩
  ·exact Or.inl g
  ·refine Or.inr ⟨rfl,?_⟩;rcases h with h|⟨rfl,h⟩
   ·rcases g with g|⟨rfl,g⟩
    ·exact Or.inl (by omega)
    ·exact Or.inl h
   ·rcases g with g|⟨rfl,g⟩
    ·exact Or.inl g
    ·exact Or.inr ⟨rfl,st h g⟩
end
section
open Go.RowKit
theorem ba_ext {s t:ByteArray}(h:s.toList=t.toList):s=t:=by
 rw[ByteArray.toList_eq,ByteArray.toList_eq]at h;cases s;cases t;simp at h;rw[h]
theorem cmpW_0 (x y:V3):cmpW x y=0↔x=y:=by
 have h:=cmpV_0 x.k x.n x.s y.k y.n y.s;rw[Bool.eq_iff_iff]at h;simp only[beq_iff_eq,Bool.and_eq_true]at h;unfold cmpW;rw[h];constructor
 ·rintro⟨h1,h2,h3⟩;obtain⟨k,n,s⟩:=x;obtain⟨k',n',s'⟩:=y;have:=ba_ext h3;simp at h1 h2 this;rw[h1,h2,this]
 ·rintro rfl;exact⟨rfl,rfl,rfl⟩
theorem cmpW_flip (x y:V3):cmpW y x= -cmpW x y:=cmpV_flip _ _ _ _ _ _
theorem cmpW_trans {x y z:V3}(h:cmpW x y≤0)(g:cmpW y z≤0):cmpW x z≤0:=cmpV_trans h g
theorem cmpRow_flip:∀ (a b:List V3),cR8 b a= -cR8 a b
 | [],[]=>rfl
 | [],_::_=>rfl
 |_::_,[]=>rfl
 |x::xs,y::ys=>by
  have h:=cmpW_flip x y;simp only[cR8];rw[h,cmpRow_flip xs ys];by_cases h0:cmpW x y=0
  ·rw[if_pos (by omega),if_pos h0]
  ·rw[if_neg (by omega),if_neg h0]
theorem cmpRow_0:∀ (a b:List V3),cR8 a b=0↔a=b
 | [],[]=>by simp[cR8]
 | [],_::_=>by simp[cR8]
 |_::_,[]=>by simp[cR8]
 |x::xs,y::ys=>by
  simp only[cR8];by_cases h0:cmpW x y=0
  ·rw[if_pos h0,cmpRow_0 xs ys,(cmpW_0 x y).1 h0];simp
  ·rw[if_neg h0];constructor
   ·intro h;exact absurd h h0
   ·intro h;injection h with h1 _;exact absurd ((cmpW_0 x y).2 h1) h0
theorem cmpRow_trans:∀ {a b c:List V3},cR8 a b<0→cR8 b c<0→cR8 a c<0
 | [],[],_,h,_=>by simp[cR8]at h
 | [],_::_,[],_,h=>by simp[cR8]at h
 | [],_::_,_::_,_,_=>by simp[cR8]
 |_::_,[],_,h,_=>by simp[cR8]at h
 |_::_,_::_,[],_,h=>by simp[cR8]at h
 |x::xs,y::ys,z::zs,h,k=>by
  have ih:= @cmpRow_trans xs ys zs;simp only[cR8]at h k⊢;by_cases h0:cmpW x y=0
  ·rw[if_pos h0]at h;obtain rfl:=(cmpW_0 x y).1 h0;by_cases k0:cmpW x z=0
   ·rw[if_pos k0]at k⊢;exact ih h k
   ·rw[if_neg k0]at k⊢;exact k
  ·rw[if_neg h0]at h;by_cases k0:cmpW y z=0
   ·obtain rfl:=(cmpW_0 y z).1 k0;rw[if_neg h0];exact h
   ·rw[if_neg k0]at k;have h1:=cmpW_trans (x:=x) (y:=y) (z:=z) (by omega) (by omega);have h2:cmpW x z≠0:=by
     intro e;obtain rfl:=(cmpW_0 x z).1 e;have:=cmpW_flip x y;omega
    rw[if_neg h2];omega
theorem cmpRow_irr (a:List V3):cR8 a a=0:=(cmpRow_0 a a).2 rfl
def Asc (cs:List C2):Prop:=cs.Pairwise fun x y=>cR8 x.r y.r<0
def ahead (cs:List C2)(row:List V3):Nat:=(cs.takeWhile fun c=>decide (cR8 c.r row<0)).length
theorem ahead_le (cs:List C2)(row:List V3):ahead cs row≤cs.length:=by
 unfold ahead;induction cs with
 |nil=>simp
 |cons c cs ih=>
  rw[List.takeWhile_cons];split
  ·simp only[List.length_cons];omega
  ·simp
theorem ahead_lt:∀ {cs:List C2} {row:List V3} {i:Nat} {c:C2},Asc cs→cs[i]?=some c→(i<ahead cs row↔cR8 c.r row<0)
 | [],_,i,c,_,h=>by simp at h
 |x::cs,row,i,c,ha,h=>by
  have ha':=List.pairwise_cons.1 ha;unfold ahead;rw[List.takeWhile_cons];by_cases hx:cR8 x.r row<0
  ·rw[if_pos (by simpa using hx),List.length_cons];cases i with
   |zero=>simp at h;subst h;simp[hx]
   |succ i=>
    have:=ahead_lt (row:=row) ha'.2 (i:=i) (c:=c) (by simpa using h);unfold ahead at this;rw[←this];omega
  ·rw[if_neg (by simpa using hx)];cases i with
   |zero=>simp at h;subst h;simp;omega
   |succ i=>
    have hc:cR8 x.r c.r<0:=ha'.1 c (mg8 (by simpa using h));have:¬cR8 c.r row<0:=fun hcr=>hx (cmpRow_trans hc hcr);simp[this]
def putC (cs:List C2)(row:List V3)(n:Int):List C2:=
 match cs[ahead cs row]? with
 |some c=>if cR8 c.r row=0 then(if n+c.n≠0 then cs.set (ahead cs row) ⟨c.r,n+c.n⟩else cs.take (ahead cs row)++cs.drop (ahead cs row+1))else if n≠0 then cs.take (ahead cs row)++⟨row,n⟩::cs.drop (ahead cs row)else cs
 |none=>if n≠0 then cs.take (ahead cs row)++⟨row,n⟩::cs.drop (ahead cs row)else cs
def cntC (cs:List C2)(row:List V3):Int:=match cs.find? (fun c=>decide (cR8 c.r row=0))with|some c=>c.n|none=>0
theorem cntC_nil (row:List V3):cntC [] row=0:=rfl
theorem cntC_cons (c:C2)(cs:List C2)(row:List V3):cntC (c::cs) row=if cR8 c.r row=0 then c.n else cntC cs row:=by
 unfold cntC;rw[List.find?_cons];by_cases h:cR8 c.r row=0
 ·rw[if_pos h];simp[h]
 ·rw[if_neg h];simp[h]
theorem cntC_one (c:C2)(cs:List C2):cntC (c::cs) c.r=c.n:=by rw[cntC_cons,if_pos (cmpRow_irr _)]
theorem cntC_far {c:C2}{row:List V3}(cs:List C2)(h:c.r≠row):cntC (c::cs) row=cntC cs row:=by rw[cntC_cons,if_neg (fun e=>h ((cmpRow_0 _ _).1 e))]
theorem cntC_none {cs:List C2}{row:List V3}(h:∀c∈cs,c.r≠row):cntC cs row=0:=by
 induction cs with
 |nil=>rfl
 |cons c cs ih=>rw[cntC_far _ (h c List.mem_cons_self)];exact ih fun x hx=>h x (List.mem_cons_of_mem _ hx)
theorem cntC_app {a b:List C2}{row:List V3}(h:∀c∈a,c.r≠row):cntC (a++b) row=cntC b row:=by
 induction a with
 |nil=>rfl
 |cons c cs ih=>rw[List.cons_append,cntC_far _ (h c List.mem_cons_self)];exact ih fun x hx=>h x (List.mem_cons_of_mem _ hx)
theorem Asc.ne {c:C2}{cs:List C2}(h:Asc (c::cs)):∀x∈cs,x.r≠c.r:=fun x hx e=>by
 have:=(List.pairwise_cons.1 h).1 x hx;rw[e,cmpRow_irr]at this;omega
theorem asc_ext:∀ {cs ds:List C2},Asc cs→Asc ds→(∀c∈cs,c.n≠0)→(∀c∈ds,c.n≠0)→(∀row,cntC cs row=cntC ds row)→cs=ds
 | [],[],_,_,_,_,_=>rfl
 | [],d::ds,_,_,_,hz,h=>by
  have:=h d.r;rw[cntC_nil,cntC_one]at this;exact absurd this.symm (hz d List.mem_cons_self)
 |c::cs,[],_,_,hz,_,h=>by
  have:=h c.r;rw[cntC_nil,cntC_one]at this;exact absurd this (hz c List.mem_cons_self)
 |c::cs,d::ds,hc,hd,zc,zd,h=>by
  have hc':=List.pairwise_cons.1 hc;have hd':=List.pairwise_cons.1 hd;have hin:∀ {x:C2} {xs ys:List C2},(∀y∈ys,y.n≠0)→cntC (x::xs) x.r=cntC ys x.r→x.n≠0→∃y∈ys,y.r=x.r:=by
   intro x xs ys _ e hx;rw[cntC_one]at e;rcases Classical.em (∃y∈ys,y.r=x.r)with hy|hy
   ·exact hy
   ·rw[cntC_none (fun y hy' e'=>hy ⟨y,hy',e'⟩)]at e;exact absurd e hx
  have hr:c.r=d.r:=by
   obtain⟨y,hy,ey⟩:=hin zd (h c.r) (zc c List.mem_cons_self);obtain⟨z,hz,ez⟩:=hin zc (h d.r).symm (zd d List.mem_cons_self);rcases List.mem_cons.1 hy with rfl|hy
   ·exact ey.symm
   rcases List.mem_cons.1 hz with rfl|hz
   ·exact ez
   have h1:=hd'.1 y hy;have h2:=hc'.1 z hz;rw[ey]at h1;rw[ez]at h2;have:=cmpRow_flip c.r d.r;omega
  have hn:c.n=d.n:=by
   have:=h c.r;rw[cntC_one,hr,cntC_one]at this;exact this
  have hcd:c=d:=by
   obtain⟨r,n⟩:=c;obtain⟨r',n'⟩:=d;simp at hr hn;rw[hr,hn]
  subst hcd;congr 1;refine asc_ext hc'.2 hd'.2 (fun x hx=>zc x (List.mem_cons_of_mem _ hx)) (fun x hx=>zd x (List.mem_cons_of_mem _ hx)) fun row=>?_;have:=h row;by_cases e:c.r=row
  ·subst e;rw[cntC_none hc.ne,cntC_none hd.ne]
  ·rw[cntC_far _ e,cntC_far _ e]at this;exact this
theorem ahead_parts {cs:List C2}(row:List V3)(h:Asc cs):(∀c∈cs.take (ahead cs row),cR8 c.r row<0)∧(∀c∈cs.drop (ahead cs row),¬cR8 c.r row<0):=by
 constructor
 ·intro c hc;obtain⟨i,hi,rfl⟩:=List.mem_iff_getElem.1 hc;have hi':i<ahead cs row∧i<cs.length:=by simp at hi;omega
  have:=(ahead_lt (row:=row) h (i:=i) (c:=cs[i]) (by simp)).1 hi'.1
  simpa using this
 ·intro c hc;obtain⟨i,hi,rfl⟩:=List.mem_iff_getElem.1 hc;have hi':ahead cs row+i<cs.length:=by simp at hi;omega
  intro hl;have:=(ahead_lt (row:=row) h (i:=ahead cs row+i) (c:=cs[ahead cs row+i]) (by simp)).2 (by simpa using hl);omega
theorem asc_mid {a b:List C2}{x:C2}(ha:Asc (a++b))(h1:∀c∈a,cR8 c.r x.r<0)(h2:∀c∈b,cR8 x.r c.r<0):Asc (a++x::b):=by
 unfold Asc at*;rw[List.pairwise_append]at ha⊢;refine⟨ha.1,List.pairwise_cons.2 ⟨h2,ha.2.1⟩,fun y hy z hz=>?_⟩;rcases List.mem_cons.1 hz with rfl|hz
 ·exact h1 y hy
 ·exact ha.2.2 y hy z hz
theorem lt_ne {a b:List V3}(h:cR8 a b<0):a≠b:=by rintro rfl;rw[cmpRow_irr]at h;omega
theorem gt_of {a b:List V3}(h:¬cR8 a b<0)(hne:a≠b):cR8 b a<0:=by
 have:=cmpRow_flip a b;have h0:cR8 a b≠0:=fun e=>hne ((cmpRow_0 a b).1 e);omega
theorem put_all {cs:List C2}(row:List V3)(n:Int)(h:Asc cs)(hz:∀c∈cs,c.n≠0):Asc (putC cs row n)∧(∀c∈putC cs row n,c.n≠0)∧∀q,cntC (putC cs row n) q=cntC cs q+(if cR8 row q=0 then n else 0):=by
 obtain⟨hp1,hp2⟩:=ahead_parts row h;have hsp:cs=cs.take (ahead cs row)++cs.drop (ahead cs row):=(List.take_append_drop _ _).symm;have ins:(∀c∈cs.drop (ahead cs row),c.r≠row)→(if n≠0 then cs.take (ahead cs row)++(⟨row,n⟩:C2)::cs.drop (ahead cs row)else cs)=putC cs row n→ Asc (putC cs row n)∧(∀c∈putC cs row n,c.n≠0)∧∀q,cntC (putC cs row n) q=cntC cs q+(if cR8 row q=0 then n else 0):=by
  intro hne e;rw[←e];by_cases hn:n≠0
  ·rw[if_pos hn];refine⟨asc_mid (by rw[←hsp];exact h) hp1 (fun c hc=>gt_of (hp2 c hc) (hne c hc)),fun c hc=>?_,fun q=>?_⟩
   ·rcases List.mem_append.1 hc with hc|hc
    ·exact hz c (List.mem_of_mem_take hc)
    ·rcases List.mem_cons.1 hc with rfl|hc
     ·exact hn
     ·exact hz c (List.mem_of_mem_drop hc)
   ·by_cases hq:cR8 row q=0
    ·obtain rfl:=(cmpRow_0 row q).1 hq;rw[if_pos hq,cntC_app (fun c hc=>lt_ne (hp1 c hc)),cntC_one];have:cntC cs row=0:=by rw[hsp,cntC_app (fun c hc=>lt_ne (hp1 c hc))];exact cntC_none hne
     rw[this];show n=0+n;omega
    ·rw[if_neg hq];have hqr:row≠q:=fun e=>hq ((cmpRow_0 _ _).2 e);have key:∀ (a:List C2) (b:List C2),cntC (a++(⟨row,n⟩:C2)::b) q=cntC (a++b) q:=by
      intro a b;induction a with
      |nil=>exact cntC_far _ hqr
      |cons c a ih=>rw[List.cons_append,List.cons_append,cntC_cons,cntC_cons,ih]
     rw[key,←hsp];omega
  ·have hn0:n=0:=by omega
   rw[if_neg hn];refine⟨h,hz,fun q=>?_⟩;rw[hn0];split<;>omega
 unfold putC at ins⊢;cases hc:cs[ahead cs row]? with
 |none=>
  rw[hc]at ins;have hl:cs.drop (ahead cs row)=[]:=List.drop_eq_nil_of_le (List.getElem?_eq_none_iff.1 hc);exact ins (fun c hc'=>by rw[hl]at hc';cases hc') rfl
 |some c=>
  rw[hc]at ins;have hi:ahead cs row<cs.length:=(gE1 hc).1;have hcc:cs[ahead cs row]=c:=(gE1 hc).2;have hdr:cs.drop (ahead cs row)=c::cs.drop (ahead cs row+1):=by rw[List.drop_eq_getElem_cons hi,hcc]
  dsimp only;by_cases hr:cR8 c.r row=0
  ·rw[if_pos hr];obtain rfl:=(cmpRow_0 c.r row).1 hr;have hA:Asc (cs.take (ahead cs c.r)++c::cs.drop (ahead cs c.r+1)):=by rw[←hdr,←hsp];exact h
   have hlow:∀x∈cs.take (ahead cs c.r),x.r≠c.r:=fun x hx=>lt_ne (hp1 x hx);have hA2:=List.pairwise_append.1 hA;have hhi:∀x∈cs.drop (ahead cs c.r+1),x.r≠c.r:=Asc.ne hA2.2.1;have hcnt:cntC cs c.r=c.n:=by rw[hsp,cntC_app hlow,hdr,cntC_one]
   have far:∀ (x:C2) (q:List V3),x.r=c.r→c.r≠q→∀a b:List C2,cntC (a++x::b) q=cntC (a++b) q:=by
    intro x q hx hq a b;induction a with
    |nil=>exact cntC_far _ (by rw[hx];exact hq)
    |cons y a ih=>rw[List.cons_append,List.cons_append,cntC_cons,cntC_cons,ih]
   have hbase:∀q,c.r≠q→cntC cs q=cntC (cs.take (ahead cs c.r)++cs.drop (ahead cs c.r+1)) q:=by
    intro q hq
    conv=>lhs;rw[hsp,hdr]
    exact far c q rfl hq _ _
   by_cases hm:n+c.n≠0
   ·rw[if_pos hm];have hset:cs.set (ahead cs c.r) (⟨c.r,n+c.n⟩:C2)=cs.take (ahead cs c.r)++(⟨c.r,n+c.n⟩:C2)::cs.drop (ahead cs c.r+1):=List.set_eq_take_append_cons_drop.trans (by rw[if_pos hi]);rw[hset];refine⟨asc_mid (List.pairwise_append.2 ⟨hA2.1,(List.pairwise_cons.1 hA2.2.1).2,fun y hy z hz'=>hA2.2.2 y hy z (List.mem_cons_of_mem _ hz')⟩) hp1 (List.pairwise_cons.1 hA2.2.1).1,fun x hx=>?_,fun q=>?_⟩
    ·rcases List.mem_append.1 hx with hx|hx
     ·exact hz x (List.mem_of_mem_take hx)
     ·rcases List.mem_cons.1 hx with rfl|hx
      ·exact hm
      ·exact hz x (List.mem_of_mem_drop hx)
    ·by_cases hq:cR8 c.r q=0
     ·obtain rfl:=(cmpRow_0 c.r q).1 hq;rw[if_pos hq,cntC_app hlow,hcnt];have:=cntC_one (⟨c.r,n+c.n⟩:C2) (cs.drop (ahead cs c.r+1));dsimp only at this;rw[this];omega
     ·have hqr:c.r≠q:=fun e=>hq ((cmpRow_0 _ _).2 e);rw[if_neg hq,hbase q hqr,far (⟨c.r,n+c.n⟩:C2) q rfl hqr];omega
   ·rw[if_neg hm];refine⟨List.pairwise_append.2 ⟨hA2.1,(List.pairwise_cons.1 hA2.2.1).2,fun y hy z hz'=>hA2.2.2 y hy z (List.mem_cons_of_mem _ hz')⟩,fun x hx=>?_,fun q=>?_⟩
    ·rcases List.mem_append.1 hx with hx|hx
     ·exact hz x (List.mem_of_mem_take hx)
     ·exact hz x (List.mem_of_mem_drop hx)
    ·by_cases hq:cR8 c.r q=0
     ·obtain rfl:=(cmpRow_0 c.r q).1 hq;rw[if_pos hq,cntC_app hlow,hcnt,cntC_none hhi];omega
     ·have hqr:c.r≠q:=fun e=>hq ((cmpRow_0 _ _).2 e);rw[if_neg hq,hbase q hqr];omega
  ·dsimp only at ins;rw[if_neg hr];rw[if_neg hr]at ins;refine ins (fun x hx=>?_) rfl;rw[hdr]at hx;rcases List.mem_cons.1 hx with rfl|hx
   ·exact fun e=>hr ((cmpRow_0 _ _).2 e)
   ·have h1:cR8 row c.r<0:=gt_of (hp2 c (by rw[hdr];exact List.mem_cons_self)) (fun e=>hr ((cmpRow_0 _ _).2 e));have hA2:=List.pairwise_append.1 (show Asc (cs.take (ahead cs row)++c::cs.drop (ahead cs row+1))by rw[←hdr,←hsp];exact h);have h2:=(List.pairwise_cons.1 hA2.2.1).1 x hx;exact fun e=>lt_ne (cmpRow_trans h1 h2) e.symm
end
section
open Go.RowKit
theorem wf64 {n:Int}(h:(Lit.int .i64 n).wf=true): -9223372036854775808≤n∧n≤9223372036854775807:=by
 have e1:IntKind.i64.min= -9223372036854775808:=rfl;have e2:IntKind.i64.max=9223372036854775807:=rfl;simp[Lit.wf,e1,e2]at h;omega
theorem byte_step {x y M:Int}(hM:0<M)(h1:x/ (M*256)=y/ (M*256))(h2:x/M %256=y/M %256):x/M=y/M:=by
 have a:x/M/256=x/ (M*256):=Int.ediv_ediv_of_nonneg (Int.le_of_lt hM);have b:y/M/256=y/ (M*256):=Int.ediv_ediv_of_nonneg (Int.le_of_lt hM);rw[←a,←b]at h1;omega
theorem numB_inj {n m:Int}(hn:(Lit.int .i64 n).wf=true)(hm:(Lit.int .i64 m).wf=true)(h:∀j,j<8→numB n j=numB m j):n=m:=by
 have e0:=h 0 (by omega);have e1:=h 1 (by omega);have e2:=h 2 (by omega);have e3:=h 3 (by omega);have e4:=h 4 (by omega);have e5:=h 5 (by omega);have e6:=h 6 (by omega);have e7:=h 7 (by omega);have bn:=wf64 hn;have bm:=wf64 hm;have wn:IntKind.u64.wrap n=n %18446744073709551616:=by simp[IntKind.wrap,IntKind.bits,IntKind.signed]
 have wm:IntKind.u64.wrap m=m %18446744073709551616:=by simp[IntKind.wrap,IntKind.bits,IntKind.signed]
 simp only[numB,wn,wm]at e0 e1 e2 e3 e4 e5 e6 e7;have key:n %18446744073709551616=m %18446744073709551616:=by
  have a1:=Int.emod_nonneg n (show(18446744073709551616:Int)≠0 by decide);have a2:=Int.emod_lt_of_pos n (show(0:Int)<18446744073709551616 by decide);have b1:=Int.emod_nonneg m (show(18446744073709551616:Int)≠0 by decide);have b2:=Int.emod_lt_of_pos m (show(0:Int)<18446744073709551616 by decide);generalize n %18446744073709551616=x at*;generalize m %18446744073709551616=y at*;have s7:x/72057594037927936=y/72057594037927936:=by
   have e:x/72057594037927936 %256=y/72057594037927936 %256:=e0;clear e0 e1 e2 e3 e4 e5 e6 e7;omega
  have s6:=byte_step (M:=281474976710656) (by decide) s7 e1;have s5:=byte_step (M:=1099511627776) (by decide) s6 e2;have s4:=byte_step (M:=4294967296) (by decide) s5 e3;have s3:=byte_step (M:=16777216) (by decide) s4 e4;have s2:=byte_step (M:=65536) (by decide) s3 e5;have s1:=byte_step (M:=256) (by decide) s2 e6;have s0:=byte_step (M:=1) (by decide) s1 e7
  simpa using s0
 omega
def vU (x:V3):List UInt8:=(putS x.k x.n x.s).data.toList
theorem nums_list (xs:List Int):(strOfNums xs).data.toList=xs.map fun n=>UInt8.ofNat n.toNat:=rfl
theorem empty_of {s:ByteArray}(h:(s.toList==[])=true):s=⟨#[]⟩:=by
 rw[beq_iff_eq,ByteArray.toList_eq]at h;exact ByteArray.ext (Array.toList_inj.1 h)
theorem vU_form {x:V3}(h:okW x=true):(x=⟨0,0,⟨#[]⟩⟩∧vU x=[0])∨(x=⟨1,x.n,⟨#[]⟩⟩∧vU x=1::(List.range 8).map (fun j=>UInt8.ofNat (numB x.n j).toNat))∨
  (x=⟨2,x.n,⟨#[]⟩⟩∧(x.n=0∨x.n=1)∧vU x=[2,UInt8.ofNat x.n.toNat])∨(x=⟨3,0,x.s⟩∧x.s.size≤100∧vU x=3::UInt8.ofNat x.s.size::x.s.data.toList):=by
 obtain⟨k,n,s⟩:=x;unfold okW at h;dsimp only at h⊢;by_cases h0:k=0
 ·subst h0;have hp:=putS_0 n s h;rw[okB_0]at h;simp only[Bool.and_eq_true,beq_iff_eq]at h;obtain⟨rfl,hs⟩:=h;obtain rfl:=empty_of (s:=s) (by rw[beq_iff_eq];exact hs);exact .inl ⟨rfl,by unfold vU;dsimp only;rw[hp,nums_list];rfl⟩
 by_cases h1:k=1
 ·subst h1;have hp:=putS_1 n s h;rw[okB_1]at h;obtain rfl:=empty_of h;refine .inr (.inl ⟨rfl,?_⟩);unfold vU;dsimp only;rw[hp,nums_list,numL,List.map_cons,List.map_map];rfl
 by_cases h2:k=2
 ·subst h2;have hp:=putS_2 n s h;have hn:=okB_2n n s h;rw[okB_2]at h;simp only[Bool.and_eq_true]at h;obtain rfl:=empty_of h.2;exact .inr (.inr (.inl ⟨rfl,hn,by unfold vU;dsimp only;rw[hp,nums_list];rfl⟩))
 by_cases h3:k=3
 ·subst h3;have hp:=putS_3 n s h;have hs:=okB_3s n s h;rw[okB_3]at h;simp only[Bool.and_eq_true,beq_iff_eq]at h;obtain⟨rfl,_⟩:=h;refine .inr (.inr (.inr ⟨rfl,hs,?_⟩));unfold vU;dsimp only;rw[hp,ByteArray.data_append,Array.toList_append,nums_list];simp
 ·rw[okB_x k n s h0 h1 h2 h3]at h;cases h
theorem ofNat_inj {a b:Nat}(ha:a<256)(hb:b<256)(h:UInt8.ofNat a=UInt8.ofNat b):a=b:=by
 have:=congrArg UInt8.toNat h;simp[UInt8.toNat_ofNat']at this;omega
theorem numB_bd (n:Int)(j:Nat):0≤numB n j∧numB n j<256:=by unfold numB;omega
theorem vU_inj {x y:V3}{l l':List UInt8}(hx:okW x=true)(hy:okW y=true)(wx:x.wf)(wy:y.wf)(h:vU x++l=vU y++l'):x=y∧l=l':=by
 rcases vU_form hx with⟨ex,fx⟩|⟨ex,fx⟩|⟨ex,nx,fx⟩|⟨ex,sx,fx⟩<;>rcases vU_form hy with⟨ey,fy⟩|⟨ey,fy⟩|⟨ey,ny,fy⟩|⟨ey,sy,fy⟩<;>rw[fx,fy]at h
 all_goals first|(exfalso;simp at h;done)|skip
 ·rw[ex,ey];exact⟨rfl,by simpa using h⟩
 ·have hl:((List.range 8).map (fun j=>UInt8.ofNat (numB x.n j).toNat)).length=((List.range 8).map (fun j=>UInt8.ofNat (numB y.n j).toNat)).length:=by simp
  rw[List.cons_append,List.cons_append,List.cons.injEq]at h;obtain⟨h1,h2⟩:=List.append_inj h.2 hl;have hn:x.n=y.n:=numB_inj wx.2.1 wy.2.1 fun j hj=>by
   have e:=congrArg (fun l=>l[j]?) h1;simp only[List.getElem?_map,List.getElem?_range hj,Option.map_some,Option.some.injEq]at e;have b1:=numB_bd x.n j;have b2:=numB_bd y.n j;have:=ofNat_inj (by omega) (by omega) e;omega
  rw[ex,ey,hn];exact⟨rfl,h2⟩
 ·simp only[List.cons_append,List.nil_append,List.cons.injEq,true_and]at h;have hn:=ofNat_inj (by omega) (by omega) h.1;have:x.n=y.n:=by omega
  rw[ex,ey,this];exact⟨rfl,h.2⟩
 ·simp only[List.cons_append,List.cons.injEq,true_and]at h;have hn:=ofNat_inj (by omega) (by omega) h.1;obtain⟨h1,h2⟩:=List.append_inj h.2 (by simpa using hn);have:x.s=y.s:=ByteArray.ext (Array.toList_inj.1 h1);rw[ex,ey,this];exact⟨rfl,h2⟩
theorem rowU_cons (x:V3)(r:List V3):rowU (x::r)=vU x++rowU r:=by unfold rowU vU;rw[List.flatMap_cons]
theorem rowU_inj:∀ {r q:List V3},r.length=q.length→r.all okW=true→q.all okW=true→VsWf r→VsWf q→rowU r=rowU q→r=q
 | [],[],_,_,_,_,_,_=>rfl
 |x::r,y::q,hl,hr,hq,wr,wq,h=>by
  rw[rowU_cons,rowU_cons]at h;rw[List.all_cons,Bool.and_eq_true]at hr hq;obtain⟨rfl,h2⟩:=vU_inj hr.1 hq.1 (wr x (by simp)) (wq y (by simp)) h;rw[rowU_inj (by simpa using hl) hr.2 hq.2 (fun z hz=>wr z (by simp[hz])) (fun z hz=>wq z (by simp[hz])) h2]
def gR8 (W:Int)(r:List V3):Prop:=okRow r W=true∧VsWf r
theorem gR8.inj {W:Int}{r q:List V3}(hr:gR8 W r)(hq:gR8 W q)(h:rowU r=rowU q):r=q:=by
 have a:=hr.1;have b:=hq.1;simp only[okRow,Bool.and_eq_true,decide_eq_true_eq]at a b;exact rowU_inj (by omega) a.2 b.2 hr.2 hq.2 h
def totC:List C2→List V3→Int
 | [],_=>0
 |c::cs,r=>(if cR8 c.r r=0 then c.n else 0)+totC cs r
theorem totC_app (cs ds:List C2)(r:List V3):totC (cs++ds) r=totC cs r+totC ds r:=by
 induction cs with
 |nil=>simp[totC]
 |cons c cs ih=>rw[List.cons_append,totC,totC,ih];omega
theorem totC_snoc (cs:List C2)(c:C2)(r:List V3):totC (cs++ [c]) r=totC cs r+if cR8 c.r r=0 then c.n else 0:=by
 rw[totC_app];simp[totC]
theorem totC_none {cs:List C2}{r:List V3}(h:∀c∈cs,c.r≠r):totC cs r=0:=by
 induction cs with
 |nil=>rfl
 |cons c cs ih=>
  rw[totC,if_neg (fun e=>h c (by simp) ((cmpRow_0 _ _).1 e)),ih fun x hx=>h x (by simp[hx])];rfl
theorem totC_asc:∀ {cs:List C2} (r:List V3),Asc cs→totC cs r=cntC cs r
 | [],_,_=>rfl
 |c::cs,r,h=>by
  rw[totC,cntC_cons];by_cases e:cR8 c.r r=0
  ·have:totC cs r=0:=totC_none fun x hx=>by
    have:=(cmpRow_0 _ _).1 e;rw[←this];exact h.ne x hx
   rw[if_pos e,if_pos e,this];omega
  ·rw[if_neg e,if_neg e,totC_asc r (List.pairwise_cons.1 h).2];omega
theorem totC_bound {cs:List C2}{M:Int}(h:∀c∈cs,-M≤c.n∧c.n≤M)(hM:0≤M)(r:List V3): -(M*cs.length)≤totC cs r∧totC cs r≤M*cs.length:=by
 induction cs with
 |nil=>simp[totC]
 |cons c cs ih=>
  have h1:=h c (by simp);have h2:=ih fun x hx=>h x (by simp[hx]);rw[totC,List.length_cons];have e:M* ((cs.length+1:Nat):Int)=M*cs.length+M:=by rw[Int.natCast_add,Int.mul_add];simp
  rw[e];generalize M* (cs.length:Int)=Q at*;split<;>omega
end
end Go.Proofs.YtflokiejcjjbiaaGreat
