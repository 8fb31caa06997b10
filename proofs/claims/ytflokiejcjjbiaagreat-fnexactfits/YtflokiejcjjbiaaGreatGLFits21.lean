/- Own texts, joined: contracts that the law's proof goes by. -/
import Derived.Test.YtflokiejcjjbiaaGreatGLFits1
import Derived.Handy
import Derived.Laws.Bits64b
import Derived.OwnWalk
import Derived.Lib.SmallJoins
import Derived.Test.YtflokiejcjjbiaaGreatGLFits2
import Derived.Test.YtflokiejcjjbiaaGreatGLFits5
import Derived.Lib.AppendStr
import Derived.Laws.BytesArg
import Derived.Laws.OwnMore
set_option maxHeartbeats 16000000
set_option maxRecDepth 100000
set_option linter.unusedVariables false
set_option linter.unusedSimpArgs false
namespace Go.Proofs.YtflokiejcjjbiaaGreat
section
open Go.RowKit
theorem info5:(Tryz.prog.info? 5).map (fun i=>(i.zero,i.size,i.bytes))=some (some (.int .u8 0),1,1):=by kernel_rfl
def numB (n:Int)(j:Nat):Int:=IntKind.u64.wrap n/2 ^ (8* (7 -j)) %256
def numL (n:Int)(j:Nat):List Int:=1::(List.range j).map (numB n)
theorem numL_len (n:Int)(j:Nat):(numL n j).length=1+j:=by simp[numL];omega
theorem numL_succ (n:Int)(j:Nat):numL n (j+1)=numL n j++ [numB n j]:=by simp[numL,List.range_succ]
theorem own_start (w:World)(x:Int):(w.alloc (Obj.cells #[Value.int .u8 x] 5)).ownsRow w.heap.size 5 1 (.slice (some ⟨w.heap.size,0,none⟩) 1 1) 1 ([x].map (Value.int .u8)):=by
 refine⟨rfl,.inr ⟨w.heap.size,1,#[Value.int .u8 x],rfl,Nat.le_refl _,heap_alloc_new w _,Nat.le_refl _,by unfold maxLen;decide,rfl,rfl⟩⟩
theorem own_grow {w wr w1:World}{v:Value}{o:Obj}{B n:Nat}{xs:List Value}(hown:wr.ownsRow B 5 1 v n xs)(hbel:Below B w wr)(hB:B≤wr.heap.size)(hg:(wr.alloc o).grownBy w1 v.ownBlock):Below B w w1:=by
 refine Below.grown (hbel.alloc hB o) hg (by simp;omega) ?_;intro k hk;rcases hown.2 with⟨hv,_⟩|⟨g,cap,cur,hv,hb,_⟩
 ·rw[hv]at hk;simp[Value.ownBlock]at hk
 ·rw[hv]at hk;simp[Value.ownBlock]at hk;omega
theorem numberBytes_any (n:Int)(w:World):Calls Tryz.prog 198 #[.int .i64 n] w fun e w'=> ∃v,e=.returned v∧w'.ownsRow w.heap.size 5 1 v 9 ((numL n 8).map (Value.int .u8))∧Below w.heap.size w w':=by
 obtain⟨i0,hi,hz0,hz1,hz2⟩:=info_parts info5;go_enter Tryz.func198,Tryz.ntmps198;go_wp2;go_loopw [3,4] (fun v i wr=> ∃j:Nat,j≤8∧i=.int .i64 (7 - (j:Int))∧wr.ownsRow w.heap.size 5 1 v (1+j) ((numL n j).map (Value.int .u8))∧Below w.heap.size w wr) (fun _ i _=>(intOf i+1).toNat)
 case atStart=>exact⟨0,by omega,rfl,own_start w 1,(Below.refl _ _).alloc (Nat.le_refl _) _⟩
 case round=>
  obtain⟨j,hj,rfl,hown,hbel⟩:=hrel;have hB:=hbel.size;by_cases hlt:j<8
  ·go_wp2_with(at_builtin;refine wpList_append_own _ rfl _ _ 229 rfl w.heap.size 5 i0 (.int .u8 0) 1 1 Tryz.underlying229 hi hz0 hz1 hz2 rfl (by decide) _ _ _ rfl (hown.alloc _) ⟨wr.heap.size,0,none⟩ 1 1 [.int .u8 (IntKind.u64.wrap n/2 ^ (8* (7 -j)) %256)] rfl rfl ?c1 ?c2 ?c3 ?c4 ?c5 ?_)
   case c1=>
    intro q u hq
    match q,hq with
    |0,hq=>simp at hq;subst hq;simp[Addr.add]
   case c2=>intro u hu;simp at hu;subst hu;rfl
   case c3=>unfold maxLen;omega
   case c4=>omega
   case c5=>simp;omega
   ·intro v' w1 hown' hgrow _;have R1:w1.ownsRow w.heap.size 5 1 v' (1+(j+1)) ((numL n (j+1)).map (Value.int .u8)):=by
     rw[numL_succ,List.map_append];exact hown'
    have R2:=own_grow hown hbel hB hgrow;clear hown' hgrow hown;go_wp2
    go_roundw
    case rel=>exact⟨j+1,by omega,by go_num,R1,R2⟩
    case measure=>simp[intOf];omega
  ·have hj8:j=8:=by omega
   subst hj8;go_wp2;go_returns;exact⟨_,rfl,hown,hbel⟩
end
section
open Go.RowKit
attribute [local go_sem] ta_nullForm_nullForm ta_nullForm_intForm ta_nullForm_boolForm ta_nullForm_textForm ta_intForm_nullForm ta_intForm_intForm ta_intForm_boolForm ta_intForm_textForm ta_boolForm_nullForm ta_boolForm_intForm ta_boolForm_boolForm ta_boolForm_textForm ta_textForm_nullForm ta_textForm_intForm ta_textForm_boolForm ta_textForm_textForm ta_nil_nullForm ta_nil_intForm ta_nil_boolForm ta_nil_textForm
theorem ta_text1 (s:ByteArray)(w:World):(Instr.typeAssert (.iface 227 (.agg #[.string s])) 201 227 false).run Tryz.prog w=.ok (.agg #[.string s]) w:=by kernel_rfl
theorem fld_text (s:ByteArray)(w:World):(Instr.field 227 (.agg #[.string s]) 0).run Tryz.prog w=.ok (.string s) w:=by kernel_rfl
attribute [local go_sem] ta_text1 fld_text
theorem own_lit (W:World)(B:Nat)(xs:List Int)(hB:B≤W.heap.size)(hl:xs.length≤100):(W.alloc (Obj.cells (xs.map (Value.int .u8)).toArray 5)).ownsRow B 5 1 (.slice (some ⟨W.heap.size,0,none⟩) xs.length xs.length) xs.length (xs.map (Value.int .u8)):=by
 refine⟨by simp,.inr ⟨W.heap.size,xs.length,(xs.map (Value.int .u8)).toArray,rfl,hB,heap_alloc_new W _,Nat.le_refl _,by unfold maxLen;omega,by simp,?_⟩⟩;rw[List.take_of_length_le (by simp)]
theorem own_litg (W:World)(B g:Nat)(xs:List Int)(hg:g=W.heap.size)(hB:B≤W.heap.size)(hl:xs.length≤100):(W.alloc (Obj.cells (xs.map (Value.int .u8)).toArray 5)).ownsRow B 5 1 (.slice (some ⟨g,0,none⟩) xs.length xs.length) xs.length (xs.map (Value.int .u8)):=by
 subst hg;exact own_lit W B xs hB hl
theorem own_base {w:World}{B B' e size n:Nat}{v:Value}{xs:List Value}(h:w.ownsRow B e size v n xs)(hb:B'≤B):w.ownsRow B' e size v n xs:=by
 obtain⟨h1,h2⟩:=h;refine⟨h1,?_⟩;rcases h2 with h2|⟨g,cap,cur,hv,hg,r⟩
 ·exact .inl h2
 ·exact .inr ⟨g,cap,cur,hv,Nat.le_trans hb hg,r⟩
theorem conv_own {w:World}{B n:Nat}{v:Value}(xs:List Int)(h:w.ownsRow B 5 1 v n (xs.map (Value.int .u8)))(hn:0<n):(convert 229 9 v).run Tryz.prog w=.ok (.string (strOfNums xs)) w:=by
 have hlen:xs.length=n:=by have:=h.1;simpa using this
 obtain⟨g,cap,rfl⟩:=Go.Joins.ownsRow_form h hn;refine run_convert_bytes_arg w 229 5 Tryz.underlying229 Tryz.underlying5 g 0 n cap xs hlen ?_ 9 Tryz.underlying9;intro i hi;rw[Nat.zero_add,h.cellAt i (by omega)];have hi':i<xs.length:=by omega
 simp[List.getD,List.getElem?_eq_getElem hi']
theorem fb_0 (w:World):Calls Tryz.prog 189 #[.iface 223 (.agg #[])] w fun e w'=> ∃v,e=.returned v∧w'.ownsRow w.heap.size 5 1 v 1 ([(0:Int)].map (Value.int .u8))∧Below w.heap.size w w':=by
 go_enter Tryz.func189,Tryz.ntmps189;go_wp2;go_returns;refine⟨_,rfl,own_litg _ _ _ [0] ?_ ?_ (by decide),?_⟩
 ·first|(simp;done)|(simp;omega)
 ·first|(simp;done)|(simp;omega)
 ·go_grown
theorem fb_1 (n:Int)(w:World):Calls Tryz.prog 189 #[.iface 225 (.agg #[.int .i64 n])] w fun e w'=> ∃v,e=.returned v∧w'.ownsRow w.heap.size 5 1 v 9 ((numL n 8).map (Value.int .u8))∧Below w.heap.size w w':=by
 go_enter Tryz.func189,Tryz.ntmps189;go_wp2_with fail;refine(numberBytes_any _ _).mono ?_;rintro e w1 ⟨v,rfl,hown,hb1⟩;have hz1:=hb1.size;simp only[World.size_alloc]at hz1;go_wp2_with fail;go_returns;refine⟨_,rfl,own_base hown (by simp;omega),?_⟩;exact bela
theorem fb_2 (n:Int)(w:World)(h:n=0∨n=1):Calls Tryz.prog 189 #[.iface 198 (.agg #[.int .i64 n])] w fun e w'=> ∃v,e=.returned v∧w'.ownsRow w.heap.size 5 1 v 2 ([(2:Int),n].map (Value.int .u8))∧Below w.heap.size w w':=by
 have hm:n %256=n:=by omega
 go_enter Tryz.func189,Tryz.ntmps189;go_wp2;go_returns;refine⟨_,rfl,own_litg _ _ _ [2,n] ?_ ?_ (by simp),?_⟩
 ·first|(simp;done)|(simp;omega)
 ·first|(simp;done)|(simp;omega)
 ·go_grown
theorem fb_3 (s:ByteArray)(w:World)(h:s.size≤100):Calls Tryz.prog 189 #[.iface 227 (.agg #[.string s])] w fun e w'=> ∃v,e=.returned v∧w'.ownsRow w.heap.size 5 1 v (2+s.size) (([(3:Int),(s.size:Int)]++s.data.toList.map (fun b=>(b.toNat:Int))).map (Value.int .u8))∧Below w.heap.size w w':=by
 have hm:(s.size:Int) %256=s.size:=by omega
 obtain⟨i0,hi,hz0,hz1,hz2⟩:=info_parts info5;go_enter Tryz.func189,Tryz.ntmps189;go_wp2_with(at_builtin;refine Go.Lib.wpList_append_own_string _ rfl _ _ 229 9 rfl w.heap.size 5 i0 Tryz.underlying229 Tryz.underlying9 hi hz0 hz1 hz2 _ 2 ([(3:Int),(s.size:Int)].map (Value.int .u8)) rfl (own_litg _ _ _ [3,(s.size:Int)] ?c0 ?c1 (by simp)) s rfl ?c2 ?c3 ?c4 ?_)
 case c0=>first|(simp;done)|(simp;omega)
 case c1=>first|(simp;done)|(simp;omega)
 case c2=>unfold maxLen;omega
 case c3=>omega
 case c4=>first|(simp;done)|(simp;omega)
 intro v' w1 hown hgrow _;go_wp2_with fail;go_returns;refine⟨_,rfl,?_,?_⟩
 ·simp only[List.map_cons,List.map_map];exact hown
 ·refine Below.grown ?_ hgrow (by simp;omega) ?_
  ·go_grown
  ·intro k hk;simp[Value.ownBlock]at hk;omega
end
section
open Go.RowKit
def putS (k n:Int)(s:ByteArray):ByteArray:=
 if okB k n s=true then(if k=0 then strOfNums [0]else if k=1 then strOfNums (numL n 8)else if k=2 then strOfNums [2,n]else strOfNums [3,(s.size:Int)]++s)else⟨#[]⟩
theorem putS_no (k n:Int)(s:ByteArray)(h:okB k n s=false):putS k n s=⟨#[]⟩:=by rw[putS,h];rfl
theorem putS_0 (n:Int)(s:ByteArray)(h:okB 0 n s=true):putS 0 n s=strOfNums [0]:=by rw[putS,if_pos h];rfl
theorem putS_1 (n:Int)(s:ByteArray)(h:okB 1 n s=true):putS 1 n s=strOfNums (numL n 8):=by rw[putS,if_pos h];rfl
theorem putS_2 (n:Int)(s:ByteArray)(h:okB 2 n s=true):putS 2 n s=strOfNums [2,n]:=by rw[putS,if_pos h];rfl
theorem putS_3 (n:Int)(s:ByteArray)(h:okB 3 n s=true):putS 3 n s=strOfNums [3,(s.size:Int)]++s:=by rw[putS,if_pos h];rfl
theorem nums_append (xs:List Int)(s:ByteArray):strOfNums (xs++s.data.toList.map (fun b=>(b.toNat:Int)))=strOfNums xs++s:=by
 apply ByteArray.ext;apply Array.toList_inj.1;rw[ByteArray.data_append,Array.toList_append];have e:((fun n:Int=>UInt8.ofNat n.toNat)∘fun b:UInt8=>(b.toNat:Int))=id:=by funext b;simp
 simp only[strOfNums,List.map_append,List.map_map,e,List.map_id]
theorem nums_size (xs:List Int):(strOfNums xs).size=xs.length:=by
 show(xs.map fun n=>UInt8.ofNat n.toNat).toArray.size=_;simp
theorem ret_str {a b:ByteArray}(h:a=b):Ending.returned (.string a)=.returned (.string b):=by rw[h]
theorem okB_3s (n:Int)(s:ByteArray)(h:okB 3 n s=true):s.size≤100:=by rw[okB_3]at h;simp at h;exact h.2
theorem okB_2n (n:Int)(s:ByteArray)(h:okB 2 n s=true):n=0∨n=1:=by rw[okB_2]at h;simp at h;exact h.1
theorem implPut_no (k n:Int)(s:ByteArray)(w:World)(hs:s.size≤maxLen)(hok:okB k n s=false):Calls Tryz.prog 161 #[(.agg #[.int .i64 k,.int .i64 n,.string s])] w fun e w'=>e=.returned (.string (putS k n s))∧Below w.heap.size w w':=by
 have hp:Hid (putS k n s=⟨#[]⟩):=putS_no k n s hok;go_enter Tryz.func161,Tryz.ntmps161;go_wp2_with fail;refine(implValueOk_any _ _ _ _ hs).mono ?_;rintro e w1 ⟨rfl,hb1⟩;rw[hok];go_wp2_with fail;go_returns;refine⟨ret_str hp.out.symm,?_⟩;exact bela
theorem implPut_0 (n:Int)(s:ByteArray)(w:World)(hs:s.size≤maxLen)(hok:okB 0 n s=true):Calls Tryz.prog 161 #[(.agg #[.int .i64 0,.int .i64 n,.string s])] w fun e w'=>e=.returned (.string (putS 0 n s))∧Below w.heap.size w w':=by
 have hp:Hid (putS 0 n s=_):=putS_0 n s hok;have hok0:Hid (okB 0 n s=true):=hok;go_enter Tryz.func161,Tryz.ntmps161;go_wp2_with fail;refine(implValueOk_any _ _ _ _ hs).mono ?_;rintro e w1 ⟨rfl,hb1⟩;rw[hok];clear hok;have hz1:=hb1.size;simp only[World.size_alloc]at hz1;have hy1:w.heap.size<w1.heap.size:=by omega
 have qa:w1.cell? ⟨w.heap.size,0,none⟩=some (.int .i64 0):=cL8 hb1 (by go_simp);have qb:w1.cell? ⟨w.heap.size,1,none⟩=some (.int .i64 n):=cL8 hb1 (by go_simp);have qc:w1.cell? ⟨w.heap.size,2,none⟩=some (.string s):=cL8 hb1 (by go_simp);go_wp2_with fail;refine(formOf_0 _ _ _).mono ?_;rintro e w2 ⟨rfl,rfl⟩;go_wp2_with fail;refine(fb_0 _).mono ?_;rintro e w3 ⟨v,rfl,hown,hb3⟩;have hz3:=hb3.size;simp only[World.size_alloc]at hz3;have hcv:=conv_own _ hown (by omega);clear hown;go_wp2_with fail;go_returns;refine⟨ret_str (hp.out.symm),?_⟩;exact bela
theorem implPut_1 (n:Int)(s:ByteArray)(w:World)(hs:s.size≤maxLen)(hok:okB 1 n s=true):Calls Tryz.prog 161 #[(.agg #[.int .i64 1,.int .i64 n,.string s])] w fun e w'=>e=.returned (.string (putS 1 n s))∧Below w.heap.size w w':=by
 have hp:Hid (putS 1 n s=_):=putS_1 n s hok;have hok0:Hid (okB 1 n s=true):=hok;go_enter Tryz.func161,Tryz.ntmps161;go_wp2_with fail;refine(implValueOk_any _ _ _ _ hs).mono ?_;rintro e w1 ⟨rfl,hb1⟩;rw[hok];clear hok;have hz1:=hb1.size;simp only[World.size_alloc]at hz1;have hy1:w.heap.size<w1.heap.size:=by omega
 have qa:w1.cell? ⟨w.heap.size,0,none⟩=some (.int .i64 1):=cL8 hb1 (by go_simp);have qb:w1.cell? ⟨w.heap.size,1,none⟩=some (.int .i64 n):=cL8 hb1 (by go_simp);have qc:w1.cell? ⟨w.heap.size,2,none⟩=some (.string s):=cL8 hb1 (by go_simp);go_wp2_with fail;refine(formOf_1 _ _ _).mono ?_;rintro e w2 ⟨rfl,rfl⟩;go_wp2_with fail;refine(fb_1 _ _).mono ?_;rintro e w3 ⟨v,rfl,hown,hb3⟩;have hz3:=hb3.size;simp only[World.size_alloc]at hz3;have hcv:=conv_own _ hown (by omega);clear hown;go_wp2_with fail;go_returns;refine⟨ret_str (hp.out.symm),?_⟩;exact bela
theorem implPut_2 (n:Int)(s:ByteArray)(w:World)(hs:s.size≤maxLen)(hok:okB 2 n s=true):Calls Tryz.prog 161 #[(.agg #[.int .i64 2,.int .i64 n,.string s])] w fun e w'=>e=.returned (.string (putS 2 n s))∧Below w.heap.size w w':=by
 have hp:Hid (putS 2 n s=_):=putS_2 n s hok;have hok0:Hid (okB 2 n s=true):=hok;go_enter Tryz.func161,Tryz.ntmps161;go_wp2_with fail;refine(implValueOk_any _ _ _ _ hs).mono ?_;rintro e w1 ⟨rfl,hb1⟩;rw[hok];clear hok;have hz1:=hb1.size;simp only[World.size_alloc]at hz1;have hy1:w.heap.size<w1.heap.size:=by omega
 have qa:w1.cell? ⟨w.heap.size,0,none⟩=some (.int .i64 2):=cL8 hb1 (by go_simp);have qb:w1.cell? ⟨w.heap.size,1,none⟩=some (.int .i64 n):=cL8 hb1 (by go_simp);have qc:w1.cell? ⟨w.heap.size,2,none⟩=some (.string s):=cL8 hb1 (by go_simp);go_wp2_with fail;refine(formOf_2 _ _ _).mono ?_;rintro e w2 ⟨rfl,rfl⟩;go_wp2_with fail;refine(fb_2 _ _ (okB_2n n s hok0.out)).mono ?_;rintro e w3 ⟨v,rfl,hown,hb3⟩;have hz3:=hb3.size;simp only[World.size_alloc]at hz3;have hcv:=conv_own _ hown (by omega);clear hown;go_wp2_with fail;go_returns;refine⟨ret_str (hp.out.symm),?_⟩;exact bela
theorem implPut_3 (n:Int)(s:ByteArray)(w:World)(hs:s.size≤maxLen)(hok:okB 3 n s=true):Calls Tryz.prog 161 #[(.agg #[.int .i64 3,.int .i64 n,.string s])] w fun e w'=>e=.returned (.string (putS 3 n s))∧Below w.heap.size w w':=by
 have hp:Hid (putS 3 n s=_):=putS_3 n s hok;have hok0:Hid (okB 3 n s=true):=hok;go_enter Tryz.func161,Tryz.ntmps161;go_wp2_with fail;refine(implValueOk_any _ _ _ _ hs).mono ?_;rintro e w1 ⟨rfl,hb1⟩;rw[hok];clear hok;have hz1:=hb1.size;simp only[World.size_alloc]at hz1;have hy1:w.heap.size<w1.heap.size:=by omega
 have qa:w1.cell? ⟨w.heap.size,0,none⟩=some (.int .i64 3):=cL8 hb1 (by go_simp);have qb:w1.cell? ⟨w.heap.size,1,none⟩=some (.int .i64 n):=cL8 hb1 (by go_simp);have qc:w1.cell? ⟨w.heap.size,2,none⟩=some (.string s):=cL8 hb1 (by go_simp);go_wp2_with fail;refine(formOf_3 _ _ _).mono ?_;rintro e w2 ⟨rfl,rfl⟩;go_wp2_with fail;refine(fb_3 _ _ (okB_3s n s hok0.out)).mono ?_;rintro e w3 ⟨v,rfl,hown,hb3⟩;have hz3:=hb3.size;simp only[World.size_alloc]at hz3;have hcv:=conv_own _ hown (by omega);clear hown;go_wp2_with fail;go_returns;refine⟨ret_str ((nums_append [3,(s.size:Int)] s).trans hp.out.symm),?_⟩;exact bela
theorem implPut_any (k n:Int)(s:ByteArray)(w:World)(hs:s.size≤maxLen):Calls Tryz.prog 161 #[(.agg #[.int .i64 k,.int .i64 n,.string s])] w fun e w'=>e=.returned (.string (putS k n s))∧Below w.heap.size w w':=by
 by_cases hok:okB k n s=true
 ·by_cases h0:k=0
  ·subst h0;exact implPut_0 n s w hs hok
  by_cases h1:k=1
  ·subst h1;exact implPut_1 n s w hs hok
  by_cases h2:k=2
  ·subst h2;exact implPut_2 n s w hs hok
  by_cases h3:k=3
  ·subst h3;exact implPut_3 n s w hs hok
  ·rw[okB_x k n s h0 h1 h2 h3]at hok;cases hok
 ·exact implPut_no k n s w hs (by simpa using hok)
end
end Go.Proofs.YtflokiejcjjbiaaGreat
