/- Own texts, joined: contracts that the law's proof goes by. -/
import Derived.Test.YtjhhmnjpojnoiaaGreatDoorProg
import Derived.WalkKit
import Derived.WalkSpells
import Derived.WalkLawsBesides
import Derived.Below
import Derived.Deep.RegionHeld3
import Derived.KernelRfl
import Derived.Handy
import Derived.RegionTactic
set_option maxHeartbeats 16000000
set_option maxRecDepth 100000
set_option linter.unusedVariables false
set_option linter.unusedSimpArgs false
namespace Go.Proofs.YtjhhmnjpojnoiaaGreatDoor
section
section
open Go.RowKit
theorem bc8 {W w1:World}(hb:Below W.heap.size W w1):(∀b o,b<W.heap.size→w1.cell? ⟨b,o,none⟩=W.cell? ⟨b,o,none⟩)∧(∀b o,b<W.heap.size→w1.frozen? ⟨b,o,none⟩=W.frozen? ⟨b,o,none⟩):=
 ⟨fun b o h=>hb.cell (p:=⟨b,o,none⟩) h,fun b o h=>hb.frozen (p:=⟨b,o,none⟩) h⟩
theorem bstep {w a b:World}(h:Below a.heap.size a b)(hw:w.heap.size≤a.heap.size)(g:Below w.heap.size w a):Below w.heap.size w b:=g.trans (h.mono hw)
def szV (s:ByteArray)(left:Int):Int:=if left -s.size<0 then -1 else left -s.size
theorem ret_int {a b:Int}(h:a=b):Ending.returned (.int .i64 a)=.returned (.int .i64 b):=by rw[h]
theorem rB8 {a b:Bool}(h:a=b):Ending.returned (.bool a)=.returned (.bool b):=by rw[h]
theorem wrap64_byte (c:UInt8):wrap64 (c.toNat:Int)=c.toNat:=by have:=c.toNat_lt;unfold wrap64;omega
def bn (b:Bool):Int:=if b then 1 else 0
end
section
variable {P:Program} {md:Region.Mode} {ops:Array Oper} {Q:Exit→Act→World→Prop} {S:World→Prop}
theorem takeYes {i d:Nat}{oi:Oper}{v:Value}{fuel:Nat}{listed:Array Bool}{ts:Array Value}{ds:List _}{w:World}(hi:ops[i]?=some oi)(hd:oi.dst=some d)(hs:Region.noSelect ops=true) (hf:Region.free md ops listed i=true) (hr:(Region.ready md ops listed).contains i=true)(hQ:∀c a w,Q (.panic c) (a.put oi.dst v) w→Q (.panic c) a w) (hw:Region.wanted oi (yielded ops ts)=true) (hS:S w)(hy:∀w,S w→(execOp (Act.eval ⟨ts,ds⟩) oi).run P w=.ok (.value v) w)(h:wpAnyH P md ops Q S fuel (listed.setIfInBounds i true) ⟨ts.setIfInBounds d v,ds⟩ w):wpAnyH P md ops Q S (fuel+1) listed ⟨ts,ds⟩ w:=by
 refine wpAnyH_take hi hs hf hr hQ (Or.inl ⟨hw,hy⟩) hS ?_;rw[hd];exact h
theorem takeNo {i d:Nat}{oi:Oper}{fuel:Nat}{listed:Array Bool}{ts:Array Value}{ds:List _}{w:World}(hi:ops[i]?=some oi)(hd:oi.dst=some d)(hs:Region.noSelect ops=true) (hf:Region.free md ops listed i=true) (hr:(Region.ready md ops listed).contains i=true)(hQ:∀c a w,Q (.panic c) (a.put oi.dst undef) w→Q (.panic c) a w) (hw:Region.wanted oi (yielded ops ts)=false) (hS:S w)(h:wpAnyH P md ops Q S fuel (listed.setIfInBounds i true) ⟨ts.setIfInBounds d undef,ds⟩ w):wpAnyH P md ops Q S (fuel+1) listed ⟨ts,ds⟩ w:=by
 refine wpAnyH_take hi hs hf hr hQ (Or.inr ⟨hw,rfl⟩) hS ?_;rw[hd];exact h
end
section
open Go
section
variable {P:Program} {ops:Array Oper} {Q:Exit→Act→World→Prop} {md:Region.Mode} {S:World→Prop} {z:Nat}
def wpAnyE (P:Program)(md:Region.Mode)(ops:Array Oper)(Q:Exit→Act→World→Prop)(S:World→Prop)(z:Nat):Nat→Array Bool→Act→World→Prop
 |0,listed,a,w=>Region.ready md ops listed=[]∧Q .normal a w
 |fuel+1,listed,a,w=>
  (Region.ready md ops listed=[]→Q .normal a w)∧
  ∀i∈Region.ready md ops listed,wpOp P ops Q i (fun a' w'=>(i≠z→S w')∧wpAnyE P md ops Q S z fuel (listed.setIfInBounds i true) a' w') a w
theorem wpAny_of_E:∀ (fuel:Nat) (listed:Array Bool) (a:Act) (w:World),wpAnyE P md ops Q S z fuel listed a w→wpAny P md ops Q fuel listed a w
 |0,_,_,_,h=>h
 |fuel+1,_,_,_,h=>⟨h.1,fun i hi=>wpOp_mono (fun a' w' h'=>wpAny_of_E fuel _ a' w' h'.2) (h.2 i hi)⟩
theorem no_wait {listed:Array Bool}{i j:Nat}{oj:Oper}(hi:i∈Region.ready md ops listed)(hj:j∈Region.ready md ops listed)(ho:ops[j]?=some oj){e:Edge}(he:e∈oj.after)(hb:Region.binds md e=true):e.on≠i:=by
 obtain⟨_,o',ho',hall⟩:=mem_ready.1 hj;obtain rfl:oj=o':=by rw[ho]at ho';exact Option.some.inj ho'
 have hin:=(mem_ready.1 hi).1;have hon:=hall e he hb;rintro rfl;cases hl:listed[e.on]?<;>simp_all [Array.getD_eq_getD_getElem?]
theorem unlisted {listed:Array Bool}{j k:Nat}(hj:listed.getD j true=false)(hk:(listed.setIfInBounds j true).getD k true=false):listed.getD k true=false:=by
 by_cases e:j=k
 ·exact e▸hj
 ·rwa [getD_set_ne true e]at hk
theorem firstE {i:Nat}{oi oz:Oper}{v:Value}(hi:ops[i]?=some oi)(hz:ops[z]?=some oz){ez:Edge}(hez:ez∈oz.after)(hbz:Region.binds md ez=true)(hon:ez.on=i)(hsel:∀ (j:Nat) (o:Oper) cs b,ops[j]?=some o→o.op≠.select cs b)(hQ:∀c a w,Q (.panic c) (a.put oi.dst v) w→Q (.panic c) a w) (fuel:Nat):∀ (listed:Array Bool) (a:Act) (w:World),(∀j oj,ops[j]?=some oj→j≠i→listed.getD j true=false→(∀e∈oj.after,Region.binds md e=true→e.on≠i)→oi.apart ops oj=true)→
   i∈Region.ready md ops listed→YieldsIf P ops S oi v a→S w→wpAnyE P md ops Q S z fuel (listed.setIfInBounds i true) (a.put oi.dst v) w→wpAnyE P md ops Q S z (fuel+1) listed a w:=by
 induction fuel with
 |zero=>
  intro listed a w _ hr hy hS H;constructor
  ·intro e0;rw[e0]at hr;exact absurd hr (List.not_mem_nil)
  ·intro j hj;rcases Nat.decEq j i with hne|heq
   ·exact absurd (H.1▸ready_mono hj hne) (List.not_mem_nil)
   ·subst heq;exact hy.wpOp hi hS (And.intro (fun _=>hS) H)
 |succ m step=>
  intro listed a w hap hr hy hS H;constructor
  ·intro e0;rw[e0]at hr;exact absurd hr (List.not_mem_nil)
  ·intro j hj;rcases Nat.decEq j i with hne|heq
   ·obtain⟨hun,oj,ho,_⟩:=mem_ready.1 hj;have hjz:j≠z:=by
     rintro rfl;obtain rfl:oj=oz:=Option.some.inj (ho.symm.trans hz);exact no_wait hr hj ho hez hbz hon
    have hno:=fun e he hb=>no_wait (e:=e) hr hj ho he hb;have both:=wpOp_putIf ho (hap j oj ho hne hun hno) (fun cs b=>hsel i oi cs b hi) (fun cs b=>hsel j oj cs b ho) hQ hy (H.2 j (ready_mono hj hne));refine wpOp_mono ?_ both;rintro a' w' ⟨hy',hS',hrest⟩;rw[←Array.setIfInBounds_comm _ _ hne]at hrest;exact⟨hS',step _ a' w' (fun k ok hk hki hku=>hap k ok hk hki (unlisted hun hku)) (ready_mono hr (Ne.symm hne)) hy' (hS' hjz) hrest⟩
   ·subst heq;exact hy.wpOp hi hS (And.intro (fun _=>hS) H)
def waits (md:Region.Mode)(ops:Array Oper)(z i:Nat):Bool:=match ops[z]? with
 |some oz=>oz.after.any fun e=>Region.binds md e &&e.on==i
 |none=>false
theorem takeE {i d:Nat}{oi:Oper}{v:Value}{fuel:Nat}{listed:Array Bool}{ts:Array Value}{ds:List _}{w:World}(hi:ops[i]?=some oi)(hd:oi.dst=some d)(hs:Region.noSelect ops=true) (hf:Region.free md ops listed i=true) (hr:(Region.ready md ops listed).contains i=true) (hwt:waits md ops z i=true)(hQ:∀c a w,Q (.panic c) (a.put oi.dst v) w→Q (.panic c) a w) (hw:Region.wanted oi (yielded ops ts)=true) (hS:S w)(hy:∀w,S w→(execOp (Act.eval ⟨ts,ds⟩) oi).run P w=.ok (.value v) w)(h:wpAnyE P md ops Q S z fuel (listed.setIfInBounds i true) ⟨ts.setIfInBounds d v,ds⟩ w):wpAnyE P md ops Q S z (fuel+1) listed ⟨ts,ds⟩ w:=by
 unfold waits at hwt;split at hwt
 ·rename_i oz hz
  obtain⟨e,he,hb⟩:=Array.any_eq_true'.1 hwt;simp only[Bool.and_eq_true,beq_iff_eq]at hb;refine firstE hi hz he hb.1 hb.2 (Region.noSelect_spec hs) hQ fuel listed _ w (Region.free_spec hi hf) (by simpa using hr) (Or.inl ⟨hw,hy⟩) hS ?_;rw[hd];exact h
 ·cases hwt
theorem oneE {i:Nat}{o:Oper}{fuel:Nat}{listed:Array Bool}{a:Act}{w:World}(hr:Region.ready md ops listed=[i])(ho:ops[i]?=some o)(h:∀K':Act→World→Prop,Shut (∀a w,(i≠z→S w)→((i≠z→S w)→wpAnyE P md ops Q S z fuel (listed.setIfInBounds i true) a w)→K' a w)→if Region.wanted o (yielded ops a.tmps)=true then Oper.wp P o a w K' Q else K' (a.put o.dst undef) w):wpAnyE P md ops Q S z (fuel+1) listed a w:=by
 refine⟨fun h0=>(by rw[h0]at hr;cases hr),fun j hj=>?_⟩;rw[hr]at hj;rcases List.mem_singleton.1 hj with rfl;exact wpOp_step ho (fun K' hK=>h K' (fun a w hS hW=>hK a w ⟨hS,hW hS⟩))
theorem doneE {listed:Array Bool}{a:Act}{w:World}(hr:Region.ready md ops listed=[])(h:Q .normal a w):∀fuel,wpAnyE P md ops Q S z fuel listed a w
 |0=>⟨hr,h⟩
 |_+1=>⟨fun _=>h,by rw[hr];simp⟩
theorem startE {id:Nat}{a:Act}{w:World}(z:Nat)(S:World→Prop)(hm:P.follows .mixedOrders=true)(hS:S w.drew)(h:S w.drew→wpAnyE P .any ops Q S z ops.size (Array.replicate ops.size false) a w.drew):(Code.region id ops true).wp P Q a w:=
 wp_region_any hm (wpAny_of_E _ _ _ _ (h hS))
end
end
section
open Go.RowKit
section
variable {P:Program} {md:Region.Mode} {ops:Array Oper} {Q:Exit→Act→World→Prop} {S:World→Prop}
theorem tkY (i d:Nat){oi:Oper}{v:Value}{fuel:Nat}{listed:Array Bool}{ts:Array Value}{ds:List _}{w:World}(hi:ops[i]?=some oi)(hd:oi.dst=some d)(h:wpAnyH P md ops Q S fuel (listed.setIfInBounds i true) ⟨ts.setIfInBounds d v,ds⟩ w)(hy:∀w,S w→(execOp (Act.eval ⟨ts,ds⟩) oi).run P w=.ok (.value v) w:=by intro w' h;go_simp;try exact rfl)(hs:Region.noSelect ops=true:=by kernel_rfl) (hf:Region.free md ops listed i=true:=by kernel_rfl) (hr:(Region.ready md ops listed).contains i=true:=by kernel_rfl)(hQ:∀c a w,Q (.panic c) (a.put oi.dst v) w→Q (.panic c) a w:=by exact fun _ _ _ h=>h) (hw:Region.wanted oi (yielded ops ts)=true:=by rfl) (hS:S w:=by assumption):wpAnyH P md ops Q S (fuel+1) listed ⟨ts,ds⟩ w:=
 takeYes hi hd hs hf hr hQ hw hS hy h
theorem tkX {i d:Nat}{oi:Oper}{v:Value}{fuel:Nat}{listed:Array Bool}{ts:Array Value}{ds:List _}{w:World}(hi:ops[i]?=some oi)(hd:oi.dst=some d)(hy:∀w,S w→(execOp (Act.eval ⟨ts,ds⟩) oi).run P w=.ok (.value v) w)(h:wpAnyH P md ops Q S fuel (listed.setIfInBounds i true) ⟨ts.setIfInBounds d v,ds⟩ w)(hs:Region.noSelect ops=true:=by kernel_rfl) (hf:Region.free md ops listed i=true:=by kernel_rfl) (hr:(Region.ready md ops listed).contains i=true:=by kernel_rfl)(hQ:∀c a w,Q (.panic c) (a.put oi.dst v) w→Q (.panic c) a w:=by exact fun _ _ _ h=>h) (hw:Region.wanted oi (yielded ops ts)=true:=by rfl) (hS:S w:=by assumption):wpAnyH P md ops Q S (fuel+1) listed ⟨ts,ds⟩ w:=
 takeYes hi hd hs hf hr hQ hw hS hy h
theorem tkN (i d:Nat){oi:Oper}{fuel:Nat}{listed:Array Bool}{ts:Array Value}{ds:List _}{w:World}(hi:ops[i]?=some oi)(hd:oi.dst=some d)(h:wpAnyH P md ops Q S fuel (listed.setIfInBounds i true) ⟨ts.setIfInBounds d undef,ds⟩ w)(hs:Region.noSelect ops=true:=by kernel_rfl) (hf:Region.free md ops listed i=true:=by kernel_rfl) (hr:(Region.ready md ops listed).contains i=true:=by kernel_rfl)(hQ:∀c a w,Q (.panic c) (a.put oi.dst undef) w→Q (.panic c) a w:=by exact fun _ _ _ h=>h) (hw:Region.wanted oi (yielded ops ts)=false:=by rfl) (hS:S w:=by assumption):wpAnyH P md ops Q S (fuel+1) listed ⟨ts,ds⟩ w:=
 takeNo hi hd hs hf hr hQ hw hS h
theorem rdH (i:Nat){o:Oper}{fuel:Nat}{listed:Array Bool}{a:Act}{w:World}(ho:ops[i]?=some o)(h:∀K':Act→World→Prop,Shut (∀a w,S w→(S w→wpAnyH P md ops Q S fuel (listed.setIfInBounds i true) a w)→K' a w)→if Region.wanted o (yielded ops a.tmps)=true then Oper.wp P o a w K' Q else K' (a.put o.dst undef) w)(hr:Region.ready md ops listed=[i]:=by kernel_rfl):wpAnyH P md ops Q S (fuel+1) listed a w:=
 wpAnyH_ready hr (by simp) (AllReadyH.cons ho h AllReadyH.nil)
theorem onE {z:Nat}(i:Nat){o:Oper}{fuel:Nat}{listed:Array Bool}{a:Act}{w:World}(ho:ops[i]?=some o)(h:∀K':Act→World→Prop,Shut (∀a w,(i≠z→S w)→((i≠z→S w)→wpAnyE P md ops Q S z fuel (listed.setIfInBounds i true) a w)→K' a w)→if Region.wanted o (yielded ops a.tmps)=true then Oper.wp P o a w K' Q else K' (a.put o.dst undef) w)(hr:Region.ready md ops listed=[i]:=by kernel_rfl):wpAnyE P md ops Q S z (fuel+1) listed a w:=
 oneE hr ho h
theorem tkO {z:Nat}{i d:Nat}{oi:Oper}{v:Value}{fuel:Nat}{listed:Array Bool}{ts:Array Value}{ds:List _}{w:World}(hi:ops[i]?=some oi)(hd:oi.dst=some d)(hy:∀w,S w→(execOp (Act.eval ⟨ts,ds⟩) oi).run P w=.ok (.value v) w)(h:wpAnyE P md ops Q S z fuel (listed.setIfInBounds i true) ⟨ts.setIfInBounds d v,ds⟩ w)(hs:Region.noSelect ops=true:=by kernel_rfl) (hf:Region.free md ops listed i=true:=by kernel_rfl) (hr:(Region.ready md ops listed).contains i=true:=by kernel_rfl) (hwt:waits md ops z i=true:=by kernel_rfl)(hQ:∀c a w,Q (.panic c) (a.put oi.dst v) w→Q (.panic c) a w:=by exact fun _ _ _ h=>h) (hw:Region.wanted oi (yielded ops ts)=true:=by rfl) (hS:S w:=by assumption):wpAnyE P md ops Q S z (fuel+1) listed ⟨ts,ds⟩ w:=
 takeE hi hd hs hf hr hwt hQ hw hS hy h
theorem tkE {z:Nat}(i d:Nat){oi:Oper}{v:Value}{fuel:Nat}{listed:Array Bool}{ts:Array Value}{ds:List _}{w:World}(hi:ops[i]?=some oi)(hd:oi.dst=some d)(h:wpAnyE P md ops Q S z fuel (listed.setIfInBounds i true) ⟨ts.setIfInBounds d v,ds⟩ w)(hy:∀w,S w→(execOp (Act.eval ⟨ts,ds⟩) oi).run P w=.ok (.value v) w:=by intro w' h;go_simp;try exact rfl)(hs:Region.noSelect ops=true:=by kernel_rfl) (hf:Region.free md ops listed i=true:=by kernel_rfl) (hr:(Region.ready md ops listed).contains i=true:=by kernel_rfl) (hwt:waits md ops z i=true:=by kernel_rfl)(hQ:∀c a w,Q (.panic c) (a.put oi.dst v) w→Q (.panic c) a w:=by exact fun _ _ _ h=>h) (hw:Region.wanted oi (yielded ops ts)=true:=by rfl) (hS:S w:=by assumption):wpAnyE P md ops Q S z (fuel+1) listed ⟨ts,ds⟩ w:=
 takeE hi hd hs hf hr hwt hQ hw hS hy h
end
abbrev cL8:= @cell_later
abbrev bl8:= @World.block_lt_of_cell?
abbrev cM8:= @Calls.mono
theorem mg8 {α:Type}{l:List α}{i:Nat}{a:α}(h:l[i]?=some a):a∈l:=List.mem_of_getElem? h
abbrev bA8:= @Below.heap_alloc
abbrev bS8:= @Below.heap_setCell
abbrev cO8:= @World.cell?_setCell_other
abbrev cS8:= @World.cell?_setCell_same
theorem gE1 {α:Type}{l:List α}{i:Nat}{a:α}(h:l[i]?=some a):∃h:i<l.length,l[i]=a:=List.getElem?_eq_some_iff.1 h
theorem bex {N:Nat}{w w':World}(h:Below N w w':=by repeat (first|(with_reducible exact Below.refl _ _)|(with_reducible refine Below.drew ?_)|(with_reducible refine Below.alloc ?_ ?hh _;case hh=>first|(simp;done)|(simp;omega)|omega)|(with_reducible refine Below.setCell ?_ ?hh _;case hh=>first|(simp;done)|(simp;omega)|omega)|refine bstep (by assumption) (by first|(simp;done)|(simp;omega)|omega) ?_)):Below N w w':=h
theorem bela {N:Nat}{w w':World}(h:Below N w w':=by repeat (first|exact Below.refl _ _|refine Below.drew ?_|refine Below.alloc ?_ (by first|(simp;done)|(simp;omega)|omega) _|refine Below.setCell ?_ (by first|(simp;done)|(simp;omega)|omega) _|refine bstep (by assumption) (by first|(simp;done)|(simp;omega)|omega) ?_)):Below N w w':=h
end
section
open Go.RowKit
def inB (x a b:Int):Bool:=decide (a≤x∧x≤b)
theorem l01InN_any (x a b:Int)(w:World):Calls Tryz.prog 61 #[.int .i64 x,.int .i64 a,.int .i64 b] w fun e w'=>e=.returned (.bool (inB x a b))∧w'=w:=by
 by_cases h:a≤x
 ·go_enter Tryz.func61,Tryz.ntmps61;go_wp2;go_returns;exact⟨by simp[inB,h],rfl⟩
 ·have h':decide (a≤x)=false:=by simp;omega
  go_enter Tryz.func61,Tryz.ntmps61;go_wp2;go_returns;exact⟨rB8 (by simp[inB];omega),rfl⟩
end
section
open Go.RowKit
theorem isSmall_any (c:Int)(w:World):Calls Tryz.prog 69 #[.int .u8 c] w fun e w'=>e=.returned (.bool (inB c 97 122))∧w'=w:=by
 by_cases h:97≤c
 ·go_enter Tryz.func69,Tryz.ntmps69;go_wp2;go_returns;exact⟨by simp[inB,h],rfl⟩
 ·have h':decide (97≤c)=false:=by simp;omega
  go_enter Tryz.func69,Tryz.ntmps69;go_wp2;go_returns;exact⟨rB8 (by simp[inB];omega),rfl⟩
theorem isDigit_any (c:Int)(w:World):Calls Tryz.prog 70 #[.int .u8 c] w fun e w'=>e=.returned (.bool (inB c 48 57))∧w'=w:=by
 by_cases h:48≤c
 ·go_enter Tryz.func70,Tryz.ntmps70;go_wp2;go_returns;exact⟨by simp[inB,h],rfl⟩
 ·have h':decide (48≤c)=false:=by simp;omega
  go_enter Tryz.func70,Tryz.ntmps70;go_wp2;go_returns;exact⟨rB8 (by simp[inB];omega),rfl⟩
def chr (i:Nat)(c:Int):Bool:=inB c 97 122||(i !=0 &&inB c 48 57)
def NameP (s:ByteArray)(n:Nat):Prop:=∀i (h:i<s.size),i<n→chr i s[i].toNat=true
def nameB (s:ByteArray):Bool:=(List.range s.size).all (fun i=>if h:i<s.size then chr i s[i].toNat else true) &&inB s.size 1 10
theorem nameB_true (s:ByteArray)(h:NameP s s.size):nameB s=inB s.size 1 10:=by
 have:(List.range s.size).all (fun i=>if h:i<s.size then chr i s[i].toNat else true)=true:=by
  rw[List.all_eq_true];intro i hi;have hi':=List.mem_range.1 hi;rw[dif_pos hi'];exact h i hi' hi'
 rw[nameB,this,Bool.true_and]
theorem nameB_false (s:ByteArray)(k:Nat)(hk:k<s.size)(h:chr k s[k].toNat=false):nameB s=false:=by
 have:(List.range s.size).all (fun i=>if h:i<s.size then chr i s[i].toNat else true)=false:=by
  rw[List.all_eq_false];exact⟨k,List.mem_range.2 hk,by rw[dif_pos hk,h];simp⟩
 rw[nameB,this,Bool.false_and]
theorem nameB_big (s:ByteArray)(h:inB s.size 1 10=false):nameB s=false:=by rw[nameB,h,Bool.and_false]
theorem NameP_succ (s:ByteArray)(k:Nat)(hk:k<s.size)(h:NameP s k)(hc:chr k s[k].toNat=true):NameP s (k+1):=by
 intro i hi hl;by_cases e:i=k
 ·subst e;exact hc
 ·exact h i hi (by omega)
theorem specName_any (s:ByteArray)(w:World)(hs:s.size≤maxLen):Calls Tryz.prog 38 #[.string s] w fun e w'=>e=.returned (.bool (nameB s))∧w'=w:=by
 unfold maxLen at hs;go_enter Tryz.func38,Tryz.ntmps38;go_wp2_with fail
 go_loop [3] (fun i=> ∃k:Nat,k≤s.size∧i=.int .i64 k∧NameP s k) (fun i=>s.size - (intOf i).toNat)
 case atStart=>exact⟨0,Nat.zero_le _,rfl,fun i h hl=>by omega⟩
 case round=>
  obtain⟨k,hk,rfl,hp0⟩:=hrel;have hp:Hid (NameP s k):=hp0;clear hp0;by_cases hlt:k<s.size
  ·have e64:wrap64 (s[k].toNat:Int)=s[k].toNat:=wrap64_byte _;by_cases h1:inB (wrap64 s[k].toNat) 97 122=true
   ·have hc:Hid (chr k s[k].toNat=true):=by show chr k s[k].toNat=true;rw[e64]at h1;simp[chr,h1]
    clear e64;go_wp2_with(first|(go_at_call 61;refine(l01InN_any _ _ _ _).mono ?_;rintro e w' ⟨rfl,rfl⟩));exact⟨⟨k+1,by omega,by go_num,NameP_succ s k hlt hp.out hc.out⟩,by simp[intOf];omega⟩
   ·have h1':inB (wrap64 s[k].toNat) 97 122=false:=by simpa using h1
    clear h1;by_cases h0:k=0
    ·subst h0;have hc:Hid (nameB s=false):=by show nameB s=false;rw[e64]at h1';exact nameB_false s 0 hlt (by simp[chr,h1'])
     clear e64;go_wp2_with(first|(go_at_call 61;refine(l01InN_any _ _ _ _).mono ?_;rintro e w' ⟨rfl,rfl⟩));go_returns;exact⟨rB8 hc.out.symm,rfl⟩
    ·have hk0:((k:Int)==0)=false:=by simp;omega
     by_cases h2:inB (wrap64 s[k].toNat) 48 57=true
     ·have hc:Hid (chr k s[k].toNat=true):=by show chr k s[k].toNat=true;rw[e64]at h2;simp[chr,h2,h0]
      clear e64;go_wp2_with(first|(go_at_call 61;refine(l01InN_any _ _ _ _).mono ?_;rintro e w' ⟨rfl,rfl⟩));exact⟨⟨k+1,by omega,by go_num,NameP_succ s k hlt hp.out hc.out⟩,by simp[intOf];omega⟩
     ·have h2':inB (wrap64 s[k].toNat) 48 57=false:=by simpa using h2
      clear h2;have hc:Hid (nameB s=false):=by show nameB s=false;rw[e64]at h1' h2';exact nameB_false s k hlt (by simp[chr,h1',h2'])
      clear e64;go_wp2_with(first|(go_at_call 61;refine(l01InN_any _ _ _ _).mono ?_;rintro e w' ⟨rfl,rfl⟩));go_returns;exact⟨rB8 hc.out.symm,rfl⟩
  ·have hkk:k=s.size:=by omega
   have hfin:Hid (nameB s=inB s.size 1 10):=by show nameB s=inB s.size 1 10;have:=hp.out;rw[hkk]at this;exact nameB_true s this
   clear hkk;go_wp2_with(first|(go_at_call 61;refine(l01InN_any _ _ _ _).mono ?_;rintro e w' ⟨rfl,rfl⟩));go_returns;exact⟨rB8 hfin.out.symm,rfl⟩
theorem implName_any (s:ByteArray)(w:World)(hs:s.size≤maxLen):Calls Tryz.prog 45 #[.string s] w fun e w'=>e=.returned (.bool (nameB s))∧w'=w:=by
 unfold maxLen at hs;by_cases hz:s.size=0
 ·have hfin:Hid (nameB s=false):=nameB_big s (by simp[inB,hz]);have hnil:s.toList=[]:=by rw[ByteArray.toList_eq];exact List.eq_nil_of_length_eq_zero (by simpa using hz)
  clear hz;go_enter Tryz.func45,Tryz.ntmps45;go_wp2_with fail;go_returns;exact⟨rB8 hfin.out.symm,rfl⟩
 have hne:s.toList.isEmpty=false:=by
  rw[ByteArray.toList_eq];have:s.data.toList.length≠0:=by simpa using hz
  cases h:s.data.toList with
  |nil=>rw[h]at this;simp at this
  |cons a l=>rfl
 by_cases hb:10<(s.size:Int)
 ·have hfin:Hid (nameB s=false):=nameB_big s (by simp[inB];omega);go_enter Tryz.func45,Tryz.ntmps45;go_wp2_with fail;go_returns;exact⟨rB8 hfin.out.symm,rfl⟩
 have hpos:0<s.size:=by omega
 have hd:decide (10<(s.size:Int))=false:=by simp;omega
 by_cases h0:inB s[0].toNat 97 122=true
 ·have hc0:Hid (chr 0 s[0].toNat=true):=by show chr 0 s[0].toNat=true;simp[chr,h0]
  go_enter Tryz.func45,Tryz.ntmps45;go_wp2_with(first|(go_at_call 69;refine(isSmall_any _ _).mono ?_;rintro e w' ⟨rfl,rfl⟩)|(go_at_call 70;refine(isDigit_any _ _).mono ?_;rintro e w' ⟨rfl,rfl⟩))
  go_loop [3] (fun i=> ∃k:Nat,1≤k∧k≤s.size∧i=.int .i64 k∧NameP s k) (fun i=>s.size - (intOf i).toNat)
  case atStart=>exact⟨1,by omega,by omega,rfl,fun i h hl=>by have e:i=0:=(by omega);subst e;exact hc0.out⟩
  case round=>
   obtain⟨k,hk1,hk,rfl,hp0⟩:=hrel;have hp:Hid (NameP s k):=hp0;clear hp0;by_cases hlt:k<s.size
   ·by_cases h1:inB s[k].toNat 97 122=true
    ·have hc:Hid (chr k s[k].toNat=true):=by show chr k s[k].toNat=true;simp[chr,h1]
     go_wp2_with(first|(go_at_call 69;refine(isSmall_any _ _).mono ?_;rintro e w' ⟨rfl,rfl⟩)|(go_at_call 70;refine(isDigit_any _ _).mono ?_;rintro e w' ⟨rfl,rfl⟩));exact⟨⟨k+1,by omega,by omega,by go_num,NameP_succ s k hlt hp.out hc.out⟩,by simp[intOf];omega⟩
    ·have h1':inB s[k].toNat 97 122=false:=by simpa using h1
     clear h1;by_cases h2:inB s[k].toNat 48 57=true
     ·have hc:Hid (chr k s[k].toNat=true):=by show chr k s[k].toNat=true;have:k≠0:=(by omega);simp[chr,h2,this]
      go_wp2_with(first|(go_at_call 69;refine(isSmall_any _ _).mono ?_;rintro e w' ⟨rfl,rfl⟩)|(go_at_call 70;refine(isDigit_any _ _).mono ?_;rintro e w' ⟨rfl,rfl⟩));exact⟨⟨k+1,by omega,by omega,by go_num,NameP_succ s k hlt hp.out hc.out⟩,by simp[intOf];omega⟩
     ·have h2':inB s[k].toNat 48 57=false:=by simpa using h2
      clear h2;have hc:Hid (nameB s=false):=nameB_false s k hlt (by simp[chr,h1',h2']);go_wp2_with(first|(go_at_call 69;refine(isSmall_any _ _).mono ?_;rintro e w' ⟨rfl,rfl⟩)|(go_at_call 70;refine(isDigit_any _ _).mono ?_;rintro e w' ⟨rfl,rfl⟩));go_returns;exact⟨rB8 hc.out.symm,rfl⟩
   ·have hkk:k=s.size:=by omega
    have hfin:Hid (nameB s=true):=by show nameB s=true;have:=hp.out;rw[hkk]at this;rw[nameB_true s this];simp[inB];omega
    clear hkk;go_wp2_with(first|(go_at_call 69;refine(isSmall_any _ _).mono ?_;rintro e w' ⟨rfl,rfl⟩)|(go_at_call 70;refine(isDigit_any _ _).mono ?_;rintro e w' ⟨rfl,rfl⟩));go_returns;exact⟨rB8 hfin.out.symm,rfl⟩
 ·have h0':inB s[0].toNat 97 122=false:=by simpa using h0
  clear h0;have hfin:Hid (nameB s=false):=nameB_false s 0 hpos (by simp[chr,h0']);go_enter Tryz.func45,Tryz.ntmps45;go_wp2_with(first|(go_at_call 69;refine(isSmall_any _ _).mono ?_;rintro e w' ⟨rfl,rfl⟩)|(go_at_call 70;refine(isDigit_any _ _).mono ?_;rintro e w' ⟨rfl,rfl⟩));go_returns;exact⟨rB8 hfin.out.symm,rfl⟩
end
section
open Go.RowKit
theorem bless_asymm:∀ {x y:List UInt8},Op.bytesLess x y=true→Op.bytesLess y x=false
 | [],_,_=>by cases ‹List UInt8› <;>simp_all [Op.bytesLess]
 |_::_,[],h=>by simp[Op.bytesLess]at h
 |a::x,b::y,h=>by
  simp only[Op.bytesLess]at h⊢;rcases Nat.lt_trichotomy a.toNat b.toNat with h1|h1|h1
  ·have e:¬b<a:=by simp[UInt8.lt_iff_toNat_lt];omega
   have e':¬b=a:=by rintro rfl;omega
   simp[e,e']
  ·obtain rfl:a=b:=UInt8.toNat_inj.1 h1;have e:¬a<a:=by simp
   simp[e]at h⊢;exact bless_asymm h
  ·have e:¬a<b:=by simp[UInt8.lt_iff_toNat_lt];omega
   have e':¬a=b:=by rintro rfl;omega
   simp[e,e']at h
theorem bless_total:∀ {x y:List UInt8},Op.bytesLess x y=false→x≠y→Op.bytesLess y x=true
 | [],[],_,h=>absurd rfl h
 | [],b::y,h,_=>by simp[Op.bytesLess]at h
 |a::x,[],_,_=>by simp[Op.bytesLess]
 |a::x,b::y,h,hn=>by
  simp only[Op.bytesLess]at h⊢;rcases Nat.lt_trichotomy a.toNat b.toNat with h1|h1|h1
  ·have e:a<b:=by simp[UInt8.lt_iff_toNat_lt];omega
   simp[e]at h
  ·obtain rfl:a=b:=UInt8.toNat_inj.1 h1;have e:¬a<a:=by simp
   simp[e]at h⊢;exact bless_total h (by rintro rfl;exact hn rfl)
  ·have e:b<a:=by simp[UInt8.lt_iff_toNat_lt];omega
   simp[e]
theorem bless_irrefl:∀ (x:List UInt8),Op.bytesLess x x=false
 | []=>by simp[Op.bytesLess]
 |a::x=>by
  have e:¬a<a:=by simp
  simp[Op.bytesLess,e,bless_irrefl x]
end
end
end Go.Proofs.YtjhhmnjpojnoiaaGreatDoor
