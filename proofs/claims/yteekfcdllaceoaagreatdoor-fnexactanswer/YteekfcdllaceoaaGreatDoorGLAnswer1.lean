/- Own texts, joined: contracts that the law's proof goes by. -/
import Derived.Test.YteekfcdllaceoaaGreatDoorProg
import Derived.WalkKit
import Derived.WalkSpells
import Derived.WalkLawsBesides
import Derived.Below
import Derived.Deep.RegionHeld3
import Derived.KernelRfl
import Derived.Handy
import Derived.Deep.SlicePairs
import Derived.OpenShut
import Derived.ChangeOld
import Derived.Deep.OwnRows
import Derived.Deep.RegionWith
import Derived.Shelf.Strings.Builder1
import Derived.Shelf.Small.Bits
import Derived.Shelf.Strconv.Itoa0
import Derived.Shelf.Strings.Search1
import Derived.Shelf.Strings.Search2
import Derived.Shelf.Strings.Search3
import Derived.Shelf.LaysM
import Derived.Shelf.Strings.Shaped
import Derived.Shelf.Sort.Plain
import Derived.Ground.Names2Prog
import Derived.Shelf.Slices.CompactI
import Derived.Shelf.Slices.Cells
import Derived.Shelf.SlSortCmp.WholeK
import Derived.Shelf.SlGeneric
import Derived.Ground.SlsfProg
import Derived.Shelf.Spec.SlicesGrow
import Derived.Ground.Names8Prog
import Derived.Lib.IndexLaws
import Derived.Lib.IndexMore
set_option maxHeartbeats 16000000
set_option maxRecDepth 100000
set_option linter.unusedVariables false
set_option linter.unusedSimpArgs false
namespace Go.Proofs.YteekfcdllaceoaaGreatDoor
section
open Go.RowKit
theorem bc8 {W w1:World}(hb:Below W.heap.size W w1):(∀b o,b<W.heap.size->w1.cell? ⟨b,o,none⟩=W.cell? ⟨b,o,none⟩)/\(∀b o,b<W.heap.size->w1.frozen? ⟨b,o,none⟩=W.frozen? ⟨b,o,none⟩):=
 ⟨fun b o h=>hb.cell (p:=⟨b,o,none⟩) h,fun b o h=>hb.frozen (p:=⟨b,o,none⟩) h⟩
theorem U5 {w a b:World}(h:Below a.heap.size a b)(hw:w.heap.size<=a.heap.size)(g:Below w.heap.size w a):Below w.heap.size w b:=g.trans (h.mono hw)
def szV (s:ByteArray)(left:Int):Int:=if left -s.size<0 then -1 else left -s.size
theorem Z8 {a b:Int}(h:a=b):Ending.returned (.int .i64 a)=.returned (.int .i64 b):=by rw[h]
theorem rB8 {a b:Bool}(h:a=b):Ending.returned (.bool a)=.returned (.bool b):=by rw[h]
theorem B6X (c:UInt8):wrap64 (c.toNat:Int)=c.toNat:=by have:=c.toNat_lt;unfold wrap64;omega
def bn (b:Bool):Int:=if b then 1 else 0
end
section
variable {P:Program} {md:Region.Mode} {ops:Array Oper} {Q:Exit->Act->World->Prop} {S:World->Prop}
theorem A6z {i d:Nat}{oi:Oper}{v:Value}{fuel:Nat}{listed:Array Bool}{ts:Array Value}{ds:List _}{w:World}(hi:ops[i]?=some oi)(hd:oi.dst=some d)(hs:Region.noSelect ops=true) (hf:Region.free md ops listed i=true) (hr:(Region.ready md ops listed).contains i=true)(hQ:∀c a w,Q (.panic c) (a.put oi.dst v) w->Q (.panic c) a w) (hw:Region.wanted oi (yielded ops ts)=true) (hS:S w)(hy:∀w,S w->(execOp (Act.eval ⟨ts,ds⟩) oi).run P w=.ok (.value v) w)(h:wpAnyH P md ops Q S fuel (listed.setIfInBounds i true) ⟨ts.setIfInBounds d v,ds⟩ w):wpAnyH P md ops Q S (fuel+1) listed ⟨ts,ds⟩ w:=by
 refine wpAnyH_take hi hs hf hr hQ (Or.inl ⟨hw,hy⟩) hS ?_;rw[hd];exact h
theorem A71 {i d:Nat}{oi:Oper}{fuel:Nat}{listed:Array Bool}{ts:Array Value}{ds:List _}{w:World}(hi:ops[i]?=some oi)(hd:oi.dst=some d)(hs:Region.noSelect ops=true) (hf:Region.free md ops listed i=true) (hr:(Region.ready md ops listed).contains i=true)(hQ:∀c a w,Q (.panic c) (a.put oi.dst undef) w->Q (.panic c) a w) (hw:Region.wanted oi (yielded ops ts)=false) (hS:S w)(h:wpAnyH P md ops Q S fuel (listed.setIfInBounds i true) ⟨ts.setIfInBounds d undef,ds⟩ w):wpAnyH P md ops Q S (fuel+1) listed ⟨ts,ds⟩ w:=by
 refine wpAnyH_take hi hs hf hr hQ (Or.inr ⟨hw,rfl⟩) hS ?_;rw[hd];exact h
end
section
open Go
section
variable {P:Program} {ops:Array Oper} {Q:Exit->Act->World->Prop} {md:Region.Mode} {S:World->Prop} {z:Nat}
def Y1 (P:Program)(md:Region.Mode)(ops:Array Oper)(Q:Exit->Act->World->Prop)(S:World->Prop)(z:Nat):Nat->Array Bool->Act->World->Prop
 |0,listed,a,w=>Region.ready md ops listed=[]/\Q .normal a w
 |fuel+1,listed,a,w=>
  (Region.ready md ops listed=[]->Q .normal a w)/\
  ∀i∈Region.ready md ops listed,wpOp P ops Q i (fun a' w'=>(i≠z->S w')/\Y1 P md ops Q S z fuel (listed.setIfInBounds i true) a' w') a w
theorem A7V:∀ (fuel:Nat) (listed:Array Bool) (a:Act) (w:World),Y1 P md ops Q S z fuel listed a w->wpAny P md ops Q fuel listed a w
 |0,_,_,_,h=>h
 |fuel+1,_,_,_,h=>⟨h.1,fun i hi=>wpOp_mono (fun a' w' h'=>A7V fuel _ a' w' h'.2) (h.2 i hi)⟩
theorem B1o {listed:Array Bool}{i j:Nat}{oj:Oper}(hi:i∈Region.ready md ops listed)(hj:j∈Region.ready md ops listed)(ho:ops[j]?=some oj){e:Edge}(he:e∈oj.after)(hb:Region.binds md e=true):e.on≠i:=by
 obtain⟨_,o',ho',M1⟩:=mem_ready.1 hj;obtain rfl:oj=o':=by rw[ho]at ho';exact Option.some.inj ho'
 have hin:=(mem_ready.1 hi).1;have hon:=M1 e he hb;rintro rfl;cases hl:listed[e.on]?<;>simp_all [Array.getD_eq_getD_getElem?]
theorem B8R {listed:Array Bool}{j k:Nat}(hj:listed.getD j true=false)(hk:(listed.setIfInBounds j true).getD k true=false):listed.getD k true=false:=by
 by_cases e:j=k
 ·exact e▸hj
 ·rwa [getD_set_ne true e]at hk
theorem B3j {i:Nat}{oi oz:Oper}{v:Value}(hi:ops[i]?=some oi)(hz:ops[z]?=some oz){ez:Edge}(hez:ez∈oz.after)(hbz:Region.binds md ez=true)(hon:ez.on=i)(hsel:∀ (j:Nat) (o:Oper) cs b,ops[j]?=some o->o.op≠.select cs b)(hQ:∀c a w,Q (.panic c) (a.put oi.dst v) w->Q (.panic c) a w) (fuel:Nat):∀ (listed:Array Bool) (a:Act) (w:World),(∀j oj,ops[j]?=some oj->j≠i->listed.getD j true=false->(∀e∈oj.after,Region.binds md e=true->e.on≠i)->oi.apart ops oj=true)->
   i∈Region.ready md ops listed->YieldsIf P ops S oi v a->S w->Y1 P md ops Q S z fuel (listed.setIfInBounds i true) (a.put oi.dst v) w->Y1 P md ops Q S z (fuel+1) listed a w:=by
 induction fuel with
 |zero=>
  intro listed a w _ hr hy hS H;constructor
  ·intro e0;rw[e0]at hr;exact absurd hr (List.not_mem_nil)
  ·intro j hj;rcases Nat.decEq j i with hne|heq
   ·exact absurd (H.1▸ready_mono hj hne) (List.not_mem_nil)
   ·subst heq;exact hy.wpOp hi hS (And.intro (fun _=>hS) H)
 |succ m step=>
  intro listed a w hap hr hy hS H;constructor
  ·intro e0;rw[e0]at hr;exact absurd hr (List.not_mem_nil)
  ·intro j hj;rcases Nat.decEq j i with hne|heq
   ·obtain⟨hun,oj,ho,_⟩:=mem_ready.1 hj;have hjz:j≠z:=by
     rintro rfl;obtain rfl:oj=oz:=Option.some.inj (ho.symm.trans hz);exact B1o hr hj ho hez hbz hon
    have hno:=fun e he hb=>B1o (e:=e) hr hj ho he hb;have C3H:=wpOp_putIf ho (hap j oj ho hne hun hno) (fun cs b=>hsel i oi cs b hi) (fun cs b=>hsel j oj cs b ho) hQ hy (H.2 j (ready_mono hj hne));refine wpOp_mono ?_ C3H;rintro a' w' ⟨hy',hS',hrest⟩;rw[<-Array.setIfInBounds_comm _ _ hne]at hrest;exact⟨hS',step _ a' w' (fun k ok hk hki hku=>hap k ok hk hki (B8R hun hku)) (ready_mono hr (Ne.symm hne)) hy' (hS' hjz) hrest⟩
   ·subst heq;exact hy.wpOp hi hS (And.intro (fun _=>hS) H)
def A5G (md:Region.Mode)(ops:Array Oper)(z i:Nat):Bool:=match ops[z]? with
 |some oz=>oz.after.any fun e=>Region.binds md e &&e.on==i
 |none=>false
theorem A99 {i d:Nat}{oi:Oper}{v:Value}{fuel:Nat}{listed:Array Bool}{ts:Array Value}{ds:List _}{w:World}(hi:ops[i]?=some oi)(hd:oi.dst=some d)(hs:Region.noSelect ops=true) (hf:Region.free md ops listed i=true) (hr:(Region.ready md ops listed).contains i=true) (hwt:A5G md ops z i=true)(hQ:∀c a w,Q (.panic c) (a.put oi.dst v) w->Q (.panic c) a w) (hw:Region.wanted oi (yielded ops ts)=true) (hS:S w)(hy:∀w,S w->(execOp (Act.eval ⟨ts,ds⟩) oi).run P w=.ok (.value v) w)(h:Y1 P md ops Q S z fuel (listed.setIfInBounds i true) ⟨ts.setIfInBounds d v,ds⟩ w):Y1 P md ops Q S z (fuel+1) listed ⟨ts,ds⟩ w:=by
 unfold A5G at hwt;split at hwt
 ·rename_i oz hz
  obtain⟨e,he,hb⟩:=Array.any_eq_true'.1 hwt;simp only[Bool.and_eq_true,beq_iff_eq]at hb;refine B3j hi hz he hb.1 hb.2 (Region.noSelect_spec hs) hQ fuel listed _ w (Region.free_spec hi hf) (by simpa using hr) (Or.inl ⟨hw,hy⟩) hS ?_;rw[hd];exact h
 ·cases hwt
theorem A0y {i:Nat}{o:Oper}{fuel:Nat}{listed:Array Bool}{a:Act}{w:World}(hr:Region.ready md ops listed=[i])(ho:ops[i]?=some o)(h:∀K':Act->World->Prop,Shut (∀a w,(i≠z->S w)->((i≠z->S w)->Y1 P md ops Q S z fuel (listed.setIfInBounds i true) a w)->K' a w)->if Region.wanted o (yielded ops a.tmps)=true then Oper.wp P o a w K' Q else K' (a.put o.dst undef) w):Y1 P md ops Q S z (fuel+1) listed a w:=by
 refine⟨fun h0=>(by rw[h0]at hr;cases hr),fun j hj=>?_⟩;rw[hr]at hj;rcases List.mem_singleton.1 hj with rfl;exact wpOp_step ho (fun K' hK=>h K' (fun a w hS hW=>hK a w ⟨hS,hW hS⟩))
theorem V6 {listed:Array Bool}{a:Act}{w:World}(hr:Region.ready md ops listed=[])(h:Q .normal a w):∀fuel,Y1 P md ops Q S z fuel listed a w
 |0=>⟨hr,h⟩
 |_+1=>⟨fun _=>h,by rw[hr];simp⟩
theorem Z4 {id:Nat}{a:Act}{w:World}(z:Nat)(S:World->Prop)(hm:P.follows .mixedOrders=true)(hS:S w.drew)(h:S w.drew->Y1 P .any ops Q S z ops.size (Array.replicate ops.size false) a w.drew):(Code.region id ops true).wp P Q a w:=
 wp_region_any hm (A7V _ _ _ _ (h hS))
end
end
section
open Go.RowKit
section
variable {P:Program} {md:Region.Mode} {ops:Array Oper} {Q:Exit->Act->World->Prop} {S:World->Prop}
theorem tkY (i d:Nat){oi:Oper}{v:Value}{fuel:Nat}{listed:Array Bool}{ts:Array Value}{ds:List _}{w:World}(hi:ops[i]?=some oi)(hd:oi.dst=some d)(h:wpAnyH P md ops Q S fuel (listed.setIfInBounds i true) ⟨ts.setIfInBounds d v,ds⟩ w)(hy:∀w,S w->(execOp (Act.eval ⟨ts,ds⟩) oi).run P w=.ok (.value v) w:=by intro w' h;go_simp;try exact rfl)(hs:Region.noSelect ops=true:=by kernel_rfl) (hf:Region.free md ops listed i=true:=by kernel_rfl) (hr:(Region.ready md ops listed).contains i=true:=by kernel_rfl)(hQ:∀c a w,Q (.panic c) (a.put oi.dst v) w->Q (.panic c) a w:=by exact fun _ _ _ h=>h) (hw:Region.wanted oi (yielded ops ts)=true:=by rfl) (hS:S w:=by assumption):wpAnyH P md ops Q S (fuel+1) listed ⟨ts,ds⟩ w:=
 A6z hi hd hs hf hr hQ hw hS hy h
theorem tkX {i d:Nat}{oi:Oper}{v:Value}{fuel:Nat}{listed:Array Bool}{ts:Array Value}{ds:List _}{w:World}(hi:ops[i]?=some oi)(hd:oi.dst=some d)(hy:∀w,S w->(execOp (Act.eval ⟨ts,ds⟩) oi).run P w=.ok (.value v) w)(h:wpAnyH P md ops Q S fuel (listed.setIfInBounds i true) ⟨ts.setIfInBounds d v,ds⟩ w)(hs:Region.noSelect ops=true:=by kernel_rfl) (hf:Region.free md ops listed i=true:=by kernel_rfl) (hr:(Region.ready md ops listed).contains i=true:=by kernel_rfl)(hQ:∀c a w,Q (.panic c) (a.put oi.dst v) w->Q (.panic c) a w:=by exact fun _ _ _ h=>h) (hw:Region.wanted oi (yielded ops ts)=true:=by rfl) (hS:S w:=by assumption):wpAnyH P md ops Q S (fuel+1) listed ⟨ts,ds⟩ w:=
 A6z hi hd hs hf hr hQ hw hS hy h
theorem tkN (i d:Nat){oi:Oper}{fuel:Nat}{listed:Array Bool}{ts:Array Value}{ds:List _}{w:World}(hi:ops[i]?=some oi)(hd:oi.dst=some d)(h:wpAnyH P md ops Q S fuel (listed.setIfInBounds i true) ⟨ts.setIfInBounds d undef,ds⟩ w)(hs:Region.noSelect ops=true:=by kernel_rfl) (hf:Region.free md ops listed i=true:=by kernel_rfl) (hr:(Region.ready md ops listed).contains i=true:=by kernel_rfl)(hQ:∀c a w,Q (.panic c) (a.put oi.dst undef) w->Q (.panic c) a w:=by exact fun _ _ _ h=>h) (hw:Region.wanted oi (yielded ops ts)=false:=by rfl) (hS:S w:=by assumption):wpAnyH P md ops Q S (fuel+1) listed ⟨ts,ds⟩ w:=
 A71 hi hd hs hf hr hQ hw hS h
theorem rdH (i:Nat){o:Oper}{fuel:Nat}{listed:Array Bool}{a:Act}{w:World}(ho:ops[i]?=some o)(h:∀K':Act->World->Prop,Shut (∀a w,S w->(S w->wpAnyH P md ops Q S fuel (listed.setIfInBounds i true) a w)->K' a w)->if Region.wanted o (yielded ops a.tmps)=true then Oper.wp P o a w K' Q else K' (a.put o.dst undef) w)(hr:Region.ready md ops listed=[i]:=by kernel_rfl):wpAnyH P md ops Q S (fuel+1) listed a w:=
 wpAnyH_ready hr (by simp) (AllReadyH.cons ho h AllReadyH.nil)
theorem onE {z:Nat}(i:Nat){o:Oper}{fuel:Nat}{listed:Array Bool}{a:Act}{w:World}(ho:ops[i]?=some o)(h:∀K':Act->World->Prop,Shut (∀a w,(i≠z->S w)->((i≠z->S w)->Y1 P md ops Q S z fuel (listed.setIfInBounds i true) a w)->K' a w)->if Region.wanted o (yielded ops a.tmps)=true then Oper.wp P o a w K' Q else K' (a.put o.dst undef) w)(hr:Region.ready md ops listed=[i]:=by kernel_rfl):Y1 P md ops Q S z (fuel+1) listed a w:=
 A0y hr ho h
theorem tkO {z:Nat}{i d:Nat}{oi:Oper}{v:Value}{fuel:Nat}{listed:Array Bool}{ts:Array Value}{ds:List _}{w:World}(hi:ops[i]?=some oi)(hd:oi.dst=some d)(hy:∀w,S w->(execOp (Act.eval ⟨ts,ds⟩) oi).run P w=.ok (.value v) w)(h:Y1 P md ops Q S z fuel (listed.setIfInBounds i true) ⟨ts.setIfInBounds d v,ds⟩ w)(hs:Region.noSelect ops=true:=by kernel_rfl) (hf:Region.free md ops listed i=true:=by kernel_rfl) (hr:(Region.ready md ops listed).contains i=true:=by kernel_rfl) (hwt:A5G md ops z i=true:=by kernel_rfl)(hQ:∀c a w,Q (.panic c) (a.put oi.dst v) w->Q (.panic c) a w:=by exact fun _ _ _ h=>h) (hw:Region.wanted oi (yielded ops ts)=true:=by rfl) (hS:S w:=by assumption):Y1 P md ops Q S z (fuel+1) listed ⟨ts,ds⟩ w:=
 A99 hi hd hs hf hr hwt hQ hw hS hy h
theorem tkE {z:Nat}(i d:Nat){oi:Oper}{v:Value}{fuel:Nat}{listed:Array Bool}{ts:Array Value}{ds:List _}{w:World}(hi:ops[i]?=some oi)(hd:oi.dst=some d)(h:Y1 P md ops Q S z fuel (listed.setIfInBounds i true) ⟨ts.setIfInBounds d v,ds⟩ w)(hy:∀w,S w->(execOp (Act.eval ⟨ts,ds⟩) oi).run P w=.ok (.value v) w:=by intro w' h;go_simp;try exact rfl)(hs:Region.noSelect ops=true:=by kernel_rfl) (hf:Region.free md ops listed i=true:=by kernel_rfl) (hr:(Region.ready md ops listed).contains i=true:=by kernel_rfl) (hwt:A5G md ops z i=true:=by kernel_rfl)(hQ:∀c a w,Q (.panic c) (a.put oi.dst v) w->Q (.panic c) a w:=by exact fun _ _ _ h=>h) (hw:Region.wanted oi (yielded ops ts)=true:=by rfl) (hS:S w:=by assumption):Y1 P md ops Q S z (fuel+1) listed ⟨ts,ds⟩ w:=
 A99 hi hd hs hf hr hwt hQ hw hS hy h
end
abbrev cL8:= @cell_later
abbrev bl8:= @World.block_lt_of_cell?
abbrev cM8:= @Calls.mono
theorem mg8 {α:Type}{l:List α}{i:Nat}{a:α}(h:l[i]?=some a):a∈l:=List.mem_of_getElem? h
abbrev bA8:= @Below.heap_alloc
abbrev bS8:= @Below.heap_setCell
abbrev cO8:= @World.cell?_setCell_other
abbrev cS8:= @World.cell?_setCell_same
theorem gE1 {α:Type}{l:List α}{i:Nat}{a:α}(h:l[i]?=some a):∃h:i<l.length,l[i]=a:=List.getElem?_eq_some_iff.1 h
theorem bex {N:Nat}{w w':World}(h:Below N w w':=by repeat (first|(with_reducible exact Below.refl _ _)|(with_reducible refine Below.drew ?_)|(with_reducible refine Below.alloc ?_ ?hh _;case hh=>first|(simp;done)|(simp;omega)|omega)|(with_reducible refine Below.setCell ?_ ?hh _;case hh=>first|(simp;done)|(simp;omega)|omega)|refine U5 (by assumption) (by first|(simp;done)|(simp;omega)|omega) ?_)):Below N w w':=h
theorem C3 {N:Nat}{w w':World}(h:Below N w w':=by repeat (first|exact Below.refl _ _|refine Below.drew ?_|refine Below.alloc ?_ (by first|(simp;done)|(simp;omega)|omega) _|refine Below.setCell ?_ (by first|(simp;done)|(simp;omega)|omega) _|refine U5 (by assumption) (by first|(simp;done)|(simp;omega)|omega) ?_)):Below N w w':=h
theorem cl8 {w wx:World}{a:Addr}{v:Value}(hb:Below w.heap.size w wx)(h:w.cell? a=some v:=by go_simp):wx.cell? a=some v:=cell_later hb h
theorem ba8 {w:World}{o:Obj}{k:Nat}(h:k<w.heap.size:=by omega):(w.alloc o).heap[k]?=w.heap[k]?:=Below.heap_alloc w o k h
theorem bt8 {w wx:World}{b o:Nat}{v:Value}(hb:Below w.heap.size w wx)(c:w.cell? ⟨b,o,none⟩=some v)(h:b<w.heap.size:=by omega):wx.cell? ⟨b,o,none⟩=some v:=((bc8 hb).1 b o h).trans c
theorem lr8 {n:Nat}:n<=n:=Nat.le_refl n
theorem bs8 {N:Nat}{w w':World}(h:Below N w w':=by repeat (first|(with_reducible assumption)|(with_reducible refine Below.setCell ?_ ?hh _;case hh=>(simp;try omega)))):Below N w w':=h
theorem kp8 {p:Prop}(h:p:=by first|(with_reducible assumption)|(go_simp;done)|(exact cell_later (by assumption) (by go_simp))):p:=h
end
section
open Go.RowKit
def I0 (x y:Int):Int:=if x<y then -1 else if y<x then 1 else 0
def V8 (s t:ByteArray):Int:=if Op.bytesLess s.toList t.toList=true then -1 else if s.toList=t.toList then 0 else 1
def orI (x y z:Int):Int:=if x=0 then(if y=0 then z else y)else x
def I5 (k n:Int)(s:ByteArray)(k' n':Int)(s':ByteArray):Int:=orI (I0 k k') (I0 n n') (V8 s s')
theorem A2b (x y:Int)(w:World):Calls Tryz.prog 144 #[.int .i64 x,.int .i64 y] w fun e w'=>e=.returned (.int .i64 (I0 x y))/\w'=w:=by
 rcases Int.lt_trichotomy x y with h|h|h
 ·go_enter Tryz.func144,Tryz.ntmps144;go_wp2;go_returns;exact⟨by simp[I0,h],rfl⟩
 ·subst h;go_enter Tryz.func144,Tryz.ntmps144;go_wp2;go_returns;exact⟨by simp[I0],rfl⟩
 ·have h':¬x<y:=by omega
  go_enter Tryz.func144,Tryz.ntmps144;go_wp2;go_returns;exact⟨by simp[I0,h,h'],rfl⟩
theorem B1B (x y:ByteArray)(w:World):Calls Tryz.prog 171 #[.string x,.string y] w fun e w'=>e=.returned (.int .i64 (V8 x y))/\w'=w:=by
 go_enter Tryz.func171,Tryz.ntmps171;go_wp2;all_goals go_returns
 all_goals(refine⟨Z8 ?_,rfl⟩;simp_all [V8])
theorem A9r (b:Nat)(x y z:Int)(w:World)(h0:w.cell? ⟨b,0,none⟩=some (.int .i64 x))(h1:w.cell? ⟨b,1,none⟩=some (.int .i64 y))(h2:w.cell? ⟨b,2,none⟩=some (.int .i64 z)):Calls Tryz.prog 170 #[.slice (some ⟨b,0,none⟩) 3 3] w fun e w'=>e=.returned (.int .i64 (orI x y z))/\w'=w:=by
 go_enter Tryz.func170,Tryz.ntmps170;go_wp2
 go_rounds 4
 all_goals go_returns
 all_goals(refine⟨Z8 ?_,rfl⟩;clear h0 h1 h2;simp_all [orI])
theorem B7t (k n k' n':Int)(s s':ByteArray)(h:k<k'):I5 k n s k' n' s'= -1:=by simp[I5,I0,orI,h]
theorem B44 (k n k' n':Int)(s s':ByteArray)(h:k'<k):I5 k n s k' n' s'=1:=by simp[I5,I0,orI,h,show ¬k<k' from by omega]
theorem C1y (k n k' n':Int)(s s':ByteArray)(h0:k'<=k)(h1:k<=k')(h:n<n'):I5 k n s k' n' s'= -1:=by simp[I5,I0,orI,h,show ¬k<k' from by omega,show ¬k'<k from by omega]
theorem C02 (k n k' n':Int)(s s':ByteArray)(h0:k'<=k)(h1:k<=k')(h:n'<n):I5 k n s k' n' s'=1:=by simp[I5,I0,orI,h,show ¬k<k' from by omega,show ¬k'<k from by omega,show ¬n<n' from by omega]
theorem B7H (k n k' n':Int)(s s':ByteArray)(h0:k'<=k)(h1:k<=k')(h2:n'<=n)(h3:n<=n'):I5 k n s k' n' s'=V8 s s':=by simp[I5,I0,orI,show ¬k<k' from by omega,show ¬k'<k from by omega,show ¬n<n' from by omega,show ¬n'<n from by omega]
theorem A5j (k n k' n':Int)(s s':ByteArray)(w:World):Calls Tryz.prog 97 #[(.agg #[.int .i64 k,.int .i64 n,.string s]),(.agg #[.int .i64 k',.int .i64 n',.string s'])] w fun e w'=>e=.returned (.int .i64 (I5 k n s k' n' s'))/\Below w.heap.size w w':=by
 go_enter Tryz.func97,Tryz.ntmps97;go_wp2;all_goals(go_returns;refine⟨Z8 ?_,?_⟩)
 all_goals first|(go_grown;done)|(rw[B7t _ _ _ _ _ _ (by assumption)];done)|(rw[B44 _ _ _ _ _ _ (by assumption)];done)|(rw[C1y _ _ _ _ _ _ (by assumption) (by assumption) (by assumption)];done)|(rw[C02 _ _ _ _ _ _ (by assumption) (by assumption) (by assumption)];done)|(rw[B7H _ _ _ _ _ _ (by assumption) (by assumption) (by assumption) (by assumption)];simp_all [V8];done)
theorem A7d (k n k' n':Int)(s s':ByteArray)(w:World):Calls Tryz.prog 143 #[(.agg #[.int .i64 k,.int .i64 n,.string s]),(.agg #[.int .i64 k',.int .i64 n',.string s'])] w fun e w'=>e=.returned (.int .i64 (I5 k n s k' n' s'))/\Below w.heap.size w w':=by
 go_enter Tryz.func143,Tryz.ntmps143;go_wp2_with fail;go_region_held3 (fun w'=>w'.cell? ⟨w.heap.size,0,none⟩=some (.int .i64 k)/\w'.cell? ⟨w.heap.size,1,none⟩=some (.int .i64 n)/\w'.cell? ⟨w.heap.size,2,none⟩=some (.string s)/\w'.cell? ⟨w.heap.size+1,0,none⟩=some (.int .i64 k')/\w'.cell? ⟨w.heap.size+1,1,none⟩=some (.int .i64 n')/\w'.cell? ⟨w.heap.size+1,2,none⟩=some (.string s')) (go_keep) (first|(go_at_call 144;refine(A2b _ _ _).mono ?_;rintro e w' ⟨rfl,rfl⟩)|(go_at_call 171;refine(B1B _ _ _).mono ?_;rintro e w' ⟨rfl,rfl⟩)|(go_at_call 170;refine cM8 (A9r _ (I0 k k') (I0 n n') (V8 s s') _ ?h0 ?h1 ?h2) ?hk;(case h0=>go_simp);(case h1=>go_simp);(case h2=>go_simp);rintro e w' ⟨rfl,rfl⟩));all_goals go_wp2
 all_goals(go_returns;refine⟨Z8 ?_,?_⟩)
 all_goals first|(go_grown;done)|rfl
end
section
open Go.RowKit Go.Deep Go.ChangeShapes Go.WideShapes
structure V3 where
 k:Int
 n:Int
 s:ByteArray
def V3.wf (x:V3):Prop:=(Lit.int .i64 x.k).wf=true/\(Lit.int .i64 x.n).wf=true/\x.s.size<=maxLen
def j2 (vs:List V3):Prop:=∀y∈vs,y.wf
def A0h (w:World)(b o:Nat)(vs:List V3):Prop:=
 ∀i x,vs[i]?=some x->w.cell? ⟨b,o+i*3,none⟩=some (.int .i64 x.k)/\w.cell? ⟨b,o+i*3+1,none⟩=some (.int .i64 x.n)/\w.cell? ⟨b,o+i*3+2,none⟩=some (.string x.s)
def E3 (w:World)(v:Value)(vs:List V3):Prop:=
 ∃a c,v=.slice a vs.length c/\vs.length<=c/\c<=maxLen/\(vs≠ []->∃b o,a=some ⟨b,o,none⟩/\b<w.heap.size/\A0h w b o vs)
theorem A0h.below {w w':World}{b o:Nat}{vs:List V3}{N:Nat}(h:A0h w b o vs)(hb:Below N w w')(hN:b<N):A0h w' b o vs:=fun i x hx=>by
 obtain⟨h0,h1,h2⟩:=h i x hx;exact⟨(hb.cell (p:=⟨b,o+i*3,none⟩) hN).trans h0,(hb.cell (p:=⟨b,o+i*3+1,none⟩) hN).trans h1,(hb.cell (p:=⟨b,o+i*3+2,none⟩) hN).trans h2⟩
theorem E3.below {w w':World}{v:Value}{vs:List V3}(h:E3 w v vs)(hb:Below w.heap.size w w'):E3 w' v vs:=by
 obtain⟨a,c,rfl,hl,hc,h⟩:=h;refine⟨a,c,rfl,hl,hc,fun hne=>?_⟩;obtain⟨b,o,rfl,hlt,hL⟩:=h hne;exact⟨b,o,rfl,Nat.lt_of_lt_of_le hlt hb.size,hL.below hb hlt⟩
theorem E3.pick {w:World}{v:Value}{vs:List V3}(h:E3 w v vs):∃a c b o,v=.slice a vs.length c/\vs.length<=c/\c<=maxLen/\∀k,k<vs.length->a=some ⟨b,o,none⟩/\b<w.heap.size/\A0h w b o vs:=by
 obtain⟨a,c,rfl,hl,hc,h⟩:=h;by_cases hne:vs=[]
 ·exact⟨a,c,0,0,rfl,hl,hc,fun k hk=>by rw[hne]at hk;simp at hk⟩
 ·obtain⟨b,o,h⟩:=h hne;exact⟨a,c,b,o,rfl,hl,hc,fun _ _=>h⟩
theorem A0h.at {w w':World}{b o:Nat}{vs:List V3}(h:A0h w b o vs)(hlt:b<w.heap.size)(hb:Below w.heap.size w w'){k:Nat}(hk:k<vs.length):∃x,vs[k]?=some x/\w'.cell? ⟨b,o+k*3,none⟩=some (.int .i64 x.k)/\w'.cell? ⟨b,o+k*3+1,none⟩=some (.int .i64 x.n)/\w'.cell? ⟨b,o+k*3+2,none⟩=some (.string x.s)/\b<w'.heap.size:=
 ⟨vs[k],by simp[hk],by have:=h.below hb hlt k vs[k] (by simp[hk]);exact⟨this.1,this.2.1,this.2.2,Nat.lt_of_lt_of_le hlt hb.size⟩⟩
def cf (vs:List V3)(i:Nat):Value:=if i %3=0 then .int .i64 (vs.getD (i/3) ⟨0,0,⟨#[]⟩⟩).k else if i %3=1 then .int .i64 (vs.getD (i/3) ⟨0,0,⟨#[]⟩⟩).n else .string (vs.getD (i/3) ⟨0,0,⟨#[]⟩⟩).s
theorem A2j {vs:List V3}{k:Nat}{x:V3}(h:vs[k]?=some x):cf vs (k*3)=.int .i64 x.k/\cf vs (k*3+1)=.int .i64 x.n/\cf vs (k*3+2)=.string x.s:=by
 have e0:k*3/3=k:=by omega
 have e1:(k*3+1)/3=k:=by omega
 have e2:(k*3+2)/3=k:=by omega
 have m0:k*3 %3=0:=by omega
 have m1:(k*3+1) %3=1:=by omega
 have m2:(k*3+2) %3=2:=by omega
 refine⟨?_,?_,?_⟩<;>simp[cf,e0,e1,e2,m0,m1,m2,List.getD,h]
def A0E (w:World)(B:Nat)(t:TypeId)(vs:List V3)(k:Nat):Prop:=∃f,w.rowIs B t (vs.length*3) f/\∀i,i<k*3->f i=cf vs i
theorem A0E.done {w:World}{B:Nat}{t:TypeId}{vs:List V3}(h:A0E w B t vs vs.length):w.rowIs B t (vs.length*3) (cf vs):=by
 obtain⟨f,h,e⟩:=h;exact h.congr e
theorem A0E.step {w:World}{B:Nat}{t:TypeId}{vs:List V3}{k:Nat}{x:V3}(h:A0E w B t vs k)(hx:vs[k]?=some x):A0E (((w.setCell ⟨B,k*3,none⟩ (.int .i64 x.k)).setCell ⟨B,k*3+1,none⟩ (.int .i64 x.n)).setCell ⟨B,k*3+2,none⟩ (.string x.s)) B t vs (k+1):=by
 obtain⟨f,h,e⟩:=h;obtain⟨h0,h1,h2⟩:=A2j hx;refine⟨_,((h.set _ _).set _ _).set _ _,fun i hi=>?_⟩;by_cases e2:i=k*3+2
 ·simp[e2,h2]
 by_cases e1:i=k*3+1
 ·simp[e1,h1]
 by_cases e0:i=k*3
 ·simp[e0,h0]
 ·simp only[if_neg e0,if_neg e1,if_neg e2];exact e i (by omega)
theorem A0E.of_block {w w':World}{B:Nat}{t:TypeId}{vs:List V3}{k:Nat}(h:A0E w B t vs k)(e:w'.heap[B]?=w.heap[B]?):A0E w' B t vs k:=by
 obtain⟨f,h,g⟩:=h;exact⟨f,h.of_block e,g⟩
theorem A0E.cells {w:World}{B:Nat}{t:TypeId}{vs:List V3}{k:Nat}(h:A0E w B t vs k)(hk:k<vs.length):(∃u,w.cell? ⟨B,k*3,none⟩=some u)/\(∃u,w.cell? ⟨B,k*3+1,none⟩=some u)/\(∃u,w.cell? ⟨B,k*3+2,none⟩=some u)/\(∀i,w.frozen? ⟨B,i,none⟩=false)/\B<w.heap.size:=by
 obtain⟨f,h,g⟩:=h;exact⟨⟨_,h.cell (by omega)⟩,⟨_,h.cell (by omega)⟩,⟨_,h.cell (by omega)⟩,fun i=>h.frozen i,h.lt⟩
theorem B3c (w:World)(z:Array Value)(t:TypeId)(vs:List V3):A0E (w.alloc (.cells (madeCells z (vs.length*3)) t)) w.heap.size t vs 0:=
 ⟨fun i=>(madeCells z (vs.length*3))[i]?.getD undef,⟨_,blk_alloc_new _ _,size_madeCells _ _,fun i hi=>by
  have:i<(madeCells z (vs.length*3)).size:=by rw[size_madeCells];exact hi
  simp[this]⟩,fun i hi=>by omega⟩
theorem B2q {w:World}{B:Nat}{t:TypeId}{vs:List V3}{c:Nat}(h:w.rowIs B t (c*3) (cf vs))(hc:vs.length<=c)(hm:c<=maxLen):E3 w (.slice (some ⟨B,0,none⟩) vs.length c) vs:=
 ⟨_,c,rfl,hc,hm,fun _=>⟨B,0,rfl,h.lt,fun i x hx=>by
  obtain⟨h0,h1,h2⟩:=A2j hx;have hi:i<vs.length:=(gE1 hx).1;refine⟨?_,?_,?_⟩
  ·rw[Nat.zero_add,h.cell (by omega),h0]
  ·rw[Nat.zero_add,h.cell (by omega),h1]
  ·rw[Nat.zero_add,h.cell (by omega),h2]⟩⟩
theorem A31 {P:Program}(t e:TypeId)(z:Value)(size bytes:Nat)(ht:P.underlying t=some (.slice e))(hinfo:(P.info? e).map (fun i=>(i.zero,i.size,i.bytes))=some (some z,size,bytes))(n:Nat) (hbytes:bytes*n<=281474976710656) (h63:n<=9223372036854775807) (w:World):(Instr.makeSlice t (.int .i64 (n:Int)) (.int .i64 (n:Int))).run P w=.ok (.slice (some ⟨w.heap.size,0,none⟩) n n) (w.alloc (.cells (madeCells z.cells (n*size)) e)):=by
 obtain⟨i,hi,hzz⟩:=Option.map_eq_some_iff.1 hinfo;simp only[Prod.mk.injEq]at hzz;obtain⟨hz,hs,hb⟩:=hzz;have hb':(i.bytes:Int)* (n:Int)<=281474976710656:=by
  have h:((i.bytes*n:Nat):Int)<=281474976710656:=by rw[hb];omega
  rwa [Int.natCast_mul]at h
 have hr:=run_make (P:=P) w t e i z ht hi hz .i64 .i64 n n (by omega) (Int.le_refl _) hb' (by omega);rw[hs]at hr
 simpa using hr
def wts (vs:List V3):Nat:=(vs.map fun x=>x.s.size).sum
def wt (vs:List V3):Nat:=vs.length+wts vs
theorem C18 {vs:List V3}{k:Nat}{x:V3}(h:vs[k]?=some x):wts (vs.take (k+1))=wts (vs.take k)+x.s.size:=by
 unfold wts;obtain⟨hk,rfl⟩:=gE1 h;rw[List.take_succ_eq_append_getElem hk,List.map_append,List.sum_append];simp only[List.map_cons,List.map_nil,List.sum_cons,List.sum_nil,Nat.add_zero]
structure C2 where
 r:List V3
 n:Int
def C2.wf (x:C2):Prop:=j2 x.r/\(Lit.int .i64 x.n).wf=true
def X7 (cs:List C2):Prop:=∀y∈cs,y.wf
def A2M (w:World)(b o:Nat)(cs:List C2):Prop:=
 ∀i x,cs[i]?=some x->∃v,w.cell? ⟨b,o+i*2,none⟩=some v/\E3 w v x.r/\w.cell? ⟨b,o+i*2+1,none⟩=some (.int .i64 x.n)
def J7 (w:World)(v:Value)(cs:List C2):Prop:=
 ∃a c,v=.slice a cs.length c/\cs.length<=c/\c<=maxLen/\(cs≠ []->∃b o,a=some ⟨b,o,none⟩/\b<w.heap.size/\A2M w b o cs)
theorem A2M.below {w w':World}{b o:Nat}{cs:List C2}(h:A2M w b o cs)(hb:Below w.heap.size w w')(hN:b<w.heap.size):A2M w' b o cs:=fun i x hx=>by
 obtain⟨v,h0,h1,h2⟩:=h i x hx;exact⟨v,(hb.cell (p:=⟨b,o+i*2,none⟩) hN).trans h0,h1.below hb,(hb.cell (p:=⟨b,o+i*2+1,none⟩) hN).trans h2⟩
theorem J7.below {w w':World}{v:Value}{cs:List C2}(h:J7 w v cs)(hb:Below w.heap.size w w'):J7 w' v cs:=by
 obtain⟨a,c,rfl,hl,hc,h⟩:=h;refine⟨a,c,rfl,hl,hc,fun hne=>?_⟩;obtain⟨b,o,rfl,hlt,hL⟩:=h hne;exact⟨b,o,rfl,Nat.lt_of_lt_of_le hlt hb.size,hL.below hb hlt⟩
section
variable {H:Type} {enc:TypeId×Value->H} {P:Program} {w:World} {spare:Nat->Bool} {held:Bool}
theorem B3Z {t e:TypeId}{F0 F1 F2:Field}{fuel:Nat}{v:Value}{x:DataW H×List MemPlace}(ht:P.underlying t=some (.slice e))(he:P.underlying e=some (.struct #[F0,F1,F2]))(ce:P.cellsOf e=3) (o0:F0.offset=0) (o1:F1.offset=1) (o2:F2.offset=2) (c0:P.cellsOf F0.type=1) (c1:P.cellsOf F1.type=1) (c2:P.cellsOf F2.type=1)(u0:P.underlying F0.type=some (.int .i64)) (u1:P.underlying F1.type=some (.int .i64)) (u2:P.underlying F2.type=some .string)(h:DataW.trod enc P w 0 spare held fuel t [v]=some x):∃vs,E3 w v vs/\j2 vs:=by
 rcases open_slice ht h with⟨h0,_⟩|⟨a,len,cap,m,n,D,Pl,hcs,hb,hl,hm,hmm,rfl,hx⟩
 ·simp at h0;subst h0;exact⟨[],⟨none,0,rfl,by simp,by simp,fun h=>absurd rfl h⟩,by simp[j2]⟩
 simp at hcs;subst hcs;have hlm:len<=m:=by rw[hmm];split<;>omega
 have i2:∀i,i<len->∃q:V3,w.cell? (a.add (i*3))=some (.int .i64 q.k)/\w.cell? (a.add (i*3+1))=some (.int .i64 q.n)/\w.cell? (a.add (i*3+2))=some (.string q.s)/\q.wf:=by
  intro i hi;obtain⟨cs',h1,h2⟩:=hx i (by omega);rw[ce]at h1;obtain⟨_,D3,C5⟩:=World.cells?_some h1;obtain⟨xs,k,hk,hxy,_,hxl,hf⟩:=DataW.trod_struct he h2
  match xs,hxl,cs',D3 with
  | [y0,y1,y2],_,[v0,v1,v2],_=>
   have g0:=hf 0 F0 rfl;have g1:=hf 1 F1 rfl;have g2:=hf 2 F2 rfl;simp[o0,o1,o2,c0,c1,c2]at g0 g1 g2;have e0:=C5 0 (by omega);have e1:=C5 1 (by omega);have e2:=C5 2 (by omega);rw[add_add]at e0 e1 e2;obtain⟨z0,q0,_,w0⟩:=DataW.trod_int u0 g0;obtain⟨z1,q1,_,w1⟩:=DataW.trod_int u1 g1;obtain⟨z2,q2,_,ws⟩:=DataW.trod_string u2 g2;simp at q0 q1 q2;subst q0 q1 q2;exact⟨⟨z0,z1,z2⟩,by simpa using e0,by simpa using e1,by simpa using e2,w0,w1,ws⟩
 have:Inhabited V3:=⟨⟨0,0,⟨#[]⟩⟩⟩;obtain⟨q,hq⟩:=choose_lt i2;refine⟨(List.range len).map q,⟨some a,cap,by simp,by simpa using hl,hm,fun hne=>?_⟩,?_⟩
 ·have P3:0<len:=by
   rcases Nat.eq_zero_or_pos len with h0|h0
   ·subst h0;simp at hne
   ·exact h0
  have hs:a.spot=none:=by have:=World.cell?_spot (hq 0 P3).1;simpa [Addr.add]using this
  obtain⟨b,o,sp⟩:=a;simp at hs;subst hs;refine⟨b,o,rfl,?_,fun i x hx=>?_⟩
  ·have:=bl8 _ _ (hq 0 P3).1
   simpa [Addr.add]using this
  ·have hi:i<len:=by
    have:=gE1 hx;obtain⟨h1,_⟩:=this
    simpa using h1
   have ex:x=q i:=by simp[hi]at hx;exact hx.symm
   subst ex;obtain⟨h0,h1,h2,_⟩:=hq i hi;rw[add_plain]at h0 h1 h2;exact⟨h0,by simpa [Nat.add_assoc]using h1,by simpa [Nat.add_assoc]using h2⟩
 ·intro y hy;obtain⟨i,hi,rfl⟩:=List.mem_map.1 hy;exact(hq i (List.mem_range.1 hi)).2.2.2
theorem C0f {t e e1:TypeId}{G0 G1 F0 F1 F2:Field}{fuel:Nat}{v:Value}{x:DataW H×List MemPlace}(ht:P.underlying t=some (.slice e))(he:P.underlying e=some (.struct #[G0,G1]))(cg:P.cellsOf e=2) (p0:G0.offset=0) (p1:G1.offset=1) (g0:P.cellsOf G0.type=1) (g1:P.cellsOf G1.type=1) (ut:P.underlying G0.type=some (.slice e1)) (un:P.underlying G1.type=some (.int .i64))(he1:P.underlying e1=some (.struct #[F0,F1,F2]))(ce:P.cellsOf e1=3) (o0:F0.offset=0) (o1:F1.offset=1) (o2:F2.offset=2) (c0:P.cellsOf F0.type=1) (c1:P.cellsOf F1.type=1) (c2:P.cellsOf F2.type=1)(u0:P.underlying F0.type=some (.int .i64)) (u1:P.underlying F1.type=some (.int .i64)) (u2:P.underlying F2.type=some .string)(h:DataW.trod enc P w 0 spare held fuel t [v]=some x):∃cs,J7 w v cs/\X7 cs:=by
 rcases open_slice_pairs ht he cg p0 p1 g0 g1 h with⟨h0,_⟩|⟨a,len,cap,m,n,V0,V1,D0,D1,P0,P1,hcs,hb,hl,hm,hmm,rfl,hx⟩
 ·simp at h0;subst h0;exact⟨[],⟨none,0,rfl,by simp,by simp,fun h=>absurd rfl h⟩,by simp[X7]⟩
 simp at hcs;subst hcs;have hlm:len<=m:=by rw[hmm];split<;>omega
 have i2:∀i,i<len->∃q:Value×C2,w.cell? (a.add (i*2))=some q.1/\E3 w q.1 q.2.r/\w.cell? (a.add (i*2+1))=some (.int .i64 q.2.n)/\q.2.wf:=by
  intro i hi;obtain⟨h0,h1,h2,h3⟩:=hx i (by omega);obtain⟨vs,hv,hw⟩:=B3Z ut he1 ce o0 o1 o2 c0 c1 c2 u0 u1 u2 h2;obtain⟨z1,q1,_,w1⟩:=DataW.trod_int un h3;simp at q1;rw[q1]at h1;exact⟨(V0 i,⟨vs,z1⟩),h0,hv,h1,hw,w1⟩
 have:Inhabited (Value×C2):=⟨⟨.nilFunc,⟨[],0⟩⟩⟩;obtain⟨q,hq⟩:=choose_lt i2;refine⟨(List.range len).map fun i=>(q i).2,⟨some a,cap,by simp,by simpa using hl,hm,fun hne=>?_⟩,?_⟩
 ·have P3:0<len:=by
   rcases Nat.eq_zero_or_pos len with h0|h0
   ·subst h0;simp at hne
   ·exact h0
  have hs:a.spot=none:=by have:=World.cell?_spot (hq 0 P3).1;simpa [Addr.add]using this
  obtain⟨b,o,sp⟩:=a;simp at hs;subst hs;refine⟨b,o,rfl,?_,fun i x hx=>?_⟩
  ·have:=bl8 _ _ (hq 0 P3).1
   simpa [Addr.add]using this
  ·have hi:i<len:=by
    have:=gE1 hx;obtain⟨h1,_⟩:=this
    simpa using h1
   have ex:x=(q i).2:=by simp[hi]at hx;exact hx.symm
   subst ex;obtain⟨h0,h1,h2,_⟩:=hq i hi;rw[add_plain]at h0 h2;exact⟨_,h0,h1,by simpa [Nat.add_assoc]using h2⟩
 ·intro y hy;obtain⟨i,hi,rfl⟩:=List.mem_map.1 hy;exact(hq i (List.mem_range.1 hi)).2.2.2
end
end
section
open Go.RowKit
def M2 (x y:V3):Int:=I5 x.k x.n x.s y.k y.n y.s
def cR8:List V3->List V3->Int
 | [],[]=>0
 | [],_::_=> -1
 |_::_,[]=>1
 |x::xs,y::ys=>if M2 x y=0 then cR8 xs ys else M2 x y
theorem A6x {vs us:List V3}{k:Nat}{x y:V3}(hx:vs[k]?=some x)(hy:us[k]?=some y):cR8 (vs.drop k) (us.drop k)=if M2 x y=0 then cR8 (vs.drop (k+1)) (us.drop (k+1))else M2 x y:=by
 obtain⟨h1,rfl⟩:=gE1 hx;obtain⟨h2,rfl⟩:=gE1 hy;rw[List.drop_eq_getElem_cons h1,List.drop_eq_getElem_cons h2];rfl
theorem A2f {vs us:List V3}{k:Nat}(hk:k<=vs.length)(hk':k<=us.length)(h:¬ (k<vs.length/\k<us.length)):cR8 (vs.drop k) (us.drop k)=I0 vs.length us.length:=by
 by_cases h1:k<vs.length
 ·have h2:us.drop k=[]:=by simp;omega
  rw[h2,List.drop_eq_getElem_cons h1];simp only[cR8,I0];rw[if_neg (by omega),if_pos (by omega)]
 ·have h2:vs.drop k=[]:=by simp;omega
  rw[h2];by_cases h3:k<us.length
  ·rw[List.drop_eq_getElem_cons h3];simp only[cR8,I0];rw[if_pos (by omega)]
  ·have h4:us.drop k=[]:=by simp;omega
   rw[h4];simp only[cR8,I0];rw[if_neg (by omega),if_neg (by omega)]
theorem A0w (v u:Value)(vs us:List V3)(w:World)(hr:E3 w v vs)(hu:E3 w u us):Calls Tryz.prog 73 #[v,u] w fun e w'=>e=.returned (.int .i64 (cR8 vs us))/\Below w.heap.size w w':=by
 obtain⟨a,c,b,o,rfl,hl,hc,ha⟩:=hr.pick;obtain⟨a',c',b',o',rfl,hl',hc',ha'⟩:=hu.pick;unfold maxLen at hc hc';clear hr hu;go_enter Tryz.func73,Tryz.ntmps73;go_wp2;go_loopw [5] (fun i wr=> ∃k:Nat,k<=vs.length/\k<=us.length/\i=.int .i64 k/\Below w.heap.size w wr/\cR8 vs us=cR8 (vs.drop k) (us.drop k)) (fun i _=>vs.length - (intOf i).toNat)
 case atStart=>exact⟨0,Nat.zero_le _,Nat.zero_le _,rfl,by go_grown,by simp⟩
 case round=>
  obtain⟨k,hk,hk',rfl,hb,heq⟩:=hrel;have HE:Hid (cR8 vs us=cR8 (vs.drop k) (us.drop k)):=heq;clear heq;by_cases hlt:k<vs.length
  ·by_cases U8:k<us.length
   ·have hzb:=hb.size;obtain⟨rfl,hblt,hL⟩:=ha k hlt;obtain⟨rfl,hblt',hL'⟩:=ha' k U8;obtain⟨x,hx,c0,c1,c2,hbr⟩:=hL.at hblt hb hlt;obtain⟨y,hy,c0',c1',c2',A0k⟩:=hL'.at hblt' hb U8;have HS:Hid (cR8 (vs.drop k) (us.drop k)=if M2 x y=0 then cR8 (vs.drop (k+1)) (us.drop (k+1))else M2 x y):=A6x hx hy;clear ha ha' hL hL' hx hy;go_wp2_with fail;go_region_held3 (fun w'=>w'.cell? ⟨b,o+k*3,none⟩=some (.int .i64 x.k)/\w'.cell? ⟨b,o+k*3+1,none⟩=some (.int .i64 x.n)/\w'.cell? ⟨b,o+k*3+2,none⟩=some (.string x.s)/\w'.cell? ⟨b',o'+k*3,none⟩=some (.int .i64 y.k)/\w'.cell? ⟨b',o'+k*3+1,none⟩=some (.int .i64 y.n)/\w'.cell? ⟨b',o'+k*3+2,none⟩=some (.string y.s)) (refine⟨?_,?_,?_,?_,?_,?_⟩<;>first|(go_simp;done)|(exact cL8 (by assumption) (by go_simp))) (first|(go_at_call 97;refine(A5j _ _ _ _ _ _ _).mono ?_;rintro e w1 ⟨rfl,hb1⟩));by_cases hz:I5 x.k x.n x.s y.k y.n y.s=0
    ·go_wp2
     go_roundw
     case rel=>
      refine⟨k+1,hlt,U8,by simp,C3,?_⟩;rw[HE.out,HS.out,if_pos (show M2 x y=0 from hz)]
     case measure=>simp[intOf];omega
    ·go_wp2;go_returns;refine⟨Z8 ?_,C3⟩;rw[HE.out,HS.out,if_neg (show ¬M2 x y=0 from hz)];rfl
   ·have HN:Hid (cR8 (vs.drop k) (us.drop k)=I0 vs.length us.length):=A2f hk hk' (by omega);clear ha ha';go_wp2;all_goals(go_returns;refine⟨Z8 ?_,by first|exact hb|exact C3⟩)
    all_goals(rw[HE.out,HN.out];try rfl)
    all_goals(unfold I0;first|(rw[if_pos (by omega)];done)|(rw[if_neg (by omega),if_pos (by omega)];done)|(rw[if_neg (by omega),if_neg (by omega)];done))
  ·have HN:Hid (cR8 (vs.drop k) (us.drop k)=I0 vs.length us.length):=A2f hk hk' (by omega);clear ha ha';go_wp2;all_goals(go_returns;refine⟨Z8 ?_,by first|exact hb|exact C3⟩)
   all_goals(rw[HE.out,HN.out];try rfl)
   all_goals(unfold I0;first|(rw[if_pos (by omega)];done)|(rw[if_neg (by omega),if_pos (by omega)];done)|(rw[if_neg (by omega),if_neg (by omega)];done))
theorem C1F (v u:Value)(vs us:List V3)(w:World)(hr:E3 w v vs)(hu:E3 w u us):Calls Tryz.prog 115 #[v,u] w fun e w'=>e=.returned (.int .i64 (cR8 vs us))/\Below w.heap.size w w':=by
 obtain⟨a,c,b,o,rfl,hl,hc,ha⟩:=hr.pick;obtain⟨a',c',b',o',rfl,hl',hc',ha'⟩:=hu.pick;unfold maxLen at hc hc';clear hr hu;go_enter Tryz.func115,Tryz.ntmps115;go_wp2;go_loopw [5] (fun i wr=> ∃k:Nat,k<=vs.length/\k<=us.length/\i=.int .i64 k/\Below w.heap.size w wr/\cR8 vs us=cR8 (vs.drop k) (us.drop k)) (fun i _=>vs.length - (intOf i).toNat)
 case atStart=>exact⟨0,Nat.zero_le _,Nat.zero_le _,rfl,by go_grown,by simp⟩
 case round=>
  obtain⟨k,hk,hk',rfl,hb,heq⟩:=hrel;have HE:Hid (cR8 vs us=cR8 (vs.drop k) (us.drop k)):=heq;clear heq;by_cases hlt:k<vs.length
  ·by_cases U8:k<us.length
   ·have hzb:=hb.size;obtain⟨rfl,hblt,hL⟩:=ha k hlt;obtain⟨rfl,hblt',hL'⟩:=ha' k U8;obtain⟨x,hx,c0,c1,c2,hbr⟩:=hL.at hblt hb hlt;obtain⟨y,hy,c0',c1',c2',A0k⟩:=hL'.at hblt' hb U8;have HS:Hid (cR8 (vs.drop k) (us.drop k)=if M2 x y=0 then cR8 (vs.drop (k+1)) (us.drop (k+1))else M2 x y):=A6x hx hy;clear ha ha' hL hL' hx hy;go_wp2_with fail;go_region_held3 (fun w'=>w'.cell? ⟨b,o+k*3,none⟩=some (.int .i64 x.k)/\w'.cell? ⟨b,o+k*3+1,none⟩=some (.int .i64 x.n)/\w'.cell? ⟨b,o+k*3+2,none⟩=some (.string x.s)/\w'.cell? ⟨b',o'+k*3,none⟩=some (.int .i64 y.k)/\w'.cell? ⟨b',o'+k*3+1,none⟩=some (.int .i64 y.n)/\w'.cell? ⟨b',o'+k*3+2,none⟩=some (.string y.s)) (refine⟨?_,?_,?_,?_,?_,?_⟩<;>first|(go_simp;done)|(exact cL8 (by assumption) (by go_simp))) (first|(go_at_call 143;refine(A7d _ _ _ _ _ _ _).mono ?_;rintro e w1 ⟨rfl,hb1⟩));by_cases hz:I5 x.k x.n x.s y.k y.n y.s=0
    ·go_wp2
     go_roundw
     case rel=>
      refine⟨k+1,hlt,U8,by simp,C3,?_⟩;rw[HE.out,HS.out,if_pos (show M2 x y=0 from hz)]
     case measure=>simp[intOf];omega
    ·go_wp2;go_returns;refine⟨Z8 ?_,C3⟩;rw[HE.out,HS.out,if_neg (show ¬M2 x y=0 from hz)];rfl
   ·have HN:Hid (cR8 (vs.drop k) (us.drop k)=I0 vs.length us.length):=A2f hk hk' (by omega);clear ha ha';go_wp2_with(go_at_call 144;refine(A2b _ _ _).mono ?_;rintro e w1 ⟨rfl,rfl⟩);all_goals(go_returns;refine⟨Z8 ?_,by first|exact hb|exact C3⟩)
    all_goals(rw[HE.out,HN.out];try rfl)
    all_goals(unfold I0;first|(rw[if_pos (by omega)];done)|(rw[if_neg (by omega),if_pos (by omega)];done)|(rw[if_neg (by omega),if_neg (by omega)];done))
  ·have HN:Hid (cR8 (vs.drop k) (us.drop k)=I0 vs.length us.length):=A2f hk hk' (by omega);clear ha ha';go_wp2_with(go_at_call 144;refine(A2b _ _ _).mono ?_;rintro e w1 ⟨rfl,rfl⟩);all_goals(go_returns;refine⟨Z8 ?_,by first|exact hb|exact C3⟩)
   all_goals(rw[HE.out,HN.out];try rfl)
   all_goals(unfold I0;first|(rw[if_pos (by omega)];done)|(rw[if_neg (by omega),if_pos (by omega)];done)|(rw[if_neg (by omega),if_neg (by omega)];done))
end
section
open Go.RowKit Go.Deep
theorem cb8 {w w':World}{b o:Nat}(h:w'.heap[b]?=w.heap[b]?):w'.cell? ⟨b,o,none⟩=w.cell? ⟨b,o,none⟩:=by
 simp only[World.cell?,h]
theorem fb8 {w w':World}{b o:Nat}(h:w'.heap[b]?=w.heap[b]?):w'.frozen? ⟨b,o,none⟩=w.frozen? ⟨b,o,none⟩:=by
 simp only[World.frozen?,h]
def P8 (w:World)(N:Nat)(F:List Nat):Prop:=F.Nodup/\∀b∈F,N<=b/\∀o,w.frozen? ⟨b,o,none⟩=false
theorem P8.keep {w w':World}{N:Nat}{F:List Nat}(h:P8 w N F)(hF:∀b∈F,w'.heap[b]?=w.heap[b]?):P8 w' N F:=
 ⟨h.1,fun b hb=>⟨(h.2 b hb).1,fun o=>(fb8 (hF b hb)).trans ((h.2 b hb).2 o)⟩⟩
theorem P8.below {w w':World}{N:Nat}{F:List Nat}(h:P8 w N F)(hl:∀b∈F,b<w.heap.size)(hb:Below w.heap.size w w'):P8 w' N F:=h.keep fun b hF=>hb.block b (hl b hF)
theorem P8.app {w:World}{N M:Nat}{F G:List Nat}(h:P8 w N F)(k:P8 w M G)(hM:∀b∈F,b<M)(hNM:N<=M):P8 w N (F++G):=by
 refine⟨List.nodup_append.2 ⟨h.1,k.1,fun a ha b hb=>?_⟩,fun b hb=>?_⟩
 ·rintro rfl;have:=hM a ha;have:=(k.2 a hb).1;omega
 ·rcases List.mem_append.1 hb with hb|hb
  ·exact h.2 b hb
  ·exact⟨Nat.le_trans hNM (k.2 b hb).1,(k.2 b hb).2⟩
theorem P8.weak {w:World}{N M:Nat}{F:List Nat}(h:P8 w N F)(hM:M<=N):P8 w M F:=⟨h.1,fun b hb=>⟨Nat.le_trans hM (h.2 b hb).1,(h.2 b hb).2⟩⟩
def N9 (w:World)(F:List Nat):Prop:=∀b∈F,∀o,w.frozen? ⟨b,o,none⟩=false
def D5 (w:World)(N:Nat)(F:List Nat):Prop:=F.Nodup/\(∀b∈F,N<=b)/\N9 w F
structure Chg (F:List Nat)(w w':World):Prop where
 os:w'.os=w.os
 tape:w'.tape=w.tape
 output:w'.output=w.output
 size:w.heap.size<=w'.heap.size
 block:∀k,k<w.heap.size->k∉F->w'.heap[k]?=w.heap[k]?
 free:N9 w F->N9 w' F
theorem Chg.of_below {w w':World}{F:List Nat}(h:Below w.heap.size w w')(hF:∀b∈F,b<w.heap.size):Chg F w w':=
 ⟨h.os,h.tape,h.output,h.size,fun k hk _=>h.block k hk,fun f b hb o=>(fb8 (h.block b (hF b hb))).trans (f b hb o)⟩
theorem Chg.refl (F:List Nat)(w:World):Chg F w w:=⟨rfl,rfl,rfl,Nat.le_refl _,fun _ _ _=>rfl,id⟩
theorem Chg.trans {a b c:World}{F:List Nat}(h:Chg F a b)(k:Chg F b c):Chg F a c:=
 ⟨k.os.trans h.os,k.tape.trans h.tape,k.output.trans h.output,Nat.le_trans h.size k.size,fun i hi hF=>(k.block i (Nat.lt_of_lt_of_le hi h.size) hF).trans (h.block i hi hF),fun f=>k.free (h.free f)⟩
theorem Chg.setCell {w w':World}{F:List Nat}(h:Chg F w w'){p:Addr}(hp:p.block∈F)(u:Value):Chg F w (w'.setCell p u):=
 ⟨h.os,h.tape,h.output,by simpa using h.size,fun k hk hF=>(bS8 _ _ _ _ (by rintro rfl;exact hF hp)).trans (h.block k hk hF),fun f b hb o=>by rw[World.frozen?_setCell];exact h.free f b hb o⟩
theorem Chg.wide {w w':World}{F G:List Nat}(h:Chg F w w')(hs:∀b∈F,b∈G)(hG:∀b∈G,b∉F->b<w.heap.size):Chg G w w':=
 ⟨h.os,h.tape,h.output,h.size,fun k hk hF=>h.block k hk fun hx=>hF (hs k hx),fun f b hb o=>by
  by_cases hx:b∈F
  ·exact h.free (fun c hc=>f c (hs c hc)) b hx o
  ·exact(fb8 (h.block b (hG b hb hx) hx)).trans (f b hb o)⟩
theorem Chg.below {w w':World}{F:List Nat}{N:Nat}(h:Chg F w w')(hF:∀b∈F,N<=b)(hN:N<=w.heap.size):Below N w w':=
 ⟨h.os,h.tape,h.output,h.size,fun k hk=>h.block k (by omega) fun hx=>by have:=hF k hx;omega⟩
theorem D5.keep {w w':World}{N:Nat}{F:List Nat}(h:D5 w N F)(hF:∀b∈F,w'.heap[b]?=w.heap[b]?):D5 w' N F:=
 ⟨h.1,h.2.1,fun b hb o=>(fb8 (hF b hb)).trans (h.2.2 b hb o)⟩
def X3 (w:World)(b o n:Nat)(f:Nat->Value):Prop:=∀j,j<n->w.cell? ⟨b,o+j,none⟩=some (f j)
theorem X3.set {w:World}{b o n j0:Nat}{f:Nat->Value}(h:X3 w b o n f)(hj:j0<n)(u:Value):X3 (w.setCell ⟨b,o+j0,none⟩ u) b o n (fun j=>if j=j0 then u else f j):=by
 intro j hjn;show _=some (if j=j0 then u else f j);by_cases e:j=j0
 ·subst e;rw[if_pos rfl];exact cS8 _ _ _ (h j hjn)
 ·rw[if_neg e,cO8 _ _ _ _ (by intro x;have:=congrArg Addr.off x;simp at this;omega)];exact h j hjn
theorem X3.put {w:World}{b o n j0 q:Nat}{f:Nat->Value}(h:X3 w b o n f)(hj:j0<n)(hq:q=o+j0)(u:Value):X3 (w.setCell ⟨b,q,none⟩ u) b o n (fun j=>if j=j0 then u else f j):=by subst hq;exact h.set hj u
theorem X3.keep {w w':World}{b o n:Nat}{f:Nat->Value}(h:X3 w b o n f)(hb:w'.heap[b]?=w.heap[b]?):X3 w' b o n f:=fun j hj=>(cb8 hb).trans (h j hj)
theorem X3.congr {w:World}{b o n:Nat}{f g:Nat->Value}(h:X3 w b o n f)(e:∀j,j<n->f j=g j):X3 w b o n g:=fun j hj=>(h j hj).trans (congrArg some (e j hj))
theorem A15 {w:World}{b o:Nat}{vs:List V3}:A0h w b o vs↔X3 w b o (vs.length*3) (cf vs):=by
 constructor
 ·intro h j hj;have hi:j/3<vs.length:=by omega
  obtain⟨h0,h1,h2⟩:=h (j/3) vs[j/3] (by simp);obtain⟨e0,e1,e2⟩:=A2j (vs:=vs) (k:=j/3) (x:=vs[j/3]) (by simp);have hj3:j=j/3*3\/j=j/3*3+1\/j=j/3*3+2:=by omega
  rcases hj3 with e|e|e
  ·rw[e,e0];exact h0
  ·rw[e,e1,<-Nat.add_assoc];exact h1
  ·rw[e,e2,<-Nat.add_assoc];exact h2
 ·intro h i x hx;have hi:i<vs.length:=(gE1 hx).1;obtain⟨e0,e1,e2⟩:=A2j hx;refine⟨?_,?_,?_⟩
  ·rw[h (i*3) (by omega),e0]
  ·rw[Nat.add_assoc,h (i*3+1) (by omega),e1]
  ·rw[Nat.add_assoc,h (i*3+2) (by omega),e2]
def D9 (w:World)(v:Value)(vs:List V3)(g:List Nat):Prop:=
 ∃ (a:Option Addr) (c:Nat),v=.slice a vs.length c/\vs.length<=c/\c<=maxLen/\(a=none->c=0)/\(vs=[]->g=[])/\(vs≠ []->∃b o,a=some ⟨b,o,none⟩/\b<w.heap.size/\g=[b]/\A0h w b o vs)
theorem D9.is {w:World}{v:Value}{vs:List V3}{g:List Nat}(h:D9 w v vs g):E3 w v vs:=by
 obtain⟨a,c,rfl,hl,hc,_,_,h⟩:=h;refine⟨a,c,rfl,hl,hc,fun hne=>?_⟩;obtain⟨b,o,rfl,hlt,_,hL⟩:=h hne;exact⟨b,o,rfl,hlt,hL⟩
theorem D9.lt {w:World}{v:Value}{vs:List V3}{g:List Nat}(h:D9 w v vs g):∀b∈g,b<w.heap.size:=by
 obtain⟨a,c,rfl,hl,hc,_,h0,h⟩:=h;intro b hb;by_cases hne:vs=[]
 ·rw[h0 hne]at hb;cases hb
 ·obtain⟨b',o,rfl,hlt,rfl,hL⟩:=h hne;rcases List.mem_singleton.1 hb with rfl;exact hlt
theorem D9.keep {w w':World}{v:Value}{vs:List V3}{g:List Nat}(h:D9 w v vs g)(hs:w.heap.size<=w'.heap.size)(hg:∀b∈g,w'.heap[b]?=w.heap[b]?):D9 w' v vs g:=by
 obtain⟨a,c,rfl,hl,hc,hz,h0,h⟩:=h;refine⟨a,c,rfl,hl,hc,hz,h0,fun hne=>?_⟩;obtain⟨b,o,rfl,hlt,rfl,hL⟩:=h hne;exact⟨b,o,rfl,Nat.lt_of_lt_of_le hlt hs,rfl,A15.2 ((A15.1 hL).keep (hg b (by simp)))⟩
def C6 (w:World)(v:Value)(cs:List C2)(F:List Nat):Prop:=
 ∃ (a:Option Addr) (c:Nat) (G:List (List Nat)),v=.slice a cs.length c/\cs.length<=c/\c<=maxLen/\(a=none->c=0)/\G.length=cs.length/\(cs=[]->F=[])/\ (cs≠ []->∃b o,a=some ⟨b,o,none⟩/\b<w.heap.size/\F=b::G.flatten/\∀i x g,cs[i]?=some x->G[i]?=some g->∃u,w.cell? ⟨b,o+i*2,none⟩=some u/\D9 w u x.r g/\w.cell? ⟨b,o+i*2+1,none⟩=some (.int .i64 x.n))
theorem C6.is {w:World}{v:Value}{cs:List C2}{F:List Nat}(h:C6 w v cs F):J7 w v cs:=by
 obtain⟨a,c,G,rfl,hl,hc,_,hG,_,h⟩:=h;refine⟨a,c,rfl,hl,hc,fun hne=>?_⟩;obtain⟨b,o,rfl,hlt,_,hL⟩:=h hne;refine⟨b,o,rfl,hlt,fun i x hx=>?_⟩;have hi:i<cs.length:=(gE1 hx).1;have hi':i<G.length:=by omega
 obtain⟨u,h0,h1,h2⟩:=hL i x G[i] hx (by simp);exact⟨u,h0,h1.is,h2⟩
theorem C6.lt {w:World}{v:Value}{cs:List C2}{F:List Nat}(h:C6 w v cs F):∀b∈F,b<w.heap.size:=by
 obtain⟨a,c,G,rfl,hl,hc,_,hG,h0,h⟩:=h;intro x hx;by_cases hne:cs=[]
 ·rw[h0 hne]at hx;cases hx
 obtain⟨b,o,rfl,hlt,rfl,hL⟩:=h hne;rcases List.mem_cons.1 hx with rfl|hx
 ·exact hlt
 obtain⟨g,hg,hxg⟩:=List.mem_flatten.1 hx;obtain⟨i,hi,rfl⟩:=List.mem_iff_getElem.1 hg;have hi':i<cs.length:=by omega
 obtain⟨u,_,hk,_⟩:=hL i cs[i] G[i] (by simp) (by simp);exact hk.lt x hxg
theorem C6.keep {w w':World}{v:Value}{cs:List C2}{F:List Nat}(h:C6 w v cs F)(hs:w.heap.size<=w'.heap.size)(hF:∀b∈F,w'.heap[b]?=w.heap[b]?):C6 w' v cs F:=by
 obtain⟨a,c,G,rfl,hl,hc,hz,hG,h0,h⟩:=h;refine⟨a,c,G,rfl,hl,hc,hz,hG,h0,fun hne=>?_⟩;obtain⟨b,o,rfl,hlt,rfl,hL⟩:=h hne;refine⟨b,o,rfl,Nat.lt_of_lt_of_le hlt hs,rfl,fun i x g hx hg=>?_⟩;obtain⟨u,a0,a1,a2⟩:=hL i x g hx hg;have hb:=hF b List.mem_cons_self;exact⟨u,(cb8 hb).trans a0,a1.keep hs (fun y hy=>hF y (List.mem_cons_of_mem _ (List.mem_flatten.2 ⟨g,mg8 hg,hy⟩))),(cb8 hb).trans a2⟩
theorem C6.below {w w':World}{v:Value}{cs:List C2}{F:List Nat}(h:C6 w v cs F)(hb:Below w.heap.size w w'):C6 w' v cs F:=h.keep hb.size fun b hF=>hb.block b (h.lt b hF)
theorem C6.chg {w w':World}{v:Value}{cs:List C2}{F G:List Nat}(h:C6 w v cs F)(hb:Chg G w w')(hd:∀b∈F,b∉G):C6 w' v cs F:=h.keep hb.size fun b hF=>hb.block b (h.lt b hF) (hd b hF)
theorem D5.below {w w':World}{N:Nat}{F:List Nat}(h:D5 w N F)(hl:∀b∈F,b<w.heap.size)(hb:Below w.heap.size w w'):D5 w' N F:=h.keep fun b hF=>hb.block b (hl b hF)
end
section
open Go.RowKit
theorem A90 (k n:Int)(s:ByteArray)(w:World):Calls Tryz.prog 58 #[(.agg #[.int .i64 k,.int .i64 n,.string s])] w fun e w'=>e=.returned (.agg #[.int .i64 k,.int .i64 n,.string s])/\Below w.heap.size w w':=by
 go_enter Tryz.func58,Tryz.ntmps58;go_wp2;go_returns;refine⟨rfl,?_⟩
 go_grown
theorem Tryz.infoVal:(Tryz.prog.info? 39).map (fun i=>(i.zero,i.size,i.bytes))=some (some (.agg #[.int .i64 0,.int .i64 0,.string ⟨#[]⟩]),3,32):=by kernel_rfl
theorem B6h (v:Value)(vs:List V3)(w:World)(hr:E3 w v vs)(hn:vs.length<=1048576):Calls Tryz.prog 125 #[v] w fun e w'=>e=.returned (.slice (some ⟨w.heap.size,0,none⟩) vs.length vs.length)/\w'.rowIs w.heap.size 39 (vs.length*3) (cf vs)/\Below w.heap.size w w':=by
 obtain⟨a,c,b,o,rfl,hl,hc,ha⟩:=hr.pick;unfold maxLen at hc;clear hr;have hmk:=A31 (P:=Tryz.prog) 114 39 _ 3 32 Tryz.underlying114 Tryz.infoVal vs.length (by omega) (by omega);go_enter Tryz.func125,Tryz.ntmps125;go_wp2;go_loopw [4] (fun i wr=> ∃k:Nat,k<=vs.length/\i=.int .i64 k/\Below w.heap.size w wr/\A0E wr w.heap.size 39 vs k) (fun i _=>vs.length - (intOf i).toNat)
 case atStart=>exact⟨0,Nat.zero_le _,rfl,by go_grown,B3c _ _ _ _⟩
 case round=>
  obtain⟨k,hk,rfl,hb,hH⟩:=hrel;clear hmk;by_cases hlt:k<vs.length
  ·have hzb:=hb.size;obtain⟨rfl,hblt,hL⟩:=ha k hlt;obtain⟨x,hx,c0,c1,c2,hbr⟩:=hL.at hblt hb hlt;have HX:Hid (vs[k]?=some x):=hx;have hBr:=(hH.cells hlt).2.2.2.2;clear ha hL hx;go_wp2_with(go_at_call 58;refine(A90 _ _ _ _).mono ?_;rintro e w1 ⟨rfl,hb1⟩;have hz1:=hb1.size;have hH1:=hH.of_block (hb1.block _ hBr);obtain⟨⟨y0,g0⟩,⟨y1,g1⟩,⟨y2,g2⟩,gf,gs⟩:=hH1.cells hlt);exact⟨⟨k+1,hlt,by simp,C3,hH1.step HX.out⟩,by simp[intOf];omega⟩
  ·go_wp2;go_returns;obtain rfl:k=vs.length:=by omega
   exact⟨rfl,hH.done,hb⟩
theorem A9q (k n:Int)(s:ByteArray)(w:World):Calls Tryz.prog 64 #[(.agg #[.int .i64 k,.int .i64 n,.string s]),(.agg #[.int .i64 k,.int .i64 n,.string s])] w fun e w'=>e=.returned (.bool true)/\Below w.heap.size w w':=by
 go_enter Tryz.func64,Tryz.ntmps64;go_wp2;go_returns;exact⟨rfl,by go_grown⟩
theorem B0B (k n left:Int)(s:ByteArray)(w:World)(h0:0<=left)(h1:left<=1048576)(hs:s.size<=maxLen):Calls Tryz.prog 44 #[(.agg #[.int .i64 k,.int .i64 n,.string s]),.int .i64 left] w fun e w'=>e=.returned (.int .i64 (szV s left))/\Below w.heap.size w w':=by
 unfold maxLen at hs;by_cases h:left -s.size<0
 ·go_enter Tryz.func44,Tryz.ntmps44;go_wp2;go_returns;exact⟨by simp[szV,h],by go_grown⟩
 ·go_enter Tryz.func44,Tryz.ntmps44;go_wp2;go_returns;exact⟨Z8 (by simp only[szV];rw[if_neg (by omega)]),by go_grown⟩
theorem B50 (v:Value)(vs:List V3)(left:Int)(w:World)(hr:E3 w v vs)(hw:j2 vs)(h0:0<=left)(h1:left<=1048576):Calls Tryz.prog 119 #[v,.int .i64 left] w fun e w'=>(∃z:Int,e=.returned (.int .i64 z)/\ -1<=z/\z<=left/\(0<=z->z+wt vs=left))/\Below w.heap.size w w':=by
 obtain⟨a,c,b,o,rfl,hl,hc,ha⟩:=hr.pick;unfold maxLen at hc;by_cases hbig:left -vs.length<0
 ·go_enter Tryz.func119,Tryz.ntmps119;go_wp2;go_returns;exact⟨⟨-1,rfl,by omega,by omega,by omega⟩,by go_grown⟩
 go_enter Tryz.func119,Tryz.ntmps119;go_wp2;go_loopw [1,5] (fun l i wr=> ∃k:Nat,k<=vs.length/\i=.int .i64 k/\l=.int .i64 (left -vs.length -wts (vs.take k))/\0<=left -vs.length -wts (vs.take k)/\Below w.heap.size w wr) (fun _ i _=>vs.length - (intOf i).toNat)
 case atStart=>exact⟨0,Nat.zero_le _,rfl,by simp[wts],by simp[wts];omega,by go_grown⟩
 case round=>
  obtain⟨k,hk,rfl,rfl,hp,hb⟩:=hrel;by_cases hlt:k<vs.length
  ·have hzb:=hb.size;obtain⟨rfl,hblt,hL⟩:=ha k hlt;obtain⟨x,hx,c0,c1,c2,hbr⟩:=hL.at hblt hb hlt;have hxs:x.s.size<=maxLen:=(hw x (mg8 hx)).2.2;have hT:Hid (wts (vs.take (k+1))=wts (vs.take k)+x.s.size):=C18 hx;clear ha hL hw;go_wp2_with(go_at_call 44;refine(B0B _ _ _ _ _ (by omega) (by omega) hxs).mono ?_;rintro e w1 ⟨rfl,hb1⟩)
   ·go_returns;exact⟨⟨-1,rfl,by omega,by omega,by omega⟩,hb.trans (hb1.mono hb.size)⟩
   ·have hs0:szV x.s (left -vs.length -wts (vs.take k))=left -vs.length -wts (vs.take (k+1))/\0<=left -vs.length -wts (vs.take (k+1)):=by
     have h9:0<=szV x.s (left -vs.length -wts (vs.take k)):=by assumption
     have hT:=hT.out;unfold szV at h9⊢;split at h9
     ·omega
     ·rw[if_neg (by omega)];omega
    refine⟨⟨k+1,hlt,by simp,by rw[hs0.1],hs0.2,hb.trans (hb1.mono hb.size)⟩,by simp[intOf];omega⟩
  ·go_wp2;go_returns;have hkk:k=vs.length:=by omega
   subst hkk;refine⟨⟨_,rfl,by omega,by omega,fun _=>?_⟩,hb⟩;rw[List.take_length];unfold wt;omega
theorem C0D (v u:Value)(vs:List V3)(w:World)(hr:E3 w v vs)(hu:E3 w u vs):Calls Tryz.prog 90 #[v,u] w fun e w'=>e=.returned (.bool true)/\Below w.heap.size w w':=by
 obtain⟨a,c,b,o,rfl,hl,hc,ha⟩:=hr.pick;obtain⟨a',c',b',o',rfl,hl',hc',ha'⟩:=hu.pick;unfold maxLen at hc hc';clear hr hu;go_enter Tryz.func90,Tryz.ntmps90;go_wp2;go_loopw [5] (fun i wr=> ∃k:Nat,k<=vs.length/\i=.int .i64 k/\Below w.heap.size w wr) (fun i _=>vs.length - (intOf i).toNat)
 case atStart=>exact⟨0,Nat.zero_le _,rfl,by go_grown⟩
 case round=>
  obtain⟨k,hk,rfl,hb⟩:=hrel;by_cases hlt:k<vs.length
  ·have hzb:=hb.size;obtain⟨rfl,hblt,hL⟩:=ha k hlt;obtain⟨rfl,hblt',hL'⟩:=ha' k hlt;obtain⟨x,hx,c0,c1,c2,hbr⟩:=hL.at hblt hb hlt;obtain⟨x',hx',c0',c1',c2',A0k⟩:=hL'.at hblt' hb hlt;obtain rfl:x=x':=by rw[hx]at hx';exact Option.some.inj hx'
   clear ha ha' hL hL' hx hx';go_wp2_with fail;go_region_held3 (fun w'=>w'.cell? ⟨b,o+k*3,none⟩=some (.int .i64 x.k)/\w'.cell? ⟨b,o+k*3+1,none⟩=some (.int .i64 x.n)/\w'.cell? ⟨b,o+k*3+2,none⟩=some (.string x.s)/\w'.cell? ⟨b',o'+k*3,none⟩=some (.int .i64 x.k)/\w'.cell? ⟨b',o'+k*3+1,none⟩=some (.int .i64 x.n)/\w'.cell? ⟨b',o'+k*3+2,none⟩=some (.string x.s)) (refine⟨?_,?_,?_,?_,?_,?_⟩<;>first|(go_simp;done)|(exact cL8 (by assumption) (by go_simp))) (first|(go_at_call 64;refine(A9q _ _ _ _).mono ?_;rintro e w1 ⟨rfl,hb1⟩));go_wp2
   go_roundw
   case rel=>exact⟨k+1,hlt,by simp,C3⟩
   case measure=>simp[intOf];omega
  ·go_wp2;go_returns;exact⟨rfl,hb⟩
theorem J7.pick {w:World}{v:Value}{cs:List C2}(h:J7 w v cs):∃a c b o,v=.slice a cs.length c/\cs.length<=c/\c<=maxLen/\∀k,k<cs.length->a=some ⟨b,o,none⟩/\b<w.heap.size/\A2M w b o cs:=by
 obtain⟨a,c,rfl,hl,hc,h⟩:=h;by_cases hne:cs=[]
 ·exact⟨a,c,0,0,rfl,hl,hc,fun k hk=>by rw[hne]at hk;simp at hk⟩
 ·obtain⟨b,o,h⟩:=h hne;exact⟨a,c,b,o,rfl,hl,hc,fun _ _=>h⟩
theorem E3.shape {w:World}{v:Value}{vs:List V3}(h:E3 w v vs):∃a l c,v=.slice a l c:=by
 obtain⟨a,c,h,_⟩:=h;exact⟨a,_,c,h⟩
theorem J7.shape {w:World}{v:Value}{cs:List C2}(h:J7 w v cs):∃a l c,v=.slice a l c:=by
 obtain⟨a,c,h,_⟩:=h;exact⟨a,_,c,h⟩
theorem A2M.at {w w':World}{b o:Nat}{cs:List C2}(h:A2M w b o cs)(hlt:b<w.heap.size)(hb:Below w.heap.size w w'){k:Nat}(hk:k<cs.length):∃x v,cs[k]?=some x/\w'.cell? ⟨b,o+k*2,none⟩=some v/\E3 w' v x.r/\w'.cell? ⟨b,o+k*2+1,none⟩=some (.int .i64 x.n)/\b<w'.heap.size:=by
 obtain⟨v,h0,h1,h2⟩:=h.below hb hlt k cs[k] (by simp[hk]);exact⟨cs[k],v,by simp[hk],h0,h1,h2,Nat.lt_of_lt_of_le hlt hb.size⟩
def W8 (cs:List C2):Nat:=(cs.map fun x=>wt x.r).sum
def wtb (cs:List C2):Nat:=cs.length+W8 cs
theorem B7v {cs:List C2}{k:Nat}{x:C2}(h:cs[k]?=some x):W8 (cs.take (k+1))=W8 (cs.take k)+wt x.r:=by
 unfold W8;obtain⟨hk,rfl⟩:=gE1 h;rw[List.take_succ_eq_append_getElem hk,List.map_append,List.sum_append];simp only[List.map_cons,List.map_nil,List.sum_cons,List.sum_nil,Nat.add_zero]
theorem A0R {cs:List C2}{x:C2}(h:x∈cs):wt x.r<=W8 cs:=by
 unfold W8;induction cs with
 |nil=>cases h
 |cons y ys ih=>
  simp only[List.map_cons,List.sum_cons];rcases List.mem_cons.1 h with rfl|h
  ·omega
  ·have:=ih h;omega
theorem C1r (v:Value)(r:List V3)(n left:Int)(w:World)(hr:E3 w v r)(hw:j2 r)(h0:0<=left)(h1:left<=1048576):Calls Tryz.prog 91 #[.agg #[v,.int .i64 n],.int .i64 left] w fun e w'=>(∃z:Int,e=.returned (.int .i64 z)/\ -1<=z/\z<=left/\(0<=z->z+wt r=left))/\Below w.heap.size w w':=by
 have hb0:∀o,Below w.heap.size w (w.alloc o):=fun o=>(Below.refl _ _).alloc lr8 o;obtain⟨a,c,hv,_⟩:=hr.pick;go_enter Tryz.func91,Tryz.ntmps91;go_wp2_with fail;refine(B50 v r left _ (hr.below (hb0 _)) hw h0 h1).mono ?_;rintro e w1 ⟨⟨z1,rfl,l1,g1,s1⟩,hb1⟩;have hz1:=hb1.size;simp only[World.size_alloc]at hz1;by_cases hn1:z1<0
 ·go_wp2_with fail;go_returns;exact⟨⟨-1,rfl,by omega,by omega,by omega⟩,C3⟩
 ·go_wp2_with fail;go_returns;exact⟨⟨z1,rfl,by omega,by omega,s1⟩,C3⟩
theorem C2F (v:Value)(cs:List C2)(left:Int)(w:World)(hr:J7 w v cs)(hw:X7 cs)(h0:0<=left)(h1:left<=1048576):Calls Tryz.prog 67 #[v,.int .i64 left] w fun e w'=>(∃z:Int,e=.returned (.int .i64 z)/\ -1<=z/\z<=left/\(0<=z->z+wtb cs=left))/\Below w.heap.size w w':=by
 obtain⟨a,c,b,o,rfl,hl,hc,ha⟩:=hr.pick;unfold maxLen at hc;by_cases hbig:left -cs.length<0
 ·go_enter Tryz.func67,Tryz.ntmps67;go_wp2;go_returns;exact⟨⟨-1,rfl,by omega,by omega,by omega⟩,by go_grown⟩
 go_enter Tryz.func67,Tryz.ntmps67;go_wp2;go_loopw [1,5] (fun l i wr=> ∃k:Nat,k<=cs.length/\i=.int .i64 k/\l=.int .i64 (left -cs.length -W8 (cs.take k))/\0<=left -cs.length -W8 (cs.take k)/\Below w.heap.size w wr) (fun _ i _=>cs.length - (intOf i).toNat)
 case atStart=>exact⟨0,Nat.zero_le _,rfl,by simp[W8],by simp[W8];omega,by go_grown⟩
 case round=>
  obtain⟨k,hk,rfl,rfl,hp,hb⟩:=hrel;by_cases hlt:k<cs.length
  ·have hzb:=hb.size;obtain⟨rfl,hblt,hL⟩:=ha k hlt;obtain⟨x,u,hx,c0,hR,c1,hbr⟩:=hL.at hblt hb hlt;have hxw:j2 x.r:=(hw x (mg8 hx)).1;have hT:Hid (W8 (cs.take (k+1))=W8 (cs.take k)+wt x.r):=B7v hx;have hp1:left -cs.length -W8 (cs.take k)<=1048576:=by omega
   clear ha hL hw hx;go_wp2_with(go_at_call 91;refine(C1r _ _ _ _ _ hR hxw hp hp1).mono ?_;rintro e w1 ⟨⟨z1,rfl,l1,g1,s1⟩,hb1⟩)
   ·go_returns;exact⟨⟨-1,rfl,by omega,by omega,by omega⟩,hb.trans (hb1.mono hb.size)⟩
   ·have h9:0<=z1:=by assumption
    have e1:=s1 h9;have hT:=hT.out;refine⟨⟨k+1,hlt,by simp,by congr 1;omega,by omega,hb.trans (hb1.mono hb.size)⟩,by simp[intOf];omega⟩
  ·go_wp2;go_returns;have hkk:k=cs.length:=by omega
   subst hkk;refine⟨⟨_,rfl,by omega,by omega,fun _=>?_⟩,hb⟩;rw[List.take_length];unfold wtb;omega
theorem B3C (W:Int)(v:Value)(cs:List C2)(left:Int)(w:World)(hr:J7 w v cs)(hw:X7 cs)(h0:0<=left)(h1:left<=1048576):Calls Tryz.prog 43 #[.agg #[.int .i64 W,v],.int .i64 left] w fun e w'=>(∃z:Int,e=.returned (.int .i64 z)/\ -1<=z/\z<=left/\(0<=z->z+wtb cs=left))/\Below w.heap.size w w':=by
 have hb0:∀o,Below w.heap.size w (w.alloc o):=fun o=>(Below.refl _ _).alloc lr8 o;go_enter Tryz.func43,Tryz.ntmps43;go_wp2_with fail;refine(C2F v cs left _ (hr.below (hb0 _)) hw h0 h1).mono ?_;rintro e w1 ⟨⟨z1,rfl,l1,g1,s1⟩,hb1⟩;have hz1:=hb1.size;simp only[World.size_alloc]at hz1;by_cases hn1:z1<0
 ·go_wp2_with fail;go_returns;exact⟨⟨-1,rfl,by omega,by omega,by omega⟩,C3⟩
 ·go_wp2_with fail;go_returns;exact⟨⟨z1,rfl,by omega,by omega,s1⟩,C3⟩
theorem B3t (v u:Value)(r:List V3)(n:Int)(w:World)(hr:E3 w v r)(hu:E3 w u r):Calls Tryz.prog 63 #[.agg #[v,.int .i64 n],.agg #[u,.int .i64 n]] w fun e w'=>e=.returned (.bool true)/\Below w.heap.size w w':=by
 have hb0:∀o p,Below w.heap.size w ((w.alloc o).alloc p):=fun o p=>((Below.refl _ _).alloc lr8 o).alloc (by simp) p;go_enter Tryz.func63,Tryz.ntmps63;go_wp2_with fail;refine(C0D v u r _ (hr.below (hb0 _ _)) (hu.below (hb0 _ _))).mono ?_;rintro e w1 ⟨rfl,hb1⟩;have hz1:=hb1.size;simp only[World.size_alloc]at hz1;have q0:w1.cell? ⟨w.heap.size,1,none⟩=some (.int .i64 n):=cl8 hb1;have q1:w1.cell? ⟨w.heap.size+1,1,none⟩=some (.int .i64 n):=cl8 hb1;go_wp2;go_returns;exact⟨rfl,C3⟩
theorem C4C (v u:Value)(cs:List C2)(w:World)(hr:J7 w v cs)(hu:J7 w u cs):Calls Tryz.prog 32 #[v,u] w fun e w'=>e=.returned (.bool true)/\Below w.heap.size w w':=by
 obtain⟨a,c,b,o,rfl,hl,hc,ha⟩:=hr.pick;obtain⟨a',c',b',o',rfl,hl',hc',ha'⟩:=hu.pick;unfold maxLen at hc hc';clear hr hu;go_enter Tryz.func32,Tryz.ntmps32;go_wp2;go_loopw [5] (fun i wr=> ∃k:Nat,k<=cs.length/\i=.int .i64 k/\Below w.heap.size w wr) (fun i _=>cs.length - (intOf i).toNat)
 case atStart=>exact⟨0,Nat.zero_le _,rfl,by go_grown⟩
 case round=>
  obtain⟨k,hk,rfl,hb⟩:=hrel;by_cases hlt:k<cs.length
  ·have hzb:=hb.size;obtain⟨rfl,hblt,hL⟩:=ha k hlt;obtain⟨rfl,hblt',hL'⟩:=ha' k hlt;obtain⟨x,v,hx,c0,hR,c1,hbr⟩:=hL.at hblt hb hlt;obtain⟨x',u,hx',c0',hR',c1',A0k⟩:=hL'.at hblt' hb hlt;obtain rfl:x=x':=by rw[hx]at hx';exact Option.some.inj hx'
   clear ha ha' hL hL' hx hx';go_wp2_with fail;go_region_held3 (fun w'=>w'.cell? ⟨b,o+k*2,none⟩=some v/\w'.cell? ⟨b,o+k*2+1,none⟩=some (.int .i64 x.n)/\w'.cell? ⟨b',o'+k*2,none⟩=some u/\w'.cell? ⟨b',o'+k*2+1,none⟩=some (.int .i64 x.n)) (refine⟨?_,?_,?_,?_⟩<;>first|(go_simp;done)|(exact cL8 (by assumption) (by go_simp))) (first|(go_at_call 63;refine(B3t v u x.r x.n _ (hR.below C3) (hR'.below C3)).mono ?_;rintro e w1 ⟨rfl,hb1⟩));go_wp2
   go_roundw
   case rel=>exact⟨k+1,hlt,by simp,C3⟩
   case measure=>simp[intOf];omega
  ·go_wp2;go_returns;exact⟨rfl,hb⟩
theorem A5R (W:Int)(v u:Value)(cs:List C2)(w:World)(hr:J7 w v cs)(hu:J7 w u cs):Calls Tryz.prog 10 #[.agg #[.int .i64 W,v],.agg #[.int .i64 W,u]] w fun e w'=>e=.returned (.bool true)/\Below w.heap.size w w':=by
 have hb0:∀o p,Below w.heap.size w ((w.alloc o).alloc p):=fun o p=>((Below.refl _ _).alloc lr8 o).alloc (by simp) p;go_enter Tryz.func10,Tryz.ntmps10;go_wp2_with fail;refine(C4C v u cs _ (hr.below (hb0 _ _)) (hu.below (hb0 _ _))).mono ?_;rintro e w1 ⟨rfl,hb1⟩;have hz1:=hb1.size;simp only[World.size_alloc]at hz1;go_wp2;go_returns;exact⟨rfl,C3⟩
end
section
open Go.RowKit Go.Deep
theorem Tryz.infoCnt:(Tryz.prog.info? 116).map (fun i=>(i.zero,i.size,i.bytes))=some (some (.agg #[.slice none 0 0,.int .i64 0]),2,32):=by kernel_rfl
structure P5 (w:World)(B0:Nat)(cs:List C2)(g:Nat->Nat)(k:Nat):Prop where
 own:∃f,w.rowIs B0 116 (cs.length*2) f/\∀i x,i<k->cs[i]?=some x->f (i*2)=.slice (some ⟨g i,0,none⟩) x.r.length x.r.length/\f (i*2+1)=.int .i64 x.n
 row:∀i x,i<k->cs[i]?=some x->w.rowIs (g i) 39 (x.r.length*3) (cf x.r)
 above:∀i,i<k->B0<g i
 up:∀i j,i<j->j<k->g i<g j
theorem P5.cells {w:World}{B:Nat}{cs:List C2}{g:Nat->Nat}{k:Nat}(h:P5 w B cs g k)(hk:k<cs.length):(∃u,w.cell? ⟨B,k*2,none⟩=some u)/\(∃u,w.cell? ⟨B,k*2+1,none⟩=some u)/\(∀i,w.frozen? ⟨B,i,none⟩=false)/\B<w.heap.size:=by
 obtain⟨f,h,_⟩:=h.own;exact⟨⟨_,h.cell (by omega)⟩,⟨_,h.cell (by omega)⟩,fun i=>h.frozen i,h.lt⟩
theorem P5.lt {w:World}{B:Nat}{cs:List C2}{g:Nat->Nat}{k:Nat}(h:P5 w B cs g k)(hk:k<=cs.length){i:Nat}(hi:i<k):g i<w.heap.size:=(h.row i cs[i] hi (by simp)).lt
theorem P5.below {w w':World}{B:Nat}{cs:List C2}{g:Nat->Nat}{k:Nat}(h:P5 w B cs g k)(hk:k<=cs.length)(hb:Below w.heap.size w w'):P5 w' B cs g k:=by
 obtain⟨⟨f,hf,he⟩,h1,h2,h3⟩:=h;exact⟨⟨f,hf.of_block (hb.block _ hf.lt),he⟩,fun i x hi hx=>(h1 i x hi hx).of_block (hb.block _ (h1 i x hi hx).lt),h2,h3⟩
theorem P5.keep {w w':World}{B:Nat}{cs:List C2}{g:Nat->Nat}{k:Nat}(h:P5 w B cs g k)(hk:k<=cs.length)(e:∀b,B<=b->w'.heap[b]?=w.heap[b]?):P5 w' B cs g k:=by
 obtain⟨⟨f,hf,he⟩,h1,h2,h3⟩:=h;exact⟨⟨f,hf.of_block (e _ lr8),he⟩,fun i x hi hx=>(h1 i x hi hx).of_block (e _ (Nat.le_of_lt (h2 i hi))),h2,h3⟩
theorem P5.step {w:World}{B D:Nat}{cs:List C2}{g:Nat->Nat}{k:Nat}{x:C2}(h:P5 w B cs g k)(hx:cs[k]?=some x)(hD:w.rowIs D 39 (x.r.length*3) (cf x.r))(hB:B<D)(hup:∀i,i<k->g i<D):P5 ((w.setCell ⟨B,k*2,none⟩ (.slice (some ⟨D,0,none⟩) x.r.length x.r.length)).setCell ⟨B,k*2+1,none⟩ (.int .i64 x.n)) B cs (fun i=>if i=k then D else g i) (k+1):=by
 obtain⟨⟨f,hf,he⟩,h1,h2,h3⟩:=h;refine⟨⟨_,(hf.set _ _).set _ _,fun i y hi hy=>?_⟩,fun i y hi hy=>?_,fun i hi=>?_,fun i j hij hj=>?_⟩
 ·by_cases e:i=k
  ·subst e;obtain rfl:y=x:=by rw[hx]at hy;exact(Option.some.inj hy).symm
   simp
  ·have e1:i*2≠k*2:=by omega
   have e2:i*2≠k*2+1:=by omega
   have e3:i*2+1≠k*2:=by omega
   have e4:i*2+1≠k*2+1:=by omega
   simp only[if_neg e1,if_neg e2,if_neg e3,if_neg e4,if_neg e];exact he i y (by omega) hy
 ·by_cases e:i=k
  ·subst e;obtain rfl:y=x:=by rw[hx]at hy;exact(Option.some.inj hy).symm
   simp only[if_true];exact(hD.setOther (by show D≠B;omega) _).setOther (by show D≠B;omega) _
  ·simp only[if_neg e];have:=h2 i (by omega);exact((h1 i y (by omega) hy).setOther (by show g i≠B;omega) _).setOther (by show g i≠B;omega) _
 ·by_cases e:i=k
  ·simp only[if_pos e];exact hB
  ·simp only[if_neg e];exact h2 i (by omega)
 ·by_cases e:j=k
  ·have e':i≠k:=by omega
   simp only[if_pos e,if_neg e'];exact hup i (by omega)
  ·have e':i≠k:=by omega
   simp only[if_neg e,if_neg e'];exact h3 i j hij (by omega)
theorem P5.rows {w:World}{B:Nat}{cs:List C2}{g:Nat->Nat}(h:P5 w B cs g cs.length)(hl:∀x∈cs,x.r.length<=maxLen)(hm:cs.length<=maxLen):J7 w (.slice (some ⟨B,0,none⟩) cs.length cs.length) cs:=by
 obtain⟨f,hf,he⟩:=h.own;refine⟨_,_,rfl,Nat.le_refl _,hm,fun _=>⟨B,0,rfl,hf.lt,fun i x hx=>?_⟩⟩;have hi:i<cs.length:=(gE1 hx).1;obtain⟨e0,e1⟩:=he i x hi hx;refine⟨_,by rw[Nat.zero_add,hf.cell (by omega),e0],B2q (h.row i x hi hx) lr8 (hl x (mg8 hx)),by rw[Nat.zero_add,hf.cell (by omega),e1]⟩
theorem B28 (w:World)(z:Array Value)(cs:List C2)(g:Nat->Nat):P5 (w.alloc (.cells (madeCells z (cs.length*2)) 116)) w.heap.size cs g 0:=
 ⟨⟨fun i=>(madeCells z (cs.length*2))[i]?.getD undef,⟨_,blk_alloc_new _ _,size_madeCells _ _,fun i hi=>by
  have:i<(madeCells z (cs.length*2)).size:=by rw[size_madeCells];exact hi
  simp[this]⟩,fun i x hi=>by omega⟩,fun i x hi=>by omega,fun i hi=>by omega,fun i j _ hj=>by omega⟩
theorem C24 (v:Value)(r:List V3)(n:Int)(w:World)(hr:E3 w v r)(hn:r.length<=1048576):Calls Tryz.prog 100 #[.agg #[v,.int .i64 n]] w fun e w'=>(∃B,w.heap.size<=B/\e=.returned (.agg #[.slice (some ⟨B,0,none⟩) r.length r.length,.int .i64 n])/\w'.rowIs B 39 (r.length*3) (cf r))/\Below w.heap.size w w':=by
 have hb0:∀o p q,Below w.heap.size w (((w.alloc o).alloc p).alloc q):=fun o p q=>(((Below.refl _ _).alloc lr8 o).alloc (by simp) p).alloc (by simp;omega) q;go_enter Tryz.func100,Tryz.ntmps100;go_wp2_with fail;refine(B6h v r _ (hr.below (hb0 _ _ _)) hn).mono ?_;rintro e w1 ⟨rfl,hR1,hb1⟩;have hz1:=hb1.size;simp only[World.size_alloc]at hz1 hR1;have hf1:=(bc8 hb1).2;have hy:w.heap.size+1+1<w1.heap.size:=by omega
 have hy1:w.heap.size+1<w1.heap.size:=by omega
 have hy0:w.heap.size<w1.heap.size:=by omega
 have q0:w1.cell? ⟨w.heap.size,1,none⟩=some (.int .i64 n):=cl8 hb1;have p0:w1.cell? ⟨w.heap.size+1,0,none⟩=some (.slice none 0 0):=cl8 hb1;have p1:w1.cell? ⟨w.heap.size+1,1,none⟩=some (.int .i64 0):=cl8 hb1;have t0:w1.cell? ⟨w.heap.size+1+1,0,none⟩=some (.slice none 0 0):=cl8 hb1;have t1:w1.cell? ⟨w.heap.size+1+1,1,none⟩=some (.int .i64 0):=cl8 hb1;go_wp2;refine bodyPost_ret (v:=.agg #[.slice (some ⟨w.heap.size+1+1+1,0,none⟩) r.length r.length,.int .i64 n]) (by simp[results,Tryz.results100,go_sem, *]) rfl ⟨⟨w.heap.size+1+1+1,by omega,rfl,?_⟩,?_⟩
 ·refine hR1.of_block ?_;repeat rw[bS8 _ _ _ _ (by simp;try omega)]
 ·exact C3
theorem B8X (v:Value)(cs:List C2)(w:World)(hr:J7 w v cs)(hn:wtb cs<=1048576):Calls Tryz.prog 79 #[v] w fun e w'=>(∃g,e=.returned (.slice (some ⟨w.heap.size,0,none⟩) cs.length cs.length)/\P5 w' w.heap.size cs g cs.length)/\Below w.heap.size w w':=by
 obtain⟨a,c,b,o,rfl,hl,hc,ha⟩:=hr.pick;unfold maxLen at hc;clear hr;have hn1:cs.length<=1048576:=by unfold wtb at hn;omega
 have hmk:=A31 (P:=Tryz.prog) 33 116 _ 2 32 Tryz.underlying33 Tryz.infoCnt cs.length (by omega) (by omega);go_enter Tryz.func79,Tryz.ntmps79;go_wp2;go_loopw [4] (fun i wr=> ∃ (k:Nat) (g:Nat->Nat),k<=cs.length/\i=.int .i64 k/\Below w.heap.size w wr/\P5 wr w.heap.size cs g k) (fun i _=>cs.length - (intOf i).toNat)
 case atStart=>exact⟨0,fun _=>0,Nat.zero_le _,rfl,by go_grown,B28 _ _ _ _⟩
 case round=>
  obtain⟨k,g,hk,rfl,hb,hH⟩:=hrel;clear hmk;by_cases hlt:k<cs.length
  ·have hzb:=hb.size;obtain⟨rfl,hblt,hL⟩:=ha k hlt;obtain⟨x,u,hx,c0,hR,c1,hbr⟩:=hL.at hblt hb hlt;have HX:Hid (cs[k]?=some x):=hx;have hxn:x.r.length<=1048576:=by have:=A0R (mg8 hx);unfold wt at this;unfold wtb at hn;omega
   have hBr:=(hH.cells hlt).2.2.2;clear ha hL hx;go_wp2_with(go_at_call 100;refine(C24 _ _ _ _ hR hxn).mono ?_;rintro e w1 ⟨⟨D,hD,rfl,hRD⟩,hb1⟩;have hz1:=hb1.size;have hH1:=hH.below hk hb1;obtain⟨⟨y0,g0⟩,⟨y1,g1⟩,gf,gs⟩:=hH1.cells hlt);refine⟨⟨k+1,_,hlt,by simp,C3,hH1.step HX.out hRD (by omega) (fun i hi=>Nat.lt_of_lt_of_le (hH.lt hk hi) hD)⟩,by simp[intOf];omega⟩
  ·go_wp2;go_returns;obtain rfl:k=cs.length:=by omega
   exact⟨⟨g,rfl,hH⟩,hb⟩
theorem C2g (W:Int)(v:Value)(cs:List C2)(w:World)(hr:J7 w v cs)(hn:wtb cs<=1048576):Calls Tryz.prog 57 #[.agg #[.int .i64 W,v]] w fun e w'=>(∃B g,w.heap.size<=B/\e=.returned (.agg #[.int .i64 W,.slice (some ⟨B,0,none⟩) cs.length cs.length])/\P5 w' B cs g cs.length)/\Below w.heap.size w w':=by
 go_enter Tryz.func57,Tryz.ntmps57;go_wp2_with fail;refine cM8 (B8X v cs _ (hr.below ?hb) hn) ?_
 case hb=>exact C3
 rintro e w1 ⟨⟨g,rfl,hH1⟩,hb1⟩;have hz1:=hb1.size;simp only[World.size_alloc]at hz1 hH1;have hf1:=(bc8 hb1).2;have hy:w.heap.size+1+1<w1.heap.size:=by omega
 have hy1:w.heap.size+1<w1.heap.size:=by omega
 have hy0:w.heap.size<w1.heap.size:=by omega
 have p0:w1.cell? ⟨w.heap.size+1,0,none⟩=some (.int .i64 0):=cl8 hb1;have p1:w1.cell? ⟨w.heap.size+1,1,none⟩=some (.slice none 0 0):=cl8 hb1;have t0:w1.cell? ⟨w.heap.size+1+1,0,none⟩=some (.int .i64 W):=cl8 hb1;have t1:w1.cell? ⟨w.heap.size+1+1,1,none⟩=some (.slice none 0 0):=cl8 hb1;go_wp2;refine bodyPost_ret (v:=.agg #[.int .i64 W,.slice (some ⟨w.heap.size+1+1+1,0,none⟩) cs.length cs.length]) (by simp[results,Tryz.results57,go_sem, *]) rfl ⟨⟨w.heap.size+1+1+1,g,by omega,by simp,?_⟩,?_⟩
 ·refine hH1.keep lr8 fun b hb=>?_;repeat rw[bS8 _ _ _ _ (by simp;try omega)]
 ·exact C3
abbrev Own (w:World) (N:Nat) (F:List Nat):Prop:=P8 w N F
theorem Own.keep {w w':World}{N:Nat}{F:List Nat}(h:Own w N F)(hF:∀b∈F,w'.heap[b]?=w.heap[b]?):Own w' N F:=
 ⟨h.1,fun b hb=>⟨(h.2 b hb).1,fun o=>(fb8 (hF b hb)).trans ((h.2 b hb).2 o)⟩⟩
theorem Own.below {w w':World}{N:Nat}{F:List Nat}(h:Own w N F)(hl:∀b∈F,b<w.heap.size)(hb:Below w.heap.size w w'):Own w' N F:=h.keep fun b hF=>hb.block b (hl b hF)
theorem Own.app {w:World}{N M:Nat}{F G:List Nat}(h:Own w N F)(k:Own w M G)(hM:∀b∈F,b<M)(hNM:N<=M):Own w N (F++G):=by
 refine⟨List.nodup_append.2 ⟨h.1,k.1,fun a ha b hb=>?_⟩,fun b hb=>?_⟩
 ·rintro rfl;have:=hM a ha;have:=(k.2 a hb).1;omega
 ·rcases List.mem_append.1 hb with hb|hb
  ·exact h.2 b hb
  ·exact⟨Nat.le_trans hNM (k.2 b hb).1,(k.2 b hb).2⟩
theorem Own.weak {w:World}{N M:Nat}{F:List Nat}(h:Own w N F)(hM:M<=N):Own w M F:=⟨h.1,fun b hb=>⟨Nat.le_trans hM (h.2 b hb).1,(h.2 b hb).2⟩⟩
end
section
theorem A1s (w:World):(Instr.typeAssert (.iface 263 (.agg #[])) 244 263 true).run Tryz.prog w=.ok (.tuple #[.agg #[],.bool true]) w:=by kernel_rfl
theorem A1B (w:World):(Instr.typeAssert (.iface 263 (.agg #[])) 244 265 true).run Tryz.prog w=.ok (.tuple #[.agg #[.int .i64 0],.bool false]) w:=by kernel_rfl
theorem A17 (w:World):(Instr.typeAssert (.iface 263 (.agg #[])) 244 241 true).run Tryz.prog w=.ok (.tuple #[.agg #[.int .i64 0],.bool false]) w:=by kernel_rfl
theorem A1C (w:World):(Instr.typeAssert (.iface 263 (.agg #[])) 244 267 true).run Tryz.prog w=.ok (.tuple #[.agg #[.string ⟨#[]⟩],.bool false]) w:=by kernel_rfl
theorem A1m (n:Int)(w:World):(Instr.typeAssert (.iface 265 (.agg #[.int .i64 n])) 244 263 true).run Tryz.prog w=.ok (.tuple #[.agg #[],.bool false]) w:=by kernel_rfl
theorem A1x (n:Int)(w:World):(Instr.typeAssert (.iface 265 (.agg #[.int .i64 n])) 244 265 true).run Tryz.prog w=.ok (.tuple #[.agg #[.int .i64 n],.bool true]) w:=by kernel_rfl
theorem A18 (n:Int)(w:World):(Instr.typeAssert (.iface 265 (.agg #[.int .i64 n])) 244 241 true).run Tryz.prog w=.ok (.tuple #[.agg #[.int .i64 0],.bool false]) w:=by kernel_rfl
theorem A1Q (n:Int)(w:World):(Instr.typeAssert (.iface 265 (.agg #[.int .i64 n])) 244 267 true).run Tryz.prog w=.ok (.tuple #[.agg #[.string ⟨#[]⟩],.bool false]) w:=by kernel_rfl
theorem A2T (n:Int)(w:World):(Instr.typeAssert (.iface 241 (.agg #[.int .i64 n])) 244 263 true).run Tryz.prog w=.ok (.tuple #[.agg #[],.bool false]) w:=by kernel_rfl
theorem A1K (n:Int)(w:World):(Instr.typeAssert (.iface 241 (.agg #[.int .i64 n])) 244 265 true).run Tryz.prog w=.ok (.tuple #[.agg #[.int .i64 0],.bool false]) w:=by kernel_rfl
theorem A2S (n:Int)(w:World):(Instr.typeAssert (.iface 241 (.agg #[.int .i64 n])) 244 241 true).run Tryz.prog w=.ok (.tuple #[.agg #[.int .i64 n],.bool true]) w:=by kernel_rfl
theorem A1W (n:Int)(w:World):(Instr.typeAssert (.iface 241 (.agg #[.int .i64 n])) 244 267 true).run Tryz.prog w=.ok (.tuple #[.agg #[.string ⟨#[]⟩],.bool false]) w:=by kernel_rfl
theorem A12 (s:ByteArray)(w:World):(Instr.typeAssert (.iface 267 (.agg #[.string s])) 244 263 true).run Tryz.prog w=.ok (.tuple #[.agg #[],.bool false]) w:=by kernel_rfl
theorem A1e (s:ByteArray)(w:World):(Instr.typeAssert (.iface 267 (.agg #[.string s])) 244 265 true).run Tryz.prog w=.ok (.tuple #[.agg #[.int .i64 0],.bool false]) w:=by kernel_rfl
theorem A1y (s:ByteArray)(w:World):(Instr.typeAssert (.iface 267 (.agg #[.string s])) 244 241 true).run Tryz.prog w=.ok (.tuple #[.agg #[.int .i64 0],.bool false]) w:=by kernel_rfl
theorem A2V (s:ByteArray)(w:World):(Instr.typeAssert (.iface 267 (.agg #[.string s])) 244 267 true).run Tryz.prog w=.ok (.tuple #[.agg #[.string s],.bool true]) w:=by kernel_rfl
theorem A1i (w:World):(Instr.typeAssert .nilIface 244 263 true).run Tryz.prog w=.ok (.tuple #[.agg #[],.bool false]) w:=by kernel_rfl
theorem A1Y (w:World):(Instr.typeAssert .nilIface 244 265 true).run Tryz.prog w=.ok (.tuple #[.agg #[.int .i64 0],.bool false]) w:=by kernel_rfl
theorem A1z (w:World):(Instr.typeAssert .nilIface 244 241 true).run Tryz.prog w=.ok (.tuple #[.agg #[.int .i64 0],.bool false]) w:=by kernel_rfl
theorem A1M (w:World):(Instr.typeAssert .nilIface 244 267 true).run Tryz.prog w=.ok (.tuple #[.agg #[.string ⟨#[]⟩],.bool false]) w:=by kernel_rfl
end
section
open Go.RowKit
theorem eqV (k n k' n':Int)(s s':ByteArray)(w:World):(binOp .eql 39 (.agg #[.int .i64 k,.int .i64 n,.string s]) (.agg #[.int .i64 k',.int .i64 n',.string s'])).run Tryz.prog w=.ok (.bool (k==k' && (n==n' &&s.toList==s'.toList))) w:=by
 have u3:=Tryz.underlying3;have a3:=Tryz.isAgg3;have z3:=Tryz.sizeOf3;have u9:=Tryz.underlying9;have a9:=Tryz.isAgg9;have z9:=Tryz.sizeOf9;have hS:Tryz.prog.underlying 39=some (.struct (Tryz.prog.fieldsOf 39)):=by kernel_rfl
 have hp:Tryz.prog.stoodInHeld 39=false:=by kernel_rfl
 rw[run_eql_struct,show(10000:Nat)=9999+1 from rfl,run_equalIn_agg w 9999 39 _ _ hS hp];simp only[Program.fieldsOf,Tryz.underlying39];go_simp;by_cases h1:k=k'<;>by_cases h2:n=n'<;>by_cases h3:s.toList=s'.toList<;>simp[h1,h2,h3]
end
section
open Go.RowKit
attribute [local go_sem] A1s A1B A17 A1C A1m A1x A18 A1Q A2T A1K A2S A1W A12 A1e A1y A2V A1i A1Y A1z A1M
def okB (k n:Int)(s:ByteArray):Bool:=
 if k=0 then n==0 &&s.toList==[]else if k=1 then s.toList==[]else if k=2 then(n==0||n==1) &&s.toList==[]else if k=3 then n==0 &&decide (s.size<=100)else false
theorem A8k (n:Int)(s:ByteArray):okB 0 n s=(n==0 &&s.toList==[]):=rfl
theorem A8R (n:Int)(s:ByteArray):okB 1 n s=(s.toList==[]):=rfl
theorem A4U (n:Int)(s:ByteArray):okB 2 n s=((n==0||n==1) &&s.toList==[]):=rfl
theorem A4w (n:Int)(s:ByteArray):okB 3 n s=(n==0 &&decide (s.size<=100)):=rfl
theorem A4A (k n:Int)(s:ByteArray)(h0:¬k=0)(h1:¬k=1)(h2:¬k=2)(h3:¬k=3):okB k n s=false:=by simp[okB,h0,h1,h2,h3]
theorem A4y (n:Int)(s:ByteArray)(w:World):Calls Tryz.prog 162 #[(.agg #[.int .i64 0,.int .i64 n,.string s])] w fun e w'=>e=.returned (.iface 263 (.agg #[]))/\w'=w.alloc (.cells #[.int .i64 0,.int .i64 n,.string s] 39):=by
 go_enter Tryz.func162,Tryz.ntmps162;go_wp2;go_returns;exact⟨rfl,rfl⟩
theorem A0m (n:Int)(s:ByteArray)(w:World):Calls Tryz.prog 162 #[(.agg #[.int .i64 1,.int .i64 n,.string s])] w fun e w'=>e=.returned (.iface 265 (.agg #[.int .i64 n]))/\w'=w.alloc (.cells #[.int .i64 1,.int .i64 n,.string s] 39):=by
 go_enter Tryz.func162,Tryz.ntmps162;go_wp2;go_returns;exact⟨rfl,rfl⟩
theorem A3H (n:Int)(s:ByteArray)(w:World):Calls Tryz.prog 162 #[(.agg #[.int .i64 2,.int .i64 n,.string s])] w fun e w'=>e=.returned (.iface 241 (.agg #[.int .i64 n]))/\w'=w.alloc (.cells #[.int .i64 2,.int .i64 n,.string s] 39):=by
 go_enter Tryz.func162,Tryz.ntmps162;go_wp2;go_returns;exact⟨rfl,rfl⟩
theorem A2H (n:Int)(s:ByteArray)(w:World):Calls Tryz.prog 162 #[(.agg #[.int .i64 3,.int .i64 n,.string s])] w fun e w'=>e=.returned (.iface 267 (.agg #[.string s]))/\w'=w.alloc (.cells #[.int .i64 3,.int .i64 n,.string s] 39):=by
 go_enter Tryz.func162,Tryz.ntmps162;go_wp2;go_returns;exact⟨rfl,rfl⟩
theorem A7h (k:Int)(n:Int)(s:ByteArray)(w:World)(h0:(k==0)=false)(h1:(k==1)=false)(h2:(k==2)=false)(h3:(k==3)=false):Calls Tryz.prog 162 #[(.agg #[.int .i64 k,.int .i64 n,.string s])] w fun e w'=>e=.returned (.nilIface)/\w'=w.alloc (.cells #[.int .i64 k,.int .i64 n,.string s] 39):=by
 go_enter Tryz.func162,Tryz.ntmps162;go_wp2;go_returns;exact⟨rfl,rfl⟩
theorem B7J (n:Int)(w:World):Calls Tryz.prog 169 #[.iface 241 (.agg #[.int .i64 n])] w fun e w'=>e=.returned (.agg #[.int .i64 2,.int .i64 n,.string ⟨#[]⟩])/\Below w.heap.size w w':=by
 go_enter Tryz.func169,Tryz.ntmps169;go_wp2;go_returns;refine⟨rfl,?_⟩
 go_grown
theorem B4T (s:ByteArray)(w:World):Calls Tryz.prog 169 #[.iface 267 (.agg #[.string s])] w fun e w'=>e=.returned (.agg #[.int .i64 3,.int .i64 0,.string s])/\Below w.heap.size w w':=by
 go_enter Tryz.func169,Tryz.ntmps169;go_wp2;go_returns;refine⟨rfl,?_⟩
 go_grown
theorem B3M (n:Int)(w:World)(h:n=0\/n=1):Calls Tryz.prog 276 #[.agg #[.int .i64 n]] w fun e w'=>e=.returned (.bool true)/\Below w.heap.size w w':=by
 rcases h with rfl|rfl
 ·go_enter Tryz.func276,Tryz.ntmps276;go_wp2;go_returns;refine⟨rfl,?_⟩
  go_grown
 ·go_enter Tryz.func276,Tryz.ntmps276;go_wp2;go_returns;refine⟨rfl,?_⟩
  go_grown
theorem B9R (n:Int)(w:World)(h0:(n==0)=false)(h1:(n==1)=false):Calls Tryz.prog 276 #[.agg #[.int .i64 n]] w fun e w'=>e=.returned (.bool false)/\Below w.heap.size w w':=by
 go_enter Tryz.func276,Tryz.ntmps276;go_wp2;go_returns;refine⟨rfl,?_⟩
 go_grown
theorem B52 (s:ByteArray)(w:World)(hs:s.size<=maxLen)(h:(s.size:Int)<=100):Calls Tryz.prog 279 #[.agg #[.string s]] w fun e w'=>e=.returned (.bool true)/\Below w.heap.size w w':=by
 unfold maxLen at hs;go_enter Tryz.func279,Tryz.ntmps279;go_wp2;go_returns;refine⟨rB8 (by first|(simp;done)|(simp;omega)),?_⟩
 go_grown
theorem B7M (s:ByteArray)(w:World)(hs:s.size<=maxLen)(h:100<(s.size:Int)):Calls Tryz.prog 279 #[.agg #[.string s]] w fun e w'=>e=.returned (.bool false)/\Below w.heap.size w w':=by
 unfold maxLen at hs;have hd:decide ((s.size:Int)<=100)=false:=by simp;omega
 go_enter Tryz.func279,Tryz.ntmps279;go_wp2;go_returns;refine⟨rfl,?_⟩
 go_grown
theorem B1s (n:Int):((0:Int)==n)=(n==0):=by rw[Bool.eq_iff_iff,beq_iff_eq,beq_iff_eq];exact eq_comm
end
end Go.Proofs.YteekfcdllaceoaaGreatDoor
namespace Go.Proofs
open Go.Shelf
def Tryz.laysGrow_ren:Go.Shelf.Ren:=⟨fun|4=>165|n=>n,fun|22=>114|25=>39|3=>3|4=>4|9=>9|20=>20|0=>0|n=>n,fun|n=>n⟩
theorem Tryz.laysGrow:Go.Proofs.Lays8.n4 Tryz.prog Tryz.laysGrow_ren:={
 mixed:=by kernel_rfl
 f4:=⟨Tryz.f165.name,by decide,Tryz.func165.trans (congrArg some (by kernel_rfl))⟩
 t0:=Tryz.underlying0
 a0:=Tryz.isAgg0
 z0:=Tryz.sizeOf0
 v0:=Tryz.zeroValue0
 t3:=Tryz.underlying3
 a3:=Tryz.isAgg3
 z3:=Tryz.sizeOf3
 v3:=Tryz.zeroValue3
 t4:=Tryz.underlying4
 a4:=Tryz.isAgg4
 z4:=Tryz.sizeOf4
 v4:=Tryz.zeroValue4
 t9:=Tryz.underlying9
 a9:=Tryz.isAgg9
 z9:=Tryz.sizeOf9
 v9:=Tryz.zeroValue9
 t20:=Tryz.underlying20
 a20:=Tryz.isAgg20
 z20:=Tryz.sizeOf20
 v20:=Tryz.zeroValue20
 t22:=Tryz.underlying114
 a22:=Tryz.isAgg114
 z22:=Tryz.sizeOf114
 v22:=Tryz.zeroValue114}
def Tryz.laysSort_ren:Go.Shelf.Ren:=⟨fun|6=>188|15=>179|14=>212|28=>203|29=>204|20=>221|21=>222|22=>223|23=>224|24=>225|25=>226|26=>227|27=>228|46=>231|47=>214|48=>215|49=>232|50=>233|57=>238|n=>n,fun|22=>33|24=>116|25=>277|3=>3|39=>259|0=>0|53=>294|55=>296|4=>4|46=>287|45=>286|50=>234|5=>5|9=>9|66=>301|70=>305|76=>314|77=>315|n=>n,fun|n=>n⟩
theorem Tryz.laysSort:Go.Proofs.SlLaysF0.n6 Tryz.prog Tryz.laysSort_ren:={
 mixed:=by kernel_rfl
 f6:=⟨Tryz.f188.name,by decide,Tryz.func188.trans (congrArg some (by kernel_rfl))⟩
 f14:=⟨Tryz.f212.name,by decide,Tryz.func212.trans (congrArg some (by kernel_rfl))⟩
 f15:=Tryz.func179.trans (congrArg some (by kernel_rfl))
 f20:=⟨Tryz.f221.name,by decide,Tryz.func221.trans (congrArg some (by kernel_rfl))⟩
 f21:=⟨Tryz.f222.name,by decide,Tryz.func222.trans (congrArg some (by kernel_rfl))⟩
 f22:=⟨Tryz.f223.name,by decide,Tryz.func223.trans (congrArg some (by kernel_rfl))⟩
 f23:=⟨Tryz.f224.name,by decide,Tryz.func224.trans (congrArg some (by kernel_rfl))⟩
 f24:=⟨Tryz.f225.name,by decide,Tryz.func225.trans (congrArg some (by kernel_rfl))⟩
 f25:=⟨Tryz.f226.name,by decide,Tryz.func226.trans (congrArg some (by kernel_rfl))⟩
 f26:=⟨Tryz.f227.name,by decide,Tryz.func227.trans (congrArg some (by kernel_rfl))⟩
 f27:=⟨Tryz.f228.name,by decide,Tryz.func228.trans (congrArg some (by kernel_rfl))⟩
 f28:=Tryz.func203.trans (congrArg some (by kernel_rfl))
 f29:=Tryz.func204.trans (congrArg some (by kernel_rfl))
 f46:=⟨Tryz.f231.name,by decide,Tryz.func231.trans (congrArg some (by kernel_rfl))⟩
 f47:=Tryz.func214.trans (congrArg some (by kernel_rfl))
 f48:=Tryz.func215.trans (congrArg some (by kernel_rfl))
 f49:=⟨Tryz.f232.name,by decide,Tryz.func232.trans (congrArg some (by kernel_rfl))⟩
 f50:=⟨Tryz.f233.name,by decide,Tryz.func233.trans (congrArg some (by kernel_rfl))⟩
 f57:=⟨Tryz.f238.name,by decide,Tryz.func238.trans (congrArg some (by kernel_rfl))⟩
 t0:=Tryz.underlying0
 a0:=Tryz.isAgg0
 z0:=Tryz.sizeOf0
 v0:=Tryz.zeroValue0
 t3:=Tryz.underlying3
 a3:=Tryz.isAgg3
 z3:=Tryz.sizeOf3
 v3:=Tryz.zeroValue3
 t4:=Tryz.underlying4
 a4:=Tryz.isAgg4
 z4:=Tryz.sizeOf4
 v4:=Tryz.zeroValue4
 t5:=Tryz.underlying5
 a5:=Tryz.isAgg5
 z5:=Tryz.sizeOf5
 v5:=Tryz.zeroValue5
 t9:=Tryz.underlying9
 a9:=Tryz.isAgg9
 z9:=Tryz.sizeOf9
 v9:=Tryz.zeroValue9
 t22:=Tryz.underlying33
 a22:=Tryz.isAgg33
 z22:=Tryz.sizeOf33
 v22:=Tryz.zeroValue33
 t25:=Tryz.underlying277
 a25:=Tryz.isAgg277
 z25:=Tryz.sizeOf277
 v25:=Tryz.zeroValue277
 t39:=Tryz.underlying259
 a39:=Tryz.isAgg259
 z39:=Tryz.sizeOf259
 v39:=Tryz.zeroValue259
 t45:=Tryz.underlying286
 a45:=Tryz.isAgg286
 z45:=Tryz.sizeOf286
 v45:=Tryz.zeroValue286
 t46:=Tryz.underlying287
 a46:=Tryz.isAgg287
 z46:=Tryz.sizeOf287
 v46:=Tryz.zeroValue287
 t50:=Tryz.underlying234
 a50:=Tryz.isAgg234
 z50:=Tryz.sizeOf234
 v50:=Tryz.zeroValue234
 t53:=Tryz.underlying294
 a53:=Tryz.isAgg294
 z53:=Tryz.sizeOf294
 v53:=Tryz.zeroValue294
 t55:=Tryz.underlying296
 a55:=Tryz.isAgg296
 z55:=Tryz.sizeOf296
 v55:=Tryz.zeroValue296
 t66:=Tryz.underlying301
 a66:=Tryz.isAgg301
 z66:=Tryz.sizeOf301
 v66:=Tryz.zeroValue301
 t70:=Tryz.underlying305
 a70:=Tryz.isAgg305
 z70:=Tryz.sizeOf305
 v70:=Tryz.zeroValue305
 t76:=Tryz.underlying314
 a76:=Tryz.isAgg314
 z76:=Tryz.sizeOf314
 v76:=Tryz.zeroValue314
 t77:=Tryz.underlying315
 a77:=Tryz.isAgg315
 z77:=Tryz.sizeOf315
 v77:=Tryz.zeroValue315}
def Tryz.lays169_ren:Go.Shelf.Ren:=⟨fun|169=>187|n=>n,fun|70=>268|9=>9|0=>0|72=>270|37=>118|127=>299|3=>3|5=>5|n=>n,fun|n=>n⟩
theorem Tryz.lays169:Go.Proofs.Lays.n169 Tryz.prog Tryz.lays169_ren:={
 mixed:=by kernel_rfl
 f169:=Tryz.func187.trans (congrArg some (by kernel_rfl))
 t0:=Tryz.underlying0
 a0:=Tryz.isAgg0
 z0:=Tryz.sizeOf0
 v0:=Tryz.zeroValue0
 t3:=Tryz.underlying3
 a3:=Tryz.isAgg3
 z3:=Tryz.sizeOf3
 v3:=Tryz.zeroValue3
 t9:=Tryz.underlying9
 a9:=Tryz.isAgg9
 z9:=Tryz.sizeOf9
 v9:=Tryz.zeroValue9
 t37:=Tryz.underlying118
 a37:=Tryz.isAgg118
 z37:=Tryz.sizeOf118
 v37:=Tryz.zeroValue118
 t70:=Tryz.underlying268
 a70:=Tryz.isAgg268
 z70:=Tryz.sizeOf268
 v70:=Tryz.zeroValue268
 t72:=Tryz.underlying270
 a72:=Tryz.isAgg270
 z72:=Tryz.sizeOf270
 v72:=Tryz.zeroValue270
 t127:=Tryz.underlying299
 a127:=Tryz.isAgg299
 z127:=Tryz.sizeOf299
 v127:=Tryz.zeroValue299}
theorem Tryz.Builder_Extra_169:Builder.Extra Tryz.prog Tryz.lays169_ren:={
 sizeBuilder:=by kernel_rfl
 liesBuilder:=by kernel_rfl
 t5:=Tryz.underlying5
 a5:=Tryz.isAgg5
 z5:=Tryz.sizeOf5
 v5:=Tryz.zeroValue5
 infoByte:=by kernel_rfl
 cellsByte:=by kernel_rfl
 sizeByte:=by kernel_rfl
 neB5:=by decide}
open Go.RowKit in
theorem Tryz.Builder_String (B b:Nat)(l:List UInt8)(w:World)(h:Lib.IsBuilder 270 5 B b (Lib.byteCells l) w)(h0:l≠ []):Calls Tryz.prog 187 #[.pointer (some ⟨b,0,none⟩)] w fun e w'=>e=.returned (.string ⟨l.toArray⟩)/\Below B w w':=Any.Builder_String Tryz.lays169 Tryz.Builder_Extra_169 B b l w h h0
open Go.RowKit in
theorem Tryz.Builder_String_any (B b:Nat)(l:List UInt8)(w:World)(h:Lib.IsBuilder 270 5 B b (Lib.byteCells l) w)(hBw:B<=w.heap.size):Calls Tryz.prog 187 #[.pointer (some ⟨b,0,none⟩)] w fun e w'=>e=.returned (.string ⟨l.toArray⟩)/\Below B w w':=Any.Builder_String_any Tryz.lays169 Tryz.Builder_Extra_169 B b l w h hBw
def Tryz.lays144_ren:Go.Shelf.Ren:=⟨fun|144=>209|143=>218|219=>230|217=>234|225=>235|224=>236|267=>237|266=>239|314=>240|n=>n,fun|9=>9|4=>4|3=>3|5=>5|46=>259|146=>321|51=>294|n=>n,fun|1=>1|n=>n⟩
theorem Tryz.lays144:Go.Proofs.Lays.n144 Tryz.prog Tryz.lays144_ren:={
 mixed:=by kernel_rfl
 f143:=Tryz.func218.trans (congrArg some (by kernel_rfl))
 f144:=Tryz.func209.trans (congrArg some (by kernel_rfl))
 f217:=Tryz.func234.trans (congrArg some (by kernel_rfl))
 f219:=Tryz.func230.trans (congrArg some (by kernel_rfl))
 f224:=Tryz.func236.trans (congrArg some (by kernel_rfl))
 f225:=Tryz.func235.trans (congrArg some (by kernel_rfl))
 f266:=Tryz.func239.trans (congrArg some (by kernel_rfl))
 f267:=Tryz.func237.trans (congrArg some (by kernel_rfl))
 f314:=Tryz.func240.trans (congrArg some (by kernel_rfl))
 t3:=Tryz.underlying3
 a3:=Tryz.isAgg3
 z3:=Tryz.sizeOf3
 v3:=Tryz.zeroValue3
 t4:=Tryz.underlying4
 a4:=Tryz.isAgg4
 z4:=Tryz.sizeOf4
 v4:=Tryz.zeroValue4
 t5:=Tryz.underlying5
 a5:=Tryz.isAgg5
 z5:=Tryz.sizeOf5
 v5:=Tryz.zeroValue5
 t9:=Tryz.underlying9
 a9:=Tryz.isAgg9
 z9:=Tryz.sizeOf9
 v9:=Tryz.zeroValue9
 t46:=Tryz.underlying259
 a46:=Tryz.isAgg259
 z46:=Tryz.sizeOf259
 v46:=Tryz.zeroValue259
 t51:=Tryz.underlying294
 a51:=Tryz.isAgg294
 z51:=Tryz.sizeOf294
 v51:=Tryz.zeroValue294
 t146:=Tryz.underlying321
 a146:=Tryz.isAgg321
 z146:=Tryz.sizeOf321
 v146:=Tryz.zeroValue321
 g1:=by kernel_rfl}
open Go.RowKit Go.Lib in
theorem Tryz.strings_Contains (s sub:ByteArray)(m:Int)(w:World)(hs:s.size<4294967281)(hm:w.cell? ⟨1,0,none⟩=some (.int .i64 m)):Calls Tryz.prog 209 #[.string s,.string sub] w fun e w'=>e=.returned (.bool (Lib.contains s.data.toList sub.data.toList))/\w'=w:=Any.strings_Contains Tryz.lays144 s sub m w hs hm
def Tryz.laysM144_ren:Go.Shelf.Ren:=⟨fun|144=>209|143=>218|219=>230|217=>234|225=>235|224=>236|267=>237|266=>239|314=>240|n=>n,fun|9=>9|4=>4|3=>3|5=>5|46=>259|146=>321|51=>294|n=>n,fun|1=>1|n=>n⟩
theorem Tryz.laysM144:Go.Proofs.LaysM.n144 Tryz.prog Tryz.laysM144_ren:={
 mixed:=by kernel_rfl
 f143:=Tryz.func218.trans (congrArg some (by kernel_rfl))
 f144:=Tryz.func209.trans (congrArg some (by kernel_rfl))
 f217:=Tryz.func234.trans (congrArg some (by kernel_rfl))
 f219:=Tryz.func230.trans (congrArg some (by kernel_rfl))
 f224:=Tryz.func236.trans (congrArg some (by kernel_rfl))
 f225:=Tryz.func235.trans (congrArg some (by kernel_rfl))
 f266:=Tryz.func239.trans (congrArg some (by kernel_rfl))
 f267:=Tryz.func237.trans (congrArg some (by kernel_rfl))
 f314:=Tryz.func240.trans (congrArg some (by kernel_rfl))
 t3:=Tryz.underlying3
 a3:=Tryz.isAgg3
 z3:=Tryz.sizeOf3
 v3:=Tryz.zeroValue3
 t4:=Tryz.underlying4
 a4:=Tryz.isAgg4
 z4:=Tryz.sizeOf4
 v4:=Tryz.zeroValue4
 t5:=Tryz.underlying5
 a5:=Tryz.isAgg5
 z5:=Tryz.sizeOf5
 v5:=Tryz.zeroValue5
 t9:=Tryz.underlying9
 a9:=Tryz.isAgg9
 z9:=Tryz.sizeOf9
 v9:=Tryz.zeroValue9
 t46:=Tryz.underlying259
 a46:=Tryz.isAgg259
 z46:=Tryz.sizeOf259
 v46:=Tryz.zeroValue259
 t51:=Tryz.underlying294
 a51:=Tryz.isAgg294
 z51:=Tryz.sizeOf294
 v51:=Tryz.zeroValue294
 t146:=Tryz.underlying321
 a146:=Tryz.isAgg321
 z146:=Tryz.sizeOf321
 v146:=Tryz.zeroValue321
 g1:=by kernel_rfl
 i3:=by kernel_rfl
 i4:=by kernel_rfl
 i5:=by kernel_rfl
 i9:=by kernel_rfl
 i46:=by kernel_rfl
 i51:=by kernel_rfl
 i146:=by kernel_rfl
 m1:=by kernel_rfl
 s1_3:=fun w h=>Go.Proofs.cell_of_shapedOpen_int (zero:=#[.int .i64 0]) (t:=3) h (of_decide_eq_true (by kernel_rfl)) (by kernel_rfl) rfl (by kernel_rfl) (by kernel_rfl) Tryz.underlying3}
open Go.RowKit Go.Lib in
theorem Tryz.strings_Contains_shaped (s sub:ByteArray)(w:World)(h:w.ShapedOpen Tryz.prog)(hs:s.size<4294967281):Calls Tryz.prog 209 #[.string s,.string sub] w fun e w'=>e=.returned (.bool (Lib.contains s.data.toList sub.data.toList))/\w'=w:=Any.strings_Contains_shaped Tryz.laysM144 s sub w h hs
def Tryz.lays189_ren:Go.Shelf.Ren:=⟨fun|189=>152|125=>179|257=>178|128=>203|129=>204|294=>194|295=>195|296=>196|297=>197|298=>198|299=>199|216=>200|300=>201|301=>202|328=>213|329=>214|330=>215|331=>216|332=>217|215=>172|343=>229|n=>n,fun|28=>122|3=>3|46=>259|0=>0|51=>294|53=>296|4=>4|183=>287|182=>286|131=>234|5=>5|9=>9|218=>301|222=>305|228=>314|229=>315|n=>n,fun|n=>n⟩
theorem Tryz.lays189:Go.Proofs.Lays.n189 Tryz.prog Tryz.lays189_ren:={
 mixed:=by kernel_rfl
 f125:=Tryz.func179.trans (congrArg some (by kernel_rfl))
 f128:=Tryz.func203.trans (congrArg some (by kernel_rfl))
 f129:=Tryz.func204.trans (congrArg some (by kernel_rfl))
 f189:=Tryz.func152.trans (congrArg some (by kernel_rfl))
 f215:=Tryz.func172.trans (congrArg some (by kernel_rfl))
 f216:=Tryz.func200.trans (congrArg some (by kernel_rfl))
 f257:=Tryz.func178.trans (congrArg some (by kernel_rfl))
 f294:=Tryz.func194.trans (congrArg some (by kernel_rfl))
 f295:=Tryz.func195.trans (congrArg some (by kernel_rfl))
 f296:=Tryz.func196.trans (congrArg some (by kernel_rfl))
 f297:=Tryz.func197.trans (congrArg some (by kernel_rfl))
 f298:=Tryz.func198.trans (congrArg some (by kernel_rfl))
 f299:=Tryz.func199.trans (congrArg some (by kernel_rfl))
 f300:=Tryz.func201.trans (congrArg some (by kernel_rfl))
 f301:=Tryz.func202.trans (congrArg some (by kernel_rfl))
 f328:=Tryz.func213.trans (congrArg some (by kernel_rfl))
 f329:=Tryz.func214.trans (congrArg some (by kernel_rfl))
 f330:=Tryz.func215.trans (congrArg some (by kernel_rfl))
 f331:=Tryz.func216.trans (congrArg some (by kernel_rfl))
 f332:=Tryz.func217.trans (congrArg some (by kernel_rfl))
 f343:=Tryz.func229.trans (congrArg some (by kernel_rfl))
 t0:=Tryz.underlying0
 a0:=Tryz.isAgg0
 z0:=Tryz.sizeOf0
 v0:=Tryz.zeroValue0
 t3:=Tryz.underlying3
 a3:=Tryz.isAgg3
 z3:=Tryz.sizeOf3
 v3:=Tryz.zeroValue3
 t4:=Tryz.underlying4
 a4:=Tryz.isAgg4
 z4:=Tryz.sizeOf4
 v4:=Tryz.zeroValue4
 t5:=Tryz.underlying5
 a5:=Tryz.isAgg5
 z5:=Tryz.sizeOf5
 v5:=Tryz.zeroValue5
 t9:=Tryz.underlying9
 a9:=Tryz.isAgg9
 z9:=Tryz.sizeOf9
 v9:=Tryz.zeroValue9
 t28:=Tryz.underlying122
 a28:=Tryz.isAgg122
 z28:=Tryz.sizeOf122
 v28:=Tryz.zeroValue122
 t46:=Tryz.underlying259
 a46:=Tryz.isAgg259
 z46:=Tryz.sizeOf259
 v46:=Tryz.zeroValue259
 t51:=Tryz.underlying294
 a51:=Tryz.isAgg294
 z51:=Tryz.sizeOf294
 v51:=Tryz.zeroValue294
 t53:=Tryz.underlying296
 a53:=Tryz.isAgg296
 z53:=Tryz.sizeOf296
 v53:=Tryz.zeroValue296
 t131:=Tryz.underlying234
 a131:=Tryz.isAgg234
 z131:=Tryz.sizeOf234
 v131:=Tryz.zeroValue234
 t182:=Tryz.underlying286
 a182:=Tryz.isAgg286
 z182:=Tryz.sizeOf286
 v182:=Tryz.zeroValue286
 t183:=Tryz.underlying287
 a183:=Tryz.isAgg287
 z183:=Tryz.sizeOf287
 v183:=Tryz.zeroValue287
 t218:=Tryz.underlying301
 a218:=Tryz.isAgg301
 z218:=Tryz.sizeOf301
 v218:=Tryz.zeroValue301
 t222:=Tryz.underlying305
 a222:=Tryz.isAgg305
 z222:=Tryz.sizeOf305
 v222:=Tryz.zeroValue305
 t228:=Tryz.underlying314
 a228:=Tryz.isAgg314
 z228:=Tryz.sizeOf314
 v228:=Tryz.zeroValue314
 t229:=Tryz.underlying315
 a229:=Tryz.isAgg315
 z229:=Tryz.sizeOf315
 v229:=Tryz.zeroValue315}
open Go.Sort Go.RowKit in
theorem Tryz.slices_Sort_int (blk off cap:Nat)(zs:List Int)(w:World)(hH:Holds (Value.int .i64) w blk off zs.toArray)(H7:blk<w.heap.size)(hsz:zs.length<4611686018427387904):Calls Tryz.prog 152 #[.slice (some ⟨blk,off,none⟩) zs.length cap] w fun e w'=>
   e=.returned (.tuple #[])/\∃n os,w'=grow (putRow (Value.int .i64) (Sort.ahead w n) blk off (zs.mergeSort fun x y=>decide (x<=y)).toArray) os:=Any.slices_Sort_int Tryz.lays189 blk off cap zs w hH H7 hsz
def Tryz.laysNm220_ren:Go.Shelf.Ren:=⟨fun|20=>153|n=>n,fun|22=>122|3=>3|4=>4|0=>0|n=>n,fun|n=>n⟩
theorem Tryz.laysNm220:Go.Proofs.Lays2.n20 Tryz.prog Tryz.laysNm220_ren:={
 mixed:=by kernel_rfl
 f20:=Tryz.func153.trans (congrArg some (by kernel_rfl))
 t0:=Tryz.underlying0
 a0:=Tryz.isAgg0
 z0:=Tryz.sizeOf0
 v0:=Tryz.zeroValue0
 t3:=Tryz.underlying3
 a3:=Tryz.isAgg3
 z3:=Tryz.sizeOf3
 v3:=Tryz.zeroValue3
 t4:=Tryz.underlying4
 a4:=Tryz.isAgg4
 z4:=Tryz.sizeOf4
 v4:=Tryz.zeroValue4
 t22:=Tryz.underlying122
 a22:=Tryz.isAgg122
 z22:=Tryz.sizeOf122
 v22:=Tryz.zeroValue122
 i3:=by kernel_rfl}
open Go.RowKit Go.Lib Go.Sort in
theorem Tryz.slices_Compact_int (blk off cap:Nat)(zs:List Int)(w:World)(hH:Holds (Value.int .i64) w blk off zs.toArray)(hsz:zs.length<=9223372036854775807)(Q9:zs.length<=cap):Calls Tryz.prog 153 #[.slice (some ⟨blk,off,none⟩) zs.length cap] w fun e w'=>e=.returned (.slice (some ⟨blk,off,none⟩) (Lib.compact zs).length cap)/\∃q,w'=putRow (Value.int .i64) (Sort.ahead w q) blk off (Lib.compact zs++List.replicate (zs.length - (Lib.compact zs).length) 0).toArray:=Any.slices_Compact_int Tryz.laysNm220 blk off cap zs w hH hsz Q9
open Go.RowKit Go.Lib Go.Sort in
theorem Tryz.slices_Compact_int_empty (a:Option Addr)(cap:Nat)(w:World):Calls Tryz.prog 153 #[.slice a 0 cap] w fun e w'=>e=.returned (.slice a 0 cap)/\w'=w:=Any.slices_Compact_int_empty Tryz.laysNm220 a cap w
end Go.Proofs
namespace Go.Proofs.YteekfcdllaceoaaGreatDoor
section
open Go.RowKit
theorem B8S (s:ByteArray)(a b:Nat):(s.extract a b).data.toList=(s.data.toList.drop a).take (b -a):=by
 simp[ByteArray.data_extract,Array.toList_extract,List.extract]
theorem B8P (s t:ByteArray)(k:Nat)(h:k+t.size<=s.size):((s.extract k (k+t.size)).toList==t.toList)=Lib.occAt s.data.toList t.data.toList k:=by
 rw[ByteArray.toList_eq,ByteArray.toList_eq,B8S,Nat.add_sub_cancel_left,Lib.occAt,Bool.eq_iff_iff,beq_iff_eq,List.isPrefixOf_iff_prefix,List.prefix_iff_eq_take];have hl:t.data.toList.length=t.size:=rfl;rw[hl];exact eq_comm
theorem B3S (s t:ByteArray)(k:Nat)(hk:k<=s.size)(hn:Lib.NoOcc s.data.toList t.data.toList k)(ho:Lib.occAt s.data.toList t.data.toList k=true):Lib.contains s.data.toList t.data.toList=true:=by
 rw[Lib.contains,Lib.index_hit hn (by simpa using hk) ho];simp
theorem B37 (s t:ByteArray)(k:Nat)(hn:Lib.NoOcc s.data.toList t.data.toList k)(hk:s.size<k+t.size):Lib.contains s.data.toList t.data.toList=false:=by
 by_cases ht:t.data.toList=[]
 ·have hz:t.size=0:=by show t.data.toList.length=0;rw[ht];rfl
  have:=hn 0 (by omega);rw[ht]at this;simp[Lib.occAt]at this
 ·have hl:t.data.toList.length=t.size:=rfl;have hl2:s.data.toList.length=s.size:=rfl;rw[Lib.contains,Lib.index_past ht hn (by omega)];rfl
theorem C0G (s t:List UInt8)(k:Nat)(hn:Lib.NoOcc s t k)(ho:Lib.occAt s t k=false):Lib.NoOcc s t (k+1):=by
 intro j hj;by_cases e:j=k
 ·subst e;exact ho
 ·exact hn j (by omega)
theorem B3g (s t:ByteArray)(w:World)(hs:s.size<=1048576)(ht:t.size<=1048576):Calls Tryz.prog 148 #[.string s,.string t] w fun e w'=>e=.returned (.bool (Lib.contains s.data.toList t.data.toList))/\w'=w:=by
 go_enter Tryz.func148,Tryz.ntmps148;go_wp2
 go_loop [5] (fun i=> ∃k:Nat,k<=s.size+1/\i=.int .i64 k/\Lib.NoOcc s.data.toList t.data.toList k) (fun i=>s.size+1 - (intOf i).toNat)
 case atStart=>exact⟨0,by omega,rfl,Lib.NoOcc.zero _ _⟩
 case round=>
  obtain⟨k,hk,rfl,hn0⟩:=hrel;have hn:Hid (Lib.NoOcc s.data.toList t.data.toList k):=hn0;clear hn0;by_cases hlt:k+t.size<=s.size
  ·have hle:(k:Int)+t.size<=s.size:=by omega
   have hen:((k:Int)+(t.size:Int)).toNat=k+t.size:=by omega
   have hoc:Hid (((s.extract k (k+t.size)).toList==t.toList)=Lib.occAt s.data.toList t.data.toList k):=B8P s t k hlt;by_cases ho:((s.extract k (k+t.size)).toList==t.toList)=true
   ·have V4:Hid (Lib.contains s.data.toList t.data.toList=true):=B3S s t k (by omega) hn.out (by rw[<-hoc.out];exact ho);go_wp2;go_returns;exact⟨rB8 V4.out.symm,rfl⟩
   ·have ho':((s.extract k (k+t.size)).toList==t.toList)=false:=by simpa using ho
    have hno:Hid (Lib.NoOcc s.data.toList t.data.toList (k+1)):=C0G _ _ k hn.out (by rw[<-hoc.out];exact ho');clear ho;go_wp2;exact⟨⟨k+1,by omega,by go_num,hno.out⟩,by simp[intOf];omega⟩
  ·have hgt:(s.size:Int)<(k:Int)+t.size:=by omega
   have V4:Hid (Lib.contains s.data.toList t.data.toList=false):=B37 s t k hn.out (by omega);go_wp2;go_returns;exact⟨rB8 V4.out.symm,rfl⟩
end
section
open Go.RowKit
attribute [local go_sem] A1s A1B A17 A1C A1m A1x A18 A1Q A2T A1K A2S A1W A12 A1e A1y A2V A1i A1Y A1z A1M
def m9 (k n:Int):Int:=if k=2 then 2 else 0
def j4 (k n:Int):Int:=if k=2/\n=0 then 1 else 0
def j6 (k:Int):Int:=if k=0 then 1 else 0
theorem A4d {k k' n n':Int}(hk:k=k')(hn:n=n'):Ending.returned (.agg #[.int .i64 k,.int .i64 n,.string ⟨#[]⟩])=.returned (.agg #[.int .i64 k',.int .i64 n',.string ⟨#[]⟩]):=by rw[hk,hn]
theorem B6K (k n:Int)(s:ByteArray)(w:World):Calls Tryz.prog 159 #[(.agg #[.int .i64 k,.int .i64 n,.string s])] w fun e w'=>e=.returned (.agg #[.int .i64 (m9 k n),.int .i64 (j4 k n),.string ⟨#[]⟩])/\Below w.heap.size w w':=by
 go_enter Tryz.func159,Tryz.ntmps159;go_wp2;all_goals(go_returns;refine⟨A4d ?_ ?_,by go_grown⟩)
 all_goals first|(simp_all [m9,j4];done)|(simp_all [m9,j4];omega)
theorem B7q (k n:Int)(s:ByteArray)(w:World):Calls Tryz.prog 123 #[(.agg #[.int .i64 k,.int .i64 n,.string s])] w fun e w'=>e=.returned (.agg #[.int .i64 (m9 k n),.int .i64 (j4 k n),.string ⟨#[]⟩])/\Below w.heap.size w w':=by
 go_enter Tryz.func123,Tryz.ntmps123;go_wp2;all_goals(go_returns;refine⟨A4d ?_ ?_,by go_grown⟩)
 all_goals first|(simp_all [m9,j4];done)|(simp_all [m9,j4];omega)
theorem C0M (k n:Int)(s:ByteArray)(w:World):Calls Tryz.prog 161 #[(.agg #[.int .i64 k,.int .i64 n,.string s])] w fun e w'=>e=.returned (.agg #[.int .i64 2,.int .i64 (j6 k),.string ⟨#[]⟩])/\Below w.heap.size w w':=by
 go_enter Tryz.func161,Tryz.ntmps161;go_wp2;all_goals(go_returns;refine⟨A4d ?_ ?_,by go_grown⟩)
 all_goals first|(simp_all [j6];done)|(simp_all [j6];omega)
theorem B5x (k n:Int)(s:ByteArray)(w:World):Calls Tryz.prog 124 #[(.agg #[.int .i64 k,.int .i64 n,.string s])] w fun e w'=>e=.returned (.agg #[.int .i64 2,.int .i64 (j6 k),.string ⟨#[]⟩])/\Below w.heap.size w w':=by
 go_enter Tryz.func124,Tryz.ntmps124;go_wp2;all_goals(go_returns;refine⟨A4d ?_ ?_,by go_grown⟩)
 all_goals first|(simp_all [j6];done)|(simp_all [j6];omega)
end
section
open Go.RowKit
section
variable {P:Program} {md:Region.Mode} {ops:Array Oper} {Q:Exit->Act->World->Prop} {S:World->Prop}
theorem tlY (i d:Nat){oi:Oper}{v:Value}{fuel:Nat}{listed listed':Array Bool}{ts ts':Array Value}{ds:List _}{w:World}(hi:ops[i]?=some oi)(hd:oi.dst=some d)(h:wpAnyH P md ops Q S fuel listed' ⟨ts',ds⟩ w)(hy:∀w,S w->(execOp (Act.eval ⟨ts,ds⟩) oi).run P w=.ok (.value v) w:=by intro w' h;go_simp;try exact rfl)(ht:ts.setIfInBounds d v=ts':=by(try simp only[List.setIfInBounds_toArray,List.set_cons_zero,List.set_cons_succ]);exact rfl)(hl:listed.setIfInBounds i true=listed':=by(try simp only[List.setIfInBounds_toArray,List.set_cons_zero,List.set_cons_succ]);exact rfl)(hs:Region.noSelect ops=true:=by kernel_rfl) (hf:Region.free md ops listed i=true:=by kernel_rfl) (hr:(Region.ready md ops listed).contains i=true:=by kernel_rfl)(hQ:∀c a w,Q (.panic c) (a.put oi.dst v) w->Q (.panic c) a w:=by exact fun _ _ _ h=>h) (hw:Region.wanted oi (yielded ops ts)=true:=by rfl) (hS:S w:=by assumption):wpAnyH P md ops Q S (fuel+1) listed ⟨ts,ds⟩ w:=
 A6z hi hd hs hf hr hQ hw hS hy (by rw[hl,ht];exact h)
theorem tlN (i d:Nat){oi:Oper}{fuel:Nat}{listed listed':Array Bool}{ts ts':Array Value}{ds:List _}{w:World}(hi:ops[i]?=some oi)(hd:oi.dst=some d)(h:wpAnyH P md ops Q S fuel listed' ⟨ts',ds⟩ w)(ht:ts.setIfInBounds d undef=ts':=by(try simp only[List.setIfInBounds_toArray,List.set_cons_zero,List.set_cons_succ]);exact rfl)(hl:listed.setIfInBounds i true=listed':=by(try simp only[List.setIfInBounds_toArray,List.set_cons_zero,List.set_cons_succ]);exact rfl)(hs:Region.noSelect ops=true:=by kernel_rfl) (hf:Region.free md ops listed i=true:=by kernel_rfl) (hr:(Region.ready md ops listed).contains i=true:=by kernel_rfl)(hQ:∀c a w,Q (.panic c) (a.put oi.dst undef) w->Q (.panic c) a w:=by exact fun _ _ _ h=>h) (hw:Region.wanted oi (yielded ops ts)=false:=by rfl) (hS:S w:=by assumption):wpAnyH P md ops Q S (fuel+1) listed ⟨ts,ds⟩ w:=
 A71 hi hd hs hf hr hQ hw hS (by rw[hl,ht];exact h)
end
end
section
open Go.RowKit
def Onw (w w':World):Prop:=Below w.heap.size w w'/\w.drawn<=w'.drawn
theorem Onw.refl (w:World):Onw w w:=⟨Below.refl _ _,Nat.le_refl _⟩
theorem Onw.trans {a b c:World}(h:Onw a b)(k:Onw b c):Onw a c:=⟨h.1.trans (k.1.mono h.1.size),Nat.le_trans h.2 k.2⟩
theorem Onw.alloc {a b:World}(h:Onw a b)(o:Obj):Onw a (b.alloc o):=⟨h.1.alloc h.1.size o,h.2⟩
theorem Onw.drew {a b:World}(h:Onw a b):Onw a b.drew:=⟨h.1.drew,Nat.le_trans h.2 (Nat.le_succ _)⟩
theorem B9U (k n k' n':Int)(s s':ByteArray)(w:World):Calls Tryz.prog 143 #[(.agg #[.int .i64 k,.int .i64 n,.string s]),(.agg #[.int .i64 k',.int .i64 n',.string s'])] w fun e w'=>e=.returned (.int .i64 (I5 k n s k' n' s'))/\Onw w w':=by
 go_enter Tryz.func143,Tryz.ntmps143;go_wp2_with fail;go_region_held3 (fun w'=>w'.cell? ⟨w.heap.size,0,none⟩=some (.int .i64 k)/\w'.cell? ⟨w.heap.size,1,none⟩=some (.int .i64 n)/\w'.cell? ⟨w.heap.size,2,none⟩=some (.string s)/\w'.cell? ⟨w.heap.size+1,0,none⟩=some (.int .i64 k')/\w'.cell? ⟨w.heap.size+1,1,none⟩=some (.int .i64 n')/\w'.cell? ⟨w.heap.size+1,2,none⟩=some (.string s')) (go_keep) (first|(go_at_call 144;refine(A2b _ _ _).mono ?_;rintro e w' ⟨rfl,rfl⟩)|(go_at_call 171;refine(B1B _ _ _).mono ?_;rintro e w' ⟨rfl,rfl⟩)|(go_at_call 170;refine cM8 (A9r _ (I0 k k') (I0 n n') (V8 s s') _ ?h0 ?h1 ?h2) ?hk;(case h0=>go_simp);(case h1=>go_simp);(case h2=>go_simp);rintro e w' ⟨rfl,rfl⟩));all_goals go_wp2
 all_goals(go_returns;refine⟨Z8 ?_,?_⟩)
 all_goals first|rfl|(repeat (first|exact Onw.refl _|refine Onw.drew ?_|refine Onw.alloc ?_ _))
theorem B8z (v u:Value)(vs us:List V3)(w:World)(hr:E3 w v vs)(hu:E3 w u us):Calls Tryz.prog 115 #[v,u] w fun e w'=>e=.returned (.int .i64 (cR8 vs us))/\Onw w w':=by
 obtain⟨a,c,b,o,rfl,hl,hc,ha⟩:=hr.pick;obtain⟨a',c',b',o',rfl,hl',hc',ha'⟩:=hu.pick;unfold maxLen at hc hc';clear hr hu;go_enter Tryz.func115,Tryz.ntmps115;go_wp2;go_loopw [5] (fun i wr=> ∃k:Nat,k<=vs.length/\k<=us.length/\i=.int .i64 k/\Onw w wr/\cR8 vs us=cR8 (vs.drop k) (us.drop k)) (fun i _=>vs.length - (intOf i).toNat)
 case atStart=>exact⟨0,Nat.zero_le _,Nat.zero_le _,rfl,Onw.refl _,by simp⟩
 case round=>
  obtain⟨k,hk,hk',rfl,hO,heq⟩:=hrel;have hb:=hO.1;have HE:Hid (cR8 vs us=cR8 (vs.drop k) (us.drop k)):=heq;clear heq;by_cases hlt:k<vs.length
  ·by_cases U8:k<us.length
   ·have hzb:=hb.size;obtain⟨rfl,hblt,hL⟩:=ha k hlt;obtain⟨rfl,hblt',hL'⟩:=ha' k U8;obtain⟨x,hx,c0,c1,c2,hbr⟩:=hL.at hblt hb hlt;obtain⟨y,hy,c0',c1',c2',A0k⟩:=hL'.at hblt' hb U8;have HS:Hid (cR8 (vs.drop k) (us.drop k)=if M2 x y=0 then cR8 (vs.drop (k+1)) (us.drop (k+1))else M2 x y):=A6x hx hy;clear ha ha' hL hL' hx hy;go_wp2_with fail;go_region_held3 (fun w'=>w'.cell? ⟨b,o+k*3,none⟩=some (.int .i64 x.k)/\w'.cell? ⟨b,o+k*3+1,none⟩=some (.int .i64 x.n)/\w'.cell? ⟨b,o+k*3+2,none⟩=some (.string x.s)/\w'.cell? ⟨b',o'+k*3,none⟩=some (.int .i64 y.k)/\w'.cell? ⟨b',o'+k*3+1,none⟩=some (.int .i64 y.n)/\w'.cell? ⟨b',o'+k*3+2,none⟩=some (.string y.s)) (refine⟨?_,?_,?_,?_,?_,?_⟩<;>first|(go_simp;done)|(exact cL8 (by assumption) (by go_simp))) (first|(go_at_call 143;refine(B9U _ _ _ _ _ _ _).mono ?_;rintro e w1 ⟨rfl,hO1⟩;have hb1:=hO1.1));by_cases hz:I5 x.k x.n x.s y.k y.n y.s=0
    ·go_wp2
     go_roundw
     case rel=>
      refine⟨k+1,hlt,U8,by simp,?_,?_⟩
      ·repeat (first|exact hO|refine Onw.drew ?_|refine Onw.trans ?_ hO1)
      rw[HE.out,HS.out,if_pos (show M2 x y=0 from hz)]
     case measure=>simp[intOf];omega
    ·go_wp2;go_returns;refine⟨Z8 ?_,by(repeat (first|exact hO|refine Onw.drew ?_|refine Onw.trans ?_ hO1))⟩;rw[HE.out,HS.out,if_neg (show ¬M2 x y=0 from hz)];rfl
   ·have HN:Hid (cR8 (vs.drop k) (us.drop k)=I0 vs.length us.length):=A2f hk hk' (by omega);clear ha ha';go_wp2_with(go_at_call 144;refine(A2b _ _ _).mono ?_;rintro e w1 ⟨rfl,rfl⟩);all_goals(go_returns;refine⟨Z8 ?_,by(repeat (first|exact hO|refine Onw.drew ?_))⟩)
    all_goals(rw[HE.out,HN.out];try rfl)
    all_goals(unfold I0;first|(rw[if_pos (by omega)];done)|(rw[if_neg (by omega),if_pos (by omega)];done)|(rw[if_neg (by omega),if_neg (by omega)];done))
  ·have HN:Hid (cR8 (vs.drop k) (us.drop k)=I0 vs.length us.length):=A2f hk hk' (by omega);clear ha ha';go_wp2_with(go_at_call 144;refine(A2b _ _ _).mono ?_;rintro e w1 ⟨rfl,rfl⟩);all_goals(go_returns;refine⟨Z8 ?_,by(repeat (first|exact hO|refine Onw.drew ?_))⟩)
   all_goals(rw[HE.out,HN.out];try rfl)
   all_goals(unfold I0;first|(rw[if_pos (by omega)];done)|(rw[if_neg (by omega),if_pos (by omega)];done)|(rw[if_neg (by omega),if_neg (by omega)];done))
theorem B4J (v u:Value)(vs us:List V3)(n m:Int)(w:World)(hr:E3 w v vs)(hu:E3 w u us):Calls Tryz.prog 189 #[.agg #[v,.int .i64 n],.agg #[u,.int .i64 m]] w fun e w'=>e=.returned (.int .i64 (cR8 vs us))/\Onw w w':=by
 obtain⟨a,c,b,o,rfl,_⟩:=hr.pick;obtain⟨a',c',b',o',rfl,_⟩:=hu.pick;have h0:Onw w ((w.alloc (.cells #[.slice a vs.length c,.int .i64 n] 116)).alloc (.cells #[.slice a' us.length c',.int .i64 m] 116)):=((Onw.refl w).alloc _).alloc _;have Q7:=B8z _ _ vs us _ (hr.below h0.1) (hu.below h0.1);go_enter Tryz.func189,Tryz.ntmps189;go_wp2_with(go_at_call 115;refine cM8 Q7 ?_;rintro e w1 ⟨rfl,hO1⟩);go_returns;exact⟨rfl,h0.trans hO1⟩
end
section
open Go.RowKit Go.Deep
theorem P5.rowsF {w:World}{B:Nat}{cs:List C2}{g:Nat->Nat}(h:P5 w B cs g cs.length)(hl:∀x∈cs,x.r.length<=maxLen)(hm:cs.length<=maxLen):∃F,C6 w (.slice (some ⟨B,0,none⟩) cs.length cs.length) cs F/\D5 w B F:=by
 obtain⟨f,hf,he⟩:=h.own;by_cases hne:cs=[]
 ·exact⟨[],⟨_,_,[],rfl,Nat.le_refl _,hm,(fun x=>by cases x),by rw[hne];rfl,fun _=>rfl,fun x=>absurd hne x⟩,by simp[D5,N9]⟩
 let G:List (List Nat):=(List.range cs.length).map fun i=>if(cs.getD i ⟨[],0⟩).r=[]then[]else[g i]
 have hGl:G.length=cs.length:=by simp[G]
 have hGi:∀i q,G[i]?=some q->i<cs.length/\q=if(cs.getD i ⟨[],0⟩).r=[]then[]else[g i]:=by
  intro i q hq;have hi:i<cs.length:=by have:=(gE1 hq).1;omega
  refine⟨hi,?_⟩;simp[G,hi]at hq;rw[<-hq];simp[hi]
 have O9:∀b∈G.flatten,∃i,i<cs.length/\b=g i:=by
  intro b hb;obtain⟨q,hq,hbq⟩:=List.mem_flatten.1 hb;obtain⟨i,hi,rfl⟩:=List.mem_iff_getElem.1 hq;obtain⟨hi',e⟩:=hGi i G[i] (by simp);rw[e]at hbq;split at hbq
  ·cases hbq
  ·exact⟨i,hi',List.mem_singleton.1 hbq⟩
 refine⟨B::G.flatten,⟨_,_,G,rfl,Nat.le_refl _,hm,(fun x=>by cases x),hGl,fun x=>absurd x hne,fun _=>⟨B,0,rfl,hf.lt,rfl,fun i x q hx hq=>?_⟩⟩,?_,fun b hb=>?_,fun b hb o=>?_⟩
 ·obtain⟨hi,eq⟩:=hGi i q hq;obtain⟨e0,e1⟩:=he i x hi hx;have ex:cs.getD i ⟨[],0⟩=x:=by simp[List.getD,hx]
  rw[ex]at eq;have J5:=h.row i x hi hx;refine⟨.slice (some ⟨g i,0,none⟩) x.r.length x.r.length,by rw[Nat.zero_add,hf.cell (by omega),e0],⟨_,_,rfl,Nat.le_refl _,hl x (mg8 hx),(fun x=>by cases x),fun e=>by rw[eq,if_pos e],fun hn=>⟨g i,0,rfl,J5.lt,by rw[eq,if_neg hn],?_⟩⟩,by rw[Nat.zero_add,hf.cell (by omega),e1]⟩;refine A15.2 fun j hj=>?_;rw[Nat.zero_add];exact J5.cell hj
 ·refine List.nodup_cons.2 ⟨fun hb=>?_,?_⟩
  ·obtain⟨i,hi,e⟩:=O9 B hb;have:=h.above i hi;omega
  ·rw[List.Nodup,List.pairwise_flatten];constructor
   ·intro q hq;obtain⟨i,hi,rfl⟩:=List.mem_iff_getElem.1 hq;obtain⟨hi',e⟩:=hGi i G[i] (by simp);rw[e];split<;>simp
   ·rw[List.pairwise_iff_getElem];intro i j hi hj hij x hx y hy;obtain⟨hi',ei⟩:=hGi i G[i] (by simp);obtain⟨hj',ej⟩:=hGi j G[j] (by simp);rw[ei]at hx;rw[ej]at hy;split at hx
    ·cases hx
    ·split at hy
     ·cases hy
     ·have:=h.up i j hij hj';have e1:=List.mem_singleton.1 hx;have e2:=List.mem_singleton.1 hy;omega
 ·rcases List.mem_cons.1 hb with rfl|hb
  ·exact Nat.le_refl _
  ·obtain⟨i,hi,rfl⟩:=O9 b hb;exact Nat.le_of_lt (h.above i hi)
 ·rcases List.mem_cons.1 hb with rfl|hb
  ·exact hf.frozen o
  ·obtain⟨i,hi,rfl⟩:=O9 b hb;exact(h.row i cs[i] hi (by simp)).frozen o
end
end Go.Proofs.YteekfcdllaceoaaGreatDoor
