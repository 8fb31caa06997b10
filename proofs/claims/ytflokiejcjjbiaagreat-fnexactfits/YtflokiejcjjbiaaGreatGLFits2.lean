/- Own texts, joined: contracts that the law's proof goes by. -/
import Derived.Test.YtflokiejcjjbiaaGreatGLFits1
import Derived.Deep.RegionHeld3
import Derived.KernelRfl
set_option maxHeartbeats 16000000
set_option maxRecDepth 100000
set_option linter.unusedVariables false
set_option linter.unusedSimpArgs false
namespace Go.Proofs.YtflokiejcjjbiaaGreat
section
variable {P:Program} {md:Region.Mode} {ops:Array Oper} {Q:Exit→Act→World→Prop} {S:World→Prop}
theorem takeYes {i d:Nat}{oi:Oper}{v:Value}{fuel:Nat}{listed:Array Bool}{ts:Array Value}{ds:List _}{w:World}(hi:ops[i]?=some oi)(hd:oi.dst=some d)(hs:Region.noSelect ops=true) (hf:Region.free md ops listed i=true) (hr:(Region.ready md ops listed).contains i=true)(hQ:∀c a w,Q (.panic c) (a.put oi.dst v) w→Q (.panic c) a w) (hw:Region.wanted oi (yielded ops ts)=true) (hS:S w)(hy:∀w,S w→(execOp (Act.eval ⟨ts,ds⟩) oi).run P w=.ok (.value v) w)(h:wpAnyH P md ops Q S fuel (listed.setIfInBounds i true) ⟨ts.setIfInBounds d v,ds⟩ w):wpAnyH P md ops Q S (fuel+1) listed ⟨ts,ds⟩ w:=by
 refine wpAnyH_take hi hs hf hr hQ (Or.inl ⟨hw,hy⟩) hS ?_;rw[hd];exact h
theorem takeNo {i d:Nat}{oi:Oper}{fuel:Nat}{listed:Array Bool}{ts:Array Value}{ds:List _}{w:World}(hi:ops[i]?=some oi)(hd:oi.dst=some d)(hs:Region.noSelect ops=true) (hf:Region.free md ops listed i=true) (hr:(Region.ready md ops listed).contains i=true)(hQ:∀c a w,Q (.panic c) (a.put oi.dst undef) w→Q (.panic c) a w) (hw:Region.wanted oi (yielded ops ts)=false) (hS:S w)(h:wpAnyH P md ops Q S fuel (listed.setIfInBounds i true) ⟨ts.setIfInBounds d undef,ds⟩ w):wpAnyH P md ops Q S (fuel+1) listed ⟨ts,ds⟩ w:=by
 refine wpAnyH_take hi hs hf hr hQ (Or.inr ⟨hw,rfl⟩) hS ?_;rw[hd];exact h
end
section
open Go
section
variable {P:Program} {ops:Array Oper} {Q:Exit→Act→World→Prop} {md:Region.Mode} {S:World→Prop} {z:Nat}
def wpAnyE (P:Program)(md:Region.Mode)(ops:Array Oper)(Q:Exit→Act→World→Prop)(S:World→Prop)(z:Nat):Nat→Array Bool→Act→World→Prop
 |0,listed,a,w=>Region.ready md ops listed=[]∧Q .normal a w
 |fuel+1,listed,a,w=>
  (Region.ready md ops listed=[]→Q .normal a w)∧
  ∀i∈Region.ready md ops listed,wpOp P ops Q i (fun a' w'=>(i≠z→S w')∧wpAnyE P md ops Q S z fuel (listed.setIfInBounds i true) a' w') a w
theorem wpAny_of_E:∀ (fuel:Nat) (listed:Array Bool) (a:Act) (w:World),wpAnyE P md ops Q S z fuel listed a w→wpAny P md ops Q fuel listed a w
 |0,_,_,_,h=>h
 |fuel+1,_,_,_,h=>⟨h.1,fun i hi=>wpOp_mono (fun a' w' h'=>wpAny_of_E fuel _ a' w' h'.2) (h.2 i hi)⟩
theorem no_wait {listed:Array Bool}{i j:Nat}{oj:Oper}(hi:i∈Region.ready md ops listed)(hj:j∈Region.ready md ops listed)(ho:ops[j]?=some oj){e:Edge}(he:e∈oj.after)(hb:Region.binds md e=true):e.on≠i:=by
 obtain⟨_,o',ho',hall⟩:=mem_ready.1 hj;obtain rfl:oj=o':=by rw[ho]at ho';exact Option.some.inj ho'
 have hin:=(mem_ready.1 hi).1;have hon:=hall e he hb;rintro rfl;cases hl:listed[e.on]?<;>simp_all [Array.getD_eq_getD_getElem?]
theorem unlisted {listed:Array Bool}{j k:Nat}(hj:listed.getD j true=false)(hk:(listed.setIfInBounds j true).getD k true=false):listed.getD k true=false:=by
 by_cases e:j=k
 ·exact e▸hj
 ·rwa [getD_set_ne true e]at hk
theorem firstE {i:Nat}{oi oz:Oper}{v:Value}(hi:ops[i]?=some oi)(hz:ops[z]?=some oz){ez:Edge}(hez:ez∈oz.after)(hbz:Region.binds md ez=true)(hon:ez.on=i)(hsel:∀ (j:Nat) (o:Oper) cs b,ops[j]?=some o→o.op≠.select cs b)(hQ:∀c a w,Q (.panic c) (a.put oi.dst v) w→Q (.panic c) a w) (fuel:Nat):∀ (listed:Array Bool) (a:Act) (w:World),(∀j oj,ops[j]?=some oj→j≠i→listed.getD j true=false→(∀e∈oj.after,Region.binds md e=true→e.on≠i)→oi.apart ops oj=true)→
   i∈Region.ready md ops listed→YieldsIf P ops S oi v a→S w→wpAnyE P md ops Q S z fuel (listed.setIfInBounds i true) (a.put oi.dst v) w→wpAnyE P md ops Q S z (fuel+1) listed a w:=by
 induction fuel with
 |zero=>
  intro listed a w _ hr hy hS H;constructor
  ·intro e0;rw[e0]at hr;exact absurd hr (List.not_mem_nil)
  ·intro j hj;rcases Nat.decEq j i with hne|heq
   ·exact absurd (H.1▸ready_mono hj hne) (List.not_mem_nil)
   ·subst heq;exact hy.wpOp hi hS (And.intro (fun _=>hS) H)
 |succ m step=>
  intro listed a w hap hr hy hS H;constructor
  ·intro e0;rw[e0]at hr;exact absurd hr (List.not_mem_nil)
  ·intro j hj;rcases Nat.decEq j i with hne|heq
   ·obtain⟨hun,oj,ho,_⟩:=mem_ready.1 hj;have hjz:j≠z:=by
     rintro rfl;obtain rfl:oj=oz:=Option.some.inj (ho.symm.trans hz);exact no_wait hr hj ho hez hbz hon
    have hno:=fun e he hb=>no_wait (e:=e) hr hj ho he hb;have both:=wpOp_putIf ho (hap j oj ho hne hun hno) (fun cs b=>hsel i oi cs b hi) (fun cs b=>hsel j oj cs b ho) hQ hy (H.2 j (ready_mono hj hne));refine wpOp_mono ?_ both;rintro a' w' ⟨hy',hS',hrest⟩;rw[←Array.setIfInBounds_comm _ _ hne]at hrest;exact⟨hS',step _ a' w' (fun k ok hk hki hku=>hap k ok hk hki (unlisted hun hku)) (ready_mono hr (Ne.symm hne)) hy' (hS' hjz) hrest⟩
   ·subst heq;exact hy.wpOp hi hS (And.intro (fun _=>hS) H)
def waits (md:Region.Mode)(ops:Array Oper)(z i:Nat):Bool:=match ops[z]? with
 |some oz=>oz.after.any fun e=>Region.binds md e &&e.on==i
 |none=>false
theorem takeE {i d:Nat}{oi:Oper}{v:Value}{fuel:Nat}{listed:Array Bool}{ts:Array Value}{ds:List _}{w:World}(hi:ops[i]?=some oi)(hd:oi.dst=some d)(hs:Region.noSelect ops=true) (hf:Region.free md ops listed i=true) (hr:(Region.ready md ops listed).contains i=true) (hwt:waits md ops z i=true)(hQ:∀c a w,Q (.panic c) (a.put oi.dst v) w→Q (.panic c) a w) (hw:Region.wanted oi (yielded ops ts)=true) (hS:S w)(hy:∀w,S w→(execOp (Act.eval ⟨ts,ds⟩) oi).run P w=.ok (.value v) w)(h:wpAnyE P md ops Q S z fuel (listed.setIfInBounds i true) ⟨ts.setIfInBounds d v,ds⟩ w):wpAnyE P md ops Q S z (fuel+1) listed ⟨ts,ds⟩ w:=by
 unfold waits at hwt;split at hwt
 ·rename_i oz hz
  obtain⟨e,he,hb⟩:=Array.any_eq_true'.1 hwt;simp only[Bool.and_eq_true,beq_iff_eq]at hb;refine firstE hi hz he hb.1 hb.2 (Region.noSelect_spec hs) hQ fuel listed _ w (Region.free_spec hi hf) (by simpa using hr) (Or.inl ⟨hw,hy⟩) hS ?_;rw[hd];exact h
 ·cases hwt
theorem oneE {i:Nat}{o:Oper}{fuel:Nat}{listed:Array Bool}{a:Act}{w:World}(hr:Region.ready md ops listed=[i])(ho:ops[i]?=some o)(h:∀K':Act→World→Prop,Shut (∀a w,(i≠z→S w)→((i≠z→S w)→wpAnyE P md ops Q S z fuel (listed.setIfInBounds i true) a w)→K' a w)→if Region.wanted o (yielded ops a.tmps)=true then Oper.wp P o a w K' Q else K' (a.put o.dst undef) w):wpAnyE P md ops Q S z (fuel+1) listed a w:=by
 refine⟨fun h0=>(by rw[h0]at hr;cases hr),fun j hj=>?_⟩;rw[hr]at hj;rcases List.mem_singleton.1 hj with rfl;exact wpOp_step ho (fun K' hK=>h K' (fun a w hS hW=>hK a w ⟨hS,hW hS⟩))
theorem doneE {listed:Array Bool}{a:Act}{w:World}(hr:Region.ready md ops listed=[])(h:Q .normal a w):∀fuel,wpAnyE P md ops Q S z fuel listed a w
 |0=>⟨hr,h⟩
 |_+1=>⟨fun _=>h,by rw[hr];simp⟩
theorem startE {id:Nat}{a:Act}{w:World}(z:Nat)(S:World→Prop)(hm:P.follows .mixedOrders=true)(hS:S w.drew)(h:S w.drew→wpAnyE P .any ops Q S z ops.size (Array.replicate ops.size false) a w.drew):(Code.region id ops true).wp P Q a w:=
 wp_region_any hm (wpAny_of_E _ _ _ _ (h hS))
end
end
section
open Go.RowKit
section
variable {P:Program} {md:Region.Mode} {ops:Array Oper} {Q:Exit→Act→World→Prop} {S:World→Prop}
theorem tkY (i d:Nat){oi:Oper}{v:Value}{fuel:Nat}{listed:Array Bool}{ts:Array Value}{ds:List _}{w:World}(hi:ops[i]?=some oi)(hd:oi.dst=some d)(h:wpAnyH P md ops Q S fuel (listed.setIfInBounds i true) ⟨ts.setIfInBounds d v,ds⟩ w)(hy:∀w,S w→(execOp (Act.eval ⟨ts,ds⟩) oi).run P w=.ok (.value v) w:=by intro w' h;go_simp;try exact rfl)(hs:Region.noSelect ops=true:=by kernel_rfl) (hf:Region.free md ops listed i=true:=by kernel_rfl) (hr:(Region.ready md ops listed).contains i=true:=by kernel_rfl)(hQ:∀c a w,Q (.panic c) (a.put oi.dst v) w→Q (.panic c) a w:=by exact fun _ _ _ h=>h) (hw:Region.wanted oi (yielded ops ts)=true:=by rfl) (hS:S w:=by assumption):wpAnyH P md ops Q S (fuel+1) listed ⟨ts,ds⟩ w:=
 takeYes hi hd hs hf hr hQ hw hS hy h
theorem tkX {i d:Nat}{oi:Oper}{v:Value}{fuel:Nat}{listed:Array Bool}{ts:Array Value}{ds:List _}{w:World}(hi:ops[i]?=some oi)(hd:oi.dst=some d)(hy:∀w,S w→(execOp (Act.eval ⟨ts,ds⟩) oi).run P w=.ok (.value v) w)(h:wpAnyH P md ops Q S fuel (listed.setIfInBounds i true) ⟨ts.setIfInBounds d v,ds⟩ w)(hs:Region.noSelect ops=true:=by kernel_rfl) (hf:Region.free md ops listed i=true:=by kernel_rfl) (hr:(Region.ready md ops listed).contains i=true:=by kernel_rfl)(hQ:∀c a w,Q (.panic c) (a.put oi.dst v) w→Q (.panic c) a w:=by exact fun _ _ _ h=>h) (hw:Region.wanted oi (yielded ops ts)=true:=by rfl) (hS:S w:=by assumption):wpAnyH P md ops Q S (fuel+1) listed ⟨ts,ds⟩ w:=
 takeYes hi hd hs hf hr hQ hw hS hy h
theorem tkN (i d:Nat){oi:Oper}{fuel:Nat}{listed:Array Bool}{ts:Array Value}{ds:List _}{w:World}(hi:ops[i]?=some oi)(hd:oi.dst=some d)(h:wpAnyH P md ops Q S fuel (listed.setIfInBounds i true) ⟨ts.setIfInBounds d undef,ds⟩ w)(hs:Region.noSelect ops=true:=by kernel_rfl) (hf:Region.free md ops listed i=true:=by kernel_rfl) (hr:(Region.ready md ops listed).contains i=true:=by kernel_rfl)(hQ:∀c a w,Q (.panic c) (a.put oi.dst undef) w→Q (.panic c) a w:=by exact fun _ _ _ h=>h) (hw:Region.wanted oi (yielded ops ts)=false:=by rfl) (hS:S w:=by assumption):wpAnyH P md ops Q S (fuel+1) listed ⟨ts,ds⟩ w:=
 takeNo hi hd hs hf hr hQ hw hS h
theorem rdH (i:Nat){o:Oper}{fuel:Nat}{listed:Array Bool}{a:Act}{w:World}(ho:ops[i]?=some o)(h:∀K':Act→World→Prop,Shut (∀a w,S w→(S w→wpAnyH P md ops Q S fuel (listed.setIfInBounds i true) a w)→K' a w)→if Region.wanted o (yielded ops a.tmps)=true then Oper.wp P o a w K' Q else K' (a.put o.dst undef) w)(hr:Region.ready md ops listed=[i]:=by kernel_rfl):wpAnyH P md ops Q S (fuel+1) listed a w:=
 wpAnyH_ready hr (by simp) (AllReadyH.cons ho h AllReadyH.nil)
theorem onE {z:Nat}(i:Nat){o:Oper}{fuel:Nat}{listed:Array Bool}{a:Act}{w:World}(ho:ops[i]?=some o)(h:∀K':Act→World→Prop,Shut (∀a w,(i≠z→S w)→((i≠z→S w)→wpAnyE P md ops Q S z fuel (listed.setIfInBounds i true) a w)→K' a w)→if Region.wanted o (yielded ops a.tmps)=true then Oper.wp P o a w K' Q else K' (a.put o.dst undef) w)(hr:Region.ready md ops listed=[i]:=by kernel_rfl):wpAnyE P md ops Q S z (fuel+1) listed a w:=
 oneE hr ho h
theorem tkO {z:Nat}{i d:Nat}{oi:Oper}{v:Value}{fuel:Nat}{listed:Array Bool}{ts:Array Value}{ds:List _}{w:World}(hi:ops[i]?=some oi)(hd:oi.dst=some d)(hy:∀w,S w→(execOp (Act.eval ⟨ts,ds⟩) oi).run P w=.ok (.value v) w)(h:wpAnyE P md ops Q S z fuel (listed.setIfInBounds i true) ⟨ts.setIfInBounds d v,ds⟩ w)(hs:Region.noSelect ops=true:=by kernel_rfl) (hf:Region.free md ops listed i=true:=by kernel_rfl) (hr:(Region.ready md ops listed).contains i=true:=by kernel_rfl) (hwt:waits md ops z i=true:=by kernel_rfl)(hQ:∀c a w,Q (.panic c) (a.put oi.dst v) w→Q (.panic c) a w:=by exact fun _ _ _ h=>h) (hw:Region.wanted oi (yielded ops ts)=true:=by rfl) (hS:S w:=by assumption):wpAnyE P md ops Q S z (fuel+1) listed ⟨ts,ds⟩ w:=
 takeE hi hd hs hf hr hwt hQ hw hS hy h
theorem tkE {z:Nat}(i d:Nat){oi:Oper}{v:Value}{fuel:Nat}{listed:Array Bool}{ts:Array Value}{ds:List _}{w:World}(hi:ops[i]?=some oi)(hd:oi.dst=some d)(h:wpAnyE P md ops Q S z fuel (listed.setIfInBounds i true) ⟨ts.setIfInBounds d v,ds⟩ w)(hy:∀w,S w→(execOp (Act.eval ⟨ts,ds⟩) oi).run P w=.ok (.value v) w:=by intro w' h;go_simp;try exact rfl)(hs:Region.noSelect ops=true:=by kernel_rfl) (hf:Region.free md ops listed i=true:=by kernel_rfl) (hr:(Region.ready md ops listed).contains i=true:=by kernel_rfl) (hwt:waits md ops z i=true:=by kernel_rfl)(hQ:∀c a w,Q (.panic c) (a.put oi.dst v) w→Q (.panic c) a w:=by exact fun _ _ _ h=>h) (hw:Region.wanted oi (yielded ops ts)=true:=by rfl) (hS:S w:=by assumption):wpAnyE P md ops Q S z (fuel+1) listed ⟨ts,ds⟩ w:=
 takeE hi hd hs hf hr hwt hQ hw hS hy h
end
abbrev cL8:= @cell_later
abbrev bl8:= @World.block_lt_of_cell?
abbrev cM8:= @Calls.mono
theorem mg8 {α:Type}{l:List α}{i:Nat}{a:α}(h:l[i]?=some a):a∈l:=List.mem_of_getElem? h
abbrev bA8:= @Below.heap_alloc
abbrev bS8:= @Below.heap_setCell
abbrev cO8:= @World.cell?_setCell_other
abbrev cS8:= @World.cell?_setCell_same
theorem gE1 {α:Type}{l:List α}{i:Nat}{a:α}(h:l[i]?=some a):∃h:i<l.length,l[i]=a:=List.getElem?_eq_some_iff.1 h
theorem bex {N:Nat}{w w':World}(h:Below N w w':=by repeat (first|(with_reducible exact Below.refl _ _)|(with_reducible refine Below.drew ?_)|(with_reducible refine Below.alloc ?_ ?hh _;case hh=>first|(simp;done)|(simp;omega)|omega)|(with_reducible refine Below.setCell ?_ ?hh _;case hh=>first|(simp;done)|(simp;omega)|omega)|refine bstep (by assumption) (by first|(simp;done)|(simp;omega)|omega) ?_)):Below N w w':=h
theorem bela {N:Nat}{w w':World}(h:Below N w w':=by repeat (first|exact Below.refl _ _|refine Below.drew ?_|refine Below.alloc ?_ (by first|(simp;done)|(simp;omega)|omega) _|refine Below.setCell ?_ (by first|(simp;done)|(simp;omega)|omega) _|refine bstep (by assumption) (by first|(simp;done)|(simp;omega)|omega) ?_)):Below N w w':=h
end
end Go.Proofs.YtflokiejcjjbiaaGreat
