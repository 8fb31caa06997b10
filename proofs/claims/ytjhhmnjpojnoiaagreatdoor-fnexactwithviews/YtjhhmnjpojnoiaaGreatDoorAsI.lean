/- Own text. errors.As at a target that is a *fault: the contracts of its two ways (no error; a fault), and of impl.isFault. -/
import Derived.Test.YtjhhmnjpojnoiaaGreatDoorGLWithViews1
import Derived.LaidEql
import Derived.Stop.Asserts
import Derived.RowKitTokens
import Derived.Handy
import Derived.Below
import Derived.WalkKit
set_option maxHeartbeats 16000000
set_option maxRecDepth 100000
set_option linter.unusedVariables false
set_option linter.unusedSimpArgs false
namespace Go.Proofs.YtjhhmnjpojnoiaaGreatDoor
section
section
open Go.RowKit Go.Extern.Stop Go.Stop Go.Extern
theorem as_nil (t:Value)(w:World):Calls Tryz.prog 99 #[.nilIface,t] w fun e w'=>e=.returned (.bool false)∧w'=w:=by
 go_enter Tryz.func99,Tryz.ntmps99;go_wp2
 go_ret
 exact⟨rfl,rfl⟩
theorem asTo (t:Addr)(w:World):(ReflectliteValue.unpack (.iface 157 (.pointer (some t)))).run Tryz.prog w
  =.ok (.agg #[.pointer (some ⟨1,157,none⟩),.pointer (some ⟨w.heap.size,0,none⟩),.int .u64 150]) (w.alloc (.cells #[.pointer (some t)] 157)):=by kernel_rfl
theorem asType (a:Addr)(w:World):(ReflectliteValue.methodAny (ReflectliteValue.valueError "reflectlite.Value.Type" 0) (fun t _ _ _=>ReflectliteType.toType t) #[.agg #[.pointer (some ⟨1,157,none⟩),.pointer (some a),.int .u64 150]]).run Tryz.prog w
  =.ok (.iface 216 (.agg #[.pointer (some ⟨1,157,none⟩)])) w:=by kernel_rfl
theorem asMKind (h:Value)(w:World):(Go.method 400 216 (.agg #[h]) "Kind").run Tryz.prog w=.ok (185,h) w:=by kernel_rfl
theorem asKindP (w:World):((ReflectliteType.abiMethod fun t=>(fun a:Nat=>Value.int IntKind.u8 (a:Int))<$>Rtype.kind t) #[.pointer (some ⟨1,157,none⟩)]).run Tryz.prog w=.ok (.int .u8 22) w:=by kernel_rfl
theorem asKindF (w:World):((ReflectliteType.abiMethod fun t=>(fun a:Nat=>Value.int IntKind.u8 (a:Int))<$>Rtype.kind t) #[.pointer (some ⟨1,153,none⟩)]).run Tryz.prog w=.ok (.int .u8 25) w:=by kernel_rfl
theorem as_rlm (z:Sem Value)(f:TypeId→Addr→Nat→Nat→Sem Value)(v:Value):ReflectliteValue.method z f #[v]=(do match←ReflectliteValue.parts v with|none=>z|some (t,a,fl)=>f t a fl (fl %32)):=rfl
theorem asPartsP (a:Addr)(w:World):(ReflectliteValue.parts (.agg #[.pointer (some ⟨1,157,none⟩),.pointer (some a),.int .u64 150])).run Tryz.prog w=.ok (some (157,a,150)) w:=by kernel_rfl
theorem asIsNil (a p:Addr)(W:World)(ha:W.cell? a=some (.pointer (some p))):(ReflectliteValue.method (ReflectliteValue.valueError "reflectlite.Value.IsNil" 0) ReflectliteValue.isNil #[.agg #[.pointer (some ⟨1,157,none⟩),.pointer (some a),.int .u64 150]]).run Tryz.prog W=.ok (.bool false) W:=by
 rw[as_rlm];simp only[Sem.run_bind,asPartsP,Result.andThen];simp[ReflectliteValue.isNil,loadVar,isAgg,underlying,Tryz.underlying157,ha,Result.andThen]
theorem asMElem (h:Value)(w:World):(Go.method 400 216 (.agg #[h]) "Elem").run Tryz.prog w=.ok (198,.agg #[h]) w:=by kernel_rfl
theorem asMImpl (h:Value)(w:World):(Go.method 400 216 (.agg #[h]) "Implements").run Tryz.prog w=.ok (199,.agg #[h]) w:=by kernel_rfl
theorem asMAss (h:Value)(w:World):(Go.method 400 216 (.agg #[h]) "AssignableTo").run Tryz.prog w=.ok (196,.agg #[h]) w:=by kernel_rfl
theorem asElemT (w:World):(ReflectliteType.method ReflectliteType.elem #[.agg #[.pointer (some ⟨1,157,none⟩)]]).run Tryz.prog w=.ok (.iface 216 (.agg #[.pointer (some ⟨1,153,none⟩)])) w:=by kernel_rfl
theorem asImpl (w:World):(ReflectliteType.relation "Implements" ReflectliteType.implements_ #[.agg #[.pointer (some ⟨1,153,none⟩)],.iface 216 (.agg #[.pointer (some ⟨1,119,none⟩)])]).run Tryz.prog w=.ok (.bool true) w:=by kernel_rfl
theorem asTypeOf (v:Value)(w:World):(ReflectliteType.typeOf #[.iface 153 v]).run Tryz.prog w=.ok (.iface 216 (.agg #[.pointer (some ⟨1,153,none⟩)])) w:=by kernel_rfl
theorem asAss (w:World):(ReflectliteType.relation "AssignableTo" ReflectliteType.assignableTo #[.agg #[.pointer (some ⟨1,153,none⟩)],.iface 216 (.agg #[.pointer (some ⟨1,153,none⟩)])]).run Tryz.prog w=.ok (.bool true) w:=by kernel_rfl
theorem asOf (k:Int)(w:World):(ReflectliteValue.unpack (.iface 153 (.agg #[.int .i64 k]))).run Tryz.prog w
  =.ok (.agg #[.pointer (some ⟨1,153,none⟩),.pointer (some ⟨w.heap.size,0,none⟩),.int .u64 153]) (w.alloc (.cells #[.int .i64 k] 153)):=by kernel_rfl
theorem asElemOf (w:World):(Rtype.elem? 157).run Tryz.prog w=.ok (some 153) w:=by kernel_rfl
theorem asMk (p:Addr)(w:World):(ReflectliteValue.mk 153 p ReflectliteValue.flagAddr).run Tryz.prog w=.ok (.agg #[.pointer (some ⟨1,153,none⟩),.pointer (some p),.int .u64 409]) w:=by kernel_rfl
theorem asElemV (a p:Addr)(W:World)(ha:W.cell? a=some (.pointer (some p))):(ReflectliteValue.method (ReflectliteValue.valueError "reflectlite.Value.Elem" 0) ReflectliteValue.elem #[.agg #[.pointer (some ⟨1,157,none⟩),.pointer (some a),.int .u64 150]]).run Tryz.prog W
   =.ok (.agg #[.pointer (some ⟨1,153,none⟩),.pointer (some p),.int .u64 409]) W:=by
 rw[as_rlm];simp only[Sem.run_bind,asPartsP,Result.andThen];simp[ReflectliteValue.elem,loadVar,isAgg,underlying,Tryz.underlying157,ha,Result.andThen,asElemOf,asMk]
theorem as_rls (v x:Value):ReflectliteValue.set #[v,x]=(do
  let(some (dst,a,fl),some (src,b,_)):=(←ReflectliteValue.parts v,←ReflectliteValue.parts x)
   |unsupported (.noEntry "extern/(internal/reflectlite.Value).Set.zeroValue")
  if fl/ReflectliteValue.flagAddr %2==0 then unsupported (.noEntry "extern/(internal/reflectlite.Value).Set.unaddressable")
  let val←loadVar src b
  if←Rtype.directlyAssignable dst src then storeVar dst a val
  else if←Rtype.implements dst src then
   if(←Rtype.kind src)==20 then
    match val with
    | .nilIface=>unsupported (.noEntry "extern/reflectlite: a nil value of one interface type handed on as a value of another")
    |_=>storeVar dst a val
   else storeVar dst a (.iface src val)
  else panicString ("reflectlite.Set: value of type " ++(←Rtype.spelt src)++ " is not assignable to type " ++(←Rtype.spelt dst))
  pure (.tuple #[])):=rfl
theorem asPartsA (a:Addr)(w:World):(ReflectliteValue.parts (.agg #[.pointer (some ⟨1,153,none⟩),.pointer (some a),.int .u64 409])).run Tryz.prog w=.ok (some (153,a,409)) w:=by kernel_rfl
theorem asPartsF (a:Addr)(w:World):(ReflectliteValue.parts (.agg #[.pointer (some ⟨1,153,none⟩),.pointer (some a),.int .u64 153])).run Tryz.prog w=.ok (some (153,a,153)) w:=by kernel_rfl
theorem asDirect (w:World):(Rtype.directlyAssignable 153 153).run Tryz.prog w=.ok true w:=by kernel_rfl
theorem asSize (w:World):(sizeOf 153).run Tryz.prog w=.ok 1 w:=by kernel_rfl
theorem asAgg (w:World):(isAgg 153).run Tryz.prog w=.ok true w:=by kernel_rfl
theorem asSet (ta:Nat)(b:Nat)(k:Int)(old:Value)(W:World)(hb:W.cell? ⟨b,0,none⟩=some (.int .i64 k))(ht:W.cell? ⟨ta,0,none⟩=some old)(hf:W.frozen? ⟨ta,0,none⟩=false):(ReflectliteValue.set #[.agg #[.pointer (some ⟨1,153,none⟩),.pointer (some ⟨ta,0,none⟩),.int .u64 409],.agg #[.pointer (some ⟨1,153,none⟩),.pointer (some ⟨b,0,none⟩),.int .u64 153]]).run Tryz.prog W
   =.ok (.tuple #[]) (W.setCell ⟨ta,0,none⟩ (.int .i64 k)):=by
 rw[as_rls];simp only[Sem.run_bind,asPartsA,asPartsF,Result.andThen];simp[ReflectliteValue.flagAddr,loadVar,asAgg,asSize,loadCells,loadCellsFrom,Addr.add,hb,Result.andThen,asDirect,storeVar,Value.cells,storeCells];rw[run_store Tryz.prog W _ _ _ (by rfl)];simp[ht,hf]
def ErrT (w:World):Prop:=w.cell? ⟨0,0,none⟩=some (.iface 216 (.agg #[.pointer (some ⟨1,119,none⟩)]))
theorem ErrT.lt {w:World}(h:ErrT w):0<w.heap.size:=bl8 _ _ h
theorem ErrT.below {w w':World}(h:ErrT w)(hb:Below w.heap.size w w'):ErrT w':=((bc8 hb).1 _ 0 h.lt).trans h
theorem as_fault (k:Int)(tb:Nat)(old:Value)(w:World)(hg:ErrT w)(ht0:w.cell? ⟨tb,0,none⟩=some old)(hf0:w.frozen? ⟨tb,0,none⟩=false):Calls Tryz.prog 99 #[.iface 153 (.agg #[.int .i64 k]),.iface 157 (.pointer (some ⟨tb,0,none⟩))] w fun ev w'=>ev=.returned (.bool true)∧w'=((((w.alloc (.cells #[.pointer (some ⟨tb,0,none⟩)] 157)).alloc (.cells #[.pointer (some ⟨1,157,none⟩),.pointer (some ⟨w.heap.size,0,none⟩),.int .u64 150] 191)).alloc (.cells #[.pointer (some ⟨1,157,none⟩),.pointer (some ⟨w.heap.size,0,none⟩),.int .u64 150] 191)).alloc (.cells #[.int .i64 k] 153)).setCell ⟨tb,0,none⟩ (.int .i64 k):=by
 have h6:= @run_callFunc_extern Tryz.prog 121 _ (fun args=>ReflectliteValue.unpack (args.getD 0 (.tuple #[]))) Tryz.func121 (by kernel_rfl) (by kernel_rfl) (by kernel_rfl) (by kernel_rfl);have h7:= @run_callFunc_extern Tryz.prog 122 _ (ReflectliteValue.methodAny (ReflectliteValue.valueError "reflectlite.Value.Type" 0) (fun t _ _ _=>ReflectliteType.toType t)) Tryz.func122 (by kernel_rfl) (by kernel_rfl) (by kernel_rfl) (by kernel_rfl);have h8:= @run_callFunc_extern Tryz.prog 123 _ (ReflectliteValue.method (ReflectliteValue.valueError "reflectlite.Value.IsNil" 0) ReflectliteValue.isNil) Tryz.func123 (by kernel_rfl) (by kernel_rfl) (by kernel_rfl) (by kernel_rfl);have h27:= @run_callFunc_extern Tryz.prog 185 _ (ReflectliteType.abiMethod fun t=>do pure (.int .u8 (←Rtype.kind t))) Tryz.func185 (by kernel_rfl) (by kernel_rfl) (by kernel_rfl) (by kernel_rfl);have h37:= @run_callFunc_extern Tryz.prog 198 _ (ReflectliteType.method ReflectliteType.elem) Tryz.func198 (by kernel_rfl) (by kernel_rfl) (by kernel_rfl) (by kernel_rfl);have h38:= @run_callFunc_extern Tryz.prog 199 _ (ReflectliteType.relation "Implements" ReflectliteType.implements_) Tryz.func199 (by kernel_rfl) (by kernel_rfl) (by kernel_rfl) (by kernel_rfl);have h10:= @run_callFunc_extern Tryz.prog 140 _ ReflectliteType.typeOf Tryz.func140 (by kernel_rfl) (by kernel_rfl) (by kernel_rfl) (by kernel_rfl);have h35:= @run_callFunc_extern Tryz.prog 196 _ (ReflectliteType.relation "AssignableTo" ReflectliteType.assignableTo) Tryz.func196 (by kernel_rfl) (by kernel_rfl) (by kernel_rfl) (by kernel_rfl)
 have h11:= @run_callFunc_extern Tryz.prog 141 _ (ReflectliteValue.method (ReflectliteValue.valueError "reflectlite.Value.Elem" 0) ReflectliteValue.elem) Tryz.func141 (by kernel_rfl) (by kernel_rfl) (by kernel_rfl) (by kernel_rfl);have h12:= @run_callFunc_extern Tryz.prog 142 _ ReflectliteValue.set Tryz.func142 (by kernel_rfl) (by kernel_rfl) (by kernel_rfl) (by kernel_rfl);have tO:=asTypeOf;have mA:=asMAss;have a25:=asAss;have v25:=asOf;have f6:=asTo;have f7:=asType;have mK:=asMKind;have mE:=asMElem;have mI:=asMImpl;have k27:=asKindP;have k25:=asKindF;have e27:=asElemT;have i25:=asImpl;have hlt:=hg.lt;have htl:tb<w.heap.size:=bl8 _ _ ht0;have n8:=asIsNil ⟨w.heap.size,0,none⟩ ⟨tb,0,none⟩ ((w.alloc (.cells #[.pointer (some ⟨tb,0,none⟩)] 157)).alloc (.cells #[.pointer (some ⟨1,157,none⟩),.pointer (some ⟨w.heap.size,0,none⟩),.int .u64 150] 191)) (by simp);have hg2:((w.alloc (.cells #[.pointer (some ⟨tb,0,none⟩)] 157)).alloc (.cells #[.pointer (some ⟨1,157,none⟩),.pointer (some ⟨w.heap.size,0,none⟩),.int .u64 150] 191)).cell? ⟨0,0,none⟩=some (.iface 216 (.agg #[.pointer (some ⟨1,119,none⟩)])):=by
  rw[World.cell?_alloc_lt _ _ ⟨0,0,none⟩ (by first|(simp;done)|(simp;omega)),World.cell?_alloc_lt _ _ ⟨0,0,none⟩ hlt];exact hg
 have el:=asElemV ⟨w.heap.size,0,none⟩ ⟨tb,0,none⟩ (((w.alloc (.cells #[.pointer (some ⟨tb,0,none⟩)] 157)).alloc (.cells #[.pointer (some ⟨1,157,none⟩),.pointer (some ⟨w.heap.size,0,none⟩),.int .u64 150] 191)).alloc (.cells #[.pointer (some ⟨1,157,none⟩),.pointer (some ⟨w.heap.size,0,none⟩),.int .u64 150] 191)) (by rw[World.cell?_alloc_lt _ _ ⟨w.heap.size,0,none⟩ (by simp;omega)];simp);have st:=asSet tb (w.heap.size+1+1+1) k old ((((w.alloc (.cells #[.pointer (some ⟨tb,0,none⟩)] 157)).alloc (.cells #[.pointer (some ⟨1,157,none⟩),.pointer (some ⟨w.heap.size,0,none⟩),.int .u64 150] 191)).alloc (.cells #[.pointer (some ⟨1,157,none⟩),.pointer (some ⟨w.heap.size,0,none⟩),.int .u64 150] 191)).alloc (.cells #[.int .i64 k] 153)) (by rw[World.cell?_alloc_at _ _ _ _ (by simp)];rfl) (by rw[World.cell?_alloc_lt _ _ ⟨tb,0,none⟩ (by simp;omega),World.cell?_alloc_lt _ _ ⟨tb,0,none⟩ (by simp;omega),World.cell?_alloc_lt _ _ ⟨tb,0,none⟩ (by simp;omega),World.cell?_alloc_lt _ _ ⟨tb,0,none⟩ htl];exact ht0) (by rw[World.frozen?_alloc_old _ _ ⟨tb,0,none⟩ (by simp;omega),World.frozen?_alloc_old _ _ ⟨tb,0,none⟩ (by simp;omega),World.frozen?_alloc_old _ _ ⟨tb,0,none⟩ (by simp;omega),World.frozen?_alloc_old _ _ ⟨tb,0,none⟩ (Nat.ne_of_lt htl)];exact hf0);clear hg;go_enter Tryz.func99,Tryz.ntmps99;go_wp2;refine wp_loop_rounds 1 ?_;rw[rounds_succ];go_wp2
 go_ret
 exact⟨rfl,rfl⟩
theorem isFault_nil (k:Int)(w:World):Calls Tryz.prog 72 #[.nilIface,.int .i64 k] w fun e w'=>e=.returned (.bool false)∧Below w.heap.size w w':=by
 have hA:=as_nil;go_enter Tryz.func72,Tryz.ntmps72;go_wp2_with fail;refine cM8 (hA _ _) ?_;rintro z w1 ⟨rfl,rfl⟩;go_wp2;go_returns;exact⟨rfl,bex⟩
theorem isFault_of (j k:Int)(w:World)(hg:ErrT w):Calls Tryz.prog 72 #[.iface 153 (.agg #[.int .i64 j]),.int .i64 k] w fun e w'=>e=.returned (.bool (j==k))∧Below w.heap.size w w':=by
 have hA:=fun(old:Value) (X:World) (hX:Below w.heap.size w X) (h1:X.cell? ⟨w.heap.size,0,none⟩=some old) (h2:X.frozen? ⟨w.heap.size,0,none⟩=false)=>as_fault j w.heap.size old X (hg.below hX) h1 h2;go_enter Tryz.func72,Tryz.ntmps72;go_wp2_with fail;refine cM8 (hA (.int .i64 0) _ bex (by go_simp) (by go_simp)) ?_;rintro z w1 ⟨rfl,rfl⟩;go_wp2;go_returns;exact⟨rfl,bex⟩
end
end
end Go.Proofs.YtjhhmnjpojnoiaaGreatDoor
