/- Own texts, joined: contracts that the law's proof goes by. -/
import Derived.Test.YtflokiejcjjbiaaGreatProg
import Derived.KernelRfl
import Derived.Test.YtflokiejcjjbiaaGreatGLFits1
import Derived.Handy
import Derived.Deep.RegionWith
import Derived.Deep.RegionHeld3
set_option maxHeartbeats 16000000
set_option maxRecDepth 100000
set_option linter.unusedVariables false
set_option linter.unusedSimpArgs false
namespace Go.Proofs.YtflokiejcjjbiaaGreat
section
theorem ta_nullForm_nullForm (w:World):(Instr.typeAssert (.iface 223 (.agg #[])) 201 223 true).run Tryz.prog w=.ok (.tuple #[.agg #[],.bool true]) w:=by kernel_rfl
theorem ta_nullForm_intForm (w:World):(Instr.typeAssert (.iface 223 (.agg #[])) 201 225 true).run Tryz.prog w=.ok (.tuple #[.agg #[.int .i64 0],.bool false]) w:=by kernel_rfl
theorem ta_nullForm_boolForm (w:World):(Instr.typeAssert (.iface 223 (.agg #[])) 201 198 true).run Tryz.prog w=.ok (.tuple #[.agg #[.int .i64 0],.bool false]) w:=by kernel_rfl
theorem ta_nullForm_textForm (w:World):(Instr.typeAssert (.iface 223 (.agg #[])) 201 227 true).run Tryz.prog w=.ok (.tuple #[.agg #[.string ⟨#[]⟩],.bool false]) w:=by kernel_rfl
theorem ta_intForm_nullForm (n:Int)(w:World):(Instr.typeAssert (.iface 225 (.agg #[.int .i64 n])) 201 223 true).run Tryz.prog w=.ok (.tuple #[.agg #[],.bool false]) w:=by kernel_rfl
theorem ta_intForm_intForm (n:Int)(w:World):(Instr.typeAssert (.iface 225 (.agg #[.int .i64 n])) 201 225 true).run Tryz.prog w=.ok (.tuple #[.agg #[.int .i64 n],.bool true]) w:=by kernel_rfl
theorem ta_intForm_boolForm (n:Int)(w:World):(Instr.typeAssert (.iface 225 (.agg #[.int .i64 n])) 201 198 true).run Tryz.prog w=.ok (.tuple #[.agg #[.int .i64 0],.bool false]) w:=by kernel_rfl
theorem ta_intForm_textForm (n:Int)(w:World):(Instr.typeAssert (.iface 225 (.agg #[.int .i64 n])) 201 227 true).run Tryz.prog w=.ok (.tuple #[.agg #[.string ⟨#[]⟩],.bool false]) w:=by kernel_rfl
theorem ta_boolForm_nullForm (n:Int)(w:World):(Instr.typeAssert (.iface 198 (.agg #[.int .i64 n])) 201 223 true).run Tryz.prog w=.ok (.tuple #[.agg #[],.bool false]) w:=by kernel_rfl
theorem ta_boolForm_intForm (n:Int)(w:World):(Instr.typeAssert (.iface 198 (.agg #[.int .i64 n])) 201 225 true).run Tryz.prog w=.ok (.tuple #[.agg #[.int .i64 0],.bool false]) w:=by kernel_rfl
theorem ta_boolForm_boolForm (n:Int)(w:World):(Instr.typeAssert (.iface 198 (.agg #[.int .i64 n])) 201 198 true).run Tryz.prog w=.ok (.tuple #[.agg #[.int .i64 n],.bool true]) w:=by kernel_rfl
theorem ta_boolForm_textForm (n:Int)(w:World):(Instr.typeAssert (.iface 198 (.agg #[.int .i64 n])) 201 227 true).run Tryz.prog w=.ok (.tuple #[.agg #[.string ⟨#[]⟩],.bool false]) w:=by kernel_rfl
theorem ta_textForm_nullForm (s:ByteArray)(w:World):(Instr.typeAssert (.iface 227 (.agg #[.string s])) 201 223 true).run Tryz.prog w=.ok (.tuple #[.agg #[],.bool false]) w:=by kernel_rfl
theorem ta_textForm_intForm (s:ByteArray)(w:World):(Instr.typeAssert (.iface 227 (.agg #[.string s])) 201 225 true).run Tryz.prog w=.ok (.tuple #[.agg #[.int .i64 0],.bool false]) w:=by kernel_rfl
theorem ta_textForm_boolForm (s:ByteArray)(w:World):(Instr.typeAssert (.iface 227 (.agg #[.string s])) 201 198 true).run Tryz.prog w=.ok (.tuple #[.agg #[.int .i64 0],.bool false]) w:=by kernel_rfl
theorem ta_textForm_textForm (s:ByteArray)(w:World):(Instr.typeAssert (.iface 227 (.agg #[.string s])) 201 227 true).run Tryz.prog w=.ok (.tuple #[.agg #[.string s],.bool true]) w:=by kernel_rfl
theorem ta_nil_nullForm (w:World):(Instr.typeAssert .nilIface 201 223 true).run Tryz.prog w=.ok (.tuple #[.agg #[],.bool false]) w:=by kernel_rfl
theorem ta_nil_intForm (w:World):(Instr.typeAssert .nilIface 201 225 true).run Tryz.prog w=.ok (.tuple #[.agg #[.int .i64 0],.bool false]) w:=by kernel_rfl
theorem ta_nil_boolForm (w:World):(Instr.typeAssert .nilIface 201 198 true).run Tryz.prog w=.ok (.tuple #[.agg #[.int .i64 0],.bool false]) w:=by kernel_rfl
theorem ta_nil_textForm (w:World):(Instr.typeAssert .nilIface 201 227 true).run Tryz.prog w=.ok (.tuple #[.agg #[.string ⟨#[]⟩],.bool false]) w:=by kernel_rfl
end
section
open Go.RowKit
attribute [local go_sem] ta_nullForm_nullForm ta_nullForm_intForm ta_nullForm_boolForm ta_nullForm_textForm ta_intForm_nullForm ta_intForm_intForm ta_intForm_boolForm ta_intForm_textForm ta_boolForm_nullForm ta_boolForm_intForm ta_boolForm_boolForm ta_boolForm_textForm ta_textForm_nullForm ta_textForm_intForm ta_textForm_boolForm ta_textForm_textForm ta_nil_nullForm ta_nil_intForm ta_nil_boolForm ta_nil_textForm
def okB (k n:Int)(s:ByteArray):Bool:=
 if k=0 then n==0 &&s.toList==[]else if k=1 then s.toList==[]else if k=2 then(n==0||n==1) &&s.toList==[]else if k=3 then n==0 &&decide (s.size≤100)else false
theorem okB_0 (n:Int)(s:ByteArray):okB 0 n s=(n==0 &&s.toList==[]):=rfl
theorem okB_1 (n:Int)(s:ByteArray):okB 1 n s=(s.toList==[]):=rfl
theorem okB_2 (n:Int)(s:ByteArray):okB 2 n s=((n==0||n==1) &&s.toList==[]):=rfl
theorem okB_3 (n:Int)(s:ByteArray):okB 3 n s=(n==0 &&decide (s.size≤100)):=rfl
theorem okB_x (k n:Int)(s:ByteArray)(h0:¬k=0)(h1:¬k=1)(h2:¬k=2)(h3:¬k=3):okB k n s=false:=by simp[okB,h0,h1,h2,h3]
theorem formOf_0 (n:Int)(s:ByteArray)(w:World):Calls Tryz.prog 136 #[(.agg #[.int .i64 0,.int .i64 n,.string s])] w fun e w'=>e=.returned (.iface 223 (.agg #[]))∧w'=w.alloc (.cells #[.int .i64 0,.int .i64 n,.string s] 36):=by
 go_enter Tryz.func136,Tryz.ntmps136;go_wp2;go_returns;exact⟨rfl,rfl⟩
theorem formOf_1 (n:Int)(s:ByteArray)(w:World):Calls Tryz.prog 136 #[(.agg #[.int .i64 1,.int .i64 n,.string s])] w fun e w'=>e=.returned (.iface 225 (.agg #[.int .i64 n]))∧w'=w.alloc (.cells #[.int .i64 1,.int .i64 n,.string s] 36):=by
 go_enter Tryz.func136,Tryz.ntmps136;go_wp2;go_returns;exact⟨rfl,rfl⟩
theorem formOf_2 (n:Int)(s:ByteArray)(w:World):Calls Tryz.prog 136 #[(.agg #[.int .i64 2,.int .i64 n,.string s])] w fun e w'=>e=.returned (.iface 198 (.agg #[.int .i64 n]))∧w'=w.alloc (.cells #[.int .i64 2,.int .i64 n,.string s] 36):=by
 go_enter Tryz.func136,Tryz.ntmps136;go_wp2;go_returns;exact⟨rfl,rfl⟩
theorem formOf_3 (n:Int)(s:ByteArray)(w:World):Calls Tryz.prog 136 #[(.agg #[.int .i64 3,.int .i64 n,.string s])] w fun e w'=>e=.returned (.iface 227 (.agg #[.string s]))∧w'=w.alloc (.cells #[.int .i64 3,.int .i64 n,.string s] 36):=by
 go_enter Tryz.func136,Tryz.ntmps136;go_wp2;go_returns;exact⟨rfl,rfl⟩
theorem formOf_x (k:Int)(n:Int)(s:ByteArray)(w:World)(h0:(k==0)=false)(h1:(k==1)=false)(h2:(k==2)=false)(h3:(k==3)=false):Calls Tryz.prog 136 #[(.agg #[.int .i64 k,.int .i64 n,.string s])] w fun e w'=>e=.returned (.nilIface)∧w'=w.alloc (.cells #[.int .i64 k,.int .i64 n,.string s] 36):=by
 go_enter Tryz.func136,Tryz.ntmps136;go_wp2;go_returns;exact⟨rfl,rfl⟩
theorem valueOf_2 (n:Int)(w:World):Calls Tryz.prog 143 #[.iface 198 (.agg #[.int .i64 n])] w fun e w'=>e=.returned (.agg #[.int .i64 2,.int .i64 n,.string ⟨#[]⟩])∧Below w.heap.size w w':=by
 go_enter Tryz.func143,Tryz.ntmps143;go_wp2;go_returns;refine⟨rfl,?_⟩
 go_grown
theorem valueOf_3 (s:ByteArray)(w:World):Calls Tryz.prog 143 #[.iface 227 (.agg #[.string s])] w fun e w'=>e=.returned (.agg #[.int .i64 3,.int .i64 0,.string s])∧Below w.heap.size w w':=by
 go_enter Tryz.func143,Tryz.ntmps143;go_wp2;go_returns;refine⟨rfl,?_⟩
 go_grown
theorem inRange_2 (n:Int)(w:World)(h:n=0∨n=1):Calls Tryz.prog 238 #[.agg #[.int .i64 n]] w fun e w'=>e=.returned (.bool true)∧Below w.heap.size w w':=by
 rcases h with rfl|rfl
 ·go_enter Tryz.func238,Tryz.ntmps238;go_wp2;go_returns;refine⟨rfl,?_⟩
  go_grown
 ·go_enter Tryz.func238,Tryz.ntmps238;go_wp2;go_returns;refine⟨rfl,?_⟩
  go_grown
theorem inRange_2x (n:Int)(w:World)(h0:(n==0)=false)(h1:(n==1)=false):Calls Tryz.prog 238 #[.agg #[.int .i64 n]] w fun e w'=>e=.returned (.bool false)∧Below w.heap.size w w':=by
 go_enter Tryz.func238,Tryz.ntmps238;go_wp2;go_returns;refine⟨rfl,?_⟩
 go_grown
theorem inRange_3 (s:ByteArray)(w:World)(hs:s.size≤maxLen)(h:(s.size:Int)≤100):Calls Tryz.prog 241 #[.agg #[.string s]] w fun e w'=>e=.returned (.bool true)∧Below w.heap.size w w':=by
 unfold maxLen at hs;go_enter Tryz.func241,Tryz.ntmps241;go_wp2;go_returns;refine⟨rB8 (by first|(simp;done)|(simp;omega)),?_⟩
 go_grown
theorem inRange_3x (s:ByteArray)(w:World)(hs:s.size≤maxLen)(h:100<(s.size:Int)):Calls Tryz.prog 241 #[.agg #[.string s]] w fun e w'=>e=.returned (.bool false)∧Below w.heap.size w w':=by
 unfold maxLen at hs;have hd:decide ((s.size:Int)≤100)=false:=by simp;omega
 go_enter Tryz.func241,Tryz.ntmps241;go_wp2;go_returns;refine⟨rfl,?_⟩
 go_grown
theorem beq0 (n:Int):((0:Int)==n)=(n==0):=by rw[Bool.eq_iff_iff,beq_iff_eq,beq_iff_eq];exact eq_comm
end
section
open Go.RowKit
theorem okB_of {b:Bool}{k n:Int}{s:ByteArray}(h:b=okB k n s):Ending.returned (.bool b)=.returned (.bool (okB k n s)):=by rw[h]
theorem specValueOk_any (k n:Int)(s:ByteArray)(w:World)(hs:s.size≤maxLen):Calls Tryz.prog 70 #[(.agg #[.int .i64 k,.int .i64 n,.string s])] w fun e w'=>e=.returned (.bool (okB k n s))∧Below w.heap.size w w':=by
 unfold maxLen at hs;go_enter Tryz.func70,Tryz.ntmps70;go_wp2;all_goals(go_returns;refine⟨okB_of ?_,?_⟩)
 all_goals first|(go_grown;done)|(simp_all [okB];done)|(simp_all [okB];omega)
end
end Go.Proofs.YtflokiejcjjbiaaGreat
