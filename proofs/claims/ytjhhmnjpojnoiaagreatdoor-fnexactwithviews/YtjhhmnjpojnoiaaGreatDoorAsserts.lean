/- Own text. What a type assertion with two values answers at each form of a value, and at none. -/
import Derived.Test.YtjhhmnjpojnoiaaGreatDoorProg
import Derived.KernelRfl
set_option maxHeartbeats 16000000
set_option maxRecDepth 100000
set_option linter.unusedVariables false
set_option linter.unusedSimpArgs false
namespace Go.Proofs.YtjhhmnjpojnoiaaGreatDoor
section
section
theorem ta_nullForm_nullForm (w:World):(Instr.typeAssert (.iface 246 (.agg #[])) 232 246 true).run Tryz.prog w=.ok (.tuple #[.agg #[],.bool true]) w:=by kernel_rfl
theorem ta_nullForm_intForm (w:World):(Instr.typeAssert (.iface 246 (.agg #[])) 232 248 true).run Tryz.prog w=.ok (.tuple #[.agg #[.int .i64 0],.bool false]) w:=by kernel_rfl
theorem ta_nullForm_boolForm (w:World):(Instr.typeAssert (.iface 246 (.agg #[])) 232 249 true).run Tryz.prog w=.ok (.tuple #[.agg #[.int .i64 0],.bool false]) w:=by kernel_rfl
theorem ta_nullForm_textForm (w:World):(Instr.typeAssert (.iface 246 (.agg #[])) 232 251 true).run Tryz.prog w=.ok (.tuple #[.agg #[.string ⟨#[]⟩],.bool false]) w:=by kernel_rfl
theorem ta_intForm_nullForm (n:Int)(w:World):(Instr.typeAssert (.iface 248 (.agg #[.int .i64 n])) 232 246 true).run Tryz.prog w=.ok (.tuple #[.agg #[],.bool false]) w:=by kernel_rfl
theorem ta_intForm_intForm (n:Int)(w:World):(Instr.typeAssert (.iface 248 (.agg #[.int .i64 n])) 232 248 true).run Tryz.prog w=.ok (.tuple #[.agg #[.int .i64 n],.bool true]) w:=by kernel_rfl
theorem ta_intForm_boolForm (n:Int)(w:World):(Instr.typeAssert (.iface 248 (.agg #[.int .i64 n])) 232 249 true).run Tryz.prog w=.ok (.tuple #[.agg #[.int .i64 0],.bool false]) w:=by kernel_rfl
theorem ta_intForm_textForm (n:Int)(w:World):(Instr.typeAssert (.iface 248 (.agg #[.int .i64 n])) 232 251 true).run Tryz.prog w=.ok (.tuple #[.agg #[.string ⟨#[]⟩],.bool false]) w:=by kernel_rfl
theorem ta_boolForm_nullForm (n:Int)(w:World):(Instr.typeAssert (.iface 249 (.agg #[.int .i64 n])) 232 246 true).run Tryz.prog w=.ok (.tuple #[.agg #[],.bool false]) w:=by kernel_rfl
theorem ta_boolForm_intForm (n:Int)(w:World):(Instr.typeAssert (.iface 249 (.agg #[.int .i64 n])) 232 248 true).run Tryz.prog w=.ok (.tuple #[.agg #[.int .i64 0],.bool false]) w:=by kernel_rfl
theorem ta_boolForm_boolForm (n:Int)(w:World):(Instr.typeAssert (.iface 249 (.agg #[.int .i64 n])) 232 249 true).run Tryz.prog w=.ok (.tuple #[.agg #[.int .i64 n],.bool true]) w:=by kernel_rfl
theorem ta_boolForm_textForm (n:Int)(w:World):(Instr.typeAssert (.iface 249 (.agg #[.int .i64 n])) 232 251 true).run Tryz.prog w=.ok (.tuple #[.agg #[.string ⟨#[]⟩],.bool false]) w:=by kernel_rfl
theorem ta_textForm_nullForm (s:ByteArray)(w:World):(Instr.typeAssert (.iface 251 (.agg #[.string s])) 232 246 true).run Tryz.prog w=.ok (.tuple #[.agg #[],.bool false]) w:=by kernel_rfl
theorem ta_textForm_intForm (s:ByteArray)(w:World):(Instr.typeAssert (.iface 251 (.agg #[.string s])) 232 248 true).run Tryz.prog w=.ok (.tuple #[.agg #[.int .i64 0],.bool false]) w:=by kernel_rfl
theorem ta_textForm_boolForm (s:ByteArray)(w:World):(Instr.typeAssert (.iface 251 (.agg #[.string s])) 232 249 true).run Tryz.prog w=.ok (.tuple #[.agg #[.int .i64 0],.bool false]) w:=by kernel_rfl
theorem ta_textForm_textForm (s:ByteArray)(w:World):(Instr.typeAssert (.iface 251 (.agg #[.string s])) 232 251 true).run Tryz.prog w=.ok (.tuple #[.agg #[.string s],.bool true]) w:=by kernel_rfl
theorem ta_nil_nullForm (w:World):(Instr.typeAssert .nilIface 232 246 true).run Tryz.prog w=.ok (.tuple #[.agg #[],.bool false]) w:=by kernel_rfl
theorem ta_nil_intForm (w:World):(Instr.typeAssert .nilIface 232 248 true).run Tryz.prog w=.ok (.tuple #[.agg #[.int .i64 0],.bool false]) w:=by kernel_rfl
theorem ta_nil_boolForm (w:World):(Instr.typeAssert .nilIface 232 249 true).run Tryz.prog w=.ok (.tuple #[.agg #[.int .i64 0],.bool false]) w:=by kernel_rfl
theorem ta_nil_textForm (w:World):(Instr.typeAssert .nilIface 232 251 true).run Tryz.prog w=.ok (.tuple #[.agg #[.string ⟨#[]⟩],.bool false]) w:=by kernel_rfl
end
end
end Go.Proofs.YtjhhmnjpojnoiaaGreatDoor
