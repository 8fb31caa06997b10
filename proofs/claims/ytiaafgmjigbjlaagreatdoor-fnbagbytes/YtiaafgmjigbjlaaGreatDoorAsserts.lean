/- Own text. What a type assertion with two values answers at each form of a value, and at none. -/
import Derived.Test.YtiaafgmjigbjlaaGreatDoorProg
import Derived.KernelRfl
namespace Go.Proofs.YtiaafgmjigbjlaaGreatDoor
theorem ta_nullForm_nullForm (w : World) : (Instr.typeAssert (.iface 98 (.agg #[])) 80 98 true).run Tryz.prog w = .ok (.tuple #[.agg #[], .bool true]) w := by kernel_rfl
theorem ta_nullForm_intForm (w : World) : (Instr.typeAssert (.iface 98 (.agg #[])) 80 77 true).run Tryz.prog w = .ok (.tuple #[.agg #[.int .i64 0], .bool false]) w := by kernel_rfl
theorem ta_nullForm_boolForm (w : World) : (Instr.typeAssert (.iface 98 (.agg #[])) 80 99 true).run Tryz.prog w = .ok (.tuple #[.agg #[.int .i64 0], .bool false]) w := by kernel_rfl
theorem ta_nullForm_textForm (w : World) : (Instr.typeAssert (.iface 98 (.agg #[])) 80 101 true).run Tryz.prog w = .ok (.tuple #[.agg #[.string ⟨#[]⟩], .bool false]) w := by kernel_rfl
theorem ta_intForm_nullForm (n : Int) (w : World) : (Instr.typeAssert (.iface 77 (.agg #[.int .i64 n])) 80 98 true).run Tryz.prog w = .ok (.tuple #[.agg #[], .bool false]) w := by kernel_rfl
theorem ta_intForm_intForm (n : Int) (w : World) : (Instr.typeAssert (.iface 77 (.agg #[.int .i64 n])) 80 77 true).run Tryz.prog w = .ok (.tuple #[.agg #[.int .i64 n], .bool true]) w := by kernel_rfl
theorem ta_intForm_boolForm (n : Int) (w : World) : (Instr.typeAssert (.iface 77 (.agg #[.int .i64 n])) 80 99 true).run Tryz.prog w = .ok (.tuple #[.agg #[.int .i64 0], .bool false]) w := by kernel_rfl
theorem ta_intForm_textForm (n : Int) (w : World) : (Instr.typeAssert (.iface 77 (.agg #[.int .i64 n])) 80 101 true).run Tryz.prog w = .ok (.tuple #[.agg #[.string ⟨#[]⟩], .bool false]) w := by kernel_rfl
theorem ta_boolForm_nullForm (n : Int) (w : World) : (Instr.typeAssert (.iface 99 (.agg #[.int .i64 n])) 80 98 true).run Tryz.prog w = .ok (.tuple #[.agg #[], .bool false]) w := by kernel_rfl
theorem ta_boolForm_intForm (n : Int) (w : World) : (Instr.typeAssert (.iface 99 (.agg #[.int .i64 n])) 80 77 true).run Tryz.prog w = .ok (.tuple #[.agg #[.int .i64 0], .bool false]) w := by kernel_rfl
theorem ta_boolForm_boolForm (n : Int) (w : World) : (Instr.typeAssert (.iface 99 (.agg #[.int .i64 n])) 80 99 true).run Tryz.prog w = .ok (.tuple #[.agg #[.int .i64 n], .bool true]) w := by kernel_rfl
theorem ta_boolForm_textForm (n : Int) (w : World) : (Instr.typeAssert (.iface 99 (.agg #[.int .i64 n])) 80 101 true).run Tryz.prog w = .ok (.tuple #[.agg #[.string ⟨#[]⟩], .bool false]) w := by kernel_rfl
theorem ta_textForm_nullForm (s : ByteArray) (w : World) : (Instr.typeAssert (.iface 101 (.agg #[.string s])) 80 98 true).run Tryz.prog w = .ok (.tuple #[.agg #[], .bool false]) w := by kernel_rfl
theorem ta_textForm_intForm (s : ByteArray) (w : World) : (Instr.typeAssert (.iface 101 (.agg #[.string s])) 80 77 true).run Tryz.prog w = .ok (.tuple #[.agg #[.int .i64 0], .bool false]) w := by kernel_rfl
theorem ta_textForm_boolForm (s : ByteArray) (w : World) : (Instr.typeAssert (.iface 101 (.agg #[.string s])) 80 99 true).run Tryz.prog w = .ok (.tuple #[.agg #[.int .i64 0], .bool false]) w := by kernel_rfl
theorem ta_textForm_textForm (s : ByteArray) (w : World) : (Instr.typeAssert (.iface 101 (.agg #[.string s])) 80 101 true).run Tryz.prog w = .ok (.tuple #[.agg #[.string s], .bool true]) w := by kernel_rfl
theorem ta_nil_nullForm (w : World) : (Instr.typeAssert .nilIface 80 98 true).run Tryz.prog w = .ok (.tuple #[.agg #[], .bool false]) w := by kernel_rfl
theorem ta_nil_intForm (w : World) : (Instr.typeAssert .nilIface 80 77 true).run Tryz.prog w = .ok (.tuple #[.agg #[.int .i64 0], .bool false]) w := by kernel_rfl
theorem ta_nil_boolForm (w : World) : (Instr.typeAssert .nilIface 80 99 true).run Tryz.prog w = .ok (.tuple #[.agg #[.int .i64 0], .bool false]) w := by kernel_rfl
theorem ta_nil_textForm (w : World) : (Instr.typeAssert .nilIface 80 101 true).run Tryz.prog w = .ok (.tuple #[.agg #[.string ⟨#[]⟩], .bool false]) w := by kernel_rfl
end Go.Proofs.YtiaafgmjigbjlaaGreatDoor
