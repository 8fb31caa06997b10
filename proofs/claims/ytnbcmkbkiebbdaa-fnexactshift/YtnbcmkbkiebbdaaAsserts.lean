/- Own text. What a type assertion with two values answers at each form of a value, and at none. -/
import Derived.Test.YtnbcmkbkiebbdaaProg
import Derived.KernelRfl
namespace Go.Proofs.Ytnbcmkbkiebbdaa
theorem ta_nullForm_nullForm (w : World) : (Instr.typeAssert (.iface 223 (.agg #[])) 185 223 true).run Try.prog w = .ok (.tuple #[.agg #[], .bool true]) w := by kernel_rfl
theorem ta_nullForm_intForm (w : World) : (Instr.typeAssert (.iface 223 (.agg #[])) 185 225 true).run Try.prog w = .ok (.tuple #[.agg #[.int .i64 0], .bool false]) w := by kernel_rfl
theorem ta_nullForm_boolForm (w : World) : (Instr.typeAssert (.iface 223 (.agg #[])) 185 226 true).run Try.prog w = .ok (.tuple #[.agg #[.int .i64 0], .bool false]) w := by kernel_rfl
theorem ta_nullForm_textForm (w : World) : (Instr.typeAssert (.iface 223 (.agg #[])) 185 228 true).run Try.prog w = .ok (.tuple #[.agg #[.string ⟨#[]⟩], .bool false]) w := by kernel_rfl
theorem ta_intForm_nullForm (n : Int) (w : World) : (Instr.typeAssert (.iface 225 (.agg #[.int .i64 n])) 185 223 true).run Try.prog w = .ok (.tuple #[.agg #[], .bool false]) w := by kernel_rfl
theorem ta_intForm_intForm (n : Int) (w : World) : (Instr.typeAssert (.iface 225 (.agg #[.int .i64 n])) 185 225 true).run Try.prog w = .ok (.tuple #[.agg #[.int .i64 n], .bool true]) w := by kernel_rfl
theorem ta_intForm_boolForm (n : Int) (w : World) : (Instr.typeAssert (.iface 225 (.agg #[.int .i64 n])) 185 226 true).run Try.prog w = .ok (.tuple #[.agg #[.int .i64 0], .bool false]) w := by kernel_rfl
theorem ta_intForm_textForm (n : Int) (w : World) : (Instr.typeAssert (.iface 225 (.agg #[.int .i64 n])) 185 228 true).run Try.prog w = .ok (.tuple #[.agg #[.string ⟨#[]⟩], .bool false]) w := by kernel_rfl
theorem ta_boolForm_nullForm (n : Int) (w : World) : (Instr.typeAssert (.iface 226 (.agg #[.int .i64 n])) 185 223 true).run Try.prog w = .ok (.tuple #[.agg #[], .bool false]) w := by kernel_rfl
theorem ta_boolForm_intForm (n : Int) (w : World) : (Instr.typeAssert (.iface 226 (.agg #[.int .i64 n])) 185 225 true).run Try.prog w = .ok (.tuple #[.agg #[.int .i64 0], .bool false]) w := by kernel_rfl
theorem ta_boolForm_boolForm (n : Int) (w : World) : (Instr.typeAssert (.iface 226 (.agg #[.int .i64 n])) 185 226 true).run Try.prog w = .ok (.tuple #[.agg #[.int .i64 n], .bool true]) w := by kernel_rfl
theorem ta_boolForm_textForm (n : Int) (w : World) : (Instr.typeAssert (.iface 226 (.agg #[.int .i64 n])) 185 228 true).run Try.prog w = .ok (.tuple #[.agg #[.string ⟨#[]⟩], .bool false]) w := by kernel_rfl
theorem ta_textForm_nullForm (s : ByteArray) (w : World) : (Instr.typeAssert (.iface 228 (.agg #[.string s])) 185 223 true).run Try.prog w = .ok (.tuple #[.agg #[], .bool false]) w := by kernel_rfl
theorem ta_textForm_intForm (s : ByteArray) (w : World) : (Instr.typeAssert (.iface 228 (.agg #[.string s])) 185 225 true).run Try.prog w = .ok (.tuple #[.agg #[.int .i64 0], .bool false]) w := by kernel_rfl
theorem ta_textForm_boolForm (s : ByteArray) (w : World) : (Instr.typeAssert (.iface 228 (.agg #[.string s])) 185 226 true).run Try.prog w = .ok (.tuple #[.agg #[.int .i64 0], .bool false]) w := by kernel_rfl
theorem ta_textForm_textForm (s : ByteArray) (w : World) : (Instr.typeAssert (.iface 228 (.agg #[.string s])) 185 228 true).run Try.prog w = .ok (.tuple #[.agg #[.string s], .bool true]) w := by kernel_rfl
theorem ta_nil_nullForm (w : World) : (Instr.typeAssert .nilIface 185 223 true).run Try.prog w = .ok (.tuple #[.agg #[], .bool false]) w := by kernel_rfl
theorem ta_nil_intForm (w : World) : (Instr.typeAssert .nilIface 185 225 true).run Try.prog w = .ok (.tuple #[.agg #[.int .i64 0], .bool false]) w := by kernel_rfl
theorem ta_nil_boolForm (w : World) : (Instr.typeAssert .nilIface 185 226 true).run Try.prog w = .ok (.tuple #[.agg #[.int .i64 0], .bool false]) w := by kernel_rfl
theorem ta_nil_textForm (w : World) : (Instr.typeAssert .nilIface 185 228 true).run Try.prog w = .ok (.tuple #[.agg #[.string ⟨#[]⟩], .bool false]) w := by kernel_rfl
end Go.Proofs.Ytnbcmkbkiebbdaa
