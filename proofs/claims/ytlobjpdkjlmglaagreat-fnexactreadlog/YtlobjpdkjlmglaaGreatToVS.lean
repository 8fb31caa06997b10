/- Own text. The contract of toValueS: a new row with the same values. -/
import Derived.Test.YtlobjpdkjlmglaaGreatRowK
import Derived.Test.YtlobjpdkjlmglaaGreatToV
import Derived.Handy
import Derived.Deep.OwnRows
namespace Go.Proofs.YtlobjpdkjlmglaaGreat
open Go.RowKit
set_option linter.unusedVariables false
theorem Tryz.infoVal : (Tryz.prog.info? 123).map (fun i => (i.zero, i.size, i.bytes)) = some (some (.agg #[.int .i64 0, .int .i64 0, .string ⟨#[]⟩]), 3, 32) := by kernel_rfl
end Go.Proofs.YtlobjpdkjlmglaaGreat
