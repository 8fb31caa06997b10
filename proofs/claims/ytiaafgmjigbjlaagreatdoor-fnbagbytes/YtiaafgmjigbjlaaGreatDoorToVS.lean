/- Own text. The contract of toValueS: a new row with the same values. -/
import Derived.Test.YtiaafgmjigbjlaaGreatDoorRowK
import Derived.Test.YtiaafgmjigbjlaaGreatDoorToV
import Derived.Handy
import Derived.Deep.OwnRows
namespace Go.Proofs.YtiaafgmjigbjlaaGreatDoor
open Go.RowKit
set_option linter.unusedVariables false
theorem Tryz.infoVal : (Tryz.prog.info? 48).map (fun i => (i.zero, i.size, i.bytes)) = some (some (.agg #[.int .i64 0, .int .i64 0, .string ⟨#[]⟩]), 3, 32) := by kernel_rfl
end Go.Proofs.YtiaafgmjigbjlaaGreatDoor
