/- Own text. The contract of szValue: how much a value weighs. -/
import Derived.Test.YtlobjpdkjlmglaaGreatRowK
import Derived.Handy
namespace Go.Proofs.YtlobjpdkjlmglaaGreat
open Go.RowKit
set_option linter.unusedVariables false
end Go.Proofs.YtlobjpdkjlmglaaGreat
