/- Own text. The contract of szValue: how much a value weighs. -/
import Derived.Test.YtiaafgmjigbjlaaGreatDoorRowK
import Derived.Handy
namespace Go.Proofs.YtiaafgmjigbjlaaGreatDoor
open Go.RowKit
set_option linter.unusedVariables false
end Go.Proofs.YtiaafgmjigbjlaaGreatDoor
