/- Own text. The contracts of the helpers on rows: how much one weighs, that one is the same as another one. -/
import Derived.Test.YtiaafgmjigbjlaaGreatDoorRowK
import Derived.Test.YtiaafgmjigbjlaaGreatDoorEqV
import Derived.Test.YtiaafgmjigbjlaaGreatDoorSzV
import Derived.Handy
import Derived.Deep.RegionHeld3
namespace Go.Proofs.YtiaafgmjigbjlaaGreatDoor
open Go.RowKit
set_option linter.unusedVariables false
end Go.Proofs.YtiaafgmjigbjlaaGreatDoor
