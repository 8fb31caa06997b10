/- Own text. The contract of toValue. -/
import Derived.Test.YtiaafgmjigbjlaaGreatDoorKit
import Derived.Handy
namespace Go.Proofs.YtiaafgmjigbjlaaGreatDoor
open Go.RowKit
end Go.Proofs.YtiaafgmjigbjlaaGreatDoor
