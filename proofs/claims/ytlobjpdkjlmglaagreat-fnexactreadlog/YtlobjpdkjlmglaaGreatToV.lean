/- Own text. The contract of toValue. -/
import Derived.Test.YtlobjpdkjlmglaaGreatKit
import Derived.Handy
namespace Go.Proofs.YtlobjpdkjlmglaaGreat
open Go.RowKit
end Go.Proofs.YtlobjpdkjlmglaaGreat
