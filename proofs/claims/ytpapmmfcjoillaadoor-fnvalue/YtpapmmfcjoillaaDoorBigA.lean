/- Own text. The contract of big. (Made out of RkT.) -/
import Derived.Test.YtpapmmfcjoillaaDoorDrA
import Derived.Handy
namespace Go.Proofs.YtpapmmfcjoillaaDoor
open Go.RowKit
set_option linter.unusedVariables false
set_option maxHeartbeats 2000000 in
theorem big_any (a : Option Addr) (l c : Nat) (w : World) (hl : l ≤ 4611686018427387904) : Calls Tryd.prog 4 #[.slice a l c] w fun e w' => e = .returned (.bool (decide ((1048576 : Int) < l))) ∧ w' = w := by
  go_enter Tryd.func4, Tryd.ntmps4
  go_wp2
  go_returns
  exact ⟨rfl, rfl⟩
end Go.Proofs.YtpapmmfcjoillaaDoor
