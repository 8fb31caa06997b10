/- Own text. The contract of l01In: whether a number lies between two others; it turns nothing. -/
import Derived.Test.YtiaafgmjigbjlaaGreatDoorKit
import Derived.Handy
namespace Go.Proofs.YtiaafgmjigbjlaaGreatDoor
open Go.RowKit
set_option linter.unusedVariables false
/-- a number between two others. -/
def inB (x a b : Int) : Bool := decide (a ≤ x ∧ x ≤ b)
set_option maxHeartbeats 400000 in
theorem l01InN_any (x a b : Int) (w : World) :
    Calls Tryz.prog 34 #[.int .i64 x, .int .i64 a, .int .i64 b] w fun e w' => e = .returned (.bool (inB x a b)) ∧ w' = w := by
  by_cases h : a ≤ x
  · go_enter Tryz.func34, Tryz.ntmps34
    go_wp2
    go_returns
    exact ⟨by simp [inB, h], rfl⟩
  · have h' : decide (a ≤ x) = false := by simp; omega
    go_enter Tryz.func34, Tryz.ntmps34
    go_wp2
    go_returns
    exact ⟨ret_bool (by simp [inB]; omega), rfl⟩
end Go.Proofs.YtiaafgmjigbjlaaGreatDoor
