/- Own text. The walk: For every argument, whatever memory it lies in, the statement's function on CodeText returns true, and each argument reads afterwards as it read before; no condition. -/
import Derived.Test.YtfmdleomfpampaaKit
import Derived.WalkKit
import Derived.WalkSpells
import Derived.WalkLawsBesides
import Derived.Handy
import Derived.Below
import Derived.Deep.RegionHeld3
import Derived.Deep.DeepCutAuto
namespace Go.Proofs.Ytfmdleomfpampaa.fnExactCodeText
open Go.RowKit
set_option linter.unusedVariables false
set_option maxHeartbeats 2000000 in
set_option maxRecDepth 100000 in
theorem walk (x : Int) (hx : (Lit.int .i64 x).wf = true) (w : World) :
    Calls Try.prog 5 #[.int .i64 x] w fun e w' => e = .returned (.bool true) ∧ Below w.heap.size w w' := by
  clear hx
  by_cases h1 : x < 0
  · have n0 : ¬ x = 0 := by omega
    have n1 : ¬ x = 1 := by omega
    have n2 : ¬ x = 2 := by omega
    have n3 : ¬ x = 3 := by omega
    have n4 : ¬ x = 4 := by omega
    have hle : ¬ 0 ≤ x := by omega
    go_enter Try.func5, Try.ntmps5
    go_wp2
    all_goals (go_returns; refine ⟨rfl, ?_⟩; go_grown)
  by_cases h2 : 4 < x
  · have n0 : ¬ x = 0 := by omega
    have n1 : ¬ x = 1 := by omega
    have n2 : ¬ x = 2 := by omega
    have n3 : ¬ x = 3 := by omega
    have n4 : ¬ x = 4 := by omega
    have hle : 0 ≤ x := by omega
    have hl4 : ¬ x ≤ 4 := by omega
    go_enter Try.func5, Try.ntmps5
    go_wp2
    all_goals (go_returns; refine ⟨rfl, ?_⟩; go_grown)
  have h5 : x = 0 ∨ x = 1 ∨ x = 2 ∨ x = 3 ∨ x = 4 := by omega
  clear h1 h2
  rcases h5 with rfl | rfl | rfl | rfl | rfl <;> (
    go_enter Try.func5, Try.ntmps5
    go_wp2
    all_goals (go_returns; refine ⟨rfl, ?_⟩; go_grown))
end Go.Proofs.Ytfmdleomfpampaa.fnExactCodeText
