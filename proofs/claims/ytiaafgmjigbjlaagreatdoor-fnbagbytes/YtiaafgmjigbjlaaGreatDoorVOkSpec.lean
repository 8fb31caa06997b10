/- Own text. The contract of the specification's ValueOk: it answers okB, and writes nothing that was there. -/
import Derived.Test.YtiaafgmjigbjlaaGreatDoorVForm
namespace Go.Proofs.YtiaafgmjigbjlaaGreatDoor
open Go.RowKit
set_option linter.unusedVariables false
theorem okB_of {b : Bool} {k n : Int} {s : ByteArray} (h : b = okB k n s) : Ending.returned (.bool b) = .returned (.bool (okB k n s)) := by rw [h]
set_option maxHeartbeats 1000000 in
set_option maxRecDepth 100000 in
theorem specValueOk_any (k n : Int) (s : ByteArray) (w : World) (hs : s.size ≤ maxLen) :
    Calls Tryz.prog 46 #[(.agg #[.int .i64 k, .int .i64 n, .string s])] w fun e w' => e = .returned (.bool (okB k n s)) ∧ Below w.heap.size w w' := by
  unfold maxLen at hs
  go_enter Tryz.func46, Tryz.ntmps46
  go_wp2
  all_goals (go_returns; refine ⟨okB_of ?_, ?_⟩)
  all_goals first | (go_grown; done) | (simp_all [okB]; done) | (simp_all [okB]; omega)
end Go.Proofs.YtiaafgmjigbjlaaGreatDoor
