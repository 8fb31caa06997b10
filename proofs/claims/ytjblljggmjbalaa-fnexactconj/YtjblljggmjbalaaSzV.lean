/- Own text. The contract of szValue: how much a value weighs. -/
import Derived.Test.YtjblljggmjbalaaRowK
import Derived.Handy
namespace Go.Proofs.Ytjblljggmjbalaa
open Go.RowKit
set_option linter.unusedVariables false
set_option maxHeartbeats 1000000 in
theorem szValue_any (k n left : Int) (s : ByteArray) (w : World) (h0 : 0 ≤ left) (h1 : left ≤ 1048576) (hs : s.size ≤ maxLen) :
    Calls Try.prog 13 #[(.agg #[.int .i64 k, .int .i64 n, .string s]), .int .i64 left] w fun e w' => e = .returned (.int .i64 (szV s left)) ∧ Below w.heap.size w w' := by
  unfold maxLen at hs
  by_cases h : left - s.size < 0
  · go_enter Try.func13, Try.ntmps13
    go_wp2
    go_returns
    exact ⟨by simp [szV, h], by go_grown⟩
  · go_enter Try.func13, Try.ntmps13
    go_wp2
    go_returns
    exact ⟨ret_int (by simp only [szV]; rw [if_neg (by omega)]), by go_grown⟩
end Go.Proofs.Ytjblljggmjbalaa
