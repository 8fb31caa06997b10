/- Own text. The contract of szValue: how much a value weighs. -/
import Derived.Test.YtlpgkhdmilnbgaaDoorRowK
import Derived.Handy
namespace Go.Proofs.YtlpgkhdmilnbgaaDoor
open Go.RowKit
set_option linter.unusedVariables false
set_option maxHeartbeats 1000000 in
theorem szValue_any (k n left : Int) (s : ByteArray) (w : World) (h0 : 0 ≤ left) (h1 : left ≤ 1048576) (hs : s.size ≤ maxLen) :
    Calls Tryd.prog 20 #[(.agg #[.int .i64 k, .int .i64 n, .string s]), .int .i64 left] w fun e w' => e = .returned (.int .i64 (szV s left)) ∧ Below w.heap.size w w' := by
  unfold maxLen at hs
  by_cases h : left - s.size < 0
  · go_enter Tryd.func20, Tryd.ntmps20
    go_wp2
    go_returns
    exact ⟨by simp [szV, h], by go_grown⟩
  · go_enter Tryd.func20, Tryd.ntmps20
    go_wp2
    go_returns
    exact ⟨ret_int (by simp only [szV]; rw [if_neg (by omega)]), by go_grown⟩
end Go.Proofs.YtlpgkhdmilnbgaaDoor
