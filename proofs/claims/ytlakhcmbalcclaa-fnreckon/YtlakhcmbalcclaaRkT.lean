/- Own text. The contracts of both IsTrue, and of big. -/
import Derived.Test.YtlakhcmbalcclaaVForm
import Derived.Test.YtlakhcmbalcclaaDrA
import Derived.Handy
namespace Go.Proofs.Ytlakhcmbalcclaa
open Go.RowKit
set_option linter.unusedVariables false
attribute [local go_sem] ta_nullForm_nullForm ta_nullForm_intForm ta_nullForm_boolForm ta_nullForm_textForm ta_intForm_nullForm ta_intForm_intForm ta_intForm_boolForm ta_intForm_textForm ta_boolForm_nullForm ta_boolForm_intForm ta_boolForm_boolForm ta_boolForm_textForm ta_textForm_nullForm ta_textForm_intForm ta_textForm_boolForm ta_textForm_textForm ta_nil_nullForm ta_nil_intForm ta_nil_boolForm ta_nil_textForm
def isT (k n : Int) : Bool := k == 2 && n == 1
theorem ret_b {b b' : Bool} (h : b = b') : Ending.returned (.bool b) = .returned (.bool b') := by rw [h]
set_option maxHeartbeats 2000000 in
set_option maxRecDepth 100000 in
theorem implIsTrue_any (k n : Int) (s : ByteArray) (w : World) : Calls Try.prog 13 #[(.agg #[.int .i64 k, .int .i64 n, .string s])] w fun e w' => e = .returned (.bool (isT k n)) ∧ Below w.heap.size w w' := by
  go_enter Try.func13, Try.ntmps13
  go_wp2
  all_goals (go_returns; refine ⟨ret_b ?_, by go_grown⟩)
  all_goals first | (simp_all [isT]; done) | (simp_all [isT]; omega)
set_option maxHeartbeats 2000000 in
set_option maxRecDepth 100000 in
theorem specIsTrue_any (k n : Int) (s : ByteArray) (w : World) : Calls Try.prog 14 #[(.agg #[.int .i64 k, .int .i64 n, .string s])] w fun e w' => e = .returned (.bool (isT k n)) ∧ Below w.heap.size w w' := by
  go_enter Try.func14, Try.ntmps14
  go_wp2
  all_goals (go_returns; refine ⟨ret_b ?_, by go_grown⟩)
  all_goals first | (simp_all [isT]; done) | (simp_all [isT]; omega)
set_option maxHeartbeats 2000000 in
theorem big_any (a : Option Addr) (l c : Nat) (w : World) (hl : l ≤ 4611686018427387904) : Calls Try.prog 4 #[.slice a l c] w fun e w' => e = .returned (.bool (decide ((1048576 : Int) < l))) ∧ w' = w := by
  go_enter Try.func4, Try.ntmps4
  go_wp2
  go_returns
  exact ⟨rfl, rfl⟩
end Go.Proofs.Ytlakhcmbalcclaa
