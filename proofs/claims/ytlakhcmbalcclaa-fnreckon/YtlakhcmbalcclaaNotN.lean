/- Own text. The contracts of Not and IsNull, of the program and of the specification. -/
import Derived.Test.YtlakhcmbalcclaaVForm
import Derived.Test.YtlakhcmbalcclaaRowK
import Derived.Handy
namespace Go.Proofs.Ytlakhcmbalcclaa
open Go.RowKit
set_option linter.unusedVariables false
attribute [local go_sem] ta_nullForm_nullForm ta_nullForm_intForm ta_nullForm_boolForm ta_nullForm_textForm ta_intForm_nullForm ta_intForm_intForm ta_intForm_boolForm ta_intForm_textForm ta_boolForm_nullForm ta_boolForm_intForm ta_boolForm_boolForm ta_boolForm_textForm ta_textForm_nullForm ta_textForm_intForm ta_textForm_boolForm ta_textForm_textForm ta_nil_nullForm ta_nil_intForm ta_nil_boolForm ta_nil_textForm
/-- not: the numbers of its answer. -/
def notK (k n : Int) : Int := if k = 2 then 2 else 0
def notN (k n : Int) : Int := if k = 2 ∧ n = 0 then 1 else 0
def nulN (k : Int) : Int := if k = 0 then 1 else 0
theorem ret_v {k k' n n' : Int} (hk : k = k') (hn : n = n') : Ending.returned (.agg #[.int .i64 k, .int .i64 n, .string ⟨#[]⟩]) = .returned (.agg #[.int .i64 k', .int .i64 n', .string ⟨#[]⟩]) := by rw [hk, hn]
set_option maxHeartbeats 2000000 in
set_option maxRecDepth 100000 in
theorem implNot_any (k n : Int) (s : ByteArray) (w : World) : Calls Try.prog 9 #[(.agg #[.int .i64 k, .int .i64 n, .string s])] w fun e w' => e = .returned (.agg #[.int .i64 (notK k n), .int .i64 (notN k n), .string ⟨#[]⟩]) ∧ Below w.heap.size w w' := by
  go_enter Try.func9, Try.ntmps9
  go_wp2
  all_goals (go_returns; refine ⟨ret_v ?_ ?_, by go_grown⟩)
  all_goals first | (simp_all [notK, notN]; done) | (simp_all [notK, notN]; omega)
set_option maxHeartbeats 2000000 in
set_option maxRecDepth 100000 in
theorem specNot_any (k n : Int) (s : ByteArray) (w : World) : Calls Try.prog 10 #[(.agg #[.int .i64 k, .int .i64 n, .string s])] w fun e w' => e = .returned (.agg #[.int .i64 (notK k n), .int .i64 (notN k n), .string ⟨#[]⟩]) ∧ Below w.heap.size w w' := by
  go_enter Try.func10, Try.ntmps10
  go_wp2
  all_goals (go_returns; refine ⟨ret_v ?_ ?_, by go_grown⟩)
  all_goals first | (simp_all [notK, notN]; done) | (simp_all [notK, notN]; omega)
set_option maxHeartbeats 2000000 in
set_option maxRecDepth 100000 in
theorem implNul_any (k n : Int) (s : ByteArray) (w : World) : Calls Try.prog 11 #[(.agg #[.int .i64 k, .int .i64 n, .string s])] w fun e w' => e = .returned (.agg #[.int .i64 2, .int .i64 (nulN k), .string ⟨#[]⟩]) ∧ Below w.heap.size w w' := by
  go_enter Try.func11, Try.ntmps11
  go_wp2
  all_goals (go_returns; refine ⟨ret_v ?_ ?_, by go_grown⟩)
  all_goals first | (simp_all [nulN]; done) | (simp_all [nulN]; omega)
set_option maxHeartbeats 2000000 in
set_option maxRecDepth 100000 in
theorem specNul_any (k n : Int) (s : ByteArray) (w : World) : Calls Try.prog 12 #[(.agg #[.int .i64 k, .int .i64 n, .string s])] w fun e w' => e = .returned (.agg #[.int .i64 2, .int .i64 (nulN k), .string ⟨#[]⟩]) ∧ Below w.heap.size w w' := by
  go_enter Try.func12, Try.ntmps12
  go_wp2
  all_goals (go_returns; refine ⟨ret_v ?_ ?_, by go_grown⟩)
  all_goals first | (simp_all [nulN]; done) | (simp_all [nulN]; omega)
end Go.Proofs.Ytlakhcmbalcclaa
