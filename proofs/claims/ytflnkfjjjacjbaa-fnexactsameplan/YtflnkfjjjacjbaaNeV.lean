/- Own text. Two values, held against each other. -/
import Derived.Test.YtflnkfjjjacjbaaVEq
import Derived.Test.YtflnkfjjjacjbaaRowK
import Derived.Handy
namespace Go.Proofs.Ytflnkfjjjacjbaa
open Go.RowKit Go.Deep
set_option linter.unusedVariables false
theorem neV (k n k' n' : Int) (s s' : ByteArray) (w : World) : (binOp .neq 32 (.agg #[.int .i64 k, .int .i64 n, .string s]) (.agg #[.int .i64 k', .int .i64 n', .string s'])).run Try.prog w = .ok (.bool (!(k == k' && (n == n' && s.toList == s'.toList)))) w := by
  have h := eqV k n k' n' s s' w
  rw [run_eql_struct] at h
  rw [run_neq_struct]
  revert h
  cases (Op.equalIn 10000 32 (.agg #[.int .i64 k, .int .i64 n, .string s]) (.agg #[.int .i64 k', .int .i64 n', .string s'])).run Try.prog w <;> intro h <;> simp_all [Result.andThen]
/-- whether two values are the same. -/
def sameV (a b : V3) : Bool := a.k == b.k && (a.n == b.n && a.s.toList == b.s.toList)
end Go.Proofs.Ytflnkfjjjacjbaa
