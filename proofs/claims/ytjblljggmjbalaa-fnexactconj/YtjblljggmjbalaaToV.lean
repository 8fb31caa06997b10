/- Own text. The contract of toValue. -/
import Derived.Test.YtjblljggmjbalaaKit
import Derived.Handy
namespace Go.Proofs.Ytjblljggmjbalaa
open Go.RowKit
set_option maxHeartbeats 400000 in
theorem toValue_any (k n : Int) (s : ByteArray) (w : World) :
    Calls Try.prog 16 #[(.agg #[.int .i64 k, .int .i64 n, .string s])] w fun e w' => e = .returned (.agg #[.int .i64 k, .int .i64 n, .string s]) ∧ Below w.heap.size w w' := by
  go_enter Try.func16, Try.ntmps16
  go_wp2
  go_returns
  refine ⟨rfl, ?_⟩
  go_grown
end Go.Proofs.Ytjblljggmjbalaa
