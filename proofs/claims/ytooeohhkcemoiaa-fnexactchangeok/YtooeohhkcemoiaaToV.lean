/- Own text. The contract of toValue. -/
import Derived.Test.YtooeohhkcemoiaaKit
import Derived.Handy
namespace Go.Proofs.Ytooeohhkcemoiaa
open Go.RowKit
set_option maxHeartbeats 400000 in
theorem toValue_any (k n : Int) (s : ByteArray) (w : World) :
    Calls Try.prog 68 #[(.agg #[.int .i64 k, .int .i64 n, .string s])] w fun e w' => e = .returned (.agg #[.int .i64 k, .int .i64 n, .string s]) ∧ Below w.heap.size w w' := by
  go_enter Try.func68, Try.ntmps68
  go_wp2
  go_returns
  refine ⟨rfl, ?_⟩
  go_grown
end Go.Proofs.Ytooeohhkcemoiaa
