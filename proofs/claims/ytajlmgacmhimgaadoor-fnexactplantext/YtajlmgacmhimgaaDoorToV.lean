/- Own text. The contract of toValue. -/
import Derived.Test.YtajlmgacmhimgaaDoorKit
import Derived.Handy
namespace Go.Proofs.YtajlmgacmhimgaaDoor
open Go.RowKit
set_option maxHeartbeats 400000 in
theorem toValue_any (k n : Int) (s : ByteArray) (w : World) :
    Calls Tryd.prog 10 #[(.agg #[.int .i64 k, .int .i64 n, .string s])] w fun e w' => e = .returned (.agg #[.int .i64 k, .int .i64 n, .string s]) ∧ Below w.heap.size w w' := by
  go_enter Tryd.func10, Tryd.ntmps10
  go_wp2
  go_returns
  refine ⟨rfl, ?_⟩
  go_grown
end Go.Proofs.YtajlmgacmhimgaaDoor
