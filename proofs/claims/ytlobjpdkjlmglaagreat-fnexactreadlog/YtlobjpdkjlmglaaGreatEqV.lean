/- Own text. The contract of eqValue at one value twice. -/
import Derived.Test.YtlobjpdkjlmglaaGreatKit
import Derived.Handy
namespace Go.Proofs.YtlobjpdkjlmglaaGreat
open Go.RowKit
set_option maxHeartbeats 400000 in
theorem eqValue_same (k n : Int) (s : ByteArray) (w : World) :
    Calls Tryz.prog 150 #[(.agg #[.int .i64 k, .int .i64 n, .string s]), (.agg #[.int .i64 k, .int .i64 n, .string s])] w fun e w' => e = .returned (.bool true) ∧ Below w.heap.size w w' := by
  go_enter Tryz.func150, Tryz.ntmps150
  go_wp2
  go_returns
  exact ⟨rfl, by go_grown⟩
end Go.Proofs.YtlobjpdkjlmglaaGreat
