/- Own text. markExp: what it writes. -/
import Derived.Test.YtjblljggmjbalaaMarkEW
import Derived.Handy
namespace Go.Proofs.Ytjblljggmjbalaa
open Go.RowKit Go.Deep
set_option linter.unusedVariables false
set_option maxHeartbeats 1000000 in
set_option maxRecDepth 100000 in
theorem markExp_any (d k : Nat) (e : E7) (u : Value) (F : List Nat) (w : World) (hr : KidsIs w d u e.ks F) (hnd : F.Nodup) (hf : FreeE w F) (h0 : 0 < k) (h1 : k + 6 * nK d e.ks ≤ 999999900) :
    Calls Try.prog 10 #[(.agg #[.int .i64 e.k, .int .i64 e.n, .int .i64 e.v.k, .int .i64 e.v.n, .string e.v.s, .string e.p, u]), .int .i64 k] w fun x w' => x = .returned (.int .i64 ((k + 6 * nK d e.ks : Nat) : Int)) ∧ KidsIs w' d u (mK d k e.ks) F ∧ ChgE F w w' := by
  have hlt := hr.lt
  obtain ⟨a, c, rfl, _, _⟩ := hr.shape
  have hb1 : Below w.heap.size w (w.alloc (.cells #[.int .i64 e.k, .int .i64 e.n, .int .i64 e.v.k, .int .i64 e.v.n, .string e.v.s, .string e.p, .slice a e.ks.length c] 32)) := (Below.refl _ _).alloc (Nat.le_refl _) _
  have hc1 := ChgE.of_below hb1 hlt
  have hI := markExpS_any d k (.slice a e.ks.length c) e.ks F _ (hr.below hb1) hnd (hc1.free hf) h0 h1
  go_enter Try.func10, Try.ntmps10
  go_wp2_with fail
  refine Calls.mono hI ?_
  rintro x w2 ⟨rfl, hR2, hc2⟩
  have hch := hc1.trans hc2
  clear hc1 hc2 hb1 hf hr hI
  go_wp2
  go_returns
  exact ⟨rfl, hR2, hch⟩
end Go.Proofs.Ytjblljggmjbalaa
