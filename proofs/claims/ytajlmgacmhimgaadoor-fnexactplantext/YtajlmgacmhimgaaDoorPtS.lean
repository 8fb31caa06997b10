/- Own text. The contract of spec.PlanText. -/
import Derived.Test.YtajlmgacmhimgaaDoorPtS0
import Derived.Test.YtajlmgacmhimgaaDoorPtS1
import Derived.Test.YtajlmgacmhimgaaDoorPtS2
import Derived.Test.YtajlmgacmhimgaaDoorPtS3
import Derived.Test.YtajlmgacmhimgaaDoorPtS4
import Derived.Test.YtajlmgacmhimgaaDoorPtS5
import Derived.Test.YtajlmgacmhimgaaDoorPtS6
import Derived.Handy
namespace Go.Proofs.YtajlmgacmhimgaaDoor
open Go.RowKit
set_option linter.unusedVariables false
theorem tpS_any : ∀ f, TpS f
  | 0 => tpS_zero
  | f + 1 => by
    have ih := tpS_any f
    intro p ue us u g D d w hw hL hn hf hE
    by_cases h0 : p.k = 0
    · exact tpS_0 ih hw hL hn hf hE h0
    by_cases h1 : p.k = 1
    · exact tpS_1 ih hw hL hn hf hE h1
    by_cases h2 : p.k = 2
    · exact tpS_2 ih hw hL hn hf hE h2
    by_cases h3 : p.k = 3
    · exact tpS_3 ih hw hL hn hf hE h3
    by_cases h4 : p.k = 4
    · exact tpS_4 ih hw hL hn hf hE h4
    by_cases h5 : p.k = 5
    · exact tpS_5 ih hw hL hn hf hE h5
    by_cases h6 : p.k = 6
    · exact tpS_6 ih hw hL hn hf hE h6
    exact tpS_x hL h0 h1 h2 h3 h4 h5 h6
set_option maxHeartbeats 4000000 in
set_option maxRecDepth 100000 in
theorem specPlanText_any (p : P12) (ue us u : Value) (g : List Nat) (D d : Nat) (w : World) (hw : p.wf) (hL : ListsP w D (PlansIs w D d) p ue us u g) (hn : wtP p ≤ 1048576) (hE : Env w) :
    Calls Tryd.prog 25 #[(.agg #[.int .i64 p.k, .string p.s, .int .i64 p.e.k, .int .i64 p.e.n, .int .i64 p.e.v.k, .int .i64 p.e.v.n, .string p.e.v.s, .string p.e.p, ue, us, .int .i64 p.n, u])] w fun x w' => x = .returned (.string (bs (planT 21 p))) ∧ Below w.heap.size w w' := by
  have hT := fun w2 (hb : Below w.heap.size w w2) => tpS_any 21 p ue us u g D d w2 hw (hL.below hb) hn (Nat.le_refl _) (hE.below hb)
  rw [show ((21 : Nat) : Int) - 1 = 20 from rfl] at hT
  obtain ⟨a_e, a_E, a_s, a_S, a_k, a_K, rfl, rfl, rfl, _, _, _, _, _, _⟩ := hL.shape
  clear hL hE hw
  go_enter Tryd.func25, Tryd.ntmps25
  go_wp2_with fail
  refine Calls.mono (hT _ ?hb) ?_
  case hb => repeat (first | (with_reducible exact Below.refl _ _) | (with_reducible refine Below.drew ?_) | (with_reducible refine Below.alloc ?_ ?hh _; case hh => first | (simp; done) | (simp; omega) | omega) | (with_reducible refine Below.setCell ?_ ?hh _; case hh => first | (simp; done) | (simp; omega) | omega) | refine bstep (by assumption) (by first | (simp; done) | (simp; omega) | omega) ?_)
  rintro x w1 ⟨rfl, hb1⟩
  have bel1 : Below w.heap.size w w1 := by repeat (first | (with_reducible exact Below.refl _ _) | (with_reducible refine Below.drew ?_) | (with_reducible refine Below.alloc ?_ ?hh _; case hh => first | (simp; done) | (simp; omega) | omega) | (with_reducible refine Below.setCell ?_ ?hh _; case hh => first | (simp; done) | (simp; omega) | omega) | refine bstep (by assumption) (by first | (simp; done) | (simp; omega) | omega) ?_)
  clear hT hb1
  go_wp2_with fail
  go_returns
  exact ⟨rfl, bel1⟩
end Go.Proofs.YtajlmgacmhimgaaDoor
