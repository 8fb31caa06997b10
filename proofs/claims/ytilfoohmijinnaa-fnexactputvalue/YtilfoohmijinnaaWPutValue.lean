/- Own text. The walk: For every argument, whatever memory it lies in, the statement's function on PutValue returns true, and each argument reads afterwards as it read before; no condition. -/
import Derived.Test.YtilfoohmijinnaaPutS
import Derived.WalkKit
import Derived.WalkSpells
import Derived.WalkLawsBesides
import Derived.Handy
import Derived.Below
namespace Go.Proofs.Ytilfoohmijinnaa.fnExactPutValue
open Go.RowKit
set_option linter.unusedVariables false
set_option maxHeartbeats 2000000 in
set_option maxRecDepth 100000 in
theorem walk (k n : Int) (s : ByteArray) (hk : (Lit.int .i64 k).wf = true) (hn : (Lit.int .i64 n).wf = true) (hs0 : s.size ≤ maxLen) (w : World) :
    Calls Try.prog 10 #[(.agg #[.int .i64 k, .int .i64 n, .string s])] w fun e w' => e = .returned (.bool true) ∧ Below w.heap.size w w' := by
  clear hk hn
  have hs := hs0
  unfold maxLen at hs
  by_cases hbig : (1048576 : Int) < s.size
  · go_enter Try.func10, Try.ntmps10
    go_wp2
    go_returns
    refine ⟨rfl, ?_⟩
    go_grown
  · go_enter Try.func10, Try.ntmps10
    go_wp2_with (first | (go_at_call 31; refine (specPut_any _ _ _ _ hs0).mono ?_; rintro e w1 ⟨rfl, hb1⟩; obtain ⟨hc1, hf1⟩ := bcell hb1; have hz1 := hb1.size; (try simp at hz1); have hy1 : w.heap.size < w1.heap.size := (by omega); have hx1 : w.heap.size + 1 < w1.heap.size := (by omega)) | (go_at_call 32; refine (implPut_any _ _ _ _ hs0).mono ?_; rintro e w2 ⟨rfl, hb2⟩; obtain ⟨hc2, hf2⟩ := bcell hb2; have hz2 := hb2.size; (try simp at hz2); have hy2 : w.heap.size < w2.heap.size := (by omega); have hx2 : w.heap.size + 1 < w2.heap.size := (by omega)) | go_in)
    all_goals (go_returns; refine ⟨?_, ?_⟩)
    all_goals first | ((repeat (first | exact Below.refl _ _ | refine Below.drew ?_ | refine Below.alloc ?_ (by first | (simp; done) | (simp; omega) | omega) _ | refine Below.setCell ?_ (by first | (simp; done) | (simp; omega) | omega) _ | refine bstep (by assumption) (by first | (simp; done) | (simp; omega) | omega) ?_)); done) | (go_grown; done) | rfl | (simp; done)
end Go.Proofs.Ytilfoohmijinnaa.fnExactPutValue
