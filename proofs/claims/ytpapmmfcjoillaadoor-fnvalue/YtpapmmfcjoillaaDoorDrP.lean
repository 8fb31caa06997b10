/- Own text. A draw's beginning. -/
import Derived.Test.YtpapmmfcjoillaaDoorDrD
import Derived.Test.YtpapmmfcjoillaaDoorDrN
import Derived.Handy
namespace Go.Proofs.YtpapmmfcjoillaaDoor
open Go.RowKit Go.Deep
set_option linter.unusedVariables false
theorem BytesB.up {w w' : World} {M M' : Nat} {v : Value} {l : Nat} (h : BytesB w M v l) (hb : Below M w w') (hM : M ≤ M') : BytesB w' M' v l := by
  obtain ⟨a, c, hv, hl, hm, hx⟩ := h
  refine ⟨a, c, hv, hl, hm, fun j hj => ?_⟩
  obtain ⟨b, o, ha, hlt, x, x0, x1, he⟩ := hx j hj
  exact ⟨b, o, ha, by omega, x, x0, x1, (cell_blk (hb.block b hlt)).trans he⟩
theorem Drew.new {w w0 w1 w2 : World} {v : Value} {l B : Nat} (h0 : Below w.heap.size w w0) (h1 : Below w0.heap.size w0 w1) (hB : B = w0.heap.size) (hs : B < w1.heap.size) (h2 : Drew B v l w1 w2) : Below w.heap.size w w2 := by
  subst hB
  have := h0.size
  exact h0.trans ((h1.mono this).trans (h2.chg.below (fun b hb => by rcases List.mem_singleton.1 hb with rfl; exact this) (by omega)))
theorem l01New_at (B : Nat) (v : Value) (l : Nat) (w : World) (hB : B = w.heap.size) (h : BytesB w B v l) :
    Calls Tryd.prog 24 #[v] w fun e w' => e = .returned (.pointer (some ⟨B, 0, none⟩)) ∧ Cur w' B v l ∧ Below w.heap.size w w' := by subst hB; exact l01New_any v l w h
end Go.Proofs.YtpapmmfcjoillaaDoor
