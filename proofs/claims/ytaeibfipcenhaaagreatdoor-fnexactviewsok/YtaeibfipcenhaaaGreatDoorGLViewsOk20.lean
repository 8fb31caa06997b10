/- Own texts, joined: contracts that the law's proof goes by. -/
import Derived.Test.YtaeibfipcenhaaaGreatDoorGLViewsOk1
import Derived.Deep.RegionHeld3
import Derived.Test.YtaeibfipcenhaaaGreatDoorGLViewsOk18
import Derived.Test.YtaeibfipcenhaaaGreatDoorGLViewsOk4
import Derived.Test.YtaeibfipcenhaaaGreatDoorGLViewsOk3
import Derived.Handy
import Derived.Deep.DrawnRows
import Derived.WideMake
import Derived.Carry
import Derived.Test.YtaeibfipcenhaaaGreatDoorGLViewsOk28
import Derived.Test.YtaeibfipcenhaaaGreatDoorGLViewsOk25
import Derived.Deep.AppendLies
import Derived.Laws.OwnMore
namespace Go.Proofs.YtaeibfipcenhaaaGreatDoor
open Go.RowKit Go.Deep
set_option linter.unusedVariables false
attribute [local go_sem ↓] Go.wp_at_zero Go.wp_at_succ
theorem RowF.shape {w : World} {v : Value} {vs : List V3} {g : List Nat} (h : RowF w v vs g) : ∃ a c, v = .slice a vs.length c := by
  obtain ⟨a, c, h, _⟩ := h
  exact ⟨a, c, h⟩
theorem CLF.at {w w' : World} {b o : Nat} {cs : List C2} {G : List (List Nat)} (h : CLF w b o cs G) (hG : G.length = cs.length) (hlt : b < w.heap.size) (hb : Below w.heap.size w w') {k : Nat} (hk : k < cs.length) :
    ∃ x u g, cs[k]? = some x ∧ G[k]? = some g ∧ w'.cell? ⟨b, o + k * 2, none⟩ = some u ∧ RowF w' u x.r g ∧ w'.cell? ⟨b, o + k * 2 + 1, none⟩ = some (.int .i64 x.n) ∧ b < w'.heap.size := by
  have hk' : k < G.length := by omega
  obtain ⟨u, h0, h1, h2⟩ := h k cs[k] G[k] (by simp) (by simp)
  exact ⟨cs[k], u, G[k], by simp, by simp, (hb.cell (p := ⟨b, _, none⟩) hlt).trans h0, h1.keep hb.size (fun c hc => hb.block c (h1.lt c hc)), (hb.cell (p := ⟨b, _, none⟩) hlt).trans h2, Nat.lt_of_lt_of_le hlt hb.size⟩
theorem RowF.below {w w' : World} {v : Value} {vs : List V3} {g : List Nat} (h : RowF w v vs g) (hb : Below w.heap.size w w') : RowF w' v vs g := h.keep hb.size fun c hc => hb.block c (h.lt c hc)
end Go.Proofs.YtaeibfipcenhaaaGreatDoor
namespace Go.Proofs.YtaeibfipcenhaaaGreatDoor
open Go.RowKit Go.Deep
set_option linter.unusedVariables false
attribute [local go_sem ↓] Go.wp_at_zero Go.wp_at_succ
attribute [local go_sem] Go.run_makeMap_plain          
theorem ownsRow_blk {w w' : World} {N e s n : Nat} {v : Value} {xs : List Value} (h : w.ownsRow N e s v n xs) (hb : Below w.heap.size w w') : w'.ownsRow N e s v n xs := by
  refine ⟨h.1, ?_⟩
  rcases h.2 with h0 | ⟨g, cap, cur, hv, hg, hc, h3⟩
  · exact .inl h0
  · exact .inr ⟨g, cap, cur, hv, hg, (hb.block g (lt_of_blk hc)).trans hc, h3⟩
end Go.Proofs.YtaeibfipcenhaaaGreatDoor
