/- Own text. Blocks of kids have cells, and may be written where they are the call's own. -/
import Derived.Test.YtjblljggmjbalaaToE
import Derived.Test.YtjblljggmjbalaaFrK
import Derived.Handy
namespace Go.Proofs.Ytjblljggmjbalaa
open Go.RowKit
set_option linter.unusedVariables false
theorem KidsIs.cellsF {w : World} : ∀ {d : Nat} {v : Value} {es : List E7} {F : List Nat}, KidsIs w d v es F → ∀ b ∈ F, ∃ c t l, w.heap[b]? = some (.cells c t l)
  | 0, _, _, _, h => h.elim
  | d + 1, v, es, F, h => by
    obtain ⟨a, c, G, rfl, _, _, hG, h0, h⟩ := h
    by_cases hne : es = []
    · rw [h0 hne]; intro b hb; cases hb
    obtain ⟨b, o, rfl, hlt, rfl, hL⟩ := h hne
    intro x hx
    have hp : 0 < es.length := List.length_pos_iff.2 hne
    have hpG : 0 < G.length := by omega
    rcases List.mem_cons.1 hx with rfl | hx
    · obtain ⟨_, ⟨hc, _⟩, _⟩ := hL 0 es[0] G[0] (by simp) (by simp)
      exact cells_of hc
    obtain ⟨g, hg, hxg⟩ := List.mem_flatten.1 hx
    obtain ⟨i, hi, rfl⟩ := List.mem_iff_getElem.1 hg
    have hi' : i < es.length := by omega
    obtain ⟨_, _, u, _, hk⟩ := hL i es[i] G[i] (by simp) (by simp)
    exact hk.cellsF x hxg
theorem KidsIs.frF {w : World} {d N : Nat} {v : Value} {es : List E7} {F : List Nat} (h : KidsIs w d v es F) (ho : Own w N F) : ∀ b ∈ F, Fr w b := fun b hb => ⟨h.cellsF b hb, (ho.2 b hb).2⟩
theorem Own.dst {w : World} {N d : Nat} {v : Value} {es : List E7} {F : List Nat} (ho : Own w N F) (h : KidsIs w d v es F) : F.Nodup ∧ ∀ b ∈ F, Fr w b := ⟨ho.1, h.frF ho⟩
end Go.Proofs.Ytjblljggmjbalaa
