/- Own text. An expression that is boxed: its six cells in a block of its own; blocks of kids that have cells. -/
import Derived.Test.YtmheiehhdmajfaaToA
import Derived.Test.YtmheiehhdmajfaaSaM
import Derived.Handy
namespace Go.Proofs.Ytmheiehhdmajfaa
open Go.RowKit
set_option linter.unusedVariables false
/-- block b has the six cells of e, the last of which is u. -/
def BoxA6 (w : World) (b : Nat) (e : A6) (u : Value) : Prop :=
  b < w.heap.size ∧ w.cell? ⟨b, 0, none⟩ = some (.int .i64 e.k) ∧ w.cell? ⟨b, 1, none⟩ = some (.string e.p) ∧ w.cell? ⟨b, 2, none⟩ = some (.int .i64 e.v.k) ∧ w.cell? ⟨b, 3, none⟩ = some (.int .i64 e.v.n) ∧ w.cell? ⟨b, 4, none⟩ = some (.string e.v.s) ∧ w.cell? ⟨b, 5, none⟩ = some u
theorem BoxA6.keep {w w' : World} {b : Nat} {e : A6} {u : Value} (h : BoxA6 w b e u) (hs : w.heap.size ≤ w'.heap.size) (hb : w'.heap[b]? = w.heap[b]?) : BoxA6 w' b e u := by
  obtain ⟨hl, h0, h1, h2, h3, h4, h5⟩ := h
  exact ⟨Nat.lt_of_lt_of_le hl hs, (cell_blk hb).trans h0, (cell_blk hb).trans h1, (cell_blk hb).trans h2, (cell_blk hb).trans h3, (cell_blk hb).trans h4, (cell_blk hb).trans h5⟩
theorem BoxA6.below {w w' : World} {b : Nat} {e : A6} {u : Value} (h : BoxA6 w b e u) (hb : Below w.heap.size w w') : BoxA6 w' b e u := h.keep hb.size (hb.block b h.1)
theorem boxA6_new (w : World) (e : A6) (u : Value) (t : TypeId) : BoxA6 (w.alloc (.cells #[.int .i64 e.k, .string e.p, .int .i64 e.v.k, .int .i64 e.v.n, .string e.v.s, u] t)) w.heap.size e u := by
  refine ⟨by simp, ?_, ?_, ?_, ?_, ?_, ?_⟩ <;> go_simp
theorem BoxA6.cellsA {w : World} {b : Nat} {e : A6} {u : Value} (h : BoxA6 w b e u) : cellsA w b 0 e := by
  obtain ⟨hl, h0, h1, h2, h3, h4, h5⟩ := h
  exact ⟨h0, h1, h2, h3, h4⟩
theorem AstsIs.cells {w : World} : ∀ {d : Nat} {v : Value} {es : List A6} {F : List Nat}, AstsIs w d v es F → ∀ b ∈ F, ∃ c t l, w.heap[b]? = some (.cells c t l)
  | 0, _, _, _, h => h.elim
  | d + 1, v, es, F, h => by
    obtain ⟨a, c, G, rfl, _, _, hG, h0, h⟩ := h
    by_cases hne : es = []
    · rw [h0 hne]; intro b hb; cases hb
    obtain ⟨b, o, rfl, hlt, rfl, hL⟩ := h hne
    intro x hx
    have hp : 0 < es.length := List.length_pos_iff.2 hne
    have hpG : 0 < G.length := by omega
    rcases List.mem_cons.1 hx with rfl | hx
    · obtain ⟨_, ⟨hc, _⟩, _⟩ := hL 0 es[0] G[0] (by simp) (by simp)
      exact cells_of hc
    obtain ⟨g, hg, hxg⟩ := List.mem_flatten.1 hx
    obtain ⟨i, hi, rfl⟩ := List.mem_iff_getElem.1 hg
    have hi' : i < es.length := by omega
    obtain ⟨_, _, u, _, hk⟩ := hL i es[i] G[i] (by simp) (by simp)
    exact hk.cells x hxg
theorem AstsIs.fr {w : World} {d N : Nat} {v : Value} {es : List A6} {F : List Nat} (h : AstsIs w d v es F) (ho : Own w N F) : ∀ b ∈ F, Fr w b := fun b hb => ⟨h.cells b hb, (ho.2 b hb).2⟩
end Go.Proofs.Ytmheiehhdmajfaa
