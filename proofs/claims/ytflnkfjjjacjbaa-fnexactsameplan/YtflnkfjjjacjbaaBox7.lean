/- Own text. An expression that is boxed: its seven cells in a block of its own; blocks of kids that have cells. -/
import Derived.Test.YtflnkfjjjacjbaaToE
import Derived.Test.YtflnkfjjjacjbaaSameM
import Derived.Handy
namespace Go.Proofs.Ytflnkfjjjacjbaa
open Go.RowKit
set_option linter.unusedVariables false
/-- block b has the seven cells of e, the last of which is u. -/
def Box7 (w : World) (b : Nat) (e : E7) (u : Value) : Prop :=
  b < w.heap.size ∧ w.cell? ⟨b, 0, none⟩ = some (.int .i64 e.k) ∧ w.cell? ⟨b, 1, none⟩ = some (.int .i64 e.n) ∧ w.cell? ⟨b, 2, none⟩ = some (.int .i64 e.v.k) ∧ w.cell? ⟨b, 3, none⟩ = some (.int .i64 e.v.n) ∧ w.cell? ⟨b, 4, none⟩ = some (.string e.v.s) ∧ w.cell? ⟨b, 5, none⟩ = some (.string e.p) ∧ w.cell? ⟨b, 6, none⟩ = some u
theorem Box7.keep {w w' : World} {b : Nat} {e : E7} {u : Value} (h : Box7 w b e u) (hs : w.heap.size ≤ w'.heap.size) (hb : w'.heap[b]? = w.heap[b]?) : Box7 w' b e u := by
  obtain ⟨hl, h0, h1, h2, h3, h4, h5, h6⟩ := h
  exact ⟨Nat.lt_of_lt_of_le hl hs, (cell_blk hb).trans h0, (cell_blk hb).trans h1, (cell_blk hb).trans h2, (cell_blk hb).trans h3, (cell_blk hb).trans h4, (cell_blk hb).trans h5, (cell_blk hb).trans h6⟩
theorem Box7.below {w w' : World} {b : Nat} {e : E7} {u : Value} (h : Box7 w b e u) (hb : Below w.heap.size w w') : Box7 w' b e u := h.keep hb.size (hb.block b h.1)
theorem box7_new (w : World) (e : E7) (u : Value) (t : TypeId) : Box7 (w.alloc (.cells #[.int .i64 e.k, .int .i64 e.n, .int .i64 e.v.k, .int .i64 e.v.n, .string e.v.s, .string e.p, u] t)) w.heap.size e u := by
  refine ⟨by simp, ?_, ?_, ?_, ?_, ?_, ?_, ?_⟩ <;> go_simp
theorem Box7.cellsE {w : World} {b : Nat} {e : E7} {u : Value} (h : Box7 w b e u) : cellsE w b 0 e := by
  obtain ⟨hl, h0, h1, h2, h3, h4, h5, h6⟩ := h
  exact ⟨h0, h1, h2, h3, h4, h5⟩
theorem KidsIs.cells {w : World} : ∀ {d : Nat} {v : Value} {es : List E7} {F : List Nat}, KidsIs w d v es F → ∀ b ∈ F, ∃ c t l, w.heap[b]? = some (.cells c t l)
  | 0, _, _, _, h => h.elim
  | d + 1, v, es, F, h => by
    obtain ⟨a, c, G, rfl, _, _, hG, h0, h⟩ := h
    by_cases hne : es = []
    · rw [h0 hne]; intro b hb; cases hb
    obtain ⟨b, o, rfl, hlt, rfl, hL⟩ := h hne
    intro x hx
    have hp : 0 < es.length := List.length_pos_iff.2 hne
    have hpG : 0 < G.length := by omega
    rcases List.mem_cons.1 hx with rfl | hx
    · obtain ⟨_, ⟨hc, _⟩, _⟩ := hL 0 es[0] G[0] (by simp) (by simp)
      exact cells_of hc
    obtain ⟨g, hg, hxg⟩ := List.mem_flatten.1 hx
    obtain ⟨i, hi, rfl⟩ := List.mem_iff_getElem.1 hg
    have hi' : i < es.length := by omega
    obtain ⟨_, _, u, _, hk⟩ := hL i es[i] G[i] (by simp) (by simp)
    exact hk.cells x hxg
theorem KidsIs.fr {w : World} {d N : Nat} {v : Value} {es : List E7} {F : List Nat} (h : KidsIs w d v es F) (ho : Own w N F) : ∀ b ∈ F, Fr w b := fun b hb => ⟨h.cells b hb, (ho.2 b hb).2⟩
end Go.Proofs.Ytflnkfjjjacjbaa
