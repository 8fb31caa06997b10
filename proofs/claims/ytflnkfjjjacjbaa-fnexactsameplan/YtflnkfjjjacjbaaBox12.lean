/- Own text. A plan that is boxed: its twelve cells in a block of its own. -/
import Derived.Test.YtflnkfjjjacjbaaToP
import Derived.Test.YtflnkfjjjacjbaaBox7
import Derived.Handy
namespace Go.Proofs.Ytflnkfjjjacjbaa
open Go.RowKit
set_option linter.unusedVariables false
/-- block b has the twelve cells of p; ue, us, u: its three lists' slices. -/
def Box12 (w : World) (b : Nat) (p : P12) (ue us u : Value) : Prop :=
  b < w.heap.size ∧ w.cell? ⟨b, 0, none⟩ = some (.int .i64 p.k) ∧ w.cell? ⟨b, 1, none⟩ = some (.string p.s) ∧ w.cell? ⟨b, 2, none⟩ = some (.int .i64 p.e.k) ∧ w.cell? ⟨b, 3, none⟩ = some (.int .i64 p.e.n) ∧ w.cell? ⟨b, 4, none⟩ = some (.int .i64 p.e.v.k) ∧ w.cell? ⟨b, 5, none⟩ = some (.int .i64 p.e.v.n) ∧ w.cell? ⟨b, 6, none⟩ = some (.string p.e.v.s) ∧ w.cell? ⟨b, 7, none⟩ = some (.string p.e.p) ∧ w.cell? ⟨b, 8, none⟩ = some ue ∧ w.cell? ⟨b, 9, none⟩ = some us ∧ w.cell? ⟨b, 10, none⟩ = some (.int .i64 p.n) ∧ w.cell? ⟨b, 11, none⟩ = some u
theorem Box12.cellsP {w : World} {b : Nat} {p : P12} {ue us u : Value} (h : Box12 w b p ue us u) : cellsP w b 0 p ue us u := by
  obtain ⟨hl, h0, h1, h2, h3, h4, h5, h6, h7, h8, h9, h10, h11⟩ := h
  exact ⟨h0, h1, h2, h3, h4, h5, h6, h7, h8, h9, h10, h11⟩
theorem Box12.below {w w' : World} {b : Nat} {p : P12} {ue us u : Value} (h : Box12 w b p ue us u) (hb : Below w.heap.size w w') : Box12 w' b p ue us u := by
  have hk := hb.block b h.1
  obtain ⟨hl, h0, h1, h2, h3, h4, h5, h6, h7, h8, h9, h10, h11⟩ := h
  exact ⟨Nat.lt_of_lt_of_le hl hb.size, (cell_blk hk).trans h0, (cell_blk hk).trans h1, (cell_blk hk).trans h2, (cell_blk hk).trans h3, (cell_blk hk).trans h4, (cell_blk hk).trans h5, (cell_blk hk).trans h6, (cell_blk hk).trans h7, (cell_blk hk).trans h8, (cell_blk hk).trans h9, (cell_blk hk).trans h10, (cell_blk hk).trans h11⟩
theorem box12_new (w : World) (p : P12) (ue us u : Value) (t : TypeId) : Box12 (w.alloc (.cells #[.int .i64 p.k, .string p.s, .int .i64 p.e.k, .int .i64 p.e.n, .int .i64 p.e.v.k, .int .i64 p.e.v.n, .string p.e.v.s, .string p.e.p, ue, us, .int .i64 p.n, u] t)) w.heap.size p ue us u := by
  refine ⟨by simp, ?_, ?_, ?_, ?_, ?_, ?_, ?_, ?_, ?_, ?_, ?_, ?_⟩ <;> go_simp
theorem PlansIs.cells {w : World} {D : Nat} : ∀ {d : Nat} {v : Value} {ps : List P12} {F : List Nat}, PlansIs w D d v ps F → ∀ b ∈ F, ∃ c t l, w.heap[b]? = some (.cells c t l)
  | 0, _, _, _, h => h.elim
  | d + 1, v, ps, F, h => by
    obtain ⟨a, c, G, rfl, _, _, hG, h0, h⟩ := h
    by_cases hne : ps = []
    · rw [h0 hne]; intro b hb; cases hb
    obtain ⟨b, o, rfl, hlt, rfl, hL⟩ := h hne
    intro x hx
    have hp : 0 < ps.length := List.length_pos_iff.2 hne
    have hpG : 0 < G.length := by omega
    rcases List.mem_cons.1 hx with rfl | hx
    · obtain ⟨_, _, _, _, ⟨hc, _⟩, _⟩ := hL 0 ps[0] G[0] (by simp) (by simp)
      exact cells_of hc
    obtain ⟨g, hg, hxg⟩ := List.mem_flatten.1 hx
    obtain ⟨i, hi, rfl⟩ := List.mem_iff_getElem.1 hg
    have hi' : i < ps.length := by omega
    obtain ⟨_, ue, us, u, _, Fe, Fs, h', hgg, ke, kes, kp⟩ := hL i ps[i] G[i] (by simp) (by simp)
    rw [hgg] at hxg
    rcases List.mem_append.1 hxg with hx | hx
    · exact ke.cells x hx
    rcases List.mem_append.1 hx with hx | hx
    · exact kes.cells x hx
    · exact kp.cells x hx
theorem PlansIs.fr {w : World} {D d N : Nat} {v : Value} {ps : List P12} {F : List Nat} (h : PlansIs w D d v ps F) (ho : Own w N F) : ∀ b ∈ F, Fr w b := fun b hb => ⟨h.cells b hb, (ho.2 b hb).2⟩
end Go.Proofs.Ytflnkfjjjacjbaa
