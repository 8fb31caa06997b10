/- Own text. A plan that is boxed: its twelve cells in a block of its own. -/
import Derived.Test.YtlpgkhdmilnbgaaDoorToP
import Derived.Handy
namespace Go.Proofs.YtlpgkhdmilnbgaaDoor
open Go.RowKit
set_option linter.unusedVariables false
/-- block b has the twelve cells of p; ue, us, u: its three lists' slices. -/
def BxP (w : World) (b : Nat) (p : P12) (ue us u : Value) : Prop :=
  b < w.heap.size ∧ w.cell? ⟨b, 0, none⟩ = some (.int .i64 p.k) ∧ w.cell? ⟨b, 1, none⟩ = some (.string p.s) ∧ w.cell? ⟨b, 2, none⟩ = some (.int .i64 p.e.k) ∧ w.cell? ⟨b, 3, none⟩ = some (.int .i64 p.e.n) ∧ w.cell? ⟨b, 4, none⟩ = some (.int .i64 p.e.v.k) ∧ w.cell? ⟨b, 5, none⟩ = some (.int .i64 p.e.v.n) ∧ w.cell? ⟨b, 6, none⟩ = some (.string p.e.v.s) ∧ w.cell? ⟨b, 7, none⟩ = some (.string p.e.p) ∧ w.cell? ⟨b, 8, none⟩ = some ue ∧ w.cell? ⟨b, 9, none⟩ = some us ∧ w.cell? ⟨b, 10, none⟩ = some (.int .i64 p.n) ∧ w.cell? ⟨b, 11, none⟩ = some u
theorem BxP.cellsP {w : World} {b : Nat} {p : P12} {ue us u : Value} (h : BxP w b p ue us u) : cellsP w b 0 p ue us u := by
  obtain ⟨hl, h0, h1, h2, h3, h4, h5, h6, h7, h8, h9, h10, h11⟩ := h
  exact ⟨h0, h1, h2, h3, h4, h5, h6, h7, h8, h9, h10, h11⟩
theorem BxP.below {w w' : World} {b : Nat} {p : P12} {ue us u : Value} (h : BxP w b p ue us u) (hb : Below w.heap.size w w') : BxP w' b p ue us u := by
  have hk := hb.block b h.1
  obtain ⟨hl, h0, h1, h2, h3, h4, h5, h6, h7, h8, h9, h10, h11⟩ := h
  exact ⟨Nat.lt_of_lt_of_le hl hb.size, (cell_blk hk).trans h0, (cell_blk hk).trans h1, (cell_blk hk).trans h2, (cell_blk hk).trans h3, (cell_blk hk).trans h4, (cell_blk hk).trans h5, (cell_blk hk).trans h6, (cell_blk hk).trans h7, (cell_blk hk).trans h8, (cell_blk hk).trans h9, (cell_blk hk).trans h10, (cell_blk hk).trans h11⟩
theorem bxP_new (w : World) (p : P12) (ue us u : Value) (t : TypeId) : BxP (w.alloc (.cells #[.int .i64 p.k, .string p.s, .int .i64 p.e.k, .int .i64 p.e.n, .int .i64 p.e.v.k, .int .i64 p.e.v.n, .string p.e.v.s, .string p.e.p, ue, us, .int .i64 p.n, u] t)) w.heap.size p ue us u := by
  refine ⟨by simp, ?_, ?_, ?_, ?_, ?_, ?_, ?_, ?_, ?_, ?_, ?_, ?_⟩ <;> go_simp
end Go.Proofs.YtlpgkhdmilnbgaaDoor
