/- Own text. A question that is boxed: its eight cells in a block of its own; blocks of its lists that have cells. -/
import Derived.Test.YtmheiehhdmajfaaToQ
import Derived.Test.YtmheiehhdmajfaaBoxA
import Derived.Handy
namespace Go.Proofs.Ytmheiehhdmajfaa
open Go.RowKit
set_option linter.unusedVariables false
/-- block b has the eight cells of p; ui uf uw ug um u: its lists' slices. -/
def Box8 (w : World) (b : Nat) (p : S8) (ui uf uw ug um u : Value) : Prop :=
  b < w.heap.size ∧ w.cell? ⟨b, 0, none⟩ = some (.bool p.d) ∧ w.cell? ⟨b, 1, none⟩ = some (.bool p.s) ∧ w.cell? ⟨b, 2, none⟩ = some ui ∧ w.cell? ⟨b, 3, none⟩ = some uf ∧ w.cell? ⟨b, 4, none⟩ = some uw ∧ w.cell? ⟨b, 5, none⟩ = some ug ∧ w.cell? ⟨b, 6, none⟩ = some um ∧ w.cell? ⟨b, 7, none⟩ = some u
theorem Box8.cellsQ {w : World} {b : Nat} {p : S8} {ui uf uw ug um u : Value} (h : Box8 w b p ui uf uw ug um u) : cellsQ w b 0 p ui uf uw ug um u := by
  obtain ⟨hl, h0, h1, h2, h3, h4, h5, h6, h7⟩ := h
  exact ⟨h0, h1, h2, h3, h4, h5, h6, h7⟩
theorem Box8.below {w w' : World} {b : Nat} {p : S8} {ui uf uw ug um u : Value} (h : Box8 w b p ui uf uw ug um u) (hb : Below w.heap.size w w') : Box8 w' b p ui uf uw ug um u := by
  have hk := hb.block b h.1
  obtain ⟨hl, h0, h1, h2, h3, h4, h5, h6, h7⟩ := h
  exact ⟨Nat.lt_of_lt_of_le hl hb.size, (cell_blk hk).trans h0, (cell_blk hk).trans h1, (cell_blk hk).trans h2, (cell_blk hk).trans h3, (cell_blk hk).trans h4, (cell_blk hk).trans h5, (cell_blk hk).trans h6, (cell_blk hk).trans h7⟩
theorem box8_new (w : World) (p : S8) (ui uf uw ug um u : Value) (t : TypeId) : Box8 (w.alloc (.cells #[.bool p.d, .bool p.s, ui, uf, uw, ug, um, u] t)) w.heap.size p ui uf uw ug um u := by
  refine ⟨by simp, ?_, ?_, ?_, ?_, ?_, ?_, ?_, ?_⟩ <;> go_simp
theorem StrsF.cells {w : World} {v : Value} {ns : List ByteArray} {g : List Nat} (h : StrsF w v ns g) : ∀ b ∈ g, ∃ c t l, w.heap[b]? = some (.cells c t l) := by
  obtain ⟨a, c, _, _, _, h0, h⟩ := h
  by_cases hne : ns = []
  · rw [h0 hne]; intro b hb; cases hb
  · obtain ⟨b, o, _, hlt, rfl, hC⟩ := h hne
    have hp : 0 < ns.length := List.length_pos_iff.2 hne
    intro x hx
    rcases List.mem_singleton.1 hx with rfl
    exact cells_of (hC 0 ns[0] (by simp))
theorem SelsIs.cells {w : World} {D : Nat} : ∀ {d : Nat} {v : Value} {ps : List S8} {F : List Nat}, SelsIs w D d v ps F → ∀ b ∈ F, ∃ c t l, w.heap[b]? = some (.cells c t l)
  | 0, _, _, _, h => h.elim
  | d + 1, v, ps, F, h => by
    obtain ⟨a, c, G, rfl, _, _, hG, h0, h⟩ := h
    by_cases hne : ps = []
    · rw [h0 hne]; intro b hb; cases hb
    obtain ⟨b, o, rfl, hlt, rfl, hL⟩ := h hne
    intro x hx
    have hp : 0 < ps.length := List.length_pos_iff.2 hne
    have hpG : 0 < G.length := by omega
    rcases List.mem_cons.1 hx with rfl | hx
    · obtain ⟨_, _, _, _, _, _, _, ⟨hc, _⟩, _⟩ := hL 0 ps[0] G[0] (by simp) (by simp)
      exact cells_of hc
    obtain ⟨g, hg, hxg⟩ := List.mem_flatten.1 hx
    obtain ⟨i, hi, rfl⟩ := List.mem_iff_getElem.1 hg
    have hi' : i < ps.length := by omega
    obtain ⟨_, ui, uf, uw, ug, um, u, _, Fi, Ff, Fw, Fg, Fm, h, hgg, ki, kf, kw, kg, km, kn⟩ := hL i ps[i] G[i] (by simp) (by simp)
    rw [hgg] at hxg
    clear hx
    have hx := hxg
    rcases List.mem_append.1 hx with hx | hx
    · exact ki.cells x hx
    rcases List.mem_append.1 hx with hx | hx
    · exact kf.cells x hx
    rcases List.mem_append.1 hx with hx | hx
    · exact kw.cells x hx
    rcases List.mem_append.1 hx with hx | hx
    · exact kg.cells x hx
    rcases List.mem_append.1 hx with hx | hx
    · exact km.cells x hx
    · exact kn.cells x hx
theorem SelsIs.fr {w : World} {D d N : Nat} {v : Value} {ps : List S8} {F : List Nat} (h : SelsIs w D d v ps F) (ho : Own w N F) : ∀ b ∈ F, Fr w b := fun b hb => ⟨h.cells b hb, (ho.2 b hb).2⟩
end Go.Proofs.Ytmheiehhdmajfaa
