/- Own text. Answers that lie in a variable's cells, read in one step. -/
import Derived.Test.YtbobjfokampjbaaDoorKit
import Derived.Handy
namespace Go.Proofs.YtbobjfokampjbaaDoor
open Go.RowKit
set_option linter.unusedVariables false
theorem results_ct {fn : Func} {a u : Tmp} {t : TypeId} (h : fn.results = #[.cell a t, .tmp u]) (tmps : Array Value) (P : Program) (w : World) (v : Value) (p : Addr) (hp : tmps.getD a undef = .pointer (some p)) (hl : (loadVar t p).run P w = .ok v w) : (results fn tmps).run P w = .ok (.tuple #[v, tmps.getD u undef]) w := by
  have hp2 : tmps[a]?.getD undef = .pointer (some p) := by rw [← hp]; simp
  simp [results, h, hp2, hl, asAddr]
theorem results_ctt {fn : Func} {a u x : Tmp} {t : TypeId} (h : fn.results = #[.cell a t, .tmp u, .tmp x]) (tmps : Array Value) (P : Program) (w : World) (v : Value) (p : Addr) (hp : tmps.getD a undef = .pointer (some p)) (hl : (loadVar t p).run P w = .ok v w) : (results fn tmps).run P w = .ok (.tuple #[v, tmps.getD u undef, tmps.getD x undef]) w := by
  have hp2 : tmps[a]?.getD undef = .pointer (some p) := by rw [← hp]; simp
  simp [results, h, hp2, hl, asAddr]
theorem loadV {w : World} {R : Nat} {a0 a1 a2 : Value} (c0 : w.cell? ⟨R, 0, none⟩ = some a0) (c1 : w.cell? ⟨R, 1, none⟩ = some a1) (c2 : w.cell? ⟨R, 2, none⟩ = some a2) : (loadVar 30 ⟨R, 0, none⟩).run Tryd.prog w = .ok (.agg #[a0, a1, a2]) w := by
  simp [go_sem, c0, c1, c2]
theorem results_c {fn : Func} {a : Tmp} {t : TypeId} (h : fn.results = #[.cell a t]) (tmps : Array Value) (P : Program) (w : World) (v : Value) (p : Addr) (hp : tmps.getD a undef = .pointer (some p)) (hl : (loadVar t p).run P w = .ok v w) : (results fn tmps).run P w = .ok v w := by
  have hp2 : tmps[a]?.getD undef = .pointer (some p) := by rw [← hp]; simp
  simp [results, h, hp2, hl, asAddr]
theorem heapLt {w : World} {b : Nat} {o : Obj} (h : w.heap[b]? = some o) : b < w.heap.size := by
  rcases Nat.lt_or_ge b w.heap.size with h' | h'
  · exact h'
  · simp [Array.getElem?_eq_none h'] at h
theorem setB {w : World} {P i : Nat} {cs : Array Value} {v : Value} {t : TypeId} (h : w.heap[P]? = some (.cells cs t (0, 0))) : (w.setCell ⟨P, i, none⟩ v).heap[P]? = some (.cells (cs.setIfInBounds i v) t (0, 0)) := by
  simp [World.setCell, Array.getElem?_modify, h]
/-- three stores into a block of three cells. -/
theorem three_out {w wb : World} {N R : Nat} {a0 a1 a2 : Value} {t : TypeId} (hb : Below N w wb) (hR : N ≤ R) (h : wb.heap[R]? = some (.cells #[a0, a1, a2] t (0, 0))) (b0 b1 b2 : Value) :
    (((wb.setCell ⟨R, 0, none⟩ b0).setCell ⟨R, 1, none⟩ b1).setCell ⟨R, 2, none⟩ b2).cell? ⟨R, 0, none⟩ = some b0 ∧ (((wb.setCell ⟨R, 0, none⟩ b0).setCell ⟨R, 1, none⟩ b1).setCell ⟨R, 2, none⟩ b2).cell? ⟨R, 1, none⟩ = some b1 ∧ (((wb.setCell ⟨R, 0, none⟩ b0).setCell ⟨R, 1, none⟩ b1).setCell ⟨R, 2, none⟩ b2).cell? ⟨R, 2, none⟩ = some b2 ∧ Below N w (((wb.setCell ⟨R, 0, none⟩ b0).setCell ⟨R, 1, none⟩ b1).setCell ⟨R, 2, none⟩ b2) := by
  have h3 : (((wb.setCell ⟨R, 0, none⟩ b0).setCell ⟨R, 1, none⟩ b1).setCell ⟨R, 2, none⟩ b2).heap[R]? = some (.cells #[b0, b1, b2] t (0, 0)) := setB (i := 2) (v := b2) (setB (i := 1) (v := b1) (setB (i := 0) (v := b0) h))
  refine ⟨by rw [Lib.cell_of_heap h3]; rfl, by rw [Lib.cell_of_heap h3]; rfl, by rw [Lib.cell_of_heap h3]; rfl, ?_⟩
  exact ((hb.setCell (p := ⟨R, 0, none⟩) hR _).setCell (p := ⟨R, 1, none⟩) hR _).setCell (p := ⟨R, 2, none⟩) hR _
/-- the cells of a value's variable. -/
theorem cells3 {w : World} {R : Nat} {a0 a1 a2 : Value} {t : TypeId} (h : w.heap[R]? = some (.cells #[a0, a1, a2] t (0, 0))) : w.cell? ⟨R, 0, none⟩ = some a0 ∧ w.cell? ⟨R, 1, none⟩ = some a1 ∧ w.cell? ⟨R, 2, none⟩ = some a2 ∧ ∀ i, w.frozen? ⟨R, i, none⟩ = false :=
  ⟨by rw [Lib.cell_of_heap h]; rfl, by rw [Lib.cell_of_heap h]; rfl, by rw [Lib.cell_of_heap h]; rfl, fun i => Lib.frozen_of_heap h i⟩
end Go.Proofs.YtbobjfokampjbaaDoor
