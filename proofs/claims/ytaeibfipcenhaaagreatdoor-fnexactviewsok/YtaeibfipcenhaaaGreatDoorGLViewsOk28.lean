/- Own texts, joined: contracts that the law's proof goes by. -/
import Derived.Test.YtaeibfipcenhaaaGreatDoorGLViewsOk27
import Derived.Test.YtaeibfipcenhaaaGreatDoorGLViewsOk25
import Derived.Test.YtaeibfipcenhaaaGreatDoorGLViewsOk8
import Derived.Test.YtaeibfipcenhaaaGreatDoorGLViewsOk3
namespace Go.Proofs.YtaeibfipcenhaaaGreatDoor
open Go.RowKit
set_option linter.unusedVariables false
abbrev InN (x : Int) : Prop := -9223372036854775808 ≤ x ∧ x ≤ 9223372036854775807
end Go.Proofs.YtaeibfipcenhaaaGreatDoor
namespace Go.Proofs.YtaeibfipcenhaaaGreatDoor
open Go.RowKit
set_option linter.unusedVariables false
/-- a value whose number has 64 bits and whose text is no longer than the statement's arguments together. -/
def goodR (r : V3) : Prop := InN r.n ∧ r.s.size ≤ 1048576
theorem wf_inN {n : Int} (h : (Lit.int .i64 n).wf = true) : InN n := by
  have := h
  simp only [Lit.wf, Bool.and_eq_true, decide_eq_true_eq] at this
  have e1 : IntKind.i64.min = -9223372036854775808 := by decide
  have e2 : IntKind.i64.max = 9223372036854775807 := by decide
  unfold InN
  omega
theorem kid_of {w : World} {d : Nat} {u : Value} {es : List E7} {F : List Nat} (h : KidsIs w (d + 1) u es F) {x : E7} (hx : x ∈ es) : x.wf ∧ ∃ u' F', KidsIs w d u' x.ks F' := by
  obtain ⟨a, c, G, rfl, _, _, hG, _, h⟩ := h
  obtain ⟨i, hi, rfl⟩ := List.mem_iff_getElem.1 hx
  obtain ⟨b, o, _, _, _, hL⟩ := h (by rintro rfl; simp at hi)
  obtain ⟨hw, _, u', _, hK⟩ := hL i es[i] (G[i]'(by omega)) (by simp) (by simp)
  exact ⟨hw, u', _, hK⟩
theorem KidsIs.succ {w : World} {d : Nat} {u : Value} {es : List E7} {F : List Nat} (h : KidsIs w d u es F) : ∃ d', d = d' + 1 := by
  cases d with
  | zero => exact h.elim
  | succ d => exact ⟨d, rfl⟩
end Go.Proofs.YtaeibfipcenhaaaGreatDoor
namespace Go.Proofs.YtaeibfipcenhaaaGreatDoor
open Go.RowKit
set_option linter.unusedVariables false
theorem lt_of_blk {w : World} {b : Nat} {x : Obj} (h : w.heap[b]? = some x) : b < w.heap.size := by
  rcases Nat.lt_or_ge b w.heap.size with h1 | h1
  · exact h1
  · rw [Array.getElem?_eq_none h1] at h; cases h
section
variable {m : Int} {D : Nat → Prop} {w : World} {e : E7} {f E K kb c : Nat} {u : Value} {t : TypeId} {fr : Nat × Nat} {cs : List Value}
end
end Go.Proofs.YtaeibfipcenhaaaGreatDoor
