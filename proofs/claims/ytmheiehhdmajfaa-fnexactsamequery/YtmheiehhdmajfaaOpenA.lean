/- Own text. An expression of a question that came in: its parts, and how its kids lie. -/
import Derived.Test.YtmheiehhdmajfaaAstK
import Derived.Lib.SmallJoins
namespace Go.Proofs.Ytmheiehhdmajfaa
open Go.RowKit Go.Deep Go.ChangeShapes Go.WideShapes Go.Joins
set_option linter.unusedVariables false
theorem cellsAst : Try.prog.cellsOf 52 = 6 := by kernel_rfl
theorem cellsVal : Try.prog.cellsOf 50 = 3 := by kernel_rfl
theorem cellsInt : Try.prog.cellsOf 3 = 1 := by kernel_rfl
theorem cellsStr : Try.prog.cellsOf 9 = 1 := by kernel_rfl
theorem cellsAsts : Try.prog.cellsOf 22 = 1 := by kernel_rfl
theorem AstsIs.wfs {w : World} {d : Nat} {v : Value} {es : List A6} {F : List Nat} (h : AstsIs w (d + 1) v es F) : ∀ e ∈ es, e.wf := by
  obtain ⟨a, c, G, _, _, _, hG, _, h⟩ := h
  intro e he
  obtain ⟨b, o, _, _, _, hL⟩ := h (by rintro rfl; cases he)
  obtain ⟨i, hi, rfl⟩ := List.mem_iff_getElem.1 he
  have hi' : i < G.length := by omega
  exact (hL i es[i] G[i] (by simp) (by simp)).1
section
variable {H : Type} {enc : TypeId × Value → H} {w : World} {spare : Nat → Bool} {held : Bool}
/-- a list of expressions that came in. -/
theorem open_asts {fuel : Nat} {v : Value} {x : DataW H × List MemPlace} (h : DataW.trod enc Try.prog w 0 spare held fuel 22 [v] = some x) : ∃ es F, AstsIs w (fuel + 1) v es F :=
  open_kidsA (P := Try.prog) Try.underlying22 Try.underlying52 cellsAst rfl rfl rfl rfl cellsInt cellsStr cellsVal cellsAsts Try.underlying3 Try.underlying9 Try.underlying50 rfl rfl rfl rfl cellsInt cellsInt cellsStr Try.underlying3 Try.underlying3 Try.underlying9 fuel fuel (Nat.le_refl _) h
end
end Go.Proofs.Ytmheiehhdmajfaa
