/- Own text. A step as it lies in memory: five cells, two of them lists; how it is read off what came in; what it weighs. -/
import Derived.Test.YtlobjpdkjlmglaaGreatRelK
import Derived.Test.YtlobjpdkjlmglaaGreatStrK
import Derived.Lib.SmallJoins
namespace Go.Proofs.YtlobjpdkjlmglaaGreat
open Go.RowKit Go.Deep Go.ChangeShapes Go.WideShapes Go.Joins
set_option linter.unusedVariables false
/-- a step: its kind, its name, its columns, its question, its change. -/
structure T5 where
  k : Int
  s : ByteArray
  cs : List ByteArray
  q : ByteArray
  rs : List R3
def T5.wf (x : T5) : Prop := (Lit.int .i64 x.k).wf = true ∧ x.s.size ≤ maxLen ∧ SsWf x.cs ∧ x.q.size ≤ maxLen ∧ RsWf x.rs
/-- the two lists of a step lie at these slices. -/
def StpIs (w : World) (uc ur : Value) (x : T5) : Prop := (∃ g, StrsF w uc x.cs g) ∧ RelsIs w ur x.rs
theorem StpIs.below {w w' : World} {uc ur : Value} {x : T5} (h : StpIs w uc ur x) (hb : Below w.heap.size w w') : StpIs w' uc ur x := by
  obtain ⟨⟨g, h0⟩, h1⟩ := h
  exact ⟨⟨g, h0.below hb⟩, h1.below hb⟩
theorem StpIs.shape {w : World} {uc ur : Value} {x : T5} (h : StpIs w uc ur x) : (∃ a c, uc = .slice a x.cs.length c ∧ x.cs.length ≤ c ∧ c ≤ maxLen) ∧ ∃ a c, ur = .slice a x.rs.length c ∧ x.rs.length ≤ c ∧ c ≤ maxLen := by
  obtain ⟨⟨g, h0⟩, h1⟩ := h
  obtain ⟨a, c, e, hl, hm, _⟩ := h1
  exact ⟨h0.shape, a, c, e, hl, hm⟩
/-- what a step weighs. -/
def wtT (x : T5) : Nat := x.s.size + (x.cs.length + wtSs x.cs) + x.q.size + wtR x.rs
theorem cellsI1 : Tryz.prog.cellsOf 3 = 1 := by kernel_rfl
theorem cellsS1 : Tryz.prog.cellsOf 9 = 1 := by kernel_rfl
theorem cellsSs1 : Tryz.prog.cellsOf 24 = 1 := by kernel_rfl
section
variable {H : Type} {enc : TypeId × Value → H} {w : World} {spare : Nat → Bool} {held : Bool}
end
end Go.Proofs.YtlobjpdkjlmglaaGreat
