/- Own text. A step as it lies in memory: five cells, two of them lists; how it is read off what came in; what it weighs. -/
import Derived.Test.YtmomffaceglibaaRelK
import Derived.Test.YtmomffaceglibaaStrK
import Derived.Lib.SmallJoins
namespace Go.Proofs.Ytmomffaceglibaa
open Go.RowKit Go.Deep Go.ChangeShapes Go.WideShapes Go.Joins
set_option linter.unusedVariables false
/-- a step: its kind, its name, its columns, its question, its change. -/
structure T5 where
  k : Int
  s : ByteArray
  cs : List ByteArray
  q : ByteArray
  rs : List R3
def T5.wf (x : T5) : Prop := (Lit.int .i64 x.k).wf = true ∧ x.s.size ≤ maxLen ∧ SsWf x.cs ∧ x.q.size ≤ maxLen ∧ RsWf x.rs
/-- the two lists of a step lie at these slices. -/
def StpIs (w : World) (uc ur : Value) (x : T5) : Prop := (∃ g, StrsF w uc x.cs g) ∧ RelsIs w ur x.rs
theorem StpIs.below {w w' : World} {uc ur : Value} {x : T5} (h : StpIs w uc ur x) (hb : Below w.heap.size w w') : StpIs w' uc ur x := by
  obtain ⟨⟨g, h0⟩, h1⟩ := h
  exact ⟨⟨g, h0.below hb⟩, h1.below hb⟩
theorem StpIs.shape {w : World} {uc ur : Value} {x : T5} (h : StpIs w uc ur x) : (∃ a c, uc = .slice a x.cs.length c ∧ x.cs.length ≤ c ∧ c ≤ maxLen) ∧ ∃ a c, ur = .slice a x.rs.length c ∧ x.rs.length ≤ c ∧ c ≤ maxLen := by
  obtain ⟨⟨g, h0⟩, h1⟩ := h
  obtain ⟨a, c, e, hl, hm, _⟩ := h1
  exact ⟨h0.shape, a, c, e, hl, hm⟩
/-- what a step weighs. -/
def wtT (x : T5) : Nat := x.s.size + (x.cs.length + wtSs x.cs) + x.q.size + wtR x.rs
theorem cellsStp : Try.prog.cellsOf 38 = 5 := by kernel_rfl
theorem cellsI1 : Try.prog.cellsOf 3 = 1 := by kernel_rfl
theorem cellsS1 : Try.prog.cellsOf 9 = 1 := by kernel_rfl
theorem cellsSs1 : Try.prog.cellsOf 35 = 1 := by kernel_rfl
theorem cellsRs1 : Try.prog.cellsOf 36 = 1 := by kernel_rfl
section
variable {H : Type} {enc : TypeId × Value → H} {w : World} {spare : Nat → Bool} {held : Bool}
set_option maxRecDepth 100000 in
theorem open_step {r : Reach} {b0 : Nat} {v : Value} {d : DataW H} {ps : List MemPlace} (hv : Value.okWide Try.prog w r b0 38 v) (h : DataW.Trod enc Try.prog w 0 spare held 38 v d ps) :
    ∃ (x : T5) (uc ur : Value), v = (.agg #[.int .i64 x.k, .string x.s, uc, .string x.q, ur]) ∧ x.wf ∧ StpIs w uc ur x := by
  obtain ⟨⟨cs⟩, rfl, hsz⟩ := okWide_struct Try.underlying38 hv
  obtain ⟨fuel, hf⟩ := h
  have hs5 : cs.length = 5 := by have := hsz.trans cellsStp; simpa using this
  match cs, hs5 with
  | [z0, z1, z2, z3, z4], _ =>
    obtain ⟨xs, k, hk, _, _, hxl, hfld⟩ := DataW.trod_struct Try.underlying38 hf
    match xs, hxl with
    | [y0, y1, y2, y3, y4], _ =>
      have a0 := hfld 0 _ rfl
      have a1 := hfld 1 _ rfl
      have a2 := hfld 2 _ rfl
      have a3 := hfld 3 _ rfl
      have a4 := hfld 4 _ rfl
      simp [cellsI1, cellsS1, cellsSs1, cellsRs1, Value.cells] at a0 a1 a2 a3 a4
      obtain ⟨n0, q0, _, w0⟩ := DataW.trod_int Try.underlying3 a0
      obtain ⟨n1, q1, _, w1⟩ := DataW.trod_string Try.underlying9 a1
      obtain ⟨n3, q3, _, w3⟩ := DataW.trod_string Try.underlying9 a3
      simp at q0 q1 q3
      subst q0 q1 q3
      obtain ⟨e2, g2, k2, w2⟩ := open_strs Try.underlying35 Try.underlying9 cellsS1 a2
      obtain ⟨rs, kr, wr⟩ := open_rels Try.underlying36 Try.underlying119 (by kernel_rfl) rfl rfl (by kernel_rfl) (by kernel_rfl) Try.underlying9 Try.underlying117 rfl rfl (by kernel_rfl) (by kernel_rfl) Try.underlying3 Try.underlying115 Try.underlying221 (by kernel_rfl) rfl rfl (by kernel_rfl) (by kernel_rfl) Try.underlying52 Try.underlying3 Try.underlying99 (by kernel_rfl) rfl rfl rfl (by kernel_rfl) (by kernel_rfl) (by kernel_rfl) Try.underlying3 Try.underlying3 Try.underlying9 a4
      exact ⟨⟨n0, n1, e2, n3, rs⟩, z2, z4, rfl, ⟨w0, w1, w2, w3, wr⟩, ⟨g2, k2⟩, kr⟩
end
end Go.Proofs.Ytmomffaceglibaa
