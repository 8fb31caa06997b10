/- Own text. An expression that came in: its parts, and how its kids lie. -/
import Derived.Test.YtjblljggmjbalaaExpK
import Derived.Lib.SmallJoins
namespace Go.Proofs.Ytjblljggmjbalaa
open Go.RowKit Go.Deep Go.ChangeShapes Go.WideShapes Go.Joins
set_option linter.unusedVariables false
theorem cellsExp : Try.prog.cellsOf 26 = 7 := by kernel_rfl
theorem cellsVal : Try.prog.cellsOf 23 = 3 := by kernel_rfl
theorem cellsInt : Try.prog.cellsOf 3 = 1 := by kernel_rfl
theorem cellsStr : Try.prog.cellsOf 9 = 1 := by kernel_rfl
theorem cellsKids : Try.prog.cellsOf 24 = 1 := by kernel_rfl
theorem KidsIs.wfs {w : World} {d : Nat} {v : Value} {es : List E7} {F : List Nat} (h : KidsIs w (d + 1) v es F) : ∀ e ∈ es, e.wf := by
  obtain ⟨a, c, G, _, _, _, hG, _, h⟩ := h
  intro e he
  obtain ⟨b, o, _, _, _, hL⟩ := h (by rintro rfl; cases he)
  obtain ⟨i, hi, rfl⟩ := List.mem_iff_getElem.1 he
  have hi' : i < G.length := by omega
  exact (hL i es[i] G[i] (by simp) (by simp)).1
section
variable {H : Type} {enc : TypeId × Value → H} {w : World} {spare : Nat → Bool} {held : Bool}
/-- a list of expressions that came in. -/
theorem open_exps {fuel : Nat} {v : Value} {x : DataW H × List MemPlace} (h : DataW.trod enc Try.prog w 0 spare held fuel 24 [v] = some x) : ∃ es F, KidsIs w (fuel + 1) v es F :=
  open_kids (P := Try.prog) Try.underlying24 Try.underlying26 cellsExp rfl rfl rfl rfl rfl cellsInt cellsInt cellsVal cellsStr cellsKids Try.underlying3 Try.underlying3 Try.underlying23 Try.underlying9 rfl rfl rfl rfl cellsInt cellsInt cellsStr Try.underlying3 Try.underlying3 Try.underlying9 fuel fuel (Nat.le_refl _) h
set_option maxRecDepth 100000 in
theorem open_exp {r : Reach} {b0 : Nat} {v : Value} {d : DataW H} {p : List MemPlace} (hv : Value.okWide Try.prog w r b0 26 v) (h : DataW.Trod enc Try.prog w 0 spare held 26 v d p) :
    ∃ (e : E7) (u : Value) (F : List Nat) (n : Nat), v = (.agg #[.int .i64 e.k, .int .i64 e.n, .int .i64 e.v.k, .int .i64 e.v.n, .string e.v.s, .string e.p, u]) ∧ e.wf ∧ KidsIs w n u e.ks F := by
  obtain ⟨⟨cs⟩, rfl, hsz⟩ := okWide_struct Try.underlying26 hv
  obtain ⟨fuel, hf⟩ := h
  obtain ⟨xs, k, hk, _, _, hxl, hfld⟩ := DataW.trod_struct Try.underlying26 hf
  have hs7 : cs.length = 7 := by have := hsz.trans cellsExp; simpa using this
  match xs, hxl, cs, hs7 with
  | [y0, y1, y2, y3, y4], _, [z0, z1, z2, z3, z4, z5, z6], _ =>
    have a0 := hfld 0 _ rfl
    have a1 := hfld 1 _ rfl
    have a2 := hfld 2 _ rfl
    have a3 := hfld 3 _ rfl
    have a4 := hfld 4 _ rfl
    simp [Value.cells, cellsInt, cellsVal, cellsStr, cellsKids] at a0 a1 a2 a3 a4
    obtain ⟨n0, q0, _, w0⟩ := DataW.trod_int Try.underlying3 a0
    obtain ⟨n1, q1, _, w1⟩ := DataW.trod_int Try.underlying3 a1
    obtain ⟨n3, q3, _, w3⟩ := DataW.trod_string Try.underlying9 a3
    obtain ⟨ys, k2, hk2, _, _, hyl, hfl2⟩ := DataW.trod_struct Try.underlying23 a2
    match ys, hyl with
    | [b0, b1, b2], _ =>
      have r0 := hfl2 0 _ rfl
      have r1 := hfl2 1 _ rfl
      have r2 := hfl2 2 _ rfl
      simp [cellsInt, cellsStr] at r0 r1 r2
      obtain ⟨m0, s0, _, x0⟩ := DataW.trod_int Try.underlying3 r0
      obtain ⟨m1, s1, _, x1⟩ := DataW.trod_int Try.underlying3 r1
      obtain ⟨m2, s2, _, x2⟩ := DataW.trod_string Try.underlying9 r2
      simp at q0 q1 q3 s0 s1 s2
      subst q0 q1 q3 s0 s1 s2
      obtain ⟨ks, F, hK⟩ := open_exps a4
      exact ⟨.mk n0 n1 ⟨m0, m1, m2⟩ n3 ks, z6, F, _, rfl, ⟨w0, w1, ⟨x0, x1, x2⟩, w3⟩, hK⟩
end
end Go.Proofs.Ytjblljggmjbalaa
