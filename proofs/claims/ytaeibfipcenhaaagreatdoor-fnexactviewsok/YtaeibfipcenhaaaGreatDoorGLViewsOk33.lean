/- Own texts, joined: contracts that the law's proof goes by. -/
import Derived.Test.YtaeibfipcenhaaaGreatDoorGLViewsOk29
import Derived.Test.YtaeibfipcenhaaaGreatDoorGLViewsOk12
import Derived.Test.YtaeibfipcenhaaaGreatDoorGLViewsOk20
namespace Go.Proofs.YtaeibfipcenhaaaGreatDoor
open Go.RowKit
set_option linter.unusedVariables false
set_option linter.unusedSimpArgs false
/-- rows of W right values, ascending, each there at least once. -/
structure Raw (W : Int) (cs : List C2) : Prop where
  asc : Asc cs
  row : ∀ c ∈ cs, (c.r.length : Int) = W ∧ RowV c.r
  num : ∀ c ∈ cs, 0 < c.n ∧ c.n ≤ 1000000000000000000
theorem rowV_good {W : Int} {r : List V3} : GoodRow W r ↔ (r.length : Int) = W ∧ RowV r := by
  unfold GoodRow okRow RowV VsWf goodV
  simp only [Bool.and_eq_true, decide_eq_true_eq, List.all_eq_true]
  exact ⟨fun ⟨⟨h1, h2⟩, h3⟩ => ⟨h1, fun x hx => ⟨h2 x hx, h3 x hx⟩⟩, fun ⟨h1, h2⟩ => ⟨⟨h1, fun x hx => (h2 x hx).1⟩, fun x hx => (h2 x hx).2⟩⟩
theorem Raw.good {W : Int} {cs : List C2} (h : Raw W cs) : ∀ c ∈ cs, GoodRow W c.r := fun c hc => rowV_good.2 (h.row c hc)
theorem Raw.wf {W : Int} {cs : List C2} (h : Raw W cs) : CsWf cs := fun c hc => ⟨(h.good c hc).2, wf_small (by have := h.num c hc; omega)⟩
/-- rows that are a plain bag. -/
structure Mean (W : Int) (cs : List C2) : Prop extends Raw W cs where
  ok : okBag W cs = true
theorem Mean.all {W : Int} {cs : List C2} (h : Mean W cs) : 0 ≤ W ∧ W ≤ 12 ∧ cs.length ≤ 400 ∧ ∀ c ∈ cs, 0 < c.n ∧ c.n ≤ 1000000000 := by
  obtain ⟨h1, h2, h3, _, h4⟩ := okBag_all h.ok h.wf
  exact ⟨h1, h2, h3, fun c hc => ⟨(h.num c hc).1, (h4 c hc).2.2.2⟩⟩
section
end
/-- each expression of a plan, down to f levels, is one of a size that there is. -/
def PreE (e : E7) : Prop := e.wf ∧ wtE e ≤ 1048576 ∧ ∃ (w : World) (d : Nat) (u : Value) (F : List Nat), KidsIs w d u e.ks F
theorem PreE.good {e : E7} {W : Int} (h : PreE e) (hb : belowE e W = true) : GoodE e := by
  unfold belowE at hb
  rw [Bool.and_eq_true] at hb
  exact ⟨h.1, hb.1, h.2.1, h.2.2⟩
theorem kid0 {l : List P12} {q : P12} (h : l = [q]) : l.getD 0 .nil = q := by rw [h]; rfl
theorem kid00 {l : List P12} {q r : P12} (h : l = [q, r]) : l.getD 0 .nil = q ∧ l.getD 1 .nil = r := by rw [h]; exact ⟨rfl, rfl⟩
section
end
end Go.Proofs.YtaeibfipcenhaaaGreatDoor
