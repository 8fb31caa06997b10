/- Own texts, joined: contracts that the law's proof goes by. -/
import Derived.Test.YtbmoimfimeiglaaGreatGLFnLog17
import Derived.Test.YtbmoimfimeiglaaGreatGLFnLog3
import Derived.Lib.SmallJoins
import Derived.Handy
import Derived.Deep.RegionHeld3
import Derived.Deep.OwnRows
import Derived.Test.YtbmoimfimeiglaaGreatGLFnLog25
namespace Go.Proofs.YtbmoimfimeiglaaGreat
open Go.RowKit Go.Deep Go.ChangeShapes Go.WideShapes Go.Joins
set_option linter.unusedVariables false
structure T5 where
  k : Int
  s : ByteArray
  cs : List ByteArray
  q : ByteArray
  rs : List R3
def T5.wf (x : T5) : Prop := (Lit.int .i64 x.k).wf = true ∧ x.s.size ≤ maxLen ∧ SsWf x.cs ∧ x.q.size ≤ maxLen ∧ RsWf x.rs
def StpIs (w : World) (uc ur : Value) (x : T5) : Prop := (∃ g, StrsF w uc x.cs g) ∧ RelsIs w ur x.rs
theorem StpIs.below {w w' : World} {uc ur : Value} {x : T5} (h : StpIs w uc ur x) (hb : Below w.heap.size w w') : StpIs w' uc ur x := by
  obtain ⟨⟨g, h0⟩, h1⟩ := h
  exact ⟨⟨g, h0.below hb⟩, h1.below hb⟩
theorem StpIs.shape {w : World} {uc ur : Value} {x : T5} (h : StpIs w uc ur x) : (∃ a c, uc = .slice a x.cs.length c ∧ x.cs.length ≤ c ∧ c ≤ maxLen) ∧ ∃ a c, ur = .slice a x.rs.length c ∧ x.rs.length ≤ c ∧ c ≤ maxLen := by
  obtain ⟨⟨g, h0⟩, h1⟩ := h
  obtain ⟨a, c, e, hl, hm, _⟩ := h1
  exact ⟨h0.shape, a, c, e, hl, hm⟩
section
variable {H : Type} {enc : TypeId × Value → H} {w : World} {spare : Nat → Bool} {held : Bool}
end
end Go.Proofs.YtbmoimfimeiglaaGreat
namespace Go.Proofs.YtbmoimfimeiglaaGreat
open Go.RowKit Go.Deep
set_option linter.unusedVariables false
def HalfS (w : World) (B : Nat) (ns : List ByteArray) (k : Nat) : Prop := ∃ f, w.rowIs B 9 ns.length f ∧ ∀ i n, i < k → ns[i]? = some n → f i = .string n
theorem HalfS.cells {w : World} {B : Nat} {ns : List ByteArray} {k : Nat} (h : HalfS w B ns k) (hk : k < ns.length) : (∃ u, w.cell? ⟨B, k, none⟩ = some u) ∧ (∀ i, w.frozen? ⟨B, i, none⟩ = false) ∧ B < w.heap.size := by
  obtain ⟨f, h, _⟩ := h
  exact ⟨⟨_, h.cell (by omega)⟩, fun i => h.frozen i, h.lt⟩
theorem HalfS.step {w : World} {B : Nat} {ns : List ByteArray} {k : Nat} {x : ByteArray} (h : HalfS w B ns k) (hx : ns[k]? = some x) : HalfS (w.setCell ⟨B, k, none⟩ (.string x)) B ns (k + 1) := by
  obtain ⟨f, h, e⟩ := h
  refine ⟨_, h.set _ _, fun i y hi hy => ?_⟩
  by_cases ek : i = k
  · subst ek
    rw [hx] at hy
    simp [Option.some.inj hy]
  · simp only [if_neg ek]
    exact e i y (by omega) hy
theorem HalfS.done {w : World} {B : Nat} {ns : List ByteArray} (h : HalfS w B ns ns.length) (hm : ns.length ≤ maxLen) (hne : ns ≠ []) : StrsF w (.slice (some ⟨B, 0, none⟩) ns.length ns.length) ns [B] ∧ OwnN w B [B] := by
  obtain ⟨f, hf, he⟩ := h
  refine ⟨⟨_, _, rfl, Nat.le_refl _, hm, fun h => absurd h hne, fun _ => ⟨B, 0, rfl, hf.lt, rfl, fun i n hn => ?_⟩⟩, by simp, fun b hb => ?_⟩
  · have hi : i < ns.length := (List.getElem?_eq_some_iff.1 hn).1
    rw [Nat.zero_add, hf.cell (by omega), he i n hi hn]
  · rcases List.mem_singleton.1 hb with rfl
    exact ⟨Nat.le_refl _, fun o => hf.frozen o⟩
end Go.Proofs.YtbmoimfimeiglaaGreat
