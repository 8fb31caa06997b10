/- Own texts, joined: contracts that the law's proof goes by. -/
import Derived.Test.YtbmoimfimeiglaaGreatGLFnLog18
import Derived.Test.YtbmoimfimeiglaaGreatGLFnLog3
import Derived.Lib.SmallJoins
import Derived.Test.YtbmoimfimeiglaaGreatGLFnLog20
import Derived.Test.YtbmoimfimeiglaaGreatGLFnLog15
import Derived.Handy
namespace Go.Proofs.YtbmoimfimeiglaaGreat
open Go.RowKit Go.Deep Go.ChangeShapes Go.WideShapes Go.Joins
set_option linter.unusedVariables false
structure T5 where
  k : Int
  s : ByteArray
  cs : List ByteArray
  q : ByteArray
  rs : List R3
def T5.wf (x : T5) : Prop := (Lit.int .i64 x.k).wf = true ∧ x.s.size ≤ maxLen ∧ SsWf x.cs ∧ x.q.size ≤ maxLen ∧ RsWf x.rs
def StpIs (w : World) (uc ur : Value) (x : T5) : Prop := (∃ g, StrsF w uc x.cs g) ∧ RelsIs w ur x.rs
theorem StpIs.below {w w' : World} {uc ur : Value} {x : T5} (h : StpIs w uc ur x) (hb : Below w.heap.size w w') : StpIs w' uc ur x := by
  obtain ⟨⟨g, h0⟩, h1⟩ := h
  exact ⟨⟨g, h0.below hb⟩, h1.below hb⟩
theorem StpIs.shape {w : World} {uc ur : Value} {x : T5} (h : StpIs w uc ur x) : (∃ a c, uc = .slice a x.cs.length c ∧ x.cs.length ≤ c ∧ c ≤ maxLen) ∧ ∃ a c, ur = .slice a x.rs.length c ∧ x.rs.length ≤ c ∧ c ≤ maxLen := by
  obtain ⟨⟨g, h0⟩, h1⟩ := h
  obtain ⟨a, c, e, hl, hm, _⟩ := h1
  exact ⟨h0.shape, a, c, e, hl, hm⟩
section
variable {H : Type} {enc : TypeId × Value → H} {w : World} {spare : Nat → Bool} {held : Bool}
end
end Go.Proofs.YtbmoimfimeiglaaGreat
namespace Go.Proofs.YtbmoimfimeiglaaGreat
open Go.RowKit
set_option linter.unusedVariables false
def okPrevT (p : Option R3) (x : R3) : Bool := match p with
  | none => true
  | some y => Op.bytesLess y.s.toList x.s.toList
def okTs : Option R3 → List R3 → Bool
  | _, [] => true
  | p, x :: xs => nameB x.s && okBag x.W x.cs && okPrevT p x && okTs (some x) xs
def prevT (rs : List R3) (k : Nat) : Option R3 := if k = 0 then none else rs[k - 1]?
def okRels (rs : List R3) : Bool := inB rs.length 1 20 && okTs none rs
theorem okTs_step {rs : List R3} {k : Nat} {x : R3} (h : rs[k]? = some x) :
    okTs (prevT rs k) (rs.drop k) = (nameB x.s && okBag x.W x.cs && okPrevT (prevT rs k) x && okTs (prevT rs (k + 1)) (rs.drop (k + 1))) := by
  obtain ⟨hk, rfl⟩ := List.getElem?_eq_some_iff.1 h
  rw [List.drop_eq_getElem_cons hk]
  simp [okTs, prevT, hk]
theorem prevT_zero (rs : List R3) : prevT rs 0 = none := rfl
theorem prevT_succ {rs : List R3} {j : Nat} {y : R3} (h : rs[j]? = some y) : prevT rs (j + 1) = some y := by simp [prevT, h]
def okStep (x : T5) : Bool :=
  if x.k = 0 then okSch [⟨x.s, x.cs⟩] && x.q.toList.isEmpty && x.rs.isEmpty
  else if x.k = 1 then nameB x.s && x.cs.isEmpty && decide (x.q.size ≤ 1000) && x.rs.isEmpty
  else if x.k = 2 then nameB x.s && x.cs.isEmpty && x.q.toList.isEmpty && x.rs.isEmpty
  else if x.k = 3 then x.s.toList.isEmpty && x.cs.isEmpty && x.q.toList.isEmpty && okRels x.rs
  else false
end Go.Proofs.YtbmoimfimeiglaaGreat
