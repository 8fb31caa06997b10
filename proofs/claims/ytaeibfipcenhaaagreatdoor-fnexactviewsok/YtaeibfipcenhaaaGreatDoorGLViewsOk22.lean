/- Own texts, joined: contracts that the law's proof goes by. -/
import Derived.Test.YtaeibfipcenhaaaGreatDoorGLViewsOk20
import Derived.RangeFuncNested
import Derived.RangeFuncBound
import Derived.RangeFuncCalls
import Derived.RangeFuncLeaves
import Derived.Shelf.Abstract
import Derived.WalkKit
import Derived.OwnWalkIn
import Derived.TacticsInMore
import Derived.LoopNIn
import Derived.LoopIn
import Derived.OrdersIn
import Derived.Test.YtaeibfipcenhaaaGreatDoorGLViewsOk21
import Derived.Maps.RangeWalk
import Derived.RangeFuncBox
import Derived.Handy
namespace Go.Proofs.YtaeibfipcenhaaaGreatDoor
open Go Go.RowKit
set_option linter.unusedVariables false
section
variable {P : Program}
/-- nothing but what O names has turned of what lay. -/
def KeptBut (O : Nat → Prop) (A B : World) : Prop := A.heap.size ≤ B.heap.size ∧ ∀ k, k < A.heap.size → ¬ O k → B.heap[k]? = A.heap[k]?
/-- what X names lies as it lay, and the world outside the heap too. -/
structure SameOn (X : Nat → Prop) (A B : World) : Prop where
  os : B.os = A.os
  tape : B.tape = A.tape
  output : B.output = A.output
  size : A.heap.size ≤ B.heap.size
  block : ∀ k, k < A.heap.size → X k → B.heap[k]? = A.heap[k]?
theorem SameOn.trans {X : Nat → Prop} {A B C : World} (h : SameOn X A B) (k : SameOn X B C) : SameOn X A C :=
  ⟨k.os.trans h.os, k.tape.trans h.tape, k.output.trans h.output, Nat.le_trans h.size k.size, fun i hi hX => (k.block i (Nat.lt_of_lt_of_le hi h.size) hX).trans (h.block i hi hX)⟩
theorem KeptBut.trans {O O' : Nat → Prop} {A B C : World} (h : KeptBut O A B) (k : KeptBut O' B C) (hO : ∀ i, O' i → O i ∨ A.heap.size ≤ i) : KeptBut O A C :=
  ⟨Nat.le_trans h.1 k.1, fun i hi hn => (k.2 i (Nat.lt_of_lt_of_le hi h.1) (fun e => by rcases hO i e with h1 | h1; exact hn h1; omega)).trans (h.2 i hi hn)⟩
/-! ### a drawn region inside a round, out of the walk that knows no round -/
end
end Go.Proofs.YtaeibfipcenhaaaGreatDoor
