/- Own text. Whether a step is right, in plain words. -/
import Derived.Test.YtlobjpdkjlmglaaGreatStpK
import Derived.Test.YtlobjpdkjlmglaaGreatSchP
import Derived.Test.YtlobjpdkjlmglaaGreatBagOkI
import Derived.Handy
namespace Go.Proofs.YtlobjpdkjlmglaaGreat
open Go.RowKit
set_option linter.unusedVariables false
theorem belowN {N : Nat} {w a : World} (h : Below N w a) (n : Nat) : Below N w (a.drewN n) := ⟨h.os, h.tape, h.output, h.size, h.block⟩
/-- whether the name before, if there is one, is less. -/
def okPrevT (p : Option R3) (x : R3) : Bool := match p with
  | none => true
  | some y => Op.bytesLess y.s.toList x.s.toList
/-- whether relations have names and bags, and ascend. -/
def okTs : Option R3 → List R3 → Bool
  | _, [] => true
  | p, x :: xs => nameB x.s && okBag x.W x.cs && okPrevT p x && okTs (some x) xs
def prevT (rs : List R3) (k : Nat) : Option R3 := if k = 0 then none else rs[k - 1]?
/-- whether relations are a step's change. -/
def okRels (rs : List R3) : Bool := inB rs.length 1 20 && okTs none rs
theorem okTs_step {rs : List R3} {k : Nat} {x : R3} (h : rs[k]? = some x) :
    okTs (prevT rs k) (rs.drop k) = (nameB x.s && okBag x.W x.cs && okPrevT (prevT rs k) x && okTs (prevT rs (k + 1)) (rs.drop (k + 1))) := by
  obtain ⟨hk, rfl⟩ := List.getElem?_eq_some_iff.1 h
  rw [List.drop_eq_getElem_cons hk]
  simp [okTs, prevT, hk]
theorem prevT_zero (rs : List R3) : prevT rs 0 = none := rfl
theorem prevT_succ {rs : List R3} {j : Nat} {y : R3} (h : rs[j]? = some y) : prevT rs (j + 1) = some y := by simp [prevT, h]
/-- whether a step is right. -/
def okStep (x : T5) : Bool :=
  if x.k = 0 then okSch [⟨x.s, x.cs⟩] && x.q.toList.isEmpty && x.rs.isEmpty
  else if x.k = 1 then nameB x.s && x.cs.isEmpty && decide (x.q.size ≤ 1000) && x.rs.isEmpty
  else if x.k = 2 then nameB x.s && x.cs.isEmpty && x.q.toList.isEmpty && x.rs.isEmpty
  else if x.k = 3 then x.s.toList.isEmpty && x.cs.isEmpty && x.q.toList.isEmpty && okRels x.rs
  else false
end Go.Proofs.YtlobjpdkjlmglaaGreat
