/- Own text. Whether schemas are right, in plain words. -/
import Derived.Test.YtlobjpdkjlmglaaGreatSchK
import Derived.Test.YtlobjpdkjlmglaaGreatHasP
import Derived.Test.YtlobjpdkjlmglaaGreatNameB
import Derived.Test.YtlobjpdkjlmglaaGreatBless
import Derived.Handy
namespace Go.Proofs.YtlobjpdkjlmglaaGreat
open Go.RowKit
set_option linter.unusedVariables false
/-- whether columns are names, none of them one that stands ahead. -/
def colsB (pre : List ByteArray) : List ByteArray → Bool
  | [] => true
  | x :: r => nameB x && !hasS pre x && colsB (pre ++ [x]) r
theorem colsB_step {cs : List ByteArray} {k : Nat} {x : ByteArray} (h : cs[k]? = some x) : colsB (cs.take k) (cs.drop k) = (nameB x && !hasS (cs.take k) x && colsB (cs.take (k + 1)) (cs.drop (k + 1))) := by
  obtain ⟨hk, rfl⟩ := List.getElem?_eq_some_iff.1 h
  rw [List.drop_eq_getElem_cons hk, List.take_succ_eq_append_getElem hk]
  rfl
/-- whether a schema's columns are right. -/
def okCols (cs : List ByteArray) : Bool := inB cs.length 1 12 && colsB [] cs
def okPrevH (p : Option S2) (x : S2) : Bool := match p with
  | none => true
  | some y => Op.bytesLess y.s.toList x.s.toList
/-- whether schemas have names and right columns, and ascend. -/
def okHs : Option S2 → List S2 → Bool
  | _, [] => true
  | p, x :: xs => nameB x.s && okCols x.cs && okPrevH p x && okHs (some x) xs
def prevH (rs : List S2) (k : Nat) : Option S2 := if k = 0 then none else rs[k - 1]?
def okSch (rs : List S2) : Bool := decide (rs.length ≤ 20) && okHs none rs
theorem okHs_step {rs : List S2} {k : Nat} {x : S2} (h : rs[k]? = some x) :
    okHs (prevH rs k) (rs.drop k) = (nameB x.s && okCols x.cs && okPrevH (prevH rs k) x && okHs (prevH rs (k + 1)) (rs.drop (k + 1))) := by
  obtain ⟨hk, rfl⟩ := List.getElem?_eq_some_iff.1 h
  rw [List.drop_eq_getElem_cons hk]
  simp [okHs, prevH, hk]
theorem prevH_zero (rs : List S2) : prevH rs 0 = none := rfl
theorem prevH_succ {rs : List S2} {j : Nat} {y : S2} (h : rs[j]? = some y) : prevH rs (j + 1) = some y := by simp [prevH, h]
end Go.Proofs.YtlobjpdkjlmglaaGreat
