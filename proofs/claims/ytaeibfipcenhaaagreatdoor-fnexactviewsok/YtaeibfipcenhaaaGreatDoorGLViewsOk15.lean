/- Own texts, joined: contracts that the law's proof goes by. -/
import Derived.Test.YtaeibfipcenhaaaGreatDoorGLViewsOk9
import Derived.Test.YtaeibfipcenhaaaGreatDoorGLViewsOk1
import Derived.Handy
import Derived.OwnWalk
import Derived.Lib.SmallJoins
import Derived.Shelf.Strings.Builder1
import Derived.Test.YtaeibfipcenhaaaGreatDoorGLViewsOk10
import Derived.Test.YtaeibfipcenhaaaGreatDoorGLViewsOk16
namespace Go.Proofs.YtaeibfipcenhaaaGreatDoor
open Go.RowKit
set_option linter.unusedVariables false
/-- the bytes of a value; the empty text where it is none. -/
def putS (k n : Int) (s : ByteArray) : ByteArray :=
  if okB k n s = true then (if k = 0 then strOfNums [0] else if k = 1 then strOfNums (numL n 8) else if k = 2 then strOfNums [2, n] else strOfNums [3, (s.size : Int)] ++ s) else ⟨#[]⟩
theorem putS_0 (n : Int) (s : ByteArray) (h : okB 0 n s = true) : putS 0 n s = strOfNums [0] := by rw [putS, if_pos h]; rfl
theorem putS_1 (n : Int) (s : ByteArray) (h : okB 1 n s = true) : putS 1 n s = strOfNums (numL n 8) := by rw [putS, if_pos h]; rfl
theorem putS_2 (n : Int) (s : ByteArray) (h : okB 2 n s = true) : putS 2 n s = strOfNums [2, n] := by rw [putS, if_pos h]; rfl
theorem putS_3 (n : Int) (s : ByteArray) (h : okB 3 n s = true) : putS 3 n s = strOfNums [3, (s.size : Int)] ++ s := by rw [putS, if_pos h]; rfl
theorem okB_3s (n : Int) (s : ByteArray) (h : okB 3 n s = true) : s.size ≤ 100 := by rw [okB_3] at h; simp at h; exact h.2
theorem okB_2n (n : Int) (s : ByteArray) (h : okB 2 n s = true) : n = 0 ∨ n = 1 := by rw [okB_2] at h; simp at h; exact h.1
end Go.Proofs.YtaeibfipcenhaaaGreatDoor
namespace Go.Proofs.YtaeibfipcenhaaaGreatDoor
open Go.RowKit
set_option linter.unusedVariables false
/-- the bytes of a row. -/
def rowU (vs : List V3) : List UInt8 := vs.flatMap fun x => (putS x.k x.n x.s).data.toList
end Go.Proofs.YtaeibfipcenhaaaGreatDoor
