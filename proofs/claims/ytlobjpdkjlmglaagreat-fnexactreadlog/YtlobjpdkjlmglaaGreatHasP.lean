/- Own text. Whether a text stands in a list of texts. -/
import Derived.Test.YtlobjpdkjlmglaaGreatKit
import Derived.Handy
namespace Go.Proofs.YtlobjpdkjlmglaaGreat
open Go.RowKit
set_option linter.unusedVariables false
theorem bytes_same {x y : ByteArray} (h : x.toList = y.toList) : x = y := by
  rw [ByteArray.toList_eq, ByteArray.toList_eq] at h
  exact ByteArray.ext (Array.toList_inj.1 h)
/-- whether the text x stands in L. -/
def hasS (L : List ByteArray) (x : ByteArray) : Bool := L.any fun y => y.toList == x.toList
theorem hasS_step {L : List ByteArray} {k : Nat} {y x : ByteArray} (h : L[k]? = some y) : hasS (L.drop k) x = (y.toList == x.toList || hasS (L.drop (k + 1)) x) := by
  obtain ⟨hk, rfl⟩ := List.getElem?_eq_some_iff.1 h
  rw [List.drop_eq_getElem_cons hk]
  rfl
end Go.Proofs.YtlobjpdkjlmglaaGreat
