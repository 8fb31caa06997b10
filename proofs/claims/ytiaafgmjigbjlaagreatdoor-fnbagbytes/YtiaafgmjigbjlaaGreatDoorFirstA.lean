/- Own text. Bytes of a text by their places. -/
import Derived.Test.YtiaafgmjigbjlaaGreatDoorKit
namespace Go.Proofs.YtiaafgmjigbjlaaGreatDoor
open Go.RowKit
set_option linter.unusedVariables false
/-- the byte at a place of a text, as a number; 0 behind its end. -/
def bAt (s : ByteArray) (j : Nat) : Nat := (s.data.toList.getD j 0).toNat
theorem bAt_eq (s : ByteArray) (j : Nat) (h : j < s.size) : s[j].toNat = bAt s j := by
  unfold bAt
  rw [List.getD_eq_getElem?_getD, List.getElem?_eq_getElem (by simpa using h)]
  rfl
theorem bAt_lt (s : ByteArray) (j : Nat) : bAt s j < 256 := (s.data.toList.getD j 0).toNat_lt
theorem extract_size (s : ByteArray) (a b : Nat) (h : a ≤ b) (hb : b ≤ s.size) : (s.extract a b).size = b - a := by rw [ByteArray.size_extract]; omega
theorem extract_list (s : ByteArray) (a b : Nat) : (s.extract a b).data.toList = (s.data.toList.drop a).take (b - a) := by
  simp [ByteArray.data_extract, Array.toList_extract, List.extract]
theorem bAt_extract (s : ByteArray) (a b j : Nat) (h : a + j < b) : bAt (s.extract a b) j = bAt s (a + j) := by
  unfold bAt
  rw [extract_list, List.getD_eq_getElem?_getD, List.getD_eq_getElem?_getD, List.getElem?_take_of_lt (by omega), List.getElem?_drop]
theorem extract_extract' (s : ByteArray) (a b c d : Nat) (h : a + d ≤ b) : (s.extract a b).extract c d = s.extract (a + c) (a + d) := by
  apply ByteArray.ext
  apply Array.toList_inj.1
  rw [extract_list, extract_list, extract_list, List.drop_take, List.drop_drop, List.take_take]
  congr 1
  omega
end Go.Proofs.YtiaafgmjigbjlaaGreatDoor
