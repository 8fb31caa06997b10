/- Own text. The text of a value. -/
import Derived.Test.YtiaafgmjigbjlaaGreatDoorBsK
import Derived.Test.YtiaafgmjigbjlaaGreatDoorQuoP
import Derived.Test.YtiaafgmjigbjlaaGreatDoorVForm
import Derived.Test.YtiaafgmjigbjlaaGreatDoorDecS
import Derived.Lib.LaidTab
namespace Go.Proofs.YtiaafgmjigbjlaaGreatDoor
open Go.RowKit
set_option linter.unusedVariables false
/-- the text of a value; the empty text where it is none. -/
def vt (k n : Int) (s : ByteArray) : List UInt8 :=
  if okB k n s = true then (if k = 0 then [110, 117, 108, 108] else if k = 1 then Lib.itoa n else if k = 2 then (if n = 1 then [116, 114, 117, 101] else [102, 97, 108, 115, 101]) else 39 :: (quo s.data.toList ++ [39])) else []
theorem vt_no (k n : Int) (s : ByteArray) (h : okB k n s = false) : vt k n s = [] := by rw [vt, h]; rfl
theorem vt_0 (n : Int) (s : ByteArray) (h : okB 0 n s = true) : vt 0 n s = [110, 117, 108, 108] := by rw [vt, if_pos h]; rfl
theorem vt_1 (n : Int) (s : ByteArray) (h : okB 1 n s = true) : vt 1 n s = Lib.itoa n := by rw [vt, if_pos h]; rfl
theorem vt_2 (n : Int) (s : ByteArray) (h : okB 2 n s = true) : vt 2 n s = if n = 1 then [116, 114, 117, 101] else [102, 97, 108, 115, 101] := by rw [vt, if_pos h]; rfl
theorem vt_3 (n : Int) (s : ByteArray) (h : okB 3 n s = true) : vt 3 n s = 39 :: (quo s.data.toList ++ [39]) := by rw [vt, if_pos h]; rfl
theorem okB_3z (n : Int) (s : ByteArray) (h : okB 3 n s = true) : s.size ≤ 100 := by rw [okB_3] at h; simp at h; exact h.2
theorem okB_2z (n : Int) (s : ByteArray) (h : okB 2 n s = true) : n = 0 ∨ n = 1 := by rw [okB_2] at h; simp at h; exact h.1
theorem okB_kz (k n : Int) (s : ByteArray) (h : okB k n s = true) : k = 0 ∨ k = 1 ∨ k = 2 ∨ k = 3 := by
  by_cases h0 : k = 0
  · exact .inl h0
  by_cases h1 : k = 1
  · exact .inr (.inl h1)
  by_cases h2 : k = 2
  · exact .inr (.inr (.inl h2))
  by_cases h3 : k = 3
  · exact .inr (.inr (.inr h3))
  rw [okB_x k n s h0 h1 h2 h3] at h
  cases h
theorem vt_len (k n : Int) (s : ByteArray) (h0 : -9223372036854775808 ≤ n) (h1 : n ≤ 9223372036854775807) : (vt k n s).length ≤ 202 := by
  by_cases ok : okB k n s = true
  · rcases okB_kz k n s ok with rfl | rfl | rfl | rfl
    · rw [vt_0 n s ok]; simp
    · rw [vt_1 n s ok]; have := Lib.itoa_length_le n h0 h1; omega
    · rw [vt_2 n s ok]; split <;> simp
    · rw [vt_3 n s ok]
      have h2 := quo_len s.data.toList
      have h3 := okB_3z n s ok
      have h4 : s.data.toList.length = s.size := Array.length_toList
      simp only [List.length_cons, List.length_append, List.length_nil]
      omega
  · rw [vt_no k n s (by simpa using ok)]; simp
/-- what of the library's variables the texts lean on. -/
structure Env (w : World) : Prop where
  tab : Lib.TabIs Tryz.prog w "internal/strconv.uint64pow10" .u64 Lib.pow10Tab
  max : ∃ m, w.cell? ⟨1, 0, none⟩ = some (.int .i64 m)
end Go.Proofs.YtiaafgmjigbjlaaGreatDoor
