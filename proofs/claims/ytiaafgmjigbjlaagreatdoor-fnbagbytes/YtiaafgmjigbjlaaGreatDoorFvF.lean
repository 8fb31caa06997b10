/- Own text. Two values the other way round stand the other way round. (Made out of RkQ.) -/
import Derived.Test.YtiaafgmjigbjlaaGreatDoorCmp
namespace Go.Proofs.YtiaafgmjigbjlaaGreatDoor
open Go.RowKit
set_option linter.unusedVariables false
set_option linter.unusedSimpArgs false
theorem blQ_irrefl : ∀ (x : List UInt8), Op.bytesLess x x = false
  | [] => by simp [Op.bytesLess]
  | a :: x => by
    have e : ¬ a < a := by simp
    simp [Op.bytesLess, e, blQ_irrefl x]
theorem blQ_total : ∀ {x y : List UInt8}, Op.bytesLess x y = false → x ≠ y → Op.bytesLess y x = true
  | [], [], _, h => absurd rfl h
  | [], b :: y, h, _ => by simp [Op.bytesLess] at h
  | a :: x, [], _, _ => by simp [Op.bytesLess]
  | a :: x, b :: y, h, hn => by
    simp only [Op.bytesLess] at h ⊢
    rcases Nat.lt_trichotomy a.toNat b.toNat with h1 | h1 | h1
    · have e : a < b := by simp [UInt8.lt_iff_toNat_lt]; omega
      simp [e] at h
    · obtain rfl : a = b := UInt8.toNat_inj.1 h1
      have e : ¬ a < a := by simp
      simp [e] at h ⊢
      exact blQ_total h (by rintro rfl; exact hn rfl)
    · have e : b < a := by simp [UInt8.lt_iff_toNat_lt]; omega
      simp [e]
theorem blQ_asymm : ∀ {x y : List UInt8}, Op.bytesLess x y = true → Op.bytesLess y x = false
  | [], [], h => by simp [Op.bytesLess] at h
  | [], b :: y, _ => by simp [Op.bytesLess]
  | a :: x, [], h => by simp [Op.bytesLess] at h
  | a :: x, b :: y, h => by
    simp only [Op.bytesLess] at h ⊢
    rcases Nat.lt_trichotomy a.toNat b.toNat with h1 | h1 | h1
    · have e : ¬ b < a := by simp [UInt8.lt_iff_toNat_lt]; omega
      have e' : ¬ b = a := by rintro rfl; omega
      simp [e, e']
    · obtain rfl : a = b := UInt8.toNat_inj.1 h1
      have e : ¬ a < a := by simp
      simp [e] at h ⊢
      exact blQ_asymm h
    · have e : ¬ a < b := by simp [UInt8.lt_iff_toNat_lt]; omega
      have e' : ¬ a = b := by rintro rfl; omega
      simp [e, e'] at h
theorem cmpI_flip (x y : Int) : cmpI y x = - cmpI x y := by
  unfold cmpI
  rcases Int.lt_trichotomy x y with h | h | h
  · rw [if_neg (by omega), if_pos h, if_pos h]; rfl
  · rw [if_neg (by omega), if_neg (by omega), if_neg (by omega), if_neg (by omega)]; rfl
  · rw [if_pos h, if_neg (by omega), if_pos h]
theorem cmpS_flip (s t : ByteArray) : cmpS t s = - cmpS s t := by
  unfold cmpS
  by_cases h : Op.bytesLess s.toList t.toList = true
  · have h' := blQ_asymm h
    have hne : ¬ t.toList = s.toList := fun e => by rw [e, blQ_irrefl] at h; cases h
    rw [if_neg (by rw [h']; simp), if_neg hne, if_pos h]; rfl
  · by_cases he : s.toList = t.toList
    · rw [if_neg (by rw [he, blQ_irrefl]; simp), if_pos he.symm, if_neg h, if_pos he]; rfl
    · rw [if_pos (blQ_total (by simpa using h) he), if_neg h, if_neg he]
theorem cmpV_flip (k n : Int) (s : ByteArray) (k' n' : Int) (s' : ByteArray) : cmpV k' n' s' k n s = - cmpV k n s k' n' s' := by
  unfold cmpV
  rw [cmpI_flip k k', cmpI_flip n n', cmpS_flip s s']
  unfold orI
  by_cases h : cmpI k k' = 0
  · rw [if_pos (by omega), if_pos h]
    by_cases h2 : cmpI n n' = 0
    · rw [if_pos (by omega), if_pos h2]
    · rw [if_neg (by omega), if_neg h2]
  · rw [if_neg (by omega), if_neg h]
end Go.Proofs.YtiaafgmjigbjlaaGreatDoor
