/- Own text. The order of texts by their bytes. -/
import Derived.Test.YtlobjpdkjlmglaaGreatKit
import Derived.Handy
namespace Go.Proofs.YtlobjpdkjlmglaaGreat
open Go.RowKit
set_option linter.unusedVariables false
theorem bless_asymm : ∀ {x y : List UInt8}, Op.bytesLess x y = true → Op.bytesLess y x = false
  | [], _, _ => by cases ‹List UInt8› <;> simp_all [Op.bytesLess]
  | _ :: _, [], h => by simp [Op.bytesLess] at h
  | a :: x, b :: y, h => by
    simp only [Op.bytesLess] at h ⊢
    rcases Nat.lt_trichotomy a.toNat b.toNat with h1 | h1 | h1
    · have e : ¬ b < a := by simp [UInt8.lt_iff_toNat_lt]; omega
      have e' : ¬ b = a := by rintro rfl; omega
      simp [e, e']
    · obtain rfl : a = b := UInt8.toNat_inj.1 h1
      have e : ¬ a < a := by simp
      simp [e] at h ⊢
      exact bless_asymm h
    · have e : ¬ a < b := by simp [UInt8.lt_iff_toNat_lt]; omega
      have e' : ¬ a = b := by rintro rfl; omega
      simp [e, e'] at h
theorem bless_total : ∀ {x y : List UInt8}, Op.bytesLess x y = false → x ≠ y → Op.bytesLess y x = true
  | [], [], _, h => absurd rfl h
  | [], b :: y, h, _ => by simp [Op.bytesLess] at h
  | a :: x, [], _, _ => by simp [Op.bytesLess]
  | a :: x, b :: y, h, hn => by
    simp only [Op.bytesLess] at h ⊢
    rcases Nat.lt_trichotomy a.toNat b.toNat with h1 | h1 | h1
    · have e : a < b := by simp [UInt8.lt_iff_toNat_lt]; omega
      simp [e] at h
    · obtain rfl : a = b := UInt8.toNat_inj.1 h1
      have e : ¬ a < a := by simp
      simp [e] at h ⊢
      exact bless_total h (by rintro rfl; exact hn rfl)
    · have e : b < a := by simp [UInt8.lt_iff_toNat_lt]; omega
      simp [e]
theorem bless_irrefl : ∀ (x : List UInt8), Op.bytesLess x x = false
  | [] => by simp [Op.bytesLess]
  | a :: x => by
    have e : ¬ a < a := by simp
    simp [Op.bytesLess, e, bless_irrefl x]
end Go.Proofs.YtlobjpdkjlmglaaGreat
