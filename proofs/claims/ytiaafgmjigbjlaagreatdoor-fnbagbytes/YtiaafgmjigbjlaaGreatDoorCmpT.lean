/- Own text. Values are in one order. -/
import Derived.Test.YtiaafgmjigbjlaaGreatDoorCmp
namespace Go.Proofs.YtiaafgmjigbjlaaGreatDoor
open Go.RowKit
set_option linter.unusedVariables false
set_option linter.unusedSimpArgs false
theorem bl_irrefl : ∀ (x : List UInt8), Op.bytesLess x x = false
  | [] => rfl
  | a :: l => by
    have ih := bl_irrefl l
    simp [Op.bytesLess, ih]
theorem bl_trans : ∀ {x y z : List UInt8}, Op.bytesLess x y = true → Op.bytesLess y z = true → Op.bytesLess x z = true
  | [], [], _, h, _ => by simp [Op.bytesLess] at h
  | [], _ :: _, [], _, h => by simp [Op.bytesLess] at h
  | [], _ :: _, _ :: _, _, _ => by simp [Op.bytesLess]
  | _ :: _, [], _, h, _ => by simp [Op.bytesLess] at h
  | _ :: _, _ :: _, [], _, h => by simp [Op.bytesLess] at h
  | a :: l, b :: m, c :: n, h, k => by
    have ih := @bl_trans l m n
    simp only [Op.bytesLess, Bool.or_eq_true, Bool.and_eq_true, decide_eq_true_eq, beq_iff_eq] at h k ⊢
    rcases h with h | ⟨rfl, h⟩
    · rcases k with k | ⟨rfl, k⟩
      · exact Or.inl (UInt8.lt_trans h k)
      · exact Or.inl h
    · rcases k with k | ⟨rfl, k⟩
      · exact Or.inl k
      · exact Or.inr ⟨rfl, ih h k⟩
theorem cmpI_0 (x y : Int) : cmpI x y = 0 ↔ x = y := by unfold cmpI; split <;> (try split) <;> omega
theorem cmpI_n (x y : Int) : cmpI x y < 0 ↔ x < y := by unfold cmpI; split <;> (try split) <;> omega
theorem cmpS_0 (s t : ByteArray) : cmpS s t = 0 ↔ s.toList = t.toList := by
  unfold cmpS
  by_cases h : s.toList = t.toList
  · rw [h, bl_irrefl]; simp
  · simp [h]; split <;> simp
theorem cmpS_le (s t : ByteArray) : cmpS s t ≤ 0 ↔ (Op.bytesLess s.toList t.toList = true ∨ s.toList = t.toList) := by
  unfold cmpS
  by_cases h : Op.bytesLess s.toList t.toList = true
  · simp [h]
  · by_cases e : s.toList = t.toList
    · rw [e, bl_irrefl]; simp
    · simp [h, e]
theorem cmpV_0 (k n : Int) (s : ByteArray) (k' n' : Int) (s' : ByteArray) : (cmpV k n s k' n' s' == 0) = (k == k' && (n == n' && s.toList == s'.toList)) := by
  have a := cmpI_0 k k'
  have b := cmpI_0 n n'
  have c := cmpS_0 s s'
  have : (cmpV k n s k' n' s' = 0) ↔ (k = k' ∧ n = n' ∧ s.toList = s'.toList) := by
    unfold cmpV orI
    rw [← a, ← b, ← c]
    by_cases h : cmpI k k' = 0
    · by_cases g : cmpI n n' = 0
      · simp [h, g]
      · simp [h, g]
    · simp [h]
  rw [Bool.eq_iff_iff]
  simp [this]
theorem cmpV_le (k n : Int) (s : ByteArray) (k' n' : Int) (s' : ByteArray) : cmpV k n s k' n' s' ≤ 0 ↔ (k < k' ∨ (k = k' ∧ (n < n' ∨ (n = n' ∧ cmpS s s' ≤ 0)))) := by
  have a := cmpI_0 k k'
  have b := cmpI_0 n n'
  have a' := cmpI_n k k'
  have b' := cmpI_n n n'
  unfold cmpV orI
  by_cases h : cmpI k k' = 0
  · by_cases g : cmpI n n' = 0
    · simp only [h, g, if_true]; omega
    · simp only [h, g, if_true, if_false]; omega
  · simp only [h, if_false]; omega
theorem cmpV_trans {k n : Int} {s : ByteArray} {k' n' : Int} {s' : ByteArray} {k2 n2 : Int} {s2 : ByteArray} (h : cmpV k n s k' n' s' ≤ 0) (g : cmpV k' n' s' k2 n2 s2 ≤ 0) : cmpV k n s k2 n2 s2 ≤ 0 := by
  have st : cmpS s s' ≤ 0 → cmpS s' s2 ≤ 0 → cmpS s s2 ≤ 0 := by
    rw [cmpS_le, cmpS_le, cmpS_le]
    rintro (h | h) (g | g)
    · exact Or.inl (bl_trans h g)
    · exact Or.inl (g ▸ h)
    · exact Or.inl (h ▸ g)
    · exact Or.inr (h.trans g)
  rw [cmpV_le] at *
  rcases h with h | ⟨rfl, h⟩
  · rcases g with g | ⟨rfl, g⟩
    · exact Or.inl (by omega)
    · exact Or.inl h
  · rcases g with g | ⟨rfl, g⟩
    · exact Or.inl g
    · refine Or.inr ⟨rfl, ?_⟩
      rcases h with h | ⟨rfl, h⟩
      · rcases g with g | ⟨rfl, g⟩
        · exact Or.inl (by omega)
        · exact Or.inl h
      · rcases g with g | ⟨rfl, g⟩
        · exact Or.inl g
        · exact Or.inr ⟨rfl, st h g⟩
end Go.Proofs.YtiaafgmjigbjlaaGreatDoor
