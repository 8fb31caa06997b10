/- Own texts, joined: contracts that the law's proof goes by. -/
import Derived.Test.YtaeibfipcenhaaaGreatDoorGLViewsOk11
namespace Go.Proofs.YtaeibfipcenhaaaGreatDoor
open Go.RowKit
set_option linter.unusedVariables false
set_option linter.unusedSimpArgs false
theorem bl_irrefl : ∀ (x : List UInt8), Op.bytesLess x x = false
  | [] => rfl
  | a :: l => by
    have ih := bl_irrefl l
    simp [Op.bytesLess, ih]
theorem bl_trans : ∀ {x y z : List UInt8}, Op.bytesLess x y = true → Op.bytesLess y z = true → Op.bytesLess x z = true
  | [], [], _, h, _ => by simp [Op.bytesLess] at h
  | [], _ :: _, [], _, h => by simp [Op.bytesLess] at h
  | [], _ :: _, _ :: _, _, _ => by simp [Op.bytesLess]
  | _ :: _, [], _, h, _ => by simp [Op.bytesLess] at h
  | _ :: _, _ :: _, [], _, h => by simp [Op.bytesLess] at h
  | a :: l, b :: m, c :: n, h, k => by
    have ih := @bl_trans l m n
    simp only [Op.bytesLess, Bool.or_eq_true, Bool.and_eq_true, decide_eq_true_eq, beq_iff_eq] at h k ⊢
    rcases h with h | ⟨rfl, h⟩
    · rcases k with k | ⟨rfl, k⟩
      · exact Or.inl (UInt8.lt_trans h k)
      · exact Or.inl h
    · rcases k with k | ⟨rfl, k⟩
      · exact Or.inl k
      · exact Or.inr ⟨rfl, ih h k⟩
theorem cmpI_0 (x y : Int) : cmpI x y = 0 ↔ x = y := by unfold cmpI; split <;> (try split) <;> omega
theorem cmpI_n (x y : Int) : cmpI x y < 0 ↔ x < y := by unfold cmpI; split <;> (try split) <;> omega
theorem cmpS_0 (s t : ByteArray) : cmpS s t = 0 ↔ s.toList = t.toList := by
  unfold cmpS
  by_cases h : s.toList = t.toList
  · rw [h, bl_irrefl]; simp
  · simp [h]; split <;> simp
theorem cmpS_le (s t : ByteArray) : cmpS s t ≤ 0 ↔ (Op.bytesLess s.toList t.toList = true ∨ s.toList = t.toList) := by
  unfold cmpS
  by_cases h : Op.bytesLess s.toList t.toList = true
  · simp [h]
  · by_cases e : s.toList = t.toList
    · rw [e, bl_irrefl]; simp
    · simp [h, e]
theorem cmpV_0 (k n : Int) (s : ByteArray) (k' n' : Int) (s' : ByteArray) : (cmpV k n s k' n' s' == 0) = (k == k' && (n == n' && s.toList == s'.toList)) := by
  have a := cmpI_0 k k'
  have b := cmpI_0 n n'
  have c := cmpS_0 s s'
  have : (cmpV k n s k' n' s' = 0) ↔ (k = k' ∧ n = n' ∧ s.toList = s'.toList) := by
    unfold cmpV orI
    rw [← a, ← b, ← c]
    by_cases h : cmpI k k' = 0
    · by_cases g : cmpI n n' = 0
      · simp [h, g]
      · simp [h, g]
    · simp [h]
  rw [Bool.eq_iff_iff]
  simp [this]
theorem cmpV_le (k n : Int) (s : ByteArray) (k' n' : Int) (s' : ByteArray) : cmpV k n s k' n' s' ≤ 0 ↔ (k < k' ∨ (k = k' ∧ (n < n' ∨ (n = n' ∧ cmpS s s' ≤ 0)))) := by
  have a := cmpI_0 k k'
  have b := cmpI_0 n n'
  have a' := cmpI_n k k'
  have b' := cmpI_n n n'
  unfold cmpV orI
  by_cases h : cmpI k k' = 0
  · by_cases g : cmpI n n' = 0
    · simp only [h, g, if_true]; omega
    · simp only [h, g, if_true, if_false]; omega
  · simp only [h, if_false]; omega
theorem cmpV_trans {k n : Int} {s : ByteArray} {k' n' : Int} {s' : ByteArray} {k2 n2 : Int} {s2 : ByteArray} (h : cmpV k n s k' n' s' ≤ 0) (g : cmpV k' n' s' k2 n2 s2 ≤ 0) : cmpV k n s k2 n2 s2 ≤ 0 := by
  have st : cmpS s s' ≤ 0 → cmpS s' s2 ≤ 0 → cmpS s s2 ≤ 0 := by
    rw [cmpS_le, cmpS_le, cmpS_le]
    rintro (h | h) (g | g)
    · exact Or.inl (bl_trans h g)
    · exact Or.inl (g ▸ h)
    · exact Or.inl (h ▸ g)
    · exact Or.inr (h.trans g)
  rw [cmpV_le] at *
  rcases h with h | ⟨rfl, h⟩
  · rcases g with g | ⟨rfl, g⟩
    · exact Or.inl (by omega)
    · exact Or.inl h
  · rcases g with g | ⟨rfl, g⟩
    · exact Or.inl g
    · refine Or.inr ⟨rfl, ?_⟩
      rcases h with h | ⟨rfl, h⟩
      · rcases g with g | ⟨rfl, g⟩
        · exact Or.inl (by omega)
        · exact Or.inl h
      · rcases g with g | ⟨rfl, g⟩
        · exact Or.inl g
        · exact Or.inr ⟨rfl, st h g⟩
end Go.Proofs.YtaeibfipcenhaaaGreatDoor
namespace Go.Proofs.YtaeibfipcenhaaaGreatDoor
open Go.RowKit
set_option linter.unusedVariables false
theorem ba_ext {s t : ByteArray} (h : s.toList = t.toList) : s = t := by
  rw [ByteArray.toList_eq, ByteArray.toList_eq] at h
  cases s; cases t
  simp at h
  rw [h]
theorem cmpW_0 (x y : V3) : cmpW x y = 0 ↔ x = y := by
  have h := cmpV_0 x.k x.n x.s y.k y.n y.s
  rw [Bool.eq_iff_iff] at h
  simp only [beq_iff_eq, Bool.and_eq_true] at h
  unfold cmpW
  rw [h]
  constructor
  · rintro ⟨h1, h2, h3⟩
    obtain ⟨k, n, s⟩ := x
    obtain ⟨k', n', s'⟩ := y
    have := ba_ext h3
    simp at h1 h2 this
    rw [h1, h2, this]
  · rintro rfl; exact ⟨rfl, rfl, rfl⟩
theorem cmpW_flip (x y : V3) : cmpW y x = - cmpW x y := cmpV_flip _ _ _ _ _ _
theorem cmpW_trans {x y z : V3} (h : cmpW x y ≤ 0) (g : cmpW y z ≤ 0) : cmpW x z ≤ 0 := cmpV_trans h g
theorem cmpRow_flip : ∀ (a b : List V3), cmpRow b a = - cmpRow a b
  | [], [] => rfl
  | [], _ :: _ => rfl
  | _ :: _, [] => rfl
  | x :: xs, y :: ys => by
    have h := cmpW_flip x y
    simp only [cmpRow]
    rw [h, cmpRow_flip xs ys]
    by_cases h0 : cmpW x y = 0
    · rw [if_pos (by omega), if_pos h0]
    · rw [if_neg (by omega), if_neg h0]
theorem cmpRow_0 : ∀ (a b : List V3), cmpRow a b = 0 ↔ a = b
  | [], [] => by simp [cmpRow]
  | [], _ :: _ => by simp [cmpRow]
  | _ :: _, [] => by simp [cmpRow]
  | x :: xs, y :: ys => by
    simp only [cmpRow]
    by_cases h0 : cmpW x y = 0
    · rw [if_pos h0, cmpRow_0 xs ys, (cmpW_0 x y).1 h0]
      simp
    · rw [if_neg h0]
      constructor
      · intro h; exact absurd h h0
      · intro h
        injection h with h1 _
        exact absurd ((cmpW_0 x y).2 h1) h0
theorem cmpRow_trans : ∀ {a b c : List V3}, cmpRow a b < 0 → cmpRow b c < 0 → cmpRow a c < 0
  | [], [], _, h, _ => by simp [cmpRow] at h
  | [], _ :: _, [], _, h => by simp [cmpRow] at h
  | [], _ :: _, _ :: _, _, _ => by simp [cmpRow]
  | _ :: _, [], _, h, _ => by simp [cmpRow] at h
  | _ :: _, _ :: _, [], _, h => by simp [cmpRow] at h
  | x :: xs, y :: ys, z :: zs, h, k => by
    have ih := @cmpRow_trans xs ys zs
    simp only [cmpRow] at h k ⊢
    by_cases h0 : cmpW x y = 0
    · rw [if_pos h0] at h
      obtain rfl := (cmpW_0 x y).1 h0
      by_cases k0 : cmpW x z = 0
      · rw [if_pos k0] at k ⊢
        exact ih h k
      · rw [if_neg k0] at k ⊢
        exact k
    · rw [if_neg h0] at h
      by_cases k0 : cmpW y z = 0
      · obtain rfl := (cmpW_0 y z).1 k0
        rw [if_neg h0]
        exact h
      · rw [if_neg k0] at k
        have h1 := cmpW_trans (x := x) (y := y) (z := z) (by omega) (by omega)
        have h2 : cmpW x z ≠ 0 := by
          intro e
          obtain rfl := (cmpW_0 x z).1 e
          have := cmpW_flip x y
          omega
        rw [if_neg h2]
        omega
theorem cmpRow_irr (a : List V3) : cmpRow a a = 0 := (cmpRow_0 a a).2 rfl
/-- ascending, no two rows alike. -/
def Asc (cs : List C2) : Prop := cs.Pairwise fun x y => cmpRow x.r y.r < 0
/-- how many rows stand ahead of a row. -/
def ahead (cs : List C2) (row : List V3) : Nat := (cs.takeWhile fun c => decide (cmpRow c.r row < 0)).length
theorem gt_of {a b : List V3} (h : ¬ cmpRow a b < 0) (hne : a ≠ b) : cmpRow b a < 0 := by
  have := cmpRow_flip a b
  have h0 : cmpRow a b ≠ 0 := fun e => hne ((cmpRow_0 a b).1 e)
  omega
end Go.Proofs.YtaeibfipcenhaaaGreatDoor
