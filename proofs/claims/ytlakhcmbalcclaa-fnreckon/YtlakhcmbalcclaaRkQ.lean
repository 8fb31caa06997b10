/- Own text. Laws of reckoning on numbers alone: either order, one of three, a quotient that goes down. -/
import Derived.Test.YtlakhcmbalcclaaCmp
import Derived.Test.YtlakhcmbalcclaaArithS
import Derived.Test.YtlakhcmbalcclaaRChain
import Derived.Handy
namespace Go.Proofs.Ytlakhcmbalcclaa
open Go.RowKit
set_option linter.unusedVariables false
theorem chK_flip (p0 q0 p1 q1 : Bool) : chK q0 p0 q1 p1 = chK p0 q0 p1 q1 := by cases p0 <;> cases q0 <;> cases p1 <;> cases q1 <;> rfl
theorem chN_flip (st : Int) (p0 q0 p1 q1 : Bool) : chN st q0 p0 q1 p1 = chN st p0 q0 p1 q1 := by cases p0 <;> cases q0 <;> cases p1 <;> cases q1 <;> rfl
theorem blQ_irrefl : ∀ (x : List UInt8), Op.bytesLess x x = false
  | [] => by simp [Op.bytesLess]
  | a :: x => by
    have e : ¬ a < a := by simp
    simp [Op.bytesLess, e, blQ_irrefl x]
theorem blQ_total : ∀ {x y : List UInt8}, Op.bytesLess x y = false → x ≠ y → Op.bytesLess y x = true
  | [], [], _, h => absurd rfl h
  | [], b :: y, h, _ => by simp [Op.bytesLess] at h
  | a :: x, [], _, _ => by simp [Op.bytesLess]
  | a :: x, b :: y, h, hn => by
    simp only [Op.bytesLess] at h ⊢
    rcases Nat.lt_trichotomy a.toNat b.toNat with h1 | h1 | h1
    · have e : a < b := by simp [UInt8.lt_iff_toNat_lt]; omega
      simp [e] at h
    · obtain rfl : a = b := UInt8.toNat_inj.1 h1
      have e : ¬ a < a := by simp
      simp [e] at h ⊢
      exact blQ_total h (by rintro rfl; exact hn rfl)
    · have e : b < a := by simp [UInt8.lt_iff_toNat_lt]; omega
      simp [e]
theorem blQ_asymm : ∀ {x y : List UInt8}, Op.bytesLess x y = true → Op.bytesLess y x = false
  | [], [], h => by simp [Op.bytesLess] at h
  | [], b :: y, _ => by simp [Op.bytesLess]
  | a :: x, [], h => by simp [Op.bytesLess] at h
  | a :: x, b :: y, h => by
    simp only [Op.bytesLess] at h ⊢
    rcases Nat.lt_trichotomy a.toNat b.toNat with h1 | h1 | h1
    · have e : ¬ b < a := by simp [UInt8.lt_iff_toNat_lt]; omega
      have e' : ¬ b = a := by rintro rfl; omega
      simp [e, e']
    · obtain rfl : a = b := UInt8.toNat_inj.1 h1
      have e : ¬ a < a := by simp
      simp [e] at h ⊢
      exact blQ_asymm h
    · have e : ¬ a < b := by simp [UInt8.lt_iff_toNat_lt]; omega
      have e' : ¬ a = b := by rintro rfl; omega
      simp [e, e'] at h
theorem cmpI_flip (x y : Int) : cmpI y x = - cmpI x y := by
  unfold cmpI
  rcases Int.lt_trichotomy x y with h | h | h
  · rw [if_neg (by omega), if_pos h, if_pos h]; rfl
  · rw [if_neg (by omega), if_neg (by omega), if_neg (by omega), if_neg (by omega)]; rfl
  · rw [if_pos h, if_neg (by omega), if_pos h]
theorem cmpS_flip (s t : ByteArray) : cmpS t s = - cmpS s t := by
  unfold cmpS
  by_cases h : Op.bytesLess s.toList t.toList = true
  · have h' := blQ_asymm h
    have hne : ¬ t.toList = s.toList := fun e => by rw [e, blQ_irrefl] at h; cases h
    rw [if_neg (by rw [h']; simp), if_neg hne, if_pos h]; rfl
  · by_cases he : s.toList = t.toList
    · rw [if_neg (by rw [he, blQ_irrefl]; simp), if_pos he.symm, if_neg h, if_pos he]; rfl
    · rw [if_pos (blQ_total (by simpa using h) he), if_neg h, if_neg he]
theorem cmpV_flip (k n : Int) (s : ByteArray) (k' n' : Int) (s' : ByteArray) : cmpV k' n' s' k n s = - cmpV k n s k' n' s' := by
  unfold cmpV
  rw [cmpI_flip k k', cmpI_flip n n', cmpS_flip s s']
  unfold orI
  by_cases h : cmpI k k' = 0
  · rw [if_pos (by omega), if_pos h]
    by_cases h2 : cmpI n n' = 0
    · rw [if_pos (by omega), if_pos h2]
    · rw [if_neg (by omega), if_neg h2]
  · rw [if_neg (by omega), if_neg h]
/-- one of three. -/
theorem one_of_three (k n : Int) (s : ByteArray) (k' n' : Int) (s' : ByteArray) : bn (decide (cmpV k n s k' n' s' < 0)) + bn (cmpV k n s k' n' s' == 0) + bn (decide (cmpV k' n' s' k n s < 0)) = 1 := by
  rw [cmpV_flip k n s k' n' s']
  obtain ⟨h0, h1⟩ := cmpV_bd k n k' n' s s'
  generalize cmpV k n s k' n' s' = c at h0 h1 ⊢
  have : c = -1 ∨ c = 0 ∨ c = 1 := by omega
  rcases this with rfl | rfl | rfl <;> rfl
theorem subO_some {a b r : Int} (ha : -9223372036854775808 ≤ a ∧ a ≤ 9223372036854775807) (hb : -9223372036854775808 ≤ b ∧ b ≤ 9223372036854775807) (h : subO a b = some r) : r = a - b := by
  unfold subO at h
  split at h
  · rename_i hc
    simp only [Option.some.injEq] at h
    subst h
    by_cases hb0 : 0 < b
    · simp [hb0] at hc
      unfold wrap64 at hc ⊢; omega
    · simp [hb0] at hc
      by_cases hz : b = 0
      · unfold wrap64; omega
      · unfold wrap64 at hc ⊢; omega
  · cases h
theorem tm_abs (a b : Int) (hb : b ≠ 0) : (a.tmod b).natAbs < b.natAbs := by rw [Int.natAbs_tmod]; exact Nat.mod_lt _ (by omega)
theorem td_half (a b : Int) (h2 : 2 ≤ b.natAbs) : (a.tdiv b).natAbs ≤ a.natAbs / 2 := by
  rw [Int.natAbs_tdiv]
  exact Nat.div_le_div_left h2 (by omega)
theorem mulO_some {q b p : Int} (hq : -9223372036854775808 ≤ q ∧ q ≤ 9223372036854775807) (hb : -9223372036854775808 ≤ b ∧ b ≤ 9223372036854775807) (h : mulO q b = some p) : p = q * b := by
  unfold mulO at h
  by_cases h0 : b = 0
  · subst h0; simp at h; omega
  rw [if_neg h0] at h
  by_cases h1 : b = -1
  · subst h1
    rw [if_pos rfl] at h
    have := subO_some (by omega) hq h
    omega
  rw [if_neg h1] at h
  split at h
  · rename_i hc
    simp only [Option.some.injEq] at h
    subst h
    by_cases hb1 : b = 1
    · subst hb1; unfold wrap64; omega
    have h2 : 2 ≤ b.natAbs := by omega
    have e := Int.mul_tdiv_add_tmod (wrap64 (q * b)) b
    have t1 := tm_abs (wrap64 (q * b)) b h0
    have t2 := td_half (wrap64 (q * b)) b h2
    have hP : -9223372036854775808 ≤ wrap64 (q * b) ∧ wrap64 (q * b) ≤ 9223372036854775807 := by unfold wrap64; omega
    have hw : wrap64 ((wrap64 (q * b)).tdiv b) = (wrap64 (q * b)).tdiv b := by
      generalize (wrap64 (q * b)).tdiv b = T at t2 ⊢
      generalize wrap64 (q * b) = P at t2 hP
      unfold wrap64; omega
    rw [hw] at hc
    rw [hc, Int.mul_comm b q] at e
    generalize (wrap64 (q * b)).tmod b = t at e t1
    unfold wrap64 at e ⊢
    omega
  · cases h
/-- a quotient goes down: what is left is on the side of the divisor, and less. -/
theorem divO_some {a b q : Int} (ha : -9223372036854775808 ≤ a ∧ a ≤ 9223372036854775807) (hb : -9223372036854775808 ≤ b ∧ b ≤ 9223372036854775807) (h : divO a b = some q) :
    ∃ r, a = q * b + r ∧ (-9223372036854775808 ≤ q ∧ q ≤ 9223372036854775807) ∧ ((0 < b ∧ 0 ≤ r ∧ r < b) ∨ (b < 0 ∧ r ≤ 0 ∧ b < r)) := by
  unfold divO at h
  by_cases h0 : b = 0
  · subst h0; simp at h
  rw [if_neg h0] at h
  by_cases h1 : b = -1
  · subst h1
    rw [if_pos rfl] at h
    have hq := subO_some (by omega) ha h
    rw [subO_neg a ha] at h
    split at h
    · cases h
    · exact ⟨0, by omega, by omega, by omega⟩
  rw [if_neg h1] at h
  simp only [Option.some.injEq] at h
  have e := Int.mul_tdiv_add_tmod a b
  have t1 := tm_abs a b h0
  have s1 : 0 ≤ a → 0 ≤ a.tmod b := fun h => Int.tmod_nonneg b h
  have s2 : a ≤ 0 → a.tmod b ≤ 0 := fun h => by
    have := Int.tmod_nonneg b (a := -a) (by omega)
    rw [Int.neg_tmod] at this; omega
  have hT : (-9223372036854775808 < a.tdiv b ∧ a.tdiv b ≤ 9223372036854775807) ∨ (b = 1 ∧ a.tdiv b = a) := by
    by_cases hb1 : b = 1
    · right; subst hb1; exact ⟨rfl, by simp⟩
    · left; have := td_half a b (by omega); omega
  generalize a.tdiv b = T at *
  generalize a.tmod b = t at *
  rw [Int.mul_comm b T] at e
  rcases hT with hT | ⟨hb1, hT⟩
  · have w1 : wrap64 T = T := by unfold wrap64; omega
    have w2 : wrap64 (T - 1) = T - 1 := by unfold wrap64; omega
    rw [w1, w2] at h
    by_cases ht : t = 0
    · subst ht
      simp at h
      subst h
      exact ⟨0, by omega, by omega, by omega⟩
    · by_cases hs : (a < 0) = (b < 0)
      · have hs' : (decide (a < 0) == decide (b < 0)) = true := by simp [hs]
        rw [hs'] at h
        simp at h
        subst h
        refine ⟨t, by omega, by omega, ?_⟩
        by_cases hb' : b < 0
        · have : a < 0 := by rw [hs]; exact hb'
          right; have := s2 (by omega); omega
        · have : ¬ a < 0 := by rw [hs]; exact hb'
          left; have := s1 (by omega); omega
      · have hs' : (decide (a < 0) == decide (b < 0)) = false := by
          rw [beq_eq_false_iff_ne]; intro x; exact hs (by simpa using x)
        rw [hs'] at h
        simp [ht] at h
        subst h
        refine ⟨t + b, by rw [Int.sub_mul]; omega, by omega, ?_⟩
        by_cases hb' : b < 0
        · have : ¬ a < 0 := fun x => hs (by simp [x, hb'])
          right; have := s1 (by omega); omega
        · have : a < 0 := by
            by_cases x : a < 0
            · exact x
            · exact absurd (by simp [x, hb']) hs
          left; have := s2 (by omega); omega
  · subst hb1 hT
    have ht : t = 0 := by omega
    subst ht
    simp at h
    have w1 : wrap64 T = T := by unfold wrap64; omega
    rw [w1] at h
    subst h
    exact ⟨0, by omega, by omega, by omega⟩
/-- what is left of a number less its quotient's product. -/
theorem quotient_left {a b q p r : Int} (ha : -9223372036854775808 ≤ a ∧ a ≤ 9223372036854775807) (hb : -9223372036854775808 ≤ b ∧ b ≤ 9223372036854775807) (h1 : divO a b = some q) (h2 : mulO q b = some p) (hp : -9223372036854775808 ≤ p ∧ p ≤ 9223372036854775807) (h3 : subO a p = some r) :
    (0 < b ∧ 0 ≤ r ∧ r < b) ∨ (b < 0 ∧ r ≤ 0 ∧ b < r) := by
  obtain ⟨x, hx, hq, hs⟩ := divO_some ha hb h1
  have e2 := mulO_some hq hb h2
  have e3 := subO_some ha hp h3
  have : r = x := by omega
  subst this
  exact hs
end Go.Proofs.Ytlakhcmbalcclaa
