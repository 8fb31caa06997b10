/- Own text. The contracts of the specification's arithmetic: l01Int, l01Sum, l01Product, l01Quotient, l01Arith. -/
import Derived.Test.YtlakhcmbalcclaaArithI
namespace Go.Proofs.Ytlakhcmbalcclaa
open Go.RowKit
set_option linter.unusedVariables false
/-- the kind and the number of what may be none. -/
def kO (o : Option Int) : Int := if o.isSome = true then 1 else 0
def nO (o : Option Int) : Int := o.getD 0
theorem retO_some {o : Option Int} {x : Int} (h : o = some x) : Ending.returned (.agg #[.int .i64 1, .int .i64 x, .string ⟨#[]⟩]) = .returned (.agg #[.int .i64 (kO o), .int .i64 (nO o), .string ⟨#[]⟩]) := by rw [h]; rfl
theorem retO_none {o : Option Int} (h : o = none) : Ending.returned (.agg #[.int .i64 0, .int .i64 0, .string ⟨#[]⟩]) = .returned (.agg #[.int .i64 (kO o), .int .i64 (nO o), .string ⟨#[]⟩]) := by rw [h]; rfl
theorem mulO_a0 (b : Int) : mulO 0 b = some 0 := by
  unfold mulO
  by_cases h0 : b = 0
  · rw [if_pos h0]
  · rw [if_neg h0]
    by_cases h1 : b = -1
    · rw [if_pos h1]; decide +kernel
    · rw [if_neg h1, Int.zero_mul, show wrap64 0 = 0 from by decide +kernel, Int.zero_tdiv, if_pos (by decide +kernel)]
theorem subO_neg (a : Int) (ha : -9223372036854775808 ≤ a ∧ a ≤ 9223372036854775807) : subO 0 a = if a = -9223372036854775808 then none else some (-a) := by
  unfold subO
  by_cases h : a = -9223372036854775808
  · subst h; decide +kernel
  · have e : wrap64 (0 - a) = -a := by unfold wrap64; omega
    rw [e, if_neg h]
    by_cases h1 : 0 < a
    · rw [if_pos (by first | (simp; done) | (simp; omega))]
    · rw [if_pos (by first | (simp; done) | (simp; omega))]
theorem mulO_m1 (a : Int) (ha : -9223372036854775808 ≤ a ∧ a ≤ 9223372036854775807) : mulO a (-1) = if a = -9223372036854775808 then none else some (-a) := by
  rw [mulO, if_neg (by omega), if_pos rfl, subO_neg a ha]
theorem divO_m1 (a : Int) (ha : -9223372036854775808 ≤ a ∧ a ≤ 9223372036854775807) : divO a (-1) = if a = -9223372036854775808 then none else some (-a) := by
  rw [divO, if_neg (by omega), if_pos rfl, subO_neg a ha]
theorem mulO_ml : mulO (-1) (-9223372036854775808) = none := by decide +kernel
set_option maxHeartbeats 400000 in
theorem l01Int_any (n : Int) (w : World) :
    Calls Try.prog 43 #[.int .i64 n] w fun e w' => e = .returned (.agg #[.int .i64 1, .int .i64 n, .string ⟨#[]⟩]) ∧ Below w.heap.size w w' := by
  go_enter Try.func43, Try.ntmps43
  go_wp2
  go_returns
  exact ⟨rfl, by go_grown⟩
set_option maxHeartbeats 1000000 in
theorem l01Sum_any (a b : Int) (w : World) :
    Calls Try.prog 44 #[.int .i64 a, .int .i64 b] w fun e w' => e = .returned (.agg #[.int .i64 (kO (addO a b)), .int .i64 (nO (addO a b)), .string ⟨#[]⟩]) ∧ Below w.heap.size w w' := by
  by_cases h : (decide (a < wrap64 (a + b)) == decide (0 < b)) = true
  · have hm : Hid (addO a b = some (wrap64 (a + b))) := if_pos h
    go_enter Try.func44, Try.ntmps44
    go_wp2
    all_goals first | (go_returns; exact ⟨retO_some hm.out, by go_grown⟩) | (exfalso; simp_all; done)
  · have hm : Hid (addO a b = none) := if_neg h
    go_enter Try.func44, Try.ntmps44
    go_wp2
    all_goals first | (go_returns; exact ⟨retO_none hm.out, by go_grown⟩) | (exfalso; simp_all; done)
set_option maxHeartbeats 2000000 in
theorem l01Product_any (a b : Int) (w : World) (ha : -9223372036854775808 ≤ a ∧ a ≤ 9223372036854775807) (hb : -9223372036854775808 ≤ b ∧ b ≤ 9223372036854775807) :
    Calls Try.prog 45 #[.int .i64 a, .int .i64 b] w fun e w' => e = .returned (.agg #[.int .i64 (kO (mulO a b)), .int .i64 (nO (mulO a b)), .string ⟨#[]⟩]) ∧ Below w.heap.size w w' := by
  by_cases ha0 : a = 0
  · subst ha0
    have hm : Hid (mulO 0 b = some 0) := mulO_a0 b
    clear ha hb
    go_enter Try.func45, Try.ntmps45
    go_wp2
    all_goals first | (go_returns; exact ⟨retO_some hm.out, by go_grown⟩) | (exfalso; simp_all; done)
  by_cases hb0 : b = 0
  · subst hb0
    have hm : Hid (mulO a 0 = some 0) := rfl
    have ea : (a == 0) = false := by simp [ha0]
    clear ha hb ha0
    go_enter Try.func45, Try.ntmps45
    go_wp2
    all_goals first | (go_returns; exact ⟨retO_some hm.out, by go_grown⟩) | (exfalso; simp_all; done)
  have ea : (a == 0) = false := by simp [ha0]
  have eb : (b == 0) = false := by simp [hb0]
  by_cases hb1 : b = -1
  · subst hb1
    have hm0 := mulO_m1 a ha
    by_cases hl : a = -9223372036854775808
    · subst hl
      have hm : Hid (mulO (-9223372036854775808) (-1) = none) := by show _ = _; decide +kernel
      clear hm0 ha hb
      go_enter Try.func45, Try.ntmps45
      go_wp2
      all_goals first | (go_returns; exact ⟨retO_none hm.out, by go_grown⟩) | (exfalso; simp_all; done)
    · rw [if_neg hl] at hm0
      have hm : Hid (mulO a (-1) = some (-a)) := hm0
      clear hm0
      have el : (a == -9223372036854775808) = false := by simp [hl]
      have e1 : wrap64 (-a) = -a := by unfold wrap64; omega
      have e2 : wrap64 a = a := by unfold wrap64; omega
      by_cases ha1 : a = -1
      · subst ha1
        clear ha hb e1 e2 el
        go_enter Try.func45, Try.ntmps45
        go_wp2
        all_goals first | (go_returns; exact ⟨retO_some hm.out, by go_grown⟩) | (exfalso; simp_all [wrap64]; done)
      · have ea1 : (a == -1) = false := by simp [ha1]
        clear ha hb ha1 hl ha0 hb0
        go_enter Try.func45, Try.ntmps45
        go_wp2
        all_goals first | (go_returns; exact ⟨retO_some hm.out, by go_grown⟩) | (exfalso; simp_all; done)
  have eb1 : (b == -1) = false := by simp [hb1]
  by_cases hl : a = -1 ∧ b = -9223372036854775808
  · obtain ⟨rfl, rfl⟩ := hl
    have hm : Hid (mulO (-1) (-9223372036854775808) = none) := mulO_ml
    clear ha hb
    go_enter Try.func45, Try.ntmps45
    go_wp2
    all_goals first | (go_returns; exact ⟨retO_none hm.out, by go_grown⟩) | (exfalso; simp_all; done)
  · by_cases ha1 : a = -1
    · subst ha1
      have ebl : (b == -9223372036854775808) = false := by
        have : ¬ b = -9223372036854775808 := fun h => hl ⟨rfl, h⟩
        simp [this]
      by_cases hq : wrap64 ((wrap64 (-b)).tdiv b) = -1
      · have hm : Hid (mulO (-1) b = some (wrap64 (-b))) := by show _ = _; rw [mulO, if_neg hb0, if_neg hb1, Int.neg_one_mul, if_pos hq]
        have eq : (wrap64 ((wrap64 (-b)).tdiv b) != -1) = false := by simp [hq]
        clear ha hb hq hl ha0
        go_enter Try.func45, Try.ntmps45
        go_wp2
        all_goals first | (go_returns; exact ⟨retO_some hm.out, by go_grown⟩) | (exfalso; simp_all; done)
      · have hm : Hid (mulO (-1) b = none) := by show _ = _; rw [mulO, if_neg hb0, if_neg hb1, Int.neg_one_mul, if_neg hq]
        have eq : (wrap64 ((wrap64 (-b)).tdiv b) != -1) = true := by simp [hq]
        clear ha hb hq hl ha0
        go_enter Try.func45, Try.ntmps45
        go_wp2
        all_goals first | (go_returns; exact ⟨retO_none hm.out, by go_grown⟩) | (exfalso; simp_all; done)
    have ea1 : (a == -1) = false := by simp [ha1]
    by_cases hq : wrap64 ((wrap64 (a * b)).tdiv b) = a
    · have hm : Hid (mulO a b = some (wrap64 (a * b))) := by show _ = _; rw [mulO, if_neg hb0, if_neg hb1, if_pos hq]
      have eq : (wrap64 ((wrap64 (a * b)).tdiv b) != a) = false := by simp [hq]
      have hl' : Hid (¬ (a = -1 ∧ b = -9223372036854775808)) := hl
      clear ha hb hq hl
      go_enter Try.func45, Try.ntmps45
      go_wp2
      all_goals first | (go_returns; exact ⟨retO_some hm.out, by go_grown⟩) | (exfalso; have := hl'.out; simp_all; done)
    · have hm : Hid (mulO a b = none) := by show _ = _; rw [mulO, if_neg hb0, if_neg hb1, if_neg hq]
      have eq : (wrap64 ((wrap64 (a * b)).tdiv b) != a) = true := by simp [hq]
      have hl' : Hid (¬ (a = -1 ∧ b = -9223372036854775808)) := hl
      clear ha hb hq hl
      go_enter Try.func45, Try.ntmps45
      go_wp2
      all_goals first | (go_returns; exact ⟨retO_none hm.out, by go_grown⟩) | (exfalso; have := hl'.out; simp_all; done)
set_option maxHeartbeats 2000000 in
theorem l01Quotient_any (a b : Int) (w : World) (ha : -9223372036854775808 ≤ a ∧ a ≤ 9223372036854775807) :
    Calls Try.prog 46 #[.int .i64 a, .int .i64 b] w fun e w' => e = .returned (.agg #[.int .i64 (kO (divO a b)), .int .i64 (nO (divO a b)), .string ⟨#[]⟩]) ∧ Below w.heap.size w w' := by
  by_cases hb0 : b = 0
  · subst hb0
    have hm : Hid (divO a 0 = none) := rfl
    clear ha
    go_enter Try.func46, Try.ntmps46
    go_wp2
    all_goals first | (go_returns; exact ⟨retO_none hm.out, by go_grown⟩) | (exfalso; simp_all; done)
  have eb : (b == 0) = false := by simp [hb0]
  by_cases hb1 : b = -1
  · subst hb1
    have hm0 := divO_m1 a ha
    by_cases hl : a = -9223372036854775808
    · subst hl
      have hm : Hid (divO (-9223372036854775808) (-1) = none) := by show _ = _; decide +kernel
      clear hm0 ha
      go_enter Try.func46, Try.ntmps46
      go_wp2
      all_goals first | (go_returns; exact ⟨retO_none hm.out, by go_grown⟩) | (exfalso; simp_all; done)
    · rw [if_neg hl] at hm0
      have hm : Hid (divO a (-1) = some (-a)) := hm0
      have el : (a == -9223372036854775808) = false := by simp [hl]
      have e1 : wrap64 (-a) = -a := by unfold wrap64; omega
      clear hm0 ha hl hb0
      go_enter Try.func46, Try.ntmps46
      go_wp2
      all_goals first | (go_returns; exact ⟨retO_some hm.out, by go_grown⟩) | (exfalso; simp_all; done)
  have eb1 : (b == -1) = false := by simp [hb1]
  by_cases hq : (a.tmod b != 0 && !(decide (a < 0) == decide (b < 0))) = true
  · have hm : Hid (divO a b = some (wrap64 (wrap64 (a.tdiv b) - 1))) := by show _ = _; rw [divO, if_neg hb0, if_neg hb1, if_pos hq]
    clear ha
    go_enter Try.func46, Try.ntmps46
    go_wp2
    all_goals first | (go_returns; exact ⟨retO_some hm.out, by go_grown⟩) | (exfalso; simp_all; done)
  · have hm : Hid (divO a b = some (wrap64 (a.tdiv b))) := by show _ = _; rw [divO, if_neg hb0, if_neg hb1, if_neg hq]
    clear ha
    go_enter Try.func46, Try.ntmps46
    go_wp2
    all_goals first | (go_returns; exact ⟨retO_some hm.out, by go_grown⟩) | (exfalso; simp_all; done)
end Go.Proofs.Ytlakhcmbalcclaa
