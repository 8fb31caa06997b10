/- Own text. What a sign makes of two numbers (addO, subO, mulO, divO); the contracts of the program's addInts, subInts, mulInts, divInts. -/
import Derived.Test.YtlakhcmbalcclaaKit
import Derived.Handy
import Derived.RegionTactic
namespace Go.Proofs.Ytlakhcmbalcclaa
open Go.RowKit
set_option linter.unusedVariables false
def addO (a b : Int) : Option Int := if (decide (a < wrap64 (a + b)) == decide (0 < b)) = true then some (wrap64 (a + b)) else none
def subO (a b : Int) : Option Int := if (decide (wrap64 (a - b) < a) == decide (0 < b)) = true then some (wrap64 (a - b)) else none
def mulO (a b : Int) : Option Int := if b = 0 then some 0 else if b = -1 then subO 0 a else if wrap64 ((wrap64 (a * b)).tdiv b) = a then some (wrap64 (a * b)) else none
def divO (a b : Int) : Option Int := if b = 0 then none else if b = -1 then subO 0 a else some (if (a.tmod b != 0 && !(decide (a < 0) == decide (b < 0))) = true then wrap64 (wrap64 (a.tdiv b) - 1) else wrap64 (a.tdiv b))
/-- a number and whether it is one. -/
def Tells (o : Option Int) (x : Int) (b : Bool) : Prop := o = if b = true then some x else none
set_option maxHeartbeats 1000000 in
theorem addInts_any (a b : Int) (w : World) :
    Calls Try.prog 37 #[.int .i64 a, .int .i64 b] w fun e w' => ∃ x t, e = .returned (.tuple #[.int .i64 x, .bool t]) ∧ Tells (addO a b) x t ∧ w' = w := by
  go_enter Try.func37, Try.ntmps37
  go_wp2
  go_returns
  exact ⟨_, _, rfl, rfl, rfl⟩
set_option maxHeartbeats 1000000 in
theorem subInts_any (a b : Int) (w : World) :
    Calls Try.prog 38 #[.int .i64 a, .int .i64 b] w fun e w' => ∃ x t, e = .returned (.tuple #[.int .i64 x, .bool t]) ∧ Tells (subO a b) x t ∧ w' = w := by
  go_enter Try.func38, Try.ntmps38
  go_wp2
  go_returns
  exact ⟨_, _, rfl, rfl, rfl⟩
set_option maxHeartbeats 1000000 in
theorem mulInts_any (a b : Int) (w : World) :
    Calls Try.prog 39 #[.int .i64 a, .int .i64 b] w fun e w' => ∃ x t, e = .returned (.tuple #[.int .i64 x, .bool t]) ∧ Tells (mulO a b) x t ∧ Below w.heap.size w w' := by
  by_cases h0 : b = 0
  · subst h0
    go_enter Try.func39, Try.ntmps39
    go_wp2
    go_returns
    exact ⟨_, _, rfl, rfl, Below.refl _ _⟩
  by_cases h1 : b = -1
  · subst h1
    have hm : Hid (mulO a (-1) = subO 0 a) := by show _ = _; rw [mulO, if_neg (by omega), if_pos rfl]
    go_enter Try.func39, Try.ntmps39
    go_wp2_with fail
    refine (subInts_any _ _ _).mono ?_
    rintro e w1 ⟨x, t, rfl, ht, rfl⟩
    go_wp2_with fail
    go_returns
    exact ⟨_, _, rfl, by rw [hm.out]; exact ht, Below.refl _ _⟩
  · have e0 : (b == 0) = false := by simp [h0]
    have e1 : (b == -1) = false := by simp [h1]
    have hm : Hid (Tells (mulO a b) (wrap64 (a * b)) (wrap64 ((wrap64 (a * b)).tdiv b) == a)) := by
      show _ = _
      rw [mulO, if_neg h0, if_neg h1]
      by_cases hh : wrap64 ((wrap64 (a * b)).tdiv b) = a <;> simp [hh]
    clear h1
    go_enter Try.func39, Try.ntmps39
    go_wp2
    go_region
    all_goals go_wp2
    all_goals go_returns
    all_goals exact ⟨_, _, rfl, hm.out, (Below.refl _ _).drew⟩
set_option maxHeartbeats 1000000 in
theorem divInts_any (a b : Int) (w : World) :
    Calls Try.prog 40 #[.int .i64 a, .int .i64 b] w fun e w' => ∃ x t, e = .returned (.tuple #[.int .i64 x, .bool t]) ∧ Tells (divO a b) x t ∧ Below w.heap.size w w' := by
  by_cases h0 : b = 0
  · subst h0
    go_enter Try.func40, Try.ntmps40
    go_wp2
    go_returns
    exact ⟨_, _, rfl, rfl, Below.refl _ _⟩
  by_cases h1 : b = -1
  · subst h1
    have hm : Hid (divO a (-1) = subO 0 a) := by show _ = _; rw [divO, if_neg (by omega), if_pos rfl]
    go_enter Try.func40, Try.ntmps40
    go_wp2_with fail
    refine (subInts_any _ _ _).mono ?_
    rintro e w1 ⟨x, t, rfl, ht, rfl⟩
    go_wp2_with fail
    go_returns
    exact ⟨_, _, rfl, by rw [hm.out]; exact ht, Below.refl _ _⟩
  · have e0 : (b == 0) = false := by simp [h0]
    have e1 : (b == -1) = false := by simp [h1]
    by_cases hq : (a.tmod b != 0 && !(decide (a < 0) == decide (b < 0))) = true
    · have hm : Hid (divO a b = some (wrap64 (wrap64 (a.tdiv b) - 1))) := by show _ = _; rw [divO, if_neg h0, if_neg h1, if_pos hq]
      clear h1
      go_enter Try.func40, Try.ntmps40
      go_wp2
      all_goals first | (go_returns; exact ⟨_, _, rfl, hm.out, Below.refl _ _⟩) | (exfalso; simp_all; done)
    · have hm : Hid (divO a b = some (wrap64 (a.tdiv b))) := by show _ = _; rw [divO, if_neg h0, if_neg h1, if_neg hq]
      clear h1
      go_enter Try.func40, Try.ntmps40
      go_wp2
      all_goals first | (go_returns; exact ⟨_, _, rfl, hm.out, Below.refl _ _⟩) | (exfalso; simp_all; done)
end Go.Proofs.Ytlakhcmbalcclaa
