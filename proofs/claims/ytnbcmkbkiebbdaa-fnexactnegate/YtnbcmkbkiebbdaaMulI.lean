/- Own text. Products of 64 bits: the contracts of impl.subInts and impl.mulInts, and what they tell. -/
import Derived.Test.YtnbcmkbkiebbdaaKit
import Derived.Handy
import Derived.RegionTactic
namespace Go.Proofs.Ytnbcmkbkiebbdaa
open Go.RowKit
set_option linter.unusedVariables false
def subO (a b : Int) : Option Int := if (decide (wrap64 (a - b) < a) == decide (0 < b)) = true then some (wrap64 (a - b)) else none
def mulO (a b : Int) : Option Int := if b = 0 then some 0 else if b = -1 then subO 0 a else if wrap64 ((wrap64 (a * b)).tdiv b) = a then some (wrap64 (a * b)) else none
def Tells (o : Option Int) (x : Int) (b : Bool) : Prop := o = if b = true then some x else none
set_option maxHeartbeats 1000000 in
theorem subInts_any (a b : Int) (w : World) :
    Calls Try.prog 188 #[.int .i64 a, .int .i64 b] w fun e w' => ∃ x t, e = .returned (.tuple #[.int .i64 x, .bool t]) ∧ Tells (subO a b) x t ∧ w' = w := by
  go_enter Try.func188, Try.ntmps188
  go_wp2
  go_returns
  exact ⟨_, _, rfl, rfl, rfl⟩
set_option maxHeartbeats 1000000 in
theorem mulInts_any (a b : Int) (w : World) :
    Calls Try.prog 151 #[.int .i64 a, .int .i64 b] w fun e w' => ∃ x t, e = .returned (.tuple #[.int .i64 x, .bool t]) ∧ Tells (mulO a b) x t ∧ Below w.heap.size w w' := by
  by_cases h0 : b = 0
  · subst h0
    go_enter Try.func151, Try.ntmps151
    go_wp2
    go_returns
    exact ⟨_, _, rfl, rfl, Below.refl _ _⟩
  by_cases h1 : b = -1
  · subst h1
    have hm : Hid (mulO a (-1) = subO 0 a) := by show _ = _; rw [mulO, if_neg (by omega), if_pos rfl]
    go_enter Try.func151, Try.ntmps151
    go_wp2_with fail
    refine (subInts_any _ _ _).mono ?_
    rintro e w1 ⟨x, t, rfl, ht, rfl⟩
    go_wp2_with fail
    go_returns
    exact ⟨_, _, rfl, by rw [hm.out]; exact ht, Below.refl _ _⟩
  · have e0 : (b == 0) = false := by simp [h0]
    have e1 : (b == -1) = false := by simp [h1]
    have hm : Hid (Tells (mulO a b) (wrap64 (a * b)) (wrap64 ((wrap64 (a * b)).tdiv b) == a)) := by
      show _ = _
      rw [mulO, if_neg h0, if_neg h1]
      by_cases hh : wrap64 ((wrap64 (a * b)).tdiv b) = a <;> simp [hh]
    clear h1
    go_enter Try.func151, Try.ntmps151
    go_wp2
    go_region
    all_goals go_wp2
    all_goals go_returns
    all_goals exact ⟨_, _, rfl, hm.out, (Below.refl _ _).drew⟩
/-- a number of 64 bits. -/
def In64 (x : Int) : Prop := -9223372036854775808 ≤ x ∧ x ≤ 9223372036854775807
theorem wrap_in {x : Int} (h : In64 x) : wrap64 x = x := by unfold In64 at h; unfold wrap64; omega
theorem mulO_in {a b : Int} (h : In64 (a * b)) (ha : In64 a) : mulO a b = some (a * b) := by
  unfold mulO
  by_cases h0 : b = 0
  · subst h0; simp
  rw [if_neg h0]
  by_cases h1 : b = -1
  · subst h1
    have hm : a ≠ -9223372036854775808 := by rintro rfl; unfold In64 at h; omega
    unfold In64 at ha
    rw [if_pos rfl, subO, wrap_in (x := 0 - a) (by unfold In64; omega)]
    have e : (decide (0 - a < 0) == decide (0 < a)) = true := by
      by_cases hp : 0 < a
      · first | (simp [hp]; done) | (simp [hp]; omega)
      · first | (simp [hp]; done) | (simp [hp]; omega)
    rw [if_pos e]
    congr 1; omega
  rw [if_neg h1, wrap_in h, Int.mul_tdiv_cancel _ h0, wrap_in ha, if_pos rfl]
theorem mulO_some {a b x : Int} (ha : In64 a) (hb : In64 b) (h : mulO a b = some x) : x = a * b ∧ In64 x := by
  unfold mulO at h
  by_cases h0 : b = 0
  · subst h0; simp at h; subst h; simp [In64]
  rw [if_neg h0] at h
  by_cases h1 : b = -1
  · subst h1
    rw [if_pos rfl, subO] at h
    split at h
    · rename_i e
      have hx := Option.some.inj h
      unfold In64 at ha
      have hm : a ≠ -9223372036854775808 := by rintro rfl; revert e; decide +kernel
      rw [wrap_in (x := 0 - a) (by unfold In64; omega)] at hx
      unfold In64
      omega
    · cases h
  rw [if_neg h1] at h
  split at h
  · rename_i e
    have hx := (Option.some.inj h).symm
    have hp : In64 x := by subst hx; unfold In64 wrap64; omega
    rw [← hx] at e
    have hq := Int.mul_tdiv_add_tmod x b
    have hr : (x.tmod b).natAbs < b.natAbs := by rw [Int.natAbs_tmod]; exact Nat.mod_lt _ (by omega)
    have hd2 : In64 (x.tdiv b) := by
      by_cases h2 : b = 1
      · subst h2; rw [Int.tdiv_one]; exact hp
      · have hd : (x.tdiv b).natAbs ≤ x.natAbs / 2 := by
          rw [Int.natAbs_tdiv]
          exact Nat.div_le_div_left (show 2 ≤ b.natAbs by omega) (by decide)
        unfold In64 at *; omega
    rw [wrap_in hd2] at e
    rw [e] at hq
    have hm : b * a = a * b := Int.mul_comm _ _
    rw [hm] at hq
    refine ⟨?_, hp⟩
    have hk : ∃ k : Int, x = a * b + 18446744073709551616 * k := by
      rw [hx]; unfold wrap64
      exact ⟨-((a * b + 9223372036854775808) / 18446744073709551616), by omega⟩
    obtain ⟨k, hk⟩ := hk
    generalize a * b = m at *
    unfold In64 at *
    omega
  · cases h
end Go.Proofs.Ytnbcmkbkiebbdaa
