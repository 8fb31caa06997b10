/- Own text. How the model cuts a row's text: a value's end, the value of a word. -/
import Derived.Test.YtbobjfokampjbaaDoorRrO
namespace Go.Proofs.YtbobjfokampjbaaDoor
open Go.RowKit
set_option linter.unusedVariables false
/-- what stands behind the first value. -/
def restV (l : List UInt8) : List UInt8 := match l with
  | [] => []
  | c :: b => if c = 39 then (match qtx b with
      | some p => p.2
      | none => []) else frC (c :: b)
/-- a word as a value. -/
def valV (l : List UInt8) : Option V3 := match l with
  | [] => none
  | c :: b => if c = 39 then (match qtx b with
      | some p => if p.2 = [] ∧ p.1.length ≤ 100 then some ⟨3, 0, bs p.1⟩ else none
      | none => none) else plainW (c :: b)
theorem restV_len (l : List UInt8) : (restV l).length ≤ l.length := by
  unfold restV
  split
  · exact Nat.le_refl _
  · split
    · split
      · rename_i p hp
        have := (qtx_len (t := p.1) (r := p.2) hp).1
        simp; omega
      · simp
    · exact fr_len _
theorem valV_plain {l : List UInt8} (h : l.head? ≠ some 39) : valV l = plainW l := by
  cases l with
  | nil => exact plainW_nil.symm
  | cons c b => unfold valV; dsimp only; rw [if_neg (by simpa using h)]
/-- the word of the first value. -/
def wordV (l : List UInt8) : List UInt8 := l.take (l.length - (restV l).length)
theorem word_rest (l : List UInt8) : l.drop (l.length - (restV l).length) = restV l ∧ oneV l = (valV (wordV l)).map (fun v => (v, restV l)) := by
  unfold wordV
  cases l with
  | nil => exact ⟨rfl, rfl⟩
  | cons c b =>
    by_cases hc : c = 39
    · subst hc
      cases hq : qtx b with
      | none =>
        have hr : restV (39 :: b) = [] := by unfold restV; dsimp only; rw [if_pos rfl, hq]
        rw [hr]
        refine ⟨by simp, ?_⟩
        simp only [List.length_nil, Nat.sub_zero, List.take_length]
        unfold oneV valV
        simp only [if_pos, hq]
        rfl
      | some p =>
        obtain ⟨t, r⟩ := p
        obtain ⟨h1, h2, a, h3, h4⟩ := qtx_len hq
        have hr : restV (39 :: b) = r := by unfold restV; dsimp only; rw [if_pos rfl, hq]
        rw [hr]
        have hl : (39 :: b).length - r.length = (39 :: a).length := by rw [h3]; simp; omega
        rw [hl, show (39 :: b) = (39 :: a) ++ r by rw [h3]; rfl, List.drop_left, List.take_left]
        refine ⟨rfl, ?_⟩
        have e1 : oneV ((39 :: a) ++ r) = if t.length ≤ 100 then some (⟨3, 0, bs t⟩, r) else none := by
          rw [List.cons_append, ← h3]
          unfold oneV
          simp only [if_pos, hq]
        have e2 : valV (39 :: a) = if t.length ≤ 100 then some ⟨3, 0, bs t⟩ else none := by
          unfold valV
          simp only [if_pos, h4, true_and]
        rw [e1, e2]
        split <;> rfl
    · have hr : restV (c :: b) = frC (c :: b) := by unfold restV; dsimp only; rw [if_neg hc]
      rw [hr]
      have hu := up_fr (c :: b)
      have hl : (c :: b).length - (frC (c :: b)).length = (upC (c :: b)).length := by
        have := congrArg List.length hu
        rw [List.length_append] at this
        omega
      rw [hl]
      have key : ∀ (l A B : List UInt8), A ++ B = l → l.drop A.length = B ∧ l.take A.length = A := by rintro l A B rfl; exact ⟨List.drop_left, List.take_left⟩
      obtain ⟨hd, ht⟩ := key _ _ _ hu
      refine ⟨hd, ?_⟩
      rw [ht]
      have hh : (upC (c :: b)).head? ≠ some 39 := by
        unfold upC
        rw [List.takeWhile_cons]
        split
        · simpa using hc
        · simp
      rw [valV_plain hh]
      unfold oneV
      simp only [hc, if_neg, not_false_eq_true]
end Go.Proofs.YtbobjfokampjbaaDoor
