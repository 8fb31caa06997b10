/- Own text. A text in quotes: each quote in it twice; what ReplaceAll makes of it. -/
import Derived.Test.YtiaafgmjigbjlaaGreatDoorKit
import Derived.Lib.Replace
import Derived.Lib.CountLaws
import Derived.Lib.IndexBytes
namespace Go.Proofs.YtiaafgmjigbjlaaGreatDoor
open Go.RowKit
set_option linter.unusedVariables false
/-- each quote twice. -/
def quo (s : List UInt8) : List UInt8 := s.flatMap fun c => if c = 39 then [39, 39] else [c]
theorem quo_cons (c : UInt8) (s : List UInt8) : quo (c :: s) = (if c = 39 then [39, 39] else [c]) ++ quo s := by unfold quo; rw [List.flatMap_cons]
theorem quo_len (s : List UInt8) : (quo s).length ≤ 2 * s.length := by
  induction s with
  | nil => simp [quo]
  | cons c s ih =>
    rw [quo_cons, List.length_append, List.length_cons]
    split <;> simp <;> omega
theorem index_q (b : UInt8) (l : List UInt8) : Lib.index (b :: l) [39] = if b = 39 then 0 else if Lib.index l [39] = -1 then -1 else Lib.index l [39] + 1 := by
  rw [Lib.index]
  by_cases h : b = 39
  · subst h
    simp [List.isPrefixOf]
  · have h2 : ([39] : List UInt8).isPrefixOf (b :: l) = false := by simp [List.isPrefixOf]; intro e; exact h e.symm
    rw [h2, if_neg (by simp), if_neg h]
    by_cases h3 : Lib.index l [39] = -1
    · rw [if_pos (by simpa using h3), if_pos h3]
    · rw [if_neg (by simpa using h3), if_neg h3]
theorem count_q (b : UInt8) (l : List UInt8) : Lib.count (b :: l) [39] = (if b = 39 then 1 else 0) + Lib.count l [39] := by
  have hi := index_q b l
  by_cases h : b = 39
  · rw [if_pos h] at hi
    rw [Lib.count_hit (i := 0) (by simp) hi, if_pos h]
    simp
  · rw [if_neg h] at hi
    rw [if_neg h]
    by_cases h3 : Lib.index l [39] = -1
    · rw [if_pos h3] at hi
      rw [Lib.count_miss hi, Lib.count_miss h3]
    · rw [if_neg h3] at hi
      have hg := Lib.index_ge l [39]
      obtain ⟨j, hj⟩ : ∃ j : Nat, Lib.index l [39] = j := ⟨(Lib.index l [39]).toNat, by omega⟩
      rw [hj] at hi
      rw [Lib.count_hit (i := j + 1) (by simp) (by rw [hi]; rfl), Lib.count_hit (i := j) (by simp) hj]
      simp
theorem replaceK_q : ∀ (s : List UInt8) (k : Nat), Lib.count s [39] ≤ k → Lib.replaceK [39] [39, 39] k s = quo s
  | [], k, _ => by
    cases k with
    | zero => rfl
    | succ k => rw [Lib.replaceK]; rfl
  | b :: l, k, hk => by
    rw [count_q] at hk
    have hi := index_q b l
    by_cases h : b = 39
    · rw [if_pos h] at hk hi
      obtain ⟨k', rfl⟩ : ∃ k', k = k' + 1 := ⟨k - 1, by omega⟩
      rw [Lib.replaceK_hit _ _ _ _ 0 hi, quo_cons, if_pos h]
      have := replaceK_q l k' (by omega)
      simpa using this
    · rw [if_neg h] at hk hi
      rw [quo_cons, if_neg h]
      by_cases h3 : Lib.index l [39] = -1
      · rw [if_pos h3] at hi
        have h4 : ∀ (k : Nat) (t : List UInt8), Lib.index t [39] = -1 → Lib.replaceK [39] [39, 39] k t = t := by
          intro k t ht
          cases k with
          | zero => rfl
          | succ k => rw [Lib.replaceK, if_pos (by simpa using ht)]
        rw [h4 _ _ hi]
        have := replaceK_q l k (by omega)
        rw [h4 _ _ h3] at this
        rw [← this]
        rfl
      · rw [if_neg h3] at hi
        have hg := Lib.index_ge l [39]
        obtain ⟨j, hj⟩ : ∃ j : Nat, Lib.index l [39] = j := ⟨(Lib.index l [39]).toNat, by omega⟩
        rw [hj] at hi
        have hc := Lib.count_hit (s := l) (sub := [39]) (i := j) (by simp) hj
        obtain ⟨k', rfl⟩ : ∃ k', k = k' + 1 := ⟨k - 1, by omega⟩
        have := replaceK_q l (k' + 1) (by omega)
        rw [Lib.replaceK_hit _ _ _ _ j hj] at this
        rw [Lib.replaceK_hit _ _ _ _ (j + 1) (by rw [hi]; rfl), ← this]
        simp
theorem replaceAll_q (s : List UInt8) : Lib.replaceAll s [39] [39, 39] = quo s := by
  unfold Lib.replaceAll Lib.replace
  rw [if_neg (by decide)]
  exact replaceK_q s _ (by unfold Lib.replaceNum; rw [if_pos (.inl (by decide))]; exact Nat.le_refl _)
theorem count_le_q (s : List UInt8) : Lib.count s [39] ≤ s.length := by
  induction s with
  | nil => rw [Lib.count_miss (by rfl)]; simp
  | cons b l ih => rw [count_q, List.length_cons]; split <;> omega
end Go.Proofs.YtiaafgmjigbjlaaGreatDoor
