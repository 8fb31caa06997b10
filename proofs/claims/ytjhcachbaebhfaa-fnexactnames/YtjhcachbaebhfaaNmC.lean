/- Own text. What sorting and compacting make of a list of texts. -/
import Derived.Test.YtjhcachbaebhfaaNmP
import Derived.Lib.SlicesCompact
import Derived.Sort.Walk0
import Derived.Handy
namespace Go.Proofs.Ytjhcachbaebhfaa
open Go.RowKit Go.Deep
set_option linter.unusedVariables false
theorem pair_unique {α : Type} {r : α → α → Prop} (irr : ∀ x, ¬ r x x) (tr : ∀ {x y z}, r x y → r y z → r x z) : ∀ {l m : List α}, l.Pairwise r → m.Pairwise r → (∀ x, x ∈ l ↔ x ∈ m) → l = m
  | [], [], _, _, _ => rfl
  | [], b :: bs, _, _, h => by have := (h b).2 List.mem_cons_self; cases this
  | a :: l, [], _, _, h => by have := (h a).1 List.mem_cons_self; cases this
  | a :: l, b :: bs, hl, hm, h => by
    obtain ⟨ha, hl2⟩ := List.pairwise_cons.1 hl
    obtain ⟨hb, hm2⟩ := List.pairwise_cons.1 hm
    have e1 : a = b := by
      rcases List.mem_cons.1 ((h a).1 List.mem_cons_self) with h1 | h1
      · exact h1
      · rcases List.mem_cons.1 ((h b).2 List.mem_cons_self) with h2 | h2
        · exact h2.symm
        · exact absurd (tr (hb a h1) (ha b h2)) (irr _)
    subst e1
    refine congrArg (List.cons a) (pair_unique irr tr hl2 hm2 fun x => ?_)
    constructor
    · intro hx
      rcases List.mem_cons.1 ((h x).1 (List.mem_cons_of_mem _ hx)) with rfl | h1
      · exact absurd (ha x hx) (irr _)
      · exact h1
    · intro hx
      rcases List.mem_cons.1 ((h x).2 (List.mem_cons_of_mem _ hx)) with rfl | h1
      · exact absurd (hb x hx) (irr _)
      · exact h1
theorem bl_le {x y z : List UInt8} (h1 : Op.bytesLess y x = false) (h2 : Op.bytesLess z y = false) : Op.bytesLess z x = false := by
  by_cases e : z = y
  · subst e; exact h1
  · cases h : Op.bytesLess z x with
    | false => rfl
    | true => rw [bl_trans (bl_total h2 e) h] at h1; cases h1
theorem bl_leq (x y : List UInt8) : decide (x ≤ y) = !Op.bytesLess y x := by
  rw [Go.Proofs.bytesLess_eq]
  by_cases h : y < x
  · have : ¬ x ≤ y := List.not_le.2 h
    simp [h, this]
  · have : x ≤ y := List.not_lt.1 h
    simp [h, this]
theorem compact_ascS (zs : List (List UInt8)) (hs : ∀ i j, i ≤ j → j < zs.length → Op.bytesLess zs.toArray[j]! zs.toArray[i]! = false) : ∀ m, m ≤ zs.length →
    (Lib.compactUpTo zs.toArray m).Pairwise (fun x y => Op.bytesLess x y = true) ∧ ∀ x, x ∈ Lib.compactUpTo zs.toArray m ↔ ∃ j, j < m ∧ zs.toArray[j]! = x
  | 0, _ => by simp [Lib.compactUpTo]
  | m + 1, hm => by
    obtain ⟨h1, h2⟩ := compact_ascS zs hs m (by omega)
    rw [Lib.compactUpTo_succ]
    by_cases hk : Lib.keeps zs.toArray m = true
    · rw [if_pos hk]
      refine ⟨List.pairwise_append.2 ⟨h1, by simp, fun a ha b hb => ?_⟩, fun x => ?_⟩
      · rcases List.mem_singleton.1 hb with rfl
        obtain ⟨j, hj, rfl⟩ := (h2 a).1 ha
        have hk' := hk
        simp only [Lib.keeps, decide_eq_true_eq] at hk'
        have l1 := hs j (m - 1) (by omega) (by omega)
        have l2 := hs (m - 1) m (by omega) (by omega)
        rcases hk' with h0 | hne
        · omega
        · have l3 := bl_total l2 hne
          by_cases e : zs.toArray[m - 1]! = zs.toArray[j]!
          · rw [← e]; exact l3
          · exact bl_trans (bl_total l1 e) l3
      · rw [List.mem_append, h2, List.mem_singleton]
        constructor
        · rintro (⟨j, hj, h⟩ | h)
          · exact ⟨j, by omega, h⟩
          · exact ⟨m, by omega, h.symm⟩
        · rintro ⟨j, hj, h⟩
          by_cases hjm : j = m
          · subst hjm; exact .inr h.symm
          · exact .inl ⟨j, by omega, h⟩
    · rw [if_neg hk, List.append_nil]
      refine ⟨h1, fun x => ?_⟩
      rw [h2]
      have hk' : ¬ (m = 0 ∨ zs.toArray[m]! ≠ zs.toArray[m - 1]!) := by simpa [Lib.keeps] using hk
      have hm0 : m ≠ 0 := fun h => hk' (.inl h)
      have hmm : zs.toArray[m]! = zs.toArray[m - 1]! := Classical.byContradiction fun h => hk' (.inr h)
      constructor
      · rintro ⟨j, hj, h⟩; exact ⟨j, by omega, h⟩
      · rintro ⟨j, hj, h⟩
        by_cases hjm : j = m
        · subst hjm; exact ⟨j - 1, by omega, by rw [← hmm]; exact h⟩
        · exact ⟨j, by omega, h⟩
/-- sorted and compacted, a list of texts has its members ascending. -/
theorem sortS (zs ls : List ByteArray) (hl : ls.Pairwise lessS) (h : ∀ x, x ∈ ls ↔ x ∈ zs) : Lib.compact ((zs.map ByteArray.toList).mergeSort fun x y => decide (x ≤ y)) = ls.map ByteArray.toList := by
  have hf : (fun x y : List UInt8 => decide (x ≤ y)) = fun x y => !Op.bytesLess y x := by funext x y; exact bl_leq x y
  rw [hf]
  have hp : ((zs.map ByteArray.toList).mergeSort fun x y => !Op.bytesLess y x).Pairwise (fun x y => (!Op.bytesLess y x) = true) := List.pairwise_mergeSort (fun a b c h1 h2 => by
      simp only [Bool.not_eq_true'] at *
      exact bl_le h1 h2) (fun a b => by
      simp only [Bool.or_eq_true, Bool.not_eq_true']
      cases h1 : Op.bytesLess b a with
      | false => exact .inl rfl
      | true =>
        right
        cases h2 : Op.bytesLess a b with
        | false => rfl
        | true => have := bl_trans h1 h2; rw [bl_irrefl] at this; cases this) _
  have hm : ∀ x, x ∈ ((zs.map ByteArray.toList).mergeSort fun x y => !Op.bytesLess y x) ↔ x ∈ zs.map ByteArray.toList := fun x => List.mem_mergeSort
  generalize ((zs.map ByteArray.toList).mergeSort fun x y => !Op.bytesLess y x) = ms at *
  have hs : ∀ i j, i ≤ j → j < ms.length → Op.bytesLess ms.toArray[j]! ms.toArray[i]! = false := by
    intro i j hij hj
    have hi : i < ms.length := by omega
    rw [getElem!_pos ms.toArray i (by simpa using hi), getElem!_pos ms.toArray j (by simpa using hj)]
    by_cases e : i = j
    · subst e; exact bl_irrefl _
    · have := List.pairwise_iff_getElem.1 hp i j hi hj (by omega)
      simpa using this
  obtain ⟨h1, h2⟩ := compact_ascS ms hs ms.length (Nat.le_refl _)
  refine pair_unique (r := fun x y => Op.bytesLess x y = true) (fun x h => by rw [bl_irrefl] at h; cases h) (fun h1 h2 => bl_trans h1 h2) h1 (List.pairwise_map.2 hl) fun x => ?_
  show x ∈ Lib.compactUpTo ms.toArray ms.length ↔ _
  have h3 : x ∈ ls.map ByteArray.toList ↔ x ∈ zs.map ByteArray.toList := by
    rw [List.mem_map, List.mem_map]
    constructor
    · rintro ⟨y, hy, e⟩; exact ⟨y, (h y).1 hy, e⟩
    · rintro ⟨y, hy, e⟩; exact ⟨y, (h y).2 hy, e⟩
  rw [h2, h3, ← hm x]
  constructor
  · rintro ⟨j, hj, rfl⟩
    rw [getElem!_pos ms.toArray j (by simpa using hj)]
    simp
  · intro hx
    obtain ⟨j, hj, rfl⟩ := List.mem_iff_getElem.1 hx
    exact ⟨j, hj, by rw [getElem!_pos ms.toArray j (by simpa using hj)]; simp⟩
end Go.Proofs.Ytjhcachbaebhfaa
