/- Own text. The columns of an expression: ascending, each once; what sorting and compacting make of a list. -/
import Derived.Test.YtpkebpbflfhbnaaNodK
import Derived.Lib.SlicesCompact
import Derived.Handy
namespace Go.Proofs.Ytpkebpbflfhbnaa
open Go.RowKit Go.Deep
set_option linter.unusedVariables false
/-- an ascending list with one more, where it is not there. -/
def addL : List Int → Int → List Int
  | [], x => [x]
  | y :: ys, x => if y < x then y :: addL ys x else if y = x then y :: ys else x :: y :: ys
theorem addL_same : ∀ {ns : List Int} {x : Int} {k : Nat}, (∀ i n, i < k → ns[i]? = some n → n < x) → ns[k]? = some x → addL ns x = ns
  | [], x, k, _, h => by simp at h
  | y :: ys, x, 0, h0, h => by
    simp at h
    subst h
    rw [addL, if_neg (by omega), if_pos rfl]
  | y :: ys, x, k + 1, h0, h => by
    have h1 := h0 0 y (by omega) rfl
    rw [addL, if_pos h1, addL_same (k := k) (fun i n hi hn => h0 (i + 1) n (by omega) (by simpa using hn)) (by simpa using h)]
theorem addL_new : ∀ {ns : List Int} {x : Int} {k : Nat}, k ≤ ns.length → (∀ i n, i < k → ns[i]? = some n → n < x) → (∀ n, ns[k]? = some n → x < n) → addL ns x = ns.take k ++ [x] ++ ns.drop k
  | [], x, k, hk, _, _ => by simp [addL]
  | y :: ys, x, 0, hk, h0, h => by
    have h1 := h y rfl
    rw [addL, if_neg (by omega), if_neg (by omega)]
    simp
  | y :: ys, x, k + 1, hk, h0, h => by
    have h1 := h0 0 y (by omega) rfl
    rw [addL, if_pos h1, addL_new (k := k) (by simpa using hk) (fun i n hi hn => h0 (i + 1) n (by omega) (by simpa using hn)) (fun n hn => h n (by simpa using hn))]
    simp
theorem mem_addL : ∀ {ns : List Int} {x y : Int}, y ∈ addL ns x ↔ y = x ∨ y ∈ ns
  | [], x, y => by simp [addL]
  | z :: zs, x, y => by
    rw [addL]
    split
    · rw [List.mem_cons, mem_addL, List.mem_cons]
      constructor
      · rintro (h | h | h)
        · exact .inr (.inl h)
        · exact .inl h
        · exact .inr (.inr h)
      · rintro (h | h | h)
        · exact .inr (.inl h)
        · exact .inl h
        · exact .inr (.inr h)
    · split
      · rename_i h
        subst h
        simp
      · simp
theorem asc_addL : ∀ {ns : List Int} {x : Int}, ns.Pairwise (· < ·) → (addL ns x).Pairwise (· < ·)
  | [], x, _ => by simp [addL]
  | z :: zs, x, h => by
    obtain ⟨h1, h2⟩ := List.pairwise_cons.1 h
    rw [addL]
    split
    · rename_i hz
      refine List.pairwise_cons.2 ⟨fun y hy => ?_, asc_addL h2⟩
      rcases mem_addL.1 hy with rfl | hy
      · exact hz
      · exact h1 y hy
    · split
      · exact h
      · rename_i hz hn
        refine List.pairwise_cons.2 ⟨fun y hy => ?_, h⟩
        rcases List.mem_cons.1 hy with rfl | hy
        · omega
        · have := h1 y hy; omega
theorem addL_len (ns : List Int) (x : Int) : (addL ns x).length ≤ ns.length + 1 := by
  induction ns with
  | nil => simp [addL]
  | cons y ys ih =>
    rw [addL]
    split
    · simp; exact ih
    · split <;> simp
/-- the columns of e. -/
def colsL : Nat → E7 → List Int
  | 0, _ => []
  | d + 1, e => e.ks.foldl (fun acc k => (colsL d k).foldl addL acc) (if e.k = 0 then [e.n] else [])
theorem foldl_addL_mem : ∀ (l : List Int) (acc : List Int) (x : Int), x ∈ l.foldl addL acc ↔ x ∈ acc ∨ x ∈ l
  | [], acc, x => by simp
  | y :: ys, acc, x => by
    rw [List.foldl_cons, foldl_addL_mem ys (addL acc y) x, mem_addL, List.mem_cons]
    constructor
    · rintro ((h | h) | h)
      · exact .inr (.inl h)
      · exact .inl h
      · exact .inr (.inr h)
    · rintro (h | h | h)
      · exact .inl (.inr h)
      · exact .inl (.inl h)
      · exact .inr h
theorem foldl_addL_asc : ∀ (l : List Int) {acc : List Int}, acc.Pairwise (· < ·) → (l.foldl addL acc).Pairwise (· < ·)
  | [], acc, h => h
  | y :: ys, acc, h => foldl_addL_asc ys (asc_addL h)
theorem foldl_cols_mem (f : E7 → List Int) : ∀ (ks : List E7) (acc : List Int) (x : Int), x ∈ ks.foldl (fun acc k => (f k).foldl addL acc) acc ↔ x ∈ acc ∨ ∃ k ∈ ks, x ∈ f k
  | [], acc, x => by simp
  | k :: ks, acc, x => by
    rw [List.foldl_cons, foldl_cols_mem f ks _ x, foldl_addL_mem]
    constructor
    · rintro ((h | h) | ⟨q, hq, h⟩)
      · exact .inl h
      · exact .inr ⟨k, List.mem_cons_self, h⟩
      · exact .inr ⟨q, List.mem_cons_of_mem _ hq, h⟩
    · rintro (h | ⟨q, hq, h⟩)
      · exact .inl (.inl h)
      · rcases List.mem_cons.1 hq with rfl | hq
        · exact .inl (.inr h)
        · exact .inr ⟨q, hq, h⟩
theorem foldl_cols_asc (f : E7 → List Int) : ∀ (ks : List E7) {acc : List Int}, acc.Pairwise (· < ·) → (ks.foldl (fun acc k => (f k).foldl addL acc) acc).Pairwise (· < ·)
  | [], acc, h => h
  | k :: ks, acc, h => foldl_cols_asc f ks (foldl_addL_asc (f k) h)
theorem mem_colsL {d : Nat} {e : E7} {x : Int} : x ∈ colsL (d + 1) e ↔ (e.k = 0 ∧ x = e.n) ∨ ∃ k ∈ e.ks, x ∈ colsL d k := by
  rw [colsL, foldl_cols_mem]
  constructor
  · rintro (h | h)
    · left
      split at h
      · rename_i h0; exact ⟨h0, by simpa using h⟩
      · cases h
    · exact .inr h
  · rintro (⟨h0, rfl⟩ | h)
    · left; rw [if_pos h0]; simp
    · exact .inr h
theorem asc_colsL : ∀ (d : Nat) (e : E7), (colsL d e).Pairwise (· < ·)
  | 0, e => by simp [colsL]
  | d + 1, e => by
    rw [colsL]
    apply foldl_cols_asc
    split <;> simp
theorem asc_unique : ∀ {l m : List Int}, l.Pairwise (· < ·) → m.Pairwise (· < ·) → (∀ x, x ∈ l ↔ x ∈ m) → l = m
  | [], [], _, _, _ => rfl
  | [], b :: bs, _, _, h => by have := (h b).2 List.mem_cons_self; cases this
  | a :: r, [], _, _, h => by have := (h a).1 List.mem_cons_self; cases this
  | a :: r, b :: bs, hl, hm, h => by
    obtain ⟨ha, hl2⟩ := List.pairwise_cons.1 hl
    obtain ⟨hb, hm2⟩ := List.pairwise_cons.1 hm
    have e1 : a = b := by
      rcases List.mem_cons.1 ((h a).1 List.mem_cons_self) with h1 | h1
      · exact h1
      · rcases List.mem_cons.1 ((h b).2 List.mem_cons_self) with h2 | h2
        · exact h2.symm
        · have := hb a h1; have := ha b h2; omega
    subst e1
    refine congrArg (List.cons a) (asc_unique hl2 hm2 fun x => ?_)
    constructor
    · intro hx
      rcases List.mem_cons.1 ((h x).1 (List.mem_cons_of_mem _ hx)) with rfl | h1
      · have := ha x hx; omega
      · exact h1
    · intro hx
      rcases List.mem_cons.1 ((h x).2 (List.mem_cons_of_mem _ hx)) with rfl | h1
      · have := hb x hx; omega
      · exact h1
theorem compact_asc (zs : List Int) (hs : ∀ i j, i ≤ j → j < zs.length → zs.toArray[i]! ≤ zs.toArray[j]!) : ∀ m, m ≤ zs.length →
    (Lib.compactUpTo zs.toArray m).Pairwise (· < ·) ∧ ∀ x, x ∈ Lib.compactUpTo zs.toArray m ↔ ∃ j, j < m ∧ zs.toArray[j]! = x
  | 0, _ => by simp [Lib.compactUpTo]
  | m + 1, hm => by
    obtain ⟨h1, h2⟩ := compact_asc zs hs m (by omega)
    rw [Lib.compactUpTo_succ]
    by_cases hk : Lib.keeps zs.toArray m = true
    · rw [if_pos hk]
      refine ⟨List.pairwise_append.2 ⟨h1, by simp, fun a ha b hb => ?_⟩, fun x => ?_⟩
      · rcases List.mem_singleton.1 hb with rfl
        obtain ⟨j, hj, rfl⟩ := (h2 a).1 ha
        have hk' := hk
        simp only [Lib.keeps, decide_eq_true_eq] at hk'
        have l1 := hs j (m - 1) (by omega) (by omega)
        have l2 := hs (m - 1) m (by omega) (by omega)
        rcases hk' with h0 | hne
        · omega
        · omega
      · rw [List.mem_append, h2, List.mem_singleton]
        constructor
        · rintro (⟨j, hj, h⟩ | h)
          · exact ⟨j, by omega, h⟩
          · exact ⟨m, by omega, h.symm⟩
        · rintro ⟨j, hj, h⟩
          by_cases hjm : j = m
          · subst hjm; exact .inr h.symm
          · exact .inl ⟨j, by omega, h⟩
    · rw [if_neg hk, List.append_nil]
      refine ⟨h1, fun x => ?_⟩
      rw [h2]
      have hk' : ¬ (m = 0 ∨ zs.toArray[m]! ≠ zs.toArray[m - 1]!) := by simpa [Lib.keeps] using hk
      have hm0 : m ≠ 0 := fun h => hk' (.inl h)
      have hmm : zs.toArray[m]! = zs.toArray[m - 1]! := Classical.byContradiction fun h => hk' (.inr h)
      constructor
      · rintro ⟨j, hj, h⟩; exact ⟨j, by omega, h⟩
      · rintro ⟨j, hj, h⟩
        by_cases hjm : j = m
        · subst hjm; exact ⟨j - 1, by omega, by rw [← hmm]; exact h⟩
        · exact ⟨j, by omega, h⟩
/-- sorted and compacted, a list has its members ascending. -/
theorem sortC (zs ls : List Int) (hl : ls.Pairwise (· < ·)) (h : ∀ x, x ∈ ls ↔ x ∈ zs) : Lib.compact (zs.mergeSort fun x y => decide (x ≤ y)) = ls := by
  have hp : (zs.mergeSort fun x y => decide (x ≤ y)).Pairwise (fun x y => decide (x ≤ y) = true) := List.pairwise_mergeSort (fun a b c h1 h2 => by simp at *; omega) (fun a b => by simp; omega) zs
  have hm : ∀ x, x ∈ (zs.mergeSort fun x y => decide (x ≤ y)) ↔ x ∈ zs := fun x => List.mem_mergeSort
  generalize (zs.mergeSort fun x y => decide (x ≤ y)) = ms at *
  have hs : ∀ i j, i ≤ j → j < ms.length → ms.toArray[i]! ≤ ms.toArray[j]! := by
    intro i j hij hj
    have hi : i < ms.length := by omega
    rw [getElem!_pos ms.toArray i (by simpa using hi), getElem!_pos ms.toArray j (by simpa using hj)]
    by_cases e : i = j
    · subst e; exact Int.le_refl _
    · have := List.pairwise_iff_getElem.1 hp i j hi hj (by omega)
      simpa using this
  obtain ⟨h1, h2⟩ := compact_asc ms hs ms.length (Nat.le_refl _)
  refine asc_unique h1 hl fun x => ?_
  show x ∈ Lib.compactUpTo ms.toArray ms.length ↔ _
  rw [h2, h, ← hm x]
  constructor
  · rintro ⟨j, hj, rfl⟩
    rw [getElem!_pos ms.toArray j (by simpa using hj)]
    simp
  · intro hx
    obtain ⟨j, hj, rfl⟩ := List.mem_iff_getElem.1 hx
    exact ⟨j, hj, by rw [getElem!_pos ms.toArray j (by simpa using hj)]; simp⟩
/-- the numbers of the columns among nodes. -/
def colN (ns : List Nd) : List Int := (ns.filter fun x => x.e.k == 0).map fun x => x.e.n
theorem mem_colN {ns : List Nd} {x : Int} : x ∈ colN ns ↔ ∃ y ∈ ns, y.e.k = 0 ∧ y.e.n = x := by
  unfold colN
  rw [List.mem_map]
  constructor
  · rintro ⟨y, hy, rfl⟩
    rw [List.mem_filter] at hy
    exact ⟨y, hy.1, by simpa using hy.2, rfl⟩
  · rintro ⟨y, hy, h0, rfl⟩
    exact ⟨y, List.mem_filter.2 ⟨hy, by simpa using h0⟩, rfl⟩
/-- e', at most d' deep, has no columns but those of the list. -/
def ColIn (L : List Int) (e : E7) : Prop := ∃ d, DE d e.ks ∧ ∀ x, x ∈ colsL d e → x ∈ L
theorem colIn_kid {L : List Int} : ∀ e, ColIn L e → ∀ k ∈ e.ks, ColIn L k := by
  rintro e ⟨d, hd, h⟩ k hk
  cases d with
  | zero => exact hd.elim
  | succ d => exact ⟨d, hd k hk, fun x hx => h x (mem_colsL.2 (.inr ⟨k, hk, hx⟩))⟩
theorem NQ.cols {w wr : World} {D : Nat} {hang : Nat → Nat × Nat} {P : E7 → Prop} {ns : List Nd} (h : NQ w D hang P wr ns.length ns) : ∀ {d j : Nat} {y : Nd} {x : Int}, ns[j]? = some y → DE d y.e.ks → x ∈ colsL d y.e → x ∈ colN ns
  | 0, _, _, _, _, hd, _ => hd.elim
  | d + 1, j, y, x, hy, hd, hx => by
    rcases mem_colsL.1 hx with ⟨h0, rfl⟩ | ⟨k, hk, hxk⟩
    · exact mem_colN.2 ⟨y, List.mem_of_getElem? hy, h0, rfl⟩
    · have hj : j < ns.length := (List.getElem?_eq_some_iff.1 hy).1
      obtain ⟨_, _, u, _, _, hdn⟩ := h.at' j y hy
      obtain ⟨a, c, _, _, _, hkk⟩ := hdn hj
      obtain ⟨b, _, _, _, _, hm⟩ := hkk (by intro h; rw [h] at hk; cases hk)
      obtain ⟨t, ht, rfl⟩ := List.mem_iff_getElem.1 hk
      obtain ⟨m, hm⟩ := hm t y.e.ks[t] (by simp)
      exact NQ.cols h hm (hd _ hk) hxk
end Go.Proofs.Ytpkebpbflfhbnaa
