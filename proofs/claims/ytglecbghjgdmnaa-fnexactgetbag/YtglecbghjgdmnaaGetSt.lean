/- Own text. What the statement on GetBag holds together: the boxes of the two answers and their rows; and how it stays so behind calls and marks. -/
import Derived.Test.YtglecbghjgdmnaaGetBS
import Derived.Test.YtglecbghjgdmnaaMarkB
import Derived.Handy
namespace Go.Proofs.Ytglecbghjgdmnaa
open Go.RowKit Go.Deep
set_option linter.unusedVariables false
structure GS (w wi : World) (A B : Nat) (W : Int) (s g : Value) (R Y : List C2) (F3 F5 : List Nat) : Prop where
  bel : Below w.heap.size w wi
  a0 : wi.cell? ⟨A, 0, none⟩ = some (.int .i64 W)
  a1 : wi.cell? ⟨A, 1, none⟩ = some s
  g0 : wi.cell? ⟨B, 0, none⟩ = some (.int .i64 W)
  g1 : wi.cell? ⟨B, 1, none⟩ = some g
  sp : RowsF wi s R F3
  gg : RowsF wi g Y F5
  o5 : Own wi w.heap.size F5
  lA : w.heap.size ≤ A
  lB : A < B
  lZ : B < wi.heap.size
  d5 : A ∉ F5 ∧ B ∉ F5
  d35 : ∀ b ∈ F3, b ∉ F5
section
variable {w wi wj : World} {A B : Nat} {W : Int} {s g : Value} {R Y : List C2} {F3 F5 : List Nat}
theorem GS.below (h : GS w wi A B W s g R Y F3 F5) (hb : Below wi.heap.size wi wj) : GS w wj A B W s g R Y F3 F5 := by
  have lA := h.lA
  have lB := h.lB
  have lZ := h.lZ
  have c : ∀ b o, b < wi.heap.size → wj.cell? ⟨b, o, none⟩ = wi.cell? ⟨b, o, none⟩ := (bcell hb).1
  exact ⟨h.bel.trans (hb.mono (by omega)), (c _ _ (by omega)).trans h.a0, (c _ _ (by omega)).trans h.a1, (c _ _ (by omega)).trans h.g0, (c _ _ (by omega)).trans h.g1, h.sp.below hb, h.gg.below hb, h.o5.below h.gg.lt hb, lA, lB, Nat.lt_of_lt_of_le lZ hb.size, h.d5, h.d35⟩
theorem GS.markG (h : GS w wi A B W s g R Y F3 F5) {Y' : List C2} (hc : Chg F5 wi wj) (hy : RowsF wj g Y' F5) : GS w wj A B W s g R Y' F3 F5 := by
  have lA := h.lA
  have lB := h.lB
  have lZ := h.lZ
  have c : ∀ b o, b < wi.heap.size → b ∉ F5 → wj.cell? ⟨b, o, none⟩ = wi.cell? ⟨b, o, none⟩ := fun b o hb hF => cell_blk (hc.block b hb hF)
  exact ⟨h.bel.trans (hc.below h.o5.2.1 (by omega)), (c _ _ (by omega) h.d5.1).trans h.a0, (c _ _ (by omega) h.d5.1).trans h.a1, (c _ _ (by omega) h.d5.2).trans h.g0, (c _ _ (by omega) h.d5.2).trans h.g1, h.sp.chg hc h.d35, hy, ⟨h.o5.1, h.o5.2.1, hc.free h.o5.2.2⟩, lA, lB, Nat.lt_of_lt_of_le lZ hc.size, h.d5, h.d35⟩
end
theorem okW_size {x : V3} (h : okW x = true) : x.s.size ≤ 100 := by
  have nil0 : x.s.toList = [] → x.s.size ≤ 100 := by
    intro e
    rw [ByteArray.toList_eq] at e
    have : x.s.data.toList.length = 0 := by rw [e]; rfl
    have : x.s.size = 0 := by simpa using this
    omega
  unfold okW okB at h
  split at h
  · simp at h; exact nil0 h.2
  split at h
  · simp at h; exact nil0 h
  split at h
  · simp at h; exact nil0 h.2
  split at h
  · simp at h; exact h.2
  · cases h
theorem wts_ok : ∀ {vs : List V3}, (∀ x ∈ vs, okW x = true) → wts vs ≤ 100 * vs.length
  | [], _ => Nat.le_refl _
  | x :: vs, h => by
    have h1 := okW_size (h x (by simp))
    have h2 := wts_ok (vs := vs) fun y hy => h y (by simp [hy])
    unfold wts at h2 ⊢
    simp only [List.map_cons, List.sum_cons, List.length_cons]
    omega
theorem wtcs_ok : ∀ {cs : List C2}, (∀ x ∈ cs, wt x.r ≤ 1212) → wtcs cs ≤ 1212 * cs.length
  | [], _ => Nat.le_refl _
  | x :: cs, h => by
    have h1 := h x (by simp)
    have h2 := wtcs_ok (cs := cs) fun y hy => h y (by simp [hy])
    unfold wtcs at h2 ⊢
    simp only [List.map_cons, List.sum_cons, List.length_cons]
    omega
theorem wtb_ok {W : Int} {cs : List C2} (h : okBag W cs = true) : wtb cs ≤ 1048576 := by
  obtain ⟨_, _, hl, hr⟩ := okBag_facts h
  have h3 : okCs W none cs = true := by simp only [okBag, Bool.and_eq_true] at h; exact h.2
  have : wtcs cs ≤ 1212 * cs.length := wtcs_ok fun x hx => by
    have ho := okCs_mem h3 x hx
    simp only [okRow, Bool.and_eq_true] at ho
    have h4 := wts_ok (vs := x.r) (List.all_eq_true.1 ho.2)
    have h5 := hr x hx
    unfold wt
    omega
  unfold wtb
  omega
theorem aC_small (s : ByteArray) : wtb (aC s) ≤ 1048576 := by
  unfold aC ansB
  split
  · exact Nat.zero_le _
  · rename_i cs h
    split at h
    · cases h
    · unfold resI at h
      split at h
      · cases h
      · rename_i cs' _
        split at h
        · rename_i ok
          cases h
          exact wtb_ok ok
        · cases h
end Go.Proofs.Ytglecbghjgdmnaa
