/- Own text. The contract of toBag: a new bag with the same rows, all of it in memory of the call's own. -/
import Derived.Test.YtiaafgmjigbjlaaGreatDoorBagC
import Derived.Handy
namespace Go.Proofs.YtiaafgmjigbjlaaGreatDoor
open Go.RowKit Go.Deep
set_option linter.unusedVariables false
theorem Tryz.infoCnt : (Tryz.prog.info? 39).map (fun i => (i.zero, i.size, i.bytes)) = some (some (.agg #[.slice none 0 0, .int .i64 0]), 2, 32) := by kernel_rfl
/-- counted rows of the call's own: block B0 has the rows' heads, g i is row i's own block; the first k are laid. -/
structure HalfB (w : World) (B0 : Nat) (cs : List C2) (g : Nat → Nat) (k : Nat) : Prop where
  own : ∃ f, w.rowIs B0 39 (cs.length * 2) f ∧ ∀ i x, i < k → cs[i]? = some x → f (i * 2) = .slice (some ⟨g i, 0, none⟩) x.r.length x.r.length ∧ f (i * 2 + 1) = .int .i64 x.n
  row : ∀ i x, i < k → cs[i]? = some x → w.rowIs (g i) 48 (x.r.length * 3) (cf x.r)
  above : ∀ i, i < k → B0 < g i
  up : ∀ i j, i < j → j < k → g i < g j
theorem HalfB.cells {w : World} {B : Nat} {cs : List C2} {g : Nat → Nat} {k : Nat} (h : HalfB w B cs g k) (hk : k < cs.length) :
    (∃ u, w.cell? ⟨B, k * 2, none⟩ = some u) ∧ (∃ u, w.cell? ⟨B, k * 2 + 1, none⟩ = some u) ∧ (∀ i, w.frozen? ⟨B, i, none⟩ = false) ∧ B < w.heap.size := by
  obtain ⟨f, h, _⟩ := h.own
  exact ⟨⟨_, h.cell (by omega)⟩, ⟨_, h.cell (by omega)⟩, fun i => h.frozen i, h.lt⟩
theorem HalfB.lt {w : World} {B : Nat} {cs : List C2} {g : Nat → Nat} {k : Nat} (h : HalfB w B cs g k) (hk : k ≤ cs.length) {i : Nat} (hi : i < k) : g i < w.heap.size := (h.row i cs[i] hi (by simp)).lt
theorem HalfB.below {w w' : World} {B : Nat} {cs : List C2} {g : Nat → Nat} {k : Nat} (h : HalfB w B cs g k) (hk : k ≤ cs.length) (hb : Below w.heap.size w w') : HalfB w' B cs g k := by
  obtain ⟨⟨f, hf, he⟩, h1, h2, h3⟩ := h
  exact ⟨⟨f, hf.of_block (hb.block _ hf.lt), he⟩, fun i x hi hx => (h1 i x hi hx).of_block (hb.block _ (h1 i x hi hx).lt), h2, h3⟩
theorem HalfB.keep {w w' : World} {B : Nat} {cs : List C2} {g : Nat → Nat} {k : Nat} (h : HalfB w B cs g k) (hk : k ≤ cs.length) (e : ∀ b, B ≤ b → w'.heap[b]? = w.heap[b]?) : HalfB w' B cs g k := by
  obtain ⟨⟨f, hf, he⟩, h1, h2, h3⟩ := h
  exact ⟨⟨f, hf.of_block (e _ (Nat.le_refl _)), he⟩, fun i x hi hx => (h1 i x hi hx).of_block (e _ (Nat.le_of_lt (h2 i hi))), h2, h3⟩
theorem HalfB.step {w : World} {B D : Nat} {cs : List C2} {g : Nat → Nat} {k : Nat} {x : C2} (h : HalfB w B cs g k) (hx : cs[k]? = some x) (hD : w.rowIs D 48 (x.r.length * 3) (cf x.r)) (hB : B < D) (hup : ∀ i, i < k → g i < D) :
    HalfB ((w.setCell ⟨B, k * 2, none⟩ (.slice (some ⟨D, 0, none⟩) x.r.length x.r.length)).setCell ⟨B, k * 2 + 1, none⟩ (.int .i64 x.n)) B cs (fun i => if i = k then D else g i) (k + 1) := by
  obtain ⟨⟨f, hf, he⟩, h1, h2, h3⟩ := h
  refine ⟨⟨_, (hf.set _ _).set _ _, fun i y hi hy => ?_⟩, fun i y hi hy => ?_, fun i hi => ?_, fun i j hij hj => ?_⟩
  · by_cases e : i = k
    · subst e
      obtain rfl : y = x := by rw [hx] at hy; exact (Option.some.inj hy).symm
      simp
    · have e1 : i * 2 ≠ k * 2 := by omega
      have e2 : i * 2 ≠ k * 2 + 1 := by omega
      have e3 : i * 2 + 1 ≠ k * 2 := by omega
      have e4 : i * 2 + 1 ≠ k * 2 + 1 := by omega
      simp only [if_neg e1, if_neg e2, if_neg e3, if_neg e4, if_neg e]
      exact he i y (by omega) hy
  · by_cases e : i = k
    · subst e
      obtain rfl : y = x := by rw [hx] at hy; exact (Option.some.inj hy).symm
      simp only [if_true]
      exact (hD.setOther (by show D ≠ B; omega) _).setOther (by show D ≠ B; omega) _
    · simp only [if_neg e]
      have := h2 i (by omega)
      exact ((h1 i y (by omega) hy).setOther (by show g i ≠ B; omega) _).setOther (by show g i ≠ B; omega) _
  · by_cases e : i = k
    · simp only [if_pos e]; exact hB
    · simp only [if_neg e]; exact h2 i (by omega)
  · by_cases e : j = k
    · have e' : i ≠ k := by omega
      simp only [if_pos e, if_neg e']; exact hup i (by omega)
    · have e' : i ≠ k := by omega
      simp only [if_neg e, if_neg e']; exact h3 i j hij (by omega)
theorem HalfB.rows {w : World} {B : Nat} {cs : List C2} {g : Nat → Nat} (h : HalfB w B cs g cs.length) (hl : ∀ x ∈ cs, x.r.length ≤ maxLen) (hm : cs.length ≤ maxLen) : RowsIs w (.slice (some ⟨B, 0, none⟩) cs.length cs.length) cs := by
  obtain ⟨f, hf, he⟩ := h.own
  refine ⟨_, _, rfl, Nat.le_refl _, hm, fun _ => ⟨B, 0, rfl, hf.lt, fun i x hx => ?_⟩⟩
  have hi : i < cs.length := (List.getElem?_eq_some_iff.1 hx).1
  obtain ⟨e0, e1⟩ := he i x hi hx
  refine ⟨_, by rw [Nat.zero_add, hf.cell (by omega), e0], rowIs_row (h.row i x hi hx) (Nat.le_refl _) (hl x (List.mem_of_getElem? hx)), by rw [Nat.zero_add, hf.cell (by omega), e1]⟩
theorem halfB_made (w : World) (z : Array Value) (cs : List C2) (g : Nat → Nat) : HalfB (w.alloc (.cells (madeCells z (cs.length * 2)) 39)) w.heap.size cs g 0 :=
  ⟨⟨fun i => (madeCells z (cs.length * 2))[i]?.getD undef, ⟨_, blk_alloc_new _ _, size_madeCells _ _, fun i hi => by
    have : i < (madeCells z (cs.length * 2)).size := by rw [size_madeCells]; exact hi
    simp [this]⟩, fun i x hi => by omega⟩, fun i x hi => by omega, fun i hi => by omega, fun i j _ hj => by omega⟩
end Go.Proofs.YtiaafgmjigbjlaaGreatDoor
