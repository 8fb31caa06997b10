/- Own text. toBag, with the blocks of what it makes. -/
import Derived.Test.YtobbfmcfibmicaaToB
import Derived.Test.YtobbfmcfibmicaaOwnF
import Derived.Handy
namespace Go.Proofs.Ytobbfmcfibmicaa
open Go.RowKit Go.Deep
set_option linter.unusedVariables false
theorem HalfB.rowsF {w : World} {B : Nat} {cs : List C2} {g : Nat → Nat} (h : HalfB w B cs g cs.length) (hl : ∀ x ∈ cs, x.r.length ≤ maxLen) (hm : cs.length ≤ maxLen) : ∃ F, RowsF w (.slice (some ⟨B, 0, none⟩) cs.length cs.length) cs F ∧ Own w B F := by
  obtain ⟨f, hf, he⟩ := h.own
  by_cases hne : cs = []
  · exact ⟨[], ⟨_, _, [], rfl, Nat.le_refl _, hm, (fun x => by cases x), by rw [hne]; rfl, fun _ => rfl, fun x => absurd hne x⟩, by simp [Own, Free]⟩
  let G : List (List Nat) := (List.range cs.length).map fun i => if (cs.getD i ⟨[], 0⟩).r = [] then [] else [g i]
  have hGl : G.length = cs.length := by simp [G]
  have hGi : ∀ i q, G[i]? = some q → i < cs.length ∧ q = if (cs.getD i ⟨[], 0⟩).r = [] then [] else [g i] := by
    intro i q hq
    have hi : i < cs.length := by have := (List.getElem?_eq_some_iff.1 hq).1; omega
    refine ⟨hi, ?_⟩
    simp [G, hi] at hq
    rw [← hq]
    simp [hi]
  have hmem : ∀ b ∈ G.flatten, ∃ i, i < cs.length ∧ b = g i := by
    intro b hb
    obtain ⟨q, hq, hbq⟩ := List.mem_flatten.1 hb
    obtain ⟨i, hi, rfl⟩ := List.mem_iff_getElem.1 hq
    obtain ⟨hi', e⟩ := hGi i G[i] (by simp)
    rw [e] at hbq
    split at hbq
    · cases hbq
    · exact ⟨i, hi', List.mem_singleton.1 hbq⟩
  refine ⟨B :: G.flatten, ⟨_, _, G, rfl, Nat.le_refl _, hm, (fun x => by cases x), hGl, fun x => absurd x hne, fun _ => ⟨B, 0, rfl, hf.lt, rfl, fun i x q hx hq => ?_⟩⟩, ?_, fun b hb => ?_, fun b hb o => ?_⟩
  · obtain ⟨hi, eq⟩ := hGi i q hq
    obtain ⟨e0, e1⟩ := he i x hi hx
    have ex : cs.getD i ⟨[], 0⟩ = x := by simp [List.getD, hx]
    rw [ex] at eq
    have hrow := h.row i x hi hx
    refine ⟨.slice (some ⟨g i, 0, none⟩) x.r.length x.r.length, by rw [Nat.zero_add, hf.cell (by omega), e0], ⟨_, _, rfl, Nat.le_refl _, hl x (List.mem_of_getElem? hx), (fun x => by cases x), fun e => by rw [eq, if_pos e], fun hn => ⟨g i, 0, rfl, hrow.lt, by rw [eq, if_neg hn], ?_⟩⟩, by rw [Nat.zero_add, hf.cell (by omega), e1]⟩
    refine lies_cells.2 fun j hj => ?_
    rw [Nat.zero_add]
    exact hrow.cell hj
  · refine List.nodup_cons.2 ⟨fun hb => ?_, ?_⟩
    · obtain ⟨i, hi, e⟩ := hmem B hb
      have := h.above i hi
      omega
    · rw [List.Nodup, List.pairwise_flatten]
      constructor
      · intro q hq
        obtain ⟨i, hi, rfl⟩ := List.mem_iff_getElem.1 hq
        obtain ⟨hi', e⟩ := hGi i G[i] (by simp)
        rw [e]
        split <;> simp
      · rw [List.pairwise_iff_getElem]
        intro i j hi hj hij x hx y hy
        obtain ⟨hi', ei⟩ := hGi i G[i] (by simp)
        obtain ⟨hj', ej⟩ := hGi j G[j] (by simp)
        rw [ei] at hx
        rw [ej] at hy
        split at hx
        · cases hx
        · split at hy
          · cases hy
          · have := h.up i j hij hj'
            have e1 := List.mem_singleton.1 hx
            have e2 := List.mem_singleton.1 hy
            omega
  · rcases List.mem_cons.1 hb with rfl | hb
    · exact Nat.le_refl _
    · obtain ⟨i, hi, rfl⟩ := hmem b hb
      exact Nat.le_of_lt (h.above i hi)
  · rcases List.mem_cons.1 hb with rfl | hb
    · exact hf.frozen o
    · obtain ⟨i, hi, rfl⟩ := hmem b hb
      exact (h.row i cs[i] hi (by simp)).frozen o
/-- toBag, with the blocks of what it makes. -/
theorem toBag_F (W : Int) (v : Value) (cs : List C2) (w : World) (hr : RowsIs w v cs) (hn : wtb cs ≤ 1048576) :
    Calls Try.prog 6 #[.agg #[.int .i64 W, v]] w fun e w' => (∃ u F, e = .returned (.agg #[.int .i64 W, u]) ∧ RowsF w' u cs F ∧ Own w' w.heap.size F) ∧ Below w.heap.size w w' :=
  (toBag_any W v cs w hr hn).mono fun e w' ⟨⟨B, g, hB, he, h⟩, hb⟩ => by
    obtain ⟨F, h1, h2⟩ := h.rowsF (fun x hx => by have := wt_mem hx; unfold wt at this; unfold wtb at hn; unfold maxLen; omega) (by unfold wtb at hn; unfold maxLen; omega)
    exact ⟨⟨_, F, he, h1, h2.1, fun b hb => Nat.le_trans hB (h2.2.1 b hb), h2.2.2⟩, hb⟩
end Go.Proofs.Ytobbfmcfibmicaa
