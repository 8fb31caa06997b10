/- Own text. Rows and counted rows in memory, cell by cell, with their blocks. -/
import Derived.Test.YtooeohhkcemoiaaOwnF
import Derived.Test.YtooeohhkcemoiaaBagC
import Derived.Handy
import Derived.Deep.RegionHeld3
namespace Go.Proofs.Ytooeohhkcemoiaa
open Go.RowKit Go.Deep
set_option linter.unusedVariables false
theorem RowF.cells {w : World} {v : Value} {vs : List V3} {g : List Nat} (h : RowF w v vs g) :
    ∃ a c b o, v = .slice a vs.length c ∧ vs.length ≤ c ∧ c ≤ maxLen ∧ (a = none → c = 0) ∧ CellsAre w b o (vs.length * 3) (cf vs) ∧ (vs = [] → g = []) ∧ ∀ n, n < vs.length → a = some ⟨b, o, none⟩ ∧ b < w.heap.size ∧ g = [b] := by
  obtain ⟨a, c, rfl, hl, hc, hz, h0, h⟩ := h
  by_cases hne : vs = []
  · exact ⟨a, c, 0, 0, rfl, hl, hc, hz, by subst hne; intro j hj; simp at hj, h0, fun k hk => by rw [hne] at hk; simp at hk⟩
  · obtain ⟨b, o, rfl, hlt, hg, hL⟩ := h hne
    exact ⟨_, c, b, o, rfl, hl, hc, hz, lies_cells.1 hL, h0, fun _ _ => ⟨rfl, hlt, hg⟩⟩
theorem RowIs.shape' {w : World} {v : Value} {vs : List V3} (h : RowIs w v vs) : ∃ a c, v = .slice a vs.length c ∧ vs.length ≤ c ∧ c ≤ maxLen := by
  obtain ⟨a, c, h, h1, h2, _⟩ := h
  exact ⟨a, c, h, h1, h2⟩
theorem RowF.mk {w w' : World} {v : Value} {vs us : List V3} {g : List Nat} {a : Option Addr} {c b o : Nat} (hs : w.heap.size ≤ w'.heap.size) (hl : us.length = vs.length) (hv : v = .slice a vs.length c) (hlc : vs.length ≤ c) (hc : c ≤ maxLen) (hz : a = none → c = 0) (h0 : vs = [] → g = []) (ha : ∀ n, n < vs.length → a = some ⟨b, o, none⟩ ∧ b < w.heap.size ∧ g = [b])
    (hC : CellsAre w' b o (us.length * 3) (cf us)) : RowF w' v us g := by
  refine ⟨a, c, by rw [hl]; exact hv, by omega, hc, hz, fun e => h0 (by have := congrArg List.length e; rw [hl] at this; exact List.length_eq_zero_iff.1 this), fun hne => ?_⟩
  have hp : 0 < vs.length := by rw [← hl]; exact List.length_pos_iff.2 hne
  obtain ⟨e, hlt, hg⟩ := ha 0 hp
  exact ⟨b, o, e, by omega, hg, lies_cells.2 hC⟩
def CLF (w : World) (b o : Nat) (cs : List C2) (G : List (List Nat)) : Prop :=
  ∀ i x g, cs[i]? = some x → G[i]? = some g → ∃ u, w.cell? ⟨b, o + i * 2, none⟩ = some u ∧ RowF w u x.r g ∧ w.cell? ⟨b, o + i * 2 + 1, none⟩ = some (.int .i64 x.n)
theorem disj_of {b : Nat} {G : List (List Nat)} (h : (b :: G.flatten).Nodup) {i j : Nat} {g g' : List Nat} (hi : G[i]? = some g) (hj : G[j]? = some g') (hne : i ≠ j) : ∀ y ∈ g, y ∉ g' := by
  have h2 := (List.nodup_cons.1 h).2
  rw [List.Nodup, List.pairwise_flatten] at h2
  have h3 := List.pairwise_iff_getElem.1 h2.2
  obtain ⟨hi', rfl⟩ := List.getElem?_eq_some_iff.1 hi
  obtain ⟨hj', rfl⟩ := List.getElem?_eq_some_iff.1 hj
  intro y hy hy'
  rcases Nat.lt_or_gt_of_ne hne with hlt | hlt
  · exact h3 i j hi' hj' hlt y hy y hy' rfl
  · exact h3 j i hj' hi' hlt y hy' y hy rfl
theorem head_out {b : Nat} {G : List (List Nat)} (h : (b :: G.flatten).Nodup) {i : Nat} {g : List Nat} (hi : G[i]? = some g) : b ∉ g := fun hb =>
  (List.nodup_cons.1 h).1 (List.mem_flatten.2 ⟨g, List.mem_of_getElem? hi, hb⟩)
theorem RowsF.pick {w : World} {v : Value} {cs : List C2} {F : List Nat} (h : RowsF w v cs F) :
    ∃ a c b o G, v = .slice a cs.length c ∧ cs.length ≤ c ∧ c ≤ maxLen ∧ (a = none → c = 0) ∧ G.length = cs.length ∧ (cs = [] → F = []) ∧ CLF w b o cs G ∧ ∀ n, n < cs.length → a = some ⟨b, o, none⟩ ∧ b < w.heap.size ∧ F = b :: G.flatten := by
  obtain ⟨a, c, G, rfl, hl, hc, hz, hG, h0, h⟩ := h
  by_cases hne : cs = []
  · exact ⟨a, c, 0, 0, G, rfl, hl, hc, hz, hG, h0, fun i x g hx => by rw [hne] at hx; simp at hx, fun k hk => by rw [hne] at hk; simp at hk⟩
  · obtain ⟨b, o, rfl, hlt, hF, hL⟩ := h hne
    exact ⟨_, c, b, o, G, rfl, hl, hc, hz, hG, h0, hL, fun _ _ => ⟨rfl, hlt, hF⟩⟩
end Go.Proofs.Ytooeohhkcemoiaa
