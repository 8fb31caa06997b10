/- Own text. The contracts of the helpers on bags: how much one weighs, one made anew, that one is the same as another one. -/
import Derived.Test.YtiaafgmjigbjlaaGreatDoorRowC
import Derived.Test.YtiaafgmjigbjlaaGreatDoorToVS
import Derived.Handy
import Derived.Deep.RegionHeld3
namespace Go.Proofs.YtiaafgmjigbjlaaGreatDoor
open Go.RowKit
set_option linter.unusedVariables false
theorem RowsIs.pick {w : World} {v : Value} {cs : List C2} (h : RowsIs w v cs) :
    ∃ a c b o, v = .slice a cs.length c ∧ cs.length ≤ c ∧ c ≤ maxLen ∧ ∀ k, k < cs.length → a = some ⟨b, o, none⟩ ∧ b < w.heap.size ∧ CLies w b o cs := by
  obtain ⟨a, c, rfl, hl, hc, h⟩ := h
  by_cases hne : cs = []
  · exact ⟨a, c, 0, 0, rfl, hl, hc, fun k hk => by rw [hne] at hk; simp at hk⟩
  · obtain ⟨b, o, h⟩ := h hne
    exact ⟨a, c, b, o, rfl, hl, hc, fun _ _ => h⟩
theorem RowIs.shape {w : World} {v : Value} {vs : List V3} (h : RowIs w v vs) : ∃ a l c, v = .slice a l c := by
  obtain ⟨a, c, h, _⟩ := h
  exact ⟨a, _, c, h⟩
theorem RowsIs.shape {w : World} {v : Value} {cs : List C2} (h : RowsIs w v cs) : ∃ a l c, v = .slice a l c := by
  obtain ⟨a, c, h, _⟩ := h
  exact ⟨a, _, c, h⟩
theorem CLies.at {w w' : World} {b o : Nat} {cs : List C2} (h : CLies w b o cs) (hlt : b < w.heap.size) (hb : Below w.heap.size w w') {k : Nat} (hk : k < cs.length) :
    ∃ x v, cs[k]? = some x ∧ w'.cell? ⟨b, o + k * 2, none⟩ = some v ∧ RowIs w' v x.r ∧ w'.cell? ⟨b, o + k * 2 + 1, none⟩ = some (.int .i64 x.n) ∧ b < w'.heap.size := by
  obtain ⟨v, h0, h1, h2⟩ := h.below hb hlt k cs[k] (by simp [hk])
  exact ⟨cs[k], v, by simp [hk], h0, h1, h2, Nat.lt_of_lt_of_le hlt hb.size⟩
/-- what the rows of a bag weigh. -/
def wtcs (cs : List C2) : Nat := (cs.map fun x => wt x.r).sum
def wtb (cs : List C2) : Nat := cs.length + wtcs cs
theorem wtcs_take {cs : List C2} {k : Nat} {x : C2} (h : cs[k]? = some x) : wtcs (cs.take (k + 1)) = wtcs (cs.take k) + wt x.r := by
  unfold wtcs
  obtain ⟨hk, rfl⟩ := List.getElem?_eq_some_iff.1 h
  rw [List.take_succ_eq_append_getElem hk, List.map_append, List.sum_append]
  simp only [List.map_cons, List.map_nil, List.sum_cons, List.sum_nil, Nat.add_zero]
theorem wt_mem {cs : List C2} {x : C2} (h : x ∈ cs) : wt x.r ≤ wtcs cs := by
  unfold wtcs
  induction cs with
  | nil => cases h
  | cons y ys ih =>
    simp only [List.map_cons, List.sum_cons]
    rcases List.mem_cons.1 h with rfl | h
    · omega
    · have := ih h; omega
end Go.Proofs.YtiaafgmjigbjlaaGreatDoor
