/- Own text. Blocks that may be written; unlike addresses; what a map's update leaves; rows of the call's own that stay. -/
import Derived.Test.YtjblljggmjbalaaRowK
import Derived.Below
import Derived.Handy
import Derived.LaidEql
import Derived.WideKeyRuns
import Derived.MapKept
import Derived.Carry
import Derived.Deep.AppendLies
namespace Go.Proofs.Ytjblljggmjbalaa
open Go.RowKit Go.Deep
set_option linter.unusedVariables false
/-- block b has cells, and may be written. -/
def Fr (w : World) (b : Nat) : Prop := (∃ c t l, w.heap[b]? = some (.cells c t l)) ∧ ∀ o, w.frozen? ⟨b, o, none⟩ = false
theorem Fr.keep {w w' : World} {b : Nat} (h : Fr w b) (e : w'.heap[b]? = w.heap[b]?) : Fr w' b :=
  ⟨by rw [e]; exact h.1, fun o => by simp only [World.frozen?, e]; exact h.2 o⟩
theorem sameAddr_no {P : Program} (w : World) {a b : Addr} (hne : a ≠ b) (ha : Fr w a.block) (hb : Fr w b.block) : (sameAddr a b).run P w = .ok false w := by
  by_cases hbl : a.block = b.block
  · simp [sameAddr, hbl, hne]
  · obtain ⟨⟨ca, ta, ⟨la, la'⟩, ha⟩, fa⟩ := ha
    obtain ⟨⟨cb, tb, ⟨lb, lb'⟩, hb⟩, fb⟩ := hb
    have a0 := fa a.off
    have a1 := fa ca.size
    have b0 := fb b.off
    have b1 := fb cb.size
    simp only [World.frozen?, ha, hb] at a0 a1 b0 b1
    simp [sameAddr, hbl, World.frozen?, ha, hb, noView, viewAt, World.shape?, mayBeOne, stringish, a0, a1, b0, b1]
theorem getD_of {α : Type} {l : List α} {j : Nat} {x : α} (h : l[j]? = some x) (z : α) : l.getD j z = x := by rw [List.getD_eq_getElem?_getD, h]; rfl
theorem flat_getD : ∀ (G : List (List Nat)), ((List.range G.length).map fun j => G.getD j []).flatten = G.flatten
  | [] => rfl
  | g :: G => by
    rw [List.length_cons, List.range_succ_eq_map, List.map_cons, List.flatten_cons, List.map_map, List.flatten_cons, ← flat_getD G]
    rfl
theorem own_keep2 {w w' : World} {N e n s : Nat} {v : Value} {xs : List Value} (h : w.ownsRow N e s v n xs) (hb : Below w.heap.size w w') : w'.ownsRow N e s v n xs := by
  refine ⟨h.1, ?_⟩
  rcases h.2 with hn | ⟨g, cap, cur, rfl, hg, hc, rest⟩
  · exact .inl hn
  · have hlt : g < w.heap.size := by
      rcases Nat.lt_or_ge g w.heap.size with h' | h'
      · exact h'
      · simp [Array.getElem?_eq_none h'] at hc
    exact .inr ⟨g, cap, cur, rfl, hg, (hb.block g hlt).trans hc, rest⟩
theorem own_keep3 {w w' : World} {N e n s : Nat} {v : Value} {xs : List Value} (h : w.ownsRow N e s v n xs) (hb : ∀ g c t l, v.ownBlock = some g → w.heap[g]? = some (.cells c t l) → w'.heap[g]? = w.heap[g]?) : w'.ownsRow N e s v n xs := by
  refine ⟨h.1, ?_⟩
  rcases h.2 with hn | ⟨g, cap, cur, rfl, hg, hc, rest⟩
  · exact .inl hn
  · exact .inr ⟨g, cap, cur, rfl, hg, (hb g _ _ _ rfl hc).trans hc, rest⟩
theorem own_shape {w : World} {N e n s : Nat} {v : Value} {xs : List Value} (h : w.ownsRow N e s v n xs) (hn : 0 < n) : ∃ g cap, v = .slice (some ⟨g, 0, none⟩) n cap ∧ n ≤ cap ∧ cap ≤ maxLen ∧ N ≤ g ∧ g < w.heap.size ∧ ∃ c t l, w.heap[g]? = some (.cells c t l) := by
  rcases h.2 with ⟨_, h0⟩ | ⟨g, cap, cur, rfl, hg, hc, hn', hm, _⟩
  · omega
  · refine ⟨g, cap, rfl, hn', hm, hg, ?_, _, _, _, hc⟩
    rcases Nat.lt_or_ge g w.heap.size with h' | h'
    · exact h'
    · simp [Array.getElem?_eq_none h'] at hc
/-- what a map's update leaves. -/
theorem upd_world {w wX : World} {B : Nat} {o o' : Obj} (hb : wX.heap[B]? = some o) (hB : w.heap.size ≤ B) (hX : Below w.heap.size w wX) :
    let wY : World := { wX with heap := wX.heap.setIfInBounds B o' }
    wY.heap[B]? = some o' ∧ (∀ b, b ≠ B → wY.heap[b]? = wX.heap[b]?) ∧ wY.heap.size = wX.heap.size ∧ Below w.heap.size w wY := by
  obtain ⟨h1, h2⟩ := MapKept.heap_set (w := wX) (o' := o') hb
  refine ⟨h1, h2, by simp, hX.os, hX.tape, hX.output, by simpa using hX.size, fun k hk => (h2 k (by omega)).trans (hX.block k hk)⟩
theorem below_drewN (w : World) : ∀ n, Below w.heap.size w (w.drewN n)
  | 0 => Below.refl _ _
  | n + 1 => (below_drewN w n).drew
theorem heap_two (w : World) (X Y : Obj) : ((w.alloc X).alloc Y).heap[w.heap.size]? = some X ∧ ((w.alloc X).alloc Y).heap[w.heap.size + 1]? = some Y := by
  constructor
  · show ((w.heap.push X).push Y)[w.heap.size]? = some X
    simp [Array.getElem?_push]
  · have := heap_alloc_new (w.alloc X) Y
    rwa [World.size_alloc] at this
theorem cells_of {w : World} {a : Addr} {v : Value} (h : w.cell? a = some v) : ∃ c t l, w.heap[a.block]? = some (.cells c t l) := by
  unfold World.cell? at h
  split at h
  · rename_i c t l hc
    exact ⟨_, _, _, hc⟩
  · cases h
end Go.Proofs.Ytjblljggmjbalaa
