/- Own text. Numbers in memory, sorted and compacted. -/
import Derived.Test.YtpkebpbflfhbnaaColS
import Derived.Test.YtpkebpbflfhbnaaNodK
import Derived.Test.YtpkebpbflfhbnaaMarkX
import Derived.Test.YtpkebpbflfhbnaaShelf
import Derived.Handy
import Derived.Maps.AppendAt
namespace Go.Proofs.Ytpkebpbflfhbnaa
open Go.RowKit Go.Deep Go.ChangeShapes Go.WideShapes
set_option linter.unusedVariables false
theorem putRow_blk {α : Type} [Inhabited α] (enc : α → Value) (w : World) (blk off : Nat) (d : Array α) {k : Nat} (h : k ≠ blk) : (Sort.putRow enc w blk off d).heap[k]? = w.heap[k]? := by
  unfold Sort.putRow Sort.mapBlock
  simp [Array.getElem?_modify, Ne.symm h]
theorem colN_take {ns : List Nd} {k : Nat} {x : Nd} (h : ns[k]? = some x) : colN (ns.take (k + 1)) = if x.e.k = 0 then colN (ns.take k) ++ [x.e.n] else colN (ns.take k) := by
  unfold colN
  rw [take_snocC h, List.filter_append, List.map_append]
  by_cases h0 : x.e.k = 0
  · rw [if_pos h0]; simp [h0]
  · rw [if_neg h0]; simp [h0]
theorem colN_len (ns : List Nd) : (colN ns).length ≤ ns.length := by
  unfold colN
  rw [List.length_map]
  exact List.length_filter_le _ _
theorem own_holds {w : World} {N : Nat} {zs : List Int} {t : TypeId} {yb yc : Nat} (h : w.ownsRow N t 1 (.slice (some ⟨yb, 0, none⟩) zs.length yc) zs.length (ints zs)) : Sort.Holds (Value.int .i64) w yb 0 zs.toArray ∧ zs.length ≤ yc ∧ yc ≤ maxLen ∧ N ≤ yb ∧ yb < w.heap.size ∧ ∀ o, w.frozen? ⟨yb, o, none⟩ = false := by
  have hlt := ownsE_lt h
  obtain ⟨hl, ho⟩ := h
  rcases ho with ⟨h0, _⟩ | ⟨g, cap, cur, hv, hg, hc, hn', hm, hs, ht⟩
  · cases h0
  injection hv with e1 _ e3
  injection e1 with e1
  injection e1 with e1
  subst e1 e3
  refine ⟨fun j hj => ?_, hn', hm, hg, (hlt yb rfl).2, fun o => by simp [World.frozen?, hc]⟩
  have hj' : j < zs.length := by simpa using hj
  refine ⟨?_, by simp [World.frozen?, hc]⟩
  have hu : (ints zs)[j]? = some (.int .i64 zs[j]) := by simp [ints]
  rw [getElem!_pos zs.toArray j hj]
  simp only [World.cell?, hc]
  rw [← ht, List.getElem?_take, if_pos (by omega), Array.getElem?_toList] at hu
  simpa using hu
/-- sorted and compacted in place. -/
theorem sorted_ints {w w2 w3 : World} {N yb yc n q : Nat} {zs L : List Int} {os : Array Obj} (hH : Sort.Holds (Value.int .i64) w yb 0 zs.toArray) (hc : zs.length ≤ yc) (hm : yc ≤ maxLen) (hN : N ≤ yb) (hlt : yb < w.heap.size) (hf : ∀ o, w.frozen? ⟨yb, o, none⟩ = false)
    (h2 : w2 = Sort.grow (Sort.putRow (Value.int .i64) (Sort.ahead w n) yb 0 (zs.mergeSort fun x y => decide (x ≤ y)).toArray) os)
    (h3 : w3 = Sort.putRow (Value.int .i64) (Sort.ahead w2 q) yb 0 (Lib.compact (zs.mergeSort fun x y => decide (x ≤ y)) ++ List.replicate (zs.length - (Lib.compact (zs.mergeSort fun x y => decide (x ≤ y))).length) 0).toArray)
    (hL : Lib.compact (zs.mergeSort fun x y => decide (x ≤ y)) = L) :
    (∃ g, IntsF w3 (.slice (some ⟨yb, 0, none⟩) L.length yc) L g ∧ Own w3 N g) ∧ Below N w w3 := by
  rw [hL] at h3
  have hLl : L.length ≤ zs.length := by
    rw [← hL]
    have := Lib.compact_length_le (zs.mergeSort fun x y => decide (x ≤ y))
    rwa [List.length_mergeSort] at this
  have hms : (zs.mergeSort fun x y => decide (x ≤ y)).length = zs.length := List.length_mergeSort _
  generalize (zs.mergeSort fun x y => decide (x ≤ y)) = ms at *
  have hz2 : w.heap.size ≤ w2.heap.size := by rw [h2]; simp
  have hz3 : w3.heap.size = w2.heap.size := by rw [h3]; simp
  have hH2 : Sort.Holds (Value.int .i64) w2 yb 0 ms.toArray := by
    rw [h2]
    exact Sort.holds_grow _ _ _ _ _ _ (by simpa using hlt) (Sort.holds_putRow _ _ _ _ zs.toArray ms.toArray (Sort.holds_ahead _ _ _ _ _ _ hH) (by simpa using hms))
  have hd : (L ++ List.replicate (zs.length - L.length) (0 : Int)).toArray.size = ms.toArray.size := by simp; omega
  have hcell : ∀ j, j < L.length → ∀ x, L[j]? = some x → w3.cell? ⟨yb, 0 + j, none⟩ = some (.int .i64 x) := by
    intro j hj x hx
    rw [h3, Sort.cell?_putRow (Value.int .i64) _ yb 0 ms.toArray _ (Sort.holds_ahead _ _ _ _ _ _ hH2) hd j (by simp; omega)]
    have hj2 : j < (L ++ List.replicate (zs.length - L.length) (0 : Int)).toArray.size := by simp; omega
    rw [getElem!_pos _ j hj2]
    have hx2 : L[j] = x := by simpa [hj] using hx
    simp [List.getElem_append_left hj, hx2]
  have hf3 : ∀ o, w3.frozen? ⟨yb, o, none⟩ = false := by
    intro o
    rw [h3, Sort.frozen?_putRow, Sort.frozen?_ahead, h2, Sort.frozen?_grow _ _ _ (by simpa using hlt), Sort.frozen?_putRow, Sort.frozen?_ahead]
    exact hf o
  have hbel : Below N w w3 := by
    refine ⟨by rw [h3, h2]; rfl, by rw [h3, h2]; rfl, by rw [h3, h2]; rfl, by omega, fun k hk => ?_⟩
    rw [h3, putRow_blk _ _ _ _ _ (by omega), Sort.heap_ahead, h2, Sort.heap_grow_old _ _ (by simp; omega), putRow_blk _ _ _ _ _ (by omega), Sort.heap_ahead]
  refine ⟨?_, hbel⟩
  by_cases hne : L = []
  · subst hne
    exact ⟨[], ⟨_, yc, rfl, Nat.zero_le _, hm, fun _ => rfl, fun h => absurd rfl h⟩, by simp [Own]⟩
  · exact ⟨[yb], ⟨_, yc, rfl, by omega, hm, fun h => absurd h hne, fun _ => ⟨yb, 0, rfl, by omega, rfl, fun i x hx => hcell i (List.getElem?_eq_some_iff.1 hx).1 x hx⟩⟩, by simp, fun b hb => by rcases List.mem_singleton.1 hb with rfl; exact ⟨hN, hf3⟩⟩
end Go.Proofs.Ytpkebpbflfhbnaa
