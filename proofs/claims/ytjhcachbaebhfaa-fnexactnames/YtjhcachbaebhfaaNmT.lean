/- Own text. A slice of texts with its block; what sorting and compacting leave of it in memory. -/
import Derived.Test.YtjhcachbaebhfaaNmS
import Derived.Test.YtjhcachbaebhfaaNmC
import Derived.Test.YtjhcachbaebhfaaColJ
import Derived.Handy
namespace Go.Proofs.Ytjhcachbaebhfaa
open Go.RowKit Go.Deep Go.ChangeShapes Go.WideShapes
set_option linter.unusedVariables false
theorem encStr_of (x : ByteArray) : encStr x.toList = .string x := by
  show Value.string ⟨x.toList.toArray⟩ = _
  rw [ByteArray.toList_eq]
/-- the slice value v has the texts ns; g: the block that they lie in. -/
def StrsF (w : World) (v : Value) (ns : List ByteArray) (g : List Nat) : Prop :=
  ∃ (a : Option Addr) (c : Nat), v = .slice a ns.length c ∧ ns.length ≤ c ∧ c ≤ maxLen ∧ (ns = [] → g = []) ∧ (ns ≠ [] → ∃ b o, a = some ⟨b, o, none⟩ ∧ b < w.heap.size ∧ g = [b] ∧ ∀ i n, ns[i]? = some n → w.cell? ⟨b, o + i, none⟩ = some (.string n))
theorem StrsF.lt {w : World} {v : Value} {ns : List ByteArray} {g : List Nat} (h : StrsF w v ns g) : ∀ b ∈ g, b < w.heap.size := by
  obtain ⟨a, c, _, _, _, h0, h⟩ := h
  by_cases hne : ns = []
  · rw [h0 hne]; intro b hb; cases hb
  · obtain ⟨b, o, _, hlt, rfl, _⟩ := h hne
    intro x hx
    rcases List.mem_singleton.1 hx with rfl
    exact hlt
theorem StrsF.keep {w w' : World} {v : Value} {ns : List ByteArray} {g : List Nat} (h : StrsF w v ns g) (hs : w.heap.size ≤ w'.heap.size) (hg : ∀ b ∈ g, w'.heap[b]? = w.heap[b]?) : StrsF w' v ns g := by
  obtain ⟨a, c, e, hl, hc, h0, h⟩ := h
  refine ⟨a, c, e, hl, hc, h0, fun hne => ?_⟩
  obtain ⟨b, o, ea, hlt, rfl, hC⟩ := h hne
  exact ⟨b, o, ea, by omega, rfl, fun i n hn => (cell_blk (hg b (by simp))).trans (hC i n hn)⟩
theorem StrsF.below {w w' : World} {v : Value} {ns : List ByteArray} {g : List Nat} (h : StrsF w v ns g) (hb : Below w.heap.size w w') : StrsF w' v ns g := h.keep hb.size fun b hg => hb.block b (h.lt b hg)
theorem StrsF.pick {w : World} {v : Value} {ns : List ByteArray} {g : List Nat} (h : StrsF w v ns g) :
    ∃ a c b o, v = .slice a ns.length c ∧ ns.length ≤ c ∧ c ≤ maxLen ∧ (ns = [] → g = []) ∧ ∀ k, k < ns.length → a = some ⟨b, o, none⟩ ∧ b < w.heap.size ∧ g = [b] ∧ ∀ i n, ns[i]? = some n → w.cell? ⟨b, o + i, none⟩ = some (.string n) := by
  obtain ⟨a, c, rfl, hl, hc, h0, h⟩ := h
  by_cases hne : ns = []
  · exact ⟨a, c, 0, 0, rfl, hl, hc, h0, fun k hk => by rw [hne] at hk; simp at hk⟩
  · obtain ⟨b, o, h⟩ := h hne
    exact ⟨a, c, b, o, rfl, hl, hc, h0, fun _ _ => h⟩
theorem own_holdsS {w : World} {N : Nat} {zs : List ByteArray} {t : TypeId} {yb yc : Nat} (h : w.ownsRow N t 1 (.slice (some ⟨yb, 0, none⟩) zs.length yc) zs.length (strs zs)) : Sort.Holds encStr w yb 0 (zs.map ByteArray.toList).toArray ∧ zs.length ≤ yc ∧ yc ≤ maxLen ∧ N ≤ yb ∧ yb < w.heap.size ∧ ∀ o, w.frozen? ⟨yb, o, none⟩ = false := by
  have hlt := ownsE_lt h
  obtain ⟨hl, ho⟩ := h
  rcases ho with ⟨h0, _⟩ | ⟨g, cap, cur, hv, hg, hc, hn', hm, hs, ht⟩
  · cases h0
  injection hv with e1 _ e3
  injection e1 with e1
  injection e1 with e1
  subst e1 e3
  refine ⟨fun j hj => ?_, hn', hm, hg, (hlt yb rfl).2, fun o => by simp [World.frozen?, hc]⟩
  have hj' : j < zs.length := by simpa using hj
  refine ⟨?_, by simp [World.frozen?, hc]⟩
  have hu : (strs zs)[j]? = some (.string zs[j]) := by simp [strs, hj']
  rw [getElem!_pos (zs.map ByteArray.toList).toArray j hj]
  simp only [World.cell?, hc]
  rw [← ht, List.getElem?_take, if_pos (by omega), Array.getElem?_toList] at hu
  simpa [encStr_of] using hu
/-- sorted and compacted in place. -/
theorem sorted_strs {w w2 w3 : World} {N yb yc n q : Nat} {zs : List (List UInt8)} {L : List ByteArray} {os : Array Obj} (hH : Sort.Holds encStr w yb 0 zs.toArray) (hc : zs.length ≤ yc) (hm : yc ≤ maxLen) (hN : N ≤ yb) (hlt : yb < w.heap.size) (hf : ∀ o, w.frozen? ⟨yb, o, none⟩ = false)
    (h2 : w2 = Sort.grow (Sort.putRow encStr (Sort.ahead w n) yb 0 (zs.mergeSort fun x y => decide (x ≤ y)).toArray) os)
    (h3 : w3 = Sort.putRow encStr (Sort.ahead w2 q) yb 0 (Lib.compact (zs.mergeSort fun x y => decide (x ≤ y)) ++ List.replicate (zs.length - (Lib.compact (zs.mergeSort fun x y => decide (x ≤ y))).length) []).toArray)
    (hL : Lib.compact (zs.mergeSort fun x y => decide (x ≤ y)) = L.map ByteArray.toList) :
    (∃ g, StrsF w3 (.slice (some ⟨yb, 0, none⟩) L.length yc) L g ∧ Own w3 N g) ∧ Below N w w3 := by
  rw [hL] at h3
  have hLl : L.length ≤ zs.length := by
    rw [← List.length_map (f := ByteArray.toList), ← hL]
    have := Lib.compact_length_le (zs.mergeSort fun x y => decide (x ≤ y))
    rwa [List.length_mergeSort] at this
  have hms : (zs.mergeSort fun x y => decide (x ≤ y)).length = zs.length := List.length_mergeSort _
  generalize (zs.mergeSort fun x y => decide (x ≤ y)) = ms at *
  have hz2 : w.heap.size ≤ w2.heap.size := by rw [h2]; simp
  have hz3 : w3.heap.size = w2.heap.size := by rw [h3]; simp
  have hH2 : Sort.Holds encStr w2 yb 0 ms.toArray := by
    rw [h2]
    exact Sort.holds_grow _ _ _ _ _ _ (by simpa using hlt) (Sort.holds_putRow _ _ _ _ zs.toArray ms.toArray (Sort.holds_ahead _ _ _ _ _ _ hH) (by simpa using hms))
  have hd : (L.map ByteArray.toList ++ List.replicate (zs.length - (L.map ByteArray.toList).length) ([] : List UInt8)).toArray.size = ms.toArray.size := by simp; omega
  have hcell : ∀ j, j < L.length → ∀ x, L[j]? = some x → w3.cell? ⟨yb, 0 + j, none⟩ = some (.string x) := by
    intro j hj x hx
    rw [h3, Sort.cell?_putRow encStr _ yb 0 ms.toArray _ (Sort.holds_ahead _ _ _ _ _ _ hH2) hd j (by simp; omega)]
    have hj2 : j < (L.map ByteArray.toList ++ List.replicate (zs.length - (L.map ByteArray.toList).length) ([] : List UInt8)).toArray.size := by simp; omega
    rw [getElem!_pos _ j hj2]
    have hx2 : L[j] = x := by simpa [hj] using hx
    have hj3 : j < (L.map ByteArray.toList).length := by simpa using hj
    simp [List.getElem_append_left hj3, hx2, encStr_of]
  have hf3 : ∀ o, w3.frozen? ⟨yb, o, none⟩ = false := by
    intro o
    rw [h3, Sort.frozen?_putRow, Sort.frozen?_ahead, h2, Sort.frozen?_grow _ _ _ (by simpa using hlt), Sort.frozen?_putRow, Sort.frozen?_ahead]
    exact hf o
  have hbel : Below N w w3 := by
    refine ⟨by rw [h3, h2]; rfl, by rw [h3, h2]; rfl, by rw [h3, h2]; rfl, by omega, fun k hk => ?_⟩
    rw [h3, putRow_blk _ _ _ _ _ (by omega), Sort.heap_ahead, h2, Sort.heap_grow_old _ _ (by simp; omega), putRow_blk _ _ _ _ _ (by omega), Sort.heap_ahead]
  refine ⟨?_, hbel⟩
  by_cases hne : L = []
  · subst hne
    exact ⟨[], ⟨_, yc, rfl, Nat.zero_le _, hm, fun _ => rfl, fun h => absurd rfl h⟩, by simp [Own]⟩
  · exact ⟨[yb], ⟨_, yc, rfl, by omega, hm, fun h => absurd h hne, fun _ => ⟨yb, 0, rfl, by omega, rfl, fun i x hx => hcell i (List.getElem?_eq_some_iff.1 hx).1 x hx⟩⟩, by simp, fun b hb => by rcases List.mem_singleton.1 hb with rfl; exact ⟨hN, hf3⟩⟩
end Go.Proofs.Ytjhcachbaebhfaa
