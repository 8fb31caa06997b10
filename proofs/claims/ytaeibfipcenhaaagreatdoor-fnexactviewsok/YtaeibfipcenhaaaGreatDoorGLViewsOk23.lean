/- Own texts, joined: contracts that the law's proof goes by. -/
import Derived.Test.YtaeibfipcenhaaaGreatDoorGLViewsOk22
import Derived.Handy
import Derived.Test.YtaeibfipcenhaaaGreatDoorGLViewsOk12
import Derived.Test.YtaeibfipcenhaaaGreatDoorGLViewsOk13
import Derived.Deep.RegionHeld3
namespace Go.Proofs.YtaeibfipcenhaaaGreatDoor
open Go.RowKit Go.Shelf
set_option linter.unusedVariables false
attribute [local go_sem] Oper.semAt_some
/-- what stands between two rounds: the bag that is made lies in block B + 1 (B: the result's), its rows in blocks of its own. -/
def BagI {w2 : World} {b : Nat} (w : World) (X : Int) (pre : List (RowT w2 b)) (O : Nat → Prop) (A : World) : Prop :=
  ∃ (y : Value) (us : List Value) (G : List (List Nat)), A.cell? ⟨w.heap.size + 1, 0, none⟩ = some (.int .i64 X) ∧ A.cell? ⟨w.heap.size + 1, 1, none⟩ = some y ∧ (∀ q, A.frozen? ⟨w.heap.size + 1, q, none⟩ = false) ∧ A.cell? ⟨w.heap.size, 0, none⟩ = some (.int .i64 0) ∧ A.cell? ⟨w.heap.size, 1, none⟩ = some (.slice none 0 0) ∧ (∀ q, A.frozen? ⟨w.heap.size, q, none⟩ = false) ∧
    BagOwn A (w.heap.size + 1 + 1) y (pre.map fun x => x.1.2) us G ∧ Below w.heap.size w A ∧ w.heap.size + 1 + 1 ≤ A.heap.size ∧ (∀ k, y.ownBlock = some k ∨ k ∈ G.flatten → O k) ∧ O (w.heap.size + 1) ∧ ∀ k, O k → k = w.heap.size + 1 ∨ w.heap.size + 1 + 1 ≤ k ∧ k < A.heap.size
theorem bagOwn_on {A B : World} {N : Nat} {y : Value} {cs : List C2} {us : List Value} {G : List (List Nat)} (h : BagOwn A N y cs us G) (hs : A.heap.size ≤ B.heap.size) (hb : ∀ k, y.ownBlock = some k ∨ k ∈ G.flatten → B.heap[k]? = A.heap[k]?) : BagOwn B N y cs us G := by
  refine ⟨ownsRow_keep h.own fun k hk => hb k (.inl hk), h.ul, h.gl, fun i x u g hx hu hg => (h.row i x u g hx hu hg).keep hs fun k hk => hb k (.inr ?_), h.free.keep fun k hk => hb k (.inr hk), h.out⟩
  exact List.mem_flatten.2 ⟨g, List.mem_of_getElem? hg, hk⟩
theorem BagI.on {w2 : World} {b : Nat} {w : World} {X : Int} {pre : List (RowT w2 b)} {O : Nat → Prop} {A B : World} (h : BagI w X pre O A) (hs : SameOn (fun k => k < w.heap.size + 2 ∨ O k) A B) : BagI w X pre O B := by
  obtain ⟨y, us, G, p0, p1, pf, r0, r1, rf, hB, hb, hz, hO, hOb, hO2⟩ := h
  have e1 : B.heap[w.heap.size + 1]? = A.heap[w.heap.size + 1]? := hs.block _ (by omega) (.inl (by omega))
  have e0 : B.heap[w.heap.size]? = A.heap[w.heap.size]? := hs.block _ (by omega) (.inl (by omega))
  refine ⟨y, us, G, (cell_blk e1).trans p0, (cell_blk e1).trans p1, fun q => (frozen_blk e1).trans (pf q), (cell_blk e0).trans r0, (cell_blk e0).trans r1, fun q => (frozen_blk e0).trans (rf q), bagOwn_on hB hs.size fun k hk => ?_, ⟨hs.os.trans hb.os, hs.tape.trans hb.tape, hs.output.trans hb.output, Nat.le_trans hb.size hs.size, fun k hk => (hs.block k (by omega) (.inl (by omega))).trans (hb.block k hk)⟩, Nat.le_trans hz hs.size, hO, hOb, fun k hk => ?_⟩
  · have h1 : k < A.heap.size := by
      rcases hk with hk | hk
      · exact (ownsRow_lt hB.own k hk).2
      · exact hB.lt k hk
    exact hs.block k h1 (.inr (hO k hk))
  · have := hO2 k hk
    have := hs.size
    omega
end Go.Proofs.YtaeibfipcenhaaaGreatDoor
