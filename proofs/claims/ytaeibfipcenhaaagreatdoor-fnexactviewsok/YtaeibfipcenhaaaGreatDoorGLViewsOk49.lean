/- Own texts, joined: contracts that the law's proof goes by. -/
import Derived.Test.YtaeibfipcenhaaaGreatDoorGLViewsOk48
import Derived.Deep.DeepCutAuto
namespace Go.Proofs.YtaeibfipcenhaaaGreatDoor
open Go.RowKit Go.Deep Go.ChangeShapes Go.WideShapes
set_option linter.unusedVariables false
theorem RowIs.take {w : World} {a : Option Addr} {c : Nat} {vs : List V3} (h : RowIs w (.slice a vs.length c) vs) {n : Nat} (hn : n ≤ vs.length) : RowIs w (.slice a n c) (vs.take n) := by
  obtain ⟨a', c', e, hl, hc, h⟩ := h
  injection e with e1 e2 e3
  subst e1 e3
  have hlen : (vs.take n).length = n := by simp; omega
  refine ⟨a, c, by rw [hlen], by omega, hc, fun hne => ?_⟩
  obtain ⟨b, o, hb, hlt, hL⟩ := h (by rintro rfl; simp at hne)
  refine ⟨b, o, hb, hlt, fun i x hx => hL i x ?_⟩
  rw [List.getElem?_take] at hx
  split at hx
  · exact hx
  · cases hx
end Go.Proofs.YtaeibfipcenhaaaGreatDoor
namespace Go.Proofs.YtaeibfipcenhaaaGreatDoor
open Go.RowKit Go.Deep Go.ChangeShapes Go.WideShapes
set_option linter.unusedVariables false
theorem RowF.take {w : World} {a : Option Addr} {c : Nat} {vs : List V3} {g : List Nat} (h : RowF w (.slice a vs.length c) vs g) {n : Nat} (hn : n ≤ vs.length) : ∃ g', RowF w (.slice a n c) (vs.take n) g' := by
  obtain ⟨a', c', e, hl, hc, hz, _, h⟩ := h
  injection e with e1 e2 e3
  subst e1 e3
  have hlen : (vs.take n).length = n := by simp; omega
  by_cases hne : vs.take n = []
  · exact ⟨[], a, c, by rw [hlen], by omega, hc, hz, fun _ => rfl, fun hx => absurd hne hx⟩
  · obtain ⟨b, o, hb, hlt, hg, hL⟩ := h (by rintro rfl; simp at hne)
    refine ⟨g, a, c, by rw [hlen], by omega, hc, hz, fun hx => absurd hx hne, fun _ => ⟨b, o, hb, hlt, hg, fun i x hx => hL i x ?_⟩⟩
    rw [List.getElem?_take] at hx
    split at hx
    · exact hx
    · cases hx
/-- what the loop keeps. -/
structure GrW (w : World) (W T : Int) (a : Option Addr) (lc c : Nat) (acc : List C2) (y : Value) (us : List Value) (G : List (List Nat)) (wr : World) : Prop where
  a0 : wr.cell? ⟨w.heap.size, 0, none⟩ = some (.int .i64 W)
  a1 : wr.cell? ⟨w.heap.size, 1, none⟩ = some (.slice a lc c)
  r0 : wr.cell? ⟨w.heap.size + 1, 0, none⟩ = some (.int .i64 0)
  r1 : wr.cell? ⟨w.heap.size + 1, 1, none⟩ = some (.slice none 0 0)
  rf : ∀ q, wr.frozen? ⟨w.heap.size + 1, q, none⟩ = false
  p0 : wr.cell? ⟨w.heap.size + 1 + 1, 0, none⟩ = some (.int .i64 T)
  p1 : wr.cell? ⟨w.heap.size + 1 + 1, 1, none⟩ = some y
  pf : ∀ q, wr.frozen? ⟨w.heap.size + 1 + 1, q, none⟩ = false
  own : BagOwn wr (w.heap.size + 1 + 1 + 1) y acc us G
  bel : Below w.heap.size w wr
  big : w.heap.size + 1 + 1 < wr.heap.size
theorem GrW.below {w wr w' : World} {W T : Int} {a : Option Addr} {lc c : Nat} {acc : List C2} {y : Value} {us : List Value} {G : List (List Nat)} (h : GrW w W T a lc c acc y us G wr) (hb : Below wr.heap.size wr w') : GrW w W T a lc c acc y us G w' := by
  have hz := h.big
  have hs := hb.size
  exact ⟨((bcell hb).1 _ _ (by omega)).trans h.a0, ((bcell hb).1 _ _ (by omega)).trans h.a1, ((bcell hb).1 _ _ (by omega)).trans h.r0, ((bcell hb).1 _ _ (by omega)).trans h.r1, fun q => ((bcell hb).2 _ q (by omega)).trans (h.rf q), ((bcell hb).1 _ _ (by omega)).trans h.p0, ((bcell hb).1 _ _ (by omega)).trans h.p1, fun q => ((bcell hb).2 _ q (by omega)).trans (h.pf q), h.own.below hb, h.bel.trans (hb.mono h.bel.size), by omega⟩
theorem GrW.put {w wr w5 : World} {W T : Int} {a : Option Addr} {lc c : Nat} {acc acc5 : List C2} {y y5 : Value} {us us5 : List Value} {G G5 : List (List Nat)} (h : GrW w W T a lc c acc y us G wr) (hb : Below (w.heap.size + 1 + 1 + 1) wr w5) (hB : BagOwn w5 (w.heap.size + 1 + 1 + 1) y5 acc5 us5 G5) :
    GrW w W T a lc c acc5 y5 us5 G5 ((w5.setCell ⟨w.heap.size + 1 + 1, 0, none⟩ (.int .i64 T)).setCell ⟨w.heap.size + 1 + 1, 1, none⟩ y5) := by
  have hz := h.big
  have hs := hb.size
  have kB : ∀ q, q < w.heap.size + 1 + 1 + 1 → w5.heap[q]? = wr.heap[q]? := fun q hq => hb.block q hq
  have kS : ∀ q, q < w.heap.size + 1 + 1 → ((w5.setCell ⟨w.heap.size + 1 + 1, 0, none⟩ (.int .i64 T)).setCell ⟨w.heap.size + 1 + 1, 1, none⟩ y5).heap[q]? = wr.heap[q]? := fun q hq => (Below.heap_setCell _ _ _ _ (by simp; omega)).trans ((Below.heap_setCell _ _ _ _ (by simp; omega)).trans (kB q (by omega)))
  have p0 := (cell_blk (kB (w.heap.size + 1 + 1) (by omega))).trans h.p0
  have p1 := (cell_blk (kB (w.heap.size + 1 + 1) (by omega))).trans h.p1
  have belw : Below w.heap.size w w5 := h.bel.trans ((show Below (w.heap.size + 1 + 1 + 1) wr w5 from ⟨hb.os, hb.tape, hb.output, hb.size, hb.block⟩).mono (by omega))
  exact ⟨(cell_blk (kS _ (by omega))).trans h.a0, (cell_blk (kS _ (by omega))).trans h.a1, (cell_blk (kS _ (by omega))).trans h.r0, (cell_blk (kS _ (by omega))).trans h.r1, fun q => (frozen_blk (kS _ (by omega))).trans (h.rf q),
    (World.cell?_setCell_other _ _ _ _ (by simp)).trans (World.cell?_setCell_same _ _ _ p0), World.cell?_setCell_same _ _ _ ((World.cell?_setCell_other _ _ _ _ (by simp)).trans p1), fun q => by have := (frozen_blk (kB (w.heap.size + 1 + 1) (by omega)) (o := q)).trans (h.pf q); simpa using this,
    hB.keep (by simp) (fun t ht _ => (Below.heap_setCell _ _ _ _ (by simp; omega)).trans (Below.heap_setCell _ _ _ _ (by simp; omega))), (belw.setCell (by simp; try omega) _).setCell (by simp; try omega) _, by simp; omega⟩
end Go.Proofs.YtaeibfipcenhaaaGreatDoor
