/- Own text. What a statement on a function from a plan to texts holds together. -/
import Derived.Test.YtjhcachbaebhfaaNmX
import Derived.Test.YtjhcachbaebhfaaMarkP
import Derived.Test.YtjhcachbaebhfaaBoxP
import Derived.Handy
namespace Go.Proofs.Ytjhcachbaebhfaa
open Go.RowKit Go.Deep
set_option linter.unusedVariables false
theorem StrsI.f {w : World} {v : Value} {ns : List ByteArray} (h : StrsI w v ns) : ∃ g, StrsF w v ns g := by
  obtain ⟨b, o, c, rfl, hl, hc, hlt, hcell⟩ := h
  by_cases hne : ns = []
  · exact ⟨[], some ⟨b, o, none⟩, c, rfl, hl, hc, fun _ => rfl, fun h => absurd hne h⟩
  · exact ⟨[b], some ⟨b, o, none⟩, c, rfl, hl, hc, fun h => absurd h hne, fun _ => ⟨b, o, rfl, hlt, rfl, hcell⟩⟩
theorem StrsF.shape {w : World} {v : Value} {ns : List ByteArray} {g : List Nat} (h : StrsF w v ns g) : ∃ a c, v = .slice a ns.length c := by
  obtain ⟨a, c, e, _⟩ := h
  exact ⟨a, c, e⟩
theorem BxP.keep {w w' : World} {b : Nat} {p : P12} {ue us u : Value} (h : BxP w b p ue us u) (hs : w.heap.size ≤ w'.heap.size) (hk : w'.heap[b]? = w.heap[b]?) : BxP w' b p ue us u := by
  obtain ⟨hl, h0, h1, h2, h3, h4, h5, h6, h7, h8, h9, h10, h11⟩ := h
  exact ⟨Nat.lt_of_lt_of_le hl hs, (cell_blk hk).trans h0, (cell_blk hk).trans h1, (cell_blk hk).trans h2, (cell_blk hk).trans h3, (cell_blk hk).trans h4, (cell_blk hk).trans h5, (cell_blk hk).trans h6, (cell_blk hk).trans h7, (cell_blk hk).trans h8, (cell_blk hk).trans h9, (cell_blk hk).trans h10, (cell_blk hk).trans h11⟩
/-- behind wb all is the call's own: the answer g has the texts Y in the blocks F5; bA: the box of the statement's argument. -/
structure StN (wb wi : World) (p : P12) (g : Value) (Y : List ByteArray) (F5 : List Nat) (bA : Nat) (ue us u : Value) : Prop where
  bel : Below wb.heap.size wb wi
  gg : StrsF wi g Y F5
  o5 : Own wi wb.heap.size F5
  bx : BxP wi bA p ue us u
  nb : bA ∉ F5
section
variable {wb wi wj : World} {p : P12} {g : Value} {Y : List ByteArray} {F5 : List Nat} {bA : Nat} {ue us u : Value}
theorem StN.below (h : StN wb wi p g Y F5 bA ue us u) (hb : Below wi.heap.size wi wj) : StN wb wj p g Y F5 bA ue us u :=
  ⟨h.bel.trans (hb.mono h.bel.size), h.gg.below hb, h.o5.below h.gg.lt hb, h.bx.below hb, h.nb⟩
theorem StN.fg (h : StN wb wi p g Y F5 bA ue us u) : FreeE wi F5 := fun b hb o => (h.o5.2 b hb).2 o
theorem StN.chg (h : StN wb wi p g Y F5 bA ue us u) {F4 : List Nat} (hc : ChgE F4 wi wj) (hF : ∀ b ∈ F4, wb.heap.size ≤ b) (hd : ∀ b ∈ F5, b ∉ F4) (hA : bA ∉ F4) : StN wb wj p g Y F5 bA ue us u :=
  ⟨h.bel.trans (hc.below hF h.bel.size), h.gg.keep hc.size (fun b hb => hc.block b (h.gg.lt b hb) (hd b hb)), h.o5.keep (fun b hb => hc.block b (h.gg.lt b hb) (hd b hb)), h.bx.keep hc.size (hc.block bA h.bx.1 hA), h.nb⟩
theorem StN.markG (h : StN wb wi p g Y F5 bA ue us u) {Y' : List ByteArray} (hc : ChgE F5 wi wj) (hy : StrsF wj g Y' F5) : StN wb wj p g Y' F5 bA ue us u :=
  ⟨h.bel.trans (hc.below (fun b hb => (h.o5.2 b hb).1) h.bel.size), hy, ⟨h.o5.1, fun b hb => ⟨(h.o5.2 b hb).1, hc.free h.fg b hb⟩⟩, h.bx.keep hc.size (hc.block bA h.bx.1 h.nb), h.nb⟩
end
end Go.Proofs.Ytjhcachbaebhfaa
